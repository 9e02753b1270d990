/-
  The walks over the project's DecodeFixed.
-/
import Derived.Test.YtmdakincddeccaaDoorRows
import Derived.Test.YtmdakincddeccaaDoorNumPlain
import Derived.WalkKit
import Derived.WalkSpells
import Derived.WalkLawsBesides
namespace Go.Proofs.YtmdakincddeccaaDoor
open Go.RowKit Num

set_option maxHeartbeats 400000 in
theorem impl_df_no (s : ByteArray) (m : Int) (w : World) (h : m < 1 ∨ 7 < m ∨ (s.size : Int) < m) (hb : s.size ≤ 1048576) :
    Calls Tryd.prog 17 #[.string s, .int .i64 m] w fun e w' => e = .returned (.tuple #[.int .i64 0, .bool false]) ∧ w = w' := by
  by_cases h1 : m < 1
  · go_enter Tryd.func17, Tryd.ntmps17
    go_wp2
    go_ret2
    exact ⟨rfl, rfl⟩
  · by_cases h2 : 7 < m
    · go_enter Tryd.func17, Tryd.ntmps17
      go_wp2
      go_ret2
      exact ⟨rfl, rfl⟩
    · have h3 : (s.size : Int) < m := by omega
      clear h
      go_enter Tryd.func17, Tryd.ntmps17
      go_wp2
      go_ret2
      exact ⟨rfl, rfl⟩


set_option maxHeartbeats 400000 in
theorem impl_df (s : ByteArray) (m : Nat) (w : World) (h1 : 1 ≤ m) (h7 : m ≤ 7) (hs : m ≤ s.size) (hb : s.size ≤ 1048576) :
    Calls Tryd.prog 17 #[.string s, .int .i64 m] w fun e w' => e = .returned (.tuple #[.int .i64 (dec (s.data.toList.take m)), .bool true]) ∧ w = w' := by
  go_enter Tryd.func17, Tryd.ntmps17
  go_wp2
  go_loop [6, 7, 18] (fun n _ i => ∃ k : Nat, k ≤ m ∧ i = .int .i64 k ∧ n = .int .i64 (dec (s.data.toList.take k))) (fun _ _ i => m - (intOf i).toNat)
  case atStart => exact ⟨0, Nat.zero_le _, rfl, rfl⟩
  case round =>
    obtain ⟨k, hk, rfl, rfl⟩ := hrel
    by_cases hlt : k < m
    · obtain ⟨hd0, hd1⟩ := dec_take_bd6 s.data.toList k (by omega)
      have hks : k < s.size := by omega
      have hbyte : s[k].toNat < 256 := s[k].toNat_lt
      have HS : Hid (dec (s.data.toList.take (k + 1)) = dec (s.data.toList.take k) * 256 + (s[k].toNat : Int)) := by rw [take_snoc s k hks]; exact dec_snoc _ _
      go_wp2
      go_round
      case rel => exact ⟨k + 1, by omega, by go_num, by rw [HS.out, i64_or256 _ _ hd0 hd1 hbyte]⟩
      case measure => simp [intOf]; omega
    · go_wp2
      obtain rfl : k = m := by omega
      go_ret2
      exact ⟨rfl, rfl⟩
end Go.Proofs.YtmdakincddeccaaDoor
