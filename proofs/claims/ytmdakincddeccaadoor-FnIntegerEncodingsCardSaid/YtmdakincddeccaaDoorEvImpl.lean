/-
  The walks over the project's EncodeVarint.
-/
import Derived.Test.YtmdakincddeccaaDoorRows
import Derived.Test.YtmdakincddeccaaDoorVarPlain
import Derived.Test.YtmdakincddeccaaDoorBytesOwn
import Derived.WalkKit
import Derived.WalkSpells
import Derived.WalkLawsBesides
namespace Go.Proofs.YtmdakincddeccaaDoor
open Go.RowKit Num

set_option maxRecDepth 8000 in
set_option maxHeartbeats 800000 in
theorem impl_ev (n : Nat) (w : World) (hn : n ≤ 562949953421311) :
    Calls Tryd.prog 13 #[.int .i64 n] w fun e w' => e = .returned (.string ⟨(vlist n).toArray⟩) ∧ Below w.heap.size w w' := by
  have hnI : (n : Int) ≤ 562949953421311 := by omega
  go_enter Tryd.func13, Tryd.ntmps13
  go_wp2
  go_loopw [0, 3] (fun nv ov wr => ∃ (k : Nat) (acc : List UInt8), nv = .int .i64 k ∧ k ≤ 562949953421311 ∧ Hid (acc ++ vlist k = vlist n) ∧ Bts wr w.heap.size ov acc ∧ Below w.heap.size w wr) (fun nv _ _ => (intOf nv).toNat)
  case atStart => exact ⟨n, [], rfl, hn, rfl, Bts.nil _ _, Below.refl _ _⟩
  case round =>
    obtain ⟨k, acc, rfl, hk, HE, hown, hbel⟩ := hrel
    have hsz : w.heap.size ≤ _ := hbel.size
    have hl7 : acc.length + (vlist k).length ≤ 7 := by
      have := vlist_len7 n hn
      rw [← HE.out, List.length_append] at this
      exact this
    by_cases hlt : k < 128
    · have hI : ¬ (128 : Int) ≤ k := by omega
      go_wp2_with (first | (at_builtin; refine wpList_append_bytes rfl _ _ rfl w.heap.size _ acc [UInt8.ofNat k] rfl hown _ (bcells_one _ _ (by rw [u8n _ (by omega)] <;> omega)) 1 1 rfl rfl (by simp; omega) hsz hbel ?_; intro v' w1 hown' hbel'; have hcv := hown'.str))
      go_ret
      exact ⟨by rw [ev_end HE.out hlt]; rfl, hbel'⟩
    · have hI : (128 : Int) ≤ k := by omega
      go_wp2_with (first | (at_builtin; refine wpList_append_bytes rfl _ _ rfl w.heap.size _ acc [UInt8.ofNat (k % 128 + 128)] rfl hown _ (bcells_one _ _ (by rw [u8n _ (by omega)] <;> omega)) 1 1 rfl rfl (by simp; omega) hsz hbel ?_; intro v' w1 hown' hbel'))
      go_roundw
      case rel => exact ⟨k / 128, _, by go_num, by omega, ev_step HE.out (by omega), hown', hbel'⟩
      case measure => simp [intOf]; omega


theorem impl_ev_no (n : Int) (w : World) (h : n < 0 ∨ 562949953421311 < n) :
    Calls Tryd.prog 13 #[.int .i64 n] w fun e w' => e = .returned (.string ⟨#[]⟩) ∧ w = w' := by
  by_cases h1 : n < 0
  · go_enter Tryd.func13, Tryd.ntmps13
    go_wp2
    go_ret
    exact ⟨rfl, rfl⟩
  · have h2 : 562949953421311 < n := by omega
    clear h
    go_enter Tryd.func13, Tryd.ntmps13
    go_wp2
    go_ret
    exact ⟨rfl, rfl⟩

end Go.Proofs.YtmdakincddeccaaDoor
