/-
  The walk over the model's DecodeHex.
-/
import Derived.Test.YtmdakincddeccaaRows
import Derived.Test.YtmdakincddeccaaBytesOwn
import Derived.Test.YtmdakincddeccaaVarPlain
import Derived.Test.YtmdakincddeccaaDhPlain
import Derived.WalkKit
import Derived.WalkSpells
import Derived.WalkLawsBesides
namespace Go.Proofs.Ytmdakincddeccaa
open Go.RowKit

set_option maxHeartbeats 1600000 in
theorem spec_dh (s : ByteArray) (w : World) (hb : s.size ≤ 1048576) :
    Calls Try.prog 19 #[.string s] w fun e w' => e = .returned (dhV s) ∧ Below w.heap.size w w' := by
  have hlen : s.data.toList.length = s.size := by simp
  by_cases hodd : s.size % 2 = 1
  · have hq : ((s.size : Int) % 2 == 1) = true := by simp; omega
    have HD : Hid (dhV s = .tuple #[.string ⟨#[]⟩, .bool false]) := dhV_none (decH_odd _ (by omega))
    clear hodd hlen
    go_enter Try.func19, Try.ntmps19
    go_wp2
    go_ret2
    exact ⟨by rw [HD.out]; rfl, (Below.refl _ _).alloc (Nat.le_refl _) _⟩
  · have hq : ((s.size : Int) % 2 == 1) = false := by simp; omega
    have HL : Hid (s.data.toList.length = s.size) := hlen
    have HP : Hid (¬ s.size % 2 = 1) := hodd
    clear hodd hlen
    go_enter Try.func19, Try.ntmps19
    go_wp2
    go_loopw [4, 5] (fun ov iv wr => ∃ (j : Nat) (acc : List UInt8), iv = .int .i64 ((2 * j : Nat) : Int) ∧ 2 * j ≤ s.size ∧ acc.length = j ∧ Bts wr w.heap.size ov acc ∧ Hid (decH s.data.toList = (decH (s.data.toList.drop (2 * j))).map (acc ++ ·)) ∧ Below w.heap.size w wr) (fun _ iv _ => s.size + 1 - (intOf iv).toNat)
    case atStart => exact ⟨0, [], rfl, by omega, rfl, Bts.lit _ _ (Nat.le_refl _), by show decH _ = _; simp, (Below.refl _ _).alloc (Nat.le_refl _) _⟩
    case round =>
      obtain ⟨j, acc, rfl, hj, hl, hown, HD, hbel⟩ := hrel
      have hsz : w.heap.size ≤ _ := hbel.size
      have hal : acc.length ≤ 1048576 := by omega
      have HJ : Hid (acc.length = j) := hl
      clear hl
      by_cases hlt : 2 * j < s.size
      · have h2 : 2 * j + 1 < s.size := by have := HP.out; omega
        have hI : ((2 * j : Nat) : Int) < s.size := by omega
        have hI2 : ((2 * j : Nat) : Int) + 1 < s.size := by omega
        have b1 := hv_bd s[2 * j].toNat
        have b2 := hv_bd s[2 * j + 1].toNat
        have ht : (((2 * j : Nat) : Int) + 1).toNat = 2 * j + 1 := by omega
        by_cases hneg : hv s[2 * j].toNat < 0 ∨ hv s[2 * j + 1].toNat < 0
        · have HE : Hid (dhV s = .tuple #[.string ⟨#[]⟩, .bool false]) := dhV_none (dh_none HD.out (by rw [HL.out]; exact h2) hneg)
          by_cases hn1 : hv s[2 * j].toNat < 0
          · clear hneg
            go_wp2_with (first | (go_at_call 24; refine (l1FromHex_any _ _).mono ?_; rintro e w' ⟨rfl, rfl⟩))
            go_ret2
            exact ⟨by rw [HE.out]; rfl, hbel⟩
          · have hn2 : hv s[2 * j + 1].toNat < 0 := by omega
            clear hneg
            go_wp2_with (first | (go_at_call 24; refine (l1FromHex_any _ _).mono ?_; rintro e w' ⟨rfl, rfl⟩))
            go_ret2
            exact ⟨by rw [HE.out]; rfl, hbel⟩
        · have hn1 : 0 ≤ hv s[2 * j].toNat := by omega
          have hn2 : 0 ≤ hv s[2 * j + 1].toNat := by omega
          clear hneg
          go_wp2_with (first | (go_at_call 24; refine (l1FromHex_any _ _).mono ?_; rintro e w' ⟨rfl, rfl⟩) | (at_builtin; refine wpList_append_bytes rfl _ _ rfl w.heap.size _ acc [UInt8.ofNat (16 * hv s[2 * j].toNat + hv s[2 * j + 1].toNat).toNat] rfl hown _ (bcells_one _ _ (by rw [Num.u8n _ (by omega)] <;> omega)) 1 1 rfl rfl (by simp; omega) hsz hbel ?_; intro v' w1 hown' hbel'))
          go_roundw
          case rel => exact ⟨j + 1, _, by go_num, by omega, by rw [List.length_append, HJ.out]; rfl, hown', dh_step HD.out (by rw [HL.out]; exact h2) hn1 hn2, hbel'⟩
          case measure => simp [intOf]; omega
      · have hI : ¬ ((2 * j : Nat) : Int) < s.size := by omega
        have HE : Hid (dhV s = .tuple #[.string ⟨acc.toArray⟩, .bool true]) := dhV_some (dh_end HD.out (by rw [HL.out]; omega))
        have hcv := hown.str
        go_wp2
        go_ret2
        exact ⟨by rw [HE.out]; rfl, hbel⟩
end Go.Proofs.Ytmdakincddeccaa
