/-
  The walks over the project's EncodeFixed.
-/
import Derived.Test.YtmdakincddeccaaDoorRows
import Derived.Test.YtmdakincddeccaaDoorEfPlain
import Derived.Test.YtmdakincddeccaaDoorBytesOwn
import Derived.Test.YtmdakincddeccaaDoorL1In
import Derived.WalkKit
import Derived.WalkSpells
import Derived.WalkLawsBesides
namespace Go.Proofs.YtmdakincddeccaaDoor
open Go.RowKit Num

set_option maxRecDepth 8000 in
set_option maxHeartbeats 800000 in
theorem impl_ef (n m : Nat) (w : World) (hn : (n : Int) ≤ 9223372036854775807) (h1 : 1 ≤ m) (h7 : m ≤ 7) :
    Calls Tryd.prog 16 #[.int .i64 n, .int .i64 m] w fun e w' => e = .returned (.string (fixS m n)) ∧ Below w.heap.size w w' := by
  have hneg : ¬ (n : Int) < 0 := by omega
  by_cases hfit : n < 256 ^ m
  · have hsh := shr_fit hfit
    have HF : Hid (n < 256 ^ m) := hfit
    clear hfit
    go_enter Tryd.func16, Tryd.ntmps16
    go_wp2_with (first | (at_make; refine wpList_make_bytes rfl _ _ rfl w.heap.size _ _ _ _ m rfl rfl rfl rfl (by omega) (Nat.le_refl _) (Below.refl _ _) ?_; intro w1 hown hbel1) | go_in)
    go_loopw [0, 6] (fun nv iv wr => ∃ (k r : Nat) (acc : List UInt8), nv = .int .i64 k ∧ (k : Int) ≤ 9223372036854775807 ∧ iv = .int .i64 ((r : Int) - 1) ∧ acc.length + r = m ∧ Hid (fixL r k ++ acc = fixL m n) ∧ Bts wr w.heap.size (.slice (some ⟨w.heap.size, 0, none⟩) m m) (List.replicate r 0 ++ acc) ∧ Below w.heap.size w wr) (fun _ iv _ => (intOf iv + 1).toNat)
    case atStart => exact ⟨n, m, [], rfl, hn, by go_num, by simp, List.append_nil _, by simpa using hown, hbel1⟩
    case round =>
      clear hown hbel1
      obtain ⟨k, r, acc, rfl, hk, rfl, hl, HE, hown, hbel⟩ := hrel
      have hlen : (List.replicate r (0 : UInt8) ++ acc).length = m := by simp; omega
      by_cases hr : r = 0
      · subst hr
        have hI : ¬ (0 : Int) ≤ ((0 : Nat) : Int) - 1 := by omega
        have hcv := hown.str
        go_wp2
        go_ret
        exact ⟨by rw [fixS_fit HF.out HE.out]; rfl, hbel⟩
      · obtain ⟨q, rfl⟩ : ∃ q, r = q + 1 := ⟨r - 1, by omega⟩
        have hI : (0 : Int) ≤ q := by omega
        have hqm : (q : Int) < m := by omega
        have hc := hown.cellAt hlen q (by simp; omega)
        have hf := hown.frozenAt hlen q
        go_wp2
        go_roundw
        case rel => exact ⟨k / 256, q, _, by go_num, by omega, rfl, by simp; omega, ef_step HE.out, by rw [← set_zero]; exact hown.stored hlen q _ _ (by rw [u8n _ (by omega)] <;> omega), hbel.setCell (Nat.le_refl _) _⟩
        case measure => simp [intOf]
  · have hsh := shr_over hfit
    have HF : Hid (¬ n < 256 ^ m) := hfit
    clear hfit
    go_enter Tryd.func16, Tryd.ntmps16
    go_wp2
    go_ret
    exact ⟨by rw [fixS, if_neg HF.out]; rfl, Below.refl _ _⟩
theorem impl_ef_no (n m : Int) (w : World) (h : m < 1 ∨ 7 < m ∨ n < 0) :
    Calls Tryd.prog 16 #[.int .i64 n, .int .i64 m] w fun e w' => e = .returned (.string ⟨#[]⟩) ∧ w = w' := by
  by_cases h1 : m < 1
  · go_enter Tryd.func16, Tryd.ntmps16
    go_wp2
    go_ret
    exact ⟨rfl, rfl⟩
  · by_cases h2 : 7 < m
    · go_enter Tryd.func16, Tryd.ntmps16
      go_wp2
      go_ret
      exact ⟨rfl, rfl⟩
    · have h3 : n < 0 := by omega
      clear h
      go_enter Tryd.func16, Tryd.ntmps16
      go_wp2
      go_ret
      exact ⟨rfl, rfl⟩

end Go.Proofs.YtmdakincddeccaaDoor
