/-
  The walks over the model's EncodeFixed.
-/
import Derived.Test.YtmdakincddeccaaDoorRows
import Derived.Test.YtmdakincddeccaaDoorEfPlain
import Derived.Test.YtmdakincddeccaaDoorBytesOwn
import Derived.Test.YtmdakincddeccaaDoorL1In
import Derived.WalkKit
import Derived.WalkSpells
import Derived.WalkLawsBesides
namespace Go.Proofs.YtmdakincddeccaaDoor
open Go.RowKit Num

set_option maxRecDepth 8000 in
set_option maxHeartbeats 800000 in
theorem spec_ef (n m : Nat) (w : World) (hn : (n : Int) ≤ 9223372036854775807) (h1 : 1 ≤ m) (h7 : m ≤ 7) :
    Calls Tryd.prog 18 #[.int .i64 n, .int .i64 m] w fun e w' => e = .returned (.string (fixS m n)) ∧ Below w.heap.size w w' := by
  go_enter Tryd.func18, Tryd.ntmps18
  go_wp2_with (first | (go_at_call 28; refine (l1In_yes _ _ _ _ (by omega) (by omega)).mono ?_; rintro e w' ⟨rfl, rfl⟩))
  go_loopw [0, 5, 6] (fun nv ov iv wr => ∃ (k r i : Nat) (acc : List UInt8), nv = .int .i64 k ∧ (k : Int) ≤ 9223372036854775807 ∧ iv = .int .i64 i ∧ r + i = m ∧ ov = .string ⟨acc.toArray⟩ ∧ acc.length = i ∧ Hid (fixL r k ++ acc = fixL m n) ∧ Hid (k < 256 ^ r ↔ n < 256 ^ m) ∧ Below w.heap.size w wr) (fun _ _ iv _ => m - (intOf iv).toNat)
  case atStart => exact ⟨n, m, 0, [], rfl, hn, rfl, rfl, rfl, rfl, List.append_nil _, Iff.rfl, Below.refl _ _⟩
  case round =>
    obtain ⟨k, r, i, acc, rfl, hk, rfl, hri, rfl, hl, HE, HL, hbel⟩ := hrel
    have hsz : w.heap.size ≤ _ := hbel.size
    by_cases hlt : r = 0
    · subst hlt
      have hI : ¬ (i : Int) < m := by omega
      by_cases hk0 : k = 0
      · subst hk0
        go_wp2
        go_ret
        exact ⟨by rw [fixS_yes HE.out HL.out]; rfl, hbel⟩
      · have hp : (0 : Int) < k := by omega
        go_wp2
        go_ret
        exact ⟨by rw [fixS_no HL.out hk0]; rfl, hbel⟩
    · obtain ⟨r, rfl⟩ : ∃ q, r = q + 1 := ⟨r - 1, by omega⟩
      have hI : (i : Int) < m := by omega
      have hcv := Bts.str1 wr ((k : Int) % 256) (UInt8.ofNat (k % 256)) (by rw [u8n _ (by omega)] <;> omega)
      go_wp2
      go_roundw
      case rel => exact ⟨k / 256, r, i + 1, _, by go_num, by omega, by go_num, by omega, by rw [cat1], by simp; omega, ef_step HE.out, ef_lt HL.out, hbel.alloc hsz _⟩
      case measure => simp [intOf]; omega

theorem spec_ef_no (n m : Int) (w : World) (h : m < 1 ∨ 7 < m ∨ n < 0) :
    Calls Tryd.prog 18 #[.int .i64 n, .int .i64 m] w fun e w' => e = .returned (.string ⟨#[]⟩) ∧ w = w' := by
  by_cases h1 : m < 1
  · go_enter Tryd.func18, Tryd.ntmps18
    go_wp2_with (first | (go_at_call 28; refine (l1In_no _ _ _ _ (by omega)).mono ?_; rintro e w' ⟨rfl, rfl⟩))
    go_ret
    exact ⟨rfl, rfl⟩
  · by_cases h2 : 7 < m
    · go_enter Tryd.func18, Tryd.ntmps18
      go_wp2_with (first | (go_at_call 28; refine (l1In_no _ _ _ _ (by omega)).mono ?_; rintro e w' ⟨rfl, rfl⟩))
      go_ret
      exact ⟨rfl, rfl⟩
    · have h3 : n < 0 := by omega
      clear h
      go_enter Tryd.func18, Tryd.ntmps18
      go_wp2_with (first | (go_at_call 28; refine (l1In_yes _ _ _ _ (by omega) (by omega)).mono ?_; rintro e w' ⟨rfl, rfl⟩))
      go_ret
      exact ⟨rfl, rfl⟩

end Go.Proofs.YtmdakincddeccaaDoor
