/-
  The walks over the model's bands and its test of a histogram.
-/
import Derived.Test.YtcfcohnkkgickaaRows
import Derived.Test.YtcfcohnkkgickaaL1In
import Derived.Test.YtcfcohnkkgickaaKeep
import Derived.Test.YtcfcohnkkgickaaHgPlain
import Derived.Test.YtcfcohnkkgickaaIntOwn
import Derived.Test.YtcfcohnkkgickaaIntLaw
import Derived.Lib.MinMax
import Derived.Deep.QuietTactic
import Derived.BigQuiet
namespace Go.Proofs.Ytcfcohnkkgickaa
open Go.RowKit Num

theorem spec_band (y : Int) (w : World) :
    Calls Try.prog 47 #[.int .i64 y] w fun e w' => e = .returned (.int .i64 (bandI y)) ∧ w = w' := by
  by_cases h : 0 ≤ y ∧ y ≤ 8
  · obtain ⟨h1, h2⟩ := h
    have IN := Lib.hid (fun w => l1In_yes y 0 8 w h1 h2)
    rw [(bandI_in ⟨h1, h2⟩).1]
    go_enter Try.func47, Try.ntmps47
    go_wp2_with fail
    refine (IN.out _).mono ?_
    rintro e w1 ⟨rfl, rfl⟩
    go_wp2
    go_ret
    exact ⟨rfl, rfl⟩
  · have IN := Lib.hid (fun w => l1In_no y 0 8 w (by omega))
    rw [bandI_out h]
    go_enter Try.func47, Try.ntmps47
    go_wp2_with fail
    refine (IN.out _).mono ?_
    rintro e w1 ⟨rfl, rfl⟩
    go_wp2
    go_ret
    exact ⟨rfl, rfl⟩

set_option maxRecDepth 8000 in
set_option maxHeartbeats 3200000 in
theorem spec_isHV (ao : Option Addr) (n cap : Nat) (l : List Int) (w : World) (hl : l.length = n) (hn : n ≤ 1099511627776) (hV : IntsVal w ao l) :
    Calls Try.prog 104 #[.slice ao n cap] w fun e w' => e = .returned (.bool (hgB l)) ∧ w = w' := by
  have HV := Lib.hid hV
  have HL := Lib.hid hl
  have hnI : (n : Int) ≤ 1099511627776 := by omega
  clear hV hl
  go_enter Try.func104, Try.ntmps104
  go_wp2_with fail
  go_loop [3, 4] (fun nv iv => ∃ k : Nat, k ≤ n ∧ iv = .int .i64 k ∧ nv = .int .i64 (min (hsum (l.take k)) 1000) ∧ Hid (In99 (l.take k))) (fun _ iv => n - (intOf iv).toNat)
  case atStart => exact ⟨0, Nat.zero_le _, rfl, rfl, (fun x hx => by simp at hx : In99 (l.take 0))⟩
  case round =>
    obtain ⟨k, hk, rfl, rfl, HI⟩ := hrel
    obtain ⟨s, hs⟩ : ∃ s, s = min (hsum (l.take k)) 1000 := ⟨_, rfl⟩
    have s0 : 0 ≤ s := by have := HI.out.sum; omega
    have s1 : s ≤ 1000 := by omega
    rw [← hs]
    have HSS := Lib.hid hs
    clear hs
    by_cases hlt : k < n
    · have hkI : (k : Int) < (n : Int) := by omega
      obtain ⟨g, rfl, hg, hR⟩ := HV.out.head (by rw [HL.out]; omega)
      have c0 := hR k (by rw [HL.out]; exact hlt)
      obtain ⟨x, hx⟩ : ∃ x, x = l[k]'(by rw [HL.out]; exact hlt) := ⟨_, rfl⟩
      rw [← hx] at c0
      have HX := Lib.hid hx
      clear hR hx
      by_cases hx9 : 0 ≤ x ∧ x ≤ 99
      · obtain ⟨x0, x1⟩ := hx9
        have IN := Lib.hid (fun w => l1In_yes x 0 99 w x0 x1)
        have N1 := Lib.hid (show min (s + x) 1000 = min (hsum (l.take (k + 1))) 1000 by
          rw [hsum_take (by rw [HL.out]; exact hlt), ← HX.out, HSS.out]; omega)
        have N2 := Lib.hid (show In99 (l.take (k + 1)) from HI.out.snoc (by rw [HL.out]; exact hlt) (by rw [← HX.out]; exact ⟨x0, x1⟩))
        go_wp2_with fail
        refine (IN.out _).mono ?_
        rintro e w1 ⟨rfl, rfl⟩
        go_wp2
        go_round
        case rel => exact ⟨k + 1, by omega, by go_num, int_eq N1.out, N2.out⟩
        case measure => simp [intOf]; omega
      · have IN := Lib.hid (fun w => l1In_no x 0 99 w (by omega))
        have AN := Lib.hid (show hgB l = false from hgB_false fun h => hx9 (by rw [HX.out]; exact h.2.1.at _))
        clear hx9
        go_wp2_with fail
        refine (IN.out _).mono ?_
        rintro e w1 ⟨rfl, rfl⟩
        go_wp2
        go_ret
        exact ⟨by rw [AN.out]; rfl, rfl⟩
    · obtain rfl : k = n := by omega
      have hsd : decide ((k : Int) < (k : Int)) = false := decide_eq_false (by omega)
      have HT := Lib.hid (show l.take k = l from by rw [← HL.out, List.take_length])
      by_cases h12 : k = 12
      · have q : ((k : Int) == 12) = true := by rw [h12]; rfl
        have H12 := Lib.hid h12
        clear h12
        by_cases h9 : s ≤ 99
        · have hd : decide (s ≤ 99) = true := decide_eq_true h9
          have AN := Lib.hid (show hgB l = true from hgB_true ⟨HL.out.trans H12.out, by rw [← HT.out]; exact HI.out, by have := HSS.out; rw [HT.out] at this; omega⟩)
          go_wp2
          go_ret
          exact ⟨by rw [AN.out]; rfl, rfl⟩
        · have hd : decide (s ≤ 99) = false := decide_eq_false h9
          have AN := Lib.hid (show hgB l = false from hgB_false fun h => h9 (by have h1 := HSS.out; rw [HT.out] at h1; have := h.2.2; omega))
          go_wp2
          go_ret
          exact ⟨by rw [AN.out]; rfl, rfl⟩
      · have q : ((k : Int) == 12) = false := beq_eq_false_iff_ne.2 (by omega)
        have AN := Lib.hid (show hgB l = false from hgB_false fun h => h12 (HL.out.symm.trans h.1))
        clear h12
        go_wp2
        go_ret
        exact ⟨by rw [AN.out]; rfl, rfl⟩
end Go.Proofs.Ytcfcohnkkgickaa
