/-
  The walks over the model's CellOf, TotalOf and AddHistograms.
-/
import Derived.Test.YtcfcohnkkgickaaDoorRows
import Derived.Test.YtcfcohnkkgickaaDoorHgSpec
namespace Go.Proofs.YtcfcohnkkgickaaDoor
open Go.RowKit Num

theorem cellH_bad {h : List Int} {g b : Int} (hh : ¬ (hgB h = true ∧ (0 ≤ g ∧ g ≤ 3) ∧ (0 ≤ b ∧ b ≤ 2))) : cellH h g b = 0 := if_neg hh
theorem cellH_good {h : List Int} {g b : Int} (hh : hgB h = true ∧ (0 ≤ g ∧ g ≤ 3) ∧ (0 ≤ b ∧ b ≤ 2)) : cellH h g b = h.getD (g * 3 + b).toNat 0 := if_pos hh
theorem hgB_of {h : List Int} (hh : hgB h = true) : HgOk h := @of_decide_eq_true _ (Classical.propDecidable _) hh

set_option maxRecDepth 8000 in
set_option maxHeartbeats 3200000 in
theorem spec_totV (ao : Option Addr) (n cap : Nat) (l : List Int) (w : World) (hl : l.length = n) (hn : n ≤ 1099511627776) (hV : IntsVal w ao l) :
    Calls Tryd.prog 58 #[.slice ao n cap] w fun e w' => e = .returned (.int .i64 (totH l)) ∧ w = w' := by
  have IH := Lib.hid (spec_isHV ao n cap l w hl hn hV)
  have HV := Lib.hid hV
  have HL := Lib.hid hl
  have hnI : (n : Int) ≤ 1099511627776 := by omega
  obtain ⟨v, hv⟩ : ∃ v, v = hgB l := ⟨_, rfl⟩
  rw [← hv] at IH
  have HVV := Lib.hid hv
  clear hV hl hv
  go_enter Tryd.func58, Tryd.ntmps58
  go_wp2_with fail
  go_loop [3, 4] (fun nv iv => ∃ k : Nat, k ≤ n ∧ iv = .int .i64 k ∧ nv = .int .i64 (hsum (l.take k)) ∧ Hid (v = false → k = 0)) (fun _ iv => n - (intOf iv).toNat)
  case atStart => exact ⟨0, Nat.zero_le _, rfl, rfl, fun _ => rfl⟩
  case round =>
    obtain ⟨k, hk, rfl, rfl, HZ⟩ := hrel
    obtain ⟨s, hs⟩ : ∃ s, s = hsum (l.take k) := ⟨_, rfl⟩
    rw [← hs]
    have HSS := Lib.hid hs
    clear hs
    by_cases hlt : k < n
    · have hkI : (k : Int) < (n : Int) := by omega
      cases v
      · have AN := Lib.hid (show totH l = s by
          rw [HSS.out, HZ.out rfl]; unfold totH; rw [← HVV.out]; rfl)
        go_wp2_with fail
        refine IH.out.mono ?_
        rintro e w1 ⟨rfl, rfl⟩
        go_wp2
        go_ret
        exact ⟨by rw [AN.out]; rfl, rfl⟩
      · have hok := hgB_of HVV.out.symm
        have s0 : 0 ≤ s := by rw [HSS.out]; exact (hok.2.1.take k).sum.1
        have s1 : s ≤ 1200 := by have h1 := (hok.2.1.take k).sum.2; have h2 := hok.1; rw [List.length_take] at h1; rw [HSS.out]; omega
        obtain ⟨g, rfl, hg, hR⟩ := HV.out.head (by rw [HL.out]; omega)
        have c0 := hR k (by rw [HL.out]; exact hlt)
        obtain ⟨x, hx⟩ : ∃ x, x = l[k]'(by rw [HL.out]; exact hlt) := ⟨_, rfl⟩
        have x0 : 0 ≤ x := by rw [hx]; exact (hok.2.1.at _).1
        have x1 : x ≤ 99 := by rw [hx]; exact (hok.2.1.at _).2
        rw [← hx] at c0
        have N1 := Lib.hid (show s + x = hsum (l.take (k + 1)) by rw [hsum_take (by rw [HL.out]; exact hlt), ← hx, HSS.out])
        clear hR hx hok
        go_wp2_with fail
        refine IH.out.mono ?_
        rintro e w1 ⟨rfl, rfl⟩
        go_wp2
        go_round
        case rel => exact ⟨k + 1, by omega, by go_num, int_eq N1.out, fun h => by cases h⟩
        case measure => simp [intOf]; omega
    · obtain rfl : k = n := by omega
      have hsd : decide ((k : Int) < (k : Int)) = false := decide_eq_false (by omega)
      have AN := Lib.hid (show totH l = s by
        rw [HSS.out]
        unfold totH
        rw [← HVV.out]
        cases v
        · rw [HZ.out rfl]; rfl
        · rw [if_pos rfl, show l.take k = l from by rw [← HL.out, List.take_length]])
      go_wp2
      go_ret
      exact ⟨by rw [AN.out]; rfl, rfl⟩
end Go.Proofs.YtcfcohnkkgickaaDoor
