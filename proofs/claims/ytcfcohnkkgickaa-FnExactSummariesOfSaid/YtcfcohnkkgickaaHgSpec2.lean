/-
  The walks over the model's CellOf, TotalOf and AddHistograms.
-/
import Derived.Test.YtcfcohnkkgickaaRows
import Derived.Test.YtcfcohnkkgickaaHgSpec
namespace Go.Proofs.Ytcfcohnkkgickaa
open Go.RowKit Num

theorem cellH_bad {h : List Int} {g b : Int} (hh : ¬ (hgB h = true ∧ (0 ≤ g ∧ g ≤ 3) ∧ (0 ≤ b ∧ b ≤ 2))) : cellH h g b = 0 := if_neg hh
theorem cellH_good {h : List Int} {g b : Int} (hh : hgB h = true ∧ (0 ≤ g ∧ g ≤ 3) ∧ (0 ≤ b ∧ b ≤ 2)) : cellH h g b = h.getD (g * 3 + b).toNat 0 := if_pos hh
theorem hgB_of {h : List Int} (hh : hgB h = true) : HgOk h := @of_decide_eq_true _ (Classical.propDecidable _) hh

set_option maxRecDepth 8000 in
set_option maxHeartbeats 3200000 in
theorem spec_cellV (ao : Option Addr) (n cap : Nat) (l : List Int) (g b : Int) (w : World) (hl : l.length = n) (hn : n ≤ 1099511627776) (hV : IntsVal w ao l) :
    Calls Try.prog 45 #[.slice ao n cap, .int .i64 g, .int .i64 b] w fun e w' => e = .returned (.int .i64 (cellH l g b)) ∧ w = w' := by
  have IH := Lib.hid (spec_isHV ao n cap l w hl hn hV)
  have HV := Lib.hid hV
  have HL := Lib.hid hl
  obtain ⟨v, hv⟩ : ∃ v, v = hgB l := ⟨_, rfl⟩
  rw [← hv] at IH
  have HVV := Lib.hid hv
  clear hV hl hv
  cases v
  · have AN := Lib.hid (cellH_bad (h := l) (g := g) (b := b) (fun h => by rw [← HVV.out] at h; exact absurd h.1 (by decide)))
    go_enter Try.func45, Try.ntmps45
    go_wp2_with fail
    refine IH.out.mono ?_
    rintro e w1 ⟨rfl, rfl⟩
    go_wp2
    go_ret
    exact ⟨by rw [AN.out]; rfl, rfl⟩
  · by_cases hg : 0 ≤ g ∧ g ≤ 3
    · have IG := Lib.hid (l1In_yes g 0 3 w hg.1 hg.2)
      by_cases hb : 0 ≤ b ∧ b ≤ 2
      · have IB := Lib.hid (l1In_yes b 0 2 w hb.1 hb.2)
        have AN := Lib.hid (cellH_good (h := l) ⟨HVV.out.symm, hg, hb⟩)
        have h12 := (hgB_of HVV.out.symm).1
        have hV := HV.out
        have hlk : (g * 3 + b).toNat < l.length := by omega
        obtain ⟨gg, rfl, hgg, hR⟩ := hV.head (by omega)
        have c0 := hR (g * 3 + b).toNat hlk
        obtain ⟨k, hk⟩ : ∃ k, k = (g * 3 + b).toNat := ⟨_, rfl⟩
        obtain ⟨x, hx⟩ : ∃ x, x = l[(g * 3 + b).toNat] := ⟨_, rfl⟩
        have AX := Lib.hid (show cellH l g b = x by rw [AN.out, List.getD_eq_getElem?_getD, List.getElem?_eq_getElem hlk, Option.getD_some, hx])
        rw [← hx, ← hk] at c0
        have hkg : g * 3 + b = (k : Int) := by omega
        have k12 : (k : Int) < 12 := by omega
        have n12 : (n : Int) = 12 := by rw [← HL.out, h12]; rfl
        obtain ⟨g0, g1⟩ := hg
        obtain ⟨b0, b1⟩ := hb
        have hlt : (k : Int) < (n : Int) := by omega
        clear hV hR hx hk h12 hlk
        go_enter Try.func45, Try.ntmps45
        go_wp2_with fail
        refine IH.out.mono ?_
        rintro e w1 ⟨rfl, rfl⟩
        go_wp2_with fail
        refine IG.out.mono ?_
        rintro e w1 ⟨rfl, rfl⟩
        go_wp2_with fail
        refine IB.out.mono ?_
        rintro e w1 ⟨rfl, rfl⟩
        go_wp2
        go_ret
        exact ⟨by rw [AX.out]; rfl, rfl⟩
      · have IB := Lib.hid (l1In_no b 0 2 w (by omega))
        have AN := Lib.hid (cellH_bad (h := l) (g := g) (b := b) (fun h => hb h.2.2))
        clear hb hg
        go_enter Try.func45, Try.ntmps45
        go_wp2_with fail
        refine IH.out.mono ?_
        rintro e w1 ⟨rfl, rfl⟩
        go_wp2_with fail
        refine IG.out.mono ?_
        rintro e w1 ⟨rfl, rfl⟩
        go_wp2_with fail
        refine IB.out.mono ?_
        rintro e w1 ⟨rfl, rfl⟩
        go_wp2
        go_ret
        exact ⟨by rw [AN.out]; rfl, rfl⟩
    · have IG := Lib.hid (l1In_no g 0 3 w (by omega))
      have AN := Lib.hid (cellH_bad (h := l) (g := g) (b := b) (fun h => hg h.2.1))
      clear hg
      go_enter Try.func45, Try.ntmps45
      go_wp2_with fail
      refine IH.out.mono ?_
      rintro e w1 ⟨rfl, rfl⟩
      go_wp2_with fail
      refine IG.out.mono ?_
      rintro e w1 ⟨rfl, rfl⟩
      go_wp2
      go_ret
      exact ⟨by rw [AN.out]; rfl, rfl⟩

set_option maxRecDepth 8000 in
set_option maxHeartbeats 3200000 in
theorem spec_totV (ao : Option Addr) (n cap : Nat) (l : List Int) (w : World) (hl : l.length = n) (hn : n ≤ 1099511627776) (hV : IntsVal w ao l) :
    Calls Try.prog 41 #[.slice ao n cap] w fun e w' => e = .returned (.int .i64 (totH l)) ∧ w = w' := by
  have IH := Lib.hid (spec_isHV ao n cap l w hl hn hV)
  have HV := Lib.hid hV
  have HL := Lib.hid hl
  have hnI : (n : Int) ≤ 1099511627776 := by omega
  obtain ⟨v, hv⟩ : ∃ v, v = hgB l := ⟨_, rfl⟩
  rw [← hv] at IH
  have HVV := Lib.hid hv
  clear hV hl hv
  go_enter Try.func41, Try.ntmps41
  go_wp2_with fail
  go_loop [3, 4] (fun nv iv => ∃ k : Nat, k ≤ n ∧ iv = .int .i64 k ∧ nv = .int .i64 (hsum (l.take k)) ∧ Hid (v = false → k = 0)) (fun _ iv => n - (intOf iv).toNat)
  case atStart => exact ⟨0, Nat.zero_le _, rfl, rfl, fun _ => rfl⟩
  case round =>
    obtain ⟨k, hk, rfl, rfl, HZ⟩ := hrel
    obtain ⟨s, hs⟩ : ∃ s, s = hsum (l.take k) := ⟨_, rfl⟩
    rw [← hs]
    have HSS := Lib.hid hs
    clear hs
    by_cases hlt : k < n
    · have hkI : (k : Int) < (n : Int) := by omega
      cases v
      · have AN := Lib.hid (show totH l = s by
          rw [HSS.out, HZ.out rfl]; unfold totH; rw [← HVV.out]; rfl)
        go_wp2_with fail
        refine IH.out.mono ?_
        rintro e w1 ⟨rfl, rfl⟩
        go_wp2
        go_ret
        exact ⟨by rw [AN.out]; rfl, rfl⟩
      · have hok := hgB_of HVV.out.symm
        have s0 : 0 ≤ s := by rw [HSS.out]; exact (hok.2.1.take k).sum.1
        have s1 : s ≤ 1200 := by have h1 := (hok.2.1.take k).sum.2; have h2 := hok.1; rw [List.length_take] at h1; rw [HSS.out]; omega
        obtain ⟨g, rfl, hg, hR⟩ := HV.out.head (by rw [HL.out]; omega)
        have c0 := hR k (by rw [HL.out]; exact hlt)
        obtain ⟨x, hx⟩ : ∃ x, x = l[k]'(by rw [HL.out]; exact hlt) := ⟨_, rfl⟩
        have x0 : 0 ≤ x := by rw [hx]; exact (hok.2.1.at _).1
        have x1 : x ≤ 99 := by rw [hx]; exact (hok.2.1.at _).2
        rw [← hx] at c0
        have N1 := Lib.hid (show s + x = hsum (l.take (k + 1)) by rw [hsum_take (by rw [HL.out]; exact hlt), ← hx, HSS.out])
        clear hR hx hok
        go_wp2_with fail
        refine IH.out.mono ?_
        rintro e w1 ⟨rfl, rfl⟩
        go_wp2
        go_round
        case rel => exact ⟨k + 1, by omega, by go_num, int_eq N1.out, fun h => by cases h⟩
        case measure => simp [intOf]; omega
    · obtain rfl : k = n := by omega
      have hsd : decide ((k : Int) < (k : Int)) = false := decide_eq_false (by omega)
      have AN := Lib.hid (show totH l = s by
        rw [HSS.out]
        unfold totH
        rw [← HVV.out]
        cases v
        · rw [HZ.out rfl]; rfl
        · rw [if_pos rfl, show l.take k = l from by rw [← HL.out, List.take_length]])
      go_wp2
      go_ret
      exact ⟨by rw [AN.out]; rfl, rfl⟩
end Go.Proofs.Ytcfcohnkkgickaa
