/-
  The walks over the model's IsSummary and ValuesIn.
-/
import Derived.Test.YtcfcohnkkgickaaRows
import Derived.Test.YtcfcohnkkgickaaL1In
import Derived.Test.YtcfcohnkkgickaaRvSpec
import Derived.Test.YtcfcohnkkgickaaKeep
import Derived.Test.YtcfcohnkkgickaaSmPlain
import Derived.Test.YtcfcohnkkgickaaHgSpec2
import Derived.Test.YtcfcohnkkgickaaAl7
import Derived.Deep.QuietTactic
import Derived.BigQuiet
namespace Go.Proofs.Ytcfcohnkkgickaa
open Go.RowKit Num

set_option maxRecDepth 8000 in
set_option maxHeartbeats 6400000 in
theorem spec_isS (b c u mn mx sm : Int) (ao : Option Addr) (n cap : Nat) (l : List Int) (w : World) (hl : l.length = n) (hn : n ≤ 1099511627776) (hV : IntsVal w ao l) :
    Calls Try.prog 58 #[.agg #[.int .i64 b, .int .i64 c, .int .i64 u, .int .i64 mn, .int .i64 mx, .int .i64 sm, .slice ao n cap]] w fun e w' => e = .returned (.bool (smB ⟨b, c, u, mn, mx, sm, l⟩)) ∧ Below w.heap.size w w' := by
  have D1 := fun w => l1In_b b 0 20 w
  have D2 := fun w hV => spec_isHV ao n cap l w hl hn hV
  have DD3 := Lib.hid (fun w hV => spec_totV ao n cap l w hl hn hV)
  have D4 := fun w => l1In_b u 0 c w
  have D5 := fun w => l1In_b mn (-99) mx w
  obtain ⟨S, hS⟩ : ∃ S : Sm, S = ⟨b, c, u, mn, mx, sm, l⟩ := ⟨_, rfl⟩
  rw [← hS]
  obtain ⟨q1, hq1⟩ : ∃ q, q = decide (0 ≤ b ∧ b ≤ 20) := ⟨_, rfl⟩
  obtain ⟨q2, hq2⟩ : ∃ q, q = hgB l := ⟨_, rfl⟩
  obtain ⟨q4, hq4⟩ : ∃ q, q = decide (0 ≤ u ∧ u ≤ c) := ⟨_, rfl⟩
  obtain ⟨q5, hq5⟩ : ∃ q, q = decide (-99 ≤ mn ∧ mn ≤ mx) := ⟨_, rfl⟩
  obtain ⟨t, hT⟩ : ∃ t, t = totH l := ⟨_, rfl⟩
  simp only [← hq1] at D1
  simp only [← hq2] at D2
  simp only [← hq4] at D4
  simp only [← hq5] at D5
  rw [← hT] at DD3
  have DD1 := Lib.hid D1
  have DD2 := Lib.hid D2
  have DD4 := Lib.hid D4
  have DD5 := Lib.hid D5
  have HV := Lib.hid hV
  have HS := Lib.hid hS
  have H1 := Lib.hid hq1
  have H2 := Lib.hid hq2
  have H4 := Lib.hid hq4
  have H5 := Lib.hid hq5
  have HT := Lib.hid hT
  clear D1 D2 D4 D5 hq1 hq2 hq4 hq5 hV hl hS hT
  cases q1
  · skip
    have AN := Lib.hid (show smB S = false from smB_false (fun h => of_decide_eq_false H1.out.symm (by have h9 := h.1; rw [HS.out] at h9; exact h9)))
    go_enter Try.func58, Try.ntmps58
    go_wp2_with fail
    have K0 := (Kept.start w).alloc7 (.int .i64 b) (.int .i64 c) (.int .i64 u) (.int .i64 mn) (.int .i64 mx) (.int .i64 sm) (.slice ao n cap) 77 _ rfl
    have HQ := Lib.hid (HV.out.below K0.1)
    go_quiet ((first | (go_at_call 98; with_reducible exact calls_quiet (DD1.out _)) | (go_at_call 98; with_reducible exact calls_quiet (DD4.out _)) | (go_at_call 104; with_reducible exact calls_quiet (DD2.out _ (HQ.out.below (below_drewN (Below.refl _ _) _)))) | (go_at_call 41; with_reducible exact calls_quiet (DD3.out _ (HQ.out.below (below_drewN (Below.refl _ _) _))))))
    go_wp2
    go_ret
    exact ⟨by rw [AN.out]; rfl, below_drewN K0.1 _⟩
  · skip
    cases q2
    · skip
      have AN := Lib.hid (show smB S = false from smB_false (fun h => hgB_not H2.out.symm (by have h9 := h.2.1; rw [HS.out] at h9; exact h9)))
      go_enter Try.func58, Try.ntmps58
      go_wp2_with fail
      have K0 := (Kept.start w).alloc7 (.int .i64 b) (.int .i64 c) (.int .i64 u) (.int .i64 mn) (.int .i64 mx) (.int .i64 sm) (.slice ao n cap) 77 _ rfl
      have HQ := Lib.hid (HV.out.below K0.1)
      go_quiet ((first | (go_at_call 98; with_reducible exact calls_quiet (DD1.out _)) | (go_at_call 98; with_reducible exact calls_quiet (DD4.out _)) | (go_at_call 104; with_reducible exact calls_quiet (DD2.out _ (HQ.out.below (below_drewN (Below.refl _ _) _)))) | (go_at_call 41; with_reducible exact calls_quiet (DD3.out _ (HQ.out.below (below_drewN (Below.refl _ _) _))))))
      go_wp2
      go_ret
      exact ⟨by rw [AN.out]; rfl, below_drewN K0.1 _⟩
    · skip
      have HO := Lib.hid (hgB_of H2.out.symm)
      have HTS := Lib.hid (show t = hsum l from HT.out.trans (totH_of HO.out))
      have ht : t ≤ 99 := by rw [HTS.out]; exact HO.out.2.2
      by_cases h3 : c = t
      · skip
        subst h3
        have q3 : (c != c) = false := bne_self_eq_false c
        cases q4
        · skip
          have AN := Lib.hid (show smB S = false from smB_false (fun h => of_decide_eq_false H4.out.symm (by have h9 := h.2.2.2.1; rw [HS.out] at h9; exact h9)))
          go_enter Try.func58, Try.ntmps58
          go_wp2_with fail
          have K0 := (Kept.start w).alloc7 (.int .i64 b) (.int .i64 c) (.int .i64 u) (.int .i64 mn) (.int .i64 mx) (.int .i64 sm) (.slice ao n cap) 77 _ rfl
          have HQ := Lib.hid (HV.out.below K0.1)
          go_quiet ((first | (go_at_call 98; with_reducible exact calls_quiet (DD1.out _)) | (go_at_call 98; with_reducible exact calls_quiet (DD4.out _)) | (go_at_call 104; with_reducible exact calls_quiet (DD2.out _ (HQ.out.below (below_drewN (Below.refl _ _) _)))) | (go_at_call 41; with_reducible exact calls_quiet (DD3.out _ (HQ.out.below (below_drewN (Below.refl _ _) _))))))
          go_wp2
          go_ret
          exact ⟨by rw [AN.out]; rfl, below_drewN K0.1 _⟩
        · skip
          have hu := of_decide_eq_true H4.out.symm
          obtain ⟨hu0, hu1⟩ := hu
          have HB := Lib.hid (of_decide_eq_true H1.out.symm)
          obtain ⟨k, hk⟩ : ∃ k, k = c - u := ⟨_, rfl⟩
          have hk0 : 0 ≤ k := by omega
          have hk1 : k ≤ 99 := by omega
          have hwk : IntKind.i64.wrap (c - u) = k := by rw [hk, IntKind.wrap_i64]; omega
          have MK := Lib.hid (fun (hp : SpOk ⟨k, mn, mx, sm⟩) => (show smB S = true from smB_true (by rw [HS.out]; exact ⟨HB.out, HO.out, HTS.out, ⟨hu0, hu1⟩, by unfold Sm.sp; simp only; rw [← hk]; exact hp⟩)))
          have MN := Lib.hid (fun (hp : ¬ SpOk ⟨k, mn, mx, sm⟩) => (show smB S = false from smB_false (fun h => hp (by have h9 := h.2.2.2.2; rw [HS.out] at h9; unfold Sm.sp at h9; simp only at h9; rw [← hk] at h9; exact h9))))
          have HK := Lib.hid hk
          clear hk
          by_cases hk9 : k = 0
          · skip
            subst hk9
            have qk : ((0 : Int) == 0) = true := rfl
            by_cases hmn : mn = 0
            · skip
              have qmn : (mn == 0) = true := by rw [hmn]; rfl
              have Hmn := Lib.hid hmn
              clear hmn
              by_cases hmx : mx = 0
              · skip
                have qmx : (mx == 0) = true := by rw [hmx]; rfl
                have Hmx := Lib.hid hmx
                clear hmx
                by_cases hsm : sm = 0
                · skip
                  have qsm : (sm == 0) = true := by rw [hsm]; rfl
                  have Hsm := Lib.hid hsm
                  clear hsm
                  have AN := Lib.hid (MK.out ⟨fun _ => ⟨Hmn.out, Hmx.out, Hsm.out⟩, fun h => absurd rfl h⟩)
                  go_enter Try.func58, Try.ntmps58
                  go_wp2_with fail
                  have K0 := (Kept.start w).alloc7 (.int .i64 b) (.int .i64 c) (.int .i64 u) (.int .i64 mn) (.int .i64 mx) (.int .i64 sm) (.slice ao n cap) 77 _ rfl
                  have HQ := Lib.hid (HV.out.below K0.1)
                  go_quiet ((first | (go_at_call 98; with_reducible exact calls_quiet (DD1.out _)) | (go_at_call 98; with_reducible exact calls_quiet (DD4.out _)) | (go_at_call 104; with_reducible exact calls_quiet (DD2.out _ (HQ.out.below (below_drewN (Below.refl _ _) _)))) | (go_at_call 41; with_reducible exact calls_quiet (DD3.out _ (HQ.out.below (below_drewN (Below.refl _ _) _))))))
                  go_wp2
                  go_ret
                  exact ⟨by rw [AN.out]; rfl, below_drewN K0.1 _⟩
                · skip
                  have qsm : (sm == 0) = false := beq_eq_false_iff_ne.2 hsm
                  have AN := Lib.hid (MN.out (fun h => hsm (h.1 rfl).2.2))
                  clear hsm
                  go_enter Try.func58, Try.ntmps58
                  go_wp2_with fail
                  have K0 := (Kept.start w).alloc7 (.int .i64 b) (.int .i64 c) (.int .i64 u) (.int .i64 mn) (.int .i64 mx) (.int .i64 sm) (.slice ao n cap) 77 _ rfl
                  have HQ := Lib.hid (HV.out.below K0.1)
                  go_quiet ((first | (go_at_call 98; with_reducible exact calls_quiet (DD1.out _)) | (go_at_call 98; with_reducible exact calls_quiet (DD4.out _)) | (go_at_call 104; with_reducible exact calls_quiet (DD2.out _ (HQ.out.below (below_drewN (Below.refl _ _) _)))) | (go_at_call 41; with_reducible exact calls_quiet (DD3.out _ (HQ.out.below (below_drewN (Below.refl _ _) _))))))
                  go_wp2
                  go_ret
                  exact ⟨by rw [AN.out]; rfl, below_drewN K0.1 _⟩
              · skip
                have qmx : (mx == 0) = false := beq_eq_false_iff_ne.2 hmx
                have AN := Lib.hid (MN.out (fun h => hmx (h.1 rfl).2.1))
                clear hmx
                go_enter Try.func58, Try.ntmps58
                go_wp2_with fail
                have K0 := (Kept.start w).alloc7 (.int .i64 b) (.int .i64 c) (.int .i64 u) (.int .i64 mn) (.int .i64 mx) (.int .i64 sm) (.slice ao n cap) 77 _ rfl
                have HQ := Lib.hid (HV.out.below K0.1)
                go_quiet ((first | (go_at_call 98; with_reducible exact calls_quiet (DD1.out _)) | (go_at_call 98; with_reducible exact calls_quiet (DD4.out _)) | (go_at_call 104; with_reducible exact calls_quiet (DD2.out _ (HQ.out.below (below_drewN (Below.refl _ _) _)))) | (go_at_call 41; with_reducible exact calls_quiet (DD3.out _ (HQ.out.below (below_drewN (Below.refl _ _) _))))))
                go_wp2
                go_ret
                exact ⟨by rw [AN.out]; rfl, below_drewN K0.1 _⟩
            · skip
              have qmn : (mn == 0) = false := beq_eq_false_iff_ne.2 hmn
              have AN := Lib.hid (MN.out (fun h => hmn (h.1 rfl).1))
              clear hmn
              go_enter Try.func58, Try.ntmps58
              go_wp2_with fail
              have K0 := (Kept.start w).alloc7 (.int .i64 b) (.int .i64 c) (.int .i64 u) (.int .i64 mn) (.int .i64 mx) (.int .i64 sm) (.slice ao n cap) 77 _ rfl
              have HQ := Lib.hid (HV.out.below K0.1)
              go_quiet ((first | (go_at_call 98; with_reducible exact calls_quiet (DD1.out _)) | (go_at_call 98; with_reducible exact calls_quiet (DD4.out _)) | (go_at_call 104; with_reducible exact calls_quiet (DD2.out _ (HQ.out.below (below_drewN (Below.refl _ _) _)))) | (go_at_call 41; with_reducible exact calls_quiet (DD3.out _ (HQ.out.below (below_drewN (Below.refl _ _) _))))))
              go_wp2
              go_ret
              exact ⟨by rw [AN.out]; rfl, below_drewN K0.1 _⟩
          · skip
            have qk : (k == 0) = false := beq_eq_false_iff_ne.2 hk9
            have HK9 := Lib.hid hk9
            clear hk9
            cases q5
            · skip
              have AN := Lib.hid (MN.out (fun h => of_decide_eq_false H5.out.symm ⟨(h.2 HK9.out).1, (h.2 HK9.out).2.1⟩))
              go_enter Try.func58, Try.ntmps58
              go_wp2_with fail
              have K0 := (Kept.start w).alloc7 (.int .i64 b) (.int .i64 c) (.int .i64 u) (.int .i64 mn) (.int .i64 mx) (.int .i64 sm) (.slice ao n cap) 77 _ rfl
              have HQ := Lib.hid (HV.out.below K0.1)
              go_quiet ((first | (go_at_call 98; with_reducible exact calls_quiet (DD1.out _)) | (go_at_call 98; with_reducible exact calls_quiet (DD4.out _)) | (go_at_call 104; with_reducible exact calls_quiet (DD2.out _ (HQ.out.below (below_drewN (Below.refl _ _) _)))) | (go_at_call 41; with_reducible exact calls_quiet (DD3.out _ (HQ.out.below (below_drewN (Below.refl _ _) _))))))
              go_wp2_with fail
              refine (DD5.out _).mono ?_
              rintro e9 w1 ⟨rfl, rfl⟩
              go_wp2
              go_ret
              exact ⟨by rw [AN.out]; rfl, below_drewN K0.1 _⟩
            · skip
              have h5 := of_decide_eq_true H5.out.symm
              obtain ⟨h50, h51⟩ := h5
              by_cases h6 : mx ≤ 99
              · skip
                have h6d : decide (mx ≤ 99) = true := decide_eq_true h6
                obtain ⟨p1, hp1⟩ : ∃ p, p = k * mn := ⟨_, rfl⟩
                obtain ⟨p2, hp2⟩ : ∃ p, p = k * mx := ⟨_, rfl⟩
                have b1 := prod99 ⟨hk0, hk1⟩ (m := mn) (by omega)
                have b2 := prod99 ⟨hk0, hk1⟩ (m := mx) (by omega)
                have hw1 : IntKind.i64.wrap (k * mn) = p1 := by rw [hp1, IntKind.wrap_i64]; omega
                have hw2 : IntKind.i64.wrap (k * mx) = p2 := by rw [hp2, IntKind.wrap_i64]; omega
                have HP1 := Lib.hid hp1
                have HP2 := Lib.hid hp2
                have D6 := fun w => l1In_b sm p1 p2 w
                obtain ⟨q6, hq6⟩ : ∃ q, q = decide (p1 ≤ sm ∧ sm ≤ p2) := ⟨_, rfl⟩
                simp only [← hq6] at D6
                have DD6 := Lib.hid D6
                have H6 := Lib.hid hq6
                have AN := Lib.hid (show smB S = q6 by
                  cases q6
                  · exact MN.out (fun h => of_decide_eq_false H6.out.symm (by rw [HP1.out, HP2.out]; exact ⟨(h.2 HK9.out).2.2.2.1, (h.2 HK9.out).2.2.2.2⟩))
                  · have h9 := of_decide_eq_true H6.out.symm
                    rw [HP1.out, HP2.out] at h9
                    exact MK.out ⟨fun h => absurd h HK9.out, fun _ => ⟨h50, h51, h6, h9.1, h9.2⟩⟩)
                clear D6 hq6 hp1 hp2 b1 b2
                go_enter Try.func58, Try.ntmps58
                go_wp2_with fail
                have K0 := (Kept.start w).alloc7 (.int .i64 b) (.int .i64 c) (.int .i64 u) (.int .i64 mn) (.int .i64 mx) (.int .i64 sm) (.slice ao n cap) 77 _ rfl
                have HQ := Lib.hid (HV.out.below K0.1)
                go_quiet ((first | (go_at_call 98; with_reducible exact calls_quiet (DD1.out _)) | (go_at_call 98; with_reducible exact calls_quiet (DD4.out _)) | (go_at_call 104; with_reducible exact calls_quiet (DD2.out _ (HQ.out.below (below_drewN (Below.refl _ _) _)))) | (go_at_call 41; with_reducible exact calls_quiet (DD3.out _ (HQ.out.below (below_drewN (Below.refl _ _) _))))))
                go_wp2_with fail
                refine (DD5.out _).mono ?_
                rintro e9 w1 ⟨rfl, rfl⟩
                go_wp2_with fail
                refine (DD6.out _).mono ?_
                rintro e9 w1 ⟨rfl, rfl⟩
                go_wp2
                go_ret
                exact ⟨by rw [AN.out]; rfl, below_drewN K0.1 _⟩
              · skip
                have h6d : decide (mx ≤ 99) = false := decide_eq_false h6
                have AN := Lib.hid (MN.out (fun h => h6 (h.2 HK9.out).2.2.1))
                go_enter Try.func58, Try.ntmps58
                go_wp2_with fail
                have K0 := (Kept.start w).alloc7 (.int .i64 b) (.int .i64 c) (.int .i64 u) (.int .i64 mn) (.int .i64 mx) (.int .i64 sm) (.slice ao n cap) 77 _ rfl
                have HQ := Lib.hid (HV.out.below K0.1)
                go_quiet ((first | (go_at_call 98; with_reducible exact calls_quiet (DD1.out _)) | (go_at_call 98; with_reducible exact calls_quiet (DD4.out _)) | (go_at_call 104; with_reducible exact calls_quiet (DD2.out _ (HQ.out.below (below_drewN (Below.refl _ _) _)))) | (go_at_call 41; with_reducible exact calls_quiet (DD3.out _ (HQ.out.below (below_drewN (Below.refl _ _) _))))))
                go_wp2_with fail
                refine (DD5.out _).mono ?_
                rintro e9 w1 ⟨rfl, rfl⟩
                go_wp2
                go_ret
                exact ⟨by rw [AN.out]; rfl, below_drewN K0.1 _⟩
      · skip
        have q3 : (c != t) = true := bne_iff_ne.2 h3
        have AN := Lib.hid (show smB S = false from smB_false (fun h => h3 (by have h9 := h.2.2.1; rw [HS.out] at h9; rw [HTS.out]; exact h9)))
        go_enter Try.func58, Try.ntmps58
        go_wp2_with fail
        have K0 := (Kept.start w).alloc7 (.int .i64 b) (.int .i64 c) (.int .i64 u) (.int .i64 mn) (.int .i64 mx) (.int .i64 sm) (.slice ao n cap) 77 _ rfl
        have HQ := Lib.hid (HV.out.below K0.1)
        go_quiet ((first | (go_at_call 98; with_reducible exact calls_quiet (DD1.out _)) | (go_at_call 98; with_reducible exact calls_quiet (DD4.out _)) | (go_at_call 104; with_reducible exact calls_quiet (DD2.out _ (HQ.out.below (below_drewN (Below.refl _ _) _)))) | (go_at_call 41; with_reducible exact calls_quiet (DD3.out _ (HQ.out.below (below_drewN (Below.refl _ _) _))))))
        go_wp2
        go_ret
        exact ⟨by rw [AN.out]; rfl, below_drewN K0.1 _⟩

theorem valS_t {s : Sm} (h : smB s = true) : valS s = s.c - s.u := if_pos h
theorem valS_f {s : Sm} (h : smB s = false) : valS s = 0 := if_neg (by rw [h]; decide)
set_option maxRecDepth 8000 in
set_option maxHeartbeats 3200000 in
theorem spec_valS (b c u mn mx sm : Int) (ao : Option Addr) (n cap : Nat) (l : List Int) (w : World) (hl : l.length = n) (hn : n ≤ 1099511627776) (hV : IntsVal w ao l) :
    Calls Try.prog 61 #[.agg #[.int .i64 b, .int .i64 c, .int .i64 u, .int .i64 mn, .int .i64 mx, .int .i64 sm, .slice ao n cap]] w fun e w' => e = .returned (.int .i64 (valS ⟨b, c, u, mn, mx, sm, l⟩)) ∧ Below w.heap.size w w' := by
  have D1 := fun w hV => spec_isS b c u mn mx sm ao n cap l w hl hn hV
  obtain ⟨q1, hq1⟩ : ∃ q, q = smB ⟨b, c, u, mn, mx, sm, l⟩ := ⟨_, rfl⟩
  simp only [← hq1] at D1
  have DD1 := Lib.hid D1
  have HV := Lib.hid hV
  have H1 := Lib.hid hq1
  clear D1 hV hq1 hl
  cases q1
  · have AN := Lib.hid (valS_f H1.out.symm)
    go_enter Try.func61, Try.ntmps61
    go_wp2_with fail
    have K0 := (Kept.start w).alloc7 (.int .i64 b) (.int .i64 c) (.int .i64 u) (.int .i64 mn) (.int .i64 mx) (.int .i64 sm) (.slice ao n cap) 77 _ rfl
    refine (DD1.out _ (HV.out.below K0.1)).mono ?_
    rintro e9 w1 ⟨rfl, hb⟩
    have K1 := K0.step hb
    have k1 := K1.get 1 rfl
    have k2 := K1.get 2 rfl
    clear hb K0
    go_wp2
    go_ret
    exact ⟨by rw [AN.out]; rfl, K1.1⟩
  · have HO := smB_of H1.out.symm
    have AN := Lib.hid (valS_t H1.out.symm)
    have h1 := HO.c99
    have h2 := HO.2.2.2.1
    simp only at h1 h2
    obtain ⟨h10, h11⟩ := h1
    obtain ⟨h20, h21⟩ := h2
    clear HO
    go_enter Try.func61, Try.ntmps61
    go_wp2_with fail
    have K0 := (Kept.start w).alloc7 (.int .i64 b) (.int .i64 c) (.int .i64 u) (.int .i64 mn) (.int .i64 mx) (.int .i64 sm) (.slice ao n cap) 77 _ rfl
    refine (DD1.out _ (HV.out.below K0.1)).mono ?_
    rintro e9 w1 ⟨rfl, hb⟩
    have K1 := K0.step hb
    have k1 := K1.get 1 rfl
    have k2 := K1.get 2 rfl
    clear hb K0
    go_wp2
    go_ret
    exact ⟨by rw [AN.out]; rfl, K1.1⟩
end Go.Proofs.Ytcfcohnkkgickaa
