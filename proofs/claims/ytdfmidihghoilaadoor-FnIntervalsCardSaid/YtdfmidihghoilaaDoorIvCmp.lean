/-
  The walk over the model's CompareIntervals.
-/
import Derived.Test.YtdfmidihghoilaaDoorRows
import Derived.Test.YtdfmidihghoilaaDoorIvSpec
import Derived.Test.YtdfmidihghoilaaDoorKeep
import Derived.WalkKit
import Derived.WalkSpells
import Derived.WalkLawsBesides
import Derived.IntWalk
import Derived.Lib.Hide
namespace Go.Proofs.YtdfmidihghoilaaDoor
open Go.RowKit Num

set_option maxRecDepth 8000 in
set_option maxHeartbeats 3200000 in
theorem spec_ci (a b c d e f g h : Int) (w : World) (ha : -9223372036854775808 ≤ a ∧ a ≤ 9223372036854775807) (hc : -9223372036854775808 ≤ c ∧ c ≤ 9223372036854775807) (he : -9223372036854775808 ≤ e ∧ e ≤ 9223372036854775807) (hg : -9223372036854775808 ≤ g ∧ g ≤ 9223372036854775807) :
    Calls Tryd.prog 19 #[.agg #[.int .i64 a, .int .i64 b, .int .i64 c, .int .i64 d], .agg #[.int .i64 e, .int .i64 f, .int .i64 g, .int .i64 h]] w fun r9 w' => r9 = .returned (.int .i64 (civ a b c d e f g h)) ∧ Below w.heap.size w w' := by
  have D1 := fun w => spec_iv a b c d w ha hc
  have D2 := fun w => spec_iv e f g h w he hg
  have D3 := fun w => spec_cmp c d e f w hc he
  have D4 := fun w => spec_cmp g h a b w hg ha
  have E0 : civ a b c d e f g h = (if ivB a b c d = true ∧ ivB e f g h = true then (if cmpA c d e f < 0 then -1 else if cmpA g h a b < 0 then 1 else 0) else 0) := rfl
  obtain ⟨q1, hq1⟩ : ∃ q, q = ivB a b c d := ⟨_, rfl⟩
  rw [← hq1] at D1 E0
  obtain ⟨q2, hq2⟩ : ∃ q, q = ivB e f g h := ⟨_, rfl⟩
  rw [← hq2] at D2 E0
  obtain ⟨q3, hq3⟩ : ∃ q, q = cmpA c d e f := ⟨_, rfl⟩
  rw [← hq3] at D3 E0
  obtain ⟨q4, hq4⟩ : ∃ q, q = cmpA g h a b := ⟨_, rfl⟩
  rw [← hq4] at D4 E0
  have DD1 := Lib.hid D1
  have DD2 := Lib.hid D2
  have DD3 := Lib.hid D3
  have DD4 := Lib.hid D4
  clear D1 D2 D3 D4 hq1 hq2 hq3 hq4 ha hc he hg
  cases q1
  · rw [if_neg (by simp)] at E0
    have E := Lib.hid E0
    clear E0
    go_enter Tryd.func19, Tryd.ntmps19
    go_wp2_with fail
    have K0 := ((Kept.start w).alloc4 (.int .i64 a) (.int .i64 b) (.int .i64 c) (.int .i64 d) 29 _ rfl).alloc4 (.int .i64 e) (.int .i64 f) (.int .i64 g) (.int .i64 h) 29 (w.heap.size + 1) (by simp)
    refine (DD1.out _).mono ?_
    rintro r9 w1 ⟨rfl, hb⟩
    have K1 := K0.step hb
    clear hb K0
    go_wp2
    go_ret
    exact ⟨by rw [E.out]; rfl, K1.1⟩
  · cases q2
    · rw [if_neg (by simp)] at E0
      have E := Lib.hid E0
      clear E0
      go_enter Tryd.func19, Tryd.ntmps19
      go_wp2_with fail
      have K0 := ((Kept.start w).alloc4 (.int .i64 a) (.int .i64 b) (.int .i64 c) (.int .i64 d) 29 _ rfl).alloc4 (.int .i64 e) (.int .i64 f) (.int .i64 g) (.int .i64 h) 29 (w.heap.size + 1) (by simp)
      refine (DD1.out _).mono ?_
      rintro r9 w1 ⟨rfl, hb⟩
      have K1 := K0.step hb
      clear hb K0
      have k0 := K1.get 0 rfl
      have k1 := K1.get 1 rfl
      have k2 := K1.get 2 rfl
      have k3 := K1.get 3 rfl
      have k4 := K1.get 4 rfl
      have k5 := K1.get 5 rfl
      have k6 := K1.get 6 rfl
      have k7 := K1.get 7 rfl
      go_wp2_with fail
      refine (DD2.out _).mono ?_
      rintro r9 w2 ⟨rfl, hb⟩
      have K2 := K1.step hb
      clear hb K1 k0 k1 k2 k3 k4 k5 k6 k7
      go_wp2
      go_ret
      exact ⟨by rw [E.out]; rfl, K2.1⟩
    · rw [if_pos ⟨rfl, rfl⟩] at E0
      by_cases t3 : q3 < 0
      · rw [if_pos t3] at E0
        have E := Lib.hid E0
        clear E0
        go_enter Tryd.func19, Tryd.ntmps19
        go_wp2_with fail
        have K0 := ((Kept.start w).alloc4 (.int .i64 a) (.int .i64 b) (.int .i64 c) (.int .i64 d) 29 _ rfl).alloc4 (.int .i64 e) (.int .i64 f) (.int .i64 g) (.int .i64 h) 29 (w.heap.size + 1) (by simp)
        refine (DD1.out _).mono ?_
        rintro r9 w1 ⟨rfl, hb⟩
        have K1 := K0.step hb
        clear hb K0
        have k0 := K1.get 0 rfl
        have k1 := K1.get 1 rfl
        have k2 := K1.get 2 rfl
        have k3 := K1.get 3 rfl
        have k4 := K1.get 4 rfl
        have k5 := K1.get 5 rfl
        have k6 := K1.get 6 rfl
        have k7 := K1.get 7 rfl
        go_wp2_with fail
        refine (DD2.out _).mono ?_
        rintro r9 w2 ⟨rfl, hb⟩
        have K2 := K1.step hb
        clear hb K1 k0 k1 k2 k3 k4 k5 k6 k7
        have k0 := K2.get 0 rfl
        have k1 := K2.get 1 rfl
        have k2 := K2.get 2 rfl
        have k3 := K2.get 3 rfl
        have k4 := K2.get 4 rfl
        have k5 := K2.get 5 rfl
        have k6 := K2.get 6 rfl
        have k7 := K2.get 7 rfl
        go_wp2_with fail
        refine (DD3.out _).mono ?_
        rintro r9 w3 ⟨rfl, hb⟩
        have K3 := K2.step hb
        clear hb K2 k0 k1 k2 k3 k4 k5 k6 k7
        go_wp2
        go_ret
        exact ⟨by rw [E.out]; rfl, K3.1⟩
      · rw [if_neg t3] at E0
        have u3 : decide (q3 < 0) = false := decide_eq_false t3
        by_cases t4 : q4 < 0
        · rw [if_pos t4] at E0
          have E := Lib.hid E0
          clear E0
          go_enter Tryd.func19, Tryd.ntmps19
          go_wp2_with fail
          have K0 := ((Kept.start w).alloc4 (.int .i64 a) (.int .i64 b) (.int .i64 c) (.int .i64 d) 29 _ rfl).alloc4 (.int .i64 e) (.int .i64 f) (.int .i64 g) (.int .i64 h) 29 (w.heap.size + 1) (by simp)
          refine (DD1.out _).mono ?_
          rintro r9 w1 ⟨rfl, hb⟩
          have K1 := K0.step hb
          clear hb K0
          have k0 := K1.get 0 rfl
          have k1 := K1.get 1 rfl
          have k2 := K1.get 2 rfl
          have k3 := K1.get 3 rfl
          have k4 := K1.get 4 rfl
          have k5 := K1.get 5 rfl
          have k6 := K1.get 6 rfl
          have k7 := K1.get 7 rfl
          go_wp2_with fail
          refine (DD2.out _).mono ?_
          rintro r9 w2 ⟨rfl, hb⟩
          have K2 := K1.step hb
          clear hb K1 k0 k1 k2 k3 k4 k5 k6 k7
          have k0 := K2.get 0 rfl
          have k1 := K2.get 1 rfl
          have k2 := K2.get 2 rfl
          have k3 := K2.get 3 rfl
          have k4 := K2.get 4 rfl
          have k5 := K2.get 5 rfl
          have k6 := K2.get 6 rfl
          have k7 := K2.get 7 rfl
          go_wp2_with fail
          refine (DD3.out _).mono ?_
          rintro r9 w3 ⟨rfl, hb⟩
          have K3 := K2.step hb
          clear hb K2 k0 k1 k2 k3 k4 k5 k6 k7
          have k0 := K3.get 0 rfl
          have k1 := K3.get 1 rfl
          have k2 := K3.get 2 rfl
          have k3 := K3.get 3 rfl
          have k4 := K3.get 4 rfl
          have k5 := K3.get 5 rfl
          have k6 := K3.get 6 rfl
          have k7 := K3.get 7 rfl
          go_wp2_with fail
          refine (DD4.out _).mono ?_
          rintro r9 w4 ⟨rfl, hb⟩
          have K4 := K3.step hb
          clear hb K3 k0 k1 k2 k3 k4 k5 k6 k7
          go_wp2
          go_ret
          exact ⟨by rw [E.out]; rfl, K4.1⟩
        · rw [if_neg t4] at E0
          have u4 : decide (q4 < 0) = false := decide_eq_false t4
          have E := Lib.hid E0
          clear E0
          go_enter Tryd.func19, Tryd.ntmps19
          go_wp2_with fail
          have K0 := ((Kept.start w).alloc4 (.int .i64 a) (.int .i64 b) (.int .i64 c) (.int .i64 d) 29 _ rfl).alloc4 (.int .i64 e) (.int .i64 f) (.int .i64 g) (.int .i64 h) 29 (w.heap.size + 1) (by simp)
          refine (DD1.out _).mono ?_
          rintro r9 w1 ⟨rfl, hb⟩
          have K1 := K0.step hb
          clear hb K0
          have k0 := K1.get 0 rfl
          have k1 := K1.get 1 rfl
          have k2 := K1.get 2 rfl
          have k3 := K1.get 3 rfl
          have k4 := K1.get 4 rfl
          have k5 := K1.get 5 rfl
          have k6 := K1.get 6 rfl
          have k7 := K1.get 7 rfl
          go_wp2_with fail
          refine (DD2.out _).mono ?_
          rintro r9 w2 ⟨rfl, hb⟩
          have K2 := K1.step hb
          clear hb K1 k0 k1 k2 k3 k4 k5 k6 k7
          have k0 := K2.get 0 rfl
          have k1 := K2.get 1 rfl
          have k2 := K2.get 2 rfl
          have k3 := K2.get 3 rfl
          have k4 := K2.get 4 rfl
          have k5 := K2.get 5 rfl
          have k6 := K2.get 6 rfl
          have k7 := K2.get 7 rfl
          go_wp2_with fail
          refine (DD3.out _).mono ?_
          rintro r9 w3 ⟨rfl, hb⟩
          have K3 := K2.step hb
          clear hb K2 k0 k1 k2 k3 k4 k5 k6 k7
          have k0 := K3.get 0 rfl
          have k1 := K3.get 1 rfl
          have k2 := K3.get 2 rfl
          have k3 := K3.get 3 rfl
          have k4 := K3.get 4 rfl
          have k5 := K3.get 5 rfl
          have k6 := K3.get 6 rfl
          have k7 := K3.get 7 rfl
          go_wp2_with fail
          refine (DD4.out _).mono ?_
          rintro r9 w4 ⟨rfl, hb⟩
          have K4 := K3.step hb
          clear hb K3 k0 k1 k2 k3 k4 k5 k6 k7
          go_wp2
          go_ret
          exact ⟨by rw [E.out]; rfl, K4.1⟩
end Go.Proofs.YtdfmidihghoilaaDoor
