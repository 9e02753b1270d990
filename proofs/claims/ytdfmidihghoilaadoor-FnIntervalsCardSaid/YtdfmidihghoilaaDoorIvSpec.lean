/-
  The walks over the model's intervals: IsInterval, Contains, LiesWithin.
-/
import Derived.Test.YtdfmidihghoilaaDoorRows
import Derived.Test.YtdfmidihghoilaaDoorPlain
import Derived.Test.YtdfmidihghoilaaDoorKeep
import Derived.Test.YtdfmidihghoilaaDoorFrSpec
import Derived.Test.YtdfmidihghoilaaDoorFcSpec
import Derived.WalkKit
import Derived.WalkSpells
import Derived.WalkLawsBesides
import Derived.IntWalk
import Derived.Lib.Hide
namespace Go.Proofs.YtdfmidihghoilaaDoor
open Go.RowKit Num

set_option maxRecDepth 8000 in
set_option maxHeartbeats 3200000 in
theorem spec_iv (a b c d : Int) (w : World) (ha : -9223372036854775808 ≤ a ∧ a ≤ 9223372036854775807) (hc : -9223372036854775808 ≤ c ∧ c ≤ 9223372036854775807) :
    Calls Tryd.prog 20 #[.agg #[.int .i64 a, .int .i64 b, .int .i64 c, .int .i64 d]] w fun r9 w' => r9 = .returned (.bool (ivB a b c d)) ∧ Below w.heap.size w w' := by
  have D1 := fun w => (fun w => spec_isf a b w ha.1 ha.2) w
  have D2 := fun w => (fun w => spec_isf c d w hc.1 hc.2) w
  have D3 := fun w => (fun w => spec_cmp a b c d w ha hc) w
  have E0 : ivB a b c d = ((frB a b) && ((frB c d) && decide ((cmpA a b c d) ≤ 0))) := rfl
  obtain ⟨q1, hq1⟩ : ∃ q, q = frB a b := ⟨_, rfl⟩
  rw [← hq1] at D1 E0
  obtain ⟨q2, hq2⟩ : ∃ q, q = frB c d := ⟨_, rfl⟩
  rw [← hq2] at D2 E0
  obtain ⟨q3, hq3⟩ : ∃ q, q = cmpA a b c d := ⟨_, rfl⟩
  rw [← hq3] at D3 E0
  have DD1 := Lib.hid D1
  have DD2 := Lib.hid D2
  have DD3 := Lib.hid D3
  have E := Lib.hid E0
  clear D1 hq1 D2 hq2 D3 hq3 E0
  cases q1
  · go_enter Tryd.func20, Tryd.ntmps20
    go_wp2_with fail
    have K0 := ((Kept.start w).alloc4 (.int .i64 a) (.int .i64 b) (.int .i64 c) (.int .i64 d) 29 _ rfl)
    refine (DD1.out _).mono ?_
    rintro r9 w1 ⟨rfl, hb⟩
    have K1 := K0.step hb
    clear hb K0
    go_wp2
    go_ret
    exact ⟨by rw [E.out]; rfl, K1.1⟩
  · cases q2
    · go_enter Tryd.func20, Tryd.ntmps20
      go_wp2_with fail
      have K0 := ((Kept.start w).alloc4 (.int .i64 a) (.int .i64 b) (.int .i64 c) (.int .i64 d) 29 _ rfl)
      refine (DD1.out _).mono ?_
      rintro r9 w1 ⟨rfl, hb⟩
      have K1 := K0.step hb
      clear hb K0
      have k0 := K1.get 0 rfl
      have k1 := K1.get 1 rfl
      have k2 := K1.get 2 rfl
      have k3 := K1.get 3 rfl
      go_wp2_with fail
      refine (DD2.out _).mono ?_
      rintro r9 w2 ⟨rfl, hb⟩
      have K2 := K1.step hb
      clear hb K1 k0 k1 k2 k3
      go_wp2
      go_ret
      exact ⟨by rw [E.out]; rfl, K2.1⟩
    · by_cases t3 : q3 ≤ 0
      · have E3 : Hid (decide (q3 ≤ 0) = true) := decide_eq_true t3
        go_enter Tryd.func20, Tryd.ntmps20
        go_wp2_with fail
        have K0 := ((Kept.start w).alloc4 (.int .i64 a) (.int .i64 b) (.int .i64 c) (.int .i64 d) 29 _ rfl)
        refine (DD1.out _).mono ?_
        rintro r9 w1 ⟨rfl, hb⟩
        have K1 := K0.step hb
        clear hb K0
        have k0 := K1.get 0 rfl
        have k1 := K1.get 1 rfl
        have k2 := K1.get 2 rfl
        have k3 := K1.get 3 rfl
        go_wp2_with fail
        refine (DD2.out _).mono ?_
        rintro r9 w2 ⟨rfl, hb⟩
        have K2 := K1.step hb
        clear hb K1 k0 k1 k2 k3
        have k0 := K2.get 0 rfl
        have k1 := K2.get 1 rfl
        have k2 := K2.get 2 rfl
        have k3 := K2.get 3 rfl
        go_wp2_with fail
        refine (DD3.out _).mono ?_
        rintro r9 w3 ⟨rfl, hb⟩
        have K3 := K2.step hb
        clear hb K2 k0 k1 k2 k3
        go_wp2
        go_ret
        exact ⟨by rw [E.out, E3.out]; rfl, K3.1⟩
      · have u3 : decide (q3 ≤ 0) = false := decide_eq_false t3
        have E3 := Lib.hid u3
        go_enter Tryd.func20, Tryd.ntmps20
        go_wp2_with fail
        have K0 := ((Kept.start w).alloc4 (.int .i64 a) (.int .i64 b) (.int .i64 c) (.int .i64 d) 29 _ rfl)
        refine (DD1.out _).mono ?_
        rintro r9 w1 ⟨rfl, hb⟩
        have K1 := K0.step hb
        clear hb K0
        have k0 := K1.get 0 rfl
        have k1 := K1.get 1 rfl
        have k2 := K1.get 2 rfl
        have k3 := K1.get 3 rfl
        go_wp2_with fail
        refine (DD2.out _).mono ?_
        rintro r9 w2 ⟨rfl, hb⟩
        have K2 := K1.step hb
        clear hb K1 k0 k1 k2 k3
        have k0 := K2.get 0 rfl
        have k1 := K2.get 1 rfl
        have k2 := K2.get 2 rfl
        have k3 := K2.get 3 rfl
        go_wp2_with fail
        refine (DD3.out _).mono ?_
        rintro r9 w3 ⟨rfl, hb⟩
        have K3 := K2.step hb
        clear hb K2 k0 k1 k2 k3
        go_wp2
        go_ret
        exact ⟨by rw [E.out, E3.out]; rfl, K3.1⟩

set_option maxRecDepth 8000 in
set_option maxHeartbeats 3200000 in
theorem spec_co (a b c d n m : Int) (w : World) (ha : -9223372036854775808 ≤ a ∧ a ≤ 9223372036854775807) (hc : -9223372036854775808 ≤ c ∧ c ≤ 9223372036854775807) (hn : -9223372036854775808 ≤ n ∧ n ≤ 9223372036854775807) :
    Calls Tryd.prog 25 #[.agg #[.int .i64 a, .int .i64 b, .int .i64 c, .int .i64 d], .agg #[.int .i64 n, .int .i64 m]] w fun r9 w' => r9 = .returned (.bool (coB a b c d n m)) ∧ Below w.heap.size w w' := by
  have D1 := fun w => (fun w => spec_iv a b c d w ha hc) w
  have D2 := fun w => (fun w => spec_isf n m w hn.1 hn.2) w
  have D3 := fun w => (fun w => spec_cmp a b n m w ha hn) w
  have D4 := fun w => (fun w => spec_cmp n m c d w hn hc) w
  have E0 : coB a b c d n m = ((ivB a b c d) && ((frB n m) && (decide ((cmpA a b n m) ≤ 0) && decide ((cmpA n m c d) ≤ 0)))) := rfl
  obtain ⟨q1, hq1⟩ : ∃ q, q = ivB a b c d := ⟨_, rfl⟩
  rw [← hq1] at D1 E0
  obtain ⟨q2, hq2⟩ : ∃ q, q = frB n m := ⟨_, rfl⟩
  rw [← hq2] at D2 E0
  obtain ⟨q3, hq3⟩ : ∃ q, q = cmpA a b n m := ⟨_, rfl⟩
  rw [← hq3] at D3 E0
  obtain ⟨q4, hq4⟩ : ∃ q, q = cmpA n m c d := ⟨_, rfl⟩
  rw [← hq4] at D4 E0
  have DD1 := Lib.hid D1
  have DD2 := Lib.hid D2
  have DD3 := Lib.hid D3
  have DD4 := Lib.hid D4
  have E := Lib.hid E0
  clear D1 hq1 D2 hq2 D3 hq3 D4 hq4 E0
  cases q1
  · go_enter Tryd.func25, Tryd.ntmps25
    go_wp2_with fail
    have K0 := (((Kept.start w).alloc4 (.int .i64 a) (.int .i64 b) (.int .i64 c) (.int .i64 d) 29 _ rfl).alloc2 (.int .i64 n) (.int .i64 m) 27 (w.heap.size + 1) (by simp))
    refine (DD1.out _).mono ?_
    rintro r9 w1 ⟨rfl, hb⟩
    have K1 := K0.step hb
    clear hb K0
    go_wp2
    go_ret
    exact ⟨by rw [E.out]; rfl, K1.1⟩
  · cases q2
    · go_enter Tryd.func25, Tryd.ntmps25
      go_wp2_with fail
      have K0 := (((Kept.start w).alloc4 (.int .i64 a) (.int .i64 b) (.int .i64 c) (.int .i64 d) 29 _ rfl).alloc2 (.int .i64 n) (.int .i64 m) 27 (w.heap.size + 1) (by simp))
      refine (DD1.out _).mono ?_
      rintro r9 w1 ⟨rfl, hb⟩
      have K1 := K0.step hb
      clear hb K0
      have k0 := K1.get 0 rfl
      have k1 := K1.get 1 rfl
      have k2 := K1.get 2 rfl
      have k3 := K1.get 3 rfl
      have k4 := K1.get 4 rfl
      have k5 := K1.get 5 rfl
      go_wp2_with fail
      refine (DD2.out _).mono ?_
      rintro r9 w2 ⟨rfl, hb⟩
      have K2 := K1.step hb
      clear hb K1 k0 k1 k2 k3 k4 k5
      go_wp2
      go_ret
      exact ⟨by rw [E.out]; rfl, K2.1⟩
    · by_cases t3 : q3 ≤ 0
      · have E3 : Hid (decide (q3 ≤ 0) = true) := decide_eq_true t3
        by_cases t4 : q4 ≤ 0
        · have E4 : Hid (decide (q4 ≤ 0) = true) := decide_eq_true t4
          go_enter Tryd.func25, Tryd.ntmps25
          go_wp2_with fail
          have K0 := (((Kept.start w).alloc4 (.int .i64 a) (.int .i64 b) (.int .i64 c) (.int .i64 d) 29 _ rfl).alloc2 (.int .i64 n) (.int .i64 m) 27 (w.heap.size + 1) (by simp))
          refine (DD1.out _).mono ?_
          rintro r9 w1 ⟨rfl, hb⟩
          have K1 := K0.step hb
          clear hb K0
          have k0 := K1.get 0 rfl
          have k1 := K1.get 1 rfl
          have k2 := K1.get 2 rfl
          have k3 := K1.get 3 rfl
          have k4 := K1.get 4 rfl
          have k5 := K1.get 5 rfl
          go_wp2_with fail
          refine (DD2.out _).mono ?_
          rintro r9 w2 ⟨rfl, hb⟩
          have K2 := K1.step hb
          clear hb K1 k0 k1 k2 k3 k4 k5
          have k0 := K2.get 0 rfl
          have k1 := K2.get 1 rfl
          have k2 := K2.get 2 rfl
          have k3 := K2.get 3 rfl
          have k4 := K2.get 4 rfl
          have k5 := K2.get 5 rfl
          go_wp2_with fail
          refine (DD3.out _).mono ?_
          rintro r9 w3 ⟨rfl, hb⟩
          have K3 := K2.step hb
          clear hb K2 k0 k1 k2 k3 k4 k5
          have k0 := K3.get 0 rfl
          have k1 := K3.get 1 rfl
          have k2 := K3.get 2 rfl
          have k3 := K3.get 3 rfl
          have k4 := K3.get 4 rfl
          have k5 := K3.get 5 rfl
          go_wp2_with fail
          refine (DD4.out _).mono ?_
          rintro r9 w4 ⟨rfl, hb⟩
          have K4 := K3.step hb
          clear hb K3 k0 k1 k2 k3 k4 k5
          go_wp2
          go_ret
          exact ⟨by rw [E.out, E3.out, E4.out]; rfl, K4.1⟩
        · have u4 : decide (q4 ≤ 0) = false := decide_eq_false t4
          have E4 := Lib.hid u4
          go_enter Tryd.func25, Tryd.ntmps25
          go_wp2_with fail
          have K0 := (((Kept.start w).alloc4 (.int .i64 a) (.int .i64 b) (.int .i64 c) (.int .i64 d) 29 _ rfl).alloc2 (.int .i64 n) (.int .i64 m) 27 (w.heap.size + 1) (by simp))
          refine (DD1.out _).mono ?_
          rintro r9 w1 ⟨rfl, hb⟩
          have K1 := K0.step hb
          clear hb K0
          have k0 := K1.get 0 rfl
          have k1 := K1.get 1 rfl
          have k2 := K1.get 2 rfl
          have k3 := K1.get 3 rfl
          have k4 := K1.get 4 rfl
          have k5 := K1.get 5 rfl
          go_wp2_with fail
          refine (DD2.out _).mono ?_
          rintro r9 w2 ⟨rfl, hb⟩
          have K2 := K1.step hb
          clear hb K1 k0 k1 k2 k3 k4 k5
          have k0 := K2.get 0 rfl
          have k1 := K2.get 1 rfl
          have k2 := K2.get 2 rfl
          have k3 := K2.get 3 rfl
          have k4 := K2.get 4 rfl
          have k5 := K2.get 5 rfl
          go_wp2_with fail
          refine (DD3.out _).mono ?_
          rintro r9 w3 ⟨rfl, hb⟩
          have K3 := K2.step hb
          clear hb K2 k0 k1 k2 k3 k4 k5
          have k0 := K3.get 0 rfl
          have k1 := K3.get 1 rfl
          have k2 := K3.get 2 rfl
          have k3 := K3.get 3 rfl
          have k4 := K3.get 4 rfl
          have k5 := K3.get 5 rfl
          go_wp2_with fail
          refine (DD4.out _).mono ?_
          rintro r9 w4 ⟨rfl, hb⟩
          have K4 := K3.step hb
          clear hb K3 k0 k1 k2 k3 k4 k5
          go_wp2
          go_ret
          exact ⟨by rw [E.out, E3.out, E4.out]; rfl, K4.1⟩
      · have u3 : decide (q3 ≤ 0) = false := decide_eq_false t3
        have E3 := Lib.hid u3
        go_enter Tryd.func25, Tryd.ntmps25
        go_wp2_with fail
        have K0 := (((Kept.start w).alloc4 (.int .i64 a) (.int .i64 b) (.int .i64 c) (.int .i64 d) 29 _ rfl).alloc2 (.int .i64 n) (.int .i64 m) 27 (w.heap.size + 1) (by simp))
        refine (DD1.out _).mono ?_
        rintro r9 w1 ⟨rfl, hb⟩
        have K1 := K0.step hb
        clear hb K0
        have k0 := K1.get 0 rfl
        have k1 := K1.get 1 rfl
        have k2 := K1.get 2 rfl
        have k3 := K1.get 3 rfl
        have k4 := K1.get 4 rfl
        have k5 := K1.get 5 rfl
        go_wp2_with fail
        refine (DD2.out _).mono ?_
        rintro r9 w2 ⟨rfl, hb⟩
        have K2 := K1.step hb
        clear hb K1 k0 k1 k2 k3 k4 k5
        have k0 := K2.get 0 rfl
        have k1 := K2.get 1 rfl
        have k2 := K2.get 2 rfl
        have k3 := K2.get 3 rfl
        have k4 := K2.get 4 rfl
        have k5 := K2.get 5 rfl
        go_wp2_with fail
        refine (DD3.out _).mono ?_
        rintro r9 w3 ⟨rfl, hb⟩
        have K3 := K2.step hb
        clear hb K2 k0 k1 k2 k3 k4 k5
        go_wp2
        go_ret
        exact ⟨by rw [E.out, E3.out]; rfl, K3.1⟩

set_option maxRecDepth 8000 in
set_option maxHeartbeats 3200000 in
theorem spec_li (a b c d e f g h : Int) (w : World) (ha : -9223372036854775808 ≤ a ∧ a ≤ 9223372036854775807) (hc : -9223372036854775808 ≤ c ∧ c ≤ 9223372036854775807) (he : -9223372036854775808 ≤ e ∧ e ≤ 9223372036854775807) (hg : -9223372036854775808 ≤ g ∧ g ≤ 9223372036854775807) :
    Calls Tryd.prog 17 #[.agg #[.int .i64 a, .int .i64 b, .int .i64 c, .int .i64 d], .agg #[.int .i64 e, .int .i64 f, .int .i64 g, .int .i64 h]] w fun r9 w' => r9 = .returned (.bool (liB a b c d e f g h)) ∧ Below w.heap.size w w' := by
  have D1 := fun w => (fun w => spec_iv a b c d w ha hc) w
  have D2 := fun w => (fun w => spec_iv e f g h w he hg) w
  have D3 := fun w => (fun w => spec_cmp e f a b w he ha) w
  have D4 := fun w => (fun w => spec_cmp c d g h w hc hg) w
  have E0 : liB a b c d e f g h = ((ivB a b c d) && ((ivB e f g h) && (decide ((cmpA e f a b) ≤ 0) && decide ((cmpA c d g h) ≤ 0)))) := rfl
  obtain ⟨q1, hq1⟩ : ∃ q, q = ivB a b c d := ⟨_, rfl⟩
  rw [← hq1] at D1 E0
  obtain ⟨q2, hq2⟩ : ∃ q, q = ivB e f g h := ⟨_, rfl⟩
  rw [← hq2] at D2 E0
  obtain ⟨q3, hq3⟩ : ∃ q, q = cmpA e f a b := ⟨_, rfl⟩
  rw [← hq3] at D3 E0
  obtain ⟨q4, hq4⟩ : ∃ q, q = cmpA c d g h := ⟨_, rfl⟩
  rw [← hq4] at D4 E0
  have DD1 := Lib.hid D1
  have DD2 := Lib.hid D2
  have DD3 := Lib.hid D3
  have DD4 := Lib.hid D4
  have E := Lib.hid E0
  clear D1 hq1 D2 hq2 D3 hq3 D4 hq4 E0
  cases q1
  · go_enter Tryd.func17, Tryd.ntmps17
    go_wp2_with fail
    have K0 := (((Kept.start w).alloc4 (.int .i64 a) (.int .i64 b) (.int .i64 c) (.int .i64 d) 29 _ rfl).alloc4 (.int .i64 e) (.int .i64 f) (.int .i64 g) (.int .i64 h) 29 (w.heap.size + 1) (by simp))
    refine (DD1.out _).mono ?_
    rintro r9 w1 ⟨rfl, hb⟩
    have K1 := K0.step hb
    clear hb K0
    go_wp2
    go_ret
    exact ⟨by rw [E.out]; rfl, K1.1⟩
  · cases q2
    · go_enter Tryd.func17, Tryd.ntmps17
      go_wp2_with fail
      have K0 := (((Kept.start w).alloc4 (.int .i64 a) (.int .i64 b) (.int .i64 c) (.int .i64 d) 29 _ rfl).alloc4 (.int .i64 e) (.int .i64 f) (.int .i64 g) (.int .i64 h) 29 (w.heap.size + 1) (by simp))
      refine (DD1.out _).mono ?_
      rintro r9 w1 ⟨rfl, hb⟩
      have K1 := K0.step hb
      clear hb K0
      have k0 := K1.get 0 rfl
      have k1 := K1.get 1 rfl
      have k2 := K1.get 2 rfl
      have k3 := K1.get 3 rfl
      have k4 := K1.get 4 rfl
      have k5 := K1.get 5 rfl
      have k6 := K1.get 6 rfl
      have k7 := K1.get 7 rfl
      go_wp2_with fail
      refine (DD2.out _).mono ?_
      rintro r9 w2 ⟨rfl, hb⟩
      have K2 := K1.step hb
      clear hb K1 k0 k1 k2 k3 k4 k5 k6 k7
      go_wp2
      go_ret
      exact ⟨by rw [E.out]; rfl, K2.1⟩
    · by_cases t3 : q3 ≤ 0
      · have E3 : Hid (decide (q3 ≤ 0) = true) := decide_eq_true t3
        by_cases t4 : q4 ≤ 0
        · have E4 : Hid (decide (q4 ≤ 0) = true) := decide_eq_true t4
          go_enter Tryd.func17, Tryd.ntmps17
          go_wp2_with fail
          have K0 := (((Kept.start w).alloc4 (.int .i64 a) (.int .i64 b) (.int .i64 c) (.int .i64 d) 29 _ rfl).alloc4 (.int .i64 e) (.int .i64 f) (.int .i64 g) (.int .i64 h) 29 (w.heap.size + 1) (by simp))
          refine (DD1.out _).mono ?_
          rintro r9 w1 ⟨rfl, hb⟩
          have K1 := K0.step hb
          clear hb K0
          have k0 := K1.get 0 rfl
          have k1 := K1.get 1 rfl
          have k2 := K1.get 2 rfl
          have k3 := K1.get 3 rfl
          have k4 := K1.get 4 rfl
          have k5 := K1.get 5 rfl
          have k6 := K1.get 6 rfl
          have k7 := K1.get 7 rfl
          go_wp2_with fail
          refine (DD2.out _).mono ?_
          rintro r9 w2 ⟨rfl, hb⟩
          have K2 := K1.step hb
          clear hb K1 k0 k1 k2 k3 k4 k5 k6 k7
          have k0 := K2.get 0 rfl
          have k1 := K2.get 1 rfl
          have k2 := K2.get 2 rfl
          have k3 := K2.get 3 rfl
          have k4 := K2.get 4 rfl
          have k5 := K2.get 5 rfl
          have k6 := K2.get 6 rfl
          have k7 := K2.get 7 rfl
          go_wp2_with fail
          refine (DD3.out _).mono ?_
          rintro r9 w3 ⟨rfl, hb⟩
          have K3 := K2.step hb
          clear hb K2 k0 k1 k2 k3 k4 k5 k6 k7
          have k0 := K3.get 0 rfl
          have k1 := K3.get 1 rfl
          have k2 := K3.get 2 rfl
          have k3 := K3.get 3 rfl
          have k4 := K3.get 4 rfl
          have k5 := K3.get 5 rfl
          have k6 := K3.get 6 rfl
          have k7 := K3.get 7 rfl
          go_wp2_with fail
          refine (DD4.out _).mono ?_
          rintro r9 w4 ⟨rfl, hb⟩
          have K4 := K3.step hb
          clear hb K3 k0 k1 k2 k3 k4 k5 k6 k7
          go_wp2
          go_ret
          exact ⟨by rw [E.out, E3.out, E4.out]; rfl, K4.1⟩
        · have u4 : decide (q4 ≤ 0) = false := decide_eq_false t4
          have E4 := Lib.hid u4
          go_enter Tryd.func17, Tryd.ntmps17
          go_wp2_with fail
          have K0 := (((Kept.start w).alloc4 (.int .i64 a) (.int .i64 b) (.int .i64 c) (.int .i64 d) 29 _ rfl).alloc4 (.int .i64 e) (.int .i64 f) (.int .i64 g) (.int .i64 h) 29 (w.heap.size + 1) (by simp))
          refine (DD1.out _).mono ?_
          rintro r9 w1 ⟨rfl, hb⟩
          have K1 := K0.step hb
          clear hb K0
          have k0 := K1.get 0 rfl
          have k1 := K1.get 1 rfl
          have k2 := K1.get 2 rfl
          have k3 := K1.get 3 rfl
          have k4 := K1.get 4 rfl
          have k5 := K1.get 5 rfl
          have k6 := K1.get 6 rfl
          have k7 := K1.get 7 rfl
          go_wp2_with fail
          refine (DD2.out _).mono ?_
          rintro r9 w2 ⟨rfl, hb⟩
          have K2 := K1.step hb
          clear hb K1 k0 k1 k2 k3 k4 k5 k6 k7
          have k0 := K2.get 0 rfl
          have k1 := K2.get 1 rfl
          have k2 := K2.get 2 rfl
          have k3 := K2.get 3 rfl
          have k4 := K2.get 4 rfl
          have k5 := K2.get 5 rfl
          have k6 := K2.get 6 rfl
          have k7 := K2.get 7 rfl
          go_wp2_with fail
          refine (DD3.out _).mono ?_
          rintro r9 w3 ⟨rfl, hb⟩
          have K3 := K2.step hb
          clear hb K2 k0 k1 k2 k3 k4 k5 k6 k7
          have k0 := K3.get 0 rfl
          have k1 := K3.get 1 rfl
          have k2 := K3.get 2 rfl
          have k3 := K3.get 3 rfl
          have k4 := K3.get 4 rfl
          have k5 := K3.get 5 rfl
          have k6 := K3.get 6 rfl
          have k7 := K3.get 7 rfl
          go_wp2_with fail
          refine (DD4.out _).mono ?_
          rintro r9 w4 ⟨rfl, hb⟩
          have K4 := K3.step hb
          clear hb K3 k0 k1 k2 k3 k4 k5 k6 k7
          go_wp2
          go_ret
          exact ⟨by rw [E.out, E3.out, E4.out]; rfl, K4.1⟩
      · have u3 : decide (q3 ≤ 0) = false := decide_eq_false t3
        have E3 := Lib.hid u3
        go_enter Tryd.func17, Tryd.ntmps17
        go_wp2_with fail
        have K0 := (((Kept.start w).alloc4 (.int .i64 a) (.int .i64 b) (.int .i64 c) (.int .i64 d) 29 _ rfl).alloc4 (.int .i64 e) (.int .i64 f) (.int .i64 g) (.int .i64 h) 29 (w.heap.size + 1) (by simp))
        refine (DD1.out _).mono ?_
        rintro r9 w1 ⟨rfl, hb⟩
        have K1 := K0.step hb
        clear hb K0
        have k0 := K1.get 0 rfl
        have k1 := K1.get 1 rfl
        have k2 := K1.get 2 rfl
        have k3 := K1.get 3 rfl
        have k4 := K1.get 4 rfl
        have k5 := K1.get 5 rfl
        have k6 := K1.get 6 rfl
        have k7 := K1.get 7 rfl
        go_wp2_with fail
        refine (DD2.out _).mono ?_
        rintro r9 w2 ⟨rfl, hb⟩
        have K2 := K1.step hb
        clear hb K1 k0 k1 k2 k3 k4 k5 k6 k7
        have k0 := K2.get 0 rfl
        have k1 := K2.get 1 rfl
        have k2 := K2.get 2 rfl
        have k3 := K2.get 3 rfl
        have k4 := K2.get 4 rfl
        have k5 := K2.get 5 rfl
        have k6 := K2.get 6 rfl
        have k7 := K2.get 7 rfl
        go_wp2_with fail
        refine (DD3.out _).mono ?_
        rintro r9 w3 ⟨rfl, hb⟩
        have K3 := K2.step hb
        clear hb K2 k0 k1 k2 k3 k4 k5 k6 k7
        go_wp2
        go_ret
        exact ⟨by rw [E.out, E3.out]; rfl, K3.1⟩
end Go.Proofs.YtdfmidihghoilaaDoor
