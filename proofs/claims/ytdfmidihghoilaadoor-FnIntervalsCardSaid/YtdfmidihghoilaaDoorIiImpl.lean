/-
  The walks over the project's intervals: IsInterval, checkBoth, LiesWithin, Contains, CompareIntervals.
-/
import Derived.Test.YtdfmidihghoilaaDoorRows
import Derived.Test.YtdfmidihghoilaaDoorPlain
import Derived.Test.YtdfmidihghoilaaDoorKeep
import Derived.Test.YtdfmidihghoilaaDoorFrImpl
import Derived.Test.YtdfmidihghoilaaDoorFcImpl
import Derived.WalkKit
import Derived.WalkSpells
import Derived.WalkLawsBesides
import Derived.IntWalk
import Derived.Lib.Hide
namespace Go.Proofs.YtdfmidihghoilaaDoor
open Go.RowKit Num

set_option maxRecDepth 8000 in
set_option maxHeartbeats 3200000 in
theorem impl_iv (a b c d : Int) (w : World) :
    Calls Tryd.prog 30 #[.agg #[.int .i64 a, .int .i64 b, .int .i64 c, .int .i64 d]] w fun r9 w' => r9 = .returned (.bool (ivB a b c d)) ∧ Below w.heap.size w w' := by
  have D1 := fun w => (fun w => impl_isf a b w) w
  have D2 := fun w => (fun w => impl_isf c d w) w
  have D3 := fun w => (fun w => impl_cmp a b c d w) w
  have E0 : ivB a b c d = ((frB a b) && ((frB c d) && decide ((cmpA a b c d) ≤ 0))) := rfl
  obtain ⟨q1, hq1⟩ : ∃ q, q = frB a b := ⟨_, rfl⟩
  rw [← hq1] at D1 E0
  obtain ⟨q2, hq2⟩ : ∃ q, q = frB c d := ⟨_, rfl⟩
  rw [← hq2] at D2 E0
  obtain ⟨q3, hq3⟩ : ∃ q, q = cmpA a b c d := ⟨_, rfl⟩
  rw [← hq3] at D3 E0
  have DD1 := Lib.hid D1
  have DD2 := Lib.hid D2
  have DD3 := Lib.hid D3
  have E := Lib.hid E0
  clear D1 hq1 D2 hq2 D3 hq3 E0
  cases q1
  · go_enter Tryd.func30, Tryd.ntmps30
    go_wp2_with fail
    have K0 := ((Kept.start w).alloc4 (.int .i64 a) (.int .i64 b) (.int .i64 c) (.int .i64 d) 29 _ rfl)
    refine (DD1.out _).mono ?_
    rintro r9 w1 ⟨rfl, hb⟩
    have K1 := K0.step hb
    clear hb K0
    go_wp2
    go_ret
    exact ⟨by rw [E.out]; rfl, K1.1⟩
  · cases q2
    · go_enter Tryd.func30, Tryd.ntmps30
      go_wp2_with fail
      have K0 := ((Kept.start w).alloc4 (.int .i64 a) (.int .i64 b) (.int .i64 c) (.int .i64 d) 29 _ rfl)
      refine (DD1.out _).mono ?_
      rintro r9 w1 ⟨rfl, hb⟩
      have K1 := K0.step hb
      clear hb K0
      have k0 := K1.get 0 rfl
      have k1 := K1.get 1 rfl
      have k2 := K1.get 2 rfl
      have k3 := K1.get 3 rfl
      go_wp2_with fail
      refine (DD2.out _).mono ?_
      rintro r9 w2 ⟨rfl, hb⟩
      have K2 := K1.step hb
      clear hb K1 k0 k1 k2 k3
      go_wp2
      go_ret
      exact ⟨by rw [E.out]; rfl, K2.1⟩
    · by_cases t3 : q3 ≤ 0
      · have E3 : Hid (decide (q3 ≤ 0) = true) := decide_eq_true t3
        go_enter Tryd.func30, Tryd.ntmps30
        go_wp2_with fail
        have K0 := ((Kept.start w).alloc4 (.int .i64 a) (.int .i64 b) (.int .i64 c) (.int .i64 d) 29 _ rfl)
        refine (DD1.out _).mono ?_
        rintro r9 w1 ⟨rfl, hb⟩
        have K1 := K0.step hb
        clear hb K0
        have k0 := K1.get 0 rfl
        have k1 := K1.get 1 rfl
        have k2 := K1.get 2 rfl
        have k3 := K1.get 3 rfl
        go_wp2_with fail
        refine (DD2.out _).mono ?_
        rintro r9 w2 ⟨rfl, hb⟩
        have K2 := K1.step hb
        clear hb K1 k0 k1 k2 k3
        have k0 := K2.get 0 rfl
        have k1 := K2.get 1 rfl
        have k2 := K2.get 2 rfl
        have k3 := K2.get 3 rfl
        go_wp2_with fail
        refine (DD3.out _).mono ?_
        rintro r9 w3 ⟨rfl, hb⟩
        have K3 := K2.step hb
        clear hb K2 k0 k1 k2 k3
        go_wp2
        go_ret
        exact ⟨by rw [E.out, E3.out]; rfl, K3.1⟩
      · have u3 : decide (q3 ≤ 0) = false := decide_eq_false t3
        have E3 := Lib.hid u3
        go_enter Tryd.func30, Tryd.ntmps30
        go_wp2_with fail
        have K0 := ((Kept.start w).alloc4 (.int .i64 a) (.int .i64 b) (.int .i64 c) (.int .i64 d) 29 _ rfl)
        refine (DD1.out _).mono ?_
        rintro r9 w1 ⟨rfl, hb⟩
        have K1 := K0.step hb
        clear hb K0
        have k0 := K1.get 0 rfl
        have k1 := K1.get 1 rfl
        have k2 := K1.get 2 rfl
        have k3 := K1.get 3 rfl
        go_wp2_with fail
        refine (DD2.out _).mono ?_
        rintro r9 w2 ⟨rfl, hb⟩
        have K2 := K1.step hb
        clear hb K1 k0 k1 k2 k3
        have k0 := K2.get 0 rfl
        have k1 := K2.get 1 rfl
        have k2 := K2.get 2 rfl
        have k3 := K2.get 3 rfl
        go_wp2_with fail
        refine (DD3.out _).mono ?_
        rintro r9 w3 ⟨rfl, hb⟩
        have K3 := K2.step hb
        clear hb K2 k0 k1 k2 k3
        go_wp2
        go_ret
        exact ⟨by rw [E.out, E3.out]; rfl, K3.1⟩

/-- checkBoth's answer. -/
def CbAns (a b c d e f g h : Int) (w : World) (r : Ending) (w' : World) : Prop :=
  r = .returned (if (ivB a b c d && ivB e f g h) = true then .tuple #[.agg #[.int .i64 a, .int .i64 b, .int .i64 c, .int .i64 d], .agg #[.int .i64 e, .int .i64 f, .int .i64 g, .int .i64 h], .bool true] else .tuple #[.agg #[.int .i64 0, .int .i64 0, .int .i64 0, .int .i64 0], .agg #[.int .i64 0, .int .i64 0, .int .i64 0, .int .i64 0], .bool false]) ∧ Below w.heap.size w w'
theorem CbAns.no {a b c d e f g h : Int} (w w' : World) (hq : (ivB a b c d && ivB e f g h) = false) (hb : Below w.heap.size w w') : CbAns a b c d e f g h w (.returned (.tuple #[.agg #[.int .i64 0, .int .i64 0, .int .i64 0, .int .i64 0], .agg #[.int .i64 0, .int .i64 0, .int .i64 0, .int .i64 0], .bool false])) w' := ⟨by rw [if_neg (by rw [hq]; simp)], hb⟩
theorem CbAns.yes {a b c d e f g h : Int} (w w' : World) (hq : (ivB a b c d && ivB e f g h) = true) (hb : Below w.heap.size w w') : CbAns a b c d e f g h w (.returned (.tuple #[.agg #[.int .i64 a, .int .i64 b, .int .i64 c, .int .i64 d], .agg #[.int .i64 e, .int .i64 f, .int .i64 g, .int .i64 h], .bool true])) w' := ⟨by rw [if_pos hq], hb⟩

set_option maxRecDepth 8000 in
set_option maxHeartbeats 3200000 in
theorem impl_cb (a b c d e f g h : Int) (w : World) :
    Calls Tryd.prog 37 #[.agg #[.int .i64 a, .int .i64 b, .int .i64 c, .int .i64 d], .agg #[.int .i64 e, .int .i64 f, .int .i64 g, .int .i64 h]] w (CbAns a b c d e f g h w) := by
  have D1 := fun w => impl_iv a b c d w
  have D2 := fun w => impl_iv e f g h w
  cases hq : (ivB a b c d && ivB e f g h)
  · have AN := Lib.hid (fun w w' => @CbAns.no a b c d e f g h w w' hq)
    obtain ⟨q1, hq1⟩ : ∃ q, q = ivB a b c d := ⟨_, rfl⟩
    obtain ⟨q2, hq2⟩ : ∃ q, q = ivB e f g h := ⟨_, rfl⟩
    rw [← hq1] at D1 hq
    rw [← hq2] at D2 hq
    have DD1 := Lib.hid D1
    have DD2 := Lib.hid D2
    clear D1 D2 hq1 hq2
    cases q1
    · clear hq
      go_enter Tryd.func37, Tryd.ntmps37
      go_wp2_with fail
      have K0 := ((((Kept.start w).alloc4 (.int .i64 a) (.int .i64 b) (.int .i64 c) (.int .i64 d) 29 _ rfl).alloc4 (.int .i64 e) (.int .i64 f) (.int .i64 g) (.int .i64 h) 29 (w.heap.size + 1) (by simp)).alloc4 (.int .i64 0) (.int .i64 0) (.int .i64 0) (.int .i64 0) 55 (w.heap.size + 1 + 1) (by simp)).alloc4 (.int .i64 0) (.int .i64 0) (.int .i64 0) (.int .i64 0) 55 (w.heap.size + 1 + 1 + 1) (by simp)
      refine (DD1.out _).mono ?_
      rintro r9 w1 ⟨rfl, hb⟩
      have K1 := K0.step hb
      clear hb K0
      have k0 := K1.get 0 rfl
      have k1 := K1.get 1 rfl
      have k2 := K1.get 2 rfl
      have k3 := K1.get 3 rfl
      have k4 := K1.get 4 rfl
      have k5 := K1.get 5 rfl
      have k6 := K1.get 6 rfl
      have k7 := K1.get 7 rfl
      have f0 := K1.fz 0 rfl
      have f1 := K1.fz 1 rfl
      have f2 := K1.fz 2 rfl
      have f3 := K1.fz 3 rfl
      have f4 := K1.fz 4 rfl
      have f5 := K1.fz 5 rfl
      have f6 := K1.fz 6 rfl
      have f7 := K1.fz 7 rfl
      have z0 := K1.lt 0 rfl
      have z4 := K1.lt 4 rfl
      go_wp2
      exact bodyPost_ret (v := .tuple #[.agg #[.int .i64 0, .int .i64 0, .int .i64 0, .int .i64 0], .agg #[.int .i64 0, .int .i64 0, .int .i64 0, .int .i64 0], .bool false]) (by simp [results, Tryd.results37, go_sem, k0, k1, k2, k3, k4, k5, k6, k7, z0, z4]) rfl (AN.out _ _ ((((((((K1.1.setCell (p := ⟨w.heap.size + 1 + 1, 0, none⟩) (by simp only; omega) _).setCell (p := ⟨w.heap.size + 1 + 1, 1, none⟩) (by simp only; omega) _).setCell (p := ⟨w.heap.size + 1 + 1, 2, none⟩) (by simp only; omega) _).setCell (p := ⟨w.heap.size + 1 + 1, 3, none⟩) (by simp only; omega) _).setCell (p := ⟨w.heap.size + 1 + 1 + 1, 0, none⟩) (by simp only; omega) _).setCell (p := ⟨w.heap.size + 1 + 1 + 1, 1, none⟩) (by simp only; omega) _).setCell (p := ⟨w.heap.size + 1 + 1 + 1, 2, none⟩) (by simp only; omega) _).setCell (p := ⟨w.heap.size + 1 + 1 + 1, 3, none⟩) (by simp only; omega) _))
    · cases q2
      · clear hq
        go_enter Tryd.func37, Tryd.ntmps37
        go_wp2_with fail
        have K0 := ((((Kept.start w).alloc4 (.int .i64 a) (.int .i64 b) (.int .i64 c) (.int .i64 d) 29 _ rfl).alloc4 (.int .i64 e) (.int .i64 f) (.int .i64 g) (.int .i64 h) 29 (w.heap.size + 1) (by simp)).alloc4 (.int .i64 0) (.int .i64 0) (.int .i64 0) (.int .i64 0) 55 (w.heap.size + 1 + 1) (by simp)).alloc4 (.int .i64 0) (.int .i64 0) (.int .i64 0) (.int .i64 0) 55 (w.heap.size + 1 + 1 + 1) (by simp)
        refine (DD1.out _).mono ?_
        rintro r9 w1 ⟨rfl, hb⟩
        have K1 := K0.step hb
        clear hb K0
        have k8 := K1.get 8 rfl
        have k9 := K1.get 9 rfl
        have k10 := K1.get 10 rfl
        have k11 := K1.get 11 rfl
        go_wp2_with fail
        refine (DD2.out _).mono ?_
        rintro r9 w2 ⟨rfl, hb⟩
        have K2 := K1.step hb
        clear hb K1 k8 k9 k10 k11
        have k0 := K2.get 0 rfl
        have k1 := K2.get 1 rfl
        have k2 := K2.get 2 rfl
        have k3 := K2.get 3 rfl
        have k4 := K2.get 4 rfl
        have k5 := K2.get 5 rfl
        have k6 := K2.get 6 rfl
        have k7 := K2.get 7 rfl
        have f0 := K2.fz 0 rfl
        have f1 := K2.fz 1 rfl
        have f2 := K2.fz 2 rfl
        have f3 := K2.fz 3 rfl
        have f4 := K2.fz 4 rfl
        have f5 := K2.fz 5 rfl
        have f6 := K2.fz 6 rfl
        have f7 := K2.fz 7 rfl
        have z0 := K2.lt 0 rfl
        have z4 := K2.lt 4 rfl
        go_wp2
        exact bodyPost_ret (v := .tuple #[.agg #[.int .i64 0, .int .i64 0, .int .i64 0, .int .i64 0], .agg #[.int .i64 0, .int .i64 0, .int .i64 0, .int .i64 0], .bool false]) (by simp [results, Tryd.results37, go_sem, k0, k1, k2, k3, k4, k5, k6, k7, z0, z4]) rfl (AN.out _ _ ((((((((K2.1.setCell (p := ⟨w.heap.size + 1 + 1, 0, none⟩) (by simp only; omega) _).setCell (p := ⟨w.heap.size + 1 + 1, 1, none⟩) (by simp only; omega) _).setCell (p := ⟨w.heap.size + 1 + 1, 2, none⟩) (by simp only; omega) _).setCell (p := ⟨w.heap.size + 1 + 1, 3, none⟩) (by simp only; omega) _).setCell (p := ⟨w.heap.size + 1 + 1 + 1, 0, none⟩) (by simp only; omega) _).setCell (p := ⟨w.heap.size + 1 + 1 + 1, 1, none⟩) (by simp only; omega) _).setCell (p := ⟨w.heap.size + 1 + 1 + 1, 2, none⟩) (by simp only; omega) _).setCell (p := ⟨w.heap.size + 1 + 1 + 1, 3, none⟩) (by simp only; omega) _))
      · cases hq
  · have AN := Lib.hid (fun w w' => @CbAns.yes a b c d e f g h w w' hq)
    rw [Bool.and_eq_true] at hq
    rw [hq.1] at D1
    rw [hq.2] at D2
    have DD1 := Lib.hid D1
    have DD2 := Lib.hid D2
    clear D1 D2 hq
    go_enter Tryd.func37, Tryd.ntmps37
    go_wp2_with fail
    have K0 := ((((Kept.start w).alloc4 (.int .i64 a) (.int .i64 b) (.int .i64 c) (.int .i64 d) 29 _ rfl).alloc4 (.int .i64 e) (.int .i64 f) (.int .i64 g) (.int .i64 h) 29 (w.heap.size + 1) (by simp)).alloc4 (.int .i64 0) (.int .i64 0) (.int .i64 0) (.int .i64 0) 55 (w.heap.size + 1 + 1) (by simp)).alloc4 (.int .i64 0) (.int .i64 0) (.int .i64 0) (.int .i64 0) 55 (w.heap.size + 1 + 1 + 1) (by simp)
    refine (DD1.out _).mono ?_
    rintro r9 w1 ⟨rfl, hb⟩
    have K1 := K0.step hb
    clear hb K0
    have k8 := K1.get 8 rfl
    have k9 := K1.get 9 rfl
    have k10 := K1.get 10 rfl
    have k11 := K1.get 11 rfl
    go_wp2_with fail
    refine (DD2.out _).mono ?_
    rintro r9 w2 ⟨rfl, hb⟩
    have K2 := K1.step hb
    clear hb K1 k8 k9 k10 k11
    have k8 := K2.get 8 rfl
    have k9 := K2.get 9 rfl
    have k10 := K2.get 10 rfl
    have k11 := K2.get 11 rfl
    have k12 := K2.get 12 rfl
    have k13 := K2.get 13 rfl
    have k14 := K2.get 14 rfl
    have k15 := K2.get 15 rfl
    have k0 := K2.get 0 rfl
    have k1 := K2.get 1 rfl
    have k2 := K2.get 2 rfl
    have k3 := K2.get 3 rfl
    have k4 := K2.get 4 rfl
    have k5 := K2.get 5 rfl
    have k6 := K2.get 6 rfl
    have k7 := K2.get 7 rfl
    have f0 := K2.fz 0 rfl
    have f1 := K2.fz 1 rfl
    have f2 := K2.fz 2 rfl
    have f3 := K2.fz 3 rfl
    have f4 := K2.fz 4 rfl
    have f5 := K2.fz 5 rfl
    have f6 := K2.fz 6 rfl
    have f7 := K2.fz 7 rfl
    have z0 := K2.lt 0 rfl
    have z4 := K2.lt 4 rfl
    have G := (((((((((K2.1.setCell (p := ⟨w.heap.size + 1 + 1, 0, none⟩) (by simp only; omega) (.int .i64 a)).setCell (p := ⟨w.heap.size + 1 + 1, 1, none⟩) (by simp only; omega) (.int .i64 b)).setCell (p := ⟨w.heap.size + 1 + 1, 2, none⟩) (by simp only; omega) (.int .i64 c)).setCell (p := ⟨w.heap.size + 1 + 1, 3, none⟩) (by simp only; omega) (.int .i64 d)).setCell (p := ⟨w.heap.size + 1 + 1 + 1, 0, none⟩) (by simp only; omega) (.int .i64 e)).setCell (p := ⟨w.heap.size + 1 + 1 + 1, 1, none⟩) (by simp only; omega) (.int .i64 f)).setCell (p := ⟨w.heap.size + 1 + 1 + 1, 2, none⟩) (by simp only; omega) (.int .i64 g)).setCell (p := ⟨w.heap.size + 1 + 1 + 1, 3, none⟩) (by simp only; omega) (.int .i64 h))).drew
    go_wp2_with fail
    go_region
    all_goals
      go_wp2
      exact bodyPost_ret (v := .tuple #[.agg #[.int .i64 a, .int .i64 b, .int .i64 c, .int .i64 d], .agg #[.int .i64 e, .int .i64 f, .int .i64 g, .int .i64 h], .bool true]) (by simp [results, Tryd.results37, go_sem, k0, k1, k2, k3, k4, k5, k6, k7, z0, z4]) rfl (AN.out _ _ G)

set_option maxRecDepth 8000 in
set_option maxHeartbeats 3200000 in
theorem impl_li (a b c d e f g h : Int) (w : World) :
    Calls Tryd.prog 16 #[.agg #[.int .i64 a, .int .i64 b, .int .i64 c, .int .i64 d], .agg #[.int .i64 e, .int .i64 f, .int .i64 g, .int .i64 h]] w fun r9 w' => r9 = .returned (.bool (liB a b c d e f g h)) ∧ Below w.heap.size w w' := by
  have D1 := fun w => impl_cb a b c d e f g h w
  unfold CbAns at D1
  have D3 := fun w => impl_cmp e f a b w
  have D4 := fun w => impl_cmp c d g h w
  have E0 : liB a b c d e f g h = ((ivB a b c d && ivB e f g h) && (decide (cmpA e f a b ≤ 0) && decide (cmpA c d g h ≤ 0))) := (Bool.and_assoc _ _ _).symm
  obtain ⟨q3, hq3⟩ : ∃ q, q = cmpA e f a b := ⟨_, rfl⟩
  rw [← hq3] at D3 E0
  obtain ⟨q4, hq4⟩ : ∃ q, q = cmpA c d g h := ⟨_, rfl⟩
  rw [← hq4] at D4 E0
  have DD3 := Lib.hid D3
  have DD4 := Lib.hid D4
  clear D3 D4 hq3 hq4
  cases hq : (ivB a b c d && ivB e f g h)
  · rw [hq, if_neg (by simp)] at D1
    rw [hq] at E0
    have DD1 := Lib.hid D1
    have E := Lib.hid E0
    clear D1 E0 hq
    go_enter Tryd.func16, Tryd.ntmps16
    go_wp2_with fail
    have K0 := (((Kept.start w).alloc4 (.int .i64 a) (.int .i64 b) (.int .i64 c) (.int .i64 d) 29 _ rfl).alloc4 (.int .i64 e) (.int .i64 f) (.int .i64 g) (.int .i64 h) 29 (w.heap.size + 1) (by simp))
    refine (DD1.out _).mono ?_
    rintro r9 w1 ⟨rfl, hb⟩
    have K1 := K0.step hb
    clear hb K0
    go_wp2
    go_ret
    exact ⟨by rw [E.out]; rfl, ((K1.alloc4 (.int .i64 0) (.int .i64 0) (.int .i64 0) (.int .i64 0) 55 _ rfl).alloc4 (.int .i64 0) (.int .i64 0) (.int .i64 0) (.int .i64 0) 55 _ rfl).1⟩
  · rw [hq, if_pos rfl] at D1
    rw [hq] at E0
    have DD1 := Lib.hid D1
    clear D1 hq
    by_cases t3 : q3 ≤ 0
    · by_cases t4 : q4 ≤ 0
      · rw [decide_eq_true t3, decide_eq_true t4] at E0
        have E := Lib.hid E0
        clear E0
        go_enter Tryd.func16, Tryd.ntmps16
        go_wp2_with fail
        have K0 := (((Kept.start w).alloc4 (.int .i64 a) (.int .i64 b) (.int .i64 c) (.int .i64 d) 29 _ rfl).alloc4 (.int .i64 e) (.int .i64 f) (.int .i64 g) (.int .i64 h) 29 (w.heap.size + 1) (by simp))
        refine (DD1.out _).mono ?_
        rintro r9 w1 ⟨rfl, hb⟩
        have K1 := K0.step hb
        clear hb K0
        have K2 := (K1.alloc4 (.int .i64 a) (.int .i64 b) (.int .i64 c) (.int .i64 d) 55 _ rfl).alloc4 (.int .i64 e) (.int .i64 f) (.int .i64 g) (.int .i64 h) 55 (w1.heap.size + 1) (by simp)
        clear K1
        have k0 := K2.get 0 rfl
        have k1 := K2.get 1 rfl
        have k2 := K2.get 2 rfl
        have k3 := K2.get 3 rfl
        have k4 := K2.get 4 rfl
        have k5 := K2.get 5 rfl
        have k6 := K2.get 6 rfl
        have k7 := K2.get 7 rfl
        go_wp2_with fail
        refine (DD3.out _).mono ?_
        rintro r9 w3 ⟨rfl, hb⟩
        have K3 := K2.step hb
        clear hb K2 k0 k1 k2 k3 k4 k5 k6 k7
        have k0 := K3.get 0 rfl
        have k1 := K3.get 1 rfl
        have k2 := K3.get 2 rfl
        have k3 := K3.get 3 rfl
        have k4 := K3.get 4 rfl
        have k5 := K3.get 5 rfl
        have k6 := K3.get 6 rfl
        have k7 := K3.get 7 rfl
        go_wp2_with fail
        refine (DD4.out _).mono ?_
        rintro r9 w4 ⟨rfl, hb⟩
        have K4 := K3.step hb
        clear hb K3 k0 k1 k2 k3 k4 k5 k6 k7
        go_wp2
        go_ret
        exact ⟨by rw [E.out]; rfl, K4.1⟩
      · have u4 : decide (q4 ≤ 0) = false := decide_eq_false t4
        rw [decide_eq_true t3, u4] at E0
        have E := Lib.hid E0
        clear E0
        go_enter Tryd.func16, Tryd.ntmps16
        go_wp2_with fail
        have K0 := (((Kept.start w).alloc4 (.int .i64 a) (.int .i64 b) (.int .i64 c) (.int .i64 d) 29 _ rfl).alloc4 (.int .i64 e) (.int .i64 f) (.int .i64 g) (.int .i64 h) 29 (w.heap.size + 1) (by simp))
        refine (DD1.out _).mono ?_
        rintro r9 w1 ⟨rfl, hb⟩
        have K1 := K0.step hb
        clear hb K0
        have K2 := (K1.alloc4 (.int .i64 a) (.int .i64 b) (.int .i64 c) (.int .i64 d) 55 _ rfl).alloc4 (.int .i64 e) (.int .i64 f) (.int .i64 g) (.int .i64 h) 55 (w1.heap.size + 1) (by simp)
        clear K1
        have k0 := K2.get 0 rfl
        have k1 := K2.get 1 rfl
        have k2 := K2.get 2 rfl
        have k3 := K2.get 3 rfl
        have k4 := K2.get 4 rfl
        have k5 := K2.get 5 rfl
        have k6 := K2.get 6 rfl
        have k7 := K2.get 7 rfl
        go_wp2_with fail
        refine (DD3.out _).mono ?_
        rintro r9 w3 ⟨rfl, hb⟩
        have K3 := K2.step hb
        clear hb K2 k0 k1 k2 k3 k4 k5 k6 k7
        have k0 := K3.get 0 rfl
        have k1 := K3.get 1 rfl
        have k2 := K3.get 2 rfl
        have k3 := K3.get 3 rfl
        have k4 := K3.get 4 rfl
        have k5 := K3.get 5 rfl
        have k6 := K3.get 6 rfl
        have k7 := K3.get 7 rfl
        go_wp2_with fail
        refine (DD4.out _).mono ?_
        rintro r9 w4 ⟨rfl, hb⟩
        have K4 := K3.step hb
        clear hb K3 k0 k1 k2 k3 k4 k5 k6 k7
        go_wp2
        go_ret
        exact ⟨by rw [E.out]; rfl, K4.1⟩
    · have u3 : decide (q3 ≤ 0) = false := decide_eq_false t3
      rw [u3] at E0
      have E := Lib.hid E0
      clear E0
      go_enter Tryd.func16, Tryd.ntmps16
      go_wp2_with fail
      have K0 := (((Kept.start w).alloc4 (.int .i64 a) (.int .i64 b) (.int .i64 c) (.int .i64 d) 29 _ rfl).alloc4 (.int .i64 e) (.int .i64 f) (.int .i64 g) (.int .i64 h) 29 (w.heap.size + 1) (by simp))
      refine (DD1.out _).mono ?_
      rintro r9 w1 ⟨rfl, hb⟩
      have K1 := K0.step hb
      clear hb K0
      have K2 := (K1.alloc4 (.int .i64 a) (.int .i64 b) (.int .i64 c) (.int .i64 d) 55 _ rfl).alloc4 (.int .i64 e) (.int .i64 f) (.int .i64 g) (.int .i64 h) 55 (w1.heap.size + 1) (by simp)
      clear K1
      have k0 := K2.get 0 rfl
      have k1 := K2.get 1 rfl
      have k2 := K2.get 2 rfl
      have k3 := K2.get 3 rfl
      have k4 := K2.get 4 rfl
      have k5 := K2.get 5 rfl
      have k6 := K2.get 6 rfl
      have k7 := K2.get 7 rfl
      go_wp2_with fail
      refine (DD3.out _).mono ?_
      rintro r9 w3 ⟨rfl, hb⟩
      have K3 := K2.step hb
      clear hb K2 k0 k1 k2 k3 k4 k5 k6 k7
      go_wp2
      go_ret
      exact ⟨by rw [E.out]; rfl, K3.1⟩

set_option maxRecDepth 8000 in
set_option maxHeartbeats 3200000 in
theorem impl_co (a b c d n m : Int) (w : World) :
    Calls Tryd.prog 24 #[.agg #[.int .i64 a, .int .i64 b, .int .i64 c, .int .i64 d], .agg #[.int .i64 n, .int .i64 m]] w fun r9 w' => r9 = .returned (.bool (coB a b c d n m)) ∧ Below w.heap.size w w' := by
  have D1 := fun w => impl_li n m n m a b c d w
  rw [liB_one] at D1
  obtain ⟨q1, hq1⟩ : ∃ q, q = coB a b c d n m := ⟨_, rfl⟩
  rw [← hq1] at D1
  rw [← hq1]
  have DD1 := Lib.hid D1
  clear D1 hq1
  go_enter Tryd.func24, Tryd.ntmps24
  go_wp2_with fail
  have K0 := ((Kept.start w).alloc4 (.int .i64 a) (.int .i64 b) (.int .i64 c) (.int .i64 d) 29 _ rfl).alloc2 (.int .i64 n) (.int .i64 m) 27 (w.heap.size + 1) (by simp)
  refine (DD1.out _).mono ?_
  rintro r9 w1 ⟨rfl, hb⟩
  have K1 := K0.step hb
  clear hb K0
  go_wp2
  go_ret
  exact ⟨rfl, K1.1⟩

set_option maxRecDepth 8000 in
set_option maxHeartbeats 3200000 in
theorem impl_below (a b c d e f g h : Int) (w : World) :
    Calls Tryd.prog 38 #[.agg #[.int .i64 a, .int .i64 b, .int .i64 c, .int .i64 d], .agg #[.int .i64 e, .int .i64 f, .int .i64 g, .int .i64 h]] w fun r9 w' => r9 = .returned (.bool (decide (cmpA c d e f < 0))) ∧ Below w.heap.size w w' := by
  have D1 := fun w => impl_cmp c d e f w
  obtain ⟨q1, hq1⟩ : ∃ q, q = cmpA c d e f := ⟨_, rfl⟩
  rw [← hq1] at D1
  rw [← hq1]
  have DD1 := Lib.hid D1
  clear D1 hq1
  go_enter Tryd.func38, Tryd.ntmps38
  go_wp2_with fail
  have K0 := ((Kept.start w).alloc4 (.int .i64 a) (.int .i64 b) (.int .i64 c) (.int .i64 d) 55 _ rfl).alloc4 (.int .i64 e) (.int .i64 f) (.int .i64 g) (.int .i64 h) 55 (w.heap.size + 1) (by simp)
  refine (DD1.out _).mono ?_
  rintro r9 w1 ⟨rfl, hb⟩
  have K1 := K0.step hb
  clear hb K0
  go_wp2
  go_ret
  exact ⟨rfl, K1.1⟩

set_option maxRecDepth 8000 in
set_option maxHeartbeats 3200000 in
theorem impl_ci (a b c d e f g h : Int) (w : World) :
    Calls Tryd.prog 18 #[.agg #[.int .i64 a, .int .i64 b, .int .i64 c, .int .i64 d], .agg #[.int .i64 e, .int .i64 f, .int .i64 g, .int .i64 h]] w fun r9 w' => r9 = .returned (.int .i64 (civ a b c d e f g h)) ∧ Below w.heap.size w w' := by
  have D1 := fun w => impl_cb a b c d e f g h w
  unfold CbAns at D1
  have D3 := fun w => impl_below a b c d e f g h w
  have D4 := fun w => impl_below e f g h a b c d w
  have E0 : civ a b c d e f g h = (if (ivB a b c d && ivB e f g h) = true then (if cmpA c d e f < 0 then -1 else if cmpA g h a b < 0 then 1 else 0) else 0) := by unfold civ; cases ivB a b c d <;> cases ivB e f g h <;> simp
  obtain ⟨q3, hq3⟩ : ∃ q, q = cmpA c d e f := ⟨_, rfl⟩
  rw [← hq3] at D3 E0
  obtain ⟨q4, hq4⟩ : ∃ q, q = cmpA g h a b := ⟨_, rfl⟩
  rw [← hq4] at D4 E0
  clear hq3 hq4
  cases hq : (ivB a b c d && ivB e f g h)
  · rw [hq, if_neg (by simp)] at D1
    rw [hq, if_neg (by simp)] at E0
    have DD1 := Lib.hid D1
    have E := Lib.hid E0
    clear D1 D3 D4 E0 hq
    go_enter Tryd.func18, Tryd.ntmps18
    go_wp2_with fail
    have K0 := (((Kept.start w).alloc4 (.int .i64 a) (.int .i64 b) (.int .i64 c) (.int .i64 d) 29 _ rfl).alloc4 (.int .i64 e) (.int .i64 f) (.int .i64 g) (.int .i64 h) 29 (w.heap.size + 1) (by simp))
    refine (DD1.out _).mono ?_
    rintro r9 w1 ⟨rfl, hb⟩
    have K1 := K0.step hb
    clear hb K0
    go_wp2
    go_ret
    exact ⟨by rw [E.out]; rfl, ((K1.alloc4 (.int .i64 0) (.int .i64 0) (.int .i64 0) (.int .i64 0) 55 _ rfl).alloc4 (.int .i64 0) (.int .i64 0) (.int .i64 0) (.int .i64 0) 55 _ rfl).1⟩
  · rw [hq, if_pos rfl] at D1
    rw [hq, if_pos rfl] at E0
    have DD1 := Lib.hid D1
    clear D1 hq
    by_cases t3 : q3 < 0
    · rw [if_pos t3] at E0
      rw [decide_eq_true t3] at D3
      have DD3 := Lib.hid D3
      have E := Lib.hid E0
      clear E0 D3 D4 t3
      go_enter Tryd.func18, Tryd.ntmps18
      go_wp2_with fail
      have K0 := (((Kept.start w).alloc4 (.int .i64 a) (.int .i64 b) (.int .i64 c) (.int .i64 d) 29 _ rfl).alloc4 (.int .i64 e) (.int .i64 f) (.int .i64 g) (.int .i64 h) 29 (w.heap.size + 1) (by simp))
      refine (DD1.out _).mono ?_
      rintro r9 w1 ⟨rfl, hb⟩
      have K1 := K0.step hb
      clear hb K0
      have K2 := (K1.alloc4 (.int .i64 a) (.int .i64 b) (.int .i64 c) (.int .i64 d) 55 _ rfl).alloc4 (.int .i64 e) (.int .i64 f) (.int .i64 g) (.int .i64 h) 55 (w1.heap.size + 1) (by simp)
      clear K1
      have k0 := K2.get 0 rfl
      have k1 := K2.get 1 rfl
      have k2 := K2.get 2 rfl
      have k3 := K2.get 3 rfl
      have k4 := K2.get 4 rfl
      have k5 := K2.get 5 rfl
      have k6 := K2.get 6 rfl
      have k7 := K2.get 7 rfl
      go_wp2_with fail
      refine (DD3.out _).mono ?_
      rintro r9 w3 ⟨rfl, hb⟩
      have K3 := K2.step hb
      clear hb K2 k0 k1 k2 k3 k4 k5 k6 k7
      go_wp2
      go_ret
      exact ⟨by rw [E.out]; rfl, K3.1⟩
    · rw [if_neg t3] at E0
      rw [decide_eq_false t3] at D3
      have DD3 := Lib.hid D3
      clear D3 t3
      by_cases t4 : q4 < 0
      · rw [if_pos t4] at E0
        rw [decide_eq_true t4] at D4
        have DD4 := Lib.hid D4
        have E := Lib.hid E0
        clear E0 D4 t4
        go_enter Tryd.func18, Tryd.ntmps18
        go_wp2_with fail
        have K0 := (((Kept.start w).alloc4 (.int .i64 a) (.int .i64 b) (.int .i64 c) (.int .i64 d) 29 _ rfl).alloc4 (.int .i64 e) (.int .i64 f) (.int .i64 g) (.int .i64 h) 29 (w.heap.size + 1) (by simp))
        refine (DD1.out _).mono ?_
        rintro r9 w1 ⟨rfl, hb⟩
        have K1 := K0.step hb
        clear hb K0
        have K2 := (K1.alloc4 (.int .i64 a) (.int .i64 b) (.int .i64 c) (.int .i64 d) 55 _ rfl).alloc4 (.int .i64 e) (.int .i64 f) (.int .i64 g) (.int .i64 h) 55 (w1.heap.size + 1) (by simp)
        clear K1
        have k0 := K2.get 0 rfl
        have k1 := K2.get 1 rfl
        have k2 := K2.get 2 rfl
        have k3 := K2.get 3 rfl
        have k4 := K2.get 4 rfl
        have k5 := K2.get 5 rfl
        have k6 := K2.get 6 rfl
        have k7 := K2.get 7 rfl
        go_wp2_with fail
        refine (DD3.out _).mono ?_
        rintro r9 w3 ⟨rfl, hb⟩
        have K3 := K2.step hb
        clear hb K2 k0 k1 k2 k3 k4 k5 k6 k7
        have k0 := K3.get 0 rfl
        have k1 := K3.get 1 rfl
        have k2 := K3.get 2 rfl
        have k3 := K3.get 3 rfl
        have k4 := K3.get 4 rfl
        have k5 := K3.get 5 rfl
        have k6 := K3.get 6 rfl
        have k7 := K3.get 7 rfl
        go_wp2_with fail
        refine (DD4.out _).mono ?_
        rintro r9 w4 ⟨rfl, hb⟩
        have K4 := K3.step hb
        clear hb K3 k0 k1 k2 k3 k4 k5 k6 k7
        go_wp2
        go_ret
        exact ⟨by rw [E.out]; rfl, K4.1⟩
      · rw [if_neg t4] at E0
        rw [decide_eq_false t4] at D4
        have DD4 := Lib.hid D4
        have E := Lib.hid E0
        clear E0 D4 t4
        go_enter Tryd.func18, Tryd.ntmps18
        go_wp2_with fail
        have K0 := (((Kept.start w).alloc4 (.int .i64 a) (.int .i64 b) (.int .i64 c) (.int .i64 d) 29 _ rfl).alloc4 (.int .i64 e) (.int .i64 f) (.int .i64 g) (.int .i64 h) 29 (w.heap.size + 1) (by simp))
        refine (DD1.out _).mono ?_
        rintro r9 w1 ⟨rfl, hb⟩
        have K1 := K0.step hb
        clear hb K0
        have K2 := (K1.alloc4 (.int .i64 a) (.int .i64 b) (.int .i64 c) (.int .i64 d) 55 _ rfl).alloc4 (.int .i64 e) (.int .i64 f) (.int .i64 g) (.int .i64 h) 55 (w1.heap.size + 1) (by simp)
        clear K1
        have k0 := K2.get 0 rfl
        have k1 := K2.get 1 rfl
        have k2 := K2.get 2 rfl
        have k3 := K2.get 3 rfl
        have k4 := K2.get 4 rfl
        have k5 := K2.get 5 rfl
        have k6 := K2.get 6 rfl
        have k7 := K2.get 7 rfl
        go_wp2_with fail
        refine (DD3.out _).mono ?_
        rintro r9 w3 ⟨rfl, hb⟩
        have K3 := K2.step hb
        clear hb K2 k0 k1 k2 k3 k4 k5 k6 k7
        have k0 := K3.get 0 rfl
        have k1 := K3.get 1 rfl
        have k2 := K3.get 2 rfl
        have k3 := K3.get 3 rfl
        have k4 := K3.get 4 rfl
        have k5 := K3.get 5 rfl
        have k6 := K3.get 6 rfl
        have k7 := K3.get 7 rfl
        go_wp2_with fail
        refine (DD4.out _).mono ?_
        rintro r9 w4 ⟨rfl, hb⟩
        have K4 := K3.step hb
        clear hb K3 k0 k1 k2 k3 k4 k5 k6 k7
        go_wp2
        go_ret
        exact ⟨by rw [E.out]; rfl, K4.1⟩
end Go.Proofs.YtdfmidihghoilaaDoor
