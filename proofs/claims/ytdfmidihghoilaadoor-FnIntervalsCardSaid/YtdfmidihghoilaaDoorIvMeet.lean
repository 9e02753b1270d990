/-
  The walk over the model's Meet.
-/
import Derived.Test.YtdfmidihghoilaaDoorRows
import Derived.Test.YtdfmidihghoilaaDoorIvSpec
import Derived.Test.YtdfmidihghoilaaDoorKeep
import Derived.WalkKit
import Derived.WalkSpells
import Derived.WalkLawsBesides
import Derived.IntWalk
import Derived.Lib.Hide
namespace Go.Proofs.YtdfmidihghoilaaDoor
open Go.RowKit Num

/-- The bounds of what both contain. -/
def mtL (a b e f : Int) : Int × Int := if 0 < cmpA e f a b then (e, f) else (a, b)
def mtH (c d g h : Int) : Int × Int := if cmpA g h c d < 0 then (g, h) else (c, d)
def mtB (a b c d e f g h : Int) : Bool := ivB a b c d && (ivB e f g h && ivB (mtL a b e f).1 (mtL a b e f).2 (mtH c d g h).1 (mtH c d g h).2)

theorem mt_and {p q r : Bool} (hp : p = true) (hq : q = true) : (p && (q && r)) = r := by rw [hp, hq]; rfl

/-- Meet's answer. -/
def MtAns (a b c d e f g h : Int) (w : World) (r : Ending) (w' : World) : Prop :=
  r = .returned (if mtB a b c d e f g h = true then .tuple #[.agg #[.int .i64 (mtL a b e f).1, .int .i64 (mtL a b e f).2, .int .i64 (mtH c d g h).1, .int .i64 (mtH c d g h).2], .bool true] else .tuple #[.agg #[.int .i64 0, .int .i64 0, .int .i64 0, .int .i64 0], .bool false]) ∧ Below w.heap.size w w'

theorem MtAns.no {a b c d e f g h : Int} (w w' : World) (hq : mtB a b c d e f g h = false) (hb : Below w.heap.size w w') : MtAns a b c d e f g h w (.returned (.tuple #[.agg #[.int .i64 0, .int .i64 0, .int .i64 0, .int .i64 0], .bool false])) w' := ⟨by rw [if_neg (by rw [hq]; simp)], hb⟩
theorem MtAns.yes {a b c d e f g h l1 l2 h1 h2 : Int} (w w' : World) (hq : mtB a b c d e f g h = true) (e1 : mtL a b e f = (l1, l2)) (e2 : mtH c d g h = (h1, h2)) (hb : Below w.heap.size w w') : MtAns a b c d e f g h w (.returned (.tuple #[.agg #[.int .i64 l1, .int .i64 l2, .int .i64 h1, .int .i64 h2], .bool true])) w' := ⟨by rw [if_pos hq, e1, e2], hb⟩

set_option maxRecDepth 8000 in
set_option maxHeartbeats 3200000 in
theorem spec_mt_no1 (a b c d e f g h : Int) (w : World) (ha : -9223372036854775808 ≤ a ∧ a ≤ 9223372036854775807) (hc : -9223372036854775808 ≤ c ∧ c ≤ 9223372036854775807) (he : -9223372036854775808 ≤ e ∧ e ≤ 9223372036854775807) (hg : -9223372036854775808 ≤ g ∧ g ≤ 9223372036854775807) (hq : ivB a b c d = false) :
    Calls Tryd.prog 15 #[.agg #[.int .i64 a, .int .i64 b, .int .i64 c, .int .i64 d], .agg #[.int .i64 e, .int .i64 f, .int .i64 g, .int .i64 h]] w (MtAns a b c d e f g h w) := by
  have D1 := fun w => spec_iv a b c d w ha hc
  rw [hq] at D1
  have DD1 := Lib.hid D1
  have N := Lib.hid (show mtB a b c d e f g h = false by unfold mtB; rw [hq]; rfl)
  clear D1 hq
  go_enter Tryd.func15, Tryd.ntmps15
  go_wp2_with fail
  have K0 := (((Kept.start w).alloc4 (.int .i64 a) (.int .i64 b) (.int .i64 c) (.int .i64 d) 29 _ rfl).alloc4 (.int .i64 e) (.int .i64 f) (.int .i64 g) (.int .i64 h) 29 (w.heap.size + 1) (by simp)).alloc4 (.int .i64 0) (.int .i64 0) (.int .i64 0) (.int .i64 0) 29 (w.heap.size + 1 + 1) (by simp)
  refine (DD1.out _).mono ?_
  rintro r9 w1 ⟨rfl, hb⟩
  have K1 := K0.step hb
  clear hb K0
  have r0 := K1.get 0 rfl
  have r1 := K1.get 1 rfl
  have r2 := K1.get 2 rfl
  have r3 := K1.get 3 rfl
  have g0 := K1.fz 0 rfl
  have g1 := K1.fz 1 rfl
  have g2 := K1.fz 2 rfl
  have g3 := K1.fz 3 rfl
  have z := K1.lt 0 rfl
  go_wp2
  exact bodyPost_ret (v := .tuple #[.agg #[.int .i64 0, .int .i64 0, .int .i64 0, .int .i64 0], .bool false]) (by simp [results, Tryd.results15, go_sem, r0, r1, r2, r3, z]) rfl (MtAns.no _ _ N.out ((((K1.1.setCell (p := ⟨w.heap.size + 1 + 1, 0, none⟩) (by simp only; omega) _).setCell (p := ⟨w.heap.size + 1 + 1, 1, none⟩) (by simp only; omega) _).setCell (p := ⟨w.heap.size + 1 + 1, 2, none⟩) (by simp only; omega) _).setCell (p := ⟨w.heap.size + 1 + 1, 3, none⟩) (by simp only; omega) _))

set_option maxRecDepth 8000 in
set_option maxHeartbeats 3200000 in
theorem spec_mt_no2 (a b c d e f g h : Int) (w : World) (ha : -9223372036854775808 ≤ a ∧ a ≤ 9223372036854775807) (hc : -9223372036854775808 ≤ c ∧ c ≤ 9223372036854775807) (he : -9223372036854775808 ≤ e ∧ e ≤ 9223372036854775807) (hg : -9223372036854775808 ≤ g ∧ g ≤ 9223372036854775807) (hp : ivB a b c d = true) (hq : ivB e f g h = false) :
    Calls Tryd.prog 15 #[.agg #[.int .i64 a, .int .i64 b, .int .i64 c, .int .i64 d], .agg #[.int .i64 e, .int .i64 f, .int .i64 g, .int .i64 h]] w (MtAns a b c d e f g h w) := by
  have D1 := fun w => spec_iv a b c d w ha hc
  have D2 := fun w => spec_iv e f g h w he hg
  rw [hp] at D1
  rw [hq] at D2
  have DD1 := Lib.hid D1
  have DD2 := Lib.hid D2
  have N := Lib.hid (show mtB a b c d e f g h = false by unfold mtB; rw [hp, hq]; rfl)
  clear D1 D2 hp hq
  go_enter Tryd.func15, Tryd.ntmps15
  go_wp2_with fail
  have K0 := (((Kept.start w).alloc4 (.int .i64 a) (.int .i64 b) (.int .i64 c) (.int .i64 d) 29 _ rfl).alloc4 (.int .i64 e) (.int .i64 f) (.int .i64 g) (.int .i64 h) 29 (w.heap.size + 1) (by simp)).alloc4 (.int .i64 0) (.int .i64 0) (.int .i64 0) (.int .i64 0) 29 (w.heap.size + 1 + 1) (by simp)
  refine (DD1.out _).mono ?_
  rintro r9 w1 ⟨rfl, hb⟩
  have K1 := K0.step hb
  clear hb K0
  have k4 := K1.get 4 rfl
  have k5 := K1.get 5 rfl
  have k6 := K1.get 6 rfl
  have k7 := K1.get 7 rfl
  go_wp2_with fail
  refine (DD2.out _).mono ?_
  rintro r9 w2 ⟨rfl, hb⟩
  have K2 := K1.step hb
  clear hb K1 k4 k5 k6 k7
  have r0 := K2.get 0 rfl
  have r1 := K2.get 1 rfl
  have r2 := K2.get 2 rfl
  have r3 := K2.get 3 rfl
  have g0 := K2.fz 0 rfl
  have g1 := K2.fz 1 rfl
  have g2 := K2.fz 2 rfl
  have g3 := K2.fz 3 rfl
  have z := K2.lt 0 rfl
  go_wp2
  exact bodyPost_ret (v := .tuple #[.agg #[.int .i64 0, .int .i64 0, .int .i64 0, .int .i64 0], .bool false]) (by simp [results, Tryd.results15, go_sem, r0, r1, r2, r3, z]) rfl (MtAns.no _ _ N.out ((((K2.1.setCell (p := ⟨w.heap.size + 1 + 1, 0, none⟩) (by simp only; omega) _).setCell (p := ⟨w.heap.size + 1 + 1, 1, none⟩) (by simp only; omega) _).setCell (p := ⟨w.heap.size + 1 + 1, 2, none⟩) (by simp only; omega) _).setCell (p := ⟨w.heap.size + 1 + 1, 3, none⟩) (by simp only; omega) _))

set_option maxRecDepth 8000 in
set_option maxHeartbeats 6400000 in
theorem spec_mt_00 (a b c d e f g h : Int) (w : World) (ha : -9223372036854775808 ≤ a ∧ a ≤ 9223372036854775807) (hc : -9223372036854775808 ≤ c ∧ c ≤ 9223372036854775807) (he : -9223372036854775808 ≤ e ∧ e ≤ 9223372036854775807) (hg : -9223372036854775808 ≤ g ∧ g ≤ 9223372036854775807) (hp : ivB a b c d = true) (hq : ivB e f g h = true) (t5 : ¬ 0 < cmpA e f a b) (t6 : ¬ cmpA g h c d < 0) :
    Calls Tryd.prog 15 #[.agg #[.int .i64 a, .int .i64 b, .int .i64 c, .int .i64 d], .agg #[.int .i64 e, .int .i64 f, .int .i64 g, .int .i64 h]] w (MtAns a b c d e f g h w) := by
  have D1 := fun w => spec_iv a b c d w ha hc
  have D2 := fun w => spec_iv e f g h w he hg
  have D3 := fun w => spec_cmp e f a b w he ha
  have D4 := fun w => spec_cmp g h c d w hg hc
  have D5 := fun w => spec_iv a b c d w ha hc
  have e1 : mtL a b e f = (a, b) := by unfold mtL; rw [if_neg t5]
  have e2 : mtH c d g h = (c, d) := by unfold mtH; rw [if_neg t6]
  have eB : mtB a b c d e f g h = ivB a b c d := (mt_and hp hq).trans (by rw [e1, e2])
  rw [hp] at D1
  rw [hq] at D2
  obtain ⟨q3, hq3⟩ : ∃ q, q = cmpA e f a b := ⟨_, rfl⟩
  obtain ⟨q4, hq4⟩ : ∃ q, q = cmpA g h c d := ⟨_, rfl⟩
  obtain ⟨q5, hq5⟩ : ∃ q, q = ivB a b c d := ⟨_, rfl⟩
  rw [← hq3] at D3 t5
  rw [← hq4] at D4 t6
  rw [← hq5] at D5 eB
  have u5 : decide (0 < q3) = false := decide_eq_false t5
  have u6 : decide (q4 < 0) = false := decide_eq_false t6
  have DD1 := Lib.hid D1
  have DD2 := Lib.hid D2
  have DD3 := Lib.hid D3
  have DD4 := Lib.hid D4
  have DD5 := Lib.hid D5
  have E1 := Lib.hid e1
  have E2 := Lib.hid e2
  have EB := Lib.hid eB
  clear D1 D2 D3 D4 D5 e1 e2 eB hp hq hq3 hq4 hq5 ha hc he hg
  go_enter Tryd.func15, Tryd.ntmps15
  go_wp2_with fail
  have K0 := (((Kept.start w).alloc4 (.int .i64 a) (.int .i64 b) (.int .i64 c) (.int .i64 d) 29 _ rfl).alloc4 (.int .i64 e) (.int .i64 f) (.int .i64 g) (.int .i64 h) 29 (w.heap.size + 1) (by simp)).alloc4 (.int .i64 0) (.int .i64 0) (.int .i64 0) (.int .i64 0) 29 (w.heap.size + 1 + 1) (by simp)
  refine (DD1.out _).mono ?_
  rintro r9 w1 ⟨rfl, hb⟩
  have K1 := K0.step hb
  clear hb K0
  have k4 := K1.get 4 rfl
  have k5 := K1.get 5 rfl
  have k6 := K1.get 6 rfl
  have k7 := K1.get 7 rfl
  go_wp2_with fail
  refine (DD2.out _).mono ?_
  rintro r9 w2 ⟨rfl, hb⟩
  have K2 := K1.step hb
  clear hb K1 k4 k5 k6 k7
  have k8 := K2.get 8 rfl
  have k9 := K2.get 9 rfl
  have k10 := K2.get 10 rfl
  have k11 := K2.get 11 rfl
  have hzw : w.heap.size ≤ w2.heap.size := K2.1.size
  have hz1 : w.heap.size + 1 + 1 < w2.heap.size := K2.lt 0 rfl
  have hz2 : w.heap.size + 1 < w2.heap.size := K2.lt 4 rfl
  have hz3 : w.heap.size < w2.heap.size := K2.lt 8 rfl
  have K3 := K2.alloc4 (.int .i64 a) (.int .i64 b) (.int .i64 c) (.int .i64 d) 29 _ rfl
  have j4 := K2.get 4 rfl
  have j5 := K2.get 5 rfl
  have j6 := K2.get 6 rfl
  have j7 := K2.get 7 rfl
  go_wp2_with fail
  refine (DD3.out _).mono ?_
  rintro r9 w3 ⟨rfl, hb⟩
  have K4 := K3.step hb
  clear hb K3 K2 j4 j5 j6 j7 k8 k9 k10 k11
  have k0 := K4.get 0 rfl
  have k1 := K4.get 1 rfl
  have k2 := K4.get 2 rfl
  have k3 := K4.get 3 rfl
  have k8 := K4.get 8 rfl
  have k9 := K4.get 9 rfl
  have k10 := K4.get 10 rfl
  have k11 := K4.get 11 rfl
  have f0 := K4.fz 0 rfl
  have f1 := K4.fz 1 rfl
  have f2 := K4.fz 2 rfl
  have f3 := K4.fz 3 rfl
  go_wp2_with fail
  refine (DD4.out _).mono ?_
  rintro r9 w4 ⟨rfl, hb⟩
  have K6 := K4.step hb
  clear hb K4  k0 k1 k2 k3 k8 k9 k10 k11 f0 f1 f2 f3
  have k0 := K6.get 0 rfl
  have k1 := K6.get 1 rfl
  have k2 := K6.get 2 rfl
  have k3 := K6.get 3 rfl
  have k10 := K6.get 10 rfl
  have k11 := K6.get 11 rfl
  have f0 := K6.fz 0 rfl
  have f1 := K6.fz 1 rfl
  have f2 := K6.fz 2 rfl
  have f3 := K6.fz 3 rfl
  go_wp2_with fail
  refine (DD5.out _).mono ?_
  rintro r9 w5 ⟨rfl, hb⟩
  have K8 := K6.step hb
  clear hb K6  k0 k1 k2 k3 k10 k11 f0 f1 f2 f3
  have k0 := K8.get 0 rfl
  have k1 := K8.get 1 rfl
  have k2 := K8.get 2 rfl
  have k3 := K8.get 3 rfl
  cases q5
  · have r4 := K8.get 4 rfl
    have r5 := K8.get 5 rfl
    have r6 := K8.get 6 rfl
    have r7 := K8.get 7 rfl
    have g4 := K8.fz 4 rfl
    have g5 := K8.fz 5 rfl
    have g6 := K8.fz 6 rfl
    have g7 := K8.fz 7 rfl
    have z := K8.lt 4 rfl
    go_wp2
    exact bodyPost_ret (v := .tuple #[.agg #[.int .i64 0, .int .i64 0, .int .i64 0, .int .i64 0], .bool false]) (by simp [results, Tryd.results15, go_sem, r4, r5, r6, r7, z]) rfl (MtAns.no _ _ EB.out ((((K8.1.setCell (p := ⟨w.heap.size + 1 + 1, 0, none⟩) (by simp only; omega) _).setCell (p := ⟨w.heap.size + 1 + 1, 1, none⟩) (by simp only; omega) _).setCell (p := ⟨w.heap.size + 1 + 1, 2, none⟩) (by simp only; omega) _).setCell (p := ⟨w.heap.size + 1 + 1, 3, none⟩) (by simp only; omega) _))
  · have r4 := K8.get 4 rfl
    have r5 := K8.get 5 rfl
    have r6 := K8.get 6 rfl
    have r7 := K8.get 7 rfl
    have g4 := K8.fz 4 rfl
    have g5 := K8.fz 5 rfl
    have g6 := K8.fz 6 rfl
    have g7 := K8.fz 7 rfl
    have z := K8.lt 4 rfl
    go_wp2
    exact bodyPost_ret (v := .tuple #[.agg #[.int .i64 a, .int .i64 b, .int .i64 c, .int .i64 d], .bool true]) (by simp [results, Tryd.results15, go_sem, r4, r5, r6, r7, z]) rfl (MtAns.yes _ _ EB.out E1.out E2.out ((((K8.1.setCell (p := ⟨w.heap.size + 1 + 1, 0, none⟩) (by simp only; omega) _).setCell (p := ⟨w.heap.size + 1 + 1, 1, none⟩) (by simp only; omega) _).setCell (p := ⟨w.heap.size + 1 + 1, 2, none⟩) (by simp only; omega) _).setCell (p := ⟨w.heap.size + 1 + 1, 3, none⟩) (by simp only; omega) _))

set_option maxRecDepth 8000 in
set_option maxHeartbeats 6400000 in
theorem spec_mt_10 (a b c d e f g h : Int) (w : World) (ha : -9223372036854775808 ≤ a ∧ a ≤ 9223372036854775807) (hc : -9223372036854775808 ≤ c ∧ c ≤ 9223372036854775807) (he : -9223372036854775808 ≤ e ∧ e ≤ 9223372036854775807) (hg : -9223372036854775808 ≤ g ∧ g ≤ 9223372036854775807) (hp : ivB a b c d = true) (hq : ivB e f g h = true) (t5 : 0 < cmpA e f a b) (t6 : ¬ cmpA g h c d < 0) :
    Calls Tryd.prog 15 #[.agg #[.int .i64 a, .int .i64 b, .int .i64 c, .int .i64 d], .agg #[.int .i64 e, .int .i64 f, .int .i64 g, .int .i64 h]] w (MtAns a b c d e f g h w) := by
  have D1 := fun w => spec_iv a b c d w ha hc
  have D2 := fun w => spec_iv e f g h w he hg
  have D3 := fun w => spec_cmp e f a b w he ha
  have D4 := fun w => spec_cmp g h c d w hg hc
  have D5 := fun w => spec_iv e f c d w he hc
  have e1 : mtL a b e f = (e, f) := by unfold mtL; rw [if_pos t5]
  have e2 : mtH c d g h = (c, d) := by unfold mtH; rw [if_neg t6]
  have eB : mtB a b c d e f g h = ivB e f c d := (mt_and hp hq).trans (by rw [e1, e2])
  rw [hp] at D1
  rw [hq] at D2
  obtain ⟨q3, hq3⟩ : ∃ q, q = cmpA e f a b := ⟨_, rfl⟩
  obtain ⟨q4, hq4⟩ : ∃ q, q = cmpA g h c d := ⟨_, rfl⟩
  obtain ⟨q5, hq5⟩ : ∃ q, q = ivB e f c d := ⟨_, rfl⟩
  rw [← hq3] at D3 t5
  rw [← hq4] at D4 t6
  rw [← hq5] at D5 eB
  have u5 : decide (0 < q3) = true := decide_eq_true t5
  have u6 : decide (q4 < 0) = false := decide_eq_false t6
  have DD1 := Lib.hid D1
  have DD2 := Lib.hid D2
  have DD3 := Lib.hid D3
  have DD4 := Lib.hid D4
  have DD5 := Lib.hid D5
  have E1 := Lib.hid e1
  have E2 := Lib.hid e2
  have EB := Lib.hid eB
  clear D1 D2 D3 D4 D5 e1 e2 eB hp hq hq3 hq4 hq5 ha hc he hg
  go_enter Tryd.func15, Tryd.ntmps15
  go_wp2_with fail
  have K0 := (((Kept.start w).alloc4 (.int .i64 a) (.int .i64 b) (.int .i64 c) (.int .i64 d) 29 _ rfl).alloc4 (.int .i64 e) (.int .i64 f) (.int .i64 g) (.int .i64 h) 29 (w.heap.size + 1) (by simp)).alloc4 (.int .i64 0) (.int .i64 0) (.int .i64 0) (.int .i64 0) 29 (w.heap.size + 1 + 1) (by simp)
  refine (DD1.out _).mono ?_
  rintro r9 w1 ⟨rfl, hb⟩
  have K1 := K0.step hb
  clear hb K0
  have k4 := K1.get 4 rfl
  have k5 := K1.get 5 rfl
  have k6 := K1.get 6 rfl
  have k7 := K1.get 7 rfl
  go_wp2_with fail
  refine (DD2.out _).mono ?_
  rintro r9 w2 ⟨rfl, hb⟩
  have K2 := K1.step hb
  clear hb K1 k4 k5 k6 k7
  have k8 := K2.get 8 rfl
  have k9 := K2.get 9 rfl
  have k10 := K2.get 10 rfl
  have k11 := K2.get 11 rfl
  have hzw : w.heap.size ≤ w2.heap.size := K2.1.size
  have hz1 : w.heap.size + 1 + 1 < w2.heap.size := K2.lt 0 rfl
  have hz2 : w.heap.size + 1 < w2.heap.size := K2.lt 4 rfl
  have hz3 : w.heap.size < w2.heap.size := K2.lt 8 rfl
  have K3 := K2.alloc4 (.int .i64 a) (.int .i64 b) (.int .i64 c) (.int .i64 d) 29 _ rfl
  have j4 := K2.get 4 rfl
  have j5 := K2.get 5 rfl
  have j6 := K2.get 6 rfl
  have j7 := K2.get 7 rfl
  go_wp2_with fail
  refine (DD3.out _).mono ?_
  rintro r9 w3 ⟨rfl, hb⟩
  have K4 := K3.step hb
  clear hb K3 K2 j4 j5 j6 j7 k8 k9 k10 k11
  have k0 := K4.get 0 rfl
  have k1 := K4.get 1 rfl
  have k2 := K4.get 2 rfl
  have k3 := K4.get 3 rfl
  have k8 := K4.get 8 rfl
  have k9 := K4.get 9 rfl
  have k10 := K4.get 10 rfl
  have k11 := K4.get 11 rfl
  have f0 := K4.fz 0 rfl
  have f1 := K4.fz 1 rfl
  have f2 := K4.fz 2 rfl
  have f3 := K4.fz 3 rfl
  have K5a := Kept.set (p := []) K4 (.int .i64 e) hzw (by simp only [List.cons_append, List.nil_append, List.mem_cons, List.not_mem_nil, or_false]; rintro c9 (rfl | rfl | rfl | rfl | rfl | rfl | rfl | rfl | rfl | rfl | rfl | rfl | rfl | rfl | rfl) <;> simp <;> omega)
  have K5 := Kept.set (p := [(⟨w2.heap.size, 0, none⟩, .int .i64 e)]) K5a (.int .i64 f) hzw (by simp only [List.cons_append, List.nil_append, List.mem_cons, List.not_mem_nil, or_false]; rintro c9 (rfl | rfl | rfl | rfl | rfl | rfl | rfl | rfl | rfl | rfl | rfl | rfl | rfl | rfl | rfl) <;> simp <;> omega)
  have m0 := K5.get 0 rfl
  have m1 := K5.get 1 rfl
  have m2 := K5.get 2 rfl
  have m3 := K5.get 3 rfl
  have m10 := K5.get 10 rfl
  have m11 := K5.get 11 rfl
  go_wp2_with fail
  refine (DD4.out _).mono ?_
  rintro r9 w4 ⟨rfl, hb⟩
  have K6 := K5.step hb
  clear hb K4 K5 K5a m0 m1 m2 m3 m10 m11 k0 k1 k2 k3 k8 k9 k10 k11 f0 f1 f2 f3
  have k0 := K6.get 0 rfl
  have k1 := K6.get 1 rfl
  have k2 := K6.get 2 rfl
  have k3 := K6.get 3 rfl
  have k10 := K6.get 10 rfl
  have k11 := K6.get 11 rfl
  have f0 := K6.fz 0 rfl
  have f1 := K6.fz 1 rfl
  have f2 := K6.fz 2 rfl
  have f3 := K6.fz 3 rfl
  go_wp2_with fail
  refine (DD5.out _).mono ?_
  rintro r9 w5 ⟨rfl, hb⟩
  have K8 := K6.step hb
  clear hb K6  k0 k1 k2 k3 k10 k11 f0 f1 f2 f3
  have k0 := K8.get 0 rfl
  have k1 := K8.get 1 rfl
  have k2 := K8.get 2 rfl
  have k3 := K8.get 3 rfl
  cases q5
  · have r4 := K8.get 4 rfl
    have r5 := K8.get 5 rfl
    have r6 := K8.get 6 rfl
    have r7 := K8.get 7 rfl
    have g4 := K8.fz 4 rfl
    have g5 := K8.fz 5 rfl
    have g6 := K8.fz 6 rfl
    have g7 := K8.fz 7 rfl
    have z := K8.lt 4 rfl
    go_wp2
    exact bodyPost_ret (v := .tuple #[.agg #[.int .i64 0, .int .i64 0, .int .i64 0, .int .i64 0], .bool false]) (by simp [results, Tryd.results15, go_sem, r4, r5, r6, r7, z]) rfl (MtAns.no _ _ EB.out ((((K8.1.setCell (p := ⟨w.heap.size + 1 + 1, 0, none⟩) (by simp only; omega) _).setCell (p := ⟨w.heap.size + 1 + 1, 1, none⟩) (by simp only; omega) _).setCell (p := ⟨w.heap.size + 1 + 1, 2, none⟩) (by simp only; omega) _).setCell (p := ⟨w.heap.size + 1 + 1, 3, none⟩) (by simp only; omega) _))
  · have r4 := K8.get 4 rfl
    have r5 := K8.get 5 rfl
    have r6 := K8.get 6 rfl
    have r7 := K8.get 7 rfl
    have g4 := K8.fz 4 rfl
    have g5 := K8.fz 5 rfl
    have g6 := K8.fz 6 rfl
    have g7 := K8.fz 7 rfl
    have z := K8.lt 4 rfl
    go_wp2
    exact bodyPost_ret (v := .tuple #[.agg #[.int .i64 e, .int .i64 f, .int .i64 c, .int .i64 d], .bool true]) (by simp [results, Tryd.results15, go_sem, r4, r5, r6, r7, z]) rfl (MtAns.yes _ _ EB.out E1.out E2.out ((((K8.1.setCell (p := ⟨w.heap.size + 1 + 1, 0, none⟩) (by simp only; omega) _).setCell (p := ⟨w.heap.size + 1 + 1, 1, none⟩) (by simp only; omega) _).setCell (p := ⟨w.heap.size + 1 + 1, 2, none⟩) (by simp only; omega) _).setCell (p := ⟨w.heap.size + 1 + 1, 3, none⟩) (by simp only; omega) _))

set_option maxRecDepth 8000 in
set_option maxHeartbeats 6400000 in
theorem spec_mt_01 (a b c d e f g h : Int) (w : World) (ha : -9223372036854775808 ≤ a ∧ a ≤ 9223372036854775807) (hc : -9223372036854775808 ≤ c ∧ c ≤ 9223372036854775807) (he : -9223372036854775808 ≤ e ∧ e ≤ 9223372036854775807) (hg : -9223372036854775808 ≤ g ∧ g ≤ 9223372036854775807) (hp : ivB a b c d = true) (hq : ivB e f g h = true) (t5 : ¬ 0 < cmpA e f a b) (t6 : cmpA g h c d < 0) :
    Calls Tryd.prog 15 #[.agg #[.int .i64 a, .int .i64 b, .int .i64 c, .int .i64 d], .agg #[.int .i64 e, .int .i64 f, .int .i64 g, .int .i64 h]] w (MtAns a b c d e f g h w) := by
  have D1 := fun w => spec_iv a b c d w ha hc
  have D2 := fun w => spec_iv e f g h w he hg
  have D3 := fun w => spec_cmp e f a b w he ha
  have D4 := fun w => spec_cmp g h c d w hg hc
  have D5 := fun w => spec_iv a b g h w ha hg
  have e1 : mtL a b e f = (a, b) := by unfold mtL; rw [if_neg t5]
  have e2 : mtH c d g h = (g, h) := by unfold mtH; rw [if_pos t6]
  have eB : mtB a b c d e f g h = ivB a b g h := (mt_and hp hq).trans (by rw [e1, e2])
  rw [hp] at D1
  rw [hq] at D2
  obtain ⟨q3, hq3⟩ : ∃ q, q = cmpA e f a b := ⟨_, rfl⟩
  obtain ⟨q4, hq4⟩ : ∃ q, q = cmpA g h c d := ⟨_, rfl⟩
  obtain ⟨q5, hq5⟩ : ∃ q, q = ivB a b g h := ⟨_, rfl⟩
  rw [← hq3] at D3 t5
  rw [← hq4] at D4 t6
  rw [← hq5] at D5 eB
  have u5 : decide (0 < q3) = false := decide_eq_false t5
  have u6 : decide (q4 < 0) = true := decide_eq_true t6
  have DD1 := Lib.hid D1
  have DD2 := Lib.hid D2
  have DD3 := Lib.hid D3
  have DD4 := Lib.hid D4
  have DD5 := Lib.hid D5
  have E1 := Lib.hid e1
  have E2 := Lib.hid e2
  have EB := Lib.hid eB
  clear D1 D2 D3 D4 D5 e1 e2 eB hp hq hq3 hq4 hq5 ha hc he hg
  go_enter Tryd.func15, Tryd.ntmps15
  go_wp2_with fail
  have K0 := (((Kept.start w).alloc4 (.int .i64 a) (.int .i64 b) (.int .i64 c) (.int .i64 d) 29 _ rfl).alloc4 (.int .i64 e) (.int .i64 f) (.int .i64 g) (.int .i64 h) 29 (w.heap.size + 1) (by simp)).alloc4 (.int .i64 0) (.int .i64 0) (.int .i64 0) (.int .i64 0) 29 (w.heap.size + 1 + 1) (by simp)
  refine (DD1.out _).mono ?_
  rintro r9 w1 ⟨rfl, hb⟩
  have K1 := K0.step hb
  clear hb K0
  have k4 := K1.get 4 rfl
  have k5 := K1.get 5 rfl
  have k6 := K1.get 6 rfl
  have k7 := K1.get 7 rfl
  go_wp2_with fail
  refine (DD2.out _).mono ?_
  rintro r9 w2 ⟨rfl, hb⟩
  have K2 := K1.step hb
  clear hb K1 k4 k5 k6 k7
  have k8 := K2.get 8 rfl
  have k9 := K2.get 9 rfl
  have k10 := K2.get 10 rfl
  have k11 := K2.get 11 rfl
  have hzw : w.heap.size ≤ w2.heap.size := K2.1.size
  have hz1 : w.heap.size + 1 + 1 < w2.heap.size := K2.lt 0 rfl
  have hz2 : w.heap.size + 1 < w2.heap.size := K2.lt 4 rfl
  have hz3 : w.heap.size < w2.heap.size := K2.lt 8 rfl
  have K3 := K2.alloc4 (.int .i64 a) (.int .i64 b) (.int .i64 c) (.int .i64 d) 29 _ rfl
  have j4 := K2.get 4 rfl
  have j5 := K2.get 5 rfl
  have j6 := K2.get 6 rfl
  have j7 := K2.get 7 rfl
  go_wp2_with fail
  refine (DD3.out _).mono ?_
  rintro r9 w3 ⟨rfl, hb⟩
  have K4 := K3.step hb
  clear hb K3 K2 j4 j5 j6 j7 k8 k9 k10 k11
  have k0 := K4.get 0 rfl
  have k1 := K4.get 1 rfl
  have k2 := K4.get 2 rfl
  have k3 := K4.get 3 rfl
  have k8 := K4.get 8 rfl
  have k9 := K4.get 9 rfl
  have k10 := K4.get 10 rfl
  have k11 := K4.get 11 rfl
  have f0 := K4.fz 0 rfl
  have f1 := K4.fz 1 rfl
  have f2 := K4.fz 2 rfl
  have f3 := K4.fz 3 rfl
  go_wp2_with fail
  refine (DD4.out _).mono ?_
  rintro r9 w4 ⟨rfl, hb⟩
  have K6 := K4.step hb
  clear hb K4  k0 k1 k2 k3 k8 k9 k10 k11 f0 f1 f2 f3
  have k0 := K6.get 0 rfl
  have k1 := K6.get 1 rfl
  have k2 := K6.get 2 rfl
  have k3 := K6.get 3 rfl
  have k10 := K6.get 10 rfl
  have k11 := K6.get 11 rfl
  have f0 := K6.fz 0 rfl
  have f1 := K6.fz 1 rfl
  have f2 := K6.fz 2 rfl
  have f3 := K6.fz 3 rfl
  have K7a := Kept.set (p := [(⟨w2.heap.size, 0, none⟩, .int .i64 a), (⟨w2.heap.size, 1, none⟩, .int .i64 b)]) K6 (.int .i64 g) hzw (by simp only [List.cons_append, List.nil_append, List.mem_cons, List.not_mem_nil, or_false]; rintro c9 (rfl | rfl | rfl | rfl | rfl | rfl | rfl | rfl | rfl | rfl | rfl | rfl | rfl | rfl | rfl) <;> simp <;> omega)
  have K7 := Kept.set (p := [(⟨w2.heap.size, 0, none⟩, .int .i64 a), (⟨w2.heap.size, 1, none⟩, .int .i64 b), (⟨w2.heap.size, 2, none⟩, .int .i64 g)]) K7a (.int .i64 h) hzw (by simp only [List.cons_append, List.nil_append, List.mem_cons, List.not_mem_nil, or_false]; rintro c9 (rfl | rfl | rfl | rfl | rfl | rfl | rfl | rfl | rfl | rfl | rfl | rfl | rfl | rfl | rfl) <;> simp <;> omega)
  have m0 := K7.get 0 rfl
  have m1 := K7.get 1 rfl
  have m2 := K7.get 2 rfl
  have m3 := K7.get 3 rfl
  go_wp2_with fail
  refine (DD5.out _).mono ?_
  rintro r9 w5 ⟨rfl, hb⟩
  have K8 := K7.step hb
  clear hb K6 K7 K7a m0 m1 m2 m3 k0 k1 k2 k3 k10 k11 f0 f1 f2 f3
  have k0 := K8.get 0 rfl
  have k1 := K8.get 1 rfl
  have k2 := K8.get 2 rfl
  have k3 := K8.get 3 rfl
  cases q5
  · have r4 := K8.get 4 rfl
    have r5 := K8.get 5 rfl
    have r6 := K8.get 6 rfl
    have r7 := K8.get 7 rfl
    have g4 := K8.fz 4 rfl
    have g5 := K8.fz 5 rfl
    have g6 := K8.fz 6 rfl
    have g7 := K8.fz 7 rfl
    have z := K8.lt 4 rfl
    go_wp2
    exact bodyPost_ret (v := .tuple #[.agg #[.int .i64 0, .int .i64 0, .int .i64 0, .int .i64 0], .bool false]) (by simp [results, Tryd.results15, go_sem, r4, r5, r6, r7, z]) rfl (MtAns.no _ _ EB.out ((((K8.1.setCell (p := ⟨w.heap.size + 1 + 1, 0, none⟩) (by simp only; omega) _).setCell (p := ⟨w.heap.size + 1 + 1, 1, none⟩) (by simp only; omega) _).setCell (p := ⟨w.heap.size + 1 + 1, 2, none⟩) (by simp only; omega) _).setCell (p := ⟨w.heap.size + 1 + 1, 3, none⟩) (by simp only; omega) _))
  · have r4 := K8.get 4 rfl
    have r5 := K8.get 5 rfl
    have r6 := K8.get 6 rfl
    have r7 := K8.get 7 rfl
    have g4 := K8.fz 4 rfl
    have g5 := K8.fz 5 rfl
    have g6 := K8.fz 6 rfl
    have g7 := K8.fz 7 rfl
    have z := K8.lt 4 rfl
    go_wp2
    exact bodyPost_ret (v := .tuple #[.agg #[.int .i64 a, .int .i64 b, .int .i64 g, .int .i64 h], .bool true]) (by simp [results, Tryd.results15, go_sem, r4, r5, r6, r7, z]) rfl (MtAns.yes _ _ EB.out E1.out E2.out ((((K8.1.setCell (p := ⟨w.heap.size + 1 + 1, 0, none⟩) (by simp only; omega) _).setCell (p := ⟨w.heap.size + 1 + 1, 1, none⟩) (by simp only; omega) _).setCell (p := ⟨w.heap.size + 1 + 1, 2, none⟩) (by simp only; omega) _).setCell (p := ⟨w.heap.size + 1 + 1, 3, none⟩) (by simp only; omega) _))

set_option maxRecDepth 8000 in
set_option maxHeartbeats 6400000 in
theorem spec_mt_11 (a b c d e f g h : Int) (w : World) (ha : -9223372036854775808 ≤ a ∧ a ≤ 9223372036854775807) (hc : -9223372036854775808 ≤ c ∧ c ≤ 9223372036854775807) (he : -9223372036854775808 ≤ e ∧ e ≤ 9223372036854775807) (hg : -9223372036854775808 ≤ g ∧ g ≤ 9223372036854775807) (hp : ivB a b c d = true) (hq : ivB e f g h = true) (t5 : 0 < cmpA e f a b) (t6 : cmpA g h c d < 0) :
    Calls Tryd.prog 15 #[.agg #[.int .i64 a, .int .i64 b, .int .i64 c, .int .i64 d], .agg #[.int .i64 e, .int .i64 f, .int .i64 g, .int .i64 h]] w (MtAns a b c d e f g h w) := by
  have D1 := fun w => spec_iv a b c d w ha hc
  have D2 := fun w => spec_iv e f g h w he hg
  have D3 := fun w => spec_cmp e f a b w he ha
  have D4 := fun w => spec_cmp g h c d w hg hc
  have D5 := fun w => spec_iv e f g h w he hg
  have e1 : mtL a b e f = (e, f) := by unfold mtL; rw [if_pos t5]
  have e2 : mtH c d g h = (g, h) := by unfold mtH; rw [if_pos t6]
  have eB : mtB a b c d e f g h = ivB e f g h := (mt_and hp hq).trans (by rw [e1, e2])
  rw [hp] at D1
  rw [hq] at D2
  obtain ⟨q3, hq3⟩ : ∃ q, q = cmpA e f a b := ⟨_, rfl⟩
  obtain ⟨q4, hq4⟩ : ∃ q, q = cmpA g h c d := ⟨_, rfl⟩
  obtain ⟨q5, hq5⟩ : ∃ q, q = ivB e f g h := ⟨_, rfl⟩
  rw [← hq3] at D3 t5
  rw [← hq4] at D4 t6
  rw [← hq5] at D5 eB
  have u5 : decide (0 < q3) = true := decide_eq_true t5
  have u6 : decide (q4 < 0) = true := decide_eq_true t6
  have DD1 := Lib.hid D1
  have DD2 := Lib.hid D2
  have DD3 := Lib.hid D3
  have DD4 := Lib.hid D4
  have DD5 := Lib.hid D5
  have E1 := Lib.hid e1
  have E2 := Lib.hid e2
  have EB := Lib.hid eB
  clear D1 D2 D3 D4 D5 e1 e2 eB hp hq hq3 hq4 hq5 ha hc he hg
  go_enter Tryd.func15, Tryd.ntmps15
  go_wp2_with fail
  have K0 := (((Kept.start w).alloc4 (.int .i64 a) (.int .i64 b) (.int .i64 c) (.int .i64 d) 29 _ rfl).alloc4 (.int .i64 e) (.int .i64 f) (.int .i64 g) (.int .i64 h) 29 (w.heap.size + 1) (by simp)).alloc4 (.int .i64 0) (.int .i64 0) (.int .i64 0) (.int .i64 0) 29 (w.heap.size + 1 + 1) (by simp)
  refine (DD1.out _).mono ?_
  rintro r9 w1 ⟨rfl, hb⟩
  have K1 := K0.step hb
  clear hb K0
  have k4 := K1.get 4 rfl
  have k5 := K1.get 5 rfl
  have k6 := K1.get 6 rfl
  have k7 := K1.get 7 rfl
  go_wp2_with fail
  refine (DD2.out _).mono ?_
  rintro r9 w2 ⟨rfl, hb⟩
  have K2 := K1.step hb
  clear hb K1 k4 k5 k6 k7
  have k8 := K2.get 8 rfl
  have k9 := K2.get 9 rfl
  have k10 := K2.get 10 rfl
  have k11 := K2.get 11 rfl
  have hzw : w.heap.size ≤ w2.heap.size := K2.1.size
  have hz1 : w.heap.size + 1 + 1 < w2.heap.size := K2.lt 0 rfl
  have hz2 : w.heap.size + 1 < w2.heap.size := K2.lt 4 rfl
  have hz3 : w.heap.size < w2.heap.size := K2.lt 8 rfl
  have K3 := K2.alloc4 (.int .i64 a) (.int .i64 b) (.int .i64 c) (.int .i64 d) 29 _ rfl
  have j4 := K2.get 4 rfl
  have j5 := K2.get 5 rfl
  have j6 := K2.get 6 rfl
  have j7 := K2.get 7 rfl
  go_wp2_with fail
  refine (DD3.out _).mono ?_
  rintro r9 w3 ⟨rfl, hb⟩
  have K4 := K3.step hb
  clear hb K3 K2 j4 j5 j6 j7 k8 k9 k10 k11
  have k0 := K4.get 0 rfl
  have k1 := K4.get 1 rfl
  have k2 := K4.get 2 rfl
  have k3 := K4.get 3 rfl
  have k8 := K4.get 8 rfl
  have k9 := K4.get 9 rfl
  have k10 := K4.get 10 rfl
  have k11 := K4.get 11 rfl
  have f0 := K4.fz 0 rfl
  have f1 := K4.fz 1 rfl
  have f2 := K4.fz 2 rfl
  have f3 := K4.fz 3 rfl
  have K5a := Kept.set (p := []) K4 (.int .i64 e) hzw (by simp only [List.cons_append, List.nil_append, List.mem_cons, List.not_mem_nil, or_false]; rintro c9 (rfl | rfl | rfl | rfl | rfl | rfl | rfl | rfl | rfl | rfl | rfl | rfl | rfl | rfl | rfl) <;> simp <;> omega)
  have K5 := Kept.set (p := [(⟨w2.heap.size, 0, none⟩, .int .i64 e)]) K5a (.int .i64 f) hzw (by simp only [List.cons_append, List.nil_append, List.mem_cons, List.not_mem_nil, or_false]; rintro c9 (rfl | rfl | rfl | rfl | rfl | rfl | rfl | rfl | rfl | rfl | rfl | rfl | rfl | rfl | rfl) <;> simp <;> omega)
  have m0 := K5.get 0 rfl
  have m1 := K5.get 1 rfl
  have m2 := K5.get 2 rfl
  have m3 := K5.get 3 rfl
  have m10 := K5.get 10 rfl
  have m11 := K5.get 11 rfl
  go_wp2_with fail
  refine (DD4.out _).mono ?_
  rintro r9 w4 ⟨rfl, hb⟩
  have K6 := K5.step hb
  clear hb K4 K5 K5a m0 m1 m2 m3 m10 m11 k0 k1 k2 k3 k8 k9 k10 k11 f0 f1 f2 f3
  have k0 := K6.get 0 rfl
  have k1 := K6.get 1 rfl
  have k2 := K6.get 2 rfl
  have k3 := K6.get 3 rfl
  have k10 := K6.get 10 rfl
  have k11 := K6.get 11 rfl
  have f0 := K6.fz 0 rfl
  have f1 := K6.fz 1 rfl
  have f2 := K6.fz 2 rfl
  have f3 := K6.fz 3 rfl
  have K7a := Kept.set (p := [(⟨w2.heap.size, 0, none⟩, .int .i64 e), (⟨w2.heap.size, 1, none⟩, .int .i64 f)]) K6 (.int .i64 g) hzw (by simp only [List.cons_append, List.nil_append, List.mem_cons, List.not_mem_nil, or_false]; rintro c9 (rfl | rfl | rfl | rfl | rfl | rfl | rfl | rfl | rfl | rfl | rfl | rfl | rfl | rfl | rfl) <;> simp <;> omega)
  have K7 := Kept.set (p := [(⟨w2.heap.size, 0, none⟩, .int .i64 e), (⟨w2.heap.size, 1, none⟩, .int .i64 f), (⟨w2.heap.size, 2, none⟩, .int .i64 g)]) K7a (.int .i64 h) hzw (by simp only [List.cons_append, List.nil_append, List.mem_cons, List.not_mem_nil, or_false]; rintro c9 (rfl | rfl | rfl | rfl | rfl | rfl | rfl | rfl | rfl | rfl | rfl | rfl | rfl | rfl | rfl) <;> simp <;> omega)
  have m0 := K7.get 0 rfl
  have m1 := K7.get 1 rfl
  have m2 := K7.get 2 rfl
  have m3 := K7.get 3 rfl
  go_wp2_with fail
  refine (DD5.out _).mono ?_
  rintro r9 w5 ⟨rfl, hb⟩
  have K8 := K7.step hb
  clear hb K6 K7 K7a m0 m1 m2 m3 k0 k1 k2 k3 k10 k11 f0 f1 f2 f3
  have k0 := K8.get 0 rfl
  have k1 := K8.get 1 rfl
  have k2 := K8.get 2 rfl
  have k3 := K8.get 3 rfl
  cases q5
  · have r4 := K8.get 4 rfl
    have r5 := K8.get 5 rfl
    have r6 := K8.get 6 rfl
    have r7 := K8.get 7 rfl
    have g4 := K8.fz 4 rfl
    have g5 := K8.fz 5 rfl
    have g6 := K8.fz 6 rfl
    have g7 := K8.fz 7 rfl
    have z := K8.lt 4 rfl
    go_wp2
    exact bodyPost_ret (v := .tuple #[.agg #[.int .i64 0, .int .i64 0, .int .i64 0, .int .i64 0], .bool false]) (by simp [results, Tryd.results15, go_sem, r4, r5, r6, r7, z]) rfl (MtAns.no _ _ EB.out ((((K8.1.setCell (p := ⟨w.heap.size + 1 + 1, 0, none⟩) (by simp only; omega) _).setCell (p := ⟨w.heap.size + 1 + 1, 1, none⟩) (by simp only; omega) _).setCell (p := ⟨w.heap.size + 1 + 1, 2, none⟩) (by simp only; omega) _).setCell (p := ⟨w.heap.size + 1 + 1, 3, none⟩) (by simp only; omega) _))
  · have r4 := K8.get 4 rfl
    have r5 := K8.get 5 rfl
    have r6 := K8.get 6 rfl
    have r7 := K8.get 7 rfl
    have g4 := K8.fz 4 rfl
    have g5 := K8.fz 5 rfl
    have g6 := K8.fz 6 rfl
    have g7 := K8.fz 7 rfl
    have z := K8.lt 4 rfl
    go_wp2
    exact bodyPost_ret (v := .tuple #[.agg #[.int .i64 e, .int .i64 f, .int .i64 g, .int .i64 h], .bool true]) (by simp [results, Tryd.results15, go_sem, r4, r5, r6, r7, z]) rfl (MtAns.yes _ _ EB.out E1.out E2.out ((((K8.1.setCell (p := ⟨w.heap.size + 1 + 1, 0, none⟩) (by simp only; omega) _).setCell (p := ⟨w.heap.size + 1 + 1, 1, none⟩) (by simp only; omega) _).setCell (p := ⟨w.heap.size + 1 + 1, 2, none⟩) (by simp only; omega) _).setCell (p := ⟨w.heap.size + 1 + 1, 3, none⟩) (by simp only; omega) _))

theorem spec_mt (a b c d e f g h : Int) (w : World) (ha : -9223372036854775808 ≤ a ∧ a ≤ 9223372036854775807) (hc : -9223372036854775808 ≤ c ∧ c ≤ 9223372036854775807) (he : -9223372036854775808 ≤ e ∧ e ≤ 9223372036854775807) (hg : -9223372036854775808 ≤ g ∧ g ≤ 9223372036854775807) :
    Calls Tryd.prog 15 #[.agg #[.int .i64 a, .int .i64 b, .int .i64 c, .int .i64 d], .agg #[.int .i64 e, .int .i64 f, .int .i64 g, .int .i64 h]] w (MtAns a b c d e f g h w) := by
  cases hp : ivB a b c d
  · exact spec_mt_no1 a b c d e f g h w ha hc he hg hp
  · cases hq : ivB e f g h
    · exact spec_mt_no2 a b c d e f g h w ha hc he hg hp hq
    · by_cases t5 : 0 < cmpA e f a b
      · by_cases t6 : cmpA g h c d < 0
        · exact spec_mt_11 a b c d e f g h w ha hc he hg hp hq t5 t6
        · exact spec_mt_10 a b c d e f g h w ha hc he hg hp hq t5 t6
      · by_cases t6 : cmpA g h c d < 0
        · exact spec_mt_01 a b c d e f g h w ha hc he hg hp hq t5 t6
        · exact spec_mt_00 a b c d e f g h w ha hc he hg hp hq t5 t6
end Go.Proofs.YtdfmidihghoilaaDoor
