/-
  The walks over the project's Meet and the two functions that choose its bounds.
-/
import Derived.Test.YtdfmidihghoilaaDoorRows
import Derived.Test.YtdfmidihghoilaaDoorIiImpl
import Derived.Test.YtdfmidihghoilaaDoorIvMeet
import Derived.Test.YtdfmidihghoilaaDoorMtMore
import Derived.Test.YtdfmidihghoilaaDoorKeep
import Derived.WalkKit
import Derived.WalkSpells
import Derived.WalkLawsBesides
import Derived.IntWalk
import Derived.Lib.Hide
namespace Go.Proofs.YtdfmidihghoilaaDoor
open Go.RowKit Num

set_option maxRecDepth 8000 in
set_option maxHeartbeats 6400000 in
theorem impl_gr (a b c d : Int) (w : World) :
    Calls Tryd.prog 39 #[.agg #[.int .i64 a, .int .i64 b], .agg #[.int .i64 c, .int .i64 d]] w fun r9 w' => r9 = .returned (.agg #[.int .i64 (mjL a b c d).1, .int .i64 (mjL a b c d).2]) ∧ Below w.heap.size w w' := by
  have D1 := fun w => impl_cmp a b c d w
  have E0 : mjL a b c d = (if 0 < cmpA a b c d then (a, b) else (c, d)) := rfl
  obtain ⟨q1, hq1⟩ : ∃ q, q = cmpA a b c d := ⟨_, rfl⟩
  rw [← hq1] at D1 E0
  have DD1 := Lib.hid D1
  clear D1 hq1
  by_cases t1 : 0 < q1
  · rw [if_pos t1] at E0
    have E := Lib.hid E0
    have u1 : Hid (decide (0 < q1) = true) := decide_eq_true t1
    clear E0
    go_enter Tryd.func39, Tryd.ntmps39
    go_wp2_with fail
    have K0 := (((Kept.start w).alloc2 (.int .i64 a) (.int .i64 b) 27 _ rfl).alloc2 (.int .i64 c) (.int .i64 d) 27 (w.heap.size + 1) (by simp)).alloc2 (.int .i64 0) (.int .i64 0) 27 (w.heap.size + 1 + 1) (by simp)
    refine (DD1.out _).mono ?_
    rintro r9 w1 ⟨rfl, hb⟩
    have K1 := K0.step hb
    clear hb K0
    have k0 := K1.get 0 rfl
    have k1 := K1.get 1 rfl
    have k2 := K1.get 2 rfl
    have k3 := K1.get 3 rfl
    have k4 := K1.get 4 rfl
    have k5 := K1.get 5 rfl
    have f0 := K1.fz 0 rfl
    have f1 := K1.fz 1 rfl
    have z := K1.lt 0 rfl
    go_wp2
    exact bodyPost_ret (v := .agg #[.int .i64 a, .int .i64 b]) (by simp [results, Tryd.results39, go_sem, k0, k1, z]) rfl ⟨by rw [E.out], (K1.1.setCell (p := ⟨w.heap.size + 1 + 1, 0, none⟩) (by simp only; omega) _).setCell (p := ⟨w.heap.size + 1 + 1, 1, none⟩) (by simp only; omega) _⟩
  · rw [if_neg t1] at E0
    have E := Lib.hid E0
    have u1 : decide (0 < q1) = false := decide_eq_false t1
    clear E0
    go_enter Tryd.func39, Tryd.ntmps39
    go_wp2_with fail
    have K0 := (((Kept.start w).alloc2 (.int .i64 a) (.int .i64 b) 27 _ rfl).alloc2 (.int .i64 c) (.int .i64 d) 27 (w.heap.size + 1) (by simp)).alloc2 (.int .i64 0) (.int .i64 0) 27 (w.heap.size + 1 + 1) (by simp)
    refine (DD1.out _).mono ?_
    rintro r9 w1 ⟨rfl, hb⟩
    have K1 := K0.step hb
    clear hb K0
    have k0 := K1.get 0 rfl
    have k1 := K1.get 1 rfl
    have k2 := K1.get 2 rfl
    have k3 := K1.get 3 rfl
    have k4 := K1.get 4 rfl
    have k5 := K1.get 5 rfl
    have f0 := K1.fz 0 rfl
    have f1 := K1.fz 1 rfl
    have z := K1.lt 0 rfl
    go_wp2
    exact bodyPost_ret (v := .agg #[.int .i64 c, .int .i64 d]) (by simp [results, Tryd.results39, go_sem, k0, k1, z]) rfl ⟨by rw [E.out], (K1.1.setCell (p := ⟨w.heap.size + 1 + 1, 0, none⟩) (by simp only; omega) _).setCell (p := ⟨w.heap.size + 1 + 1, 1, none⟩) (by simp only; omega) _⟩

set_option maxRecDepth 8000 in
set_option maxHeartbeats 6400000 in
theorem impl_ls (a b c d : Int) (w : World) :
    Calls Tryd.prog 40 #[.agg #[.int .i64 a, .int .i64 b], .agg #[.int .i64 c, .int .i64 d]] w fun r9 w' => r9 = .returned (.agg #[.int .i64 (mjH a b c d).1, .int .i64 (mjH a b c d).2]) ∧ Below w.heap.size w w' := by
  have D1 := fun w => impl_cmp a b c d w
  have E0 : mjH a b c d = (if cmpA a b c d < 0 then (a, b) else (c, d)) := rfl
  obtain ⟨q1, hq1⟩ : ∃ q, q = cmpA a b c d := ⟨_, rfl⟩
  rw [← hq1] at D1 E0
  have DD1 := Lib.hid D1
  clear D1 hq1
  by_cases t1 : q1 < 0
  · rw [if_pos t1] at E0
    have E := Lib.hid E0
    have u1 : Hid (decide (q1 < 0) = true) := decide_eq_true t1
    clear E0
    go_enter Tryd.func40, Tryd.ntmps40
    go_wp2_with fail
    have K0 := (((Kept.start w).alloc2 (.int .i64 a) (.int .i64 b) 27 _ rfl).alloc2 (.int .i64 c) (.int .i64 d) 27 (w.heap.size + 1) (by simp)).alloc2 (.int .i64 0) (.int .i64 0) 27 (w.heap.size + 1 + 1) (by simp)
    refine (DD1.out _).mono ?_
    rintro r9 w1 ⟨rfl, hb⟩
    have K1 := K0.step hb
    clear hb K0
    have k0 := K1.get 0 rfl
    have k1 := K1.get 1 rfl
    have k2 := K1.get 2 rfl
    have k3 := K1.get 3 rfl
    have k4 := K1.get 4 rfl
    have k5 := K1.get 5 rfl
    have f0 := K1.fz 0 rfl
    have f1 := K1.fz 1 rfl
    have z := K1.lt 0 rfl
    go_wp2
    exact bodyPost_ret (v := .agg #[.int .i64 a, .int .i64 b]) (by simp [results, Tryd.results40, go_sem, k0, k1, z]) rfl ⟨by rw [E.out], (K1.1.setCell (p := ⟨w.heap.size + 1 + 1, 0, none⟩) (by simp only; omega) _).setCell (p := ⟨w.heap.size + 1 + 1, 1, none⟩) (by simp only; omega) _⟩
  · rw [if_neg t1] at E0
    have E := Lib.hid E0
    have u1 : decide (q1 < 0) = false := decide_eq_false t1
    clear E0
    go_enter Tryd.func40, Tryd.ntmps40
    go_wp2_with fail
    have K0 := (((Kept.start w).alloc2 (.int .i64 a) (.int .i64 b) 27 _ rfl).alloc2 (.int .i64 c) (.int .i64 d) 27 (w.heap.size + 1) (by simp)).alloc2 (.int .i64 0) (.int .i64 0) 27 (w.heap.size + 1 + 1) (by simp)
    refine (DD1.out _).mono ?_
    rintro r9 w1 ⟨rfl, hb⟩
    have K1 := K0.step hb
    clear hb K0
    have k0 := K1.get 0 rfl
    have k1 := K1.get 1 rfl
    have k2 := K1.get 2 rfl
    have k3 := K1.get 3 rfl
    have k4 := K1.get 4 rfl
    have k5 := K1.get 5 rfl
    have f0 := K1.fz 0 rfl
    have f1 := K1.fz 1 rfl
    have z := K1.lt 0 rfl
    go_wp2
    exact bodyPost_ret (v := .agg #[.int .i64 c, .int .i64 d]) (by simp [results, Tryd.results40, go_sem, k0, k1, z]) rfl ⟨by rw [E.out], (K1.1.setCell (p := ⟨w.heap.size + 1 + 1, 0, none⟩) (by simp only; omega) _).setCell (p := ⟨w.heap.size + 1 + 1, 1, none⟩) (by simp only; omega) _⟩

set_option maxRecDepth 8000 in
set_option maxHeartbeats 6400000 in
theorem impl_mt (a b c d e f g h : Int) (w : World) :
    Calls Tryd.prog 14 #[.agg #[.int .i64 a, .int .i64 b, .int .i64 c, .int .i64 d], .agg #[.int .i64 e, .int .i64 f, .int .i64 g, .int .i64 h]] w (MtAns a b c d e f g h w) := by
  have D1 := fun w => impl_cb a b c d e f g h w
  unfold CbAns at D1
  have D3 := fun w => impl_below a b c d e f g h w
  have D4 := fun w => impl_below e f g h a b c d w
  have M0 := mtB_eq a b c d e f g h
  unfold mjB at M0
  cases hq : (ivB a b c d && ivB e f g h)
  · rw [hq, if_neg (by simp)] at D1
    rw [hq] at M0
    have NO := Lib.hid (fun w w' => @MtAns.no a b c d e f g h w w' M0)
    have DD1 := Lib.hid D1
    clear D1 D3 D4 M0 hq
    go_enter Tryd.func14, Tryd.ntmps14
    go_wp2_with fail
    have K0 := (((Kept.start w).alloc4 (.int .i64 a) (.int .i64 b) (.int .i64 c) (.int .i64 d) 29 _ rfl).alloc4 (.int .i64 e) (.int .i64 f) (.int .i64 g) (.int .i64 h) 29 (w.heap.size + 1) (by simp)).alloc4 (.int .i64 0) (.int .i64 0) (.int .i64 0) (.int .i64 0) 29 (w.heap.size + 1 + 1) (by simp)
    refine (DD1.out _).mono ?_
    rintro r9 w1 ⟨rfl, hb⟩
    have K1 := K0.step hb
    clear hb K0
    have K2 := (K1.alloc4 (.int .i64 0) (.int .i64 0) (.int .i64 0) (.int .i64 0) 55 _ rfl).alloc4 (.int .i64 0) (.int .i64 0) (.int .i64 0) (.int .i64 0) 55 (w1.heap.size + 1) (by simp)
    have hsz : w.heap.size + 1 + 1 < w1.heap.size := K1.lt 0 rfl
    clear K1
    have r8 := K2.get 8 rfl
    have r9 := K2.get 9 rfl
    have r10 := K2.get 10 rfl
    have r11 := K2.get 11 rfl
    have g8 := K2.fz 8 rfl
    have g9 := K2.fz 9 rfl
    have g10 := K2.fz 10 rfl
    have g11 := K2.fz 11 rfl
    have z := K2.lt 8 rfl
    go_wp2
    exact bodyPost_ret (v := .tuple #[.agg #[.int .i64 0, .int .i64 0, .int .i64 0, .int .i64 0], .bool false]) (by simp [results, Tryd.results14, go_sem, r8, r9, r10, r11, z]) rfl (NO.out _ _ ((((K2.1.setCell (p := ⟨w.heap.size + 1 + 1, 0, none⟩) (by simp only; omega) _).setCell (p := ⟨w.heap.size + 1 + 1, 1, none⟩) (by simp only; omega) _).setCell (p := ⟨w.heap.size + 1 + 1, 2, none⟩) (by simp only; omega) _).setCell (p := ⟨w.heap.size + 1 + 1, 3, none⟩) (by simp only; omega) _))
  · rw [hq, if_pos rfl] at D1
    rw [hq] at M0
    obtain ⟨hx, hy⟩ := Bool.and_eq_true_iff.1 hq
    obtain ⟨x1, x2, x3⟩ := ivB_of hx
    obtain ⟨y1, y2, y3⟩ := ivB_of hy
    have L0 := mtL_eq x1 y1
    have H0 := mtH_eq x2 y2
    have D5 := fun w => impl_gr a b e f w
    have D6 := fun w => impl_ls c d g h w
    have DD1 := Lib.hid D1
    clear D1 hq hx hy x1 x2 x3 y1 y2 y3
    obtain ⟨q3, hq3⟩ : ∃ q, q = decide (cmpA c d e f < 0) := ⟨_, rfl⟩
    rw [← hq3] at D3 M0
    obtain ⟨q4, hq4⟩ : ∃ q, q = decide (cmpA g h a b < 0) := ⟨_, rfl⟩
    rw [← hq4] at D4 M0
    have DD3 := Lib.hid D3
    have DD4 := Lib.hid D4
    clear D3 D4 hq3 hq4
    cases q3
    · cases q4
      · obtain ⟨⟨l1, l2⟩, hL⟩ : ∃ p, p = mjL a b e f := ⟨_, rfl⟩
        obtain ⟨⟨h1, h2⟩, hH⟩ : ∃ p, p = mjH c d g h := ⟨_, rfl⟩
        rw [← hL] at D5 L0
        rw [← hH] at D6 H0
        have DD5 := Lib.hid D5
        have DD6 := Lib.hid D6
        have YES := Lib.hid (fun w w' => MtAns.yes w w' M0 L0 H0)
        clear D5 D6 M0 L0 H0 hL hH
        go_enter Tryd.func14, Tryd.ntmps14
        go_wp2_with fail
        have K0 := (((Kept.start w).alloc4 (.int .i64 a) (.int .i64 b) (.int .i64 c) (.int .i64 d) 29 _ rfl).alloc4 (.int .i64 e) (.int .i64 f) (.int .i64 g) (.int .i64 h) 29 (w.heap.size + 1) (by simp)).alloc4 (.int .i64 0) (.int .i64 0) (.int .i64 0) (.int .i64 0) 29 (w.heap.size + 1 + 1) (by simp)
        refine (DD1.out _).mono ?_
        rintro r9 w1 ⟨rfl, hb⟩
        have K1 := K0.step hb
        clear hb K0
        have K2 := (K1.alloc4 (.int .i64 a) (.int .i64 b) (.int .i64 c) (.int .i64 d) 55 _ rfl).alloc4 (.int .i64 e) (.int .i64 f) (.int .i64 g) (.int .i64 h) 55 (w1.heap.size + 1) (by simp)
        have hsz : w.heap.size + 1 + 1 < w1.heap.size := K1.lt 0 rfl
        clear K1
        have k0 := K2.get 0 rfl
        have k1 := K2.get 1 rfl
        have k2 := K2.get 2 rfl
        have k3 := K2.get 3 rfl
        have k4 := K2.get 4 rfl
        have k5 := K2.get 5 rfl
        have k6 := K2.get 6 rfl
        have k7 := K2.get 7 rfl
        go_wp2_with fail
        refine (DD3.out _).mono ?_
        rintro r9 w3 ⟨rfl, hb⟩
        have K3 := K2.step hb
        clear hb K2 k0 k1 k2 k3 k4 k5 k6 k7
        have k0 := K3.get 0 rfl
        have k1 := K3.get 1 rfl
        have k2 := K3.get 2 rfl
        have k3 := K3.get 3 rfl
        have k4 := K3.get 4 rfl
        have k5 := K3.get 5 rfl
        have k6 := K3.get 6 rfl
        have k7 := K3.get 7 rfl
        go_wp2_with fail
        refine (DD4.out _).mono ?_
        rintro r9 w4 ⟨rfl, hb⟩
        have K4 := K3.step hb
        clear hb K3 k0 k1 k2 k3 k4 k5 k6 k7
        have KD := K4.drew
        have hsz4 : w1.heap.size + 1 < w4.heap.size := K4.lt 0 rfl
        have k0 := KD.get 0 rfl
        have k1 := KD.get 1 rfl
        have k2 := KD.get 2 rfl
        have k3 := KD.get 3 rfl
        have k4 := KD.get 4 rfl
        have k5 := KD.get 5 rfl
        have k6 := KD.get 6 rfl
        have k7 := KD.get 7 rfl
        have k8 := KD.get 8 rfl
        have k9 := KD.get 9 rfl
        have k10 := KD.get 10 rfl
        have k11 := KD.get 11 rfl
        go_wp2_with fail
        go_region_held3 (fun w' => w'.cell? ⟨w1.heap.size + 1, 0, none⟩ = some (.int .i64 e) ∧ w'.cell? ⟨w1.heap.size + 1, 1, none⟩ = some (.int .i64 f) ∧ w'.cell? ⟨w1.heap.size + 1, 2, none⟩ = some (.int .i64 g) ∧ w'.cell? ⟨w1.heap.size + 1, 3, none⟩ = some (.int .i64 h) ∧ w'.cell? ⟨w1.heap.size, 0, none⟩ = some (.int .i64 a) ∧ w'.cell? ⟨w1.heap.size, 1, none⟩ = some (.int .i64 b) ∧ w'.cell? ⟨w1.heap.size, 2, none⟩ = some (.int .i64 c) ∧ w'.cell? ⟨w1.heap.size, 3, none⟩ = some (.int .i64 d)) (first | exact ⟨k0, k1, k2, k3, k4, k5, k6, k7⟩ | exact c8_set4 (by assumption) (by simp only; omega) (by simp only; omega) (by simp only; omega) (by simp only; omega) (by simp only; omega) (by simp only; omega) (by simp only; omega) (by simp only; omega)) (first | (go_simp; go_at_call 39; (with_reducible refine (DD5.out _).mono ?_); rintro e w9 ⟨rfl, hb⟩; (first | have K := K.step hb | have K := K.drew.step hb | have K := KD.step hb); have k0 := K.get 0 rfl; have k1 := K.get 1 rfl; have k2 := K.get 2 rfl; have k3 := K.get 3 rfl; have k4 := K.get 4 rfl; have k5 := K.get 5 rfl; have k6 := K.get 6 rfl; have k7 := K.get 7 rfl; have k8 := K.get 8 rfl; have k9 := K.get 9 rfl; have k10 := K.get 10 rfl; have k11 := K.get 11 rfl; have f8 := K.fz 8 rfl; have f9 := K.fz 9 rfl; have f10 := K.fz 10 rfl; have f11 := K.fz 11 rfl; have z := K.lt 8 rfl; clear hb) | (go_simp; go_at_call 40; (with_reducible refine (DD6.out _).mono ?_); rintro e w9 ⟨rfl, hb⟩; (first | have K := K.step hb | have K := K.drew.step hb | have K := KD.step hb); have k0 := K.get 0 rfl; have k1 := K.get 1 rfl; have k2 := K.get 2 rfl; have k3 := K.get 3 rfl; have k4 := K.get 4 rfl; have k5 := K.get 5 rfl; have k6 := K.get 6 rfl; have k7 := K.get 7 rfl; have k8 := K.get 8 rfl; have k9 := K.get 9 rfl; have k10 := K.get 10 rfl; have k11 := K.get 11 rfl; have f8 := K.fz 8 rfl; have f9 := K.fz 9 rfl; have f10 := K.fz 10 rfl; have f11 := K.fz 11 rfl; have z := K.lt 8 rfl; clear hb))
        all_goals
          go_wp2
          exact bodyPost_ret (v := .tuple #[.agg #[.int .i64 l1, .int .i64 l2, .int .i64 h1, .int .i64 h2], .bool true]) (by simp [results, Tryd.results14, go_sem, k8, k9, k10, k11, z]) rfl (YES.out _ _ ((((K.1.setCell (p := ⟨w.heap.size + 1 + 1, 0, none⟩) (by simp only; omega) _).setCell (p := ⟨w.heap.size + 1 + 1, 1, none⟩) (by simp only; omega) _).setCell (p := ⟨w.heap.size + 1 + 1, 2, none⟩) (by simp only; omega) _).setCell (p := ⟨w.heap.size + 1 + 1, 3, none⟩) (by simp only; omega) _))
      · have NO := Lib.hid (fun w w' => @MtAns.no a b c d e f g h w w' M0)
        clear M0 L0 H0 D5 D6
        go_enter Tryd.func14, Tryd.ntmps14
        go_wp2_with fail
        have K0 := (((Kept.start w).alloc4 (.int .i64 a) (.int .i64 b) (.int .i64 c) (.int .i64 d) 29 _ rfl).alloc4 (.int .i64 e) (.int .i64 f) (.int .i64 g) (.int .i64 h) 29 (w.heap.size + 1) (by simp)).alloc4 (.int .i64 0) (.int .i64 0) (.int .i64 0) (.int .i64 0) 29 (w.heap.size + 1 + 1) (by simp)
        refine (DD1.out _).mono ?_
        rintro r9 w1 ⟨rfl, hb⟩
        have K1 := K0.step hb
        clear hb K0
        have K2 := (K1.alloc4 (.int .i64 a) (.int .i64 b) (.int .i64 c) (.int .i64 d) 55 _ rfl).alloc4 (.int .i64 e) (.int .i64 f) (.int .i64 g) (.int .i64 h) 55 (w1.heap.size + 1) (by simp)
        have hsz : w.heap.size + 1 + 1 < w1.heap.size := K1.lt 0 rfl
        clear K1
        have k0 := K2.get 0 rfl
        have k1 := K2.get 1 rfl
        have k2 := K2.get 2 rfl
        have k3 := K2.get 3 rfl
        have k4 := K2.get 4 rfl
        have k5 := K2.get 5 rfl
        have k6 := K2.get 6 rfl
        have k7 := K2.get 7 rfl
        go_wp2_with fail
        refine (DD3.out _).mono ?_
        rintro r9 w3 ⟨rfl, hb⟩
        have K3 := K2.step hb
        clear hb K2 k0 k1 k2 k3 k4 k5 k6 k7
        have k0 := K3.get 0 rfl
        have k1 := K3.get 1 rfl
        have k2 := K3.get 2 rfl
        have k3 := K3.get 3 rfl
        have k4 := K3.get 4 rfl
        have k5 := K3.get 5 rfl
        have k6 := K3.get 6 rfl
        have k7 := K3.get 7 rfl
        go_wp2_with fail
        refine (DD4.out _).mono ?_
        rintro r9 w4 ⟨rfl, hb⟩
        have K4 := K3.step hb
        clear hb K3 k0 k1 k2 k3 k4 k5 k6 k7
        have r8 := K4.get 8 rfl
        have r9 := K4.get 9 rfl
        have r10 := K4.get 10 rfl
        have r11 := K4.get 11 rfl
        have g8 := K4.fz 8 rfl
        have g9 := K4.fz 9 rfl
        have g10 := K4.fz 10 rfl
        have g11 := K4.fz 11 rfl
        have z := K4.lt 8 rfl
        go_wp2
        exact bodyPost_ret (v := .tuple #[.agg #[.int .i64 0, .int .i64 0, .int .i64 0, .int .i64 0], .bool false]) (by simp [results, Tryd.results14, go_sem, r8, r9, r10, r11, z]) rfl (NO.out _ _ ((((K4.1.setCell (p := ⟨w.heap.size + 1 + 1, 0, none⟩) (by simp only; omega) _).setCell (p := ⟨w.heap.size + 1 + 1, 1, none⟩) (by simp only; omega) _).setCell (p := ⟨w.heap.size + 1 + 1, 2, none⟩) (by simp only; omega) _).setCell (p := ⟨w.heap.size + 1 + 1, 3, none⟩) (by simp only; omega) _))
    · have NO := Lib.hid (fun w w' => @MtAns.no a b c d e f g h w w' M0)
      clear M0 L0 H0 D5 D6
      go_enter Tryd.func14, Tryd.ntmps14
      go_wp2_with fail
      have K0 := (((Kept.start w).alloc4 (.int .i64 a) (.int .i64 b) (.int .i64 c) (.int .i64 d) 29 _ rfl).alloc4 (.int .i64 e) (.int .i64 f) (.int .i64 g) (.int .i64 h) 29 (w.heap.size + 1) (by simp)).alloc4 (.int .i64 0) (.int .i64 0) (.int .i64 0) (.int .i64 0) 29 (w.heap.size + 1 + 1) (by simp)
      refine (DD1.out _).mono ?_
      rintro r9 w1 ⟨rfl, hb⟩
      have K1 := K0.step hb
      clear hb K0
      have K2 := (K1.alloc4 (.int .i64 a) (.int .i64 b) (.int .i64 c) (.int .i64 d) 55 _ rfl).alloc4 (.int .i64 e) (.int .i64 f) (.int .i64 g) (.int .i64 h) 55 (w1.heap.size + 1) (by simp)
      have hsz : w.heap.size + 1 + 1 < w1.heap.size := K1.lt 0 rfl
      clear K1
      have k0 := K2.get 0 rfl
      have k1 := K2.get 1 rfl
      have k2 := K2.get 2 rfl
      have k3 := K2.get 3 rfl
      have k4 := K2.get 4 rfl
      have k5 := K2.get 5 rfl
      have k6 := K2.get 6 rfl
      have k7 := K2.get 7 rfl
      go_wp2_with fail
      refine (DD3.out _).mono ?_
      rintro r9 w3 ⟨rfl, hb⟩
      have K3 := K2.step hb
      clear hb K2 k0 k1 k2 k3 k4 k5 k6 k7
      have r8 := K3.get 8 rfl
      have r9 := K3.get 9 rfl
      have r10 := K3.get 10 rfl
      have r11 := K3.get 11 rfl
      have g8 := K3.fz 8 rfl
      have g9 := K3.fz 9 rfl
      have g10 := K3.fz 10 rfl
      have g11 := K3.fz 11 rfl
      have z := K3.lt 8 rfl
      go_wp2
      exact bodyPost_ret (v := .tuple #[.agg #[.int .i64 0, .int .i64 0, .int .i64 0, .int .i64 0], .bool false]) (by simp [results, Tryd.results14, go_sem, r8, r9, r10, r11, z]) rfl (NO.out _ _ ((((K3.1.setCell (p := ⟨w.heap.size + 1 + 1, 0, none⟩) (by simp only; omega) _).setCell (p := ⟨w.heap.size + 1 + 1, 1, none⟩) (by simp only; omega) _).setCell (p := ⟨w.heap.size + 1 + 1, 2, none⟩) (by simp only; omega) _).setCell (p := ⟨w.heap.size + 1 + 1, 3, none⟩) (by simp only; omega) _))
end Go.Proofs.YtdfmidihghoilaaDoor
