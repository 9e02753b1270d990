/-
  The draws of any interval, of two, and of an interval and a fraction.
-/
import Derived.Test.YtdfmidihghoilaaDoorRows
import Derived.Test.YtdfmidihghoilaaDoorDrawIv
import Derived.Test.YtdfmidihghoilaaDoorDrawFrac
import Derived.Test.YtdfmidihghoilaaDoorDrawOnce
import Derived.Test.YtdfmidihghoilaaDoorKeep
import Derived.WalkKit
import Derived.WalkSpells
import Derived.WalkLawsBesides
import Derived.IntWalk
import Derived.Lib.Hide
import Derived.Deep.RegionHeld3
namespace Go.Proofs.YtdfmidihghoilaaDoor
open Go.RowKit Num

set_option maxRecDepth 8000 in
set_option maxHeartbeats 12800000 in
theorem l3Any_any (W : World) (B b : Nat) (ao : Option Addr) (n cap : Nat) (w : World) (hc : Cur W B b ao n cap w) :
    Calls Tryd.prog 45 #[.pointer (some ⟨b, 0, none⟩)] w (IvPost W B b ao n cap w) := by
  have hbl := hc.lt
  have hBb := hc.1
  go_enter Tryd.func45, Tryd.ntmps45
  go_wp2_with fail
  have X0 := (Boxes.nil b w).alloc4 hbl (.int .i64 0) (.int .i64 0) (.int .i64 0) (.int .i64 0) 29 _ rfl
  have G0 := grown_of_below ((Below.refl w.heap.size w).alloc (Nat.le_refl _) (.cells #[.int .i64 0, .int .i64 0, .int .i64 0, .int .i64 0] 29)) (some b)
  refine (l3Interval_any W B b ao n cap _ (hc.alloc _)).mono ?_
  rintro e w1 ⟨x, y, u, v, hx, hy, hu, hv, rfl, hc1, hg1⟩
  have z1 : w.heap.size < w1.heap.size := (X0.grow hg1).lt 0 rfl
  have X1 := (X0.grow hg1).alloc4 hc1.lt (.int .i64 x) (.int .i64 y) (.int .i64 u) (.int .i64 v) 29 _ rfl
  have G1 := grown_alloc (grownBy_trans G0 hg1) (.cells #[.int .i64 x, .int .i64 y, .int .i64 u, .int .i64 v] 29)
  have hc1' := hc1.alloc (.cells #[.int .i64 x, .int .i64 y, .int .i64 u, .int .i64 v] 29)
  have hb1 := hc1.lt
  clear X0 G0 hg1 hc hc1
  go_wp2_with fail
  refine (l1Below_any W B b ao n cap 14 _ hc1' (by omega) (by omega)).mono ?_
  rintro e w2 ⟨m, ⟨hm0, hm1⟩, rfl, hc2, hg2⟩
  have X2 := X1.grow hg2
  have G2 := grownBy_trans G1 hg2
  have hb2 := hc2.lt
  clear X1 G1 hg2 hc1'
  by_cases h0 : m = 0
  · subst h0
    go_wp2_with fail
    refine (l2Any_any W B b ao n cap _ hc2).mono ?_
    rintro e w3 ⟨p, q, hp, hq, rfl, hc3, hg3⟩
    have X3 := X2.grow hg3
    have G3 := grownBy_trans G2 hg3
    clear X2 G2 hg3 hc2
    have f0 := X3.fz 0 rfl
    have f1 := X3.fz 1 rfl
    have f2 := X3.fz 2 rfl
    have f3 := X3.fz 3 rfl
    have f4 := X3.fz 4 rfl
    have f5 := X3.fz 5 rfl
    have f6 := X3.fz 6 rfl
    have f7 := X3.fz 7 rfl
    have k0 := X3.get 0 rfl
    have k1 := X3.get 1 rfl
    have k2 := X3.get 2 rfl
    have k3 := X3.get 3 rfl
    have k4 := X3.get 4 rfl
    have k5 := X3.get 5 rfl
    have k6 := X3.get 6 rfl
    have k7 := X3.get 7 rfl
    have z := X3.lt 4 rfl
    go_wp2
    exact bodyPost_ret (v := .agg #[.int .i64 p, .int .i64 q, .int .i64 u, .int .i64 v]) (by simp [results, Tryd.results45, go_sem, k4, k5, k6, k7, z]) rfl ⟨p, q, u, v, hp, hq, hu, hv, rfl, ((((((hc3.set (g := w1.heap.size) (by omega) (by omega) 0 _).set (g := w1.heap.size) (by omega) (by omega) 1 _).set (g := w.heap.size) (by omega) (by omega) 0 _).set (g := w.heap.size) (by omega) (by omega) 1 _).set (g := w.heap.size) (by omega) (by omega) 2 _).set (g := w.heap.size) (by omega) (by omega) 3 _), (grown_set (grown_set (grown_set (grown_set (grown_set (grown_set G3 (g := w1.heap.size) (by omega) 0 _) (g := w1.heap.size) (by omega) 1 _) (g := w.heap.size) (by omega) 0 _) (g := w.heap.size) (by omega) 1 _) (g := w.heap.size) (by omega) 2 _) (g := w.heap.size) (by omega) 3 _)⟩
  · have q0 : (m == 0) = false := beq_eq_false_iff_ne.2 h0
    by_cases h1 : m = 1
    · subst h1
      clear q0
      go_wp2_with fail
      refine (l2Any_any W B b ao n cap _ hc2).mono ?_
      rintro e w3 ⟨p, q, hp, hq, rfl, hc3, hg3⟩
      have X3 := X2.grow hg3
      have G3 := grownBy_trans G2 hg3
      clear X2 G2 hg3 hc2
      have f0 := X3.fz 0 rfl
      have f1 := X3.fz 1 rfl
      have f2 := X3.fz 2 rfl
      have f3 := X3.fz 3 rfl
      have f4 := X3.fz 4 rfl
      have f5 := X3.fz 5 rfl
      have f6 := X3.fz 6 rfl
      have f7 := X3.fz 7 rfl
      have k0 := X3.get 0 rfl
      have k1 := X3.get 1 rfl
      have k2 := X3.get 2 rfl
      have k3 := X3.get 3 rfl
      have k4 := X3.get 4 rfl
      have k5 := X3.get 5 rfl
      have k6 := X3.get 6 rfl
      have k7 := X3.get 7 rfl
      have z := X3.lt 4 rfl
      go_wp2
      exact bodyPost_ret (v := .agg #[.int .i64 x, .int .i64 y, .int .i64 p, .int .i64 q]) (by simp [results, Tryd.results45, go_sem, k4, k5, k6, k7, z]) rfl ⟨x, y, p, q, hx, hy, hp, hq, rfl, ((((((hc3.set (g := w1.heap.size) (by omega) (by omega) 2 _).set (g := w1.heap.size) (by omega) (by omega) 3 _).set (g := w.heap.size) (by omega) (by omega) 0 _).set (g := w.heap.size) (by omega) (by omega) 1 _).set (g := w.heap.size) (by omega) (by omega) 2 _).set (g := w.heap.size) (by omega) (by omega) 3 _), (grown_set (grown_set (grown_set (grown_set (grown_set (grown_set G3 (g := w1.heap.size) (by omega) 2 _) (g := w1.heap.size) (by omega) 3 _) (g := w.heap.size) (by omega) 0 _) (g := w.heap.size) (by omega) 1 _) (g := w.heap.size) (by omega) 2 _) (g := w.heap.size) (by omega) 3 _)⟩
    · have q1 : (m == 1) = false := beq_eq_false_iff_ne.2 h1
      have H0 := Lib.hid h0
      have H1 := Lib.hid h1
      clear h0 h1
      have f0 := X2.fz 0 rfl
      have f1 := X2.fz 1 rfl
      have f2 := X2.fz 2 rfl
      have f3 := X2.fz 3 rfl
      have f4 := X2.fz 4 rfl
      have f5 := X2.fz 5 rfl
      have f6 := X2.fz 6 rfl
      have f7 := X2.fz 7 rfl
      have k0 := X2.get 0 rfl
      have k1 := X2.get 1 rfl
      have k2 := X2.get 2 rfl
      have k3 := X2.get 3 rfl
      have k4 := X2.get 4 rfl
      have k5 := X2.get 5 rfl
      have k6 := X2.get 6 rfl
      have k7 := X2.get 7 rfl
      have z := X2.lt 4 rfl
      go_wp2
      exact bodyPost_ret (v := .agg #[.int .i64 x, .int .i64 y, .int .i64 u, .int .i64 v]) (by simp [results, Tryd.results45, go_sem, k4, k5, k6, k7, z]) rfl ⟨x, y, u, v, hx, hy, hu, hv, rfl, ((((hc2.set (g := w.heap.size) (by omega) (by omega) 0 _).set (g := w.heap.size) (by omega) (by omega) 1 _).set (g := w.heap.size) (by omega) (by omega) 2 _).set (g := w.heap.size) (by omega) (by omega) 3 _), (grown_set (grown_set (grown_set (grown_set G2 (g := w.heap.size) (by omega) 0 _) (g := w.heap.size) (by omega) 1 _) (g := w.heap.size) (by omega) 2 _) (g := w.heap.size) (by omega) 3 _)⟩

def DIv2 (B : Nat) (ao : Option Addr) (n : Nat) (w : World) (e : Ending) (w' : World) : Prop := ∃ x y u v x' y' u' v' : Int, (IsI64 x ∧ IsI64 u ∧ IsI64 x' ∧ IsI64 u') ∧ e = .returned (.tuple #[.agg #[.int .i64 x, .int .i64 y, .int .i64 u, .int .i64 v], .agg #[.int .i64 x', .int .i64 y', .int .i64 u', .int .i64 v']]) ∧ Rd w' B ao n ∧ Below B w w'
def DIvF (B : Nat) (ao : Option Addr) (n : Nat) (w : World) (e : Ending) (w' : World) : Prop := ∃ x y u v p q : Int, (IsI64 x ∧ IsI64 u ∧ IsI64 p) ∧ e = .returned (.tuple #[.agg #[.int .i64 x, .int .i64 y, .int .i64 u, .int .i64 v], .agg #[.int .i64 p, .int .i64 q]]) ∧ Rd w' B ao n ∧ Below B w w'

set_option maxRecDepth 8000 in
set_option maxHeartbeats 12800000 in
theorem l3Two_any (B : Nat) (ao : Option Addr) (n cap : Nat) (w : World) (hr : Rd w B ao n) (hB : B ≤ w.heap.size) :
    Calls Tryd.prog 36 #[.slice ao n cap] w (DIv2 B ao n w) := by
  have HR := Lib.hid hr
  clear hr
  go_enter Tryd.func36, Tryd.ntmps36
  go_wp2_with fail
  have K0 := ((Kept.start w).alloc4 (.int .i64 0) (.int .i64 0) (.int .i64 0) (.int .i64 0) 29 _ rfl).alloc4 (.int .i64 0) (.int .i64 0) (.int .i64 0) (.int .i64 0) 29 (w.heap.size + 1) (by simp)
  refine (new_at ao n cap _ (w.heap.size + 1 + 1) (by simp) ((HR.out.mono hB).below K0.1 |>.mono (by omega))).mono ?_
  rintro e w1 ⟨rfl, hc1⟩
  have X1 := boxes_of_kept K0 (w.heap.size + 1 + 1) (by simp) hc1.below'
  have G1 : Below w.heap.size w w1 := K0.1.trans (hc1.below'.mono (by omega))
  clear K0
  go_wp2_with fail
  refine (l3Any_any _ _ _ ao n cap _ hc1).mono ?_
  rintro e w2 ⟨x, y, u, v, hx, hy, hu, hv, rfl, hc2, hg2⟩
  have z2 : w.heap.size + 1 < w2.heap.size := (X1.grow hg2).lt 0 rfl
  have X2 := (X1.grow hg2).alloc4 hc2.lt (.int .i64 x) (.int .i64 y) (.int .i64 u) (.int .i64 v) 29 _ rfl
  have G2 : Below w.heap.size w (w2.alloc (.cells #[.int .i64 x, .int .i64 y, .int .i64 u, .int .i64 v] 29)) := (G1.trans (below_of_grown hg2 (by omega) G1.size)).alloc (by omega) _
  have hc2' := hc2.alloc (.cells #[.int .i64 x, .int .i64 y, .int .i64 u, .int .i64 v] 29)
  have hl2 := hc2.lt
  clear X1 G1 hg2 hc1 hc2
  go_wp2_with fail
  refine (l1Once_any _ _ _ ao n cap 5 _ hc2' (by omega) (by omega)).mono ?_
  rintro e w3 ⟨k, rfl, hc3, hg3⟩
  have X3 := X2.grow hg3
  have G3 := G2.trans (below_of_grown hg3 (by omega) G2.size)
  have hl3 := hc3.lt
  clear X2 G2 hg3 hc2'
  have d0 := X3.get 0 rfl
  have d1 := X3.get 1 rfl
  have d2 := X3.get 2 rfl
  have d3 := X3.get 3 rfl
  have d4 := X3.get 4 rfl
  have d5 := X3.get 5 rfl
  have d6 := X3.get 6 rfl
  have d7 := X3.get 7 rfl
  have d8 := X3.get 8 rfl
  have d9 := X3.get 9 rfl
  have d10 := X3.get 10 rfl
  have d11 := X3.get 11 rfl
  have f4 := X3.fz 4 rfl
  have f5 := X3.fz 5 rfl
  have f6 := X3.fz 6 rfl
  have f7 := X3.fz 7 rfl
  have f8 := X3.fz 8 rfl
  have f9 := X3.fz 9 rfl
  have f10 := X3.fz 10 rfl
  have f11 := X3.fz 11 rfl
  have y2 := X3.lt 4 rfl
  have y4 := X3.lt 8 rfl
  cases k
  · go_wp2_with fail
    go_region_with (go_at_call 45; refine (l3Any_any _ _ _ ao n cap _ (cur_drew hc3)).mono ?_; rintro e w4 ⟨p, q, r, s, gp, gq, gr, gs, rfl, hc4, hg4⟩; have X4 := (boxes_drew X3).grow hg4; have G4 := G3.drew.trans (below_of_grown hg4 (by omega) G3.drew.size); have k0 := X4.get 0 rfl; have k1 := X4.get 1 rfl; have k2 := X4.get 2 rfl; have k3 := X4.get 3 rfl; have k4 := X4.get 4 rfl; have k5 := X4.get 5 rfl; have k6 := X4.get 6 rfl; have k7 := X4.get 7 rfl; have k8 := X4.get 8 rfl; have k9 := X4.get 9 rfl; have k10 := X4.get 10 rfl; have k11 := X4.get 11 rfl; have h4 := X4.fz 4 rfl; have h5 := X4.fz 5 rfl; have h6 := X4.fz 6 rfl; have h7 := X4.fz 7 rfl; have h8 := X4.fz 8 rfl; have h9 := X4.fz 9 rfl; have h10 := X4.fz 10 rfl; have h11 := X4.fz 11 rfl; have x2 := X4.lt 4 rfl; have x4 := X4.lt 8 rfl)
    all_goals
      have G5 := ((((((((G4.setCell (p := ⟨w.heap.size, 0, none⟩) (Nat.le_refl _) (.int .i64 x)).setCell (p := ⟨w.heap.size, 1, none⟩) (Nat.le_refl _) (.int .i64 y)).setCell (p := ⟨w.heap.size, 2, none⟩) (Nat.le_refl _) (.int .i64 u)).setCell (p := ⟨w.heap.size, 3, none⟩) (Nat.le_refl _) (.int .i64 v)).setCell (p := ⟨w.heap.size + 1, 0, none⟩) (Nat.le_succ _) (.int .i64 p)).setCell (p := ⟨w.heap.size + 1, 1, none⟩) (Nat.le_succ _) (.int .i64 q)).setCell (p := ⟨w.heap.size + 1, 2, none⟩) (Nat.le_succ _) (.int .i64 r)).setCell (p := ⟨w.heap.size + 1, 3, none⟩) (Nat.le_succ _) (.int .i64 s)).mono hB
      go_wp2
      exact bodyPost_ret (v := .tuple #[.agg #[.int .i64 x, .int .i64 y, .int .i64 u, .int .i64 v], .agg #[.int .i64 p, .int .i64 q, .int .i64 r, .int .i64 s]]) (by simp [results, Tryd.results36, go_sem, k4, k5, k6, k7, k8, k9, k10, k11, x2, x4]) rfl ⟨x, y, u, v, p, q, r, s, ⟨hx, hu, gp, gr⟩, rfl, HR.out.below G5, G5⟩
  · go_wp2_with fail
    go_region
    all_goals
      have G5 := (((((((((G3.setCell (p := ⟨w.heap.size, 0, none⟩) (Nat.le_refl _) (.int .i64 x)).setCell (p := ⟨w.heap.size, 1, none⟩) (Nat.le_refl _) (.int .i64 y)).setCell (p := ⟨w.heap.size, 2, none⟩) (Nat.le_refl _) (.int .i64 u)).setCell (p := ⟨w.heap.size, 3, none⟩) (Nat.le_refl _) (.int .i64 v)).setCell (p := ⟨w.heap.size + 1, 0, none⟩) (Nat.le_succ _) (.int .i64 x)).setCell (p := ⟨w.heap.size + 1, 1, none⟩) (Nat.le_succ _) (.int .i64 y)).setCell (p := ⟨w.heap.size + 1, 2, none⟩) (Nat.le_succ _) (.int .i64 u)).setCell (p := ⟨w.heap.size + 1, 3, none⟩) (Nat.le_succ _) (.int .i64 v)).drew).mono hB
      go_wp2
      exact bodyPost_ret (v := .tuple #[.agg #[.int .i64 x, .int .i64 y, .int .i64 u, .int .i64 v], .agg #[.int .i64 x, .int .i64 y, .int .i64 u, .int .i64 v]]) (by simp [results, Tryd.results36, go_sem, d4, d5, d6, d7, d8, d9, d10, d11, y2, y4]) rfl ⟨x, y, u, v, x, y, u, v, ⟨hx, hu, hx, hu⟩, rfl, HR.out.below G5, G5⟩

set_option maxRecDepth 8000 in
set_option maxHeartbeats 12800000 in
theorem drawCo (B : Nat) (ao : Option Addr) (n cap : Nat) (w : World) (hr : Rd w B ao n) (hB : B ≤ w.heap.size) :
    Calls Tryd.prog 21 #[.slice ao n cap] w (DIvF B ao n w) := by
  have HR := Lib.hid hr
  clear hr
  go_enter Tryd.func21, Tryd.ntmps21
  go_wp2_with fail
  have K0 := ((Kept.start w).alloc4 (.int .i64 0) (.int .i64 0) (.int .i64 0) (.int .i64 0) 29 _ rfl).alloc2 (.int .i64 0) (.int .i64 0) 27 (w.heap.size + 1) (by simp)
  refine (new_at ao n cap _ (w.heap.size + 1 + 1) (by simp) ((HR.out.mono hB).below K0.1 |>.mono (by omega))).mono ?_
  rintro e w1 ⟨rfl, hc1⟩
  have X1 := boxes_of_kept K0 (w.heap.size + 1 + 1) (by simp) hc1.below'
  have G1 : Below w.heap.size w w1 := K0.1.trans (hc1.below'.mono (by omega))
  clear K0
  go_wp2_with fail
  refine (l3Any_any _ _ _ ao n cap _ hc1).mono ?_
  rintro e w2 ⟨x, y, u, v, hx, hy, hu, hv, rfl, hc2, hg2⟩
  have z2 : w.heap.size + 1 < w2.heap.size := (X1.grow hg2).lt 0 rfl
  have X2 := (X1.grow hg2).alloc4 hc2.lt (.int .i64 x) (.int .i64 y) (.int .i64 u) (.int .i64 v) 29 _ rfl
  have G2 : Below w.heap.size w (w2.alloc (.cells #[.int .i64 x, .int .i64 y, .int .i64 u, .int .i64 v] 29)) := (G1.trans (below_of_grown hg2 (by omega) G1.size)).alloc (by omega) _
  have hc2' := hc2.alloc (.cells #[.int .i64 x, .int .i64 y, .int .i64 u, .int .i64 v] 29)
  have hl2 := hc2.lt
  clear X1 G1 hg2 hc1 hc2
  go_wp2_with fail
  refine (l1Once_any _ _ _ ao n cap 4 _ hc2' (by omega) (by omega)).mono ?_
  rintro e w3 ⟨k, rfl, hc3, hg3⟩
  have X3 := X2.grow hg3
  have G3 := G2.trans (below_of_grown hg3 (by omega) G2.size)
  have hl3 := hc3.lt
  clear X2 G2 hg3 hc2'
  have d0 := X3.get 0 rfl
  have d1 := X3.get 1 rfl
  have d2 := X3.get 2 rfl
  have d3 := X3.get 3 rfl
  have d4 := X3.get 4 rfl
  have d5 := X3.get 5 rfl
  have d6 := X3.get 6 rfl
  have d7 := X3.get 7 rfl
  have d8 := X3.get 8 rfl
  have d9 := X3.get 9 rfl
  have f4 := X3.fz 4 rfl
  have f5 := X3.fz 5 rfl
  have f6 := X3.fz 6 rfl
  have f7 := X3.fz 7 rfl
  have f8 := X3.fz 8 rfl
  have f9 := X3.fz 9 rfl
  have y2 := X3.lt 4 rfl
  have y4 := X3.lt 6 rfl
  cases k
  · go_wp2_with fail
    go_region_with (go_at_call 47; refine (l2Any_any _ _ _ ao n cap _ (cur_drew hc3)).mono ?_; rintro e w4 ⟨p, q, gp, gq, rfl, hc4, hg4⟩; have X4 := (boxes_drew X3).grow hg4; have G4 := G3.drew.trans (below_of_grown hg4 (by omega) G3.drew.size); have k0 := X4.get 0 rfl; have k1 := X4.get 1 rfl; have k2 := X4.get 2 rfl; have k3 := X4.get 3 rfl; have k4 := X4.get 4 rfl; have k5 := X4.get 5 rfl; have k6 := X4.get 6 rfl; have k7 := X4.get 7 rfl; have k8 := X4.get 8 rfl; have k9 := X4.get 9 rfl; have h4 := X4.fz 4 rfl; have h5 := X4.fz 5 rfl; have h6 := X4.fz 6 rfl; have h7 := X4.fz 7 rfl; have h8 := X4.fz 8 rfl; have h9 := X4.fz 9 rfl; have x2 := X4.lt 4 rfl; have x4 := X4.lt 6 rfl)
    all_goals
      have G5 := ((((((G4.setCell (p := ⟨w.heap.size, 0, none⟩) (Nat.le_refl _) (.int .i64 x)).setCell (p := ⟨w.heap.size, 1, none⟩) (Nat.le_refl _) (.int .i64 y)).setCell (p := ⟨w.heap.size, 2, none⟩) (Nat.le_refl _) (.int .i64 u)).setCell (p := ⟨w.heap.size, 3, none⟩) (Nat.le_refl _) (.int .i64 v)).setCell (p := ⟨w.heap.size + 1, 0, none⟩) (Nat.le_succ _) (.int .i64 p)).setCell (p := ⟨w.heap.size + 1, 1, none⟩) (Nat.le_succ _) (.int .i64 q)).mono hB
      go_wp2
      exact bodyPost_ret (v := .tuple #[.agg #[.int .i64 x, .int .i64 y, .int .i64 u, .int .i64 v], .agg #[.int .i64 p, .int .i64 q]]) (by simp [results, Tryd.results21, go_sem, k4, k5, k6, k7, k8, k9, x2, x4]) rfl ⟨x, y, u, v, p, q, ⟨hx, hu, gp⟩, rfl, HR.out.below G5, G5⟩
  · go_wp2_with fail
    go_region
    all_goals
      have G5 := (((((((G3.setCell (p := ⟨w.heap.size, 0, none⟩) (Nat.le_refl _) (.int .i64 x)).setCell (p := ⟨w.heap.size, 1, none⟩) (Nat.le_refl _) (.int .i64 y)).setCell (p := ⟨w.heap.size, 2, none⟩) (Nat.le_refl _) (.int .i64 u)).setCell (p := ⟨w.heap.size, 3, none⟩) (Nat.le_refl _) (.int .i64 v)).setCell (p := ⟨w.heap.size + 1, 0, none⟩) (Nat.le_succ _) (.int .i64 u)).setCell (p := ⟨w.heap.size + 1, 1, none⟩) (Nat.le_succ _) (.int .i64 v)).drew).mono hB
      go_wp2
      exact bodyPost_ret (v := .tuple #[.agg #[.int .i64 x, .int .i64 y, .int .i64 u, .int .i64 v], .agg #[.int .i64 u, .int .i64 v]]) (by simp [results, Tryd.results21, go_sem, d4, d5, d6, d7, d8, d9, y2, y4]) rfl ⟨x, y, u, v, u, v, ⟨hx, hu, hu⟩, rfl, HR.out.below G5, G5⟩

set_option maxRecDepth 8000 in
set_option maxHeartbeats 12800000 in
theorem drawMt (B : Nat) (ao : Option Addr) (n cap : Nat) (w : World) (hr : Rd w B ao n) (hB : B ≤ w.heap.size) :
    Calls Tryd.prog 13 #[.slice ao n cap] w (DIv2 B ao n w) := by
  have HR := Lib.hid hr
  clear hr
  go_enter Tryd.func13, Tryd.ntmps13
  go_wp2_with fail
  have K0 := ((Kept.start w).alloc4 (.int .i64 0) (.int .i64 0) (.int .i64 0) (.int .i64 0) 29 _ rfl).alloc4 (.int .i64 0) (.int .i64 0) (.int .i64 0) (.int .i64 0) 29 (w.heap.size + 1) (by simp)
  refine (l3Two_any (w.heap.size + 1 + 1) ao n cap _ ((HR.out.mono hB).below K0.1 |>.mono (by omega)) (by simp)).mono ?_
  rintro e w1 ⟨x, y, u, v, p, q, r, s, hh, rfl, _, hb⟩
  have K1 := K0.step (hb.mono (by simp))
  have HH := Lib.hid hh
  clear hb K0 hh
  have d0 := K1.get 0 rfl
  have d1 := K1.get 1 rfl
  have d2 := K1.get 2 rfl
  have d3 := K1.get 3 rfl
  have d4 := K1.get 4 rfl
  have d5 := K1.get 5 rfl
  have d6 := K1.get 6 rfl
  have d7 := K1.get 7 rfl
  have f0 := K1.fz 0 rfl
  have f1 := K1.fz 1 rfl
  have f2 := K1.fz 2 rfl
  have f3 := K1.fz 3 rfl
  have f4 := K1.fz 4 rfl
  have f5 := K1.fz 5 rfl
  have f6 := K1.fz 6 rfl
  have f7 := K1.fz 7 rfl
  have y0 := K1.lt 0 rfl
  have y2 := K1.lt 4 rfl
  go_wp2_with fail
  go_region
  all_goals
    have G5 := ((((((((((((K1.1.setCell (p := ⟨w.heap.size, 0, none⟩) (Nat.le_refl _) (.int .i64 x)).setCell (p := ⟨w.heap.size, 1, none⟩) (Nat.le_refl _) (.int .i64 y)).setCell (p := ⟨w.heap.size, 2, none⟩) (Nat.le_refl _) (.int .i64 u)).setCell (p := ⟨w.heap.size, 3, none⟩) (Nat.le_refl _) (.int .i64 v)).setCell (p := ⟨w.heap.size + 1, 0, none⟩) (Nat.le_succ _) (.int .i64 p)).setCell (p := ⟨w.heap.size + 1, 1, none⟩) (Nat.le_succ _) (.int .i64 q)).setCell (p := ⟨w.heap.size + 1, 2, none⟩) (Nat.le_succ _) (.int .i64 r)).setCell (p := ⟨w.heap.size + 1, 3, none⟩) (Nat.le_succ _) (.int .i64 s))).alloc (by simp; omega) (.cells #[.int .i64 x, .int .i64 y, .int .i64 u, .int .i64 v] 29)).alloc (by simp; omega) (.cells #[.int .i64 p, .int .i64 q, .int .i64 r, .int .i64 s] 29)).drew).mono hB
    go_wp2
    exact bodyPost_ret (v := .tuple #[.agg #[.int .i64 x, .int .i64 y, .int .i64 u, .int .i64 v], .agg #[.int .i64 p, .int .i64 q, .int .i64 r, .int .i64 s]]) (by simp [results, Tryd.results13, go_sem, d0, d1, d2, d3, d4, d5, d6, d7, y0, y2, Nat.lt_of_lt_of_le y2 (Nat.le_succ _)]) rfl ⟨x, y, u, v, p, q, r, s, HH.out, rfl, HR.out.below G5, G5⟩
end Go.Proofs.YtdfmidihghoilaaDoor
