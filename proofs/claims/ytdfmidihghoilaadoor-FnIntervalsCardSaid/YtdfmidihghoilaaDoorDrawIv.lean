/-
  The draws of an interval.
-/
import Derived.Test.YtdfmidihghoilaaDoorRows
import Derived.Test.YtdfmidihghoilaaDoorDrawFrac
import Derived.Test.YtdfmidihghoilaaDoorDrawOnce
import Derived.Test.YtdfmidihghoilaaDoorFcSpec
import Derived.WalkKit
import Derived.WalkSpells
import Derived.WalkLawsBesides
import Derived.IntWalk
import Derived.Lib.Hide
namespace Go.Proofs.YtdfmidihghoilaaDoor
open Go.RowKit Num

set_option maxRecDepth 8000 in
set_option maxHeartbeats 6400000 in
theorem l3Interval_any (W : World) (B b : Nat) (ao : Option Addr) (n cap : Nat) (w : World) (hc : Cur W B b ao n cap w) :
    Calls Tryd.prog 61 #[.pointer (some ⟨b, 0, none⟩)] w (IvPost W B b ao n cap w) := by
  have hbl := hc.lt
  have hBb := hc.1
  go_enter Tryd.func61, Tryd.ntmps61
  go_wp2_with fail
  have X0 := (Boxes.nil b w).alloc4 hbl (.int .i64 0) (.int .i64 0) (.int .i64 0) (.int .i64 0) 29 _ rfl
  have G0 := grown_of_below ((Below.refl w.heap.size w).alloc (Nat.le_refl _) (.cells #[.int .i64 0, .int .i64 0, .int .i64 0, .int .i64 0] 29)) (some b)
  refine (l2Frac_any W B b ao n cap _ (hc.alloc _)).mono ?_
  rintro e w1 ⟨x, y, hx, hy, rfl, hc1, hg1⟩
  have z1 : w.heap.size < w1.heap.size := (X0.grow hg1).lt 0 rfl
  have X1 := (X0.grow hg1).alloc2 hc1.lt (.int .i64 x) (.int .i64 y) 27 _ rfl
  have G1 := grown_alloc (grownBy_trans G0 hg1) (.cells #[.int .i64 x, .int .i64 y] 27)
  have hc1' := hc1.alloc (.cells #[.int .i64 x, .int .i64 y] 27)
  have hb1 := hc1.lt
  clear X0 G0 hg1 hc hc1
  go_wp2_with fail
  refine (l2Frac_any W B b ao n cap _ hc1').mono ?_
  rintro e w2 ⟨u, v, hu, hv, rfl, hc2, hg2⟩
  have z2 : w1.heap.size < w2.heap.size := (X1.grow hg2).lt 0 rfl
  have X2 := (X1.grow hg2).alloc2 hc2.lt (.int .i64 u) (.int .i64 v) 27 _ rfl
  have G2 := grown_alloc (grownBy_trans G1 hg2) (.cells #[.int .i64 u, .int .i64 v] 27)
  have hc2' := hc2.alloc (.cells #[.int .i64 u, .int .i64 v] 27)
  have hb2 := hc2.lt
  clear X1 G1 hg2 hc1' hc2
  go_wp2_with fail
  refine (l1Once_any W B b ao n cap 5 _ hc2' (by omega) (by omega)).mono ?_
  rintro e w3 ⟨k, rfl, hc3, hg3⟩
  have X3 := X2.grow hg3
  have G3 := grownBy_trans G2 hg3
  have hb3 := hc3.lt
  clear X2 G2 hg3 hc2'
  have k0 := X3.get 0 rfl
  have k1 := X3.get 1 rfl
  have k2 := X3.get 2 rfl
  have k3 := X3.get 3 rfl
  have f0 := X3.fz 0 rfl
  have f1 := X3.fz 1 rfl
  cases k
  · go_wp2_with fail
    refine (spec_cmp x y u v _ hx hu).mono ?_
    rintro e w4 ⟨rfl, hb⟩
    have X5 := X3.grow (grown_of_below hb _)
    have C5 := hc3.step hb
    have G5 := grownBy_trans G3 (grown_of_below hb (some b))
    clear hb
    obtain ⟨c, hcc⟩ : ∃ c, c = cmpA x y u v := ⟨_, rfl⟩
    rw [← hcc]
    clear hcc k0 k1 k2 k3 f0 f1
    have k0 := X5.get 0 rfl
    have k1 := X5.get 1 rfl
    have k2 := X5.get 2 rfl
    have k3 := X5.get 3 rfl
    have k4 := X5.get 4 rfl
    have k5 := X5.get 5 rfl
    have k6 := X5.get 6 rfl
    have k7 := X5.get 7 rfl
    have f4 := X5.fz 4 rfl
    have f5 := X5.fz 5 rfl
    have f6 := X5.fz 6 rfl
    have f7 := X5.fz 7 rfl
    have z := X5.lt 4 rfl
    by_cases hcp : 0 < c
    · go_wp2
      exact bodyPost_ret (v := .agg #[.int .i64 u, .int .i64 v, .int .i64 x, .int .i64 y]) (by simp [results, Tryd.results61, go_sem, k4, k5, k6, k7, z]) rfl
        ⟨u, v, x, y, hu, hv, hx, hy, rfl, (((C5.set (by omega) (by omega) 0 _).set (by omega) (by omega) 1 _).set (by omega) (by omega) 2 _).set (by omega) (by omega) 3 _, grown_set (grown_set (grown_set (grown_set G5 (Nat.le_refl _) 0 _) (Nat.le_refl _) 1 _) (Nat.le_refl _) 2 _) (Nat.le_refl _) 3 _⟩
    · have hcd : decide (0 < c) = false := decide_eq_false hcp
      go_wp2
      exact bodyPost_ret (v := .agg #[.int .i64 x, .int .i64 y, .int .i64 u, .int .i64 v]) (by simp [results, Tryd.results61, go_sem, k4, k5, k6, k7, z]) rfl
        ⟨x, y, u, v, hx, hy, hu, hv, rfl, (((C5.set (by omega) (by omega) 0 _).set (by omega) (by omega) 1 _).set (by omega) (by omega) 2 _).set (by omega) (by omega) 3 _, grown_set (grown_set (grown_set (grown_set G5 (Nat.le_refl _) 0 _) (Nat.le_refl _) 1 _) (Nat.le_refl _) 2 _) (Nat.le_refl _) 3 _⟩
  · have X4a := Boxes.set (p := []) X3 (.int .i64 x) (by simp only [List.cons_append, List.nil_append, List.mem_cons, List.not_mem_nil, or_false]; rintro c (rfl | rfl | rfl | rfl | rfl | rfl | rfl) <;> simp <;> omega)
    have X4 := Boxes.set (p := [(⟨w2.heap.size, 0, none⟩, .int .i64 x)]) X4a (.int .i64 y) (by simp only [List.cons_append, List.nil_append, List.mem_cons, List.not_mem_nil, or_false]; rintro c (rfl | rfl | rfl | rfl | rfl | rfl | rfl) <;> simp <;> omega)
    have C4 := (hc3.set (g := w2.heap.size) (by omega) (by omega) 0 (.int .i64 x)).set (g := w2.heap.size) (by omega) (by omega) 1 (.int .i64 y)
    have G4 := grown_set (grown_set G3 (g := w2.heap.size) (by omega) 0 (.int .i64 x)) (g := w2.heap.size) (by omega) 1 (.int .i64 y)
    have m0 := X4.get 0 rfl
    have m1 := X4.get 1 rfl
    have m2 := X4.get 2 rfl
    have m3 := X4.get 3 rfl
    go_wp2_with fail
    refine (spec_cmp x y x y _ hx hx).mono ?_
    rintro e w4 ⟨rfl, hb⟩
    have X5 := X4.grow (grown_of_below hb _)
    have C5 := C4.step hb
    have G5 := grownBy_trans G4 (grown_of_below hb (some b))
    clear hb
    obtain ⟨c, hcc⟩ : ∃ c, c = cmpA x y x y := ⟨_, rfl⟩
    rw [← hcc]
    clear hcc m0 m1 m2 m3 k0 k1 k2 k3 f0 f1
    have k0 := X5.get 0 rfl
    have k1 := X5.get 1 rfl
    have k2 := X5.get 2 rfl
    have k3 := X5.get 3 rfl
    have k4 := X5.get 4 rfl
    have k5 := X5.get 5 rfl
    have k6 := X5.get 6 rfl
    have k7 := X5.get 7 rfl
    have f4 := X5.fz 4 rfl
    have f5 := X5.fz 5 rfl
    have f6 := X5.fz 6 rfl
    have f7 := X5.fz 7 rfl
    have z := X5.lt 4 rfl
    by_cases hcp : 0 < c
    · go_wp2
      exact bodyPost_ret (v := .agg #[.int .i64 x, .int .i64 y, .int .i64 x, .int .i64 y]) (by simp [results, Tryd.results61, go_sem, k4, k5, k6, k7, z]) rfl
        ⟨x, y, x, y, hx, hy, hx, hy, rfl, (((C5.set (by omega) (by omega) 0 _).set (by omega) (by omega) 1 _).set (by omega) (by omega) 2 _).set (by omega) (by omega) 3 _, grown_set (grown_set (grown_set (grown_set G5 (Nat.le_refl _) 0 _) (Nat.le_refl _) 1 _) (Nat.le_refl _) 2 _) (Nat.le_refl _) 3 _⟩
    · have hcd : decide (0 < c) = false := decide_eq_false hcp
      go_wp2
      exact bodyPost_ret (v := .agg #[.int .i64 x, .int .i64 y, .int .i64 x, .int .i64 y]) (by simp [results, Tryd.results61, go_sem, k4, k5, k6, k7, z]) rfl
        ⟨x, y, x, y, hx, hy, hx, hy, rfl, (((C5.set (by omega) (by omega) 0 _).set (by omega) (by omega) 1 _).set (by omega) (by omega) 2 _).set (by omega) (by omega) 3 _, grown_set (grown_set (grown_set (grown_set G5 (Nat.le_refl _) 0 _) (Nat.le_refl _) 1 _) (Nat.le_refl _) 2 _) (Nat.le_refl _) 3 _⟩
end Go.Proofs.YtdfmidihghoilaaDoor
