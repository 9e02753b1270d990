/-
  The draws of a fraction.
-/
import Derived.Test.YtdfmidihghoilaaDoorRows
import Derived.Test.YtdfmidihghoilaaDoorDrawBox
import Derived.Test.YtdfmidihghoilaaDoorFmSpec
import Derived.WalkKit
import Derived.WalkSpells
import Derived.WalkLawsBesides
import Derived.IntWalk
import Derived.Lib.Hide
namespace Go.Proofs.YtdfmidihghoilaaDoor
open Go.RowKit Num

theorem mk_some (n d : Int) (w : World) : Calls Tryd.prog 73 #[.int .i64 n, .int .i64 d] w fun e w' => (∃ (x y : Int) (k : Bool), IsI64 x ∧ IsI64 y ∧ e = .returned (.tuple #[.agg #[.int .i64 x, .int .i64 y], .bool k])) ∧ Below w.heap.size w w' := by
  refine (spec_mk n d w).mono ?_
  rintro e w' ⟨rfl, hb⟩
  refine ⟨?_, hb⟩
  split
  · next h =>
    obtain ⟨l1, l2, l3, l4⟩ := limB_of h.2
    exact ⟨_, _, _, ⟨by omega, by omega⟩, ⟨by omega, by omega⟩, rfl⟩
  · exact ⟨_, _, _, ⟨by omega, by omega⟩, ⟨by omega, by omega⟩, rfl⟩

set_option maxRecDepth 8000 in
set_option maxHeartbeats 3200000 in
theorem l2Frac_any (W : World) (B b : Nat) (ao : Option Addr) (n cap : Nat) (w : World) (hc : Cur W B b ao n cap w) :
    Calls Tryd.prog 63 #[.pointer (some ⟨b, 0, none⟩)] w (FracPost W B b ao n cap w) := by
  have hbl := hc.lt
  have hBb := hc.1
  go_enter Tryd.func63, Tryd.ntmps63
  go_wp2_with fail
  have X0 := (Boxes.nil b w).alloc2 hbl (.int .i64 0) (.int .i64 0) 27 _ rfl
  have G0 := grown_of_below ((Below.refl w.heap.size w).alloc (Nat.le_refl _) (.cells #[.int .i64 0, .int .i64 0] 27)) (some b)
  refine (l1Below_any W B b ao n cap 401 _ (hc.alloc _) (by omega) (by omega)).mono ?_
  rintro e w1 ⟨x, ⟨hx0, hx1⟩, rfl, hc1, hg1⟩
  have X1 := X0.grow hg1
  have G1 := grownBy_trans G0 hg1
  clear X0 G0 hg1 hc
  go_wp2_with fail
  refine (l1Below_any W B b ao n cap 12 _ hc1 (by omega) (by omega)).mono ?_
  rintro e w2 ⟨y, ⟨hy0, hy1⟩, rfl, hc2, hg2⟩
  have X2 := X1.grow hg2
  have G2 := grownBy_trans G1 hg2
  clear X1 G1 hg2 hc1
  go_wp2_with fail
  refine (mk_some _ _ _).mono ?_
  rintro e w3 ⟨⟨u, v, k, hu, hv, rfl⟩, hb⟩
  have G3 := grownBy_trans G2 (grown_of_below hb (some b))
  have hc3 := hc2.step hb
  have Y3 := X2.grow (grown_of_below hb _)
  clear X2 G2 hb hc2
  have d0 := Y3.get 0 rfl
  have d1 := Y3.get 1 rfl
  have e0 := Y3.fz 0 rfl
  have e1 := Y3.fz 1 rfl
  have z0 := Y3.lt 0 rfl
  go_wp2
  exact bodyPost_ret (v := .agg #[.int .i64 u, .int .i64 v]) (by simp [results, Tryd.results63, go_sem, d0, d1, z0]) rfl
    ⟨u, v, hu, hv, rfl, ((hc3.set (by omega) (by omega) 0 _).set (by omega) (by omega) 1 _).alloc _, grown_alloc (grown_set (grown_set G3 (Nat.le_refl _) 0 _) (Nat.le_refl _) 1 _) _⟩

theorem dens_i64 : ∀ z ∈ [(-1 : Int), 0, 1, 2, 10000, 10001], IsI64 z := by
  unfold IsI64
  decide
theorem nums_i64 : ∀ z ∈ [(-999999999 : Int), 999999999, 1000000000, 0], IsI64 z := by
  unfold IsI64
  decide

set_option maxRecDepth 8000 in
set_option maxHeartbeats 3200000 in
theorem l2Any_any (W : World) (B b : Nat) (ao : Option Addr) (n cap : Nat) (w : World) (hc : Cur W B b ao n cap w) :
    Calls Tryd.prog 47 #[.pointer (some ⟨b, 0, none⟩)] w (FracPost W B b ao n cap w) := by
  have hbl := hc.lt
  have hBb := hc.1
  go_enter Tryd.func47, Tryd.ntmps47
  go_wp2_with fail
  have X0 := (Boxes.nil b w).alloc2 hbl (.int .i64 0) (.int .i64 0) 27 _ rfl
  have G0 := grown_of_below ((Below.refl w.heap.size w).alloc (Nat.le_refl _) (.cells #[.int .i64 0, .int .i64 0] 27)) (some b)
  refine (l2Frac_any W B b ao n cap _ (hc.alloc _)).mono ?_
  rintro e w1 ⟨u, v, hu, hv, rfl, hc1, hg1⟩
  have z1 : w.heap.size < w1.heap.size := (X0.grow hg1).lt 0 rfl
  have X1 := (X0.grow hg1).alloc2 hc1.lt (.int .i64 u) (.int .i64 v) 27 _ rfl
  have G1 := grown_alloc (grownBy_trans G0 hg1) (.cells #[.int .i64 u, .int .i64 v] 27)
  have hc1' := hc1.alloc (.cells #[.int .i64 u, .int .i64 v] 27)
  have hbw1 := hc1.lt
  clear X0 G0 hg1 hc hc1
  go_wp2_with fail
  refine (l1Below_any W B b ao n cap 10 _ hc1' (by omega) (by omega)).mono ?_
  rintro e w2 ⟨r, ⟨hr0, hr1⟩, rfl, hc2, hg2⟩
  have X2 := X1.grow hg2
  have G2 := grownBy_trans G1 hg2
  have hbw2 := hc2.lt
  clear X1 G1 hg2 hc1'
  rcases (show r = 0 ∨ r = 1 ∨ 2 ≤ r from by omega) with rfl | rfl | h2
  · go_wp2_with fail
    refine (l1PickInt_any W B b ao n cap w2.heap.size 6 6 _ (hc2.alloc _) (ints_new w2 _ dens_i64) (by omega) (by omega) (by omega)).mono ?_
    rintro e w3 ⟨x, hx, rfl, hc3, hg3⟩
    have X3 := (X2.grow (grown_of_below ((Below.refl w2.heap.size w2).alloc (Nat.le_refl _) _) _)).grow hg3
    have G3 := grownBy_trans (grown_alloc G2 _) hg3
    have X4 := Boxes.set (p := [(⟨w1.heap.size, 0, none⟩, .int .i64 u)]) X3 (.int .i64 x) (by simp only [List.cons_append, List.nil_append, List.mem_cons, List.not_mem_nil, or_false]; rintro c (rfl | rfl | rfl) <;> simp <;> omega)
    clear X2 G2 hg3 hc2
    have d0 := X3.get 0 rfl
    have d1 := X3.get 1 rfl
    have f0 := X3.fz 0 rfl
    have f1 := X3.fz 1 rfl
    have c0 := X4.get 0 rfl
    have c1 := X4.get 1 rfl
    have c2 := X4.get 2 rfl
    have c3 := X4.get 3 rfl
    have f2 := X4.fz 2 rfl
    have f3 := X4.fz 3 rfl
    have y2 := X4.lt 2 rfl
    go_wp2
    exact bodyPost_ret (v := .agg #[.int .i64 u, .int .i64 x]) (by simp [results, Tryd.results47, go_sem, c2, c3, y2]) rfl
      ⟨u, x, hu, hx, rfl, ((hc3.set (by omega) (by omega) 1 _).set (by omega) (by omega) 0 _).set (by omega) (by omega) 1 _, grown_set (grown_set (grown_set G3 (by omega) 1 _) (Nat.le_refl _) 0 _) (Nat.le_refl _) 1 _⟩
  · go_wp2_with fail
    refine (l1PickInt_any W B b ao n cap w2.heap.size 4 4 _ (hc2.alloc _) (ints_new w2 _ nums_i64) (by omega) (by omega) (by omega)).mono ?_
    rintro e w3 ⟨x, hx, rfl, hc3, hg3⟩
    have X3 := (X2.grow (grown_of_below ((Below.refl w2.heap.size w2).alloc (Nat.le_refl _) _) _)).grow hg3
    have G3 := grownBy_trans (grown_alloc G2 _) hg3
    have X4 := Boxes.set (p := []) X3 (.int .i64 x) (by simp only [List.cons_append, List.nil_append, List.mem_cons, List.not_mem_nil, or_false]; rintro c (rfl | rfl | rfl) <;> simp <;> omega)
    clear X2 G2 hg3 hc2
    have d0 := X3.get 0 rfl
    have d1 := X3.get 1 rfl
    have f0 := X3.fz 0 rfl
    have f1 := X3.fz 1 rfl
    have c0 := X4.get 0 rfl
    have c1 := X4.get 1 rfl
    have c2 := X4.get 2 rfl
    have c3 := X4.get 3 rfl
    have f2 := X4.fz 2 rfl
    have f3 := X4.fz 3 rfl
    have y2 := X4.lt 2 rfl
    go_wp2
    exact bodyPost_ret (v := .agg #[.int .i64 x, .int .i64 v]) (by simp [results, Tryd.results47, go_sem, c2, c3, y2]) rfl
      ⟨x, v, hx, hv, rfl, ((hc3.set (by omega) (by omega) 0 _).set (by omega) (by omega) 0 _).set (by omega) (by omega) 1 _, grown_set (grown_set (grown_set G3 (by omega) 0 _) (Nat.le_refl _) 0 _) (Nat.le_refl _) 1 _⟩
  · have q0 : (r == 0) = false := beq_eq_false_iff_ne.2 (by omega)
    have q1 : (r == 1) = false := beq_eq_false_iff_ne.2 (by omega)
    have c0 := X2.get 0 rfl
    have c1 := X2.get 1 rfl
    have c2 := X2.get 2 rfl
    have c3 := X2.get 3 rfl
    have f2 := X2.fz 2 rfl
    have f3 := X2.fz 3 rfl
    have y2 := X2.lt 2 rfl
    go_wp2
    exact bodyPost_ret (v := .agg #[.int .i64 u, .int .i64 v]) (by simp [results, Tryd.results47, go_sem, c2, c3, y2]) rfl
      ⟨u, v, hu, hv, rfl, (hc2.set (by omega) (by omega) 0 _).set (by omega) (by omega) 1 _, grown_set (grown_set G2 (Nat.le_refl _) 0 _) (Nat.le_refl _) 1 _⟩
end Go.Proofs.YtdfmidihghoilaaDoor
