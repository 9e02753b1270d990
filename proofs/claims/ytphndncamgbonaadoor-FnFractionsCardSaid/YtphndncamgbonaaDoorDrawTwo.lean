/-
  The draws of two fractions, and of two terms.
-/
import Derived.Test.YtphndncamgbonaaDoorRows
import Derived.Test.YtphndncamgbonaaDoorDrawFrac
import Derived.WalkKit
import Derived.WalkSpells
import Derived.WalkLawsBesides
import Derived.IntWalk
import Derived.Lib.Hide
import Derived.Deep.RegionHeld3
namespace Go.Proofs.YtphndncamgbonaaDoor
open Go.RowKit Num

def OncePost (W : World) (B b : Nat) (ao : Option Addr) (n cap : Nat) (w : World) (e : Ending) (w' : World) : Prop :=
  ∃ k : Bool, e = .returned (.bool k) ∧ Cur W B b ao n cap w' ∧ w.grownBy w' (some b)

theorem l1Once_any (W : World) (B b : Nat) (ao : Option Addr) (n cap : Nat) (m : Int) (w : World) (hc : Cur W B b ao n cap w) (h1 : 0 < m) (h2 : m ≤ 1000000000000) :
    Calls Tryd.prog 62 #[.pointer (some ⟨b, 0, none⟩), .int .i64 m] w (OncePost W B b ao n cap w) := by
  go_enter Tryd.func62, Tryd.ntmps62
  go_wp2_with fail
  refine (l1Below_any W B b ao n cap m _ hc h1 h2).mono ?_
  rintro e w1 ⟨x, ⟨hx0, hx1⟩, rfl, hc1, hg1⟩
  clear hc
  by_cases hx : x = 0
  · have q : (x == 0) = true := by rw [hx]; rfl
    have HX := Lib.hid hx
    clear hx
    go_wp2
    go_ret
    exact ⟨true, rfl, hc1, hg1⟩
  · have q : (x == 0) = false := beq_eq_false_iff_ne.2 hx
    have HX := Lib.hid hx
    clear hx
    go_wp2
    go_ret
    exact ⟨false, rfl, hc1, hg1⟩

def DTwo (B : Nat) (ao : Option Addr) (n : Nat) (w : World) (e : Ending) (w' : World) : Prop := ∃ x y u v : Int, IsI64 x ∧ IsI64 y ∧ IsI64 u ∧ IsI64 v ∧ e = .returned (.tuple #[.agg #[.int .i64 x, .int .i64 y], .agg #[.int .i64 u, .int .i64 v]]) ∧ Rd w' B ao n ∧ Below B w w'

set_option maxRecDepth 8000 in
set_option maxHeartbeats 6400000 in
theorem l2Two_any (B : Nat) (ao : Option Addr) (n cap : Nat) (w : World) (hr : Rd w B ao n) (hB : B ≤ w.heap.size) :
    Calls Tryd.prog 46 #[.slice ao n cap] w (DTwo B ao n w) := by
  have HR := Lib.hid hr
  clear hr
  go_enter Tryd.func46, Tryd.ntmps46
  go_wp2_with fail
  have K0 := ((Kept.start w).alloc2 (.int .i64 0) (.int .i64 0) 25 _ rfl).alloc2 (.int .i64 0) (.int .i64 0) 25 (w.heap.size + 1) (by simp)
  refine (new_at ao n cap _ (w.heap.size + 1 + 1) (by simp) ((HR.out.mono hB).below K0.1 |>.mono (by omega))).mono ?_
  rintro e w1 ⟨rfl, hc1⟩
  have X1 := boxes_of_kept K0 (w.heap.size + 1 + 1) (by simp) hc1.below'
  have G1 : Below w.heap.size w w1 := K0.1.trans (hc1.below'.mono (by omega))
  clear K0
  go_wp2_with fail
  refine (l2Any_any _ _ _ ao n cap _ hc1).mono ?_
  rintro e w2 ⟨x, y, hx, hy, rfl, hc2, hg2⟩
  have z2 : w.heap.size + 1 < w2.heap.size := (X1.grow hg2).lt 0 rfl
  have X2 := (X1.grow hg2).alloc2 hc2.lt (.int .i64 x) (.int .i64 y) 25 _ rfl
  have G2 : Below w.heap.size w (w2.alloc (.cells #[.int .i64 x, .int .i64 y] 25)) := (G1.trans (below_of_grown hg2 (by omega) G1.size)).alloc (by omega) _
  have hc2' := hc2.alloc (.cells #[.int .i64 x, .int .i64 y] 25)
  have hl2 := hc2.lt
  clear X1 G1 hg2 hc1 hc2
  go_wp2_with fail
  refine (l1Once_any _ _ _ ao n cap 5 _ hc2' (by omega) (by omega)).mono ?_
  rintro e w3 ⟨k, rfl, hc3, hg3⟩
  have X3 := X2.grow hg3
  have G3 := G2.trans (below_of_grown hg3 (by omega) G2.size)
  have hl3 := hc3.lt
  clear X2 G2 hg3 hc2'
  have d0 := X3.get 0 rfl
  have d1 := X3.get 1 rfl
  have d2 := X3.get 2 rfl
  have d3 := X3.get 3 rfl
  have d4 := X3.get 4 rfl
  have d5 := X3.get 5 rfl
  have f2 := X3.fz 2 rfl
  have f3 := X3.fz 3 rfl
  have f4 := X3.fz 4 rfl
  have f5 := X3.fz 5 rfl
  have y2 := X3.lt 2 rfl
  have y4 := X3.lt 4 rfl
  cases k
  · go_wp2_with fail
    go_region_with (go_at_call 56; refine (l2Any_any _ _ _ ao n cap _ (cur_drew hc3)).mono ?_; rintro e w4 ⟨u, v, hu, hv, rfl, hc4, hg4⟩; have X4 := (boxes_drew X3).grow hg4; have G4 := G3.drew.trans (below_of_grown hg4 (by omega) G3.drew.size); have k0 := X4.get 0 rfl; have k1 := X4.get 1 rfl; have k2 := X4.get 2 rfl; have k3 := X4.get 3 rfl; have k4 := X4.get 4 rfl; have k5 := X4.get 5 rfl; have h2 := X4.fz 2 rfl; have h3 := X4.fz 3 rfl; have h4 := X4.fz 4 rfl; have h5 := X4.fz 5 rfl; have x2 := X4.lt 2 rfl; have x4 := X4.lt 4 rfl)
    all_goals
      have G5 := (((((G4.setCell (p := ⟨w.heap.size, 0, none⟩) (Nat.le_refl _) (.int .i64 x)).setCell (p := ⟨w.heap.size, 1, none⟩) (Nat.le_refl _) (.int .i64 y)).setCell (p := ⟨w.heap.size + 1, 0, none⟩) (Nat.le_succ _) (.int .i64 u)).setCell (p := ⟨w.heap.size + 1, 1, none⟩) (Nat.le_succ _) (.int .i64 v))).mono hB
      go_wp2
      exact bodyPost_ret (v := .tuple #[.agg #[.int .i64 x, .int .i64 y], .agg #[.int .i64 u, .int .i64 v]]) (by simp [results, Tryd.results46, go_sem, k2, k3, k4, k5, x2, x4]) rfl ⟨x, y, u, v, hx, hy, hu, hv, rfl, HR.out.below G5, G5⟩
  · go_wp2_with fail
    go_region
    all_goals
      have G5 := (((((G3.setCell (p := ⟨w.heap.size, 0, none⟩) (Nat.le_refl _) (.int .i64 x)).setCell (p := ⟨w.heap.size, 1, none⟩) (Nat.le_refl _) (.int .i64 y)).setCell (p := ⟨w.heap.size + 1, 0, none⟩) (Nat.le_succ _) (.int .i64 x)).setCell (p := ⟨w.heap.size + 1, 1, none⟩) (Nat.le_succ _) (.int .i64 y))).drew.mono hB
      go_wp2
      exact bodyPost_ret (v := .tuple #[.agg #[.int .i64 x, .int .i64 y], .agg #[.int .i64 x, .int .i64 y]]) (by simp [results, Tryd.results46, go_sem, d2, d3, d4, d5, y2, y4]) rfl ⟨x, y, x, y, hx, hy, hx, hy, rfl, HR.out.below G5, G5⟩

set_option maxRecDepth 8000 in
set_option maxHeartbeats 6400000 in
theorem drawTwo (B : Nat) (ao : Option Addr) (n cap : Nat) (w : World) (hr : Rd w B ao n) (hB : B ≤ w.heap.size) :
    Calls Tryd.prog 20 #[.slice ao n cap] w (DTwo B ao n w) := by
  have HR := Lib.hid hr
  clear hr
  go_enter Tryd.func20, Tryd.ntmps20
  go_wp2_with fail
  have K0 := ((Kept.start w).alloc2 (.int .i64 0) (.int .i64 0) 25 _ rfl).alloc2 (.int .i64 0) (.int .i64 0) 25 (w.heap.size + 1) (by simp)
  refine (l2Two_any (w.heap.size + 1 + 1) ao n cap _ ((HR.out.mono hB).below K0.1 |>.mono (by omega)) (by simp)).mono ?_
  rintro e w1 ⟨x, y, u, v, hx, hy, hu, hv, rfl, _, hb⟩
  have K1 := K0.step (hb.mono (by simp))
  have K2 := (K1.alloc2 (.int .i64 x) (.int .i64 y) 25 _ rfl).alloc2 (.int .i64 u) (.int .i64 v) 25 (w1.heap.size + 1) (by simp)
  clear hb K0
  have d0 := K1.get 0 rfl
  have d1 := K1.get 1 rfl
  have d2 := K1.get 2 rfl
  have d3 := K1.get 3 rfl
  have f0 := K1.fz 0 rfl
  have f1 := K1.fz 1 rfl
  have f2 := K1.fz 2 rfl
  have f3 := K1.fz 3 rfl
  have y0 := K1.lt 0 rfl
  have y2 := K1.lt 2 rfl
  go_wp2_with fail
  go_region
  all_goals
    have G5 := (((((((K1.1.setCell (p := ⟨w.heap.size, 0, none⟩) (Nat.le_refl _) (.int .i64 x)).setCell (p := ⟨w.heap.size, 1, none⟩) (Nat.le_refl _) (.int .i64 y)).setCell (p := ⟨w.heap.size + 1, 0, none⟩) (Nat.le_succ _) (.int .i64 u)).setCell (p := ⟨w.heap.size + 1, 1, none⟩) (Nat.le_succ _) (.int .i64 v)).alloc (by simp; omega) (.cells #[.int .i64 x, .int .i64 y] 25)).alloc (by simp; omega) (.cells #[.int .i64 u, .int .i64 v] 25)).drew).mono hB
    go_wp2
    exact bodyPost_ret (v := .tuple #[.agg #[.int .i64 x, .int .i64 y], .agg #[.int .i64 u, .int .i64 v]]) (by simp [results, Tryd.results20, go_sem, d0, d1, d2, d3, y0, y2, Nat.lt_of_lt_of_le y2 (Nat.le_succ _)]) rfl ⟨x, y, u, v, hx, hy, hu, hv, rfl, HR.out.below G5, G5⟩

def DMk (B : Nat) (ao : Option Addr) (n : Nat) (w : World) (e : Ending) (w' : World) : Prop := ∃ x y : Int, IsI64 x ∧ IsI64 y ∧ e = .returned (.tuple #[.int .i64 x, .int .i64 y]) ∧ Rd w' B ao n ∧ Below B w w'

theorem mk1_i64 : ∀ z ∈ [(0 : Int), 1, -6, 60, 999, 999999999, 1000000000, -9223372036854775808], IsI64 z := by
  unfold IsI64
  decide
theorem mk2_i64 : ∀ z ∈ [(0 : Int), 1, -4, 6, 9999, 10000, 20002, -9223372036854775808], IsI64 z := by
  unfold IsI64
  decide

set_option maxRecDepth 8000 in
set_option maxHeartbeats 6400000 in
theorem drawMk (B : Nat) (ao : Option Addr) (n cap : Nat) (w : World) (hr : Rd w B ao n) (hB : B ≤ w.heap.size) :
    Calls Tryd.prog 25 #[.slice ao n cap] w (DMk B ao n w) := by
  go_enter Tryd.func25, Tryd.ntmps25
  go_wp2_with fail
  refine (l1New_any B ao n cap w hr hB).mono ?_
  rintro e w1 ⟨rfl, hc1⟩
  have hl1 := hc1.lt
  go_wp2_with fail
  refine (l1PickInt_any _ _ _ ao n cap w1.heap.size 8 8 _ (hc1.alloc _) (ints_new w1 _ mk1_i64) (by omega) (by omega) (by omega)).mono ?_
  rintro e w2 ⟨x, hx, rfl, hc2, hg2⟩
  have hl2 := hc2.lt
  clear hg2 hc1
  go_wp2_with fail
  refine (l1PickInt_any _ _ _ ao n cap w2.heap.size 8 8 _ (hc2.alloc _) (ints_new w2 _ mk2_i64) (by omega) (by omega) (by omega)).mono ?_
  rintro e w3 ⟨y, hy, rfl, hc3, hg3⟩
  clear hg3 hc2
  go_wp2
  go_ret2
  exact ⟨x, y, hx, hy, rfl, hc3.rd', hc3.below'⟩
end Go.Proofs.YtphndncamgbonaaDoor
