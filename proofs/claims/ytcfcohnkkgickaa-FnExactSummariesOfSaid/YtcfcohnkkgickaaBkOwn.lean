/-
  The laws' own comparing and making of blocks, over what the blocks hold; what a region keeps.
-/
import Derived.Test.YtcfcohnkkgickaaRows
import Derived.Test.YtcfcohnkkgickaaInv
import Derived.Test.YtcfcohnkkgickaaRwRep
import Derived.Test.YtcfcohnkkgickaaBkLaw
namespace Go.Proofs.Ytcfcohnkkgickaa
open Go.RowKit Num

theorem law_eqBkO (id : Int) (ao bo : Option Addr) (n m c c' : Nat) (l : List Rw) (fp fp' : List Nat) (w : World) (hn : l.length ≤ 1048576) (h : SliceRep rowTy w (.slice ao n c) l fp) (h' : SliceRep rowTy w (.slice bo m c') l fp') :
    Calls Try.prog 53 #[.agg #[.int .i64 id, .slice ao n c], .agg #[.int .i64 id, .slice bo m c']] w fun e w' => e = .returned (.bool true) ∧ Below w.heap.size w w' := by
  obtain ⟨ao1, c1, e1, _, hV⟩ := rows_open h
  obtain ⟨bo1, c2, e2, _, hV'⟩ := rows_open h'
  simp only [Value.slice.injEq] at e1 e2
  obtain ⟨rfl, rfl, rfl⟩ := e1
  obtain ⟨rfl, rfl, rfl⟩ := e2
  exact law_eqBlkV id _ _ _ _ _ _ w hn hV hV'

/-- What toBlock leaves. -/
def ToBlk (id : Int) (n : Nat) (l : List Rw) (w : World) (e : Ending) (w' : World) : Prop :=
  ∃ g : Nat, e = .returned (.agg #[.int .i64 id, .slice (some ⟨g, 0, none⟩) n n]) ∧ SliceRep rowTy w' (.slice (some ⟨g, 0, none⟩) n n) l [g] ∧ w.heap.size ≤ g ∧ Below w.heap.size w w'
theorem law_toBlkO (id : Int) (ao : Option Addr) (n cap : Nat) (R : Nat → Rw) (w : World) (hn : n ≤ 1048576) (hA : RowsArg w ao n R) :
    Calls Try.prog 50 #[.agg #[.int .i64 id, .slice ao n cap]] w (ToBlk id n (lst n R) w) := by
  refine (law_toBlk id ao n cap R w hn hA).mono ?_
  rintro e w' ⟨g, rfl, h⟩
  exact ⟨g, rfl, h.rep (Nat.le_refl _), h.2.1, h.1⟩

theorem rows_headV {w : World} {g n c : Nat} {l : List Rw} {fp : List Nat} (h : SliceRep rowTy w (.slice (some ⟨g, 0, none⟩) n c) l fp) : n = l.length ∧ l.length ≤ c ∧ RowsVal w (some ⟨g, 0, none⟩) l.length (Rn l) := by
  obtain ⟨ao, c', e, hc, hV⟩ := rows_open h
  simp only [Value.slice.injEq] at e
  obtain ⟨rfl, rfl, rfl⟩ := e
  exact ⟨rfl, hc, hV⟩

theorem below_via {W w w1 : World} (hb : Below w.heap.size w w1) (h : Below W.heap.size W w) : Below W.heap.size W w1 := h.trans (hb.mono h.size)

/-! What a region keeps against the world at its head: two, four, seven loaded cells. -/
theorem k2_at {W w w' : World} {a0 a1 : Addr} {v0 v1 : Value} {l : List (Addr × Value)} (h : Kept W w ((a0, v0) :: (a1, v1) :: l)) (hb : Below w.heap.size w w') :
    w'.cell? a0 = some v0 ∧ w'.cell? a1 = some v1 ∧ Below w.heap.size w w' :=
  have k := h.step hb
  ⟨k.get 0 rfl, k.get 1 rfl, hb⟩
theorem k2_keep {W w w' w1 : World} {a0 a1 : Addr} {v0 v1 : Value} {l : List (Addr × Value)} (h : Kept W w ((a0, v0) :: (a1, v1) :: l)) (q : w'.cell? a0 = some v0 ∧ w'.cell? a1 = some v1 ∧ Below w.heap.size w w') (hb : Below w'.heap.size w' w1) :
    w1.cell? a0 = some v0 ∧ w1.cell? a1 = some v1 ∧ Below w.heap.size w w1 := k2_at h (q.2.2.trans (hb.mono q.2.2.size))
theorem k2_alloc {W w w' : World} {a0 a1 : Addr} {v0 v1 : Value} {l : List (Addr × Value)} {o : Obj} (h : Kept W w ((a0, v0) :: (a1, v1) :: l)) (q : w'.cell? a0 = some v0 ∧ w'.cell? a1 = some v1 ∧ Below w.heap.size w w') :
    (w'.alloc o).cell? a0 = some v0 ∧ (w'.alloc o).cell? a1 = some v1 ∧ Below w.heap.size w (w'.alloc o) := k2_at h (q.2.2.alloc q.2.2.size o)
theorem k2_set {W w w' : World} {a0 a1 : Addr} {v0 v1 x y : Value} {g : Nat} {l : List (Addr × Value)} (h : Kept W w ((a0, v0) :: (a1, v1) :: l)) (q : w'.cell? a0 = some v0 ∧ w'.cell? a1 = some v1 ∧ Below w.heap.size w w') (hg : w.heap.size ≤ g) :
    ((w'.setCell ⟨g, 0, none⟩ x).setCell ⟨g, 1, none⟩ y).cell? a0 = some v0 ∧ ((w'.setCell ⟨g, 0, none⟩ x).setCell ⟨g, 1, none⟩ y).cell? a1 = some v1 ∧ Below w.heap.size w ((w'.setCell ⟨g, 0, none⟩ x).setCell ⟨g, 1, none⟩ y) := k2_at h ((q.2.2.setCell hg x).setCell hg y)
theorem k2_b {w w' : World} {p0 p1 : Prop} (q : p0 ∧ p1 ∧ Below w.heap.size w w') : Below w.heap.size w w' := q.2.2
theorem k7_at {W w w' : World} {a0 a1 a2 a3 a4 a5 a6 : Addr} {v0 v1 v2 v3 v4 v5 v6 : Value} {l : List (Addr × Value)} (h : Kept W w ((a0, v0) :: (a1, v1) :: (a2, v2) :: (a3, v3) :: (a4, v4) :: (a5, v5) :: (a6, v6) :: l)) (hb : Below w.heap.size w w') :
    w'.cell? a0 = some v0 ∧ w'.cell? a1 = some v1 ∧ w'.cell? a2 = some v2 ∧ w'.cell? a3 = some v3 ∧ w'.cell? a4 = some v4 ∧ w'.cell? a5 = some v5 ∧ w'.cell? a6 = some v6 ∧ Below w.heap.size w w' :=
  have k := h.step hb
  ⟨k.get 0 rfl, k.get 1 rfl, k.get 2 rfl, k.get 3 rfl, k.get 4 rfl, k.get 5 rfl, k.get 6 rfl, hb⟩
theorem k7_keep {W w w' w1 : World} {a0 a1 a2 a3 a4 a5 a6 : Addr} {v0 v1 v2 v3 v4 v5 v6 : Value} {l : List (Addr × Value)} (h : Kept W w ((a0, v0) :: (a1, v1) :: (a2, v2) :: (a3, v3) :: (a4, v4) :: (a5, v5) :: (a6, v6) :: l)) (q : w'.cell? a0 = some v0 ∧ w'.cell? a1 = some v1 ∧ w'.cell? a2 = some v2 ∧ w'.cell? a3 = some v3 ∧ w'.cell? a4 = some v4 ∧ w'.cell? a5 = some v5 ∧ w'.cell? a6 = some v6 ∧ Below w.heap.size w w') (hb : Below w'.heap.size w' w1) :
    w1.cell? a0 = some v0 ∧ w1.cell? a1 = some v1 ∧ w1.cell? a2 = some v2 ∧ w1.cell? a3 = some v3 ∧ w1.cell? a4 = some v4 ∧ w1.cell? a5 = some v5 ∧ w1.cell? a6 = some v6 ∧ Below w.heap.size w w1 := k7_at h (q.2.2.2.2.2.2.2.trans (hb.mono q.2.2.2.2.2.2.2.size))
theorem k7_alloc {W w w' : World} {a0 a1 a2 a3 a4 a5 a6 : Addr} {v0 v1 v2 v3 v4 v5 v6 : Value} {l : List (Addr × Value)} {o : Obj} (h : Kept W w ((a0, v0) :: (a1, v1) :: (a2, v2) :: (a3, v3) :: (a4, v4) :: (a5, v5) :: (a6, v6) :: l)) (q : w'.cell? a0 = some v0 ∧ w'.cell? a1 = some v1 ∧ w'.cell? a2 = some v2 ∧ w'.cell? a3 = some v3 ∧ w'.cell? a4 = some v4 ∧ w'.cell? a5 = some v5 ∧ w'.cell? a6 = some v6 ∧ Below w.heap.size w w') :
    (w'.alloc o).cell? a0 = some v0 ∧ (w'.alloc o).cell? a1 = some v1 ∧ (w'.alloc o).cell? a2 = some v2 ∧ (w'.alloc o).cell? a3 = some v3 ∧ (w'.alloc o).cell? a4 = some v4 ∧ (w'.alloc o).cell? a5 = some v5 ∧ (w'.alloc o).cell? a6 = some v6 ∧ Below w.heap.size w (w'.alloc o) := k7_at h (q.2.2.2.2.2.2.2.alloc q.2.2.2.2.2.2.2.size o)
theorem k7_set {W w w' : World} {x y : Value} {g : Nat} {a0 a1 a2 a3 a4 a5 a6 : Addr} {v0 v1 v2 v3 v4 v5 v6 : Value} {l : List (Addr × Value)} (h : Kept W w ((a0, v0) :: (a1, v1) :: (a2, v2) :: (a3, v3) :: (a4, v4) :: (a5, v5) :: (a6, v6) :: l)) (q : w'.cell? a0 = some v0 ∧ w'.cell? a1 = some v1 ∧ w'.cell? a2 = some v2 ∧ w'.cell? a3 = some v3 ∧ w'.cell? a4 = some v4 ∧ w'.cell? a5 = some v5 ∧ w'.cell? a6 = some v6 ∧ Below w.heap.size w w') (hg : w.heap.size ≤ g) :
    ((w'.setCell ⟨g, 0, none⟩ x).setCell ⟨g, 1, none⟩ y).cell? a0 = some v0 ∧ ((w'.setCell ⟨g, 0, none⟩ x).setCell ⟨g, 1, none⟩ y).cell? a1 = some v1 ∧ ((w'.setCell ⟨g, 0, none⟩ x).setCell ⟨g, 1, none⟩ y).cell? a2 = some v2 ∧ ((w'.setCell ⟨g, 0, none⟩ x).setCell ⟨g, 1, none⟩ y).cell? a3 = some v3 ∧ ((w'.setCell ⟨g, 0, none⟩ x).setCell ⟨g, 1, none⟩ y).cell? a4 = some v4 ∧ ((w'.setCell ⟨g, 0, none⟩ x).setCell ⟨g, 1, none⟩ y).cell? a5 = some v5 ∧ ((w'.setCell ⟨g, 0, none⟩ x).setCell ⟨g, 1, none⟩ y).cell? a6 = some v6 ∧ Below w.heap.size w ((w'.setCell ⟨g, 0, none⟩ x).setCell ⟨g, 1, none⟩ y) := k7_at h ((q.2.2.2.2.2.2.2.setCell hg x).setCell hg y)
theorem k7_b {w w' : World} {p0 p1 p2 p3 p4 p5 p6 : Prop} (q : p0 ∧ p1 ∧ p2 ∧ p3 ∧ p4 ∧ p5 ∧ p6 ∧ Below w.heap.size w w') : Below w.heap.size w w' := q.2.2.2.2.2.2.2
end Go.Proofs.Ytcfcohnkkgickaa
