/-
  What a drawn region keeps: three loaded cells, behind an alloc, behind a store into a block of five cells.
-/
import Derived.Test.YtndebdimjlfepaaDoorKeep
import Derived.Test.YtndebdimjlfepaaDoorRvSpec
namespace Go.Proofs.YtndebdimjlfepaaDoor
open Go.RowKit

theorem cell_set5_some {w : World} {a : Addr} {v9 : Value} {g : Nat} (x y u v z : Value) (h : w.cell? a = some v9) (hne : a.block ≠ g) : (((((w.setCell ⟨g, 0, none⟩ x).setCell ⟨g, 1, none⟩ y).setCell ⟨g, 2, none⟩ u).setCell ⟨g, 3, none⟩ v).setCell ⟨g, 4, none⟩ z).cell? a = some v9 := by
  rw [World.cell?_setCell_other (w := (((w.setCell ⟨g, 0, none⟩ x).setCell ⟨g, 1, none⟩ y).setCell ⟨g, 2, none⟩ u).setCell ⟨g, 3, none⟩ v) (a := ⟨g, 4, none⟩) (b := a) (v := z) (fun e => hne (by rw [← e]))]
  exact cell_set4_some x y u v h hne
theorem c3_alloc {w : World} {a0 a1 a2 : Addr} {v0 v1 v2 : Value} {o : Obj} (h : w.cell? a0 = some v0 ∧ w.cell? a1 = some v1 ∧ w.cell? a2 = some v2) : (w.alloc o).cell? a0 = some v0 ∧ (w.alloc o).cell? a1 = some v1 ∧ (w.alloc o).cell? a2 = some v2 :=
  ⟨cell_alloc_some o h.1, cell_alloc_some o h.2.1, cell_alloc_some o h.2.2⟩
theorem c3_adrew {w : World} {a0 a1 a2 : Addr} {v0 v1 v2 : Value} {o : Obj} (h : w.cell? a0 = some v0 ∧ w.cell? a1 = some v1 ∧ w.cell? a2 = some v2) : (w.alloc o).drew.cell? a0 = some v0 ∧ (w.alloc o).drew.cell? a1 = some v1 ∧ (w.alloc o).drew.cell? a2 = some v2 := c3_alloc h
theorem c3_set5 {w : World} {a0 a1 a2 : Addr} {v0 v1 v2 x y u v z : Value} {g : Nat} (h : w.cell? a0 = some v0 ∧ w.cell? a1 = some v1 ∧ w.cell? a2 = some v2) (h0 : a0.block ≠ g) (h1 : a1.block ≠ g) (h2 : a2.block ≠ g) :
    (((((w.setCell ⟨g, 0, none⟩ x).setCell ⟨g, 1, none⟩ y).setCell ⟨g, 2, none⟩ u).setCell ⟨g, 3, none⟩ v).setCell ⟨g, 4, none⟩ z).cell? a0 = some v0 ∧ (((((w.setCell ⟨g, 0, none⟩ x).setCell ⟨g, 1, none⟩ y).setCell ⟨g, 2, none⟩ u).setCell ⟨g, 3, none⟩ v).setCell ⟨g, 4, none⟩ z).cell? a1 = some v1 ∧ (((((w.setCell ⟨g, 0, none⟩ x).setCell ⟨g, 1, none⟩ y).setCell ⟨g, 2, none⟩ u).setCell ⟨g, 3, none⟩ v).setCell ⟨g, 4, none⟩ z).cell? a2 = some v2 :=
  ⟨cell_set5_some x y u v z h.1 h0, cell_set5_some x y u v z h.2.1 h1, cell_set5_some x y u v z h.2.2 h2⟩

/-- Five stores into the five cells of a block that lies apart from all others kept. -/
theorem Kept.set5 {W w : World} {g : Nat} {v0 v1 v2 v3 v4 : Value} {l : List (Addr × Value)} (h : Kept W w ((⟨g, 0, none⟩, v0) :: (⟨g, 1, none⟩, v1) :: (⟨g, 2, none⟩, v2) :: (⟨g, 3, none⟩, v3) :: (⟨g, 4, none⟩, v4) :: l)) (x y u v z : Value) (hW : W.heap.size ≤ g) (hl : ∀ c ∈ l, c.1.block ≠ g) :
    Kept W (((((w.setCell ⟨g, 0, none⟩ x).setCell ⟨g, 1, none⟩ y).setCell ⟨g, 2, none⟩ u).setCell ⟨g, 3, none⟩ v).setCell ⟨g, 4, none⟩ z) ((⟨g, 0, none⟩, x) :: (⟨g, 1, none⟩, y) :: (⟨g, 2, none⟩, u) :: (⟨g, 3, none⟩, v) :: (⟨g, 4, none⟩, z) :: l) := by
  have ne : ∀ j, ∀ c ∈ l, c.1 ≠ ⟨g, j, none⟩ := fun j c hc e => hl c hc (by rw [e])
  have h1 := Kept.set (p := []) h x hW (by
    intro c hc
    simp only [List.nil_append, List.mem_cons] at hc
    rcases hc with rfl | rfl | rfl | rfl | hc
    · simp
    · simp
    · simp
    · simp
    · exact ne 0 c hc)
  have h2 := Kept.set (p := [(⟨g, 0, none⟩, x)]) h1 y hW (by
    intro c hc
    simp only [List.cons_append, List.nil_append, List.mem_cons] at hc
    rcases hc with rfl | rfl | rfl | rfl | hc
    · simp
    · simp
    · simp
    · simp
    · exact ne 1 c hc)
  have h3 := Kept.set (p := [(⟨g, 0, none⟩, x), (⟨g, 1, none⟩, y)]) h2 u hW (by
    intro c hc
    simp only [List.cons_append, List.nil_append, List.mem_cons] at hc
    rcases hc with rfl | rfl | rfl | rfl | hc
    · simp
    · simp
    · simp
    · simp
    · exact ne 2 c hc)
  have h4 := Kept.set (p := [(⟨g, 0, none⟩, x), (⟨g, 1, none⟩, y), (⟨g, 2, none⟩, u)]) h3 v hW (by
    intro c hc
    simp only [List.cons_append, List.nil_append, List.mem_cons] at hc
    rcases hc with rfl | rfl | rfl | rfl | hc
    · simp
    · simp
    · simp
    · simp
    · exact ne 3 c hc)
  exact Kept.set (p := [(⟨g, 0, none⟩, x), (⟨g, 1, none⟩, y), (⟨g, 2, none⟩, u), (⟨g, 3, none⟩, v)]) h4 z hW (by
    intro c hc
    simp only [List.cons_append, List.nil_append, List.mem_cons] at hc
    rcases hc with rfl | rfl | rfl | rfl | hc
    · simp
    · simp
    · simp
    · simp
    · exact ne 4 c hc)
end Go.Proofs.YtndebdimjlfepaaDoor
