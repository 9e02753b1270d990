/-
  What a drawn region keeps: eight loaded cells, behind a store into a block of four cells.
-/
import Derived.Test.YtdfmidihghoilaaHeld
namespace Go.Proofs.Ytdfmidihghoilaa
open Go.RowKit

theorem cell_set4_some {w : World} {a : Addr} {v9 : Value} {g : Nat} (x y u v : Value) (h : w.cell? a = some v9) (hne : a.block ≠ g) : ((((w.setCell ⟨g, 0, none⟩ x).setCell ⟨g, 1, none⟩ y).setCell ⟨g, 2, none⟩ u).setCell ⟨g, 3, none⟩ v).cell? a = some v9 := by
  rw [World.cell?_setCell_other (w := (((w.setCell ⟨g, 0, none⟩ x).setCell ⟨g, 1, none⟩ y).setCell ⟨g, 2, none⟩ u)) (a := ⟨g, 3, none⟩) (b := a) (v := v) (fun e => hne (by rw [← e])), World.cell?_setCell_other (w := ((w.setCell ⟨g, 0, none⟩ x).setCell ⟨g, 1, none⟩ y)) (a := ⟨g, 2, none⟩) (b := a) (v := u) (fun e => hne (by rw [← e])), World.cell?_setCell_other (w := (w.setCell ⟨g, 0, none⟩ x)) (a := ⟨g, 1, none⟩) (b := a) (v := y) (fun e => hne (by rw [← e])), World.cell?_setCell_other (w := w) (a := ⟨g, 0, none⟩) (b := a) (v := x) (fun e => hne (by rw [← e]))]
  exact h
theorem c8_set4 {w : World} {a0 a1 a2 a3 a4 a5 a6 a7 : Addr} {v0 v1 v2 v3 v4 v5 v6 v7 x y u v : Value} {g : Nat} (h : w.cell? a0 = some v0 ∧ w.cell? a1 = some v1 ∧ w.cell? a2 = some v2 ∧ w.cell? a3 = some v3 ∧ w.cell? a4 = some v4 ∧ w.cell? a5 = some v5 ∧ w.cell? a6 = some v6 ∧ w.cell? a7 = some v7) (h0 : a0.block ≠ g) (h1 : a1.block ≠ g) (h2 : a2.block ≠ g) (h3 : a3.block ≠ g) (h4 : a4.block ≠ g) (h5 : a5.block ≠ g) (h6 : a6.block ≠ g) (h7 : a7.block ≠ g) :
    ((((w.setCell ⟨g, 0, none⟩ x).setCell ⟨g, 1, none⟩ y).setCell ⟨g, 2, none⟩ u).setCell ⟨g, 3, none⟩ v).cell? a0 = some v0 ∧ ((((w.setCell ⟨g, 0, none⟩ x).setCell ⟨g, 1, none⟩ y).setCell ⟨g, 2, none⟩ u).setCell ⟨g, 3, none⟩ v).cell? a1 = some v1 ∧ ((((w.setCell ⟨g, 0, none⟩ x).setCell ⟨g, 1, none⟩ y).setCell ⟨g, 2, none⟩ u).setCell ⟨g, 3, none⟩ v).cell? a2 = some v2 ∧ ((((w.setCell ⟨g, 0, none⟩ x).setCell ⟨g, 1, none⟩ y).setCell ⟨g, 2, none⟩ u).setCell ⟨g, 3, none⟩ v).cell? a3 = some v3 ∧ ((((w.setCell ⟨g, 0, none⟩ x).setCell ⟨g, 1, none⟩ y).setCell ⟨g, 2, none⟩ u).setCell ⟨g, 3, none⟩ v).cell? a4 = some v4 ∧ ((((w.setCell ⟨g, 0, none⟩ x).setCell ⟨g, 1, none⟩ y).setCell ⟨g, 2, none⟩ u).setCell ⟨g, 3, none⟩ v).cell? a5 = some v5 ∧ ((((w.setCell ⟨g, 0, none⟩ x).setCell ⟨g, 1, none⟩ y).setCell ⟨g, 2, none⟩ u).setCell ⟨g, 3, none⟩ v).cell? a6 = some v6 ∧ ((((w.setCell ⟨g, 0, none⟩ x).setCell ⟨g, 1, none⟩ y).setCell ⟨g, 2, none⟩ u).setCell ⟨g, 3, none⟩ v).cell? a7 = some v7 :=
  ⟨cell_set4_some x y u v h.1 h0, cell_set4_some x y u v h.2.1 h1, cell_set4_some x y u v h.2.2.1 h2, cell_set4_some x y u v h.2.2.2.1 h3, cell_set4_some x y u v h.2.2.2.2.1 h4, cell_set4_some x y u v h.2.2.2.2.2.1 h5, cell_set4_some x y u v h.2.2.2.2.2.2.1 h6, cell_set4_some x y u v h.2.2.2.2.2.2.2 h7⟩
theorem c8_alloc {w : World} {a0 a1 a2 a3 a4 a5 a6 a7 : Addr} {v0 v1 v2 v3 v4 v5 v6 v7 : Value} {o : Obj} (h : w.cell? a0 = some v0 ∧ w.cell? a1 = some v1 ∧ w.cell? a2 = some v2 ∧ w.cell? a3 = some v3 ∧ w.cell? a4 = some v4 ∧ w.cell? a5 = some v5 ∧ w.cell? a6 = some v6 ∧ w.cell? a7 = some v7) :
    (w.alloc o).cell? a0 = some v0 ∧ (w.alloc o).cell? a1 = some v1 ∧ (w.alloc o).cell? a2 = some v2 ∧ (w.alloc o).cell? a3 = some v3 ∧ (w.alloc o).cell? a4 = some v4 ∧ (w.alloc o).cell? a5 = some v5 ∧ (w.alloc o).cell? a6 = some v6 ∧ (w.alloc o).cell? a7 = some v7 :=
  ⟨cell_alloc_some o h.1, cell_alloc_some o h.2.1, cell_alloc_some o h.2.2.1, cell_alloc_some o h.2.2.2.1, cell_alloc_some o h.2.2.2.2.1, cell_alloc_some o h.2.2.2.2.2.1, cell_alloc_some o h.2.2.2.2.2.2.1, cell_alloc_some o h.2.2.2.2.2.2.2⟩

theorem c8_adrew {w : World} {a0 a1 a2 a3 a4 a5 a6 a7 : Addr} {v0 v1 v2 v3 v4 v5 v6 v7 : Value} {o : Obj} (h : w.cell? a0 = some v0 ∧ w.cell? a1 = some v1 ∧ w.cell? a2 = some v2 ∧ w.cell? a3 = some v3 ∧ w.cell? a4 = some v4 ∧ w.cell? a5 = some v5 ∧ w.cell? a6 = some v6 ∧ w.cell? a7 = some v7) :
    (w.alloc o).drew.cell? a0 = some v0 ∧ (w.alloc o).drew.cell? a1 = some v1 ∧ (w.alloc o).drew.cell? a2 = some v2 ∧ (w.alloc o).drew.cell? a3 = some v3 ∧ (w.alloc o).drew.cell? a4 = some v4 ∧ (w.alloc o).drew.cell? a5 = some v5 ∧ (w.alloc o).drew.cell? a6 = some v6 ∧ (w.alloc o).drew.cell? a7 = some v7 := c8_alloc h

/-- Four stores into the four cells of a block that lies behind all others kept. -/
theorem Kept.set4 {W w : World} {g : Nat} {v0 v1 v2 v3 : Value} {l : List (Addr × Value)} (h : Kept W w ((⟨g, 0, none⟩, v0) :: (⟨g, 1, none⟩, v1) :: (⟨g, 2, none⟩, v2) :: (⟨g, 3, none⟩, v3) :: l)) (x y u v : Value) (hW : W.heap.size ≤ g) (hl : ∀ c ∈ l, c.1.block < g) :
    Kept W ((((w.setCell ⟨g, 0, none⟩ x).setCell ⟨g, 1, none⟩ y).setCell ⟨g, 2, none⟩ u).setCell ⟨g, 3, none⟩ v) ((⟨g, 0, none⟩, x) :: (⟨g, 1, none⟩, y) :: (⟨g, 2, none⟩, u) :: (⟨g, 3, none⟩, v) :: l) := by
  have hl' : ∀ j, ∀ c ∈ l, c.1 ≠ ⟨g, j, none⟩ := fun j c hc e => by have := hl c hc; rw [e] at this; simp at this
  have h1 := Kept.set (p := []) h x hW (by
    intro c hc
    simp only [List.nil_append, List.mem_cons] at hc
    rcases hc with rfl | rfl | rfl | hc
    · simp
    · simp
    · simp
    · exact hl' 0 c hc)
  have h2 := Kept.set (p := [(⟨g, 0, none⟩, x)]) h1 y hW (by
    intro c hc
    simp only [List.cons_append, List.nil_append, List.mem_cons] at hc
    rcases hc with rfl | rfl | rfl | hc
    · simp
    · simp
    · simp
    · exact hl' 1 c hc)
  have h3 := Kept.set (p := [(⟨g, 0, none⟩, x), (⟨g, 1, none⟩, y)]) h2 u hW (by
    intro c hc
    simp only [List.cons_append, List.nil_append, List.mem_cons] at hc
    rcases hc with rfl | rfl | rfl | hc
    · simp
    · simp
    · simp
    · exact hl' 2 c hc)
  exact Kept.set (p := [(⟨g, 0, none⟩, x), (⟨g, 1, none⟩, y), (⟨g, 2, none⟩, u)]) h3 v hW (by
    intro c hc
    simp only [List.cons_append, List.nil_append, List.mem_cons] at hc
    rcases hc with rfl | rfl | rfl | hc
    · simp
    · simp
    · simp
    · exact hl' 3 c hc)
end Go.Proofs.Ytdfmidihghoilaa
