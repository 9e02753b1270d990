/-
  What a drawn region keeps while its calls make memory: the cells of one or two boxes.
-/
import Derived.Test.YtdfmidihghoilaaDoorHelp
import Derived.Deep.RegionHeld3
import Derived.Deep.DeepCutAuto
namespace Go.Proofs.YtdfmidihghoilaaDoor
open Go.RowKit

theorem Kept.below {W w : World} {l : List (Addr × Value)} (h : Kept W w l) : Below W.heap.size W w := h.1

theorem s2_start {W w : World} {a0 a1 : Addr} {v0 v1 : Value} {l : List (Addr × Value)} (h : Kept W w ((a0, v0) :: (a1, v1) :: l)) :
    w.drew.cell? a0 = some v0 ∧ w.drew.cell? a1 = some v1 ∧ Kept W w.drew ((a0, v0) :: (a1, v1) :: l) :=
  ⟨h.drew.get 0 rfl, h.drew.get 1 rfl, h.drew⟩
theorem s2_keep {W w w1 : World} {a0 a1 : Addr} {v0 v1 : Value} {l : List (Addr × Value)} (h : w.cell? a0 = some v0 ∧ w.cell? a1 = some v1 ∧ Kept W w ((a0, v0) :: (a1, v1) :: l)) (hb : Below w.heap.size w w1) :
    w1.cell? a0 = some v0 ∧ w1.cell? a1 = some v1 ∧ Kept W w1 ((a0, v0) :: (a1, v1) :: l) :=
  have k := h.2.2.step hb
  ⟨k.get 0 rfl, k.get 1 rfl, k⟩
theorem s4_start {W w : World} {a0 a1 a2 a3 : Addr} {v0 v1 v2 v3 : Value} {l : List (Addr × Value)} (h : Kept W w ((a0, v0) :: (a1, v1) :: (a2, v2) :: (a3, v3) :: l)) :
    w.drew.cell? a0 = some v0 ∧ w.drew.cell? a1 = some v1 ∧ w.drew.cell? a2 = some v2 ∧ w.drew.cell? a3 = some v3 ∧ Kept W w.drew ((a0, v0) :: (a1, v1) :: (a2, v2) :: (a3, v3) :: l) :=
  ⟨h.drew.get 0 rfl, h.drew.get 1 rfl, h.drew.get 2 rfl, h.drew.get 3 rfl, h.drew⟩
theorem s4_keep {W w w1 : World} {a0 a1 a2 a3 : Addr} {v0 v1 v2 v3 : Value} {l : List (Addr × Value)} (h : w.cell? a0 = some v0 ∧ w.cell? a1 = some v1 ∧ w.cell? a2 = some v2 ∧ w.cell? a3 = some v3 ∧ Kept W w ((a0, v0) :: (a1, v1) :: (a2, v2) :: (a3, v3) :: l)) (hb : Below w.heap.size w w1) :
    w1.cell? a0 = some v0 ∧ w1.cell? a1 = some v1 ∧ w1.cell? a2 = some v2 ∧ w1.cell? a3 = some v3 ∧ Kept W w1 ((a0, v0) :: (a1, v1) :: (a2, v2) :: (a3, v3) :: l) :=
  have k := h.2.2.2.2.step hb
  ⟨k.get 0 rfl, k.get 1 rfl, k.get 2 rfl, k.get 3 rfl, k⟩

theorem s6_start {W w : World} {a0 a1 a2 a3 a4 a5 : Addr} {v0 v1 v2 v3 v4 v5 : Value} {l : List (Addr × Value)} (h : Kept W w ((a0, v0) :: (a1, v1) :: (a2, v2) :: (a3, v3) :: (a4, v4) :: (a5, v5) :: l)) :
    w.drew.cell? a0 = some v0 ∧ w.drew.cell? a1 = some v1 ∧ w.drew.cell? a2 = some v2 ∧ w.drew.cell? a3 = some v3 ∧ w.drew.cell? a4 = some v4 ∧ w.drew.cell? a5 = some v5 ∧ Kept W w.drew ((a0, v0) :: (a1, v1) :: (a2, v2) :: (a3, v3) :: (a4, v4) :: (a5, v5) :: l) :=
  ⟨h.drew.get 0 rfl, h.drew.get 1 rfl, h.drew.get 2 rfl, h.drew.get 3 rfl, h.drew.get 4 rfl, h.drew.get 5 rfl, h.drew⟩
theorem s6_keep {W w w1 : World} {a0 a1 a2 a3 a4 a5 : Addr} {v0 v1 v2 v3 v4 v5 : Value} {l : List (Addr × Value)} (h : w.cell? a0 = some v0 ∧ w.cell? a1 = some v1 ∧ w.cell? a2 = some v2 ∧ w.cell? a3 = some v3 ∧ w.cell? a4 = some v4 ∧ w.cell? a5 = some v5 ∧ Kept W w ((a0, v0) :: (a1, v1) :: (a2, v2) :: (a3, v3) :: (a4, v4) :: (a5, v5) :: l)) (hb : Below w.heap.size w w1) :
    w1.cell? a0 = some v0 ∧ w1.cell? a1 = some v1 ∧ w1.cell? a2 = some v2 ∧ w1.cell? a3 = some v3 ∧ w1.cell? a4 = some v4 ∧ w1.cell? a5 = some v5 ∧ Kept W w1 ((a0, v0) :: (a1, v1) :: (a2, v2) :: (a3, v3) :: (a4, v4) :: (a5, v5) :: l) :=
  have k := h.2.2.2.2.2.2.step hb
  ⟨k.get 0 rfl, k.get 1 rfl, k.get 2 rfl, k.get 3 rfl, k.get 4 rfl, k.get 5 rfl, k⟩
theorem s8_start {W w : World} {a0 a1 a2 a3 a4 a5 a6 a7 : Addr} {v0 v1 v2 v3 v4 v5 v6 v7 : Value} {l : List (Addr × Value)} (h : Kept W w ((a0, v0) :: (a1, v1) :: (a2, v2) :: (a3, v3) :: (a4, v4) :: (a5, v5) :: (a6, v6) :: (a7, v7) :: l)) :
    w.drew.cell? a0 = some v0 ∧ w.drew.cell? a1 = some v1 ∧ w.drew.cell? a2 = some v2 ∧ w.drew.cell? a3 = some v3 ∧ w.drew.cell? a4 = some v4 ∧ w.drew.cell? a5 = some v5 ∧ w.drew.cell? a6 = some v6 ∧ w.drew.cell? a7 = some v7 ∧ Kept W w.drew ((a0, v0) :: (a1, v1) :: (a2, v2) :: (a3, v3) :: (a4, v4) :: (a5, v5) :: (a6, v6) :: (a7, v7) :: l) :=
  ⟨h.drew.get 0 rfl, h.drew.get 1 rfl, h.drew.get 2 rfl, h.drew.get 3 rfl, h.drew.get 4 rfl, h.drew.get 5 rfl, h.drew.get 6 rfl, h.drew.get 7 rfl, h.drew⟩
theorem s8_keep {W w w1 : World} {a0 a1 a2 a3 a4 a5 a6 a7 : Addr} {v0 v1 v2 v3 v4 v5 v6 v7 : Value} {l : List (Addr × Value)} (h : w.cell? a0 = some v0 ∧ w.cell? a1 = some v1 ∧ w.cell? a2 = some v2 ∧ w.cell? a3 = some v3 ∧ w.cell? a4 = some v4 ∧ w.cell? a5 = some v5 ∧ w.cell? a6 = some v6 ∧ w.cell? a7 = some v7 ∧ Kept W w ((a0, v0) :: (a1, v1) :: (a2, v2) :: (a3, v3) :: (a4, v4) :: (a5, v5) :: (a6, v6) :: (a7, v7) :: l)) (hb : Below w.heap.size w w1) :
    w1.cell? a0 = some v0 ∧ w1.cell? a1 = some v1 ∧ w1.cell? a2 = some v2 ∧ w1.cell? a3 = some v3 ∧ w1.cell? a4 = some v4 ∧ w1.cell? a5 = some v5 ∧ w1.cell? a6 = some v6 ∧ w1.cell? a7 = some v7 ∧ Kept W w1 ((a0, v0) :: (a1, v1) :: (a2, v2) :: (a3, v3) :: (a4, v4) :: (a5, v5) :: (a6, v6) :: (a7, v7) :: l) :=
  have k := h.2.2.2.2.2.2.2.2.step hb
  ⟨k.get 0 rfl, k.get 1 rfl, k.get 2 rfl, k.get 3 rfl, k.get 4 rfl, k.get 5 rfl, k.get 6 rfl, k.get 7 rfl, k⟩

theorem s4_re {W w : World} {B : Nat} {v0 v1 v2 v3 : Value} {o o' : Obj}
    (h : (w.alloc o).cell? ⟨B + 1, 0, none⟩ = some v0 ∧ (w.alloc o).cell? ⟨B + 1, 1, none⟩ = some v1 ∧ (w.alloc o).cell? ⟨B, 0, none⟩ = some v2 ∧ (w.alloc o).cell? ⟨B, 1, none⟩ = some v3 ∧ Kept W (w.alloc o) [(⟨B + 1, 0, none⟩, v0), (⟨B + 1, 1, none⟩, v1), (⟨B, 0, none⟩, v2), (⟨B, 1, none⟩, v3)])
    (hz : B + 1 < w.heap.size) (hW : W.heap.size ≤ w.heap.size) :
    (w.alloc o').cell? ⟨B + 1, 0, none⟩ = some v0 ∧ (w.alloc o').cell? ⟨B + 1, 1, none⟩ = some v1 ∧ (w.alloc o').cell? ⟨B, 0, none⟩ = some v2 ∧ (w.alloc o').cell? ⟨B, 1, none⟩ = some v3 ∧ Kept W (w.alloc o') [(⟨B + 1, 0, none⟩, v0), (⟨B + 1, 1, none⟩, v1), (⟨B, 0, none⟩, v2), (⟨B, 1, none⟩, v3)] := by
  have hb := (Below.refl w.heap.size w).alloc (Nat.le_refl _) o
  have hb' := (Below.refl w.heap.size w).alloc (Nat.le_refl _) o'
  have K := h.2.2.2.2
  have K' : Kept W w [(⟨B + 1, 0, none⟩, v0), (⟨B + 1, 1, none⟩, v1), (⟨B, 0, none⟩, v2), (⟨B, 1, none⟩, v3)] := by
    refine ⟨⟨K.1.os, K.1.tape, K.1.output, hW, fun j hj => ?_⟩, fun p hp => ?_⟩
    · rw [← K.1.block j hj, hb.block j (by omega)]
    · have hk := K.2 p hp
      have hl : p.1.block < w.heap.size := by
        simp only [List.mem_cons, List.not_mem_nil, or_false] at hp
        rcases hp with rfl | rfl | rfl | rfl <;> simp only <;> omega
      exact ⟨hl, by rw [← hb.cell hl]; exact hk.2.1, by rw [← hb.frozen hl]; exact hk.2.2⟩
  have k := K'.step hb'
  exact ⟨k.get 0 rfl, k.get 1 rfl, k.get 2 rfl, k.get 3 rfl, k⟩

/-- A store into a kept cell. -/
theorem Kept.set {W w : World} {a : Addr} {v : Value} {p q : List (Addr × Value)} (h : Kept W w (p ++ (a, v) :: q)) (u : Value) (hW : W.heap.size ≤ a.block) (hne : ∀ c ∈ p ++ q, c.1 ≠ a) : Kept W (w.setCell a u) (p ++ (a, u) :: q) := by
  have ha := h.2 (a, v) (by simp)
  refine ⟨h.1.setCell hW u, fun c hc => ?_⟩
  simp only [List.mem_append, List.mem_cons] at hc
  have hsz : (w.setCell a u).heap.size = w.heap.size := by simp
  have other : ∀ c ∈ p ++ q, c.1.block < (w.setCell a u).heap.size ∧ (w.setCell a u).cell? c.1 = some c.2 ∧ (w.setCell a u).frozen? c.1 = false := by
    intro c hc
    have hk := h.2 c (by simp only [List.mem_append, List.mem_cons] at hc ⊢; rcases hc with hc | hc <;> simp [hc])
    refine ⟨by rw [hsz]; exact hk.1, ?_, ?_⟩
    · rw [World.cell?_setCell_other (w := w) (a := a) (b := c.1) (v := u) (fun e => hne c hc e.symm)]; exact hk.2.1
    · rw [World.frozen?_setCell]; exact hk.2.2
  rcases hc with hc | rfl | hc
  · exact other c (by simp [hc])
  · refine ⟨by rw [hsz]; exact ha.1, ?_, by rw [World.frozen?_setCell]; exact ha.2.2⟩
    exact World.cell?_setCell_same (w := w) (a := a) (v := u) ha.2.1
  · exact other c (by simp [hc])

/-- Two stores into the two cells of a block that lies behind all others kept. -/
theorem Kept.set2 {W w : World} {g : Nat} {v0 v1 : Value} {l : List (Addr × Value)} (h : Kept W w ((⟨g, 0, none⟩, v0) :: (⟨g, 1, none⟩, v1) :: l)) (x y : Value) (hW : W.heap.size ≤ g) (hl : ∀ c ∈ l, c.1.block < g) :
    Kept W ((w.setCell ⟨g, 0, none⟩ x).setCell ⟨g, 1, none⟩ y) ((⟨g, 0, none⟩, x) :: (⟨g, 1, none⟩, y) :: l) := by
  have h1 := Kept.set (p := []) (q := (⟨g, 1, none⟩, v1) :: l) h x hW (by
    intro c hc
    simp only [List.nil_append, List.mem_cons] at hc
    rcases hc with rfl | hc
    · simp
    · intro e; have := hl c hc; rw [e] at this; simp at this)
  refine Kept.set (p := [(⟨g, 0, none⟩, x)]) (q := l) h1 y hW ?_
  intro c hc
  simp only [List.cons_append, List.nil_append, List.mem_cons] at hc
  rcases hc with rfl | hc
  · simp
  · intro e; have := hl c hc; rw [e] at this; simp at this

theorem Kept.cons {W w : World} {l : List (Addr × Value)} (h : Kept W w l) {a : Addr} {v : Value} (h1 : a.block < w.heap.size) (h2 : w.cell? a = some v) (h3 : w.frozen? a = false) : Kept W w ((a, v) :: l) :=
  ⟨h.1, fun p hp => by
    rcases List.mem_cons.1 hp with rfl | hp
    · exact ⟨h1, h2, h3⟩
    · exact h.2 p hp⟩

theorem cell_alloc_some {w : World} {a : Addr} {v : Value} (o : Obj) (h : w.cell? a = some v) : (w.alloc o).cell? a = some v := by
  rw [((Below.refl w.heap.size w).alloc (Nat.le_refl _) o).cell (World.block_lt_of_cell? w _ h)]; exact h
theorem cell_set2_some {w : World} {a : Addr} {v : Value} {g : Nat} (x y : Value) (h : w.cell? a = some v) (hne : a.block ≠ g) : ((w.setCell ⟨g, 0, none⟩ x).setCell ⟨g, 1, none⟩ y).cell? a = some v := by
  rw [World.cell?_setCell_other (w := w.setCell ⟨g, 0, none⟩ x) (a := ⟨g, 1, none⟩) (b := a) (v := y) (fun e => hne (by rw [← e])), World.cell?_setCell_other (w := w) (a := ⟨g, 0, none⟩) (b := a) (v := x) (fun e => hne (by rw [← e]))]
  exact h
/-- The loaded cells of two boxes behind an alloc, behind the store into the block that was made. -/
theorem c4_alloc {w : World} {a0 a1 a2 a3 : Addr} {v0 v1 v2 v3 : Value} {o : Obj} (h : w.cell? a0 = some v0 ∧ w.cell? a1 = some v1 ∧ w.cell? a2 = some v2 ∧ w.cell? a3 = some v3) :
    (w.alloc o).cell? a0 = some v0 ∧ (w.alloc o).cell? a1 = some v1 ∧ (w.alloc o).cell? a2 = some v2 ∧ (w.alloc o).cell? a3 = some v3 :=
  ⟨cell_alloc_some o h.1, cell_alloc_some o h.2.1, cell_alloc_some o h.2.2.1, cell_alloc_some o h.2.2.2⟩
theorem c4_set2 {w : World} {a0 a1 a2 a3 : Addr} {v0 v1 v2 v3 : Value} {g : Nat} {x y : Value} (h : w.cell? a0 = some v0 ∧ w.cell? a1 = some v1 ∧ w.cell? a2 = some v2 ∧ w.cell? a3 = some v3) (h0 : a0.block ≠ g) (h1 : a1.block ≠ g) (h2 : a2.block ≠ g) (h3 : a3.block ≠ g) :
    ((w.setCell ⟨g, 0, none⟩ x).setCell ⟨g, 1, none⟩ y).cell? a0 = some v0 ∧ ((w.setCell ⟨g, 0, none⟩ x).setCell ⟨g, 1, none⟩ y).cell? a1 = some v1 ∧ ((w.setCell ⟨g, 0, none⟩ x).setCell ⟨g, 1, none⟩ y).cell? a2 = some v2 ∧ ((w.setCell ⟨g, 0, none⟩ x).setCell ⟨g, 1, none⟩ y).cell? a3 = some v3 :=
  ⟨cell_set2_some x y h.1 h0, cell_set2_some x y h.2.1 h1, cell_set2_some x y h.2.2.1 h2, cell_set2_some x y h.2.2.2 h3⟩

theorem Kept.alloc4 {W w : World} {l : List (Addr × Value)} (h : Kept W w l) (x y u v : Value) (t : TypeId) (B : Nat) (hB : w.heap.size = B) :
    Kept W (w.alloc (.cells #[x, y, u, v] t)) ((⟨B, 0, none⟩, x) :: (⟨B, 1, none⟩, y) :: (⟨B, 2, none⟩, u) :: (⟨B, 3, none⟩, v) :: l) := by
  subst hB
  have h1 := h.step ((Below.refl w.heap.size w).alloc (Nat.le_refl _) (.cells #[x, y, u, v] t))
  refine ⟨h1.1, fun p hp => ?_⟩
  simp only [List.mem_cons] at hp
  rcases hp with rfl | rfl | rfl | rfl | hp
  · exact ⟨by simp, by go_simp, by go_simp⟩
  · exact ⟨by simp, by go_simp, by go_simp⟩
  · exact ⟨by simp, by go_simp, by go_simp⟩
  · exact ⟨by simp, by go_simp, by go_simp⟩
  · exact h1.2 p hp
end Go.Proofs.YtdfmidihghoilaaDoor
