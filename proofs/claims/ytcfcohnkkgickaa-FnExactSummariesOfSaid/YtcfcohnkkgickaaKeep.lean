/-
  Small laws of worlds and contracts; what a walk and a drawn region keep.
-/
import Derived.Test.YtcfcohnkkgickaaRows
import Derived.WalkKit
import Derived.WalkSpells
import Derived.WalkLawsBesides
import Derived.Below
import Derived.Deep.QuietTactic
import Derived.Deep.RegionHeld3
import Derived.Deep.DeepCutAuto

/-! ### Help -/
namespace Go.Proofs.Ytcfcohnkkgickaa
open Go.RowKit

theorem below_drewN {B : Nat} {a w : World} (h : Below B a w) (n : Nat) : Below B a (w.drewN n) := ⟨h.os, h.tape, h.output, h.size, h.block⟩

/-- A contract 'w = w'' for a quiet region. -/
theorem calls_flip {P : Program} {f : FuncId} {args : Array Value} {w : World} {v : Value} (h : Calls P f args w fun e w' => e = .returned v ∧ w = w') : Calls P f args w fun e w' => e = .returned v ∧ w' = w :=
  h.mono fun _ _ ⟨a, b⟩ => ⟨a, b.symm⟩

theorem calls_quiet {P : Program} {f : FuncId} {args : Array Value} {w : World} {n : Nat} {v : Value} (h : Calls P f args (w.drewN n) fun e w' => e = .returned v ∧ w.drewN n = w') : Calls P f args (w.drewN n) fun e w'' => e = .returned v ∧ ∃ m, w'' = w.drewN m :=
  Calls.quiet_of_same (calls_flip h)

theorem ret_bool {a b : Bool} (h : a = b) : Ending.returned (.bool a) = .returned (.bool b) := by rw [h]
theorem ret_int {a b : Int} (h : a = b) : Ending.returned (.int .i64 a) = .returned (.int .i64 b) := by rw [h]
theorem bcell {W w1 : World} (hb : Below W.heap.size W w1) : (∀ b o, b < W.heap.size → w1.cell? ⟨b, o, none⟩ = W.cell? ⟨b, o, none⟩) ∧ (∀ b o, b < W.heap.size → w1.frozen? ⟨b, o, none⟩ = W.frozen? ⟨b, o, none⟩) :=
  ⟨fun b o h => hb.cell (p := ⟨b, o, none⟩) h, fun b o h => hb.frozen (p := ⟨b, o, none⟩) h⟩

theorem box2_start (w : World) (x y : Value) (t : TypeId) :
    (w.alloc (.cells #[x, y] t)).drew.cell? ⟨w.heap.size, 0, none⟩ = some x ∧ (w.alloc (.cells #[x, y] t)).drew.cell? ⟨w.heap.size, 1, none⟩ = some y ∧ Below w.heap.size w (w.alloc (.cells #[x, y] t)).drew ∧ w.heap.size < (w.alloc (.cells #[x, y] t)).drew.heap.size := by
  refine ⟨by go_simp, by go_simp, ((Below.refl _ _).alloc (Nat.le_refl _) _).drew, ?_⟩
  show w.heap.size < (w.alloc (.cells #[x, y] t)).heap.size
  simp

theorem box2_keep {W w0 w1 : World} {x y : Option Value} {B : Nat} (h : w0.cell? ⟨B, 0, none⟩ = x ∧ w0.cell? ⟨B, 1, none⟩ = y ∧ Below B W w0 ∧ B < w0.heap.size) (hb : Below w0.heap.size w0 w1) :
    w1.cell? ⟨B, 0, none⟩ = x ∧ w1.cell? ⟨B, 1, none⟩ = y ∧ Below B W w1 ∧ B < w1.heap.size := by
  obtain ⟨h1, h2, h3, h4⟩ := h
  refine ⟨?_, ?_, h3.trans (hb.mono (by omega)), Nat.lt_of_lt_of_le h4 hb.size⟩
  · rw [hb.cell (p := ⟨B, 0, none⟩) h4]; exact h1
  · rw [hb.cell (p := ⟨B, 1, none⟩) h4]; exact h2

theorem i64_rng {a : Int} (h : (Lit.int .i64 a).wf = true) : -9223372036854775808 ≤ a ∧ a ≤ 9223372036854775807 := by
  simp only [Lit.wf, Bool.and_eq_true, decide_eq_true_eq] at h
  have e1 : IntKind.i64.min = -9223372036854775808 := by decide
  have e2 : IntKind.i64.max = 9223372036854775807 := by decide
  omega

/-- The world has at most new blocks since W, and the cells l hold what they held and may be written. -/
def Kept (W w : World) (l : List (Addr × Value)) : Prop := Below W.heap.size W w ∧ ∀ p ∈ l, p.1.block < w.heap.size ∧ w.cell? p.1 = some p.2 ∧ w.frozen? p.1 = false

theorem Kept.start (W : World) : Kept W W [] := ⟨Below.refl _ _, fun _ h => by cases h⟩

theorem Kept.step {W w w1 : World} {l : List (Addr × Value)} (h : Kept W w l) (hb : Below w.heap.size w w1) : Kept W w1 l :=
  ⟨h.1.trans (hb.mono h.1.size), fun p hp => ⟨Nat.lt_of_lt_of_le (h.2 p hp).1 hb.size, by rw [hb.cell (h.2 p hp).1]; exact (h.2 p hp).2.1, by rw [hb.frozen (h.2 p hp).1]; exact (h.2 p hp).2.2⟩⟩

theorem Kept.alloc2 {W w : World} {l : List (Addr × Value)} (h : Kept W w l) (x y : Value) (t : TypeId) (B : Nat) (hB : w.heap.size = B) :
    Kept W (w.alloc (.cells #[x, y] t)) ((⟨B, 0, none⟩, x) :: (⟨B, 1, none⟩, y) :: l) := by
  subst hB
  have h1 := h.step ((Below.refl w.heap.size w).alloc (Nat.le_refl _) (.cells #[x, y] t))
  refine ⟨h1.1, fun p hp => ?_⟩
  simp only [List.mem_cons] at hp
  rcases hp with rfl | rfl | hp
  · exact ⟨by simp, by go_simp, by go_simp⟩
  · exact ⟨by simp, by go_simp, by go_simp⟩
  · exact h1.2 p hp

theorem Kept.drew {W w : World} {l : List (Addr × Value)} (h : Kept W w l) : Kept W w.drew l := h.step (Below.refl _ _).drew

theorem Kept.get {W w : World} {l : List (Addr × Value)} (h : Kept W w l) (i : Nat) {a : Addr} {v : Value} (hi : l[i]? = some (a, v)) : w.cell? a = some v :=
  (h.2 (a, v) (List.mem_of_getElem? hi)).2.1
theorem Kept.fz {W w : World} {l : List (Addr × Value)} (h : Kept W w l) (i : Nat) {a : Addr} {v : Value} (hi : l[i]? = some (a, v)) : w.frozen? a = false :=
  (h.2 (a, v) (List.mem_of_getElem? hi)).2.2
theorem Kept.lt {W w : World} {l : List (Addr × Value)} (h : Kept W w l) (i : Nat) {a : Addr} {v : Value} (hi : l[i]? = some (a, v)) : a.block < w.heap.size :=
  (h.2 (a, v) (List.mem_of_getElem? hi)).1
end Go.Proofs.Ytcfcohnkkgickaa

/-! ### Held -/
namespace Go.Proofs.Ytcfcohnkkgickaa
open Go.RowKit

theorem Kept.below {W w : World} {l : List (Addr × Value)} (h : Kept W w l) : Below W.heap.size W w := h.1

theorem s2_start {W w : World} {a0 a1 : Addr} {v0 v1 : Value} {l : List (Addr × Value)} (h : Kept W w ((a0, v0) :: (a1, v1) :: l)) :
    w.drew.cell? a0 = some v0 ∧ w.drew.cell? a1 = some v1 ∧ Kept W w.drew ((a0, v0) :: (a1, v1) :: l) :=
  ⟨h.drew.get 0 rfl, h.drew.get 1 rfl, h.drew⟩
theorem s2_keep {W w w1 : World} {a0 a1 : Addr} {v0 v1 : Value} {l : List (Addr × Value)} (h : w.cell? a0 = some v0 ∧ w.cell? a1 = some v1 ∧ Kept W w ((a0, v0) :: (a1, v1) :: l)) (hb : Below w.heap.size w w1) :
    w1.cell? a0 = some v0 ∧ w1.cell? a1 = some v1 ∧ Kept W w1 ((a0, v0) :: (a1, v1) :: l) :=
  have k := h.2.2.step hb
  ⟨k.get 0 rfl, k.get 1 rfl, k⟩
theorem s4_start {W w : World} {a0 a1 a2 a3 : Addr} {v0 v1 v2 v3 : Value} {l : List (Addr × Value)} (h : Kept W w ((a0, v0) :: (a1, v1) :: (a2, v2) :: (a3, v3) :: l)) :
    w.drew.cell? a0 = some v0 ∧ w.drew.cell? a1 = some v1 ∧ w.drew.cell? a2 = some v2 ∧ w.drew.cell? a3 = some v3 ∧ Kept W w.drew ((a0, v0) :: (a1, v1) :: (a2, v2) :: (a3, v3) :: l) :=
  ⟨h.drew.get 0 rfl, h.drew.get 1 rfl, h.drew.get 2 rfl, h.drew.get 3 rfl, h.drew⟩
theorem s4_keep {W w w1 : World} {a0 a1 a2 a3 : Addr} {v0 v1 v2 v3 : Value} {l : List (Addr × Value)} (h : w.cell? a0 = some v0 ∧ w.cell? a1 = some v1 ∧ w.cell? a2 = some v2 ∧ w.cell? a3 = some v3 ∧ Kept W w ((a0, v0) :: (a1, v1) :: (a2, v2) :: (a3, v3) :: l)) (hb : Below w.heap.size w w1) :
    w1.cell? a0 = some v0 ∧ w1.cell? a1 = some v1 ∧ w1.cell? a2 = some v2 ∧ w1.cell? a3 = some v3 ∧ Kept W w1 ((a0, v0) :: (a1, v1) :: (a2, v2) :: (a3, v3) :: l) :=
  have k := h.2.2.2.2.step hb
  ⟨k.get 0 rfl, k.get 1 rfl, k.get 2 rfl, k.get 3 rfl, k⟩

theorem s6_start {W w : World} {a0 a1 a2 a3 a4 a5 : Addr} {v0 v1 v2 v3 v4 v5 : Value} {l : List (Addr × Value)} (h : Kept W w ((a0, v0) :: (a1, v1) :: (a2, v2) :: (a3, v3) :: (a4, v4) :: (a5, v5) :: l)) :
    w.drew.cell? a0 = some v0 ∧ w.drew.cell? a1 = some v1 ∧ w.drew.cell? a2 = some v2 ∧ w.drew.cell? a3 = some v3 ∧ w.drew.cell? a4 = some v4 ∧ w.drew.cell? a5 = some v5 ∧ Kept W w.drew ((a0, v0) :: (a1, v1) :: (a2, v2) :: (a3, v3) :: (a4, v4) :: (a5, v5) :: l) :=
  ⟨h.drew.get 0 rfl, h.drew.get 1 rfl, h.drew.get 2 rfl, h.drew.get 3 rfl, h.drew.get 4 rfl, h.drew.get 5 rfl, h.drew⟩
theorem s6_keep {W w w1 : World} {a0 a1 a2 a3 a4 a5 : Addr} {v0 v1 v2 v3 v4 v5 : Value} {l : List (Addr × Value)} (h : w.cell? a0 = some v0 ∧ w.cell? a1 = some v1 ∧ w.cell? a2 = some v2 ∧ w.cell? a3 = some v3 ∧ w.cell? a4 = some v4 ∧ w.cell? a5 = some v5 ∧ Kept W w ((a0, v0) :: (a1, v1) :: (a2, v2) :: (a3, v3) :: (a4, v4) :: (a5, v5) :: l)) (hb : Below w.heap.size w w1) :
    w1.cell? a0 = some v0 ∧ w1.cell? a1 = some v1 ∧ w1.cell? a2 = some v2 ∧ w1.cell? a3 = some v3 ∧ w1.cell? a4 = some v4 ∧ w1.cell? a5 = some v5 ∧ Kept W w1 ((a0, v0) :: (a1, v1) :: (a2, v2) :: (a3, v3) :: (a4, v4) :: (a5, v5) :: l) :=
  have k := h.2.2.2.2.2.2.step hb
  ⟨k.get 0 rfl, k.get 1 rfl, k.get 2 rfl, k.get 3 rfl, k.get 4 rfl, k.get 5 rfl, k⟩
theorem s8_start {W w : World} {a0 a1 a2 a3 a4 a5 a6 a7 : Addr} {v0 v1 v2 v3 v4 v5 v6 v7 : Value} {l : List (Addr × Value)} (h : Kept W w ((a0, v0) :: (a1, v1) :: (a2, v2) :: (a3, v3) :: (a4, v4) :: (a5, v5) :: (a6, v6) :: (a7, v7) :: l)) :
    w.drew.cell? a0 = some v0 ∧ w.drew.cell? a1 = some v1 ∧ w.drew.cell? a2 = some v2 ∧ w.drew.cell? a3 = some v3 ∧ w.drew.cell? a4 = some v4 ∧ w.drew.cell? a5 = some v5 ∧ w.drew.cell? a6 = some v6 ∧ w.drew.cell? a7 = some v7 ∧ Kept W w.drew ((a0, v0) :: (a1, v1) :: (a2, v2) :: (a3, v3) :: (a4, v4) :: (a5, v5) :: (a6, v6) :: (a7, v7) :: l) :=
  ⟨h.drew.get 0 rfl, h.drew.get 1 rfl, h.drew.get 2 rfl, h.drew.get 3 rfl, h.drew.get 4 rfl, h.drew.get 5 rfl, h.drew.get 6 rfl, h.drew.get 7 rfl, h.drew⟩
theorem s8_keep {W w w1 : World} {a0 a1 a2 a3 a4 a5 a6 a7 : Addr} {v0 v1 v2 v3 v4 v5 v6 v7 : Value} {l : List (Addr × Value)} (h : w.cell? a0 = some v0 ∧ w.cell? a1 = some v1 ∧ w.cell? a2 = some v2 ∧ w.cell? a3 = some v3 ∧ w.cell? a4 = some v4 ∧ w.cell? a5 = some v5 ∧ w.cell? a6 = some v6 ∧ w.cell? a7 = some v7 ∧ Kept W w ((a0, v0) :: (a1, v1) :: (a2, v2) :: (a3, v3) :: (a4, v4) :: (a5, v5) :: (a6, v6) :: (a7, v7) :: l)) (hb : Below w.heap.size w w1) :
    w1.cell? a0 = some v0 ∧ w1.cell? a1 = some v1 ∧ w1.cell? a2 = some v2 ∧ w1.cell? a3 = some v3 ∧ w1.cell? a4 = some v4 ∧ w1.cell? a5 = some v5 ∧ w1.cell? a6 = some v6 ∧ w1.cell? a7 = some v7 ∧ Kept W w1 ((a0, v0) :: (a1, v1) :: (a2, v2) :: (a3, v3) :: (a4, v4) :: (a5, v5) :: (a6, v6) :: (a7, v7) :: l) :=
  have k := h.2.2.2.2.2.2.2.2.step hb
  ⟨k.get 0 rfl, k.get 1 rfl, k.get 2 rfl, k.get 3 rfl, k.get 4 rfl, k.get 5 rfl, k.get 6 rfl, k.get 7 rfl, k⟩

theorem s4_re {W w : World} {B : Nat} {v0 v1 v2 v3 : Value} {o o' : Obj}
    (h : (w.alloc o).cell? ⟨B + 1, 0, none⟩ = some v0 ∧ (w.alloc o).cell? ⟨B + 1, 1, none⟩ = some v1 ∧ (w.alloc o).cell? ⟨B, 0, none⟩ = some v2 ∧ (w.alloc o).cell? ⟨B, 1, none⟩ = some v3 ∧ Kept W (w.alloc o) [(⟨B + 1, 0, none⟩, v0), (⟨B + 1, 1, none⟩, v1), (⟨B, 0, none⟩, v2), (⟨B, 1, none⟩, v3)])
    (hz : B + 1 < w.heap.size) (hW : W.heap.size ≤ w.heap.size) :
    (w.alloc o').cell? ⟨B + 1, 0, none⟩ = some v0 ∧ (w.alloc o').cell? ⟨B + 1, 1, none⟩ = some v1 ∧ (w.alloc o').cell? ⟨B, 0, none⟩ = some v2 ∧ (w.alloc o').cell? ⟨B, 1, none⟩ = some v3 ∧ Kept W (w.alloc o') [(⟨B + 1, 0, none⟩, v0), (⟨B + 1, 1, none⟩, v1), (⟨B, 0, none⟩, v2), (⟨B, 1, none⟩, v3)] := by
  have hb := (Below.refl w.heap.size w).alloc (Nat.le_refl _) o
  have hb' := (Below.refl w.heap.size w).alloc (Nat.le_refl _) o'
  have K := h.2.2.2.2
  have K' : Kept W w [(⟨B + 1, 0, none⟩, v0), (⟨B + 1, 1, none⟩, v1), (⟨B, 0, none⟩, v2), (⟨B, 1, none⟩, v3)] := by
    refine ⟨⟨K.1.os, K.1.tape, K.1.output, hW, fun j hj => ?_⟩, fun p hp => ?_⟩
    · rw [← K.1.block j hj, hb.block j (by omega)]
    · have hk := K.2 p hp
      have hl : p.1.block < w.heap.size := by
        simp only [List.mem_cons, List.not_mem_nil, or_false] at hp
        rcases hp with rfl | rfl | rfl | rfl <;> simp only <;> omega
      exact ⟨hl, by rw [← hb.cell hl]; exact hk.2.1, by rw [← hb.frozen hl]; exact hk.2.2⟩
  have k := K'.step hb'
  exact ⟨k.get 0 rfl, k.get 1 rfl, k.get 2 rfl, k.get 3 rfl, k⟩

/-- A store into a kept cell. -/
theorem Kept.set {W w : World} {a : Addr} {v : Value} {p q : List (Addr × Value)} (h : Kept W w (p ++ (a, v) :: q)) (u : Value) (hW : W.heap.size ≤ a.block) (hne : ∀ c ∈ p ++ q, c.1 ≠ a) : Kept W (w.setCell a u) (p ++ (a, u) :: q) := by
  have ha := h.2 (a, v) (by simp)
  refine ⟨h.1.setCell hW u, fun c hc => ?_⟩
  simp only [List.mem_append, List.mem_cons] at hc
  have hsz : (w.setCell a u).heap.size = w.heap.size := by simp
  have other : ∀ c ∈ p ++ q, c.1.block < (w.setCell a u).heap.size ∧ (w.setCell a u).cell? c.1 = some c.2 ∧ (w.setCell a u).frozen? c.1 = false := by
    intro c hc
    have hk := h.2 c (by simp only [List.mem_append, List.mem_cons] at hc ⊢; rcases hc with hc | hc <;> simp [hc])
    refine ⟨by rw [hsz]; exact hk.1, ?_, ?_⟩
    · rw [World.cell?_setCell_other (w := w) (a := a) (b := c.1) (v := u) (fun e => hne c hc e.symm)]; exact hk.2.1
    · rw [World.frozen?_setCell]; exact hk.2.2
  rcases hc with hc | rfl | hc
  · exact other c (by simp [hc])
  · refine ⟨by rw [hsz]; exact ha.1, ?_, by rw [World.frozen?_setCell]; exact ha.2.2⟩
    exact World.cell?_setCell_same (w := w) (a := a) (v := u) ha.2.1
  · exact other c (by simp [hc])

/-- Two stores into the two cells of a block that lies behind all others kept. -/
theorem Kept.set2 {W w : World} {g : Nat} {v0 v1 : Value} {l : List (Addr × Value)} (h : Kept W w ((⟨g, 0, none⟩, v0) :: (⟨g, 1, none⟩, v1) :: l)) (x y : Value) (hW : W.heap.size ≤ g) (hl : ∀ c ∈ l, c.1.block < g) :
    Kept W ((w.setCell ⟨g, 0, none⟩ x).setCell ⟨g, 1, none⟩ y) ((⟨g, 0, none⟩, x) :: (⟨g, 1, none⟩, y) :: l) := by
  have h1 := Kept.set (p := []) (q := (⟨g, 1, none⟩, v1) :: l) h x hW (by
    intro c hc
    simp only [List.nil_append, List.mem_cons] at hc
    rcases hc with rfl | hc
    · simp
    · intro e; have := hl c hc; rw [e] at this; simp at this)
  refine Kept.set (p := [(⟨g, 0, none⟩, x)]) (q := l) h1 y hW ?_
  intro c hc
  simp only [List.cons_append, List.nil_append, List.mem_cons] at hc
  rcases hc with rfl | hc
  · simp
  · intro e; have := hl c hc; rw [e] at this; simp at this

theorem Kept.cons {W w : World} {l : List (Addr × Value)} (h : Kept W w l) {a : Addr} {v : Value} (h1 : a.block < w.heap.size) (h2 : w.cell? a = some v) (h3 : w.frozen? a = false) : Kept W w ((a, v) :: l) :=
  ⟨h.1, fun p hp => by
    rcases List.mem_cons.1 hp with rfl | hp
    · exact ⟨h1, h2, h3⟩
    · exact h.2 p hp⟩

theorem cell_alloc_some {w : World} {a : Addr} {v : Value} (o : Obj) (h : w.cell? a = some v) : (w.alloc o).cell? a = some v := by
  rw [((Below.refl w.heap.size w).alloc (Nat.le_refl _) o).cell (World.block_lt_of_cell? w _ h)]; exact h
theorem cell_set2_some {w : World} {a : Addr} {v : Value} {g : Nat} (x y : Value) (h : w.cell? a = some v) (hne : a.block ≠ g) : ((w.setCell ⟨g, 0, none⟩ x).setCell ⟨g, 1, none⟩ y).cell? a = some v := by
  rw [World.cell?_setCell_other (w := w.setCell ⟨g, 0, none⟩ x) (a := ⟨g, 1, none⟩) (b := a) (v := y) (fun e => hne (by rw [← e])), World.cell?_setCell_other (w := w) (a := ⟨g, 0, none⟩) (b := a) (v := x) (fun e => hne (by rw [← e]))]
  exact h
/-- The loaded cells of two boxes behind an alloc, behind the store into the block that was made. -/
theorem c4_alloc {w : World} {a0 a1 a2 a3 : Addr} {v0 v1 v2 v3 : Value} {o : Obj} (h : w.cell? a0 = some v0 ∧ w.cell? a1 = some v1 ∧ w.cell? a2 = some v2 ∧ w.cell? a3 = some v3) :
    (w.alloc o).cell? a0 = some v0 ∧ (w.alloc o).cell? a1 = some v1 ∧ (w.alloc o).cell? a2 = some v2 ∧ (w.alloc o).cell? a3 = some v3 :=
  ⟨cell_alloc_some o h.1, cell_alloc_some o h.2.1, cell_alloc_some o h.2.2.1, cell_alloc_some o h.2.2.2⟩
theorem c4_set2 {w : World} {a0 a1 a2 a3 : Addr} {v0 v1 v2 v3 : Value} {g : Nat} {x y : Value} (h : w.cell? a0 = some v0 ∧ w.cell? a1 = some v1 ∧ w.cell? a2 = some v2 ∧ w.cell? a3 = some v3) (h0 : a0.block ≠ g) (h1 : a1.block ≠ g) (h2 : a2.block ≠ g) (h3 : a3.block ≠ g) :
    ((w.setCell ⟨g, 0, none⟩ x).setCell ⟨g, 1, none⟩ y).cell? a0 = some v0 ∧ ((w.setCell ⟨g, 0, none⟩ x).setCell ⟨g, 1, none⟩ y).cell? a1 = some v1 ∧ ((w.setCell ⟨g, 0, none⟩ x).setCell ⟨g, 1, none⟩ y).cell? a2 = some v2 ∧ ((w.setCell ⟨g, 0, none⟩ x).setCell ⟨g, 1, none⟩ y).cell? a3 = some v3 :=
  ⟨cell_set2_some x y h.1 h0, cell_set2_some x y h.2.1 h1, cell_set2_some x y h.2.2.1 h2, cell_set2_some x y h.2.2.2 h3⟩

theorem Kept.alloc4 {W w : World} {l : List (Addr × Value)} (h : Kept W w l) (x y u v : Value) (t : TypeId) (B : Nat) (hB : w.heap.size = B) :
    Kept W (w.alloc (.cells #[x, y, u, v] t)) ((⟨B, 0, none⟩, x) :: (⟨B, 1, none⟩, y) :: (⟨B, 2, none⟩, u) :: (⟨B, 3, none⟩, v) :: l) := by
  subst hB
  have h1 := h.step ((Below.refl w.heap.size w).alloc (Nat.le_refl _) (.cells #[x, y, u, v] t))
  refine ⟨h1.1, fun p hp => ?_⟩
  simp only [List.mem_cons] at hp
  rcases hp with rfl | rfl | rfl | rfl | hp
  · exact ⟨by simp, by go_simp, by go_simp⟩
  · exact ⟨by simp, by go_simp, by go_simp⟩
  · exact ⟨by simp, by go_simp, by go_simp⟩
  · exact ⟨by simp, by go_simp, by go_simp⟩
  · exact h1.2 p hp
end Go.Proofs.Ytcfcohnkkgickaa

/-! ### Held8 -/
namespace Go.Proofs.Ytcfcohnkkgickaa
open Go.RowKit

theorem cell_set4_some {w : World} {a : Addr} {v9 : Value} {g : Nat} (x y u v : Value) (h : w.cell? a = some v9) (hne : a.block ≠ g) : ((((w.setCell ⟨g, 0, none⟩ x).setCell ⟨g, 1, none⟩ y).setCell ⟨g, 2, none⟩ u).setCell ⟨g, 3, none⟩ v).cell? a = some v9 := by
  rw [World.cell?_setCell_other (w := (((w.setCell ⟨g, 0, none⟩ x).setCell ⟨g, 1, none⟩ y).setCell ⟨g, 2, none⟩ u)) (a := ⟨g, 3, none⟩) (b := a) (v := v) (fun e => hne (by rw [← e])), World.cell?_setCell_other (w := ((w.setCell ⟨g, 0, none⟩ x).setCell ⟨g, 1, none⟩ y)) (a := ⟨g, 2, none⟩) (b := a) (v := u) (fun e => hne (by rw [← e])), World.cell?_setCell_other (w := (w.setCell ⟨g, 0, none⟩ x)) (a := ⟨g, 1, none⟩) (b := a) (v := y) (fun e => hne (by rw [← e])), World.cell?_setCell_other (w := w) (a := ⟨g, 0, none⟩) (b := a) (v := x) (fun e => hne (by rw [← e]))]
  exact h
theorem c8_set4 {w : World} {a0 a1 a2 a3 a4 a5 a6 a7 : Addr} {v0 v1 v2 v3 v4 v5 v6 v7 x y u v : Value} {g : Nat} (h : w.cell? a0 = some v0 ∧ w.cell? a1 = some v1 ∧ w.cell? a2 = some v2 ∧ w.cell? a3 = some v3 ∧ w.cell? a4 = some v4 ∧ w.cell? a5 = some v5 ∧ w.cell? a6 = some v6 ∧ w.cell? a7 = some v7) (h0 : a0.block ≠ g) (h1 : a1.block ≠ g) (h2 : a2.block ≠ g) (h3 : a3.block ≠ g) (h4 : a4.block ≠ g) (h5 : a5.block ≠ g) (h6 : a6.block ≠ g) (h7 : a7.block ≠ g) :
    ((((w.setCell ⟨g, 0, none⟩ x).setCell ⟨g, 1, none⟩ y).setCell ⟨g, 2, none⟩ u).setCell ⟨g, 3, none⟩ v).cell? a0 = some v0 ∧ ((((w.setCell ⟨g, 0, none⟩ x).setCell ⟨g, 1, none⟩ y).setCell ⟨g, 2, none⟩ u).setCell ⟨g, 3, none⟩ v).cell? a1 = some v1 ∧ ((((w.setCell ⟨g, 0, none⟩ x).setCell ⟨g, 1, none⟩ y).setCell ⟨g, 2, none⟩ u).setCell ⟨g, 3, none⟩ v).cell? a2 = some v2 ∧ ((((w.setCell ⟨g, 0, none⟩ x).setCell ⟨g, 1, none⟩ y).setCell ⟨g, 2, none⟩ u).setCell ⟨g, 3, none⟩ v).cell? a3 = some v3 ∧ ((((w.setCell ⟨g, 0, none⟩ x).setCell ⟨g, 1, none⟩ y).setCell ⟨g, 2, none⟩ u).setCell ⟨g, 3, none⟩ v).cell? a4 = some v4 ∧ ((((w.setCell ⟨g, 0, none⟩ x).setCell ⟨g, 1, none⟩ y).setCell ⟨g, 2, none⟩ u).setCell ⟨g, 3, none⟩ v).cell? a5 = some v5 ∧ ((((w.setCell ⟨g, 0, none⟩ x).setCell ⟨g, 1, none⟩ y).setCell ⟨g, 2, none⟩ u).setCell ⟨g, 3, none⟩ v).cell? a6 = some v6 ∧ ((((w.setCell ⟨g, 0, none⟩ x).setCell ⟨g, 1, none⟩ y).setCell ⟨g, 2, none⟩ u).setCell ⟨g, 3, none⟩ v).cell? a7 = some v7 :=
  ⟨cell_set4_some x y u v h.1 h0, cell_set4_some x y u v h.2.1 h1, cell_set4_some x y u v h.2.2.1 h2, cell_set4_some x y u v h.2.2.2.1 h3, cell_set4_some x y u v h.2.2.2.2.1 h4, cell_set4_some x y u v h.2.2.2.2.2.1 h5, cell_set4_some x y u v h.2.2.2.2.2.2.1 h6, cell_set4_some x y u v h.2.2.2.2.2.2.2 h7⟩
theorem c8_alloc {w : World} {a0 a1 a2 a3 a4 a5 a6 a7 : Addr} {v0 v1 v2 v3 v4 v5 v6 v7 : Value} {o : Obj} (h : w.cell? a0 = some v0 ∧ w.cell? a1 = some v1 ∧ w.cell? a2 = some v2 ∧ w.cell? a3 = some v3 ∧ w.cell? a4 = some v4 ∧ w.cell? a5 = some v5 ∧ w.cell? a6 = some v6 ∧ w.cell? a7 = some v7) :
    (w.alloc o).cell? a0 = some v0 ∧ (w.alloc o).cell? a1 = some v1 ∧ (w.alloc o).cell? a2 = some v2 ∧ (w.alloc o).cell? a3 = some v3 ∧ (w.alloc o).cell? a4 = some v4 ∧ (w.alloc o).cell? a5 = some v5 ∧ (w.alloc o).cell? a6 = some v6 ∧ (w.alloc o).cell? a7 = some v7 :=
  ⟨cell_alloc_some o h.1, cell_alloc_some o h.2.1, cell_alloc_some o h.2.2.1, cell_alloc_some o h.2.2.2.1, cell_alloc_some o h.2.2.2.2.1, cell_alloc_some o h.2.2.2.2.2.1, cell_alloc_some o h.2.2.2.2.2.2.1, cell_alloc_some o h.2.2.2.2.2.2.2⟩

theorem c8_adrew {w : World} {a0 a1 a2 a3 a4 a5 a6 a7 : Addr} {v0 v1 v2 v3 v4 v5 v6 v7 : Value} {o : Obj} (h : w.cell? a0 = some v0 ∧ w.cell? a1 = some v1 ∧ w.cell? a2 = some v2 ∧ w.cell? a3 = some v3 ∧ w.cell? a4 = some v4 ∧ w.cell? a5 = some v5 ∧ w.cell? a6 = some v6 ∧ w.cell? a7 = some v7) :
    (w.alloc o).drew.cell? a0 = some v0 ∧ (w.alloc o).drew.cell? a1 = some v1 ∧ (w.alloc o).drew.cell? a2 = some v2 ∧ (w.alloc o).drew.cell? a3 = some v3 ∧ (w.alloc o).drew.cell? a4 = some v4 ∧ (w.alloc o).drew.cell? a5 = some v5 ∧ (w.alloc o).drew.cell? a6 = some v6 ∧ (w.alloc o).drew.cell? a7 = some v7 := c8_alloc h

/-- Four stores into the four cells of a block that lies behind all others kept. -/
theorem Kept.set4 {W w : World} {g : Nat} {v0 v1 v2 v3 : Value} {l : List (Addr × Value)} (h : Kept W w ((⟨g, 0, none⟩, v0) :: (⟨g, 1, none⟩, v1) :: (⟨g, 2, none⟩, v2) :: (⟨g, 3, none⟩, v3) :: l)) (x y u v : Value) (hW : W.heap.size ≤ g) (hl : ∀ c ∈ l, c.1.block < g) :
    Kept W ((((w.setCell ⟨g, 0, none⟩ x).setCell ⟨g, 1, none⟩ y).setCell ⟨g, 2, none⟩ u).setCell ⟨g, 3, none⟩ v) ((⟨g, 0, none⟩, x) :: (⟨g, 1, none⟩, y) :: (⟨g, 2, none⟩, u) :: (⟨g, 3, none⟩, v) :: l) := by
  have hl' : ∀ j, ∀ c ∈ l, c.1 ≠ ⟨g, j, none⟩ := fun j c hc e => by have := hl c hc; rw [e] at this; simp at this
  have h1 := Kept.set (p := []) h x hW (by
    intro c hc
    simp only [List.nil_append, List.mem_cons] at hc
    rcases hc with rfl | rfl | rfl | hc
    · simp
    · simp
    · simp
    · exact hl' 0 c hc)
  have h2 := Kept.set (p := [(⟨g, 0, none⟩, x)]) h1 y hW (by
    intro c hc
    simp only [List.cons_append, List.nil_append, List.mem_cons] at hc
    rcases hc with rfl | rfl | rfl | hc
    · simp
    · simp
    · simp
    · exact hl' 1 c hc)
  have h3 := Kept.set (p := [(⟨g, 0, none⟩, x), (⟨g, 1, none⟩, y)]) h2 u hW (by
    intro c hc
    simp only [List.cons_append, List.nil_append, List.mem_cons] at hc
    rcases hc with rfl | rfl | rfl | hc
    · simp
    · simp
    · simp
    · exact hl' 2 c hc)
  exact Kept.set (p := [(⟨g, 0, none⟩, x), (⟨g, 1, none⟩, y), (⟨g, 2, none⟩, u)]) h3 v hW (by
    intro c hc
    simp only [List.cons_append, List.nil_append, List.mem_cons] at hc
    rcases hc with rfl | rfl | rfl | hc
    · simp
    · simp
    · simp
    · exact hl' 3 c hc)
end Go.Proofs.Ytcfcohnkkgickaa

/-! ### Held20 -/
namespace Go.Proofs.Ytcfcohnkkgickaa
open Go.RowKit

/-- In a region that draws its order: an operation whose guard says no is taken first, and leaves nothing. -/
theorem held_skip {P : Program} {ops : Array Oper} {Q : Exit → Act → World → Prop} {md : Region.Mode} {S : World → Prop} {i : Nat} {oi : Oper} {fuel : Nat} {listed : Array Bool} {a : Act} {w : World} (hi : ops[i]? = some oi)
    (hs : Region.noSelect ops = true) (hf : Region.free md ops listed i = true) (hr : (Region.ready md ops listed).contains i = true)
    (hQ : ∀ c a w, Q (.panic c) (a.put oi.dst undef) w → Q (.panic c) a w) (hw : Region.wanted oi (yielded ops a.tmps) = false) (hS : S w)
    (h : wpAnyH P md ops Q S fuel (listed.setIfInBounds i true) (a.put oi.dst undef) w) : wpAnyH P md ops Q S (fuel + 1) listed a w :=
  wpAnyH_take hi hs hf hr hQ (Or.inr ⟨hw, rfl⟩) hS h

/-- A part of what is kept. -/
theorem Kept.sub {W w : World} {l l' : List (Addr × Value)} (h : Kept W w l) (hs : ∀ p ∈ l', p ∈ l) : Kept W w l' := ⟨h.1, fun p hp => h.2 p (hs p hp)⟩

theorem s12_start {W w : World} {a0 a1 a2 a3 a4 a5 a6 a7 a8 a9 a10 a11 : Addr} {v0 v1 v2 v3 v4 v5 v6 v7 v8 v9 v10 v11 : Value} {l : List (Addr × Value)} (h : Kept W w ((a0, v0) :: (a1, v1) :: (a2, v2) :: (a3, v3) :: (a4, v4) :: (a5, v5) :: (a6, v6) :: (a7, v7) :: (a8, v8) :: (a9, v9) :: (a10, v10) :: (a11, v11) :: l)) :
    w.drew.cell? a0 = some v0 ∧ w.drew.cell? a1 = some v1 ∧ w.drew.cell? a2 = some v2 ∧ w.drew.cell? a3 = some v3 ∧ w.drew.cell? a4 = some v4 ∧ w.drew.cell? a5 = some v5 ∧ w.drew.cell? a6 = some v6 ∧ w.drew.cell? a7 = some v7 ∧ w.drew.cell? a8 = some v8 ∧ w.drew.cell? a9 = some v9 ∧ w.drew.cell? a10 = some v10 ∧ w.drew.cell? a11 = some v11 ∧ Kept W w.drew ((a0, v0) :: (a1, v1) :: (a2, v2) :: (a3, v3) :: (a4, v4) :: (a5, v5) :: (a6, v6) :: (a7, v7) :: (a8, v8) :: (a9, v9) :: (a10, v10) :: (a11, v11) :: l) :=
  ⟨h.drew.get 0 rfl, h.drew.get 1 rfl, h.drew.get 2 rfl, h.drew.get 3 rfl, h.drew.get 4 rfl, h.drew.get 5 rfl, h.drew.get 6 rfl, h.drew.get 7 rfl, h.drew.get 8 rfl, h.drew.get 9 rfl, h.drew.get 10 rfl, h.drew.get 11 rfl, h.drew⟩
theorem s12_keep {W w w1 : World} {a0 a1 a2 a3 a4 a5 a6 a7 a8 a9 a10 a11 : Addr} {v0 v1 v2 v3 v4 v5 v6 v7 v8 v9 v10 v11 : Value} {l : List (Addr × Value)} (h : w.cell? a0 = some v0 ∧ w.cell? a1 = some v1 ∧ w.cell? a2 = some v2 ∧ w.cell? a3 = some v3 ∧ w.cell? a4 = some v4 ∧ w.cell? a5 = some v5 ∧ w.cell? a6 = some v6 ∧ w.cell? a7 = some v7 ∧ w.cell? a8 = some v8 ∧ w.cell? a9 = some v9 ∧ w.cell? a10 = some v10 ∧ w.cell? a11 = some v11 ∧ Kept W w ((a0, v0) :: (a1, v1) :: (a2, v2) :: (a3, v3) :: (a4, v4) :: (a5, v5) :: (a6, v6) :: (a7, v7) :: (a8, v8) :: (a9, v9) :: (a10, v10) :: (a11, v11) :: l)) (hb : Below w.heap.size w w1) :
    w1.cell? a0 = some v0 ∧ w1.cell? a1 = some v1 ∧ w1.cell? a2 = some v2 ∧ w1.cell? a3 = some v3 ∧ w1.cell? a4 = some v4 ∧ w1.cell? a5 = some v5 ∧ w1.cell? a6 = some v6 ∧ w1.cell? a7 = some v7 ∧ w1.cell? a8 = some v8 ∧ w1.cell? a9 = some v9 ∧ w1.cell? a10 = some v10 ∧ w1.cell? a11 = some v11 ∧ Kept W w1 ((a0, v0) :: (a1, v1) :: (a2, v2) :: (a3, v3) :: (a4, v4) :: (a5, v5) :: (a6, v6) :: (a7, v7) :: (a8, v8) :: (a9, v9) :: (a10, v10) :: (a11, v11) :: l) :=
  have k := h.2.2.2.2.2.2.2.2.2.2.2.2.step hb
  ⟨k.get 0 rfl, k.get 1 rfl, k.get 2 rfl, k.get 3 rfl, k.get 4 rfl, k.get 5 rfl, k.get 6 rfl, k.get 7 rfl, k.get 8 rfl, k.get 9 rfl, k.get 10 rfl, k.get 11 rfl, k⟩
theorem s14_start {W w : World} {a0 a1 a2 a3 a4 a5 a6 a7 a8 a9 a10 a11 a12 a13 : Addr} {v0 v1 v2 v3 v4 v5 v6 v7 v8 v9 v10 v11 v12 v13 : Value} {l : List (Addr × Value)} (h : Kept W w ((a0, v0) :: (a1, v1) :: (a2, v2) :: (a3, v3) :: (a4, v4) :: (a5, v5) :: (a6, v6) :: (a7, v7) :: (a8, v8) :: (a9, v9) :: (a10, v10) :: (a11, v11) :: (a12, v12) :: (a13, v13) :: l)) :
    w.drew.cell? a0 = some v0 ∧ w.drew.cell? a1 = some v1 ∧ w.drew.cell? a2 = some v2 ∧ w.drew.cell? a3 = some v3 ∧ w.drew.cell? a4 = some v4 ∧ w.drew.cell? a5 = some v5 ∧ w.drew.cell? a6 = some v6 ∧ w.drew.cell? a7 = some v7 ∧ w.drew.cell? a8 = some v8 ∧ w.drew.cell? a9 = some v9 ∧ w.drew.cell? a10 = some v10 ∧ w.drew.cell? a11 = some v11 ∧ w.drew.cell? a12 = some v12 ∧ w.drew.cell? a13 = some v13 ∧ Kept W w.drew ((a0, v0) :: (a1, v1) :: (a2, v2) :: (a3, v3) :: (a4, v4) :: (a5, v5) :: (a6, v6) :: (a7, v7) :: (a8, v8) :: (a9, v9) :: (a10, v10) :: (a11, v11) :: (a12, v12) :: (a13, v13) :: l) :=
  ⟨h.drew.get 0 rfl, h.drew.get 1 rfl, h.drew.get 2 rfl, h.drew.get 3 rfl, h.drew.get 4 rfl, h.drew.get 5 rfl, h.drew.get 6 rfl, h.drew.get 7 rfl, h.drew.get 8 rfl, h.drew.get 9 rfl, h.drew.get 10 rfl, h.drew.get 11 rfl, h.drew.get 12 rfl, h.drew.get 13 rfl, h.drew⟩
theorem s14_keep {W w w1 : World} {a0 a1 a2 a3 a4 a5 a6 a7 a8 a9 a10 a11 a12 a13 : Addr} {v0 v1 v2 v3 v4 v5 v6 v7 v8 v9 v10 v11 v12 v13 : Value} {l : List (Addr × Value)} (h : w.cell? a0 = some v0 ∧ w.cell? a1 = some v1 ∧ w.cell? a2 = some v2 ∧ w.cell? a3 = some v3 ∧ w.cell? a4 = some v4 ∧ w.cell? a5 = some v5 ∧ w.cell? a6 = some v6 ∧ w.cell? a7 = some v7 ∧ w.cell? a8 = some v8 ∧ w.cell? a9 = some v9 ∧ w.cell? a10 = some v10 ∧ w.cell? a11 = some v11 ∧ w.cell? a12 = some v12 ∧ w.cell? a13 = some v13 ∧ Kept W w ((a0, v0) :: (a1, v1) :: (a2, v2) :: (a3, v3) :: (a4, v4) :: (a5, v5) :: (a6, v6) :: (a7, v7) :: (a8, v8) :: (a9, v9) :: (a10, v10) :: (a11, v11) :: (a12, v12) :: (a13, v13) :: l)) (hb : Below w.heap.size w w1) :
    w1.cell? a0 = some v0 ∧ w1.cell? a1 = some v1 ∧ w1.cell? a2 = some v2 ∧ w1.cell? a3 = some v3 ∧ w1.cell? a4 = some v4 ∧ w1.cell? a5 = some v5 ∧ w1.cell? a6 = some v6 ∧ w1.cell? a7 = some v7 ∧ w1.cell? a8 = some v8 ∧ w1.cell? a9 = some v9 ∧ w1.cell? a10 = some v10 ∧ w1.cell? a11 = some v11 ∧ w1.cell? a12 = some v12 ∧ w1.cell? a13 = some v13 ∧ Kept W w1 ((a0, v0) :: (a1, v1) :: (a2, v2) :: (a3, v3) :: (a4, v4) :: (a5, v5) :: (a6, v6) :: (a7, v7) :: (a8, v8) :: (a9, v9) :: (a10, v10) :: (a11, v11) :: (a12, v12) :: (a13, v13) :: l) :=
  have k := h.2.2.2.2.2.2.2.2.2.2.2.2.2.2.step hb
  ⟨k.get 0 rfl, k.get 1 rfl, k.get 2 rfl, k.get 3 rfl, k.get 4 rfl, k.get 5 rfl, k.get 6 rfl, k.get 7 rfl, k.get 8 rfl, k.get 9 rfl, k.get 10 rfl, k.get 11 rfl, k.get 12 rfl, k.get 13 rfl, k⟩
theorem s20_start {W w : World} {a0 a1 a2 a3 a4 a5 a6 a7 a8 a9 a10 a11 a12 a13 a14 a15 a16 a17 a18 a19 : Addr} {v0 v1 v2 v3 v4 v5 v6 v7 v8 v9 v10 v11 v12 v13 v14 v15 v16 v17 v18 v19 : Value} {l : List (Addr × Value)} (h : Kept W w ((a0, v0) :: (a1, v1) :: (a2, v2) :: (a3, v3) :: (a4, v4) :: (a5, v5) :: (a6, v6) :: (a7, v7) :: (a8, v8) :: (a9, v9) :: (a10, v10) :: (a11, v11) :: (a12, v12) :: (a13, v13) :: (a14, v14) :: (a15, v15) :: (a16, v16) :: (a17, v17) :: (a18, v18) :: (a19, v19) :: l)) :
    w.drew.cell? a0 = some v0 ∧ w.drew.cell? a1 = some v1 ∧ w.drew.cell? a2 = some v2 ∧ w.drew.cell? a3 = some v3 ∧ w.drew.cell? a4 = some v4 ∧ w.drew.cell? a5 = some v5 ∧ w.drew.cell? a6 = some v6 ∧ w.drew.cell? a7 = some v7 ∧ w.drew.cell? a8 = some v8 ∧ w.drew.cell? a9 = some v9 ∧ w.drew.cell? a10 = some v10 ∧ w.drew.cell? a11 = some v11 ∧ w.drew.cell? a12 = some v12 ∧ w.drew.cell? a13 = some v13 ∧ w.drew.cell? a14 = some v14 ∧ w.drew.cell? a15 = some v15 ∧ w.drew.cell? a16 = some v16 ∧ w.drew.cell? a17 = some v17 ∧ w.drew.cell? a18 = some v18 ∧ w.drew.cell? a19 = some v19 ∧ Kept W w.drew ((a0, v0) :: (a1, v1) :: (a2, v2) :: (a3, v3) :: (a4, v4) :: (a5, v5) :: (a6, v6) :: (a7, v7) :: (a8, v8) :: (a9, v9) :: (a10, v10) :: (a11, v11) :: (a12, v12) :: (a13, v13) :: (a14, v14) :: (a15, v15) :: (a16, v16) :: (a17, v17) :: (a18, v18) :: (a19, v19) :: l) :=
  ⟨h.drew.get 0 rfl, h.drew.get 1 rfl, h.drew.get 2 rfl, h.drew.get 3 rfl, h.drew.get 4 rfl, h.drew.get 5 rfl, h.drew.get 6 rfl, h.drew.get 7 rfl, h.drew.get 8 rfl, h.drew.get 9 rfl, h.drew.get 10 rfl, h.drew.get 11 rfl, h.drew.get 12 rfl, h.drew.get 13 rfl, h.drew.get 14 rfl, h.drew.get 15 rfl, h.drew.get 16 rfl, h.drew.get 17 rfl, h.drew.get 18 rfl, h.drew.get 19 rfl, h.drew⟩
theorem s20_keep {W w w1 : World} {a0 a1 a2 a3 a4 a5 a6 a7 a8 a9 a10 a11 a12 a13 a14 a15 a16 a17 a18 a19 : Addr} {v0 v1 v2 v3 v4 v5 v6 v7 v8 v9 v10 v11 v12 v13 v14 v15 v16 v17 v18 v19 : Value} {l : List (Addr × Value)} (h : w.cell? a0 = some v0 ∧ w.cell? a1 = some v1 ∧ w.cell? a2 = some v2 ∧ w.cell? a3 = some v3 ∧ w.cell? a4 = some v4 ∧ w.cell? a5 = some v5 ∧ w.cell? a6 = some v6 ∧ w.cell? a7 = some v7 ∧ w.cell? a8 = some v8 ∧ w.cell? a9 = some v9 ∧ w.cell? a10 = some v10 ∧ w.cell? a11 = some v11 ∧ w.cell? a12 = some v12 ∧ w.cell? a13 = some v13 ∧ w.cell? a14 = some v14 ∧ w.cell? a15 = some v15 ∧ w.cell? a16 = some v16 ∧ w.cell? a17 = some v17 ∧ w.cell? a18 = some v18 ∧ w.cell? a19 = some v19 ∧ Kept W w ((a0, v0) :: (a1, v1) :: (a2, v2) :: (a3, v3) :: (a4, v4) :: (a5, v5) :: (a6, v6) :: (a7, v7) :: (a8, v8) :: (a9, v9) :: (a10, v10) :: (a11, v11) :: (a12, v12) :: (a13, v13) :: (a14, v14) :: (a15, v15) :: (a16, v16) :: (a17, v17) :: (a18, v18) :: (a19, v19) :: l)) (hb : Below w.heap.size w w1) :
    w1.cell? a0 = some v0 ∧ w1.cell? a1 = some v1 ∧ w1.cell? a2 = some v2 ∧ w1.cell? a3 = some v3 ∧ w1.cell? a4 = some v4 ∧ w1.cell? a5 = some v5 ∧ w1.cell? a6 = some v6 ∧ w1.cell? a7 = some v7 ∧ w1.cell? a8 = some v8 ∧ w1.cell? a9 = some v9 ∧ w1.cell? a10 = some v10 ∧ w1.cell? a11 = some v11 ∧ w1.cell? a12 = some v12 ∧ w1.cell? a13 = some v13 ∧ w1.cell? a14 = some v14 ∧ w1.cell? a15 = some v15 ∧ w1.cell? a16 = some v16 ∧ w1.cell? a17 = some v17 ∧ w1.cell? a18 = some v18 ∧ w1.cell? a19 = some v19 ∧ Kept W w1 ((a0, v0) :: (a1, v1) :: (a2, v2) :: (a3, v3) :: (a4, v4) :: (a5, v5) :: (a6, v6) :: (a7, v7) :: (a8, v8) :: (a9, v9) :: (a10, v10) :: (a11, v11) :: (a12, v12) :: (a13, v13) :: (a14, v14) :: (a15, v15) :: (a16, v16) :: (a17, v17) :: (a18, v18) :: (a19, v19) :: l) :=
  have k := h.2.2.2.2.2.2.2.2.2.2.2.2.2.2.2.2.2.2.2.2.step hb
  ⟨k.get 0 rfl, k.get 1 rfl, k.get 2 rfl, k.get 3 rfl, k.get 4 rfl, k.get 5 rfl, k.get 6 rfl, k.get 7 rfl, k.get 8 rfl, k.get 9 rfl, k.get 10 rfl, k.get 11 rfl, k.get 12 rfl, k.get 13 rfl, k.get 14 rfl, k.get 15 rfl, k.get 16 rfl, k.get 17 rfl, k.get 18 rfl, k.get 19 rfl, k⟩
end Go.Proofs.Ytcfcohnkkgickaa
