/-
  Boxes beside a cursor: blocks of the call's own that the draws leave alone.
-/
import Derived.Test.YtdfmidihghoilaaDoorRows
import Derived.Test.YtdfmidihghoilaaDoorKeep
import Derived.Test.YtdfmidihghoilaaDoorDrawInts
namespace Go.Proofs.YtdfmidihghoilaaDoor
open Go.RowKit

theorem grown_of_below {w w' : World} (hb : Below w.heap.size w w') (r : Option Nat) : w.grownBy w' r := ⟨hb.os, hb.tape, hb.output, hb.size, fun j hj _ => hb.block j hj⟩

theorem grown_alloc {a w : World} {r : Nat} (h : a.grownBy w (some r)) (o : Obj) : a.grownBy (w.alloc o) (some r) :=
  grownBy_trans h (grown_of_below ((Below.refl _ _).alloc (Nat.le_refl _) o) _)

theorem grown_drew {a w : World} {r : Nat} (h : a.grownBy w (some r)) : a.grownBy w.drew (some r) :=
  grownBy_trans h (grown_of_below (Below.refl _ _).drew _)

theorem grown_set {a w : World} {r : Nat} (h : a.grownBy w (some r)) {g : Nat} (hg : a.heap.size ≤ g) (j : Nat) (u : Value) : a.grownBy (w.setCell ⟨g, j, none⟩ u) (some r) :=
  ⟨h.os, h.tape, h.output, by simpa using h.size, fun k hk hne => by rw [Below.heap_setCell w ⟨g, j, none⟩ u k (by simp; omega)]; exact h.block k hk hne⟩

theorem Cur.set {W w : World} {B b : Nat} {ao : Option Addr} {n cap : Nat} (h : Cur W B b ao n cap w) {g : Nat} (hg : g ≠ b) (hB : B ≤ g) (j : Nat) (u : Value) : Cur W B b ao n cap (w.setCell ⟨g, j, none⟩ u) :=
  h.kept (set_grown w g j u) (by intro e; exact hg (Option.some.inj e)) (by rintro k ⟨rfl⟩; exact hB)

theorem Cur.step {W w w' : World} {B b : Nat} {ao : Option Addr} {n cap : Nat} (h : Cur W B b ao n cap w) (hb : Below w.heap.size w w') : Cur W B b ao n cap w' :=
  h.kept (grown_of_below hb none) (by simp) (by simp)

theorem Cur.lt {W w : World} {B b : Nat} {ao : Option Addr} {n cap : Nat} (h : Cur W B b ao n cap w) : b < w.heap.size := h.2.1
theorem Cur.rd' {W w : World} {B b : Nat} {ao : Option Addr} {n cap : Nat} (h : Cur W B b ao n cap w) : Rd w B ao n := h.2.2.1
theorem Cur.below' {W w : World} {B b : Nat} {ao : Option Addr} {n cap : Nat} (h : Cur W B b ao n cap w) : Below B W w := h.2.2.2.2

/-- The cells l lie beside the cursor's block, hold what they held, and may be written. -/
def Boxes (b : Nat) (w : World) (l : List (Addr × Value)) : Prop := ∀ p ∈ l, p.1.block ≠ b ∧ p.1.block < w.heap.size ∧ w.cell? p.1 = some p.2 ∧ w.frozen? p.1 = false

theorem Boxes.nil (b : Nat) (w : World) : Boxes b w [] := fun _ h => by cases h

theorem Boxes.grow {b : Nat} {w w' : World} {l : List (Addr × Value)} (h : Boxes b w l) (hg : w.grownBy w' (some b)) : Boxes b w' l := fun p hp => by
  obtain ⟨h1, h2, h3, h4⟩ := h p hp
  have e := hg.block p.1.block h2 (by intro e; exact h1 (Option.some.inj e))
  exact ⟨h1, Nat.lt_of_lt_of_le h2 hg.size, by rw [World.cell?_of_block (w := w) e]; exact h3, by rw [World.frozen?_of_block (w := w) e]; exact h4⟩

theorem Boxes.alloc2 {b : Nat} {w : World} {l : List (Addr × Value)} (h : Boxes b w l) (hb : b < w.heap.size) (x y : Value) (t : TypeId) (B : Nat) (hB : w.heap.size = B) :
    Boxes b (w.alloc (.cells #[x, y] t)) ((⟨B, 0, none⟩, x) :: (⟨B, 1, none⟩, y) :: l) := by
  subst hB
  have h1 := h.grow (grown_of_below ((Below.refl w.heap.size w).alloc (Nat.le_refl _) (.cells #[x, y] t)) _)
  intro p hp
  simp only [List.mem_cons] at hp
  rcases hp with rfl | rfl | hp
  · exact ⟨by simp; omega, by simp, by go_simp, by go_simp⟩
  · exact ⟨by simp; omega, by simp, by go_simp, by go_simp⟩
  · exact h1 p hp

theorem Boxes.get {b : Nat} {w : World} {l : List (Addr × Value)} (h : Boxes b w l) (i : Nat) {a : Addr} {v : Value} (hi : l[i]? = some (a, v)) : w.cell? a = some v := (h (a, v) (List.mem_of_getElem? hi)).2.2.1
theorem Boxes.fz {b : Nat} {w : World} {l : List (Addr × Value)} (h : Boxes b w l) (i : Nat) {a : Addr} {v : Value} (hi : l[i]? = some (a, v)) : w.frozen? a = false := (h (a, v) (List.mem_of_getElem? hi)).2.2.2
theorem Boxes.lt {b : Nat} {w : World} {l : List (Addr × Value)} (h : Boxes b w l) (i : Nat) {a : Addr} {v : Value} (hi : l[i]? = some (a, v)) : a.block < w.heap.size := (h (a, v) (List.mem_of_getElem? hi)).2.1
theorem Boxes.ne {b : Nat} {w : World} {l : List (Addr × Value)} (h : Boxes b w l) (i : Nat) {a : Addr} {v : Value} (hi : l[i]? = some (a, v)) : a.block ≠ b := (h (a, v) (List.mem_of_getElem? hi)).1

theorem Boxes.set {b : Nat} {w : World} {a : Addr} {v : Value} {p q : List (Addr × Value)} (h : Boxes b w (p ++ (a, v) :: q)) (u : Value) (hne : ∀ c ∈ p ++ q, c.1 ≠ a) : Boxes b (w.setCell a u) (p ++ (a, u) :: q) := by
  have ha := h (a, v) (by simp)
  intro c hc
  simp only [List.mem_append, List.mem_cons] at hc
  have hsz : (w.setCell a u).heap.size = w.heap.size := by simp
  have other : ∀ c ∈ p ++ q, c.1.block ≠ b ∧ c.1.block < (w.setCell a u).heap.size ∧ (w.setCell a u).cell? c.1 = some c.2 ∧ (w.setCell a u).frozen? c.1 = false := by
    intro c hc
    have hk := h c (by simp only [List.mem_append, List.mem_cons] at hc ⊢; rcases hc with hc | hc <;> simp [hc])
    refine ⟨hk.1, by rw [hsz]; exact hk.2.1, ?_, ?_⟩
    · rw [World.cell?_setCell_other (w := w) (a := a) (b := c.1) (v := u) (fun e => hne c hc e.symm)]; exact hk.2.2.1
    · rw [World.frozen?_setCell]; exact hk.2.2.2
  rcases hc with hc | rfl | hc
  · exact other c (by simp [hc])
  · refine ⟨ha.1, by rw [hsz]; exact ha.2.1, ?_, by rw [World.frozen?_setCell]; exact ha.2.2.2⟩
    exact World.cell?_setCell_same (w := w) (a := a) (v := u) ha.2.2.1
  · exact other c (by simp [hc])

/-- What a draw of a fraction leaves. -/
def FracPost (W : World) (B b : Nat) (ao : Option Addr) (n cap : Nat) (w : World) (e : Ending) (w' : World) : Prop :=
  ∃ x y : Int, IsI64 x ∧ IsI64 y ∧ e = .returned (.agg #[.int .i64 x, .int .i64 y]) ∧ Cur W B b ao n cap w' ∧ w.grownBy w' (some b)

theorem Rd.mono {w : World} {B B' : Nat} {ao : Option Addr} {n : Nat} (h : Rd w B ao n) (hB : B ≤ B') : Rd w B' ao n := by
  refine ⟨h.1, ?_⟩
  rcases h.2 with h0 | ⟨x, rfl, hx, hc⟩
  · exact .inl h0
  · exact .inr ⟨x, rfl, Nat.lt_of_lt_of_le hx hB, hc⟩

/-- A fresh cursor behind all that there is. -/
theorem new_at (ao : Option Addr) (n cap : Nat) (w : World) (k : Nat) (hk : w.heap.size = k) (hr : Rd w k ao n) :
    Calls Tryd.prog 44 #[.slice ao n cap] w fun e w' => e = .returned (.pointer (some ⟨k, 0, none⟩)) ∧ Cur w k k ao n cap w' := by
  subst hk
  exact l1New_any w.heap.size ao n cap w hr (Nat.le_refl _)

theorem boxes_of_kept {W w w1 : World} {l : List (Addr × Value)} (K : Kept W w l) (k : Nat) (hk : w.heap.size = k) (hb : Below k w w1) : Boxes k w1 l := by
  subst hk
  intro p hp
  obtain ⟨h1, h2, h3⟩ := K.2 p hp
  exact ⟨by omega, Nat.lt_of_lt_of_le h1 hb.size, by rw [hb.cell h1]; exact h2, by rw [hb.frozen h1]; exact h3⟩

theorem below_of_grown {w w' : World} {b B : Nat} (hg : w.grownBy w' (some b)) (hB : B ≤ b) (hs : B ≤ w.heap.size) : Below B w w' :=
  ⟨hg.os, hg.tape, hg.output, hg.size, fun j hj => hg.block j (by omega) (by intro e; have := Option.some.inj e; omega)⟩

theorem cur_drew {W w : World} {B b : Nat} {ao : Option Addr} {n cap : Nat} (h : Cur W B b ao n cap w) : Cur W B b ao n cap w.drew := h.step (Below.refl _ _).drew
theorem boxes_drew {b : Nat} {w : World} {l : List (Addr × Value)} (h : Boxes b w l) : Boxes b w.drew l := h.grow (grown_of_below (Below.refl _ _).drew _)

theorem Boxes.alloc4 {b : Nat} {w : World} {l : List (Addr × Value)} (h : Boxes b w l) (hb : b < w.heap.size) (x y u v : Value) (t : TypeId) (B : Nat) (hB : w.heap.size = B) :
    Boxes b (w.alloc (.cells #[x, y, u, v] t)) ((⟨B, 0, none⟩, x) :: (⟨B, 1, none⟩, y) :: (⟨B, 2, none⟩, u) :: (⟨B, 3, none⟩, v) :: l) := by
  subst hB
  have h1 := h.grow (grown_of_below ((Below.refl w.heap.size w).alloc (Nat.le_refl _) (.cells #[x, y, u, v] t)) _)
  intro p hp
  simp only [List.mem_cons] at hp
  rcases hp with rfl | rfl | rfl | rfl | hp
  · exact ⟨by simp; omega, by simp, by go_simp, by go_simp⟩
  · exact ⟨by simp; omega, by simp, by go_simp, by go_simp⟩
  · exact ⟨by simp; omega, by simp, by go_simp, by go_simp⟩
  · exact ⟨by simp; omega, by simp, by go_simp, by go_simp⟩
  · exact h1 p hp

/-- What a draw of an interval leaves. -/
def IvPost (W : World) (B b : Nat) (ao : Option Addr) (n cap : Nat) (w : World) (e : Ending) (w' : World) : Prop :=
  ∃ x y u v : Int, IsI64 x ∧ IsI64 y ∧ IsI64 u ∧ IsI64 v ∧ e = .returned (.agg #[.int .i64 x, .int .i64 y, .int .i64 u, .int .i64 v]) ∧ Cur W B b ao n cap w' ∧ w.grownBy w' (some b)
end Go.Proofs.YtdfmidihghoilaaDoor
