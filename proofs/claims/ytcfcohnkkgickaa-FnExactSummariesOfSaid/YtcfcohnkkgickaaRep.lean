/-
  What a value stands for in memory: structs flattened to cells, slices with their blocks (fp: the blocks that are reached); worlds that differ in given blocks alone.
-/
import Derived.Test.YtcfcohnkkgickaaRows
import Derived.Test.YtcfcohnkkgickaaKeep
namespace Go.Proofs.Ytcfcohnkkgickaa
open Go.RowKit

theorem int_eq {a b : Int} (h : a = b) : Value.int .i64 a = Value.int .i64 b := by rw [h]

/-- The world has grown since w, and of the blocks that were there only those of fp may have changed. -/
structure Chg (fp : List Nat) (w w' : World) : Prop where
  os : w'.os = w.os
  tape : w'.tape = w.tape
  output : w'.output = w.output
  size : w.heap.size ≤ w'.heap.size
  block : ∀ k, k < w.heap.size → k ∉ fp → w'.heap[k]? = w.heap[k]?

theorem Chg.refl (fp : List Nat) (w : World) : Chg fp w w := ⟨rfl, rfl, rfl, Nat.le_refl _, fun _ _ _ => rfl⟩
theorem Chg.step {fp : List Nat} {W w w' : World} (h : Chg fp W w) (hb : Below w.heap.size w w') : Chg fp W w' :=
  ⟨hb.os.trans h.os, hb.tape.trans h.tape, hb.output.trans h.output, Nat.le_trans h.size hb.size, fun k hk hn => (hb.block k (Nat.lt_of_lt_of_le hk h.size)).trans (h.block k hk hn)⟩
theorem Chg.of {fp : List Nat} {w w' : World} (hb : Below w.heap.size w w') : Chg fp w w' := (Chg.refl fp w).step hb
theorem Chg.drew {fp : List Nat} {W w : World} (h : Chg fp W w) : Chg fp W w.drew := h.step (Below.refl _ _).drew
theorem Chg.set {fp : List Nat} {W w : World} (h : Chg fp W w) {a : Addr} (ha : a.block ∈ fp) (u : Value) : Chg fp W (w.setCell a u) :=
  ⟨h.os, h.tape, h.output, by simpa using h.size, fun k hk hn => (Below.heap_setCell _ _ _ _ (fun e => hn (by rw [e]; exact ha))).trans (h.block k hk hn)⟩
theorem Chg.trans {fp : List Nat} {a b c : World} (h : Chg fp a b) (k : Chg fp b c) : Chg fp a c :=
  ⟨k.os.trans h.os, k.tape.trans h.tape, k.output.trans h.output, Nat.le_trans h.size k.size, fun i hi hn => (k.block i (Nat.lt_of_lt_of_le hi h.size) hn).trans (h.block i hi hn)⟩
theorem Chg.mono {fp fp' : List Nat} {a b : World} (h : Chg fp a b) (hs : ∀ k ∈ fp, k ∈ fp') : Chg fp' a b :=
  ⟨h.os, h.tape, h.output, h.size, fun k hk hn => h.block k hk (fun e => hn (hs k e))⟩
theorem Chg.below {B : Nat} {fp : List Nat} {w w' : World} (h : Chg fp w w') (hf : ∀ k ∈ fp, B ≤ k) (hB : B ≤ w.heap.size) : Below B w w' :=
  ⟨h.os, h.tape, h.output, h.size, fun k hk => h.block k (Nat.lt_of_lt_of_le hk hB) (fun e => by have := hf k e; omega)⟩
theorem Kept.chg {W w w' : World} {l : List (Addr × Value)} {fp : List Nat} (h : Kept W w l) (hc : Chg fp w w') (hf : ∀ k ∈ fp, W.heap.size ≤ k) (hl : ∀ p ∈ l, p.1.block ∉ fp) : Kept W w' l :=
  ⟨h.1.trans (hc.below hf h.1.size), fun p hp => ⟨Nat.lt_of_lt_of_le (h.2 p hp).1 hc.size,
    (World.cell?_of_block (hc.block _ (h.2 p hp).1 (hl p hp))).trans (h.2 p hp).2.1,
    (World.frozen?_of_block (hc.block _ (h.2 p hp).1 (hl p hp))).trans (h.2 p hp).2.2⟩⟩

/-- The first N cells of block g are there and may be written. -/
def OwnBlk (w : World) (g N : Nat) : Prop := g < w.heap.size ∧ ∀ j, j < N → (∃ v, w.cell? ⟨g, j, none⟩ = some v) ∧ w.frozen? ⟨g, j, none⟩ = false
theorem OwnBlk.keep {w w' : World} {g N : Nat} (h : OwnBlk w g N) (hk : w'.heap[g]? = w.heap[g]?) : OwnBlk w' g N := by
  refine ⟨?_, fun j hj => ?_⟩
  · have h1 := h.1
    rcases Nat.lt_or_ge g w'.heap.size with h2 | h2
    · exact h2
    · rw [Array.getElem?_eq_none h2] at hk
      rw [Array.getElem?_eq_getElem h1] at hk
      cases hk
  · rw [World.cell?_of_block (a := ⟨g, j, none⟩) hk, World.frozen?_of_block (a := ⟨g, j, none⟩) hk]
    exact h.2 j hj
theorem OwnBlk.set {w : World} {g N : Nat} (h : OwnBlk w g N) (a : Addr) (u : Value) : OwnBlk (w.setCell a u) g N := by
  refine ⟨by simpa using h.1, fun j hj => ?_⟩
  obtain ⟨⟨v, hv⟩, hf⟩ := h.2 j hj
  refine ⟨?_, by rw [World.frozen?_setCell]; exact hf⟩
  by_cases e : a = ⟨g, j, none⟩
  · subst e
    exact ⟨u, World.cell?_setCell_same (w := w) (a := ⟨g, j, none⟩) (v := u) hv⟩
  · exact ⟨v, by rw [World.cell?_setCell_other (w := w) (a := a) (b := ⟨g, j, none⟩) (v := u) e]; exact hv⟩

/-- A type of structs: how many cells one has, and what cells stand for in a world. -/
structure Ty (α : Type) where
  size : Nat
  rep : World → List Value → α → List Nat → Prop
  len : ∀ {w : World} {cs : List Value} {x : α} {fp : List Nat}, rep w cs x fp → cs.length = size
  lt : ∀ {w : World} {cs : List Value} {x : α} {fp : List Nat}, rep w cs x fp → ∀ k ∈ fp, k < w.heap.size
  keep : ∀ {w w' : World} {cs : List Value} {x : α} {fp : List Nat}, rep w cs x fp → (∀ k ∈ fp, w'.heap[k]? = w.heap[k]?) → rep w' cs x fp

/-- The cells cs stand in block g from o on. -/
def CellsAt (w : World) (g o : Nat) (cs : List Value) : Prop := ∀ j (hj : j < cs.length), w.cell? ⟨g, o + j, none⟩ = some cs[j]
theorem CellsAt.keep {w w' : World} {g o : Nat} {cs : List Value} (h : CellsAt w g o cs) (hk : w'.heap[g]? = w.heap[g]?) : CellsAt w' g o cs :=
  fun j hj => (World.cell?_of_block (a := ⟨g, o + j, none⟩) hk).trans (h j hj)

/-- The elements l stand in block g from number k on; fp: the blocks that they reach. -/
def Elems {α : Type} (E : Ty α) (w : World) (g : Nat) : Nat → List α → List Nat → Prop
  | _, [], fp => fp = []
  | k, x :: l, fp => ∃ cs f1 f2, fp = f1 ++ f2 ∧ CellsAt w g (k * E.size) cs ∧ E.rep w cs x f1 ∧ Elems E w g (k + 1) l f2
theorem Elems.lt {α : Type} {E : Ty α} {w : World} {g : Nat} : ∀ {l : List α} {k : Nat} {fp : List Nat}, Elems E w g k l fp → ∀ b ∈ fp, b < w.heap.size
  | [], _, fp, h, b, hb => by have e : fp = [] := h; rw [e] at hb; cases hb
  | x :: l, k, fp, ⟨cs, f1, f2, e, _, h1, h2⟩, b, hb => by
    rw [e, List.mem_append] at hb
    rcases hb with hb | hb
    · exact E.lt h1 b hb
    · exact Elems.lt h2 b hb
theorem Elems.keep {α : Type} {E : Ty α} {w w' : World} {g : Nat} (hg : w'.heap[g]? = w.heap[g]?) : ∀ {l : List α} {k : Nat} {fp : List Nat}, Elems E w g k l fp → (∀ b ∈ fp, w'.heap[b]? = w.heap[b]?) → Elems E w' g k l fp
  | [], _, _, h, _ => h
  | x :: l, k, fp, ⟨cs, f1, f2, e, hc, h1, h2⟩, hk => by
    subst e
    exact ⟨cs, f1, f2, rfl, hc.keep hg, E.keep h1 (fun b hb => hk b (List.mem_append_left _ hb)), Elems.keep hg h2 (fun b hb => hk b (List.mem_append_right _ hb))⟩
theorem Elems.get {α : Type} {E : Ty α} {w : World} {g : Nat} : ∀ {l : List α} {k : Nat} {fp : List Nat}, Elems E w g k l fp → ∀ i (hi : i < l.length), ∃ cs f, CellsAt w g ((k + i) * E.size) cs ∧ E.rep w cs l[i] f ∧ ∀ b ∈ f, b ∈ fp
  | x :: l, k, fp, ⟨cs, f1, f2, e, hc, h1, h2⟩, 0, _ => ⟨cs, f1, hc, h1, fun b hb => by rw [e]; exact List.mem_append_left _ hb⟩
  | x :: l, k, fp, ⟨cs, f1, f2, e, hc, h1, h2⟩, i + 1, hi => by
    obtain ⟨cs', f', a, b, c⟩ := Elems.get h2 i (by simpa using hi)
    refine ⟨cs', f', ?_, b, fun d hd => by rw [e]; exact List.mem_append_right _ (c d hd)⟩
    rw [show k + (i + 1) = k + 1 + i by omega]; exact a
theorem Elems.flat {α : Type} {E : Ty α} {w : World} {g : Nat} {C : α → List Value} (hE : ∀ x, E.rep w (C x) x []) : ∀ {l : List α} {k : Nat}, (∀ i (hi : i < l.length), CellsAt w g ((k + i) * E.size) (C l[i])) → Elems E w g k l []
  | [], _, _ => rfl
  | x :: l, k, h => ⟨C x, [], [], rfl, h 0 (by simp), hE x, Elems.flat hE fun i hi => by
      have := h (i + 1) (by simpa using hi)
      rw [show k + (i + 1) = k + 1 + i by omega] at this
      exact this⟩

/-- The slice v holds l; fp: its block and those that its elements reach. -/
def SliceRep {α : Type} (E : Ty α) (w : World) (v : Value) (l : List α) (fp : List Nat) : Prop :=
  (l = [] ∧ fp = [] ∧ (v = .slice none 0 0 ∨ ∃ g cap, v = .slice (some ⟨g, 0, none⟩) 0 cap)) ∨ ∃ g cap f, v = .slice (some ⟨g, 0, none⟩) l.length cap ∧ l.length ≤ cap ∧ OwnBlk w g (l.length * E.size) ∧ Elems E w g 0 l f ∧ fp = g :: f
theorem SliceRep.lt {α : Type} {E : Ty α} {w : World} {v : Value} {l : List α} {fp : List Nat} (h : SliceRep E w v l fp) : ∀ k ∈ fp, k < w.heap.size := by
  rcases h with ⟨_, rfl, _⟩ | ⟨g, cap, f, _, _, ho, he, rfl⟩
  · intro k hk; cases hk
  · intro k hk
    rcases List.mem_cons.1 hk with rfl | hk
    · exact ho.1
    · exact he.lt k hk
theorem SliceRep.keep {α : Type} {E : Ty α} {w w' : World} {v : Value} {l : List α} {fp : List Nat} (h : SliceRep E w v l fp) (hk : ∀ k ∈ fp, w'.heap[k]? = w.heap[k]?) : SliceRep E w' v l fp := by
  rcases h with h | ⟨g, cap, f, hv, hc, ho, he, rfl⟩
  · exact .inl h
  · have hg := hk g (by simp)
    exact .inr ⟨g, cap, f, hv, hc, ho.keep hg, Elems.keep hg he (fun b hb => hk b (by simp [hb])), rfl⟩
theorem SliceRep.chg {α : Type} {E : Ty α} {w w' : World} {v : Value} {l : List α} {fp gp : List Nat} (h : SliceRep E w v l fp) (hc : Chg gp w w') (hd : ∀ k ∈ fp, k ∉ gp) : SliceRep E w' v l fp :=
  h.keep fun k hk => hc.block k (h.lt k hk) (hd k hk)
theorem SliceRep.step {α : Type} {E : Ty α} {w w' : World} {v : Value} {l : List α} {fp : List Nat} (h : SliceRep E w v l fp) (hb : Below w.heap.size w w') : SliceRep E w' v l fp :=
  h.keep fun k hk => hb.block k (h.lt k hk)
theorem SliceRep.set {α : Type} {E : Ty α} {w : World} {v : Value} {l : List α} {fp : List Nat} (h : SliceRep E w v l fp) (a : Addr) (u : Value) (ha : ∀ k ∈ fp, k ≠ a.block) : SliceRep E (w.setCell a u) v l fp :=
  h.keep fun k hk => Below.heap_setCell _ _ _ _ (ha k hk)
theorem SliceRep.val {α : Type} {E : Ty α} {w : World} {v : Value} {l : List α} {fp : List Nat} (h : SliceRep E w v l fp) : ∃ ao cap, v = .slice ao l.length cap := by
  rcases h with ⟨rfl, _, rfl | ⟨ad, cap, rfl⟩⟩ | ⟨g, cap, f, rfl, _⟩
  · exact ⟨_, _, rfl⟩
  · exact ⟨_, _, rfl⟩
  · exact ⟨_, _, rfl⟩
end Go.Proofs.Ytcfcohnkkgickaa
