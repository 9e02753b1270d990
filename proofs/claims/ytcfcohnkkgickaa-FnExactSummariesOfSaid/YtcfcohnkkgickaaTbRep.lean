/-
  Blocks as things of their own in memory: what slices of blocks stand for; slices that a call fills element by element.
-/
import Derived.Test.YtcfcohnkkgickaaRows
import Derived.Test.YtcfcohnkkgickaaRwRep
namespace Go.Proofs.Ytcfcohnkkgickaa
open Go.RowKit Num

/-- A block. -/
structure Blk where
  id : Int
  rows : List Rw

def blkTy : Ty Blk where
  size := 2
  rep := fun w cs b fp => ∃ v, cs = [.int .i64 b.id, v] ∧ SliceRep rowTy w v b.rows fp
  len := fun h => by obtain ⟨v, rfl, _⟩ := h; rfl
  lt := fun h => by obtain ⟨v, _, h⟩ := h; exact h.lt
  keep := fun h hk => by obtain ⟨v, e, h⟩ := h; exact ⟨v, e, h.keep hk⟩

/-- Block number k of the blocks in block g, to be read. -/
def BlkVal (w : World) (g k : Nat) (b : Blk) : Prop :=
  ∃ rao rcap, w.cell? ⟨g, k * 2, none⟩ = some (.int .i64 b.id) ∧ w.cell? ⟨g, k * 2 + 1, none⟩ = some (.slice rao b.rows.length rcap) ∧ RowsVal w rao b.rows.length (Rn b.rows)
theorem BlkVal.below {w w' : World} {B g k : Nat} {b : Blk} (h : BlkVal w g k b) (hb : Below B w w') (hg : g < B) (hB : w.heap.size ≤ B) : BlkVal w' g k b := by
  obtain ⟨rao, rcap, h0, h1, h2⟩ := h
  exact ⟨rao, rcap, by rw [hb.cell (p := ⟨g, k * 2, none⟩) hg]; exact h0, by rw [hb.cell (p := ⟨g, k * 2 + 1, none⟩) hg]; exact h1, h2.below (hb.mono hB)⟩
/-- A slice of blocks, to be read. -/
def BlksVal (w : World) (ao : Option Addr) (l : List Blk) : Prop := l.length = 0 ∨ ∃ g, ao = some ⟨g, 0, none⟩ ∧ g < w.heap.size ∧ ∀ k (hk : k < l.length), BlkVal w g k l[k]
theorem BlksVal.below {w w' : World} {ao : Option Addr} {l : List Blk} (h : BlksVal w ao l) (hb : Below w.heap.size w w') : BlksVal w' ao l := by
  rcases h with h | ⟨g, e, hg, h⟩
  · exact .inl h
  · exact .inr ⟨g, e, Nat.lt_of_lt_of_le hg hb.size, fun k hk => (h k hk).below hb hg (Nat.le_refl _)⟩

theorem blks_open {w : World} {v : Value} {l : List Blk} {fp : List Nat} (h : SliceRep blkTy w v l fp) : ∃ ao cap, v = .slice ao l.length cap ∧ l.length ≤ cap ∧ BlksVal w ao l := by
  rcases h with ⟨rfl, _, rfl | ⟨ad, cap, rfl⟩⟩ | ⟨g, cap, f, rfl, hc, ho, he, _⟩
  · exact ⟨_, _, rfl, Nat.zero_le _, .inl rfl⟩
  · exact ⟨_, _, rfl, Nat.zero_le _, .inl rfl⟩
  · refine ⟨_, cap, rfl, hc, .inr ⟨g, rfl, ho.1, fun k hk => ?_⟩⟩
    obtain ⟨cs, f', hcs, ⟨v, rfl, hr⟩, _⟩ := he.get k hk
    obtain ⟨rao, rcap, rfl, _, hV⟩ := rows_open hr
    rw [Nat.zero_add] at hcs
    exact ⟨rao, rcap, hcs 0 (by simp), hcs 1 (by simp), hV⟩

/-- The blocks' row IDs are numbers of the machine. -/
def WfB (n : Nat) (B : Nat → Blk) : Prop := ∀ k, k < n → ∀ j, j < (B k).rows.length → (Lit.int .i64 (Rn (B k).rows j).i).wf = true

/-- One element more. -/
theorem Elems.snoc {α : Type} {E : Ty α} {w : World} {g : Nat} {x : α} {cs : List Value} {f' : List Nat} : ∀ {l : List α} {k : Nat} {f : List Nat}, Elems E w g k l f → CellsAt w g ((k + l.length) * E.size) cs → E.rep w cs x f' → Elems E w g k (l ++ [x]) (f ++ f')
  | [], k, f, h, hc, hx => by
    have e : f = [] := h
    subst e
    exact ⟨cs, f', [], by simp, by simpa using hc, hx, rfl⟩
  | y :: l, k, f, ⟨cs0, f1, f2, e, h0, h1, h2⟩, hc, hx => by
    subst e
    refine ⟨cs0, f1, f2 ++ f', by rw [List.append_assoc], h0, h1, Elems.snoc h2 ?_ hx⟩
    rw [show k + 1 + l.length = k + (y :: l).length by simp only [List.length_cons]; omega]
    exact hc
/-- A store behind the elements. -/
theorem Elems.set {α : Type} {E : Ty α} {w : World} {g : Nat} {u : Value} {o : Nat} : ∀ {l : List α} {k : Nat} {f : List Nat}, Elems E w g k l f → (k + l.length) * E.size ≤ o → g ∉ f → Elems E (w.setCell ⟨g, o, none⟩ u) g k l f
  | [], _, _, h, _, _ => h
  | x :: l, k, f, ⟨cs, f1, f2, e, hc, h1, h2⟩, ho, hg => by
    subst e
    have hlen := E.len h1
    refine ⟨cs, f1, f2, rfl, fun j hj => ?_, E.keep h1 (fun b hb => Below.heap_setCell _ _ _ _ (fun e => hg (by have e' : b = g := e; rw [← e']; simp [hb]))), Elems.set h2 (by rw [show k + 1 + l.length = k + (x :: l).length by simp only [List.length_cons]; omega]; exact ho) (fun h => hg (by simp [h]))⟩
    rw [World.cell?_setCell_other (w := w) (a := ⟨g, o, none⟩) (b := ⟨g, k * E.size + j, none⟩) (v := u) (fun e => ?_)]
    · exact hc j hj
    · simp only [Addr.mk.injEq, true_and, and_true] at e
      have h3 : (k + 1) * E.size ≤ (k + (x :: l).length) * E.size := Nat.mul_le_mul_right _ (by simp only [List.length_cons]; omega)
      rw [Nat.add_mul, Nat.one_mul] at h3
      omega
theorem Elems.step {α : Type} {E : Ty α} {w w' : World} {g k : Nat} {l : List α} {f : List Nat} (h : Elems E w g k l f) (hg : g < w.heap.size) (hb : Below w.heap.size w w') : Elems E w' g k l f :=
  Elems.keep (hb.block g hg) h fun b hb' => hb.block b (h.lt b hb')

/-- Block g is the call's own, has room for n elements, and its first ones are l, which reach f: each new, no two the same. -/
def ElemsTo {α : Type} (E : Ty α) (W w : World) (g n : Nat) (l : List α) (f : List Nat) : Prop :=
  Below W.heap.size W w ∧ W.heap.size ≤ g ∧ OwnBlk w g (n * E.size) ∧ Elems E w g 0 l f ∧ (g :: f).Nodup ∧ ∀ k ∈ f, W.heap.size ≤ k
theorem ElemsTo.step {α : Type} {E : Ty α} {W w w' : World} {g n : Nat} {l : List α} {f : List Nat} (h : ElemsTo E W w g n l f) (hb : Below w.heap.size w w') : ElemsTo E W w' g n l f :=
  ⟨h.1.trans (hb.mono h.1.size), h.2.1, h.2.2.1.keep (hb.block g h.2.2.1.1), h.2.2.2.1.step h.2.2.1.1 hb, h.2.2.2.2⟩
theorem ElemsTo.set {α : Type} {E : Ty α} {W w : World} {g n : Nat} {l : List α} {f : List Nat} (h : ElemsTo E W w g n l f) (o : Nat) (u : Value) (ho : l.length * E.size ≤ o) : ElemsTo E W (w.setCell ⟨g, o, none⟩ u) g n l f :=
  ⟨h.1.setCell h.2.1 u, h.2.1, h.2.2.1.set _ u, h.2.2.2.1.set (by rw [Nat.zero_add]; exact ho) (List.nodup_cons.1 h.2.2.2.2.1).1, h.2.2.2.2⟩
/-- The next element, whose cells stand there and whose things are new. -/
theorem ElemsTo.snoc {α : Type} {E : Ty α} {W w : World} {g n : Nat} {l : List α} {f f' : List Nat} {x : α} {cs : List Value} (h : ElemsTo E W w g n l f) (hc : CellsAt w g (l.length * E.size) cs) (hx : E.rep w cs x f') (hn : f'.Nodup) (hd : ∀ k ∈ f', k ∉ g :: f) (hW : ∀ k ∈ f', W.heap.size ≤ k) : ElemsTo E W w g n (l ++ [x]) (f ++ f') := by
  refine ⟨h.1, h.2.1, h.2.2.1, h.2.2.2.1.snoc (by rw [Nat.zero_add]; exact hc) hx, ?_, fun k hk => ?_⟩
  · have h5 := h.2.2.2.2.1
    rw [List.nodup_cons] at h5 ⊢
    refine ⟨fun e => ?_, List.nodup_append.2 ⟨h5.2, hn, fun a ha b hb e => ?_⟩⟩
    · rcases List.mem_append.1 e with e | e
      · exact h5.1 e
      · exact hd g e (by simp)
    · subst e; exact hd a hb (by simp [ha])
  · rcases List.mem_append.1 hk with hk | hk
    · exact h.2.2.2.2.2 k hk
    · exact hW k hk
theorem ElemsTo.rep {α : Type} {E : Ty α} {W w : World} {g n cap : Nat} {l : List α} {f : List Nat} (h : ElemsTo E W w g n l f) (hl : l.length = n) (hc : n ≤ cap) : SliceRep E w (.slice (some ⟨g, 0, none⟩) n cap) l (g :: f) := by
  subst hl
  exact .inr ⟨g, cap, f, rfl, hc, h.2.2.1, h.2.2.2.1, rfl⟩
end Go.Proofs.Ytcfcohnkkgickaa
