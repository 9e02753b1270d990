/-
  What a law keeps while it runs: cells of its boxes, and things of its own (slices and what they reach), each apart from the others and from the boxes.
-/
import Derived.Test.YtcfcohnkkgickaaRows
import Derived.Test.YtcfcohnkkgickaaRep
namespace Go.Proofs.Ytcfcohnkkgickaa
open Go.RowKit

/-- A thing of a call's own: the blocks that it reaches, and what holds of them. -/
structure Own where
  fp : List Nat
  holds : World → Prop
  lt : ∀ {w : World}, holds w → ∀ k ∈ fp, k < w.heap.size
  keep : ∀ {w w' : World}, holds w → (∀ k ∈ fp, w'.heap[k]? = w.heap[k]?) → holds w'

/-- A slice of one's own. -/
def ownS {α : Type} (E : Ty α) (v : Value) (l : List α) (fp : List Nat) : Own := ⟨fp, fun w => SliceRep E w v l fp, fun h => h.lt, fun h => h.keep⟩

def Inv (W w : World) (L : List (Addr × Value)) (S : List Own) : Prop :=
  Kept W w L ∧ (∀ s ∈ S, s.holds w ∧ ∀ k ∈ s.fp, W.heap.size ≤ k) ∧ S.Pairwise (fun a b => ∀ k ∈ a.fp, k ∉ b.fp) ∧ ∀ p ∈ L, ∀ s ∈ S, p.1.block ∉ s.fp

theorem Inv.of_kept {W w : World} {L : List (Addr × Value)} (h : Kept W w L) : Inv W w L [] := ⟨h, (fun s hs => by cases hs), List.Pairwise.nil, fun _ _ s hs => by cases hs⟩
theorem Inv.below {W w : World} {L : List (Addr × Value)} {S : List Own} (h : Inv W w L S) : Below W.heap.size W w := h.1.1
theorem Inv.get {W w : World} {L : List (Addr × Value)} {S : List Own} (h : Inv W w L S) (i : Nat) {a : Addr} {v : Value} (hi : L[i]? = some (a, v)) : w.cell? a = some v := h.1.get i hi
theorem Inv.fz {W w : World} {L : List (Addr × Value)} {S : List Own} (h : Inv W w L S) (i : Nat) {a : Addr} {v : Value} (hi : L[i]? = some (a, v)) : w.frozen? a = false := h.1.fz i hi
theorem Inv.lt {W w : World} {L : List (Addr × Value)} {S : List Own} (h : Inv W w L S) (i : Nat) {a : Addr} {v : Value} (hi : L[i]? = some (a, v)) : a.block < w.heap.size := h.1.lt i hi
theorem Inv.at {W w : World} {L : List (Addr × Value)} {S : List Own} (h : Inv W w L S) (i : Nat) {s : Own} (hi : S[i]? = some s) : s.holds w := (h.2.1 s (List.mem_of_getElem? hi)).1
theorem Inv.step {W w w' : World} {L : List (Addr × Value)} {S : List Own} (h : Inv W w L S) (hb : Below w.heap.size w w') : Inv W w' L S :=
  ⟨h.1.step hb, fun s hs => ⟨s.keep (h.2.1 s hs).1 (fun k hk => hb.block k (s.lt (h.2.1 s hs).1 k hk)), (h.2.1 s hs).2⟩, h.2.2.1, h.2.2.2⟩
theorem Inv.drew {W w : World} {L : List (Addr × Value)} {S : List Own} (h : Inv W w L S) : Inv W w.drew L S := h.step (Below.refl _ _).drew
theorem Inv.cons2 {W w : World} {L : List (Addr × Value)} {S : List Own} (h : Inv W w L S) {w' : World} {N : Nat} {x y : Value} (hN : w.heap.size ≤ N) (hb : Below w.heap.size w w') (hk : Kept W w' ((⟨N, 0, none⟩, x) :: (⟨N, 1, none⟩, y) :: L)) : Inv W w' ((⟨N, 0, none⟩, x) :: (⟨N, 1, none⟩, y) :: L) S := by
  have h' := h.step hb
  refine ⟨hk, h'.2.1, h'.2.2.1, fun p hp s hs e => ?_⟩
  have hl := s.lt (h.2.1 s hs).1 _ e
  simp only [List.mem_cons] at hp
  rcases hp with rfl | rfl | hp
  · simp only at hl; omega
  · simp only at hl; omega
  · exact h.2.2.2 p hp s hs e
theorem Inv.alloc2 {W w : World} {L : List (Addr × Value)} {S : List Own} (h : Inv W w L S) (x y : Value) (t : TypeId) (N : Nat) (hN : w.heap.size = N) :
    Inv W (w.alloc (.cells #[x, y] t)) ((⟨N, 0, none⟩, x) :: (⟨N, 1, none⟩, y) :: L) S :=
  h.cons2 (Nat.le_of_eq hN) ((Below.refl _ _).alloc (Nat.le_refl _) _) (h.1.alloc2 x y t N hN)
/-- A thing that a call has made. -/
theorem Inv.own {W w w' : World} {L : List (Addr × Value)} {S : List Own} (h : Inv W w L S) (s : Own) (hb : Below w.heap.size w w') (hs : s.holds w') (hf : ∀ k ∈ s.fp, w.heap.size ≤ k) : Inv W w' L (s :: S) := by
  have h' := h.step hb
  refine ⟨h'.1, fun t ht => ?_, List.Pairwise.cons (fun t ht k hk e => ?_) h.2.2.1, fun p hp t ht e => ?_⟩
  · rcases List.mem_cons.1 ht with rfl | ht
    · exact ⟨hs, fun k hk => Nat.le_trans h.1.1.size (hf k hk)⟩
    · exact h'.2.1 t ht
  · have h1 := hf k hk
    have h2 := t.lt (h.2.1 t ht).1 k e
    omega
  · rcases List.mem_cons.1 ht with rfl | ht
    · have h1 := hf _ e
      have h2 := (h.1.2 p hp).1
      omega
    · exact h.2.2.2 p hp t ht e
/-- A thing of one's own that a call has written. -/
theorem Inv.chg {W w w' : World} {L : List (Addr × Value)} {S1 S2 : List Own} {s : Own} (h : Inv W w L (S1 ++ s :: S2)) (s' : Own) (hfp : s'.fp = s.fp) (hc : Chg s.fp w w') (hs : s'.holds w') : Inv W w' L (S1 ++ s' :: S2) := by
  obtain ⟨h1, h2, h3, h4⟩ := h
  have ms : s ∈ S1 ++ s :: S2 := by simp
  have hp := List.pairwise_append.1 h3
  have hp2 := List.pairwise_cons.1 hp.2.1
  have oth : ∀ t, t ∈ S1 ∨ t ∈ S2 → t.holds w' := fun t ht => by
    have mt : t ∈ S1 ++ s :: S2 := by rcases ht with ht | ht <;> simp [ht]
    refine t.keep (h2 t mt).1 (fun k hk => hc.block k (t.lt (h2 t mt).1 k hk) (fun e => ?_))
    rcases ht with ht | ht
    · exact hp.2.2 t ht s (by simp) k hk e
    · exact hp2.1 t ht k e hk
  refine ⟨h1.chg hc (h2 s ms).2 (fun p hpL => h4 p hpL s ms), fun t ht => ?_, ?_, fun p hpL t ht => ?_⟩
  · simp only [List.mem_append, List.mem_cons] at ht
    rcases ht with ht | rfl | ht
    · exact ⟨oth t (.inl ht), (h2 t (by simp [ht])).2⟩
    · exact ⟨hs, by rw [hfp]; exact (h2 s ms).2⟩
    · exact ⟨oth t (.inr ht), (h2 t (by simp [ht])).2⟩
  · refine List.pairwise_append.2 ⟨hp.1, List.pairwise_cons.2 ⟨fun t ht k hk => hp2.1 t ht k (by rw [← hfp]; exact hk), hp2.2⟩, fun a ha b hb => ?_⟩
    rcases List.mem_cons.1 hb with rfl | hb
    · intro k hk; rw [hfp]; exact hp.2.2 a ha s (by simp) k hk
    · exact hp.2.2 a ha b (by simp [hb])
  · simp only [List.mem_append, List.mem_cons] at ht
    rcases ht with ht | rfl | ht
    · exact h4 p hpL t (by simp [ht])
    · rw [hfp]; exact h4 p hpL s ms
    · exact h4 p hpL t (by simp [ht])
theorem Inv.subL {W w : World} {L L' : List (Addr × Value)} {S : List Own} (h : Inv W w L S) (hs : ∀ p ∈ L', p ∈ L) : Inv W w L' S := ⟨h.1.sub hs, h.2.1, h.2.2.1, fun p hp => h.2.2.2 p (hs p hp)⟩
theorem Kept.set2' {W w : World} {g : Nat} {v0 v1 : Value} {l : List (Addr × Value)} (h : Kept W w ((⟨g, 0, none⟩, v0) :: (⟨g, 1, none⟩, v1) :: l)) (x y : Value) (hW : W.heap.size ≤ g) (hl : ∀ c ∈ l, c.1.block ≠ g) :
    Kept W ((w.setCell ⟨g, 0, none⟩ x).setCell ⟨g, 1, none⟩ y) ((⟨g, 0, none⟩, x) :: (⟨g, 1, none⟩, y) :: l) := by
  have h1 := Kept.set (p := []) (q := (⟨g, 1, none⟩, v1) :: l) h x hW (by
    intro c hc
    simp only [List.nil_append, List.mem_cons] at hc
    rcases hc with rfl | hc
    · simp
    · intro e; exact hl c hc (by rw [e]))
  refine Kept.set (p := [(⟨g, 0, none⟩, x)]) (q := l) h1 y hW ?_
  intro c hc
  simp only [List.cons_append, List.nil_append, List.mem_cons] at hc
  rcases hc with rfl | hc
  · simp
  · intro e; exact hl c hc (by rw [e])
theorem Inv.set2 {W w : World} {g : Nat} {v0 v1 : Value} {L : List (Addr × Value)} {S : List Own} (h : Inv W w ((⟨g, 0, none⟩, v0) :: (⟨g, 1, none⟩, v1) :: L) S) (x y : Value) (hW : W.heap.size ≤ g) (hl : ∀ c ∈ L, c.1.block ≠ g) :
    Inv W ((w.setCell ⟨g, 0, none⟩ x).setCell ⟨g, 1, none⟩ y) ((⟨g, 0, none⟩, x) :: (⟨g, 1, none⟩, y) :: L) S := by
  have hn : ∀ s ∈ S, g ∉ s.fp := fun s hs => h.2.2.2 (⟨g, 0, none⟩, v0) (by simp) s hs
  refine ⟨h.1.set2' x y hW hl, fun s hs => ⟨s.keep (h.2.1 s hs).1 (fun k hk => ?_), (h.2.1 s hs).2⟩, h.2.2.1, fun p hp s hs => ?_⟩
  · have : k ≠ g := fun e => hn s hs (by rw [← e]; exact hk)
    rw [Below.heap_setCell _ _ _ _ this, Below.heap_setCell _ _ _ _ this]
  · simp only [List.mem_cons] at hp
    rcases hp with rfl | rfl | hp
    · exact hn s hs
    · exact hn s hs
    · exact h.2.2.2 p (by simp [hp]) s hs
end Go.Proofs.Ytcfcohnkkgickaa
