/-
  Blocks of a call's own that grow by append: each with rows of its own.
-/
import Derived.Test.YtcfcohnkkgickaaRows
import Derived.Test.YtcfcohnkkgickaaMgA
import Derived.Test.YtcfcohnkkgickaaMgB
import Derived.Test.YtcfcohnkkgickaaKo
import Derived.Maps.AppendAt
namespace Go.Proofs.Ytcfcohnkkgickaa
open Go.RowKit Num

def kcells : List Blk → List Value → List Value
  | b :: l, v :: vs => .int .i64 b.id :: v :: kcells l vs
  | _, _ => []
/-- What the slices vs of the blocks hold; f: the blocks of memory that they reach. -/
def Reps (w : World) : List Value → List Blk → List Nat → Prop
  | [], [], f => f = []
  | v :: vs, b :: l, f => ∃ f1 f2, f = f1 ++ f2 ∧ SliceRep rowTy w v b.rows f1 ∧ Reps w vs l f2
  | _, _, _ => False
theorem Reps.len {w : World} : ∀ {vs : List Value} {l : List Blk} {f : List Nat}, Reps w vs l f → vs.length = l.length
  | [], [], _, _ => rfl
  | v :: vs, b :: l, _, ⟨_, _, _, _, h⟩ => by rw [List.length_cons, List.length_cons, Reps.len h]
theorem Reps.lt {w : World} : ∀ {vs : List Value} {l : List Blk} {f : List Nat}, Reps w vs l f → ∀ k ∈ f, k < w.heap.size
  | [], [], f, h, k, hk => by have e : f = [] := h; rw [e] at hk; cases hk
  | v :: vs, b :: l, f, ⟨f1, f2, e, h1, h2⟩, k, hk => by
    rw [e, List.mem_append] at hk
    rcases hk with hk | hk
    · exact h1.lt k hk
    · exact Reps.lt h2 k hk
theorem Reps.keep {w w' : World} : ∀ {vs : List Value} {l : List Blk} {f : List Nat}, Reps w vs l f → (∀ k ∈ f, w'.heap[k]? = w.heap[k]?) → Reps w' vs l f
  | [], [], _, h, _ => h
  | v :: vs, b :: l, f, ⟨f1, f2, e, h1, h2⟩, hk => by
    subst e
    exact ⟨f1, f2, rfl, h1.keep (fun k h => hk k (by simp [h])), Reps.keep h2 (fun k h => hk k (by simp [h]))⟩
theorem Reps.snoc {w : World} {v : Value} {b : Blk} {fb : List Nat} (hb : SliceRep rowTy w v b.rows fb) : ∀ {vs : List Value} {l : List Blk} {f : List Nat}, Reps w vs l f → Reps w (vs ++ [v]) (l ++ [b]) (f ++ fb)
  | [], [], f, h => by
    have e : f = [] := h
    subst e
    exact ⟨fb, [], by simp, hb, rfl⟩
  | _ :: vs, _ :: l, f, ⟨f1, f2, e, h1, h2⟩ => by
    subst e
    exact ⟨f1, f2 ++ fb, by rw [List.append_assoc], h1, Reps.snoc hb h2⟩
theorem kcells_snoc {b : Blk} {v : Value} : ∀ {l : List Blk} {vs : List Value}, vs.length = l.length → kcells (l ++ [b]) (vs ++ [v]) = kcells l vs ++ [.int .i64 b.id, v]
  | [], [], _ => rfl
  | _ :: l, _ :: vs, h => by
    simp only [List.cons_append, kcells]
    rw [kcells_snoc (by simpa using h)]
theorem kcells_len : ∀ {l : List Blk} {vs : List Value}, vs.length = l.length → (kcells l vs).length = l.length * 2
  | [], [], _ => rfl
  | _ :: l, _ :: vs, h => by
    simp only [kcells, List.length_cons]
    rw [kcells_len (by simpa using h)]
    omega
theorem elems_of {w : World} {g : Nat} : ∀ {l : List Blk} {vs : List Value} {f : List Nat} {k : Nat}, Reps w vs l f → (∀ j, j < l.length * 2 → w.cell? ⟨g, k * 2 + j, none⟩ = (kcells l vs)[j]?) → Elems blkTy w g k l f
  | [], [], _, _, h, _ => h
  | b :: l, v :: vs, f, k, ⟨f1, f2, e, h1, h2⟩, hc => by
    refine ⟨[.int .i64 b.id, v], f1, f2, e, fun j hj => ?_, ⟨v, rfl, h1⟩, elems_of h2 fun j hj => ?_⟩
    · match j, hj with
      | 0, _ => exact hc 0 (by simp only [List.length_cons]; omega)
      | 1, _ => exact hc 1 (by simp only [List.length_cons]; omega)
      | j + 2, hj => exact absurd (show j + 2 < 2 from hj) (by omega)
    · have := hc (j + 2) (by simp only [List.length_cons]; omega)
      rw [show (k + 1) * 2 + j = k * 2 + (j + 2) by omega, this]
      rfl

/-- The slice v owns the blocks l among those from B on; f: what their rows lie in. -/
def OwnB (w : World) (B : Nat) (v : Value) (l : List Blk) (f : List Nat) : Prop :=
  ∃ vs, w.ownsRow B 80 2 v l.length (kcells l vs) ∧ Reps w vs l f ∧ (∀ k ∈ f, B ≤ k) ∧ f.Nodup ∧ ∀ k ∈ f, v.ownBlock ≠ some k
theorem OwnB.nil (w : World) (B : Nat) : OwnB w B (.slice none 0 0) [] [] := ⟨[], ⟨rfl, .inl ⟨rfl, rfl⟩⟩, rfl, (fun k hk => by cases hk), List.nodup_nil, fun k hk => by cases hk⟩
theorem OwnB.step {w w' : World} {B : Nat} {v : Value} {l : List Blk} {f : List Nat} (h : OwnB w B v l f) (hb : Below w.heap.size w w') : OwnB w' B v l f := by
  obtain ⟨vs, h1, h2, h3⟩ := h
  refine ⟨vs, World.ownsRow.kept h1 (row := none) ⟨hb.os, hb.tape, hb.output, hb.size, fun j hj _ => hb.block j hj⟩ (by cases v.ownBlock <;> simp), h2.keep (fun k hk => hb.block k (h2.lt k hk)), h3⟩
theorem OwnB.shape {w : World} {B : Nat} {v : Value} {l : List Blk} {f : List Nat} (h : OwnB w B v l f) : ∃ ao cap, v = .slice ao l.length cap := by
  obtain ⟨vs, h1, _⟩ := h
  rcases h1.2 with ⟨rfl, h0⟩ | ⟨g, cap, cur, rfl, _⟩
  · exact ⟨none, 0, by rw [h0]⟩
  · exact ⟨_, _, rfl⟩
theorem OwnB.lt {w : World} {B : Nat} {v : Value} {l : List Blk} {f : List Nat} (h : OwnB w B v l f) : (∀ k, v.ownBlock = some k → B ≤ k ∧ k < w.heap.size) ∧ ∀ k ∈ f, k < w.heap.size := by
  obtain ⟨vs, h1, h2, _⟩ := h
  exact ⟨World.ownsRow.lt h1, h2.lt⟩
theorem OwnB.setb {w : World} {B : Nat} {v : Value} {l : List Blk} {f : List Nat} {a : Addr} (h : OwnB w B v l f) (ha : a.block < B) (x : Value) : OwnB (w.setCell a x) B v l f := by
  obtain ⟨vs, h1, h2, h3, h4, h5⟩ := h
  have hg : w.grownBy (w.setCell a x) (some a.block) := ⟨rfl, rfl, rfl, by simp, fun k hk hne => Below.heap_setCell _ _ _ _ (fun e => hne (by rw [e]))⟩
  refine ⟨vs, World.ownsRow.kept h1 hg ?_, h2.keep (fun k hk => hg.block k (h2.lt k hk) (fun e => by have := h3 k hk; cases e; omega)), h3, h4, h5⟩
  cases hv : v.ownBlock with
  | none => exact .inl rfl
  | some k =>
    have := (World.ownsRow.lt h1 k hv).1
    exact .inr (fun e => by cases e; omega)
theorem OwnB.rep {w : World} {B : Nat} {v : Value} {l : List Blk} {f : List Nat} (h : OwnB w B v l f) : ∃ fp, SliceRep blkTy w v l fp ∧ (∀ k ∈ fp, B ≤ k) ∧ fp.Nodup := by
  obtain ⟨vs, h1, h2, h3, h4, h5⟩ := h
  by_cases hn : l.length = 0
  · have hl := List.eq_nil_of_length_eq_zero hn
    subst hl
    rcases h1.2 with ⟨rfl, _⟩ | ⟨g, cap, cur, rfl, _⟩
    · exact ⟨[], .inl ⟨rfl, rfl, .inl rfl⟩, (fun k hk => by cases hk), List.nodup_nil⟩
    · exact ⟨[], .inl ⟨rfl, rfl, .inr ⟨_, cap, rfl⟩⟩, (fun k hk => by cases hk), List.nodup_nil⟩
  · have h0 := h1
    rcases h1.2 with ⟨_, h9⟩ | ⟨g, cap, cur, rfl, hb, hg, hc, _, _, _⟩
    · exact absurd h9 hn
    · have hgl := (World.ownsRow.lt h0 g rfl).2
      refine ⟨g :: f, .inr ⟨g, cap, f, rfl, hc, ⟨hgl, fun j hj => ⟨?_, World.ownsRow.frozenAt h0 j⟩⟩, elems_of h2 (fun j hj => ?_), rfl⟩, fun k hk => ?_, List.nodup_cons.2 ⟨fun e => h5 g e rfl, h4⟩⟩
      · rw [World.ownsRow.cellAt h0 j hj]
        exact ⟨_, List.getElem?_eq_getElem (by rw [kcells_len h2.len]; exact hj)⟩
      · rw [Nat.zero_mul, Nat.zero_add]
        exact World.ownsRow.cellAt h0 j hj
      · rcases List.mem_cons.1 hk with rfl | hk
        · exact hb
        · exact h3 k hk

/-- Kept cells and a slice of blocks apart from them. -/
def KB (W w : World) (B : Nat) (L : List (Addr × Value)) (v : Value) (l : List Blk) (f : List Nat) : Prop := Kept W w L ∧ OwnB w B v l f ∧ ∀ p ∈ L, v.ownBlock ≠ some p.1.block ∧ p.1.block ∉ f
theorem KB.start0 {W X : World} {B : Nat} {L : List (Addr × Value)} (h : Kept W X L) : KB W X B L (.slice none 0 0) [] [] := ⟨h, OwnB.nil X B, fun p _ => ⟨fun e => by (cases e), fun e => by cases e⟩⟩
theorem KB.step {W w w' : World} {B : Nat} {L : List (Addr × Value)} {v : Value} {l : List Blk} {f : List Nat} (h : KB W w B L v l f) (hb : Below w.heap.size w w') : KB W w' B L v l f := ⟨h.1.step hb, h.2.1.step hb, h.2.2⟩
theorem KB.sub {W w : World} {B : Nat} {L L' : List (Addr × Value)} {v : Value} {l : List Blk} {f : List Nat} (h : KB W w B L v l f) (hs : ∀ p ∈ L', p ∈ L) : KB W w B L' v l f := ⟨h.1.sub hs, h.2.1, fun p hp => h.2.2 p (hs p hp)⟩
theorem KB.alloc2 {W X : World} {B : Nat} {L : List (Addr × Value)} {v : Value} {l : List Blk} {f : List Nat} (h : KB W X B L v l f) (x y : Value) (t : TypeId) (N : Nat) (hN : X.heap.size = N) :
    KB W (X.alloc (.cells #[x, y] t)) B ((⟨N, 0, none⟩, x) :: (⟨N, 1, none⟩, y) :: L) v l f := by
  refine ⟨h.1.alloc2 x y t N hN, h.2.1.step ((Below.refl _ _).alloc (Nat.le_refl _) _), fun p hp => ?_⟩
  have h1 := h.2.1.lt
  simp only [List.mem_cons] at hp
  rcases hp with rfl | rfl | hp
  · exact ⟨fun e => by have := (h1.1 _ e).2; simp only at this; omega, fun e => by have := h1.2 _ e; simp only at this; omega⟩
  · exact ⟨fun e => by have := (h1.1 _ e).2; simp only at this; omega, fun e => by have := h1.2 _ e; simp only at this; omega⟩
  · exact h.2.2 p hp
theorem KB.set {W w : World} {B : Nat} {a : Addr} {u : Value} {p q : List (Addr × Value)} {v : Value} {l : List Blk} {f : List Nat} (h : KB W w B (p ++ (a, u) :: q) v l f) (x : Value) (hW : W.heap.size ≤ a.block) (hB : a.block < B) (hne : ∀ c ∈ p ++ q, c.1 ≠ a) : KB W (w.setCell a x) B (p ++ (a, x) :: q) v l f := by
  refine ⟨h.1.set x hW hne, h.2.1.setb hB x, fun c hc => ?_⟩
  simp only [List.mem_append, List.mem_cons] at hc
  rcases hc with hc | rfl | hc
  · exact h.2.2 c (by simp [hc])
  · exact h.2.2 (a, u) (by simp)
  · exact h.2.2 c (by simp [hc])

/-- 'append(out, b)': the block's cells stand in a block of memory of their own; its rows are new. -/
theorem wpList_append_kb {ops : Array Oper} {rest : List Oper} {o : Oper} {a : Act} {Q : Exit → Act → World → Prop} {W w : World} (hgd : o.guard = none) (s x : Operand)
    (ho : o.op = .call { callee := .builtin .append, args := #[s, x], argTypes := #[30, 30] })
    (B : Nat) (v : Value) (L : List (Addr × Value)) (l : List Blk) (f : List Nat) (b : Blk) (ro : Option Addr) (rn rc : Nat) (fb : List Nat) (N c : Nat) (hs : a.eval s = v) (hx : a.eval x = .slice (some ⟨N, 0, none⟩) 1 c) (hko : KB W w B L v l f)
    (hc0 : w.cell? ⟨N, 0, none⟩ = some (.int .i64 b.id)) (hc1 : w.cell? ⟨N, 1, none⟩ = some (.slice ro rn rc)) (hrep : SliceRep rowTy w (.slice ro rn rc) b.rows fb) (hfb : ∀ k ∈ fb, B ≤ k) (hnd : fb.Nodup) (hd : ∀ k ∈ fb, k ∉ f) (hvb : ∀ k ∈ fb, v.ownBlock ≠ some k) (hLb : ∀ p ∈ L, p.1.block ∉ fb)
    (hlen : (l.length + 1) * 32 ≤ 140737488355328) (hWB : W.heap.size ≤ B) (hB : B ≤ w.heap.size)
    (h : ∀ v' w', KB W w' B L v' (l ++ [b]) (f ++ fb) → wpList Try.prog ops Q rest (a.put o.dst v') w') : wpList Try.prog ops Q (o :: rest) a w := by
  obtain ⟨i0, hi, hx0⟩ := Option.map_eq_some_iff.1 Try.infoBlk
  simp only [Prod.mk.injEq] at hx0
  obtain ⟨hz0, hz1, hz2⟩ := hx0
  obtain ⟨hk, ⟨vs, hown, hreps, hfB, hfnd, hfv⟩, hap⟩ := hko
  refine wpList_append_own_at _ hgd s x 30 ho B 80 i0 _ 2 32 Try.underlying30 hi hz0 hz1 hz2 rfl (by decide) v l.length (kcells l vs) hs hown ⟨N, 0, none⟩ 1 c [.int .i64 b.id, .slice ro rn rc] hx rfl ?_ ?_ (by unfold maxLen; omega) (by omega) hB ?_
  · intro j u hj
    match j, hj with
    | 0, hj => simp only [List.getElem?_cons_zero, Option.some.injEq] at hj; subst hj; exact hc0
    | 1, hj => simp only [List.getElem?_cons_succ, List.getElem?_cons_zero, Option.some.injEq] at hj; subst hj; exact hc1
    | j + 2, hj => simp at hj
  · intro u hu
    simp only [List.mem_cons, List.not_mem_nil, or_false] at hu
    rcases hu with rfl | rfl <;> rfl
  · intro v' w' h2 h3 _ h5
    have hlt := World.ownsRow.lt hown
    refine h v' w' ⟨kept_grown hk h3 (fun k e => Nat.le_trans hWB (hlt k e).1) (fun p hp => (hap p hp).1), ⟨vs ++ [.slice ro rn rc], ?_, ?_, fun k hk => ?_, List.nodup_append.2 ⟨hfnd, hnd, fun x hx y hy e => hd y hy (by rw [← e]; exact hx)⟩, fun k hk => ?_⟩, fun p hp => ?_⟩
    · rw [List.length_append, kcells_snoc hreps.len]
      exact h2
    · exact Reps.snoc (b := b) (hrep.keep (fun k hk => h3.block k (hrep.lt k hk) (fun e => hvb k hk e.symm))) (hreps.keep (fun k hk => h3.block k (hreps.lt k hk) (fun e => hfv k hk e.symm)))
    · rcases List.mem_append.1 hk with hk | hk
      · exact hfB k hk
      · exact hfb k hk
    · rcases h5 with h5 | h5
      · rw [h5]
        rcases List.mem_append.1 hk with hk | hk
        · exact hfv k hk
        · exact hvb k hk
      · rw [h5]
        intro e
        simp only [Option.some.injEq] at e
        rcases List.mem_append.1 hk with hk | hk
        · have := hreps.lt k hk; omega
        · have := hrep.lt k hk; omega
    · refine ⟨fun e => ?_, fun e => ?_⟩
      · rcases h5 with h5 | h5
        · rw [h5] at e; exact (hap p hp).1 e
        · rw [h5] at e
          simp only [Option.some.injEq] at e
          have := (hk.2 p hp).1
          omega
      · rcases List.mem_append.1 e with e | e
        · exact (hap p hp).2 e
        · exact hLb p hp e
end Go.Proofs.Ytcfcohnkkgickaa
