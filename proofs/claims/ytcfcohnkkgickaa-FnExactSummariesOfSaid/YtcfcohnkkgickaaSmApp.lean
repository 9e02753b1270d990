/-
  Summaries of a call's own that grow by append: each with cells of its own.
-/
import Derived.Test.YtcfcohnkkgickaaRows
import Derived.Test.YtcfcohnkkgickaaSmPlain
import Derived.Test.YtcfcohnkkgickaaIntOwn
import Derived.Test.YtcfcohnkkgickaaAl7
import Derived.Test.YtcfcohnkkgickaaKo
import Derived.Maps.AppendAt
namespace Go.Proofs.Ytcfcohnkkgickaa
open Go.RowKit Num

theorem Try.infoSum : (Try.prog.info? 77).map (fun i => (i.zero, i.size, i.bytes)) = some (some (.agg #[.int .i64 0, .int .i64 0, .int .i64 0, .int .i64 0, .int .i64 0, .int .i64 0, .slice none 0 0]), 7, 72) := by kernel_rfl

def mcells : List Sm → List Value → List Value
  | b :: l, v :: vs => sc b v ++ mcells l vs
  | _, _ => []
/-- What the slices vs of the blocks hold; f: the blocks of memory that they reach. -/
def RepsM (w : World) : List Value → List Sm → List Nat → Prop
  | [], [], f => f = []
  | v :: vs, b :: l, f => ∃ f1 f2, f = f1 ++ f2 ∧ SliceRep intTy w v b.h f1 ∧ RepsM w vs l f2
  | _, _, _ => False
theorem RepsM.len {w : World} : ∀ {vs : List Value} {l : List Sm} {f : List Nat}, RepsM w vs l f → vs.length = l.length
  | [], [], _, _ => rfl
  | v :: vs, b :: l, _, ⟨_, _, _, _, h⟩ => by rw [List.length_cons, List.length_cons, RepsM.len h]
theorem RepsM.lt {w : World} : ∀ {vs : List Value} {l : List Sm} {f : List Nat}, RepsM w vs l f → ∀ k ∈ f, k < w.heap.size
  | [], [], f, h, k, hk => by have e : f = [] := h; rw [e] at hk; cases hk
  | v :: vs, b :: l, f, ⟨f1, f2, e, h1, h2⟩, k, hk => by
    rw [e, List.mem_append] at hk
    rcases hk with hk | hk
    · exact h1.lt k hk
    · exact RepsM.lt h2 k hk
theorem RepsM.keep {w w' : World} : ∀ {vs : List Value} {l : List Sm} {f : List Nat}, RepsM w vs l f → (∀ k ∈ f, w'.heap[k]? = w.heap[k]?) → RepsM w' vs l f
  | [], [], _, h, _ => h
  | v :: vs, b :: l, f, ⟨f1, f2, e, h1, h2⟩, hk => by
    subst e
    exact ⟨f1, f2, rfl, h1.keep (fun k h => hk k (by simp [h])), RepsM.keep h2 (fun k h => hk k (by simp [h]))⟩
theorem RepsM.snoc {w : World} {v : Value} {b : Sm} {fb : List Nat} (hb : SliceRep intTy w v b.h fb) : ∀ {vs : List Value} {l : List Sm} {f : List Nat}, RepsM w vs l f → RepsM w (vs ++ [v]) (l ++ [b]) (f ++ fb)
  | [], [], f, h => by
    have e : f = [] := h
    subst e
    exact ⟨fb, [], by simp, hb, rfl⟩
  | _ :: vs, _ :: l, f, ⟨f1, f2, e, h1, h2⟩ => by
    subst e
    exact ⟨f1, f2 ++ fb, by rw [List.append_assoc], h1, RepsM.snoc hb h2⟩
theorem mcells_snoc {b : Sm} {v : Value} : ∀ {l : List Sm} {vs : List Value}, vs.length = l.length → mcells (l ++ [b]) (vs ++ [v]) = mcells l vs ++ sc b v
  | [], [], _ => by simp [mcells]
  | _ :: l, _ :: vs, h => by
    simp only [List.cons_append, mcells]
    rw [mcells_snoc (by simpa using h), List.append_assoc]
theorem mcells_len : ∀ {l : List Sm} {vs : List Value}, vs.length = l.length → (mcells l vs).length = l.length * 7
  | [], [], _ => rfl
  | _ :: l, _ :: vs, h => by
    simp only [mcells, List.length_cons, List.length_append]
    rw [mcells_len (by simpa using h)]
    simp only [sc, List.length_cons, List.length_nil]
    omega
theorem elemsM_of {w : World} {g : Nat} : ∀ {l : List Sm} {vs : List Value} {f : List Nat} {k : Nat}, RepsM w vs l f → (∀ j, j < l.length * 7 → w.cell? ⟨g, k * 7 + j, none⟩ = (mcells l vs)[j]?) → Elems smTy w g k l f
  | [], [], _, _, h, _ => h
  | b :: l, v :: vs, f, k, ⟨f1, f2, e, h1, h2⟩, hc => by
    refine ⟨sc b v, f1, f2, e, fun j hj => ?_, ⟨v, rfl, h1⟩, elemsM_of h2 fun j hj => ?_⟩
    · have hj7 : j < 7 := hj
      have := hc j (by simp only [List.length_cons]; omega)
      rw [show mcells (b :: l) (v :: vs) = sc b v ++ mcells l vs from rfl, List.getElem?_append_left hj, List.getElem?_eq_getElem hj] at this
      exact this
    · have := hc (j + 7) (by simp only [List.length_cons]; omega)
      rw [show mcells (b :: l) (v :: vs) = sc b v ++ mcells l vs from rfl, List.getElem?_append_right (by show 7 ≤ j + 7; omega)] at this
      rw [show (k + 1) * 7 + j = k * 7 + (j + 7) by omega, this]
      rw [show j + 7 - (sc b v).length = j from Nat.add_sub_cancel j 7]

/-- The slice v owns the blocks l among those from B on; f: what their rows lie in. -/
def OwnM (w : World) (B : Nat) (v : Value) (l : List Sm) (f : List Nat) : Prop :=
  ∃ vs, w.ownsRow B 77 7 v l.length (mcells l vs) ∧ RepsM w vs l f ∧ (∀ k ∈ f, B ≤ k) ∧ f.Nodup ∧ ∀ k ∈ f, v.ownBlock ≠ some k
theorem OwnM.nil (w : World) (B : Nat) : OwnM w B (.slice none 0 0) [] [] := ⟨[], ⟨rfl, .inl ⟨rfl, rfl⟩⟩, rfl, (fun k hk => by cases hk), List.nodup_nil, fun k hk => by cases hk⟩
theorem OwnM.step {w w' : World} {B : Nat} {v : Value} {l : List Sm} {f : List Nat} (h : OwnM w B v l f) (hb : Below w.heap.size w w') : OwnM w' B v l f := by
  obtain ⟨vs, h1, h2, h3⟩ := h
  refine ⟨vs, World.ownsRow.kept h1 (row := none) ⟨hb.os, hb.tape, hb.output, hb.size, fun j hj _ => hb.block j hj⟩ (by cases v.ownBlock <;> simp), h2.keep (fun k hk => hb.block k (h2.lt k hk)), h3⟩
theorem OwnM.shape {w : World} {B : Nat} {v : Value} {l : List Sm} {f : List Nat} (h : OwnM w B v l f) : ∃ ao cap, v = .slice ao l.length cap := by
  obtain ⟨vs, h1, _⟩ := h
  rcases h1.2 with ⟨rfl, h0⟩ | ⟨g, cap, cur, rfl, _⟩
  · exact ⟨none, 0, by rw [h0]⟩
  · exact ⟨_, _, rfl⟩
theorem OwnM.lt {w : World} {B : Nat} {v : Value} {l : List Sm} {f : List Nat} (h : OwnM w B v l f) : (∀ k, v.ownBlock = some k → B ≤ k ∧ k < w.heap.size) ∧ ∀ k ∈ f, k < w.heap.size := by
  obtain ⟨vs, h1, h2, _⟩ := h
  exact ⟨World.ownsRow.lt h1, h2.lt⟩
theorem OwnM.setb {w : World} {B : Nat} {v : Value} {l : List Sm} {f : List Nat} {a : Addr} (h : OwnM w B v l f) (ha : a.block < B) (x : Value) : OwnM (w.setCell a x) B v l f := by
  obtain ⟨vs, h1, h2, h3, h4, h5⟩ := h
  have hg : w.grownBy (w.setCell a x) (some a.block) := ⟨rfl, rfl, rfl, by simp, fun k hk hne => Below.heap_setCell _ _ _ _ (fun e => hne (by rw [e]))⟩
  refine ⟨vs, World.ownsRow.kept h1 hg ?_, h2.keep (fun k hk => hg.block k (h2.lt k hk) (fun e => by have := h3 k hk; cases e; omega)), h3, h4, h5⟩
  cases hv : v.ownBlock with
  | none => exact .inl rfl
  | some k =>
    have := (World.ownsRow.lt h1 k hv).1
    exact .inr (fun e => by cases e; omega)
theorem OwnM.rep {w : World} {B : Nat} {v : Value} {l : List Sm} {f : List Nat} (h : OwnM w B v l f) : ∃ fp, SliceRep smTy w v l fp ∧ (∀ k ∈ fp, B ≤ k) ∧ fp.Nodup := by
  obtain ⟨vs, h1, h2, h3, h4, h5⟩ := h
  by_cases hn : l.length = 0
  · have hl := List.eq_nil_of_length_eq_zero hn
    subst hl
    rcases h1.2 with ⟨rfl, _⟩ | ⟨g, cap, cur, rfl, _⟩
    · exact ⟨[], .inl ⟨rfl, rfl, .inl rfl⟩, (fun k hk => by cases hk), List.nodup_nil⟩
    · exact ⟨[], .inl ⟨rfl, rfl, .inr ⟨_, cap, rfl⟩⟩, (fun k hk => by cases hk), List.nodup_nil⟩
  · have h0 := h1
    rcases h1.2 with ⟨_, h9⟩ | ⟨g, cap, cur, rfl, hb, hg, hc, _, _, _⟩
    · exact absurd h9 hn
    · have hgl := (World.ownsRow.lt h0 g rfl).2
      refine ⟨g :: f, .inr ⟨g, cap, f, rfl, hc, ⟨hgl, fun j hj => ⟨?_, World.ownsRow.frozenAt h0 j⟩⟩, elemsM_of h2 (fun j hj => ?_), rfl⟩, fun k hk => ?_, List.nodup_cons.2 ⟨fun e => h5 g e rfl, h4⟩⟩
      · rw [World.ownsRow.cellAt h0 j hj]
        exact ⟨_, List.getElem?_eq_getElem (by rw [mcells_len h2.len]; exact hj)⟩
      · rw [Nat.zero_mul, Nat.zero_add]
        exact World.ownsRow.cellAt h0 j hj
      · rcases List.mem_cons.1 hk with rfl | hk
        · exact hb
        · exact h3 k hk

/-- Kept cells and a slice of blocks apart from them. -/
def KM (W w : World) (B : Nat) (L : List (Addr × Value)) (v : Value) (l : List Sm) (f : List Nat) : Prop := Kept W w L ∧ OwnM w B v l f ∧ ∀ p ∈ L, v.ownBlock ≠ some p.1.block ∧ p.1.block ∉ f
theorem KM.start0 {W X : World} {B : Nat} {L : List (Addr × Value)} (h : Kept W X L) : KM W X B L (.slice none 0 0) [] [] := ⟨h, OwnM.nil X B, fun p _ => ⟨fun e => by (cases e), fun e => by cases e⟩⟩
theorem KM.step {W w w' : World} {B : Nat} {L : List (Addr × Value)} {v : Value} {l : List Sm} {f : List Nat} (h : KM W w B L v l f) (hb : Below w.heap.size w w') : KM W w' B L v l f := ⟨h.1.step hb, h.2.1.step hb, h.2.2⟩
theorem KM.sub {W w : World} {B : Nat} {L L' : List (Addr × Value)} {v : Value} {l : List Sm} {f : List Nat} (h : KM W w B L v l f) (hs : ∀ p ∈ L', p ∈ L) : KM W w B L' v l f := ⟨h.1.sub hs, h.2.1, fun p hp => h.2.2 p (hs p hp)⟩
theorem KM.alloc2 {W X : World} {B : Nat} {L : List (Addr × Value)} {v : Value} {l : List Sm} {f : List Nat} (h : KM W X B L v l f) (x y : Value) (t : TypeId) (N : Nat) (hN : X.heap.size = N) :
    KM W (X.alloc (.cells #[x, y] t)) B ((⟨N, 0, none⟩, x) :: (⟨N, 1, none⟩, y) :: L) v l f := by
  refine ⟨h.1.alloc2 x y t N hN, h.2.1.step ((Below.refl _ _).alloc (Nat.le_refl _) _), fun p hp => ?_⟩
  have h1 := h.2.1.lt
  simp only [List.mem_cons] at hp
  rcases hp with rfl | rfl | hp
  · exact ⟨fun e => by have := (h1.1 _ e).2; simp only at this; omega, fun e => by have := h1.2 _ e; simp only at this; omega⟩
  · exact ⟨fun e => by have := (h1.1 _ e).2; simp only at this; omega, fun e => by have := h1.2 _ e; simp only at this; omega⟩
  · exact h.2.2 p hp
theorem KM.alloc7 {W X : World} {B : Nat} {L : List (Addr × Value)} {v : Value} {l : List Sm} {f : List Nat} (h : KM W X B L v l f) (x y z p q r u : Value) (t : TypeId) (N : Nat) (hN : X.heap.size = N) :
    KM W (X.alloc (.cells #[x, y, z, p, q, r, u] t)) B ((⟨N, 0, none⟩, x) :: (⟨N, 1, none⟩, y) :: (⟨N, 2, none⟩, z) :: (⟨N, 3, none⟩, p) :: (⟨N, 4, none⟩, q) :: (⟨N, 5, none⟩, r) :: (⟨N, 6, none⟩, u) :: L) v l f := by
  refine ⟨h.1.alloc7 x y z p q r u t N hN, h.2.1.step ((Below.refl _ _).alloc (Nat.le_refl _) _), fun c hc => ?_⟩
  have h1 := h.2.1.lt
  have new : ∀ o, v.ownBlock ≠ some (⟨N, o, none⟩ : Addr).block ∧ (⟨N, o, none⟩ : Addr).block ∉ f := fun o => ⟨fun e => by have := (h1.1 _ e).2; simp only at this; omega, fun e => by have := h1.2 _ e; simp only at this; omega⟩
  simp only [List.mem_cons] at hc
  rcases hc with rfl | rfl | rfl | rfl | rfl | rfl | rfl | hc
  · exact new 0
  · exact new 1
  · exact new 2
  · exact new 3
  · exact new 4
  · exact new 5
  · exact new 6
  · exact h.2.2 c hc
theorem KM.set {W w : World} {B : Nat} {a : Addr} {u : Value} {p q : List (Addr × Value)} {v : Value} {l : List Sm} {f : List Nat} (h : KM W w B (p ++ (a, u) :: q) v l f) (x : Value) (hW : W.heap.size ≤ a.block) (hB : a.block < B) (hne : ∀ c ∈ p ++ q, c.1 ≠ a) : KM W (w.setCell a x) B (p ++ (a, x) :: q) v l f := by
  refine ⟨h.1.set x hW hne, h.2.1.setb hB x, fun c hc => ?_⟩
  simp only [List.mem_append, List.mem_cons] at hc
  rcases hc with hc | rfl | hc
  · exact h.2.2 c (by simp [hc])
  · exact h.2.2 (a, u) (by simp)
  · exact h.2.2 c (by simp [hc])

/-- 'append(out, b)': the block's cells stand in a block of memory of their own; its rows are new. -/
theorem wpList_append_km {ops : Array Oper} {rest : List Oper} {o : Oper} {a : Act} {Q : Exit → Act → World → Prop} {W w : World} (hgd : o.guard = none) (s x : Operand)
    (ho : o.op = .call { callee := .builtin .append, args := #[s, x], argTypes := #[96, 96] })
    (B : Nat) (v : Value) (L : List (Addr × Value)) (l : List Sm) (f : List Nat) (b : Sm) (ro : Option Addr) (rn rc : Nat) (fb : List Nat) (N c : Nat) (hs : a.eval s = v) (hx : a.eval x = .slice (some ⟨N, 0, none⟩) 1 c) (hko : KM W w B L v l f)
    (hc0 : ∀ j u, (sc b (.slice ro rn rc))[j]? = some u → w.cell? ⟨N, j, none⟩ = some u) (hrep : SliceRep intTy w (.slice ro rn rc) b.h fb) (hfb : ∀ k ∈ fb, B ≤ k) (hnd : fb.Nodup) (hd : ∀ k ∈ fb, k ∉ f) (hvb : ∀ k ∈ fb, v.ownBlock ≠ some k) (hLb : ∀ p ∈ L, p.1.block ∉ fb)
    (hlen : (l.length + 1) * 72 ≤ 140737488355328) (hWB : W.heap.size ≤ B) (hB : B ≤ w.heap.size)
    (h : ∀ v' w', KM W w' B L v' (l ++ [b]) (f ++ fb) → wpList Try.prog ops Q rest (a.put o.dst v') w') : wpList Try.prog ops Q (o :: rest) a w := by
  obtain ⟨i0, hi, hx0⟩ := Option.map_eq_some_iff.1 Try.infoSum
  simp only [Prod.mk.injEq] at hx0
  obtain ⟨hz0, hz1, hz2⟩ := hx0
  obtain ⟨hk, ⟨vs, hown, hreps, hfB, hfnd, hfv⟩, hap⟩ := hko
  refine wpList_append_own_at _ hgd s x 96 ho B 77 i0 _ 7 72 Try.underlying96 hi hz0 hz1 hz2 rfl (by decide) v l.length (mcells l vs) hs hown ⟨N, 0, none⟩ 1 c (sc b (.slice ro rn rc)) hx rfl ?_ ?_ (by unfold maxLen; omega) (by omega) hB ?_
  · intro j u hj
    have e : (⟨N, 0, none⟩ : Addr).add j = ⟨N, j, none⟩ := by
      unfold Addr.add
      split
      · next h => rw [h]
      · simp
    rw [e]
    exact hc0 j u hj
  · intro u hu
    simp only [sc, List.mem_cons, List.not_mem_nil, or_false] at hu
    rcases hu with rfl | rfl | rfl | rfl | rfl | rfl | rfl <;> rfl
  · intro v' w' h2 h3 _ h5
    have hlt := World.ownsRow.lt hown
    refine h v' w' ⟨kept_grown hk h3 (fun k e => Nat.le_trans hWB (hlt k e).1) (fun p hp => (hap p hp).1), ⟨vs ++ [.slice ro rn rc], ?_, ?_, fun k hk => ?_, List.nodup_append.2 ⟨hfnd, hnd, fun x hx y hy e => hd y hy (by rw [← e]; exact hx)⟩, fun k hk => ?_⟩, fun p hp => ?_⟩
    · rw [List.length_append, mcells_snoc hreps.len]
      exact h2
    · exact RepsM.snoc (b := b) (hrep.keep (fun k hk => h3.block k (hrep.lt k hk) (fun e => hvb k hk e.symm))) (hreps.keep (fun k hk => h3.block k (hreps.lt k hk) (fun e => hfv k hk e.symm)))
    · rcases List.mem_append.1 hk with hk | hk
      · exact hfB k hk
      · exact hfb k hk
    · rcases h5 with h5 | h5
      · rw [h5]
        rcases List.mem_append.1 hk with hk | hk
        · exact hfv k hk
        · exact hvb k hk
      · rw [h5]
        intro e
        simp only [Option.some.injEq] at e
        rcases List.mem_append.1 hk with hk | hk
        · have := hreps.lt k hk; omega
        · have := hrep.lt k hk; omega
    · refine ⟨fun e => ?_, fun e => ?_⟩
      · rcases h5 with h5 | h5
        · rw [h5] at e; exact (hap p hp).1 e
        · rw [h5] at e
          simp only [Option.some.injEq] at e
          have := (hk.2 p hp).1
          omega
      · rcases List.mem_append.1 e with e | e
        · exact (hap p hp).2 e
        · exact hLb p hp e
end Go.Proofs.Ytcfcohnkkgickaa
