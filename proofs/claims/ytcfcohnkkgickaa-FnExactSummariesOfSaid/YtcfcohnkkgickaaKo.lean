/-
  What a region that appends to rows keeps: cells, the rows that are appended to, and that their block is none of the cells'.
-/
import Derived.Test.YtcfcohnkkgickaaRows
import Derived.Test.YtcfcohnkkgickaaRwSrc
import Derived.Test.YtcfcohnkkgickaaRvSpec
import Derived.Maps.AppendAt
import Derived.OneCell
import Derived.Deep.Onto
namespace Go.Proofs.Ytcfcohnkkgickaa
open Go.RowKit Num

def KO (W w : World) (B : Nat) (l : List (Addr × Value)) (v : Value) (rows : List Rw) : Prop := Kept W w l ∧ OwnR w B v rows ∧ ∀ p ∈ l, v.ownBlock ≠ some p.1.block

theorem OwnR.lt {w : World} {B : Nat} {v : Value} {l : List Rw} (h : OwnR w B v l) : ∀ k, v.ownBlock = some k → B ≤ k ∧ k < w.heap.size := World.ownsRow.lt h
theorem OwnR.alloc {w : World} {B : Nat} {v : Value} {l : List Rw} (h : OwnR w B v l) (o : Obj) : OwnR (w.alloc o) B v l := World.ownsRow.alloc h o

theorem KO.lit {W X : World} {B : Nat} {l : List (Addr × Value)} (h : Kept W X l) (N : Nat) (hN : X.heap.size = N) (hB : B ≤ N) : KO W (X.alloc (.cells #[] 36)) B l (.slice (some ⟨N, 0, none⟩) 0 0) [] := by
  subst hN
  refine ⟨h.step ((Below.refl _ _).alloc (Nat.le_refl _) _), OwnR.lit X B hB, fun p hp e => ?_⟩
  have := (h.2 p hp).1
  simp only [Value.ownBlock, Option.some.injEq] at e
  omega
theorem KO.start0 {W X : World} {B : Nat} {l : List (Addr × Value)} (h : Kept W X l) : KO W X B l (.slice none 0 0) [] :=
  ⟨h, OwnR.nil X B, fun _ _ e => by cases e⟩
theorem KO.drew {W X : World} {B : Nat} {l : List (Addr × Value)} {v : Value} {rows : List Rw} (h : KO W X B l v rows) : KO W X.drew B l v rows := ⟨h.1.drew, h.2.1, h.2.2⟩
theorem KO.alloc2 {W X : World} {B : Nat} {l : List (Addr × Value)} {v : Value} {rows : List Rw} (h : KO W X B l v rows) (x y : Value) (t : TypeId) (N : Nat) (hN : X.heap.size = N) :
    KO W (X.alloc (.cells #[x, y] t)) B ((⟨N, 0, none⟩, x) :: (⟨N, 1, none⟩, y) :: l) v rows := by
  refine ⟨h.1.alloc2 x y t N hN, h.2.1.alloc _, fun p hp e => ?_⟩
  have hl := (h.2.1.lt _ e).2
  simp only [List.mem_cons] at hp
  rcases hp with rfl | rfl | hp
  · simp only at hl; omega
  · simp only at hl; omega
  · exact h.2.2 p hp e
theorem KO.alloc5 {W X : World} {B : Nat} {l : List (Addr × Value)} {v : Value} {rows : List Rw} (h : KO W X B l v rows) (x y u z q : Value) (t : TypeId) (N : Nat) (hN : X.heap.size = N) :
    KO W (X.alloc (.cells #[x, y, u, z, q] t)) B ((⟨N, 0, none⟩, x) :: (⟨N, 1, none⟩, y) :: (⟨N, 2, none⟩, u) :: (⟨N, 3, none⟩, z) :: (⟨N, 4, none⟩, q) :: l) v rows := by
  refine ⟨h.1.alloc5 x y u z q t N hN, h.2.1.alloc _, fun p hp e => ?_⟩
  have hl := (h.2.1.lt _ e).2
  simp only [List.mem_cons] at hp
  rcases hp with rfl | rfl | rfl | rfl | rfl | hp
  · simp only at hl; omega
  · simp only at hl; omega
  · simp only at hl; omega
  · simp only at hl; omega
  · simp only at hl; omega
  · exact h.2.2 p hp e

theorem kept_grown {W w w' : World} {l : List (Addr × Value)} {row : Option Nat} (h : Kept W w l) (hg : w.grownBy w' row) (hW : ∀ k, row = some k → W.heap.size ≤ k) (hl : ∀ p ∈ l, row ≠ some p.1.block) : Kept W w' l :=
  ⟨h.1.grown hg h.1.size hW, fun p hp => by
    have hk := hg.block p.1.block (h.2 p hp).1 (fun e => hl p hp e.symm)
    exact ⟨Nat.lt_of_lt_of_le (h.2 p hp).1 hg.size, (World.cell?_of_block hk).trans (h.2 p hp).2.1, (World.frozen?_of_block hk).trans (h.2 p hp).2.2⟩⟩

theorem OwnR.step {w w' : World} {B : Nat} {v : Value} {l : List Rw} (h : OwnR w B v l) (hb : Below w.heap.size w w') : OwnR w' B v l := by
  have hg : w.grownBy w' none := ⟨hb.os, hb.tape, hb.output, hb.size, fun k hk _ => hb.block k hk⟩
  refine World.ownsRow.kept h hg ?_
  cases v.ownBlock
  · exact .inl rfl
  · exact .inr (by simp)
theorem KO.step {W w w' : World} {B : Nat} {l : List (Addr × Value)} {v : Value} {rows : List Rw} (h : KO W w B l v rows) (hb : Below w.heap.size w w') : KO W w' B l v rows := ⟨h.1.step hb, h.2.1.step hb, h.2.2⟩
theorem KO.sub {W w : World} {B : Nat} {l l' : List (Addr × Value)} {v : Value} {rows : List Rw} (h : KO W w B l v rows) (hs : ∀ p ∈ l', p ∈ l) : KO W w B l' v rows := ⟨h.1.sub hs, h.2.1, fun p hp => h.2.2 p (hs p hp)⟩
/-- A store into a kept cell below B. -/
theorem KO.set {W w : World} {B : Nat} {a : Addr} {u : Value} {p q : List (Addr × Value)} {v : Value} {rows : List Rw} (h : KO W w B (p ++ (a, u) :: q) v rows) (x : Value) (hW : W.heap.size ≤ a.block) (hB : a.block < B) (hne : ∀ c ∈ p ++ q, c.1 ≠ a) : KO W (w.setCell a x) B (p ++ (a, x) :: q) v rows := by
  refine ⟨h.1.set x hW hne, h.2.1.setb hB x, fun c hc => ?_⟩
  simp only [List.mem_append, List.mem_cons] at hc
  rcases hc with hc | rfl | hc
  · exact h.2.2 c (by simp [hc])
  · exact h.2.2 (a, u) (by simp)
  · exact h.2.2 c (by simp [hc])
theorem Kept.base {W w : World} {l : List (Addr × Value)} (h : Kept W w l) : Kept w w l := ⟨Below.refl _ _, h.2⟩
theorem Kept.from {W w w' : World} {l : List (Addr × Value)} (h : Kept w w' l) (hb : Below W.heap.size W w) : Kept W w' l := ⟨hb.trans (h.1.mono hb.size), h.2⟩

/-- 'append(out, x...)'. -/
theorem oper_append_ko {o : Oper} {a : Act} {K : Act → World → Prop} {Q : Exit → Act → World → Prop} {W w : World} {s x : Operand}
    (ho : o.op = .call { callee := .builtin .append, args := #[s, x], argTypes := #[57, 57] })
    {B : Nat} {v xv : Value} {l : List (Addr × Value)} {rows news : List Rw} (hs : a.eval s = v) (hx : a.eval x = xv) (hko : KO W w B l v rows) (hsrc : SrcR w xv news) (hlen : (rows.length + news.length) * 40 ≤ 140737488355328) (hWB : W.heap.size ≤ B) (hB : B ≤ w.heap.size)
    (h : ∀ v' w', KO W w' B l v' (rows ++ news) → K (a.put o.dst v') w') : Oper.wp Try.prog o a w K Q := by
  obtain ⟨i0, hi, hx0⟩ := Option.map_eq_some_iff.1 Try.infoRow
  simp only [Prod.mk.injEq] at hx0
  obtain ⟨hz0, hz1, hz2⟩ := hx0
  obtain ⟨hk, hown, hap⟩ := hko
  rcases hsrc with ⟨rfl, rfl⟩ | ⟨ad, c, rfl, hnews⟩
  · have hrun := run_append_owned_none (P := Try.prog) (w := w) B 57 o.type 36 i0 5 Try.underlying57 hi v rows.length (rcells rows) hown
    unfold Oper.wp
    simp [execOp, ho, resolve, invoke, builtin, hs, hx, hrun, Result.andThen]
    exact h v w ⟨hk, by rw [List.append_nil]; exact hown, hap⟩
  · obtain ⟨v', w', hr, h2, h3, _, h5⟩ := run_append_own_at (P := Try.prog) w B 57 o.type 36 i0 _ 5 40 Try.underlying57 hi hz0 hz1 hz2 rfl (by decide) v rows.length (rcells rows) hown ad news.length c (rcells news) (rcells_len news) hnews (rcells_one news) (by unfold maxLen; omega) (by omega) hB
    unfold Oper.wp execOp
    simp only [ho, resolve, invoke, builtin, Sem.run_bind, Sem.run_pure, Result.andThen_ok, List.map_toArray, List.map_cons, List.map_nil, hs, hx, hr]
    refine h v' w' ⟨kept_grown hk h3 (fun k e => Nat.le_trans hWB (hown.lt k e).1) hap, ?_, fun p hp e => ?_⟩
    · unfold OwnR
      rw [List.length_append, rcells_append]
      exact h2
    · rcases h5 with h5 | h5
      · rw [h5] at e; exact hap p hp e
      · rw [h5] at e
        simp only [Option.some.injEq] at e
        have := (hk.2 p hp).1
        omega

/-- 'append(out, x...)' as a step of a region that draws its order. -/
theorem step_append_ko {ops : Array Oper} {o : Oper} {a : Act} {K : Act → World → Prop} {Q : Exit → Act → World → Prop} {E : Prop} {W w : World} {s x : Operand} (hgd : o.guard = none)
    (ho : o.op = .call { callee := .builtin .append, args := #[s, x], argTypes := #[57, 57] })
    {B : Nat} {v xv : Value} {l : List (Addr × Value)} {rows news : List Rw} (hs : a.eval s = v) (hx : a.eval x = xv) (hko : KO W w B l v rows) (hsrc : SrcR w xv news) (hlen : (rows.length + news.length) * 40 ≤ 140737488355328) (hWB : W.heap.size ≤ B) (hB : B ≤ w.heap.size)
    (h : ∀ v' w', KO W w' B l v' (rows ++ news) → K (a.put o.dst v') w') :
    if Region.wanted o (yielded ops a.tmps) = true then Oper.wp Try.prog o a w K Q else E := by
  have hw : Region.wanted o (yielded ops a.tmps) = true := by simp [Region.wanted, hgd]
  rw [if_pos hw]
  exact oper_append_ko ho hs hx hko hsrc hlen hWB hB h

/-- 'append(out, x...)' as a step of the walk. -/
theorem wpList_append_ko {ops : Array Oper} {rest : List Oper} {o : Oper} {a : Act} {Q : Exit → Act → World → Prop} {W w : World} (hgd : o.guard = none) (s x : Operand)
    (ho : o.op = .call { callee := .builtin .append, args := #[s, x], argTypes := #[57, 57] })
    (B : Nat) (v xv : Value) (l : List (Addr × Value)) (rows news : List Rw) (hs : a.eval s = v) (hx : a.eval x = xv) (hko : KO W w B l v rows) (hsrc : SrcR w xv news) (hlen : (rows.length + news.length) * 40 ≤ 140737488355328) (hWB : W.heap.size ≤ B) (hB : B ≤ w.heap.size)
    (h : ∀ v' w', KO W w' B l v' (rows ++ news) → wpList Try.prog ops Q rest (a.put o.dst v') w') : wpList Try.prog ops Q (o :: rest) a w :=
  wpList_plain hgd fun _ hK => oper_append_ko ho hs hx hko hsrc hlen hWB hB fun v' w' hk => hK _ _ (h v' w' hk)

theorem OwnR.mono {w : World} {B B' : Nat} {v : Value} {l : List Rw} (h : OwnR w B v l) (hb : B' ≤ B) : OwnR w B' v l := World.ownsRow.mono h hb

/-- What the region leaves that makes a block with rows of its own in a new box. -/
def MidBox (id : Int) (n : Nat) (rows : List Rw) (w wx : World) (B : Nat) (L : List (Addr × Value)) (s : Value) : Prop :=
  ∃ (g : Nat) (ao : Option Addr) (cap : Nat), s = .pointer (some ⟨g, 0, none⟩) ∧ B ≤ g ∧ Kept w wx ((⟨g, 0, none⟩, .int .i64 id) :: (⟨g, 1, none⟩, .slice ao n cap) :: L) ∧ OwnR wx B (.slice ao n cap) rows
theorem MidBox.cast {id : Int} {n m B : Nat} {rows : List Rw} {w wx : World} {L : List (Addr × Value)} {s : Value} (h : MidBox id n rows w wx B L s) (hn : n = m) : MidBox id m rows w wx B L s := by subst hn; exact h
theorem midBox_alloc {id : Int} {n cap B : Nat} {ao : Option Addr} {rows : List Rw} {w wc w3 : World} {L l3 : List (Addr × Value)} {t : TypeId} (K1 : Kept w wc L) (hB : B ≤ wc.heap.size) (h : KO wc w3 wc.heap.size l3 (.slice ao n cap) rows) (N : Nat) (hN : w3.heap.size = N) :
    MidBox id n rows w (w3.alloc (.cells #[.int .i64 id, .slice ao n cap] t)) B L (.pointer (some ⟨N, 0, none⟩)) :=
  ⟨N, ao, cap, rfl, by have := h.1.1.size; omega, (K1.step h.1.1).alloc2 _ _ _ _ hN, (h.2.1.alloc _).mono hB⟩
theorem midBox_set {id : Int} {n cap B : Nat} {ao : Option Addr} {rows : List Rw} {w wc w3 : World} {L l3 : List (Addr × Value)} (K1 : Kept w wc L) (hB : B ≤ wc.heap.size) (h : KO wc w3 wc.heap.size l3 (.slice ao n cap) rows) (H : Nat) (u0 u1 : Value)
    (m0 : ((⟨H, 0, none⟩ : Addr), u0) ∈ l3) (m1 : ((⟨H, 1, none⟩ : Addr), u1) ∈ l3) (hH : wc.heap.size ≤ H) :
    MidBox id n rows w ((w3.setCell ⟨H, 0, none⟩ (.int .i64 id)).setCell ⟨H, 1, none⟩ (.slice ao n cap)) B L (.pointer (some ⟨H, 0, none⟩)) := by
  have K2 := ((K1.step h.1.1).cons (h.1.2 _ m1).1 (h.1.2 _ m1).2.1 (h.1.2 _ m1).2.2).cons (h.1.2 _ m0).1 (h.1.2 _ m0).2.1 (h.1.2 _ m0).2.2
  refine ⟨H, ao, cap, rfl, by omega, Kept.set2 K2 _ _ (Nat.le_trans K1.1.size hH) (fun c hc => Nat.lt_of_lt_of_le (K1.2 c hc).1 hH), ?_⟩
  have ne : Value.ownBlock (.slice ao n cap) ≠ some H := h.2.2 _ m0
  exact OwnR.mono (ownsRow_setCell_other (ownsRow_setCell_other h.2.1 (a := ⟨H, 0, none⟩) ne _) (a := ⟨H, 1, none⟩) ne _) hB

end Go.Proofs.Ytcfcohnkkgickaa
