/-
  Slices of ints: what they stand for; slices that a call itself made, grown by append.
-/
import Derived.Test.YtcfcohnkkgickaaRows
import Derived.Test.YtcfcohnkkgickaaRep
import Derived.Test.YtcfcohnkkgickaaInv
import Derived.Test.YtcfcohnkkgickaaKo
import Derived.Maps.AppendAt
import Derived.WalkKit
import Derived.WalkSpells
import Derived.WalkLawsBesides
import Derived.Laws.OwnMore
import Derived.OwnWalk
import Derived.IntWalk
import Derived.Lib.Hide
namespace Go.Proofs.Ytcfcohnkkgickaa
open Go.RowKit Num

def intTy : Ty Int where
  size := 1
  rep := fun _ cs x fp => cs = [.int .i64 x] ∧ fp = []
  len := fun h => by rw [h.1]; rfl
  lt := fun h k hk => by rw [h.2] at hk; cases hk
  keep := fun h _ => h
def icells (l : List Int) : List Value := l.map fun x => Value.int .i64 x
theorem icells_len (l : List Int) : (icells l).length = l.length := by simp [icells]
theorem icells_append (l m : List Int) : icells (l ++ m) = icells l ++ icells m := by simp [icells]
theorem Try.infoInt : (Try.prog.info? 3).map (fun i => (i.zero, i.size, i.bytes)) = some (some (.int .i64 0), 1, 8) := by kernel_rfl

/-- A slice of ints, to be read. -/
def IntsVal (w : World) (ao : Option Addr) (l : List Int) : Prop := l.length = 0 ∨ ∃ g, ao = some ⟨g, 0, none⟩ ∧ g < w.heap.size ∧ ∀ k (hk : k < l.length), w.cell? ⟨g, k, none⟩ = some (.int .i64 l[k])
theorem IntsVal.below {w w' : World} {ao : Option Addr} {l : List Int} (h : IntsVal w ao l) (hb : Below w.heap.size w w') : IntsVal w' ao l := by
  rcases h with h | ⟨g, e, hg, h⟩
  · exact .inl h
  · exact .inr ⟨g, e, Nat.lt_of_lt_of_le hg hb.size, fun k hk => by rw [hb.cell (p := ⟨g, k, none⟩) hg]; exact h k hk⟩
theorem ints_open {w : World} {v : Value} {l : List Int} {fp : List Nat} (h : SliceRep intTy w v l fp) : ∃ ao cap, v = .slice ao l.length cap ∧ l.length ≤ cap ∧ IntsVal w ao l := by
  rcases h with ⟨rfl, _, rfl | ⟨ad, cap, rfl⟩⟩ | ⟨g, cap, f, rfl, hc, ho, he, _⟩
  · exact ⟨_, _, rfl, Nat.zero_le _, .inl rfl⟩
  · exact ⟨_, _, rfl, Nat.zero_le _, .inl rfl⟩
  · refine ⟨_, cap, rfl, hc, .inr ⟨g, rfl, ho.1, fun k hk => ?_⟩⟩
    obtain ⟨cs, f', hc, ⟨rfl, _⟩, _⟩ := he.get k hk
    have h0 := hc 0 (by simp)
    rw [Nat.zero_add] at h0
    rw [show (⟨g, k, none⟩ : Addr) = ⟨g, k * intTy.size + 0, none⟩ by show _ = (⟨g, k * 1 + 0, none⟩ : Addr); rw [Nat.mul_one, Nat.add_zero]]
    exact h0
theorem ints_shut {w : World} {g cap : Nat} {l : List Int} (hc : l.length ≤ cap) (ho : OwnBlk w g l.length) (hr : ∀ k (hk : k < l.length), w.cell? ⟨g, k, none⟩ = some (.int .i64 l[k])) : SliceRep intTy w (.slice (some ⟨g, 0, none⟩) l.length cap) l [g] :=
  .inr ⟨g, cap, [], rfl, hc, by show OwnBlk w g (l.length * 1); rw [Nat.mul_one]; exact ho, Elems.flat (E := intTy) (C := fun x => [.int .i64 x]) (fun _ => ⟨rfl, rfl⟩) (fun i hi j hj => by
    match j, hj with
    | 0, _ =>
      rw [show (⟨g, (0 + i) * intTy.size + 0, none⟩ : Addr) = ⟨g, i, none⟩ by show (⟨g, (0 + i) * 1 + 0, none⟩ : Addr) = _; rw [Nat.zero_add, Nat.mul_one, Nat.add_zero]]
      exact hr i hi
    | j + 1, hj => exact absurd (show j + 1 < 1 from hj) (by omega)), rfl⟩

/-- The slice v owns the ints l among the blocks from B on. -/
def OwnI (w : World) (B : Nat) (v : Value) (l : List Int) : Prop := w.ownsRow B 3 1 v l.length (icells l)
theorem OwnI.nil (w : World) (B : Nat) : OwnI w B (.slice none 0 0) [] := ⟨rfl, .inl ⟨rfl, rfl⟩⟩
theorem OwnI.lit_at {w : World} {B N : Nat} (hN : w.heap.size = N) (hB : B ≤ N) : OwnI (w.alloc (.cells #[] 3)) B (.slice (some ⟨N, 0, none⟩) 0 0) [] := by
  subst hN
  exact World.ownsRow_lit w #[] 0 hB (by decide) rfl
theorem OwnI.step {w w' : World} {B : Nat} {v : Value} {l : List Int} (h : OwnI w B v l) (hb : Below w.heap.size w w') : OwnI w' B v l :=
  World.ownsRow.kept h (row := none) ⟨hb.os, hb.tape, hb.output, hb.size, fun j hj _ => hb.block j hj⟩ (by cases v.ownBlock <;> simp)
theorem OwnI.mono {w : World} {B B' : Nat} {v : Value} {l : List Int} (h : OwnI w B v l) (hb : B' ≤ B) : OwnI w B' v l := World.ownsRow.mono h hb
theorem OwnI.lt {w : World} {B : Nat} {v : Value} {l : List Int} (h : OwnI w B v l) : ∀ k, v.ownBlock = some k → B ≤ k ∧ k < w.heap.size := World.ownsRow.lt h
theorem OwnI.shape {w : World} {B : Nat} {v : Value} {l : List Int} (h : OwnI w B v l) : ∃ ao cap, v = .slice ao l.length cap := by
  rcases h.2 with ⟨rfl, h0⟩ | ⟨g, cap, cur, rfl, _⟩
  · exact ⟨none, 0, by rw [h0]⟩
  · exact ⟨_, _, rfl⟩
theorem OwnI.setb {w : World} {B : Nat} {v : Value} {l : List Int} {a : Addr} (h : OwnI w B v l) (ha : a.block < B) (x : Value) : OwnI (w.setCell a x) B v l := by
  have hg : w.grownBy (w.setCell a x) (some a.block) := ⟨rfl, rfl, rfl, by simp, fun k hk hne => Below.heap_setCell _ _ _ _ (fun e => hne (by rw [e]))⟩
  refine World.ownsRow.kept h hg ?_
  cases hv : v.ownBlock with
  | none => exact .inl rfl
  | some k =>
    have := (World.ownsRow.lt h k hv).1
    exact .inr (fun e => by cases e; omega)
theorem OwnI.rep {w : World} {B : Nat} {v : Value} {l : List Int} (h : OwnI w B v l) : ∃ fp, SliceRep intTy w v l fp ∧ (∀ k ∈ fp, B ≤ k) ∧ fp.Nodup := by
  by_cases hn : l.length = 0
  · have hl := List.eq_nil_of_length_eq_zero hn
    subst hl
    rcases h.2 with ⟨rfl, _⟩ | ⟨g, cap, cur, rfl, _⟩
    · exact ⟨[], .inl ⟨rfl, rfl, .inl rfl⟩, (fun k hk => by cases hk), List.nodup_nil⟩
    · exact ⟨[], .inl ⟨rfl, rfl, .inr ⟨_, cap, rfl⟩⟩, (fun k hk => by cases hk), List.nodup_nil⟩
  · have h0 := h
    rcases h.2 with ⟨_, h9⟩ | ⟨g, cap, cur, rfl, hb, hg, hc, _, _, _⟩
    · exact absurd h9 hn
    · have hgl := (World.ownsRow.lt h0 g rfl).2
      have at1 : ∀ k (hk : k < l.length), w.cell? ⟨g, k, none⟩ = some (.int .i64 l[k]) := fun k hk => by
        rw [World.ownsRow.cellAt h0 k (by omega)]
        simp [icells, hk]
      exact ⟨[g], ints_shut hc ⟨hgl, fun j hj => ⟨⟨_, at1 j hj⟩, World.ownsRow.frozenAt h0 j⟩⟩ at1, (fun k hk => by simp at hk; omega), by simp⟩

/-- Kept cells and an own slice of ints apart from them. -/
def KI (W w : World) (B : Nat) (L : List (Addr × Value)) (v : Value) (l : List Int) : Prop := Kept W w L ∧ OwnI w B v l ∧ ∀ p ∈ L, v.ownBlock ≠ some p.1.block
theorem KI.start0 {W X : World} {B : Nat} {L : List (Addr × Value)} (h : Kept W X L) : KI W X B L (.slice none 0 0) [] := ⟨h, OwnI.nil X B, fun p _ e => by cases e⟩
theorem KI.lit {W X : World} {B N : Nat} {L : List (Addr × Value)} (h : Kept W X L) (hN : X.heap.size = N) (hB : B ≤ N) : KI W (X.alloc (.cells #[] 3)) B L (.slice (some ⟨N, 0, none⟩) 0 0) [] :=
  ⟨h.step ((Below.refl _ _).alloc (Nat.le_refl _) _), OwnI.lit_at hN hB, fun p hp e => by have h1 := (h.2 p hp).1; simp only [Value.ownBlock, Option.some.injEq] at e; omega⟩
theorem KI.step {W w w' : World} {B : Nat} {L : List (Addr × Value)} {v : Value} {l : List Int} (h : KI W w B L v l) (hb : Below w.heap.size w w') : KI W w' B L v l := ⟨h.1.step hb, h.2.1.step hb, h.2.2⟩
theorem KI.sub {W w : World} {B : Nat} {L L' : List (Addr × Value)} {v : Value} {l : List Int} (h : KI W w B L v l) (hs : ∀ p ∈ L', p ∈ L) : KI W w B L' v l := ⟨h.1.sub hs, h.2.1, fun p hp => h.2.2 p (hs p hp)⟩
theorem KI.alloc2 {W X : World} {B : Nat} {L : List (Addr × Value)} {v : Value} {l : List Int} (h : KI W X B L v l) (x y : Value) (t : TypeId) (N : Nat) (hN : X.heap.size = N) :
    KI W (X.alloc (.cells #[x, y] t)) B ((⟨N, 0, none⟩, x) :: (⟨N, 1, none⟩, y) :: L) v l := by
  refine ⟨h.1.alloc2 x y t N hN, h.2.1.step ((Below.refl _ _).alloc (Nat.le_refl _) _), fun p hp => ?_⟩
  have h1 := h.2.1.lt
  simp only [List.mem_cons] at hp
  rcases hp with rfl | rfl | hp
  · exact fun e => by have := (h1 _ e).2; simp only at this; omega
  · exact fun e => by have := (h1 _ e).2; simp only at this; omega
  · exact h.2.2 p hp

/-- 'append(out, x)': the new int stands in a block of memory of its own. -/
theorem wpList_append_ki {ops : Array Oper} {rest : List Oper} {o : Oper} {a : Act} {Q : Exit → Act → World → Prop} {W w : World} (hgd : o.guard = none) (s x : Operand)
    (ho : o.op = .call { callee := .builtin .append, args := #[s, x], argTypes := #[45, 45] })
    (B : Nat) (v : Value) (L : List (Addr × Value)) (l : List Int) (y : Int) (hs : a.eval s = v) (hko : KI W w B L v l) (m c : Nat) (hm : m = 1)
    (hx : a.eval x = .slice (some ⟨w.heap.size, 0, none⟩) m c) (hlen : l.length + 1 ≤ 1099511627776) (hWB : W.heap.size ≤ B) (hB : B ≤ w.heap.size)
    (h : ∀ v' w', KI W w' B L v' (l ++ [y]) → wpList Try.prog ops Q rest (a.put o.dst v') w') : wpList Try.prog ops Q (o :: rest) a (w.alloc (.cells #[.int .i64 y] 3)) := by
  subst hm
  obtain ⟨i0, hi, hx0⟩ := Option.map_eq_some_iff.1 Try.infoInt
  simp only [Prod.mk.injEq] at hx0
  obtain ⟨hz0, hz1, hz2⟩ := hx0
  obtain ⟨hk, hown, hap⟩ := hko
  have hb1 : Below w.heap.size w (w.alloc (.cells #[.int .i64 y] 3)) := (Below.refl _ _).alloc (Nat.le_refl _) _
  refine wpList_append_own_at _ hgd s x 45 ho B 3 i0 (.int .i64 0) 1 8 Try.underlying45 hi hz0 hz1 hz2 rfl (by decide) v l.length (icells l) hs (World.ownsRow.alloc hown _)
    ⟨w.heap.size, 0, none⟩ 1 c [.int .i64 y] hx rfl (cell_one_new _ _ _) ?_ (by unfold maxLen; omega) (by omega) (by simp; omega) ?_
  · intro u hu
    simp only [List.mem_cons, List.not_mem_nil, or_false] at hu
    subst hu; rfl
  · intro v' w' h2 h3 _ h5
    have hlt := World.ownsRow.lt hown
    refine h v' w' ⟨kept_grown (hk.step hb1) h3 (fun k e => Nat.le_trans hWB (hlt k e).1) (fun p hp => hap p hp), ?_, fun p hp e => ?_⟩
    · show w'.ownsRow B 3 1 v' (l ++ [y]).length (icells (l ++ [y]))
      rw [List.length_append, icells_append]
      exact h2
    · rcases h5 with h5 | h5
      · rw [h5] at e; exact hap p hp e
      · rw [h5] at e
        simp only [Option.some.injEq, World.size_alloc] at e
        have := (hk.2 p hp).1
        omega
end Go.Proofs.Ytcfcohnkkgickaa
