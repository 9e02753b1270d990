/-
  What is appended to rows: a slice of rows, or a part of one; the step of a region that draws its order; a block's result.
-/
import Derived.Test.YtcfcohnkkgickaaRows
import Derived.Test.YtcfcohnkkgickaaRwRep
import Derived.Laws.AppendOwnNone
namespace Go.Proofs.Ytcfcohnkkgickaa
open Go.RowKit Num

/-- The value x is a slice that reads as the rows l. -/
def SrcR (w : World) (x : Value) (l : List Rw) : Prop := (l = [] ∧ x = .slice none 0 0) ∨ ∃ ad c, x = .slice (some ad) l.length c ∧ ∀ j u, (rcells l)[j]? = some u → w.cell? (ad.add j) = some u

theorem addr_own (g o j : Nat) : (⟨g, o, none⟩ : Addr).add j = ⟨g, o + j, none⟩ := by unfold Addr.add; simp

theorem SrcR.part {w : World} {g c : Nat} {l : List Rw} {o m : Nat} (h : ∀ i, i < l.length → RowIn w g i (Rn l i)) (hm : o + m ≤ l.length) : SrcR w (.slice (some ⟨g, o * 5, none⟩) m c) ((l.drop o).take m) := by
  have hlen : ((l.drop o).take m).length = m := by rw [List.length_take, List.length_drop]; omega
  refine .inr ⟨⟨g, o * 5, none⟩, c, by rw [hlen], fun j u hu => ?_⟩
  rw [addr_own]
  refine cells_of_rows ((l.drop o).take m) o (fun i hi => ?_) j u hu
  rw [hlen] at hi
  have := h (o + i) (by omega)
  rw [Rn_at (by omega)] at this
  simpa using this
theorem SrcR.rep {w : World} {v : Value} {l : List Rw} {fp : List Nat} (h : SliceRep rowTy w v l fp) : SrcR w v l := by
  have h0 := h
  rcases h with ⟨rfl, _, rfl | ⟨ad, cap, rfl⟩⟩ | ⟨g, cap, f, rfl, _⟩
  · exact .inl ⟨rfl, rfl⟩
  · exact .inr ⟨⟨ad, 0, none⟩, cap, rfl, fun j u hu => by simp [rcells] at hu⟩
  · obtain ⟨ao, cap', e, _, hV⟩ := rows_open h0
    rcases hV with h | ⟨g', rfl, _, hR⟩
    · obtain rfl := List.eq_nil_of_length_eq_zero h
      exact .inr ⟨_, _, rfl, fun j u hu => by simp [rcells] at hu⟩
    · simp only [Value.slice.injEq, Option.some.injEq, Addr.mk.injEq, and_true, true_and] at e
      obtain ⟨rfl, rfl⟩ := e
      have := SrcR.part (c := cap) (o := 0) (m := l.length) hR (by omega)
      rwa [List.drop_zero, List.take_length, Nat.zero_mul] at this
theorem SrcR.keep {w w' : World} {x : Value} {l : List Rw} (h : SrcR w x l) (hb : Below w.heap.size w w') : SrcR w' x l := by
  rcases h with h | ⟨ad, c, hx, hr⟩
  · exact .inl h
  · exact .inr ⟨ad, c, hx, fun j u hu => by rw [hb.cell (World.block_lt_of_cell? w _ (hr j u hu))]; exact hr j u hu⟩

/-- One row in a new block. -/
theorem SrcR.one {w : World} {g c : Nat} {r : Rw} (h : RowIn w g 0 r) : SrcR w (.slice (some ⟨g, 0, none⟩) 1 c) [r] := by
  have := SrcR.part (w := w) (g := g) (c := c) (l := [r]) (o := 0) (m := 1) (fun i hi => by
    obtain rfl : i = 0 := by simpa using hi
    exact h) (by simp)
  simpa using this

theorem SrcR.cells {w : World} {g c : Nat} {r : Rw} (h0 : w.cell? ⟨g, 0, none⟩ = some (.int .i64 r.i)) (h1 : w.cell? ⟨g, 1, none⟩ = some (.int .i64 r.g)) (h2 : w.cell? ⟨g, 2, none⟩ = some (.int .i64 r.y)) (h3 : w.cell? ⟨g, 3, none⟩ = some (.int .i64 r.x)) (h4 : w.cell? ⟨g, 4, none⟩ = some (.bool r.nl)) : SrcR w (.slice (some ⟨g, 0, none⟩) 1 c) [r] :=
  SrcR.one ⟨by simpa using h0, by simpa using h1, by simpa using h2, by simpa using h3, by simpa using h4⟩

/-- 'append(out, x...)' as a step of a region that draws its order. -/
theorem step_append_rows {ops : Array Oper} {o : Oper} {a : Act} {K : Act → World → Prop} {Q : Exit → Act → World → Prop} {E : Prop} {W w : World} (hgd : o.guard = none) (s x : Operand)
    (ho : o.op = .call { callee := .builtin .append, args := #[s, x], argTypes := #[57, 57] })
    (B : Nat) (v xv : Value) (l news : List Rw) (hs : a.eval s = v) (hx : a.eval x = xv) (hown : OwnR w B v l) (hsrc : SrcR w xv news) (hlen : (l.length + news.length) * 40 ≤ 140737488355328) (hB : B ≤ w.heap.size) (hbel : Below B W w)
    (h : ∀ v' w', OwnR w' B v' (l ++ news) → Below B W w' → K (a.put o.dst v') w') :
    if Region.wanted o (yielded ops a.tmps) = true then Oper.wp Try.prog o a w K Q else E := by
  have hw : Region.wanted o (yielded ops a.tmps) = true := by simp [Region.wanted, hgd]
  rw [if_pos hw]
  obtain ⟨i0, hi, hx0⟩ := Option.map_eq_some_iff.1 Try.infoRow
  simp only [Prod.mk.injEq] at hx0
  obtain ⟨hz0, hz1, hz2⟩ := hx0
  have hlt : ∀ k, v.ownBlock = some k → B ≤ k := fun k hk => (World.ownsRow.lt hown k hk).1
  rcases hsrc with ⟨rfl, rfl⟩ | ⟨ad, c, rfl, hnews⟩
  · have hrun := run_append_owned_none (P := Try.prog) (w := w) B 57 o.type 36 i0 5 Try.underlying57 hi v l.length (rcells l) hown
    unfold Oper.wp
    simp [execOp, ho, resolve, invoke, builtin, hs, hx, hrun, Result.andThen]
    exact h v w (by rw [List.append_nil]; exact hown) hbel
  · refine wp_append_own w s x 57 ho B 36 i0 _ 5 40 Try.underlying57 hi hz0 hz1 hz2 rfl (by decide) v l.length (rcells l) hs hown
      ad news.length c (rcells news) hx (rcells_len news) hnews (rcells_one news) (by unfold maxLen; omega) (by omega) hB ?_
    intro v' w' h1 h2 _
    refine h v' w' ?_ (hbel.grown h2 hB hlt)
    unfold OwnR
    rw [List.length_append, rcells_append]
    exact h1

theorem OwnR.shape {w : World} {B : Nat} {v : Value} {l : List Rw} (h : OwnR w B v l) : ∃ ao cap, v = .slice ao l.length cap := by
  rcases h.2 with ⟨rfl, h0⟩ | ⟨g, cap, cur, rfl, _⟩
  · exact ⟨_, _, by rw [h0]⟩
  · exact ⟨_, _, rfl⟩
theorem OwnR.lit_at {w : World} {B N : Nat} (hN : w.heap.size = N) (hB : B ≤ N) : OwnR (w.alloc (.cells #[] 36)) B (.slice (some ⟨N, 0, none⟩) 0 0) [] := by
  subst hN; exact OwnR.lit w B hB

theorem OwnR.setb {w : World} {B : Nat} {v : Value} {l : List Rw} (h : OwnR w B v l) {a : Addr} (ha : a.block < B) (u : Value) : OwnR (w.setCell a u) B v l := ownsRow_setCell_below h ha u

/-! What a region keeps: two loaded cells. -/
theorem c2c {W w w' : World} {a0 a1 : Addr} {v0 v1 : Value} {l : List (Addr × Value)} (h : Kept W w ((a0, v0) :: (a1, v1) :: l)) (hb : Below w.heap.size w w') : w'.cell? a0 = some v0 ∧ w'.cell? a1 = some v1 :=
  have k := h.step hb
  ⟨k.get 0 rfl, k.get 1 rfl⟩
theorem c2c_alloc {w : World} {a0 a1 : Addr} {v0 v1 : Value} {o : Obj} (q : w.cell? a0 = some v0 ∧ w.cell? a1 = some v1) : (w.alloc o).cell? a0 = some v0 ∧ (w.alloc o).cell? a1 = some v1 :=
  ⟨cell_alloc_some o q.1, cell_alloc_some o q.2⟩
theorem c2c_set2 {w : World} {a0 a1 : Addr} {v0 v1 x y : Value} {g : Nat} (q : w.cell? a0 = some v0 ∧ w.cell? a1 = some v1) (h0 : a0.block ≠ g) (h1 : a1.block ≠ g) : ((w.setCell ⟨g, 0, none⟩ x).setCell ⟨g, 1, none⟩ y).cell? a0 = some v0 ∧ ((w.setCell ⟨g, 0, none⟩ x).setCell ⟨g, 1, none⟩ y).cell? a1 = some v1 :=
  ⟨cell_set2_some x y q.1 h0, cell_set2_some x y q.2 h1⟩

/-- What AddRow, RemoveRow and the like leave: a block with rows of its own. -/
def BlkRes (id : Int) (l : List Rw) (ok : Bool) (w : World) (e : Ending) (w' : World) : Prop :=
  ∃ v fp, e = .returned (.tuple #[.agg #[.int .i64 id, v], .bool ok]) ∧ SliceRep rowTy w' v l fp ∧ (∀ k ∈ fp, w.heap.size ≤ k) ∧ fp.Nodup ∧ Below w.heap.size w w'
end Go.Proofs.Ytcfcohnkkgickaa
