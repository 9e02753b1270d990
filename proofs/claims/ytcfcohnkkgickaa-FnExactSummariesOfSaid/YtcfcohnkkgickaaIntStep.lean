/-
  An append to ints of a call's own as a step of a drawn region; a store into an own int.
-/
import Derived.Test.YtcfcohnkkgickaaRows
import Derived.Test.YtcfcohnkkgickaaIntOwn
import Derived.Test.YtcfcohnkkgickaaRwsOwn
namespace Go.Proofs.Ytcfcohnkkgickaa
open Go.RowKit Num

theorem step_append_ki {ops : Array Oper} {o : Oper} {a : Act} {K : Act → World → Prop} {Q : Exit → Act → World → Prop} {E : Prop} {W w : World} (hgd : o.guard = none) (s x : Operand)
    (ho : o.op = .call { callee := .builtin .append, args := #[s, x], argTypes := #[45, 45] })
    (B : Nat) (v : Value) (L : List (Addr × Value)) (l : List Int) (y : Int) (N c : Nat) (hs : a.eval s = v) (hx : a.eval x = .slice (some ⟨N, 0, none⟩) 1 c) (hko : KI W w B L v l)
    (hc0 : w.cell? ⟨N, 0, none⟩ = some (.int .i64 y)) (hlen : l.length + 1 ≤ 1099511627776) (hWB : W.heap.size ≤ B) (hB : B ≤ w.heap.size)
    (h : ∀ v' w', KI W w' B L v' (l ++ [y]) → K (a.put o.dst v') w') : if Region.wanted o (yielded ops a.tmps) = true then Oper.wp Try.prog o a w K Q else E := by
  have hw : Region.wanted o (yielded ops a.tmps) = true := by simp [Region.wanted, hgd]
  rw [if_pos hw]
  obtain ⟨i0, hi, hx0⟩ := Option.map_eq_some_iff.1 Try.infoInt
  simp only [Prod.mk.injEq] at hx0
  obtain ⟨hz0, hz1, hz2⟩ := hx0
  obtain ⟨hk, hown, hap⟩ := hko
  obtain ⟨v', w', hr, h2, h3, _, h5⟩ := run_append_own_at (P := Try.prog) w B 45 o.type 3 i0 (.int .i64 0) 1 8 Try.underlying45 hi hz0 hz1 hz2 rfl (by decide) v l.length (icells l) hown ⟨N, 0, none⟩ 1 c [.int .i64 y] rfl (fun j u hj => by
    match j, hj with
    | 0, hj => simp only [List.getElem?_cons_zero, Option.some.injEq] at hj; subst hj; exact hc0
    | j + 1, hj => simp at hj) (fun u hu => by
    simp only [List.mem_cons, List.not_mem_nil, or_false] at hu
    subst hu; rfl) (by unfold maxLen; omega) (by omega) hB
  unfold Oper.wp
  simp [execOp, ho, resolve, invoke, builtin, hs, hx, hr, Result.andThen]
  have hlt := World.ownsRow.lt hown
  refine h v' w' ⟨kept_grown hk h3 (fun k e => Nat.le_trans hWB (hlt k e).1) (fun p hp => hap p hp), ?_, fun p hp e => ?_⟩
  · show w'.ownsRow B 3 1 v' (l ++ [y]).length (icells (l ++ [y]))
    rw [List.length_append, icells_append]
    exact h2
  · rcases h5 with h5 | h5
    · rw [h5] at e; exact hap p hp e
    · rw [h5] at e
      simp only [Option.some.injEq] at e
      have := (hk.2 p hp).1
      omega

/-- Cells of a call's own: block g holds the ints l; nothing older than W has changed. -/
def Cells (W w : World) (g : Nat) (l : List Int) : Prop := Below W.heap.size W w ∧ W.heap.size ≤ g ∧ OwnBlk w g l.length ∧ ∀ k (hk : k < l.length), w.cell? ⟨g, k, none⟩ = some (.int .i64 l[k])
theorem Cells.step {W w w' : World} {g : Nat} {l : List Int} (h : Cells W w g l) (hb : Below w.heap.size w w') : Cells W w' g l := by
  obtain ⟨h1, h2, h3, h4⟩ := h
  exact ⟨h1.trans (hb.mono h1.size), h2, h3.keep (hb.block g h3.1), fun k hk => by rw [hb.cell (p := ⟨g, k, none⟩) h3.1]; exact h4 k hk⟩
theorem Cells.put {W w : World} {g : Nat} {l : List Int} (h : Cells W w g l) {k : Nat} (hk : k < l.length) (x : Int) : Cells W (w.setCell ⟨g, k, none⟩ (.int .i64 x)) g (l.set k x) := by
  obtain ⟨h1, h2, h3, h4⟩ := h
  refine ⟨h1.setCell h2 _, h2, by rw [List.length_set]; exact h3.set _ _, fun j hj => ?_⟩
  rw [List.length_set] at hj
  by_cases e : j = k
  · subst e
    rw [List.getElem_set_self]
    exact set_same (h3.2 j hk).1
  · rw [set_other (by omega), List.getElem_set_ne (by omega)]
    exact h4 j hj
theorem Cells.other {W w : World} {g : Nat} {l : List Int} {a : Addr} (h : Cells W w g l) (ha : a.block ≠ g) (hW : W.heap.size ≤ a.block) (u : Value) : Cells W (w.setCell a u) g l := by
  obtain ⟨h1, h2, h3, h4⟩ := h
  refine ⟨h1.setCell hW u, h2, h3.set _ _, fun k hk => ?_⟩
  rw [World.cell?_setCell_other (w := w) (a := a) (b := ⟨g, k, none⟩) (v := u) (fun e => ha (by rw [e]))]
  exact h4 k hk
theorem Cells.rep {W w : World} {g cap : Nat} {l : List Int} (h : Cells W w g l) (hc : l.length ≤ cap) : SliceRep intTy w (.slice (some ⟨g, 0, none⟩) l.length cap) l [g] := ints_shut hc h.2.2.1 h.2.2.2
theorem Cells.at {W w : World} {g : Nat} {l : List Int} (h : Cells W w g l) {k : Nat} (hk : k < l.length) : w.cell? ⟨g, k, none⟩ = some (.int .i64 (l.getD k 0)) ∧ w.frozen? ⟨g, k, none⟩ = false := by
  refine ⟨?_, (h.2.2.1.2 k hk).2⟩
  rw [List.getD_eq_getElem?_getD, List.getElem?_eq_getElem hk, Option.getD_some]
  exact h.2.2.2 k hk
/-- What a function leaves that hands back ints of its own. -/
def IntsPost (l : List Int) (w : World) (e : Ending) (w' : World) : Prop := ∃ v, e = .returned v ∧ OwnI w' w.heap.size v l ∧ Below w.heap.size w w'
/-- The same, by what the slice holds. -/
def IntsOut (l : List Int) (w : World) (e : Ending) (w' : World) : Prop := ∃ v fp, e = .returned v ∧ SliceRep intTy w' v l fp ∧ fp.Nodup ∧ (∀ k ∈ fp, w.heap.size ≤ k) ∧ Below w.heap.size w w'
/-- The same beside a bool. -/
def IntsOk (l : List Int) (b : Bool) (w : World) (e : Ending) (w' : World) : Prop := ∃ v fp, e = .returned (.tuple #[v, .bool b]) ∧ SliceRep intTy w' v l fp ∧ fp.Nodup ∧ (∀ k ∈ fp, w.heap.size ≤ k) ∧ Below w.heap.size w w'
end Go.Proofs.Ytcfcohnkkgickaa
