/-
  Blocks deleted from a slice in its own place: what stands in memory meanwhile; the builtin clear.
-/
import Derived.Test.YtcfcohnkkgickaaRows
import Derived.Test.YtcfcohnkkgickaaMgB
import Derived.Deep.MidRow
import Derived.Laws.IdiomCopy
import Derived.Lib.SliceRun
namespace Go.Proofs.Ytcfcohnkkgickaa
open Go.RowKit Num

theorem Elems.setCells {α : Type} {E : Ty α} {g : Nat} {l : List α} {k : Nat} {f : List Nat} : ∀ (vs : List Value) (o : Nat) (w : World), Elems E w g k l f → (k + l.length) * E.size ≤ o → g ∉ f → Elems E (w.setCells g o vs) g k l f
  | [], _, _, h, _, _ => h
  | v :: r, o, w, h, ho, hg => Elems.setCells r (o + 1) (w.setCell ⟨g, o, none⟩ v) (h.set ho hg) (by omega) hg
theorem OwnBlk.setCells {g N : Nat} : ∀ (vs : List Value) (o : Nat) (w : World), OwnBlk w g N → OwnBlk (w.setCells g o vs) g N
  | [], _, _, h => h
  | v :: r, o, w, h => OwnBlk.setCells r (o + 1) _ (h.set _ v)
theorem Chg.setCells {fp : List Nat} {W : World} {g : Nat} (hg : g ∈ fp) : ∀ (vs : List Value) (o : Nat) (w : World), Chg fp W w → Chg fp W (w.setCells g o vs)
  | [], _, _, h => h
  | v :: r, o, w, h => Chg.setCells hg r (o + 1) _ (h.set hg v)

/-- Zero blocks. -/
def zBlks : Nat → List Value
  | 0 => []
  | n + 1 => .int .i64 0 :: .slice none 0 0 :: zBlks n
theorem zBlks_len : ∀ n, (zBlks n).length = n * 2
  | 0 => rfl
  | n + 1 => by show (zBlks n).length + 1 + 1 = _; rw [zBlks_len]; omega
theorem zBlks_at : ∀ (n j : Nat), j < n * 2 → (zBlks n)[j]? = some (if j % 2 = 0 then .int .i64 0 else .slice none 0 0)
  | n + 1, 0, _ => rfl
  | n + 1, 1, _ => rfl
  | n + 1, j + 2, h => by
    show (zBlks n)[j]? = _
    rw [zBlks_at n j (by omega)]
    simp
theorem zBlks_one : ∀ n, ∀ v ∈ zBlks n, v.oneCell' = true
  | 0, v, h => by cases h
  | n + 1, v, h => by
    rcases List.mem_cons.1 h with rfl | h
    · rfl
    · rcases List.mem_cons.1 h with rfl | h
      · rfl
      · exact zBlks_one n v h

/-- 'clear(s)' on a slice of blocks that is not empty. -/
theorem run_clear_blks (w : World) (ty : TypeId) (g o n c : Nat) (hn : 0 < n) (hz : ∀ w, (zeroValue 80).run Try.prog w = .ok (.agg #[.int .i64 0, .slice none 0 0]) w)
    (ht : ∀ j, j < n * 2 → (w.cell? ⟨g, o + j, none⟩).isSome = true ∧ w.frozen? ⟨g, o + j, none⟩ = false) :
    (Builtin.clear_ #[30] ty #[.slice (some ⟨g, o, none⟩) n c]).run Try.prog w = .ok (.tuple #[]) (w.setCells g o (zBlks n)) := by
  have hzc : (Builtin.zeroCells (Value.agg #[.int .i64 0, .slice none 0 0]).cells n).toList = zBlks n := by
    apply List.ext_getElem?
    intro j
    by_cases hj : j < n * 2
    · rw [zBlks_at n j hj]
      simp [Builtin.zeroCells, Value.cells, hj]
      rcases Nat.mod_two_eq_zero_or_one j with h | h
      · simp [h]
      · simp [h]
    · rw [List.getElem?_eq_none (l := zBlks n) (by rw [zBlks_len]; omega)]
      apply List.getElem?_eq_none
      simp [Builtin.zeroCells, Value.cells]
      omega
  have hst := run_storeCells_cells (P := Try.prog) g o (zBlks n) 0 w (fun j hj => by rw [zBlks_len] at hj; simpa using (ht j hj).1) (fun j hj => by rw [zBlks_len] at hj; simpa using (ht j hj).2) (zBlks_one n)
  simp only [Nat.add_zero] at hst
  obtain ⟨m, rfl⟩ : ∃ m, n = m + 1 := ⟨n - 1, by omega⟩
  simp [Builtin.clear_, run_underlying Try.underlying30, hz, hzc, hst]
theorem wpList_clear_blks {ops : Array Oper} {rest : List Oper} {o : Oper} {a : Act} {Q : Exit → Act → World → Prop} {w : World} (hgd : o.guard = none) (x : Operand)
    (ho : o.op = .call { callee := .builtin .clear, args := #[x], argTypes := #[30] }) (g o2 n c : Nat) (hx : a.eval x = .slice (some ⟨g, o2, none⟩) n c) (hn : 0 < n) (hz : ∀ w, (zeroValue 80).run Try.prog w = .ok (.agg #[.int .i64 0, .slice none 0 0]) w)
    (ht : ∀ j, j < n * 2 → (w.cell? ⟨g, o2 + j, none⟩).isSome = true ∧ w.frozen? ⟨g, o2 + j, none⟩ = false)
    (h : wpList Try.prog ops Q rest (a.put o.dst (.tuple #[])) (w.setCells g o2 (zBlks n))) : wpList Try.prog ops Q (o :: rest) a w := by
  refine wpList_plain hgd fun K hK => ?_
  have hr := run_clear_blks w o.type g o2 n c hn hz ht
  unfold Oper.wp execOp
  simp only [ho, resolve, invoke, builtin, Sem.run_bind, Sem.run_pure, Result.andThen_ok, List.map_toArray, List.map_cons, List.map_nil, hx, hr]
  exact hK _ _ h
end Go.Proofs.Ytcfcohnkkgickaa
