/-
  The project's cells: arrays of twelve ints, by value and in a variable.
-/
import Derived.Test.YtcfcohnkkgickaaRows
import Derived.Test.YtcfcohnkkgickaaHgPlain
import Derived.Test.YtcfcohnkkgickaaIntStep
namespace Go.Proofs.Ytcfcohnkkgickaa
open Go.RowKit Num

/-- The cells as a value. -/
def cv (l : List Int) : Array Value := (l.map fun x => Value.int .i64 x).toArray
theorem cv_size (l : List Int) : (cv l).size = l.length := by simp [cv]
theorem list12 {l : List Int} (h : l.length = 12) : ∃ a b c d e f g i j k m n, l = [a, b, c, d, e, f, g, i, j, k, m, n] := by
  match l, h with
  | [a, b, c, d, e, f, g, i, j, k, m, n], _ => exact ⟨a, b, c, d, e, f, g, i, j, k, m, n, rfl⟩
theorem cells_alloc {W w : World} (hb : Below W.heap.size W w) (l : List Int) (t : TypeId) (N : Nat) (hN : w.heap.size = N) : Cells W (w.alloc (.cells (cv l) t)) N l := by
  subst hN
  refine ⟨hb.alloc hb.size _, hb.size, ⟨by simp, fun j hj => ⟨⟨.int .i64 l[j], ?_⟩, ?_⟩⟩, fun k hk => ?_⟩
  · rw [World.cell?_alloc_at _ _ _ _ rfl]; simp [cv, hj]
  · simp
  · rw [World.cell?_alloc_at _ _ _ _ rfl]; simp [cv, hk]
/-- The first k held to their limits. -/
def limTo (k : Nat) (l : List Int) : List Int := (limL l).take k ++ l.drop k
theorem limTo_len {k : Nat} {l : List Int} (hk : k ≤ l.length) : (limTo k l).length = l.length := by
  unfold limTo; rw [List.length_append, List.length_take, limL_len, List.length_drop]; omega
theorem limTo_set {k : Nat} {l : List Int} (hk : k < l.length) : (limTo k l).set k (lim1 l[k]) = limTo (k + 1) l := by
  unfold limTo
  have h1 : ((limL l).take k).length = k := by rw [List.length_take, limL_len]; omega
  rw [List.set_append_right _ _ (by omega), h1, Nat.sub_self, List.drop_eq_getElem_cons hk, List.set_cons_zero, ← List.take_append_getElem (by rw [limL_len]; exact hk : k < (limL l).length), limL_at hk, List.append_assoc]
  rfl
theorem limTo_zero (l : List Int) : limTo 0 l = l := by simp [limTo]
theorem limTo_all {l : List Int} {k : Nat} (hk : l.length ≤ k) : limTo k l = limL l := by
  unfold limTo; rw [List.take_of_length_le (by rw [limL_len]; exact hk), List.drop_of_length_le hk, List.append_nil]
/-- The first k added. -/
def addTo (k : Nat) (a b : List Int) : List Int := (addC a b).take k ++ a.drop k
theorem addTo_set {k : Nat} {a b : List Int} (hl : a.length = b.length) (hk : k < a.length) : (addTo k a b).set k (a[k] + b[k]'(by omega)) = addTo (k + 1) a b := by
  unfold addTo
  have h0 := addC_len hl
  have h1 : ((addC a b).take k).length = k := by rw [List.length_take]; omega
  rw [List.set_append_right _ _ (by omega), h1, Nat.sub_self, List.drop_eq_getElem_cons hk, List.set_cons_zero, ← List.take_append_getElem (by omega : k < (addC a b).length), addC_at hk (by omega), List.append_assoc]
  rfl
theorem addTo_len {k : Nat} {a b : List Int} (hl : a.length = b.length) (hk : k ≤ a.length) : (addTo k a b).length = a.length := by
  unfold addTo; rw [List.length_append, List.length_take, addC_len hl, List.length_drop]; omega
theorem addTo_at {k : Nat} {a b : List Int} (hl : a.length = b.length) (hk : k < a.length) : (addTo k a b).getD k 0 = a[k] := by
  unfold addTo
  have h1 : ((addC a b).take k).length = k := by rw [List.length_take, addC_len hl]; omega
  rw [List.getD_eq_getElem?_getD, List.getElem?_append_right (by omega), h1, Nat.sub_self, List.getElem?_drop, Nat.add_zero, List.getElem?_eq_getElem hk, Option.getD_some]
theorem addTo_zero (a b : List Int) : addTo 0 a b = a := by simp [addTo]
theorem addTo_all {a b : List Int} {k : Nat} (hl : a.length = b.length) (hk : a.length ≤ k) : addTo k a b = addC a b := by
  unfold addTo; rw [List.take_of_length_le (by rw [addC_len hl]; exact hk), List.drop_of_length_le hk, List.append_nil]
theorem getD_at {l : List Int} {k : Nat} (hk : k < l.length) : l.getD k 0 = l[k] := by rw [List.getD_eq_getElem?_getD, List.getElem?_eq_getElem hk, Option.getD_some]

/-- Reading a cell out of the value. -/
theorem idx_cells {l : List Int} (hl : l.length = 12) : ∀ k : Nat, k < 12 → ∀ w : World, (Instr.index 126 (.agg (cv l)) (.int .i64 (k : Int))).run Try.prog w = .ok (.int .i64 (l.getD k 0)) w := by
  obtain ⟨a, b, c, d, e, f, g, i, j, k', m, n, rfl⟩ := list12 hl
  have i0 : ∀ w : World, (Instr.index 126 (.agg (cv [a, b, c, d, e, f, g, i, j, k', m, n])) (.int .i64 0)).run Try.prog w = .ok (.int .i64 a) w := fun _ => by kernel_rfl
  have i1 : ∀ w : World, (Instr.index 126 (.agg (cv [a, b, c, d, e, f, g, i, j, k', m, n])) (.int .i64 1)).run Try.prog w = .ok (.int .i64 b) w := fun _ => by kernel_rfl
  have i2 : ∀ w : World, (Instr.index 126 (.agg (cv [a, b, c, d, e, f, g, i, j, k', m, n])) (.int .i64 2)).run Try.prog w = .ok (.int .i64 c) w := fun _ => by kernel_rfl
  have i3 : ∀ w : World, (Instr.index 126 (.agg (cv [a, b, c, d, e, f, g, i, j, k', m, n])) (.int .i64 3)).run Try.prog w = .ok (.int .i64 d) w := fun _ => by kernel_rfl
  have i4 : ∀ w : World, (Instr.index 126 (.agg (cv [a, b, c, d, e, f, g, i, j, k', m, n])) (.int .i64 4)).run Try.prog w = .ok (.int .i64 e) w := fun _ => by kernel_rfl
  have i5 : ∀ w : World, (Instr.index 126 (.agg (cv [a, b, c, d, e, f, g, i, j, k', m, n])) (.int .i64 5)).run Try.prog w = .ok (.int .i64 f) w := fun _ => by kernel_rfl
  have i6 : ∀ w : World, (Instr.index 126 (.agg (cv [a, b, c, d, e, f, g, i, j, k', m, n])) (.int .i64 6)).run Try.prog w = .ok (.int .i64 g) w := fun _ => by kernel_rfl
  have i7 : ∀ w : World, (Instr.index 126 (.agg (cv [a, b, c, d, e, f, g, i, j, k', m, n])) (.int .i64 7)).run Try.prog w = .ok (.int .i64 i) w := fun _ => by kernel_rfl
  have i8 : ∀ w : World, (Instr.index 126 (.agg (cv [a, b, c, d, e, f, g, i, j, k', m, n])) (.int .i64 8)).run Try.prog w = .ok (.int .i64 j) w := fun _ => by kernel_rfl
  have i9 : ∀ w : World, (Instr.index 126 (.agg (cv [a, b, c, d, e, f, g, i, j, k', m, n])) (.int .i64 9)).run Try.prog w = .ok (.int .i64 k') w := fun _ => by kernel_rfl
  have i10 : ∀ w : World, (Instr.index 126 (.agg (cv [a, b, c, d, e, f, g, i, j, k', m, n])) (.int .i64 10)).run Try.prog w = .ok (.int .i64 m) w := fun _ => by kernel_rfl
  have i11 : ∀ w : World, (Instr.index 126 (.agg (cv [a, b, c, d, e, f, g, i, j, k', m, n])) (.int .i64 11)).run Try.prog w = .ok (.int .i64 n) w := fun _ => by kernel_rfl
  intro k hk w
  have h12 : k = 0 ∨ k = 1 ∨ k = 2 ∨ k = 3 ∨ k = 4 ∨ k = 5 ∨ k = 6 ∨ k = 7 ∨ k = 8 ∨ k = 9 ∨ k = 10 ∨ k = 11 := by omega
  rcases h12 with rfl | rfl | rfl | rfl | rfl | rfl | rfl | rfl | rfl | rfl | rfl | rfl
  · exact i0 w
  · exact i1 w
  · exact i2 w
  · exact i3 w
  · exact i4 w
  · exact i5 w
  · exact i6 w
  · exact i7 w
  · exact i8 w
  · exact i9 w
  · exact i10 w
  · exact i11 w
end Go.Proofs.Ytcfcohnkkgickaa
