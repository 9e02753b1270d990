/-
  Slices of rows that the call itself made: what they own as a list of rows; append of rows to them.
-/
import Derived.Test.YtcfcohnkkgickaaRows
import Derived.Test.YtcfcohnkkgickaaRwsOwn
import Derived.WalkKit
import Derived.WalkSpells
import Derived.WalkLawsBesides
import Derived.Laws.OwnMore
import Derived.OwnWalk
namespace Go.Proofs.Ytcfcohnkkgickaa
open Go.RowKit Num

/-- A row's cells, the cells of rows. -/
def rc (r : Rw) : List Value := [.int .i64 r.i, .int .i64 r.g, .int .i64 r.y, .int .i64 r.x, .bool r.nl]
def rcells : List Rw → List Value
  | [] => []
  | r :: l => rc r ++ rcells l
theorem rcells_len : ∀ l : List Rw, (rcells l).length = l.length * 5
  | [] => rfl
  | r :: l => by show (rc r ++ rcells l).length = _; rw [List.length_append, rcells_len l]; simp [rc]; omega
theorem rcells_append : ∀ l m : List Rw, rcells (l ++ m) = rcells l ++ rcells m
  | [], m => rfl
  | r :: l, m => by show rc r ++ rcells (l ++ m) = (rc r ++ rcells l) ++ rcells m; rw [rcells_append l m, List.append_assoc]
theorem rcells_one : ∀ l : List Rw, ∀ u ∈ rcells l, u.oneCell' = true
  | [], u, h => by cases h
  | r :: l, u, h => by
    rcases List.mem_append.1 (show u ∈ rc r ++ rcells l from h) with h | h
    · simp only [rc, List.mem_cons, List.not_mem_nil, or_false] at h
      rcases h with rfl | rfl | rfl | rfl | rfl <;> rfl
    · exact rcells_one l u h
theorem rcells_at : ∀ (l : List Rw) (k j : Nat) (hk : k < l.length), j < 5 → (rcells l)[k * 5 + j]? = (rc l[k])[j]?
  | r :: l, 0, j, _, hj => by
    show (rc r ++ rcells l)[0 * 5 + j]? = _
    rw [List.getElem?_append_left (by simp [rc]; omega)]
    simp
  | r :: l, k + 1, j, hk, hj => by
    show (rc r ++ rcells l)[(k + 1) * 5 + j]? = _
    rw [List.getElem?_append_right (by simp [rc]; omega)]
    have e : (k + 1) * 5 + j - (rc r).length = k * 5 + j := by simp [rc]; omega
    rw [e, rcells_at l k j (by simpa using hk) hj]
    simp

/-- The slice v owns the rows l among the blocks from B on. -/
def OwnR (w : World) (B : Nat) (v : Value) (l : List Rw) : Prop := w.ownsRow B 36 5 v l.length (rcells l)

theorem OwnR.nil (w : World) (B : Nat) : OwnR w B (.slice none 0 0) [] := ⟨rfl, .inl ⟨rfl, rfl⟩⟩
theorem OwnR.lit (w : World) (B : Nat) (hB : B ≤ w.heap.size) : OwnR (w.alloc (.cells #[] 36)) B (.slice (some ⟨w.heap.size, 0, none⟩) 0 0) [] :=
  World.ownsRow_lit w #[] 0 hB (by decide) rfl

/-- An owned row that is not empty, written out. -/
theorem OwnR.form {w : World} {B : Nat} {v : Value} {l : List Rw} (h : OwnR w B v l) (hn : 0 < l.length) :
    ∃ g cap, v = .slice (some ⟨g, 0, none⟩) l.length cap ∧ B ≤ g ∧ g < w.heap.size ∧ l.length ≤ cap ∧ ∀ k (hk : k < l.length), RowIn w g k l[k] := by
  have h0 := h
  rcases h.2 with ⟨_, hz⟩ | ⟨g, cap, cur, rfl, hb, hg, hnc, _, _, _⟩
  · omega
  · refine ⟨g, cap, rfl, hb, (World.ownsRow.lt h0 g rfl).2, hnc, fun k hk => ?_⟩
    have at5 : ∀ j (hj : j < 5) (u : Value), (rc l[k])[j]? = some u → w.cell? ⟨g, k * 5 + j, none⟩ = some u := fun j hj u hu => by
      rw [World.ownsRow.cellAt h0 (k * 5 + j) (by omega), rcells_at l k j hk hj, hu]
    exact ⟨at5 0 (by omega) _ rfl, at5 1 (by omega) _ rfl, at5 2 (by omega) _ rfl, at5 3 (by omega) _ rfl, at5 4 (by omega) _ rfl⟩

/-- Rows that lie in block g from number k on: their cells in a row. -/
theorem cells_of_rows {w : World} {g : Nat} : ∀ (l : List Rw) (k : Nat), (∀ i (hi : i < l.length), RowIn w g (k + i) l[i]) → ∀ j u, (rcells l)[j]? = some u → w.cell? ⟨g, k * 5 + j, none⟩ = some u
  | [], _, _, j, u, hu => by simp [rcells] at hu
  | r :: l, k, h, j, u, hu => by
    obtain ⟨r0, r1, r2, r3, r4⟩ := h 0 (by simp)
    by_cases hj : j < 5
    · have hu' : (rc r ++ rcells l)[j]? = some u := hu
      rw [List.getElem?_append_left (by simp [rc]; omega)] at hu'
      match j, hj with
      | 0, _ => simp [rc] at hu'; subst hu'; exact r0
      | 1, _ => simp [rc] at hu'; subst hu'; exact r1
      | 2, _ => simp [rc] at hu'; subst hu'; exact r2
      | 3, _ => simp [rc] at hu'; subst hu'; exact r3
      | 4, _ => simp [rc] at hu'; subst hu'; exact r4
    · have hu' : (rc r ++ rcells l)[j]? = some u := hu
      rw [List.getElem?_append_right (by simp [rc]; omega)] at hu'
      have e : j - (rc r).length = j - 5 := by simp [rc]
      rw [e] at hu'
      have ih := cells_of_rows l (k + 1) (fun i hi => by
        have := h (i + 1) (by simpa using hi)
        rw [show k + (i + 1) = k + 1 + i by omega] at this
        simpa using this) (j - 5) u hu'
      rw [show (k + 1) * 5 + (j - 5) = k * 5 + j by omega] at ih
      exact ih

/-- 'append(out, l[a:b]...)': rows that stand at ad. -/
theorem wpList_append_rows {ops : Array Oper} {rest : List Oper} {o : Oper} {a : Act} {Q : Exit → Act → World → Prop} {W w : World} (hgd : o.guard = none) (s x : Operand)
    (ho : o.op = .call { callee := .builtin .append, args := #[s, x], argTypes := #[57, 57] })
    (B : Nat) (v : Value) (l news : List Rw) (hs : a.eval s = v) (hown : OwnR w B v l) (ad : Addr) (m c : Nat) (hm : m = news.length)
    (hx : a.eval x = .slice (some ad) m c) (hnews : ∀ j u, (rcells news)[j]? = some u → w.cell? (ad.add j) = some u) (hlen : (l.length + news.length) * 40 ≤ 140737488355328) (hB : B ≤ w.heap.size) (hbel : Below B W w)
    (h : ∀ v' w', OwnR w' B v' (l ++ news) → Below B W w' → wpList Try.prog ops Q rest (a.put o.dst v') w') : wpList Try.prog ops Q (o :: rest) a w := by
  obtain ⟨i0, hi, hx0⟩ := Option.map_eq_some_iff.1 Try.infoRow
  simp only [Prod.mk.injEq] at hx0
  obtain ⟨hz0, hz1, hz2⟩ := hx0
  subst hm
  have hlt : ∀ k, v.ownBlock = some k → B ≤ k := fun k hk => (World.ownsRow.lt hown k hk).1
  refine wpList_append_own _ hgd s x 57 ho B 36 i0 _ 5 40 Try.underlying57 hi hz0 hz1 hz2 rfl (by decide) v l.length (rcells l) hs hown
    ad news.length c (rcells news) hx (rcells_len news) hnews (rcells_one news) (by unfold maxLen; omega) (by omega) hB ?_
  intro v' w' h1 h2 _
  refine h v' w' ?_ (hbel.grown h2 hB hlt)
  unfold OwnR
  rw [List.length_append, rcells_append]
  exact h1
end Go.Proofs.Ytcfcohnkkgickaa
