/-
  Rows as lists: what slices of rows stand for; the walks over the laws' marking and reading of rows.
-/
import Derived.Test.YtcfcohnkkgickaaRows
import Derived.Test.YtcfcohnkkgickaaRep
import Derived.Test.YtcfcohnkkgickaaArSpec
import Derived.Test.YtcfcohnkkgickaaRwsApp
import Derived.WalkKit
import Derived.WalkSpells
import Derived.WalkLawsBesides
import Derived.IntWalk
import Derived.Lib.Hide
namespace Go.Proofs.Ytcfcohnkkgickaa
open Go.RowKit Num

def rowTy : Ty Rw where
  size := 5
  rep := fun _ cs r fp => cs = rc r ∧ fp = []
  len := fun h => by rw [h.1]; rfl
  lt := fun h k hk => by rw [h.2] at hk; cases hk
  keep := fun h _ => h

/-- Rows as a function. -/
def Rn (l : List Rw) : Nat → Rw := fun k => l.getD k ⟨0, 0, 0, 0, false⟩
theorem Rn_at {l : List Rw} {k : Nat} (hk : k < l.length) : Rn l k = l[k] := by unfold Rn; rw [List.getD_eq_getElem?_getD, List.getElem?_eq_getElem hk]; rfl

theorem rowIn_of_cells {w : World} {g k : Nat} {r : Rw} (h : CellsAt w g (k * 5) (rc r)) : RowIn w g k r :=
  ⟨h 0 (by simp [rc]), h 1 (by simp [rc]), h 2 (by simp [rc]), h 3 (by simp [rc]), h 4 (by simp [rc])⟩
theorem cells_of_rowIn {w : World} {g k : Nat} {r : Rw} (h : RowIn w g k r) : CellsAt w g (k * 5) (rc r) := by
  obtain ⟨h0, h1, h2, h3, h4⟩ := h
  intro j hj
  match j, hj with
  | 0, _ => exact h0
  | 1, _ => exact h1
  | 2, _ => exact h2
  | 3, _ => exact h3
  | 4, _ => exact h4
  | j + 5, hj => exact absurd (show j + 5 < 5 from hj) (by omega)

/-- A slice of rows, opened. -/
theorem rows_open {w : World} {v : Value} {l : List Rw} {fp : List Nat} (h : SliceRep rowTy w v l fp) : ∃ ao cap, v = .slice ao l.length cap ∧ l.length ≤ cap ∧ RowsVal w ao l.length (Rn l) := by
  rcases h with ⟨rfl, _, rfl | ⟨ad, cap, rfl⟩⟩ | ⟨g, cap, f, rfl, hc, ho, he, _⟩
  · exact ⟨_, _, rfl, Nat.zero_le _, .inl rfl⟩
  · exact ⟨_, _, rfl, Nat.zero_le _, .inl rfl⟩
  · refine ⟨_, cap, rfl, hc, .inr ⟨g, rfl, ho.1, fun k hk => ?_⟩⟩
    obtain ⟨cs, f', hc, ⟨rfl, _⟩, _⟩ := he.get k hk
    rw [Rn_at hk]
    rw [Nat.zero_add] at hc
    exact rowIn_of_cells hc

theorem rows_shut {w : World} {g cap : Nat} {l : List Rw} (hc : l.length ≤ cap) (ho : OwnBlk w g (l.length * 5)) (hr : ∀ k (hk : k < l.length), RowIn w g k l[k]) : SliceRep rowTy w (.slice (some ⟨g, 0, none⟩) l.length cap) l [g] :=
  .inr ⟨g, cap, [], rfl, hc, ho, Elems.flat (E := rowTy) (C := rc) (fun _ => ⟨rfl, rfl⟩) (fun i hi => by rw [Nat.zero_add]; exact cells_of_rowIn (hr i hi)), rfl⟩

/-- Rows that a call owns. -/
theorem OwnR.rep {w : World} {B : Nat} {v : Value} {l : List Rw} (h : OwnR w B v l) : ∃ fp, SliceRep rowTy w v l fp ∧ (∀ k ∈ fp, B ≤ k) ∧ fp.Nodup := by
  by_cases hn : l.length = 0
  · have hl := List.eq_nil_of_length_eq_zero hn
    subst hl
    rcases h.2 with ⟨rfl, _⟩ | ⟨g, cap, cur, rfl, _⟩
    · exact ⟨[], .inl ⟨rfl, rfl, .inl rfl⟩, (fun k hk => by cases hk), List.nodup_nil⟩
    · exact ⟨[], .inl ⟨rfl, rfl, .inr ⟨_, cap, rfl⟩⟩, (fun k hk => by cases hk), List.nodup_nil⟩
  · obtain ⟨g, cap, rfl, hb, hg, hc, hr⟩ := h.form (by omega)
    refine ⟨[g], rows_shut hc ⟨hg, fun j hj => ⟨?_, World.ownsRow.frozenAt h j⟩⟩ hr, (fun k hk => by simp at hk; omega), by simp⟩
    rw [World.ownsRow.cellAt h j hj]
    exact ⟨_, List.getElem?_eq_getElem (by rw [rcells_len]; exact hj)⟩

/-- The first n rows of R as a list. -/
def lst (n : Nat) (R : Nat → Rw) : List Rw := (List.range n).map R
theorem lst_len (n : Nat) (R : Nat → Rw) : (lst n R).length = n := by unfold lst; simp
theorem lst_at (n : Nat) (R : Nat → Rw) (k : Nat) (hk : k < (lst n R).length) : (lst n R)[k] = R k := by
  have h : ∀ hk' : k < ((List.range n).map R).length, ((List.range n).map R)[k] = R k := fun hk' => by rw [List.getElem_map, List.getElem_range]
  exact h hk
theorem Rn_lst {n : Nat} {R : Nat → Rw} {k : Nat} (hk : k < n) : Rn (lst n R) k = R k := by rw [Rn_at (by rw [lst_len]; exact hk), lst_at]
theorem lst_Rn (l : List Rw) : lst l.length (Rn l) = l := by
  apply List.ext_getElem
  · rw [lst_len]
  · intro k h1 h2
    rw [lst_at, Rn_at h2]

theorem RowsTo.rep {W w : World} {g n cap : Nat} {R : Nat → Rw} (h : RowsTo W w g n n R) (hc : n ≤ cap) : SliceRep rowTy w (.slice (some ⟨g, 0, none⟩) n cap) (lst n R) [g] := by
  have := rows_shut (w := w) (g := g) (cap := cap) (l := lst n R) (by rw [lst_len]; exact hc) (by rw [lst_len]; exact ⟨h.2.2.1, h.2.2.2.1⟩) (fun k hk => by rw [lst_at]; exact h.2.2.2.2 k (by rwa [lst_len] at hk))
  rwa [lst_len] at this

/-- The row that the laws write as number i, from k on. -/
def markRw (k : Int) : Rw := ⟨k, k + 1, k + 1 + 1, k + 1 + 1 + 1, ((k + 1 + 1 + 1 + 1) % 3 == 0)⟩
def markAt (k : Int) (i : Nat) : Rw := markRw (k + 5 * i)

/-- The first k rows of block g are marked; nothing else has changed since W. -/
def MarkTo (W w : World) (g n k : Nat) (R : Nat → Rw) : Prop := Chg [g] W w ∧ OwnBlk w g (n * 5) ∧ ∀ m, m < k → RowIn w g m (R m)
theorem MarkTo.set {W w : World} {g n k : Nat} {R : Nat → Rw} (h : MarkTo W w g n k R) (o : Nat) (u : Value) (ho : k * 5 ≤ o) : MarkTo W (w.setCell ⟨g, o, none⟩ u) g n k R := by
  obtain ⟨h1, h2, h3⟩ := h
  refine ⟨h1.set (by simp) u, h2.set _ u, fun m hm => ?_⟩
  obtain ⟨r0, r1, r2, r3, r4⟩ := h3 m hm
  have oth : ∀ j, j < k * 5 → (w.setCell ⟨g, o, none⟩ u).cell? ⟨g, j, none⟩ = w.cell? ⟨g, j, none⟩ := fun j hj => World.cell?_setCell_other (w := w) (a := ⟨g, o, none⟩) (b := ⟨g, j, none⟩) (v := u) (fun e => by simp only [Addr.mk.injEq, true_and, and_true] at e; omega)
  exact ⟨by rw [oth _ (by omega)]; exact r0, by rw [oth _ (by omega)]; exact r1, by rw [oth _ (by omega)]; exact r2, by rw [oth _ (by omega)]; exact r3, by rw [oth _ (by omega)]; exact r4⟩
theorem MarkTo.put {W w : World} {g n k : Nat} {R : Nat → Rw} (h : MarkTo W w g n k R) (hk : k < n) :
    MarkTo W (((((w.setCell ⟨g, k * 5, none⟩ (.int .i64 (R k).i)).setCell ⟨g, k * 5 + 1, none⟩ (.int .i64 (R k).g)).setCell ⟨g, k * 5 + 2, none⟩ (.int .i64 (R k).y)).setCell ⟨g, k * 5 + 3, none⟩ (.int .i64 (R k).x)).setCell ⟨g, k * 5 + 4, none⟩ (.bool (R k).nl)) g n (k + 1) R := by
  have hs := ((((h.set (k * 5) (.int .i64 (R k).i) (by omega)).set (k * 5 + 1) (.int .i64 (R k).g) (by omega)).set (k * 5 + 2) (.int .i64 (R k).y) (by omega)).set (k * 5 + 3) (.int .i64 (R k).x) (by omega)).set (k * 5 + 4) (.bool (R k).nl) (by omega)
  refine ⟨hs.1, hs.2.1, fun m hm => ?_⟩
  by_cases e : m < k
  · exact hs.2.2 m e
  · obtain rfl : m = k := by omega
    have a1 := h.set (m * 5) (.int .i64 (R m).i) (by omega)
    have a2 := a1.set (m * 5 + 1) (.int .i64 (R m).g) (by omega)
    have a3 := a2.set (m * 5 + 2) (.int .i64 (R m).y) (by omega)
    have a4 := a3.set (m * 5 + 3) (.int .i64 (R m).x) (by omega)
    refine ⟨?_, ?_, ?_, ?_, ?_⟩
    · rw [set_other (by omega), set_other (by omega), set_other (by omega), set_other (by omega)]
      exact set_same (h.2.1.2 _ (by omega)).1
    · rw [set_other (by omega), set_other (by omega), set_other (by omega)]
      exact set_same (a1.2.1.2 _ (by omega)).1
    · rw [set_other (by omega), set_other (by omega)]
      exact set_same (a2.2.1.2 _ (by omega)).1
    · rw [set_other (by omega)]
      exact set_same (a3.2.1.2 _ (by omega)).1
    · exact set_same (a4.2.1.2 _ (by omega)).1
end Go.Proofs.Ytcfcohnkkgickaa
