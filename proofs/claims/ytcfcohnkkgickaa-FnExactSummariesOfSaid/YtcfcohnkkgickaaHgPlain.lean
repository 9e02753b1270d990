/-
  Plain mathematics of histograms. No program is named here.
-/
import Derived.Test.YtcfcohnkkgickaaRows
import Derived.Test.YtcfcohnkkgickaaRvSpec
import Derived.Test.YtcfcohnkkgickaaRwRep
namespace Go.Proofs.Ytcfcohnkkgickaa
open Go Num

/-- The band of a value of Y. -/
def bandI (y : Int) : Int := if 0 ≤ y ∧ y ≤ 8 then y / 3 else -1
theorem bandI_in {y : Int} (h : 0 ≤ y ∧ y ≤ 8) : bandI y = y / 3 ∧ 0 ≤ bandI y ∧ bandI y ≤ 2 := by
  unfold bandI; rw [if_pos h]; omega
theorem bandI_out {y : Int} (h : ¬ (0 ≤ y ∧ y ≤ 8)) : bandI y = -1 := if_neg h

def hsum : List Int → Int
  | [] => 0
  | x :: l => x + hsum l
theorem hsum_append : ∀ l m : List Int, hsum (l ++ m) = hsum l + hsum m
  | [], m => by simp [hsum]
  | x :: l, m => by rw [List.cons_append, hsum, hsum, hsum_append l m]; omega
theorem hsum_take {l : List Int} {k : Nat} (hk : k < l.length) : hsum (l.take (k + 1)) = hsum (l.take k) + l[k] := by
  rw [← List.take_append_getElem hk, hsum_append]; simp [hsum]
theorem hsum_ge : ∀ {l : List Int}, (∀ x ∈ l, 0 ≤ x) → 0 ≤ hsum l
  | [], _ => Int.le_refl 0
  | x :: l, h => by
    have h1 := h x (by simp)
    have h2 := hsum_ge (l := l) fun y hy => h y (by simp [hy])
    rw [hsum]; omega
theorem hsum_le : ∀ {l : List Int} {c : Int}, (∀ x ∈ l, x ≤ c) → hsum l ≤ c * (l.length : Int)
  | [], _, _ => by simp [hsum]
  | x :: l, c, h => by
    have h1 := h x (by simp)
    have h2 := hsum_le (l := l) (c := c) fun y hy => h y (by simp [hy])
    rw [hsum, List.length_cons, show ((l.length + 1 : Nat) : Int) = (l.length : Int) + 1 by simp, Int.mul_add]; omega

/-- Cells within their limits. -/
def In99 (h : List Int) : Prop := ∀ x ∈ h, 0 ≤ x ∧ x ≤ 99
theorem In99.at {h : List Int} (hh : In99 h) {k : Nat} (hk : k < h.length) : 0 ≤ h[k] ∧ h[k] ≤ 99 := hh _ (List.getElem_mem hk)
theorem In99.take {h : List Int} (hh : In99 h) (k : Nat) : In99 (h.take k) := fun x hx => hh x (List.mem_of_mem_take hx)
theorem In99.snoc {h : List Int} {k : Nat} (hh : In99 (h.take k)) (hk : k < h.length) (hx : 0 ≤ h[k] ∧ h[k] ≤ 99) : In99 (h.take (k + 1)) := by
  rw [← List.take_append_getElem hk]
  intro x hx'
  rcases List.mem_append.1 hx' with hx' | hx'
  · exact hh x hx'
  · rw [List.mem_singleton] at hx'; subst hx'; exact hx
theorem In99.sum {h : List Int} (hh : In99 h) : 0 ≤ hsum h ∧ hsum h ≤ 99 * (h.length : Int) := ⟨hsum_ge fun x hx => (hh x hx).1, hsum_le fun x hx => (hh x hx).2⟩

/-- A valid histogram. -/
def HgOk (h : List Int) : Prop := h.length = 12 ∧ In99 h ∧ hsum h ≤ 99
noncomputable def hgB (h : List Int) : Bool := @decide (HgOk h) (Classical.propDecidable _)
theorem hgB_true {h : List Int} (hh : HgOk h) : hgB h = true := @decide_eq_true _ (Classical.propDecidable _) hh
theorem hgB_false {h : List Int} (hh : ¬ HgOk h) : hgB h = false := @decide_eq_false _ (Classical.propDecidable _) hh

/-- A cell held to its limits. -/
def lim1 (x : Int) : Int := min (max x 0) 99
def limL (h : List Int) : List Int := h.map lim1
theorem limL_len (h : List Int) : (limL h).length = h.length := by simp [limL]
theorem limL_at {h : List Int} {k : Nat} (hk : k < h.length) : (limL h)[k]'(by rw [limL_len]; exact hk) = lim1 h[k] := by simp [limL]
theorem lim1_iff (x : Int) : x = lim1 x ↔ 0 ≤ x ∧ x ≤ 99 := by unfold lim1; omega
theorem limL_iff : ∀ h : List Int, h = limL h ↔ In99 h
  | [] => ⟨fun _ x hx => (by cases hx), fun _ => rfl⟩
  | x :: l => by
    have ih := limL_iff l
    unfold limL at ih ⊢
    rw [List.map_cons, List.cons.injEq, lim1_iff, ih]
    constructor
    · rintro ⟨h1, h2⟩ y hy
      rcases List.mem_cons.1 hy with rfl | hy
      · exact h1
      · exact h2 y hy
    · exact fun h => ⟨h x (by simp), fun y hy => h y (by simp [hy])⟩

/-- The sums of the cells. -/
def addC (a b : List Int) : List Int := List.zipWith (· + ·) a b
theorem addC_len {a b : List Int} (h : a.length = b.length) : (addC a b).length = a.length := by simp [addC, h]
theorem addC_at {a b : List Int} {k : Nat} (ha : k < a.length) (hb : k < b.length) (h : k < (addC a b).length) : (addC a b)[k] = a[k] + b[k] := by simp [addC]
theorem addC_sum : ∀ {a b : List Int}, a.length = b.length → hsum (addC a b) = hsum a + hsum b
  | [], [], _ => rfl
  | x :: a, y :: b, h => by
    have := addC_sum (a := a) (b := b) (by simpa using h)
    unfold addC at this ⊢
    rw [List.zipWith_cons_cons, hsum, hsum, hsum, this]; omega
/-- What AddHistograms answers. -/
noncomputable def addOkH (a b : List Int) : Bool := @decide (HgOk a ∧ HgOk b ∧ HgOk (addC a b)) (Classical.propDecidable _)
noncomputable def addH (a b : List Int) : List Int := if addOkH a b = true then addC a b else []
/-- What CellOf answers. -/
noncomputable def cellH (h : List Int) (g b : Int) : Int := if hgB h = true ∧ (0 ≤ g ∧ g ≤ 3) ∧ (0 ≤ b ∧ b ≤ 2) then h.getD (g * 3 + b).toNat 0 else 0
/-- What TotalOf answers. -/
noncomputable def totH (h : List Int) : Int := if hgB h = true then hsum h else 0

/-- A row counted. -/
def cellIx (r : Rw) : Nat := (r.g * 3 + r.y / 3).toNat
def bumpH (h : List Int) (r : Rw) : List Int := if rowB r.i r.g r.y r.x r.nl = true then h.set (cellIx r) (h.getD (cellIx r) 0 + 1) else h
/-- The histogram of rows. -/
def histL (l : List Rw) : List Int := l.foldl bumpH (List.replicate 12 0)
theorem bumpH_len (h : List Int) (r : Rw) : (bumpH h r).length = h.length := by unfold bumpH; split <;> simp
theorem foldl_len : ∀ (l : List Rw) (h : List Int), (l.foldl bumpH h).length = h.length
  | [], _ => rfl
  | r :: l, h => by rw [List.foldl_cons, foldl_len l, bumpH_len]
theorem histL_len (l : List Rw) : (histL l).length = 12 := by unfold histL; rw [foldl_len]; rfl
theorem histL_nil : histL [] = List.replicate 12 0 := rfl
theorem histL_take {l : List Rw} {k : Nat} (hk : k < l.length) : histL (l.take (k + 1)) = bumpH (histL (l.take k)) l[k] := by
  rw [← List.take_append_getElem hk]
  unfold histL
  rw [List.foldl_append]; rfl
theorem cellIx_lt {r : Rw} (h : rowB r.i r.g r.y r.x r.nl = true) : cellIx r < 12 ∧ (cellIx r : Int) = r.g * 3 + r.y / 3 := by
  obtain ⟨_, h2, h3, _⟩ := rowB_of h
  unfold cellIx
  omega
theorem set_mem {h : List Int} {k : Nat} {x y : Int} (hy : y ∈ h.set k x) : y = x ∨ y ∈ h := by
  rcases List.mem_or_eq_of_mem_set hy with h | h
  · exact .inr h
  · exact .inl h
theorem bumpH_bound {h : List Int} {r : Rw} {c : Int} (hh : ∀ x ∈ h, 0 ≤ x ∧ x ≤ c) (hc : 0 ≤ c) : ∀ x ∈ bumpH h r, 0 ≤ x ∧ x ≤ c + 1 := by
  unfold bumpH
  split
  · intro x hx
    rcases set_mem hx with rfl | hx
    · by_cases hk : cellIx r < h.length
      · have := hh _ (List.getElem_mem hk)
        rw [List.getD_eq_getElem?_getD, List.getElem?_eq_getElem hk, Option.getD_some]; omega
      · rw [List.getD_eq_getElem?_getD, List.getElem?_eq_none (by omega), Option.getD_none]; omega
    · have := hh x hx; omega
  · intro x hx
    have := hh x hx; omega
theorem histL_bound (l : List Rw) : ∀ k, k ≤ l.length → ∀ x ∈ histL (l.take k), 0 ≤ x ∧ x ≤ (k : Int)
  | 0, _, x, hx => by
    rw [List.take_zero, histL_nil] at hx
    have := List.eq_of_mem_replicate hx
    omega
  | k + 1, hk, x, hx => by
    rw [histL_take (by omega)] at hx
    have := bumpH_bound (histL_bound l k (by omega)) (by omega) x hx
    omega
theorem hsum_set : ∀ {h : List Int} {k : Nat} {x : Int} (hk : k < h.length), hsum (h.set k x) = hsum h - h[k] + x
  | y :: h, 0, x, _ => by simp only [List.set_cons_zero, hsum, List.getElem_cons_zero]; omega
  | y :: h, k + 1, x, hk => by
    simp only [List.set_cons_succ, hsum, List.getElem_cons_succ]
    rw [hsum_set (h := h) (k := k) (x := x) (by simpa using hk)]; omega
/-- How many rows are valid. -/
def validN : List Rw → Int
  | [] => 0
  | r :: l => (if rowB r.i r.g r.y r.x r.nl = true then 1 else 0) + validN l
theorem validN_append : ∀ l m : List Rw, validN (l ++ m) = validN l + validN m
  | [], m => by simp [validN]
  | x :: l, m => by rw [List.cons_append, validN, validN, validN_append l m]; omega
theorem validN_take {l : List Rw} {k : Nat} (hk : k < l.length) : validN (l.take (k + 1)) = validN (l.take k) + (if rowB l[k].i l[k].g l[k].y l[k].x l[k].nl = true then 1 else 0) := by
  rw [← List.take_append_getElem hk, validN_append]; simp [validN]
theorem bumpH_sum {h : List Int} {r : Rw} (hl : h.length = 12) : hsum (bumpH h r) = hsum h + (if rowB r.i r.g r.y r.x r.nl = true then 1 else 0) := by
  unfold bumpH
  split
  · next hr =>
    have hk : cellIx r < h.length := by rw [hl]; exact (cellIx_lt hr).1
    rw [hsum_set hk, List.getD_eq_getElem?_getD, List.getElem?_eq_getElem hk, Option.getD_some]; omega
  · omega
theorem histL_sum (l : List Rw) : ∀ k, k ≤ l.length → hsum (histL (l.take k)) = validN (l.take k)
  | 0, _ => by rw [List.take_zero, histL_nil]; rfl
  | k + 1, hk => by
    rw [histL_take (by omega), bumpH_sum (histL_len _), histL_sum l k (by omega), validN_take (by omega)]
theorem validN_le : ∀ l : List Rw, 0 ≤ validN l ∧ validN l ≤ (l.length : Int)
  | [] => by simp [validN]
  | r :: l => by
    have := validN_le l
    rw [validN, List.length_cons]
    split <;> omega
end Go.Proofs.Ytcfcohnkkgickaa
