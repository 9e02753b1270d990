/-
  Plain mathematics of adding a row to a block and of removing one. No program is named here.
-/
import Derived.Test.YtndebdimjlfepaaBkPlain
import Derived.Test.YtndebdimjlfepaaRwRep
import Derived.Test.YtndebdimjlfepaaFdSpec
namespace Go.Proofs.Ytndebdimjlfepaa
open Go Num

theorem areB_iff (R : Nat → Rw) : ∀ n : Nat, areB R n = true ↔ (∀ k, k < n → (R k).ok = true) ∧ ∀ j k, j < k → k < n → (R j).i < (R k).i
  | 0 => ⟨fun _ => ⟨fun k hk => by omega, fun j k _ hk => by omega⟩, fun _ => rfl⟩
  | n + 1 => by
    have e : areB R (n + 1) = (areB R n && ((R n).ok && (decide (n = 0) || decide ((R (n - 1)).i < (R n).i)))) := rfl
    rw [e, Bool.and_eq_true, Bool.and_eq_true, areB_iff R n, Bool.or_eq_true, decide_eq_true_iff, decide_eq_true_iff]
    constructor
    · rintro ⟨⟨h1, h2⟩, h3, h4⟩
      refine ⟨fun k hk => ?_, fun j k hj hk => ?_⟩
      · by_cases hk' : k < n
        · exact h1 k hk'
        · obtain rfl : k = n := by omega
          exact h3
      · by_cases hk' : k < n
        · exact h2 j k hj hk'
        · obtain rfl : k = n := by omega
          have h5 : (R (k - 1)).i < (R k).i := h4.resolve_left (by omega)
          by_cases hj' : j = k - 1
          · rw [hj']; exact h5
          · exact Int.lt_trans (h2 j (k - 1) (by omega) (by omega)) h5
    · rintro ⟨h1, h2⟩
      refine ⟨⟨fun k hk => h1 k (by omega), fun j k hj hk => h2 j k hj (by omega)⟩, h1 n (by omega), ?_⟩
      by_cases h0 : n = 0
      · exact .inl h0
      · exact .inr (h2 (n - 1) n (by omega) (by omega))

/-- Whether ID and rows are a valid block. -/
def blkL (id : Int) (l : List Rw) : Bool := blkB id l.length (Rn l)
theorem blkL_lst (id : Int) (n : Nat) (R : Nat → Rw) : blkL id (lst n R) = blkB id n R := by
  unfold blkL blkB
  rw [lst_len, areB_congr n (fun k hk => Rn_lst hk)]

/-- How many rows at the head have a lower ID. -/
def posL (x : Int) : List Rw → Nat
  | [] => 0
  | r :: l => if r.i < x then posL x l + 1 else 0
theorem posL_le (x : Int) : ∀ l : List Rw, posL x l ≤ l.length
  | [] => Nat.le_refl _
  | r :: l => by
    unfold posL
    split
    · have := posL_le x l; simp only [List.length_cons]; omega
    · omega
theorem posL_low (x : Int) : ∀ (l : List Rw) (k : Nat), k < posL x l → (Rn l k).i < x
  | [], k, h => by simp [posL] at h
  | r :: l, k, h => by
    unfold posL at h
    split at h
    · next hr =>
      match k with
      | 0 => exact hr
      | k + 1 => exact posL_low x l k (by omega)
    · omega
theorem posL_high (x : Int) : ∀ (l : List Rw), posL x l < l.length → ¬ (Rn l (posL x l)).i < x
  | [], h => by simp at h
  | r :: l, h => by
    unfold posL at h ⊢
    split
    · next hr =>
      rw [if_pos hr] at h
      exact posL_high x l (by simpa using h)
    · next hr => exact hr
/-- What marks the place. -/
theorem posL_unique {x : Int} {l : List Rw} {k : Nat} (hk : k ≤ l.length) (h1 : ∀ j, j < k → (Rn l j).i < x) (h2 : k < l.length → ¬ (Rn l k).i < x) : k = posL x l := by
  rcases Nat.lt_trichotomy k (posL x l) with h | h | h
  · exact absurd (posL_low x l k h) (h2 (Nat.lt_of_lt_of_le h (posL_le x l)))
  · exact h
  · exact absurd (h1 _ h) (posL_high x l (by omega))

/-- The rows with r in its place. -/
def addL (l : List Rw) (r : Rw) : List Rw := l.take (posL r.i l) ++ ([r] ++ l.drop (posL r.i l))
theorem addL_len (l : List Rw) (r : Rw) : (addL l r).length = l.length + 1 := by
  have := posL_le r.i l
  unfold addL
  simp only [List.length_append, List.length_take, List.length_drop, List.length_cons, List.length_nil]
  omega
theorem addL_at (l : List Rw) (r : Rw) (k : Nat) : Rn (addL l r) k = if k < posL r.i l then Rn l k else if k = posL r.i l then r else Rn l (k - 1) := by
  have hp := posL_le r.i l
  have hlen : (l.take (posL r.i l)).length = posL r.i l := by rw [List.length_take]; omega
  unfold Rn addL
  rw [List.getD_eq_getElem?_getD, List.getD_eq_getElem?_getD, List.getD_eq_getElem?_getD]
  split
  · next h => rw [List.getElem?_append_left (by rw [hlen]; exact h), List.getElem?_take_of_lt h]
  · next h =>
    rw [List.getElem?_append_right (by rw [hlen]; omega), hlen]
    split
    · next h2 => rw [h2, Nat.sub_self]; rfl
    · next h2 =>
      rw [List.getElem?_append_right (by simp; omega), List.getElem?_drop]
      congr 2
      simp only [List.length_cons, List.length_nil]
      omega

/-- What AddRow answers. -/
def addOk (id : Int) (l : List Rw) (r : Rw) : Bool := blkL id l && blkL id (addL l r)
def addAns (id : Int) (l : List Rw) (r : Rw) : List Rw := if addOk id l r = true then addL l r else l

theorem blkL_of {id : Int} {l : List Rw} (h : blkL id l = true) : (1 ≤ id ∧ id ≤ 20) ∧ areB (Rn l) l.length = true ∧ l.length ≤ 6 := blkB_of h
theorem blkL_mk {id : Int} {l : List Rw} (h1 : 1 ≤ id ∧ id ≤ 20) (h2 : areB (Rn l) l.length = true) (h3 : l.length ≤ 6) : blkL id l = true := by
  unfold blkL blkB
  rw [decide_eq_true h1, h2, decide_eq_true h3]; rfl

/-- A row can be added where it is valid, there is room, and no row has its ID. -/
theorem addOk_iff {id : Int} {l : List Rw} {r : Rw} (hb : blkL id l = true) : addOk id l r = true ↔ r.ok = true ∧ l.length < 6 ∧ ∀ k, k < l.length → (Rn l k).i ≠ r.i := by
  obtain ⟨h1, h2, h3⟩ := blkL_of hb
  obtain ⟨a1, a2⟩ := (areB_iff (Rn l) l.length).1 h2
  have hp := posL_le r.i l
  have hlow := posL_low r.i l
  have hhigh := posL_high r.i l
  have hat := addL_at l r
  have hlen := addL_len l r
  unfold addOk
  rw [hb, Bool.true_and]
  generalize posL r.i l = p at hp hlow hhigh hat
  constructor
  · intro h
    obtain ⟨_, g2, g3⟩ := blkL_of h
    obtain ⟨c1, c2⟩ := (areB_iff (Rn (addL l r)) (addL l r).length).1 g2
    rw [hlen] at c1 c2 g3
    have er : Rn (addL l r) p = r := by rw [hat, if_neg (by omega), if_pos rfl]
    refine ⟨by rw [← er]; exact c1 p (by omega), by omega, fun k hk => ?_⟩
    by_cases h5 : k < p
    · have := hlow k h5; omega
    · have := c2 p (k + 1) (by omega) (by omega)
      rw [er, hat (k + 1), if_neg (by omega), if_neg (by omega)] at this
      simp only [Nat.add_sub_cancel] at this
      omega
  · rintro ⟨g1, g2, g3⟩
    refine blkL_mk h1 ?_ (by omega)
    rw [areB_iff, hlen]
    refine ⟨fun k hk => ?_, fun j k hj hk => ?_⟩
    · rw [hat]
      split
      · exact a1 k (by omega)
      · split
        · exact g1
        · exact a1 (k - 1) (by omega)
    · rw [hat, hat]
      by_cases hjp : j < p
      · rw [if_pos hjp]
        by_cases hkp : k < p
        · rw [if_pos hkp]; exact a2 j k hj (by omega)
        · rw [if_neg hkp]
          by_cases hke : k = p
          · rw [if_pos hke]; exact hlow j hjp
          · rw [if_neg hke]; exact a2 j (k - 1) (by omega) (by omega)
      · rw [if_neg hjp, if_neg (show ¬ k < p by omega), if_neg (show ¬ k = p by omega)]
        by_cases hje : j = p
        · rw [if_pos hje]
          have hpl : p < l.length := by omega
          have hp2 : r.i < (Rn l p).i := by have := hhigh hpl; have := g3 p hpl; omega
          by_cases hkk : k - 1 = p
          · rw [hkk]; exact hp2
          · exact Int.lt_trans hp2 (a2 p (k - 1) (by omega) (by omega))
        · rw [if_neg hje]; exact a2 (j - 1) (k - 1) (by omega) (by omega)

/-- What RemoveRow answers. -/
def RemAns (id : Int) (l : List Rw) (x : Int) (l' : List Rw) (ok : Bool) : Prop :=
  (ok = true ∧ blkL id l = true ∧ ∃ k : Nat, FdAns (Rn l) x l.length (k : Int) ∧ l' = l.take k ++ l.drop (k + 1)) ∨ (ok = false ∧ l' = l ∧ (blkL id l = false ∨ FdAns (Rn l) x l.length (-1)))
theorem RemAns_unique {id x : Int} {l l1 l2 : List Rw} {a b : Bool} (h : RemAns id l x l1 a) (h' : RemAns id l x l2 b) : l1 = l2 ∧ a = b := by
  rcases h with ⟨rfl, h, k, hk, rfl⟩ | ⟨rfl, rfl, h⟩ <;> rcases h' with ⟨rfl, h', k', hk', rfl⟩ | ⟨rfl, rfl, h'⟩
  · have := FdAns_unique hk hk'
    obtain rfl : k = k' := by omega
    exact ⟨rfl, rfl⟩
  · rcases h' with h' | h'
    · rw [h] at h'; cases h'
    · have := FdAns_unique hk h'; omega
  · rcases h with h | h
    · rw [h'] at h; cases h
    · have := FdAns_unique hk' h; omega
  · exact ⟨rfl, rfl⟩
end Go.Proofs.Ytndebdimjlfepaa
