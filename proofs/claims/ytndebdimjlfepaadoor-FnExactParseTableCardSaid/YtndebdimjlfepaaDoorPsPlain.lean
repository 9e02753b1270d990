/-
  Plain mathematics of cutting a text at its first spaces, and of a block read from the pieces.
-/
import Derived.Test.YtndebdimjlfepaaDoorRows
import Derived.Test.YtndebdimjlfepaaDoorPbPlain
import Derived.Test.YtndebdimjlfepaaDoorRwRep
import Derived.Test.YtndebdimjlfepaaDoorPrCut
import Derived.Lib.Split
namespace Go.Proofs.YtndebdimjlfepaaDoor
open Go Num

theorem splitK_pieces (c : UInt8) : ∀ (k : Nat) (l : List UInt8), Lib.splitK [c] 0 k l = pieces c l ∨ (k + 1 < (pieces c l).length ∧ (Lib.splitK [c] 0 k l).length = k + 1 ∧ ∃ x, (Lib.splitK [c] 0 k l)[k]? = some x ∧ c ∈ x)
  | 0, l => by
    rcases index1 c l with ⟨_, h⟩ | ⟨a, b, rfl, ha, _⟩
    · left; rw [pieces_none c l h]; rfl
    · right
      refine ⟨?_, rfl, _, rfl, by simp⟩
      rw [pieces_cut c a b ha]
      have := (pieces_len c b).1
      simp only [List.length_cons]; omega
  | k + 1, l => by
    rcases index1 c l with ⟨hi, h⟩ | ⟨a, b, rfl, ha, hi⟩
    · left; rw [pieces_none c l h, Lib.splitK, hi]; rfl
    · have e : Lib.splitK [c] 0 (k + 1) (a ++ c :: b) = a :: Lib.splitK [c] 0 k b := by
        have e2 : a ++ c :: b = (a ++ [c]) ++ b := by simp
        rw [Lib.splitK, hi, if_neg (by rw [beq_iff_eq]; omega)]
        have e3 : ((a.length : Int)).toNat = a.length := by omega
        simp only [e3, List.length_singleton, Nat.add_zero]
        rw [List.take_left' rfl, e2, List.drop_left' (by simp)]
      rw [e, pieces_cut c a b ha]
      rcases splitK_pieces c k b with h | ⟨h1, h2, x, h3, h4⟩
      · left; rw [h]
      · right
        exact ⟨by simp only [List.length_cons]; omega, by simp only [List.length_cons]; omega, x, by simpa using h3, h4⟩

/-- The text cut at its first six separators. -/
def Cut7 (c : UInt8) (l : List UInt8) (W : List (List UInt8)) : Prop := W = pieces c l ∨ (7 < (pieces c l).length ∧ W.length = 7 ∧ ∃ x, W[6]? = some x ∧ c ∈ x)
theorem cut7_of (c : UInt8) (l : List UInt8) (k : Nat) (hk : k = min 7 (l.length + 1) - 1) : Cut7 c l (Lib.splitK [c] 0 k l) := by
  rcases splitK_pieces c k l with h | ⟨h1, h2, x, h3, h4⟩
  · exact .inl h
  · have hl := (pieces_len c l).2
    obtain rfl : k = 6 := by omega
    exact .inr ⟨h1, h2, x, h3, h4⟩
theorem cut7_len {c : UInt8} {l : List UInt8} {W : List (List UInt8)} (h : Cut7 c l W) : 1 ≤ W.length := by
  rcases h with rfl | ⟨_, h, _⟩
  · exact (pieces_len c l).1
  · omega

/-- What stands behind the mark. -/
def Mark (c : UInt8) (l d : List UInt8) (m : Bool) : Prop := (m = true ∧ l = c :: d) ∨ (m = false ∧ ∀ t, l ≠ c :: t)
theorem mark_of (c : UInt8) (l : List UInt8) : Mark c l (Lib.trimPrefix l [c]) (Lib.hasPrefix l [c]) := by
  unfold Lib.trimPrefix Lib.hasPrefix
  cases l with
  | nil => exact .inr ⟨rfl, fun t => by simp⟩
  | cons x t =>
    by_cases hx : x = c
    · subst hx
      exact .inl ⟨by simp [List.isPrefixOf], by simp [List.isPrefixOf]⟩
    · refine .inr ⟨?_, fun t' e => ?_⟩
      · simp [List.isPrefixOf]; exact fun e => hx e.symm
      · simp at e; exact hx e.1

theorem pieces_join (c : UInt8) : ∀ (l p0 : List UInt8) (ps : List (List UInt8)), pieces c l = p0 :: ps → l = p0 ++ (ps.map (fun p => c :: p)).flatten
  | [], p0, ps, h => by simp [pieces] at h; obtain ⟨rfl, rfl⟩ := h; rfl
  | x :: l, p0, ps, h => by
    rw [pieces] at h
    split at h
    · next hx =>
      subst hx
      simp only [List.cons.injEq] at h
      obtain ⟨rfl, rfl⟩ := h
      cases hq : pieces x l with
      | nil => have := (pieces_len x l).1; rw [hq] at this; simp at this
      | cons q r =>
        rw [pieces_join x l q r hq]
        simp
    · split at h
      · next hq => have := (pieces_len c l).1; rw [hq] at this; simp at this
      · next q r hq =>
        simp only [List.cons.injEq] at h
        obtain ⟨rfl, rfl⟩ := h
        rw [pieces_join c l q r hq]
        simp

theorem fmtRows_range (R : Nat → Rw) : ∀ n : Nat, fmtRows R n = ((List.range n).map fun k => 32 :: (R k).fmt).flatten
  | 0 => rfl
  | n + 1 => by
    rw [List.range_succ, List.map_append, List.flatten_append, ← fmtRows_range R n]
    show fmtRows R n ++ 32 :: (R n).fmt = _
    simp
theorem fmtRows_flat (R : Nat → Rw) (ps : List (List UInt8)) (h : ∀ k (hk : k < ps.length), ps[k] = (R k).fmt) : fmtRows R ps.length = (ps.map (fun p => 32 :: p)).flatten := by
  rw [fmtRows_range]
  congr 1
  apply List.ext_getElem
  · simp
  · intro k h1 h2
    have hk : k < ps.length := by simpa using h2
    simp only [List.getElem_map, List.getElem_range, h k hk]

/-- A block is read. -/
theorem pbk_yes {l p0 d : List UInt8} {ps : List (List UInt8)} {id : Int} {L : List Rw} (hp : pieces 32 l = p0 :: ps) (hm : Mark 35 p0 d true) (hi : PIans d id true) (hL : L.length = ps.length) (hr : ∀ k (hk : k < ps.length) (hk' : k < L.length), RdRow ps[k] L[k]) (hv : blkB id L.length (Rn L) = true) : PBlk l id L.length (Rn L) true := by
  refine .inl ⟨rfl, hv, ?_⟩
  obtain ⟨_, rfl⟩ | ⟨h, _⟩ := hm
  · rw [fmtB_yes hv, pieces_join 32 l _ ps hp, hL, fmtRows_flat (Rn L) ps (fun k hk => by
      have hk' : k < L.length := by omega
      have h := hr k hk hk'
      rw [Rn_at hk']
      rcases h with ⟨_, _, h⟩ | ⟨h, _⟩
      · exact h
      · cases h), PIans_eq hi]
    simp
  · cases h

theorem pbk_unmarked {l p0 d : List UInt8} {ps : List (List UInt8)} (hp : pieces 32 l = p0 :: ps) (hm : Mark 35 p0 d false) : ∀ id n R, blkB id n R = true → l ≠ fmtB id n R := fun id n R hv he => by
  rw [he, pieces_fmtB hv] at hp
  simp only [List.cons.injEq] at hp
  rcases hm with ⟨h, _⟩ | ⟨_, h⟩
  · cases h
  · exact h _ hp.1.symm
theorem pbk_badnum {l p0 d : List UInt8} {ps : List (List UInt8)} {n0 : Int} (hp : pieces 32 l = p0 :: ps) (hm : Mark 35 p0 d true) (hi : PIans d n0 false) : ∀ id n R, blkB id n R = true → l ≠ fmtB id n R := fun id n R hv he => by
  rw [he, pieces_fmtB hv] at hp
  simp only [List.cons.injEq] at hp
  obtain ⟨⟨i1, i2⟩, _, _⟩ := blkB_of hv
  rcases hm with ⟨_, h⟩ | ⟨h, _⟩
  · rw [h] at hp
    simp only [List.cons.injEq, true_and] at hp
    rw [← hp.1] at hi
    have := (PIans_at hi (by omega) (by omega)).1
    cases this
  · cases h
theorem pbk_many {l : List UInt8} (h : 7 < (pieces 32 l).length) : ∀ id n R, blkB id n R = true → l ≠ fmtB id n R := by
  cases hp : pieces 32 l with
  | nil => rw [hp] at h; simp at h
  | cons p0 ps => rw [hp] at h; exact pb_many hp (by simp only [List.length_cons] at h; omega)
theorem pbk_invalid {l p0 d : List UInt8} {ps : List (List UInt8)} {id : Int} {L : List Rw} (hp : pieces 32 l = p0 :: ps) (hm : Mark 35 p0 d true) (hi : PIans d id true) (hL : L.length = ps.length) (hr : ∀ k (hk : k < ps.length) (hk' : k < L.length), RdRow ps[k] L[k]) (hv : blkB id L.length (Rn L) = false) : ∀ id' n R', blkB id' n R' = true → l ≠ fmtB id' n R' := by
  obtain ⟨_, rfl⟩ | ⟨h, _⟩ := hm
  · refine pb_no hp (d := id) (Or.inl ⟨id, hi, rfl⟩) hL hr (R := Rn L) (fun k hk => Rn_at hk) ?_
    rw [fmtB_no hv]
    intro e
    rw [e] at hp
    simp [pieces] at hp
  · cases h

/-- A text with a space in it is no row. -/
theorem row_space {t : List UInt8} (h : (32 : UInt8) ∈ t) : PRow t 0 0 0 0 false false := PRow_no fun i g y x nl _ he => by
  rw [he] at h
  exact fmtR_space ⟨i, g, y, x, nl⟩ h

theorem splitK_mem_len (c : UInt8) : ∀ (k : Nat) (l x : List UInt8), x ∈ Lib.splitK [c] 0 k l → x.length ≤ l.length
  | 0, l, x, h => by
    rw [Lib.splitK, List.mem_singleton] at h
    rw [h]; exact Nat.le_refl _
  | k + 1, l, x, h => by
    rw [Lib.splitK] at h
    split at h
    · rw [List.mem_singleton] at h
      rw [h]; exact Nat.le_refl _
    · rcases List.mem_cons.1 h with rfl | h
      · rw [List.length_take]; omega
      · have := splitK_mem_len c k _ x h
        rw [List.length_drop] at this
        omega
theorem cut7_no {l p0 : List UInt8} {ps : List (List UInt8)} (h7 : Cut7 32 l (p0 :: ps)) (h : pieces 32 l = p0 :: ps → ∀ id n R, blkB id n R = true → l ≠ fmtB id n R) : ∀ id n R, blkB id n R = true → l ≠ fmtB id n R := by
  rcases h7 with e | ⟨hm, _⟩
  · exact h e.symm
  · exact pbk_many hm
theorem cut7_ok {l p0 : List UInt8} {ps : List (List UInt8)} (h7 : Cut7 32 l (p0 :: ps)) {L : List Rw} (hL : L.length = ps.length) (hr : ∀ k (hk : k < ps.length) (hk' : k < L.length), RdRow ps[k] L[k]) : pieces 32 l = p0 :: ps := by
  rcases h7 with e | ⟨_, hl, x, hx, hs⟩
  · exact e.symm
  · simp only [List.length_cons] at hl
    have h5 : 5 < ps.length := by omega
    have e : x = ps[5] := by simpa [List.getElem?_eq_getElem h5] using hx.symm
    have h1 := hr 5 h5 (by omega)
    rw [← e] at h1
    obtain ⟨_, _, _, _, _, h6⟩ := PRow_unique h1 (row_space hs)
    cases h6
end Go.Proofs.YtndebdimjlfepaaDoor
