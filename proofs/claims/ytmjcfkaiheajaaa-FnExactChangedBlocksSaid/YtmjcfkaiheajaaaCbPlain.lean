/-
  Plain mathematics of the IDs of the blocks that differ between two tables.
-/
import Derived.Test.YtmjcfkaiheajaaaRows
import Derived.Test.YtmjcfkaiheajaaaTbFind
namespace Go.Proofs.Ytmjcfkaiheajaaa
open Go.RowKit Num

/-- The first block with this ID. -/
def blkOf (l : List Blk) (id : Int) : Option Blk := l.find? fun b => b.id == id
theorem blkOf_none {l : List Blk} {id v : Int} {n : Nat} (hl : l.length = n) (h : FirstAns (fun k => (Bn l k).id = id) n v) (hv : v < 0) : blkOf l id = none := by
  rcases h with ⟨k, hk, _, _, rfl⟩ | ⟨hn, _⟩
  · omega
  · unfold blkOf
    rw [List.find?_eq_none]
    intro b hb
    obtain ⟨j, hj, rfl⟩ := List.mem_iff_getElem.1 hb
    have := hn j (by omega)
    simp only [beq_iff_eq]
    rw [← Bn_at hj]
    exact this
theorem blkOf_some {l : List Blk} {id v : Int} {n : Nat} (hl : l.length = n) (h : FirstAns (fun k => (Bn l k).id = id) n v) (hv : ¬ v < 0) : ∃ k : Nat, k < n ∧ v = (k : Int) ∧ blkOf l id = some (Bn l k) := by
  rcases h with ⟨k, hk, he, hlow, rfl⟩ | ⟨_, rfl⟩
  · refine ⟨k, hk, rfl, ?_⟩
    unfold blkOf
    rw [List.find?_eq_some_iff_getElem]
    refine ⟨by simpa using he, k, by omega, (Bn_at (by omega)).symm, fun j hj => ?_⟩
    have := hlow j hj
    simp only [Bool.not_eq_true', beq_eq_false_iff_ne]
    rw [← Bn_at (by omega)]
    exact this
  · omega

open Classical in
/-- The IDs from 1 to n whose blocks differ. -/
noncomputable def cbL (la lb : List Blk) : Nat → List Int
  | 0 => []
  | n + 1 => if blkOf la ((n : Int) + 1) = blkOf lb ((n : Int) + 1) then cbL la lb n else cbL la lb n ++ [(n : Int) + 1]
theorem cbL_same {la lb : List Blk} {n : Nat} (h : blkOf la ((n : Int) + 1) = blkOf lb ((n : Int) + 1)) : cbL la lb (n + 1) = cbL la lb n := by
  rw [cbL, if_pos h]
theorem cbL_diff {la lb : List Blk} {n : Nat} (h : blkOf la ((n : Int) + 1) ≠ blkOf lb ((n : Int) + 1)) : cbL la lb (n + 1) = cbL la lb n ++ [(n : Int) + 1] := by
  rw [cbL, if_neg h]
theorem cbL_len (la lb : List Blk) : ∀ n, (cbL la lb n).length ≤ n
  | 0 => Nat.le_refl _
  | n + 1 => by
    have := cbL_len la lb n
    by_cases h : blkOf la ((n : Int) + 1) = blkOf lb ((n : Int) + 1)
    · rw [cbL_same h]; omega
    · rw [cbL_diff h, List.length_append, List.length_singleton]; omega
end Go.Proofs.Ytmjcfkaiheajaaa
