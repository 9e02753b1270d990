/-
  Rows to be read, opened at the head; parts of them as what is appended.
-/
import Derived.Test.YtndebdimjlfepaaRows
import Derived.Test.YtndebdimjlfepaaRwSrc
namespace Go.Proofs.Ytndebdimjlfepaa
open Go.RowKit Num

theorem rows_head {w : World} {h n : Nat} {R : Nat → Rw} (hV : RowsVal w (some ⟨h, 0, none⟩) n R) (hn : 0 < n) : h < w.heap.size ∧ ∀ k, k < n → RowIn w h k (R k) := by
  rcases hV with h0 | ⟨g, e, hg, hR⟩
  · omega
  · simp only [Option.some.injEq, Addr.mk.injEq, and_true] at e
    subst e
    exact ⟨hg, hR⟩
theorem RowsVal.src {w : World} {h c o m : Nat} {l : List Rw} (hV : RowsVal w (some ⟨h, 0, none⟩) l.length (Rn l)) (hm : o + m ≤ l.length) : SrcR w (.slice (some ⟨h, o * 5, none⟩) m c) ((l.drop o).take m) := by
  by_cases hz : 0 < l.length
  · exact SrcR.part (rows_head hV hz).2 hm
  · obtain rfl := List.eq_nil_of_length_eq_zero (show l.length = 0 by omega)
    obtain rfl : m = 0 := by simp at hm; omega
    exact .inr ⟨⟨h, o * 5, none⟩, c, by simp, fun j u hu => by simp [rcells] at hu⟩
theorem RowsVal.tail {w : World} {h c p cap : Nat} {l : List Rw} (hV : RowsVal w (some ⟨h, 0, none⟩) l.length (Rn l)) (hp : p ≤ l.length) (hc : l.length ≤ cap) : SrcR w (.slice (if cap = p then some ⟨h, 0, none⟩ else some ⟨h, p * 5, none⟩) (l.length - p) c) (l.drop p) := by
  have e : (l.drop p).take (l.length - p) = l.drop p := List.take_of_length_le (by rw [List.length_drop]; omega)
  split
  · next he =>
    obtain rfl : p = l.length := by omega
    rw [List.drop_length, Nat.sub_self]
    exact .inr ⟨⟨h, 0, none⟩, c, rfl, fun j u hu => by simp [rcells] at hu⟩
  · have := RowsVal.src (c := c) (o := p) (m := l.length - p) hV (by omega)
    rwa [e] at this
end Go.Proofs.Ytndebdimjlfepaa
