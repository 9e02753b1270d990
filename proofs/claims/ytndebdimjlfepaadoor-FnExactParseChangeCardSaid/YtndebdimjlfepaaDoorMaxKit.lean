/-
  The cell that the library's search reads.
-/
import Derived.Test.YtndebdimjlfepaaDoorRows
import Derived.Test.YtndebdimjlfepaaDoorKeep
namespace Go.Proofs.YtndebdimjlfepaaDoor
open Go.RowKit

/-- The cell that the library's search reads. -/
def MaxCell (w : World) : Prop := ∃ m, w.cell? ⟨0, 0, none⟩ = some (.int .i64 m)

theorem MaxCell.below {B : Nat} {w w' : World} (h : MaxCell w) (hb : Below B w w') (hB : 0 < B) : MaxCell w' := by
  obtain ⟨m, hm⟩ := h
  exact ⟨m, by rw [hb.cell (p := ⟨0, 0, none⟩) hB]; exact hm⟩
end Go.Proofs.YtndebdimjlfepaaDoor
