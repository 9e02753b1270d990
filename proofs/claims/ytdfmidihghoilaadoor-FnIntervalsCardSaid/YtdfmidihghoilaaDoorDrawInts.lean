/-
  A list of numbers that the call laid.
-/
import Derived.Test.YtdfmidihghoilaaDoorDrawNew
namespace Go.Proofs.YtdfmidihghoilaaDoor
open Go.RowKit

theorem ints_new (w : World) (zs : List Int) (hz : ∀ z ∈ zs, IsI64 z) : Ints (w.alloc (.cells (zs.map (Value.int .i64)).toArray 3)) w.heap.size zs.length := by
  refine ⟨by simp, fun j hj => ⟨zs[j], hz _ (List.getElem_mem _), ?_⟩⟩
  rw [cell_of_row _ w.heap.size j _ 3 (0, 0) (heap_alloc_new w _)]
  simp [hj]

end Go.Proofs.YtdfmidihghoilaaDoor
