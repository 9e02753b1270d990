/-
  What DecodeVarint leaves.
-/
import Derived.Test.YtmdakincddeccaaDoorDvPlain
import Derived.WalkKit
namespace Go.Proofs.YtmdakincddeccaaDoor
open Go.RowKit Num

/-- What both functions leave. -/
def DvPost (s : ByteArray) (w : World) (e : Ending) (w' : World) : Prop := (∃ n k : Nat, DV s.data.toList n k ∧ e = .returned (.tuple #[.int .i64 n, .int .i64 k])) ∧ Below w.heap.size w w'

end Go.Proofs.YtmdakincddeccaaDoor
