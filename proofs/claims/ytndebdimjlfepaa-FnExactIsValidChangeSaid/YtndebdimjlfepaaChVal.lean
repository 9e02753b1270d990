/-
  A change's value; what IsValidChange answers is told by its being valid.
-/
import Derived.Test.YtndebdimjlfepaaRows
import Derived.Test.YtndebdimjlfepaaChPlain
namespace Go.Proofs.Ytndebdimjlfepaa
open Go.RowKit Num

/-- A change as a value. -/
def Cg.val (c : Cg) : Value := .agg #[.int .i64 c.k, .int .i64 c.b, .int .i64 c.r.i, .int .i64 c.r.g, .int .i64 c.r.y, .int .i64 c.r.x, .bool c.r.nl]

theorem iv_iff {c : Cg} {v u : Bool} (h : v = true ↔ ChOk c) (h' : u = true ↔ ChOk c) : v = u := by
  cases v <;> cases u <;> simp_all
end Go.Proofs.Ytndebdimjlfepaa
