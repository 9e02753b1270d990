/-
  The walks over the laws' own changes: copied and compared field by field.
-/
import Derived.Test.YtndebdimjlfepaaDoorRows
import Derived.Test.YtndebdimjlfepaaDoorChVal
import Derived.Test.YtndebdimjlfepaaDoorRwLaw
import Derived.Test.YtndebdimjlfepaaDoorChPlain
import Derived.Test.YtndebdimjlfepaaDoorIvcSpec
import Derived.WalkKit
import Derived.WalkSpells
import Derived.WalkLawsBesides
import Derived.IntWalk
import Derived.Lib.Hide
namespace Go.Proofs.YtndebdimjlfepaaDoor
open Go.RowKit Num

set_option maxRecDepth 8000 in
set_option maxHeartbeats 3200000 in
theorem law_eqC (k b i g y x : Int) (nl : Bool) (w : World) :
    Calls Tryd.prog 36 #[.agg #[.int .i64 k, .int .i64 b, .int .i64 i, .int .i64 g, .int .i64 y, .int .i64 x, .bool nl], .agg #[.int .i64 k, .int .i64 b, .int .i64 i, .int .i64 g, .int .i64 y, .int .i64 x, .bool nl]] w fun e w' => e = .returned (.bool true) ∧ Below w.heap.size w w' := by
  go_enter Tryd.func36, Tryd.ntmps36
  go_wp2_with fail
  have K0 := ((Kept.start w).alloc7 (.int .i64 k) (.int .i64 b) (.int .i64 i) (.int .i64 g) (.int .i64 y) (.int .i64 x) (.bool nl) 61 _ rfl).alloc7 (.int .i64 k) (.int .i64 b) (.int .i64 i) (.int .i64 g) (.int .i64 y) (.int .i64 x) (.bool nl) 61 (w.heap.size + 1) (by simp)
  refine (law_eqR _ _ _ _ _ _).mono ?_
  rintro e w1 ⟨rfl, hb⟩
  have K1 := K0.step hb
  clear hb K0
  go_wp2
  go_ret
  exact ⟨rfl, K1.1⟩
end Go.Proofs.YtndebdimjlfepaaDoor
