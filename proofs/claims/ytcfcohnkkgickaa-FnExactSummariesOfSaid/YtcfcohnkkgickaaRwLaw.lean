/-
  The walks over the laws' own rows: copied field by field, compared field by field.
-/
import Derived.Test.YtcfcohnkkgickaaRows
import Derived.Test.YtcfcohnkkgickaaRvSpec
import Derived.Test.YtcfcohnkkgickaaKeep
import Derived.WalkKit
import Derived.WalkSpells
import Derived.WalkLawsBesides
import Derived.IntWalk
import Derived.Lib.Hide
namespace Go.Proofs.Ytcfcohnkkgickaa
open Go.RowKit

set_option maxRecDepth 8000 in
set_option maxHeartbeats 3200000 in
theorem law_toR (i g y x : Int) (nl : Bool) (w : World) :
    Calls Try.prog 83 #[.agg #[.int .i64 i, .int .i64 g, .int .i64 y, .int .i64 x, .bool nl]] w fun e w' => e = .returned (.agg #[.int .i64 i, .int .i64 g, .int .i64 y, .int .i64 x, .bool nl]) ∧ Below w.heap.size w w' := by
  go_enter Try.func83, Try.ntmps83
  go_wp2
  exact bodyPost_ret (v := .agg #[.int .i64 i, .int .i64 g, .int .i64 y, .int .i64 x, .bool nl]) (by simp [results, Try.results83, go_sem]) rfl ⟨rfl, (((Below.refl _ _).alloc (Nat.le_refl _) _).alloc (by simp) _).alloc (by simp; omega) _⟩

set_option maxRecDepth 8000 in
set_option maxHeartbeats 3200000 in
theorem law_eqR (i g y x : Int) (nl : Bool) (w : World) :
    Calls Try.prog 135 #[.agg #[.int .i64 i, .int .i64 g, .int .i64 y, .int .i64 x, .bool nl], .agg #[.int .i64 i, .int .i64 g, .int .i64 y, .int .i64 x, .bool nl]] w fun e w' => e = .returned (.bool true) ∧ Below w.heap.size w w' := by
  go_enter Try.func135, Try.ntmps135
  have K0 := ((Kept.start w).alloc5 (.int .i64 i) (.int .i64 g) (.int .i64 y) (.int .i64 x) (.bool nl) 36 _ rfl).alloc5 (.int .i64 i) (.int .i64 g) (.int .i64 y) (.int .i64 x) (.bool nl) 36 (w.heap.size + 1) (by simp)
  cases nl
  · go_wp2
    go_ret
    exact ⟨rfl, K0.1⟩
  · go_wp2
    go_ret
    exact ⟨rfl, K0.1⟩
end Go.Proofs.Ytcfcohnkkgickaa
