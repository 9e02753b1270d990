/-
  What MakeFrac answers.
-/
import Derived.Test.YtdfmidihghoilaaDoorPlain
import Derived.WalkKit
import Derived.Below
namespace Go.Proofs.YtdfmidihghoilaaDoor
open Go.RowKit Num

/-- MakeFrac's answer. -/
def MkAns (n d : Int) (w : World) (e : Ending) (w' : World) : Prop :=
  e = .returned (if termB n d = true ∧ limB (rN n d) (rD n d) = true then .tuple #[.agg #[.int .i64 (rN n d), .int .i64 (rD n d)], .bool true] else .tuple #[.agg #[.int .i64 0, .int .i64 0], .bool false]) ∧ Below w.heap.size w w'

theorem MkAns.yes {n d : Int} (w w' : World) (h1 : termB n d = true) (h2 : limB (rN n d) (rD n d) = true) (hb : Below w.heap.size w w') : MkAns n d w (.returned (.tuple #[.agg #[.int .i64 (rN n d), .int .i64 (rD n d)], .bool true])) w' :=
  ⟨by rw [if_pos ⟨h1, h2⟩], hb⟩
theorem MkAns.no {n d : Int} (w w' : World) (h : ¬ (termB n d = true ∧ limB (rN n d) (rD n d) = true)) (hb : Below w.heap.size w w') : MkAns n d w (.returned (.tuple #[.agg #[.int .i64 0, .int .i64 0], .bool false])) w' :=
  ⟨by rw [if_neg h], hb⟩

end Go.Proofs.YtdfmidihghoilaaDoor
