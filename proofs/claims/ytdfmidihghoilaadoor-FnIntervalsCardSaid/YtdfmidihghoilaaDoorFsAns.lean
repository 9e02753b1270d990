/-
  What SubtractFracs answers.
-/
import Derived.Test.YtdfmidihghoilaaDoorPlain
import Derived.WalkKit
import Derived.Below
namespace Go.Proofs.YtdfmidihghoilaaDoor
open Go.RowKit Num

/-- SubtractFracs' answer. -/
def SubAns (n d m e : Int) (w : World) (r : Ending) (w' : World) : Prop :=
  r = .returned (if subB n d m e = true then .tuple #[.agg #[.int .i64 (rN (n * e - m * d) (d * e)), .int .i64 (rD (n * e - m * d) (d * e))], .bool true] else .tuple #[.agg #[.int .i64 0, .int .i64 0], .bool false]) ∧ Below w.heap.size w w'

theorem SubAns.yes {n d m e : Int} (w w' : World) (h : subB n d m e = true) (hb : Below w.heap.size w w') : SubAns n d m e w (.returned (.tuple #[.agg #[.int .i64 (rN (n * e - m * d) (d * e)), .int .i64 (rD (n * e - m * d) (d * e))], .bool true])) w' :=
  ⟨by rw [if_pos h], hb⟩
theorem SubAns.no {n d m e : Int} (w w' : World) (h : subB n d m e = false) (hb : Below w.heap.size w w') : SubAns n d m e w (.returned (.tuple #[.agg #[.int .i64 0, .int .i64 0], .bool false])) w' :=
  ⟨by rw [if_neg (by rw [h]; simp)], hb⟩
theorem subB_no1 {n d m e : Int} (h : frB n d = false) : subB n d m e = false := by unfold subB; rw [h]; rfl
theorem subB_no2 {n d m e : Int} (h : frB m e = false) : subB n d m e = false := by unfold subB; rw [h]; simp
theorem subB_in {n d m e : Int} (h1 : frB n d = true) (h2 : frB m e = true) : subB n d m e = limB (rN (n * e - m * d) (d * e)) (rD (n * e - m * d) (d * e)) := by unfold subB; rw [h1, h2]; rfl
end Go.Proofs.YtdfmidihghoilaaDoor
