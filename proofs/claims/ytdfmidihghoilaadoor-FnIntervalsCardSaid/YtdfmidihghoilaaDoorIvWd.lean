/-
  The walk over the model's WidthOf.
-/
import Derived.Test.YtdfmidihghoilaaDoorRows
import Derived.Test.YtdfmidihghoilaaDoorPlain
import Derived.Test.YtdfmidihghoilaaDoorIvSpec
import Derived.Test.YtdfmidihghoilaaDoorFsSpec
import Derived.Test.YtdfmidihghoilaaDoorKeep
import Derived.WalkKit
import Derived.WalkSpells
import Derived.WalkLawsBesides
import Derived.IntWalk
import Derived.Lib.Hide
namespace Go.Proofs.YtdfmidihghoilaaDoor
open Go.RowKit Num

/-- WidthOf's answer: of High and Low. -/
def WdAns (a b c d : Int) (w : World) (r : Ending) (w' : World) : Prop :=
  r = .returned (if ivB a b c d = true ∧ subB c d a b = true then .tuple #[.agg #[.int .i64 (rN (c * b - a * d) (d * b)), .int .i64 (rD (c * b - a * d) (d * b))], .bool true] else .tuple #[.agg #[.int .i64 0, .int .i64 0], .bool false]) ∧ Below w.heap.size w w'

set_option maxRecDepth 8000 in
set_option maxHeartbeats 3200000 in
theorem spec_wd (a b c d : Int) (w : World) (ha : -9223372036854775808 ≤ a ∧ a ≤ 9223372036854775807) (hc : -9223372036854775808 ≤ c ∧ c ≤ 9223372036854775807) :
    Calls Tryd.prog 23 #[.agg #[.int .i64 a, .int .i64 b, .int .i64 c, .int .i64 d]] w (WdAns a b c d w) := by
  have D1 := fun w => spec_iv a b c d w ha hc
  have D2 := fun w => spec_sub c d a b w hc ha
  unfold SubAns at D2
  unfold WdAns
  obtain ⟨q1, hq1⟩ : ∃ q, q = ivB a b c d := ⟨_, rfl⟩
  rw [← hq1] at D1
  rw [← hq1]
  have DD1 := Lib.hid D1
  clear D1 hq1 ha hc
  cases q1
  · rw [if_neg (by simp)]
    clear D2
    go_enter Tryd.func23, Tryd.ntmps23
    go_wp2_with fail
    have K0 := ((Kept.start w).alloc4 (.int .i64 a) (.int .i64 b) (.int .i64 c) (.int .i64 d) 29 _ rfl).alloc2 (.int .i64 0) (.int .i64 0) 27 (w.heap.size + 1) (by simp)
    refine (DD1.out _).mono ?_
    rintro r w1 ⟨rfl, hb⟩
    have K1 := K0.step hb
    clear hb K0
    have k0 := K1.get 0 rfl
    have k1 := K1.get 1 rfl
    have f0 := K1.fz 0 rfl
    have f1 := K1.fz 1 rfl
    have z := K1.lt 0 rfl
    go_wp2
    exact bodyPost_ret (v := .tuple #[.agg #[.int .i64 0, .int .i64 0], .bool false]) (by simp [results, Tryd.results23, go_sem, k0, k1, z]) rfl ⟨rfl, (K1.1.setCell (Nat.le_succ _) _).setCell (Nat.le_succ _) _⟩
  · obtain ⟨X, Y, k, h⟩ : ∃ (X Y : Int) (k : Bool), (if subB c d a b = true then Value.tuple #[.agg #[.int .i64 (rN (c * b - a * d) (d * b)), .int .i64 (rD (c * b - a * d) (d * b))], .bool true] else Value.tuple #[.agg #[.int .i64 0, .int .i64 0], .bool false]) = Value.tuple #[.agg #[.int .i64 X, .int .i64 Y], .bool k] := by
      split
      · exact ⟨_, _, _, rfl⟩
      · exact ⟨_, _, _, rfl⟩
    have h' : (if true = true ∧ subB c d a b = true then Value.tuple #[.agg #[.int .i64 (rN (c * b - a * d) (d * b)), .int .i64 (rD (c * b - a * d) (d * b))], .bool true] else Value.tuple #[.agg #[.int .i64 0, .int .i64 0], .bool false]) = Value.tuple #[.agg #[.int .i64 X, .int .i64 Y], .bool k] := by
      rw [← h]; simp
    rw [h']
    rw [h] at D2
    have DD2 := Lib.hid D2
    clear D2 h h'
    go_enter Tryd.func23, Tryd.ntmps23
    go_wp2_with fail
    have K0 := ((Kept.start w).alloc4 (.int .i64 a) (.int .i64 b) (.int .i64 c) (.int .i64 d) 29 _ rfl).alloc2 (.int .i64 0) (.int .i64 0) 27 (w.heap.size + 1) (by simp)
    refine (DD1.out _).mono ?_
    rintro r w1 ⟨rfl, hb⟩
    have K1 := K0.step hb
    clear hb K0
    have k2 := K1.get 2 rfl
    have k3 := K1.get 3 rfl
    have k4 := K1.get 4 rfl
    have k5 := K1.get 5 rfl
    go_wp2_with fail
    refine (DD2.out _).mono ?_
    rintro r w2 ⟨rfl, hb⟩
    have K2 := K1.step hb
    clear hb K1 k2 k3 k4 k5
    have k0 := K2.get 0 rfl
    have k1 := K2.get 1 rfl
    have f0 := K2.fz 0 rfl
    have f1 := K2.fz 1 rfl
    have z := K2.lt 0 rfl
    go_wp2
    exact bodyPost_ret (v := .tuple #[.agg #[.int .i64 X, .int .i64 Y], .bool k]) (by simp [results, Tryd.results23, go_sem, k0, k1, z]) rfl ⟨rfl, (K2.1.setCell (Nat.le_succ _) _).setCell (Nat.le_succ _) _⟩
end Go.Proofs.YtdfmidihghoilaaDoor
