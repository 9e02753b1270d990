/-
  The walk over the project's reduce.
-/
import Derived.Test.YtdfmidihghoilaaDoorRows
import Derived.Test.YtdfmidihghoilaaDoorPlain
import Derived.Test.YtdfmidihghoilaaDoorKeep
import Derived.Test.YtdfmidihghoilaaDoorFrImpl
import Derived.WalkKit
import Derived.WalkSpells
import Derived.WalkLawsBesides
import Derived.IntWalk
import Derived.Lib.Hide
namespace Go.Proofs.YtdfmidihghoilaaDoor
open Go.RowKit Num

/-- What reduce answers. -/
def RdAns (n d : Int) (w : World) (e : Ending) (w' : World) : Prop :=
  e = .returned (if limB (rN n d) (rD n d) = true then .tuple #[.agg #[.int .i64 (rN n d), .int .i64 (rD n d)], .bool true] else .tuple #[.agg #[.int .i64 0, .int .i64 0], .bool false]) ∧ Below w.heap.size w w'

set_option maxHeartbeats 800000 in
theorem impl_reduce (n d : Int) (w : World) (h1 : -1000000000000000000 ≤ n) (h2 : n ≤ 1000000000000000000) (h3 : -1000000000000000000 ≤ d) (h4 : d ≤ 1000000000000000000) (h0 : d ≠ 0) :
    Calls Tryd.prog 65 #[.int .i64 n, .int .i64 d] w (RdAns n d w) := by
  have R0 := fun w => impl_red n d w h1 h2 h3 h4 h0
  have L0 := fun w => impl_lim (rN n d) (rD n d) w
  have Y : ∀ w w', Below w.heap.size w w' → limB (rN n d) (rD n d) = true → RdAns n d w (.returned (.tuple #[.agg #[.int .i64 (rN n d), .int .i64 (rD n d)], .bool true])) w' := fun w w' hb h => ⟨by rw [if_pos h], hb⟩
  have Z : ∀ w w', Below w.heap.size w w' → limB (rN n d) (rD n d) = false → RdAns n d w (.returned (.tuple #[.agg #[.int .i64 0, .int .i64 0], .bool false])) w' := fun w w' hb h => ⟨by rw [if_neg (by rw [h]; simp)], hb⟩
  obtain ⟨x, hx⟩ : ∃ x, x = rN n d := ⟨_, rfl⟩
  obtain ⟨y, hy⟩ : ∃ y, y = rD n d := ⟨_, rfl⟩
  rw [← hx, ← hy] at R0 L0 Y Z
  obtain ⟨b, hb⟩ : ∃ b, b = limB x y := ⟨_, rfl⟩
  rw [← hb] at L0 Y Z
  have R := Lib.hid R0
  have L := Lib.hid L0
  have YY := Lib.hid Y
  have ZZ := Lib.hid Z
  clear R0 L0 Y Z hx hy hb h0
  go_enter Tryd.func65, Tryd.ntmps65
  go_wp2_with fail
  have K0 := (Kept.start w).alloc2 (.int .i64 0) (.int .i64 0) 27 _ rfl
  refine (R.out _).mono ?_
  rintro e w1 ⟨rfl, hb1⟩
  have K1 := (K0.step hb1).alloc2 (.int .i64 x) (.int .i64 y) 27 _ rfl
  have z2 := (K0.step hb1).lt 0 rfl
  clear hb1 K0
  go_wp2_with fail
  refine (L.out _).mono ?_
  rintro e w2 ⟨rfl, hb2⟩
  have K2 := K1.step hb2
  clear hb2 K1
  have k1 := K2.get 0 rfl
  have k2 := K2.get 1 rfl
  have k3 := K2.get 2 rfl
  have k4 := K2.get 3 rfl
  have f3 := K2.fz 2 rfl
  have f4 := K2.fz 3 rfl
  have z3 := K2.lt 2 rfl
  cases b
  · go_wp2
    exact bodyPost_ret (v := .tuple #[.agg #[.int .i64 0, .int .i64 0], .bool false]) (by simp [results, Tryd.results65, go_sem, k3, k4, z3]) rfl (ZZ.out _ _ ((K2.1.setCell (Nat.le_refl _) _).setCell (Nat.le_refl _) _) (by simp))
  · go_wp2
    exact bodyPost_ret (v := .tuple #[.agg #[.int .i64 x, .int .i64 y], .bool true]) (by simp [results, Tryd.results65, go_sem, k3, k4, z3]) rfl (YY.out _ _ ((K2.1.setCell (Nat.le_refl _) _).setCell (Nat.le_refl _) _) (by simp))
end Go.Proofs.YtdfmidihghoilaaDoor
