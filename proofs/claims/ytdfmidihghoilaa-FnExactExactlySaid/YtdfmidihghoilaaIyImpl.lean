/-
  The walk over the project's Exactly.
-/
import Derived.Test.YtdfmidihghoilaaRows
import Derived.Test.YtdfmidihghoilaaIvPlain
import Derived.Test.YtdfmidihghoilaaFwWalk
import Derived.Test.YtdfmidihghoilaaHeld
import Derived.WalkKit
import Derived.WalkSpells
import Derived.WalkLawsBesides
import Derived.IntWalk
import Derived.Lib.Hide
namespace Go.Proofs.Ytdfmidihghoilaa
open Go.RowKit Num

theorem impl_exactly (n : Int) (w : World) :
    Calls Try.prog 15 #[.int .i64 n] w fun r w' => r = .returned (.agg #[.int .i64 (whN n), .int .i64 1, .int .i64 (whN n), .int .i64 1]) ∧ Below w.heap.size w w' := by
  have D0 := fun w => impl_wh n w
  obtain ⟨m, hm⟩ : ∃ m, m = whN n := ⟨_, rfl⟩
  rw [← hm] at D0
  rw [← hm]
  have D := Lib.hid D0
  clear D0 hm
  go_enter Try.func15, Try.ntmps15
  go_wp2_with fail
  have K0 := (Kept.start w).alloc4 (.int .i64 0) (.int .i64 0) (.int .i64 0) (.int .i64 0) 29 _ rfl
  refine (D.out _).mono ?_
  rintro r w1 ⟨rfl, hb⟩
  have K1 := K0.step hb
  clear hb K0
  go_wp2_with fail
  refine (D.out _).mono ?_
  rintro r w2 ⟨rfl, hb⟩
  have K2 := K1.step hb
  clear hb K1
  have k0 := K2.get 0 rfl
  have k1 := K2.get 1 rfl
  have k2 := K2.get 2 rfl
  have k3 := K2.get 3 rfl
  have f0 := K2.fz 0 rfl
  have f1 := K2.fz 1 rfl
  have f2 := K2.fz 2 rfl
  have f3 := K2.fz 3 rfl
  have z := K2.lt 0 rfl
  go_wp2
  exact bodyPost_ret (v := .agg #[.int .i64 m, .int .i64 1, .int .i64 m, .int .i64 1]) (by simp [results, Try.results15, go_sem, k0, k1, k2, k3, z]) rfl
    ⟨rfl, (((K2.1.setCell (Nat.le_refl _) _).setCell (Nat.le_refl _) _).setCell (Nat.le_refl _) _).setCell (Nat.le_refl _) _⟩

end Go.Proofs.Ytdfmidihghoilaa
