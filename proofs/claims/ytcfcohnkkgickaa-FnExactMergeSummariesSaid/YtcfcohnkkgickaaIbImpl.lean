/-
  The walk over the project's range test of a block's ID.
-/
import Derived.Test.YtcfcohnkkgickaaRows
import Derived.WalkKit
import Derived.WalkSpells
import Derived.WalkLawsBesides
namespace Go.Proofs.Ytcfcohnkkgickaa
open Go.RowKit

theorem impl_ib (id : Int) (w : World) :
    Calls Try.prog 118 #[.int .i64 id] w fun e w' => e = .returned (.bool (decide (1 ≤ id ∧ id ≤ 20))) ∧ w = w' := by
  by_cases h1 : 1 ≤ id
  · by_cases h2 : id ≤ 20
    · rw [decide_eq_true (show 1 ≤ id ∧ id ≤ 20 from ⟨h1, h2⟩)]
      go_enter Try.func118, Try.ntmps118
      go_wp2
      go_ret
      exact ⟨rfl, rfl⟩
    · rw [decide_eq_false (show ¬ (1 ≤ id ∧ id ≤ 20) from fun h => h2 h.2)]
      go_enter Try.func118, Try.ntmps118
      go_wp2
      go_ret
      exact ⟨rfl, rfl⟩
  · rw [decide_eq_false (show ¬ (1 ≤ id ∧ id ≤ 20) from fun h => h1 h.1)]
    go_enter Try.func118, Try.ntmps118
    go_wp2
    go_ret
    exact ⟨rfl, rfl⟩
end Go.Proofs.Ytcfcohnkkgickaa
