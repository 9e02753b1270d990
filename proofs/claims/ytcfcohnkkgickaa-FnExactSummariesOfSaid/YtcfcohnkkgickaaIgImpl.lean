/-
  The walk over the project's range test of a group.
-/
import Derived.Test.YtcfcohnkkgickaaRows
import Derived.WalkKit
import Derived.WalkSpells
import Derived.WalkLawsBesides
namespace Go.Proofs.Ytcfcohnkkgickaa
open Go.RowKit

theorem impl_ig (g : Int) (w : World) :
    Calls Try.prog 106 #[.int .i64 g] w fun e w' => e = .returned (.bool (decide (0 ≤ g ∧ g ≤ 3))) ∧ w = w' := by
  by_cases h1 : 0 ≤ g
  · by_cases h2 : g ≤ 3
    · rw [decide_eq_true (show 0 ≤ g ∧ g ≤ 3 from ⟨h1, h2⟩)]
      go_enter Try.func106, Try.ntmps106
      go_wp2
      go_ret
      exact ⟨rfl, rfl⟩
    · rw [decide_eq_false (show ¬ (0 ≤ g ∧ g ≤ 3) from fun h => h2 h.2)]
      go_enter Try.func106, Try.ntmps106
      go_wp2
      go_ret
      exact ⟨rfl, rfl⟩
  · rw [decide_eq_false (show ¬ (0 ≤ g ∧ g ≤ 3) from fun h => h1 h.1)]
    go_enter Try.func106, Try.ntmps106
    go_wp2
    go_ret
    exact ⟨rfl, rfl⟩
end Go.Proofs.Ytcfcohnkkgickaa
