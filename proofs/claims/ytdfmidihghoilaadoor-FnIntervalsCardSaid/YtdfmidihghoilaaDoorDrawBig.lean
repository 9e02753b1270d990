/-
  The contract of the laws' test of length.
-/
import Derived.Test.YtdfmidihghoilaaDoorRows
import Derived.WalkKit
import Derived.WalkSpells
import Derived.WalkLawsBesides
import Derived.Lib.Hide
namespace Go.Proofs.YtdfmidihghoilaaDoor
open Go.RowKit

theorem big_yes (ao : Option Addr) (n cap : Nat) (w : World) (h : 1048576 < n) :
    Calls Tryd.prog 12 #[.slice ao n cap] w fun e w' => e = .returned (.bool true) ∧ w = w' := by
  have hI : (1048576 : Int) < n := by omega
  go_enter Tryd.func12, Tryd.ntmps12
  go_wp2
  go_ret
  exact ⟨rfl, rfl⟩
theorem big_no (ao : Option Addr) (n cap : Nat) (w : World) (h : n ≤ 1048576) :
    Calls Tryd.prog 12 #[.slice ao n cap] w fun e w' => e = .returned (.bool false) ∧ w = w' := by
  have hI : ¬ (1048576 : Int) < n := by omega
  have hd : decide ((1048576 : Int) < n) = false := decide_eq_false hI
  go_enter Tryd.func12, Tryd.ntmps12
  go_wp2
  go_ret
  exact ⟨rfl, rfl⟩

end Go.Proofs.YtdfmidihghoilaaDoor
