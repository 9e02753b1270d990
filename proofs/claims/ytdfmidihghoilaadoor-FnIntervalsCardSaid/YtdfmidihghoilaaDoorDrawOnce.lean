/-
  The draw of a yes or no.
-/
import Derived.Test.YtdfmidihghoilaaDoorRows
import Derived.Test.YtdfmidihghoilaaDoorDrawBox
import Derived.WalkKit
import Derived.WalkSpells
import Derived.WalkLawsBesides
import Derived.IntWalk
import Derived.Lib.Hide
namespace Go.Proofs.YtdfmidihghoilaaDoor
open Go.RowKit

def OncePost (W : World) (B b : Nat) (ao : Option Addr) (n cap : Nat) (w : World) (e : Ending) (w' : World) : Prop :=
  ∃ k : Bool, e = .returned (.bool k) ∧ Cur W B b ao n cap w' ∧ w.grownBy w' (some b)

theorem l1Once_any (W : World) (B b : Nat) (ao : Option Addr) (n cap : Nat) (m : Int) (w : World) (hc : Cur W B b ao n cap w) (h1 : 0 < m) (h2 : m ≤ 1000000000000) :
    Calls Tryd.prog 46 #[.pointer (some ⟨b, 0, none⟩), .int .i64 m] w (OncePost W B b ao n cap w) := by
  go_enter Tryd.func46, Tryd.ntmps46
  go_wp2_with fail
  refine (l1Below_any W B b ao n cap m _ hc h1 h2).mono ?_
  rintro e w1 ⟨x, ⟨hx0, hx1⟩, rfl, hc1, hg1⟩
  clear hc
  by_cases hx : x = 0
  · have q : (x == 0) = true := by rw [hx]; rfl
    have HX := Lib.hid hx
    clear hx
    go_wp2
    go_ret
    exact ⟨true, rfl, hc1, hg1⟩
  · have q : (x == 0) = false := beq_eq_false_iff_ne.2 hx
    have HX := Lib.hid hx
    clear hx
    go_wp2
    go_ret
    exact ⟨false, rfl, hc1, hg1⟩

end Go.Proofs.YtdfmidihghoilaaDoor
