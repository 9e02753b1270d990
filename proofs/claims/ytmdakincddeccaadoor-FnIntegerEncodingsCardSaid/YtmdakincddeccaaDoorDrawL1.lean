/-
  The contracts of the draws of chapter 1 that FnIntegerEncodings makes.
-/
import Derived.Test.YtmdakincddeccaaDoorRows
import Derived.Test.YtmdakincddeccaaDoorDrawNum
import Derived.WalkKit
import Derived.WalkSpells
import Derived.WalkLawsBesides
import Derived.Lib.Hide
namespace Go.Proofs.YtmdakincddeccaaDoor
open Go.RowKit

theorem Cur.rd {W w : World} {B b : Nat} {ao : Option Addr} {n cap : Nat} (h : Cur W B b ao n cap w) : Rd w B ao n := h.2.2.1
theorem Cur.below {W w : World} {B b : Nat} {ao : Option Addr} {n cap : Nat} (h : Cur W B b ao n cap w) : Below B W w := h.2.2.2.2

def DEv (B : Nat) (ao : Option Addr) (n : Nat) (w : World) (e : Ending) (w' : World) : Prop := ∃ x : Int, IsI64 x ∧ e = .returned (.int .i64 x) ∧ Rd w' B ao n ∧ Below B w w'
def DEh (B : Nat) (ao : Option Addr) (n : Nat) (w : World) (e : Ending) (w' : World) : Prop := ∃ s : ByteArray, s.size ≤ 40 ∧ e = .returned (.string s) ∧ Rd w' B ao n ∧ Below B w w'
def DEf (B : Nat) (ao : Option Addr) (n : Nat) (w : World) (e : Ending) (w' : World) : Prop := ∃ x y : Int, IsI64 x ∧ (-1 ≤ y ∧ y ≤ 8) ∧ e = .returned (.tuple #[.int .i64 x, .int .i64 y]) ∧ Rd w' B ao n ∧ Below B w w'

theorem drawEv (B : Nat) (ao : Option Addr) (n cap : Nat) (w : World) (hr : Rd w B ao n) (hB : B ≤ w.heap.size) :
    Calls Tryd.prog 11 #[.slice ao n cap] w (DEv B ao n w) := by
  go_enter Tryd.func11, Tryd.ntmps11
  go_wp2_with fail
  refine (l1New_any B ao n cap w hr hB).mono ?_
  rintro e w1 ⟨rfl, hc1⟩
  go_wp2_with fail
  refine (l1Num_any w B _ ao n cap _ hc1).mono ?_
  rintro e w2 ⟨x, hx, rfl, hc2⟩
  go_wp2_with fail
  go_ret
  exact ⟨x, hx, rfl, hc2.rd, hc2.below⟩

theorem drawEh (B : Nat) (ao : Option Addr) (n cap : Nat) (w : World) (hr : Rd w B ao n) (hB : B ≤ w.heap.size) :
    Calls Tryd.prog 12 #[.slice ao n cap] w (DEh B ao n w) := by
  go_enter Tryd.func12, Tryd.ntmps12
  go_wp2_with fail
  refine (l1New_any B ao n cap w hr hB).mono ?_
  rintro e w1 ⟨rfl, hc1⟩
  go_wp2_with fail
  refine (l1Text_any w B _ ao n cap 40 _ hc1 (by omega)).mono ?_
  rintro e w2 ⟨x, hx, rfl, hc2⟩
  go_wp2_with fail
  go_ret
  exact ⟨x, hx, rfl, hc2.rd, hc2.below⟩

theorem drawEf (B : Nat) (ao : Option Addr) (n cap : Nat) (w : World) (hr : Rd w B ao n) (hB : B ≤ w.heap.size) :
    Calls Tryd.prog 15 #[.slice ao n cap] w (DEf B ao n w) := by
  go_enter Tryd.func15, Tryd.ntmps15
  go_wp2_with fail
  refine (l1New_any B ao n cap w hr hB).mono ?_
  rintro e w1 ⟨rfl, hc1⟩
  go_wp2_with fail
  refine (l1Num_any w B _ ao n cap _ hc1).mono ?_
  rintro e w2 ⟨x, hx, rfl, hc2⟩
  go_wp2_with fail
  refine (l1Below_any w B _ ao n cap 10 _ hc2 (by omega) (by omega)).mono ?_
  rintro e w3 ⟨y, ⟨hy0, hy1⟩, rfl, hc3, _⟩
  go_wp2_with fail
  go_ret2
  exact ⟨x, y - 1, hx, ⟨by omega, by omega⟩, rfl, hc3.rd, hc3.below⟩
end Go.Proofs.YtmdakincddeccaaDoor
