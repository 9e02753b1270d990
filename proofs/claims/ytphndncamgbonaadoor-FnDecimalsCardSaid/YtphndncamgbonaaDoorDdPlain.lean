/-
  Plain mathematics: what DecimalDown and DecimalUp answer. No program is named here.
-/
import Derived.Test.YtphndncamgbonaaDoorDcPlain
import Derived.WalkKit
namespace Go.Proofs.YtphndncamgbonaaDoor.Num
open Go

def ddF (n d p : Int) : List UInt8 := if frB n d = true ∧ 0 ≤ p ∧ p ≤ 6 then downF n d p.toNat else []
def duF (n d p : Int) : List UInt8 := if frB n d = true ∧ 0 ≤ p ∧ p ≤ 6 then upF n d p.toNat else []
theorem ddF_no1 {n d p : Int} (h : frB n d = false) : ddF n d p = [] := by unfold ddF; rw [if_neg (by rw [h]; simp)]
theorem duF_no1 {n d p : Int} (h : frB n d = false) : duF n d p = [] := by unfold duF; rw [if_neg (by rw [h]; simp)]
theorem ddF_no2 {n d p : Int} (h : p < 0 ∨ 6 < p) : ddF n d p = [] := by unfold ddF; rw [if_neg (by omega)]
theorem duF_no2 {n d p : Int} (h : p < 0 ∨ 6 < p) : duF n d p = [] := by unfold duF; rw [if_neg (by omega)]
theorem ddF_yes {n d : Int} {p : Nat} (h : frB n d = true) (hp : p ≤ 6) : ddF n d p = downF n d p := by unfold ddF; rw [if_pos ⟨h, by omega, by omega⟩]; simp
theorem duF_yes {n d : Int} {p : Nat} (h : frB n d = true) (hp : p ≤ 6) : duF n d p = upF n d p := by unfold duF; rw [if_pos ⟨h, by omega, by omega⟩]; simp
end Go.Proofs.YtphndncamgbonaaDoor.Num
