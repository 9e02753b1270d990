/-
  Plain mathematics: whole numbers, comparing and subtracting fractions. No program is named here.
-/
import Derived.Test.YtdfmidihghoilaaFrPlain
import Derived.Lib.Small
namespace Go.Proofs.Ytdfmidihghoilaa.Num
open Go

/-- The numerator of Whole. -/
def whN (n : Int) : Int := if -999999999 ≤ n ∧ n ≤ 999999999 then n else 0
theorem whN_yes {n : Int} (h1 : -999999999 ≤ n) (h2 : n ≤ 999999999) : whN n = n := by unfold whN; rw [if_pos ⟨h1, h2⟩]
theorem whN_no {n : Int} (h : n < -999999999 ∨ 999999999 < n) : whN n = 0 := by unfold whN; rw [if_neg (by omega)]

/-- The order of n / d and m / e; 0 where one is none. -/
def cmpA (n d m e : Int) : Int := if frB n d = true ∧ frB m e = true then Lib.compareInt (n * e) (m * d) else 0
theorem cmpA_no1 {n d m e : Int} (h : frB n d = false) : cmpA n d m e = 0 := by unfold cmpA; rw [if_neg (by rw [h]; simp)]
theorem cmpA_no2 {n d m e : Int} (h : frB m e = false) : cmpA n d m e = 0 := by unfold cmpA; rw [if_neg (by rw [h]; simp)]
theorem cmpA_yes {n d m e : Int} (h1 : frB n d = true) (h2 : frB m e = true) : cmpA n d m e = Lib.compareInt (n * e) (m * d) := by unfold cmpA; rw [if_pos ⟨h1, h2⟩]

theorem ci_lt {x y : Int} (h : x < y) : Lib.compareInt x y = -1 := by unfold Lib.compareInt; rw [if_pos h]
theorem ci_gt {x y : Int} (h : y < x) : Lib.compareInt x y = 1 := by unfold Lib.compareInt; rw [if_neg (by omega), if_pos h]
theorem ci_eq {x y : Int} (h : x = y) : Lib.compareInt x y = 0 := by unfold Lib.compareInt; rw [if_neg (by omega), if_neg (by omega)]

theorem mul_bd {n e : Int} (h1 : -999999999 ≤ n) (h2 : n ≤ 999999999) (h3 : 1 ≤ e) (h4 : e ≤ 10000) : -9999999990000 ≤ n * e ∧ n * e ≤ 9999999990000 := by
  have h := Nat.mul_le_mul (show n.natAbs ≤ 999999999 by omega) (show e.natAbs ≤ 10000 by omega)
  rw [← Int.natAbs_mul] at h
  omega
theorem mul_bd2 {d e : Int} (h1 : 1 ≤ d) (h2 : d ≤ 10000) (h3 : 1 ≤ e) (h4 : e ≤ 10000) : 1 ≤ d * e ∧ d * e ≤ 100000000 := by
  have h := Nat.mul_le_mul (show d.natAbs ≤ 10000 by omega) (show e.natAbs ≤ 10000 by omega)
  rw [← Int.natAbs_mul] at h
  have := Int.mul_pos (show 0 < d by omega) (show 0 < e by omega)
  omega

/-- Whether n / d less m / e is a fraction. -/
def subB (n d m e : Int) : Bool := frB n d && (frB m e && limB (rN (n * e - m * d) (d * e)) (rD (n * e - m * d) (d * e)))
end Go.Proofs.Ytdfmidihghoilaa.Num
