/-
  Plain mathematics of Meet and Contains, in the project's order of tests. No program is named here.
-/
import Derived.Test.YtdfmidihghoilaaDoorIvPlain
namespace Go.Proofs.YtdfmidihghoilaaDoor.Num
open Go

theorem cmpA_trans {a b c d e f : Int} (h1 : frB a b = true) (h2 : frB c d = true) (h3 : frB e f = true) (p : cmpA a b c d ≤ 0) (q : cmpA c d e f ≤ 0) : cmpA a b e f ≤ 0 := by
  rw [cmpA_le h1 h2] at p
  rw [cmpA_le h2 h3] at q
  rw [cmpA_le h1 h3]
  obtain ⟨⟨_, _, b1, _⟩, _⟩ := frB_of h1
  obtain ⟨⟨_, _, d1, _⟩, _⟩ := frB_of h2
  obtain ⟨⟨_, _, f1, _⟩, _⟩ := frB_of h3
  have e1 : a * d * f ≤ c * b * f := Int.mul_le_mul_of_nonneg_right p (by omega)
  have e2 : c * f * b ≤ e * d * b := Int.mul_le_mul_of_nonneg_right q (by omega)
  have e3 : a * f * d ≤ e * b * d := by
    have r1 : a * f * d = a * d * f := by rw [Int.mul_assoc, Int.mul_comm f d, ← Int.mul_assoc]
    have r2 : c * b * f = c * f * b := by rw [Int.mul_assoc, Int.mul_comm b f, ← Int.mul_assoc]
    have r3 : e * d * b = e * b * d := by rw [Int.mul_assoc, Int.mul_comm d b, ← Int.mul_assoc]
    omega
  exact Int.le_of_mul_le_mul_right e3 (by omega)

theorem cmpA_self (a b : Int) : cmpA a b a b = 0 := by have := cmpA_flip a b a b; omega
theorem ivB_one (n m : Int) : ivB n m n m = frB n m := by unfold ivB; rw [cmpA_self]; cases frB n m <;> rfl

/-- Contains is LiesWithin of a single value. -/
theorem liB_one (a b c d n m : Int) : liB n m n m a b c d = coB a b c d n m := by
  unfold liB coB
  rw [ivB_one]
  cases frB n m <;> cases ivB a b c d <;> rfl

/-- Equal order, equal fractions: where neither is above the other, either may be taken. -/
theorem cmpA_same {a b c d : Int} (h1 : frB a b = true) (h2 : frB c d = true) (h : cmpA a b c d = 0) : a = c ∧ b = d := by
  have e1 := (cmpA_le h1 h2).1 (by omega)
  have e2 := (cmpA_le h2 h1).1 (by have := cmpA_flip a b c d; omega)
  exact frac_ext h1 h2 (by omega)

/-- Whether the two meet: neither lies below the other. -/
def mjB (a b c d e f g h : Int) : Bool := (ivB a b c d && ivB e f g h) && (!decide (cmpA c d e f < 0) && !decide (cmpA g h a b < 0))
def mjL (a b e f : Int) : Int × Int := if 0 < cmpA a b e f then (a, b) else (e, f)
def mjH (c d g h : Int) : Int × Int := if cmpA c d g h < 0 then (c, d) else (g, h)
end Go.Proofs.YtdfmidihghoilaaDoor.Num
