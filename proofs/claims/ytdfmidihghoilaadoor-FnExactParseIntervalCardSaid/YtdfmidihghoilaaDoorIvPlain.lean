/-
  Plain mathematics of intervals. No program is named here.
-/
import Derived.Test.YtdfmidihghoilaaDoorFcPlain
namespace Go.Proofs.YtdfmidihghoilaaDoor.Num
open Go

/-- Whether a / b to c / d is an interval. -/
def ivB (a b c d : Int) : Bool := frB a b && (frB c d && decide (cmpA a b c d ≤ 0))
theorem ivB_of {a b c d : Int} (h : ivB a b c d = true) : frB a b = true ∧ frB c d = true ∧ cmpA a b c d ≤ 0 := by
  unfold ivB at h
  rw [Bool.and_eq_true, Bool.and_eq_true] at h
  exact ⟨h.1, h.2.1, of_decide_eq_true h.2.2⟩
theorem ivB_yes {a b c d : Int} (h1 : frB a b = true) (h2 : frB c d = true) (h3 : cmpA a b c d ≤ 0) : ivB a b c d = true := by unfold ivB; rw [h1, h2, decide_eq_true h3]; rfl
theorem ivB_no1 {a b c d : Int} (h1 : frB a b = false) : ivB a b c d = false := by unfold ivB; rw [h1]; rfl
theorem ivB_no2 {a b c d : Int} (h2 : frB c d = false) : ivB a b c d = false := by unfold ivB; rw [h2]; simp
theorem ivB_no3 {a b c d : Int} (h3 : ¬ cmpA a b c d ≤ 0) : ivB a b c d = false := by unfold ivB; rw [decide_eq_false h3]; simp

/-- The value of a valid fraction is told by its order: cmpA is the order of the products. -/
theorem cmpA_le {a b c d : Int} (h1 : frB a b = true) (h2 : frB c d = true) : cmpA a b c d ≤ 0 ↔ a * d ≤ c * b := by
  rw [cmpA_yes h1 h2]
  rcases Int.lt_trichotomy (a * d) (c * b) with h | h | h
  · rw [ci_lt h]; omega
  · rw [ci_eq h]; omega
  · rw [ci_gt h]; omega
theorem cmpA_flip (a b c d : Int) : cmpA c d a b = -cmpA a b c d := by
  unfold cmpA
  by_cases h : frB a b = true ∧ frB c d = true
  · rw [if_pos h, if_pos ⟨h.2, h.1⟩]
    rcases Int.lt_trichotomy (a * d) (c * b) with h | h | h
    · rw [ci_lt h, ci_gt h]; rfl
    · rw [ci_eq h, ci_eq h.symm]; rfl
    · rw [ci_gt h, ci_lt h]
  · rw [if_neg h, if_neg (fun k => h ⟨k.2, k.1⟩)]; rfl
theorem cmpA_bd (a b c d : Int) : -1 ≤ cmpA a b c d ∧ cmpA a b c d ≤ 1 := by
  unfold cmpA
  split
  · unfold Lib.compareInt; split
    · omega
    · split <;> omega
  · omega

/-- Two valid fractions of equal order are the same. -/
theorem frac_ext {a b c d : Int} (h1 : frB a b = true) (h2 : frB c d = true) (h : a * d = c * b) : a = c ∧ b = d := by
  obtain ⟨⟨_, _, b1, _⟩, g1⟩ := frB_of h1
  obtain ⟨⟨_, _, d1, _⟩, g2⟩ := frB_of h2
  have hb : b.natAbs ∣ d.natAbs := by
    have h0 : b.natAbs ∣ a.natAbs * d.natAbs := by rw [← Int.natAbs_mul, h, Int.natAbs_mul]; exact Nat.dvd_mul_left _ _
    exact Nat.Coprime.dvd_of_dvd_mul_left (show Nat.Coprime b.natAbs a.natAbs by unfold Nat.Coprime; rw [Nat.gcd_comm]; exact g1) h0
  have hd : d.natAbs ∣ b.natAbs := by
    have h0 : d.natAbs ∣ c.natAbs * b.natAbs := by rw [← Int.natAbs_mul, ← h, Int.natAbs_mul]; exact Nat.dvd_mul_left _ _
    exact Nat.Coprime.dvd_of_dvd_mul_left (show Nat.Coprime d.natAbs c.natAbs by unfold Nat.Coprime; rw [Nat.gcd_comm]; exact g2) h0
  have e : b = d := by
    have := Nat.dvd_antisymm hb hd
    omega
  refine ⟨?_, e⟩
  rw [e] at h
  exact Int.eq_of_mul_eq_mul_right (by omega) h

def exB (a b c d : Int) : Bool := ivB a b c d && (decide (a = c) && decide (b = d))
def coB (a b c d n m : Int) : Bool := ivB a b c d && (frB n m && (decide (cmpA a b n m ≤ 0) && decide (cmpA n m c d ≤ 0)))
def liB (a b c d e f g h : Int) : Bool := ivB a b c d && (ivB e f g h && (decide (cmpA e f a b ≤ 0) && decide (cmpA c d g h ≤ 0)))
def civ (a b c d e f g h : Int) : Int := if ivB a b c d = true ∧ ivB e f g h = true then (if cmpA c d e f < 0 then -1 else if cmpA g h a b < 0 then 1 else 0) else 0
end Go.Proofs.YtdfmidihghoilaaDoor.Num
