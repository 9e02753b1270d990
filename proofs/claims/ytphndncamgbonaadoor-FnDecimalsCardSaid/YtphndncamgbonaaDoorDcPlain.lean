/-
  Plain mathematics of decimals: powers of ten, rounding down, the format. No program is named here.
-/
import Derived.Test.YtphndncamgbonaaDoorPiPlain
import Derived.Test.YtphndncamgbonaaDoorFrPlain
namespace Go.Proofs.YtphndncamgbonaaDoor.Num
open Go

def p10 (p : Nat) : Nat := 10 ^ p
theorem p10_zero : p10 0 = 1 := rfl
theorem p10_succ (p : Nat) : p10 (p + 1) = p10 p * 10 := rfl
theorem p10_bd {p : Nat} (h : p ≤ 6) : 1 ≤ p10 p ∧ p10 p ≤ 1000000 := by
  unfold p10
  have h1 := Nat.pow_le_pow_right (show 1 ≤ 10 by decide) h
  have h2 := Nat.pow_le_pow_right (show 1 ≤ 10 by decide) (Nat.zero_le p)
  have e : (10 : Nat) ^ 6 = 1000000 := by decide
  omega

theorem tmod_bd (a b : Int) (hb : 0 < b) : -b < a.tmod b ∧ a.tmod b < b := by
  have h := Int.natAbs_tmod a b
  have h2 := Nat.mod_lt a.natAbs (show 0 < b.natAbs by omega)
  omega
theorem tdiv_mul (a b : Int) : a.tdiv b * b = a - a.tmod b := by
  have := Int.tdiv_mul_add_tmod a b
  omega
theorem fl_neg {a b : Int} (hb : 0 < b) (h : a.tmod b < 0) : a / b = a.tdiv b - 1 := by
  obtain ⟨h1, h2⟩ := tmod_bd a b hb
  have e := tdiv_mul a b
  refine ((Int.ediv_emod_unique (r := a.tmod b + b) (q := a.tdiv b - 1) hb).2 ⟨?_, by omega, by omega⟩).1
  rw [Int.mul_sub, Int.mul_comm b (a.tdiv b), Int.mul_one]
  omega
theorem fl_pos {a b : Int} (hb : 0 < b) (h : ¬ a.tmod b < 0) : a / b = a.tdiv b := by
  obtain ⟨h1, h2⟩ := tmod_bd a b hb
  have e := tdiv_mul a b
  refine ((Int.ediv_emod_unique (r := a.tmod b) (q := a.tdiv b) hb).2 ⟨?_, by omega, by omega⟩).1
  rw [Int.mul_comm b (a.tdiv b)]
  omega
theorem tdiv_bd (a b : Int) : (a.tdiv b).natAbs ≤ a.natAbs := by
  rw [Int.natAbs_tdiv]; exact Nat.div_le_self _ _
theorem tdm_bd (a b : Int) : (a.tdiv b * b).natAbs ≤ a.natAbs := by
  rw [Int.natAbs_mul, Int.natAbs_tdiv]; exact Nat.div_mul_le_self _ _
theorem fl_bd {a b : Int} (hb : 0 < b) : (a / b).natAbs ≤ a.natAbs + 1 := by
  have := tdiv_bd a b
  by_cases h : a.tmod b < 0
  · rw [fl_neg hb h]; omega
  · rw [fl_pos hb h]; omega

theorem mul_pw {n : Int} {f : Nat} (h1 : -999999999 ≤ n) (h2 : n ≤ 999999999) (h3 : f ≤ 1000000) : (n * (f : Int)).natAbs ≤ 999999999000000 := by
  have h := Nat.mul_le_mul (show n.natAbs ≤ 999999999 by omega) h3
  rw [Int.natAbs_mul]
  simpa using h

/-- l with zeros ahead, to at least k bytes. -/
def padZ (k : Nat) (l : List UInt8) : List UInt8 := List.replicate (k - l.length) 48 ++ l
theorem padZ_of {k j : Nat} {l : List UInt8} (h : j = k - l.length) : List.replicate j 48 ++ l = padZ k l := by unfold padZ; rw [h]
theorem padZ_len (k : Nat) (l : List UInt8) : (padZ k l).length = (k - l.length) + l.length := by unfold padZ; simp

/-- The digits of a decimal with p places. -/
def body (p : Nat) (D : List UInt8) : List UInt8 := if p = 0 then padZ (p + 1) D else (padZ (p + 1) D).take ((padZ (p + 1) D).length - p) ++ 46 :: (padZ (p + 1) D).drop ((padZ (p + 1) D).length - p)
theorem body_zero (D : List UInt8) : body 0 D = padZ 1 D := rfl
theorem body_pos {p : Nat} (h : p ≠ 0) (D : List UInt8) : body p D = (padZ (p + 1) D).take ((padZ (p + 1) D).length - p) ++ 46 :: (padZ (p + 1) D).drop ((padZ (p + 1) D).length - p) := by unfold body; rw [if_neg h]

/-- m / 10^p with p places. -/
def decF (m : Int) (p : Nat) : List UInt8 := (if m < 0 then [45] else []) ++ body p (Lib.decDigits m.natAbs)
theorem decF_neg {m : Int} (h : m < 0) (p : Nat) : decF m p = 45 :: body p (Lib.decDigits m.natAbs) := by unfold decF; rw [if_pos h]; rfl
theorem decF_pos {m : Int} (h : ¬ m < 0) (p : Nat) : decF m p = body p (Lib.decDigits m.natAbs) := by unfold decF; rw [if_neg h]; rfl

theorem dig_len (u : Nat) (h : (u : Int) ≤ 9223372036854775807) : 1 ≤ (Lib.decDigits u).length ∧ (Lib.decDigits u).length ≤ 21 := by
  have h1 := Lib.itoa_length_le (u : Int) (by omega) h
  rw [Lib.itoa_nonneg] at h1
  have h2 : (Lib.decDigits u).length ≠ 0 := fun e => dec_ne u (List.eq_nil_of_length_eq_zero e)
  omega

theorem padZ_one {D : List UInt8} (h : 1 ≤ D.length) : padZ 1 D = D := by unfold padZ; rw [show 1 - D.length = 0 by omega]; rfl

theorem zcat (j : Nat) (D : List UInt8) : (48 : UInt8) :: (List.replicate j 48 ++ D) = List.replicate (j + 1) 48 ++ D := by rw [List.replicate_succ]; rfl

/-- What DecimalDown and DecimalUp say. -/
def downF (n d : Int) (p : Nat) : List UInt8 := decF (n * (p10 p : Int) / d) p
def upF (n d : Int) (p : Nat) : List UInt8 := decF (-(-n * (p10 p : Int) / d)) p
end Go.Proofs.YtphndncamgbonaaDoor.Num
