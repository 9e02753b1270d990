/-
  Plain mathematics: fractions, intervals, numerals, cut texts, rows. No program is named here.
-/
import Derived.WalkKit
import Derived.Lib.Small
import Derived.Lib.ItoaMem
import Derived.Lib.ItoaNum
import Derived.Lib.ItoaLen
import Derived.Lib.IndexMore

/-! ### FrPlain -/
namespace Go.Proofs.Ytcfcohnkkgickaa.Num
open Go

theorem gcd_round (x y : Int) : Int.gcd y (x.tmod y) = Int.gcd x y := by
  unfold Int.gcd
  rw [Int.natAbs_tmod, Nat.gcd_comm, ← Nat.gcd_rec, Nat.gcd_comm]

theorem gcdN_round (x y : Nat) : Nat.gcd y (x % y) = Nat.gcd x y := by
  rw [Nat.gcd_comm, ← Nat.gcd_rec, Nat.gcd_comm]

theorem gcd_abs (n : Int) (d : Nat) : Nat.gcd n.natAbs d = Int.gcd n d := rfl

theorem gcd_pos {n d : Int} (h : d ≠ 0) : 1 ≤ Int.gcd n d := Int.gcd_pos_of_ne_zero_right n h

theorem gcd_le {n d : Int} (h : d ≠ 0) : Int.gcd n d ≤ d.natAbs := Nat.le_of_dvd (by omega) (Nat.gcd_dvd_right n.natAbs d.natAbs)

/-- The limits of a fraction; its limits and lowest terms. -/
def limB (n d : Int) : Bool := decide (-999999999 ≤ n ∧ n ≤ 999999999 ∧ 1 ≤ d ∧ d ≤ 10000)
def frB (n d : Int) : Bool := limB n d && decide (Int.gcd n d = 1)

theorem limB_of {n d : Int} (h : limB n d = true) : -999999999 ≤ n ∧ n ≤ 999999999 ∧ 1 ≤ d ∧ d ≤ 10000 := of_decide_eq_true h
theorem limB_yes {n d : Int} (h : -999999999 ≤ n ∧ n ≤ 999999999 ∧ 1 ≤ d ∧ d ≤ 10000) : limB n d = true := decide_eq_true h
theorem limB_no {n d : Int} (h : ¬ (-999999999 ≤ n ∧ n ≤ 999999999 ∧ 1 ≤ d ∧ d ≤ 10000)) : limB n d = false := decide_eq_false h
theorem frB_of {n d : Int} (h : frB n d = true) : (-999999999 ≤ n ∧ n ≤ 999999999 ∧ 1 ≤ d ∧ d ≤ 10000) ∧ Int.gcd n d = 1 := by
  unfold frB at h
  rw [Bool.and_eq_true] at h
  exact ⟨limB_of h.1, of_decide_eq_true h.2⟩
theorem frB_yes {n d : Int} (h : -999999999 ≤ n ∧ n ≤ 999999999 ∧ 1 ≤ d ∧ d ≤ 10000) (hg : Int.gcd n d = 1) : frB n d = true := by
  unfold frB; rw [limB_yes h, decide_eq_true hg]; rfl
theorem frB_no {n d : Int} (h : ¬ (-999999999 ≤ n ∧ n ≤ 999999999 ∧ 1 ≤ d ∧ d ≤ 10000)) : frB n d = false := by
  unfold frB; rw [limB_no h]; rfl
theorem frB_no2 {n d : Int} (hg : ¬ Int.gcd n d = 1) : frB n d = false := by
  unfold frB; rw [decide_eq_false hg]; simp

/-- The lowest terms of n / d, for d other than 0. -/
def rN (n d : Int) : Int := if d < 0 then -(n / (Int.gcd n d : Nat)) else n / (Int.gcd n d : Nat)
def rD (n d : Int) : Int := ((d.natAbs / Int.gcd n d : Nat) : Int)

theorem dvdN (n d : Int) : ((Int.gcd n d : Nat) : Int) ∣ n := Int.gcd_dvd_left n d
theorem dvdD (n d : Int) : ((Int.gcd n d : Nat) : Int) ∣ d := Int.gcd_dvd_right n d

theorem red_pos_N {n d : Int} (h : 0 < d) : n.tdiv (Int.gcd n d : Nat) = rN n d := by
  unfold rN; rw [if_neg (by omega)]; exact Int.tdiv_eq_ediv_of_dvd (dvdN n d)
theorem red_pos_D {n d : Int} (h : 0 < d) : d.tdiv (Int.gcd n d : Nat) = rD n d := by
  unfold rD
  rw [Int.tdiv_eq_ediv_of_dvd (dvdD n d)]
  obtain ⟨k, rfl⟩ := Int.eq_ofNat_of_zero_le (show 0 ≤ d by omega)
  simp
theorem red_neg_N {n d : Int} (h : d < 0) : n.tdiv (-((Int.gcd n d : Nat) : Int)) = rN n d := by
  unfold rN; rw [if_pos h, Int.tdiv_neg, Int.tdiv_eq_ediv_of_dvd (dvdN n d)]
theorem red_neg_D {n d : Int} (h : d < 0) : d.tdiv (-((Int.gcd n d : Nat) : Int)) = rD n d := by
  unfold rD
  rw [Int.tdiv_neg, Int.tdiv_eq_ediv_of_dvd (dvdD n d)]
  obtain ⟨k, hk⟩ : ∃ k : Nat, d = -(k : Int) := ⟨d.natAbs, by omega⟩
  have hd := dvdD n d
  have e : ((d.natAbs : Nat) : Int) = -d := by omega
  rw [Int.natCast_ediv, e, Int.neg_ediv_of_dvd hd]

theorem rD_pos {n d : Int} (h : d ≠ 0) : 1 ≤ rD n d := by
  unfold rD
  have := gcd_le (n := n) h
  have g := gcd_pos (n := n) h
  have : 1 ≤ d.natAbs / Int.gcd n d := (Nat.le_div_iff_mul_le (by omega)).2 (by omega)
  omega
theorem rD_le {n d : Int} : rD n d ≤ d.natAbs := by
  unfold rD
  have := Nat.div_le_self d.natAbs (Int.gcd n d)
  omega
theorem rN_abs {n d : Int} : (rN n d).natAbs = n.natAbs / Int.gcd n d := by
  have h := dvdN n d
  have e : (n / ((Int.gcd n d : Nat) : Int)).natAbs = n.natAbs / Int.gcd n d := by
    rw [Int.natAbs_ediv_of_dvd h]; simp
  unfold rN
  split
  · rw [Int.natAbs_neg, e]
  · exact e
theorem rN_bd {n d : Int} : (rN n d).natAbs ≤ n.natAbs := by
  rw [rN_abs]; exact Nat.div_le_self _ _

theorem red_gcd {n d : Int} (h : d ≠ 0) : Int.gcd (rN n d) (rD n d) = 1 := by
  unfold Int.gcd
  rw [rN_abs]
  unfold rD
  rw [Int.natAbs_natCast]
  exact Nat.gcd_div_gcd_div_gcd_of_pos_right (by omega)

theorem red_frB {n d : Int} (h : d ≠ 0) : frB (rN n d) (rD n d) = limB (rN n d) (rD n d) := by
  unfold frB; rw [decide_eq_true (red_gcd h), Bool.and_true]

theorem red_self {n d : Int} (h : 0 < d) (hg : Int.gcd n d = 1) : rN n d = n ∧ rD n d = d := by
  unfold rN rD
  rw [if_neg (by omega), hg]
  constructor
  · simp
  · simp; omega
theorem red_other {n d : Int} (h : 0 < d) (hg : ¬ Int.gcd n d = 1) : rD n d ≠ d := by
  unfold rD
  have g := gcd_pos (n := n) (d := d) (by omega)
  have := Nat.div_lt_self (n := d.natAbs) (k := Int.gcd n d) (by omega) (by omega)
  omega

theorem rN_neg {n d : Int} (h : d ≠ 0) : rN (-n) (-d) = rN n d := by
  unfold rN
  have e : Int.gcd (-n) (-d) = Int.gcd n d := by simp [Int.gcd]
  rw [e]
  rcases Int.lt_or_gt_of_ne h with h | h
  · rw [if_neg (by omega), if_pos h, Int.neg_ediv_of_dvd (dvdN n d)]
  · rw [if_pos (by omega), if_neg (by omega), Int.neg_ediv_of_dvd (dvdN n d), Int.neg_neg]
theorem rD_neg {n d : Int} : rD (-n) (-d) = rD n d := by
  unfold rD
  have e : Int.gcd (-n) (-d) = Int.gcd n d := by simp [Int.gcd]
  rw [e, Int.natAbs_neg]

/-- Whether both terms may be taken. -/
def termB (n d : Int) : Bool := decide (d ≠ 0 ∧ -1000000000000 ≤ n ∧ n ≤ 1000000000000 ∧ -1000000000000 ≤ d ∧ d ≤ 1000000000000)
end Go.Proofs.Ytcfcohnkkgickaa.Num

/-! ### FcPlain -/
namespace Go.Proofs.Ytcfcohnkkgickaa.Num
open Go

/-- The numerator of Whole. -/
def whN (n : Int) : Int := if -999999999 ≤ n ∧ n ≤ 999999999 then n else 0
theorem whN_yes {n : Int} (h1 : -999999999 ≤ n) (h2 : n ≤ 999999999) : whN n = n := by unfold whN; rw [if_pos ⟨h1, h2⟩]
theorem whN_no {n : Int} (h : n < -999999999 ∨ 999999999 < n) : whN n = 0 := by unfold whN; rw [if_neg (by omega)]

/-- The order of n / d and m / e; 0 where one is none. -/
def cmpA (n d m e : Int) : Int := if frB n d = true ∧ frB m e = true then Lib.compareInt (n * e) (m * d) else 0
theorem cmpA_no1 {n d m e : Int} (h : frB n d = false) : cmpA n d m e = 0 := by unfold cmpA; rw [if_neg (by rw [h]; simp)]
theorem cmpA_no2 {n d m e : Int} (h : frB m e = false) : cmpA n d m e = 0 := by unfold cmpA; rw [if_neg (by rw [h]; simp)]
theorem cmpA_yes {n d m e : Int} (h1 : frB n d = true) (h2 : frB m e = true) : cmpA n d m e = Lib.compareInt (n * e) (m * d) := by unfold cmpA; rw [if_pos ⟨h1, h2⟩]

theorem ci_lt {x y : Int} (h : x < y) : Lib.compareInt x y = -1 := by unfold Lib.compareInt; rw [if_pos h]
theorem ci_gt {x y : Int} (h : y < x) : Lib.compareInt x y = 1 := by unfold Lib.compareInt; rw [if_neg (by omega), if_pos h]
theorem ci_eq {x y : Int} (h : x = y) : Lib.compareInt x y = 0 := by unfold Lib.compareInt; rw [if_neg (by omega), if_neg (by omega)]

theorem mul_bd {n e : Int} (h1 : -999999999 ≤ n) (h2 : n ≤ 999999999) (h3 : 1 ≤ e) (h4 : e ≤ 10000) : -9999999990000 ≤ n * e ∧ n * e ≤ 9999999990000 := by
  have h := Nat.mul_le_mul (show n.natAbs ≤ 999999999 by omega) (show e.natAbs ≤ 10000 by omega)
  rw [← Int.natAbs_mul] at h
  omega
theorem mul_bd2 {d e : Int} (h1 : 1 ≤ d) (h2 : d ≤ 10000) (h3 : 1 ≤ e) (h4 : e ≤ 10000) : 1 ≤ d * e ∧ d * e ≤ 100000000 := by
  have h := Nat.mul_le_mul (show d.natAbs ≤ 10000 by omega) (show e.natAbs ≤ 10000 by omega)
  rw [← Int.natAbs_mul] at h
  have := Int.mul_pos (show 0 < d by omega) (show 0 < e by omega)
  omega

/-- Whether n / d less m / e is a fraction. -/
def subB (n d m e : Int) : Bool := frB n d && (frB m e && limB (rN (n * e - m * d) (d * e)) (rD (n * e - m * d) (d * e)))
end Go.Proofs.Ytcfcohnkkgickaa.Num

/-! ### IvPlain -/
namespace Go.Proofs.Ytcfcohnkkgickaa.Num
open Go

/-- Whether a / b to c / d is an interval. -/
def ivB (a b c d : Int) : Bool := frB a b && (frB c d && decide (cmpA a b c d ≤ 0))
theorem ivB_of {a b c d : Int} (h : ivB a b c d = true) : frB a b = true ∧ frB c d = true ∧ cmpA a b c d ≤ 0 := by
  unfold ivB at h
  rw [Bool.and_eq_true, Bool.and_eq_true] at h
  exact ⟨h.1, h.2.1, of_decide_eq_true h.2.2⟩
theorem ivB_yes {a b c d : Int} (h1 : frB a b = true) (h2 : frB c d = true) (h3 : cmpA a b c d ≤ 0) : ivB a b c d = true := by unfold ivB; rw [h1, h2, decide_eq_true h3]; rfl
theorem ivB_no1 {a b c d : Int} (h1 : frB a b = false) : ivB a b c d = false := by unfold ivB; rw [h1]; rfl
theorem ivB_no2 {a b c d : Int} (h2 : frB c d = false) : ivB a b c d = false := by unfold ivB; rw [h2]; simp
theorem ivB_no3 {a b c d : Int} (h3 : ¬ cmpA a b c d ≤ 0) : ivB a b c d = false := by unfold ivB; rw [decide_eq_false h3]; simp

/-- The value of a valid fraction is told by its order: cmpA is the order of the products. -/
theorem cmpA_le {a b c d : Int} (h1 : frB a b = true) (h2 : frB c d = true) : cmpA a b c d ≤ 0 ↔ a * d ≤ c * b := by
  rw [cmpA_yes h1 h2]
  rcases Int.lt_trichotomy (a * d) (c * b) with h | h | h
  · rw [ci_lt h]; omega
  · rw [ci_eq h]; omega
  · rw [ci_gt h]; omega
theorem cmpA_flip (a b c d : Int) : cmpA c d a b = -cmpA a b c d := by
  unfold cmpA
  by_cases h : frB a b = true ∧ frB c d = true
  · rw [if_pos h, if_pos ⟨h.2, h.1⟩]
    rcases Int.lt_trichotomy (a * d) (c * b) with h | h | h
    · rw [ci_lt h, ci_gt h]; rfl
    · rw [ci_eq h, ci_eq h.symm]; rfl
    · rw [ci_gt h, ci_lt h]
  · rw [if_neg h, if_neg (fun k => h ⟨k.2, k.1⟩)]; rfl
theorem cmpA_bd (a b c d : Int) : -1 ≤ cmpA a b c d ∧ cmpA a b c d ≤ 1 := by
  unfold cmpA
  split
  · unfold Lib.compareInt; split
    · omega
    · split <;> omega
  · omega

/-- Two valid fractions of equal order are the same. -/
theorem frac_ext {a b c d : Int} (h1 : frB a b = true) (h2 : frB c d = true) (h : a * d = c * b) : a = c ∧ b = d := by
  obtain ⟨⟨_, _, b1, _⟩, g1⟩ := frB_of h1
  obtain ⟨⟨_, _, d1, _⟩, g2⟩ := frB_of h2
  have hb : b.natAbs ∣ d.natAbs := by
    have h0 : b.natAbs ∣ a.natAbs * d.natAbs := by rw [← Int.natAbs_mul, h, Int.natAbs_mul]; exact Nat.dvd_mul_left _ _
    exact Nat.Coprime.dvd_of_dvd_mul_left (show Nat.Coprime b.natAbs a.natAbs by unfold Nat.Coprime; rw [Nat.gcd_comm]; exact g1) h0
  have hd : d.natAbs ∣ b.natAbs := by
    have h0 : d.natAbs ∣ c.natAbs * b.natAbs := by rw [← Int.natAbs_mul, ← h, Int.natAbs_mul]; exact Nat.dvd_mul_left _ _
    exact Nat.Coprime.dvd_of_dvd_mul_left (show Nat.Coprime d.natAbs c.natAbs by unfold Nat.Coprime; rw [Nat.gcd_comm]; exact g2) h0
  have e : b = d := by
    have := Nat.dvd_antisymm hb hd
    omega
  refine ⟨?_, e⟩
  rw [e] at h
  exact Int.eq_of_mul_eq_mul_right (by omega) h

def exB (a b c d : Int) : Bool := ivB a b c d && (decide (a = c) && decide (b = d))
def coB (a b c d n m : Int) : Bool := ivB a b c d && (frB n m && (decide (cmpA a b n m ≤ 0) && decide (cmpA n m c d ≤ 0)))
def liB (a b c d e f g h : Int) : Bool := ivB a b c d && (ivB e f g h && (decide (cmpA e f a b ≤ 0) && decide (cmpA c d g h ≤ 0)))
def civ (a b c d e f g h : Int) : Int := if ivB a b c d = true ∧ ivB e f g h = true then (if cmpA c d e f < 0 then -1 else if cmpA g h a b < 0 then 1 else 0) else 0
end Go.Proofs.Ytcfcohnkkgickaa.Num

/-! ### IvMore -/
namespace Go.Proofs.Ytcfcohnkkgickaa.Num
open Go

theorem cmpA_trans {a b c d e f : Int} (h1 : frB a b = true) (h2 : frB c d = true) (h3 : frB e f = true) (p : cmpA a b c d ≤ 0) (q : cmpA c d e f ≤ 0) : cmpA a b e f ≤ 0 := by
  rw [cmpA_le h1 h2] at p
  rw [cmpA_le h2 h3] at q
  rw [cmpA_le h1 h3]
  obtain ⟨⟨_, _, b1, _⟩, _⟩ := frB_of h1
  obtain ⟨⟨_, _, d1, _⟩, _⟩ := frB_of h2
  obtain ⟨⟨_, _, f1, _⟩, _⟩ := frB_of h3
  have e1 : a * d * f ≤ c * b * f := Int.mul_le_mul_of_nonneg_right p (by omega)
  have e2 : c * f * b ≤ e * d * b := Int.mul_le_mul_of_nonneg_right q (by omega)
  have e3 : a * f * d ≤ e * b * d := by
    have r1 : a * f * d = a * d * f := by rw [Int.mul_assoc, Int.mul_comm f d, ← Int.mul_assoc]
    have r2 : c * b * f = c * f * b := by rw [Int.mul_assoc, Int.mul_comm b f, ← Int.mul_assoc]
    have r3 : e * d * b = e * b * d := by rw [Int.mul_assoc, Int.mul_comm d b, ← Int.mul_assoc]
    omega
  exact Int.le_of_mul_le_mul_right e3 (by omega)

theorem cmpA_self (a b : Int) : cmpA a b a b = 0 := by have := cmpA_flip a b a b; omega
theorem ivB_one (n m : Int) : ivB n m n m = frB n m := by unfold ivB; rw [cmpA_self]; cases frB n m <;> rfl

/-- Contains is LiesWithin of a single value. -/
theorem liB_one (a b c d n m : Int) : liB n m n m a b c d = coB a b c d n m := by
  unfold liB coB
  rw [ivB_one]
  cases frB n m <;> cases ivB a b c d <;> rfl

/-- Equal order, equal fractions: where neither is above the other, either may be taken. -/
theorem cmpA_same {a b c d : Int} (h1 : frB a b = true) (h2 : frB c d = true) (h : cmpA a b c d = 0) : a = c ∧ b = d := by
  have e1 := (cmpA_le h1 h2).1 (by omega)
  have e2 := (cmpA_le h2 h1).1 (by have := cmpA_flip a b c d; omega)
  exact frac_ext h1 h2 (by omega)

/-- Whether the two meet: neither lies below the other. -/
def mjB (a b c d e f g h : Int) : Bool := (ivB a b c d && ivB e f g h) && (!decide (cmpA c d e f < 0) && !decide (cmpA g h a b < 0))
def mjL (a b e f : Int) : Int × Int := if 0 < cmpA a b e f then (a, b) else (e, f)
def mjH (c d g h : Int) : Int × Int := if cmpA c d g h < 0 then (c, d) else (g, h)
end Go.Proofs.Ytcfcohnkkgickaa.Num

/-! ### FiPlain -/
namespace Go.Proofs.Ytcfcohnkkgickaa.Num
open Go

/-- The digits of k, none for 0. -/
def dd (k : Nat) : List UInt8 := if k = 0 then [] else Lib.decDigits k

theorem dd_step (k : Nat) (h : k ≠ 0) : dd k = dd (k / 10) ++ [UInt8.ofNat (48 + k % 10)] := by
  unfold dd
  rw [if_neg h]
  by_cases hs : k < 10
  · rw [Lib.decDigits, dif_pos hs, if_pos (by omega), Nat.mod_eq_of_lt hs]; rfl
  · rw [Lib.decDigits, dif_neg hs, if_neg (by omega)]

theorem fi_step {k u : Nat} {acc : List UInt8} (h : dd k ++ acc = dd u) (hk : k ≠ 0) : dd (k / 10) ++ (UInt8.ofNat (48 + k % 10) :: acc) = dd u := by
  rw [← h, dd_step k hk]; simp

theorem fi_end {u : Nat} {acc : List UInt8} (h : dd 0 ++ acc = dd u) : acc = dd u := by rw [← h]; rfl

theorem dd_pos (u : Nat) (h : u ≠ 0) : dd u = Lib.decDigits u := by unfold dd; rw [if_neg h]

theorem itoa_dd (u : Nat) (h : u ≠ 0) : Lib.itoa (u : Int) = dd u := by rw [Lib.itoa_nonneg, dd_pos u h]
theorem itoa_neg_dd (u : Nat) (h : u ≠ 0) : Lib.itoa (-(u : Int)) = 45 :: dd u := by rw [Lib.itoa_neg u (by omega), dd_pos u h]
theorem itoa_zero : Lib.itoa 0 = [48] := by
  rw [show (0 : Int) = ((0 : Nat) : Int) from rfl, Lib.itoa_nonneg, Lib.decDigits, dif_pos (by decide)]
  rfl

theorem dd_len (u : Nat) (h : u ≤ 9223372036854775808) : (dd u).length ≤ 21 := by
  by_cases h0 : u = 0
  · subst h0; decide
  · have := Lib.itoa_length_le (-(u : Int)) (by omega) (by omega)
    rw [itoa_neg_dd u h0] at this
    simp at this
    omega

theorem fi_len {k u : Nat} {acc : List UInt8} (h : dd k ++ acc = dd u) (hu : u ≤ 9223372036854775808) : acc.length ≤ 21 := by
  have := dd_len u hu
  rw [← h, List.length_append] at this
  omega

theorem cat2 (b : UInt8) (acc : List UInt8) : (⟨#[b]⟩ : ByteArray) ++ (⟨acc.toArray⟩ : ByteArray) = ⟨(b :: acc).toArray⟩ := by
  apply ByteArray.ext
  simp

theorem u8m (n : Nat) (h : n < 256) : (UInt8.ofNat n).toNat = n := by simp; omega
end Go.Proofs.Ytcfcohnkkgickaa.Num

/-! ### PiPlain -/
namespace Go.Proofs.Ytcfcohnkkgickaa.Num
open Go

theorem decD_small {u : Nat} (h : u < 10) : Lib.decDigits u = [UInt8.ofNat (48 + u)] := by rw [Lib.decDigits, dif_pos h]
theorem decD_big {u : Nat} (h : ¬ u < 10) : Lib.decDigits u = Lib.decDigits (u / 10) ++ [UInt8.ofNat (48 + u % 10)] := by rw [Lib.decDigits, dif_neg h]

/-- A byte is a digit. -/
def isD (b : UInt8) : Prop := 48 ≤ b.toNat ∧ b.toNat ≤ 57
instance (b : UInt8) : Decidable (isD b) := inferInstanceAs (Decidable (_ ∧ _))

/-- The number that a list of digits writes. -/
def val (l : List UInt8) : Nat := l.foldl (fun n b => n * 10 + (b.toNat - 48)) 0
theorem val_snoc (l : List UInt8) (b : UInt8) : val (l ++ [b]) = val l * 10 + (b.toNat - 48) := by unfold val; rw [List.foldl_append]; rfl

theorem dec_all : ∀ (u : Nat), ∀ b ∈ Lib.decDigits u, isD b := by
  intro u
  induction u using Nat.strongRecOn with
  | _ u ih =>
    intro b hb
    by_cases h : u < 10
    · rw [decD_small h, List.mem_singleton] at hb
      subst hb
      unfold isD
      rw [u8m _ (by omega)]
      omega
    · rw [decD_big h, List.mem_append] at hb
      rcases hb with hb | hb
      · exact ih (u / 10) (by omega) b hb
      · rw [List.mem_singleton] at hb
        subst hb
        unfold isD
        rw [u8m _ (by omega)]
        omega

theorem dec_val : ∀ (u : Nat), val (Lib.decDigits u) = u := by
  intro u
  induction u using Nat.strongRecOn with
  | _ u ih =>
    by_cases h : u < 10
    · rw [decD_small h]
      show 0 * 10 + ((UInt8.ofNat (48 + u)).toNat - 48) = u
      rw [u8m _ (by omega)]
      omega
    · rw [decD_big h, val_snoc, ih (u / 10) (by omega), u8m _ (by omega)]
      omega

theorem dec_len : ∀ (k u : Nat), u < 10 ^ (k + 1) → (Lib.decDigits u).length ≤ k + 1
  | 0, u, h => by rw [decD_small (by simpa using h)]; simp
  | k + 1, u, h => by
    by_cases hs : u < 10
    · rw [decD_small hs]; simp
    · rw [decD_big hs]
      have := dec_len k (u / 10) (by rw [Nat.pow_succ] at h; omega)
      simp; omega

theorem dec_len9 (u : Nat) (h : u ≤ 999999999) : (Lib.decDigits u).length ≤ 9 := by
  have e : (10 : Nat) ^ (8 + 1) = 1000000000 := by decide
  exact dec_len 8 u (by omega)

theorem dec_ne (u : Nat) : Lib.decDigits u ≠ [] := by
  by_cases h : u < 10
  · rw [decD_small h]; simp
  · rw [decD_big h]; simp

theorem val_bd : ∀ (k : Nat) (l : List UInt8), (∀ b ∈ l, isD b) → l.length ≤ k → val l < 10 ^ k := by
  intro k l
  have H : ∀ (r : List UInt8) (a : Nat), (∀ b ∈ r, isD b) → r.foldl (fun n b => n * 10 + (b.toNat - 48)) a < (a + 1) * 10 ^ r.length := by
    intro r
    induction r with
    | nil => intro a _; simp
    | cons c r ih =>
      intro a hd
      have hc := hd c (by simp)
      unfold isD at hc
      have h := ih (a * 10 + (c.toNat - 48)) (fun b hb => hd b (by simp [hb]))
      rw [List.foldl_cons, List.length_cons, Nat.pow_succ]
      refine Nat.lt_of_lt_of_le h ?_
      rw [Nat.mul_comm (10 ^ r.length) 10, ← Nat.mul_assoc]
      exact Nat.mul_le_mul_right _ (by omega)
  intro hd hl
  have := H l 0 hd
  simp only [Nat.zero_add, Nat.one_mul] at this
  exact Nat.lt_of_lt_of_le this (Nat.pow_le_pow_right (by decide) hl)

/-- What ParseInt reads. -/
def PIok (l : List UInt8) (n : Int) : Prop := -999999999 ≤ n ∧ n ≤ 999999999 ∧ l = Lib.itoa n

/-- A text as sign and rest. -/
def Cut (l d : List UInt8) (neg : Bool) : Prop := (neg = true ∧ l = 45 :: d) ∨ (neg = false ∧ l = d ∧ d.head? ≠ some 45)

/-- The number of sign and rest. -/
def sg (neg : Bool) (u : Nat) : Int := if neg then -(u : Int) else u

theorem cut_ok {l d : List UInt8} {neg : Bool} (hc : Cut l d neg) {m : Int} (h : PIok l m) : ∃ u : Nat, u ≤ 999999999 ∧ d = Lib.decDigits u ∧ m = sg neg u := by
  obtain ⟨h1, h2, h3⟩ := h
  rcases Int.lt_or_le m 0 with hm | hm
  · obtain ⟨u, rfl⟩ : ∃ u : Nat, m = -(u : Int) := ⟨m.natAbs, by omega⟩
    rw [Lib.itoa_neg u (by omega)] at h3
    rcases hc with ⟨rfl, hc⟩ | ⟨rfl, rfl, hc⟩
    · rw [hc] at h3
      exact ⟨u, by omega, (List.cons.inj h3).2, rfl⟩
    · rw [h3] at hc
      simp at hc
  · obtain ⟨u, rfl⟩ := Int.eq_ofNat_of_zero_le hm
    rw [Lib.itoa_nonneg] at h3
    rcases hc with ⟨rfl, hc⟩ | ⟨rfl, rfl, hc⟩
    · rw [hc] at h3
      have := dec_all u 45 (by rw [← h3]; simp)
      unfold isD at this
      simp at this
    · exact ⟨u, by omega, h3, rfl⟩

theorem PIok_unique {l : List UInt8} {n m : Int} (h : PIok l n) (h' : PIok l m) : n = m := by
  have hcut : ∃ d neg, Cut l d neg := by
    cases l with
    | nil => exact ⟨[], false, .inr ⟨rfl, rfl, by simp⟩⟩
    | cons b r =>
      by_cases hb : b = 45
      · subst hb; exact ⟨r, true, .inl ⟨rfl, rfl⟩⟩
      · exact ⟨b :: r, false, .inr ⟨rfl, rfl, by simpa using hb⟩⟩
  obtain ⟨d, neg, hc⟩ := hcut
  obtain ⟨u, _, h1, rfl⟩ := cut_ok hc h
  obtain ⟨v, _, h2, rfl⟩ := cut_ok hc h'
  have : u = v := by rw [← dec_val u, ← h1, h2, dec_val]
  rw [this]

/-- What both functions answer: the number, or that there is none. -/
def PIans (l : List UInt8) (n : Int) (ok : Bool) : Prop := (ok = true ∧ PIok l n) ∨ (ok = false ∧ n = 0 ∧ ∀ m, ¬ PIok l m)

theorem PIans_unique {l : List UInt8} {n m : Int} {a b : Bool} (h : PIans l n a) (h' : PIans l m b) : n = m ∧ a = b := by
  rcases h with ⟨rfl, h⟩ | ⟨rfl, rfl, h⟩ <;> rcases h' with ⟨rfl, h'⟩ | ⟨rfl, rfl, h'⟩
  · exact ⟨PIok_unique h h', rfl⟩
  · exact absurd h (h' n)
  · exact absurd h' (h m)
  · exact ⟨rfl, rfl⟩

/-! The model counts digits wherever they stand. -/
def fN (l : List UInt8) : Nat := l.foldl (fun n b => if isD b then n * 10 + (b.toNat - 48) else n) 0
def fK (l : List UInt8) : Nat := l.foldl (fun n b => if isD b then n + 1 else n) 0
theorem fN_snoc (l : List UInt8) (b : UInt8) : fN (l ++ [b]) = if isD b then fN l * 10 + (b.toNat - 48) else fN l := by unfold fN; rw [List.foldl_append]; rfl
theorem fK_snoc (l : List UInt8) (b : UInt8) : fK (l ++ [b]) = if isD b then fK l + 1 else fK l := by unfold fK; rw [List.foldl_append]; rfl

theorem fN_digits (l : List UInt8) (a : Nat) (h : ∀ b ∈ l, isD b) : l.foldl (fun n b => if isD b then n * 10 + (b.toNat - 48) else n) a = l.foldl (fun n b => n * 10 + (b.toNat - 48)) a := by
  induction l generalizing a with
  | nil => rfl
  | cons c l ih =>
    rw [List.foldl_cons, List.foldl_cons, if_pos (h c (by simp))]
    exact ih _ (fun b hb => h b (by simp [hb]))
theorem fK_digits (l : List UInt8) (a : Nat) (h : ∀ b ∈ l, isD b) : l.foldl (fun n b => if isD b then n + 1 else n) a = a + l.length := by
  induction l generalizing a with
  | nil => rfl
  | cons c l ih =>
    rw [List.foldl_cons, if_pos (h c (by simp)), ih _ (fun b hb => h b (by simp [hb])), List.length_cons]
    omega

theorem cut_fold {l d : List UInt8} {neg : Bool} (hc : Cut l d neg) (hd : ∀ b ∈ d, isD b) : fN l = val d ∧ fK l = d.length := by
  have hN : fN d = val d := fN_digits d 0 hd
  have hK : fK d = d.length := by have := fK_digits d 0 hd; rw [Nat.zero_add] at this; exact this
  rcases hc with ⟨_, rfl⟩ | ⟨_, rfl, _⟩
  · have n45 : ¬ isD 45 := by decide
    constructor
    · rw [← hN]; unfold fN; rw [List.foldl_cons, if_neg n45]
    · rw [← hK]; unfold fK; rw [List.foldl_cons, if_neg n45]
  · exact ⟨hN, hK⟩

theorem fN_bd (l : List UInt8) : fN l < 10 ^ fK l := by
  have H : ∀ (r : List UInt8) (a k : Nat), a < 10 ^ k → r.foldl (fun n b => if isD b then n * 10 + (b.toNat - 48) else n) a < 10 ^ (r.foldl (fun n b => if isD b then n + 1 else n) k) := by
    intro r
    induction r with
    | nil => intro a k h; exact h
    | cons c r ih =>
      intro a k h
      rw [List.foldl_cons, List.foldl_cons]
      by_cases hc : isD c
      · rw [if_pos hc, if_pos hc]
        refine ih _ _ ?_
        unfold isD at hc
        rw [Nat.pow_succ]
        omega
      · rw [if_neg hc, if_neg hc]
        exact ih _ _ h
  exact H l 0 0 (by decide)

theorem fK_le (l : List UInt8) : fK l ≤ l.length := by
  have H : ∀ (r : List UInt8) (k : Nat), r.foldl (fun n b => if isD b then n + 1 else n) k ≤ k + r.length := by
    intro r
    induction r with
    | nil => intro k; simp
    | cons c r ih =>
      intro k
      rw [List.foldl_cons, List.length_cons]
      by_cases hc : isD c
      · rw [if_pos hc]; have := ih (k + 1); omega
      · rw [if_neg hc]; have := ih k; omega
  have := H l 0
  rw [Nat.zero_add] at this
  exact this

theorem pi_none {l d : List UInt8} {neg : Bool} (hc : Cut l d neg) (h : ∀ u, u ≤ 999999999 → d = Lib.decDigits u → l = Lib.itoa (sg neg u) → False) : PIans l 0 false :=
  .inr ⟨rfl, rfl, fun m hm => by
    obtain ⟨u, h1, h2, h3⟩ := cut_ok hc hm
    exact h u h1 h2 (by rw [← h3]; exact hm.2.2)⟩

theorem pi_many {l d : List UInt8} {neg : Bool} (hc : Cut l d neg) (hk : 9 < fK l) : PIans l 0 false := by
  refine pi_none hc fun u h1 h2 _ => ?_
  have := (cut_fold hc (by rw [h2]; exact dec_all u)).2
  have := dec_len9 u h1
  rw [← h2] at this
  omega

theorem pi_long {l d : List UInt8} {neg : Bool} (hc : Cut l d neg) (hk : 10 < l.length) : PIans l 0 false := by
  refine pi_none hc fun u h1 h2 _ => ?_
  have := dec_len9 u h1
  rw [← h2] at this
  rcases hc with ⟨_, rfl⟩ | ⟨_, rfl, _⟩
  · simp at hk; omega
  · omega

theorem pi_other {l d : List UInt8} {neg : Bool} (hc : Cut l d neg) (hne : ¬ l = Lib.itoa (sg neg (fN l))) : PIans l 0 false := by
  refine pi_none hc fun u h1 h2 h3 => hne ?_
  have := (cut_fold hc (by rw [h2]; exact dec_all u)).1
  rw [h2, dec_val] at this
  rw [this]
  exact h3

theorem pi_yes {l : List UInt8} {neg : Bool} (hk : fK l ≤ 9) (he : l = Lib.itoa (sg neg (fN l))) : PIans l (sg neg (fN l)) true := by
  have h1 := fN_bd l
  have h2 : 10 ^ fK l ≤ 10 ^ 9 := Nat.pow_le_pow_right (by decide) hk
  have e : (10 : Nat) ^ 9 = 1000000000 := by decide
  refine .inl ⟨rfl, ?_, ?_, he⟩
  · unfold sg; split <;> omega
  · unfold sg; split <;> omega
end Go.Proofs.Ytcfcohnkkgickaa.Num

/-! ### CutPlain -/
namespace Go.Proofs.Ytcfcohnkkgickaa.Num
open Go

/-- a is what stands in l ahead of the first c, b what stands behind it; 'has': there is one. -/
def CutOn (c : UInt8) (l a b : List UInt8) (has : Bool) : Prop := c ∉ a ∧ ((has = true ∧ l = a ++ c :: b) ∨ (has = false ∧ l = a ∧ b = []))

theorem index1 (c : UInt8) : ∀ l : List UInt8, (Lib.index l [c] = -1 ∧ c ∉ l) ∨ ∃ a b, l = a ++ c :: b ∧ c ∉ a ∧ Lib.index l [c] = (a.length : Int)
  | [] => .inl ⟨rfl, by simp⟩
  | x :: l => by
    by_cases hx : x = c
    · subst hx
      exact .inr ⟨[], l, rfl, by simp, by unfold Lib.index; simp [List.isPrefixOf]⟩
    · have h0 : ([c] : List UInt8).isPrefixOf (x :: l) = false := by simp [List.isPrefixOf]; exact fun e => hx e.symm
      rcases index1 c l with ⟨h1, h2⟩ | ⟨a, b, rfl, h2, h3⟩
      · exact .inl ⟨by unfold Lib.index; rw [h0, h1]; rfl, by simp; exact ⟨fun e => hx e.symm, h2⟩⟩
      · refine .inr ⟨x :: a, b, rfl, by simp; exact ⟨fun e => hx e.symm, h2⟩, ?_⟩
        unfold Lib.index
        rw [h0, h3]
        have : ((a.length : Int) == -1) = false := by rw [beq_eq_false_iff_ne]; omega
        rw [this]
        simp

theorem cut_on (c : UInt8) (l : List UInt8) : CutOn c l (Lib.cut l [c]).1 (Lib.cut l [c]).2.1 (Lib.cut l [c]).2.2 := by
  unfold Lib.cut
  rcases index1 c l with ⟨h1, h2⟩ | ⟨a, b, rfl, h2, h3⟩
  · rw [h1]
    exact ⟨h2, .inr ⟨rfl, rfl, rfl⟩⟩
  · rw [h3, if_pos (by omega)]
    have e : ((a.length : Int)).toNat = a.length := by omega
    have e2 : a ++ c :: b = (a ++ [c]) ++ b := by simp
    refine ⟨?_, .inl ⟨rfl, ?_⟩⟩
    · simpa [e] using h2
    · simp only [e, List.length_singleton]
      rw [List.take_left' rfl, e2, List.drop_left' (by simp)]
      exact e2.symm

theorem app_unique {c : UInt8} : ∀ {a a' b b' : List UInt8}, c ∉ a → c ∉ a' → a ++ c :: b = a' ++ c :: b' → a = a' ∧ b = b'
  | [], [], b, b', _, _, h => ⟨rfl, by simpa using h⟩
  | [], x :: a', b, b', _, h', h => by simp at h; simp [h.1] at h'
  | x :: a, [], b, b', h', _, h => by simp at h; simp [h.1] at h'
  | x :: a, y :: a', b, b', h1, h2, h => by
    simp only [List.cons_append, List.cons.injEq] at h
    simp only [List.mem_cons, not_or] at h1 h2
    obtain ⟨e1, e2⟩ := app_unique h1.2 h2.2 h.2
    exact ⟨by rw [h.1, e1], e2⟩

/-- The pieces of l between the c. -/
def pieces (c : UInt8) : List UInt8 → List (List UInt8)
  | [] => [[]]
  | b :: l => if b = c then [] :: pieces c l else match pieces c l with | [] => [[b]] | p :: r => (b :: p) :: r

theorem pieces_cut (c : UInt8) : ∀ (a b : List UInt8), c ∉ a → pieces c (a ++ c :: b) = a :: pieces c b
  | [], b, _ => by simp [pieces]
  | x :: a, b, h => by
    simp only [List.mem_cons, not_or] at h
    rw [List.cons_append, pieces, if_neg (fun e => h.1 e.symm), pieces_cut c a b h.2]

theorem pieces_none (c : UInt8) : ∀ (a : List UInt8), c ∉ a → pieces c a = [a]
  | [], _ => rfl
  | x :: a, h => by
    simp only [List.mem_cons, not_or] at h
    rw [pieces, if_neg (fun e => h.1 e.symm), pieces_none c a h.2]

theorem pieces_len (c : UInt8) : ∀ (l : List UInt8), 1 ≤ (pieces c l).length ∧ (pieces c l).length ≤ l.length + 1
  | [] => by simp [pieces]
  | x :: l => by
    have ih := pieces_len c l
    rw [pieces]
    split
    · simp only [List.length_cons]; omega
    · split
      · next h => rw [h] at ih; simp at ih
      · next h => rw [h] at ih; simp only [List.length_cons] at ih ⊢; omega
end Go.Proofs.Ytcfcohnkkgickaa.Num

/-! ### FrText -/
namespace Go.Proofs.Ytcfcohnkkgickaa.Num
open Go

/-- The format of n / d. -/
def fmtF (n d : Int) : List UInt8 := if frB n d = true then (if d = 1 then Lib.itoa n else Lib.itoa n ++ 47 :: Lib.itoa d) else []

theorem fmtF_no {n d : Int} (h : frB n d = false) : fmtF n d = [] := by unfold fmtF; rw [h]; rfl
theorem fmtF_one {n : Int} (h : frB n 1 = true) : fmtF n 1 = Lib.itoa n := by unfold fmtF; rw [if_pos h, if_pos rfl]
theorem fmtF_two {n d : Int} (h : frB n d = true) (hd : d ≠ 1) : fmtF n d = Lib.itoa n ++ 47 :: Lib.itoa d := by unfold fmtF; rw [if_pos h, if_neg hd]

theorem itoa_slash (n : Int) : (47 : UInt8) ∉ Lib.itoa n := by
  intro h
  unfold Lib.itoa at h
  split at h
  · rcases List.mem_cons.1 h with h | h
    · cases h
    · have := dec_all _ _ h; unfold isD at this; simp at this
  · have := dec_all _ _ h; unfold isD at this; simp at this

theorem itoa_ne (n : Int) : Lib.itoa n ≠ [] := by
  unfold Lib.itoa
  split
  · simp
  · exact dec_ne _

theorem frB_one {n : Int} (h1 : -999999999 ≤ n) (h2 : n ≤ 999999999) : frB n 1 = true := frB_yes ⟨h1, h2, by omega, by omega⟩ (by simp)

theorem fmt_cut {n d : Int} (h : frB n d = true) {a b : List UInt8} {has : Bool} (hc : CutOn 47 (fmtF n d) a b has) :
    PIok a n ∧ ((d = 1 ∧ has = false) ∨ (d ≠ 1 ∧ has = true ∧ PIok b d)) := by
  obtain ⟨⟨l1, l2, l3, l4⟩, _⟩ := frB_of h
  by_cases hd : d = 1
  · subst hd
    rw [fmtF_one h] at hc
    obtain ⟨hm, ⟨rfl, e⟩ | ⟨rfl, e, _⟩⟩ := hc
    · exact absurd (by rw [e]; simp) (itoa_slash n)
    · exact ⟨⟨l1, l2, e.symm⟩, .inl ⟨rfl, rfl⟩⟩
  · rw [fmtF_two h hd] at hc
    obtain ⟨hm, ⟨rfl, e⟩ | ⟨rfl, e, _⟩⟩ := hc
    · obtain ⟨rfl, rfl⟩ := app_unique (itoa_slash n) hm e
      exact ⟨⟨l1, l2, rfl⟩, .inr ⟨hd, rfl, by omega, by omega, rfl⟩⟩
    · rw [← e] at hm
      exact absurd (by simp) hm

/-- What both functions read: a fraction, or that there is none. -/
def PFans (l : List UInt8) (n d : Int) (ok : Bool) : Prop := (ok = true ∧ frB n d = true ∧ l = fmtF n d) ∨ (ok = false ∧ n = 0 ∧ d = 0 ∧ ∀ m e, frB m e = true → l ≠ fmtF m e)

theorem cut_any (c : UInt8) (l : List UInt8) : ∃ a b has, CutOn c l a b has := ⟨_, _, _, cut_on c l⟩

theorem fmt_unique {n d m e : Int} (h : frB n d = true) (h' : frB m e = true) (heq : fmtF n d = fmtF m e) : n = m ∧ d = e := by
  obtain ⟨a, b, has, hc⟩ := cut_any 47 (fmtF n d)
  obtain ⟨p1, q1⟩ := fmt_cut h hc
  rw [heq] at hc
  obtain ⟨p2, q2⟩ := fmt_cut h' hc
  refine ⟨PIok_unique p1 p2, ?_⟩
  rcases q1 with ⟨rfl, h1⟩ | ⟨_, h1, r1⟩ <;> rcases q2 with ⟨rfl, h2⟩ | ⟨_, h2, r2⟩
  · rfl
  · rw [h1] at h2; cases h2
  · rw [h1] at h2; cases h2
  · exact PIok_unique r1 r2

theorem PFans_unique {l : List UInt8} {n d m e : Int} {x y : Bool} (h : PFans l n d x) (h' : PFans l m e y) : n = m ∧ d = e ∧ x = y := by
  rcases h with ⟨rfl, h, e1⟩ | ⟨rfl, rfl, rfl, h⟩ <;> rcases h' with ⟨rfl, h', e2⟩ | ⟨rfl, rfl, rfl, h'⟩
  · obtain ⟨r1, r2⟩ := fmt_unique h h' (by rw [← e1, ← e2])
    exact ⟨r1, r2, rfl⟩
  · exact absurd e1 (h' _ _ h)
  · exact absurd e2 (h _ _ h')
  · exact ⟨rfl, rfl, rfl⟩

/-- The numbers ahead of and behind the stroke (1 where there is none). -/
def DenAns (b : List UInt8) (has : Bool) (den : Int) : Prop := (has = false ∧ den = 1) ∨ (has = true ∧ ∃ k, PIans b den k)

theorem pf_no {l a b : List UInt8} {has k : Bool} {num den : Int} (hc : CutOn 47 l a b has) (ha : PIans a num k) (hb : DenAns b has den) (hne : l ≠ fmtF num den) : PFans l 0 0 false := by
  refine .inr ⟨rfl, rfl, rfl, fun m e h heq => hne ?_⟩
  rw [heq] at hc
  obtain ⟨p1, q1⟩ := fmt_cut h hc
  have hm : num = m := by
    rcases ha with ⟨_, ha⟩ | ⟨_, _, ha⟩
    · exact PIok_unique ha p1
    · exact absurd p1 (ha m)
  have he : den = e := by
    rcases q1 with ⟨rfl, h1⟩ | ⟨_, h1, r1⟩ <;> rcases hb with ⟨h2, h3⟩ | ⟨h2, k, h3⟩
    · exact h3
    · rw [h1] at h2; cases h2
    · rw [h1] at h2; cases h2
    · rcases h3 with ⟨_, h3⟩ | ⟨_, _, h3⟩
      · exact PIok_unique h3 r1
      · exact absurd r1 (h3 e)
  rw [hm, he]; exact heq

theorem pf_yes {l : List UInt8} {num den : Int} (hl : l ≠ []) (he : l = fmtF num den) : PFans l num den true := by
  refine .inl ⟨rfl, ?_, he⟩
  cases h : frB num den
  · exact absurd (by rw [he, fmtF_no h]) hl
  · rfl

theorem pf_nil : PFans [] 0 0 false := by
  refine .inr ⟨rfl, rfl, rfl, fun m e h heq => ?_⟩
  obtain ⟨p1, _⟩ := fmt_cut (a := []) (b := []) (has := false) h (by rw [← heq]; exact ⟨by simp, .inr ⟨rfl, rfl, rfl⟩⟩)
  exact itoa_ne m p1.2.2.symm

theorem pf_badnum {l a b : List UInt8} {has : Bool} (hc : CutOn 47 l a b has) (ha : PIans a 0 false) : PFans l 0 0 false := by
  refine .inr ⟨rfl, rfl, rfl, fun m e h heq => ?_⟩
  rw [heq] at hc
  obtain ⟨p1, _⟩ := fmt_cut h hc
  rcases ha with ⟨h', _⟩ | ⟨_, _, ha⟩
  · cases h'
  · exact ha m p1

theorem pf_badden {l a b : List UInt8} (hc : CutOn 47 l a b true) (hb : PIans b 0 false) : PFans l 0 0 false := by
  refine .inr ⟨rfl, rfl, rfl, fun m e h heq => ?_⟩
  rw [heq] at hc
  obtain ⟨_, ⟨_, h1⟩ | ⟨_, _, r1⟩⟩ := fmt_cut h hc
  · cases h1
  · rcases hb with ⟨h', _⟩ | ⟨_, _, hb⟩
    · cases h'
    · exact hb e r1

theorem pf_three {l a b a' b' : List UInt8} (hc : CutOn 47 l a b true) (hc' : CutOn 47 b a' b' true) : PFans l 0 0 false := by
  refine .inr ⟨rfl, rfl, rfl, fun m e h heq => ?_⟩
  rw [heq] at hc
  obtain ⟨_, ⟨_, h1⟩ | ⟨_, _, r1⟩⟩ := fmt_cut h hc
  · cases h1
  · obtain ⟨_, ⟨_, e'⟩ | ⟨h1, _⟩⟩ := hc'
    · refine itoa_slash e ?_
      rw [← r1.2.2, e']
      simp
    · cases h1
end Go.Proofs.Ytcfcohnkkgickaa.Num

/-! ### IvText -/
namespace Go.Proofs.Ytcfcohnkkgickaa.Num
open Go

/-- The format of a / b to c / d. -/
def fmtI (a b c d : Int) : List UInt8 := if ivB a b c d = true then (if a = c ∧ b = d then fmtF a b else fmtF a b ++ 46 :: 46 :: fmtF c d) else []
theorem fmtI_no {a b c d : Int} (h : ivB a b c d = false) : fmtI a b c d = [] := by unfold fmtI; rw [if_neg (by rw [h]; simp)]
theorem fmtI_one {a b : Int} (h : ivB a b a b = true) : fmtI a b a b = fmtF a b := by unfold fmtI; rw [if_pos h, if_pos ⟨rfl, rfl⟩]
theorem fmtI_two {a b c d : Int} (h : ivB a b c d = true) (hne : ¬ (a = c ∧ b = d)) : fmtI a b c d = fmtF a b ++ 46 :: 46 :: fmtF c d := by unfold fmtI; rw [if_pos h, if_neg hne]

theorem itoa_dot (n : Int) : (46 : UInt8) ∉ Lib.itoa n := by
  intro h
  unfold Lib.itoa at h
  split at h
  · rcases List.mem_cons.1 h with h | h
    · cases h
    · have := dec_all _ _ h; unfold isD at this; simp at this
  · have := dec_all _ _ h; unfold isD at this; simp at this

theorem fmtF_dot (n d : Int) : (46 : UInt8) ∉ fmtF n d := by
  unfold fmtF
  split
  · split
    · exact itoa_dot n
    · simp only [List.mem_append, List.mem_cons, not_or]
      exact ⟨itoa_dot n, by decide, itoa_dot d⟩
  · simp

theorem fmtF_ne {n d : Int} (h : frB n d = true) : fmtF n d ≠ [] := by
  intro e
  by_cases hd : d = 1
  · subst hd; rw [fmtF_one h] at e; exact itoa_ne n e
  · rw [fmtF_two h hd] at e; simp at e

/-- What ParseInterval answers. -/
def PIv (l : List UInt8) (a b c d : Int) (ok : Bool) : Prop := (ok = true ∧ ivB a b c d = true ∧ l = fmtI a b c d) ∨ (ok = false ∧ a = 0 ∧ b = 0 ∧ c = 0 ∧ d = 0 ∧ ∀ x y u v, ivB x y u v = true → l ≠ fmtI x y u v)

/-- A format is read back: the text ahead of the first point, and what follows the second. -/
theorem fmtI_cut {x y u v : Int} (h : ivB x y u v = true) {p q : List UInt8} {has : Bool} (hc : CutOn 46 (fmtI x y u v) p q has) :
    p = fmtF x y ∧ ((x = u ∧ y = v ∧ has = false) ∨ (¬ (x = u ∧ y = v) ∧ has = true ∧ q = 46 :: fmtF u v)) := by
  by_cases he : x = u ∧ y = v
  · obtain ⟨rfl, rfl⟩ := he
    rw [fmtI_one h] at hc
    obtain ⟨hm, ⟨rfl, e⟩ | ⟨rfl, e, _⟩⟩ := hc
    · exact absurd (by rw [e]; simp) (fmtF_dot x y)
    · exact ⟨e.symm, .inl ⟨rfl, rfl, rfl⟩⟩
  · rw [fmtI_two h he] at hc
    obtain ⟨hm, ⟨rfl, e⟩ | ⟨rfl, e, _⟩⟩ := hc
    · obtain ⟨rfl, rfl⟩ := app_unique (fmtF_dot x y) hm e
      exact ⟨rfl, .inr ⟨he, rfl, rfl⟩⟩
    · rw [← e] at hm
      exact absurd (by simp) hm

theorem fmtI_unique {a b c d x y u v : Int} (h : ivB a b c d = true) (h' : ivB x y u v = true) (heq : fmtI a b c d = fmtI x y u v) : a = x ∧ b = y ∧ c = u ∧ d = v := by
  obtain ⟨p, q, has, hc⟩ := cut_any 46 (fmtI a b c d)
  obtain ⟨p1, q1⟩ := fmtI_cut h hc
  rw [heq] at hc
  obtain ⟨p2, q2⟩ := fmtI_cut h' hc
  obtain ⟨f1, f2, _⟩ := ivB_of h
  obtain ⟨g1, g2, _⟩ := ivB_of h'
  obtain ⟨rfl, rfl⟩ := fmt_unique f1 g1 (by rw [← p1, ← p2])
  rcases q1 with ⟨rfl, rfl, h1⟩ | ⟨_, h1, r1⟩ <;> rcases q2 with ⟨rfl, rfl, h2⟩ | ⟨_, h2, r2⟩
  · exact ⟨rfl, rfl, rfl, rfl⟩
  · rw [h1] at h2; cases h2
  · rw [h1] at h2; cases h2
  · rw [r1] at r2
    obtain ⟨rfl, rfl⟩ := fmt_unique f2 g2 (List.cons.inj r2).2
    exact ⟨rfl, rfl, rfl, rfl⟩

theorem PIv_unique {l : List UInt8} {a b c d x y u v : Int} {j k : Bool} (h : PIv l a b c d j) (h' : PIv l x y u v k) : a = x ∧ b = y ∧ c = u ∧ d = v ∧ j = k := by
  rcases h with ⟨rfl, h, e1⟩ | ⟨rfl, rfl, rfl, rfl, rfl, h⟩ <;> rcases h' with ⟨rfl, h', e2⟩ | ⟨rfl, rfl, rfl, rfl, rfl, h'⟩
  · obtain ⟨r1, r2, r3, r4⟩ := fmtI_unique h h' (by rw [← e1, ← e2])
    exact ⟨r1, r2, r3, r4, rfl⟩
  · exact absurd e1 (h' _ _ _ _ h)
  · exact absurd e2 (h _ _ _ _ h')
  · exact ⟨rfl, rfl, rfl, rfl, rfl⟩
end Go.Proofs.Ytcfcohnkkgickaa.Num

/-! ### RwPlain -/
namespace Go.Proofs.Ytcfcohnkkgickaa.Num
open Go

/-- Whether a row is valid. -/
def rowB (i g y x : Int) (nl : Bool) : Bool := decide (1 ≤ i ∧ i ≤ 99) && (decide (0 ≤ g ∧ g ≤ 3) && (decide (0 ≤ y ∧ y ≤ 8) && (decide (-99 ≤ x ∧ x ≤ 99) && (!nl || decide (x = 0)))))

theorem rowB_of {i g y x : Int} {nl : Bool} (h : rowB i g y x nl = true) : (1 ≤ i ∧ i ≤ 99) ∧ (0 ≤ g ∧ g ≤ 3) ∧ (0 ≤ y ∧ y ≤ 8) ∧ (-99 ≤ x ∧ x ≤ 99) ∧ (nl = true → x = 0) := by
  unfold rowB at h
  simp only [Bool.and_eq_true, decide_eq_true_eq, Bool.or_eq_true, Bool.not_eq_true'] at h
  obtain ⟨h1, h2, h3, h4, h5⟩ := h
  exact ⟨h1, h2, h3, h4, fun hn => h5.resolve_left (by rw [hn]; simp)⟩

theorem rowB_yes {i g y x : Int} {nl : Bool} (h1 : 1 ≤ i ∧ i ≤ 99) (h2 : 0 ≤ g ∧ g ≤ 3) (h3 : 0 ≤ y ∧ y ≤ 8) (h4 : -99 ≤ x ∧ x ≤ 99) (h5 : nl = true → x = 0) : rowB i g y x nl = true := by
  unfold rowB
  simp only [Bool.and_eq_true, decide_eq_true_eq, Bool.or_eq_true, Bool.not_eq_true']
  refine ⟨h1, h2, h3, h4, ?_⟩
  cases nl
  · exact .inl rfl
  · exact .inr (h5 rfl)

/-- The word null. -/
def nullW : List UInt8 := [110, 117, 108, 108]

/-- X's text. -/
def xT (x : Int) (nl : Bool) : List UInt8 := if nl = true then nullW else Lib.itoa x

/-- The format of a row. -/
def fmtR (i g y x : Int) (nl : Bool) : List UInt8 := if rowB i g y x nl = true then Lib.itoa i ++ 58 :: (Lib.itoa g ++ 44 :: (Lib.itoa y ++ 44 :: xT x nl)) else []

theorem fmtR_no {i g y x : Int} {nl : Bool} (h : rowB i g y x nl = false) : fmtR i g y x nl = [] := by unfold fmtR; rw [if_neg (by rw [h]; simp)]
theorem fmtR_yes {i g y x : Int} {nl : Bool} (h : rowB i g y x nl = true) : fmtR i g y x nl = Lib.itoa i ++ 58 :: (Lib.itoa g ++ 44 :: (Lib.itoa y ++ 44 :: xT x nl)) := by unfold fmtR; rw [if_pos h]

/-- A byte that is no digit and no minus sign is not in a numeral. -/
theorem itoa_not {c : UInt8} (hc : c ≠ 45) (hd : ¬ isD c) (n : Int) : c ∉ Lib.itoa n := by
  intro h
  unfold Lib.itoa at h
  split at h
  · rcases List.mem_cons.1 h with h | h
    · exact hc h
    · exact hd (dec_all _ _ h)
  · exact hd (dec_all _ _ h)
theorem itoa_colon (n : Int) : (58 : UInt8) ∉ Lib.itoa n := itoa_not (by decide) (by unfold isD; decide) n
theorem itoa_comma (n : Int) : (44 : UInt8) ∉ Lib.itoa n := itoa_not (by decide) (by unfold isD; decide) n
theorem itoa_null (n : Int) : Lib.itoa n ≠ nullW := by
  intro h
  exact itoa_not (c := 110) (by decide) (by unfold isD; decide) n (by rw [h]; unfold nullW; simp)

theorem xT_colon (x : Int) (nl : Bool) : (58 : UInt8) ∉ xT x nl := by
  unfold xT
  split
  · unfold nullW; decide
  · exact itoa_colon x
theorem xT_comma (x : Int) (nl : Bool) : (44 : UInt8) ∉ xT x nl := by
  unfold xT
  split
  · unfold nullW; decide
  · exact itoa_comma x

theorem PIok_small {n : Int} (h1 : -99 ≤ n) (h2 : n ≤ 99) : PIok (Lib.itoa n) n := ⟨by omega, by omega, rfl⟩

/-- What stands behind the colon. -/
def tailR (g y x : Int) (nl : Bool) : List UInt8 := Lib.itoa g ++ 44 :: (Lib.itoa y ++ 44 :: xT x nl)
theorem tailR_colon (g y x : Int) (nl : Bool) : (58 : UInt8) ∉ tailR g y x nl := by
  unfold tailR
  simp only [List.mem_append, List.mem_cons, not_or]
  exact ⟨itoa_colon g, by decide, itoa_colon y, by decide, xT_colon x nl⟩

theorem pieces_fmtR {i g y x : Int} {nl : Bool} (h : rowB i g y x nl = true) : pieces 58 (fmtR i g y x nl) = [Lib.itoa i, tailR g y x nl] := by
  rw [fmtR_yes h, pieces_cut _ _ _ (itoa_colon i)]
  show Lib.itoa i :: pieces 58 (tailR g y x nl) = _
  rw [pieces_none _ _ (tailR_colon g y x nl)]
theorem pieces_tailR (g y x : Int) (nl : Bool) : pieces 44 (tailR g y x nl) = [Lib.itoa g, Lib.itoa y, xT x nl] := by
  unfold tailR
  rw [pieces_cut _ _ _ (itoa_comma g), pieces_cut _ _ _ (itoa_comma y), pieces_none _ _ (xT_comma x nl)]

theorem fmtR_ne {i g y x : Int} {nl : Bool} (h : rowB i g y x nl = true) : fmtR i g y x nl ≠ [] := by
  rw [fmtR_yes h]
  simp

/-- Two valid rows of one format are one. -/
theorem fmtR_unique {i g y x i' g' y' x' : Int} {nl nl' : Bool} (h : rowB i g y x nl = true) (h' : rowB i' g' y' x' nl' = true) (he : fmtR i g y x nl = fmtR i' g' y' x' nl') : i = i' ∧ g = g' ∧ y = y' ∧ x = x' ∧ nl = nl' := by
  obtain ⟨a1, a2, a3, a4, a5⟩ := rowB_of h
  obtain ⟨b1, b2, b3, b4, b5⟩ := rowB_of h'
  have p := pieces_fmtR h
  rw [he, pieces_fmtR h'] at p
  simp only [List.cons.injEq, and_true] at p
  obtain ⟨p1, p2⟩ := p
  have q := pieces_tailR g y x nl
  rw [← p2, pieces_tailR] at q
  simp only [List.cons.injEq, and_true] at q
  obtain ⟨q1, q2, q3⟩ := q
  have num : ∀ {n m : Int}, (-99 ≤ n ∧ n ≤ 99) → (-99 ≤ m ∧ m ≤ 99) → Lib.itoa m = Lib.itoa n → n = m := fun hn hm e => PIok_unique (PIok_small hn.1 hn.2) (by rw [← e]; exact PIok_small hm.1 hm.2)
  refine ⟨num (by omega) (by omega) p1, num (by omega) (by omega) q1, num (by omega) (by omega) q2, ?_⟩
  unfold xT at q3
  cases nl <;> cases nl'
  · exact ⟨num a4 b4 (by simpa using q3), rfl⟩
  · exact absurd (by simpa using q3.symm) (itoa_null x)
  · exact absurd (by simpa using q3) (itoa_null x')
  · exact ⟨by rw [a5 rfl, b5 rfl], rfl⟩

/-- What ParseRow answers. -/
def PRow (l : List UInt8) (i g y x : Int) (nl ok : Bool) : Prop := (ok = true ∧ rowB i g y x nl = true ∧ l = fmtR i g y x nl) ∨ (ok = false ∧ i = 0 ∧ g = 0 ∧ y = 0 ∧ x = 0 ∧ nl = false ∧ ∀ i' g' y' x' nl', rowB i' g' y' x' nl' = true → l ≠ fmtR i' g' y' x' nl')

theorem PRow_unique {l : List UInt8} {i g y x i' g' y' x' : Int} {nl nl' ok ok' : Bool} (h : PRow l i g y x nl ok) (h' : PRow l i' g' y' x' nl' ok') : i = i' ∧ g = g' ∧ y = y' ∧ x = x' ∧ nl = nl' ∧ ok = ok' := by
  rcases h with ⟨rfl, h, e⟩ | ⟨rfl, rfl, rfl, rfl, rfl, rfl, h⟩ <;> rcases h' with ⟨rfl, h', e'⟩ | ⟨rfl, rfl, rfl, rfl, rfl, rfl, h'⟩
  · obtain ⟨r1, r2, r3, r4, r5⟩ := fmtR_unique h h' (by rw [← e, ← e'])
    exact ⟨r1, r2, r3, r4, r5, rfl⟩
  · exact absurd e (h' _ _ _ _ _ h)
  · exact absurd e' (h _ _ _ _ _ h')
  · exact ⟨rfl, rfl, rfl, rfl, rfl, rfl⟩

/-- A row whose format is the text: the row is read. -/
theorem PRow_yes {l : List UInt8} {i g y x : Int} {nl : Bool} (hl : l ≠ []) (he : l = fmtR i g y x nl) : PRow l i g y x nl true := by
  refine .inl ⟨rfl, ?_, he⟩
  cases h : rowB i g y x nl
  · exact absurd (by rw [he, fmtR_no h]) hl
  · rfl
theorem PRow_no {l : List UInt8} (h : ∀ i g y x nl, rowB i g y x nl = true → l ≠ fmtR i g y x nl) : PRow l 0 0 0 0 false false := .inr ⟨rfl, rfl, rfl, rfl, rfl, rfl, h⟩

theorem fmtR_len {i g y x : Int} {nl : Bool} : (fmtR i g y x nl).length ≤ 130 := by
  cases h : rowB i g y x nl
  · rw [fmtR_no h]; simp
  · obtain ⟨a1, a2, a3, a4, a5⟩ := rowB_of h
    rw [fmtR_yes h]
    have l1 := Lib.itoa_length_le i (by omega) (by omega)
    have l2 := Lib.itoa_length_le g (by omega) (by omega)
    have l3 := Lib.itoa_length_le y (by omega) (by omega)
    have l4 := Lib.itoa_length_le x (by omega) (by omega)
    simp only [List.length_append, List.length_cons]
    unfold xT nullW
    split
    · simp only [List.length_cons, List.length_nil]; omega
    · omega
end Go.Proofs.Ytcfcohnkkgickaa.Num
