/-
  Plain mathematics of fractions in lowest terms: no program is named here.
-/
import Derived.WalkKit
namespace Go.Proofs.YtdfmidihghoilaaDoor.Num
open Go

theorem gcd_round (x y : Int) : Int.gcd y (x.tmod y) = Int.gcd x y := by
  unfold Int.gcd
  rw [Int.natAbs_tmod, Nat.gcd_comm, ← Nat.gcd_rec, Nat.gcd_comm]

theorem gcdN_round (x y : Nat) : Nat.gcd y (x % y) = Nat.gcd x y := by
  rw [Nat.gcd_comm, ← Nat.gcd_rec, Nat.gcd_comm]

theorem gcd_abs (n : Int) (d : Nat) : Nat.gcd n.natAbs d = Int.gcd n d := rfl

theorem gcd_pos {n d : Int} (h : d ≠ 0) : 1 ≤ Int.gcd n d := Int.gcd_pos_of_ne_zero_right n h

theorem gcd_le {n d : Int} (h : d ≠ 0) : Int.gcd n d ≤ d.natAbs := Nat.le_of_dvd (by omega) (Nat.gcd_dvd_right n.natAbs d.natAbs)

/-- The limits of a fraction; its limits and lowest terms. -/
def limB (n d : Int) : Bool := decide (-999999999 ≤ n ∧ n ≤ 999999999 ∧ 1 ≤ d ∧ d ≤ 10000)
def frB (n d : Int) : Bool := limB n d && decide (Int.gcd n d = 1)

theorem limB_of {n d : Int} (h : limB n d = true) : -999999999 ≤ n ∧ n ≤ 999999999 ∧ 1 ≤ d ∧ d ≤ 10000 := of_decide_eq_true h
theorem limB_yes {n d : Int} (h : -999999999 ≤ n ∧ n ≤ 999999999 ∧ 1 ≤ d ∧ d ≤ 10000) : limB n d = true := decide_eq_true h
theorem limB_no {n d : Int} (h : ¬ (-999999999 ≤ n ∧ n ≤ 999999999 ∧ 1 ≤ d ∧ d ≤ 10000)) : limB n d = false := decide_eq_false h
theorem frB_of {n d : Int} (h : frB n d = true) : (-999999999 ≤ n ∧ n ≤ 999999999 ∧ 1 ≤ d ∧ d ≤ 10000) ∧ Int.gcd n d = 1 := by
  unfold frB at h
  rw [Bool.and_eq_true] at h
  exact ⟨limB_of h.1, of_decide_eq_true h.2⟩
theorem frB_yes {n d : Int} (h : -999999999 ≤ n ∧ n ≤ 999999999 ∧ 1 ≤ d ∧ d ≤ 10000) (hg : Int.gcd n d = 1) : frB n d = true := by
  unfold frB; rw [limB_yes h, decide_eq_true hg]; rfl
theorem frB_no {n d : Int} (h : ¬ (-999999999 ≤ n ∧ n ≤ 999999999 ∧ 1 ≤ d ∧ d ≤ 10000)) : frB n d = false := by
  unfold frB; rw [limB_no h]; rfl
theorem frB_no2 {n d : Int} (hg : ¬ Int.gcd n d = 1) : frB n d = false := by
  unfold frB; rw [decide_eq_false hg]; simp

/-- The lowest terms of n / d, for d other than 0. -/
def rN (n d : Int) : Int := if d < 0 then -(n / (Int.gcd n d : Nat)) else n / (Int.gcd n d : Nat)
def rD (n d : Int) : Int := ((d.natAbs / Int.gcd n d : Nat) : Int)

theorem dvdN (n d : Int) : ((Int.gcd n d : Nat) : Int) ∣ n := Int.gcd_dvd_left n d
theorem dvdD (n d : Int) : ((Int.gcd n d : Nat) : Int) ∣ d := Int.gcd_dvd_right n d

theorem red_pos_N {n d : Int} (h : 0 < d) : n.tdiv (Int.gcd n d : Nat) = rN n d := by
  unfold rN; rw [if_neg (by omega)]; exact Int.tdiv_eq_ediv_of_dvd (dvdN n d)
theorem red_pos_D {n d : Int} (h : 0 < d) : d.tdiv (Int.gcd n d : Nat) = rD n d := by
  unfold rD
  rw [Int.tdiv_eq_ediv_of_dvd (dvdD n d)]
  obtain ⟨k, rfl⟩ := Int.eq_ofNat_of_zero_le (show 0 ≤ d by omega)
  simp
theorem red_neg_N {n d : Int} (h : d < 0) : n.tdiv (-((Int.gcd n d : Nat) : Int)) = rN n d := by
  unfold rN; rw [if_pos h, Int.tdiv_neg, Int.tdiv_eq_ediv_of_dvd (dvdN n d)]
theorem red_neg_D {n d : Int} (h : d < 0) : d.tdiv (-((Int.gcd n d : Nat) : Int)) = rD n d := by
  unfold rD
  rw [Int.tdiv_neg, Int.tdiv_eq_ediv_of_dvd (dvdD n d)]
  obtain ⟨k, hk⟩ : ∃ k : Nat, d = -(k : Int) := ⟨d.natAbs, by omega⟩
  have hd := dvdD n d
  have e : ((d.natAbs : Nat) : Int) = -d := by omega
  rw [Int.natCast_ediv, e, Int.neg_ediv_of_dvd hd]

theorem rD_pos {n d : Int} (h : d ≠ 0) : 1 ≤ rD n d := by
  unfold rD
  have := gcd_le (n := n) h
  have g := gcd_pos (n := n) h
  have : 1 ≤ d.natAbs / Int.gcd n d := (Nat.le_div_iff_mul_le (by omega)).2 (by omega)
  omega
theorem rD_le {n d : Int} : rD n d ≤ d.natAbs := by
  unfold rD
  have := Nat.div_le_self d.natAbs (Int.gcd n d)
  omega
theorem rN_abs {n d : Int} : (rN n d).natAbs = n.natAbs / Int.gcd n d := by
  have h := dvdN n d
  have e : (n / ((Int.gcd n d : Nat) : Int)).natAbs = n.natAbs / Int.gcd n d := by
    rw [Int.natAbs_ediv_of_dvd h]; simp
  unfold rN
  split
  · rw [Int.natAbs_neg, e]
  · exact e
theorem rN_bd {n d : Int} : (rN n d).natAbs ≤ n.natAbs := by
  rw [rN_abs]; exact Nat.div_le_self _ _

theorem red_gcd {n d : Int} (h : d ≠ 0) : Int.gcd (rN n d) (rD n d) = 1 := by
  unfold Int.gcd
  rw [rN_abs]
  unfold rD
  rw [Int.natAbs_natCast]
  exact Nat.gcd_div_gcd_div_gcd_of_pos_right (by omega)

theorem red_frB {n d : Int} (h : d ≠ 0) : frB (rN n d) (rD n d) = limB (rN n d) (rD n d) := by
  unfold frB; rw [decide_eq_true (red_gcd h), Bool.and_true]

theorem red_self {n d : Int} (h : 0 < d) (hg : Int.gcd n d = 1) : rN n d = n ∧ rD n d = d := by
  unfold rN rD
  rw [if_neg (by omega), hg]
  constructor
  · simp
  · simp; omega
theorem red_other {n d : Int} (h : 0 < d) (hg : ¬ Int.gcd n d = 1) : rD n d ≠ d := by
  unfold rD
  have g := gcd_pos (n := n) (d := d) (by omega)
  have := Nat.div_lt_self (n := d.natAbs) (k := Int.gcd n d) (by omega) (by omega)
  omega

theorem rN_neg {n d : Int} (h : d ≠ 0) : rN (-n) (-d) = rN n d := by
  unfold rN
  have e : Int.gcd (-n) (-d) = Int.gcd n d := by simp [Int.gcd]
  rw [e]
  rcases Int.lt_or_gt_of_ne h with h | h
  · rw [if_neg (by omega), if_pos h, Int.neg_ediv_of_dvd (dvdN n d)]
  · rw [if_pos (by omega), if_neg (by omega), Int.neg_ediv_of_dvd (dvdN n d), Int.neg_neg]
theorem rD_neg {n d : Int} : rD (-n) (-d) = rD n d := by
  unfold rD
  have e : Int.gcd (-n) (-d) = Int.gcd n d := by simp [Int.gcd]
  rw [e, Int.natAbs_neg]

/-- Whether both terms may be taken. -/
def termB (n d : Int) : Bool := decide (d ≠ 0 ∧ -1000000000000 ≤ n ∧ n ≤ 1000000000000 ∧ -1000000000000 ≤ d ∧ d ≤ 1000000000000)
end Go.Proofs.YtdfmidihghoilaaDoor.Num
