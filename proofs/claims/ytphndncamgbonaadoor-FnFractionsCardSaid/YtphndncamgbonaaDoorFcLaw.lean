/-
  Plain mathematics of FnFractions: the order turned round, the sign of a difference, a format read back. No program is named here.
-/
import Derived.Test.YtphndncamgbonaaDoorFcPlain
import Derived.Test.YtphndncamgbonaaDoorFrText
namespace Go.Proofs.YtphndncamgbonaaDoor.Num
open Go

theorem ci_neg (x y : Int) : Lib.compareInt y x = -Lib.compareInt x y := by
  rcases Int.lt_trichotomy x y with h | h | h
  · rw [ci_lt h, ci_gt h]; rfl
  · rw [ci_eq h, ci_eq h.symm]; rfl
  · rw [ci_gt h, ci_lt h]
theorem cmpA_neg (n d m e : Int) : cmpA m e n d = -cmpA n d m e := by
  unfold cmpA
  by_cases h : frB n d = true ∧ frB m e = true
  · rw [if_pos h, if_pos ⟨h.2, h.1⟩, ci_neg]
  · rw [if_neg h, if_neg (fun k => h ⟨k.2, k.1⟩)]; rfl
theorem cmpA_rng (n d m e : Int) : -1 ≤ cmpA n d m e ∧ cmpA n d m e ≤ 1 := by
  unfold cmpA
  split
  · unfold Lib.compareInt; split
    · omega
    · split <;> omega
  · omega

theorem quo_sign {a : Int} {g : Nat} (hg : 1 ≤ g) (hd : (g : Int) ∣ a) : (0 < a / (g : Int) ↔ 0 < a) ∧ (a / (g : Int) < 0 ↔ a < 0) := by
  obtain ⟨k, rfl⟩ := hd
  have e : (g : Int) * k / (g : Int) = k := Int.mul_ediv_cancel_left k (by omega)
  rw [e]
  have hgp : (0 : Int) < g := by omega
  constructor
  · constructor
    · intro h; exact Int.mul_pos hgp h
    · intro h
      rcases Int.lt_or_le 0 k with hk | hk
      · exact hk
      · have := Int.mul_nonneg (show 0 ≤ (g : Int) by omega) (show 0 ≤ -k by omega); rw [Int.mul_neg] at this; omega
  · constructor
    · intro h
      have := Int.mul_pos hgp (show 0 < -k by omega); rw [Int.mul_neg] at this; omega
    · intro h
      rcases Int.lt_or_le k 0 with hk | hk
      · exact hk
      · have := Int.mul_nonneg (show 0 ≤ (g : Int) by omega) hk; omega

theorem sub_sign {x y u v : Int} (h : subB x y u v = true) : (0 < rN (x * v - u * y) (y * v) ↔ 0 < cmpA x y u v) ∧ (rN (x * v - u * y) (y * v) < 0 ↔ cmpA x y u v < 0) := by
  unfold subB at h
  rw [Bool.and_eq_true, Bool.and_eq_true] at h
  obtain ⟨h1, h2, _⟩ := h
  obtain ⟨⟨_, _, d1, d2⟩, _⟩ := frB_of h1
  obtain ⟨⟨_, _, e1, e2⟩, _⟩ := frB_of h2
  obtain ⟨t1, _⟩ := mul_bd2 d1 d2 e1 e2
  rw [cmpA_yes h1 h2]
  have hr : rN (x * v - u * y) (y * v) = (x * v - u * y) / (Int.gcd (x * v - u * y) (y * v) : Nat) := by unfold rN; rw [if_neg (by omega)]
  rw [hr]
  obtain ⟨q1, q2⟩ := quo_sign (gcd_pos (n := x * v - u * y) (d := y * v) (by omega)) (dvdN (x * v - u * y) (y * v))
  rw [q1, q2]
  rcases Int.lt_trichotomy (x * v) (u * y) with h | h | h
  · rw [ci_lt h]; omega
  · rw [ci_eq h]; omega
  · rw [ci_gt h]; omega

theorem pf_back {x y n d : Int} {ok : Bool} (h : PFans (fmtF x y) n d ok) : ok = frB x y ∧ (frB x y = true → n = x ∧ d = y) := by
  cases hf : frB x y
  · rw [fmtF_no hf] at h
    obtain ⟨_, _, h3⟩ := PFans_unique h pf_nil
    exact ⟨h3, fun h => by cases h⟩
  · obtain ⟨h1, h2, h3⟩ := PFans_unique h (.inl ⟨rfl, hf, rfl⟩)
    exact ⟨h3, fun _ => ⟨h1, h2⟩⟩

/-- The two sides of a sign test agree. -/
theorem sign_bool {X n : Int} (h : (0 < X ↔ 0 < n) ∧ (X < 0 ↔ n < 0)) : ∃ b c : Bool, decide (0 < X) = b ∧ decide (0 < n) = b ∧ decide (X < 0) = c ∧ decide (n < 0) = c :=
  ⟨decide (0 < n), decide (n < 0), by simp [h.1], rfl, by simp [h.2], rfl⟩
end Go.Proofs.YtphndncamgbonaaDoor.Num
