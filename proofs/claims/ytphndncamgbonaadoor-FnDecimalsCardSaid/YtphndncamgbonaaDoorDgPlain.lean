/-
  Plain mathematics: the digits of a decimal read back as a number; rounding down and up enclose. No program is named here.
-/
import Derived.Test.YtphndncamgbonaaDoorDcPlain
namespace Go.Proofs.YtphndncamgbonaaDoor.Num
open Go

/-- One byte of the reading. -/
def dgN (n : Nat) (b : UInt8) : Nat := if 48 ≤ b.toNat ∧ b.toNat ≤ 57 ∧ n < 10000000000000000 then n * 10 + (b.toNat - 48) else n
def dgV (l : List UInt8) : Nat := l.foldl dgN 0
def dgS (l : List UInt8) : Bool := l.any fun b => b == 45

theorem dgV_snoc (l : List UInt8) (b : UInt8) : dgV (l ++ [b]) = dgN (dgV l) b := by unfold dgV; rw [List.foldl_append]; rfl
theorem dgS_snoc (l : List UInt8) (b : UInt8) : dgS (l ++ [b]) = (dgS l || b == 45) := by unfold dgS; simp

theorem dgV_bd (l : List UInt8) : dgV l < 100000000000000000 := by
  have H : ∀ (l : List UInt8) (a : Nat), a < 100000000000000000 → l.foldl dgN a < 100000000000000000 := by
    intro l
    induction l with
    | nil => intro a h; exact h
    | cons b l ih =>
      intro a h
      rw [List.foldl_cons]
      refine ih _ ?_
      unfold dgN
      split <;> omega
  exact H l 0 (by omega)

/-- On digits alone, whose number is small, the reading is the number. -/
theorem dgV_digits : ∀ (l : List UInt8) (a : Nat), (∀ b ∈ l, isD b) → l.foldl (fun n b => n * 10 + (b.toNat - 48)) a < 10000000000000000 → l.foldl dgN a = l.foldl (fun n b => n * 10 + (b.toNat - 48)) a
  | [], _, _, _ => rfl
  | b :: l, a, hd, hb => by
    have hmono : ∀ (r : List UInt8) (x : Nat), x ≤ r.foldl (fun n b => n * 10 + (b.toNat - 48)) x := by
      intro r
      induction r with
      | nil => intro x; exact Nat.le_refl _
      | cons c r ih => intro x; rw [List.foldl_cons]; exact Nat.le_trans (by omega) (ih _)
    rw [List.foldl_cons] at hb ⊢
    rw [List.foldl_cons]
    have h1 := hmono l (a * 10 + (b.toNat - 48))
    have hD := hd b (by simp)
    unfold isD at hD
    have e : dgN a b = a * 10 + (b.toNat - 48) := by unfold dgN; rw [if_pos ⟨hD.1, hD.2, by omega⟩]
    rw [e]
    exact dgV_digits l _ (fun c hc => hd c (by simp [hc])) hb

theorem val_zeros (j : Nat) (l : List UInt8) : val (List.replicate j 48 ++ l) = val l := by
  unfold val
  induction j with
  | zero => rfl
  | succ j ih => rw [List.replicate_succ, List.cons_append, List.foldl_cons]; exact ih

theorem padZ_dig {k u : Nat} : ∀ b ∈ padZ k (Lib.decDigits u), isD b := by
  intro b hb
  unfold padZ at hb
  rcases List.mem_append.1 hb with h | h
  · rw [List.mem_replicate] at h; rw [h.2]; unfold isD; decide
  · exact dec_all u b h

theorem dgV_dot (x y : List UInt8) : (x ++ 46 :: y).foldl dgN 0 = (x ++ y).foldl dgN 0 := by
  rw [List.foldl_append, List.foldl_append, List.foldl_cons]
  have : ∀ n, dgN n 46 = n := fun n => by unfold dgN; rw [if_neg (fun h => absurd h.1 (by decide))]
  rw [this]

theorem body_val {p u : Nat} (h : u < 10000000000000000) : dgV (body p (Lib.decDigits u)) = u := by
  have hv : ∀ k, (padZ k (Lib.decDigits u)).foldl dgN 0 = u := fun k => by
    have e : (padZ k (Lib.decDigits u)).foldl (fun n b => n * 10 + (b.toNat - 48)) 0 = u := by
      show val _ = u
      unfold padZ
      rw [val_zeros, dec_val]
    rw [dgV_digits _ 0 padZ_dig (by rw [e]; exact h), e]
  by_cases hp : p = 0
  · subst hp; exact hv 1
  · unfold dgV
    rw [body_pos hp, dgV_dot, List.take_append_drop]
    exact hv (p + 1)

theorem body_sign {p u : Nat} : dgS (body p (Lib.decDigits u)) = false := by
  have hz : ∀ k, ∀ b ∈ padZ k (Lib.decDigits u), (b == 45) = false := fun k b hb => by
    have := padZ_dig b hb
    unfold isD at this
    rw [beq_eq_false_iff_ne]
    intro e
    rw [e] at this
    simp at this
  unfold dgS
  rw [List.any_eq_false]
  intro b hb
  by_cases hp : p = 0
  · subst hp; rw [hz 1 b hb]; simp
  · rw [body_pos hp] at hb
    rcases List.mem_append.1 hb with h | h
    · rw [hz _ b (List.mem_of_mem_take h)]; simp
    · rcases List.mem_cons.1 h with h | h
      · rw [h]; decide
      · rw [hz _ b (List.mem_of_mem_drop h)]; simp

/-- What digits answers. -/
def dgI (l : List UInt8) : Int := if dgS l = true then -(dgV l : Int) else (dgV l : Int)

theorem dg_dec {m : Int} {p : Nat} (h : m.natAbs < 10000000000000000) : dgI (decF m p) = m := by
  by_cases hm : m < 0
  · rw [decF_neg hm]
    have e1 : dgS (45 :: body p (Lib.decDigits m.natAbs)) = true := by unfold dgS; simp
    have e2 : dgV (45 :: body p (Lib.decDigits m.natAbs)) = m.natAbs := by
      have : dgV (45 :: body p (Lib.decDigits m.natAbs)) = dgV (body p (Lib.decDigits m.natAbs)) := by
        unfold dgV; rw [List.foldl_cons]; rfl
      rw [this, body_val h]
    unfold dgI
    rw [e1, e2, if_pos rfl]; omega
  · rw [decF_pos hm]
    unfold dgI
    rw [body_sign, body_val h]
    simp; omega

/-- Rounding down and up. -/
theorem encl {a d : Int} (hd : 0 < d) : a / d * d ≤ a ∧ a ≤ -(-a / d) * d ∧ -(-a / d) - a / d ≤ 1 ∧ ((-(-a / d) = a / d) ↔ a.tmod d = 0) := by
  have e1 := Int.emod_add_mul_ediv a d
  have e2 := Int.emod_add_mul_ediv (-a) d
  have b1 := Int.emod_nonneg a (show d ≠ 0 by omega)
  have b2 := Int.emod_lt_of_pos a hd
  have b3 := Int.emod_nonneg (-a) (show d ≠ 0 by omega)
  have b4 := Int.emod_lt_of_pos (-a) hd
  obtain ⟨q, hq⟩ : ∃ q, q = a / d := ⟨_, rfl⟩
  obtain ⟨r, hr⟩ : ∃ r, r = -a / d := ⟨_, rfl⟩
  rw [← hq] at e1 ⊢
  rw [← hr] at e2 ⊢
  have hz : a.tmod d = 0 ↔ a % d = 0 := by
    rw [← Int.dvd_iff_tmod_eq_zero, Int.dvd_iff_emod_eq_zero]
  have c1 : q * d = d * q := Int.mul_comm _ _
  have c2 : -r * d = -(d * r) := by rw [Int.neg_mul, Int.mul_comm]
  have hs : d * (q + r) = -(a % d) - (-a) % d := by rw [Int.mul_add]; omega
  have h1 : -2 < q + r := by
    rcases Int.lt_or_le (-2) (q + r) with h | h
    · exact h
    · have := Int.mul_le_mul_of_nonneg_left h (show 0 ≤ d by omega); omega
  have h2 : q + r ≤ 0 := by
    rcases Int.lt_or_le 0 (q + r) with h | h
    · have := Int.mul_le_mul_of_nonneg_left (show 1 ≤ q + r by omega) (show 0 ≤ d by omega); omega
    · exact h
  refine ⟨by omega, by omega, by omega, ?_⟩
  rw [hz]
  constructor
  · intro h
    have : q + r = 0 := by omega
    rw [this] at hs
    omega
  · intro h
    rcases Int.lt_or_le (q + r) 0 with hlt | hge
    · have e : q + r = -1 := by omega
      rw [e] at hs
      omega
    · omega

theorem encl2 {a d : Int} (hd : 0 < d) : a - d < a / d * d ∧ -(-a / d) * d < a + d := by
  have e1 := Int.emod_add_mul_ediv a d
  have e2 := Int.emod_add_mul_ediv (-a) d
  have b2 := Int.emod_lt_of_pos a hd
  have b4 := Int.emod_lt_of_pos (-a) hd
  have c1 : a / d * d = d * (a / d) := Int.mul_comm _ _
  have c2 : -(-a / d) * d = -(d * (-a / d)) := by rw [Int.neg_mul, Int.mul_comm]
  omega
end Go.Proofs.YtphndncamgbonaaDoor.Num
