/-
  The plain mathematics of the fixed-width encoding: no program is named here.
-/
import Derived.Test.YtmdakincddeccaaDoorVarPlain
namespace Go.Proofs.YtmdakincddeccaaDoor.Num
open Go

/-- The last m bytes of n, the most significant first. -/
def fixL : Nat → Nat → List UInt8
  | 0, _ => []
  | m + 1, n => fixL m (n / 256) ++ [UInt8.ofNat (n % 256)]

/-- What EncodeFixed answers at a width in range and a number that is not negative. -/
def fixS (m n : Nat) : ByteArray := if n < 256 ^ m then ⟨(fixL m n).toArray⟩ else ⟨#[]⟩

theorem fixL_length : ∀ m n, (fixL m n).length = m
  | 0, _ => rfl
  | m + 1, n => by simp [fixL, fixL_length m]

theorem ef_step {r k m n : Nat} {acc : List UInt8} (h : fixL (r + 1) k ++ acc = fixL m n) : fixL r (k / 256) ++ (UInt8.ofNat (k % 256) :: acc) = fixL m n := by
  rw [← h]; simp [fixL]

theorem ef_lt {r k m n : Nat} (h : k < 256 ^ (r + 1) ↔ n < 256 ^ m) : k / 256 < 256 ^ r ↔ n < 256 ^ m := by
  rw [← h, Nat.pow_succ, Nat.div_lt_iff_lt_mul (by decide)]

theorem cat1 (b : UInt8) (acc : List UInt8) : (⟨#[b]⟩ : ByteArray) ++ (⟨acc.toArray⟩ : ByteArray) = ⟨(b :: acc).toArray⟩ := by
  apply ByteArray.ext
  simp

theorem fixS_yes {m n : Nat} {acc : List UInt8} (h : fixL 0 0 ++ acc = fixL m n) (h' : 0 < 256 ^ 0 ↔ n < 256 ^ m) : fixS m n = ⟨acc.toArray⟩ := by
  unfold fixS
  rw [if_pos (h'.1 (by decide)), ← h]
  rfl
theorem fixS_no {m n k : Nat} (h' : k < 256 ^ 0 ↔ n < 256 ^ m) (hk : k ≠ 0) : fixS m n = ⟨#[]⟩ := by
  unfold fixS
  rw [if_neg (fun h => hk (by have := h'.2 h; simpa using this))]
theorem shr_pow (m n : Nat) : ((n : Int) / 2 ^ (8 * m)) = ((n / 256 ^ m : Nat) : Int) := by
  have e : ((2 : Int) ^ (8 * m)) = ((256 ^ m : Nat) : Int) := by
    have : (256 : Nat) ^ m = 2 ^ (8 * m) := by rw [Nat.pow_mul]
    rw [this]; simp
  rw [e]; omega

theorem shr_fit {m n : Nat} (h : n < 256 ^ m) : ((n : Int) / 2 ^ (8 * m) != 0) = false := by
  rw [shr_pow, Nat.div_eq_of_lt h]; rfl
theorem shr_over {m n : Nat} (h : ¬ n < 256 ^ m) : ((n : Int) / 2 ^ (8 * m) != 0) = true := by
  rw [shr_pow]
  have : 0 < n / 256 ^ m := Nat.div_pos (by omega) (Nat.pow_pos (by decide))
  generalize n / 256 ^ m = q at this ⊢
  simp; omega

theorem set_zero (q : Nat) (acc : List UInt8) (b : UInt8) : (List.replicate (q + 1) (0 : UInt8) ++ acc).set q b = List.replicate q 0 ++ (b :: acc) := by
  rw [List.replicate_succ', List.append_assoc, List.set_append_right _ _ (by simp)]
  simp
theorem fixS_fit {m n k : Nat} {acc : List UInt8} (hf : n < 256 ^ m) (h : fixL 0 k ++ acc = fixL m n) : fixS m n = ⟨acc.toArray⟩ := by
  unfold fixS
  rw [if_pos hf, ← h]
  rfl
end Go.Proofs.YtmdakincddeccaaDoor.Num
