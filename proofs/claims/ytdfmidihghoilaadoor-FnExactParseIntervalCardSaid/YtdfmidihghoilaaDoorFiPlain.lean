/-
  The plain mathematics of decimal numerals: no program is named here.
-/
import Derived.Lib.ItoaMem
import Derived.Lib.ItoaNum
import Derived.Lib.ItoaLen
namespace Go.Proofs.YtdfmidihghoilaaDoor.Num
open Go

/-- The digits of k, none for 0. -/
def dd (k : Nat) : List UInt8 := if k = 0 then [] else Lib.decDigits k

theorem dd_step (k : Nat) (h : k ≠ 0) : dd k = dd (k / 10) ++ [UInt8.ofNat (48 + k % 10)] := by
  unfold dd
  rw [if_neg h]
  by_cases hs : k < 10
  · rw [Lib.decDigits, dif_pos hs, if_pos (by omega), Nat.mod_eq_of_lt hs]; rfl
  · rw [Lib.decDigits, dif_neg hs, if_neg (by omega)]

theorem fi_step {k u : Nat} {acc : List UInt8} (h : dd k ++ acc = dd u) (hk : k ≠ 0) : dd (k / 10) ++ (UInt8.ofNat (48 + k % 10) :: acc) = dd u := by
  rw [← h, dd_step k hk]; simp

theorem fi_end {u : Nat} {acc : List UInt8} (h : dd 0 ++ acc = dd u) : acc = dd u := by rw [← h]; rfl

theorem dd_pos (u : Nat) (h : u ≠ 0) : dd u = Lib.decDigits u := by unfold dd; rw [if_neg h]

theorem itoa_dd (u : Nat) (h : u ≠ 0) : Lib.itoa (u : Int) = dd u := by rw [Lib.itoa_nonneg, dd_pos u h]
theorem itoa_neg_dd (u : Nat) (h : u ≠ 0) : Lib.itoa (-(u : Int)) = 45 :: dd u := by rw [Lib.itoa_neg u (by omega), dd_pos u h]
theorem itoa_zero : Lib.itoa 0 = [48] := by
  rw [show (0 : Int) = ((0 : Nat) : Int) from rfl, Lib.itoa_nonneg, Lib.decDigits, dif_pos (by decide)]
  rfl

theorem dd_len (u : Nat) (h : u ≤ 9223372036854775808) : (dd u).length ≤ 21 := by
  by_cases h0 : u = 0
  · subst h0; decide
  · have := Lib.itoa_length_le (-(u : Int)) (by omega) (by omega)
    rw [itoa_neg_dd u h0] at this
    simp at this
    omega

theorem fi_len {k u : Nat} {acc : List UInt8} (h : dd k ++ acc = dd u) (hu : u ≤ 9223372036854775808) : acc.length ≤ 21 := by
  have := dd_len u hu
  rw [← h, List.length_append] at this
  omega

theorem cat2 (b : UInt8) (acc : List UInt8) : (⟨#[b]⟩ : ByteArray) ++ (⟨acc.toArray⟩ : ByteArray) = ⟨(b :: acc).toArray⟩ := by
  apply ByteArray.ext
  simp

theorem u8m (n : Nat) (h : n < 256) : (UInt8.ofNat n).toNat = n := by simp; omega
end Go.Proofs.YtdfmidihghoilaaDoor.Num
