/-
  The plain mathematics of the fixed-width and variable-width encodings: no program is named here.
-/
import Derived.Laws.BitsAllLaws
import Derived.Laws.BitsAll
import Derived.IntWalk
namespace Go.Proofs.YtmdakincddeccaaDoor.Num
open Go

/-- The number that a list of bytes writes, most significant byte first. -/
def decN (l : List UInt8) : Nat := l.foldl (fun n b => n * 256 + b.toNat) 0
def dec (l : List UInt8) : Int := (decN l : Nat)

theorem dec_snoc (l : List UInt8) (c : UInt8) : dec (l ++ [c]) = dec l * 256 + (c.toNat : Int) := by
  unfold dec decN; rw [List.foldl_append]; simp

theorem fold_bd : ∀ (l : List UInt8) (a : Nat), l.foldl (fun n b => n * 256 + b.toNat) a < (a + 1) * 256 ^ l.length
  | [], a => by simp
  | c :: l, a => by
    have hc : c.toNat < 256 := c.toNat_lt
    have h := fold_bd l (a * 256 + c.toNat)
    rw [List.foldl_cons, List.length_cons, Nat.pow_succ]
    refine Nat.lt_of_lt_of_le h ?_
    rw [Nat.mul_comm (256 ^ l.length) 256, ← Nat.mul_assoc]
    exact Nat.mul_le_mul_right _ (by omega)

theorem decN_bd (l : List UInt8) (k : Nat) (h : l.length ≤ k) : decN l < 256 ^ k := by
  have := fold_bd l 0
  simp only [Nat.zero_add, Nat.one_mul] at this
  exact Nat.lt_of_lt_of_le this (Nat.pow_le_pow_right (by decide) h)

theorem take_snoc (s : ByteArray) (k : Nat) (h : k < s.size) : s.data.toList.take (k + 1) = s.data.toList.take k ++ [s[k]] := by
  rw [List.take_succ_eq_append_getElem (by simpa using h)]; rfl

theorem dec_take_bd6 (l : List UInt8) (k : Nat) (h : k ≤ 6) : 0 ≤ dec (l.take k) ∧ dec (l.take k) < 281474976710656 := by
  have hl : (l.take k).length ≤ 6 := Nat.le_trans (List.length_take_le _ _) h
  have := decN_bd (l.take k) 6 hl
  have e : (256 : Nat) ^ 6 = 281474976710656 := by decide
  rw [e] at this
  unfold dec; omega

theorem i64_or_nat (a b : Nat) (ha : a < 9223372036854775808) (hb : b < 9223372036854775808) :
    bits .or .i64 (a : Int) (b : Int) = ((a ||| b : Nat) : Int) := by
  have hx : a ||| b < 2 ^ 63 := Nat.or_lt_two_pow (by omega) (by omega)
  have h1 : (BitVec.ofInt 64 (a : Int)).toNat = a := by
    rw [BitVec.ofInt_natCast, BitVec.toNat_ofNat]; exact Nat.mod_eq_of_lt (by omega)
  have h2 : (BitVec.ofInt 64 (b : Int)).toNat = b := by
    rw [BitVec.ofInt_natCast, BitVec.toNat_ofNat]; exact Nat.mod_eq_of_lt (by omega)
  show IntKind.i64.wrap ((BitVec.ofInt 64 (a : Int) ||| BitVec.ofInt 64 (b : Int)).toNat : Int) = _
  rw [BitVec.toNat_or, h1, h2]
  exact IntWalk.i64_in _ (by omega)

/-- Low bits below high ones: 'or' is a sum. -/
theorem nat_or_join (a b i : Nat) (hb : b < 2 ^ i) : a * 2 ^ i ||| b = a * 2 ^ i + b := by
  have := Nat.shiftLeft_add_eq_or_of_lt hb a
  rw [Nat.shiftLeft_eq] at this
  exact this.symm

theorem i64_or256 (a : Int) (b : Nat) (h0 : 0 ≤ a) (h1 : a < 281474976710656) (hb : b < 256) : bits .or .i64 (a * 256) (b : Int) = a * 256 + (b : Int) := by
  obtain ⟨n, rfl⟩ := Int.eq_ofNat_of_zero_le h0
  have e : ((n : Int) * 256) = ((n * 2 ^ 8 : Nat) : Int) := by omega
  rw [e, i64_or_nat _ _ (by omega) (by omega), nat_or_join _ _ 8 (by omega)]
  omega
theorem u8_and15 (n : Nat) (h : n < 256) : bits .and .u8 (n : Int) 15 = (n : Int) % 16 := by
  have e := Go.u8_and_nat n 15 h (by decide)
  have e2 : n &&& 15 = n % 16 := Nat.and_two_pow_sub_one_eq_mod n 4
  rw [e2] at e
  exact e
theorem u8_and127 (n : Nat) (h : n < 256) : bits .and .u8 (n : Int) 127 = (n : Int) % 128 := by
  have e := Go.u8_and_nat n 127 h (by decide)
  have e2 : n &&& 127 = n % 128 := Nat.and_two_pow_sub_one_eq_mod n 7
  rw [e2] at e
  exact e
end Go.Proofs.YtmdakincddeccaaDoor.Num
