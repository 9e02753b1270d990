/-
  The plain mathematics of the varints: no program is named here.
-/
import Derived.Test.YtmdakincddeccaaDoorNumPlain
namespace Go.Proofs.YtmdakincddeccaaDoor.Num
open Go

/-- The varint of n: seven bits a byte, the lowest first, 128 added to all but the last. -/
def vlist (n : Nat) : List UInt8 := if n < 128 then [UInt8.ofNat n] else UInt8.ofNat (n % 128 + 128) :: vlist (n / 128)
termination_by n
decreasing_by omega

theorem vlist_small (n : Nat) (h : n < 128) : vlist n = [UInt8.ofNat n] := by rw [vlist, if_pos h]
theorem vlist_big (n : Nat) (h : 128 ≤ n) : vlist n = UInt8.ofNat (n % 128 + 128) :: vlist (n / 128) := by rw [vlist, if_neg (by omega)]

theorem vlist_len : ∀ (k n : Nat), n < 128 ^ (k + 1) → (vlist n).length ≤ k + 1
  | 0, n, h => by rw [vlist_small n (by simpa using h)]; simp
  | k + 1, n, h => by
    by_cases hs : n < 128
    · rw [vlist_small n hs]; simp
    · rw [vlist_big n (by omega)]
      have := vlist_len k (n / 128) (by rw [Nat.pow_succ] at h; omega)
      simp; omega

theorem vlist_len7 (n : Nat) (h : n ≤ 562949953421311) : (vlist n).length ≤ 7 := by
  have e : (128 : Nat) ^ (6 + 1) = 562949953421312 := by decide
  exact vlist_len 6 n (by omega)

theorem vlist_pos (n : Nat) : 1 ≤ (vlist n).length := by
  by_cases h : n < 128
  · rw [vlist_small n h]; simp
  · rw [vlist_big n (by omega)]; simp

theorem ev_step {acc : List UInt8} {k n : Nat} (h : acc ++ vlist k = vlist n) (hk : 128 ≤ k) : (acc ++ [UInt8.ofNat (k % 128 + 128)]) ++ vlist (k / 128) = vlist n := by
  rw [← h, vlist_big k hk, List.append_assoc]
  rfl

theorem ev_end {acc : List UInt8} {k n : Nat} (h : acc ++ vlist k = vlist n) (hk : k < 128) : acc ++ [UInt8.ofNat k] = vlist n := by
  rw [← h, vlist_small k hk]

theorem u8n (n : Nat) (h : n < 256) : (UInt8.ofNat n).toNat = n := by simp; omega
end Go.Proofs.YtmdakincddeccaaDoor.Num
