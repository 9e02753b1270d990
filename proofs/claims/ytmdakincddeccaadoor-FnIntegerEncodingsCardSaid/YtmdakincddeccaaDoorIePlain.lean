/-
  The plain mathematics of FnIntegerEncodings: what was encoded is decoded again.
-/
import Derived.Test.YtmdakincddeccaaDoorNumPlain
import Derived.Test.YtmdakincddeccaaDoorEfPlain
import Derived.Test.YtmdakincddeccaaDoorDvPlain
import Derived.Test.YtmdakincddeccaaDoorDhPlain
import Derived.Test.YtmdakincddeccaaDoorPiPlain
namespace Go.Proofs.YtmdakincddeccaaDoor
open Go Num

theorem valL_vlist : ∀ (n : Nat), valL (vlist n) = n := by
  intro n
  induction n using Nat.strongRecOn with
  | _ n ih =>
    by_cases h : n < 128
    · rw [vlist_small n h]
      simp only [valL]
      rw [Num.u8n _ (by omega)]
      omega
    · rw [vlist_big n (by omega)]
      simp only [valL]
      rw [ih (n / 128) (by omega), Num.u8n _ (by omega)]
      omega

theorem dv_vlist (n : Nat) (h : n ≤ 562949953421311) (t : List UInt8) : DV (vlist n ++ t) n (vlist n).length := by
  have h7 := vlist_len7 n h
  have h1 := vlist_pos n
  have ht : (vlist n ++ t).take (vlist n).length = vlist n := List.take_left
  refine .inr ⟨h1, h7, by simp, ?_, ?_⟩
  · rw [ht]; unfold VCan; rw [valL_vlist]
  · rw [ht, valL_vlist]

theorem dec_fix : ∀ (m n : Nat), n < 256 ^ m → dec (fixL m n) = (n : Int)
  | 0, n, h => by
    have : n = 0 := by simpa using h
    subst this; rfl
  | m + 1, n, h => by
    have h' : n / 256 < 256 ^ m := by rw [Nat.pow_succ] at h; omega
    simp only [fixL]
    rw [dec_snoc, dec_fix m (n / 256) h', Num.u8n _ (by omega)]
    omega

theorem dec_take_fix (m n : Nat) (h : n < 256 ^ m) (t : List UInt8) : dec ((fixL m n ++ t).take m) = (n : Int) := by
  have hl := fixL_length m n
  have : (fixL m n ++ t).take m = fixL m n := by
    have e := List.take_left (l₁ := fixL m n) (l₂ := t)
    rw [hl] at e
    exact e
  rw [this, dec_fix m n h]

theorem hv_hexd (k : Nat) (h : k < 16) : hv ((hexd k).toNat : Int) = k := (hexd_hv k h (hexd k)).1 rfl

theorem decH_hexOf : ∀ l : List UInt8, decH (hexOf l) = some l
  | [] => rfl
  | b :: l => by
    have hb : b.toNat < 256 := b.toNat_lt
    have e : hexOf (b :: l) = hexd (b.toNat / 16) :: hexd (b.toNat % 16) :: hexOf l := rfl
    rw [e]
    simp only [decH]
    rw [hv_hexd _ (by omega), hv_hexd _ (by omega), if_neg (by omega), decH_hexOf l]
    simp only [Option.map_some, Option.some.injEq, List.cons.injEq, and_true]
    have e2 : (16 * ((b.toNat / 16 : Nat) : Int) + ((b.toNat % 16 : Nat) : Int)).toNat = b.toNat := by omega
    rw [e2]
    exact UInt8.toNat_inj.mp (Num.u8n _ hb)

theorem dhV_hexOf (l : List UInt8) : dhV ⟨(hexOf l).toArray⟩ = .tuple #[.string ⟨l.toArray⟩, .bool true] := dhV_some (decH_hexOf l)

theorem cut_itoa (w : Int) : ∃ (neg : Bool), Cut (Lib.itoa w) (Lib.decDigits w.natAbs) neg ∧ w = sg neg w.natAbs := by
  rcases Int.lt_or_le w 0 with h | h
  · obtain ⟨u, rfl⟩ : ∃ u : Nat, w = -(u : Int) := ⟨w.natAbs, by omega⟩
    have e : (-(u : Int)).natAbs = u := by omega
    rw [e, Lib.itoa_neg u (by omega)]
    exact ⟨true, .inl ⟨rfl, rfl⟩, rfl⟩
  · obtain ⟨u, rfl⟩ := Int.eq_ofNat_of_zero_le h
    have e : ((u : Int)).natAbs = u := by omega
    rw [e, Lib.itoa_nonneg]
    refine ⟨false, .inr ⟨rfl, rfl, ?_⟩, rfl⟩
    intro hc
    have hm : (45 : UInt8) ∈ Lib.decDigits u := List.mem_of_mem_head? (by rw [hc]; rfl)
    have := dec_all u 45 hm
    unfold isD at this
    simp at this

theorem pi_itoa {w z : Int} {good : Bool} (h : PIans (Lib.itoa w) z good) : (-1000000000 < w ∧ w < 1000000000 ∧ z = w ∧ good = true) ∨ ((w ≤ -1000000000 ∨ 1000000000 ≤ w) ∧ good = false) := by
  rcases h with ⟨rfl, h⟩ | ⟨rfl, rfl, h⟩
  · obtain ⟨neg, hc, hw⟩ := cut_itoa w
    obtain ⟨u, h1, h2, h3⟩ := cut_ok hc h
    have : w.natAbs = u := by rw [← dec_val w.natAbs, h2, dec_val]
    refine .inl ⟨by omega, by omega, ?_, rfl⟩
    rw [h3, hw, this]
  · by_cases hw : -1000000000 < w ∧ w < 1000000000
    · exact absurd ⟨by omega, by omega, rfl⟩ (h w)
    · exact .inr ⟨by omega, rfl⟩
end Go.Proofs.YtmdakincddeccaaDoor
