/-
  The walk over the model's FormatInt.
-/
import Derived.Test.YtcfcohnkkgickaaDoorRows
import Derived.Test.YtcfcohnkkgickaaDoorPlain
import Derived.Test.YtcfcohnkkgickaaDoorBytesOwn
import Derived.WalkKit
import Derived.WalkSpells
import Derived.WalkLawsBesides
import Derived.IntWalk
namespace Go.Proofs.YtcfcohnkkgickaaDoor
open Go.RowKit Num

theorem spec_fi_zero (w : World) :
    Calls Tryd.prog 23 #[.int .i64 0] w fun e w' => e = .returned (.string ⟨(Lib.itoa 0).toArray⟩) ∧ Below w.heap.size w w' := by
  rw [itoa_zero]
  go_enter Tryd.func23, Tryd.ntmps23
  go_wp2
  go_ret
  exact ⟨rfl, Below.refl _ _⟩

set_option maxRecDepth 8000 in
set_option maxHeartbeats 1600000 in
theorem spec_fi_pos (u : Nat) (w : World) (h1 : 1 ≤ u) (h2 : (u : Int) ≤ 9223372036854775807) :
    Calls Tryd.prog 23 #[.int .i64 u] w fun e w' => e = .returned (.string ⟨(Lib.itoa u).toArray⟩) ∧ Below w.heap.size w w' := by
  rw [itoa_dd u (by omega)]
  have hz : ((u : Int) == 0) = false := beq_eq_false_iff_ne.2 (by omega)
  have hn : decide ((u : Int) < 0) = false := decide_eq_false (by omega)
  have H2 : Hid ((u : Int) ≤ 9223372036854775807) := h2
  clear h2 h1
  go_enter Tryd.func23, Tryd.ntmps23
  go_wp2
  go_loopw [0, 3, 5] (fun nv ov _ wr => ∃ (k : Nat) (acc : List UInt8), nv = .int .i64 k ∧ (k : Int) ≤ 9223372036854775807 ∧ ov = .string ⟨acc.toArray⟩ ∧ Hid (dd k ++ acc = dd u) ∧ Below w.heap.size w wr) (fun nv _ _ _ => (intOf nv).toNat)
  case atStart => exact ⟨u, [], rfl, H2.out, rfl, List.append_nil _, Below.refl _ _⟩
  case round =>
    obtain ⟨k, acc, rfl, hk, rfl, HE, hbel⟩ := hrel
    have hl := fi_len HE.out (by have := H2.out; omega)
    have hsz : w.heap.size ≤ _ := hbel.size
    by_cases h0 : k = 0
    · subst h0
      go_wp2
      go_ret
      exact ⟨by rw [← fi_end HE.out]; rfl, hbel⟩
    · have hq : ((k : Int) != 0) = true := bne_iff_ne.2 (by omega)
      obtain ⟨b, hb⟩ : ∃ b, b = UInt8.ofNat (48 + k % 10) := ⟨_, rfl⟩
      have HB : Hid (b = UInt8.ofNat (48 + k % 10)) := hb
      have hcv := Bts.str1 wr (48 + (k : Int) % 10) b (by rw [hb, u8m _ (by omega)]; omega)
      have HK : Hid (k ≠ 0) := h0
      clear h0 hb
      go_wp2
      go_roundw
      case rel => exact ⟨k / 10, _, by go_num, by omega, by rw [cat2], by rw [HB.out]; exact fi_step HE.out HK.out, hbel.alloc hsz _⟩
      case measure => simp [intOf]; have := HK.out; omega

set_option maxRecDepth 8000 in
set_option maxHeartbeats 1600000 in
theorem spec_fi_neg (u : Nat) (w : World) (h1 : 1 ≤ u) (h2 : (u : Int) ≤ 9223372036854775808) :
    Calls Tryd.prog 23 #[.int .i64 (-(u : Int))] w fun e w' => e = .returned (.string ⟨(Lib.itoa (-(u : Int))).toArray⟩) ∧ Below w.heap.size w w' := by
  rw [itoa_neg_dd u (by omega)]
  have hz : (-(u : Int) == 0) = false := beq_eq_false_iff_ne.2 (by omega)
  have hn : -(u : Int) < 0 := by omega
  have H2 : Hid ((u : Int) ≤ 9223372036854775808) := h2
  clear h2 h1
  go_enter Tryd.func23, Tryd.ntmps23
  go_wp2
  go_loopw [0, 3, 5] (fun nv ov _ wr => ∃ (k : Nat) (acc : List UInt8), nv = .int .i64 (-(k : Int)) ∧ (k : Int) ≤ 9223372036854775808 ∧ ov = .string ⟨acc.toArray⟩ ∧ Hid (dd k ++ acc = dd u) ∧ Below w.heap.size w wr) (fun nv _ _ _ => (- intOf nv).toNat)
  case atStart => exact ⟨u, [], rfl, H2.out, rfl, List.append_nil _, Below.refl _ _⟩
  case round =>
    obtain ⟨k, acc, rfl, hk, rfl, HE, hbel⟩ := hrel
    have hl := fi_len HE.out (by have := H2.out; omega)
    have hsz : w.heap.size ≤ _ := hbel.size
    by_cases h0 : k = 0
    · subst h0
      go_wp2
      go_ret
      exact ⟨by rw [← fi_end HE.out, ← cat2]; rfl, hbel⟩
    · have hq : (-(k : Int) != 0) = true := bne_iff_ne.2 (by omega)
      obtain ⟨b, hb⟩ : ∃ b, b = UInt8.ofNat (48 + k % 10) := ⟨_, rfl⟩
      have HB : Hid (b = UInt8.ofNat (48 + k % 10)) := hb
      have HK : Hid (k ≠ 0) := h0
      by_cases hd : (0 : Int) < (k : Int) % 10
      · have hcv := Bts.str1 wr (48 + (k : Int) % 10) b (by rw [hb, u8m _ (by omega)]; omega)
        clear h0 hb
        go_wp2
        go_roundw
        case rel => exact ⟨k / 10, _, by go_num, by omega, by rw [cat2], by rw [HB.out]; exact fi_step HE.out HK.out, hbel.alloc hsz _⟩
        case measure => simp [intOf]; have := HK.out; omega
      · have hcv := Bts.str1 wr (48 + -((k : Int) % 10)) b (by rw [hb, u8m _ (by omega)]; omega)
        clear h0 hb
        go_wp2
        go_roundw
        case rel => exact ⟨k / 10, _, by go_num, by omega, by rw [cat2], by rw [HB.out]; exact fi_step HE.out HK.out, hbel.alloc hsz _⟩
        case measure => simp [intOf]; have := HK.out; omega

theorem spec_fi (n : Int) (w : World) (hlo : -9223372036854775808 ≤ n) (hhi : n ≤ 9223372036854775807) :
    Calls Tryd.prog 23 #[.int .i64 n] w fun e w' => e = .returned (.string ⟨(Lib.itoa n).toArray⟩) ∧ Below w.heap.size w w' := by
  rcases Int.lt_trichotomy n 0 with h | h | h
  · obtain ⟨u, rfl⟩ : ∃ u : Nat, n = -(u : Int) := ⟨n.natAbs, by omega⟩
    exact spec_fi_neg u w (by omega) (by omega)
  · subst h
    exact spec_fi_zero w
  · obtain ⟨u, rfl⟩ := Int.eq_ofNat_of_zero_le (show 0 ≤ n by omega)
    exact spec_fi_pos u w (by omega) (by omega)
end Go.Proofs.YtcfcohnkkgickaaDoor
