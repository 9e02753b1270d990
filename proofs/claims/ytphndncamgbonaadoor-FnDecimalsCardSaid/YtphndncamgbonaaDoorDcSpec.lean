/-
  The walks over the model's format of a decimal.
-/
import Derived.Test.YtphndncamgbonaaDoorRows
import Derived.Test.YtphndncamgbonaaDoorDcPlain
import Derived.Test.YtphndncamgbonaaDoorHelp
import Derived.Test.YtphndncamgbonaaDoorFiSpec
import Derived.Test.YtphndncamgbonaaDoorFrSpec
import Derived.WalkKit
import Derived.WalkSpells
import Derived.WalkLawsBesides
import Derived.IntWalk
import Derived.Lib.Hide
import Derived.Lib.Strings
import Derived.Deep.QuietTactic
import Derived.BigQuiet
namespace Go.Proofs.YtphndncamgbonaaDoor
open Go.RowKit Num

theorem catN (a b : List UInt8) : (⟨a.toArray⟩ : ByteArray) ++ (⟨b.toArray⟩ : ByteArray) = ⟨(a ++ b).toArray⟩ := by
  apply ByteArray.ext
  simp

theorem dot_cat (sg L : List UInt8) (k : Nat) : (⟨sg.toArray⟩ : ByteArray) ++ (⟨L.toArray⟩ : ByteArray).extract 0 k ++ (⟨#[46]⟩ : ByteArray) ++ (⟨L.toArray⟩ : ByteArray).extract k L.length = ⟨(sg ++ (L.take k ++ 46 :: L.drop k)).toArray⟩ := by
  rw [Lib.extract_eq, Lib.extract_eq]
  have e : List.take (L.length - k) (List.drop k L) = List.drop k L := List.take_of_length_le (by simp)
  show (⟨sg.toArray⟩ : ByteArray) ++ (⟨((L.drop 0).take (k - 0)).toArray⟩ : ByteArray) ++ (⟨[46].toArray⟩ : ByteArray) ++ (⟨(List.take (L.length - k) (List.drop k L)).toArray⟩ : ByteArray) = _
  rw [e, catN, catN, catN]
  simp

set_option maxRecDepth 8000 in
set_option maxHeartbeats 1600000 in
theorem spec_dec_neg (u p : Nat) (w : World) (hu1 : 1 ≤ u) (hu : (u : Int) ≤ 1000000000000000000) (hp : p ≤ 6) :
    Calls Tryd.prog 39 #[.int .i64 (-(u : Int)), .int .i64 (p : Int)] w fun e w' => e = .returned (.string ⟨(decF (-(u : Int)) p).toArray⟩) ∧ Below w.heap.size w w' := by
  rw [decF_neg (by omega), Int.natAbs_neg, Int.natAbs_natCast]
  obtain ⟨L1, L2⟩ := dig_len u (by omega)
  have S0 := fun w => spec_size (-(u : Int)) w (by omega) (by omega)
  rw [Int.natAbs_neg, Int.natAbs_natCast] at S0
  have F0 := fun w => spec_fi (u : Int) w (by omega) (by omega)
  rw [Lib.itoa_nonneg] at F0
  obtain ⟨D, hD⟩ : ∃ D, D = Lib.decDigits u := ⟨_, rfl⟩
  rw [← hD] at F0 L1 L2
  rw [← hD]
  have S := Lib.hid S0
  have F := Lib.hid F0
  have t : -(u : Int) < 0 := by omega
  have hpI : (p : Int) ≤ 6 := by omega
  clear S0 F0 hD
  go_enter Tryd.func39, Tryd.ntmps39
  go_wp2_with fail
  refine (S.out _).mono ?_
  rintro e w1 ⟨rfl, hw⟩
  obtain rfl := hw.symm
  go_wp2_with fail
  refine (F.out _).mono ?_
  rintro e w1 ⟨rfl, hb⟩
  go_wp2_with fail
  go_loop [6] (fun v => ∃ j : Nat, v = .string ⟨(List.replicate j 48 ++ D).toArray⟩ ∧ (j = 0 ∨ j + D.length ≤ p + 1)) (fun v => match v with | .string s => p + 1 - s.size | _ => 0)
  case atStart => exact ⟨0, rfl, .inl rfl⟩
  case round =>
    obtain ⟨j, rfl, hj⟩ := hrel
    by_cases hlt : j + D.length ≤ p
    · have HZ : Hid ((⟨#[48]⟩ : ByteArray) ++ (⟨(List.replicate j 48 ++ D).toArray⟩ : ByteArray) = ⟨(List.replicate (j + 1) 48 ++ D).toArray⟩) := (show _ = _ by rw [← zcat]; exact catN [48] _)
      have hltI : (j : Int) + (D.length : Int) ≤ (p : Int) := by omega
      go_wp2
      go_round
      case rel => exact ⟨j + 1, by rw [HZ.out], .inr (by omega)⟩
      case measure => simp [ByteArray.size]; omega
    · have hX : List.replicate j 48 ++ D = padZ (p + 1) D := padZ_of (by omega)
      have hN := padZ_len (p + 1) D
      rw [hX]
      have B := body_pos (p := p) (D := D)
      have B0 := body_zero D
      obtain ⟨L, hL⟩ : ∃ L, L = padZ (p + 1) D := ⟨_, rfl⟩
      rw [← hL] at hN
      rw [← hL] at B
      rw [← hL]
      have l1 : p < L.length := by omega
      have l2 : L.length ≤ 30 := by omega
      have l3 : (p : Int) < (L.length : Int) := by omega
      have l4 : decide ((L.length : Int) ≤ (p : Int)) = false := decide_eq_false (by omega)
      by_cases h0 : p = 0
      · have q : ((p : Int) == 0) = true := by rw [h0]; rfl
        have E : Hid (body p D = L) := (show _ = _ by rw [hL, h0]; exact B0)
        have HP := Lib.hid h0
        clear hX hN B B0 hL hj hlt h0
        go_wp2
        go_ret
        exact ⟨by rw [E.out]; exact congrArg (fun b => Ending.returned (Value.string b)) (catN [45] L), hb⟩
      · have q : ((p : Int) == 0) = false := beq_eq_false_iff_ne.2 (by omega)
        have E : Hid (body p D = L.take (L.length - p) ++ 46 :: L.drop (L.length - p)) := B h0
        have h1 : (1 : Int) ≤ (p : Int) := by omega
        have HP := Lib.hid h0
        clear hX hN B B0 hL hj hlt h0
        go_wp2_with fail
        go_quiet (fail)
        go_wp2
        go_ret
        exact ⟨by rw [E.out]; exact congrArg (fun b => Ending.returned (Value.string b)) (dot_cat [45] L _), below_drewN hb _⟩
set_option maxRecDepth 8000 in
set_option maxHeartbeats 1600000 in
theorem spec_dec_pos (u p : Nat) (w : World) (hu : (u : Int) ≤ 1000000000000000000) (hp : p ≤ 6) :
    Calls Tryd.prog 39 #[.int .i64 (u : Int), .int .i64 (p : Int)] w fun e w' => e = .returned (.string ⟨(decF (u : Int) p).toArray⟩) ∧ Below w.heap.size w w' := by
  rw [decF_pos (by omega), Int.natAbs_natCast]
  obtain ⟨L1, L2⟩ := dig_len u (by omega)
  have S0 := fun w => spec_size (u : Int) w (by omega) (by omega)
  rw [Int.natAbs_natCast] at S0
  have F0 := fun w => spec_fi (u : Int) w (by omega) (by omega)
  rw [Lib.itoa_nonneg] at F0
  obtain ⟨D, hD⟩ : ∃ D, D = Lib.decDigits u := ⟨_, rfl⟩
  rw [← hD] at F0 L1 L2
  rw [← hD]
  have S := Lib.hid S0
  have F := Lib.hid F0
  have t : decide ((u : Int) < 0) = false := decide_eq_false (by omega)
  have hpI : (p : Int) ≤ 6 := by omega
  clear S0 F0 hD
  go_enter Tryd.func39, Tryd.ntmps39
  go_wp2_with fail
  refine (S.out _).mono ?_
  rintro e w1 ⟨rfl, hw⟩
  obtain rfl := hw.symm
  go_wp2_with fail
  refine (F.out _).mono ?_
  rintro e w1 ⟨rfl, hb⟩
  go_wp2_with fail
  go_loop [6] (fun v => ∃ j : Nat, v = .string ⟨(List.replicate j 48 ++ D).toArray⟩ ∧ (j = 0 ∨ j + D.length ≤ p + 1)) (fun v => match v with | .string s => p + 1 - s.size | _ => 0)
  case atStart => exact ⟨0, rfl, .inl rfl⟩
  case round =>
    obtain ⟨j, rfl, hj⟩ := hrel
    by_cases hlt : j + D.length ≤ p
    · have HZ : Hid ((⟨#[48]⟩ : ByteArray) ++ (⟨(List.replicate j 48 ++ D).toArray⟩ : ByteArray) = ⟨(List.replicate (j + 1) 48 ++ D).toArray⟩) := (show _ = _ by rw [← zcat]; exact catN [48] _)
      have hltI : (j : Int) + (D.length : Int) ≤ (p : Int) := by omega
      go_wp2
      go_round
      case rel => exact ⟨j + 1, by rw [HZ.out], .inr (by omega)⟩
      case measure => simp [ByteArray.size]; omega
    · have hX : List.replicate j 48 ++ D = padZ (p + 1) D := padZ_of (by omega)
      have hN := padZ_len (p + 1) D
      rw [hX]
      have B := body_pos (p := p) (D := D)
      have B0 := body_zero D
      obtain ⟨L, hL⟩ : ∃ L, L = padZ (p + 1) D := ⟨_, rfl⟩
      rw [← hL] at hN
      rw [← hL] at B
      rw [← hL]
      have l1 : p < L.length := by omega
      have l2 : L.length ≤ 30 := by omega
      have l3 : (p : Int) < (L.length : Int) := by omega
      have l4 : decide ((L.length : Int) ≤ (p : Int)) = false := decide_eq_false (by omega)
      by_cases h0 : p = 0
      · have q : ((p : Int) == 0) = true := by rw [h0]; rfl
        have E : Hid (body p D = L) := (show _ = _ by rw [hL, h0]; exact B0)
        have HP := Lib.hid h0
        clear hX hN B B0 hL hj hlt h0
        go_wp2
        go_ret
        exact ⟨by rw [E.out]; exact congrArg (fun b => Ending.returned (Value.string b)) (catN [] L), hb⟩
      · have q : ((p : Int) == 0) = false := beq_eq_false_iff_ne.2 (by omega)
        have E : Hid (body p D = L.take (L.length - p) ++ 46 :: L.drop (L.length - p)) := B h0
        have h1 : (1 : Int) ≤ (p : Int) := by omega
        have HP := Lib.hid h0
        clear hX hN B B0 hL hj hlt h0
        go_wp2_with fail
        go_quiet (fail)
        go_wp2
        go_ret
        exact ⟨by rw [E.out]; exact congrArg (fun b => Ending.returned (Value.string b)) (dot_cat [] L _), below_drewN hb _⟩

theorem spec_dec (n : Int) (p : Nat) (w : World) (h1 : -1000000000000000000 ≤ n) (h2 : n ≤ 1000000000000000000) (hp : p ≤ 6) :
    Calls Tryd.prog 39 #[.int .i64 n, .int .i64 (p : Int)] w fun e w' => e = .returned (.string ⟨(decF n p).toArray⟩) ∧ Below w.heap.size w w' := by
  by_cases h : n < 0
  · obtain ⟨u, rfl⟩ : ∃ u : Nat, n = -(u : Int) := ⟨n.natAbs, by omega⟩
    exact spec_dec_neg u p w (by omega) (by omega) hp
  · obtain ⟨u, rfl⟩ := Int.eq_ofNat_of_zero_le (show 0 ≤ n by omega)
    exact spec_dec_pos u p w (by omega) hp
end Go.Proofs.YtphndncamgbonaaDoor
