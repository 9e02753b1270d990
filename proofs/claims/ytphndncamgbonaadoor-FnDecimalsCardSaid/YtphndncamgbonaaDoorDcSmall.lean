/-
  The walks over the small functions of decimals: powers of ten, rounding down.
-/
import Derived.Test.YtphndncamgbonaaDoorRows
import Derived.Test.YtphndncamgbonaaDoorDcPlain
import Derived.Test.YtphndncamgbonaaDoorHelp
import Derived.WalkKit
import Derived.WalkSpells
import Derived.WalkLawsBesides
import Derived.IntWalk
import Derived.Lib.Hide
namespace Go.Proofs.YtphndncamgbonaaDoor
open Go.RowKit Num

theorem spec_pow (p : Nat) (w : World) (h : p ≤ 6) :
    Calls Tryd.prog 41 #[.int .i64 p] w fun e w' => e = .returned (.int .i64 (p10 p : Int)) ∧ Below w.heap.size w w' := by
  have hI : (p : Int) ≤ 6 := by omega
  go_enter Tryd.func41, Tryd.ntmps41
  go_wp2
  go_loop [3, 4] (fun n i => ∃ k : Nat, k ≤ p ∧ i = .int .i64 k ∧ n = .int .i64 (p10 k : Int)) (fun _ i => p - (intOf i).toNat)
  case atStart => exact ⟨0, Nat.zero_le _, rfl, rfl⟩
  case round =>
    obtain ⟨k, hk, rfl, rfl⟩ := hrel
    obtain ⟨b1, b2⟩ := p10_bd (show k ≤ 6 by omega)
    by_cases hlt : k < p
    · have HS : Hid (p10 (k + 1) = p10 k * 10) := p10_succ k
      go_wp2
      go_round
      case rel => exact ⟨k + 1, by omega, by go_num, by rw [HS.out]; go_num⟩
      case measure => simp [intOf]; omega
    · obtain rfl : k = p := by omega
      go_wp2
      go_ret
      exact ⟨rfl, Below.refl _ _⟩

theorem impl_pow (p : Nat) (w : World) (h : p ≤ 6) :
    Calls Tryd.prog 45 #[.int .i64 p] w fun e w' => e = .returned (.int .i64 (p10 p : Int)) ∧ Below w.heap.size w w' := by
  have hI : (p : Int) ≤ 6 := by omega
  go_enter Tryd.func45, Tryd.ntmps45
  go_wp2
  go_loop [3, 5] (fun n i => ∃ k : Nat, k ≤ p ∧ i = .int .i64 k ∧ n = .int .i64 (p10 k : Int)) (fun _ i => p - (intOf i).toNat)
  case atStart => exact ⟨0, Nat.zero_le _, rfl, rfl⟩
  case round =>
    obtain ⟨k, hk, rfl, rfl⟩ := hrel
    obtain ⟨b1, b2⟩ := p10_bd (show k ≤ 6 by omega)
    by_cases hlt : k < p
    · have HS : Hid (p10 (k + 1) = p10 k * 10) := p10_succ k
      go_wp2
      go_round
      case rel => exact ⟨k + 1, by omega, by go_num, by rw [HS.out]; go_num⟩
      case measure => simp [intOf]; omega
    · obtain rfl : k = p := by omega
      go_wp2
      go_ret
      exact ⟨rfl, Below.refl _ _⟩

theorem spec_floor (a b : Int) (w : World) (h1 : -1000000000000000000 ≤ a) (h2 : a ≤ 1000000000000000000) (h3 : 1 ≤ b) (h4 : b ≤ 10000) :
    Calls Tryd.prog 40 #[.int .i64 a, .int .i64 b] w fun e w' => e = .returned (.int .i64 (a / b)) ∧ Below w.heap.size w w' := by
  have q1 : ¬ b = 0 := by omega
  have B := tdiv_bd a b
  by_cases h : a.tmod b < 0
  · rw [fl_neg (by omega) h]
    go_enter Tryd.func40, Tryd.ntmps40
    go_wp2
    go_ret
    exact ⟨rfl, Below.refl _ _⟩
  · rw [fl_pos (by omega) h]
    have q : decide (a.tmod b < 0) = false := decide_eq_false h
    go_enter Tryd.func40, Tryd.ntmps40
    go_wp2
    go_ret
    exact ⟨rfl, Below.refl _ _⟩

set_option maxHeartbeats 800000 in
theorem impl_td (n d : Int) (f : Nat) (w : World) (h1 : -999999999 ≤ n) (h2 : n ≤ 999999999) (h3 : 1 ≤ d) (h4 : d ≤ 10000) (h5 : f ≤ 1000000) :
    Calls Tryd.prog 44 #[.agg #[.int .i64 n, .int .i64 d], .int .i64 (f : Int)] w fun e w' => e = .returned (.int .i64 (n * (f : Int) / d)) ∧ Below w.heap.size w w' := by
  have q1 : ¬ d = 0 := by omega
  have B0 := mul_pw h1 h2 h5
  obtain ⟨P, hP⟩ : ∃ P, n * (f : Int) = P := ⟨_, rfl⟩
  rw [hP] at B0
  rw [hP]
  have b1 : -999999999000000 ≤ P := by omega
  have b2 : P ≤ 999999999000000 := by omega
  have B1 := tdiv_bd P d
  have B2 := tdm_bd P d
  have e := tdiv_mul P d
  obtain ⟨R, hR⟩ : ∃ R, P.tdiv d * d = R := ⟨_, rfl⟩
  rw [hR] at B2 e
  have c1 : -999999999000000 ≤ R := by omega
  have c2 : R ≤ 999999999000000 := by omega
  have b3 : -999999999000000 ≤ P.tdiv d := by omega
  have b4 : P.tdiv d ≤ 999999999000000 := by omega
  by_cases h : P.tmod d < 0
  · have t : P < R := by omega
    rw [fl_neg (by omega) h]
    clear B0 B1 B2 e h
    go_enter Tryd.func44, Tryd.ntmps44
    go_wp2
    go_ret
    exact ⟨rfl, (Below.refl _ _).alloc (Nat.le_refl _) _⟩
  · have t : decide (P < R) = false := decide_eq_false (by omega)
    rw [fl_pos (by omega) h]
    clear B0 B1 B2 e h
    go_enter Tryd.func44, Tryd.ntmps44
    go_wp2
    go_ret
    exact ⟨rfl, (Below.refl _ _).alloc (Nat.le_refl _) _⟩
end Go.Proofs.YtphndncamgbonaaDoor
