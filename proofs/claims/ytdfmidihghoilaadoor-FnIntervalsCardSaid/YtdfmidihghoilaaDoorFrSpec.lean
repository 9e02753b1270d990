/-
  The walks over the model's fractions: size, divisor, IsFrac.
-/
import Derived.Test.YtdfmidihghoilaaDoorRows
import Derived.Test.YtdfmidihghoilaaDoorPlain
import Derived.Test.YtdfmidihghoilaaDoorL1In
import Derived.Test.YtdfmidihghoilaaDoorKeep
import Derived.WalkKit
import Derived.WalkSpells
import Derived.WalkLawsBesides
import Derived.IntWalk
import Derived.Lib.Hide
import Derived.Deep.QuietTactic
import Derived.BigQuiet
namespace Go.Proofs.YtdfmidihghoilaaDoor
open Go.RowKit Num

theorem spec_size (n : Int) (w : World) (h1 : -9223372036854775807 ≤ n) (h2 : n ≤ 9223372036854775807) :
    Calls Tryd.prog 60 #[.int .i64 n] w fun e w' => e = .returned (.int .i64 (n.natAbs : Int)) ∧ w' = w := by
  by_cases hn : n < 0
  · have E : Hid ((n.natAbs : Int) = -n) := (show (n.natAbs : Int) = -n by omega)
    go_enter Tryd.func60, Tryd.ntmps60
    go_wp2
    go_ret
    exact ⟨by rw [E.out]; rfl, rfl⟩
  · have E : Hid ((n.natAbs : Int) = n) := (show (n.natAbs : Int) = n by omega)
    go_enter Tryd.func60, Tryd.ntmps60
    go_wp2
    go_ret
    exact ⟨by rw [E.out]; rfl, rfl⟩

set_option maxHeartbeats 400000 in
theorem spec_gcd (a0 b0 : Nat) (w : World) (h1 : (a0 : Int) ≤ 1000000000000000000) (h2 : (b0 : Int) ≤ 1000000000000000000) :
    Calls Tryd.prog 59 #[.int .i64 a0, .int .i64 b0] w fun e w' => e = .returned (.int .i64 (Nat.gcd a0 b0 : Nat)) ∧ w' = w := by
  go_enter Tryd.func59, Tryd.ntmps59
  go_wp2
  go_loop [0, 1, 5] (fun a b _ => ∃ x y : Nat, a = .int .i64 x ∧ b = .int .i64 y ∧ (x : Int) ≤ 1000000000000000000 ∧ (y : Int) ≤ 1000000000000000000 ∧ Hid (Nat.gcd x y = Nat.gcd a0 b0)) (fun _ b _ => (intOf b).toNat)
  case atStart => exact ⟨a0, b0, rfl, rfl, h1, h2, rfl⟩
  case round =>
    obtain ⟨x, y, rfl, rfl, hx, hy, HG⟩ := hrel
    by_cases hpos : 0 < y
    · have hm := Nat.mod_lt x hpos
      have hm2 : ((x % y : Nat) : Int) ≤ 1000000000000000000 := by omega
      have HM : Hid (x % y < y) := hm
      have HG2 : Hid (Nat.gcd y (x % y) = Nat.gcd a0 b0) := (gcdN_round x y).trans HG.out
      clear hm
      go_wp2
      go_round
      case rel => exact ⟨y, x % y, rfl, rfl, hy, hm2, HG2⟩
      case measure => have := HM.out; simp [intOf]; omega
    · obtain rfl : y = 0 := by omega
      go_wp2
      go_ret
      have := HG.out
      rw [Nat.gcd_zero_right] at this
      exact ⟨by rw [← this]; rfl, rfl⟩

set_option maxRecDepth 8000 in
set_option maxHeartbeats 1600000 in
theorem spec_isf (n d : Int) (w : World) (hn1 : -9223372036854775808 ≤ n) (hn2 : n ≤ 9223372036854775807) :
    Calls Tryd.prog 43 #[.agg #[.int .i64 n, .int .i64 d]] w fun e w' => e = .returned (.bool (frB n d)) ∧ Below w.heap.size w w' := by
  by_cases hn : n < -999999999 ∨ 999999999 < n
  · have E : Hid (frB n d = false) := frB_no (by omega)
    have HN := Lib.hid hn
    clear hn
    go_enter Tryd.func43, Tryd.ntmps43
    go_wp2_with fail
    go_quiet ((go_at_call 58; exact calls_quiet (l1In_no _ _ _ _ HN.out)))
    go_wp2
    go_ret
    exact ⟨by rw [E.out]; rfl, below_drewN ((Below.refl _ _).alloc (Nat.le_refl _) _) _⟩
  · have a1 : -999999999 ≤ n := by omega
    have a2 : n ≤ 999999999 := by omega
    clear hn hn1 hn2
    by_cases hd : d < 1 ∨ 10000 < d
    · have E : Hid (frB n d = false) := frB_no (by omega)
      have HN := Lib.hid hd
      clear hd
      go_enter Tryd.func43, Tryd.ntmps43
      go_wp2_with fail
      go_quiet ((first | (go_at_call 58; exact calls_quiet (l1In_yes _ _ _ _ a1 a2)) | (go_at_call 58; exact calls_quiet (l1In_no _ _ _ _ HN.out))))
      go_wp2
      go_ret
      exact ⟨by rw [E.out]; rfl, below_drewN ((Below.refl _ _).alloc (Nat.le_refl _) _) _⟩
    · have a3 : 1 ≤ d := by omega
      have a4 : d ≤ 10000 := by omega
      clear hd
      obtain ⟨k, rfl⟩ := Int.eq_ofNat_of_zero_le (show 0 ≤ d by omega)
      have GL := gcd_le (n := n) (d := (k : Int)) (by omega)
      obtain ⟨g, hg⟩ : ∃ g, g = Int.gcd n (k : Int) := ⟨_, rfl⟩
      have hg2 : Nat.gcd n.natAbs k = g := hg.symm
      have HG := Lib.hid hg2
      have C : Hid (∀ w, Calls Tryd.prog 59 #[.int .i64 (n.natAbs : Int), .int .i64 (k : Int)] w fun e w' => e = .returned (.int .i64 (g : Int)) ∧ w' = w) := fun w => by
        have := spec_gcd n.natAbs k w (by omega) (by omega)
        rw [hg2] at this
        exact this
      have F : Hid (frB n (k : Int) = decide (g = 1)) := (show frB n (k : Int) = decide (g = 1) by unfold frB; rw [limB_yes ⟨a1, a2, a3, a4⟩, ← hg]; rfl)
      clear hg hg2 GL HG
      by_cases hq : g = 1
      · have q : ((g : Int) == 1) = true := by rw [hq]; rfl
        have E : Hid (frB n (k : Int) = true) := (show _ = _ by rw [F.out, decide_eq_true hq])
        clear hq F
        go_enter Tryd.func43, Tryd.ntmps43
        go_wp2_with fail
        go_quiet ((first | (go_at_call 58; exact calls_quiet (l1In_yes _ _ _ _ a1 a2)) | (go_at_call 58; exact calls_quiet (l1In_yes _ _ _ _ a3 a4)) | (go_at_call 60; exact Calls.quiet_of_same (spec_size _ _ (by omega) (by omega))) | (go_at_call 59; exact Calls.quiet_of_same (C.out _))))
        go_wp2
        go_ret
        exact ⟨by rw [E.out]; rfl, below_drewN ((Below.refl _ _).alloc (Nat.le_refl _) _) _⟩
      · have q : ((g : Int) == 1) = false := beq_eq_false_iff_ne.2 (by omega)
        have E : Hid (frB n (k : Int) = false) := (show _ = _ by rw [F.out, decide_eq_false hq])
        clear hq F
        go_enter Tryd.func43, Tryd.ntmps43
        go_wp2_with fail
        go_quiet ((first | (go_at_call 58; exact calls_quiet (l1In_yes _ _ _ _ a1 a2)) | (go_at_call 58; exact calls_quiet (l1In_yes _ _ _ _ a3 a4)) | (go_at_call 60; exact Calls.quiet_of_same (spec_size _ _ (by omega) (by omega))) | (go_at_call 59; exact Calls.quiet_of_same (C.out _))))
        go_wp2
        go_ret
        exact ⟨by rw [E.out]; rfl, below_drewN ((Below.refl _ _).alloc (Nat.le_refl _) _) _⟩
end Go.Proofs.YtdfmidihghoilaaDoor
