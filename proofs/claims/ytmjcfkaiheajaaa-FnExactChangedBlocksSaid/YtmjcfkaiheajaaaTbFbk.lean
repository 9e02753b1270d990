/-
  The walk over the model's FindBlock.
-/
import Derived.Test.YtmjcfkaiheajaaaRows
import Derived.Test.YtmjcfkaiheajaaaTbFind
namespace Go.Proofs.Ytmjcfkaiheajaaa
open Go.RowKit Num

set_option maxRecDepth 8000 in
set_option maxHeartbeats 3200000 in
theorem spec_findB (ver id : Int) (ao : Option Addr) (n cap : Nat) (l : List Blk) (w : World) (hl : l.length = n) (hn : n ≤ 1048576) (hV : BlksVal w ao l) :
    Calls Try.prog 66 #[.agg #[.int .i64 ver, .slice ao n cap], .int .i64 id] w (FirstPost (fun k => (Bn l k).id = id) n w) := by
  have HV := Lib.hid hV
  have HL := Lib.hid hl
  clear hV hl
  have hnI : (n : Int) ≤ 1048576 := by omega
  go_enter Try.func66, Try.ntmps66
  go_wp2_with fail
  have K0 := (Kept.start w).alloc2 (.int .i64 ver) (.slice ao n cap) 38 _ rfl
  have H1 := Lib.hid (HV.out.below K0.1)
  generalize (w.alloc (.cells #[.int .i64 ver, .slice ao n cap] 38)) = w1 at K0 H1 ⊢
  have b1 := K0.get 1 rfl
  go_loop [5] (fun iv => ∃ k : Nat, k ≤ n ∧ iv = .int .i64 k ∧ Hid (∀ j, j < k → ¬ (Bn l j).id = id)) (fun iv => n - (intOf iv).toNat)
  case atStart => exact ⟨0, Nat.zero_le _, rfl, (fun j hj => by omega)⟩
  case round =>
    obtain ⟨k, hk, rfl, HA⟩ := hrel
    by_cases hlt : k < n
    · have hkI : (k : Int) < (n : Int) := by omega
      obtain ⟨g, rfl, hg, hB⟩ := H1.out.head HL.out (by omega)
      obtain ⟨rao, rcap, c0, c1, _⟩ := hB k hlt
      by_cases he : (Bn l k).id = id
      · have q : ((Bn l k).id == id) = true := by rw [he]; exact beq_self_eq_true id
        have AN := Lib.hid (show FirstAns (fun k => (Bn l k).id = id) n (k : Int) from .inl ⟨k, hlt, he, HA.out, rfl⟩)
        clear he hB
        go_wp2
        go_ret
        exact ⟨⟨_, AN.out, rfl⟩, K0.1⟩
      · have q : ((Bn l k).id == id) = false := beq_eq_false_iff_ne.2 he
        have HN := Lib.hid (show ∀ j, j < k + 1 → ¬ (Bn l j).id = id from fun j hj => by
          by_cases h : j < k
          · exact HA.out j h
          · obtain rfl : j = k := by omega
            exact he)
        clear he hB
        go_wp2
        go_round
        case rel => exact ⟨k + 1, by omega, by go_num, HN⟩
        case measure => simp [intOf]; omega
    · obtain rfl : k = n := by omega
      have hsd : decide ((k : Int) < (k : Int)) = false := decide_eq_false (by omega)
      go_wp2
      go_ret
      exact ⟨⟨-1, .inr ⟨HA.out, rfl⟩, rfl⟩, K0.1⟩
end Go.Proofs.Ytmjcfkaiheajaaa
