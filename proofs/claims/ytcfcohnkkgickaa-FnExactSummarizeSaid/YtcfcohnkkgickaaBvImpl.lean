/-
  The walk over the project's IsValidBlock.
-/
import Derived.Test.YtcfcohnkkgickaaRows
import Derived.Test.YtcfcohnkkgickaaBkLaw
import Derived.Test.YtcfcohnkkgickaaArImpl
import Derived.Test.YtcfcohnkkgickaaIbImpl
import Derived.WalkKit
import Derived.WalkSpells
import Derived.WalkLawsBesides
import Derived.IntWalk
import Derived.Lib.Hide
namespace Go.Proofs.Ytcfcohnkkgickaa
open Go.RowKit Num

set_option maxRecDepth 8000 in
set_option maxHeartbeats 3200000 in
theorem impl_bvV (id : Int) (ao : Option Addr) (n cap : Nat) (R : Nat → Rw) (w : World) (hn : n ≤ 1048576) (hV : RowsVal w ao n R) :
    Calls Try.prog 110 #[.agg #[.int .i64 id, .slice ao n cap]] w fun e w' => e = .returned (.bool (blkB id n R)) ∧ Below w.heap.size w w' := by
  have HV := Lib.hid hV
  clear hV
  have hnI : (n : Int) ≤ 1048576 := by omega
  have D1 := fun w => impl_ib id w
  have D2 := fun w hV => impl_arV ao n cap R w hn hV
  have E0 : blkB id n R = (decide (1 ≤ id ∧ id ≤ 20) && (areB R n && decide (n ≤ 6))) := rfl
  obtain ⟨q1, hq1⟩ : ∃ q, q = decide (1 ≤ id ∧ id ≤ 20) := ⟨_, rfl⟩
  obtain ⟨q2, hq2⟩ : ∃ q, q = areB R n := ⟨_, rfl⟩
  rw [← hq2] at D2 E0
  rw [← hq1] at E0
  simp only [← hq1] at D1
  have DD1 := Lib.hid D1
  have DD2 := Lib.hid D2
  clear D1 D2 hq1 hq2
  by_cases h6 : n ≤ 6
  · have h6d : decide ((n : Int) ≤ 6) = true := decide_eq_true (by omega)
    rw [decide_eq_true h6] at E0
    have E := Lib.hid E0
    clear E0
    go_enter Try.func110, Try.ntmps110
    go_wp2_with fail
    have K0 := (Kept.start w).alloc2 (.int .i64 id) (.slice ao n cap) 80 _ rfl
    refine (DD1.out _).mono ?_
    rintro r9 w1 ⟨rfl, rfl⟩
    have k0 := K0.get 0 rfl
    have k1 := K0.get 1 rfl
    cases q1
    · go_wp2
      go_ret
      exact ⟨by rw [E.out]; rfl, K0.1⟩
    · go_wp2_with fail
      refine (DD2.out _ (HV.out.below K0.1)).mono ?_
      rintro r9 w2 ⟨rfl, hb⟩
      have K1 := K0.step hb
      clear hb K0 k0 k1
      cases q2
      · go_wp2
        go_ret
        exact ⟨by rw [E.out]; rfl, K1.1⟩
      · go_wp2
        go_ret
        exact ⟨by rw [E.out]; rfl, K1.1⟩
  · have h6d : decide ((n : Int) ≤ 6) = false := decide_eq_false (by omega)
    rw [decide_eq_false h6] at E0
    have E := Lib.hid E0
    clear E0
    go_enter Try.func110, Try.ntmps110
    go_wp2_with fail
    have K0 := (Kept.start w).alloc2 (.int .i64 id) (.slice ao n cap) 80 _ rfl
    refine (DD1.out _).mono ?_
    rintro r9 w1 ⟨rfl, rfl⟩
    have k0 := K0.get 0 rfl
    have k1 := K0.get 1 rfl
    cases q1
    · go_wp2
      go_ret
      exact ⟨by rw [E.out]; rfl, K0.1⟩
    · go_wp2
      go_ret
      exact ⟨by rw [E.out]; cases q2 <;> rfl, K0.1⟩

theorem impl_bv (id : Int) (g n cap : Nat) (R : Nat → Rw) (w : World) (hn : n ≤ 1048576) (hg : g < w.heap.size) (hR : ∀ k, k < n → RowIn w g k (R k)) :
    Calls Try.prog 110 #[.agg #[.int .i64 id, .slice (some ⟨g, 0, none⟩) n cap]] w fun e w' => e = .returned (.bool (blkB id n R)) ∧ Below w.heap.size w w' :=
  impl_bvV id _ n cap R w hn (.inr ⟨g, rfl, hg, hR⟩)
end Go.Proofs.Ytcfcohnkkgickaa
