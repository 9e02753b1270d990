/-
  The laws' marking of blocks and reading of the marks, over what the blocks hold.
-/
import Derived.Test.YtndebdimjlfepaaRows
import Derived.Test.YtndebdimjlfepaaBkOwn
import Derived.Test.YtndebdimjlfepaaMkRows
namespace Go.Proofs.Ytndebdimjlfepaa
open Go.RowKit Num

set_option maxRecDepth 8000 in
theorem law_markBkO (id : Int) (v : Value) (l : List Rw) (fp : List Nat) (k0 : Int) (w : World) (hn : l.length ≤ 1099511627776) (hk0 : 0 ≤ k0) (hk1 : k0 ≤ 1099511627776) (hv : SliceRep rowTy w v l fp) :
    Calls Try.prog 71 #[.agg #[.int .i64 id, v], .int .i64 k0] w fun e w' => e = .returned (.int .i64 (k0 + 5 * (l.length : Int))) ∧ Chg fp w w' ∧ SliceRep rowTy w' v (marks k0 l.length) fp := by
  obtain ⟨ao, cap, rfl⟩ := hv.val
  have HV := Lib.hid hv
  clear hv
  go_enter Try.func71, Try.ntmps71
  go_wp2_with fail
  have K0 := (Kept.start w).alloc2 (.int .i64 id) (.slice ao l.length cap) 89 _ rfl
  refine (law_markRsV _ l fp k0 _ hn hk0 hk1 (HV.out.step K0.1)).mono ?_
  rintro e w1 ⟨rfl, hc, hs⟩
  have AN := Lib.hid (show Chg fp w w1 ∧ SliceRep rowTy w1 (.slice ao l.length cap) (marks k0 l.length) fp from ⟨(Chg.of K0.1).trans hc, hs⟩)
  clear hc hs K0
  go_wp2
  go_ret
  exact ⟨rfl, AN.out⟩

set_option maxRecDepth 8000 in
theorem law_heldBkO (id : Int) (v : Value) (n : Nat) (fp : List Nat) (k0 : Int) (w : World) (hn : n ≤ 1099511627776) (hk0 : 0 ≤ k0) (hk1 : k0 ≤ 1099511627776) (hv : SliceRep rowTy w v (marks k0 n) fp) :
    Calls Try.prog 72 #[.agg #[.int .i64 id, v], .int .i64 k0] w fun e w' => e = .returned (.int .i64 (k0 + 5 * (n : Int))) ∧ Below w.heap.size w w' := by
  obtain ⟨ao, cap, rfl⟩ := hv.val
  have HV := Lib.hid hv
  clear hv
  have z : ¬ (k0 + 5 * (n : Int)) < 0 := by omega
  obtain ⟨q, hq⟩ : ∃ q, q = k0 + 5 * (n : Int) := ⟨_, rfl⟩
  rw [← hq] at z ⊢
  have zd : decide (q < 0) = false := decide_eq_false z
  have HQ := Lib.hid hq
  clear hq
  go_enter Try.func72, Try.ntmps72
  go_wp2_with fail
  have K0 := (Kept.start w).alloc2 (.int .i64 id) (.slice ao (marks k0 n).length cap) 89 _ rfl
  refine (law_heldRsV _ n fp k0 _ hn hk0 hk1 (HV.out.step K0.1)).mono ?_
  rintro e w1 ⟨rfl, rfl⟩
  rw [← HQ.out]
  go_wp2
  go_ret
  exact ⟨rfl, K0.1⟩

end Go.Proofs.Ytndebdimjlfepaa
