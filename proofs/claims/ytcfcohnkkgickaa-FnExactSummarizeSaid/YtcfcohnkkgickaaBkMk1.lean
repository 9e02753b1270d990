/-
  The laws' marking of a block, over what it holds.
-/
import Derived.Test.YtcfcohnkkgickaaRows
import Derived.Test.YtcfcohnkkgickaaBkOwn
import Derived.Test.YtcfcohnkkgickaaMkRows
namespace Go.Proofs.Ytcfcohnkkgickaa
open Go.RowKit Num

set_option maxRecDepth 8000 in
theorem law_markBkO (id : Int) (v : Value) (l : List Rw) (fp : List Nat) (k0 : Int) (w : World) (hn : l.length ≤ 1099511627776) (hk0 : 0 ≤ k0) (hk1 : k0 ≤ 1099511627776) (hv : SliceRep rowTy w v l fp) :
    Calls Try.prog 54 #[.agg #[.int .i64 id, v], .int .i64 k0] w fun e w' => e = .returned (.int .i64 (k0 + 5 * (l.length : Int))) ∧ Chg fp w w' ∧ SliceRep rowTy w' v (marks k0 l.length) fp := by
  obtain ⟨ao, cap, rfl⟩ := hv.val
  have HV := Lib.hid hv
  clear hv
  go_enter Try.func54, Try.ntmps54
  go_wp2_with fail
  have K0 := (Kept.start w).alloc2 (.int .i64 id) (.slice ao l.length cap) 80 _ rfl
  refine (law_markRsV _ l fp k0 _ hn hk0 hk1 (HV.out.step K0.1)).mono ?_
  rintro e w1 ⟨rfl, hc, hs⟩
  have AN := Lib.hid (show Chg fp w w1 ∧ SliceRep rowTy w1 (.slice ao l.length cap) (marks k0 l.length) fp from ⟨(Chg.of K0.1).trans hc, hs⟩)
  clear hc hs K0
  go_wp2
  go_ret
  exact ⟨rfl, AN.out⟩

end Go.Proofs.Ytcfcohnkkgickaa
