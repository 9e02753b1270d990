/-
  The model's ApplyChange, for every table and change.
-/
import Derived.Test.YtcfcohnkkgickaaRows
import Derived.Test.YtcfcohnkkgickaaApsBad
import Derived.Test.YtcfcohnkkgickaaApsApp
import Derived.Test.YtcfcohnkkgickaaApsCor
import Derived.Test.YtcfcohnkkgickaaApsDel
import Derived.Test.YtcfcohnkkgickaaApsRet
namespace Go.Proofs.Ytcfcohnkkgickaa
open Go.RowKit Num

theorem spec_apc (ver : Int) (c : Cg) (ao : Option Addr) (n cap : Nat) (l : List Blk) (w : World) (hl : l.length = n) (hn : n ≤ 1048576) (hr : ∀ k, k < n → (Bn l k).rows.length ≤ 1048576) (hV : BlksVal w ao l) (hS : BlksSrc w ao l) (fp0 : List Nat) (hR0 : SliceRep blkTy w (.slice ao n cap) l fp0) (hN0 : fp0.Nodup) :
    Calls Try.prog 14 #[.agg #[.int .i64 ver, .slice ao n cap], c.val] w (ApcP (applyC ver l c).1 (applyC ver l c).2.1 (applyC ver l c).2.2 w) := by
  obtain ⟨k, b, i, g, y, x, nl⟩ := c
  by_cases hG : TblOk ver l l.length ∧ ChOk ⟨k, b, ⟨i, g, y, x, nl⟩⟩ ∧ ver ≠ 99
  · rcases hG.2.1.kind with h | h | h | h
    all_goals
      have h9 : k = _ := h
      subst h9
    · exact spec_aps1 ver b i g y x nl ao n cap l w hl hn hr hV hS hG
    · exact spec_aps2 ver b i g y x nl ao n cap l w hl hn hr hV hS hG fp0 hR0 hN0
    · exact spec_aps3 ver b i g y x nl ao n cap l w hl hn hr hV hS hG fp0 hR0 hN0
    · exact spec_aps4 ver b i g y x nl ao n cap l w hl hn hr hV hS hG
  · exact spec_aps0 ver k b i g y x nl ao n cap l w hl hn hr hV hS hG
end Go.Proofs.Ytcfcohnkkgickaa
