/-
  The walk over the project's IsValidTable.
-/
import Derived.Test.YtcfcohnkkgickaaRows
import Derived.Test.YtcfcohnkkgickaaAbImpl
import Derived.Test.YtcfcohnkkgickaaAuImpl
import Derived.Test.YtcfcohnkkgickaaTvSpec
namespace Go.Proofs.Ytcfcohnkkgickaa
open Go.RowKit Num Go.Maps

set_option maxRecDepth 8000 in
set_option maxHeartbeats 6400000 in
theorem impl_tv (ver : Int) (ao : Option Addr) (n cap : Nat) (l : List Blk) (w : World) (hl : l.length = n) (hn : n ≤ 1048576) (hr : ∀ k, k < n → (Bn l k).rows.length ≤ 1048576) (hw : WfB n (Bn l)) (hV : BlksVal w ao l) :
    Calls Try.prog 85 #[.agg #[.int .i64 ver, .slice ao n cap]] w (TvPost ver l n w) := by
  have HV := Lib.hid hV
  have HL := Lib.hid hl
  have HR := Lib.hid hr
  have HW := Lib.hid hw
  clear hV hl hr hw
  by_cases h1 : 0 ≤ ver
  · have h1d : decide (0 ≤ ver) = true := decide_eq_true h1
    by_cases h2 : ver ≤ 99
    · have h2d : decide (ver ≤ 99) = true := decide_eq_true h2
      by_cases h6 : n ≤ 6
      · have h6d : decide ((n : Int) ≤ 6) = true := decide_eq_true (by omega)
        go_enter Try.func85, Try.ntmps85
        go_wp2_with fail
        have K0 := (Kept.start w).alloc2 (.int .i64 ver) (.slice ao n cap) 32 _ rfl
        refine (impl_ab ao n cap l _ HL.out hn HR.out (HV.out.below K0.1)).mono ?_
        rintro e w1 ⟨v, hv, rfl, hb⟩
        have K1 := K0.step hb
        have HAB := Lib.hid hv
        clear hv hb K0
        cases v
        · have NO := Lib.hid (show ¬ TblOk ver l n from fun h => absurd (HAB.out.2 h.2.2.1) (by simp))
          clear HAB
          go_wp2
          go_ret
          exact TvPost.no NO.out K1.1
        · have BO := Lib.hid (HAB.out.1 rfl)
          have k0 := K1.get 0 rfl
          have k1 := K1.get 1 rfl
          clear HAB
          go_wp2_with fail
          refine (impl_rp ver ao n cap l _ HL.out hn HR.out HW.out (HV.out.below K1.1)).mono ?_
          rintro e w2 ⟨b, m, D, rfl, hm, hown, hD, _, hb⟩
          have K2 := K1.step hb
          have HM := Lib.hid hm
          have HO := Lib.hid hown
          have HD := Lib.hid hD
          clear hm hown hD hb K1 k0 k1
          go_wp2_with fail
          refine (impl_au b m D (blkPairs l n) _ HM.out HO.out HD.out).mono ?_
          rintro e w3 ⟨v, hv, rfl, hb⟩
          have K3 := K2.step hb
          have HU := Lib.hid (show v = true ↔ UniqR l n from hv.trans (uniq_iff l n BO.out))
          clear hv hb K2
          cases v
          · have NO := Lib.hid (show ¬ TblOk ver l n from fun h => absurd (HU.out.2 h.2.2.2) (by simp))
            clear HU
            go_wp2
            go_ret
            exact TvPost.no NO.out K3.1
          · have YE := Lib.hid (show TblOk ver l n from ⟨⟨h1, h2⟩, h6, BO.out, HU.out.1 rfl⟩)
            clear HU
            go_wp2
            go_ret
            exact TvPost.yes YE.out K3.1
      · have h6d : decide ((n : Int) ≤ 6) = false := decide_eq_false (by omega)
        have NO := Lib.hid (show ¬ TblOk ver l n from fun h => h6 h.2.1)
        go_enter Try.func85, Try.ntmps85
        go_wp2_with fail
        have K0 := (Kept.start w).alloc2 (.int .i64 ver) (.slice ao n cap) 32 _ rfl
        go_wp2
        go_ret
        exact TvPost.no NO.out K0.1
    · have h2d : decide (ver ≤ 99) = false := decide_eq_false h2
      have NO := Lib.hid (show ¬ TblOk ver l n from fun h => h2 h.1.2)
      go_enter Try.func85, Try.ntmps85
      go_wp2_with fail
      have K0 := (Kept.start w).alloc2 (.int .i64 ver) (.slice ao n cap) 32 _ rfl
      go_wp2
      go_ret
      exact TvPost.no NO.out K0.1
  · have h1d : decide (0 ≤ ver) = false := decide_eq_false h1
    have NO := Lib.hid (show ¬ TblOk ver l n from fun h => h1 h.1.1)
    go_enter Try.func85, Try.ntmps85
    go_wp2_with fail
    have K0 := (Kept.start w).alloc2 (.int .i64 ver) (.slice ao n cap) 32 _ rfl
    go_wp2
    go_ret
    exact TvPost.no NO.out K0.1
end Go.Proofs.Ytcfcohnkkgickaa
