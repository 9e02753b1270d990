/-
  Proved: for every table, the law FnExactFormatTable returns true (the project's FormatTable answers as its model and leaves its argument as it was). No condition; the library's tables are tied to the program's text by the card.
-/
import Derived.Test.YtcfcohnkkgickaaDoorRows
import Derived.Test.YtcfcohnkkgickaaDoorMk
import Derived.Test.YtcfcohnkkgickaaDoorShelf
import Derived.Test.YtcfcohnkkgickaaDoorBytesOwn
import Derived.Test.YtcfcohnkkgickaaDoorItoaKit
import Derived.Test.YtcfcohnkkgickaaDoorPlain
import Derived.Test.YtcfcohnkkgickaaDoorFiSpec
import Derived.Test.YtcfcohnkkgickaaDoorL1In
import Derived.Test.YtcfcohnkkgickaaDoorKeep
import Derived.Test.YtcfcohnkkgickaaDoorRvSpec
import Derived.Test.YtcfcohnkkgickaaDoorRwLaw
import Derived.Test.YtcfcohnkkgickaaDoorRwsOwn
import Derived.Test.YtcfcohnkkgickaaDoorArSpec
import Derived.Test.YtcfcohnkkgickaaDoorEqRows
import Derived.Test.YtcfcohnkkgickaaDoorFdSpec
import Derived.Test.YtcfcohnkkgickaaDoorRfSpec
import Derived.Test.YtcfcohnkkgickaaDoorBkPlain
import Derived.Test.YtcfcohnkkgickaaDoorBkLaw
import Derived.Test.YtcfcohnkkgickaaDoorStrOwn
import Derived.Test.YtcfcohnkkgickaaDoorBfSpec
import Derived.Test.YtcfcohnkkgickaaDoorJlImpl
import Derived.Test.YtcfcohnkkgickaaDoorFaRow
import Derived.Test.YtcfcohnkkgickaaDoorFbImpl
import Derived.Test.YtcfcohnkkgickaaDoorRwsApp
import Derived.Test.YtcfcohnkkgickaaDoorRep
import Derived.Test.YtcfcohnkkgickaaDoorRwRep
import Derived.Test.YtcfcohnkkgickaaDoorInv
import Derived.Test.YtcfcohnkkgickaaDoorBkOwn
import Derived.Test.YtcfcohnkkgickaaDoorTbRep
import Derived.Test.YtcfcohnkkgickaaDoorTbLaw
import Derived.Test.YtcfcohnkkgickaaDoorTbSz
import Derived.Test.YtcfcohnkkgickaaDoorTbFind
import Derived.Test.YtcfcohnkkgickaaDoorTtPlain
import Derived.Test.YtcfcohnkkgickaaDoorMpPlain
import Derived.Test.YtcfcohnkkgickaaDoorRvImpl
import Derived.Test.YtcfcohnkkgickaaDoorArImpl
import Derived.Test.YtcfcohnkkgickaaDoorBvImpl
import Derived.Test.YtcfcohnkkgickaaDoorAbImpl
import Derived.Test.YtcfcohnkkgickaaDoorRpImpl
import Derived.Test.YtcfcohnkkgickaaDoorAuImpl
import Derived.Test.YtcfcohnkkgickaaDoorTvSpec
import Derived.Test.YtcfcohnkkgickaaDoorTvImpl
import Derived.Test.YtcfcohnkkgickaaDoorFaBlk
import Derived.Test.YtcfcohnkkgickaaDoorFtSpec
import Derived.Test.YtcfcohnkkgickaaDoorFtImpl
import Derived.Test.YtcfcohnkkgickaaDoorTblArg
import Derived.WalkKit
import Derived.ProofKit
import Derived.LaidMore
import Derived.Stop.Joined
import Derived.SevenTiedAt
import Derived.Test.YtcfcohnkkgickaaDoorTie
import Derived.Test.YtcfcohnkkgickaaDoorCards
import Derived.OpenShut
import Derived.ShutString
import Derived.ChangeOld
import Derived.Below
import Derived.Carry
namespace Go.Proofs.YtcfcohnkkgickaaDoor.fnExactFormatTable
open Go.ChangeShapes Go.WideShapes Go.ChangeAt Go.RowKit
open Go.ChangeMaps (open_string shut_string)
set_option linter.unusedVariables false

theorem own : ownKnob Tryd.prog.godebug = none := by kernel_rfl

/-! ### The walk -/
theorem door_met (os : Os) (args : Array Value) : laidMetH Tryd.prog Rows.fnExactFormatTableRow.laid ((World.doorLaid Tryd.prog 400 os).forCall (fun _ _ => 0) ⟨#[], args, []⟩).memory :=
  laidMetH_of_parts3 (fuel := 8) (laidMet_of_run' 8 (by kernel_rfl) (by kernel_rfl)) (by kernel_rfl) (by kernel_rfl)

set_option maxRecDepth 100000 in
set_option maxHeartbeats 8000000 in
theorem walk (a0 : Int) (a1 : Option Addr) (a2 : Nat) (a3 : Nat) (a4 : Nat → Blk) (w : World) (w_a0_0 : (Lit.int .i64 a0).wf = true) (w_a0_1 : BlksArg w a1 a2 a4) (w_a0_2 : a2 ≤ maxLen) (w_a0_3 : WfB a2 a4) (hL : laidMetH Tryd.prog Rows.fnExactFormatTableRow.laid w) :
    Calls Tryd.prog 4 #[.agg #[.int .i64 a0, .slice a1 a2 a3]] w fun e w' => e = .returned (.bool true) ∧ Below w.heap.size w w' := by
  have ht0 : PowTab w := powTab_of (by rw [MakeChecks.laidMetH_plain _ _ _ (by kernel_rfl)] at hL; exact hL)
  have HT : Hid (PowTab w) := ht0
  clear ht0 hL
  have hm := w_a0_2
  have HWB := Lib.hid w_a0_3
  clear w_a0_3
  have HA := Lib.hid w_a0_1
  clear w_a0_2
  go_enter Tryd.func4, Tryd.ntmps4
  go_wp2_with fail
  have K0 := (Kept.start w).alloc2 (.int .i64 a0) (.slice a1 a2 a3) 35 _ rfl
  refine (law_szTbl 1048576 a0 a1 a2 a3 a4 _ (by decide) (by decide) hm (HA.out.below K0.1)).mono ?_
  rintro e w1 ⟨⟨r, rfl, hr⟩, hb⟩
  have K1 := K0.step hb
  clear hb K0
  rcases hr with rfl | ⟨hr0, hr1, hn, hrl⟩
  · go_wp2
    go_ret
    exact ⟨rfl, K1.1⟩
  · have z1 : ¬ r < 0 := by omega
    have z2 : decide (r < 0) = false := decide_eq_false z1
    have HRL := Lib.hid hrl
    have HRB := Lib.hid (lstB_rows hrl)
    have HRN := Lib.hid (show ∀ k, k < a2 → (Bn (lstB a2 a4) k).rows.length ≤ 1048576 from fun k hk => by rw [Bn_at (by rw [lstB_len]; exact hk), lstB_at]; exact hrl k hk)
    clear hrl
    have HWF := Lib.hid (show WfB a2 (Bn (lstB a2 a4)) from fun k hk => by rw [Bn_at (by rw [lstB_len]; exact hk), lstB_at]; exact HWB.out k hk)
    have I1 := Inv.of_kept K1
    have e0 := I1.get 0 rfl
    have e1 := I1.get 1 rfl
    go_wp2_with fail
    refine (law_toTbl a0 a1 a2 a3 a4 _ hn HRL.out (HA.out.below I1.below)).mono ?_
    rintro e w2 ⟨g2, fp2, rfl, hs, hf, _, hb⟩
    have HV2 := Lib.hid (blks_at hs)
    have I2 := I1.own (ownS blkTy (.slice (some ⟨g2, 0, none⟩) a2 a2) (lstB a2 a4) fp2) hb hs hf
    clear hs hf hb I1 e0 e1
    go_wp2_with fail
    refine (spec_ft a0 (some ⟨g2, 0, none⟩) a2 a2 (lstB a2 a4) _ (lstB_len _ _) hn HRN.out HV2.out).mono ?_
    rintro e w3 ⟨rfl, hb⟩
    have I3 := I2.step hb
    obtain ⟨sv, hsv⟩ : ∃ sv, sv = fmtT a0 (lstB a2 a4) := ⟨_, rfl⟩
    rw [← hsv]
    have HSV := Lib.hid hsv
    clear hsv
    clear hb I2
    have e0 := I3.get 0 rfl
    have e1 := I3.get 1 rfl
    go_wp2_with fail
    refine (law_toTbl a0 a1 a2 a3 a4 _ hn HRL.out (HA.out.below I3.below)).mono ?_
    rintro e w4 ⟨g4, fp4, rfl, hs, hf, _, hb⟩
    have I4 := (I3.own (ownS blkTy (.slice (some ⟨g4, 0, none⟩) a2 a2) (lstB a2 a4) fp4) hb hs hf).alloc2 (.int .i64 a0) (.slice (some ⟨g4, 0, none⟩) a2 a2) 40 w4.heap.size rfl
    clear hs hf hb I3 e0 e1
    have HV4 := Lib.hid (blks_at (I4.at 0 rfl))
    have e0 := I4.get 0 rfl
    have e1 := I4.get 1 rfl
    go_wp2_with fail
    refine (impl_ft a0 (some ⟨g4, 0, none⟩) a2 a2 (lstB a2 a4) _ (lstB_len _ _) hn HRN.out HWF.out HV4.out (HT.out.below I4.below (Nat.le_refl _))).mono ?_
    rintro e w5 ⟨rfl, hb⟩
    rw [← HSV.out]
    have I5 := I4.step hb
    clear hb I4 HV4 e0 e1
    have KQ := I5.1.sub (l' := [(⟨w4.heap.size, 0, none⟩, .int .i64 a0), (⟨w4.heap.size, 1, none⟩, .slice (some ⟨g4, 0, none⟩) a2 a2), (⟨w.heap.size, 0, none⟩, .int .i64 a0), (⟨w.heap.size, 1, none⟩, .slice a1 a2 a3)]) (by intro p9 hp9; simp only [List.mem_cons, List.not_mem_nil, or_false] at hp9; rcases hp9 with rfl | rfl | rfl | rfl <;> simp)
    have hx5 : SliceRep blkTy w5 (.slice (some ⟨g4, 0, none⟩) a2 a2) (lstB a2 a4) fp4 := I5.at 0 rfl
    go_wp2_with fail
    go_region_held3 (fun w' => w'.cell? ⟨w4.heap.size, 0, none⟩ = some (.int .i64 a0) ∧ w'.cell? ⟨w4.heap.size, 1, none⟩ = some (.slice (some ⟨g4, 0, none⟩) a2 a2) ∧ w'.cell? ⟨w.heap.size, 0, none⟩ = some (.int .i64 a0) ∧ w'.cell? ⟨w.heap.size, 1, none⟩ = some (.slice a1 a2 a3) ∧ Below w5.heap.size w5 w') (first | assumption | exact bq_start KQ | exact bq_keep KQ (by assumption) (by assumption)) (first | (go_simp; go_at_call 13; (with_reducible refine (law_toTbl _ _ _ _ a4 _ hn HRL.out ?_).mono ?_); (exact (HA.out.below KQ.1).below (bq_below (by assumption))); rintro e9 w9 ⟨gq, fpq, rfl, hs9, _, _, hb⟩) | (go_simp; go_at_call 15; (with_reducible refine (law_eqTbl _ _ _ _ _ _ (lstB a2 a4) _ (lstB_len _ _) hn HRB.out ?_ ?_).mono ?_); (exact blks_at (hx5.step (bq_below (by assumption)))); (exact blks_at hs9); rintro e9 w10 ⟨rfl, hb⟩))
    all_goals
      have I6 := I5.step (‹_ ∧ _ ∧ _ ∧ _ ∧ Below w5.heap.size w5 w10›).2.2.2.2
      clear hb hs9 KQ I5 hx5
      go_wp2
      go_ret
      exact ⟨rfl, I6.below⟩

/-! ### THE ROW's STEP -/
set_option maxRecDepth 100000 in
theorem lifted (os : Os) (started : os.Started) (H : Type) (enc : TypeId × Value → H) :
    ReturnsInHanded {} Tryd.checked os 4 .any (fun w args => (Rows.fnExactFormatTableSpec.pre enc Tryd.prog Tryd.f4 [] false w args ∧ laidMetH Tryd.prog Rows.fnExactFormatTableRow.laid w) ∧ sizedMet enc Tryd.prog Tryd.f4 (OpenSpec.ofChange Rows.fnExactFormatTableSpec) false w args)
      (Rows.fnExactFormatTableSpec.post enc Tryd.prog Tryd.f4 false true false false) := by
  refine returnsInHanded_of_change_and (C := Tryd.checked) (X := fun w _ => laidMetH Tryd.prog Rows.fnExactFormatTableRow.laid w) (fun _ _ _ hh h => h.of_heap hh) own started (by kernel_rfl) Tryd.func4
    (ChangeSpec.witness_shaped (enc := enc) (C := Tryd.checked) (os := os) (X := fun w _ => laidMetH Tryd.prog Rows.fnExactFormatTableRow.laid w) false (World.doorLaid Tryd.prog 400 os) #[.agg #[.int .i64 0, .slice none 0 0]] 8 rfl (World.shaped_of_RefB (by kernel_rfl) (by kernel_rfl)) (by kernel_rfl) (by kernel_rfl) (by kernel_rfl) (door_met os _)) ?_
  intro W base args ds gs before hval0 hW _ _ hL _
  have hval : ∀ (j : Nat) t v, Tryd.f4.params[j]? = some t → args[j]? = some v → Value.okWide Tryd.prog W .any base t v := hval0
  have hW' := hW
  obtain ⟨p, q, hA0, hV, rfl, hfz, hnd⟩ := hW
  have hA : DataW.TrodAll enc Tryd.prog W 0 (fun _ => true) true Tryd.f4.params.toList args.toList ds p := hA0
  rw [Tryd.params4] at hA hval
  obtain ⟨v0, vs0, d0, ds0, p0, q0, hargs, rfl, rfl, h0, r0⟩ := trodAll_cons hA
  obtain ⟨rfl, rfl, rfl⟩ := trodAll_nil r0
  obtain rfl : args = #[v0] := by cases args; simp_all
  obtain ⟨rfl, rfl⟩ := trodVars_none hV
  have kk0 := h0
  have lt0 : ∀ x ∈ p0, x.block < W.heap.size := by obtain ⟨m, hm⟩ := kk0; exact DataW.trod_lt m _ _ _ hm
  obtain ⟨a0, a1, a2, a3, a4, rfl, w_a0_0, w_a0_1, w_a0_2, w_a0_3⟩ := open_tbl (hval 0 35 v0 rfl rfl) h0 (fun _ => rfl)
  clear hA0 hval0
  simp only [List.append_nil] at hW'
  refine (walk a0 a1 a2 a3 a4 W w_a0_0 w_a0_1 w_a0_2 w_a0_3 hL).mono fun e W' ⟨he, hg⟩ => ?_
  subst he
  exact ⟨_, rfl, _, _, _, [], _, [], hW', (trodAll_cons_mk (shut_bool Tryd.underlying4 _) trodAll_mk0), (trodAll_cons_mk (Below.trod (by kernel_rfl) (by kernel_rfl) (of_decide_eq_true (by kernel_rfl)) kk0 hg lt0) trodAll_mk0), rfl, hg.frame _, fun h => by cases h⟩

theorem over : Rows.fnExactFormatTableRow.holds Tryd.pinned (OpenSpec.ofChange Rows.fnExactFormatTableSpec) :=
  OpenClaim.holds_of_wide 4 Tryd.f4 rfl rfl rfl rfl rfl rfl rfl ⟨rfl, rfl, rfl, rfl, rfl⟩ rfl rfl rfl rfl rfl (by kernel_rfl) Tryd.func4 (MkF.closed_of (by kernel_rfl) (by kernel_rfl) (by kernel_rfl) (by kernel_rfl) (by kernel_rfl) (by kernel_rfl) (by kernel_rfl) (by kernel_rfl) (by kernel_rfl) (by kernel_rfl) (by kernel_rfl) (by kernel_rfl) (by kernel_rfl) (by kernel_rfl) (by kernel_rfl) (by kernel_rfl) (by kernel_rfl) (by kernel_rfl) (by kernel_rfl) (by kernel_rfl) (by kernel_rfl) (by kernel_rfl) (by kernel_rfl) (by kernel_rfl) (by kernel_rfl) MkF.mk_enter (MkF.lifts_eq MkF.mk_lifts rfl) (MkF.make_eq MkF.mk_make rfl) (by kernel_rfl) (by kernel_rfl) (by kernel_rfl) (by kernel_rfl))
    (of_decide_eq_true (by kernel_rfl)) (by unfold Func.isWrapper; first | (rw [if_pos (by decide +kernel)]; kernel_rfl) | (rw [if_neg (by decide +kernel)]; exact ⟨rfl, rfl⟩))
    (fun os started H enc _ => lifted os started H enc)

/-- ████ THE STATEMENT: THE TIED CARD ████ -/
theorem proved : Rows.FnExactFormatTableCardSaid :=
  Claim7.holds_tied_plain_at .later [] [.data, .data, .data] true (true, "b70ba1e2b723a8d83448e1f112c72c935a70d712f7a3628b4d333d8e27b012c0") false
    over (fun _ h => by cases h) (by kernel_rfl) (fun _ h => by cases h) fnExactFormatTable_row_tie rfl ⟨rfl, rfl⟩ (by kernel_rfl) rfl
    (fun f fn hf hfn => by
      obtain rfl : f = 4 := Option.some.inj ((show Tryd.prog.funcNamed "loop.example/g01927/laws.FnExactFormatTable" = some 4 by kernel_rfl).symm.trans hf) |>.symm
      obtain rfl : fn = Tryd.f4 := (Option.some.inj (Tryd.func4.symm.trans hfn)).symm
      exact ⟨by kernel_rfl, fun j t ht => by
        rw [Tryd.params4] at ht
        have hm : t ∈ [35] := by simpa using Array.mem_of_getElem? ht
        have hall : ([35].all fun u => !Tryd.prog.wantsStandIn u) = true := by kernel_rfl
        exact (show Tryd.prog.wantsStandIn t = false by simpa using List.all_eq_true.1 hall t hm)⟩)
    (by kernel_rfl)
end Go.Proofs.YtcfcohnkkgickaaDoor.fnExactFormatTable
