/-
  Proved: for every table, the law FnExactIsValidTable returns true (the project's IsValidTable answers as its model and leaves its argument as it was). No condition.
-/
import Derived.Test.YtndebdimjlfepaaRows
import Derived.Test.YtndebdimjlfepaaMk
import Derived.Test.YtndebdimjlfepaaPlain
import Derived.Test.YtndebdimjlfepaaL1In
import Derived.Test.YtndebdimjlfepaaKeep
import Derived.Test.YtndebdimjlfepaaRvSpec
import Derived.Test.YtndebdimjlfepaaRwLaw
import Derived.Test.YtndebdimjlfepaaRwsOwn
import Derived.Test.YtndebdimjlfepaaArSpec
import Derived.Test.YtndebdimjlfepaaEqRows
import Derived.Test.YtndebdimjlfepaaFdSpec
import Derived.Test.YtndebdimjlfepaaRwsApp
import Derived.Test.YtndebdimjlfepaaBkPlain
import Derived.Test.YtndebdimjlfepaaBkLaw
import Derived.Test.YtndebdimjlfepaaRep
import Derived.Test.YtndebdimjlfepaaRwRep
import Derived.Test.YtndebdimjlfepaaInv
import Derived.Test.YtndebdimjlfepaaBkOwn
import Derived.Test.YtndebdimjlfepaaTbRep
import Derived.Test.YtndebdimjlfepaaTbLaw
import Derived.Test.YtndebdimjlfepaaTbSz
import Derived.Test.YtndebdimjlfepaaTbFind
import Derived.Test.YtndebdimjlfepaaL1In
import Derived.Test.YtndebdimjlfepaaTtPlain
import Derived.Test.YtndebdimjlfepaaMpPlain
import Derived.Test.YtndebdimjlfepaaRvImpl
import Derived.Test.YtndebdimjlfepaaArImpl
import Derived.Test.YtndebdimjlfepaaBvImpl
import Derived.Test.YtndebdimjlfepaaAbImpl
import Derived.Test.YtndebdimjlfepaaRpImpl
import Derived.Test.YtndebdimjlfepaaAuImpl
import Derived.Test.YtndebdimjlfepaaTvSpec
import Derived.Test.YtndebdimjlfepaaTvImpl
import Derived.Test.YtndebdimjlfepaaTblArg
import Derived.WalkKit
import Derived.ProofKit
import Derived.OpenShut
import Derived.ShutString
import Derived.ChangeOld
import Derived.Below
import Derived.Carry
namespace Go.Proofs.Ytndebdimjlfepaa.fnExactIsValidTable
open Go.ChangeShapes Go.WideShapes Go.ChangeAt Go.RowKit
open Go.ChangeMaps (open_string shut_string)
set_option linter.unusedVariables false

theorem own : ownKnob Try.prog.godebug = none := by kernel_rfl

/-! ### The walk -/
set_option maxRecDepth 100000 in
set_option maxHeartbeats 8000000 in
theorem walk (a0 : Int) (a1 : Option Addr) (a2 : Nat) (a3 : Nat) (a4 : Nat → Blk) (w : World) (w_a0_0 : (Lit.int .i64 a0).wf = true) (w_a0_1 : BlksArg w a1 a2 a4) (w_a0_2 : a2 ≤ maxLen) (w_a0_3 : WfB a2 a4) :
    Calls Try.prog 17 #[.agg #[.int .i64 a0, .slice a1 a2 a3]] w fun e w' => e = .returned (.bool true) ∧ Below w.heap.size w w' := by
  have hm := w_a0_2
  have HWB := Lib.hid w_a0_3
  clear w_a0_3
  have HA := Lib.hid w_a0_1
  clear w_a0_2
  go_enter Try.func17, Try.ntmps17
  go_wp2_with fail
  have K0 := (Kept.start w).alloc2 (.int .i64 a0) (.slice a1 a2 a3) 24 _ rfl
  refine (law_szTbl 1048576 a0 a1 a2 a3 a4 _ (by decide) (by decide) hm (HA.out.below K0.1)).mono ?_
  rintro e w1 ⟨⟨r, rfl, hr⟩, hb⟩
  have K1 := K0.step hb
  clear hb K0
  rcases hr with rfl | ⟨hr0, hr1, hn, hrl⟩
  · go_wp2
    go_ret
    exact ⟨rfl, K1.1⟩
  · have z1 : ¬ r < 0 := by omega
    have z2 : decide (r < 0) = false := decide_eq_false z1
    have HRL := Lib.hid hrl
    have HRB := Lib.hid (lstB_rows hrl)
    have HRN := Lib.hid (show ∀ k, k < a2 → (Bn (lstB a2 a4) k).rows.length ≤ 1048576 from fun k hk => by rw [Bn_at (by rw [lstB_len]; exact hk), lstB_at]; exact hrl k hk)
    clear hrl
    have HWF := Lib.hid (show WfB a2 (Bn (lstB a2 a4)) from fun k hk => by rw [Bn_at (by rw [lstB_len]; exact hk), lstB_at]; exact HWB.out k hk)
    have I1 := Inv.of_kept K1
    have e0 := I1.get 0 rfl
    have e1 := I1.get 1 rfl
    go_wp2_with fail
    refine (law_toTbl a0 a1 a2 a3 a4 _ hn HRL.out (HA.out.below I1.below)).mono ?_
    rintro e w2 ⟨g2, fp2, rfl, hs, hf, _, hb⟩
    have HV2 := Lib.hid (blks_at hs)
    have I2 := I1.own (ownS blkTy (.slice (some ⟨g2, 0, none⟩) a2 a2) (lstB a2 a4) fp2) hb hs hf
    clear hs hf hb I1 e0 e1
    go_wp2_with fail
    refine (spec_tv a0 (some ⟨g2, 0, none⟩) a2 a2 (lstB a2 a4) _ (lstB_len _ _) hn HRN.out HV2.out).mono ?_
    rintro e w3 ⟨v, hv, rfl, hb⟩
    have I3 := I2.step hb
    have HV := Lib.hid hv
    clear hv
    clear hb I2
    have e0 := I3.get 0 rfl
    have e1 := I3.get 1 rfl
    go_wp2_with fail
    refine (law_toTbl a0 a1 a2 a3 a4 _ hn HRL.out (HA.out.below I3.below)).mono ?_
    rintro e w4 ⟨g4, fp4, rfl, hs, hf, _, hb⟩
    have I4 := (I3.own (ownS blkTy (.slice (some ⟨g4, 0, none⟩) a2 a2) (lstB a2 a4) fp4) hb hs hf).alloc2 (.int .i64 a0) (.slice (some ⟨g4, 0, none⟩) a2 a2) 32 w4.heap.size rfl
    clear hs hf hb I3 e0 e1
    have HV4 := Lib.hid (blks_at (I4.at 0 rfl))
    have e0 := I4.get 0 rfl
    have e1 := I4.get 1 rfl
    go_wp2_with fail
    refine (impl_tv a0 (some ⟨g4, 0, none⟩) a2 a2 (lstB a2 a4) _ (lstB_len _ _) hn HRN.out HWF.out HV4.out).mono ?_
    rintro e w5 ⟨v', hv', rfl, hb⟩
    obtain rfl := tv_iff HV.out hv'
    clear hv'
    have I5 := I4.step hb
    clear hb I4 HV4 e0 e1
    have KQ := I5.1.sub (l' := [(⟨w4.heap.size, 0, none⟩, .int .i64 a0), (⟨w4.heap.size, 1, none⟩, .slice (some ⟨g4, 0, none⟩) a2 a2), (⟨w.heap.size, 0, none⟩, .int .i64 a0), (⟨w.heap.size, 1, none⟩, .slice a1 a2 a3)]) (by intro p9 hp9; simp only [List.mem_cons, List.not_mem_nil, or_false] at hp9; rcases hp9 with rfl | rfl | rfl | rfl <;> simp)
    have hx5 : SliceRep blkTy w5 (.slice (some ⟨g4, 0, none⟩) a2 a2) (lstB a2 a4) fp4 := I5.at 0 rfl
    cases v
    · go_wp2_with fail
      go_region_held3 (fun w' => w'.cell? ⟨w4.heap.size, 0, none⟩ = some (.int .i64 a0) ∧ w'.cell? ⟨w4.heap.size, 1, none⟩ = some (.slice (some ⟨g4, 0, none⟩) a2 a2) ∧ w'.cell? ⟨w.heap.size, 0, none⟩ = some (.int .i64 a0) ∧ w'.cell? ⟨w.heap.size, 1, none⟩ = some (.slice a1 a2 a3) ∧ Below w5.heap.size w5 w') (first | assumption | exact bq_start KQ | exact bq_keep KQ (by assumption) (by assumption)) (first | (go_simp; go_at_call 21; (with_reducible refine (law_toTbl _ _ _ _ a4 _ hn HRL.out ?_).mono ?_); (exact (HA.out.below KQ.1).below (bq_below (by assumption))); rintro e9 w9 ⟨gq, fpq, rfl, hs9, _, _, hb⟩) | (go_simp; go_at_call 24; (with_reducible refine (law_eqTbl _ _ _ _ _ _ (lstB a2 a4) _ (lstB_len _ _) hn HRB.out ?_ ?_).mono ?_); (exact blks_at (hx5.step (bq_below (by assumption)))); (exact blks_at hs9); rintro e9 w10 ⟨rfl, hb⟩))
      all_goals
        have I6 := I5.step (‹_ ∧ _ ∧ _ ∧ _ ∧ Below w5.heap.size w5 w10›).2.2.2.2
        clear hb hs9 KQ I5 hx5
        go_wp2
        go_ret
        exact ⟨rfl, I6.below⟩
    · go_wp2_with fail
      go_region_held3 (fun w' => w'.cell? ⟨w4.heap.size, 0, none⟩ = some (.int .i64 a0) ∧ w'.cell? ⟨w4.heap.size, 1, none⟩ = some (.slice (some ⟨g4, 0, none⟩) a2 a2) ∧ w'.cell? ⟨w.heap.size, 0, none⟩ = some (.int .i64 a0) ∧ w'.cell? ⟨w.heap.size, 1, none⟩ = some (.slice a1 a2 a3) ∧ Below w5.heap.size w5 w') (first | assumption | exact bq_start KQ | exact bq_keep KQ (by assumption) (by assumption)) (first | (go_simp; go_at_call 21; (with_reducible refine (law_toTbl _ _ _ _ a4 _ hn HRL.out ?_).mono ?_); (exact (HA.out.below KQ.1).below (bq_below (by assumption))); rintro e9 w9 ⟨gq, fpq, rfl, hs9, _, _, hb⟩) | (go_simp; go_at_call 24; (with_reducible refine (law_eqTbl _ _ _ _ _ _ (lstB a2 a4) _ (lstB_len _ _) hn HRB.out ?_ ?_).mono ?_); (exact blks_at (hx5.step (bq_below (by assumption)))); (exact blks_at hs9); rintro e9 w10 ⟨rfl, hb⟩))
      all_goals
        have I6 := I5.step (‹_ ∧ _ ∧ _ ∧ _ ∧ Below w5.heap.size w5 w10›).2.2.2.2
        clear hb hs9 KQ I5 hx5
        go_wp2
        go_ret
        exact ⟨rfl, I6.below⟩

/-! ### THE ROW's STEP -/
set_option maxRecDepth 100000 in
theorem lifted (os : Os) (started : os.Started) (H : Type) (enc : TypeId × Value → H) :
    ReturnsInHanded {} Try.checked os 17 .any (Rows.fnExactIsValidTableSpec.pre6 enc Try.prog Try.f17 Rows.fnExactIsValidTableRow.domain false) (Rows.fnExactIsValidTableSpec.post enc Try.prog Try.f17 false true false false) := by
  refine returnsInHanded_of_change (C := Try.checked) own started (by kernel_rfl) Try.func17
    (ChangeSpec.witness6 (enc := enc) (C := Try.checked) false ⟨#[], #[.agg #[.int .i64 0, .slice none 0 0]], []⟩ 8 (by kernel_rfl) (by kernel_rfl) (by kernel_rfl) (by kernel_rfl)) ?_
  intro W base args ds gs before hval0 hW hcnd _
  have hval : ∀ (j : Nat) t v, Try.f17.params[j]? = some t → args[j]? = some v → Value.okWide Try.prog W .any base t v := hval0
  have hW' := hW
  obtain ⟨p, q, hA0, hV, rfl, hfz, hnd⟩ := hW
  have hA : DataW.TrodAll enc Try.prog W 0 (fun _ => true) true Try.f17.params.toList args.toList ds p := hA0
  rw [Try.params17] at hA hval
  obtain ⟨v0, vs0, d0, ds0, p0, q0, hargs, rfl, rfl, h0, r0⟩ := trodAll_cons hA
  obtain ⟨rfl, rfl, rfl⟩ := trodAll_nil r0
  obtain rfl : args = #[v0] := by cases args; simp_all
  obtain ⟨rfl, rfl⟩ := trodVars_none hV
  have kk0 := h0
  have lt0 : ∀ x ∈ p0, x.block < W.heap.size := by obtain ⟨m, hm⟩ := kk0; exact DataW.trod_lt m _ _ _ hm
  obtain ⟨a0, a1, a2, a3, a4, rfl, w_a0_0, w_a0_1, w_a0_2, w_a0_3⟩ := open_tbl (hval 0 24 v0 rfl rfl) h0 (fun _ => rfl)
  clear hA0 hval0
  simp only [List.append_nil] at hW'
  refine (walk a0 a1 a2 a3 a4 W w_a0_0 w_a0_1 w_a0_2 w_a0_3).mono fun e W' ⟨he, hg⟩ => ?_
  subst he
  exact ⟨_, rfl, _, _, _, [], _, [], hW', (trodAll_cons_mk (shut_bool Try.underlying4 _) trodAll_mk0), (trodAll_cons_mk (Below.trod (by kernel_rfl) (by kernel_rfl) (of_decide_eq_true (by kernel_rfl)) kk0 hg lt0) trodAll_mk0), rfl, hg.frame _, fun h => by cases h⟩

theorem over : Rows.fnExactIsValidTableRow.holds Try.pinned (OpenSpec.ofChange Rows.fnExactIsValidTableSpec) :=
  OpenClaim.holds_of_wide 17 Try.f17 rfl rfl rfl rfl rfl rfl rfl ⟨rfl, rfl, rfl, rfl, rfl⟩ rfl rfl rfl rfl rfl (by kernel_rfl) Try.func17 (MkF.closed_of (by kernel_rfl) (by kernel_rfl) (by kernel_rfl) (by kernel_rfl) (by kernel_rfl) (by kernel_rfl) (by kernel_rfl) (by kernel_rfl) (by kernel_rfl) (by kernel_rfl) (by kernel_rfl) (by kernel_rfl) (by kernel_rfl) (by kernel_rfl) (by kernel_rfl) (by kernel_rfl) (by kernel_rfl) (by kernel_rfl) (by kernel_rfl) (by kernel_rfl) (by kernel_rfl) (by kernel_rfl) (by kernel_rfl) (by kernel_rfl) (by kernel_rfl) MkF.mk_enter (MkF.lifts_eq MkF.mk_lifts rfl) (MkF.make_eq MkF.mk_make rfl) (by kernel_rfl) (by kernel_rfl) (by kernel_rfl) (by kernel_rfl))
    (of_decide_eq_true (by kernel_rfl)) (by unfold Func.isWrapper; first | (rw [if_pos (by decide +kernel)]; kernel_rfl) | (rw [if_neg (by decide +kernel)]; exact ⟨rfl, rfl⟩))
    (fun os started H enc _ => lifted os started H enc)

/-- ████ THE STATEMENT ████ -/
theorem proved : Rows.FnExactIsValidTableSaid :=
  over
end Go.Proofs.Ytndebdimjlfepaa.fnExactIsValidTable
