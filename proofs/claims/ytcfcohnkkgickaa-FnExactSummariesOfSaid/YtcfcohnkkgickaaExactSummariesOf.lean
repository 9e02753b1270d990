/-
  Proved: for every table, the law FnExactSummariesOf returns true (the project's SummariesOf answers as its model, leaves its argument as it was, and hands back memory of its own). No condition.
-/
import Derived.Test.YtcfcohnkkgickaaRows
import Derived.Test.YtcfcohnkkgickaaMk
import Derived.Test.YtcfcohnkkgickaaPlain
import Derived.Test.YtcfcohnkkgickaaL1In
import Derived.Test.YtcfcohnkkgickaaKeep
import Derived.Test.YtcfcohnkkgickaaRvSpec
import Derived.Test.YtcfcohnkkgickaaRwLaw
import Derived.Test.YtcfcohnkkgickaaRwsOwn
import Derived.Test.YtcfcohnkkgickaaArSpec
import Derived.Test.YtcfcohnkkgickaaEqRows
import Derived.Test.YtcfcohnkkgickaaRwsApp
import Derived.Test.YtcfcohnkkgickaaBkPlain
import Derived.Test.YtcfcohnkkgickaaBkLaw
import Derived.Test.YtcfcohnkkgickaaRep
import Derived.Test.YtcfcohnkkgickaaRwRep
import Derived.Test.YtcfcohnkkgickaaMkRows
import Derived.Test.YtcfcohnkkgickaaInv
import Derived.Test.YtcfcohnkkgickaaBkOwn
import Derived.Test.YtcfcohnkkgickaaTbRep
import Derived.Test.YtcfcohnkkgickaaTbLaw
import Derived.Test.YtcfcohnkkgickaaTmMark
import Derived.Test.YtcfcohnkkgickaaTbSz2
import Derived.Test.YtcfcohnkkgickaaIntOwn
import Derived.Test.YtcfcohnkkgickaaIntLaw
import Derived.Test.YtcfcohnkkgickaaSmPlain
import Derived.Test.YtcfcohnkkgickaaSmLaw
import Derived.Test.YtcfcohnkkgickaaSmApp
import Derived.Test.YtcfcohnkkgickaaLimbs
import Derived.Test.YtcfcohnkkgickaaSofPlain
import Derived.Test.YtcfcohnkkgickaaMhB
import Derived.WalkKit
import Derived.ProofKit
import Derived.OpenShut
import Derived.ShutString
import Derived.ChangeOld
import Derived.Below
import Derived.Carry
namespace Go.Proofs.Ytcfcohnkkgickaa.fnExactSummariesOf
open Go.ChangeShapes Go.WideShapes Go.ChangeAt Go.RowKit
open Go.ChangeMaps (open_string shut_string)
set_option linter.unusedVariables false

theorem own : ownKnob Try.prog.godebug = none := by kernel_rfl

/-! ### The walk -/
set_option maxRecDepth 100000 in
set_option maxHeartbeats 8000000 in
theorem walk (a0 : Int) (a1 : Option Addr) (a2 : Nat) (a3 : Nat) (a4 : Nat → Blk) (w : World) (w_a0_0 : (Lit.int .i64 a0).wf = true) (w_a0_1 : BlksArg w a1 a2 a4) (w_a0_2 : a2 ≤ maxLen) (w_a0_3 : WfB a2 a4) :
    Calls Try.prog 10 #[.agg #[.int .i64 a0, .slice a1 a2 a3]] w fun e w' => e = .returned (.bool true) ∧ Below w.heap.size w w' := by
  have hm1 := w_a0_2
  have HWB := Lib.hid w_a0_3
  have HA := Lib.hid w_a0_1
  clear w_a0_2 w_a0_3
  go_enter Try.func10, Try.ntmps10
  go_wp2_with fail
  have K0 := (Kept.start w).alloc2 (.int .i64 a0) (.slice a1 a2 a3) 24 _ rfl
  refine (law_szTbl2 1048576 a0 a1 a2 a3 a4 _ (by decide) (by decide) hm1 (HA.out.below K0.1)).mono ?_
  rintro e w1 ⟨⟨r, rfl, hr⟩, hb⟩
  have K1 := K0.step hb
  clear hb K0
  rcases hr with rfl | ⟨hr0, hr1, hn, hsum, hrl⟩
  · go_wp2
    go_ret
    exact ⟨rfl, K1.1⟩
  · have z1 : ¬ r < 0 := by omega
    have z2 : decide (r < 0) = false := decide_eq_false z1
    have HRA := Lib.hid hrl
    have HRBA := Lib.hid (lstB_rows hrl)
    have HRNA := Lib.hid (show ∀ k, k < a2 → (Bn (lstB a2 a4) k).rows.length ≤ 1048576 from fun k hk => by rw [Bn_at (by rw [lstB_len]; exact hk), lstB_at]; exact hrl k hk)
    have HWF := Lib.hid (show WfB a2 (Bn (lstB a2 a4)) from fun k hk => by rw [Bn_at (by rw [lstB_len]; exact hk), lstB_at]; exact HWB.out k hk)
    have HSA := Lib.hid (show (rowsN a4 a2 : Int) ≤ 1048576 from by omega)
    clear hrl hsum HWB
    obtain ⟨L, hL⟩ : ∃ L, L = sofT a0 (lstB a2 a4) := ⟨_, rfl⟩
    have hL6 : L.length ≤ 6 := by rw [hL]; exact sofT_len
    have HLH := Lib.hid (show ∀ s ∈ L, s.h.length = 12 from by rw [hL]; exact sofT_h)
    have HL1 := Lib.hid (show ∀ s ∈ L, s.h.length ≤ 1048576 from fun s hs => by have := HLH.out s hs; omega)
    have HME := Lib.hid (mkEnd_le L 1 (fun s hs => by have := HLH.out s hs; omega))
    have HMG := Lib.hid (mkEnd_ge L 1)
    have SP : Hid (∀ (g : Nat) (w : World), BlksVal w (some ⟨g, 0, none⟩) (lstB a2 a4) → Calls Try.prog 65 #[.agg #[.int .i64 a0, .slice (some ⟨g, 0, none⟩) a2 a2]] w (SofOut L w)) := (fun g w h => by rw [hL]; exact spec_sof a0 _ a2 a2 (lstB a2 a4) w (lstB_len _ _) hn HRNA.out h : ∀ (g : Nat) (w : World), BlksVal w (some ⟨g, 0, none⟩) (lstB a2 a4) → Calls Try.prog 65 #[.agg #[.int .i64 a0, .slice (some ⟨g, 0, none⟩) a2 a2]] w (SofOut L w))
    have IM : Hid (∀ (g : Nat) (w : World), BlksVal w (some ⟨g, 0, none⟩) (lstB a2 a4) → Calls Try.prog 66 #[.agg #[.int .i64 a0, .slice (some ⟨g, 0, none⟩) a2 a2]] w (SofOut L w)) := (fun g w h => by rw [hL]; exact impl_sof a0 _ a2 a2 (lstB a2 a4) w (lstB_len _ _) hn HRNA.out HWF.out h : ∀ (g : Nat) (w : World), BlksVal w (some ⟨g, 0, none⟩) (lstB a2 a4) → Calls Try.prog 66 #[.agg #[.int .i64 a0, .slice (some ⟨g, 0, none⟩) a2 a2]] w (SofOut L w))
    clear hL
    have I0 := Inv.of_kept (K1)
    clear K1
    have y0 := I0.get 0 rfl
    have y1 := I0.get 1 rfl
    go_wp2_with fail
    refine (law_toTbl a0 a1 a2 a3 a4 _ hn HRA.out (HA.out.below I0.below)).mono ?_
    rintro e w2 ⟨g2, fp2, rfl, hs, hf, hnd2, hb⟩
    have I1 := I0.own (ownS blkTy (.slice (some ⟨g2, 0, none⟩) a2 a2) (lstB a2 a4) fp2) hb hs hf
    clear hs hf hb y0 y1 I0
    go_wp2_with fail
    refine (SP.out _ _ (blks_at (I1.at 0 rfl))).mono ?_
    rintro e w3 ⟨v9, f9, rfl, ho, hb⟩
    obtain ⟨ao3, c3, rfl⟩ := ho.shape
    obtain ⟨fp3, hs, hf, hnd3⟩ := ho.rep
    clear ho
    have I2 := I1.own (ownS smTy (.slice ao3 L.length c3) L fp3) hb hs hf
    clear hs hf hb I1
    have y0 := I2.get 0 rfl
    have y1 := I2.get 1 rfl
    go_wp2_with fail
    refine (law_toTbl a0 a1 a2 a3 a4 _ hn HRA.out (HA.out.below I2.below)).mono ?_
    rintro e w4 ⟨g4, fp4, rfl, hs, hf, hnd4, hb⟩
    have I3 := (I2.own (ownS blkTy (.slice (some ⟨g4, 0, none⟩) a2 a2) (lstB a2 a4) fp4) hb hs hf).alloc2 (.int .i64 a0) (.slice (some ⟨g4, 0, none⟩) a2 a2) 32 w4.heap.size rfl
    clear hs hf hb y0 y1 I2
    have y0 := I3.get 0 rfl
    have y1 := I3.get 1 rfl
    go_wp2_with fail
    refine (IM.out _ _ (blks_at (I3.at 0 rfl))).mono ?_
    rintro e w5 ⟨v9, f9, rfl, ho, hb⟩
    obtain ⟨ao5, c5, rfl⟩ := ho.shape
    obtain ⟨fp5, hs, hf, hnd5⟩ := ho.rep
    clear ho
    have I4 := I3.own (ownS smTy (.slice ao5 L.length c5) L fp5) hb hs hf
    clear hs hf hb y0 y1 I3
    go_wp2_with fail
    refine (law_eqSms _ _ L _ _ _ (by omega) HL1.out (I4.at 0 rfl) (I4.at 2 rfl)).mono ?_
    rintro e w6 ⟨rfl, hb⟩
    have I5 := I4.step hb
    clear hb I4
    have hx : SliceRep blkTy w6 (.slice (some ⟨g4, 0, none⟩) a2 a2) (lstB a2 a4) fp4 := I5.at 1 rfl
    have IQ := I5
    have KQ := I5.1.sub (l' := [(⟨w4.heap.size, 0, none⟩, .int .i64 a0), (⟨w4.heap.size, 1, none⟩, .slice (some ⟨g4, 0, none⟩) a2 a2), (⟨w.heap.size, 0, none⟩, .int .i64 a0), (⟨w.heap.size, 1, none⟩, .slice a1 a2 a3)]) (by intro p9 hp9; simp only [List.mem_cons, List.not_mem_nil, or_false] at hp9; rcases hp9 with rfl | rfl | rfl | rfl <;> simp)
    go_wp2_with fail
    go_region_held3 (fun w' => w'.cell? ⟨w4.heap.size, 0, none⟩ = some (.int .i64 a0) ∧ w'.cell? ⟨w4.heap.size, 1, none⟩ = some (.slice (some ⟨g4, 0, none⟩) a2 a2) ∧ w'.cell? ⟨w.heap.size, 0, none⟩ = some (.int .i64 a0) ∧ w'.cell? ⟨w.heap.size, 1, none⟩ = some (.slice a1 a2 a3) ∧ Below w6.heap.size w6 w') (first | assumption | exact kn4_at KQ (Below.refl _ _).drew | exact kn4_keep KQ (by assumption) (by assumption)) (first | (go_simp; go_at_call 15; (with_reducible refine (law_toTbl a0 a1 a2 a3 a4 _ hn HRA.out ?_).mono ?_); (exact (HA.out.below KQ.1).below (kn4_b (by assumption))); rintro e9 w9 ⟨gA, fpA, rfl, hsA, _, _, hbA⟩) | (go_simp; go_at_call 18; (with_reducible refine (law_eqTbl _ _ _ _ _ _ (lstB a2 a4) _ (lstB_len _ _) hn HRBA.out ?_ ?_).mono ?_); (exact blks_at (hx.step (kn4_b (by assumption)))); (exact blks_at hsA); rintro e9 w11 ⟨rfl, hb⟩))
    all_goals
      have IX := IQ.step (kn4_b (‹_ ∧ _ ∧ _ ∧ _ ∧ Below w6.heap.size w6 w11›))
      obtain ⟨w7, hw9⟩ : ∃ w9, w9 = w11 := ⟨_, rfl⟩
      clear hb hsA hbA KQ IQ I5 hx
      subst hw9
      have I6 := IX
      clear IX
      have y0 := I6.get 0 rfl
      have y1 := I6.get 1 rfl
      go_wp2_with fail
      refine (law_markTblO a0 _ (lstB a2 a4) fp4 1 _ (by rw [lstB_len]; omega) (by rw [markEnd_lst]; have := HSA.out; omega) (by decide) (I6.at 1 rfl) hnd4).mono ?_
      rintro e w8 ⟨rfl, hc, hs⟩
      have I7 := Inv.chg (S1 := [ownS smTy (.slice ao5 L.length c5) L fp5]) (S2 := [ownS smTy (.slice ao3 L.length c3) L fp3, ownS blkTy (.slice (some ⟨g2, 0, none⟩) a2 a2) (lstB a2 a4) fp2]) (s := ownS blkTy (.slice (some ⟨g4, 0, none⟩) a2 a2) (lstB a2 a4) fp4) I6 (ownS blkTy (.slice (some ⟨g4, 0, none⟩) a2 a2) (markBlks 1 (lstB a2 a4)) fp4) rfl hc hs
      clear hc hs y0 y1 I6
      obtain ⟨ka, hka⟩ : ∃ q, q = markEnd 1 (lstB a2 a4) := ⟨_, rfl⟩
      rw [← hka]
      have kab : 0 ≤ ka ∧ ka ≤ 20000000 := by rw [hka, markEnd_lst]; have := HSA.out; omega
      clear hka
      obtain ⟨ka0, ka1⟩ := kab
      have kad : decide (ka < 0) = false := decide_eq_false (by omega)
      go_wp2_with fail
      refine (law_eqSms _ _ L _ _ _ (by omega) HL1.out (I7.at 0 rfl) (I7.at 2 rfl)).mono ?_
      rintro e w9 ⟨rfl, hb⟩
      have I8 := I7.step hb
      clear hb I7
      go_wp2_with fail
      refine (law_markSms _ L fp5 1 _ (by omega) (by have := HME.out; omega) (by decide) (I8.at 0 rfl) hnd5).mono ?_
      rintro e w10 ⟨rfl, hc, hs⟩
      have I9 := Inv.chg (S1 := []) (S2 := [ownS blkTy (.slice (some ⟨g4, 0, none⟩) a2 a2) (markBlks 1 (lstB a2 a4)) fp4, ownS smTy (.slice ao3 L.length c3) L fp3, ownS blkTy (.slice (some ⟨g2, 0, none⟩) a2 a2) (lstB a2 a4) fp2]) (s := ownS smTy (.slice ao5 L.length c5) L fp5) I8 (ownS smTy (.slice ao5 L.length c5) (markSm 1 L) fp5) rfl hc hs
      clear hc hs I8
      obtain ⟨mm, hmm⟩ : ∃ q, q = mkEnd 1 L := ⟨_, rfl⟩
      rw [← hmm]
      have mmd : decide (mm < 0) = false := decide_eq_false (by have := HMG.out; omega)
      have Hmm := Lib.hid hmm
      clear hmm
      have mmq : (mm != mm) = false := bne_self_eq_false _
      go_wp2_with fail
      refine (law_heldSms _ L fp5 1 _ (by omega) (by have := HME.out; omega) (by decide) (I9.at 0 rfl)).mono ?_
      rintro e w11 ⟨rfl, hb⟩
      rw [← Hmm.out]
      have I10 := I9.step hb
      clear hb I9
      have y0 := I10.get 2 rfl
      have y1 := I10.get 3 rfl
      go_wp2_with fail
      refine (law_toTbl a0 a1 a2 a3 a4 _ hn HRA.out (HA.out.below I10.below)).mono ?_
      rintro e w12 ⟨g12, fp12, rfl, hs, hf, hnd12, hb⟩
      have I11 := I10.own (ownS blkTy (.slice (some ⟨g12, 0, none⟩) a2 a2) (lstB a2 a4) fp12) hb hs hf
      clear hs hf hb y0 y1 I10
      go_wp2_with fail
      refine (IM.out _ _ (blks_at (I11.at 0 rfl))).mono ?_
      rintro e w13 ⟨v9, f9, rfl, ho, hb⟩
      obtain ⟨ao13, c13, rfl⟩ := ho.shape
      obtain ⟨fp13, hs, hf, hnd13⟩ := ho.rep
      clear ho
      have I12 := I11.own (ownS smTy (.slice ao13 L.length c13) L fp13) hb hs hf
      clear hs hf hb I11
      go_wp2_with fail
      refine (law_eqSms _ _ L _ _ _ (by omega) HL1.out (I12.at 0 rfl) (I12.at 4 rfl)).mono ?_
      rintro e w14 ⟨rfl, hb⟩
      have I13 := I12.step hb
      clear hb I12
      go_wp2_with fail
      refine (law_heldSms _ L fp5 1 _ (by omega) (by have := HME.out; omega) (by decide) (I13.at 2 rfl)).mono ?_
      rintro e w15 ⟨rfl, hb⟩
      rw [← Hmm.out]
      have I14 := I13.step hb
      clear hb I13
      go_wp2
      go_ret
      exact ⟨rfl, I14.below⟩

/-! ### THE ROW's STEP -/
set_option maxRecDepth 100000 in
theorem lifted (os : Os) (started : os.Started) (H : Type) (enc : TypeId × Value → H) :
    ReturnsInHanded {} Try.checked os 10 .any (Rows.fnExactSummariesOfSpec.pre6 enc Try.prog Try.f10 Rows.fnExactSummariesOfRow.domain false) (Rows.fnExactSummariesOfSpec.post enc Try.prog Try.f10 false true false false) := by
  refine returnsInHanded_of_change (C := Try.checked) own started (by kernel_rfl) Try.func10
    (ChangeSpec.witness6 (enc := enc) (C := Try.checked) false ⟨#[], #[.agg #[.int .i64 0, .slice none 0 0]], []⟩ 8 (by kernel_rfl) (by kernel_rfl) (by kernel_rfl) (by kernel_rfl)) ?_
  intro W base args ds gs before hval0 hW hcnd _
  have hval : ∀ (j : Nat) t v, Try.f10.params[j]? = some t → args[j]? = some v → Value.okWide Try.prog W .any base t v := hval0
  have hW' := hW
  obtain ⟨p, q, hA0, hV, rfl, hfz, hnd⟩ := hW
  have hA : DataW.TrodAll enc Try.prog W 0 (fun _ => true) true Try.f10.params.toList args.toList ds p := hA0
  rw [Try.params10] at hA hval
  obtain ⟨v0, vs0, d0, ds0, p0, q0, hargs, rfl, rfl, h0, r0⟩ := trodAll_cons hA
  obtain ⟨rfl, rfl, rfl⟩ := trodAll_nil r0
  obtain rfl : args = #[v0] := by cases args; simp_all
  obtain ⟨rfl, rfl⟩ := trodVars_none hV
  have kk0 := h0
  have lt0 : ∀ x ∈ p0, x.block < W.heap.size := by obtain ⟨m, hm⟩ := kk0; exact DataW.trod_lt m _ _ _ hm
  obtain ⟨a0, a1, a2, a3, a4, rfl, w_a0_0, w_a0_1, w_a0_2, w_a0_3⟩ := open_tbl (hval 0 24 v0 rfl rfl) h0 (fun _ => rfl)
  clear hA0 hval0
  simp only [List.append_nil] at hW'
  refine (walk a0 a1 a2 a3 a4 W w_a0_0 w_a0_1 w_a0_2 w_a0_3).mono fun e W' ⟨he, hg⟩ => ?_
  subst he
  exact ⟨_, rfl, _, _, _, [], _, [], hW', (trodAll_cons_mk (shut_bool Try.underlying4 _) trodAll_mk0), (trodAll_cons_mk (Below.trod (by kernel_rfl) (by kernel_rfl) (of_decide_eq_true (by kernel_rfl)) kk0 hg lt0) trodAll_mk0), rfl, hg.frame _, fun h => by cases h⟩

theorem over : Rows.fnExactSummariesOfRow.holds Try.pinned (OpenSpec.ofChange Rows.fnExactSummariesOfSpec) :=
  OpenClaim.holds_of_wide 10 Try.f10 rfl rfl rfl rfl rfl rfl rfl ⟨rfl, rfl, rfl, rfl, rfl⟩ rfl rfl rfl rfl rfl (by kernel_rfl) Try.func10 (MkF.closed_of (by kernel_rfl) (by kernel_rfl) (by kernel_rfl) (by kernel_rfl) (by kernel_rfl) (by kernel_rfl) (by kernel_rfl) (by kernel_rfl) (by kernel_rfl) (by kernel_rfl) (by kernel_rfl) (by kernel_rfl) (by kernel_rfl) (by kernel_rfl) (by kernel_rfl) (by kernel_rfl) (by kernel_rfl) (by kernel_rfl) (by kernel_rfl) (by kernel_rfl) (by kernel_rfl) (by kernel_rfl) (by kernel_rfl) (by kernel_rfl) (by kernel_rfl) MkF.mk_enter (MkF.lifts_eq MkF.mk_lifts rfl) (MkF.make_eq MkF.mk_make rfl) (by kernel_rfl) (by kernel_rfl) (by kernel_rfl) (by kernel_rfl))
    (of_decide_eq_true (by kernel_rfl)) (by unfold Func.isWrapper; first | (rw [if_pos (by decide +kernel)]; kernel_rfl) | (rw [if_neg (by decide +kernel)]; exact ⟨rfl, rfl⟩))
    (fun os started H enc _ => lifted os started H enc)

/-- ████ THE STATEMENT ████ -/
theorem proved : Rows.FnExactSummariesOfSaid :=
  over
end Go.Proofs.Ytcfcohnkkgickaa.fnExactSummariesOf
