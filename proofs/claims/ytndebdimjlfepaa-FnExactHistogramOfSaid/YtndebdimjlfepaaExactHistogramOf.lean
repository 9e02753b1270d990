/-
  Proved: for every slice of rows, the law FnExactHistogramOf returns true (the project's HistogramOf answers as its model, leaves its argument as it was, and hands back memory of its own). No condition.
-/
import Derived.Test.YtndebdimjlfepaaRows
import Derived.Test.YtndebdimjlfepaaMk
import Derived.Test.YtndebdimjlfepaaPlain
import Derived.Test.YtndebdimjlfepaaL1In
import Derived.Test.YtndebdimjlfepaaKeep
import Derived.Test.YtndebdimjlfepaaRvSpec
import Derived.Test.YtndebdimjlfepaaRwLaw
import Derived.Test.YtndebdimjlfepaaRwsOwn
import Derived.Test.YtndebdimjlfepaaArSpec
import Derived.Test.YtndebdimjlfepaaEqRows
import Derived.Test.YtndebdimjlfepaaFdSpec
import Derived.Test.YtndebdimjlfepaaRwsApp
import Derived.Test.YtndebdimjlfepaaBkPlain
import Derived.Test.YtndebdimjlfepaaRep
import Derived.Test.YtndebdimjlfepaaRwRep
import Derived.Test.YtndebdimjlfepaaMkRows
import Derived.Test.YtndebdimjlfepaaInv
import Derived.Test.YtndebdimjlfepaaBkOwn
import Derived.Test.YtndebdimjlfepaaIntOwn
import Derived.Test.YtndebdimjlfepaaIntLaw
import Derived.Test.YtndebdimjlfepaaIntArg
import Derived.Test.YtndebdimjlfepaaHgPlain
import Derived.Test.YtndebdimjlfepaaHgSpec
import Derived.Test.YtndebdimjlfepaaHgSpec2
import Derived.Test.YtndebdimjlfepaaIntStep
import Derived.Test.YtndebdimjlfepaaHgAdd
import Derived.Test.YtndebdimjlfepaaHgHist
import Derived.Test.YtndebdimjlfepaaCvPlain
import Derived.Test.YtndebdimjlfepaaCvLim
import Derived.Test.YtndebdimjlfepaaCvTot
import Derived.Test.YtndebdimjlfepaaCvEq
import Derived.Test.YtndebdimjlfepaaCvAv
import Derived.Test.YtndebdimjlfepaaCvOf
import Derived.Test.YtndebdimjlfepaaHgImpl
import Derived.Test.YtndebdimjlfepaaHgAddI
import Derived.Test.YtndebdimjlfepaaHgHistI
import Derived.Test.YtndebdimjlfepaaHgLaw
import Derived.Test.YtndebdimjlfepaaRowsArg
import Derived.WalkKit
import Derived.ProofKit
import Derived.OpenShut
import Derived.ShutString
import Derived.ChangeOld
import Derived.Below
import Derived.Carry
namespace Go.Proofs.Ytndebdimjlfepaa.fnExactHistogramOf
open Go.ChangeShapes Go.WideShapes Go.ChangeAt Go.RowKit
open Go.ChangeMaps (open_string shut_string)
set_option linter.unusedVariables false

theorem own : ownKnob Try.prog.godebug = none := by kernel_rfl

/-! ### The walk -/
set_option maxRecDepth 100000 in
set_option maxHeartbeats 8000000 in
theorem walk (a0 : Option Addr) (a1 : Nat) (a2 : Nat) (a3 : Nat → Rw) (w : World) (w_a0_0 : RowsArg w a0 a1 a3) (w_a0_1 : a1 ≤ maxLen) :
    Calls Try.prog 6 #[.slice a0 a1 a2] w fun e w' => e = .returned (.bool true) ∧ Below w.heap.size w w' := by
  have hmax : a1 ≤ 9223372036854775807 := Nat.le_trans w_a0_1 (by unfold maxLen; omega)
  by_cases hbig : 1048576 < a1
  · go_enter Try.func6, Try.ntmps6
    go_wp2_with fail
    refine (law_sz_big a0 a1 a2 _ hbig hmax).mono ?_
    rintro e w' ⟨rfl, rfl⟩
    go_wp2
    go_ret
    exact ⟨rfl, Below.refl _ _⟩
  · have hn : a1 ≤ 1048576 := by omega
    have hnI : (a1 : Int) ≤ 1048576 := by omega
    have hz : ¬ (1048576 - (a1 : Int)) < 0 := by omega
    have hzd : decide ((1048576 - (a1 : Int)) < 0) = false := decide_eq_false hz
    have HA := Lib.hid w_a0_0
    obtain ⟨HL, hHL⟩ : ∃ HL, HL = histL (lst a1 a3) := ⟨_, rfl⟩
    have h12 : HL.length ≤ 1048576 := by rw [hHL, histL_len]; decide
    have SP : Hid (∀ (g : Nat) (w : World) (fp : List Nat), SliceRep rowTy w (.slice (some ⟨g, 0, none⟩) a1 a1) (lst a1 a3) fp → Calls Try.prog 39 #[.slice (some ⟨g, 0, none⟩) a1 a1] w (IntsOut HL w)) := (fun g w fp hs => by rw [hHL]; exact spec_histV _ a1 _ (lst a1 a3) _ (lst_len _ _) hn (rows_val hs) : ∀ (g : Nat) (w : World) (fp : List Nat), SliceRep rowTy w (.slice (some ⟨g, 0, none⟩) a1 a1) (lst a1 a3) fp → Calls Try.prog 39 #[.slice (some ⟨g, 0, none⟩) a1 a1] w (IntsOut HL w))
    have IM : Hid (∀ (g : Nat) (w : World) (fp : List Nat), SliceRep rowTy w (.slice (some ⟨g, 0, none⟩) a1 a1) (lst a1 a3) fp → Calls Try.prog 41 #[.slice (some ⟨g, 0, none⟩) a1 a1] w (IntsOut HL w)) := (fun g w fp hs => by rw [hHL]; exact impl_histV _ a1 _ (lst a1 a3) _ (lst_len _ _) hn (rows_val hs) : ∀ (g : Nat) (w : World) (fp : List Nat), SliceRep rowTy w (.slice (some ⟨g, 0, none⟩) a1 a1) (lst a1 a3) fp → Calls Try.prog 41 #[.slice (some ⟨g, 0, none⟩) a1 a1] w (IntsOut HL w))
    clear hHL hbig hmax w_a0_1
    go_enter Try.func6, Try.ntmps6
    go_wp2_with fail
    refine (law_sz a0 a1 a2 _ hn).mono ?_
    rintro e w' ⟨rfl, rfl⟩
    have I0 := Inv.of_kept (Kept.start w)
    go_wp2_with fail
    refine (law_toRs a0 a1 a2 a3 _ hn (HA.out.below I0.below)).mono ?_
    rintro e w1 ⟨h9, ht⟩
    obtain ⟨g1, hg1⟩ : ∃ g, g = w.heap.size := ⟨_, rfl⟩
    rw [← hg1] at h9 ht
    subst h9
    have hb := ht.1
    have hs := ht.rep (cap := a1) (Nat.le_refl _)
    have hf : ∀ k ∈ [g1], w.heap.size ≤ k := fun k hk => by rw [List.mem_singleton.1 hk, hg1]; exact Nat.le_refl _
    clear ht hg1
    have I1 := I0.own (ownS rowTy (.slice (some ⟨g1, 0, none⟩) a1 a1) (lst a1 a3) [g1]) hb hs hf
    clear hs hf hb I0
    go_wp2_with fail
    refine (SP.out _ _ _ (I1.at 0 rfl)).mono ?_
    rintro e w2 ⟨v, fp2, rfl, hs, hnd2, hf, hb⟩
    obtain ⟨ao2, c2, rfl, _, _⟩ := ints_open hs
    have I2 := I1.own (ownS intTy (.slice ao2 HL.length c2) HL fp2) hb hs hf
    clear hs hf hb I1
    go_wp2_with fail
    refine (law_toRs a0 a1 a2 a3 _ hn (HA.out.below I2.below)).mono ?_
    rintro e w3 ⟨h9, ht⟩
    obtain ⟨g3, hg3⟩ : ∃ g, g = w2.heap.size := ⟨_, rfl⟩
    rw [← hg3] at h9 ht
    subst h9
    have hb := ht.1
    have hs := ht.rep (cap := a1) (Nat.le_refl _)
    have hf : ∀ k ∈ [g3], w2.heap.size ≤ k := fun k hk => by rw [List.mem_singleton.1 hk, hg3]; exact Nat.le_refl _
    clear ht hg3
    have I3 := I2.own (ownS rowTy (.slice (some ⟨g3, 0, none⟩) a1 a1) (lst a1 a3) [g3]) hb hs hf
    clear hs hf hb I2
    go_wp2_with fail
    refine (IM.out _ _ _ (I3.at 0 rfl)).mono ?_
    rintro e w4 ⟨v, fp4, rfl, hs, hnd4, hf, hb⟩
    obtain ⟨ao4, c4, rfl, _, _⟩ := ints_open hs
    have I4 := I3.own (ownS intTy (.slice ao4 HL.length c4) HL fp4) hb hs hf
    clear hs hf hb I3
    go_wp2_with fail
    refine (law_eqI _ _ HL _ _ _ (by omega) (I4.at 0 rfl) (I4.at 2 rfl)).mono ?_
    rintro e w5 ⟨rfl, hb⟩
    have I5 := I4.step hb
    clear hb I4
    go_wp2_with fail
    refine (law_toRs a0 a1 a2 a3 _ hn (HA.out.below I5.below)).mono ?_
    rintro e w6 ⟨h9, ht⟩
    obtain ⟨g6, hg6⟩ : ∃ g, g = w5.heap.size := ⟨_, rfl⟩
    rw [← hg6] at h9 ht
    subst h9
    have hb := ht.1
    have hs := ht.rep (cap := a1) (Nat.le_refl _)
    have hf : ∀ k ∈ [g6], w5.heap.size ≤ k := fun k hk => by rw [List.mem_singleton.1 hk, hg6]; exact Nat.le_refl _
    clear ht hg6
    have I6 := I5.own (ownS rowTy (.slice (some ⟨g6, 0, none⟩) a1 a1) (lst a1 a3) [g6]) hb hs hf
    clear hs hf hb I5
    go_wp2_with fail
    refine (law_eqRsO _ _ (lst a1 a3) _ _ _ (by rw [lst_len]; exact hn) (I6.at 2 rfl) (I6.at 0 rfl)).mono ?_
    rintro e w7 ⟨rfl, hb⟩
    have I7 := I6.step hb
    clear hb I6
    go_wp2_with fail
    refine (law_markRsV _ (lst a1 a3) _ 1 _ (by rw [lst_len]; omega) (by decide) (by decide) (I7.at 2 rfl)).mono ?_
    rintro e w8 ⟨rfl, hc, hs⟩
    have I8 := Inv.chg (S1 := [ownS rowTy (.slice (some ⟨g6, 0, none⟩) a1 a1) (lst a1 a3) [g6], ownS intTy (.slice ao4 HL.length c4) HL fp4]) (S2 := [ownS intTy (.slice ao2 HL.length c2) HL fp2, ownS rowTy (.slice (some ⟨g1, 0, none⟩) a1 a1) (lst a1 a3) [g1]]) (s := ownS rowTy (.slice (some ⟨g3, 0, none⟩) a1 a1) (lst a1 a3) [g3]) I7 (ownS rowTy (.slice (some ⟨g3, 0, none⟩) a1 a1) (marks 1 (lst a1 a3).length) [g3]) rfl hc hs
    clear hc hs I7
    obtain ⟨kk, hkk⟩ : ∃ kk, kk = 1 + 5 * ((lst a1 a3).length : Int) := ⟨_, rfl⟩
    rw [← hkk]
    have kk0 : ¬ kk < 0 := by omega
    have kkd : decide (kk < 0) = false := decide_eq_false kk0
    clear hkk
    go_wp2_with fail
    refine (law_eqI _ _ HL _ _ _ (by omega) (I8.at 1 rfl) (I8.at 3 rfl)).mono ?_
    rintro e w9 ⟨rfl, hb⟩
    have I9 := I8.step hb
    clear hb I8
    go_wp2_with fail
    refine (law_markI _ HL _ 1 _ (by omega) (by decide) (by decide) (I9.at 1 rfl)).mono ?_
    rintro e w10 ⟨rfl, hc, hs⟩
    have I10 := Inv.chg (S1 := [ownS rowTy (.slice (some ⟨g6, 0, none⟩) a1 a1) (lst a1 a3) [g6]]) (S2 := [ownS rowTy (.slice (some ⟨g3, 0, none⟩) a1 a1) (marks 1 (lst a1 a3).length) [g3], ownS intTy (.slice ao2 HL.length c2) HL fp2, ownS rowTy (.slice (some ⟨g1, 0, none⟩) a1 a1) (lst a1 a3) [g1]]) (s := ownS intTy (.slice ao4 HL.length c4) HL fp4) I9 (ownS intTy (.slice ao4 HL.length c4) (markI 1 HL.length) fp4) rfl hc hs
    clear hc hs I9
    obtain ⟨mm, hmm⟩ : ∃ q, q = 1 + (HL.length : Int) := ⟨_, rfl⟩
    rw [← hmm]
    have mm0 : ¬ mm < 0 := by omega
    have mmd : decide (mm < 0) = false := decide_eq_false (by omega)
    have Hmm := Lib.hid hmm
    clear hmm
    have mmq : (mm != mm) = false := bne_self_eq_false _
    go_wp2_with fail
    refine (law_heldI _ HL.length fp4 1 _ (by omega) (by decide) (by decide) (I10.at 1 rfl)).mono ?_
    rintro e w11 ⟨rfl, hb⟩
    rw [← Hmm.out]
    have I11 := I10.step hb
    clear hb I10
    go_wp2_with fail
    refine (law_toRs a0 a1 a2 a3 _ hn (HA.out.below I11.below)).mono ?_
    rintro e w12 ⟨h9, ht⟩
    obtain ⟨g12, hg12⟩ : ∃ g, g = w11.heap.size := ⟨_, rfl⟩
    rw [← hg12] at h9 ht
    subst h9
    have hb := ht.1
    have hs := ht.rep (cap := a1) (Nat.le_refl _)
    have hf : ∀ k ∈ [g12], w11.heap.size ≤ k := fun k hk => by rw [List.mem_singleton.1 hk, hg12]; exact Nat.le_refl _
    clear ht hg12
    have I12 := I11.own (ownS rowTy (.slice (some ⟨g12, 0, none⟩) a1 a1) (lst a1 a3) [g12]) hb hs hf
    clear hs hf hb I11
    go_wp2_with fail
    refine (IM.out _ _ _ (I12.at 0 rfl)).mono ?_
    rintro e w13 ⟨v, fp13, rfl, hs, hnd13, hf, hb⟩
    obtain ⟨ao13, c13, rfl, _, _⟩ := ints_open hs
    have I13 := I12.own (ownS intTy (.slice ao13 HL.length c13) HL fp13) hb hs hf
    clear hs hf hb I12
    go_wp2_with fail
    refine (law_eqI _ _ HL _ _ _ (by omega) (I13.at 0 rfl) (I13.at 5 rfl)).mono ?_
    rintro e w14 ⟨rfl, hb⟩
    have I14 := I13.step hb
    clear hb I13
    go_wp2_with fail
    refine (law_heldI _ HL.length fp4 1 _ (by omega) (by decide) (by decide) (I14.at 3 rfl)).mono ?_
    rintro e w15 ⟨rfl, hb⟩
    rw [← Hmm.out]
    have I15 := I14.step hb
    clear hb I14
    go_wp2
    go_ret
    exact ⟨rfl, I15.below⟩

/-! ### THE ROW's STEP -/
set_option maxRecDepth 100000 in
theorem lifted (os : Os) (started : os.Started) (H : Type) (enc : TypeId × Value → H) :
    ReturnsInHanded {} Try.checked os 6 .any (Rows.fnExactHistogramOfSpec.pre6 enc Try.prog Try.f6 Rows.fnExactHistogramOfRow.domain false) (Rows.fnExactHistogramOfSpec.post enc Try.prog Try.f6 false true false false) := by
  refine returnsInHanded_of_change (C := Try.checked) own started (by kernel_rfl) Try.func6
    (ChangeSpec.witness6 (enc := enc) (C := Try.checked) false ⟨#[], #[.slice none 0 0], []⟩ 8 (by kernel_rfl) (by kernel_rfl) (by kernel_rfl) (by kernel_rfl)) ?_
  intro W base args ds gs before hval0 hW hcnd _
  have hval : ∀ (j : Nat) t v, Try.f6.params[j]? = some t → args[j]? = some v → Value.okWide Try.prog W .any base t v := hval0
  have hW' := hW
  obtain ⟨p, q, hA0, hV, rfl, hfz, hnd⟩ := hW
  have hA : DataW.TrodAll enc Try.prog W 0 (fun _ => true) true Try.f6.params.toList args.toList ds p := hA0
  rw [Try.params6] at hA hval
  obtain ⟨v0, vs0, d0, ds0, p0, q0, hargs, rfl, rfl, h0, r0⟩ := trodAll_cons hA
  obtain ⟨rfl, rfl, rfl⟩ := trodAll_nil r0
  obtain rfl : args = #[v0] := by cases args; simp_all
  obtain ⟨rfl, rfl⟩ := trodVars_none hV
  have kk0 := h0
  have lt0 : ∀ x ∈ p0, x.block < W.heap.size := by obtain ⟨m, hm⟩ := kk0; exact DataW.trod_lt m _ _ _ hm
  obtain ⟨a0, a1, a2, rfl⟩ := okWide_slice Try.underlying57 (hval 0 57 v0 rfl rfl)
  obtain ⟨a3, w_a0_0, w_a0_1⟩ := open_rows (fun _ => rfl) h0
  clear hA0 hval0
  simp only [List.append_nil] at hW'
  refine (walk a0 a1 a2 a3 W w_a0_0 w_a0_1).mono fun e W' ⟨he, hg⟩ => ?_
  subst he
  exact ⟨_, rfl, _, _, _, [], _, [], hW', (trodAll_cons_mk (shut_bool Try.underlying4 _) trodAll_mk0), (trodAll_cons_mk (Below.trod (by kernel_rfl) (by kernel_rfl) (of_decide_eq_true (by kernel_rfl)) kk0 hg lt0) trodAll_mk0), rfl, hg.frame _, fun h => by cases h⟩

theorem over : Rows.fnExactHistogramOfRow.holds Try.pinned (OpenSpec.ofChange Rows.fnExactHistogramOfSpec) :=
  OpenClaim.holds_of_wide 6 Try.f6 rfl rfl rfl rfl rfl rfl rfl ⟨rfl, rfl, rfl, rfl, rfl⟩ rfl rfl rfl rfl rfl (by kernel_rfl) Try.func6 (MkF.closed_of (by kernel_rfl) (by kernel_rfl) (by kernel_rfl) (by kernel_rfl) (by kernel_rfl) (by kernel_rfl) (by kernel_rfl) (by kernel_rfl) (by kernel_rfl) (by kernel_rfl) (by kernel_rfl) (by kernel_rfl) (by kernel_rfl) (by kernel_rfl) (by kernel_rfl) (by kernel_rfl) (by kernel_rfl) (by kernel_rfl) (by kernel_rfl) (by kernel_rfl) (by kernel_rfl) (by kernel_rfl) (by kernel_rfl) (by kernel_rfl) (by kernel_rfl) MkF.mk_enter (MkF.lifts_eq MkF.mk_lifts rfl) (MkF.make_eq MkF.mk_make rfl) (by kernel_rfl) (by kernel_rfl) (by kernel_rfl) (by kernel_rfl))
    (of_decide_eq_true (by kernel_rfl)) (by unfold Func.isWrapper; first | (rw [if_pos (by decide +kernel)]; kernel_rfl) | (rw [if_neg (by decide +kernel)]; exact ⟨rfl, rfl⟩))
    (fun os started H enc _ => lifted os started H enc)

/-- ████ THE STATEMENT ████ -/
theorem proved : Rows.FnExactHistogramOfSaid :=
  over
end Go.Proofs.Ytndebdimjlfepaa.fnExactHistogramOf
