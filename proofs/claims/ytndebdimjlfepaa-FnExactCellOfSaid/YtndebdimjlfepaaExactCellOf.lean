/-
  Proved: for every slice of ints and every two ints, the law FnExactCellOf returns true (the project's CellOf answers as its model and leaves its argument as it was). No condition.
-/
import Derived.Test.YtndebdimjlfepaaRows
import Derived.Test.YtndebdimjlfepaaMk
import Derived.Test.YtndebdimjlfepaaPlain
import Derived.Test.YtndebdimjlfepaaL1In
import Derived.Test.YtndebdimjlfepaaKeep
import Derived.Test.YtndebdimjlfepaaRvSpec
import Derived.Test.YtndebdimjlfepaaRwLaw
import Derived.Test.YtndebdimjlfepaaRwsOwn
import Derived.Test.YtndebdimjlfepaaArSpec
import Derived.Test.YtndebdimjlfepaaEqRows
import Derived.Test.YtndebdimjlfepaaFdSpec
import Derived.Test.YtndebdimjlfepaaRwsApp
import Derived.Test.YtndebdimjlfepaaBkPlain
import Derived.Test.YtndebdimjlfepaaRep
import Derived.Test.YtndebdimjlfepaaRwRep
import Derived.Test.YtndebdimjlfepaaMkRows
import Derived.Test.YtndebdimjlfepaaInv
import Derived.Test.YtndebdimjlfepaaBkOwn
import Derived.Test.YtndebdimjlfepaaIntOwn
import Derived.Test.YtndebdimjlfepaaIntLaw
import Derived.Test.YtndebdimjlfepaaIntArg
import Derived.Test.YtndebdimjlfepaaHgPlain
import Derived.Test.YtndebdimjlfepaaHgSpec
import Derived.Test.YtndebdimjlfepaaHgSpec2
import Derived.Test.YtndebdimjlfepaaIntStep
import Derived.Test.YtndebdimjlfepaaHgAdd
import Derived.Test.YtndebdimjlfepaaHgHist
import Derived.Test.YtndebdimjlfepaaCvPlain
import Derived.Test.YtndebdimjlfepaaCvLim
import Derived.Test.YtndebdimjlfepaaCvTot
import Derived.Test.YtndebdimjlfepaaCvEq
import Derived.Test.YtndebdimjlfepaaCvAv
import Derived.Test.YtndebdimjlfepaaCvOf
import Derived.Test.YtndebdimjlfepaaHgImpl
import Derived.Test.YtndebdimjlfepaaHgAddI
import Derived.Test.YtndebdimjlfepaaHgHistI
import Derived.Test.YtndebdimjlfepaaHgLaw
import Derived.Test.YtndebdimjlfepaaIntArg
import Derived.WalkKit
import Derived.ProofKit
import Derived.OpenShut
import Derived.ShutString
import Derived.ChangeOld
import Derived.Below
import Derived.Carry
namespace Go.Proofs.Ytndebdimjlfepaa.fnExactCellOf
open Go.ChangeShapes Go.WideShapes Go.ChangeAt Go.RowKit
open Go.ChangeMaps (open_string shut_string)
set_option linter.unusedVariables false

theorem own : ownKnob Try.prog.godebug = none := by kernel_rfl

/-! ### The walk -/
set_option maxRecDepth 100000 in
set_option maxHeartbeats 8000000 in
theorem walk (a0 : Option Addr) (a1 : Nat) (a2 : Nat) (a3 : Nat → Int) (a4 : Int) (a5 : Int) (w : World) (w_a0_0 : IntsArg w a0 a1 a3) (w_a0_1 : a1 ≤ maxLen) (w_a4 : (Lit.int .i64 a4).wf = true) (w_a5 : (Lit.int .i64 a5).wf = true) :
    Calls Try.prog 8 #[.slice a0 a1 a2, .int .i64 a4, .int .i64 a5] w fun e w' => e = .returned (.bool true) ∧ Below w.heap.size w w' := by
  have hmaxa1 : a1 ≤ 9223372036854775807 := Nat.le_trans w_a0_1 (by unfold maxLen; omega)
  by_cases hbiga1 : 1048576 < a1
  · have hbI : (1048576 : Int) < (a1 : Int) := by omega
    have hbM : (a1 : Int) ≤ 9223372036854775807 := by omega
    go_enter Try.func8, Try.ntmps8
    go_wp2
    go_ret
    exact ⟨rfl, Below.refl _ _⟩
  · have hn : a1 ≤ 1048576 := by omega
    have hnI : (a1 : Int) ≤ 1048576 := by omega
    have HA := Lib.hid w_a0_0
    obtain ⟨V, hV⟩ : ∃ V, V = cellH (lsI a1 a3) a4 a5 := ⟨_, rfl⟩
    have SP : Hid (∀ (g : Nat) (w : World) (fp : List Nat), SliceRep intTy w (.slice (some ⟨g, 0, none⟩) a1 a1) (lsI a1 a3) fp → Calls Try.prog 47 #[.slice (some ⟨g, 0, none⟩) a1 a1, .int .i64 a4, .int .i64 a5] w (ValOut (.int .i64 V) w)) := (fun g w fp hs => by rw [hV]; exact val_out (spec_cellV _ a1 _ (lsI a1 a3) a4 a5 _ (lsI_len _ _) (by omega) (ints_val hs)) : ∀ (g : Nat) (w : World) (fp : List Nat), SliceRep intTy w (.slice (some ⟨g, 0, none⟩) a1 a1) (lsI a1 a3) fp → Calls Try.prog 47 #[.slice (some ⟨g, 0, none⟩) a1 a1, .int .i64 a4, .int .i64 a5] w (ValOut (.int .i64 V) w))
    have IM : Hid (∀ (g : Nat) (w : World) (fp : List Nat), SliceRep intTy w (.slice (some ⟨g, 0, none⟩) a1 a1) (lsI a1 a3) fp → Calls Try.prog 48 #[.slice (some ⟨g, 0, none⟩) a1 a1, .int .i64 a4, .int .i64 a5] w (ValOut (.int .i64 V) w)) := (fun g w fp hs => by rw [hV]; exact impl_cellV _ a1 _ (lsI a1 a3) a4 a5 _ (lsI_len _ _) (by omega) (ints_val hs) : ∀ (g : Nat) (w : World) (fp : List Nat), SliceRep intTy w (.slice (some ⟨g, 0, none⟩) a1 a1) (lsI a1 a3) fp → Calls Try.prog 48 #[.slice (some ⟨g, 0, none⟩) a1 a1, .int .i64 a4, .int .i64 a5] w (ValOut (.int .i64 V) w))
    clear hV hbiga1 hmaxa1 w_a0_1
    have vq : (V != V) = false := bne_self_eq_false V
    go_enter Try.func8, Try.ntmps8
    go_wp2_with fail
    have I0 := Inv.of_kept (Kept.start w)
    go_wp2_with fail
    refine (law_toIsO a0 a1 a2 a3 _ hn (HA.out.below I0.below)).mono ?_
    rintro e w1 ⟨g1, fp1, rfl, hs, hf, hb⟩
    have I1 := I0.own (ownS intTy (.slice (some ⟨g1, 0, none⟩) a1 a1) (lsI a1 a3) fp1) hb hs hf
    clear hs hf hb I0
    go_wp2_with fail
    refine (SP.out _ _ _ (I1.at 0 rfl)).mono ?_
    rintro e w2 ⟨rfl, hb⟩
    have I2 := I1.step hb
    clear hb I1
    go_wp2_with fail
    refine (law_toIsO a0 a1 a2 a3 _ hn (HA.out.below I2.below)).mono ?_
    rintro e w3 ⟨g3, fp3, rfl, hs, hf, hb⟩
    have I3 := I2.own (ownS intTy (.slice (some ⟨g3, 0, none⟩) a1 a1) (lsI a1 a3) fp3) hb hs hf
    clear hs hf hb I2
    go_wp2_with fail
    refine (IM.out _ _ _ (I3.at 0 rfl)).mono ?_
    rintro e w4 ⟨rfl, hb⟩
    have I4 := I3.step hb
    clear hb I3
    go_wp2_with fail
    refine (law_toIsO a0 a1 a2 a3 _ hn (HA.out.below I4.below)).mono ?_
    rintro e w5 ⟨g5, fp5, rfl, hs, hf, hb⟩
    have I5 := I4.own (ownS intTy (.slice (some ⟨g5, 0, none⟩) a1 a1) (lsI a1 a3) fp5) hb hs hf
    clear hs hf hb I4
    go_wp2_with fail
    refine (law_eqI _ _ (lsI a1 a3) _ _ _ (by rw [lsI_len]; omega) (I5.at 1 rfl) (I5.at 0 rfl)).mono ?_
    rintro e w6 ⟨rfl, hb⟩
    have I6 := I5.step hb
    clear hb I5
    go_wp2
    go_ret
    exact ⟨rfl, I6.below⟩

/-! ### THE ROW's STEP -/
set_option maxRecDepth 100000 in
theorem lifted (os : Os) (started : os.Started) (H : Type) (enc : TypeId × Value → H) :
    ReturnsInHanded {} Try.checked os 8 .any (Rows.fnExactCellOfSpec.pre6 enc Try.prog Try.f8 Rows.fnExactCellOfRow.domain false) (Rows.fnExactCellOfSpec.post enc Try.prog Try.f8 false true false false) := by
  refine returnsInHanded_of_change (C := Try.checked) own started (by kernel_rfl) Try.func8
    (ChangeSpec.witness6 (enc := enc) (C := Try.checked) false ⟨#[], #[.slice none 0 0, .int .i64 0, .int .i64 0], []⟩ 8 (by kernel_rfl) (by kernel_rfl) (by kernel_rfl) (by kernel_rfl)) ?_
  intro W base args ds gs before hval0 hW hcnd _
  have hval : ∀ (j : Nat) t v, Try.f8.params[j]? = some t → args[j]? = some v → Value.okWide Try.prog W .any base t v := hval0
  have hW' := hW
  obtain ⟨p, q, hA0, hV, rfl, hfz, hnd⟩ := hW
  have hA : DataW.TrodAll enc Try.prog W 0 (fun _ => true) true Try.f8.params.toList args.toList ds p := hA0
  rw [Try.params8] at hA hval
  obtain ⟨v0, vs0, d0, ds0, p0, q0, hargs, rfl, rfl, h0, r0⟩ := trodAll_cons hA
  obtain ⟨v1, vs1, d1, ds1, p1, q1, rfl, rfl, rfl, h1, r1⟩ := trodAll_cons r0
  obtain ⟨v2, vs2, d2, ds2, p2, q2, rfl, rfl, rfl, h2, r2⟩ := trodAll_cons r1
  obtain ⟨rfl, rfl, rfl⟩ := trodAll_nil r2
  obtain rfl : args = #[v0, v1, v2] := by cases args; simp_all
  obtain ⟨rfl, rfl⟩ := trodVars_none hV
  have kk0 := h0
  have lt0 : ∀ x ∈ p0, x.block < W.heap.size := by obtain ⟨m, hm⟩ := kk0; exact DataW.trod_lt m _ _ _ hm
  obtain ⟨a0, a1, a2, rfl⟩ := okWide_slice Try.underlying45 (hval 0 45 v0 rfl rfl)
  obtain ⟨a3, w_a0_0, w_a0_1⟩ := open_intsA (fun _ => rfl) h0
  obtain ⟨a4, rfl, rfl, rfl, w_a4⟩ := open_int Try.underlying3 (hval 1 3 v1 rfl rfl) h1
  obtain ⟨a5, rfl, rfl, rfl, w_a5⟩ := open_int Try.underlying3 (hval 2 3 v2 rfl rfl) h2
  clear hA0 hval0
  simp only [List.append_nil] at hW'
  refine (walk a0 a1 a2 a3 a4 a5 W w_a0_0 w_a0_1 w_a4 w_a5).mono fun e W' ⟨he, hg⟩ => ?_
  subst he
  exact ⟨_, rfl, _, _, _, [], _, [], hW', (trodAll_cons_mk (shut_bool Try.underlying4 _) trodAll_mk0), (trodAll_cons_mk (Below.trod (by kernel_rfl) (by kernel_rfl) (of_decide_eq_true (by kernel_rfl)) kk0 hg lt0) (trodAll_cons_mk (shut_int Try.underlying3 w_a4) (trodAll_cons_mk (shut_int Try.underlying3 w_a5) trodAll_mk0))), rfl, hg.frame _, fun h => by cases h⟩

theorem over : Rows.fnExactCellOfRow.holds Try.pinned (OpenSpec.ofChange Rows.fnExactCellOfSpec) :=
  OpenClaim.holds_of_wide 8 Try.f8 rfl rfl rfl rfl rfl rfl rfl ⟨rfl, rfl, rfl, rfl, rfl⟩ rfl rfl rfl rfl rfl (by kernel_rfl) Try.func8 (MkF.closed_of (by kernel_rfl) (by kernel_rfl) (by kernel_rfl) (by kernel_rfl) (by kernel_rfl) (by kernel_rfl) (by kernel_rfl) (by kernel_rfl) (by kernel_rfl) (by kernel_rfl) (by kernel_rfl) (by kernel_rfl) (by kernel_rfl) (by kernel_rfl) (by kernel_rfl) (by kernel_rfl) (by kernel_rfl) (by kernel_rfl) (by kernel_rfl) (by kernel_rfl) (by kernel_rfl) (by kernel_rfl) (by kernel_rfl) (by kernel_rfl) (by kernel_rfl) MkF.mk_enter (MkF.lifts_eq MkF.mk_lifts rfl) (MkF.make_eq MkF.mk_make rfl) (by kernel_rfl) (by kernel_rfl) (by kernel_rfl) (by kernel_rfl))
    (of_decide_eq_true (by kernel_rfl)) (by unfold Func.isWrapper; first | (rw [if_pos (by decide +kernel)]; kernel_rfl) | (rw [if_neg (by decide +kernel)]; exact ⟨rfl, rfl⟩))
    (fun os started H enc _ => lifted os started H enc)

/-- ████ THE STATEMENT ████ -/
theorem proved : Rows.FnExactCellOfSaid :=
  over
end Go.Proofs.Ytndebdimjlfepaa.fnExactCellOf
