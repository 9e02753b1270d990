/-
  Proved: for every row, the law FnExactIsValidRow returns true (the project's IsValidRow answers as its model) and leaves its argument as it was. No condition.
-/
import Derived.Test.YtndebdimjlfepaaRows
import Derived.Test.YtndebdimjlfepaaMk
import Derived.Test.YtndebdimjlfepaaPlain
import Derived.Test.YtndebdimjlfepaaL1In
import Derived.Test.YtndebdimjlfepaaKeep
import Derived.Test.YtndebdimjlfepaaRvSpec
import Derived.Test.YtndebdimjlfepaaRwLaw
import Derived.Test.YtndebdimjlfepaaRvImpl
import Derived.Test.YtndebdimjlfepaaRowArg
import Derived.WalkKit
import Derived.ProofKit
import Derived.OpenShut
import Derived.ShutString
import Derived.ChangeOld
import Derived.Below
import Derived.Carry
namespace Go.Proofs.Ytndebdimjlfepaa.fnExactIsValidRow
open Go.ChangeShapes Go.WideShapes Go.ChangeAt Go.RowKit
open Go.ChangeMaps (open_string shut_string)
set_option linter.unusedVariables false

theorem own : ownKnob Try.prog.godebug = none := by kernel_rfl

/-! ### The walk -/
set_option maxRecDepth 100000 in
set_option maxHeartbeats 8000000 in
theorem walk (a0 : Int) (a1 : Int) (a2 : Int) (a3 : Int) (a4 : Bool) (w : World) (w_a0_0 : (Lit.int .i64 a0).wf = true) (w_a0_1 : (Lit.int .i64 a1).wf = true) (w_a0_2 : (Lit.int .i64 a2).wf = true) (w_a0_3 : (Lit.int .i64 a3).wf = true) :
    Calls Try.prog 12 #[.agg #[.int .i64 a0, .int .i64 a1, .int .i64 a2, .int .i64 a3, .bool a4]] w fun e w' => e = .returned (.bool true) ∧ Below w.heap.size w w' := by
  have S0 := spec_rv a0 a1 a2 a3 a4
  have I0 := impl_rv a0 a1 a2 a3 a4
  obtain ⟨b, hb⟩ : ∃ b, b = Num.rowB a0 a1 a2 a3 a4 := ⟨_, rfl⟩
  rw [← hb] at S0 I0
  have SP := Lib.hid S0
  have IM := Lib.hid I0
  clear S0 I0 hb
  go_enter Try.func12, Try.ntmps12
  go_wp2_with fail
  have K0 := (Kept.start w).alloc5 (.int .i64 a0) (.int .i64 a1) (.int .i64 a2) (.int .i64 a3) (.bool a4) 26 _ rfl
  refine (law_toR _ _ _ _ _ _).mono ?_
  rintro e w1 ⟨rfl, hb⟩
  have K1 := K0.step hb
  clear hb K0
  have k0 := K1.get 0 rfl
  have k1 := K1.get 1 rfl
  have k2 := K1.get 2 rfl
  have k3 := K1.get 3 rfl
  have k4 := K1.get 4 rfl
  go_wp2_with fail
  refine (SP.out _).mono ?_
  rintro e w2 ⟨rfl, hb⟩
  have K2 := K1.step hb
  clear hb K1 k0 k1 k2 k3 k4
  have k0 := K2.get 0 rfl
  have k1 := K2.get 1 rfl
  have k2 := K2.get 2 rfl
  have k3 := K2.get 3 rfl
  have k4 := K2.get 4 rfl
  go_wp2_with fail
  refine (law_toR _ _ _ _ _ _).mono ?_
  rintro e w3 ⟨rfl, hb⟩
  have K3 := K2.step hb
  clear hb K2 k0 k1 k2 k3 k4
  go_wp2_with fail
  refine (IM.out _).mono ?_
  rintro e w4 ⟨rfl, hb⟩
  have K4 := K3.step hb
  clear hb K3
  cases b
  · go_wp2
    go_ret
    exact ⟨rfl, K4.1⟩
  · go_wp2
    go_ret
    exact ⟨rfl, K4.1⟩

/-! ### THE ROW's STEP -/
set_option maxRecDepth 100000 in
theorem lifted (os : Os) (started : os.Started) (H : Type) (enc : TypeId × Value → H) :
    ReturnsInHanded {} Try.checked os 12 .any (Rows.fnExactIsValidRowSpec.pre6 enc Try.prog Try.f12 Rows.fnExactIsValidRowRow.domain false) (Rows.fnExactIsValidRowSpec.post enc Try.prog Try.f12 false true false false) := by
  refine returnsInHanded_of_change (C := Try.checked) own started (by kernel_rfl) Try.func12
    (ChangeSpec.witness6 (enc := enc) (C := Try.checked) false ⟨#[], #[.agg #[.int .i64 0, .int .i64 0, .int .i64 0, .int .i64 0, .bool false]], []⟩ 8 (by kernel_rfl) (by kernel_rfl) (by kernel_rfl) (by kernel_rfl)) ?_
  intro W base args ds gs before hval0 hW hcnd _
  have hval : ∀ (j : Nat) t v, Try.f12.params[j]? = some t → args[j]? = some v → Value.okWide Try.prog W .any base t v := hval0
  have hW' := hW
  obtain ⟨p, q, hA0, hV, rfl, hfz, hnd⟩ := hW
  have hA : DataW.TrodAll enc Try.prog W 0 (fun _ => true) true Try.f12.params.toList args.toList ds p := hA0
  rw [Try.params12] at hA hval
  obtain ⟨v0, vs0, d0, ds0, p0, q0, hargs, rfl, rfl, h0, r0⟩ := trodAll_cons hA
  obtain ⟨rfl, rfl, rfl⟩ := trodAll_nil r0
  obtain rfl : args = #[v0] := by cases args; simp_all
  obtain ⟨rfl, rfl⟩ := trodVars_none hV
  have kk0 := h0
  have lt0 : ∀ x ∈ p0, x.block < W.heap.size := by obtain ⟨m, hm⟩ := kk0; exact DataW.trod_lt m _ _ _ hm
  obtain ⟨a0, a1, a2, a3, a4, rfl, w_a0_0, w_a0_1, w_a0_2, w_a0_3⟩ := open_row (hval 0 26 v0 rfl rfl) h0
  clear hA0 hval0
  simp only [List.append_nil] at hW'
  refine (walk a0 a1 a2 a3 a4 W w_a0_0 w_a0_1 w_a0_2 w_a0_3).mono fun e W' ⟨he, hg⟩ => ?_
  subst he
  exact ⟨_, rfl, _, _, _, [], _, [], hW', (trodAll_cons_mk (shut_bool Try.underlying4 _) trodAll_mk0), (trodAll_cons_mk (Below.trod (by kernel_rfl) (by kernel_rfl) (of_decide_eq_true (by kernel_rfl)) kk0 hg lt0) trodAll_mk0), rfl, hg.frame _, fun h => by cases h⟩

theorem over : Rows.fnExactIsValidRowRow.holds Try.pinned (OpenSpec.ofChange Rows.fnExactIsValidRowSpec) :=
  OpenClaim.holds_of_wide 12 Try.f12 rfl rfl rfl rfl rfl rfl rfl ⟨rfl, rfl, rfl, rfl, rfl⟩ rfl rfl rfl rfl rfl (by kernel_rfl) Try.func12 (MkF.closed_of (by kernel_rfl) (by kernel_rfl) (by kernel_rfl) (by kernel_rfl) (by kernel_rfl) (by kernel_rfl) (by kernel_rfl) (by kernel_rfl) (by kernel_rfl) (by kernel_rfl) (by kernel_rfl) (by kernel_rfl) (by kernel_rfl) (by kernel_rfl) (by kernel_rfl) (by kernel_rfl) (by kernel_rfl) (by kernel_rfl) (by kernel_rfl) (by kernel_rfl) (by kernel_rfl) (by kernel_rfl) (by kernel_rfl) (by kernel_rfl) (by kernel_rfl) MkF.mk_enter (MkF.lifts_eq MkF.mk_lifts rfl) (MkF.make_eq MkF.mk_make rfl) (by kernel_rfl) (by kernel_rfl) (by kernel_rfl) (by kernel_rfl))
    (of_decide_eq_true (by kernel_rfl)) (by unfold Func.isWrapper; first | (rw [if_pos (by decide +kernel)]; kernel_rfl) | (rw [if_neg (by decide +kernel)]; exact ⟨rfl, rfl⟩))
    (fun os started H enc _ => lifted os started H enc)

/-- ████ THE STATEMENT ████ -/
theorem proved : Rows.FnExactIsValidRowSaid :=
  over
end Go.Proofs.Ytndebdimjlfepaa.fnExactIsValidRow
