/-
  Proved: for every change, the law FnExactIsValidChange returns true (the project's IsValidChange answers as its model). No condition.
-/
import Derived.Test.YtndebdimjlfepaaRows
import Derived.Test.YtndebdimjlfepaaMk
import Derived.Test.YtndebdimjlfepaaPlain
import Derived.Test.YtndebdimjlfepaaL1In
import Derived.Test.YtndebdimjlfepaaKeep
import Derived.Test.YtndebdimjlfepaaRvSpec
import Derived.Test.YtndebdimjlfepaaRwLaw
import Derived.Test.YtndebdimjlfepaaRvImpl
import Derived.Test.YtndebdimjlfepaaChPlain
import Derived.Test.YtndebdimjlfepaaIvcSpec
import Derived.Test.YtndebdimjlfepaaChVal
import Derived.Test.YtndebdimjlfepaaChLaw
import Derived.Test.YtndebdimjlfepaaIvcImpl
import Derived.Test.YtndebdimjlfepaaChgArg
import Derived.WalkKit
import Derived.ProofKit
import Derived.OpenShut
import Derived.ShutString
import Derived.ChangeOld
import Derived.Below
import Derived.Carry
namespace Go.Proofs.Ytndebdimjlfepaa.fnExactIsValidChange
open Go.ChangeShapes Go.WideShapes Go.ChangeAt Go.RowKit
open Go.ChangeMaps (open_string shut_string)
set_option linter.unusedVariables false

theorem own : ownKnob Try.prog.godebug = none := by kernel_rfl

/-! ### The walk -/
set_option maxRecDepth 100000 in
set_option maxHeartbeats 8000000 in
theorem walk (a0 : Int) (a1 : Int) (a2 : Int) (a3 : Int) (a4 : Int) (a5 : Int) (a6 : Bool) (w : World) (w_a0_0 : (Lit.int .i64 a0).wf = true) (w_a0_1 : (Lit.int .i64 a1).wf = true) (w_a0_2 : (Lit.int .i64 a2).wf = true) (w_a0_3 : (Lit.int .i64 a3).wf = true) (w_a0_4 : (Lit.int .i64 a4).wf = true) (w_a0_5 : (Lit.int .i64 a5).wf = true) :
    Calls Try.prog 18 #[.agg #[.int .i64 a0, .int .i64 a1, .int .i64 a2, .int .i64 a3, .int .i64 a4, .int .i64 a5, .bool a6]] w fun e w' => e = .returned (.bool true) ∧ Below w.heap.size w w' := by
  have SP := fun w => spec_ivc ⟨a0, a1, ⟨a2, a3, a4, a5, a6⟩⟩ w
  have IM := fun w => impl_ivc ⟨a0, a1, ⟨a2, a3, a4, a5, a6⟩⟩ w
  obtain ⟨c, hc⟩ : ∃ c : Cg, c = ⟨a0, a1, ⟨a2, a3, a4, a5, a6⟩⟩ := ⟨_, rfl⟩
  simp only at SP IM
  rw [← hc] at SP IM
  have SP := Lib.hid SP
  have IM := Lib.hid IM
  clear hc
  go_enter Try.func18, Try.ntmps18
  go_wp2_with fail
  have K0 := (Kept.start w).alloc7 (.int .i64 a0) (.int .i64 a1) (.int .i64 a2) (.int .i64 a3) (.int .i64 a4) (.int .i64 a5) (.bool a6) 28 _ rfl
  refine (law_toC _ _ _ _ _ _ _ _).mono ?_
  rintro e w1 ⟨rfl, hb⟩
  have K1 := K0.step hb
  clear hb K0
  have k0 := K1.get 0 rfl
  have k1 := K1.get 1 rfl
  have k2 := K1.get 2 rfl
  have k3 := K1.get 3 rfl
  have k4 := K1.get 4 rfl
  have k5 := K1.get 5 rfl
  have k6 := K1.get 6 rfl
  go_wp2_with fail
  refine (SP.out _).mono ?_
  rintro e w2 ⟨⟨v, hv, rfl⟩, hb⟩
  have HV := Lib.hid hv
  clear hv
  have K2 := K1.step hb
  clear hb K1 k0 k1 k2 k3 k4 k5 k6
  have k0 := K2.get 0 rfl
  have k1 := K2.get 1 rfl
  have k2 := K2.get 2 rfl
  have k3 := K2.get 3 rfl
  have k4 := K2.get 4 rfl
  have k5 := K2.get 5 rfl
  have k6 := K2.get 6 rfl
  go_wp2_with fail
  refine (law_toC _ _ _ _ _ _ _ _).mono ?_
  rintro e w3 ⟨rfl, hb⟩
  have K3 := K2.step hb
  clear hb K2 k0 k1 k2 k3 k4 k5 k6
  go_wp2_with fail
  refine (IM.out _).mono ?_
  rintro e w4 ⟨⟨u, hu, rfl⟩, hb⟩
  obtain rfl := iv_iff HV.out hu
  clear hu
  have K4 := K3.step hb
  clear hb K3
  cases v
  · go_wp2
    go_ret
    exact ⟨rfl, K4.1⟩
  · go_wp2
    go_ret
    exact ⟨rfl, K4.1⟩

/-! ### THE ROW's STEP -/
set_option maxRecDepth 100000 in
theorem lifted (os : Os) (started : os.Started) (H : Type) (enc : TypeId × Value → H) :
    ReturnsInHanded {} Try.checked os 18 .any (Rows.fnExactIsValidChangeSpec.pre6 enc Try.prog Try.f18 Rows.fnExactIsValidChangeRow.domain false) (Rows.fnExactIsValidChangeSpec.post enc Try.prog Try.f18 false true false false) := by
  refine returnsInHanded_of_change (C := Try.checked) own started (by kernel_rfl) Try.func18
    (ChangeSpec.witness6 (enc := enc) (C := Try.checked) false ⟨#[], #[.agg #[.int .i64 0, .int .i64 0, .int .i64 0, .int .i64 0, .int .i64 0, .int .i64 0, .bool false]], []⟩ 8 (by kernel_rfl) (by kernel_rfl) (by kernel_rfl) (by kernel_rfl)) ?_
  intro W base args ds gs before hval0 hW hcnd _
  have hval : ∀ (j : Nat) t v, Try.f18.params[j]? = some t → args[j]? = some v → Value.okWide Try.prog W .any base t v := hval0
  have hW' := hW
  obtain ⟨p, q, hA0, hV, rfl, hfz, hnd⟩ := hW
  have hA : DataW.TrodAll enc Try.prog W 0 (fun _ => true) true Try.f18.params.toList args.toList ds p := hA0
  rw [Try.params18] at hA hval
  obtain ⟨v0, vs0, d0, ds0, p0, q0, hargs, rfl, rfl, h0, r0⟩ := trodAll_cons hA
  obtain ⟨rfl, rfl, rfl⟩ := trodAll_nil r0
  obtain rfl : args = #[v0] := by cases args; simp_all
  obtain ⟨rfl, rfl⟩ := trodVars_none hV
  have kk0 := h0
  have lt0 : ∀ x ∈ p0, x.block < W.heap.size := by obtain ⟨m, hm⟩ := kk0; exact DataW.trod_lt m _ _ _ hm
  obtain ⟨a0, a1, a2, a3, a4, a5, a6, rfl, w_a0_0, w_a0_1, w_a0_2, w_a0_3, w_a0_4, w_a0_5⟩ := open_chg (hval 0 28 v0 rfl rfl) h0
  clear hA0 hval0
  simp only [List.append_nil] at hW'
  refine (walk a0 a1 a2 a3 a4 a5 a6 W w_a0_0 w_a0_1 w_a0_2 w_a0_3 w_a0_4 w_a0_5).mono fun e W' ⟨he, hg⟩ => ?_
  subst he
  exact ⟨_, rfl, _, _, _, [], _, [], hW', (trodAll_cons_mk (shut_bool Try.underlying4 _) trodAll_mk0), (trodAll_cons_mk (Below.trod (by kernel_rfl) (by kernel_rfl) (of_decide_eq_true (by kernel_rfl)) kk0 hg lt0) trodAll_mk0), rfl, hg.frame _, fun h => by cases h⟩

theorem over : Rows.fnExactIsValidChangeRow.holds Try.pinned (OpenSpec.ofChange Rows.fnExactIsValidChangeSpec) :=
  OpenClaim.holds_of_wide 18 Try.f18 rfl rfl rfl rfl rfl rfl rfl ⟨rfl, rfl, rfl, rfl, rfl⟩ rfl rfl rfl rfl rfl (by kernel_rfl) Try.func18 (MkF.closed_of (by kernel_rfl) (by kernel_rfl) (by kernel_rfl) (by kernel_rfl) (by kernel_rfl) (by kernel_rfl) (by kernel_rfl) (by kernel_rfl) (by kernel_rfl) (by kernel_rfl) (by kernel_rfl) (by kernel_rfl) (by kernel_rfl) (by kernel_rfl) (by kernel_rfl) (by kernel_rfl) (by kernel_rfl) (by kernel_rfl) (by kernel_rfl) (by kernel_rfl) (by kernel_rfl) (by kernel_rfl) (by kernel_rfl) (by kernel_rfl) (by kernel_rfl) MkF.mk_enter (MkF.lifts_eq MkF.mk_lifts rfl) (MkF.make_eq MkF.mk_make rfl) (by kernel_rfl) (by kernel_rfl) (by kernel_rfl) (by kernel_rfl))
    (of_decide_eq_true (by kernel_rfl)) (by unfold Func.isWrapper; first | (rw [if_pos (by decide +kernel)]; kernel_rfl) | (rw [if_neg (by decide +kernel)]; exact ⟨rfl, rfl⟩))
    (fun os started H enc _ => lifted os started H enc)

/-- ████ THE STATEMENT ████ -/
theorem proved : Rows.FnExactIsValidChangeSaid :=
  over
end Go.Proofs.Ytndebdimjlfepaa.fnExactIsValidChange
