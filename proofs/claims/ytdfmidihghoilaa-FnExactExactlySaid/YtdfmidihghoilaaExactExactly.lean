/-
  Proved: for every int, the law FnExactExactly returns true (the project's Exactly answers as its model). No condition.
-/
import Derived.Test.YtdfmidihghoilaaRows
import Derived.Test.YtdfmidihghoilaaFrPlain
import Derived.Test.YtdfmidihghoilaaFcPlain
import Derived.Test.YtdfmidihghoilaaL1In
import Derived.Test.YtdfmidihghoilaaHelp
import Derived.Test.YtdfmidihghoilaaHeld
import Derived.Test.YtdfmidihghoilaaFrSpec
import Derived.Test.YtdfmidihghoilaaFrLaw
import Derived.Test.YtdfmidihghoilaaIvPlain
import Derived.Test.YtdfmidihghoilaaFrImpl
import Derived.Test.YtdfmidihghoilaaFwWalk
import Derived.Test.YtdfmidihghoilaaIvExactly
import Derived.Test.YtdfmidihghoilaaIyImpl
import Derived.Test.YtdfmidihghoilaaIvLaw
import Derived.WalkKit
import Derived.ChangeOld
import Derived.Below
import Derived.ProofKit
import Derived.OpenShut
import Derived.ShutString
namespace Go.Proofs.Ytdfmidihghoilaa.fnExactExactly
open Go.ChangeShapes Go.WideShapes Go.ChangeAt Go.RowKit
open Go.ChangeMaps (open_string shut_string)
set_option linter.unusedVariables false      -- a walk need not use every 'w<i>' (that an integer argument fits its kind)

theorem own : ownKnob Try.prog.godebug = none := by kernel_rfl

/-! ### STEP 1: THE WALK: the Go text returns true. 'Below w.heap.size w w'': the world has at most new blocks (Derived/RowKit3.lean). Part the cases AHEAD of 'go_enter' where a test parts the walk; take each callee by a contract of your own. -/
set_option maxRecDepth 100000 in
set_option maxHeartbeats 8000000 in
theorem walk (a0 : Int) (w0 : (Lit.int .i64 a0).wf = true) (w : World) :
    Calls Try.prog 4 #[.int .i64 a0] w fun e w' => e = .returned (.bool true) ∧ Below w.heap.size w w' := by
  have S0 := spec_exactly a0
  have I0 := impl_exactly a0
  obtain ⟨x, hx⟩ : ∃ x, x = Num.whN a0 := ⟨_, rfl⟩
  rw [← hx] at S0 I0
  have SP := Lib.hid S0
  have IM := Lib.hid I0
  clear S0 I0 hx
  go_enter Try.func4, Try.ntmps4
  go_wp2_with fail
  refine (SP.out _).mono ?_
  rintro e w1 ⟨rfl, hb⟩
  have K1 := ((Kept.start w).step hb).alloc4 (.int .i64 x) (.int .i64 1) (.int .i64 x) (.int .i64 1) 29 _ rfl
  clear hb
  go_wp2_with fail
  refine (IM.out _).mono ?_
  rintro e w2 ⟨rfl, hb⟩
  have K2 := (K1.step hb).alloc4 (.int .i64 x) (.int .i64 1) (.int .i64 x) (.int .i64 1) 29 _ rfl
  clear hb K1
  have k0 := K2.get 0 rfl
  have k1 := K2.get 1 rfl
  have k2 := K2.get 2 rfl
  have k3 := K2.get 3 rfl
  have k4 := K2.get 4 rfl
  have k5 := K2.get 5 rfl
  have k6 := K2.get 6 rfl
  have k7 := K2.get 7 rfl
  have z4 := K2.lt 4 rfl
  go_wp2_with fail
  refine (law_eqI _ _ _ _ _).mono ?_
  rintro e w3 ⟨rfl, hb⟩
  have K3 := K2.step hb
  clear hb K2
  go_wp2
  go_ret
  exact ⟨rfl, K3.1⟩

/-! ### THE ROW's STEP: WRITTEN OUT: LEAVE IT -/
set_option maxRecDepth 100000 in
theorem lifted (os : Os) (started : os.Started) (H : Type) (enc : TypeId × Value → H) :
    ReturnsInHanded {} Try.checked os 4 .any (Rows.fnExactExactlySpec.pre6 enc Try.prog Try.f4 Rows.fnExactExactlyRow.domain false) (Rows.fnExactExactlySpec.post enc Try.prog Try.f4 false true false false) := by
  refine returnsInHanded_of_change (C := Try.checked) own started (by kernel_rfl) Try.func4
    (ChangeSpec.witness6 (enc := enc) (C := Try.checked) false ⟨#[], #[.int .i64 0], []⟩ 8 (by kernel_rfl) (by kernel_rfl) (by kernel_rfl) (by kernel_rfl)) ?_
  intro W base args ds gs before hval0 hW hcnd _
  have hval : ∀ (j : Nat) t v, Try.f4.params[j]? = some t → args[j]? = some v → Value.okWide Try.prog W .any base t v := hval0
  have hW' := hW
  obtain ⟨p, q, hA0, hV, rfl, hfz, hnd⟩ := hW
  have hA : DataW.TrodAll enc Try.prog W 0 (fun _ => true) true Try.f4.params.toList args.toList ds p := hA0
  rw [Try.params4] at hA hval
  obtain ⟨v0, vs0, d0, ds0, p0, q0, hargs, rfl, rfl, h0, r0⟩ := trodAll_cons hA
  obtain ⟨rfl, rfl, rfl⟩ := trodAll_nil r0
  obtain rfl : args = #[v0] := by cases args; simp_all
  obtain ⟨rfl, rfl⟩ := trodVars_none hV
  obtain ⟨a0, rfl, rfl, rfl, w0⟩ := open_int Try.underlying3 (hval 0 3 v0 rfl rfl) h0
  clear hA0 hval0
  simp only [List.append_nil] at hW'
  refine (walk a0 w0 W).mono fun e W' ⟨he, hg⟩ => ?_
  subst he
  exact ⟨_, rfl, _, _, _, [], _, [], hW', (trodAll_cons_mk (shut_bool Try.underlying4 _) trodAll_mk0), (trodAll_cons_mk (shut_int Try.underlying3 w0) trodAll_mk0), rfl, hg.frame _, fun h => by cases h⟩

theorem over : Rows.fnExactExactlyRow.holds Try.pinned (OpenSpec.ofChange Rows.fnExactExactlySpec) :=
  OpenClaim.holds_of_wide 4 Try.f4 rfl rfl rfl rfl rfl rfl rfl ⟨rfl, rfl, rfl, rfl, rfl⟩ rfl rfl rfl rfl rfl (by kernel_rfl) Try.func4 (by kernel_rfl)
    (of_decide_eq_true (by kernel_rfl)) (by unfold Func.isWrapper; first | (rw [if_pos (by decide +kernel)]; kernel_rfl) | (rw [if_neg (by decide +kernel)]; exact ⟨rfl, rfl⟩))
    (fun os started H enc _ => lifted os started H enc)

/-- ████ THE STATEMENT ████ -/
theorem proved : Rows.FnExactExactlySaid :=
  over
end Go.Proofs.Ytdfmidihghoilaa.fnExactExactly
