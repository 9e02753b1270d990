/-
  Proved: for all four pairs of ints as two intervals, the law FnExactCompareIntervals returns true (the project's CompareIntervals answers as its model) and leaves its arguments as they were. No condition.
-/
import Derived.Test.YtdfmidihghoilaaRows
import Derived.Test.YtdfmidihghoilaaFrPlain
import Derived.Test.YtdfmidihghoilaaFcPlain
import Derived.Test.YtdfmidihghoilaaL1In
import Derived.Test.YtdfmidihghoilaaHelp
import Derived.Test.YtdfmidihghoilaaHeld
import Derived.Test.YtdfmidihghoilaaFrSpec
import Derived.Test.YtdfmidihghoilaaFrLaw
import Derived.Test.YtdfmidihghoilaaIvPlain
import Derived.Test.YtdfmidihghoilaaIvMore
import Derived.Test.YtdfmidihghoilaaFcSpec
import Derived.Test.YtdfmidihghoilaaIvSpec
import Derived.Test.YtdfmidihghoilaaIvLaw
import Derived.Test.YtdfmidihghoilaaShelf
import Derived.Test.YtdfmidihghoilaaFrImpl
import Derived.Test.YtdfmidihghoilaaFcImpl
import Derived.Test.YtdfmidihghoilaaIiImpl
import Derived.Test.YtdfmidihghoilaaIvCmp
import Derived.Test.YtdfmidihghoilaaIvArg
import Derived.WalkKit
import Derived.ProofKit
import Derived.OpenShut
import Derived.ShutString
import Derived.ChangeOld
import Derived.Below
namespace Go.Proofs.Ytdfmidihghoilaa.fnExactCompareIntervals
open Go.ChangeShapes Go.WideShapes Go.ChangeAt Go.RowKit
open Go.ChangeMaps (open_string shut_string)
set_option linter.unusedVariables false

theorem own : ownKnob Try.prog.godebug = none := by kernel_rfl

/-! ### The walk -/
set_option maxRecDepth 100000 in
set_option maxHeartbeats 8000000 in
theorem walk (a0 : Int) (a1 : Int) (a2 : Int) (a3 : Int) (a4 : Int) (a5 : Int) (a6 : Int) (a7 : Int) (w_a0 : (Lit.int .i64 a0).wf = true) (w_a1 : (Lit.int .i64 a1).wf = true) (w_a2 : (Lit.int .i64 a2).wf = true) (w_a3 : (Lit.int .i64 a3).wf = true) (w_a4 : (Lit.int .i64 a4).wf = true) (w_a5 : (Lit.int .i64 a5).wf = true) (w_a6 : (Lit.int .i64 a6).wf = true) (w_a7 : (Lit.int .i64 a7).wf = true) (w : World) :
    Calls Try.prog 10 #[.agg #[.int .i64 a0, .int .i64 a1, .int .i64 a2, .int .i64 a3], .agg #[.int .i64 a4, .int .i64 a5, .int .i64 a6, .int .i64 a7]] w fun e w' => e = .returned (.bool true) ∧ Below w.heap.size w w' := by
  have h0 := i64_rng w_a0
  have h1 := i64_rng w_a2
  have h2 := i64_rng w_a4
  have h3 := i64_rng w_a6
  have S0 := fun w => spec_ci a0 a1 a2 a3 a4 a5 a6 a7 w h0 h1 h2 h3
  have I0 := impl_ci a0 a1 a2 a3 a4 a5 a6 a7
  obtain ⟨c, hc⟩ : ∃ c, c = Num.civ a0 a1 a2 a3 a4 a5 a6 a7 := ⟨_, rfl⟩
  rw [← hc] at S0 I0
  have SP := Lib.hid S0
  have IM := Lib.hid I0
  clear S0 I0 hc h0 h1 h2 h3
  go_enter Try.func10, Try.ntmps10
  go_wp2_with fail
  have K0 := ((Kept.start w).alloc4 (.int .i64 a0) (.int .i64 a1) (.int .i64 a2) (.int .i64 a3) 25 _ rfl).alloc4 (.int .i64 a4) (.int .i64 a5) (.int .i64 a6) (.int .i64 a7) 25 (w.heap.size + 1) (by simp)
  go_region_held3 (fun w' => w'.cell? ⟨w.heap.size + 1, 0, none⟩ = some (.int .i64 a4) ∧ w'.cell? ⟨w.heap.size + 1, 1, none⟩ = some (.int .i64 a5) ∧ w'.cell? ⟨w.heap.size + 1, 2, none⟩ = some (.int .i64 a6) ∧ w'.cell? ⟨w.heap.size + 1, 3, none⟩ = some (.int .i64 a7) ∧ w'.cell? ⟨w.heap.size, 0, none⟩ = some (.int .i64 a0) ∧ w'.cell? ⟨w.heap.size, 1, none⟩ = some (.int .i64 a1) ∧ w'.cell? ⟨w.heap.size, 2, none⟩ = some (.int .i64 a2) ∧ w'.cell? ⟨w.heap.size, 3, none⟩ = some (.int .i64 a3) ∧ Kept w w' [(⟨w.heap.size + 1, 0, none⟩, .int .i64 a4), (⟨w.heap.size + 1, 1, none⟩, .int .i64 a5), (⟨w.heap.size + 1, 2, none⟩, .int .i64 a6), (⟨w.heap.size + 1, 3, none⟩, .int .i64 a7), (⟨w.heap.size, 0, none⟩, .int .i64 a0), (⟨w.heap.size, 1, none⟩, .int .i64 a1), (⟨w.heap.size, 2, none⟩, .int .i64 a2), (⟨w.heap.size, 3, none⟩, .int .i64 a3)]) (first | exact s8_start K0 | exact s8_keep (by assumption) (by assumption)) (first | (go_simp; go_at_call 12; (with_reducible refine (law_toI _ _ _ _ _).mono ?_); rintro e w1 ⟨rfl, hb⟩) | (go_simp; go_at_call 29; (with_reducible refine (SP.out _).mono ?_); rintro e w1 ⟨rfl, hb⟩))
  have K1 := ‹_ ∧ _ ∧ _ ∧ _ ∧ _ ∧ _ ∧ _ ∧ _ ∧ Kept w w1 _›.2.2.2.2.2.2.2.2
  obtain ⟨w2, hw2⟩ : ∃ w2, w2 = w1 := ⟨_, rfl⟩
  clear hb
  subst hw2
  go_wp2_with fail
  go_region_held3 (fun w' => w'.cell? ⟨w.heap.size + 1, 0, none⟩ = some (.int .i64 a4) ∧ w'.cell? ⟨w.heap.size + 1, 1, none⟩ = some (.int .i64 a5) ∧ w'.cell? ⟨w.heap.size + 1, 2, none⟩ = some (.int .i64 a6) ∧ w'.cell? ⟨w.heap.size + 1, 3, none⟩ = some (.int .i64 a7) ∧ w'.cell? ⟨w.heap.size, 0, none⟩ = some (.int .i64 a0) ∧ w'.cell? ⟨w.heap.size, 1, none⟩ = some (.int .i64 a1) ∧ w'.cell? ⟨w.heap.size, 2, none⟩ = some (.int .i64 a2) ∧ w'.cell? ⟨w.heap.size, 3, none⟩ = some (.int .i64 a3) ∧ Kept w w' [(⟨w.heap.size + 1, 0, none⟩, .int .i64 a4), (⟨w.heap.size + 1, 1, none⟩, .int .i64 a5), (⟨w.heap.size + 1, 2, none⟩, .int .i64 a6), (⟨w.heap.size + 1, 3, none⟩, .int .i64 a7), (⟨w.heap.size, 0, none⟩, .int .i64 a0), (⟨w.heap.size, 1, none⟩, .int .i64 a1), (⟨w.heap.size, 2, none⟩, .int .i64 a2), (⟨w.heap.size, 3, none⟩, .int .i64 a3)]) (first | exact s8_start K1 | exact s8_keep (by assumption) (by assumption)) (first | (go_simp; go_at_call 12; (with_reducible refine (law_toI _ _ _ _ _).mono ?_); rintro e w1 ⟨rfl, hb⟩) | (go_simp; go_at_call 30; (with_reducible refine (IM.out _).mono ?_); rintro e w1 ⟨rfl, hb⟩))
  have K2 := ‹_ ∧ _ ∧ _ ∧ _ ∧ _ ∧ _ ∧ _ ∧ _ ∧ Kept w w1 _›.2.2.2.2.2.2.2.2
  go_wp2
  go_ret
  exact ⟨rfl, K2.1⟩

/-! ### THE ROW's STEP -/
set_option maxRecDepth 100000 in
theorem lifted (os : Os) (started : os.Started) (H : Type) (enc : TypeId × Value → H) :
    ReturnsInHanded {} Try.checked os 10 .any (Rows.fnExactCompareIntervalsSpec.pre6 enc Try.prog Try.f10 Rows.fnExactCompareIntervalsRow.domain false) (Rows.fnExactCompareIntervalsSpec.post enc Try.prog Try.f10 false true false false) := by
  refine returnsInHanded_of_change (C := Try.checked) own started (by kernel_rfl) Try.func10
    (ChangeSpec.witness6 (enc := enc) (C := Try.checked) false ⟨#[], #[.agg #[.int .i64 0, .int .i64 0, .int .i64 0, .int .i64 0], .agg #[.int .i64 0, .int .i64 0, .int .i64 0, .int .i64 0]], []⟩ 8 (by kernel_rfl) (by kernel_rfl) (by kernel_rfl) (by kernel_rfl)) ?_
  intro W base args ds gs before hval0 hW hcnd _
  have hval : ∀ (j : Nat) t v, Try.f10.params[j]? = some t → args[j]? = some v → Value.okWide Try.prog W .any base t v := hval0
  have hW' := hW
  obtain ⟨p, q, hA0, hV, rfl, hfz, hnd⟩ := hW
  have hA : DataW.TrodAll enc Try.prog W 0 (fun _ => true) true Try.f10.params.toList args.toList ds p := hA0
  rw [Try.params10] at hA hval
  obtain ⟨v0, vs0, d0, ds0, p0, q0, hargs, rfl, rfl, h0, r0⟩ := trodAll_cons hA
  obtain ⟨v1, vs1, d1, ds1, p1, q1, rfl, rfl, rfl, h1, r1⟩ := trodAll_cons r0
  obtain ⟨rfl, rfl, rfl⟩ := trodAll_nil r1
  obtain rfl : args = #[v0, v1] := by cases args; simp_all
  obtain ⟨rfl, rfl⟩ := trodVars_none hV
  obtain ⟨a0, a1, a2, a3, rfl, rfl, rfl, w_a0, w_a1, w_a2, w_a3⟩ := open_iv (hval 0 25 v0 rfl rfl) h0
  obtain ⟨a4, a5, a6, a7, rfl, rfl, rfl, w_a4, w_a5, w_a6, w_a7⟩ := open_iv (hval 1 25 v1 rfl rfl) h1
  clear hA0 hval0
  simp only [List.append_nil] at hW'
  refine (walk a0 a1 a2 a3 a4 a5 a6 a7 w_a0 w_a1 w_a2 w_a3 w_a4 w_a5 w_a6 w_a7 W).mono fun e W' ⟨he, hg⟩ => ?_
  subst he
  exact ⟨_, rfl, _, _, _, [], _, [], hW', (trodAll_cons_mk (shut_bool Try.underlying4 _) trodAll_mk0), (trodAll_cons_mk (shut_iv w_a0 w_a1 w_a2 w_a3) (trodAll_cons_mk (shut_iv w_a4 w_a5 w_a6 w_a7) trodAll_mk0)), rfl, hg.frame _, fun h => by cases h⟩

theorem over : Rows.fnExactCompareIntervalsRow.holds Try.pinned (OpenSpec.ofChange Rows.fnExactCompareIntervalsSpec) :=
  OpenClaim.holds_of_wide 10 Try.f10 rfl rfl rfl rfl rfl rfl rfl ⟨rfl, rfl, rfl, rfl, rfl⟩ rfl rfl rfl rfl rfl (by kernel_rfl) Try.func10 (by kernel_rfl)
    (of_decide_eq_true (by kernel_rfl)) (by unfold Func.isWrapper; first | (rw [if_pos (by decide +kernel)]; kernel_rfl) | (rw [if_neg (by decide +kernel)]; exact ⟨rfl, rfl⟩))
    (fun os started H enc _ => lifted os started H enc)

/-- ████ THE STATEMENT ████ -/
theorem proved : Rows.FnExactCompareIntervalsSaid :=
  over
end Go.Proofs.Ytdfmidihghoilaa.fnExactCompareIntervals
