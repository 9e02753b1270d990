/-
  Proved: for all two pairs of ints as fractions, the law FnExactSubtractFracs returns true (the project's SubtractFracs answers as its model) and leaves its arguments as they were. No condition.
-/
import Derived.Test.YtphndncamgbonaaRows
import Derived.Test.YtphndncamgbonaaFrPlain
import Derived.Test.YtphndncamgbonaaFcPlain
import Derived.Test.YtphndncamgbonaaL1In
import Derived.Test.YtphndncamgbonaaHelp
import Derived.Test.YtphndncamgbonaaHeld
import Derived.Test.YtphndncamgbonaaFrSpec
import Derived.Test.YtphndncamgbonaaFrImpl
import Derived.Test.YtphndncamgbonaaFmAns
import Derived.Test.YtphndncamgbonaaFmImpl
import Derived.Test.YtphndncamgbonaaFsAns
import Derived.Test.YtphndncamgbonaaFsSpec
import Derived.Test.YtphndncamgbonaaFsImpl
import Derived.Test.YtphndncamgbonaaFrLaw
import Derived.Test.YtphndncamgbonaaFracArg
import Derived.WalkKit
import Derived.ProofKit
import Derived.OpenShut
import Derived.ShutString
import Derived.ChangeOld
import Derived.Below
namespace Go.Proofs.Ytphndncamgbonaa.fnExactSubtractFracs
open Go.ChangeShapes Go.WideShapes Go.ChangeAt Go.RowKit
open Go.ChangeMaps (open_string shut_string)
set_option linter.unusedVariables false

theorem own : ownKnob Try.prog.godebug = none := by kernel_rfl

/-! ### The walk -/
set_option maxRecDepth 100000 in
set_option maxHeartbeats 8000000 in
theorem walk (a0 : Int) (a1 : Int) (a2 : Int) (a3 : Int) (w_a0 : (Lit.int .i64 a0).wf = true) (w_a1 : (Lit.int .i64 a1).wf = true) (w_a2 : (Lit.int .i64 a2).wf = true) (w_a3 : (Lit.int .i64 a3).wf = true) (w : World) :
    Calls Try.prog 7 #[.agg #[.int .i64 a0, .int .i64 a1], .agg #[.int .i64 a2, .int .i64 a3]] w fun e w' => e = .returned (.bool true) ∧ Below w.heap.size w w' := by
  have h1 := i64_rng w_a0
  have h2 := i64_rng w_a2
  have S0 := fun w => spec_sub a0 a1 a2 a3 w h1 h2
  have I0 := impl_sub a0 a1 a2 a3
  unfold SubAns at S0 I0
  obtain ⟨x, y, b, h⟩ : ∃ (x y : Int) (b : Bool), (if Num.subB a0 a1 a2 a3 = true then Value.tuple #[.agg #[.int .i64 (Num.rN (a0 * a3 - a2 * a1) (a1 * a3)), .int .i64 (Num.rD (a0 * a3 - a2 * a1) (a1 * a3))], .bool true] else Value.tuple #[.agg #[.int .i64 0, .int .i64 0], .bool false]) = Value.tuple #[.agg #[.int .i64 x, .int .i64 y], .bool b] := by
    split
    · exact ⟨_, _, _, rfl⟩
    · exact ⟨_, _, _, rfl⟩
  rw [h] at S0 I0
  have SP := Lib.hid S0
  have IM := Lib.hid I0
  clear S0 I0 h h1 h2
  go_enter Try.func7, Try.ntmps7
  go_upto_region 1 with fail
  go_cut [5, 6] (fun s5 s6 wx => ∃ g : Nat, s5 = .pointer (some ⟨g, 0, none⟩) ∧ s6 = .bool b ∧ w.heap.size + 1 < g ∧ Kept w wx [(⟨g, 0, none⟩, .int .i64 x), (⟨g, 1, none⟩, .int .i64 y), (⟨w.heap.size + 1, 0, none⟩, .int .i64 a2), (⟨w.heap.size + 1, 1, none⟩, .int .i64 a3), (⟨w.heap.size, 0, none⟩, .int .i64 a0), (⟨w.heap.size, 1, none⟩, .int .i64 a1)])
  case first =>
    have K := ((Kept.start w).alloc2 (.int .i64 a0) (.int .i64 a1) 23 _ rfl).alloc2 (.int .i64 a2) (.int .i64 a3) 23 (w.heap.size + 1) (by simp)
    have KA := K.drew.alloc2 (.int .i64 0) (.int .i64 0) 25 (w.heap.size + 1 + 1) (by simp)
    go_region_with (first | (go_at_call 9; (with_reducible refine (law_to _ _ _).mono ?_); rintro e w1 ⟨rfl, hb⟩; (first | have K := KA.step hb | have K := K.step hb | have K := K.drew.step hb | have K := (K.alloc2 (.int .i64 0) (.int .i64 0) 25 _ rfl).step hb | have K := (K.drew.alloc2 (.int .i64 0) (.int .i64 0) 25 _ rfl).step hb); have k0 := K.get 0 rfl; have k1 := K.get 1 rfl; have k2 := K.get 2 rfl; have k3 := K.get 3 rfl; (try have k4 := K.get 4 rfl); (try have k5 := K.get 5 rfl); have f0 := K.fz 0 rfl; have f1 := K.fz 1 rfl; have z0 := K.lt 0 rfl; have z2 := K.lt 2 rfl; (try have z4 := K.lt 4 rfl); clear hb) | (go_at_call 18; (with_reducible refine (SP.out _).mono ?_); rintro e w1 ⟨rfl, hb⟩; (first | have K := KA.step hb | have K := K.step hb | have K := K.drew.step hb | have K := (K.alloc2 (.int .i64 0) (.int .i64 0) 25 _ rfl).step hb | have K := (K.drew.alloc2 (.int .i64 0) (.int .i64 0) 25 _ rfl).step hb); have k0 := K.get 0 rfl; have k1 := K.get 1 rfl; have k2 := K.get 2 rfl; have k3 := K.get 3 rfl; (try have k4 := K.get 4 rfl); (try have k5 := K.get 5 rfl); have f0 := K.fz 0 rfl; have f1 := K.fz 1 rfl; have z0 := K.lt 0 rfl; have z2 := K.lt 2 rfl; (try have z4 := K.lt 4 rfl); clear hb))
    all_goals go_wp2_with fail
    all_goals go_meet
    all_goals (first | exact ⟨_, rfl, rfl, by omega, K.alloc2 _ _ _ _ rfl⟩ | exact ⟨_, rfl, rfl, by omega, K.set2 _ _ (by omega) (by simp only [List.mem_cons, List.not_mem_nil, or_false]; rintro c (rfl | rfl | rfl | rfl) <;> simp only <;> omega)⟩)
  case rest =>
    obtain ⟨g, rfl, rfl, hg, K⟩ := hcut
    go_upto_region 2 with fail
    go_cut [7, 8] (fun s7 s8 wx => ∃ h : Nat, s7 = .pointer (some ⟨h, 0, none⟩) ∧ s8 = .bool b ∧ g < h ∧ Kept w wx [(⟨h, 0, none⟩, .int .i64 x), (⟨h, 1, none⟩, .int .i64 y), (⟨g, 0, none⟩, .int .i64 x), (⟨g, 1, none⟩, .int .i64 y), (⟨w.heap.size + 1, 0, none⟩, .int .i64 a2), (⟨w.heap.size + 1, 1, none⟩, .int .i64 a3), (⟨w.heap.size, 0, none⟩, .int .i64 a0), (⟨w.heap.size, 1, none⟩, .int .i64 a1)])
    case first =>
      have k0 := K.get 2 rfl
      have k1 := K.get 3 rfl
      have k2 := K.get 4 rfl
      have k3 := K.get 5 rfl
      have z0 := K.lt 0 rfl
      have z2 := K.lt 2 rfl
      have z4 := K.lt 4 rfl
      have KA := K.drew.alloc2 (.int .i64 0) (.int .i64 0) 25 wc.heap.size rfl
      go_region_with (first | (go_at_call 9; (with_reducible refine (law_to _ _ _).mono ?_); rintro e w1 ⟨rfl, hb⟩; (first | have K := KA.step hb | have K := K.step hb | have K := K.drew.step hb | have K := (K.alloc2 (.int .i64 0) (.int .i64 0) 25 _ rfl).step hb | have K := (K.drew.alloc2 (.int .i64 0) (.int .i64 0) 25 _ rfl).step hb); have k0 := K.get 0 rfl; have k1 := K.get 1 rfl; have k2 := K.get 2 rfl; have k3 := K.get 3 rfl; have k4 := K.get 4 rfl; have k5 := K.get 5 rfl; (try have k6 := K.get 6 rfl); (try have k7 := K.get 7 rfl); have f0 := K.fz 0 rfl; have f1 := K.fz 1 rfl; have z0 := K.lt 0 rfl; have z2 := K.lt 2 rfl; have z4 := K.lt 4 rfl; (try have z6 := K.lt 6 rfl); clear hb) | (go_at_call 19; (with_reducible refine (IM.out _).mono ?_); rintro e w1 ⟨rfl, hb⟩; (first | have K := KA.step hb | have K := K.step hb | have K := K.drew.step hb | have K := (K.alloc2 (.int .i64 0) (.int .i64 0) 25 _ rfl).step hb | have K := (K.drew.alloc2 (.int .i64 0) (.int .i64 0) 25 _ rfl).step hb); have k0 := K.get 0 rfl; have k1 := K.get 1 rfl; have k2 := K.get 2 rfl; have k3 := K.get 3 rfl; have k4 := K.get 4 rfl; have k5 := K.get 5 rfl; (try have k6 := K.get 6 rfl); (try have k7 := K.get 7 rfl); have f0 := K.fz 0 rfl; have f1 := K.fz 1 rfl; have z0 := K.lt 0 rfl; have z2 := K.lt 2 rfl; have z4 := K.lt 4 rfl; (try have z6 := K.lt 6 rfl); clear hb))
      all_goals go_wp2_with fail
      all_goals go_meet
      all_goals (first | exact ⟨_, rfl, rfl, by omega, K.alloc2 _ _ _ _ rfl⟩ | exact ⟨_, rfl, rfl, by omega, K.set2 _ _ (by omega) (by simp only [List.mem_cons, List.not_mem_nil, or_false]; rintro c (rfl | rfl | rfl | rfl | rfl | rfl) <;> simp only <;> omega)⟩)
    case rest =>
      obtain ⟨h, rfl, rfl, hh, K2⟩ := hcut
      have k0 := K2.get 0 rfl
      have k1 := K2.get 1 rfl
      have k2 := K2.get 2 rfl
      have k3 := K2.get 3 rfl
      go_wp2_with fail
      refine (law_eq _ _ _).mono ?_
      rintro e w3 ⟨rfl, hb⟩
      have K3 := K2.step hb
      clear hb K2
      cases b
      · go_wp2
        go_ret
        exact ⟨rfl, K3.1⟩
      · go_wp2
        go_ret
        exact ⟨rfl, K3.1⟩

/-! ### THE ROW's STEP -/
set_option maxRecDepth 100000 in
theorem lifted (os : Os) (started : os.Started) (H : Type) (enc : TypeId × Value → H) :
    ReturnsInHanded {} Try.checked os 7 .any (Rows.fnExactSubtractFracsSpec.pre6 enc Try.prog Try.f7 Rows.fnExactSubtractFracsRow.domain false) (Rows.fnExactSubtractFracsSpec.post enc Try.prog Try.f7 false true false false) := by
  refine returnsInHanded_of_change (C := Try.checked) own started (by kernel_rfl) Try.func7
    (ChangeSpec.witness6 (enc := enc) (C := Try.checked) false ⟨#[], #[.agg #[.int .i64 0, .int .i64 0], .agg #[.int .i64 0, .int .i64 0]], []⟩ 8 (by kernel_rfl) (by kernel_rfl) (by kernel_rfl) (by kernel_rfl)) ?_
  intro W base args ds gs before hval0 hW hcnd _
  have hval : ∀ (j : Nat) t v, Try.f7.params[j]? = some t → args[j]? = some v → Value.okWide Try.prog W .any base t v := hval0
  have hW' := hW
  obtain ⟨p, q, hA0, hV, rfl, hfz, hnd⟩ := hW
  have hA : DataW.TrodAll enc Try.prog W 0 (fun _ => true) true Try.f7.params.toList args.toList ds p := hA0
  rw [Try.params7] at hA hval
  obtain ⟨v0, vs0, d0, ds0, p0, q0, hargs, rfl, rfl, h0, r0⟩ := trodAll_cons hA
  obtain ⟨v1, vs1, d1, ds1, p1, q1, rfl, rfl, rfl, h1, r1⟩ := trodAll_cons r0
  obtain ⟨rfl, rfl, rfl⟩ := trodAll_nil r1
  obtain rfl : args = #[v0, v1] := by cases args; simp_all
  obtain ⟨rfl, rfl⟩ := trodVars_none hV
  obtain ⟨a0, a1, rfl, rfl, rfl, w_a0, w_a1⟩ := open_frac (hval 0 23 v0 rfl rfl) h0
  obtain ⟨a2, a3, rfl, rfl, rfl, w_a2, w_a3⟩ := open_frac (hval 1 23 v1 rfl rfl) h1
  clear hA0 hval0
  simp only [List.append_nil] at hW'
  refine (walk a0 a1 a2 a3 w_a0 w_a1 w_a2 w_a3 W).mono fun e W' ⟨he, hg⟩ => ?_
  subst he
  exact ⟨_, rfl, _, _, _, [], _, [], hW', (trodAll_cons_mk (shut_bool Try.underlying4 _) trodAll_mk0), (trodAll_cons_mk (shut_frac w_a0 w_a1) (trodAll_cons_mk (shut_frac w_a2 w_a3) trodAll_mk0)), rfl, hg.frame _, fun h => by cases h⟩

theorem over : Rows.fnExactSubtractFracsRow.holds Try.pinned (OpenSpec.ofChange Rows.fnExactSubtractFracsSpec) :=
  OpenClaim.holds_of_wide 7 Try.f7 rfl rfl rfl rfl rfl rfl rfl ⟨rfl, rfl, rfl, rfl, rfl⟩ rfl rfl rfl rfl rfl (by kernel_rfl) Try.func7 (by kernel_rfl)
    (of_decide_eq_true (by kernel_rfl)) (by unfold Func.isWrapper; first | (rw [if_pos (by decide +kernel)]; kernel_rfl) | (rw [if_neg (by decide +kernel)]; exact ⟨rfl, rfl⟩))
    (fun os started H enc _ => lifted os started H enc)

/-- ████ THE STATEMENT ████ -/
theorem proved : Rows.FnExactSubtractFracsSaid :=
  over
end Go.Proofs.Ytphndncamgbonaa.fnExactSubtractFracs
