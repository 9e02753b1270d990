/-
  Proved: for all four pairs of ints as two intervals, the law FnExactMeet returns true (the project's Meet answers as its model) and leaves its arguments as they were. No condition.
-/
import Derived.Test.YtdfmidihghoilaaRows
import Derived.Test.YtdfmidihghoilaaFrPlain
import Derived.Test.YtdfmidihghoilaaFcPlain
import Derived.Test.YtdfmidihghoilaaL1In
import Derived.Test.YtdfmidihghoilaaHelp
import Derived.Test.YtdfmidihghoilaaHeld
import Derived.Test.YtdfmidihghoilaaFrSpec
import Derived.Test.YtdfmidihghoilaaFrLaw
import Derived.Test.YtdfmidihghoilaaIvPlain
import Derived.Test.YtdfmidihghoilaaIvMore
import Derived.Test.YtdfmidihghoilaaFcSpec
import Derived.Test.YtdfmidihghoilaaIvSpec
import Derived.Test.YtdfmidihghoilaaIvLaw
import Derived.Test.YtdfmidihghoilaaShelf
import Derived.Test.YtdfmidihghoilaaFrImpl
import Derived.Test.YtdfmidihghoilaaFcImpl
import Derived.Test.YtdfmidihghoilaaIiImpl
import Derived.Test.YtdfmidihghoilaaIvMeet
import Derived.Test.YtdfmidihghoilaaMtMore
import Derived.Test.YtdfmidihghoilaaHeld8
import Derived.Test.YtdfmidihghoilaaImImpl
import Derived.Test.YtdfmidihghoilaaIvArg
import Derived.WalkKit
import Derived.ProofKit
import Derived.OpenShut
import Derived.ShutString
import Derived.ChangeOld
import Derived.Below
namespace Go.Proofs.Ytdfmidihghoilaa.fnExactMeet
open Go.ChangeShapes Go.WideShapes Go.ChangeAt Go.RowKit
open Go.ChangeMaps (open_string shut_string)
set_option linter.unusedVariables false

theorem own : ownKnob Try.prog.godebug = none := by kernel_rfl

/-! ### The walk -/
set_option maxRecDepth 100000 in
set_option maxHeartbeats 8000000 in
theorem walk (a0 : Int) (a1 : Int) (a2 : Int) (a3 : Int) (a4 : Int) (a5 : Int) (a6 : Int) (a7 : Int) (w_a0 : (Lit.int .i64 a0).wf = true) (w_a1 : (Lit.int .i64 a1).wf = true) (w_a2 : (Lit.int .i64 a2).wf = true) (w_a3 : (Lit.int .i64 a3).wf = true) (w_a4 : (Lit.int .i64 a4).wf = true) (w_a5 : (Lit.int .i64 a5).wf = true) (w_a6 : (Lit.int .i64 a6).wf = true) (w_a7 : (Lit.int .i64 a7).wf = true) (w : World) :
    Calls Try.prog 9 #[.agg #[.int .i64 a0, .int .i64 a1, .int .i64 a2, .int .i64 a3], .agg #[.int .i64 a4, .int .i64 a5, .int .i64 a6, .int .i64 a7]] w fun e w' => e = .returned (.bool true) ∧ Below w.heap.size w w' := by
  have h0 := i64_rng w_a0
  have h1 := i64_rng w_a2
  have h2 := i64_rng w_a4
  have h3 := i64_rng w_a6
  have S0 := fun w => spec_mt a0 a1 a2 a3 a4 a5 a6 a7 w h0 h1 h2 h3
  have I0 := impl_mt a0 a1 a2 a3 a4 a5 a6 a7
  unfold MtAns at S0 I0
  obtain ⟨l1, l2, m1, m2, b, h⟩ : ∃ (l1 l2 m1 m2 : Int) (b : Bool), (if mtB a0 a1 a2 a3 a4 a5 a6 a7 = true then Value.tuple #[.agg #[.int .i64 (mtL a0 a1 a4 a5).1, .int .i64 (mtL a0 a1 a4 a5).2, .int .i64 (mtH a2 a3 a6 a7).1, .int .i64 (mtH a2 a3 a6 a7).2], .bool true] else Value.tuple #[.agg #[.int .i64 0, .int .i64 0, .int .i64 0, .int .i64 0], .bool false]) = Value.tuple #[.agg #[.int .i64 l1, .int .i64 l2, .int .i64 m1, .int .i64 m2], .bool b] := by
    split
    · exact ⟨_, _, _, _, _, rfl⟩
    · exact ⟨_, _, _, _, _, rfl⟩
  rw [h] at S0 I0
  have SP := Lib.hid S0
  have IM := Lib.hid I0
  clear S0 I0 h h0 h1 h2 h3
  go_enter Try.func9, Try.ntmps9
  go_upto_region 1 with fail
  go_cut [5, 6] (fun s5 s6 wx => ∃ g : Nat, s5 = .pointer (some ⟨g, 0, none⟩) ∧ s6 = .bool b ∧ w.heap.size + 1 < g ∧ Kept w wx [(⟨g, 0, none⟩, .int .i64 l1), (⟨g, 1, none⟩, .int .i64 l2), (⟨g, 2, none⟩, .int .i64 m1), (⟨g, 3, none⟩, .int .i64 m2), (⟨w.heap.size + 1, 0, none⟩, .int .i64 a4), (⟨w.heap.size + 1, 1, none⟩, .int .i64 a5), (⟨w.heap.size + 1, 2, none⟩, .int .i64 a6), (⟨w.heap.size + 1, 3, none⟩, .int .i64 a7), (⟨w.heap.size, 0, none⟩, .int .i64 a0), (⟨w.heap.size, 1, none⟩, .int .i64 a1), (⟨w.heap.size, 2, none⟩, .int .i64 a2), (⟨w.heap.size, 3, none⟩, .int .i64 a3)])
  case first =>
    have K := ((Kept.start w).alloc4 (.int .i64 a0) (.int .i64 a1) (.int .i64 a2) (.int .i64 a3) 25 _ rfl).alloc4 (.int .i64 a4) (.int .i64 a5) (.int .i64 a6) (.int .i64 a7) 25 (w.heap.size + 1) (by simp)
    have KA := (K.alloc4 (.int .i64 0) (.int .i64 0) (.int .i64 0) (.int .i64 0) 29 (w.heap.size + 1 + 1) (by simp)).drew
    have KD := K.drew
    have j0 := K.get 0 rfl
    have j1 := K.get 1 rfl
    have j2 := K.get 2 rfl
    have j3 := K.get 3 rfl
    have j4 := K.get 4 rfl
    have j5 := K.get 5 rfl
    have j6 := K.get 6 rfl
    have j7 := K.get 7 rfl
    have k0 := KD.get 0 rfl
    have k1 := KD.get 1 rfl
    have k2 := KD.get 2 rfl
    have k3 := KD.get 3 rfl
    have k4 := KD.get 4 rfl
    have k5 := KD.get 5 rfl
    have k6 := KD.get 6 rfl
    have k7 := KD.get 7 rfl
    have z0 := KD.lt 0 rfl
    have z4 := KD.lt 4 rfl
    go_region_held3 (fun w' => w'.cell? ⟨w.heap.size + 1, 0, none⟩ = some (.int .i64 a4) ∧ w'.cell? ⟨w.heap.size + 1, 1, none⟩ = some (.int .i64 a5) ∧ w'.cell? ⟨w.heap.size + 1, 2, none⟩ = some (.int .i64 a6) ∧ w'.cell? ⟨w.heap.size + 1, 3, none⟩ = some (.int .i64 a7) ∧ w'.cell? ⟨w.heap.size, 0, none⟩ = some (.int .i64 a0) ∧ w'.cell? ⟨w.heap.size, 1, none⟩ = some (.int .i64 a1) ∧ w'.cell? ⟨w.heap.size, 2, none⟩ = some (.int .i64 a2) ∧ w'.cell? ⟨w.heap.size, 3, none⟩ = some (.int .i64 a3)) (first | with_reducible exact ⟨k0, k1, k2, k3, k4, k5, k6, k7⟩ | with_reducible exact ⟨k4, k5, k6, k7, k8, k9, k10, k11⟩ | with_reducible exact c8_alloc (by assumption) | with_reducible exact c8_alloc ⟨k0, k1, k2, k3, k4, k5, k6, k7⟩ | with_reducible exact c8_alloc ⟨k4, k5, k6, k7, k8, k9, k10, k11⟩ | with_reducible exact c8_adrew ⟨j0, j1, j2, j3, j4, j5, j6, j7⟩ | (with_reducible refine c8_set4 (by assumption) ?_ ?_ ?_ ?_ ?_ ?_ ?_ ?_) <;> (simp only; omega)) (first | (go_simp; go_at_call 12; (with_reducible refine (law_toI _ _ _ _ _).mono ?_); rintro e w1 ⟨rfl, hb⟩; (first | (with_reducible have K := K.step hb) | (with_reducible have K := KD.step hb) | (with_reducible have K := KA.step hb) | (with_reducible have K := (K.alloc4 (.int .i64 0) (.int .i64 0) (.int .i64 0) (.int .i64 0) 29 _ rfl).step hb)); (try have k0 := K.get 0 rfl); (try have k1 := K.get 1 rfl); (try have k2 := K.get 2 rfl); (try have k3 := K.get 3 rfl); (try have k4 := K.get 4 rfl); (try have k5 := K.get 5 rfl); (try have k6 := K.get 6 rfl); (try have k7 := K.get 7 rfl); (try have k8 := K.get 8 rfl); (try have k9 := K.get 9 rfl); (try have k10 := K.get 10 rfl); (try have k11 := K.get 11 rfl); have f0 := K.fz 0 rfl; have f1 := K.fz 1 rfl; have f2 := K.fz 2 rfl; have f3 := K.fz 3 rfl; (try have z0 := K.lt 0 rfl); (try have z4 := K.lt 4 rfl); (try have z8 := K.lt 8 rfl); clear hb) | (go_simp; go_at_call 27; (with_reducible refine (SP.out _).mono ?_); rintro e w1 ⟨rfl, hb⟩; (first | (with_reducible have K := K.step hb) | (with_reducible have K := KD.step hb) | (with_reducible have K := KA.step hb) | (with_reducible have K := (K.alloc4 (.int .i64 0) (.int .i64 0) (.int .i64 0) (.int .i64 0) 29 _ rfl).step hb)); (try have k0 := K.get 0 rfl); (try have k1 := K.get 1 rfl); (try have k2 := K.get 2 rfl); (try have k3 := K.get 3 rfl); (try have k4 := K.get 4 rfl); (try have k5 := K.get 5 rfl); (try have k6 := K.get 6 rfl); (try have k7 := K.get 7 rfl); (try have k8 := K.get 8 rfl); (try have k9 := K.get 9 rfl); (try have k10 := K.get 10 rfl); (try have k11 := K.get 11 rfl); have f0 := K.fz 0 rfl; have f1 := K.fz 1 rfl; have f2 := K.fz 2 rfl; have f3 := K.fz 3 rfl; (try have z0 := K.lt 0 rfl); (try have z4 := K.lt 4 rfl); (try have z8 := K.lt 8 rfl); clear hb))
    all_goals go_wp2_with fail
    all_goals go_meet
    all_goals (first | exact ⟨_, rfl, rfl, by omega, K.alloc4 _ _ _ _ _ _ rfl⟩ | exact ⟨_, rfl, rfl, by omega, K.set4 _ _ _ _ (by omega) (by simp only [List.mem_cons, List.not_mem_nil, or_false]; rintro c (rfl | rfl | rfl | rfl | rfl | rfl | rfl | rfl) <;> simp only <;> omega)⟩)
  case rest =>
    obtain ⟨g, rfl, rfl, hg, K⟩ := hcut
    go_upto_region 2 with fail
    go_cut [7, 8] (fun s7 s8 wx => ∃ h : Nat, s7 = .pointer (some ⟨h, 0, none⟩) ∧ s8 = .bool b ∧ g < h ∧ Kept w wx [(⟨h, 0, none⟩, .int .i64 l1), (⟨h, 1, none⟩, .int .i64 l2), (⟨h, 2, none⟩, .int .i64 m1), (⟨h, 3, none⟩, .int .i64 m2), (⟨g, 0, none⟩, .int .i64 l1), (⟨g, 1, none⟩, .int .i64 l2), (⟨g, 2, none⟩, .int .i64 m1), (⟨g, 3, none⟩, .int .i64 m2), (⟨w.heap.size + 1, 0, none⟩, .int .i64 a4), (⟨w.heap.size + 1, 1, none⟩, .int .i64 a5), (⟨w.heap.size + 1, 2, none⟩, .int .i64 a6), (⟨w.heap.size + 1, 3, none⟩, .int .i64 a7), (⟨w.heap.size, 0, none⟩, .int .i64 a0), (⟨w.heap.size, 1, none⟩, .int .i64 a1), (⟨w.heap.size, 2, none⟩, .int .i64 a2), (⟨w.heap.size, 3, none⟩, .int .i64 a3)])
    case first =>
      have KA := (K.alloc4 (.int .i64 0) (.int .i64 0) (.int .i64 0) (.int .i64 0) 29 wc.heap.size rfl).drew
      have KD := K.drew
      have j0 := K.get 4 rfl
      have j1 := K.get 5 rfl
      have j2 := K.get 6 rfl
      have j3 := K.get 7 rfl
      have j4 := K.get 8 rfl
      have j5 := K.get 9 rfl
      have j6 := K.get 10 rfl
      have j7 := K.get 11 rfl
      have k0 := KD.get 0 rfl
      have k1 := KD.get 1 rfl
      have k2 := KD.get 2 rfl
      have k3 := KD.get 3 rfl
      have k4 := KD.get 4 rfl
      have k5 := KD.get 5 rfl
      have k6 := KD.get 6 rfl
      have k7 := KD.get 7 rfl
      have k8 := KD.get 8 rfl
      have k9 := KD.get 9 rfl
      have k10 := KD.get 10 rfl
      have k11 := KD.get 11 rfl
      have z0 := KD.lt 0 rfl
      have z4 := KD.lt 4 rfl
      have z8 := KD.lt 8 rfl
      have x0 : g < wc.heap.size := KD.lt 0 rfl
      have x2 : w.heap.size + 1 < wc.heap.size := KD.lt 4 rfl
      go_region_held3 (fun w' => w'.cell? ⟨w.heap.size + 1, 0, none⟩ = some (.int .i64 a4) ∧ w'.cell? ⟨w.heap.size + 1, 1, none⟩ = some (.int .i64 a5) ∧ w'.cell? ⟨w.heap.size + 1, 2, none⟩ = some (.int .i64 a6) ∧ w'.cell? ⟨w.heap.size + 1, 3, none⟩ = some (.int .i64 a7) ∧ w'.cell? ⟨w.heap.size, 0, none⟩ = some (.int .i64 a0) ∧ w'.cell? ⟨w.heap.size, 1, none⟩ = some (.int .i64 a1) ∧ w'.cell? ⟨w.heap.size, 2, none⟩ = some (.int .i64 a2) ∧ w'.cell? ⟨w.heap.size, 3, none⟩ = some (.int .i64 a3)) (first | with_reducible exact ⟨k4, k5, k6, k7, k8, k9, k10, k11⟩ | with_reducible exact ⟨k8, k9, k10, k11, k12, k13, k14, k15⟩ | with_reducible exact c8_alloc (by assumption) | with_reducible exact c8_alloc ⟨k4, k5, k6, k7, k8, k9, k10, k11⟩ | with_reducible exact c8_alloc ⟨k8, k9, k10, k11, k12, k13, k14, k15⟩ | with_reducible exact c8_adrew ⟨j0, j1, j2, j3, j4, j5, j6, j7⟩ | (with_reducible refine c8_set4 (by assumption) ?_ ?_ ?_ ?_ ?_ ?_ ?_ ?_) <;> (simp only; omega)) (first | (go_simp; go_at_call 12; (with_reducible refine (law_toI _ _ _ _ _).mono ?_); rintro e w1 ⟨rfl, hb⟩; (first | (with_reducible have K := K.step hb) | (with_reducible have K := KD.step hb) | (with_reducible have K := KA.step hb) | (with_reducible have K := (K.alloc4 (.int .i64 0) (.int .i64 0) (.int .i64 0) (.int .i64 0) 29 _ rfl).step hb)); (try have k0 := K.get 0 rfl); (try have k1 := K.get 1 rfl); (try have k2 := K.get 2 rfl); (try have k3 := K.get 3 rfl); (try have k4 := K.get 4 rfl); (try have k5 := K.get 5 rfl); (try have k6 := K.get 6 rfl); (try have k7 := K.get 7 rfl); (try have k8 := K.get 8 rfl); (try have k9 := K.get 9 rfl); (try have k10 := K.get 10 rfl); (try have k11 := K.get 11 rfl); (try have k12 := K.get 12 rfl); (try have k13 := K.get 13 rfl); (try have k14 := K.get 14 rfl); (try have k15 := K.get 15 rfl); have f0 := K.fz 0 rfl; have f1 := K.fz 1 rfl; have f2 := K.fz 2 rfl; have f3 := K.fz 3 rfl; (try have z0 := K.lt 0 rfl); (try have z4 := K.lt 4 rfl); (try have z8 := K.lt 8 rfl); (try have z12 := K.lt 12 rfl); clear hb) | (go_simp; go_at_call 28; (with_reducible refine (IM.out _).mono ?_); rintro e w1 ⟨rfl, hb⟩; (first | (with_reducible have K := K.step hb) | (with_reducible have K := KD.step hb) | (with_reducible have K := KA.step hb) | (with_reducible have K := (K.alloc4 (.int .i64 0) (.int .i64 0) (.int .i64 0) (.int .i64 0) 29 _ rfl).step hb)); (try have k0 := K.get 0 rfl); (try have k1 := K.get 1 rfl); (try have k2 := K.get 2 rfl); (try have k3 := K.get 3 rfl); (try have k4 := K.get 4 rfl); (try have k5 := K.get 5 rfl); (try have k6 := K.get 6 rfl); (try have k7 := K.get 7 rfl); (try have k8 := K.get 8 rfl); (try have k9 := K.get 9 rfl); (try have k10 := K.get 10 rfl); (try have k11 := K.get 11 rfl); (try have k12 := K.get 12 rfl); (try have k13 := K.get 13 rfl); (try have k14 := K.get 14 rfl); (try have k15 := K.get 15 rfl); have f0 := K.fz 0 rfl; have f1 := K.fz 1 rfl; have f2 := K.fz 2 rfl; have f3 := K.fz 3 rfl; (try have z0 := K.lt 0 rfl); (try have z4 := K.lt 4 rfl); (try have z8 := K.lt 8 rfl); (try have z12 := K.lt 12 rfl); clear hb))
      all_goals go_wp2_with fail
      all_goals go_meet
      all_goals (first | exact ⟨_, rfl, rfl, by omega, K.alloc4 _ _ _ _ _ _ rfl⟩ | exact ⟨_, rfl, rfl, by omega, K.set4 _ _ _ _ (by omega) (by simp only [List.mem_cons, List.not_mem_nil, or_false]; rintro c (rfl | rfl | rfl | rfl | rfl | rfl | rfl | rfl | rfl | rfl | rfl | rfl) <;> simp only <;> omega)⟩)
    case rest =>
      obtain ⟨h, rfl, rfl, hh, K2⟩ := hcut
      have k0 := K2.get 0 rfl
      have k1 := K2.get 1 rfl
      have k2 := K2.get 2 rfl
      have k3 := K2.get 3 rfl
      have k4 := K2.get 4 rfl
      have k5 := K2.get 5 rfl
      have k6 := K2.get 6 rfl
      have k7 := K2.get 7 rfl
      go_wp2_with fail
      refine (law_eqI _ _ _ _ _).mono ?_
      rintro e w3 ⟨rfl, hb⟩
      have K3 := K2.step hb
      clear hb K2
      cases b
      · go_wp2
        go_ret
        exact ⟨rfl, K3.1⟩
      · go_wp2
        go_ret
        exact ⟨rfl, K3.1⟩

/-! ### THE ROW's STEP -/
set_option maxRecDepth 100000 in
theorem lifted (os : Os) (started : os.Started) (H : Type) (enc : TypeId × Value → H) :
    ReturnsInHanded {} Try.checked os 9 .any (Rows.fnExactMeetSpec.pre6 enc Try.prog Try.f9 Rows.fnExactMeetRow.domain false) (Rows.fnExactMeetSpec.post enc Try.prog Try.f9 false true false false) := by
  refine returnsInHanded_of_change (C := Try.checked) own started (by kernel_rfl) Try.func9
    (ChangeSpec.witness6 (enc := enc) (C := Try.checked) false ⟨#[], #[.agg #[.int .i64 0, .int .i64 0, .int .i64 0, .int .i64 0], .agg #[.int .i64 0, .int .i64 0, .int .i64 0, .int .i64 0]], []⟩ 8 (by kernel_rfl) (by kernel_rfl) (by kernel_rfl) (by kernel_rfl)) ?_
  intro W base args ds gs before hval0 hW hcnd _
  have hval : ∀ (j : Nat) t v, Try.f9.params[j]? = some t → args[j]? = some v → Value.okWide Try.prog W .any base t v := hval0
  have hW' := hW
  obtain ⟨p, q, hA0, hV, rfl, hfz, hnd⟩ := hW
  have hA : DataW.TrodAll enc Try.prog W 0 (fun _ => true) true Try.f9.params.toList args.toList ds p := hA0
  rw [Try.params9] at hA hval
  obtain ⟨v0, vs0, d0, ds0, p0, q0, hargs, rfl, rfl, h0, r0⟩ := trodAll_cons hA
  obtain ⟨v1, vs1, d1, ds1, p1, q1, rfl, rfl, rfl, h1, r1⟩ := trodAll_cons r0
  obtain ⟨rfl, rfl, rfl⟩ := trodAll_nil r1
  obtain rfl : args = #[v0, v1] := by cases args; simp_all
  obtain ⟨rfl, rfl⟩ := trodVars_none hV
  obtain ⟨a0, a1, a2, a3, rfl, rfl, rfl, w_a0, w_a1, w_a2, w_a3⟩ := open_iv (hval 0 25 v0 rfl rfl) h0
  obtain ⟨a4, a5, a6, a7, rfl, rfl, rfl, w_a4, w_a5, w_a6, w_a7⟩ := open_iv (hval 1 25 v1 rfl rfl) h1
  clear hA0 hval0
  simp only [List.append_nil] at hW'
  refine (walk a0 a1 a2 a3 a4 a5 a6 a7 w_a0 w_a1 w_a2 w_a3 w_a4 w_a5 w_a6 w_a7 W).mono fun e W' ⟨he, hg⟩ => ?_
  subst he
  exact ⟨_, rfl, _, _, _, [], _, [], hW', (trodAll_cons_mk (shut_bool Try.underlying4 _) trodAll_mk0), (trodAll_cons_mk (shut_iv w_a0 w_a1 w_a2 w_a3) (trodAll_cons_mk (shut_iv w_a4 w_a5 w_a6 w_a7) trodAll_mk0)), rfl, hg.frame _, fun h => by cases h⟩

theorem over : Rows.fnExactMeetRow.holds Try.pinned (OpenSpec.ofChange Rows.fnExactMeetSpec) :=
  OpenClaim.holds_of_wide 9 Try.f9 rfl rfl rfl rfl rfl rfl rfl ⟨rfl, rfl, rfl, rfl, rfl⟩ rfl rfl rfl rfl rfl (by kernel_rfl) Try.func9 (by kernel_rfl)
    (of_decide_eq_true (by kernel_rfl)) (by unfold Func.isWrapper; first | (rw [if_pos (by decide +kernel)]; kernel_rfl) | (rw [if_neg (by decide +kernel)]; exact ⟨rfl, rfl⟩))
    (fun os started H enc _ => lifted os started H enc)

/-- ████ THE STATEMENT ████ -/
theorem proved : Rows.FnExactMeetSaid :=
  over
end Go.Proofs.Ytdfmidihghoilaa.fnExactMeet
