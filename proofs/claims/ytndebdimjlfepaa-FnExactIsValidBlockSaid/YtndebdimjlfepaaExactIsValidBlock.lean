/-
  Proved: for every block, the law FnExactIsValidBlock returns true (the project's IsValidBlock answers as its model and leaves its argument as it was). No condition.
-/
import Derived.Test.YtndebdimjlfepaaRows
import Derived.Test.YtndebdimjlfepaaMk
import Derived.Test.YtndebdimjlfepaaPlain
import Derived.Test.YtndebdimjlfepaaL1In
import Derived.Test.YtndebdimjlfepaaKeep
import Derived.Test.YtndebdimjlfepaaRvSpec
import Derived.Test.YtndebdimjlfepaaRwLaw
import Derived.Test.YtndebdimjlfepaaRwsOwn
import Derived.Test.YtndebdimjlfepaaArSpec
import Derived.Test.YtndebdimjlfepaaEqRows
import Derived.Test.YtndebdimjlfepaaBkPlain
import Derived.Test.YtndebdimjlfepaaBkLaw
import Derived.Test.YtndebdimjlfepaaBvImpl
import Derived.Test.YtndebdimjlfepaaBlkArg
import Derived.WalkKit
import Derived.ProofKit
import Derived.OpenShut
import Derived.ShutString
import Derived.ChangeOld
import Derived.Below
import Derived.Carry
namespace Go.Proofs.Ytndebdimjlfepaa.fnExactIsValidBlock
open Go.ChangeShapes Go.WideShapes Go.ChangeAt Go.RowKit
open Go.ChangeMaps (open_string shut_string)
set_option linter.unusedVariables false

theorem own : ownKnob Try.prog.godebug = none := by kernel_rfl

/-! ### The walk -/
set_option maxRecDepth 100000 in
set_option maxHeartbeats 8000000 in
theorem walk (a0 : Int) (a1 : Option Addr) (a2 : Nat) (a3 : Nat) (a4 : Nat → Rw) (w : World) (w_a0_0 : (Lit.int .i64 a0).wf = true) (w_a0_1 : RowsArg w a1 a2 a4) (w_a0_2 : a2 ≤ maxLen) :
    Calls Try.prog 14 #[.agg #[.int .i64 a0, .slice a1 a2 a3]] w fun e w' => e = .returned (.bool true) ∧ Below w.heap.size w w' := by
  have hmax : a2 ≤ 9223372036854775807 := Nat.le_trans w_a0_2 (by unfold maxLen; omega)
  by_cases hbig : 1048576 < a2
  · go_enter Try.func14, Try.ntmps14
    go_wp2_with fail
    have K0 := (Kept.start w).alloc2 (.int .i64 a0) (.slice a1 a2 a3) 85 _ rfl
    refine (law_szb_big a0 a1 a2 a3 _ hbig hmax).mono ?_
    rintro e w1 ⟨rfl, hb⟩
    have K1 := K0.step hb
    clear hb K0
    go_wp2
    go_ret
    exact ⟨rfl, K1.1⟩
  · have hn : a2 ≤ 1048576 := by omega
    have hnI : (a2 : Int) ≤ 1048576 := by omega
    have hz : ¬ (1048576 - (a2 : Int)) < 0 := by omega
    have hzd : decide ((1048576 - (a2 : Int)) < 0) = false := decide_eq_false hz
    have HA := Lib.hid w_a0_1
    clear hbig hmax w_a0_2
    go_enter Try.func14, Try.ntmps14
    go_wp2_with fail
    have K0 := (Kept.start w).alloc2 (.int .i64 a0) (.slice a1 a2 a3) 85 _ rfl
    refine (law_szb a0 a1 a2 a3 _ hn).mono ?_
    rintro e w1 ⟨rfl, hb⟩
    have K1 := K0.step hb
    clear hb K0
    have k0 := K1.get 0 rfl
    have k1 := K1.get 1 rfl
    go_wp2_with fail
    refine (law_toBlk a0 a1 a2 a3 a4 _ hn (HA.out.below K1.1)).mono ?_
    rintro e w2 ⟨g2, rfl, H2⟩
    have G2 := Lib.hid H2
    have K2 := K1.step H2.1
    clear H2 K1 k0 k1
    go_wp2_with fail
    refine (spec_bv a0 g2 a2 _ a4 _ hn G2.out.2.2.1 G2.out.2.2.2.2).mono ?_
    rintro e w3 ⟨rfl, hb⟩
    have K3 := K2.step hb
    clear hb K2
    obtain ⟨v, hv⟩ : ∃ v, v = blkB a0 a2 a4 := ⟨_, rfl⟩
    rw [← hv]
    have HV := Lib.hid hv
    clear hv
    have k0 := K3.get 0 rfl
    have k1 := K3.get 1 rfl
    go_wp2_with fail
    refine (law_toBlk a0 a1 a2 a3 a4 _ hn (HA.out.below K3.1)).mono ?_
    rintro e w4 ⟨g4, rfl, H4⟩
    have G4 := Lib.hid ((H4.rebase K3.1).step ((Below.refl w4.heap.size w4).alloc (Nat.le_refl _) (.cells #[.int .i64 a0, .slice (some ⟨g4, 0, none⟩) a2 a2] 89)))
    have K4 := (K3.step H4.1).alloc2 (.int .i64 a0) (.slice (some ⟨g4, 0, none⟩) a2 a2) 89 w4.heap.size rfl
    clear H4 K3 k0 k1
    have k0 := K4.get 0 rfl
    have k1 := K4.get 1 rfl
    go_wp2_with fail
    refine (impl_bv a0 g4 a2 _ a4 _ hn G4.out.2.2.1 G4.out.2.2.2.2).mono ?_
    rintro e w5 ⟨rfl, hb⟩
    rw [← HV.out]
    have G5 := Lib.hid (G4.out.step hb)
    have K5 := K4.step hb
    clear hb K4 k0 k1
    cases v
    · go_wp2_with fail
      go_region_held3 (fun w' => w'.cell? ⟨w4.heap.size, 0, none⟩ = some (.int .i64 a0) ∧ w'.cell? ⟨w4.heap.size, 1, none⟩ = some (.slice (some ⟨g4, 0, none⟩) a2 a2) ∧ w'.cell? ⟨w.heap.size, 0, none⟩ = some (.int .i64 a0) ∧ w'.cell? ⟨w.heap.size, 1, none⟩ = some (.slice a1 a2 a3) ∧ RowsTo w w' g4 a2 a2 a4 ∧ Kept w w' [(⟨w4.heap.size, 0, none⟩, .int .i64 a0), (⟨w4.heap.size, 1, none⟩, .slice (some ⟨g4, 0, none⟩) a2 a2), (⟨w.heap.size, 0, none⟩, .int .i64 a0), (⟨w.heap.size, 1, none⟩, .slice a1 a2 a3)]) (first | assumption | exact bl_start G5.out K5 | exact bl_keep (by assumption) (by assumption)) (first | (go_simp; go_at_call 66; (with_reducible refine (law_toBlk _ _ _ _ a4 _ hn ?_).mono ?_); (exact bl_arg HA.out (by assumption)); rintro e9 w9 ⟨g9, rfl, H9⟩; have hb := H9.1) | (go_simp; go_at_call 68; (with_reducible refine (law_eqBlk _ _ _ _ _ _ a4 _ hn ?_ ?_ ?_ ?_).mono ?_); (exact (bl_rows (by assumption)).2.2.1); (exact H9.2.2.1); (exact (bl_rows (by assumption)).2.2.2.2); (exact H9.2.2.2.2); rintro e9 w10 ⟨rfl, hb⟩))
      all_goals
        have K6 := ‹_ ∧ _ ∧ _ ∧ _ ∧ _ ∧ Kept w w10 _›.2.2.2.2.2
        go_wp2
        go_ret
        exact ⟨rfl, K6.1⟩
    · go_wp2_with fail
      go_region_held3 (fun w' => w'.cell? ⟨w4.heap.size, 0, none⟩ = some (.int .i64 a0) ∧ w'.cell? ⟨w4.heap.size, 1, none⟩ = some (.slice (some ⟨g4, 0, none⟩) a2 a2) ∧ w'.cell? ⟨w.heap.size, 0, none⟩ = some (.int .i64 a0) ∧ w'.cell? ⟨w.heap.size, 1, none⟩ = some (.slice a1 a2 a3) ∧ RowsTo w w' g4 a2 a2 a4 ∧ Kept w w' [(⟨w4.heap.size, 0, none⟩, .int .i64 a0), (⟨w4.heap.size, 1, none⟩, .slice (some ⟨g4, 0, none⟩) a2 a2), (⟨w.heap.size, 0, none⟩, .int .i64 a0), (⟨w.heap.size, 1, none⟩, .slice a1 a2 a3)]) (first | assumption | exact bl_start G5.out K5 | exact bl_keep (by assumption) (by assumption)) (first | (go_simp; go_at_call 66; (with_reducible refine (law_toBlk _ _ _ _ a4 _ hn ?_).mono ?_); (exact bl_arg HA.out (by assumption)); rintro e9 w9 ⟨g9, rfl, H9⟩; have hb := H9.1) | (go_simp; go_at_call 68; (with_reducible refine (law_eqBlk _ _ _ _ _ _ a4 _ hn ?_ ?_ ?_ ?_).mono ?_); (exact (bl_rows (by assumption)).2.2.1); (exact H9.2.2.1); (exact (bl_rows (by assumption)).2.2.2.2); (exact H9.2.2.2.2); rintro e9 w10 ⟨rfl, hb⟩))
      all_goals
        have K6 := ‹_ ∧ _ ∧ _ ∧ _ ∧ _ ∧ Kept w w10 _›.2.2.2.2.2
        go_wp2
        go_ret
        exact ⟨rfl, K6.1⟩

/-! ### THE ROW's STEP -/
set_option maxRecDepth 100000 in
theorem lifted (os : Os) (started : os.Started) (H : Type) (enc : TypeId × Value → H) :
    ReturnsInHanded {} Try.checked os 14 .any (Rows.fnExactIsValidBlockSpec.pre6 enc Try.prog Try.f14 Rows.fnExactIsValidBlockRow.domain false) (Rows.fnExactIsValidBlockSpec.post enc Try.prog Try.f14 false true false false) := by
  refine returnsInHanded_of_change (C := Try.checked) own started (by kernel_rfl) Try.func14
    (ChangeSpec.witness6 (enc := enc) (C := Try.checked) false ⟨#[], #[.agg #[.int .i64 0, .slice none 0 0]], []⟩ 8 (by kernel_rfl) (by kernel_rfl) (by kernel_rfl) (by kernel_rfl)) ?_
  intro W base args ds gs before hval0 hW hcnd _
  have hval : ∀ (j : Nat) t v, Try.f14.params[j]? = some t → args[j]? = some v → Value.okWide Try.prog W .any base t v := hval0
  have hW' := hW
  obtain ⟨p, q, hA0, hV, rfl, hfz, hnd⟩ := hW
  have hA : DataW.TrodAll enc Try.prog W 0 (fun _ => true) true Try.f14.params.toList args.toList ds p := hA0
  rw [Try.params14] at hA hval
  obtain ⟨v0, vs0, d0, ds0, p0, q0, hargs, rfl, rfl, h0, r0⟩ := trodAll_cons hA
  obtain ⟨rfl, rfl, rfl⟩ := trodAll_nil r0
  obtain rfl : args = #[v0] := by cases args; simp_all
  obtain ⟨rfl, rfl⟩ := trodVars_none hV
  have kk0 := h0
  have lt0 : ∀ x ∈ p0, x.block < W.heap.size := by obtain ⟨m, hm⟩ := kk0; exact DataW.trod_lt m _ _ _ hm
  obtain ⟨a0, a1, a2, a3, a4, rfl, w_a0_0, w_a0_1, w_a0_2⟩ := open_blk (hval 0 85 v0 rfl rfl) h0 (fun _ => rfl)
  clear hA0 hval0
  simp only [List.append_nil] at hW'
  refine (walk a0 a1 a2 a3 a4 W w_a0_0 w_a0_1 w_a0_2).mono fun e W' ⟨he, hg⟩ => ?_
  subst he
  exact ⟨_, rfl, _, _, _, [], _, [], hW', (trodAll_cons_mk (shut_bool Try.underlying4 _) trodAll_mk0), (trodAll_cons_mk (Below.trod (by kernel_rfl) (by kernel_rfl) (of_decide_eq_true (by kernel_rfl)) kk0 hg lt0) trodAll_mk0), rfl, hg.frame _, fun h => by cases h⟩

theorem over : Rows.fnExactIsValidBlockRow.holds Try.pinned (OpenSpec.ofChange Rows.fnExactIsValidBlockSpec) :=
  OpenClaim.holds_of_wide 14 Try.f14 rfl rfl rfl rfl rfl rfl rfl ⟨rfl, rfl, rfl, rfl, rfl⟩ rfl rfl rfl rfl rfl (by kernel_rfl) Try.func14 (MkF.closed_of (by kernel_rfl) (by kernel_rfl) (by kernel_rfl) (by kernel_rfl) (by kernel_rfl) (by kernel_rfl) (by kernel_rfl) (by kernel_rfl) (by kernel_rfl) (by kernel_rfl) (by kernel_rfl) (by kernel_rfl) (by kernel_rfl) (by kernel_rfl) (by kernel_rfl) (by kernel_rfl) (by kernel_rfl) (by kernel_rfl) (by kernel_rfl) (by kernel_rfl) (by kernel_rfl) (by kernel_rfl) (by kernel_rfl) (by kernel_rfl) (by kernel_rfl) MkF.mk_enter (MkF.lifts_eq MkF.mk_lifts rfl) (MkF.make_eq MkF.mk_make rfl) (by kernel_rfl) (by kernel_rfl) (by kernel_rfl) (by kernel_rfl))
    (of_decide_eq_true (by kernel_rfl)) (by unfold Func.isWrapper; first | (rw [if_pos (by decide +kernel)]; kernel_rfl) | (rw [if_neg (by decide +kernel)]; exact ⟨rfl, rfl⟩))
    (fun os started H enc _ => lifted os started H enc)

/-- ████ THE STATEMENT ████ -/
theorem proved : Rows.FnExactIsValidBlockSaid :=
  over
end Go.Proofs.Ytndebdimjlfepaa.fnExactIsValidBlock
