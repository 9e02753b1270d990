/-
  Proved: for every two blocks, the law FnExactEqualBlocks returns true (the project's EqualBlocks answers as its model and leaves its arguments as they were). No condition.
-/
import Derived.Test.YtoabjmdfopabfaaRows
import Derived.Test.YtoabjmdfopabfaaPlain
import Derived.Test.YtoabjmdfopabfaaL1In
import Derived.Test.YtoabjmdfopabfaaKeep
import Derived.Test.YtoabjmdfopabfaaRvSpec
import Derived.Test.YtoabjmdfopabfaaRwLaw
import Derived.Test.YtoabjmdfopabfaaRwsOwn
import Derived.Test.YtoabjmdfopabfaaArSpec
import Derived.Test.YtoabjmdfopabfaaEqRows
import Derived.Test.YtoabjmdfopabfaaBkPlain
import Derived.Test.YtoabjmdfopabfaaBkLaw
import Derived.Test.YtoabjmdfopabfaaEbSpec
import Derived.Test.YtoabjmdfopabfaaEbImpl
import Derived.Test.YtoabjmdfopabfaaBlkArg
import Derived.WalkKit
import Derived.ProofKit
import Derived.OpenShut
import Derived.ShutString
import Derived.ChangeOld
import Derived.Below
import Derived.Carry
namespace Go.Proofs.Ytoabjmdfopabfaa.fnExactEqualBlocks
open Go.ChangeShapes Go.WideShapes Go.ChangeAt Go.RowKit
open Go.ChangeMaps (open_string shut_string)
set_option linter.unusedVariables false

theorem own : ownKnob Try.prog.godebug = none := by kernel_rfl

/-! ### The walk -/
set_option maxRecDepth 100000 in
set_option maxHeartbeats 8000000 in
theorem walk (a0 : Int) (a1 : Option Addr) (a2 : Nat) (a3 : Nat) (a4 : Nat → Rw) (a5 : Int) (a6 : Option Addr) (a7 : Nat) (a8 : Nat) (a9 : Nat → Rw) (w : World) (w_a0_0 : (Lit.int .i64 a0).wf = true) (w_a0_1 : RowsArg w a1 a2 a4) (w_a0_2 : a2 ≤ maxLen) (w_a5_0 : (Lit.int .i64 a5).wf = true) (w_a5_1 : RowsArg w a6 a7 a9) (w_a5_2 : a7 ≤ maxLen) :
    Calls Try.prog 6 #[.agg #[.int .i64 a0, .slice a1 a2 a3], .agg #[.int .i64 a5, .slice a6 a7 a8]] w fun e w' => e = .returned (.bool true) ∧ Below w.heap.size w w' := by
  have hm1 : a2 ≤ 9223372036854775807 := Nat.le_trans w_a0_2 (by unfold maxLen; omega)
  have hm2 : a7 ≤ 9223372036854775807 := Nat.le_trans w_a5_2 (by unfold maxLen; omega)
  by_cases hbig : 1048576 < a2
  · go_enter Try.func6, Try.ntmps6
    go_wp2_with fail
    have K0 := ((Kept.start w).alloc2 (.int .i64 a0) (.slice a1 a2 a3) 24 _ rfl).alloc2 (.int .i64 a5) (.slice a6 a7 a8) 24 (w.heap.size + 1) (by simp)
    refine (law_szb_big a0 a1 a2 a3 _ hbig hm1).mono ?_
    rintro e w1 ⟨rfl, hb⟩
    have K1 := K0.step hb
    clear hb K0
    go_wp2
    go_ret
    exact ⟨rfl, K1.1⟩
  · have hn : a2 ≤ 1048576 := by omega
    have hnI : (a2 : Int) ≤ 1048576 := by omega
    have hz : ¬ (1048576 - (a2 : Int)) < 0 := by omega
    have hzd : decide ((1048576 - (a2 : Int)) < 0) = false := decide_eq_false hz
    have h0L : 0 ≤ 1048576 - (a2 : Int) := by omega
    have h1L : 1048576 - (a2 : Int) ≤ 1048576 := by omega
    by_cases hbig2 : 1048576 - (a2 : Int) < (a7 : Int)
    · go_enter Try.func6, Try.ntmps6
      go_wp2_with fail
      have K0 := ((Kept.start w).alloc2 (.int .i64 a0) (.slice a1 a2 a3) 24 _ rfl).alloc2 (.int .i64 a5) (.slice a6 a7 a8) 24 (w.heap.size + 1) (by simp)
      refine (law_szb a0 a1 a2 a3 _ hn).mono ?_
      rintro e w1 ⟨rfl, hb⟩
      have K1 := K0.step hb
      clear hb K0
      have k0 := K1.get 0 rfl
      have k1 := K1.get 1 rfl
      go_wp2_with fail
      refine (law_szbL_big _ a5 a6 a7 a8 _ h0L h1L hbig2 hm2).mono ?_
      rintro e w2 ⟨rfl, hb⟩
      have K2 := K1.step hb
      clear hb K1 k0 k1
      go_wp2
      go_ret
      exact ⟨rfl, K2.1⟩
    · have hle : (a7 : Int) ≤ 1048576 - (a2 : Int) := by omega
      have hn' : a7 ≤ 1048576 := by omega
      have hz2 : ¬ (1048576 - (a2 : Int) - (a7 : Int)) < 0 := by omega
      have hz2d : decide ((1048576 - (a2 : Int) - (a7 : Int)) < 0) = false := decide_eq_false hz2
      have HA := Lib.hid w_a0_1
      have HB := Lib.hid w_a5_1
      clear hbig hbig2 hm1 hm2
      go_enter Try.func6, Try.ntmps6
      go_wp2_with fail
      have K0 := ((Kept.start w).alloc2 (.int .i64 a0) (.slice a1 a2 a3) 24 _ rfl).alloc2 (.int .i64 a5) (.slice a6 a7 a8) 24 (w.heap.size + 1) (by simp)
      refine (law_szb a0 a1 a2 a3 _ hn).mono ?_
      rintro e w1 ⟨rfl, hb⟩
      have K1 := K0.step hb
      clear hb K0
      have k0 := K1.get 0 rfl
      have k1 := K1.get 1 rfl
      go_wp2_with fail
      refine (law_szbL _ a5 a6 a7 a8 _ h0L h1L hle).mono ?_
      rintro e w2 ⟨rfl, hb⟩
      have K2 := K1.step hb
      clear hb K1 k0 k1
      go_wp2_with fail
      go_region_held3 (fun w' => w'.cell? ⟨w.heap.size + 1, 0, none⟩ = some (.int .i64 a5) ∧ w'.cell? ⟨w.heap.size + 1, 1, none⟩ = some (.slice a6 a7 a8) ∧ w'.cell? ⟨w.heap.size, 0, none⟩ = some (.int .i64 a0) ∧ w'.cell? ⟨w.heap.size, 1, none⟩ = some (.slice a1 a2 a3) ∧ Below w2.heap.size w2 w') (first | assumption | exact bq_start K2 | exact bq_keep K2 (by assumption) (by assumption)) (first | (go_simp; go_at_call 9; (with_reducible refine (law_toBlk _ _ _ _ a4 _ hn ?_).mono ?_); (exact (HA.out.below K2.1).below (bq_below (by assumption))); rintro e9 w9 ⟨gA, rfl, HA9⟩; have hb := HA9.1) | (go_simp; go_at_call 9; (with_reducible refine (law_toBlk _ _ _ _ a9 _ hn' ?_).mono ?_); (exact (HB.out.below K2.1).below (bq_below (by assumption))); rintro e9 w10 ⟨gB, rfl, HB9⟩; have hb := HB9.1; have HA10 := HA9.step HB9.1) | (go_simp; go_at_call 19; (with_reducible refine (spec_eb _ _ _ _ _ _ _ _ a4 a9 _ hn hn' ?_ ?_ ?_ ?_).mono ?_); (exact HA10.2.2.1); (exact HB9.2.2.1); (exact HA10.2.2.2.2); (exact HB9.2.2.2.2); rintro e9 w11 ⟨v, hv, rfl, hb⟩))
      all_goals
        have HV := Lib.hid hv
        have K3 := K2.step (‹_ ∧ _ ∧ _ ∧ _ ∧ Below w2.heap.size w2 w11›).2.2.2.2
        obtain ⟨w3, hw3⟩ : ∃ w3, w3 = w11 := ⟨_, rfl⟩
        clear hv hb HA9 HB9 HA10 K2
        subst hw3
        have k2 := K3.get 2 rfl
        have k3 := K3.get 3 rfl
        go_wp2_with fail
        refine (law_toBlk a0 a1 a2 a3 a4 _ hn (HA.out.below K3.1)).mono ?_
        rintro e w4 ⟨g4, rfl, H4⟩
        have G4 := Lib.hid ((H4.rebase K3.1).step ((Below.refl w4.heap.size w4).alloc (Nat.le_refl _) (.cells #[.int .i64 a0, .slice (some ⟨g4, 0, none⟩) a2 a2] 29)))
        have K4 := (K3.step H4.1).alloc2 (.int .i64 a0) (.slice (some ⟨g4, 0, none⟩) a2 a2) 29 w4.heap.size rfl
        clear H4 K3 k2 k3
        have k2 := K4.get 2 rfl
        have k3 := K4.get 3 rfl
        go_wp2_with fail
        refine (law_toBlk a5 a6 a7 a8 a9 _ hn' (HB.out.below K4.1)).mono ?_
        rintro e w5 ⟨g5, rfl, H5⟩
        have G5 := Lib.hid ((H5.rebase K4.1).step ((Below.refl w5.heap.size w5).alloc (Nat.le_refl _) (.cells #[.int .i64 a5, .slice (some ⟨g5, 0, none⟩) a7 a7] 29)))
        have G4' := Lib.hid ((G4.out.step H5.1).step ((Below.refl w5.heap.size w5).alloc (Nat.le_refl _) (.cells #[.int .i64 a5, .slice (some ⟨g5, 0, none⟩) a7 a7] 29)))
        have K5 := (K4.step H5.1).alloc2 (.int .i64 a5) (.slice (some ⟨g5, 0, none⟩) a7 a7) 29 w5.heap.size rfl
        clear H5 K4 k2 k3
        have k0 := K5.get 0 rfl
        have k1 := K5.get 1 rfl
        have k2 := K5.get 2 rfl
        have k3 := K5.get 3 rfl
        go_wp2_with fail
        refine (impl_eb a0 a5 g4 g5 a2 a7 _ _ a4 a9 _ hn hn' G4'.out.2.2.1 G5.out.2.2.1 G4'.out.2.2.2.2 G5.out.2.2.2.2).mono ?_
        rintro e w6 ⟨v', hv', rfl, hb⟩
        obtain rfl := eb_iff HV.out hv'
        have K6 := K5.step hb
        have G6 := Lib.hid (G4'.out.step hb)
        have G7 := Lib.hid (G5.out.step hb)
        clear hb hv' K5 k0 k1 k2 k3
        have K7 := K6.sub (l' := [(⟨w4.heap.size, 0, none⟩, .int .i64 a0), (⟨w4.heap.size, 1, none⟩, .slice (some ⟨g4, 0, none⟩) a2 a2), (⟨w.heap.size, 0, none⟩, .int .i64 a0), (⟨w.heap.size, 1, none⟩, .slice a1 a2 a3), (⟨w5.heap.size, 0, none⟩, .int .i64 a5), (⟨w5.heap.size, 1, none⟩, .slice (some ⟨g5, 0, none⟩) a7 a7), (⟨w.heap.size + 1, 0, none⟩, .int .i64 a5), (⟨w.heap.size + 1, 1, none⟩, .slice a6 a7 a8)]) (by intro p9 hp9; simp only [List.mem_cons, List.not_mem_nil, or_false] at hp9; rcases hp9 with rfl | rfl | rfl | rfl | rfl | rfl | rfl | rfl <;> simp)
        cases v
        · go_wp2_with fail
          go_region_held3 (fun w' => w'.cell? ⟨w4.heap.size, 0, none⟩ = some (.int .i64 a0) ∧ w'.cell? ⟨w4.heap.size, 1, none⟩ = some (.slice (some ⟨g4, 0, none⟩) a2 a2) ∧ w'.cell? ⟨w.heap.size, 0, none⟩ = some (.int .i64 a0) ∧ w'.cell? ⟨w.heap.size, 1, none⟩ = some (.slice a1 a2 a3) ∧ Below w6.heap.size w6 w') (first | assumption | exact bq_start K7 | exact bq_keep K7 (by assumption) (by assumption)) (first | (go_simp; go_at_call 9; (with_reducible refine (law_toBlk _ _ _ _ a4 _ hn ?_).mono ?_); (exact (HA.out.below K7.1).below (bq_below (by assumption))); rintro e9 w9 ⟨g9, rfl, H9⟩; have hb := H9.1) | (go_simp; go_at_call 11; (with_reducible refine (law_eqBlk _ _ _ _ _ _ a4 _ hn ?_ ?_ ?_ ?_).mono ?_); (exact (G6.out.step (bq_below (by assumption))).2.2.1); (exact H9.2.2.1); (exact (G6.out.step (bq_below (by assumption))).2.2.2.2); (exact H9.2.2.2.2); rintro e9 w10 ⟨rfl, hb⟩))
          all_goals
            have B10 := (‹_ ∧ _ ∧ _ ∧ _ ∧ Below w6.heap.size w6 w10›).2.2.2.2
            have K8 := (K7.step B10).sub (l' := [(⟨w5.heap.size, 0, none⟩, .int .i64 a5), (⟨w5.heap.size, 1, none⟩, .slice (some ⟨g5, 0, none⟩) a7 a7), (⟨w.heap.size + 1, 0, none⟩, .int .i64 a5), (⟨w.heap.size + 1, 1, none⟩, .slice a6 a7 a8)]) (by intro p9 hp9; simp only [List.mem_cons, List.not_mem_nil, or_false] at hp9; rcases hp9 with rfl | rfl | rfl | rfl <;> simp)
            have G8 := Lib.hid (G7.out.step B10)
            obtain ⟨w7, hw7⟩ : ∃ w7, w7 = w10 := ⟨_, rfl⟩
            clear hb H9 B10 K7
            subst hw7
            go_wp2_with fail
            go_region_held3 (fun w' => w'.cell? ⟨w5.heap.size, 0, none⟩ = some (.int .i64 a5) ∧ w'.cell? ⟨w5.heap.size, 1, none⟩ = some (.slice (some ⟨g5, 0, none⟩) a7 a7) ∧ w'.cell? ⟨w.heap.size + 1, 0, none⟩ = some (.int .i64 a5) ∧ w'.cell? ⟨w.heap.size + 1, 1, none⟩ = some (.slice a6 a7 a8) ∧ Below w7.heap.size w7 w') (first | assumption | exact bq_start K8 | exact bq_keep K8 (by assumption) (by assumption)) (first | (go_simp; go_at_call 9; (with_reducible refine (law_toBlk _ _ _ _ a9 _ hn' ?_).mono ?_); (exact (HB.out.below K8.1).below (bq_below (by assumption))); rintro e9 w9 ⟨g9, rfl, H9⟩; have hb := H9.1) | (go_simp; go_at_call 11; (with_reducible refine (law_eqBlk _ _ _ _ _ _ a9 _ hn' ?_ ?_ ?_ ?_).mono ?_); (exact (G8.out.step (bq_below (by assumption))).2.2.1); (exact H9.2.2.1); (exact (G8.out.step (bq_below (by assumption))).2.2.2.2); (exact H9.2.2.2.2); rintro e9 w10 ⟨rfl, hb⟩))
            all_goals
              have B10 := (‹_ ∧ _ ∧ _ ∧ _ ∧ Below w7.heap.size w7 w10›).2.2.2.2
              have K9 := K8.step B10
              go_wp2
              go_ret
              exact ⟨rfl, K9.1⟩
        · go_wp2_with fail
          go_region_held3 (fun w' => w'.cell? ⟨w4.heap.size, 0, none⟩ = some (.int .i64 a0) ∧ w'.cell? ⟨w4.heap.size, 1, none⟩ = some (.slice (some ⟨g4, 0, none⟩) a2 a2) ∧ w'.cell? ⟨w.heap.size, 0, none⟩ = some (.int .i64 a0) ∧ w'.cell? ⟨w.heap.size, 1, none⟩ = some (.slice a1 a2 a3) ∧ Below w6.heap.size w6 w') (first | assumption | exact bq_start K7 | exact bq_keep K7 (by assumption) (by assumption)) (first | (go_simp; go_at_call 9; (with_reducible refine (law_toBlk _ _ _ _ a4 _ hn ?_).mono ?_); (exact (HA.out.below K7.1).below (bq_below (by assumption))); rintro e9 w9 ⟨g9, rfl, H9⟩; have hb := H9.1) | (go_simp; go_at_call 11; (with_reducible refine (law_eqBlk _ _ _ _ _ _ a4 _ hn ?_ ?_ ?_ ?_).mono ?_); (exact (G6.out.step (bq_below (by assumption))).2.2.1); (exact H9.2.2.1); (exact (G6.out.step (bq_below (by assumption))).2.2.2.2); (exact H9.2.2.2.2); rintro e9 w10 ⟨rfl, hb⟩))
          all_goals
            have B10 := (‹_ ∧ _ ∧ _ ∧ _ ∧ Below w6.heap.size w6 w10›).2.2.2.2
            have K8 := (K7.step B10).sub (l' := [(⟨w5.heap.size, 0, none⟩, .int .i64 a5), (⟨w5.heap.size, 1, none⟩, .slice (some ⟨g5, 0, none⟩) a7 a7), (⟨w.heap.size + 1, 0, none⟩, .int .i64 a5), (⟨w.heap.size + 1, 1, none⟩, .slice a6 a7 a8)]) (by intro p9 hp9; simp only [List.mem_cons, List.not_mem_nil, or_false] at hp9; rcases hp9 with rfl | rfl | rfl | rfl <;> simp)
            have G8 := Lib.hid (G7.out.step B10)
            obtain ⟨w7, hw7⟩ : ∃ w7, w7 = w10 := ⟨_, rfl⟩
            clear hb H9 B10 K7
            subst hw7
            go_wp2_with fail
            go_region_held3 (fun w' => w'.cell? ⟨w5.heap.size, 0, none⟩ = some (.int .i64 a5) ∧ w'.cell? ⟨w5.heap.size, 1, none⟩ = some (.slice (some ⟨g5, 0, none⟩) a7 a7) ∧ w'.cell? ⟨w.heap.size + 1, 0, none⟩ = some (.int .i64 a5) ∧ w'.cell? ⟨w.heap.size + 1, 1, none⟩ = some (.slice a6 a7 a8) ∧ Below w7.heap.size w7 w') (first | assumption | exact bq_start K8 | exact bq_keep K8 (by assumption) (by assumption)) (first | (go_simp; go_at_call 9; (with_reducible refine (law_toBlk _ _ _ _ a9 _ hn' ?_).mono ?_); (exact (HB.out.below K8.1).below (bq_below (by assumption))); rintro e9 w9 ⟨g9, rfl, H9⟩; have hb := H9.1) | (go_simp; go_at_call 11; (with_reducible refine (law_eqBlk _ _ _ _ _ _ a9 _ hn' ?_ ?_ ?_ ?_).mono ?_); (exact (G8.out.step (bq_below (by assumption))).2.2.1); (exact H9.2.2.1); (exact (G8.out.step (bq_below (by assumption))).2.2.2.2); (exact H9.2.2.2.2); rintro e9 w10 ⟨rfl, hb⟩))
            all_goals
              have B10 := (‹_ ∧ _ ∧ _ ∧ _ ∧ Below w7.heap.size w7 w10›).2.2.2.2
              have K9 := K8.step B10
              go_wp2
              go_ret
              exact ⟨rfl, K9.1⟩

/-! ### THE ROW's STEP -/
set_option maxRecDepth 100000 in
theorem lifted (os : Os) (started : os.Started) (H : Type) (enc : TypeId × Value → H) :
    ReturnsInHanded {} Try.checked os 6 .any (Rows.fnExactEqualBlocksSpec.pre6 enc Try.prog Try.f6 Rows.fnExactEqualBlocksRow.domain false) (Rows.fnExactEqualBlocksSpec.post enc Try.prog Try.f6 false true false false) := by
  refine returnsInHanded_of_change (C := Try.checked) own started (by kernel_rfl) Try.func6
    (ChangeSpec.witness6 (enc := enc) (C := Try.checked) false ⟨#[], #[.agg #[.int .i64 0, .slice none 0 0], .agg #[.int .i64 0, .slice none 0 0]], []⟩ 8 (by kernel_rfl) (by kernel_rfl) (by kernel_rfl) (by kernel_rfl)) ?_
  intro W base args ds gs before hval0 hW hcnd _
  have hval : ∀ (j : Nat) t v, Try.f6.params[j]? = some t → args[j]? = some v → Value.okWide Try.prog W .any base t v := hval0
  have hW' := hW
  obtain ⟨p, q, hA0, hV, rfl, hfz, hnd⟩ := hW
  have hA : DataW.TrodAll enc Try.prog W 0 (fun _ => true) true Try.f6.params.toList args.toList ds p := hA0
  rw [Try.params6] at hA hval
  obtain ⟨v0, vs0, d0, ds0, p0, q0, hargs, rfl, rfl, h0, r0⟩ := trodAll_cons hA
  obtain ⟨v1, vs1, d1, ds1, p1, q1, rfl, rfl, rfl, h1, r1⟩ := trodAll_cons r0
  obtain ⟨rfl, rfl, rfl⟩ := trodAll_nil r1
  obtain rfl : args = #[v0, v1] := by cases args; simp_all
  obtain ⟨rfl, rfl⟩ := trodVars_none hV
  have kk0 := h0
  have lt0 : ∀ x ∈ p0, x.block < W.heap.size := by obtain ⟨m, hm⟩ := kk0; exact DataW.trod_lt m _ _ _ hm
  obtain ⟨a0, a1, a2, a3, a4, rfl, w_a0_0, w_a0_1, w_a0_2⟩ := open_blk (hval 0 24 v0 rfl rfl) h0 (fun _ => rfl)
  have kk1 := h1
  have lt1 : ∀ x ∈ p1, x.block < W.heap.size := by obtain ⟨m, hm⟩ := kk1; exact DataW.trod_lt m _ _ _ hm
  obtain ⟨a5, a6, a7, a8, a9, rfl, w_a5_0, w_a5_1, w_a5_2⟩ := open_blk (hval 1 24 v1 rfl rfl) h1 (fun _ => rfl)
  clear hA0 hval0
  simp only [List.append_nil] at hW'
  refine (walk a0 a1 a2 a3 a4 a5 a6 a7 a8 a9 W w_a0_0 w_a0_1 w_a0_2 w_a5_0 w_a5_1 w_a5_2).mono fun e W' ⟨he, hg⟩ => ?_
  subst he
  exact ⟨_, rfl, _, _, _, [], _, [], hW', (trodAll_cons_mk (shut_bool Try.underlying4 _) trodAll_mk0), (trodAll_cons_mk (Below.trod (by kernel_rfl) (by kernel_rfl) (of_decide_eq_true (by kernel_rfl)) kk0 hg lt0) (trodAll_cons_mk (Below.trod (by kernel_rfl) (by kernel_rfl) (of_decide_eq_true (by kernel_rfl)) kk1 hg lt1) trodAll_mk0)), rfl, hg.frame _, fun h => by cases h⟩

theorem over : Rows.fnExactEqualBlocksRow.holds Try.pinned (OpenSpec.ofChange Rows.fnExactEqualBlocksSpec) :=
  OpenClaim.holds_of_wide 6 Try.f6 rfl rfl rfl rfl rfl rfl rfl ⟨rfl, rfl, rfl, rfl, rfl⟩ rfl rfl rfl rfl rfl (by kernel_rfl) Try.func6 (by kernel_rfl)
    (of_decide_eq_true (by kernel_rfl)) (by unfold Func.isWrapper; first | (rw [if_pos (by decide +kernel)]; kernel_rfl) | (rw [if_neg (by decide +kernel)]; exact ⟨rfl, rfl⟩))
    (fun os started H enc _ => lifted os started H enc)

/-- ████ THE STATEMENT ████ -/
theorem proved : Rows.FnExactEqualBlocksSaid :=
  over
end Go.Proofs.Ytoabjmdfopabfaa.fnExactEqualBlocks
