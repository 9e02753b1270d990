/-
  Proved: for every two tables, the law FnExactEqualTables returns true (the project's EqualTables answers as its model and leaves its arguments as they were). No condition.
-/
import Derived.Test.YtbaoipbfpjgglaaRows
import Derived.Test.YtbaoipbfpjgglaaPlain
import Derived.Test.YtbaoipbfpjgglaaL1In
import Derived.Test.YtbaoipbfpjgglaaKeep
import Derived.Test.YtbaoipbfpjgglaaRvSpec
import Derived.Test.YtbaoipbfpjgglaaRwLaw
import Derived.Test.YtbaoipbfpjgglaaRwsOwn
import Derived.Test.YtbaoipbfpjgglaaArSpec
import Derived.Test.YtbaoipbfpjgglaaEqRows
import Derived.Test.YtbaoipbfpjgglaaFdSpec
import Derived.Test.YtbaoipbfpjgglaaRwsApp
import Derived.Test.YtbaoipbfpjgglaaBkPlain
import Derived.Test.YtbaoipbfpjgglaaBkLaw
import Derived.Test.YtbaoipbfpjgglaaRep
import Derived.Test.YtbaoipbfpjgglaaRwRep
import Derived.Test.YtbaoipbfpjgglaaInv
import Derived.Test.YtbaoipbfpjgglaaBkOwn
import Derived.Test.YtbaoipbfpjgglaaTbRep
import Derived.Test.YtbaoipbfpjgglaaTbLaw
import Derived.Test.YtbaoipbfpjgglaaTbSz
import Derived.Test.YtbaoipbfpjgglaaTbFind
import Derived.Test.YtbaoipbfpjgglaaEbSpec
import Derived.Test.YtbaoipbfpjgglaaEbImpl
import Derived.Test.YtbaoipbfpjgglaaEtSpec
import Derived.Test.YtbaoipbfpjgglaaEtImpl
import Derived.Test.YtbaoipbfpjgglaaTblArg
import Derived.WalkKit
import Derived.ProofKit
import Derived.OpenShut
import Derived.ShutString
import Derived.ChangeOld
import Derived.Below
import Derived.Carry
namespace Go.Proofs.Ytbaoipbfpjgglaa.fnExactEqualTables
open Go.ChangeShapes Go.WideShapes Go.ChangeAt Go.RowKit
open Go.ChangeMaps (open_string shut_string)
set_option linter.unusedVariables false

theorem own : ownKnob Try.prog.godebug = none := by kernel_rfl

/-! ### The walk -/
set_option maxRecDepth 100000 in
set_option maxHeartbeats 8000000 in
theorem walk (a0 : Int) (a1 : Option Addr) (a2 : Nat) (a3 : Nat) (a4 : Nat → Blk) (a5 : Int) (a6 : Option Addr) (a7 : Nat) (a8 : Nat) (a9 : Nat → Blk) (w : World) (w_a0_0 : (Lit.int .i64 a0).wf = true) (w_a0_1 : BlksArg w a1 a2 a4) (w_a0_2 : a2 ≤ maxLen) (w_a5_0 : (Lit.int .i64 a5).wf = true) (w_a5_1 : BlksArg w a6 a7 a9) (w_a5_2 : a7 ≤ maxLen) :
    Calls Try.prog 7 #[.agg #[.int .i64 a0, .slice a1 a2 a3], .agg #[.int .i64 a5, .slice a6 a7 a8]] w fun e w' => e = .returned (.bool true) ∧ Below w.heap.size w w' := by
  have hm1 := w_a0_2
  have hm2 := w_a5_2
  have HA := Lib.hid w_a0_1
  have HB := Lib.hid w_a5_1
  clear w_a0_2 w_a5_2
  go_enter Try.func7, Try.ntmps7
  go_wp2_with fail
  have K0 := ((Kept.start w).alloc2 (.int .i64 a0) (.slice a1 a2 a3) 24 _ rfl).alloc2 (.int .i64 a5) (.slice a6 a7 a8) 24 (w.heap.size + 1) (by simp)
  refine (law_szTbl 1048576 a0 a1 a2 a3 a4 _ (by decide) (by decide) hm1 (HA.out.below K0.1)).mono ?_
  rintro e w1 ⟨⟨r, rfl, hr⟩, hb⟩
  have K1 := K0.step hb
  clear hb K0
  rcases hr with rfl | ⟨hr0, hr1, hn, hrl⟩
  · go_wp2
    go_ret
    exact ⟨rfl, K1.1⟩
  · have z1 : ¬ r < 0 := by omega
    have z2 : decide (r < 0) = false := decide_eq_false z1
    have HRA := Lib.hid hrl
    have HRBA := Lib.hid (lstB_rows hrl)
    have HRNA := Lib.hid (show ∀ k, k < a2 → (Bn (lstB a2 a4) k).rows.length ≤ 1048576 from fun k hk => by rw [Bn_at (by rw [lstB_len]; exact hk), lstB_at]; exact hrl k hk)
    clear hrl
    have k0 := K1.get 0 rfl
    have k1 := K1.get 1 rfl
    have k2 := K1.get 2 rfl
    have k3 := K1.get 3 rfl
    go_wp2_with fail
    refine (law_szTbl r a5 a6 a7 a8 a9 _ hr0 hr1 hm2 (HB.out.below K1.1)).mono ?_
    rintro e w2 ⟨⟨r2, rfl, hr⟩, hb⟩
    have K2 := K1.step hb
    clear hb K1 k0 k1 k2 k3
    rcases hr with rfl | ⟨hr20, hr21, hn', hrl⟩
    · go_wp2
      go_ret
      exact ⟨rfl, K2.1⟩
    · have z3 : ¬ r2 < 0 := by omega
      have z4 : decide (r2 < 0) = false := decide_eq_false z3
      have HRB := Lib.hid hrl
      have HRBB := Lib.hid (lstB_rows hrl)
      have HRNB := Lib.hid (show ∀ k, k < a7 → (Bn (lstB a7 a9) k).rows.length ≤ 1048576 from fun k hk => by rw [Bn_at (by rw [lstB_len]; exact hk), lstB_at]; exact hrl k hk)
      clear hrl
      go_wp2_with fail
      go_region_held3 (fun w' => w'.cell? ⟨w.heap.size + 1, 0, none⟩ = some (.int .i64 a5) ∧ w'.cell? ⟨w.heap.size + 1, 1, none⟩ = some (.slice a6 a7 a8) ∧ w'.cell? ⟨w.heap.size, 0, none⟩ = some (.int .i64 a0) ∧ w'.cell? ⟨w.heap.size, 1, none⟩ = some (.slice a1 a2 a3) ∧ Below w2.heap.size w2 w') (first | assumption | exact bq_start K2 | exact bq_keep K2 (by assumption) (by assumption)) (first | (go_simp; go_at_call 12; (with_reducible refine (law_toTbl a0 a1 a2 a3 a4 _ hn HRA.out ?_).mono ?_); (exact (HA.out.below K2.1).below (bq_below (by assumption))); rintro e9 w9 ⟨gA, fpA, rfl, hsA, _, _, hbA⟩) | (go_simp; go_at_call 12; (with_reducible refine (law_toTbl a5 a6 a7 a8 a9 _ hn' HRB.out ?_).mono ?_); (exact (HB.out.below K2.1).below (bq_below (by assumption))); rintro e9 w10 ⟨gB, fpB, rfl, hsB, _, _, hbB⟩) | (go_simp; go_at_call 21; (with_reducible refine (spec_et a0 a5 _ _ _ _ _ _ (lstB a2 a4) (lstB a7 a9) _ (lstB_len _ _) (lstB_len _ _) hn hn' HRNA.out HRNB.out ?_ ?_).mono ?_); (exact blks_at (hsA.step hbB)); (exact blks_at hsB); rintro e9 w11 ⟨v, hv, rfl, hb⟩))
      all_goals
        have HV := Lib.hid hv
        have I3 := Inv.of_kept (K2.step (‹_ ∧ _ ∧ _ ∧ _ ∧ Below w2.heap.size w2 w11›).2.2.2.2)
        obtain ⟨w3, hw3⟩ : ∃ w3, w3 = w11 := ⟨_, rfl⟩
        clear hv hb hsA hsB hbA hbB K2
        subst hw3
        have e2 := I3.get 2 rfl
        have e3 := I3.get 3 rfl
        go_wp2_with fail
        refine (law_toTbl a0 a1 a2 a3 a4 _ hn HRA.out (HA.out.below I3.below)).mono ?_
        rintro e w4 ⟨g4, fp4, rfl, hs, hf, _, hb⟩
        have I4 := (I3.own (ownS blkTy (.slice (some ⟨g4, 0, none⟩) a2 a2) (lstB a2 a4) fp4) hb hs hf).alloc2 (.int .i64 a0) (.slice (some ⟨g4, 0, none⟩) a2 a2) 29 w4.heap.size rfl
        clear hs hf hb I3 e2 e3
        have e2 := I4.get 2 rfl
        have e3 := I4.get 3 rfl
        go_wp2_with fail
        refine (law_toTbl a5 a6 a7 a8 a9 _ hn' HRB.out (HB.out.below I4.below)).mono ?_
        rintro e w5 ⟨g5, fp5, rfl, hs, hf, _, hb⟩
        have I5 := (I4.own (ownS blkTy (.slice (some ⟨g5, 0, none⟩) a7 a7) (lstB a7 a9) fp5) hb hs hf).alloc2 (.int .i64 a5) (.slice (some ⟨g5, 0, none⟩) a7 a7) 29 w5.heap.size rfl
        clear hs hf hb I4 e2 e3
        have HV4 := Lib.hid (blks_at (I5.at 1 rfl))
        have HV5 := Lib.hid (blks_at (I5.at 0 rfl))
        have e0 := I5.get 0 rfl
        have e1 := I5.get 1 rfl
        have e2 := I5.get 2 rfl
        have e3 := I5.get 3 rfl
        go_wp2_with fail
        refine (impl_et a0 a5 _ _ _ _ _ _ (lstB a2 a4) (lstB a7 a9) _ (lstB_len _ _) (lstB_len _ _) hn hn' HRNA.out HRNB.out HV4.out HV5.out).mono ?_
        rintro e w6 ⟨v', hv', rfl, hb⟩
        obtain rfl := et_iff HV.out hv'
        have I6 := I5.step hb
        clear hb hv' I5 HV4 HV5 e0 e1 e2 e3
        cases v
        · go_wp2_with fail
          have KQ := (I6.1).sub (l' := [(⟨w4.heap.size, 0, none⟩, .int .i64 a0), (⟨w4.heap.size, 1, none⟩, .slice (some ⟨g4, 0, none⟩) a2 a2), (⟨w.heap.size, 0, none⟩, .int .i64 a0), (⟨w.heap.size, 1, none⟩, .slice a1 a2 a3)]) (by intro p9 hp9; simp only [List.mem_cons, List.not_mem_nil, or_false] at hp9; rcases hp9 with rfl | rfl | rfl | rfl <;> simp)
          have hx6 : SliceRep blkTy w6 (.slice (some ⟨g4, 0, none⟩) a2 a2) (lstB a2 a4) fp4 := I6.at 1 rfl
          go_region_held3 (fun w' => w'.cell? ⟨w4.heap.size, 0, none⟩ = some (.int .i64 a0) ∧ w'.cell? ⟨w4.heap.size, 1, none⟩ = some (.slice (some ⟨g4, 0, none⟩) a2 a2) ∧ w'.cell? ⟨w.heap.size, 0, none⟩ = some (.int .i64 a0) ∧ w'.cell? ⟨w.heap.size, 1, none⟩ = some (.slice a1 a2 a3) ∧ Below w6.heap.size w6 w') (first | assumption | exact bq_start KQ | exact bq_keep KQ (by assumption) (by assumption)) (first | (go_simp; go_at_call 12; (with_reducible refine (law_toTbl a0 a1 a2 a3 a4 _ hn HRA.out ?_).mono ?_); (exact (HA.out.below KQ.1).below (bq_below (by assumption))); rintro e9 w9 ⟨gq, fpq, rfl, hs9, _, _, hb⟩) | (go_simp; go_at_call 14; (with_reducible refine (law_eqTbl _ _ _ _ _ _ (lstB a2 a4) _ (lstB_len _ _) hn HRBA.out ?_ ?_).mono ?_); (exact blks_at (hx6.step (bq_below (by assumption)))); (exact blks_at hs9); rintro e9 w10 ⟨rfl, hb⟩))
          all_goals
            have I7 := I6.step (‹_ ∧ _ ∧ _ ∧ _ ∧ Below w6.heap.size w6 w10›).2.2.2.2
            obtain ⟨w7, hw7⟩ : ∃ w7, w7 = w10 := ⟨_, rfl⟩
            clear hb hs9 KQ I6 hx6
            subst hw7
            go_wp2_with fail
            have KQ := (I7.1).sub (l' := [(⟨w5.heap.size, 0, none⟩, .int .i64 a5), (⟨w5.heap.size, 1, none⟩, .slice (some ⟨g5, 0, none⟩) a7 a7), (⟨w.heap.size + 1, 0, none⟩, .int .i64 a5), (⟨w.heap.size + 1, 1, none⟩, .slice a6 a7 a8)]) (by intro p9 hp9; simp only [List.mem_cons, List.not_mem_nil, or_false] at hp9; rcases hp9 with rfl | rfl | rfl | rfl <;> simp)
            have hx7 : SliceRep blkTy w7 (.slice (some ⟨g5, 0, none⟩) a7 a7) (lstB a7 a9) fp5 := I7.at 0 rfl
            go_region_held3 (fun w' => w'.cell? ⟨w5.heap.size, 0, none⟩ = some (.int .i64 a5) ∧ w'.cell? ⟨w5.heap.size, 1, none⟩ = some (.slice (some ⟨g5, 0, none⟩) a7 a7) ∧ w'.cell? ⟨w.heap.size + 1, 0, none⟩ = some (.int .i64 a5) ∧ w'.cell? ⟨w.heap.size + 1, 1, none⟩ = some (.slice a6 a7 a8) ∧ Below w7.heap.size w7 w') (first | assumption | exact bq_start KQ | exact bq_keep KQ (by assumption) (by assumption)) (first | (go_simp; go_at_call 12; (with_reducible refine (law_toTbl a5 a6 a7 a8 a9 _ hn' HRB.out ?_).mono ?_); (exact (HB.out.below KQ.1).below (bq_below (by assumption))); rintro e9 w9 ⟨gq, fpq, rfl, hs9, _, _, hb⟩) | (go_simp; go_at_call 14; (with_reducible refine (law_eqTbl _ _ _ _ _ _ (lstB a7 a9) _ (lstB_len _ _) hn' HRBB.out ?_ ?_).mono ?_); (exact blks_at (hx7.step (bq_below (by assumption)))); (exact blks_at hs9); rintro e9 w10 ⟨rfl, hb⟩))
            all_goals
              have I8 := I7.step (‹_ ∧ _ ∧ _ ∧ _ ∧ Below w7.heap.size w7 w10›).2.2.2.2
              clear hb hs9 KQ I7 hx7
              go_wp2
              go_ret
              exact ⟨rfl, I8.below⟩
        · go_wp2_with fail
          have KQ := (I6.1).sub (l' := [(⟨w4.heap.size, 0, none⟩, .int .i64 a0), (⟨w4.heap.size, 1, none⟩, .slice (some ⟨g4, 0, none⟩) a2 a2), (⟨w.heap.size, 0, none⟩, .int .i64 a0), (⟨w.heap.size, 1, none⟩, .slice a1 a2 a3)]) (by intro p9 hp9; simp only [List.mem_cons, List.not_mem_nil, or_false] at hp9; rcases hp9 with rfl | rfl | rfl | rfl <;> simp)
          have hx6 : SliceRep blkTy w6 (.slice (some ⟨g4, 0, none⟩) a2 a2) (lstB a2 a4) fp4 := I6.at 1 rfl
          go_region_held3 (fun w' => w'.cell? ⟨w4.heap.size, 0, none⟩ = some (.int .i64 a0) ∧ w'.cell? ⟨w4.heap.size, 1, none⟩ = some (.slice (some ⟨g4, 0, none⟩) a2 a2) ∧ w'.cell? ⟨w.heap.size, 0, none⟩ = some (.int .i64 a0) ∧ w'.cell? ⟨w.heap.size, 1, none⟩ = some (.slice a1 a2 a3) ∧ Below w6.heap.size w6 w') (first | assumption | exact bq_start KQ | exact bq_keep KQ (by assumption) (by assumption)) (first | (go_simp; go_at_call 12; (with_reducible refine (law_toTbl a0 a1 a2 a3 a4 _ hn HRA.out ?_).mono ?_); (exact (HA.out.below KQ.1).below (bq_below (by assumption))); rintro e9 w9 ⟨gq, fpq, rfl, hs9, _, _, hb⟩) | (go_simp; go_at_call 14; (with_reducible refine (law_eqTbl _ _ _ _ _ _ (lstB a2 a4) _ (lstB_len _ _) hn HRBA.out ?_ ?_).mono ?_); (exact blks_at (hx6.step (bq_below (by assumption)))); (exact blks_at hs9); rintro e9 w10 ⟨rfl, hb⟩))
          all_goals
            have I7 := I6.step (‹_ ∧ _ ∧ _ ∧ _ ∧ Below w6.heap.size w6 w10›).2.2.2.2
            obtain ⟨w7, hw7⟩ : ∃ w7, w7 = w10 := ⟨_, rfl⟩
            clear hb hs9 KQ I6 hx6
            subst hw7
            go_wp2_with fail
            have KQ := (I7.1).sub (l' := [(⟨w5.heap.size, 0, none⟩, .int .i64 a5), (⟨w5.heap.size, 1, none⟩, .slice (some ⟨g5, 0, none⟩) a7 a7), (⟨w.heap.size + 1, 0, none⟩, .int .i64 a5), (⟨w.heap.size + 1, 1, none⟩, .slice a6 a7 a8)]) (by intro p9 hp9; simp only [List.mem_cons, List.not_mem_nil, or_false] at hp9; rcases hp9 with rfl | rfl | rfl | rfl <;> simp)
            have hx7 : SliceRep blkTy w7 (.slice (some ⟨g5, 0, none⟩) a7 a7) (lstB a7 a9) fp5 := I7.at 0 rfl
            go_region_held3 (fun w' => w'.cell? ⟨w5.heap.size, 0, none⟩ = some (.int .i64 a5) ∧ w'.cell? ⟨w5.heap.size, 1, none⟩ = some (.slice (some ⟨g5, 0, none⟩) a7 a7) ∧ w'.cell? ⟨w.heap.size + 1, 0, none⟩ = some (.int .i64 a5) ∧ w'.cell? ⟨w.heap.size + 1, 1, none⟩ = some (.slice a6 a7 a8) ∧ Below w7.heap.size w7 w') (first | assumption | exact bq_start KQ | exact bq_keep KQ (by assumption) (by assumption)) (first | (go_simp; go_at_call 12; (with_reducible refine (law_toTbl a5 a6 a7 a8 a9 _ hn' HRB.out ?_).mono ?_); (exact (HB.out.below KQ.1).below (bq_below (by assumption))); rintro e9 w9 ⟨gq, fpq, rfl, hs9, _, _, hb⟩) | (go_simp; go_at_call 14; (with_reducible refine (law_eqTbl _ _ _ _ _ _ (lstB a7 a9) _ (lstB_len _ _) hn' HRBB.out ?_ ?_).mono ?_); (exact blks_at (hx7.step (bq_below (by assumption)))); (exact blks_at hs9); rintro e9 w10 ⟨rfl, hb⟩))
            all_goals
              have I8 := I7.step (‹_ ∧ _ ∧ _ ∧ _ ∧ Below w7.heap.size w7 w10›).2.2.2.2
              clear hb hs9 KQ I7 hx7
              go_wp2
              go_ret
              exact ⟨rfl, I8.below⟩

/-! ### THE ROW's STEP -/
set_option maxRecDepth 100000 in
theorem lifted (os : Os) (started : os.Started) (H : Type) (enc : TypeId × Value → H) :
    ReturnsInHanded {} Try.checked os 7 .any (Rows.fnExactEqualTablesSpec.pre6 enc Try.prog Try.f7 Rows.fnExactEqualTablesRow.domain false) (Rows.fnExactEqualTablesSpec.post enc Try.prog Try.f7 false true false false) := by
  refine returnsInHanded_of_change (C := Try.checked) own started (by kernel_rfl) Try.func7
    (ChangeSpec.witness6 (enc := enc) (C := Try.checked) false ⟨#[], #[.agg #[.int .i64 0, .slice none 0 0], .agg #[.int .i64 0, .slice none 0 0]], []⟩ 8 (by kernel_rfl) (by kernel_rfl) (by kernel_rfl) (by kernel_rfl)) ?_
  intro W base args ds gs before hval0 hW hcnd _
  have hval : ∀ (j : Nat) t v, Try.f7.params[j]? = some t → args[j]? = some v → Value.okWide Try.prog W .any base t v := hval0
  have hW' := hW
  obtain ⟨p, q, hA0, hV, rfl, hfz, hnd⟩ := hW
  have hA : DataW.TrodAll enc Try.prog W 0 (fun _ => true) true Try.f7.params.toList args.toList ds p := hA0
  rw [Try.params7] at hA hval
  obtain ⟨v0, vs0, d0, ds0, p0, q0, hargs, rfl, rfl, h0, r0⟩ := trodAll_cons hA
  obtain ⟨v1, vs1, d1, ds1, p1, q1, rfl, rfl, rfl, h1, r1⟩ := trodAll_cons r0
  obtain ⟨rfl, rfl, rfl⟩ := trodAll_nil r1
  obtain rfl : args = #[v0, v1] := by cases args; simp_all
  obtain ⟨rfl, rfl⟩ := trodVars_none hV
  have kk0 := h0
  have lt0 : ∀ x ∈ p0, x.block < W.heap.size := by obtain ⟨m, hm⟩ := kk0; exact DataW.trod_lt m _ _ _ hm
  obtain ⟨a0, a1, a2, a3, a4, rfl, w_a0_0, w_a0_1, w_a0_2⟩ := open_tbl (hval 0 24 v0 rfl rfl) h0 (fun _ => rfl)
  have kk1 := h1
  have lt1 : ∀ x ∈ p1, x.block < W.heap.size := by obtain ⟨m, hm⟩ := kk1; exact DataW.trod_lt m _ _ _ hm
  obtain ⟨a5, a6, a7, a8, a9, rfl, w_a5_0, w_a5_1, w_a5_2⟩ := open_tbl (hval 1 24 v1 rfl rfl) h1 (fun _ => rfl)
  clear hA0 hval0
  simp only [List.append_nil] at hW'
  refine (walk a0 a1 a2 a3 a4 a5 a6 a7 a8 a9 W w_a0_0 w_a0_1 w_a0_2 w_a5_0 w_a5_1 w_a5_2).mono fun e W' ⟨he, hg⟩ => ?_
  subst he
  exact ⟨_, rfl, _, _, _, [], _, [], hW', (trodAll_cons_mk (shut_bool Try.underlying4 _) trodAll_mk0), (trodAll_cons_mk (Below.trod (by kernel_rfl) (by kernel_rfl) (of_decide_eq_true (by kernel_rfl)) kk0 hg lt0) (trodAll_cons_mk (Below.trod (by kernel_rfl) (by kernel_rfl) (of_decide_eq_true (by kernel_rfl)) kk1 hg lt1) trodAll_mk0)), rfl, hg.frame _, fun h => by cases h⟩

theorem over : Rows.fnExactEqualTablesRow.holds Try.pinned (OpenSpec.ofChange Rows.fnExactEqualTablesSpec) :=
  OpenClaim.holds_of_wide 7 Try.f7 rfl rfl rfl rfl rfl rfl rfl ⟨rfl, rfl, rfl, rfl, rfl⟩ rfl rfl rfl rfl rfl (by kernel_rfl) Try.func7 (by kernel_rfl)
    (of_decide_eq_true (by kernel_rfl)) (by unfold Func.isWrapper; first | (rw [if_pos (by decide +kernel)]; kernel_rfl) | (rw [if_neg (by decide +kernel)]; exact ⟨rfl, rfl⟩))
    (fun os started H enc _ => lifted os started H enc)

/-- ████ THE STATEMENT ████ -/
theorem proved : Rows.FnExactEqualTablesSaid :=
  over
end Go.Proofs.Ytbaoipbfpjgglaa.fnExactEqualTables
