/-
  Proved: for every block, the law FnExactSummarize returns true (the project's Summarize answers as its model, leaves its argument as it was, and hands back memory of its own). No condition.
-/
import Derived.Test.YtcfcohnkkgickaaRows
import Derived.Test.YtcfcohnkkgickaaMk
import Derived.Test.YtcfcohnkkgickaaPlain
import Derived.Test.YtcfcohnkkgickaaL1In
import Derived.Test.YtcfcohnkkgickaaKeep
import Derived.Test.YtcfcohnkkgickaaInv
import Derived.Test.YtcfcohnkkgickaaIntOwn
import Derived.Test.YtcfcohnkkgickaaIntLaw
import Derived.Test.YtcfcohnkkgickaaIntArg
import Derived.Test.YtcfcohnkkgickaaSmPlain
import Derived.Test.YtcfcohnkkgickaaSmLaw
import Derived.Test.YtcfcohnkkgickaaHgVal
import Derived.Test.YtcfcohnkkgickaaLimbs
import Derived.Test.YtcfcohnkkgickaaBkOwn
import Derived.Test.YtcfcohnkkgickaaBkMk1
import Derived.Test.YtcfcohnkkgickaaSmSumI
import Derived.Test.YtcfcohnkkgickaaSmSumS
import Derived.Test.YtcfcohnkkgickaaBlkArg
import Derived.WalkKit
import Derived.ProofKit
import Derived.OpenShut
import Derived.ShutString
import Derived.ChangeOld
import Derived.Below
import Derived.Carry
namespace Go.Proofs.Ytcfcohnkkgickaa.fnExactSummarize
open Go.ChangeShapes Go.WideShapes Go.ChangeAt Go.RowKit
open Go.ChangeMaps (open_string shut_string)
set_option linter.unusedVariables false

theorem own : ownKnob Try.prog.godebug = none := by kernel_rfl

/-! ### The walk -/
set_option maxRecDepth 100000 in
set_option maxHeartbeats 8000000 in
theorem walk (a0 : Int) (a1 : Option Addr) (a2 : Nat) (a3 : Nat) (a4 : Nat → Rw) (w : World) (w_a0_0 : (Lit.int .i64 a0).wf = true) (w_a0_1 : RowsArg w a1 a2 a4) (w_a0_2 : a2 ≤ maxLen) :
    Calls Try.prog 6 #[.agg #[.int .i64 a0, .slice a1 a2 a3]] w fun e w' => e = .returned (.bool true) ∧ Below w.heap.size w w' := by
  have hmax : a2 ≤ 9223372036854775807 := Nat.le_trans w_a0_2 (by unfold maxLen; omega)
  by_cases hbig : 1048576 < a2
  · go_enter Try.func6, Try.ntmps6
    go_wp2_with fail
    have K0 := (Kept.start w).alloc2 (.int .i64 a0) (.slice a1 a2 a3) 74 _ rfl
    refine (law_szb_big a0 a1 a2 a3 _ hbig hmax).mono ?_
    rintro e w1 ⟨rfl, hb⟩
    have K1 := K0.step hb
    clear hb K0
    go_wp2
    go_ret
    exact ⟨rfl, K1.1⟩
  · have hn : a2 ≤ 1048576 := by omega
    have hnI : (a2 : Int) ≤ 1048576 := by omega
    have hz : ¬ (1048576 - (a2 : Int)) < 0 := by omega
    have hzd : decide ((1048576 - (a2 : Int)) < 0) = false := decide_eq_false hz
    have HA := Lib.hid w_a0_1
    obtain ⟨⟨vb, vc, vu, vm, vx, vs, VH⟩, hV⟩ : ∃ z : Sm, z = sumB a0 (lst a2 a4) := ⟨_, rfl⟩
    have h12 : VH.length ≤ 12 := by
      have h := sumB_len a0 (lst a2 a4)
      rw [← hV] at h
      exact Nat.le_of_eq h
    have SP : Hid (∀ (g : Nat) (w : World) (fp : List Nat), SliceRep rowTy w (.slice (some ⟨g, 0, none⟩) a2 a2) (lst a2 a4) fp → Calls Try.prog 49 #[.agg #[.int .i64 a0, .slice (some ⟨g, 0, none⟩) a2 a2]] w (SmOut vb vc vu vm vx vs VH w)) := (fun g w fp hs => by
      have h := spec_sumV a0 (some ⟨g, 0, none⟩) a2 a2 (lst a2 a4) w (lst_len _ _) hn (rows_val hs)
      rw [← hV] at h
      exact h : ∀ (g : Nat) (w : World) (fp : List Nat), SliceRep rowTy w (.slice (some ⟨g, 0, none⟩) a2 a2) (lst a2 a4) fp → Calls Try.prog 49 #[.agg #[.int .i64 a0, .slice (some ⟨g, 0, none⟩) a2 a2]] w (SmOut vb vc vu vm vx vs VH w))
    have IM : Hid (∀ (g : Nat) (w : World) (fp : List Nat), SliceRep rowTy w (.slice (some ⟨g, 0, none⟩) a2 a2) (lst a2 a4) fp → Calls Try.prog 51 #[.agg #[.int .i64 a0, .slice (some ⟨g, 0, none⟩) a2 a2]] w (SmOut vb vc vu vm vx vs VH w)) := (fun g w fp hs => by
      have h := impl_sumV a0 (some ⟨g, 0, none⟩) a2 a2 (lst a2 a4) w (lst_len _ _) hn (rows_val hs)
      rw [← hV] at h
      exact h : ∀ (g : Nat) (w : World) (fp : List Nat), SliceRep rowTy w (.slice (some ⟨g, 0, none⟩) a2 a2) (lst a2 a4) fp → Calls Try.prog 51 #[.agg #[.int .i64 a0, .slice (some ⟨g, 0, none⟩) a2 a2]] w (SmOut vb vc vu vm vx vs VH w))
    clear hV hbig hmax w_a0_2
    go_enter Try.func6, Try.ntmps6
    go_wp2_with fail
    have K0 := (Kept.start w).alloc2 (.int .i64 a0) (.slice a1 a2 a3) 74 _ rfl
    refine (law_szb a0 a1 a2 a3 _ hn).mono ?_
    rintro e wz ⟨rfl, hb⟩
    have K1 := K0.step hb
    clear hb K0
    have I0 := Inv.of_kept (K1)
    clear K1
    have y0 := I0.get 0 rfl
    have y1 := I0.get 1 rfl
    go_wp2_with fail
    refine (law_toBlkO a0 a1 a2 a3 a4 _ hn (HA.out.below I0.below)).mono ?_
    rintro e w2 ⟨g2, rfl, hs, hg9, hb⟩
    have hf : ∀ k ∈ [g2], wz.heap.size ≤ k := fun k hk => by rw [List.mem_singleton.1 hk]; exact hg9
    have I1 := I0.own (ownS rowTy (.slice (some ⟨g2, 0, none⟩) a2 a2) (lst a2 a4) [g2]) hb hs hf
    clear hs hf hb hg9 y0 y1 I0
    go_wp2_with fail
    refine (SP.out _ _ _ (I1.at 0 rfl)).mono ?_
    rintro e w3 ⟨v9, fp3, rfl, hs, hnd3, hf, hb⟩
    obtain ⟨ao3, c3, rfl, _, _⟩ := ints_open hs
    have I2 := (I1.own (ownS intTy (.slice ao3 VH.length c3) VH fp3) hb hs hf).alloc7 (.int .i64 vb) (.int .i64 vc) (.int .i64 vu) (.int .i64 vm) (.int .i64 vx) (.int .i64 vs) (.slice ao3 VH.length c3) 77 w3.heap.size rfl
    clear hs hf hb I1
    have y0 := I2.get 7 rfl
    have y1 := I2.get 8 rfl
    go_wp2_with fail
    refine (law_toBlkO a0 a1 a2 a3 a4 _ hn (HA.out.below I2.below)).mono ?_
    rintro e w4 ⟨g4, rfl, hs, hg9, hb⟩
    have hf : ∀ k ∈ [g4], (w3.alloc (.cells #[.int .i64 vb, .int .i64 vc, .int .i64 vu, .int .i64 vm, .int .i64 vx, .int .i64 vs, .slice ao3 VH.length c3] 77)).heap.size ≤ k := fun k hk => by rw [List.mem_singleton.1 hk]; exact hg9
    have I3 := (I2.own (ownS rowTy (.slice (some ⟨g4, 0, none⟩) a2 a2) (lst a2 a4) [g4]) hb hs hf).alloc2 (.int .i64 a0) (.slice (some ⟨g4, 0, none⟩) a2 a2) 80 w4.heap.size rfl
    clear hs hf hb hg9 y0 y1 I2
    have y0 := I3.get 0 rfl
    have y1 := I3.get 1 rfl
    go_wp2_with fail
    refine (IM.out _ _ _ (I3.at 0 rfl)).mono ?_
    rintro e w5 ⟨v9, fp5, rfl, hs, hnd5, hf, hb⟩
    obtain ⟨ao5, c5, rfl, _, _⟩ := ints_open hs
    have I4 := (I3.own (ownS intTy (.slice ao5 VH.length c5) VH fp5) hb hs hf).alloc7 (.int .i64 vb) (.int .i64 vc) (.int .i64 vu) (.int .i64 vm) (.int .i64 vx) (.int .i64 vs) (.slice ao5 VH.length c5) 77 w5.heap.size rfl
    clear hs hf hb y0 y1 I3
    have y0 := I4.get 0 rfl
    have y1 := I4.get 1 rfl
    have y2 := I4.get 2 rfl
    have y3 := I4.get 3 rfl
    have y4 := I4.get 4 rfl
    have y5 := I4.get 5 rfl
    have y6 := I4.get 6 rfl
    have y7 := I4.get 9 rfl
    have y8 := I4.get 10 rfl
    have y9 := I4.get 11 rfl
    have y10 := I4.get 12 rfl
    have y11 := I4.get 13 rfl
    have y12 := I4.get 14 rfl
    have y13 := I4.get 15 rfl
    go_wp2_with fail
    refine (law_eqSE vb vc vu vm vx vs VH _ _ _ _ _ _ _ _ _ (by omega) (I4.at 0 rfl) (I4.at 2 rfl)).mono ?_
    rintro e w6 ⟨rfl, hb⟩
    have I5 := I4.step hb
    clear hb y0 y1 y2 y3 y4 y5 y6 y7 y8 y9 y10 y11 y12 y13 I4
    have hx : SliceRep rowTy w6 (.slice (some ⟨g4, 0, none⟩) a2 a2) (lst a2 a4) [g4] := I5.at 1 rfl
    have IQ := I5
    have KQ := I5.1.sub (l' := [(⟨w4.heap.size, 0, none⟩, .int .i64 a0), (⟨w4.heap.size, 1, none⟩, .slice (some ⟨g4, 0, none⟩) a2 a2), (⟨w.heap.size, 0, none⟩, .int .i64 a0), (⟨w.heap.size, 1, none⟩, .slice a1 a2 a3)]) (by intro p9 hp9; simp only [List.mem_cons, List.not_mem_nil, or_false] at hp9; rcases hp9 with rfl | rfl | rfl | rfl <;> simp)
    go_wp2_with fail
    go_region_held3 (fun w' => w'.cell? ⟨w4.heap.size, 0, none⟩ = some (.int .i64 a0) ∧ w'.cell? ⟨w4.heap.size, 1, none⟩ = some (.slice (some ⟨g4, 0, none⟩) a2 a2) ∧ w'.cell? ⟨w.heap.size, 0, none⟩ = some (.int .i64 a0) ∧ w'.cell? ⟨w.heap.size, 1, none⟩ = some (.slice a1 a2 a3) ∧ Below w6.heap.size w6 w') (first | assumption | exact kn4_at KQ (Below.refl _ _).drew | exact kn4_keep KQ (by assumption) (by assumption)) (first | (go_simp; go_at_call 50; (with_reducible refine (law_toBlkO a0 a1 a2 a3 a4 _ hn ?_).mono ?_); (exact (HA.out.below KQ.1).below (kn4_b (by assumption))); rintro e9 w10 ⟨g9, rfl, hs9, _, hb9⟩) | (go_simp; go_at_call 53; (with_reducible refine (law_eqBkO a0 _ _ _ _ _ _ (lst a2 a4) [g4] [g9] _ ?_ ?_ ?_).mono ?_); (rw [lst_len]; exact hn); (exact hx.step (kn4_b (by assumption))); (exact hs9); rintro e9 w11 ⟨rfl, hb⟩))
    all_goals
      have IX := IQ.step (kn4_b (‹_ ∧ _ ∧ _ ∧ _ ∧ Below w6.heap.size w6 w11›))
      obtain ⟨w7, hw9⟩ : ∃ w9, w9 = w11 := ⟨_, rfl⟩
      clear hb hs9 hb9 KQ IQ I5 hx
      subst hw9
      have I6 := IX
      clear IX
      have y0 := I6.get 7 rfl
      have y1 := I6.get 8 rfl
      go_wp2_with fail
      refine (law_markBkO a0 _ (lst a2 a4) [g4] 1 _ (by rw [lst_len]; omega) (by decide) (by decide) (I6.at 1 rfl)).mono ?_
      rintro e w8 ⟨rfl, hc, hs⟩
      have I7 := Inv.chg (S1 := [ownS intTy (.slice ao5 VH.length c5) VH fp5]) (S2 := [ownS intTy (.slice ao3 VH.length c3) VH fp3, ownS rowTy (.slice (some ⟨g2, 0, none⟩) a2 a2) (lst a2 a4) [g2]]) (s := ownS rowTy (.slice (some ⟨g4, 0, none⟩) a2 a2) (lst a2 a4) [g4]) I6 (ownS rowTy (.slice (some ⟨g4, 0, none⟩) a2 a2) (marks 1 (lst a2 a4).length) [g4]) rfl hc hs
      clear hc hs y0 y1 I6
      obtain ⟨kk, hkk⟩ : ∃ kk, kk = 1 + 5 * ((lst a2 a4).length : Int) := ⟨_, rfl⟩
      rw [← hkk]
      have kk0 : ¬ kk < 0 := by omega
      have kkd : decide (kk < 0) = false := decide_eq_false kk0
      clear hkk
      have y0 := I7.get 0 rfl
      have y1 := I7.get 1 rfl
      have y2 := I7.get 2 rfl
      have y3 := I7.get 3 rfl
      have y4 := I7.get 4 rfl
      have y5 := I7.get 5 rfl
      have y6 := I7.get 6 rfl
      have y7 := I7.get 9 rfl
      have y8 := I7.get 10 rfl
      have y9 := I7.get 11 rfl
      have y10 := I7.get 12 rfl
      have y11 := I7.get 13 rfl
      have y12 := I7.get 14 rfl
      have y13 := I7.get 15 rfl
      go_wp2_with fail
      refine (law_eqSE vb vc vu vm vx vs VH _ _ _ _ _ _ _ _ _ (by omega) (I7.at 0 rfl) (I7.at 2 rfl)).mono ?_
      rintro e w9 ⟨rfl, hb⟩
      have I8 := I7.step hb
      clear hb y0 y1 y2 y3 y4 y5 y6 y7 y8 y9 y10 y11 y12 y13 I7
      have y0 := I8.get 0 rfl
      have y1 := I8.get 1 rfl
      have y2 := I8.get 2 rfl
      have y3 := I8.get 3 rfl
      have y4 := I8.get 4 rfl
      have y5 := I8.get 5 rfl
      have y6 := I8.get 6 rfl
      go_wp2_with fail
      refine (law_markSE vb vc vu vm vx vs VH _ _ 1 _ (by omega) (by decide) (by decide) (I8.at 0 rfl)).mono ?_
      rintro e w10 ⟨rfl, hc, hs⟩
      have I9 := Inv.chg (S1 := []) (S2 := [ownS rowTy (.slice (some ⟨g4, 0, none⟩) a2 a2) (marks 1 (lst a2 a4).length) [g4], ownS intTy (.slice ao3 VH.length c3) VH fp3, ownS rowTy (.slice (some ⟨g2, 0, none⟩) a2 a2) (lst a2 a4) [g2]]) (s := ownS intTy (.slice ao5 VH.length c5) VH fp5) I8 (ownS intTy (.slice ao5 VH.length c5) (markI 1 VH.length) fp5) rfl hc hs
      clear hc hs y0 y1 y2 y3 y4 y5 y6 I8
      obtain ⟨mm, hmm⟩ : ∃ q, q = 1 + (VH.length : Int) := ⟨_, rfl⟩
      rw [← hmm]
      have mm0 : ¬ mm < 0 := by omega
      have mmd : decide (mm < 0) = false := decide_eq_false (by omega)
      have Hmm := Lib.hid hmm
      clear hmm
      have mmq : (mm != mm) = false := bne_self_eq_false _
      have y0 := I9.get 0 rfl
      have y1 := I9.get 1 rfl
      have y2 := I9.get 2 rfl
      have y3 := I9.get 3 rfl
      have y4 := I9.get 4 rfl
      have y5 := I9.get 5 rfl
      have y6 := I9.get 6 rfl
      go_wp2_with fail
      refine (law_heldS vb vc vu vm vx vs _ VH.length fp5 1 _ (by omega) (by decide) (by decide) (I9.at 0 rfl)).mono ?_
      rintro e w11 ⟨rfl, hb⟩
      rw [← Hmm.out]
      have I10 := I9.step hb
      clear hb y0 y1 y2 y3 y4 y5 y6 I9
      have y0 := I10.get 16 rfl
      have y1 := I10.get 17 rfl
      go_wp2_with fail
      refine (law_toBlkO a0 a1 a2 a3 a4 _ hn (HA.out.below I10.below)).mono ?_
      rintro e w12 ⟨g12, rfl, hs, hg9, hb⟩
      have hf : ∀ k ∈ [g12], w11.heap.size ≤ k := fun k hk => by rw [List.mem_singleton.1 hk]; exact hg9
      have I11 := I10.own (ownS rowTy (.slice (some ⟨g12, 0, none⟩) a2 a2) (lst a2 a4) [g12]) hb hs hf
      clear hs hf hb hg9 y0 y1 I10
      go_wp2_with fail
      refine (IM.out _ _ _ (I11.at 0 rfl)).mono ?_
      rintro e w13 ⟨v9, fp13, rfl, hs, hnd13, hf, hb⟩
      obtain ⟨ao13, c13, rfl, _, _⟩ := ints_open hs
      have I12 := (I11.own (ownS intTy (.slice ao13 VH.length c13) VH fp13) hb hs hf).alloc7 (.int .i64 vb) (.int .i64 vc) (.int .i64 vu) (.int .i64 vm) (.int .i64 vx) (.int .i64 vs) (.slice ao13 VH.length c13) 77 w13.heap.size rfl
      clear hs hf hb I11
      have y0 := I12.get 0 rfl
      have y1 := I12.get 1 rfl
      have y2 := I12.get 2 rfl
      have y3 := I12.get 3 rfl
      have y4 := I12.get 4 rfl
      have y5 := I12.get 5 rfl
      have y6 := I12.get 6 rfl
      have y7 := I12.get 16 rfl
      have y8 := I12.get 17 rfl
      have y9 := I12.get 18 rfl
      have y10 := I12.get 19 rfl
      have y11 := I12.get 20 rfl
      have y12 := I12.get 21 rfl
      have y13 := I12.get 22 rfl
      go_wp2_with fail
      refine (law_eqSE vb vc vu vm vx vs VH _ _ _ _ _ _ _ _ _ (by omega) (I12.at 0 rfl) (I12.at 4 rfl)).mono ?_
      rintro e w14 ⟨rfl, hb⟩
      have I13 := I12.step hb
      clear hb y0 y1 y2 y3 y4 y5 y6 y7 y8 y9 y10 y11 y12 y13 I12
      have y0 := I13.get 7 rfl
      have y1 := I13.get 8 rfl
      have y2 := I13.get 9 rfl
      have y3 := I13.get 10 rfl
      have y4 := I13.get 11 rfl
      have y5 := I13.get 12 rfl
      have y6 := I13.get 13 rfl
      go_wp2_with fail
      refine (law_heldS vb vc vu vm vx vs _ VH.length fp5 1 _ (by omega) (by decide) (by decide) (I13.at 2 rfl)).mono ?_
      rintro e w15 ⟨rfl, hb⟩
      rw [← Hmm.out]
      have I14 := I13.step hb
      clear hb y0 y1 y2 y3 y4 y5 y6 I13
      go_wp2
      go_ret
      exact ⟨rfl, I14.below⟩

/-! ### THE ROW's STEP -/
set_option maxRecDepth 100000 in
theorem lifted (os : Os) (started : os.Started) (H : Type) (enc : TypeId × Value → H) :
    ReturnsInHanded {} Try.checked os 6 .any (Rows.fnExactSummarizeSpec.pre6 enc Try.prog Try.f6 Rows.fnExactSummarizeRow.domain false) (Rows.fnExactSummarizeSpec.post enc Try.prog Try.f6 false true false false) := by
  refine returnsInHanded_of_change (C := Try.checked) own started (by kernel_rfl) Try.func6
    (ChangeSpec.witness6 (enc := enc) (C := Try.checked) false ⟨#[], #[.agg #[.int .i64 0, .slice none 0 0]], []⟩ 8 (by kernel_rfl) (by kernel_rfl) (by kernel_rfl) (by kernel_rfl)) ?_
  intro W base args ds gs before hval0 hW hcnd _
  have hval : ∀ (j : Nat) t v, Try.f6.params[j]? = some t → args[j]? = some v → Value.okWide Try.prog W .any base t v := hval0
  have hW' := hW
  obtain ⟨p, q, hA0, hV, rfl, hfz, hnd⟩ := hW
  have hA : DataW.TrodAll enc Try.prog W 0 (fun _ => true) true Try.f6.params.toList args.toList ds p := hA0
  rw [Try.params6] at hA hval
  obtain ⟨v0, vs0, d0, ds0, p0, q0, hargs, rfl, rfl, h0, r0⟩ := trodAll_cons hA
  obtain ⟨rfl, rfl, rfl⟩ := trodAll_nil r0
  obtain rfl : args = #[v0] := by cases args; simp_all
  obtain ⟨rfl, rfl⟩ := trodVars_none hV
  have kk0 := h0
  have lt0 : ∀ x ∈ p0, x.block < W.heap.size := by obtain ⟨m, hm⟩ := kk0; exact DataW.trod_lt m _ _ _ hm
  obtain ⟨a0, a1, a2, a3, a4, rfl, w_a0_0, w_a0_1, w_a0_2⟩ := open_blk (hval 0 74 v0 rfl rfl) h0 (fun _ => rfl)
  clear hA0 hval0
  simp only [List.append_nil] at hW'
  refine (walk a0 a1 a2 a3 a4 W w_a0_0 w_a0_1 w_a0_2).mono fun e W' ⟨he, hg⟩ => ?_
  subst he
  exact ⟨_, rfl, _, _, _, [], _, [], hW', (trodAll_cons_mk (shut_bool Try.underlying4 _) trodAll_mk0), (trodAll_cons_mk (Below.trod (by kernel_rfl) (by kernel_rfl) (of_decide_eq_true (by kernel_rfl)) kk0 hg lt0) trodAll_mk0), rfl, hg.frame _, fun h => by cases h⟩

theorem over : Rows.fnExactSummarizeRow.holds Try.pinned (OpenSpec.ofChange Rows.fnExactSummarizeSpec) :=
  OpenClaim.holds_of_wide 6 Try.f6 rfl rfl rfl rfl rfl rfl rfl ⟨rfl, rfl, rfl, rfl, rfl⟩ rfl rfl rfl rfl rfl (by kernel_rfl) Try.func6 (MkF.closed_of (by kernel_rfl) (by kernel_rfl) (by kernel_rfl) (by kernel_rfl) (by kernel_rfl) (by kernel_rfl) (by kernel_rfl) (by kernel_rfl) (by kernel_rfl) (by kernel_rfl) (by kernel_rfl) (by kernel_rfl) (by kernel_rfl) (by kernel_rfl) (by kernel_rfl) (by kernel_rfl) (by kernel_rfl) (by kernel_rfl) (by kernel_rfl) (by kernel_rfl) (by kernel_rfl) (by kernel_rfl) (by kernel_rfl) (by kernel_rfl) (by kernel_rfl) MkF.mk_enter (MkF.lifts_eq MkF.mk_lifts rfl) (MkF.make_eq MkF.mk_make rfl) (by kernel_rfl) (by kernel_rfl) (by kernel_rfl) (by kernel_rfl))
    (of_decide_eq_true (by kernel_rfl)) (by unfold Func.isWrapper; first | (rw [if_pos (by decide +kernel)]; kernel_rfl) | (rw [if_neg (by decide +kernel)]; exact ⟨rfl, rfl⟩))
    (fun os started H enc _ => lifted os started H enc)

/-- ████ THE STATEMENT ████ -/
theorem proved : Rows.FnExactSummarizeSaid :=
  over
end Go.Proofs.Ytcfcohnkkgickaa.fnExactSummarize
