/-
  Proved: for every two summaries, the law FnExactEqualSummaries returns true (the project's EqualSummaries answers as its model and leaves its arguments as they were). No condition.
-/
import Derived.Test.YtcfcohnkkgickaaRows
import Derived.Test.YtcfcohnkkgickaaMk
import Derived.Test.YtcfcohnkkgickaaPlain
import Derived.Test.YtcfcohnkkgickaaL1In
import Derived.Test.YtcfcohnkkgickaaKeep
import Derived.Test.YtcfcohnkkgickaaInv
import Derived.Test.YtcfcohnkkgickaaIntOwn
import Derived.Test.YtcfcohnkkgickaaIntLaw
import Derived.Test.YtcfcohnkkgickaaIntArg
import Derived.Test.YtcfcohnkkgickaaSmPlain
import Derived.Test.YtcfcohnkkgickaaSmLaw
import Derived.Test.YtcfcohnkkgickaaHgVal
import Derived.Test.YtcfcohnkkgickaaLimbs
import Derived.Test.YtcfcohnkkgickaaSmArg
import Derived.Test.YtcfcohnkkgickaaSmEq
import Derived.Test.YtcfcohnkkgickaaSmArg
import Derived.WalkKit
import Derived.ProofKit
import Derived.OpenShut
import Derived.ShutString
import Derived.ChangeOld
import Derived.Below
import Derived.Carry
namespace Go.Proofs.Ytcfcohnkkgickaa.fnExactEqualSummaries
open Go.ChangeShapes Go.WideShapes Go.ChangeAt Go.RowKit
open Go.ChangeMaps (open_string shut_string)
set_option linter.unusedVariables false

theorem own : ownKnob Try.prog.godebug = none := by kernel_rfl

/-! ### The walk -/
set_option maxRecDepth 100000 in
set_option maxHeartbeats 8000000 in
theorem walk (a0 : Int) (a1 : Int) (a2 : Int) (a3 : Int) (a4 : Int) (a5 : Int) (a6 : Option Addr) (a7 : Nat) (a8 : Nat) (a9 : Nat → Int) (a10 : Int) (a11 : Int) (a12 : Int) (a13 : Int) (a14 : Int) (a15 : Int) (a16 : Option Addr) (a17 : Nat) (a18 : Nat) (a19 : Nat → Int) (w : World) (w_a0_0 : (Lit.int .i64 a0).wf = true) (w_a0_1 : (Lit.int .i64 a1).wf = true) (w_a0_2 : (Lit.int .i64 a2).wf = true) (w_a0_3 : (Lit.int .i64 a3).wf = true) (w_a0_4 : (Lit.int .i64 a4).wf = true) (w_a0_5 : (Lit.int .i64 a5).wf = true) (w_a0_6 : IntsArg w a6 a7 a9) (w_a0_7 : a7 ≤ maxLen) (w_a10_0 : (Lit.int .i64 a10).wf = true) (w_a10_1 : (Lit.int .i64 a11).wf = true) (w_a10_2 : (Lit.int .i64 a12).wf = true) (w_a10_3 : (Lit.int .i64 a13).wf = true) (w_a10_4 : (Lit.int .i64 a14).wf = true) (w_a10_5 : (Lit.int .i64 a15).wf = true) (w_a10_6 : IntsArg w a16 a17 a19) (w_a10_7 : a17 ≤ maxLen) :
    Calls Try.prog 12 #[.agg #[.int .i64 a0, .int .i64 a1, .int .i64 a2, .int .i64 a3, .int .i64 a4, .int .i64 a5, .slice a6 a7 a8], .agg #[.int .i64 a10, .int .i64 a11, .int .i64 a12, .int .i64 a13, .int .i64 a14, .int .i64 a15, .slice a16 a17 a18]] w fun e w' => e = .returned (.bool true) ∧ Below w.heap.size w w' := by
  have HA0 := Lib.hid w_a0_6
  have hm0 : a7 ≤ 9223372036854775807 := Nat.le_trans w_a0_7 (by unfold maxLen; omega)
  clear w_a0_6 w_a0_7
  have HA10 := Lib.hid w_a10_6
  have hm10 : a17 ≤ 9223372036854775807 := Nat.le_trans w_a10_7 (by unfold maxLen; omega)
  clear w_a10_6 w_a10_7
  go_enter Try.func12, Try.ntmps12
  go_wp2_with fail
  have K0 := (((Kept.start w).alloc7 (.int .i64 a0) (.int .i64 a1) (.int .i64 a2) (.int .i64 a3) (.int .i64 a4) (.int .i64 a5) (.slice a6 a7 a8) 87 (w.heap.size) rfl).alloc7 (.int .i64 a10) (.int .i64 a11) (.int .i64 a12) (.int .i64 a13) (.int .i64 a14) (.int .i64 a15) (.slice a16 a17 a18) 87 (w.heap.size + 1) (by simp))
  by_cases hb0 : 1048576 < (a7 : Int)
  · refine (law_szS_big a0 a1 a2 a3 a4 a5 a6 a7 a8 (1048576) _ (by omega) (by omega) hb0 hm0).mono ?_
    rintro e wz0 ⟨rfl, hb⟩
    have KZ := K0.step hb
    clear hb
    go_wp2
    go_ret
    exact ⟨rfl, KZ.1⟩
  · have hr0 : (a7 : Int) ≤ 1048576 := by omega
    have hn0 : a7 ≤ 1048576 := by omega
    clear hb0 hm0
    refine (law_szS a0 a1 a2 a3 a4 a5 a6 a7 a8 (1048576) _ (by omega) (by omega) hr0).mono ?_
    rintro e wz0 ⟨rfl, hb⟩
    have KS0 := K0.step hb
    clear hb
    obtain ⟨lf0, hlf0⟩ : ∃ q, q = 1048576 - (a7 : Int) := ⟨_, rfl⟩
    rw [← hlf0]
    have lfz0 : ¬ lf0 < 0 := by omega
    have lfd0 : decide (lf0 < 0) = false := decide_eq_false lfz0
    have lf00 : 0 ≤ lf0 := by omega
    have lf10 : lf0 ≤ 1048576 := by omega
    clear hlf0 hr0

    have x0 := KS0.get 0 rfl
    have x1 := KS0.get 1 rfl
    have x2 := KS0.get 2 rfl
    have x3 := KS0.get 3 rfl
    have x4 := KS0.get 4 rfl
    have x5 := KS0.get 5 rfl
    have x6 := KS0.get 6 rfl
    go_wp2_with fail
    clear x0 x1 x2 x3 x4 x5 x6
    by_cases hb10 : lf0 < (a17 : Int)
    · refine (law_szS_big a10 a11 a12 a13 a14 a15 a16 a17 a18 (lf0) _ (by omega) (by omega) hb10 hm10).mono ?_
      rintro e wz1 ⟨rfl, hb⟩
      have KZ := KS0.step hb
      clear hb
      go_wp2
      go_ret
      exact ⟨rfl, KZ.1⟩
    · have hr10 : (a17 : Int) ≤ lf0 := by omega
      have hn10 : a17 ≤ 1048576 := by omega
      clear hb10 hm10
      refine (law_szS a10 a11 a12 a13 a14 a15 a16 a17 a18 (lf0) _ (by omega) (by omega) hr10).mono ?_
      rintro e wz1 ⟨rfl, hb⟩
      have KS1 := KS0.step hb
      clear hb
      obtain ⟨lf1, hlf1⟩ : ∃ q, q = lf0 - (a17 : Int) := ⟨_, rfl⟩
      rw [← hlf1]
      have lfz1 : ¬ lf1 < 0 := by omega
      have lfd1 : decide (lf1 < 0) = false := decide_eq_false lfz1
      have lf01 : 0 ≤ lf1 := by omega
      have lf11 : lf1 ≤ 1048576 := by omega
      clear hlf1 hr10

      have I0 := Inv.of_kept (KS1)
      clear K0 KS0 KS1
      have SP : Hid (∀ (g g9 : Nat) (w : World) (fp fp9 : List Nat), SliceRep intTy w (.slice (some ⟨g, 0, none⟩) a7 a7) (lsI a7 a9) fp → SliceRep intTy w (.slice (some ⟨g9, 0, none⟩) a17 a17) (lsI a17 a19) fp9 → Calls Try.prog 72 #[.agg #[.int .i64 a0, .int .i64 a1, .int .i64 a2, .int .i64 a3, .int .i64 a4, .int .i64 a5, .slice (some ⟨g, 0, none⟩) a7 a7], .agg #[.int .i64 a10, .int .i64 a11, .int .i64 a12, .int .i64 a13, .int .i64 a14, .int .i64 a15, .slice (some ⟨g9, 0, none⟩) a17 a17]] w (EqSmPost (⟨a0, a1, a2, a3, a4, a5, (lsI a7 a9)⟩ : Sm) (⟨a10, a11, a12, a13, a14, a15, (lsI a17 a19)⟩ : Sm) w)) := (fun g g9 w fp fp9 hs hs9 => spec_eqS a0 a1 a2 a3 a4 a5 _ a7 _ (lsI a7 a9) a10 a11 a12 a13 a14 a15 _ a17 _ (lsI a17 a19) _ (lsI_len _ _) (lsI_len _ _) (by omega) (by omega) (ints_val hs) (ints_val hs9) : ∀ (g g9 : Nat) (w : World) (fp fp9 : List Nat), SliceRep intTy w (.slice (some ⟨g, 0, none⟩) a7 a7) (lsI a7 a9) fp → SliceRep intTy w (.slice (some ⟨g9, 0, none⟩) a17 a17) (lsI a17 a19) fp9 → Calls Try.prog 72 #[.agg #[.int .i64 a0, .int .i64 a1, .int .i64 a2, .int .i64 a3, .int .i64 a4, .int .i64 a5, .slice (some ⟨g, 0, none⟩) a7 a7], .agg #[.int .i64 a10, .int .i64 a11, .int .i64 a12, .int .i64 a13, .int .i64 a14, .int .i64 a15, .slice (some ⟨g9, 0, none⟩) a17 a17]] w (EqSmPost (⟨a0, a1, a2, a3, a4, a5, (lsI a7 a9)⟩ : Sm) (⟨a10, a11, a12, a13, a14, a15, (lsI a17 a19)⟩ : Sm) w))
      have IM : Hid (∀ (g g9 : Nat) (w : World) (fp fp9 : List Nat), SliceRep intTy w (.slice (some ⟨g, 0, none⟩) a7 a7) (lsI a7 a9) fp → SliceRep intTy w (.slice (some ⟨g9, 0, none⟩) a17 a17) (lsI a17 a19) fp9 → Calls Try.prog 73 #[.agg #[.int .i64 a0, .int .i64 a1, .int .i64 a2, .int .i64 a3, .int .i64 a4, .int .i64 a5, .slice (some ⟨g, 0, none⟩) a7 a7], .agg #[.int .i64 a10, .int .i64 a11, .int .i64 a12, .int .i64 a13, .int .i64 a14, .int .i64 a15, .slice (some ⟨g9, 0, none⟩) a17 a17]] w (EqSmPost (⟨a0, a1, a2, a3, a4, a5, (lsI a7 a9)⟩ : Sm) (⟨a10, a11, a12, a13, a14, a15, (lsI a17 a19)⟩ : Sm) w)) := (fun g g9 w fp fp9 hs hs9 => impl_eqS a0 a1 a2 a3 a4 a5 _ a7 _ (lsI a7 a9) a10 a11 a12 a13 a14 a15 _ a17 _ (lsI a17 a19) _ (lsI_len _ _) (lsI_len _ _) (by omega) (by omega) (ints_val hs) (ints_val hs9) : ∀ (g g9 : Nat) (w : World) (fp fp9 : List Nat), SliceRep intTy w (.slice (some ⟨g, 0, none⟩) a7 a7) (lsI a7 a9) fp → SliceRep intTy w (.slice (some ⟨g9, 0, none⟩) a17 a17) (lsI a17 a19) fp9 → Calls Try.prog 73 #[.agg #[.int .i64 a0, .int .i64 a1, .int .i64 a2, .int .i64 a3, .int .i64 a4, .int .i64 a5, .slice (some ⟨g, 0, none⟩) a7 a7], .agg #[.int .i64 a10, .int .i64 a11, .int .i64 a12, .int .i64 a13, .int .i64 a14, .int .i64 a15, .slice (some ⟨g9, 0, none⟩) a17 a17]] w (EqSmPost (⟨a0, a1, a2, a3, a4, a5, (lsI a7 a9)⟩ : Sm) (⟨a10, a11, a12, a13, a14, a15, (lsI a17 a19)⟩ : Sm) w))
      have IQ := I0
      have KQ := I0.1.sub (l' := [(⟨w.heap.size, 0, none⟩, .int .i64 a0), (⟨w.heap.size, 1, none⟩, .int .i64 a1), (⟨w.heap.size, 2, none⟩, .int .i64 a2), (⟨w.heap.size, 3, none⟩, .int .i64 a3), (⟨w.heap.size, 4, none⟩, .int .i64 a4), (⟨w.heap.size, 5, none⟩, .int .i64 a5), (⟨w.heap.size, 6, none⟩, .slice a6 a7 a8), (⟨w.heap.size + 1, 0, none⟩, .int .i64 a10), (⟨w.heap.size + 1, 1, none⟩, .int .i64 a11), (⟨w.heap.size + 1, 2, none⟩, .int .i64 a12), (⟨w.heap.size + 1, 3, none⟩, .int .i64 a13), (⟨w.heap.size + 1, 4, none⟩, .int .i64 a14), (⟨w.heap.size + 1, 5, none⟩, .int .i64 a15), (⟨w.heap.size + 1, 6, none⟩, .slice a16 a17 a18)]) (by intro p9 hp9; simp only [List.mem_cons, List.not_mem_nil, or_false] at hp9; rcases hp9 with rfl | rfl | rfl | rfl | rfl | rfl | rfl | rfl | rfl | rfl | rfl | rfl | rfl | rfl <;> simp)
      go_wp2_with fail
      go_region_held3 (fun w' => w'.cell? ⟨w.heap.size, 0, none⟩ = some (.int .i64 a0) ∧ w'.cell? ⟨w.heap.size, 1, none⟩ = some (.int .i64 a1) ∧ w'.cell? ⟨w.heap.size, 2, none⟩ = some (.int .i64 a2) ∧ w'.cell? ⟨w.heap.size, 3, none⟩ = some (.int .i64 a3) ∧ w'.cell? ⟨w.heap.size, 4, none⟩ = some (.int .i64 a4) ∧ w'.cell? ⟨w.heap.size, 5, none⟩ = some (.int .i64 a5) ∧ w'.cell? ⟨w.heap.size, 6, none⟩ = some (.slice a6 a7 a8) ∧ w'.cell? ⟨w.heap.size + 1, 0, none⟩ = some (.int .i64 a10) ∧ w'.cell? ⟨w.heap.size + 1, 1, none⟩ = some (.int .i64 a11) ∧ w'.cell? ⟨w.heap.size + 1, 2, none⟩ = some (.int .i64 a12) ∧ w'.cell? ⟨w.heap.size + 1, 3, none⟩ = some (.int .i64 a13) ∧ w'.cell? ⟨w.heap.size + 1, 4, none⟩ = some (.int .i64 a14) ∧ w'.cell? ⟨w.heap.size + 1, 5, none⟩ = some (.int .i64 a15) ∧ w'.cell? ⟨w.heap.size + 1, 6, none⟩ = some (.slice a16 a17 a18) ∧ Below wz1.heap.size wz1 w') (first | assumption | exact kn14_at KQ (Below.refl _ _).drew | exact kn14_keep KQ (by assumption) (by assumption)) (first | (go_simp; go_at_call 59; (with_reducible refine (law_toSE a0 a1 a2 a3 a4 a5 a6 a7 a8 a9 _ hn0 ?_).mono ?_); (exact (HA0.out.below KQ.1).below (kn14_b (by assumption))); rintro e9 w1A ⟨gA, rfl, hsA, _, hbA⟩) | (go_simp; go_at_call 59; (with_reducible refine (law_toSE a10 a11 a12 a13 a14 a15 a16 a17 a18 a19 _ hn10 ?_).mono ?_); (exact (HA10.out.below KQ.1).below (kn14_b (by assumption))); rintro e9 w1B ⟨gB, rfl, hsB, _, hbB⟩) | (go_simp; go_at_call 72; (with_reducible refine (SP.out _ _ _ [gA] [gB] ?_ ?_).mono ?_); (first | exact hsA.step hbB | exact hsA); (first | exact hsB | exact hsB.step hbA); rintro e9 w11 ⟨⟨v9, hv9, rfl⟩, hb⟩))
      all_goals
        have IX := IQ.step (kn14_b (‹_ ∧ _ ∧ _ ∧ _ ∧ _ ∧ _ ∧ _ ∧ _ ∧ _ ∧ _ ∧ _ ∧ _ ∧ _ ∧ _ ∧ Below wz1.heap.size wz1 w11›))
        obtain ⟨w3, hw3⟩ : ∃ w9, w9 = w11 := ⟨_, rfl⟩
        obtain ⟨V, hVV⟩ : ∃ x, x = v9 := ⟨_, rfl⟩
        clear hb hsA hsB hbA hbB KQ IQ I0
        subst hw3 hVV
        have HV := Lib.hid hv9
        clear hv9
        have I1 := IX
        clear IX
        have y0 := I1.get 7 rfl
        have y1 := I1.get 8 rfl
        have y2 := I1.get 9 rfl
        have y3 := I1.get 10 rfl
        have y4 := I1.get 11 rfl
        have y5 := I1.get 12 rfl
        have y6 := I1.get 13 rfl
        go_wp2_with fail
        refine (law_toSE a0 a1 a2 a3 a4 a5 a6 a7 a8 a9 _ hn0 (HA0.out.below I1.below)).mono ?_
        rintro e w4 ⟨g4, rfl, hs, hf, hb⟩
        have I2 := (I1.own (ownS intTy (.slice (some ⟨g4, 0, none⟩) a7 a7) (lsI a7 a9) [g4]) hb hs hf).alloc7 (.int .i64 a0) (.int .i64 a1) (.int .i64 a2) (.int .i64 a3) (.int .i64 a4) (.int .i64 a5) (.slice (some ⟨g4, 0, none⟩) a7 a7) 77 w4.heap.size rfl
        clear hs hf hb y0 y1 y2 y3 y4 y5 y6 I1
        have y0 := I2.get 7 rfl
        have y1 := I2.get 8 rfl
        have y2 := I2.get 9 rfl
        have y3 := I2.get 10 rfl
        have y4 := I2.get 11 rfl
        have y5 := I2.get 12 rfl
        have y6 := I2.get 13 rfl
        go_wp2_with fail
        refine (law_toSE a10 a11 a12 a13 a14 a15 a16 a17 a18 a19 _ hn10 (HA10.out.below I2.below)).mono ?_
        rintro e w5 ⟨g5, rfl, hs, hf, hb⟩
        have I3 := (I2.own (ownS intTy (.slice (some ⟨g5, 0, none⟩) a17 a17) (lsI a17 a19) [g5]) hb hs hf).alloc7 (.int .i64 a10) (.int .i64 a11) (.int .i64 a12) (.int .i64 a13) (.int .i64 a14) (.int .i64 a15) (.slice (some ⟨g5, 0, none⟩) a17 a17) 77 w5.heap.size rfl
        clear hs hf hb y0 y1 y2 y3 y4 y5 y6 I2
        have y0 := I3.get 7 rfl
        have y1 := I3.get 8 rfl
        have y2 := I3.get 9 rfl
        have y3 := I3.get 10 rfl
        have y4 := I3.get 11 rfl
        have y5 := I3.get 12 rfl
        have y6 := I3.get 13 rfl
        have y7 := I3.get 0 rfl
        have y8 := I3.get 1 rfl
        have y9 := I3.get 2 rfl
        have y10 := I3.get 3 rfl
        have y11 := I3.get 4 rfl
        have y12 := I3.get 5 rfl
        have y13 := I3.get 6 rfl
        go_wp2_with fail
        refine (IM.out _ _ _ _ _ (I3.at 1 rfl) (I3.at 0 rfl)).mono ?_
        rintro e w6 ⟨⟨v9, hv9, rfl⟩, hb⟩
        obtain rfl : v9 = V := eqSm_iff hv9 HV.out
        clear hv9
        have I4 := I3.step hb
        clear hb y0 y1 y2 y3 y4 y5 y6 y7 y8 y9 y10 y11 y12 y13 I3
        have vq : (v9 != v9) = false := by cases v9 <;> rfl
        have hx : SliceRep intTy w6 (.slice (some ⟨g4, 0, none⟩) a7 a7) (lsI a7 a9) [g4] := I4.at 1 rfl
        have IQ := I4
        have KQ := I4.1.sub (l' := [(⟨w4.heap.size, 0, none⟩, .int .i64 a0), (⟨w4.heap.size, 1, none⟩, .int .i64 a1), (⟨w4.heap.size, 2, none⟩, .int .i64 a2), (⟨w4.heap.size, 3, none⟩, .int .i64 a3), (⟨w4.heap.size, 4, none⟩, .int .i64 a4), (⟨w4.heap.size, 5, none⟩, .int .i64 a5), (⟨w4.heap.size, 6, none⟩, .slice (some ⟨g4, 0, none⟩) a7 a7), (⟨w.heap.size, 0, none⟩, .int .i64 a0), (⟨w.heap.size, 1, none⟩, .int .i64 a1), (⟨w.heap.size, 2, none⟩, .int .i64 a2), (⟨w.heap.size, 3, none⟩, .int .i64 a3), (⟨w.heap.size, 4, none⟩, .int .i64 a4), (⟨w.heap.size, 5, none⟩, .int .i64 a5), (⟨w.heap.size, 6, none⟩, .slice a6 a7 a8)]) (by intro p9 hp9; simp only [List.mem_cons, List.not_mem_nil, or_false] at hp9; rcases hp9 with rfl | rfl | rfl | rfl | rfl | rfl | rfl | rfl | rfl | rfl | rfl | rfl | rfl | rfl <;> simp)
        go_wp2_with fail
        go_region_held3 (fun w' => w'.cell? ⟨w4.heap.size, 0, none⟩ = some (.int .i64 a0) ∧ w'.cell? ⟨w4.heap.size, 1, none⟩ = some (.int .i64 a1) ∧ w'.cell? ⟨w4.heap.size, 2, none⟩ = some (.int .i64 a2) ∧ w'.cell? ⟨w4.heap.size, 3, none⟩ = some (.int .i64 a3) ∧ w'.cell? ⟨w4.heap.size, 4, none⟩ = some (.int .i64 a4) ∧ w'.cell? ⟨w4.heap.size, 5, none⟩ = some (.int .i64 a5) ∧ w'.cell? ⟨w4.heap.size, 6, none⟩ = some (.slice (some ⟨g4, 0, none⟩) a7 a7) ∧ w'.cell? ⟨w.heap.size, 0, none⟩ = some (.int .i64 a0) ∧ w'.cell? ⟨w.heap.size, 1, none⟩ = some (.int .i64 a1) ∧ w'.cell? ⟨w.heap.size, 2, none⟩ = some (.int .i64 a2) ∧ w'.cell? ⟨w.heap.size, 3, none⟩ = some (.int .i64 a3) ∧ w'.cell? ⟨w.heap.size, 4, none⟩ = some (.int .i64 a4) ∧ w'.cell? ⟨w.heap.size, 5, none⟩ = some (.int .i64 a5) ∧ w'.cell? ⟨w.heap.size, 6, none⟩ = some (.slice a6 a7 a8) ∧ Below w6.heap.size w6 w') (first | assumption | exact kn14_at KQ (Below.refl _ _).drew | exact kn14_keep KQ (by assumption) (by assumption)) (first | (go_simp; go_at_call 59; (with_reducible refine (law_toSE a0 a1 a2 a3 a4 a5 a6 a7 a8 a9 _ hn0 ?_).mono ?_); (exact (HA0.out.below KQ.1).below (kn14_b (by assumption))); rintro e9 w10 ⟨g9, rfl, hs9, _, hb9⟩) | (go_simp; go_at_call 52; (with_reducible refine (law_eqSE a0 a1 a2 a3 a4 a5 (lsI a7 a9) _ _ _ _ _ _ [g4] [g9] _ ?_ ?_ ?_).mono ?_); (rw [lsI_len]; omega); (exact hx.step (kn14_b (by assumption))); (exact hs9); rintro e9 w11 ⟨rfl, hb⟩))
        all_goals
          have IX := IQ.step (kn14_b (‹_ ∧ _ ∧ _ ∧ _ ∧ _ ∧ _ ∧ _ ∧ _ ∧ _ ∧ _ ∧ _ ∧ _ ∧ _ ∧ _ ∧ Below w6.heap.size w6 w11›))
          obtain ⟨w7, hw9⟩ : ∃ w9, w9 = w11 := ⟨_, rfl⟩
          clear hb hs9 hb9 KQ IQ I4 hx
          subst hw9
          have I5 := IX
          clear IX
          have hx : SliceRep intTy w7 (.slice (some ⟨g5, 0, none⟩) a17 a17) (lsI a17 a19) [g5] := I5.at 0 rfl
          have IQ := I5
          have KQ := I5.1.sub (l' := [(⟨w5.heap.size, 0, none⟩, .int .i64 a10), (⟨w5.heap.size, 1, none⟩, .int .i64 a11), (⟨w5.heap.size, 2, none⟩, .int .i64 a12), (⟨w5.heap.size, 3, none⟩, .int .i64 a13), (⟨w5.heap.size, 4, none⟩, .int .i64 a14), (⟨w5.heap.size, 5, none⟩, .int .i64 a15), (⟨w5.heap.size, 6, none⟩, .slice (some ⟨g5, 0, none⟩) a17 a17), (⟨w.heap.size + 1, 0, none⟩, .int .i64 a10), (⟨w.heap.size + 1, 1, none⟩, .int .i64 a11), (⟨w.heap.size + 1, 2, none⟩, .int .i64 a12), (⟨w.heap.size + 1, 3, none⟩, .int .i64 a13), (⟨w.heap.size + 1, 4, none⟩, .int .i64 a14), (⟨w.heap.size + 1, 5, none⟩, .int .i64 a15), (⟨w.heap.size + 1, 6, none⟩, .slice a16 a17 a18)]) (by intro p9 hp9; simp only [List.mem_cons, List.not_mem_nil, or_false] at hp9; rcases hp9 with rfl | rfl | rfl | rfl | rfl | rfl | rfl | rfl | rfl | rfl | rfl | rfl | rfl | rfl <;> simp)
          go_wp2_with fail
          go_region_held3 (fun w' => w'.cell? ⟨w5.heap.size, 0, none⟩ = some (.int .i64 a10) ∧ w'.cell? ⟨w5.heap.size, 1, none⟩ = some (.int .i64 a11) ∧ w'.cell? ⟨w5.heap.size, 2, none⟩ = some (.int .i64 a12) ∧ w'.cell? ⟨w5.heap.size, 3, none⟩ = some (.int .i64 a13) ∧ w'.cell? ⟨w5.heap.size, 4, none⟩ = some (.int .i64 a14) ∧ w'.cell? ⟨w5.heap.size, 5, none⟩ = some (.int .i64 a15) ∧ w'.cell? ⟨w5.heap.size, 6, none⟩ = some (.slice (some ⟨g5, 0, none⟩) a17 a17) ∧ w'.cell? ⟨w.heap.size + 1, 0, none⟩ = some (.int .i64 a10) ∧ w'.cell? ⟨w.heap.size + 1, 1, none⟩ = some (.int .i64 a11) ∧ w'.cell? ⟨w.heap.size + 1, 2, none⟩ = some (.int .i64 a12) ∧ w'.cell? ⟨w.heap.size + 1, 3, none⟩ = some (.int .i64 a13) ∧ w'.cell? ⟨w.heap.size + 1, 4, none⟩ = some (.int .i64 a14) ∧ w'.cell? ⟨w.heap.size + 1, 5, none⟩ = some (.int .i64 a15) ∧ w'.cell? ⟨w.heap.size + 1, 6, none⟩ = some (.slice a16 a17 a18) ∧ Below w7.heap.size w7 w') (first | assumption | exact kn14_at KQ (Below.refl _ _).drew | exact kn14_keep KQ (by assumption) (by assumption)) (first | (go_simp; go_at_call 59; (with_reducible refine (law_toSE a10 a11 a12 a13 a14 a15 a16 a17 a18 a19 _ hn10 ?_).mono ?_); (exact (HA10.out.below KQ.1).below (kn14_b (by assumption))); rintro e9 w10 ⟨g9, rfl, hs9, _, hb9⟩) | (go_simp; go_at_call 52; (with_reducible refine (law_eqSE a10 a11 a12 a13 a14 a15 (lsI a17 a19) _ _ _ _ _ _ [g5] [g9] _ ?_ ?_ ?_).mono ?_); (rw [lsI_len]; omega); (exact hx.step (kn14_b (by assumption))); (exact hs9); rintro e9 w11 ⟨rfl, hb⟩))
          all_goals
            have IX := IQ.step (kn14_b (‹_ ∧ _ ∧ _ ∧ _ ∧ _ ∧ _ ∧ _ ∧ _ ∧ _ ∧ _ ∧ _ ∧ _ ∧ _ ∧ _ ∧ Below w7.heap.size w7 w11›))
            obtain ⟨w8, hw9⟩ : ∃ w9, w9 = w11 := ⟨_, rfl⟩
            clear hb hs9 hb9 KQ IQ I5 hx
            subst hw9
            have I6 := IX
            clear IX
            go_wp2
            go_ret
            exact ⟨rfl, I6.below⟩

/-! ### THE ROW's STEP -/
set_option maxRecDepth 100000 in
theorem lifted (os : Os) (started : os.Started) (H : Type) (enc : TypeId × Value → H) :
    ReturnsInHanded {} Try.checked os 12 .any (Rows.fnExactEqualSummariesSpec.pre6 enc Try.prog Try.f12 Rows.fnExactEqualSummariesRow.domain false) (Rows.fnExactEqualSummariesSpec.post enc Try.prog Try.f12 false true false false) := by
  refine returnsInHanded_of_change (C := Try.checked) own started (by kernel_rfl) Try.func12
    (ChangeSpec.witness6 (enc := enc) (C := Try.checked) false ⟨#[], #[.agg #[.int .i64 0, .int .i64 0, .int .i64 0, .int .i64 0, .int .i64 0, .int .i64 0, .slice none 0 0], .agg #[.int .i64 0, .int .i64 0, .int .i64 0, .int .i64 0, .int .i64 0, .int .i64 0, .slice none 0 0]], []⟩ 8 (by kernel_rfl) (by kernel_rfl) (by kernel_rfl) (by kernel_rfl)) ?_
  intro W base args ds gs before hval0 hW hcnd _
  have hval : ∀ (j : Nat) t v, Try.f12.params[j]? = some t → args[j]? = some v → Value.okWide Try.prog W .any base t v := hval0
  have hW' := hW
  obtain ⟨p, q, hA0, hV, rfl, hfz, hnd⟩ := hW
  have hA : DataW.TrodAll enc Try.prog W 0 (fun _ => true) true Try.f12.params.toList args.toList ds p := hA0
  rw [Try.params12] at hA hval
  obtain ⟨v0, vs0, d0, ds0, p0, q0, hargs, rfl, rfl, h0, r0⟩ := trodAll_cons hA
  obtain ⟨v1, vs1, d1, ds1, p1, q1, rfl, rfl, rfl, h1, r1⟩ := trodAll_cons r0
  obtain ⟨rfl, rfl, rfl⟩ := trodAll_nil r1
  obtain rfl : args = #[v0, v1] := by cases args; simp_all
  obtain ⟨rfl, rfl⟩ := trodVars_none hV
  have kk0 := h0
  have lt0 : ∀ x ∈ p0, x.block < W.heap.size := by obtain ⟨m, hm⟩ := kk0; exact DataW.trod_lt m _ _ _ hm
  obtain ⟨a0, a1, a2, a3, a4, a5, a6, a7, a8, a9, rfl, w_a0_0, w_a0_1, w_a0_2, w_a0_3, w_a0_4, w_a0_5, w_a0_6, w_a0_7⟩ := open_sum (hval 0 87 v0 rfl rfl) h0 (fun _ => rfl)
  have kk1 := h1
  have lt1 : ∀ x ∈ p1, x.block < W.heap.size := by obtain ⟨m, hm⟩ := kk1; exact DataW.trod_lt m _ _ _ hm
  obtain ⟨a10, a11, a12, a13, a14, a15, a16, a17, a18, a19, rfl, w_a10_0, w_a10_1, w_a10_2, w_a10_3, w_a10_4, w_a10_5, w_a10_6, w_a10_7⟩ := open_sum (hval 1 87 v1 rfl rfl) h1 (fun _ => rfl)
  clear hA0 hval0
  simp only [List.append_nil] at hW'
  refine (walk a0 a1 a2 a3 a4 a5 a6 a7 a8 a9 a10 a11 a12 a13 a14 a15 a16 a17 a18 a19 W w_a0_0 w_a0_1 w_a0_2 w_a0_3 w_a0_4 w_a0_5 w_a0_6 w_a0_7 w_a10_0 w_a10_1 w_a10_2 w_a10_3 w_a10_4 w_a10_5 w_a10_6 w_a10_7).mono fun e W' ⟨he, hg⟩ => ?_
  subst he
  exact ⟨_, rfl, _, _, _, [], _, [], hW', (trodAll_cons_mk (shut_bool Try.underlying4 _) trodAll_mk0), (trodAll_cons_mk (Below.trod (by kernel_rfl) (by kernel_rfl) (of_decide_eq_true (by kernel_rfl)) kk0 hg lt0) (trodAll_cons_mk (Below.trod (by kernel_rfl) (by kernel_rfl) (of_decide_eq_true (by kernel_rfl)) kk1 hg lt1) trodAll_mk0)), rfl, hg.frame _, fun h => by cases h⟩

theorem over : Rows.fnExactEqualSummariesRow.holds Try.pinned (OpenSpec.ofChange Rows.fnExactEqualSummariesSpec) :=
  OpenClaim.holds_of_wide 12 Try.f12 rfl rfl rfl rfl rfl rfl rfl ⟨rfl, rfl, rfl, rfl, rfl⟩ rfl rfl rfl rfl rfl (by kernel_rfl) Try.func12 (MkF.closed_of (by kernel_rfl) (by kernel_rfl) (by kernel_rfl) (by kernel_rfl) (by kernel_rfl) (by kernel_rfl) (by kernel_rfl) (by kernel_rfl) (by kernel_rfl) (by kernel_rfl) (by kernel_rfl) (by kernel_rfl) (by kernel_rfl) (by kernel_rfl) (by kernel_rfl) (by kernel_rfl) (by kernel_rfl) (by kernel_rfl) (by kernel_rfl) (by kernel_rfl) (by kernel_rfl) (by kernel_rfl) (by kernel_rfl) (by kernel_rfl) (by kernel_rfl) MkF.mk_enter (MkF.lifts_eq MkF.mk_lifts rfl) (MkF.make_eq MkF.mk_make rfl) (by kernel_rfl) (by kernel_rfl) (by kernel_rfl) (by kernel_rfl))
    (of_decide_eq_true (by kernel_rfl)) (by unfold Func.isWrapper; first | (rw [if_pos (by decide +kernel)]; kernel_rfl) | (rw [if_neg (by decide +kernel)]; exact ⟨rfl, rfl⟩))
    (fun os started H enc _ => lifted os started H enc)

/-- ████ THE STATEMENT ████ -/
theorem proved : Rows.FnExactEqualSummariesSaid :=
  over
end Go.Proofs.Ytcfcohnkkgickaa.fnExactEqualSummaries
