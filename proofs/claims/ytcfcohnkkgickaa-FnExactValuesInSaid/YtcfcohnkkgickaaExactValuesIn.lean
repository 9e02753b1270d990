/-
  Proved: for every summary, the law FnExactValuesIn returns true (the project's ValuesIn answers as its model and leaves its argument as it was). No condition.
-/
import Derived.Test.YtcfcohnkkgickaaRows
import Derived.Test.YtcfcohnkkgickaaMk
import Derived.Test.YtcfcohnkkgickaaPlain
import Derived.Test.YtcfcohnkkgickaaL1In
import Derived.Test.YtcfcohnkkgickaaKeep
import Derived.Test.YtcfcohnkkgickaaInv
import Derived.Test.YtcfcohnkkgickaaIntOwn
import Derived.Test.YtcfcohnkkgickaaIntLaw
import Derived.Test.YtcfcohnkkgickaaIntArg
import Derived.Test.YtcfcohnkkgickaaSmPlain
import Derived.Test.YtcfcohnkkgickaaSmLaw
import Derived.Test.YtcfcohnkkgickaaHgVal
import Derived.Test.YtcfcohnkkgickaaLimbs
import Derived.Test.YtcfcohnkkgickaaSmArg
import Derived.Test.YtcfcohnkkgickaaSmSpec
import Derived.Test.YtcfcohnkkgickaaSmVal
import Derived.Test.YtcfcohnkkgickaaSmArg
import Derived.WalkKit
import Derived.ProofKit
import Derived.OpenShut
import Derived.ShutString
import Derived.ChangeOld
import Derived.Below
import Derived.Carry
namespace Go.Proofs.Ytcfcohnkkgickaa.fnExactValuesIn
open Go.ChangeShapes Go.WideShapes Go.ChangeAt Go.RowKit
open Go.ChangeMaps (open_string shut_string)
set_option linter.unusedVariables false

theorem own : ownKnob Try.prog.godebug = none := by kernel_rfl

/-! ### The walk -/
set_option maxRecDepth 100000 in
set_option maxHeartbeats 8000000 in
theorem walk (a0 : Int) (a1 : Int) (a2 : Int) (a3 : Int) (a4 : Int) (a5 : Int) (a6 : Option Addr) (a7 : Nat) (a8 : Nat) (a9 : Nat → Int) (w : World) (w_a0_0 : (Lit.int .i64 a0).wf = true) (w_a0_1 : (Lit.int .i64 a1).wf = true) (w_a0_2 : (Lit.int .i64 a2).wf = true) (w_a0_3 : (Lit.int .i64 a3).wf = true) (w_a0_4 : (Lit.int .i64 a4).wf = true) (w_a0_5 : (Lit.int .i64 a5).wf = true) (w_a0_6 : IntsArg w a6 a7 a9) (w_a0_7 : a7 ≤ maxLen) :
    Calls Try.prog 8 #[.agg #[.int .i64 a0, .int .i64 a1, .int .i64 a2, .int .i64 a3, .int .i64 a4, .int .i64 a5, .slice a6 a7 a8]] w fun e w' => e = .returned (.bool true) ∧ Below w.heap.size w w' := by
  have HA0 := Lib.hid w_a0_6
  have hm0 : a7 ≤ 9223372036854775807 := Nat.le_trans w_a0_7 (by unfold maxLen; omega)
  clear w_a0_6 w_a0_7
  obtain ⟨V, hV⟩ : ∃ V, V = valS (⟨a0, a1, a2, a3, a4, a5, (lsI a7 a9)⟩ : Sm) := ⟨_, rfl⟩
  have vq : (V != V) = false := bne_self_eq_false V
  go_enter Try.func8, Try.ntmps8
  go_wp2_with fail
  have K0 := ((Kept.start w).alloc7 (.int .i64 a0) (.int .i64 a1) (.int .i64 a2) (.int .i64 a3) (.int .i64 a4) (.int .i64 a5) (.slice a6 a7 a8) 87 (w.heap.size) rfl)
  by_cases hb0 : 1048576 < (a7 : Int)
  · refine (law_szS_big a0 a1 a2 a3 a4 a5 a6 a7 a8 (1048576) _ (by omega) (by omega) hb0 hm0).mono ?_
    rintro e wz0 ⟨rfl, hb⟩
    have KZ := K0.step hb
    clear hb
    go_wp2
    go_ret
    exact ⟨rfl, KZ.1⟩
  · have hr0 : (a7 : Int) ≤ 1048576 := by omega
    have hn0 : a7 ≤ 1048576 := by omega
    clear hb0 hm0
    refine (law_szS a0 a1 a2 a3 a4 a5 a6 a7 a8 (1048576) _ (by omega) (by omega) hr0).mono ?_
    rintro e wz0 ⟨rfl, hb⟩
    have KS0 := K0.step hb
    clear hb
    obtain ⟨lf0, hlf0⟩ : ∃ q, q = 1048576 - (a7 : Int) := ⟨_, rfl⟩
    rw [← hlf0]
    have lfz0 : ¬ lf0 < 0 := by omega
    have lfd0 : decide (lf0 < 0) = false := decide_eq_false lfz0
    have lf00 : 0 ≤ lf0 := by omega
    have lf10 : lf0 ≤ 1048576 := by omega
    clear hlf0 hr0

    have I0 := Inv.of_kept (KS0)
    clear K0 KS0
    have SP : Hid (∀ (g : Nat) (w : World) (fp : List Nat), SliceRep intTy w (.slice (some ⟨g, 0, none⟩) a7 a7) (lsI a7 a9) fp → Calls Try.prog 61 #[.agg #[.int .i64 a0, .int .i64 a1, .int .i64 a2, .int .i64 a3, .int .i64 a4, .int .i64 a5, .slice (some ⟨g, 0, none⟩) a7 a7]] w (ValOut (.int .i64 V) w)) := (fun g w fp hs => by rw [hV]; exact spec_valS a0 a1 a2 a3 a4 a5 _ a7 _ (lsI a7 a9) _ (lsI_len _ _) (by omega) (ints_val hs) : ∀ (g : Nat) (w : World) (fp : List Nat), SliceRep intTy w (.slice (some ⟨g, 0, none⟩) a7 a7) (lsI a7 a9) fp → Calls Try.prog 61 #[.agg #[.int .i64 a0, .int .i64 a1, .int .i64 a2, .int .i64 a3, .int .i64 a4, .int .i64 a5, .slice (some ⟨g, 0, none⟩) a7 a7]] w (ValOut (.int .i64 V) w))
    have IM : Hid (∀ (g : Nat) (w : World) (fp : List Nat), SliceRep intTy w (.slice (some ⟨g, 0, none⟩) a7 a7) (lsI a7 a9) fp → Calls Try.prog 62 #[.agg #[.int .i64 a0, .int .i64 a1, .int .i64 a2, .int .i64 a3, .int .i64 a4, .int .i64 a5, .slice (some ⟨g, 0, none⟩) a7 a7]] w (ValOut (.int .i64 V) w)) := (fun g w fp hs => by rw [hV]; exact impl_valS a0 a1 a2 a3 a4 a5 _ a7 _ (lsI a7 a9) _ (lsI_len _ _) (by omega) (ints_val hs) : ∀ (g : Nat) (w : World) (fp : List Nat), SliceRep intTy w (.slice (some ⟨g, 0, none⟩) a7 a7) (lsI a7 a9) fp → Calls Try.prog 62 #[.agg #[.int .i64 a0, .int .i64 a1, .int .i64 a2, .int .i64 a3, .int .i64 a4, .int .i64 a5, .slice (some ⟨g, 0, none⟩) a7 a7]] w (ValOut (.int .i64 V) w))
    clear hV
    have y0 := I0.get 0 rfl
    have y1 := I0.get 1 rfl
    have y2 := I0.get 2 rfl
    have y3 := I0.get 3 rfl
    have y4 := I0.get 4 rfl
    have y5 := I0.get 5 rfl
    have y6 := I0.get 6 rfl
    go_wp2_with fail
    refine (law_toSE a0 a1 a2 a3 a4 a5 a6 a7 a8 a9 _ hn0 (HA0.out.below I0.below)).mono ?_
    rintro e w2 ⟨g2, rfl, hs, hf, hb⟩
    have I1 := I0.own (ownS intTy (.slice (some ⟨g2, 0, none⟩) a7 a7) (lsI a7 a9) [g2]) hb hs hf
    clear hs hf hb y0 y1 y2 y3 y4 y5 y6 I0
    go_wp2_with fail
    refine (SP.out _ _ _ (I1.at 0 rfl)).mono ?_
    rintro e w3 ⟨rfl, hb⟩
    have I2 := I1.step hb
    clear hb I1
    have y0 := I2.get 0 rfl
    have y1 := I2.get 1 rfl
    have y2 := I2.get 2 rfl
    have y3 := I2.get 3 rfl
    have y4 := I2.get 4 rfl
    have y5 := I2.get 5 rfl
    have y6 := I2.get 6 rfl
    go_wp2_with fail
    refine (law_toSE a0 a1 a2 a3 a4 a5 a6 a7 a8 a9 _ hn0 (HA0.out.below I2.below)).mono ?_
    rintro e w4 ⟨g4, rfl, hs, hf, hb⟩
    have I3 := (I2.own (ownS intTy (.slice (some ⟨g4, 0, none⟩) a7 a7) (lsI a7 a9) [g4]) hb hs hf).alloc7 (.int .i64 a0) (.int .i64 a1) (.int .i64 a2) (.int .i64 a3) (.int .i64 a4) (.int .i64 a5) (.slice (some ⟨g4, 0, none⟩) a7 a7) 77 w4.heap.size rfl
    clear hs hf hb y0 y1 y2 y3 y4 y5 y6 I2
    have y0 := I3.get 0 rfl
    have y1 := I3.get 1 rfl
    have y2 := I3.get 2 rfl
    have y3 := I3.get 3 rfl
    have y4 := I3.get 4 rfl
    have y5 := I3.get 5 rfl
    have y6 := I3.get 6 rfl
    go_wp2_with fail
    refine (IM.out _ _ _ (I3.at 0 rfl)).mono ?_
    rintro e w5 ⟨rfl, hb⟩
    have I4 := I3.step hb
    clear hb y0 y1 y2 y3 y4 y5 y6 I3
    have hx : SliceRep intTy w5 (.slice (some ⟨g4, 0, none⟩) a7 a7) (lsI a7 a9) [g4] := I4.at 0 rfl
    have IQ := I4
    have KQ := I4.1.sub (l' := [(⟨w4.heap.size, 0, none⟩, .int .i64 a0), (⟨w4.heap.size, 1, none⟩, .int .i64 a1), (⟨w4.heap.size, 2, none⟩, .int .i64 a2), (⟨w4.heap.size, 3, none⟩, .int .i64 a3), (⟨w4.heap.size, 4, none⟩, .int .i64 a4), (⟨w4.heap.size, 5, none⟩, .int .i64 a5), (⟨w4.heap.size, 6, none⟩, .slice (some ⟨g4, 0, none⟩) a7 a7), (⟨w.heap.size, 0, none⟩, .int .i64 a0), (⟨w.heap.size, 1, none⟩, .int .i64 a1), (⟨w.heap.size, 2, none⟩, .int .i64 a2), (⟨w.heap.size, 3, none⟩, .int .i64 a3), (⟨w.heap.size, 4, none⟩, .int .i64 a4), (⟨w.heap.size, 5, none⟩, .int .i64 a5), (⟨w.heap.size, 6, none⟩, .slice a6 a7 a8)]) (by intro p9 hp9; simp only [List.mem_cons, List.not_mem_nil, or_false] at hp9; rcases hp9 with rfl | rfl | rfl | rfl | rfl | rfl | rfl | rfl | rfl | rfl | rfl | rfl | rfl | rfl <;> simp)
    go_wp2_with fail
    go_region_held3 (fun w' => w'.cell? ⟨w4.heap.size, 0, none⟩ = some (.int .i64 a0) ∧ w'.cell? ⟨w4.heap.size, 1, none⟩ = some (.int .i64 a1) ∧ w'.cell? ⟨w4.heap.size, 2, none⟩ = some (.int .i64 a2) ∧ w'.cell? ⟨w4.heap.size, 3, none⟩ = some (.int .i64 a3) ∧ w'.cell? ⟨w4.heap.size, 4, none⟩ = some (.int .i64 a4) ∧ w'.cell? ⟨w4.heap.size, 5, none⟩ = some (.int .i64 a5) ∧ w'.cell? ⟨w4.heap.size, 6, none⟩ = some (.slice (some ⟨g4, 0, none⟩) a7 a7) ∧ w'.cell? ⟨w.heap.size, 0, none⟩ = some (.int .i64 a0) ∧ w'.cell? ⟨w.heap.size, 1, none⟩ = some (.int .i64 a1) ∧ w'.cell? ⟨w.heap.size, 2, none⟩ = some (.int .i64 a2) ∧ w'.cell? ⟨w.heap.size, 3, none⟩ = some (.int .i64 a3) ∧ w'.cell? ⟨w.heap.size, 4, none⟩ = some (.int .i64 a4) ∧ w'.cell? ⟨w.heap.size, 5, none⟩ = some (.int .i64 a5) ∧ w'.cell? ⟨w.heap.size, 6, none⟩ = some (.slice a6 a7 a8) ∧ Below w5.heap.size w5 w') (first | assumption | exact kn14_at KQ (Below.refl _ _).drew | exact kn14_keep KQ (by assumption) (by assumption)) (first | (go_simp; go_at_call 59; (with_reducible refine (law_toSE a0 a1 a2 a3 a4 a5 a6 a7 a8 a9 _ hn0 ?_).mono ?_); (exact (HA0.out.below KQ.1).below (kn14_b (by assumption))); rintro e9 w10 ⟨g9, rfl, hs9, _, hb9⟩) | (go_simp; go_at_call 52; (with_reducible refine (law_eqSE a0 a1 a2 a3 a4 a5 (lsI a7 a9) _ _ _ _ _ _ [g4] [g9] _ ?_ ?_ ?_).mono ?_); (rw [lsI_len]; omega); (exact hx.step (kn14_b (by assumption))); (exact hs9); rintro e9 w11 ⟨rfl, hb⟩))
    all_goals
      have IX := IQ.step (kn14_b (‹_ ∧ _ ∧ _ ∧ _ ∧ _ ∧ _ ∧ _ ∧ _ ∧ _ ∧ _ ∧ _ ∧ _ ∧ _ ∧ _ ∧ Below w5.heap.size w5 w11›))
      obtain ⟨w6, hw9⟩ : ∃ w9, w9 = w11 := ⟨_, rfl⟩
      clear hb hs9 hb9 KQ IQ I4 hx
      subst hw9
      have I5 := IX
      clear IX
      go_wp2
      go_ret
      exact ⟨rfl, I5.below⟩

/-! ### THE ROW's STEP -/
set_option maxRecDepth 100000 in
theorem lifted (os : Os) (started : os.Started) (H : Type) (enc : TypeId × Value → H) :
    ReturnsInHanded {} Try.checked os 8 .any (Rows.fnExactValuesInSpec.pre6 enc Try.prog Try.f8 Rows.fnExactValuesInRow.domain false) (Rows.fnExactValuesInSpec.post enc Try.prog Try.f8 false true false false) := by
  refine returnsInHanded_of_change (C := Try.checked) own started (by kernel_rfl) Try.func8
    (ChangeSpec.witness6 (enc := enc) (C := Try.checked) false ⟨#[], #[.agg #[.int .i64 0, .int .i64 0, .int .i64 0, .int .i64 0, .int .i64 0, .int .i64 0, .slice none 0 0]], []⟩ 8 (by kernel_rfl) (by kernel_rfl) (by kernel_rfl) (by kernel_rfl)) ?_
  intro W base args ds gs before hval0 hW hcnd _
  have hval : ∀ (j : Nat) t v, Try.f8.params[j]? = some t → args[j]? = some v → Value.okWide Try.prog W .any base t v := hval0
  have hW' := hW
  obtain ⟨p, q, hA0, hV, rfl, hfz, hnd⟩ := hW
  have hA : DataW.TrodAll enc Try.prog W 0 (fun _ => true) true Try.f8.params.toList args.toList ds p := hA0
  rw [Try.params8] at hA hval
  obtain ⟨v0, vs0, d0, ds0, p0, q0, hargs, rfl, rfl, h0, r0⟩ := trodAll_cons hA
  obtain ⟨rfl, rfl, rfl⟩ := trodAll_nil r0
  obtain rfl : args = #[v0] := by cases args; simp_all
  obtain ⟨rfl, rfl⟩ := trodVars_none hV
  have kk0 := h0
  have lt0 : ∀ x ∈ p0, x.block < W.heap.size := by obtain ⟨m, hm⟩ := kk0; exact DataW.trod_lt m _ _ _ hm
  obtain ⟨a0, a1, a2, a3, a4, a5, a6, a7, a8, a9, rfl, w_a0_0, w_a0_1, w_a0_2, w_a0_3, w_a0_4, w_a0_5, w_a0_6, w_a0_7⟩ := open_sum (hval 0 87 v0 rfl rfl) h0 (fun _ => rfl)
  clear hA0 hval0
  simp only [List.append_nil] at hW'
  refine (walk a0 a1 a2 a3 a4 a5 a6 a7 a8 a9 W w_a0_0 w_a0_1 w_a0_2 w_a0_3 w_a0_4 w_a0_5 w_a0_6 w_a0_7).mono fun e W' ⟨he, hg⟩ => ?_
  subst he
  exact ⟨_, rfl, _, _, _, [], _, [], hW', (trodAll_cons_mk (shut_bool Try.underlying4 _) trodAll_mk0), (trodAll_cons_mk (Below.trod (by kernel_rfl) (by kernel_rfl) (of_decide_eq_true (by kernel_rfl)) kk0 hg lt0) trodAll_mk0), rfl, hg.frame _, fun h => by cases h⟩

theorem over : Rows.fnExactValuesInRow.holds Try.pinned (OpenSpec.ofChange Rows.fnExactValuesInSpec) :=
  OpenClaim.holds_of_wide 8 Try.f8 rfl rfl rfl rfl rfl rfl rfl ⟨rfl, rfl, rfl, rfl, rfl⟩ rfl rfl rfl rfl rfl (by kernel_rfl) Try.func8 (MkF.closed_of (by kernel_rfl) (by kernel_rfl) (by kernel_rfl) (by kernel_rfl) (by kernel_rfl) (by kernel_rfl) (by kernel_rfl) (by kernel_rfl) (by kernel_rfl) (by kernel_rfl) (by kernel_rfl) (by kernel_rfl) (by kernel_rfl) (by kernel_rfl) (by kernel_rfl) (by kernel_rfl) (by kernel_rfl) (by kernel_rfl) (by kernel_rfl) (by kernel_rfl) (by kernel_rfl) (by kernel_rfl) (by kernel_rfl) (by kernel_rfl) (by kernel_rfl) MkF.mk_enter (MkF.lifts_eq MkF.mk_lifts rfl) (MkF.make_eq MkF.mk_make rfl) (by kernel_rfl) (by kernel_rfl) (by kernel_rfl) (by kernel_rfl))
    (of_decide_eq_true (by kernel_rfl)) (by unfold Func.isWrapper; first | (rw [if_pos (by decide +kernel)]; kernel_rfl) | (rw [if_neg (by decide +kernel)]; exact ⟨rfl, rfl⟩))
    (fun os started H enc _ => lifted os started H enc)

/-- ████ THE STATEMENT ████ -/
theorem proved : Rows.FnExactValuesInSaid :=
  over
end Go.Proofs.Ytcfcohnkkgickaa.fnExactValuesIn
