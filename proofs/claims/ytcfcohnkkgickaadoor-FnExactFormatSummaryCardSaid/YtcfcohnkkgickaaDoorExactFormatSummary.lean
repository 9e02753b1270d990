/-
  Proved: for every summary, the law FnExactFormatSummary returns true (the project's FormatSummary answers as its model and leaves its argument as it was). No condition; the library's tables are tied to the program's text by the card.
-/
import Derived.Test.YtcfcohnkkgickaaDoorRows
import Derived.Test.YtcfcohnkkgickaaDoorMk
import Derived.Test.YtcfcohnkkgickaaDoorShelf
import Derived.Test.YtcfcohnkkgickaaDoorBytesOwn
import Derived.Test.YtcfcohnkkgickaaDoorItoaKit
import Derived.Test.YtcfcohnkkgickaaDoorPlain
import Derived.Test.YtcfcohnkkgickaaDoorFiSpec
import Derived.Test.YtcfcohnkkgickaaDoorL1In
import Derived.Test.YtcfcohnkkgickaaDoorKeep
import Derived.Test.YtcfcohnkkgickaaDoorInv
import Derived.Test.YtcfcohnkkgickaaDoorIntOwn
import Derived.Test.YtcfcohnkkgickaaDoorIntLaw
import Derived.Test.YtcfcohnkkgickaaDoorIntArg
import Derived.Test.YtcfcohnkkgickaaDoorSmPlain
import Derived.Test.YtcfcohnkkgickaaDoorSmLaw
import Derived.Test.YtcfcohnkkgickaaDoorHgVal
import Derived.Test.YtcfcohnkkgickaaDoorLimbs
import Derived.Test.YtcfcohnkkgickaaDoorSmArg
import Derived.Test.YtcfcohnkkgickaaDoorSmFmt
import Derived.Test.YtcfcohnkkgickaaDoorSmArg
import Derived.WalkKit
import Derived.ProofKit
import Derived.LaidMore
import Derived.Stop.Joined
import Derived.SevenTiedAt
import Derived.Test.YtcfcohnkkgickaaDoorTie
import Derived.Test.YtcfcohnkkgickaaDoorCards
import Derived.OpenShut
import Derived.ShutString
import Derived.ChangeOld
import Derived.Below
import Derived.Carry
namespace Go.Proofs.YtcfcohnkkgickaaDoor.fnExactFormatSummary
open Go.ChangeShapes Go.WideShapes Go.ChangeAt Go.RowKit
open Go.ChangeMaps (open_string shut_string)
set_option linter.unusedVariables false

theorem own : ownKnob Tryd.prog.godebug = none := by kernel_rfl

/-! ### The walk -/
theorem door_met (os : Os) (args : Array Value) : laidMetH Tryd.prog Rows.fnExactFormatSummaryRow.laid ((World.doorLaid Tryd.prog 400 os).forCall (fun _ _ => 0) ⟨#[], args, []⟩).memory :=
  laidMetH_of_parts3 (fuel := 8) (laidMet_of_run' 8 (by kernel_rfl) (by kernel_rfl)) (by kernel_rfl) (by kernel_rfl)

set_option maxRecDepth 100000 in
set_option maxHeartbeats 8000000 in
theorem walk (a0 : Int) (a1 : Int) (a2 : Int) (a3 : Int) (a4 : Int) (a5 : Int) (a6 : Option Addr) (a7 : Nat) (a8 : Nat) (a9 : Nat → Int) (w : World) (w_a0_0 : (Lit.int .i64 a0).wf = true) (w_a0_1 : (Lit.int .i64 a1).wf = true) (w_a0_2 : (Lit.int .i64 a2).wf = true) (w_a0_3 : (Lit.int .i64 a3).wf = true) (w_a0_4 : (Lit.int .i64 a4).wf = true) (w_a0_5 : (Lit.int .i64 a5).wf = true) (w_a0_6 : IntsArg w a6 a7 a9) (w_a0_7 : a7 ≤ maxLen) (hL : laidMetH Tryd.prog Rows.fnExactFormatSummaryRow.laid w) :
    Calls Tryd.prog 5 #[.agg #[.int .i64 a0, .int .i64 a1, .int .i64 a2, .int .i64 a3, .int .i64 a4, .int .i64 a5, .slice a6 a7 a8]] w fun e w' => e = .returned (.bool true) ∧ Below w.heap.size w w' := by
  have ht0 : PowTab w := powTab_of (by rw [MakeChecks.laidMetH_plain _ _ _ (by kernel_rfl)] at hL; exact hL)
  have HT : Hid (PowTab w) := ht0
  clear ht0 hL
  have HA0 := Lib.hid w_a0_6
  have hm0 : a7 ≤ 9223372036854775807 := Nat.le_trans w_a0_7 (by unfold maxLen; omega)
  clear w_a0_6 w_a0_7
  obtain ⟨V, hV⟩ : ∃ V, V = fmtSm (⟨a0, a1, a2, a3, a4, a5, (lsI a7 a9)⟩ : Sm) := ⟨_, rfl⟩
  go_enter Tryd.func5, Tryd.ntmps5
  go_wp2_with fail
  have K0 := ((Kept.start w).alloc7 (.int .i64 a0) (.int .i64 a1) (.int .i64 a2) (.int .i64 a3) (.int .i64 a4) (.int .i64 a5) (.slice a6 a7 a8) 46 (w.heap.size) rfl)
  by_cases hb0 : 1048576 < (a7 : Int)
  · refine (law_szS_big a0 a1 a2 a3 a4 a5 a6 a7 a8 (1048576) _ (by omega) (by omega) hb0 hm0).mono ?_
    rintro e wz0 ⟨rfl, hb⟩
    have KZ := K0.step hb
    clear hb
    go_wp2
    go_ret
    exact ⟨rfl, KZ.1⟩
  · have hr0 : (a7 : Int) ≤ 1048576 := by omega
    have hn0 : a7 ≤ 1048576 := by omega
    clear hb0 hm0
    refine (law_szS a0 a1 a2 a3 a4 a5 a6 a7 a8 (1048576) _ (by omega) (by omega) hr0).mono ?_
    rintro e wz0 ⟨rfl, hb⟩
    have KS0 := K0.step hb
    clear hb
    obtain ⟨lf0, hlf0⟩ : ∃ q, q = 1048576 - (a7 : Int) := ⟨_, rfl⟩
    rw [← hlf0]
    have lfz0 : ¬ lf0 < 0 := by omega
    have lfd0 : decide (lf0 < 0) = false := decide_eq_false lfz0
    have lf00 : 0 ≤ lf0 := by omega
    have lf10 : lf0 ≤ 1048576 := by omega
    clear hlf0 hr0

    have I0 := Inv.of_kept (KS0)
    clear K0 KS0
    have SP : Hid (∀ (g : Nat) (w : World) (fp : List Nat), SliceRep intTy w (.slice (some ⟨g, 0, none⟩) a7 a7) (lsI a7 a9) fp → Calls Tryd.prog 17 #[.agg #[.int .i64 a0, .int .i64 a1, .int .i64 a2, .int .i64 a3, .int .i64 a4, .int .i64 a5, .slice (some ⟨g, 0, none⟩) a7 a7]] w (ValOut (.string V) w)) := (fun g w fp hs => by rw [hV]; exact spec_fmtS a0 a1 a2 a3 a4 a5 _ a7 _ (lsI a7 a9) _ (lsI_len _ _) (by omega) (ints_val hs) : ∀ (g : Nat) (w : World) (fp : List Nat), SliceRep intTy w (.slice (some ⟨g, 0, none⟩) a7 a7) (lsI a7 a9) fp → Calls Tryd.prog 17 #[.agg #[.int .i64 a0, .int .i64 a1, .int .i64 a2, .int .i64 a3, .int .i64 a4, .int .i64 a5, .slice (some ⟨g, 0, none⟩) a7 a7]] w (ValOut (.string V) w))
    have IM : Hid (∀ (g : Nat) (w : World) (fp : List Nat), SliceRep intTy w (.slice (some ⟨g, 0, none⟩) a7 a7) (lsI a7 a9) fp → PowTab w → Calls Tryd.prog 19 #[.agg #[.int .i64 a0, .int .i64 a1, .int .i64 a2, .int .i64 a3, .int .i64 a4, .int .i64 a5, .slice (some ⟨g, 0, none⟩) a7 a7]] w (ValOut (.string V) w)) := (fun g w fp hs ht => by rw [hV]; exact impl_fmtS a0 a1 a2 a3 a4 a5 _ a7 _ (lsI a7 a9) _ (lsI_len _ _) (by omega) (ints_val hs) ht : ∀ (g : Nat) (w : World) (fp : List Nat), SliceRep intTy w (.slice (some ⟨g, 0, none⟩) a7 a7) (lsI a7 a9) fp → PowTab w → Calls Tryd.prog 19 #[.agg #[.int .i64 a0, .int .i64 a1, .int .i64 a2, .int .i64 a3, .int .i64 a4, .int .i64 a5, .slice (some ⟨g, 0, none⟩) a7 a7]] w (ValOut (.string V) w))
    clear hV
    have y0 := I0.get 0 rfl
    have y1 := I0.get 1 rfl
    have y2 := I0.get 2 rfl
    have y3 := I0.get 3 rfl
    have y4 := I0.get 4 rfl
    have y5 := I0.get 5 rfl
    have y6 := I0.get 6 rfl
    go_wp2_with fail
    refine (law_toSE a0 a1 a2 a3 a4 a5 a6 a7 a8 a9 _ hn0 (HA0.out.below I0.below)).mono ?_
    rintro e w2 ⟨g2, rfl, hs, hf, hb⟩
    have I1 := I0.own (ownS intTy (.slice (some ⟨g2, 0, none⟩) a7 a7) (lsI a7 a9) [g2]) hb hs hf
    clear hs hf hb y0 y1 y2 y3 y4 y5 y6 I0
    go_wp2_with fail
    refine (SP.out _ _ _ (I1.at 0 rfl)).mono ?_
    rintro e w3 ⟨rfl, hb⟩
    have I2 := I1.step hb
    clear hb I1
    have y0 := I2.get 0 rfl
    have y1 := I2.get 1 rfl
    have y2 := I2.get 2 rfl
    have y3 := I2.get 3 rfl
    have y4 := I2.get 4 rfl
    have y5 := I2.get 5 rfl
    have y6 := I2.get 6 rfl
    go_wp2_with fail
    refine (law_toSE a0 a1 a2 a3 a4 a5 a6 a7 a8 a9 _ hn0 (HA0.out.below I2.below)).mono ?_
    rintro e w4 ⟨g4, rfl, hs, hf, hb⟩
    have I3 := (I2.own (ownS intTy (.slice (some ⟨g4, 0, none⟩) a7 a7) (lsI a7 a9) [g4]) hb hs hf).alloc7 (.int .i64 a0) (.int .i64 a1) (.int .i64 a2) (.int .i64 a3) (.int .i64 a4) (.int .i64 a5) (.slice (some ⟨g4, 0, none⟩) a7 a7) 49 w4.heap.size rfl
    clear hs hf hb y0 y1 y2 y3 y4 y5 y6 I2
    have y0 := I3.get 0 rfl
    have y1 := I3.get 1 rfl
    have y2 := I3.get 2 rfl
    have y3 := I3.get 3 rfl
    have y4 := I3.get 4 rfl
    have y5 := I3.get 5 rfl
    have y6 := I3.get 6 rfl
    go_wp2_with fail
    refine (IM.out _ _ _ (I3.at 0 rfl) (HT.out.below I3.below (Nat.le_refl _))).mono ?_
    rintro e w5 ⟨rfl, hb⟩
    have I4 := I3.step hb
    clear hb y0 y1 y2 y3 y4 y5 y6 I3
    have hx : SliceRep intTy w5 (.slice (some ⟨g4, 0, none⟩) a7 a7) (lsI a7 a9) [g4] := I4.at 0 rfl
    have IQ := I4
    have KQ := I4.1.sub (l' := [(⟨w4.heap.size, 0, none⟩, .int .i64 a0), (⟨w4.heap.size, 1, none⟩, .int .i64 a1), (⟨w4.heap.size, 2, none⟩, .int .i64 a2), (⟨w4.heap.size, 3, none⟩, .int .i64 a3), (⟨w4.heap.size, 4, none⟩, .int .i64 a4), (⟨w4.heap.size, 5, none⟩, .int .i64 a5), (⟨w4.heap.size, 6, none⟩, .slice (some ⟨g4, 0, none⟩) a7 a7), (⟨w.heap.size, 0, none⟩, .int .i64 a0), (⟨w.heap.size, 1, none⟩, .int .i64 a1), (⟨w.heap.size, 2, none⟩, .int .i64 a2), (⟨w.heap.size, 3, none⟩, .int .i64 a3), (⟨w.heap.size, 4, none⟩, .int .i64 a4), (⟨w.heap.size, 5, none⟩, .int .i64 a5), (⟨w.heap.size, 6, none⟩, .slice a6 a7 a8)]) (by intro p9 hp9; simp only [List.mem_cons, List.not_mem_nil, or_false] at hp9; rcases hp9 with rfl | rfl | rfl | rfl | rfl | rfl | rfl | rfl | rfl | rfl | rfl | rfl | rfl | rfl <;> simp)
    go_wp2_with fail
    go_region_held3 (fun w' => w'.cell? ⟨w4.heap.size, 0, none⟩ = some (.int .i64 a0) ∧ w'.cell? ⟨w4.heap.size, 1, none⟩ = some (.int .i64 a1) ∧ w'.cell? ⟨w4.heap.size, 2, none⟩ = some (.int .i64 a2) ∧ w'.cell? ⟨w4.heap.size, 3, none⟩ = some (.int .i64 a3) ∧ w'.cell? ⟨w4.heap.size, 4, none⟩ = some (.int .i64 a4) ∧ w'.cell? ⟨w4.heap.size, 5, none⟩ = some (.int .i64 a5) ∧ w'.cell? ⟨w4.heap.size, 6, none⟩ = some (.slice (some ⟨g4, 0, none⟩) a7 a7) ∧ w'.cell? ⟨w.heap.size, 0, none⟩ = some (.int .i64 a0) ∧ w'.cell? ⟨w.heap.size, 1, none⟩ = some (.int .i64 a1) ∧ w'.cell? ⟨w.heap.size, 2, none⟩ = some (.int .i64 a2) ∧ w'.cell? ⟨w.heap.size, 3, none⟩ = some (.int .i64 a3) ∧ w'.cell? ⟨w.heap.size, 4, none⟩ = some (.int .i64 a4) ∧ w'.cell? ⟨w.heap.size, 5, none⟩ = some (.int .i64 a5) ∧ w'.cell? ⟨w.heap.size, 6, none⟩ = some (.slice a6 a7 a8) ∧ Below w5.heap.size w5 w') (first | assumption | exact kn14_at KQ (Below.refl _ _).drew | exact kn14_keep KQ (by assumption) (by assumption)) (first | (go_simp; go_at_call 18; (with_reducible refine (law_toSE a0 a1 a2 a3 a4 a5 a6 a7 a8 a9 _ hn0 ?_).mono ?_); (exact (HA0.out.below KQ.1).below (kn14_b (by assumption))); rintro e9 w10 ⟨g9, rfl, hs9, _, hb9⟩) | (go_simp; go_at_call 20; (with_reducible refine (law_eqSE a0 a1 a2 a3 a4 a5 (lsI a7 a9) _ _ _ _ _ _ [g4] [g9] _ ?_ ?_ ?_).mono ?_); (rw [lsI_len]; omega); (exact hx.step (kn14_b (by assumption))); (exact hs9); rintro e9 w11 ⟨rfl, hb⟩))
    all_goals
      have IX := IQ.step (kn14_b (‹_ ∧ _ ∧ _ ∧ _ ∧ _ ∧ _ ∧ _ ∧ _ ∧ _ ∧ _ ∧ _ ∧ _ ∧ _ ∧ _ ∧ Below w5.heap.size w5 w11›))
      obtain ⟨w6, hw9⟩ : ∃ w9, w9 = w11 := ⟨_, rfl⟩
      clear hb hs9 hb9 KQ IQ I4 hx
      subst hw9
      have I5 := IX
      clear IX
      go_wp2
      go_ret
      exact ⟨rfl, I5.below⟩

/-! ### THE ROW's STEP -/
set_option maxRecDepth 100000 in
theorem lifted (os : Os) (started : os.Started) (H : Type) (enc : TypeId × Value → H) :
    ReturnsInHanded {} Tryd.checked os 5 .any (fun w args => (Rows.fnExactFormatSummarySpec.pre enc Tryd.prog Tryd.f5 [] false w args ∧ laidMetH Tryd.prog Rows.fnExactFormatSummaryRow.laid w) ∧ sizedMet enc Tryd.prog Tryd.f5 (OpenSpec.ofChange Rows.fnExactFormatSummarySpec) false w args)
      (Rows.fnExactFormatSummarySpec.post enc Tryd.prog Tryd.f5 false true false false) := by
  refine returnsInHanded_of_change_and (C := Tryd.checked) (X := fun w _ => laidMetH Tryd.prog Rows.fnExactFormatSummaryRow.laid w) (fun _ _ _ hh h => h.of_heap hh) own started (by kernel_rfl) Tryd.func5
    (ChangeSpec.witness_shaped (enc := enc) (C := Tryd.checked) (os := os) (X := fun w _ => laidMetH Tryd.prog Rows.fnExactFormatSummaryRow.laid w) false (World.doorLaid Tryd.prog 400 os) #[.agg #[.int .i64 0, .int .i64 0, .int .i64 0, .int .i64 0, .int .i64 0, .int .i64 0, .slice none 0 0]] 8 rfl (World.shaped_of_RefB (by kernel_rfl) (by kernel_rfl)) (by kernel_rfl) (by kernel_rfl) (by kernel_rfl) (door_met os _)) ?_
  intro W base args ds gs before hval0 hW _ _ hL _
  have hval : ∀ (j : Nat) t v, Tryd.f5.params[j]? = some t → args[j]? = some v → Value.okWide Tryd.prog W .any base t v := hval0
  have hW' := hW
  obtain ⟨p, q, hA0, hV, rfl, hfz, hnd⟩ := hW
  have hA : DataW.TrodAll enc Tryd.prog W 0 (fun _ => true) true Tryd.f5.params.toList args.toList ds p := hA0
  rw [Tryd.params5] at hA hval
  obtain ⟨v0, vs0, d0, ds0, p0, q0, hargs, rfl, rfl, h0, r0⟩ := trodAll_cons hA
  obtain ⟨rfl, rfl, rfl⟩ := trodAll_nil r0
  obtain rfl : args = #[v0] := by cases args; simp_all
  obtain ⟨rfl, rfl⟩ := trodVars_none hV
  have kk0 := h0
  have lt0 : ∀ x ∈ p0, x.block < W.heap.size := by obtain ⟨m, hm⟩ := kk0; exact DataW.trod_lt m _ _ _ hm
  obtain ⟨a0, a1, a2, a3, a4, a5, a6, a7, a8, a9, rfl, w_a0_0, w_a0_1, w_a0_2, w_a0_3, w_a0_4, w_a0_5, w_a0_6, w_a0_7⟩ := open_sum (hval 0 46 v0 rfl rfl) h0 (fun _ => rfl)
  clear hA0 hval0
  simp only [List.append_nil] at hW'
  refine (walk a0 a1 a2 a3 a4 a5 a6 a7 a8 a9 W w_a0_0 w_a0_1 w_a0_2 w_a0_3 w_a0_4 w_a0_5 w_a0_6 w_a0_7 hL).mono fun e W' ⟨he, hg⟩ => ?_
  subst he
  exact ⟨_, rfl, _, _, _, [], _, [], hW', (trodAll_cons_mk (shut_bool Tryd.underlying4 _) trodAll_mk0), (trodAll_cons_mk (Below.trod (by kernel_rfl) (by kernel_rfl) (of_decide_eq_true (by kernel_rfl)) kk0 hg lt0) trodAll_mk0), rfl, hg.frame _, fun h => by cases h⟩

theorem over : Rows.fnExactFormatSummaryRow.holds Tryd.pinned (OpenSpec.ofChange Rows.fnExactFormatSummarySpec) :=
  OpenClaim.holds_of_wide 5 Tryd.f5 rfl rfl rfl rfl rfl rfl rfl ⟨rfl, rfl, rfl, rfl, rfl⟩ rfl rfl rfl rfl rfl (by kernel_rfl) Tryd.func5 (MkF.closed_of (by kernel_rfl) (by kernel_rfl) (by kernel_rfl) (by kernel_rfl) (by kernel_rfl) (by kernel_rfl) (by kernel_rfl) (by kernel_rfl) (by kernel_rfl) (by kernel_rfl) (by kernel_rfl) (by kernel_rfl) (by kernel_rfl) (by kernel_rfl) (by kernel_rfl) (by kernel_rfl) (by kernel_rfl) (by kernel_rfl) (by kernel_rfl) (by kernel_rfl) (by kernel_rfl) (by kernel_rfl) (by kernel_rfl) (by kernel_rfl) (by kernel_rfl) MkF.mk_enter (MkF.lifts_eq MkF.mk_lifts rfl) (MkF.make_eq MkF.mk_make rfl) (by kernel_rfl) (by kernel_rfl) (by kernel_rfl) (by kernel_rfl))
    (of_decide_eq_true (by kernel_rfl)) (by unfold Func.isWrapper; first | (rw [if_pos (by decide +kernel)]; kernel_rfl) | (rw [if_neg (by decide +kernel)]; exact ⟨rfl, rfl⟩))
    (fun os started H enc _ => lifted os started H enc)

/-- ████ THE STATEMENT: THE TIED CARD ████ -/
theorem proved : Rows.FnExactFormatSummaryCardSaid :=
  Claim7.holds_tied_plain_at .later [] [.data, .data, .data] true (true, "b70ba1e2b723a8d83448e1f112c72c935a70d712f7a3628b4d333d8e27b012c0") false
    over (fun _ h => by cases h) (by kernel_rfl) (fun _ h => by cases h) fnExactFormatSummary_row_tie rfl ⟨rfl, rfl⟩ (by kernel_rfl) rfl
    (fun f fn hf hfn => by
      obtain rfl : f = 5 := Option.some.inj ((show Tryd.prog.funcNamed "loop.example/g01927/laws.FnExactFormatSummary" = some 5 by kernel_rfl).symm.trans hf) |>.symm
      obtain rfl : fn = Tryd.f5 := (Option.some.inj (Tryd.func5.symm.trans hfn)).symm
      exact ⟨by kernel_rfl, fun j t ht => by
        rw [Tryd.params5] at ht
        have hm : t ∈ [46] := by simpa using Array.mem_of_getElem? ht
        have hall : ([46].all fun u => !Tryd.prog.wantsStandIn u) = true := by kernel_rfl
        exact (show Tryd.prog.wantsStandIn t = false by simpa using List.all_eq_true.1 hall t hm)⟩)
    (by kernel_rfl)
end Go.Proofs.YtcfcohnkkgickaaDoor.fnExactFormatSummary
