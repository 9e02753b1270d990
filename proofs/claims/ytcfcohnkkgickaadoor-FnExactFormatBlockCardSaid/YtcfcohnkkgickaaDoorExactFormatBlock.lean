/-
  Proved: for every block, the law FnExactFormatBlock returns true (the project's FormatBlock answers as its model and leaves its argument as it was). No condition; the library's tables are tied to the program's text by the card.
-/
import Derived.Test.YtcfcohnkkgickaaDoorRows
import Derived.Test.YtcfcohnkkgickaaDoorMk
import Derived.Test.YtcfcohnkkgickaaDoorShelf
import Derived.Test.YtcfcohnkkgickaaDoorBytesOwn
import Derived.Test.YtcfcohnkkgickaaDoorItoaKit
import Derived.Test.YtcfcohnkkgickaaDoorPlain
import Derived.Test.YtcfcohnkkgickaaDoorFiSpec
import Derived.Test.YtcfcohnkkgickaaDoorL1In
import Derived.Test.YtcfcohnkkgickaaDoorKeep
import Derived.Test.YtcfcohnkkgickaaDoorRvSpec
import Derived.Test.YtcfcohnkkgickaaDoorRwLaw
import Derived.Test.YtcfcohnkkgickaaDoorRwsOwn
import Derived.Test.YtcfcohnkkgickaaDoorArSpec
import Derived.Test.YtcfcohnkkgickaaDoorEqRows
import Derived.Test.YtcfcohnkkgickaaDoorRfSpec
import Derived.Test.YtcfcohnkkgickaaDoorBkPlain
import Derived.Test.YtcfcohnkkgickaaDoorBkLaw
import Derived.Test.YtcfcohnkkgickaaDoorStrOwn
import Derived.Test.YtcfcohnkkgickaaDoorBfSpec
import Derived.Test.YtcfcohnkkgickaaDoorJlImpl
import Derived.Test.YtcfcohnkkgickaaDoorFaRow
import Derived.Test.YtcfcohnkkgickaaDoorFbImpl
import Derived.Test.YtcfcohnkkgickaaDoorBlkArg
import Derived.WalkKit
import Derived.ProofKit
import Derived.LaidMore
import Derived.Stop.Joined
import Derived.SevenTiedAt
import Derived.Test.YtcfcohnkkgickaaDoorTie
import Derived.Test.YtcfcohnkkgickaaDoorCards
import Derived.OpenShut
import Derived.ShutString
import Derived.ChangeOld
import Derived.Below
import Derived.Carry
namespace Go.Proofs.YtcfcohnkkgickaaDoor.fnExactFormatBlock
open Go.ChangeShapes Go.WideShapes Go.ChangeAt Go.RowKit
open Go.ChangeMaps (open_string shut_string)
set_option linter.unusedVariables false

theorem own : ownKnob Tryd.prog.godebug = none := by kernel_rfl

/-! ### The walk -/
theorem door_met (os : Os) (args : Array Value) : laidMetH Tryd.prog Rows.fnExactFormatBlockRow.laid ((World.doorLaid Tryd.prog 400 os).forCall (fun _ _ => 0) ⟨#[], args, []⟩).memory :=
  laidMetH_of_parts3 (fuel := 8) (laidMet_of_run' 8 (by kernel_rfl) (by kernel_rfl)) (by kernel_rfl) (by kernel_rfl)

set_option maxRecDepth 100000 in
set_option maxHeartbeats 8000000 in
theorem walk (a0 : Int) (a1 : Option Addr) (a2 : Nat) (a3 : Nat) (a4 : Nat → Rw) (w : World) (w_a0_0 : (Lit.int .i64 a0).wf = true) (w_a0_1 : RowsArg w a1 a2 a4) (w_a0_2 : a2 ≤ maxLen) (hL : laidMetH Tryd.prog Rows.fnExactFormatBlockRow.laid w) :
    Calls Tryd.prog 3 #[.agg #[.int .i64 a0, .slice a1 a2 a3]] w fun e w' => e = .returned (.bool true) ∧ Below w.heap.size w w' := by
  have ht0 : PowTab w := powTab_of (by rw [MakeChecks.laidMetH_plain _ _ _ (by kernel_rfl)] at hL; exact hL)
  have HT : Hid (PowTab w) := ht0
  clear ht0 hL
  have hmax : a2 ≤ 9223372036854775807 := Nat.le_trans w_a0_2 (by unfold maxLen; omega)
  by_cases hbig : 1048576 < a2
  · go_enter Tryd.func3, Tryd.ntmps3
    go_wp2_with fail
    have K0 := (Kept.start w).alloc2 (.int .i64 a0) (.slice a1 a2 a3) 24 _ rfl
    refine (law_szb_big a0 a1 a2 a3 _ hbig hmax).mono ?_
    rintro e w1 ⟨rfl, hb⟩
    have K1 := K0.step hb
    clear hb K0
    go_wp2
    go_ret
    exact ⟨rfl, K1.1⟩
  · have hn : a2 ≤ 1048576 := by omega
    have hnI : (a2 : Int) ≤ 1048576 := by omega
    have hz : ¬ (1048576 - (a2 : Int)) < 0 := by omega
    have hzd : decide ((1048576 - (a2 : Int)) < 0) = false := decide_eq_false hz
    have HA := Lib.hid w_a0_1
    clear hbig hmax w_a0_2
    go_enter Tryd.func3, Tryd.ntmps3
    go_wp2_with fail
    have K0 := (Kept.start w).alloc2 (.int .i64 a0) (.slice a1 a2 a3) 24 _ rfl
    refine (law_szb a0 a1 a2 a3 _ hn).mono ?_
    rintro e w1 ⟨rfl, hb⟩
    have K1 := K0.step hb
    clear hb K0
    have k0 := K1.get 0 rfl
    have k1 := K1.get 1 rfl
    go_wp2_with fail
    refine (law_toBlk a0 a1 a2 a3 a4 _ hn (HA.out.below K1.1)).mono ?_
    rintro e w2 ⟨g2, rfl, H2⟩
    have G2 := Lib.hid H2
    have K2 := K1.step H2.1
    clear H2 K1 k0 k1
    go_wp2_with fail
    refine (spec_fb a0 g2 a2 _ a4 _ hn G2.out.2.2.1 G2.out.2.2.2.2).mono ?_
    rintro e w3 ⟨rfl, hb⟩
    have K3 := K2.step hb
    clear hb K2
    obtain ⟨v, hv⟩ : ∃ v, v = fmtB a0 a2 a4 := ⟨_, rfl⟩
    rw [← hv]
    have HV := Lib.hid hv
    clear hv
    have k0 := K3.get 0 rfl
    have k1 := K3.get 1 rfl
    go_wp2_with fail
    refine (law_toBlk a0 a1 a2 a3 a4 _ hn (HA.out.below K3.1)).mono ?_
    rintro e w4 ⟨g4, rfl, H4⟩
    have G4 := Lib.hid ((H4.rebase K3.1).step ((Below.refl w4.heap.size w4).alloc (Nat.le_refl _) (.cells #[.int .i64 a0, .slice (some ⟨g4, 0, none⟩) a2 a2] 29)))
    have K4 := (K3.step H4.1).alloc2 (.int .i64 a0) (.slice (some ⟨g4, 0, none⟩) a2 a2) 29 w4.heap.size rfl
    clear H4 K3 k0 k1
    have k0 := K4.get 0 rfl
    have k1 := K4.get 1 rfl
    go_wp2_with fail
    refine (impl_fb a0 g4 a2 _ a4 _ hn G4.out.2.2.1 G4.out.2.2.2.2 (HT.out.below K4.1 (Nat.le_refl _))).mono ?_
    rintro e w5 ⟨rfl, hb⟩
    rw [← HV.out]
    have G5 := Lib.hid (G4.out.step hb)
    have K5 := K4.step hb
    clear hb K4 k0 k1
    go_wp2_with fail
    go_region_held3 (fun w' => w'.cell? ⟨w4.heap.size, 0, none⟩ = some (.int .i64 a0) ∧ w'.cell? ⟨w4.heap.size, 1, none⟩ = some (.slice (some ⟨g4, 0, none⟩) a2 a2) ∧ w'.cell? ⟨w.heap.size, 0, none⟩ = some (.int .i64 a0) ∧ w'.cell? ⟨w.heap.size, 1, none⟩ = some (.slice a1 a2 a3) ∧ RowsTo w w' g4 a2 a2 a4 ∧ Kept w w' [(⟨w4.heap.size, 0, none⟩, .int .i64 a0), (⟨w4.heap.size, 1, none⟩, .slice (some ⟨g4, 0, none⟩) a2 a2), (⟨w.heap.size, 0, none⟩, .int .i64 a0), (⟨w.heap.size, 1, none⟩, .slice a1 a2 a3)]) (first | assumption | exact bl_start G5.out K5 | exact bl_keep (by assumption) (by assumption)) (first | (go_simp; go_at_call 8; (with_reducible refine (law_toBlk _ _ _ _ a4 _ hn ?_).mono ?_); (exact bl_arg HA.out (by assumption)); rintro e9 w9 ⟨g9, rfl, H9⟩; have hb := H9.1) | (go_simp; go_at_call 10; (with_reducible refine (law_eqBlk _ _ _ _ _ _ a4 _ hn ?_ ?_ ?_ ?_).mono ?_); (exact (bl_rows (by assumption)).2.2.1); (exact H9.2.2.1); (exact (bl_rows (by assumption)).2.2.2.2); (exact H9.2.2.2.2); rintro e9 w10 ⟨rfl, hb⟩))
    all_goals
      have K6 := ‹_ ∧ _ ∧ _ ∧ _ ∧ _ ∧ Kept w w10 _›.2.2.2.2.2
      go_wp2
      go_ret
      exact ⟨rfl, K6.1⟩

/-! ### THE ROW's STEP -/
set_option maxRecDepth 100000 in
theorem lifted (os : Os) (started : os.Started) (H : Type) (enc : TypeId × Value → H) :
    ReturnsInHanded {} Tryd.checked os 3 .any (fun w args => (Rows.fnExactFormatBlockSpec.pre enc Tryd.prog Tryd.f3 [] false w args ∧ laidMetH Tryd.prog Rows.fnExactFormatBlockRow.laid w) ∧ sizedMet enc Tryd.prog Tryd.f3 (OpenSpec.ofChange Rows.fnExactFormatBlockSpec) false w args)
      (Rows.fnExactFormatBlockSpec.post enc Tryd.prog Tryd.f3 false true false false) := by
  refine returnsInHanded_of_change_and (C := Tryd.checked) (X := fun w _ => laidMetH Tryd.prog Rows.fnExactFormatBlockRow.laid w) (fun _ _ _ hh h => h.of_heap hh) own started (by kernel_rfl) Tryd.func3
    (ChangeSpec.witness_shaped (enc := enc) (C := Tryd.checked) (os := os) (X := fun w _ => laidMetH Tryd.prog Rows.fnExactFormatBlockRow.laid w) false (World.doorLaid Tryd.prog 400 os) #[.agg #[.int .i64 0, .slice none 0 0]] 8 rfl (World.shaped_of_RefB (by kernel_rfl) (by kernel_rfl)) (by kernel_rfl) (by kernel_rfl) (by kernel_rfl) (door_met os _)) ?_
  intro W base args ds gs before hval0 hW _ _ hL _
  have hval : ∀ (j : Nat) t v, Tryd.f3.params[j]? = some t → args[j]? = some v → Value.okWide Tryd.prog W .any base t v := hval0
  have hW' := hW
  obtain ⟨p, q, hA0, hV, rfl, hfz, hnd⟩ := hW
  have hA : DataW.TrodAll enc Tryd.prog W 0 (fun _ => true) true Tryd.f3.params.toList args.toList ds p := hA0
  rw [Tryd.params3] at hA hval
  obtain ⟨v0, vs0, d0, ds0, p0, q0, hargs, rfl, rfl, h0, r0⟩ := trodAll_cons hA
  obtain ⟨rfl, rfl, rfl⟩ := trodAll_nil r0
  obtain rfl : args = #[v0] := by cases args; simp_all
  obtain ⟨rfl, rfl⟩ := trodVars_none hV
  have kk0 := h0
  have lt0 : ∀ x ∈ p0, x.block < W.heap.size := by obtain ⟨m, hm⟩ := kk0; exact DataW.trod_lt m _ _ _ hm
  obtain ⟨a0, a1, a2, a3, a4, rfl, w_a0_0, w_a0_1, w_a0_2⟩ := open_blk (hval 0 24 v0 rfl rfl) h0 (fun _ => rfl)
  clear hA0 hval0
  simp only [List.append_nil] at hW'
  refine (walk a0 a1 a2 a3 a4 W w_a0_0 w_a0_1 w_a0_2 hL).mono fun e W' ⟨he, hg⟩ => ?_
  subst he
  exact ⟨_, rfl, _, _, _, [], _, [], hW', (trodAll_cons_mk (shut_bool Tryd.underlying4 _) trodAll_mk0), (trodAll_cons_mk (Below.trod (by kernel_rfl) (by kernel_rfl) (of_decide_eq_true (by kernel_rfl)) kk0 hg lt0) trodAll_mk0), rfl, hg.frame _, fun h => by cases h⟩

theorem over : Rows.fnExactFormatBlockRow.holds Tryd.pinned (OpenSpec.ofChange Rows.fnExactFormatBlockSpec) :=
  OpenClaim.holds_of_wide 3 Tryd.f3 rfl rfl rfl rfl rfl rfl rfl ⟨rfl, rfl, rfl, rfl, rfl⟩ rfl rfl rfl rfl rfl (by kernel_rfl) Tryd.func3 (MkF.closed_of (by kernel_rfl) (by kernel_rfl) (by kernel_rfl) (by kernel_rfl) (by kernel_rfl) (by kernel_rfl) (by kernel_rfl) (by kernel_rfl) (by kernel_rfl) (by kernel_rfl) (by kernel_rfl) (by kernel_rfl) (by kernel_rfl) (by kernel_rfl) (by kernel_rfl) (by kernel_rfl) (by kernel_rfl) (by kernel_rfl) (by kernel_rfl) (by kernel_rfl) (by kernel_rfl) (by kernel_rfl) (by kernel_rfl) (by kernel_rfl) (by kernel_rfl) MkF.mk_enter (MkF.lifts_eq MkF.mk_lifts rfl) (MkF.make_eq MkF.mk_make rfl) (by kernel_rfl) (by kernel_rfl) (by kernel_rfl) (by kernel_rfl))
    (of_decide_eq_true (by kernel_rfl)) (by unfold Func.isWrapper; first | (rw [if_pos (by decide +kernel)]; kernel_rfl) | (rw [if_neg (by decide +kernel)]; exact ⟨rfl, rfl⟩))
    (fun os started H enc _ => lifted os started H enc)

/-- ████ THE STATEMENT: THE TIED CARD ████ -/
theorem proved : Rows.FnExactFormatBlockCardSaid :=
  Claim7.holds_tied_plain_at .later [] [.data, .data, .data] true (true, "b70ba1e2b723a8d83448e1f112c72c935a70d712f7a3628b4d333d8e27b012c0") false
    over (fun _ h => by cases h) (by kernel_rfl) (fun _ h => by cases h) fnExactFormatBlock_row_tie rfl ⟨rfl, rfl⟩ (by kernel_rfl) rfl
    (fun f fn hf hfn => by
      obtain rfl : f = 3 := Option.some.inj ((show Tryd.prog.funcNamed "loop.example/g01927/laws.FnExactFormatBlock" = some 3 by kernel_rfl).symm.trans hf) |>.symm
      obtain rfl : fn = Tryd.f3 := (Option.some.inj (Tryd.func3.symm.trans hfn)).symm
      exact ⟨by kernel_rfl, fun j t ht => by
        rw [Tryd.params3] at ht
        have hm : t ∈ [24] := by simpa using Array.mem_of_getElem? ht
        have hall : ([24].all fun u => !Tryd.prog.wantsStandIn u) = true := by kernel_rfl
        exact (show Tryd.prog.wantsStandIn t = false by simpa using List.all_eq_true.1 hall t hm)⟩)
    (by kernel_rfl)
end Go.Proofs.YtcfcohnkkgickaaDoor.fnExactFormatBlock
