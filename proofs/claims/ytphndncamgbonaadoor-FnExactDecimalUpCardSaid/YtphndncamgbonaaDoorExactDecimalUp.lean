/-
  Proved: for every pair of ints as a fraction and every int as a number of places, the law FnExactDecimalUp returns true (the project's DecimalUp answers as its model) and leaves its arguments as they were. No condition; the library's tables are tied to the program's text by the card.
-/
import Derived.Test.YtphndncamgbonaaDoorRows
import Derived.Test.YtphndncamgbonaaDoorShelf
import Derived.Test.YtphndncamgbonaaDoorBytesOwn
import Derived.Test.YtphndncamgbonaaDoorItoaKit
import Derived.Test.YtphndncamgbonaaDoorFiPlain
import Derived.Test.YtphndncamgbonaaDoorFiSpec
import Derived.Test.YtphndncamgbonaaDoorFrPlain
import Derived.Test.YtphndncamgbonaaDoorL1In
import Derived.Test.YtphndncamgbonaaDoorHelp
import Derived.Test.YtphndncamgbonaaDoorHeld
import Derived.Test.YtphndncamgbonaaDoorFrSpec
import Derived.Test.YtphndncamgbonaaDoorFrImpl
import Derived.Test.YtphndncamgbonaaDoorPiPlain
import Derived.Test.YtphndncamgbonaaDoorDcPlain
import Derived.Test.YtphndncamgbonaaDoorDcSmall
import Derived.Test.YtphndncamgbonaaDoorDcSpec
import Derived.Test.YtphndncamgbonaaDoorDcImpl
import Derived.Test.YtphndncamgbonaaDoorDdPlain
import Derived.Test.YtphndncamgbonaaDoorDdSpec
import Derived.Test.YtphndncamgbonaaDoorDdImpl
import Derived.Test.YtphndncamgbonaaDoorFrLaw
import Derived.Test.YtphndncamgbonaaDoorFracArg
import Derived.WalkKit
import Derived.ProofKit
import Derived.LaidMore
import Derived.Stop.Joined
import Derived.SevenTiedAt
import Derived.Test.YtphndncamgbonaaDoorTie
import Derived.Test.YtphndncamgbonaaDoorCards
import Derived.OpenShut
import Derived.ShutString
import Derived.ChangeOld
import Derived.Below
namespace Go.Proofs.YtphndncamgbonaaDoor.fnExactDecimalUp
open Go.ChangeShapes Go.WideShapes Go.ChangeAt Go.RowKit
open Go.ChangeMaps (open_string shut_string)
set_option linter.unusedVariables false

theorem own : ownKnob Tryd.prog.godebug = none := by kernel_rfl

/-! ### The walk -/
theorem door_met (os : Os) (args : Array Value) : laidMetH Tryd.prog Rows.fnExactDecimalUpRow.laid ((World.doorLaid Tryd.prog 400 os).forCall (fun _ _ => 0) ⟨#[], args, []⟩).memory :=
  laidMetH_of_parts3 (fuel := 8) (laidMet_of_run' 8 (by kernel_rfl) (by kernel_rfl)) (by kernel_rfl) (by kernel_rfl)

set_option maxRecDepth 100000 in
set_option maxHeartbeats 8000000 in
theorem walk (a0 : Int) (a1 : Int) (a2 : Int) (w_a0 : (Lit.int .i64 a0).wf = true) (w_a1 : (Lit.int .i64 a1).wf = true) (w_a2 : (Lit.int .i64 a2).wf = true) (w : World) (hL : laidMetH Tryd.prog Rows.fnExactDecimalUpRow.laid w) :
    Calls Tryd.prog 6 #[.agg #[.int .i64 a0, .int .i64 a1], .int .i64 a2] w fun e w' => e = .returned (.bool true) ∧ Below w.heap.size w w' := by
  have ht0 : PowTab w := powTab_of (by rw [MakeChecks.laidMetH_plain _ _ _ (by kernel_rfl)] at hL; exact hL)
  have HT : Hid (PowTab w) := ht0
  clear ht0 hL
  have h1 := i64_rng w_a0
  have S0 := fun w => spec_du a0 a1 a2 w h1
  have I0 := fun w (ht : PowTab w) => impl_du a0 a1 a2 w ht
  obtain ⟨s, hs⟩ : ∃ s, s = Num.duF a0 a1 a2 := ⟨_, rfl⟩
  rw [← hs] at S0 I0
  have SP := Lib.hid S0
  have IM := Lib.hid I0
  clear S0 I0 hs h1
  go_enter Tryd.func6, Tryd.ntmps6
  go_wp2_with fail
  have K0 := (Kept.start w).alloc2 (.int .i64 a0) (.int .i64 a1) 23 _ rfl
  refine (law_to _ _ _).mono ?_
  rintro e w1 ⟨rfl, hb⟩
  have K1 := K0.step hb
  clear hb K0
  go_wp2_with fail
  refine (SP.out _).mono ?_
  rintro e w2 ⟨rfl, hb⟩
  have K2 := K1.step hb
  clear hb K1
  have k1 := K2.get 0 rfl
  have k2 := K2.get 1 rfl
  go_wp2_with fail
  refine (law_to _ _ _).mono ?_
  rintro e w3 ⟨rfl, hb⟩
  have K3 := K2.step hb
  clear hb K2 k1 k2
  go_wp2_with fail
  refine (IM.out _ (HT.out.below K3.1 (Nat.le_refl _))).mono ?_
  rintro e w4 ⟨rfl, hb⟩
  have K4 := K3.step hb
  clear hb K3
  go_wp2
  go_ret
  exact ⟨rfl, K4.1⟩

/-! ### THE ROW's STEP -/
set_option maxRecDepth 100000 in
theorem lifted (os : Os) (started : os.Started) (H : Type) (enc : TypeId × Value → H) :
    ReturnsInHanded {} Tryd.checked os 6 .any (fun w args => (Rows.fnExactDecimalUpSpec.pre enc Tryd.prog Tryd.f6 [] false w args ∧ laidMetH Tryd.prog Rows.fnExactDecimalUpRow.laid w) ∧ sizedMet enc Tryd.prog Tryd.f6 (OpenSpec.ofChange Rows.fnExactDecimalUpSpec) false w args)
      (Rows.fnExactDecimalUpSpec.post enc Tryd.prog Tryd.f6 false true false false) := by
  refine returnsInHanded_of_change_and (C := Tryd.checked) (X := fun w _ => laidMetH Tryd.prog Rows.fnExactDecimalUpRow.laid w) (fun _ _ _ hh h => h.of_heap hh) own started (by kernel_rfl) Tryd.func6
    (ChangeSpec.witness_shaped (enc := enc) (C := Tryd.checked) (os := os) (X := fun w _ => laidMetH Tryd.prog Rows.fnExactDecimalUpRow.laid w) false (World.doorLaid Tryd.prog 400 os) #[.agg #[.int .i64 0, .int .i64 0], .int .i64 0] 8 rfl (World.shaped_of_RefB (by kernel_rfl) (by kernel_rfl)) (by kernel_rfl) (by kernel_rfl) (by kernel_rfl) (door_met os _)) ?_
  intro W base args ds gs before hval0 hW _ _ hL _
  have hval : ∀ (j : Nat) t v, Tryd.f6.params[j]? = some t → args[j]? = some v → Value.okWide Tryd.prog W .any base t v := hval0
  have hW' := hW
  obtain ⟨p, q, hA0, hV, rfl, hfz, hnd⟩ := hW
  have hA : DataW.TrodAll enc Tryd.prog W 0 (fun _ => true) true Tryd.f6.params.toList args.toList ds p := hA0
  rw [Tryd.params6] at hA hval
  obtain ⟨v0, vs0, d0, ds0, p0, q0, hargs, rfl, rfl, h0, r0⟩ := trodAll_cons hA
  obtain ⟨v1, vs1, d1, ds1, p1, q1, rfl, rfl, rfl, h1, r1⟩ := trodAll_cons r0
  obtain ⟨rfl, rfl, rfl⟩ := trodAll_nil r1
  obtain rfl : args = #[v0, v1] := by cases args; simp_all
  obtain ⟨rfl, rfl⟩ := trodVars_none hV
  obtain ⟨a0, a1, rfl, rfl, rfl, w_a0, w_a1⟩ := open_frac (hval 0 23 v0 rfl rfl) h0
  obtain ⟨a2, rfl, rfl, rfl, w_a2⟩ := open_int Tryd.underlying3 (hval 1 3 v1 rfl rfl) h1
  clear hA0 hval0
  simp only [List.append_nil] at hW'
  refine (walk a0 a1 a2 w_a0 w_a1 w_a2 W hL).mono fun e W' ⟨he, hg⟩ => ?_
  subst he
  exact ⟨_, rfl, _, _, _, [], _, [], hW', (trodAll_cons_mk (shut_bool Tryd.underlying4 _) trodAll_mk0), (trodAll_cons_mk (shut_frac w_a0 w_a1) (trodAll_cons_mk (shut_int Tryd.underlying3 w_a2) trodAll_mk0)), rfl, hg.frame _, fun h => by cases h⟩

theorem over : Rows.fnExactDecimalUpRow.holds Tryd.pinned (OpenSpec.ofChange Rows.fnExactDecimalUpSpec) :=
  OpenClaim.holds_of_wide 6 Tryd.f6 rfl rfl rfl rfl rfl rfl rfl ⟨rfl, rfl, rfl, rfl, rfl⟩ rfl rfl rfl rfl rfl (by kernel_rfl) Tryd.func6 (by kernel_rfl)
    (of_decide_eq_true (by kernel_rfl)) (by unfold Func.isWrapper; first | (rw [if_pos (by decide +kernel)]; kernel_rfl) | (rw [if_neg (by decide +kernel)]; exact ⟨rfl, rfl⟩))
    (fun os started H enc _ => lifted os started H enc)

/-- ████ THE STATEMENT: THE TIED CARD ████ -/
theorem proved : Rows.FnExactDecimalUpCardSaid :=
  Claim7.holds_tied_plain_at .later [] [.data, .data, .data] true (true, "07421b6332c7164a3407c69c4419e2f5cf8c8833873a875e9e9e45e647b01768") false
    over (fun _ h => by cases h) (by kernel_rfl) (fun _ h => by cases h) fnExactDecimalUp_row_tie rfl ⟨rfl, rfl⟩ (by kernel_rfl) rfl
    (fun f fn hf hfn => by
      obtain rfl : f = 6 := Option.some.inj ((show Tryd.prog.funcNamed "loop.example/g01927/laws.FnExactDecimalUp" = some 6 by kernel_rfl).symm.trans hf) |>.symm
      obtain rfl : fn = Tryd.f6 := (Option.some.inj (Tryd.func6.symm.trans hfn)).symm
      exact ⟨by kernel_rfl, fun j t ht => by
        rw [Tryd.params6] at ht
        have hm : t ∈ [23, 3] := by simpa using Array.mem_of_getElem? ht
        have hall : ([23, 3].all fun u => !Tryd.prog.wantsStandIn u) = true := by kernel_rfl
        exact (show Tryd.prog.wantsStandIn t = false by simpa using List.all_eq_true.1 hall t hm)⟩)
    (by kernel_rfl)
end Go.Proofs.YtphndncamgbonaaDoor.fnExactDecimalUp
