/-
  Proved: for every slice of rows, the law FnExactAreRows returns true (the project's AreRows answers as its model and leaves its argument as it was). No condition.
-/
import Derived.Test.YtndebdimjlfepaaRows
import Derived.Test.YtndebdimjlfepaaMk
import Derived.Test.YtndebdimjlfepaaPlain
import Derived.Test.YtndebdimjlfepaaL1In
import Derived.Test.YtndebdimjlfepaaKeep
import Derived.Test.YtndebdimjlfepaaRvSpec
import Derived.Test.YtndebdimjlfepaaRwLaw
import Derived.Test.YtndebdimjlfepaaRwsOwn
import Derived.Test.YtndebdimjlfepaaArSpec
import Derived.Test.YtndebdimjlfepaaFdSpec
import Derived.Test.YtndebdimjlfepaaEqRows
import Derived.Test.YtndebdimjlfepaaArImpl
import Derived.Test.YtndebdimjlfepaaRowsArg
import Derived.WalkKit
import Derived.ProofKit
import Derived.OpenShut
import Derived.ShutString
import Derived.ChangeOld
import Derived.Below
import Derived.Carry
namespace Go.Proofs.Ytndebdimjlfepaa.fnExactAreRows
open Go.ChangeShapes Go.WideShapes Go.ChangeAt Go.RowKit
open Go.ChangeMaps (open_string shut_string)
set_option linter.unusedVariables false

theorem own : ownKnob Try.prog.godebug = none := by kernel_rfl

/-! ### The walk -/
set_option maxRecDepth 100000 in
set_option maxHeartbeats 8000000 in
theorem walk (a0 : Option Addr) (a1 : Nat) (a2 : Nat) (a3 : Nat → Rw) (w : World) (w_a0_0 : RowsArg w a0 a1 a3) (w_a0_1 : a1 ≤ maxLen) :
    Calls Try.prog 13 #[.slice a0 a1 a2] w fun e w' => e = .returned (.bool true) ∧ Below w.heap.size w w' := by
  have hmax : a1 ≤ 9223372036854775807 := Nat.le_trans w_a0_1 (by unfold maxLen; omega)
  by_cases hbig : 1048576 < a1
  · go_enter Try.func13, Try.ntmps13
    go_wp2_with fail
    refine (law_sz_big a0 a1 a2 _ hbig hmax).mono ?_
    rintro e w' ⟨rfl, rfl⟩
    go_wp2
    go_ret
    exact ⟨rfl, Below.refl _ _⟩
  · have hn : a1 ≤ 1048576 := by omega
    have hnI : (a1 : Int) ≤ 1048576 := by omega
    have hz : ¬ (1048576 - (a1 : Int)) < 0 := by omega
    have hzd : decide ((1048576 - (a1 : Int)) < 0) = false := decide_eq_false hz
    have HA := Lib.hid w_a0_0
    clear hbig hmax w_a0_1
    go_enter Try.func13, Try.ntmps13
    go_wp2_with fail
    refine (law_sz a0 a1 a2 _ hn).mono ?_
    rintro e w' ⟨rfl, rfl⟩
    go_wp2_with fail
    refine (law_toRs a0 a1 a2 a3 _ hn HA.out).mono ?_
    rintro e w1 ⟨rfl, H1⟩
    have G1 := Lib.hid H1
    have K1 := (Kept.start w).step H1.1
    clear H1
    go_wp2_with fail
    refine (spec_ar _ a1 _ a3 _ hn G1.out.2.2.1 G1.out.2.2.2.2).mono ?_
    rintro e w2 ⟨rfl, hb⟩
    obtain ⟨v, hv⟩ : ∃ v, v = areB a3 a1 := ⟨_, rfl⟩
    rw [← hv]
    have HV := Lib.hid hv
    clear hv
    have K2 := K1.step hb
    clear hb K1
    go_wp2_with fail
    refine (law_toRs a0 a1 a2 a3 _ hn (HA.out.below K2.1)).mono ?_
    rintro e w3 ⟨rfl, H3⟩
    have G3 := Lib.hid H3
    have K3 := K2.step H3.1
    clear H3 K2
    go_wp2_with fail
    refine (impl_ar _ a1 _ a3 _ hn G3.out.2.2.1 G3.out.2.2.2.2).mono ?_
    rintro e w4 ⟨rfl, hb⟩
    rw [← HV.out]
    have G4 := Lib.hid (G3.out.step hb)
    have K4 := K3.step hb
    clear hb K3
    go_wp2_with fail
    refine (law_toRs a0 a1 a2 a3 _ hn (HA.out.below K4.1)).mono ?_
    rintro e w5 ⟨rfl, H5⟩
    have G5 := Lib.hid H5
    have G6 := Lib.hid (G4.out.step H5.1)
    have K5 := K4.step H5.1
    clear H5 K4
    go_wp2_with fail
    refine (law_eqRs _ _ a1 _ _ a3 _ hn G6.out.2.2.1 G5.out.2.2.1 G6.out.2.2.2.2 G5.out.2.2.2.2).mono ?_
    rintro e w6 ⟨rfl, hb⟩
    have K6 := K5.step hb
    clear hb K5
    cases v
    · go_wp2
      go_ret
      exact ⟨rfl, K6.1⟩
    · go_wp2
      go_ret
      exact ⟨rfl, K6.1⟩

/-! ### THE ROW's STEP -/
set_option maxRecDepth 100000 in
theorem lifted (os : Os) (started : os.Started) (H : Type) (enc : TypeId × Value → H) :
    ReturnsInHanded {} Try.checked os 13 .any (Rows.fnExactAreRowsSpec.pre6 enc Try.prog Try.f13 Rows.fnExactAreRowsRow.domain false) (Rows.fnExactAreRowsSpec.post enc Try.prog Try.f13 false true false false) := by
  refine returnsInHanded_of_change (C := Try.checked) own started (by kernel_rfl) Try.func13
    (ChangeSpec.witness6 (enc := enc) (C := Try.checked) false ⟨#[], #[.slice none 0 0], []⟩ 8 (by kernel_rfl) (by kernel_rfl) (by kernel_rfl) (by kernel_rfl)) ?_
  intro W base args ds gs before hval0 hW hcnd _
  have hval : ∀ (j : Nat) t v, Try.f13.params[j]? = some t → args[j]? = some v → Value.okWide Try.prog W .any base t v := hval0
  have hW' := hW
  obtain ⟨p, q, hA0, hV, rfl, hfz, hnd⟩ := hW
  have hA : DataW.TrodAll enc Try.prog W 0 (fun _ => true) true Try.f13.params.toList args.toList ds p := hA0
  rw [Try.params13] at hA hval
  obtain ⟨v0, vs0, d0, ds0, p0, q0, hargs, rfl, rfl, h0, r0⟩ := trodAll_cons hA
  obtain ⟨rfl, rfl, rfl⟩ := trodAll_nil r0
  obtain rfl : args = #[v0] := by cases args; simp_all
  obtain ⟨rfl, rfl⟩ := trodVars_none hV
  have kk0 := h0
  have lt0 : ∀ x ∈ p0, x.block < W.heap.size := by obtain ⟨m, hm⟩ := kk0; exact DataW.trod_lt m _ _ _ hm
  obtain ⟨a0, a1, a2, rfl⟩ := okWide_slice Try.underlying57 (hval 0 57 v0 rfl rfl)
  obtain ⟨a3, w_a0_0, w_a0_1⟩ := open_rows (fun _ => rfl) h0
  clear hA0 hval0
  simp only [List.append_nil] at hW'
  refine (walk a0 a1 a2 a3 W w_a0_0 w_a0_1).mono fun e W' ⟨he, hg⟩ => ?_
  subst he
  exact ⟨_, rfl, _, _, _, [], _, [], hW', (trodAll_cons_mk (shut_bool Try.underlying4 _) trodAll_mk0), (trodAll_cons_mk (Below.trod (by kernel_rfl) (by kernel_rfl) (of_decide_eq_true (by kernel_rfl)) kk0 hg lt0) trodAll_mk0), rfl, hg.frame _, fun h => by cases h⟩

theorem over : Rows.fnExactAreRowsRow.holds Try.pinned (OpenSpec.ofChange Rows.fnExactAreRowsSpec) :=
  OpenClaim.holds_of_wide 13 Try.f13 rfl rfl rfl rfl rfl rfl rfl ⟨rfl, rfl, rfl, rfl, rfl⟩ rfl rfl rfl rfl rfl (by kernel_rfl) Try.func13 (MkF.closed_of (by kernel_rfl) (by kernel_rfl) (by kernel_rfl) (by kernel_rfl) (by kernel_rfl) (by kernel_rfl) (by kernel_rfl) (by kernel_rfl) (by kernel_rfl) (by kernel_rfl) (by kernel_rfl) (by kernel_rfl) (by kernel_rfl) (by kernel_rfl) (by kernel_rfl) (by kernel_rfl) (by kernel_rfl) (by kernel_rfl) (by kernel_rfl) (by kernel_rfl) (by kernel_rfl) (by kernel_rfl) (by kernel_rfl) (by kernel_rfl) (by kernel_rfl) MkF.mk_enter (MkF.lifts_eq MkF.mk_lifts rfl) (MkF.make_eq MkF.mk_make rfl) (by kernel_rfl) (by kernel_rfl) (by kernel_rfl) (by kernel_rfl))
    (of_decide_eq_true (by kernel_rfl)) (by unfold Func.isWrapper; first | (rw [if_pos (by decide +kernel)]; kernel_rfl) | (rw [if_neg (by decide +kernel)]; exact ⟨rfl, rfl⟩))
    (fun os started H enc _ => lifted os started H enc)

/-- ████ THE STATEMENT ████ -/
theorem proved : Rows.FnExactAreRowsSaid :=
  over
end Go.Proofs.Ytndebdimjlfepaa.fnExactAreRows
