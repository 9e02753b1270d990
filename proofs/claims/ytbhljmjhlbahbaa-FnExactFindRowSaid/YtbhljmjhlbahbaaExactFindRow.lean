/-
  Proved: for every slice of rows and every int, the law FnExactFindRow returns true (the project's FindRow answers as its model and leaves its argument as it was). No condition.
-/
import Derived.Test.YtbhljmjhlbahbaaRows
import Derived.Test.YtbhljmjhlbahbaaPlain
import Derived.Test.YtbhljmjhlbahbaaL1In
import Derived.Test.YtbhljmjhlbahbaaKeep
import Derived.Test.YtbhljmjhlbahbaaRvSpec
import Derived.Test.YtbhljmjhlbahbaaRwLaw
import Derived.Test.YtbhljmjhlbahbaaRwsOwn
import Derived.Test.YtbhljmjhlbahbaaArSpec
import Derived.Test.YtbhljmjhlbahbaaFdSpec
import Derived.Test.YtbhljmjhlbahbaaEqRows
import Derived.Test.YtbhljmjhlbahbaaFdImpl
import Derived.Test.YtbhljmjhlbahbaaRowsArg
import Derived.WalkKit
import Derived.ProofKit
import Derived.OpenShut
import Derived.ShutString
import Derived.ChangeOld
import Derived.Below
import Derived.Carry
namespace Go.Proofs.Ytbhljmjhlbahbaa.fnExactFindRow
open Go.ChangeShapes Go.WideShapes Go.ChangeAt Go.RowKit
open Go.ChangeMaps (open_string shut_string)
set_option linter.unusedVariables false

theorem own : ownKnob Try.prog.godebug = none := by kernel_rfl

/-! ### The walk -/
set_option maxRecDepth 100000 in
set_option maxHeartbeats 8000000 in
theorem walk (a0 : Option Addr) (a1 : Nat) (a2 : Nat) (a3 : Nat → Rw) (a4 : Int) (w : World) (w_a0_0 : RowsArg w a0 a1 a3) (w_a0_1 : a1 ≤ maxLen) (w_a4 : (Lit.int .i64 a4).wf = true) :
    Calls Try.prog 5 #[.slice a0 a1 a2, .int .i64 a4] w fun e w' => e = .returned (.bool true) ∧ Below w.heap.size w w' := by
  have hmax : a1 ≤ 9223372036854775807 := Nat.le_trans w_a0_1 (by unfold maxLen; omega)
  by_cases hbig : 1048576 < a1
  · go_enter Try.func5, Try.ntmps5
    go_wp2_with fail
    refine (law_sz_big a0 a1 a2 _ hbig hmax).mono ?_
    rintro e w' ⟨rfl, rfl⟩
    go_wp2
    go_ret
    exact ⟨rfl, Below.refl _ _⟩
  · have hn : a1 ≤ 1048576 := by omega
    have hnI : (a1 : Int) ≤ 1048576 := by omega
    have hz : ¬ (1048576 - (a1 : Int)) < 0 := by omega
    have hzd : decide ((1048576 - (a1 : Int)) < 0) = false := decide_eq_false hz
    have HA := Lib.hid w_a0_0
    clear hbig hmax w_a0_1
    go_enter Try.func5, Try.ntmps5
    go_wp2_with fail
    refine (law_sz a0 a1 a2 _ hn).mono ?_
    rintro e w' ⟨rfl, rfl⟩
    go_wp2_with fail
    refine (law_toRs a0 a1 a2 a3 _ hn HA.out).mono ?_
    rintro e w1 ⟨rfl, H1⟩
    have G1 := Lib.hid H1
    have K1 := (Kept.start w).step H1.1
    clear H1
    go_wp2_with fail
    refine (spec_fd _ a1 _ a4 a3 _ hn G1.out.2.2.2.2).mono ?_
    rintro e w2 ⟨v, hv, rfl, hb⟩
    have HV := Lib.hid hv
    clear hv
    have K2 := K1.step hb
    clear hb K1
    go_wp2_with fail
    refine (law_toRs a0 a1 a2 a3 _ hn (HA.out.below K2.1)).mono ?_
    rintro e w3 ⟨rfl, H3⟩
    have G3 := Lib.hid H3
    have K3 := K2.step H3.1
    clear H3 K2
    go_wp2_with fail
    refine (impl_fd _ a1 _ a4 a3 _ hn G3.out.2.2.1 G3.out.2.2.2.2).mono ?_
    rintro e w4 ⟨v', hv', rfl, hb⟩
    obtain rfl := FdAns_unique HV.out hv'
    clear hv'
    have G4 := Lib.hid (G3.out.step hb)
    have K4 := K3.step hb
    clear hb K3
    go_wp2_with fail
    refine (law_toRs a0 a1 a2 a3 _ hn (HA.out.below K4.1)).mono ?_
    rintro e w5 ⟨rfl, H5⟩
    have G5 := Lib.hid H5
    have G6 := Lib.hid (G4.out.step H5.1)
    have K5 := K4.step H5.1
    clear H5 K4
    go_wp2_with fail
    refine (law_eqRs _ _ a1 _ _ a3 _ hn G6.out.2.2.1 G5.out.2.2.1 G6.out.2.2.2.2 G5.out.2.2.2.2).mono ?_
    rintro e w6 ⟨rfl, hb⟩
    have K6 := K5.step hb
    clear hb K5
    go_wp2
    go_ret
    exact ⟨rfl, K6.1⟩

/-! ### THE ROW's STEP -/
set_option maxRecDepth 100000 in
theorem lifted (os : Os) (started : os.Started) (H : Type) (enc : TypeId × Value → H) :
    ReturnsInHanded {} Try.checked os 5 .any (Rows.fnExactFindRowSpec.pre6 enc Try.prog Try.f5 Rows.fnExactFindRowRow.domain false) (Rows.fnExactFindRowSpec.post enc Try.prog Try.f5 false true false false) := by
  refine returnsInHanded_of_change (C := Try.checked) own started (by kernel_rfl) Try.func5
    (ChangeSpec.witness6 (enc := enc) (C := Try.checked) false ⟨#[], #[.slice none 0 0, .int .i64 0], []⟩ 8 (by kernel_rfl) (by kernel_rfl) (by kernel_rfl) (by kernel_rfl)) ?_
  intro W base args ds gs before hval0 hW hcnd _
  have hval : ∀ (j : Nat) t v, Try.f5.params[j]? = some t → args[j]? = some v → Value.okWide Try.prog W .any base t v := hval0
  have hW' := hW
  obtain ⟨p, q, hA0, hV, rfl, hfz, hnd⟩ := hW
  have hA : DataW.TrodAll enc Try.prog W 0 (fun _ => true) true Try.f5.params.toList args.toList ds p := hA0
  rw [Try.params5] at hA hval
  obtain ⟨v0, vs0, d0, ds0, p0, q0, hargs, rfl, rfl, h0, r0⟩ := trodAll_cons hA
  obtain ⟨v1, vs1, d1, ds1, p1, q1, rfl, rfl, rfl, h1, r1⟩ := trodAll_cons r0
  obtain ⟨rfl, rfl, rfl⟩ := trodAll_nil r1
  obtain rfl : args = #[v0, v1] := by cases args; simp_all
  obtain ⟨rfl, rfl⟩ := trodVars_none hV
  have kk0 := h0
  have lt0 : ∀ x ∈ p0, x.block < W.heap.size := by obtain ⟨m, hm⟩ := kk0; exact DataW.trod_lt m _ _ _ hm
  obtain ⟨a0, a1, a2, rfl⟩ := okWide_slice Try.underlying28 (hval 0 28 v0 rfl rfl)
  obtain ⟨a3, w_a0_0, w_a0_1⟩ := open_rows (fun _ => rfl) h0
  obtain ⟨a4, rfl, rfl, rfl, w_a4⟩ := open_int Try.underlying3 (hval 1 3 v1 rfl rfl) h1
  clear hA0 hval0
  simp only [List.append_nil] at hW'
  refine (walk a0 a1 a2 a3 a4 W w_a0_0 w_a0_1 w_a4).mono fun e W' ⟨he, hg⟩ => ?_
  subst he
  exact ⟨_, rfl, _, _, _, [], _, [], hW', (trodAll_cons_mk (shut_bool Try.underlying4 _) trodAll_mk0), (trodAll_cons_mk (Below.trod (by kernel_rfl) (by kernel_rfl) (of_decide_eq_true (by kernel_rfl)) kk0 hg lt0) (trodAll_cons_mk (shut_int Try.underlying3 w_a4) trodAll_mk0)), rfl, hg.frame _, fun h => by cases h⟩

theorem over : Rows.fnExactFindRowRow.holds Try.pinned (OpenSpec.ofChange Rows.fnExactFindRowSpec) :=
  OpenClaim.holds_of_wide 5 Try.f5 rfl rfl rfl rfl rfl rfl rfl ⟨rfl, rfl, rfl, rfl, rfl⟩ rfl rfl rfl rfl rfl (by kernel_rfl) Try.func5 (by kernel_rfl)
    (of_decide_eq_true (by kernel_rfl)) (by unfold Func.isWrapper; first | (rw [if_pos (by decide +kernel)]; kernel_rfl) | (rw [if_neg (by decide +kernel)]; exact ⟨rfl, rfl⟩))
    (fun os started H enc _ => lifted os started H enc)

/-- ████ THE STATEMENT ████ -/
theorem proved : Rows.FnExactFindRowSaid :=
  over
end Go.Proofs.Ytbhljmjhlbahbaa.fnExactFindRow
