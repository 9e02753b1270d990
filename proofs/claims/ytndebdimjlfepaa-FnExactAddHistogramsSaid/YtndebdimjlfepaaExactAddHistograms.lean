/-
  Proved: for every two slices of ints, the law FnExactAddHistograms returns true (the project's AddHistograms answers as its model, leaves its arguments as they were, and hands back memory of its own). No condition.
-/
import Derived.Test.YtndebdimjlfepaaRows
import Derived.Test.YtndebdimjlfepaaMk
import Derived.Test.YtndebdimjlfepaaPlain
import Derived.Test.YtndebdimjlfepaaL1In
import Derived.Test.YtndebdimjlfepaaKeep
import Derived.Test.YtndebdimjlfepaaRvSpec
import Derived.Test.YtndebdimjlfepaaRwLaw
import Derived.Test.YtndebdimjlfepaaRwsOwn
import Derived.Test.YtndebdimjlfepaaArSpec
import Derived.Test.YtndebdimjlfepaaEqRows
import Derived.Test.YtndebdimjlfepaaFdSpec
import Derived.Test.YtndebdimjlfepaaRwsApp
import Derived.Test.YtndebdimjlfepaaBkPlain
import Derived.Test.YtndebdimjlfepaaRep
import Derived.Test.YtndebdimjlfepaaRwRep
import Derived.Test.YtndebdimjlfepaaMkRows
import Derived.Test.YtndebdimjlfepaaInv
import Derived.Test.YtndebdimjlfepaaBkOwn
import Derived.Test.YtndebdimjlfepaaIntOwn
import Derived.Test.YtndebdimjlfepaaIntLaw
import Derived.Test.YtndebdimjlfepaaIntArg
import Derived.Test.YtndebdimjlfepaaHgPlain
import Derived.Test.YtndebdimjlfepaaHgSpec
import Derived.Test.YtndebdimjlfepaaHgSpec2
import Derived.Test.YtndebdimjlfepaaIntStep
import Derived.Test.YtndebdimjlfepaaHgAdd
import Derived.Test.YtndebdimjlfepaaHgHist
import Derived.Test.YtndebdimjlfepaaCvPlain
import Derived.Test.YtndebdimjlfepaaCvLim
import Derived.Test.YtndebdimjlfepaaCvTot
import Derived.Test.YtndebdimjlfepaaCvEq
import Derived.Test.YtndebdimjlfepaaCvAv
import Derived.Test.YtndebdimjlfepaaCvOf
import Derived.Test.YtndebdimjlfepaaHgImpl
import Derived.Test.YtndebdimjlfepaaHgAddI
import Derived.Test.YtndebdimjlfepaaHgHistI
import Derived.Test.YtndebdimjlfepaaHgLaw
import Derived.Test.YtndebdimjlfepaaIntArg
import Derived.WalkKit
import Derived.ProofKit
import Derived.OpenShut
import Derived.ShutString
import Derived.ChangeOld
import Derived.Below
import Derived.Carry
namespace Go.Proofs.Ytndebdimjlfepaa.fnExactAddHistograms
open Go.ChangeShapes Go.WideShapes Go.ChangeAt Go.RowKit
open Go.ChangeMaps (open_string shut_string)
set_option linter.unusedVariables false

theorem own : ownKnob Try.prog.godebug = none := by kernel_rfl

/-! ### The walk -/
set_option maxRecDepth 100000 in
set_option maxHeartbeats 8000000 in
theorem walk (a0 : Option Addr) (a1 : Nat) (a2 : Nat) (a3 : Nat → Int) (a4 : Option Addr) (a5 : Nat) (a6 : Nat) (a7 : Nat → Int) (w : World) (w_a0_0 : IntsArg w a0 a1 a3) (w_a0_1 : a1 ≤ maxLen) (w_a4_0 : IntsArg w a4 a5 a7) (w_a4_1 : a5 ≤ maxLen) :
    Calls Try.prog 10 #[.slice a0 a1 a2, .slice a4 a5 a6] w fun e w' => e = .returned (.bool true) ∧ Below w.heap.size w w' := by
  have hmaxa1 : a1 ≤ 9223372036854775807 := Nat.le_trans w_a0_1 (by unfold maxLen; omega)
  by_cases hbiga1 : 1048576 < a1
  · have hbI : (1048576 : Int) < (a1 : Int) := by omega
    have hbM : (a1 : Int) ≤ 9223372036854775807 := by omega
    go_enter Try.func10, Try.ntmps10
    go_wp2
    go_ret
    exact ⟨rfl, Below.refl _ _⟩
  · have hn : a1 ≤ 1048576 := by omega
    have hnI : (a1 : Int) ≤ 1048576 := by omega
    have hmaxa5 : a5 ≤ 9223372036854775807 := Nat.le_trans w_a4_1 (by unfold maxLen; omega)
    by_cases hbiga5 : 1048576 < a5
    · have hbI : (1048576 : Int) < (a5 : Int) := by omega
      have hbM : (a5 : Int) ≤ 9223372036854775807 := by omega
      go_enter Try.func10, Try.ntmps10
      go_wp2
      go_ret
      exact ⟨rfl, Below.refl _ _⟩
    · have hn5 : a5 ≤ 1048576 := by omega
      have hnI5 : (a5 : Int) ≤ 1048576 := by omega
      have HA := Lib.hid w_a0_0
      have HB := Lib.hid w_a4_0
      obtain ⟨V, hV⟩ : ∃ V, V = addOkH (lsI a1 a3) (lsI a5 a7) := ⟨_, rfl⟩
      obtain ⟨HL, hHL⟩ : ∃ HL, HL = addH (lsI a1 a3) (lsI a5 a7) := ⟨_, rfl⟩
      have h12 : HL.length ≤ 1048576 := by
        rw [hHL]
        unfold addH
        split
        · unfold addC; rw [List.length_zipWith, lsI_len, lsI_len]; omega
        · simp
      have SP : Hid (∀ (g g5 : Nat) (w : World) (fp fp5 : List Nat), SliceRep intTy w (.slice (some ⟨g, 0, none⟩) a1 a1) (lsI a1 a3) fp → SliceRep intTy w (.slice (some ⟨g5, 0, none⟩) a5 a5) (lsI a5 a7) fp5 → Calls Try.prog 51 #[.slice (some ⟨g, 0, none⟩) a1 a1, .slice (some ⟨g5, 0, none⟩) a5 a5] w (IntsOk HL V w)) := (fun g g5 w fp fp5 hs hs5 => by rw [hHL, hV]; exact spec_addHV _ _ a1 a5 _ _ (lsI a1 a3) (lsI a5 a7) _ (lsI_len _ _) (lsI_len _ _) (by omega) (by omega) (ints_val hs) (ints_val hs5) : ∀ (g g5 : Nat) (w : World) (fp fp5 : List Nat), SliceRep intTy w (.slice (some ⟨g, 0, none⟩) a1 a1) (lsI a1 a3) fp → SliceRep intTy w (.slice (some ⟨g5, 0, none⟩) a5 a5) (lsI a5 a7) fp5 → Calls Try.prog 51 #[.slice (some ⟨g, 0, none⟩) a1 a1, .slice (some ⟨g5, 0, none⟩) a5 a5] w (IntsOk HL V w))
      have IM : Hid (∀ (g g5 : Nat) (w : World) (fp fp5 : List Nat), SliceRep intTy w (.slice (some ⟨g, 0, none⟩) a1 a1) (lsI a1 a3) fp → SliceRep intTy w (.slice (some ⟨g5, 0, none⟩) a5 a5) (lsI a5 a7) fp5 → Calls Try.prog 52 #[.slice (some ⟨g, 0, none⟩) a1 a1, .slice (some ⟨g5, 0, none⟩) a5 a5] w (IntsOk HL V w)) := (fun g g5 w fp fp5 hs hs5 => by rw [hHL, hV]; exact impl_addHV _ _ a1 a5 _ _ (lsI a1 a3) (lsI a5 a7) _ (lsI_len _ _) (lsI_len _ _) (by omega) (by omega) (ints_val hs) (ints_val hs5) : ∀ (g g5 : Nat) (w : World) (fp fp5 : List Nat), SliceRep intTy w (.slice (some ⟨g, 0, none⟩) a1 a1) (lsI a1 a3) fp → SliceRep intTy w (.slice (some ⟨g5, 0, none⟩) a5 a5) (lsI a5 a7) fp5 → Calls Try.prog 52 #[.slice (some ⟨g, 0, none⟩) a1 a1, .slice (some ⟨g5, 0, none⟩) a5 a5] w (IntsOk HL V w))
      have vq : (V != V) = false := by cases V <;> rfl
      clear hHL hV hbiga1 hmaxa1 w_a0_1 hbiga5 hmaxa5 w_a4_1
      go_enter Try.func10, Try.ntmps10
      go_wp2_with fail
      have I0 := Inv.of_kept (Kept.start w)
      go_wp2_with fail
      refine (law_toIsO a0 a1 a2 a3 _ hn (HA.out.below I0.below)).mono ?_
      rintro e w1 ⟨g1, fp1, rfl, hs, hf, hb⟩
      have I1 := I0.own (ownS intTy (.slice (some ⟨g1, 0, none⟩) a1 a1) (lsI a1 a3) fp1) hb hs hf
      clear hs hf hb I0
      go_wp2_with fail
      refine (law_toIsO a4 a5 a6 a7 _ hn5 (HB.out.below I1.below)).mono ?_
      rintro e w2 ⟨g2, fp2, rfl, hs, hf, hb⟩
      have I2 := I1.own (ownS intTy (.slice (some ⟨g2, 0, none⟩) a5 a5) (lsI a5 a7) fp2) hb hs hf
      clear hs hf hb I1
      go_wp2_with fail
      refine (SP.out _ _ _ _ _ (I2.at 1 rfl) (I2.at 0 rfl)).mono ?_
      rintro e w3 ⟨v, fp3, rfl, hs, hnd3, hf, hb⟩
      obtain ⟨ao3, c3, rfl, _, _⟩ := ints_open hs
      have I3 := I2.own (ownS intTy (.slice ao3 HL.length c3) HL fp3) hb hs hf
      clear hs hf hb I2
      go_wp2_with fail
      refine (law_toIsO a0 a1 a2 a3 _ hn (HA.out.below I3.below)).mono ?_
      rintro e w4 ⟨g4, fp4, rfl, hs, hf, hb⟩
      have I4 := I3.own (ownS intTy (.slice (some ⟨g4, 0, none⟩) a1 a1) (lsI a1 a3) fp4) hb hs hf
      clear hs hf hb I3
      go_wp2_with fail
      refine (law_toIsO a4 a5 a6 a7 _ hn5 (HB.out.below I4.below)).mono ?_
      rintro e w5 ⟨g5, fp5, rfl, hs, hf, hb⟩
      have I5 := I4.own (ownS intTy (.slice (some ⟨g5, 0, none⟩) a5 a5) (lsI a5 a7) fp5) hb hs hf
      clear hs hf hb I4
      go_wp2_with fail
      refine (IM.out _ _ _ _ _ (I5.at 1 rfl) (I5.at 0 rfl)).mono ?_
      rintro e w6 ⟨v, fp6, rfl, hs, hnd6, hf, hb⟩
      obtain ⟨ao6, c6, rfl, _, _⟩ := ints_open hs
      have I6 := I5.own (ownS intTy (.slice ao6 HL.length c6) HL fp6) hb hs hf
      clear hs hf hb I5
      go_wp2_with fail
      refine (law_eqI _ _ HL _ _ _ (by omega) (I6.at 0 rfl) (I6.at 3 rfl)).mono ?_
      rintro e w7 ⟨rfl, hb⟩
      have I7 := I6.step hb
      clear hb I6
      go_wp2_with fail
      refine (law_toIsO a0 a1 a2 a3 _ hn (HA.out.below I7.below)).mono ?_
      rintro e w8 ⟨g8, fp8, rfl, hs, hf, hb⟩
      have I8 := I7.own (ownS intTy (.slice (some ⟨g8, 0, none⟩) a1 a1) (lsI a1 a3) fp8) hb hs hf
      clear hs hf hb I7
      go_wp2_with fail
      refine (law_eqI _ _ (lsI a1 a3) _ _ _ (by rw [lsI_len]; omega) (I8.at 3 rfl) (I8.at 0 rfl)).mono ?_
      rintro e w9 ⟨rfl, hb⟩
      have I9 := I8.step hb
      clear hb I8
      go_wp2_with fail
      refine (law_toIsO a4 a5 a6 a7 _ hn5 (HB.out.below I9.below)).mono ?_
      rintro e w10 ⟨g10, fp10, rfl, hs, hf, hb⟩
      have I10 := I9.own (ownS intTy (.slice (some ⟨g10, 0, none⟩) a5 a5) (lsI a5 a7) fp10) hb hs hf
      clear hs hf hb I9
      go_wp2_with fail
      refine (law_eqI _ _ (lsI a5 a7) _ _ _ (by rw [lsI_len]; omega) (I10.at 3 rfl) (I10.at 0 rfl)).mono ?_
      rintro e w11 ⟨rfl, hb⟩
      have I11 := I10.step hb
      clear hb I10
      go_wp2_with fail
      refine (law_markI _ (lsI a1 a3) _ 1 _ (by rw [lsI_len]; omega) (by decide) (by decide) (I11.at 4 rfl)).mono ?_
      rintro e w12 ⟨rfl, hc, hs⟩
      have I12 := Inv.chg (S1 := [ownS intTy (.slice (some ⟨g10, 0, none⟩) a5 a5) (lsI a5 a7) fp10, ownS intTy (.slice (some ⟨g8, 0, none⟩) a1 a1) (lsI a1 a3) fp8, ownS intTy (.slice ao6 HL.length c6) HL fp6, ownS intTy (.slice (some ⟨g5, 0, none⟩) a5 a5) (lsI a5 a7) fp5]) (S2 := [ownS intTy (.slice ao3 HL.length c3) HL fp3, ownS intTy (.slice (some ⟨g2, 0, none⟩) a5 a5) (lsI a5 a7) fp2, ownS intTy (.slice (some ⟨g1, 0, none⟩) a1 a1) (lsI a1 a3) fp1]) (s := ownS intTy (.slice (some ⟨g4, 0, none⟩) a1 a1) (lsI a1 a3) fp4) I11 (ownS intTy (.slice (some ⟨g4, 0, none⟩) a1 a1) (markI 1 (lsI a1 a3).length) fp4) rfl hc hs
      clear hc hs I11
      obtain ⟨ka, hka⟩ : ∃ q, q = 1 + ((lsI a1 a3).length : Int) := ⟨_, rfl⟩
      rw [← hka]
      have kab : 0 ≤ ka ∧ ka ≤ 4000000 := by rw [hka, lsI_len]; omega
      clear hka
      obtain ⟨ka0, ka1⟩ := kab
      go_wp2_with fail
      refine (law_markI _ (lsI a5 a7) _ ka _ (by rw [lsI_len]; omega) ka0 (by omega) (I12.at 3 rfl)).mono ?_
      rintro e w13 ⟨rfl, hc, hs⟩
      have I13 := Inv.chg (S1 := [ownS intTy (.slice (some ⟨g10, 0, none⟩) a5 a5) (lsI a5 a7) fp10, ownS intTy (.slice (some ⟨g8, 0, none⟩) a1 a1) (lsI a1 a3) fp8, ownS intTy (.slice ao6 HL.length c6) HL fp6]) (S2 := [ownS intTy (.slice (some ⟨g4, 0, none⟩) a1 a1) (markI 1 (lsI a1 a3).length) fp4, ownS intTy (.slice ao3 HL.length c3) HL fp3, ownS intTy (.slice (some ⟨g2, 0, none⟩) a5 a5) (lsI a5 a7) fp2, ownS intTy (.slice (some ⟨g1, 0, none⟩) a1 a1) (lsI a1 a3) fp1]) (s := ownS intTy (.slice (some ⟨g5, 0, none⟩) a5 a5) (lsI a5 a7) fp5) I12 (ownS intTy (.slice (some ⟨g5, 0, none⟩) a5 a5) (markI ka (lsI a5 a7).length) fp5) rfl hc hs
      clear hc hs I12
      obtain ⟨kb, hkb⟩ : ∃ q, q = ka + ((lsI a5 a7).length : Int) := ⟨_, rfl⟩
      rw [← hkb]
      have kbb : 0 ≤ kb ∧ kb ≤ 8000000 := by rw [hkb, lsI_len]; omega
      clear hkb
      obtain ⟨kb0, kb1⟩ := kbb
      have kbz : ¬ kb < 0 := by omega
      have kbd : decide (kb < 0) = false := decide_eq_false kbz
      go_wp2_with fail
      refine (law_eqI _ _ HL _ _ _ (by omega) (I13.at 2 rfl) (I13.at 5 rfl)).mono ?_
      rintro e w14 ⟨rfl, hb⟩
      have I14 := I13.step hb
      clear hb I13
      go_wp2_with fail
      refine (law_markI _ HL _ 1 _ (by omega) (by decide) (by decide) (I14.at 2 rfl)).mono ?_
      rintro e w15 ⟨rfl, hc, hs⟩
      have I15 := Inv.chg (S1 := [ownS intTy (.slice (some ⟨g10, 0, none⟩) a5 a5) (lsI a5 a7) fp10, ownS intTy (.slice (some ⟨g8, 0, none⟩) a1 a1) (lsI a1 a3) fp8]) (S2 := [ownS intTy (.slice (some ⟨g5, 0, none⟩) a5 a5) (markI ka (lsI a5 a7).length) fp5, ownS intTy (.slice (some ⟨g4, 0, none⟩) a1 a1) (markI 1 (lsI a1 a3).length) fp4, ownS intTy (.slice ao3 HL.length c3) HL fp3, ownS intTy (.slice (some ⟨g2, 0, none⟩) a5 a5) (lsI a5 a7) fp2, ownS intTy (.slice (some ⟨g1, 0, none⟩) a1 a1) (lsI a1 a3) fp1]) (s := ownS intTy (.slice ao6 HL.length c6) HL fp6) I14 (ownS intTy (.slice ao6 HL.length c6) (markI 1 HL.length) fp6) rfl hc hs
      clear hc hs I14
      obtain ⟨mm, hmm⟩ : ∃ q, q = 1 + (HL.length : Int) := ⟨_, rfl⟩
      rw [← hmm]
      have mm0 : ¬ mm < 0 := by omega
      have mmd : decide (mm < 0) = false := decide_eq_false (by omega)
      have Hmm := Lib.hid hmm
      clear hmm
      have mmq : (mm != mm) = false := bne_self_eq_false _
      go_wp2_with fail
      refine (law_heldI _ HL.length fp6 1 _ (by omega) (by decide) (by decide) (I15.at 2 rfl)).mono ?_
      rintro e w16 ⟨rfl, hb⟩
      rw [← Hmm.out]
      have I16 := I15.step hb
      clear hb I15
      go_wp2_with fail
      refine (law_toIsO a0 a1 a2 a3 _ hn (HA.out.below I16.below)).mono ?_
      rintro e w17 ⟨g17, fp17, rfl, hs, hf, hb⟩
      have I17 := I16.own (ownS intTy (.slice (some ⟨g17, 0, none⟩) a1 a1) (lsI a1 a3) fp17) hb hs hf
      clear hs hf hb I16
      go_wp2_with fail
      refine (law_toIsO a4 a5 a6 a7 _ hn5 (HB.out.below I17.below)).mono ?_
      rintro e w18 ⟨g18, fp18, rfl, hs, hf, hb⟩
      have I18 := I17.own (ownS intTy (.slice (some ⟨g18, 0, none⟩) a5 a5) (lsI a5 a7) fp18) hb hs hf
      clear hs hf hb I17
      go_wp2_with fail
      refine (IM.out _ _ _ _ _ (I18.at 1 rfl) (I18.at 0 rfl)).mono ?_
      rintro e w19 ⟨v, fp19, rfl, hs, hnd19, hf, hb⟩
      obtain ⟨ao19, c19, rfl, _, _⟩ := ints_open hs
      have I19 := I18.own (ownS intTy (.slice ao19 HL.length c19) HL fp19) hb hs hf
      clear hs hf hb I18
      go_wp2_with fail
      refine (law_eqI _ _ HL _ _ _ (by omega) (I19.at 0 rfl) (I19.at 8 rfl)).mono ?_
      rintro e w20 ⟨rfl, hb⟩
      have I20 := I19.step hb
      clear hb I19
      go_wp2_with fail
      refine (law_heldI _ HL.length fp6 1 _ (by omega) (by decide) (by decide) (I20.at 5 rfl)).mono ?_
      rintro e w21 ⟨rfl, hb⟩
      rw [← Hmm.out]
      have I21 := I20.step hb
      clear hb I20
      go_wp2
      go_ret
      exact ⟨rfl, I21.below⟩

/-! ### THE ROW's STEP -/
set_option maxRecDepth 100000 in
theorem lifted (os : Os) (started : os.Started) (H : Type) (enc : TypeId × Value → H) :
    ReturnsInHanded {} Try.checked os 10 .any (Rows.fnExactAddHistogramsSpec.pre6 enc Try.prog Try.f10 Rows.fnExactAddHistogramsRow.domain false) (Rows.fnExactAddHistogramsSpec.post enc Try.prog Try.f10 false true false false) := by
  refine returnsInHanded_of_change (C := Try.checked) own started (by kernel_rfl) Try.func10
    (ChangeSpec.witness6 (enc := enc) (C := Try.checked) false ⟨#[], #[.slice none 0 0, .slice none 0 0], []⟩ 8 (by kernel_rfl) (by kernel_rfl) (by kernel_rfl) (by kernel_rfl)) ?_
  intro W base args ds gs before hval0 hW hcnd _
  have hval : ∀ (j : Nat) t v, Try.f10.params[j]? = some t → args[j]? = some v → Value.okWide Try.prog W .any base t v := hval0
  have hW' := hW
  obtain ⟨p, q, hA0, hV, rfl, hfz, hnd⟩ := hW
  have hA : DataW.TrodAll enc Try.prog W 0 (fun _ => true) true Try.f10.params.toList args.toList ds p := hA0
  rw [Try.params10] at hA hval
  obtain ⟨v0, vs0, d0, ds0, p0, q0, hargs, rfl, rfl, h0, r0⟩ := trodAll_cons hA
  obtain ⟨v1, vs1, d1, ds1, p1, q1, rfl, rfl, rfl, h1, r1⟩ := trodAll_cons r0
  obtain ⟨rfl, rfl, rfl⟩ := trodAll_nil r1
  obtain rfl : args = #[v0, v1] := by cases args; simp_all
  obtain ⟨rfl, rfl⟩ := trodVars_none hV
  have kk0 := h0
  have lt0 : ∀ x ∈ p0, x.block < W.heap.size := by obtain ⟨m, hm⟩ := kk0; exact DataW.trod_lt m _ _ _ hm
  obtain ⟨a0, a1, a2, rfl⟩ := okWide_slice Try.underlying45 (hval 0 45 v0 rfl rfl)
  obtain ⟨a3, w_a0_0, w_a0_1⟩ := open_intsA (fun _ => rfl) h0
  have kk1 := h1
  have lt1 : ∀ x ∈ p1, x.block < W.heap.size := by obtain ⟨m, hm⟩ := kk1; exact DataW.trod_lt m _ _ _ hm
  obtain ⟨a4, a5, a6, rfl⟩ := okWide_slice Try.underlying45 (hval 1 45 v1 rfl rfl)
  obtain ⟨a7, w_a4_0, w_a4_1⟩ := open_intsA (fun _ => rfl) h1
  clear hA0 hval0
  simp only [List.append_nil] at hW'
  refine (walk a0 a1 a2 a3 a4 a5 a6 a7 W w_a0_0 w_a0_1 w_a4_0 w_a4_1).mono fun e W' ⟨he, hg⟩ => ?_
  subst he
  exact ⟨_, rfl, _, _, _, [], _, [], hW', (trodAll_cons_mk (shut_bool Try.underlying4 _) trodAll_mk0), (trodAll_cons_mk (Below.trod (by kernel_rfl) (by kernel_rfl) (of_decide_eq_true (by kernel_rfl)) kk0 hg lt0) (trodAll_cons_mk (Below.trod (by kernel_rfl) (by kernel_rfl) (of_decide_eq_true (by kernel_rfl)) kk1 hg lt1) trodAll_mk0)), rfl, hg.frame _, fun h => by cases h⟩

theorem over : Rows.fnExactAddHistogramsRow.holds Try.pinned (OpenSpec.ofChange Rows.fnExactAddHistogramsSpec) :=
  OpenClaim.holds_of_wide 10 Try.f10 rfl rfl rfl rfl rfl rfl rfl ⟨rfl, rfl, rfl, rfl, rfl⟩ rfl rfl rfl rfl rfl (by kernel_rfl) Try.func10 (MkF.closed_of (by kernel_rfl) (by kernel_rfl) (by kernel_rfl) (by kernel_rfl) (by kernel_rfl) (by kernel_rfl) (by kernel_rfl) (by kernel_rfl) (by kernel_rfl) (by kernel_rfl) (by kernel_rfl) (by kernel_rfl) (by kernel_rfl) (by kernel_rfl) (by kernel_rfl) (by kernel_rfl) (by kernel_rfl) (by kernel_rfl) (by kernel_rfl) (by kernel_rfl) (by kernel_rfl) (by kernel_rfl) (by kernel_rfl) (by kernel_rfl) (by kernel_rfl) MkF.mk_enter (MkF.lifts_eq MkF.mk_lifts rfl) (MkF.make_eq MkF.mk_make rfl) (by kernel_rfl) (by kernel_rfl) (by kernel_rfl) (by kernel_rfl))
    (of_decide_eq_true (by kernel_rfl)) (by unfold Func.isWrapper; first | (rw [if_pos (by decide +kernel)]; kernel_rfl) | (rw [if_neg (by decide +kernel)]; exact ⟨rfl, rfl⟩))
    (fun os started H enc _ => lifted os started H enc)

/-- ████ THE STATEMENT ████ -/
theorem proved : Rows.FnExactAddHistogramsSaid :=
  over
end Go.Proofs.Ytndebdimjlfepaa.fnExactAddHistograms
