/-
  Proved: for every two summaries, the law FnExactMergeSummaries returns true (the project's MergeSummaries answers as its model, leaves its arguments as they were, and hands back memory of its own). No condition.
-/
import Derived.Test.YtcfcohnkkgickaaRows
import Derived.Test.YtcfcohnkkgickaaMk
import Derived.Test.YtcfcohnkkgickaaPlain
import Derived.Test.YtcfcohnkkgickaaL1In
import Derived.Test.YtcfcohnkkgickaaKeep
import Derived.Test.YtcfcohnkkgickaaInv
import Derived.Test.YtcfcohnkkgickaaIntOwn
import Derived.Test.YtcfcohnkkgickaaIntLaw
import Derived.Test.YtcfcohnkkgickaaIntArg
import Derived.Test.YtcfcohnkkgickaaSmPlain
import Derived.Test.YtcfcohnkkgickaaSmLaw
import Derived.Test.YtcfcohnkkgickaaHgVal
import Derived.Test.YtcfcohnkkgickaaLimbs
import Derived.Test.YtcfcohnkkgickaaSmArg
import Derived.Test.YtcfcohnkkgickaaSmMrgI
import Derived.Test.YtcfcohnkkgickaaSmInv
import Derived.Test.YtcfcohnkkgickaaSmMrgO
import Derived.Test.YtcfcohnkkgickaaSmArg
import Derived.WalkKit
import Derived.ProofKit
import Derived.OpenShut
import Derived.ShutString
import Derived.ChangeOld
import Derived.Below
import Derived.Carry
namespace Go.Proofs.Ytcfcohnkkgickaa.fnExactMergeSummaries
open Go.ChangeShapes Go.WideShapes Go.ChangeAt Go.RowKit
open Go.ChangeMaps (open_string shut_string)
set_option linter.unusedVariables false

theorem own : ownKnob Try.prog.godebug = none := by kernel_rfl

/-! ### The walk -/
set_option maxRecDepth 100000 in
set_option maxHeartbeats 8000000 in
theorem walk (a0 : Int) (a1 : Int) (a2 : Int) (a3 : Int) (a4 : Int) (a5 : Int) (a6 : Option Addr) (a7 : Nat) (a8 : Nat) (a9 : Nat → Int) (a10 : Int) (a11 : Int) (a12 : Int) (a13 : Int) (a14 : Int) (a15 : Int) (a16 : Option Addr) (a17 : Nat) (a18 : Nat) (a19 : Nat → Int) (w : World) (w_a0_0 : (Lit.int .i64 a0).wf = true) (w_a0_1 : (Lit.int .i64 a1).wf = true) (w_a0_2 : (Lit.int .i64 a2).wf = true) (w_a0_3 : (Lit.int .i64 a3).wf = true) (w_a0_4 : (Lit.int .i64 a4).wf = true) (w_a0_5 : (Lit.int .i64 a5).wf = true) (w_a0_6 : IntsArg w a6 a7 a9) (w_a0_7 : a7 ≤ maxLen) (w_a10_0 : (Lit.int .i64 a10).wf = true) (w_a10_1 : (Lit.int .i64 a11).wf = true) (w_a10_2 : (Lit.int .i64 a12).wf = true) (w_a10_3 : (Lit.int .i64 a13).wf = true) (w_a10_4 : (Lit.int .i64 a14).wf = true) (w_a10_5 : (Lit.int .i64 a15).wf = true) (w_a10_6 : IntsArg w a16 a17 a19) (w_a10_7 : a17 ≤ maxLen) :
    Calls Try.prog 9 #[.agg #[.int .i64 a0, .int .i64 a1, .int .i64 a2, .int .i64 a3, .int .i64 a4, .int .i64 a5, .slice a6 a7 a8], .agg #[.int .i64 a10, .int .i64 a11, .int .i64 a12, .int .i64 a13, .int .i64 a14, .int .i64 a15, .slice a16 a17 a18]] w fun e w' => e = .returned (.bool true) ∧ Below w.heap.size w w' := by
  have HA0 := Lib.hid w_a0_6
  have hm0 : a7 ≤ 9223372036854775807 := Nat.le_trans w_a0_7 (by unfold maxLen; omega)
  clear w_a0_6 w_a0_7
  have HA10 := Lib.hid w_a10_6
  have hm10 : a17 ≤ 9223372036854775807 := Nat.le_trans w_a10_7 (by unfold maxLen; omega)
  clear w_a10_6 w_a10_7
  go_enter Try.func9, Try.ntmps9
  go_wp2_with fail
  have K0 := (((Kept.start w).alloc7 (.int .i64 a0) (.int .i64 a1) (.int .i64 a2) (.int .i64 a3) (.int .i64 a4) (.int .i64 a5) (.slice a6 a7 a8) 87 (w.heap.size) rfl).alloc7 (.int .i64 a10) (.int .i64 a11) (.int .i64 a12) (.int .i64 a13) (.int .i64 a14) (.int .i64 a15) (.slice a16 a17 a18) 87 (w.heap.size + 1) (by simp))
  by_cases hb0 : 1048576 < (a7 : Int)
  · refine (law_szS_big a0 a1 a2 a3 a4 a5 a6 a7 a8 (1048576) _ (by omega) (by omega) hb0 hm0).mono ?_
    rintro e wz0 ⟨rfl, hb⟩
    have KZ := K0.step hb
    clear hb
    go_wp2
    go_ret
    exact ⟨rfl, KZ.1⟩
  · have hr0 : (a7 : Int) ≤ 1048576 := by omega
    have hn0 : a7 ≤ 1048576 := by omega
    clear hb0 hm0
    refine (law_szS a0 a1 a2 a3 a4 a5 a6 a7 a8 (1048576) _ (by omega) (by omega) hr0).mono ?_
    rintro e wz0 ⟨rfl, hb⟩
    have KS0 := K0.step hb
    clear hb
    obtain ⟨lf0, hlf0⟩ : ∃ q, q = 1048576 - (a7 : Int) := ⟨_, rfl⟩
    rw [← hlf0]
    have lfz0 : ¬ lf0 < 0 := by omega
    have lfd0 : decide (lf0 < 0) = false := decide_eq_false lfz0
    have lf00 : 0 ≤ lf0 := by omega
    have lf10 : lf0 ≤ 1048576 := by omega
    clear hlf0 hr0

    have x0 := KS0.get 0 rfl
    have x1 := KS0.get 1 rfl
    have x2 := KS0.get 2 rfl
    have x3 := KS0.get 3 rfl
    have x4 := KS0.get 4 rfl
    have x5 := KS0.get 5 rfl
    have x6 := KS0.get 6 rfl
    go_wp2_with fail
    clear x0 x1 x2 x3 x4 x5 x6
    by_cases hb10 : lf0 < (a17 : Int)
    · refine (law_szS_big a10 a11 a12 a13 a14 a15 a16 a17 a18 (lf0) _ (by omega) (by omega) hb10 hm10).mono ?_
      rintro e wz1 ⟨rfl, hb⟩
      have KZ := KS0.step hb
      clear hb
      go_wp2
      go_ret
      exact ⟨rfl, KZ.1⟩
    · have hr10 : (a17 : Int) ≤ lf0 := by omega
      have hn10 : a17 ≤ 1048576 := by omega
      clear hb10 hm10
      refine (law_szS a10 a11 a12 a13 a14 a15 a16 a17 a18 (lf0) _ (by omega) (by omega) hr10).mono ?_
      rintro e wz1 ⟨rfl, hb⟩
      have KS1 := KS0.step hb
      clear hb
      obtain ⟨lf1, hlf1⟩ : ∃ q, q = lf0 - (a17 : Int) := ⟨_, rfl⟩
      rw [← hlf1]
      have lfz1 : ¬ lf1 < 0 := by omega
      have lfd1 : decide (lf1 < 0) = false := decide_eq_false lfz1
      have lf01 : 0 ≤ lf1 := by omega
      have lf11 : lf1 ≤ 1048576 := by omega
      clear hlf1 hr10

      have I0 := Inv.of_kept (KS1)
      clear K0 KS0 KS1
      obtain ⟨⟨vb, vc, vu, vm, vx, vs, VH⟩, hV⟩ : ∃ z : Sm, z = mrgS (⟨a0, a1, a2, a3, a4, a5, (lsI a7 a9)⟩ : Sm) (⟨a10, a11, a12, a13, a14, a15, (lsI a17 a19)⟩ : Sm) := ⟨_, rfl⟩
      obtain ⟨OKV, hOKV⟩ : ∃ z, z = mrgB (⟨a0, a1, a2, a3, a4, a5, (lsI a7 a9)⟩ : Sm) (⟨a10, a11, a12, a13, a14, a15, (lsI a17 a19)⟩ : Sm) := ⟨_, rfl⟩
      have h12 : VH.length ≤ 12 := by
        have h := mrgS_len (⟨a0, a1, a2, a3, a4, a5, (lsI a7 a9)⟩ : Sm) (⟨a10, a11, a12, a13, a14, a15, (lsI a17 a19)⟩ : Sm)
        rw [← hV] at h
        exact h
      have SP : Hid (∀ (g g9 : Nat) (w : World) (fp fp9 : List Nat), SliceRep intTy w (.slice (some ⟨g, 0, none⟩) a7 a7) (lsI a7 a9) fp → SliceRep intTy w (.slice (some ⟨g9, 0, none⟩) a17 a17) (lsI a17 a19) fp9 → Calls Try.prog 63 #[.agg #[.int .i64 a0, .int .i64 a1, .int .i64 a2, .int .i64 a3, .int .i64 a4, .int .i64 a5, .slice (some ⟨g, 0, none⟩) a7 a7], .agg #[.int .i64 a10, .int .i64 a11, .int .i64 a12, .int .i64 a13, .int .i64 a14, .int .i64 a15, .slice (some ⟨g9, 0, none⟩) a17 a17]] w (SmOk2 vb vc vu vm vx vs VH OKV w)) := (fun g g9 w fp fp9 hs hs9 => by
        have h := spec_mrg a0 a1 a2 a3 a4 a5 (some ⟨g, 0, none⟩) a7 a7 (lsI a7 a9) a10 a11 a12 a13 a14 a15 (some ⟨g9, 0, none⟩) a17 a17 (lsI a17 a19) w (lsI_len _ _) (lsI_len _ _) (by omega) (by omega) (ints_val hs) (ints_val hs9) ⟨vb, vc, vu, vm, vx, vs, VH⟩ hV
        rw [← hOKV] at h
        exact h : ∀ (g g9 : Nat) (w : World) (fp fp9 : List Nat), SliceRep intTy w (.slice (some ⟨g, 0, none⟩) a7 a7) (lsI a7 a9) fp → SliceRep intTy w (.slice (some ⟨g9, 0, none⟩) a17 a17) (lsI a17 a19) fp9 → Calls Try.prog 63 #[.agg #[.int .i64 a0, .int .i64 a1, .int .i64 a2, .int .i64 a3, .int .i64 a4, .int .i64 a5, .slice (some ⟨g, 0, none⟩) a7 a7], .agg #[.int .i64 a10, .int .i64 a11, .int .i64 a12, .int .i64 a13, .int .i64 a14, .int .i64 a15, .slice (some ⟨g9, 0, none⟩) a17 a17]] w (SmOk2 vb vc vu vm vx vs VH OKV w))
      have IM : Hid (∀ (g g9 : Nat) (w : World) (fp fp9 : List Nat), SliceRep intTy w (.slice (some ⟨g, 0, none⟩) a7 a7) (lsI a7 a9) fp → SliceRep intTy w (.slice (some ⟨g9, 0, none⟩) a17 a17) (lsI a17 a19) fp9 → Calls Try.prog 64 #[.agg #[.int .i64 a0, .int .i64 a1, .int .i64 a2, .int .i64 a3, .int .i64 a4, .int .i64 a5, .slice (some ⟨g, 0, none⟩) a7 a7], .agg #[.int .i64 a10, .int .i64 a11, .int .i64 a12, .int .i64 a13, .int .i64 a14, .int .i64 a15, .slice (some ⟨g9, 0, none⟩) a17 a17]] w (SmOk2 vb vc vu vm vx vs VH OKV w)) := (fun g g9 w fp fp9 hs hs9 => by
        have h := impl_mrg a0 a1 a2 a3 a4 a5 (some ⟨g, 0, none⟩) a7 a7 (lsI a7 a9) a10 a11 a12 a13 a14 a15 (some ⟨g9, 0, none⟩) a17 a17 (lsI a17 a19) w (lsI_len _ _) (lsI_len _ _) (by omega) (by omega) (ints_val hs) (ints_val hs9) ⟨vb, vc, vu, vm, vx, vs, VH⟩ hV
        rw [← hOKV] at h
        exact h : ∀ (g g9 : Nat) (w : World) (fp fp9 : List Nat), SliceRep intTy w (.slice (some ⟨g, 0, none⟩) a7 a7) (lsI a7 a9) fp → SliceRep intTy w (.slice (some ⟨g9, 0, none⟩) a17 a17) (lsI a17 a19) fp9 → Calls Try.prog 64 #[.agg #[.int .i64 a0, .int .i64 a1, .int .i64 a2, .int .i64 a3, .int .i64 a4, .int .i64 a5, .slice (some ⟨g, 0, none⟩) a7 a7], .agg #[.int .i64 a10, .int .i64 a11, .int .i64 a12, .int .i64 a13, .int .i64 a14, .int .i64 a15, .slice (some ⟨g9, 0, none⟩) a17 a17]] w (SmOk2 vb vc vu vm vx vs VH OKV w))
      have vq : (OKV != OKV) = false := by cases OKV <;> rfl
      clear hV hOKV
      go_upto_region 8 with fail
      go_cut [6, 7] (fun s6 s7 wx => ∃ (nb3 : Nat) (ao3 : Option Addr) (c3 : Nat) (fp3 : List Nat), s6 = .pointer (some ⟨nb3, 0, none⟩) ∧ s7 = .bool OKV ∧ Inv w wx [(⟨nb3, 0, none⟩, .int .i64 vb), (⟨nb3, 1, none⟩, .int .i64 vc), (⟨nb3, 2, none⟩, .int .i64 vu), (⟨nb3, 3, none⟩, .int .i64 vm), (⟨nb3, 4, none⟩, .int .i64 vx), (⟨nb3, 5, none⟩, .int .i64 vs), (⟨nb3, 6, none⟩, .slice ao3 VH.length c3), (⟨w.heap.size + 1, 0, none⟩, .int .i64 a10), (⟨w.heap.size + 1, 1, none⟩, .int .i64 a11), (⟨w.heap.size + 1, 2, none⟩, .int .i64 a12), (⟨w.heap.size + 1, 3, none⟩, .int .i64 a13), (⟨w.heap.size + 1, 4, none⟩, .int .i64 a14), (⟨w.heap.size + 1, 5, none⟩, .int .i64 a15), (⟨w.heap.size + 1, 6, none⟩, .slice a16 a17 a18), (⟨w.heap.size, 0, none⟩, .int .i64 a0), (⟨w.heap.size, 1, none⟩, .int .i64 a1), (⟨w.heap.size, 2, none⟩, .int .i64 a2), (⟨w.heap.size, 3, none⟩, .int .i64 a3), (⟨w.heap.size, 4, none⟩, .int .i64 a4), (⟨w.heap.size, 5, none⟩, .int .i64 a5), (⟨w.heap.size, 6, none⟩, .slice a6 a7 a8)] [ownS intTy (.slice ao3 VH.length c3) VH fp3])
      case first =>
        have KDa := I0.drew
        refine wp_region_held_drew (S := fun w' => w'.cell? ⟨w.heap.size, 0, none⟩ = some (.int .i64 a0) ∧ w'.cell? ⟨w.heap.size, 1, none⟩ = some (.int .i64 a1) ∧ w'.cell? ⟨w.heap.size, 2, none⟩ = some (.int .i64 a2) ∧ w'.cell? ⟨w.heap.size, 3, none⟩ = some (.int .i64 a3) ∧ w'.cell? ⟨w.heap.size, 4, none⟩ = some (.int .i64 a4) ∧ w'.cell? ⟨w.heap.size, 5, none⟩ = some (.int .i64 a5) ∧ w'.cell? ⟨w.heap.size, 6, none⟩ = some (.slice a6 a7 a8) ∧ w'.cell? ⟨w.heap.size + 1, 0, none⟩ = some (.int .i64 a10) ∧ w'.cell? ⟨w.heap.size + 1, 1, none⟩ = some (.int .i64 a11) ∧ w'.cell? ⟨w.heap.size + 1, 2, none⟩ = some (.int .i64 a12) ∧ w'.cell? ⟨w.heap.size + 1, 3, none⟩ = some (.int .i64 a13) ∧ w'.cell? ⟨w.heap.size + 1, 4, none⟩ = some (.int .i64 a14) ∧ w'.cell? ⟨w.heap.size + 1, 5, none⟩ = some (.int .i64 a15) ∧ w'.cell? ⟨w.heap.size + 1, 6, none⟩ = some (.slice a16 a17 a18)) (by kernel_rfl) (⟨KDa.get 7 rfl, KDa.get 8 rfl, KDa.get 9 rfl, KDa.get 10 rfl, KDa.get 11 rfl, KDa.get 12 rfl, KDa.get 13 rfl, KDa.get 0 rfl, KDa.get 1 rfl, KDa.get 2 rfl, KDa.get 3 rfl, KDa.get 4 rfl, KDa.get 5 rfl, KDa.get 6 rfl⟩) (fun hHeld => ?_)
        obtain ⟨wDa, hx9⟩ : ∃ x, x = wz1.drew := ⟨_, rfl⟩
        have BDa := Lib.hid (show Below wz1.heap.size wz1 wz1.drew from (Below.refl _ _).drew)
        rw [← hx9] at KDa hHeld BDa ⊢
        clear hx9
        refine wpAnyH_take (i := 0) (oi := moa0) (v := .agg #[.int .i64 a0, .int .i64 a1, .int .i64 a2, .int .i64 a3, .int .i64 a4, .int .i64 a5, .slice a6 a7 a8]) rfl (by kernel_rfl) (by kernel_rfl) (by kernel_rfl) (fun _ _ _ h => h) (Or.inl ⟨by rfl, ?_⟩) (by assumption) ?_
        · intro w8 hS8
          (try dsimp only at hS8)
          dsimp only [moa0]
          (first | (go_simp; done) | (go_simp; simp_all; done) | (simp_all [go_sem]; done))
        try simp only [Act.put, moa0, List.setIfInBounds_toArray, List.set_cons_zero, List.set_cons_succ]
        refine wpAnyH_take (i := 2) (oi := moa2) (v := .agg #[.int .i64 a10, .int .i64 a11, .int .i64 a12, .int .i64 a13, .int .i64 a14, .int .i64 a15, .slice a16 a17 a18]) rfl (by kernel_rfl) (by kernel_rfl) (by kernel_rfl) (fun _ _ _ h => h) (Or.inl ⟨by rfl, ?_⟩) (by assumption) ?_
        · intro w8 hS8
          (try dsimp only at hS8)
          dsimp only [moa2]
          (first | (go_simp; done) | (go_simp; simp_all; done) | (simp_all [go_sem]; done))
        try simp only [Act.put, moa2, List.setIfInBounds_toArray, List.set_cons_zero, List.set_cons_succ]
        refine wpAnyH_ready (rs := [1, 8]) (by kernel_rfl) (by simp) ?_
        refine AllReadyH.cons (o := moa1) rfl (fun K hK => ?_) (AllReadyH.cons (o := moa8) rfl (fun K hK => ?_) (AllReadyH.nil))
        · skip
          dsimp only [moa1]
          go_simp
          go_at_call 59
          (with_reducible refine (law_toSE a0 a1 a2 a3 a4 a5 a6 a7 a8 a9 _ hn0 (HA0.out.below (Inv.below KDa))).mono ?_)
          rintro e9 wca1 ⟨gA, rfl, hsA, hfA, hba1⟩
          have KCa1 := KDa.step hba1
          refine hK.out _ _ ?_ (fun hHa1 => ?_)
          · exact ⟨KCa1.get 7 rfl, KCa1.get 8 rfl, KCa1.get 9 rfl, KCa1.get 10 rfl, KCa1.get 11 rfl, KCa1.get 12 rfl, KCa1.get 13 rfl, KCa1.get 0 rfl, KCa1.get 1 rfl, KCa1.get 2 rfl, KCa1.get 3 rfl, KCa1.get 4 rfl, KCa1.get 5 rfl, KCa1.get 6 rfl⟩
          clear hK K
          try simp only [Act.put, moa1, List.setIfInBounds_toArray, List.set_cons_zero, List.set_cons_succ]
          refine wpAnyH_ready (rs := [3, 8]) (by kernel_rfl) (by simp) ?_
          refine AllReadyH.cons (o := moa3) rfl (fun K hK => ?_) (AllReadyH.cons (o := moa8) rfl (fun K hK => ?_) (AllReadyH.nil))
          · skip
            dsimp only [moa3]
            go_simp
            go_at_call 59
            (with_reducible refine (law_toSE a10 a11 a12 a13 a14 a15 a16 a17 a18 a19 _ hn10 (HA10.out.below (Inv.below KCa1))).mono ?_)
            rintro e9 wca2 ⟨gB, rfl, hsB, hfB, hba2⟩
            have KCa2 := KCa1.step hba2
            refine hK.out _ _ ?_ (fun hHa2 => ?_)
            · exact ⟨KCa2.get 7 rfl, KCa2.get 8 rfl, KCa2.get 9 rfl, KCa2.get 10 rfl, KCa2.get 11 rfl, KCa2.get 12 rfl, KCa2.get 13 rfl, KCa2.get 0 rfl, KCa2.get 1 rfl, KCa2.get 2 rfl, KCa2.get 3 rfl, KCa2.get 4 rfl, KCa2.get 5 rfl, KCa2.get 6 rfl⟩
            clear hK K
            try simp only [Act.put, moa3, List.setIfInBounds_toArray, List.set_cons_zero, List.set_cons_succ]
            refine wpAnyH_ready (rs := [4, 8]) (by kernel_rfl) (by simp) ?_
            refine AllReadyH.cons (o := moa4) rfl (fun K hK => ?_) (AllReadyH.cons (o := moa8) rfl (fun K hK => ?_) (AllReadyH.nil))
            · skip
              dsimp only [moa4]
              go_simp
              go_at_call 63
              (with_reducible refine (SP.out _ _ _ [gA] [gB] (hsA.step hba2) hsB).mono ?_)
              rintro e9 wca3 ⟨vR, fpR, rfl, hsR, hndR, hfR, hba3⟩
              obtain ⟨aoR, cR, rfl, _, _⟩ := ints_open hsR
              have KCa3 := KCa2.own (ownS intTy (.slice aoR VH.length cR) VH fpR) hba3 hsR hfR
              refine hK.out _ _ ?_ (fun hHa3 => ?_)
              · exact ⟨KCa3.get 7 rfl, KCa3.get 8 rfl, KCa3.get 9 rfl, KCa3.get 10 rfl, KCa3.get 11 rfl, KCa3.get 12 rfl, KCa3.get 13 rfl, KCa3.get 0 rfl, KCa3.get 1 rfl, KCa3.get 2 rfl, KCa3.get 3 rfl, KCa3.get 4 rfl, KCa3.get 5 rfl, KCa3.get 6 rfl⟩
              clear hK K
              try simp only [Act.put, moa4, List.setIfInBounds_toArray, List.set_cons_zero, List.set_cons_succ]
              refine wpAnyH_take (i := 5) (oi := moa5) (v := .tuple #[.agg #[.int .i64 vb, .int .i64 vc, .int .i64 vu, .int .i64 vm, .int .i64 vx, .int .i64 vs, .slice aoR VH.length cR], .bool OKV]) rfl (by kernel_rfl) (by kernel_rfl) (by kernel_rfl) (fun _ _ _ h => h) (Or.inl ⟨by rfl, ?_⟩) (by assumption) ?_
              · intro w8 hS8
                (try dsimp only at hS8)
                dsimp only [moa5]
                (first | (go_simp; done) | (go_simp; simp_all; done) | (simp_all [go_sem]; done))
              try simp only [Act.put, moa5, List.setIfInBounds_toArray, List.set_cons_zero, List.set_cons_succ]
              refine wpAnyH_take (i := 6) (oi := moa6) (v := .agg #[.int .i64 vb, .int .i64 vc, .int .i64 vu, .int .i64 vm, .int .i64 vx, .int .i64 vs, .slice aoR VH.length cR]) rfl (by kernel_rfl) (by kernel_rfl) (by kernel_rfl) (fun _ _ _ h => h) (Or.inl ⟨by rfl, ?_⟩) (by assumption) ?_
              · intro w8 hS8
                (try dsimp only at hS8)
                dsimp only [moa6]
                (first | (go_simp; done) | (go_simp; simp_all; done) | (simp_all [go_sem]; done))
              try simp only [Act.put, moa6, List.setIfInBounds_toArray, List.set_cons_zero, List.set_cons_succ]
              refine wpAnyH_take (i := 7) (oi := moa7) (v := .bool OKV) rfl (by kernel_rfl) (by kernel_rfl) (by kernel_rfl) (fun _ _ _ h => h) (Or.inl ⟨by rfl, ?_⟩) (by assumption) ?_
              · intro w8 hS8
                (try dsimp only at hS8)
                dsimp only [moa7]
                (first | (go_simp; done) | (go_simp; simp_all; done) | (simp_all [go_sem]; done))
              try simp only [Act.put, moa7, List.setIfInBounds_toArray, List.set_cons_zero, List.set_cons_succ]
              refine wpAnyH_ready (rs := [8]) (by kernel_rfl) (by simp) ?_
              refine AllReadyH.cons (o := moa8) rfl (fun K hK => ?_) AllReadyH.nil
              dsimp only [moa8]
              go_simp
              have KCa4 := KCa3.alloc7 (.int .i64 0) (.int .i64 0) (.int .i64 0) (.int .i64 0) (.int .i64 0) (.int .i64 0) (.slice none 0 0) 77 wca3.heap.size rfl
              have hba4 : Below wca3.heap.size wca3 (wca3.alloc (.cells #[.int .i64 0, .int .i64 0, .int .i64 0, .int .i64 0, .int .i64 0, .int .i64 0, .slice none 0 0] 77)) := (Below.refl _ _).alloc (Nat.le_refl _) _
              obtain ⟨nba4, hN4⟩ : ∃ x, x = wca3.heap.size := ⟨_, rfl⟩
              refine hK.out _ _ ?_ (fun hHa4 => ?_)
              · exact ⟨KCa4.get 14 rfl, KCa4.get 15 rfl, KCa4.get 16 rfl, KCa4.get 17 rfl, KCa4.get 18 rfl, KCa4.get 19 rfl, KCa4.get 20 rfl, KCa4.get 7 rfl, KCa4.get 8 rfl, KCa4.get 9 rfl, KCa4.get 10 rfl, KCa4.get 11 rfl, KCa4.get 12 rfl, KCa4.get 13 rfl⟩
              clear hK K
              try simp only [Act.put, moa8, List.setIfInBounds_toArray, List.set_cons_zero, List.set_cons_succ]
              obtain ⟨wca4, hx9⟩ : ∃ x, x = wca3.alloc (.cells #[.int .i64 0, .int .i64 0, .int .i64 0, .int .i64 0, .int .i64 0, .int .i64 0, .slice none 0 0] 77) := ⟨_, rfl⟩
              rw [← hx9] at KCa4 hHa4 hba4 ⊢
              clear hx9
              have HNa4 := Lib.hid hN4
              rw [← hN4] at KCa4 ⊢
              clear hN4
              refine wpAnyH_ready (rs := [9]) (by kernel_rfl) (by simp) ?_
              refine AllReadyH.cons (o := moa9) rfl (fun K hK => ?_) AllReadyH.nil
              have k0 := KCa4.get 0 rfl
              have f0 := KCa4.fz 0 rfl
              have k1 := KCa4.get 1 rfl
              have f1 := KCa4.fz 1 rfl
              have k2 := KCa4.get 2 rfl
              have f2 := KCa4.fz 2 rfl
              have k3 := KCa4.get 3 rfl
              have f3 := KCa4.fz 3 rfl
              have k4 := KCa4.get 4 rfl
              have f4 := KCa4.fz 4 rfl
              have k5 := KCa4.get 5 rfl
              have f5 := KCa4.fz 5 rfl
              have k6 := KCa4.get 6 rfl
              have f6 := KCa4.fz 6 rfl
              dsimp only [moa9]
              go_simp
              have KCa5 := KCa4.setB7 (.int .i64 vb) (.int .i64 vc) (.int .i64 vu) (.int .i64 vm) (.int .i64 vx) (.int .i64 vs) (.slice aoR VH.length cR) (by have h1 := KCa3.below.size; have h2 := HNa4.out; omega) (fun c9 hc9 => by have h1 := (KCa3.1.2 c9 hc9).1; have h2 := HNa4.out; omega)
              refine hK.out _ _ ?_ (fun hHa5 => ?_)
              · exact ⟨KCa5.get 14 rfl, KCa5.get 15 rfl, KCa5.get 16 rfl, KCa5.get 17 rfl, KCa5.get 18 rfl, KCa5.get 19 rfl, KCa5.get 20 rfl, KCa5.get 7 rfl, KCa5.get 8 rfl, KCa5.get 9 rfl, KCa5.get 10 rfl, KCa5.get 11 rfl, KCa5.get 12 rfl, KCa5.get 13 rfl⟩
              clear hK K
              try simp only [Act.put, moa9, List.setIfInBounds_toArray, List.set_cons_zero, List.set_cons_succ]
              refine wpAnyH_take (i := 10) (oi := moa10) (v := .bool OKV) rfl (by kernel_rfl) (by kernel_rfl) (by kernel_rfl) (fun _ _ _ h => h) (Or.inl ⟨by rfl, ?_⟩) (by assumption) ?_
              · intro w8 hS8
                (try dsimp only at hS8)
                dsimp only [moa10]
                (first | (go_simp; done) | (go_simp; simp_all; done) | (simp_all [go_sem]; done))
              try simp only [Act.put, moa10, List.setIfInBounds_toArray, List.set_cons_zero, List.set_cons_succ]
              refine wpAnyH_done (by kernel_rfl) ?_ _
              dsimp only [Exit.then]
              go_step
              go_meet
              exact ⟨nba4, aoR, cR, fpR, rfl, rfl, KCa5⟩
            · skip
              dsimp only [moa8]
              go_simp
              have KCa3 := KCa2.alloc7 (.int .i64 0) (.int .i64 0) (.int .i64 0) (.int .i64 0) (.int .i64 0) (.int .i64 0) (.slice none 0 0) 77 wca2.heap.size rfl
              have hba3 : Below wca2.heap.size wca2 (wca2.alloc (.cells #[.int .i64 0, .int .i64 0, .int .i64 0, .int .i64 0, .int .i64 0, .int .i64 0, .slice none 0 0] 77)) := (Below.refl _ _).alloc (Nat.le_refl _) _
              obtain ⟨nba3, hN3⟩ : ∃ x, x = wca2.heap.size := ⟨_, rfl⟩
              refine hK.out _ _ ?_ (fun hHa3 => ?_)
              · exact ⟨KCa3.get 14 rfl, KCa3.get 15 rfl, KCa3.get 16 rfl, KCa3.get 17 rfl, KCa3.get 18 rfl, KCa3.get 19 rfl, KCa3.get 20 rfl, KCa3.get 7 rfl, KCa3.get 8 rfl, KCa3.get 9 rfl, KCa3.get 10 rfl, KCa3.get 11 rfl, KCa3.get 12 rfl, KCa3.get 13 rfl⟩
              clear hK K
              try simp only [Act.put, moa8, List.setIfInBounds_toArray, List.set_cons_zero, List.set_cons_succ]
              obtain ⟨wca3, hx9⟩ : ∃ x, x = wca2.alloc (.cells #[.int .i64 0, .int .i64 0, .int .i64 0, .int .i64 0, .int .i64 0, .int .i64 0, .slice none 0 0] 77) := ⟨_, rfl⟩
              rw [← hx9] at KCa3 hHa3 hba3 ⊢
              clear hx9
              have HNa3 := Lib.hid hN3
              rw [← hN3] at KCa3 ⊢
              clear hN3
              refine wpAnyH_ready (rs := [4]) (by kernel_rfl) (by simp) ?_
              refine AllReadyH.cons (o := moa4) rfl (fun K hK => ?_) AllReadyH.nil
              dsimp only [moa4]
              go_simp
              go_at_call 63
              (with_reducible refine (SP.out _ _ _ [gA] [gB] ((hsA.step hba2).step hba3) (hsB.step hba3)).mono ?_)
              rintro e9 wca4 ⟨vR, fpR, rfl, hsR, hndR, hfR, hba4⟩
              obtain ⟨aoR, cR, rfl, _, _⟩ := ints_open hsR
              have KCa4 := KCa3.own (ownS intTy (.slice aoR VH.length cR) VH fpR) hba4 hsR hfR
              refine hK.out _ _ ?_ (fun hHa4 => ?_)
              · exact ⟨KCa4.get 14 rfl, KCa4.get 15 rfl, KCa4.get 16 rfl, KCa4.get 17 rfl, KCa4.get 18 rfl, KCa4.get 19 rfl, KCa4.get 20 rfl, KCa4.get 7 rfl, KCa4.get 8 rfl, KCa4.get 9 rfl, KCa4.get 10 rfl, KCa4.get 11 rfl, KCa4.get 12 rfl, KCa4.get 13 rfl⟩
              clear hK K
              try simp only [Act.put, moa4, List.setIfInBounds_toArray, List.set_cons_zero, List.set_cons_succ]
              refine wpAnyH_take (i := 5) (oi := moa5) (v := .tuple #[.agg #[.int .i64 vb, .int .i64 vc, .int .i64 vu, .int .i64 vm, .int .i64 vx, .int .i64 vs, .slice aoR VH.length cR], .bool OKV]) rfl (by kernel_rfl) (by kernel_rfl) (by kernel_rfl) (fun _ _ _ h => h) (Or.inl ⟨by rfl, ?_⟩) (by assumption) ?_
              · intro w8 hS8
                (try dsimp only at hS8)
                dsimp only [moa5]
                (first | (go_simp; done) | (go_simp; simp_all; done) | (simp_all [go_sem]; done))
              try simp only [Act.put, moa5, List.setIfInBounds_toArray, List.set_cons_zero, List.set_cons_succ]
              refine wpAnyH_take (i := 6) (oi := moa6) (v := .agg #[.int .i64 vb, .int .i64 vc, .int .i64 vu, .int .i64 vm, .int .i64 vx, .int .i64 vs, .slice aoR VH.length cR]) rfl (by kernel_rfl) (by kernel_rfl) (by kernel_rfl) (fun _ _ _ h => h) (Or.inl ⟨by rfl, ?_⟩) (by assumption) ?_
              · intro w8 hS8
                (try dsimp only at hS8)
                dsimp only [moa6]
                (first | (go_simp; done) | (go_simp; simp_all; done) | (simp_all [go_sem]; done))
              try simp only [Act.put, moa6, List.setIfInBounds_toArray, List.set_cons_zero, List.set_cons_succ]
              refine wpAnyH_take (i := 7) (oi := moa7) (v := .bool OKV) rfl (by kernel_rfl) (by kernel_rfl) (by kernel_rfl) (fun _ _ _ h => h) (Or.inl ⟨by rfl, ?_⟩) (by assumption) ?_
              · intro w8 hS8
                (try dsimp only at hS8)
                dsimp only [moa7]
                (first | (go_simp; done) | (go_simp; simp_all; done) | (simp_all [go_sem]; done))
              try simp only [Act.put, moa7, List.setIfInBounds_toArray, List.set_cons_zero, List.set_cons_succ]
              refine wpAnyH_ready (rs := [9]) (by kernel_rfl) (by simp) ?_
              refine AllReadyH.cons (o := moa9) rfl (fun K hK => ?_) AllReadyH.nil
              have k0 := KCa4.get 0 rfl
              have f0 := KCa4.fz 0 rfl
              have k1 := KCa4.get 1 rfl
              have f1 := KCa4.fz 1 rfl
              have k2 := KCa4.get 2 rfl
              have f2 := KCa4.fz 2 rfl
              have k3 := KCa4.get 3 rfl
              have f3 := KCa4.fz 3 rfl
              have k4 := KCa4.get 4 rfl
              have f4 := KCa4.fz 4 rfl
              have k5 := KCa4.get 5 rfl
              have f5 := KCa4.fz 5 rfl
              have k6 := KCa4.get 6 rfl
              have f6 := KCa4.fz 6 rfl
              dsimp only [moa9]
              go_simp
              have KCa5 := KCa4.setB7 (.int .i64 vb) (.int .i64 vc) (.int .i64 vu) (.int .i64 vm) (.int .i64 vx) (.int .i64 vs) (.slice aoR VH.length cR) (by have h1 := KCa2.below.size; have h2 := HNa3.out; omega) (fun c9 hc9 => by have h1 := (KCa2.1.2 c9 hc9).1; have h2 := HNa3.out; omega)
              refine hK.out _ _ ?_ (fun hHa5 => ?_)
              · exact ⟨KCa5.get 14 rfl, KCa5.get 15 rfl, KCa5.get 16 rfl, KCa5.get 17 rfl, KCa5.get 18 rfl, KCa5.get 19 rfl, KCa5.get 20 rfl, KCa5.get 7 rfl, KCa5.get 8 rfl, KCa5.get 9 rfl, KCa5.get 10 rfl, KCa5.get 11 rfl, KCa5.get 12 rfl, KCa5.get 13 rfl⟩
              clear hK K
              try simp only [Act.put, moa9, List.setIfInBounds_toArray, List.set_cons_zero, List.set_cons_succ]
              refine wpAnyH_take (i := 10) (oi := moa10) (v := .bool OKV) rfl (by kernel_rfl) (by kernel_rfl) (by kernel_rfl) (fun _ _ _ h => h) (Or.inl ⟨by rfl, ?_⟩) (by assumption) ?_
              · intro w8 hS8
                (try dsimp only at hS8)
                dsimp only [moa10]
                (first | (go_simp; done) | (go_simp; simp_all; done) | (simp_all [go_sem]; done))
              try simp only [Act.put, moa10, List.setIfInBounds_toArray, List.set_cons_zero, List.set_cons_succ]
              refine wpAnyH_done (by kernel_rfl) ?_ _
              dsimp only [Exit.then]
              go_step
              go_meet
              exact ⟨nba3, aoR, cR, fpR, rfl, rfl, KCa5⟩
          · skip
            dsimp only [moa8]
            go_simp
            have KCa2 := KCa1.alloc7 (.int .i64 0) (.int .i64 0) (.int .i64 0) (.int .i64 0) (.int .i64 0) (.int .i64 0) (.slice none 0 0) 77 wca1.heap.size rfl
            have hba2 : Below wca1.heap.size wca1 (wca1.alloc (.cells #[.int .i64 0, .int .i64 0, .int .i64 0, .int .i64 0, .int .i64 0, .int .i64 0, .slice none 0 0] 77)) := (Below.refl _ _).alloc (Nat.le_refl _) _
            obtain ⟨nba2, hN2⟩ : ∃ x, x = wca1.heap.size := ⟨_, rfl⟩
            refine hK.out _ _ ?_ (fun hHa2 => ?_)
            · exact ⟨KCa2.get 14 rfl, KCa2.get 15 rfl, KCa2.get 16 rfl, KCa2.get 17 rfl, KCa2.get 18 rfl, KCa2.get 19 rfl, KCa2.get 20 rfl, KCa2.get 7 rfl, KCa2.get 8 rfl, KCa2.get 9 rfl, KCa2.get 10 rfl, KCa2.get 11 rfl, KCa2.get 12 rfl, KCa2.get 13 rfl⟩
            clear hK K
            try simp only [Act.put, moa8, List.setIfInBounds_toArray, List.set_cons_zero, List.set_cons_succ]
            obtain ⟨wca2, hx9⟩ : ∃ x, x = wca1.alloc (.cells #[.int .i64 0, .int .i64 0, .int .i64 0, .int .i64 0, .int .i64 0, .int .i64 0, .slice none 0 0] 77) := ⟨_, rfl⟩
            rw [← hx9] at KCa2 hHa2 hba2 ⊢
            clear hx9
            have HNa2 := Lib.hid hN2
            rw [← hN2] at KCa2 ⊢
            clear hN2
            refine wpAnyH_ready (rs := [3]) (by kernel_rfl) (by simp) ?_
            refine AllReadyH.cons (o := moa3) rfl (fun K hK => ?_) AllReadyH.nil
            dsimp only [moa3]
            go_simp
            go_at_call 59
            (with_reducible refine (law_toSE a10 a11 a12 a13 a14 a15 a16 a17 a18 a19 _ hn10 (HA10.out.below (Inv.below KCa2))).mono ?_)
            rintro e9 wca3 ⟨gB, rfl, hsB, hfB, hba3⟩
            have KCa3 := KCa2.step hba3
            refine hK.out _ _ ?_ (fun hHa3 => ?_)
            · exact ⟨KCa3.get 14 rfl, KCa3.get 15 rfl, KCa3.get 16 rfl, KCa3.get 17 rfl, KCa3.get 18 rfl, KCa3.get 19 rfl, KCa3.get 20 rfl, KCa3.get 7 rfl, KCa3.get 8 rfl, KCa3.get 9 rfl, KCa3.get 10 rfl, KCa3.get 11 rfl, KCa3.get 12 rfl, KCa3.get 13 rfl⟩
            clear hK K
            try simp only [Act.put, moa3, List.setIfInBounds_toArray, List.set_cons_zero, List.set_cons_succ]
            refine wpAnyH_ready (rs := [4]) (by kernel_rfl) (by simp) ?_
            refine AllReadyH.cons (o := moa4) rfl (fun K hK => ?_) AllReadyH.nil
            dsimp only [moa4]
            go_simp
            go_at_call 63
            (with_reducible refine (SP.out _ _ _ [gA] [gB] ((hsA.step hba2).step hba3) hsB).mono ?_)
            rintro e9 wca4 ⟨vR, fpR, rfl, hsR, hndR, hfR, hba4⟩
            obtain ⟨aoR, cR, rfl, _, _⟩ := ints_open hsR
            have KCa4 := KCa3.own (ownS intTy (.slice aoR VH.length cR) VH fpR) hba4 hsR hfR
            refine hK.out _ _ ?_ (fun hHa4 => ?_)
            · exact ⟨KCa4.get 14 rfl, KCa4.get 15 rfl, KCa4.get 16 rfl, KCa4.get 17 rfl, KCa4.get 18 rfl, KCa4.get 19 rfl, KCa4.get 20 rfl, KCa4.get 7 rfl, KCa4.get 8 rfl, KCa4.get 9 rfl, KCa4.get 10 rfl, KCa4.get 11 rfl, KCa4.get 12 rfl, KCa4.get 13 rfl⟩
            clear hK K
            try simp only [Act.put, moa4, List.setIfInBounds_toArray, List.set_cons_zero, List.set_cons_succ]
            refine wpAnyH_take (i := 5) (oi := moa5) (v := .tuple #[.agg #[.int .i64 vb, .int .i64 vc, .int .i64 vu, .int .i64 vm, .int .i64 vx, .int .i64 vs, .slice aoR VH.length cR], .bool OKV]) rfl (by kernel_rfl) (by kernel_rfl) (by kernel_rfl) (fun _ _ _ h => h) (Or.inl ⟨by rfl, ?_⟩) (by assumption) ?_
            · intro w8 hS8
              (try dsimp only at hS8)
              dsimp only [moa5]
              (first | (go_simp; done) | (go_simp; simp_all; done) | (simp_all [go_sem]; done))
            try simp only [Act.put, moa5, List.setIfInBounds_toArray, List.set_cons_zero, List.set_cons_succ]
            refine wpAnyH_take (i := 6) (oi := moa6) (v := .agg #[.int .i64 vb, .int .i64 vc, .int .i64 vu, .int .i64 vm, .int .i64 vx, .int .i64 vs, .slice aoR VH.length cR]) rfl (by kernel_rfl) (by kernel_rfl) (by kernel_rfl) (fun _ _ _ h => h) (Or.inl ⟨by rfl, ?_⟩) (by assumption) ?_
            · intro w8 hS8
              (try dsimp only at hS8)
              dsimp only [moa6]
              (first | (go_simp; done) | (go_simp; simp_all; done) | (simp_all [go_sem]; done))
            try simp only [Act.put, moa6, List.setIfInBounds_toArray, List.set_cons_zero, List.set_cons_succ]
            refine wpAnyH_take (i := 7) (oi := moa7) (v := .bool OKV) rfl (by kernel_rfl) (by kernel_rfl) (by kernel_rfl) (fun _ _ _ h => h) (Or.inl ⟨by rfl, ?_⟩) (by assumption) ?_
            · intro w8 hS8
              (try dsimp only at hS8)
              dsimp only [moa7]
              (first | (go_simp; done) | (go_simp; simp_all; done) | (simp_all [go_sem]; done))
            try simp only [Act.put, moa7, List.setIfInBounds_toArray, List.set_cons_zero, List.set_cons_succ]
            refine wpAnyH_ready (rs := [9]) (by kernel_rfl) (by simp) ?_
            refine AllReadyH.cons (o := moa9) rfl (fun K hK => ?_) AllReadyH.nil
            have k0 := KCa4.get 0 rfl
            have f0 := KCa4.fz 0 rfl
            have k1 := KCa4.get 1 rfl
            have f1 := KCa4.fz 1 rfl
            have k2 := KCa4.get 2 rfl
            have f2 := KCa4.fz 2 rfl
            have k3 := KCa4.get 3 rfl
            have f3 := KCa4.fz 3 rfl
            have k4 := KCa4.get 4 rfl
            have f4 := KCa4.fz 4 rfl
            have k5 := KCa4.get 5 rfl
            have f5 := KCa4.fz 5 rfl
            have k6 := KCa4.get 6 rfl
            have f6 := KCa4.fz 6 rfl
            dsimp only [moa9]
            go_simp
            have KCa5 := KCa4.setB7 (.int .i64 vb) (.int .i64 vc) (.int .i64 vu) (.int .i64 vm) (.int .i64 vx) (.int .i64 vs) (.slice aoR VH.length cR) (by have h1 := KCa1.below.size; have h2 := HNa2.out; omega) (fun c9 hc9 => by have h1 := (KCa1.1.2 c9 hc9).1; have h2 := HNa2.out; omega)
            refine hK.out _ _ ?_ (fun hHa5 => ?_)
            · exact ⟨KCa5.get 14 rfl, KCa5.get 15 rfl, KCa5.get 16 rfl, KCa5.get 17 rfl, KCa5.get 18 rfl, KCa5.get 19 rfl, KCa5.get 20 rfl, KCa5.get 7 rfl, KCa5.get 8 rfl, KCa5.get 9 rfl, KCa5.get 10 rfl, KCa5.get 11 rfl, KCa5.get 12 rfl, KCa5.get 13 rfl⟩
            clear hK K
            try simp only [Act.put, moa9, List.setIfInBounds_toArray, List.set_cons_zero, List.set_cons_succ]
            refine wpAnyH_take (i := 10) (oi := moa10) (v := .bool OKV) rfl (by kernel_rfl) (by kernel_rfl) (by kernel_rfl) (fun _ _ _ h => h) (Or.inl ⟨by rfl, ?_⟩) (by assumption) ?_
            · intro w8 hS8
              (try dsimp only at hS8)
              dsimp only [moa10]
              (first | (go_simp; done) | (go_simp; simp_all; done) | (simp_all [go_sem]; done))
            try simp only [Act.put, moa10, List.setIfInBounds_toArray, List.set_cons_zero, List.set_cons_succ]
            refine wpAnyH_done (by kernel_rfl) ?_ _
            dsimp only [Exit.then]
            go_step
            go_meet
            exact ⟨nba2, aoR, cR, fpR, rfl, rfl, KCa5⟩
        · skip
          dsimp only [moa8]
          go_simp
          have KCa1 := KDa.alloc7 (.int .i64 0) (.int .i64 0) (.int .i64 0) (.int .i64 0) (.int .i64 0) (.int .i64 0) (.slice none 0 0) 77 wDa.heap.size rfl
          have hba1 : Below wDa.heap.size wDa (wDa.alloc (.cells #[.int .i64 0, .int .i64 0, .int .i64 0, .int .i64 0, .int .i64 0, .int .i64 0, .slice none 0 0] 77)) := (Below.refl _ _).alloc (Nat.le_refl _) _
          obtain ⟨nba1, hN1⟩ : ∃ x, x = wDa.heap.size := ⟨_, rfl⟩
          refine hK.out _ _ ?_ (fun hHa1 => ?_)
          · exact ⟨KCa1.get 14 rfl, KCa1.get 15 rfl, KCa1.get 16 rfl, KCa1.get 17 rfl, KCa1.get 18 rfl, KCa1.get 19 rfl, KCa1.get 20 rfl, KCa1.get 7 rfl, KCa1.get 8 rfl, KCa1.get 9 rfl, KCa1.get 10 rfl, KCa1.get 11 rfl, KCa1.get 12 rfl, KCa1.get 13 rfl⟩
          clear hK K
          try simp only [Act.put, moa8, List.setIfInBounds_toArray, List.set_cons_zero, List.set_cons_succ]
          obtain ⟨wca1, hx9⟩ : ∃ x, x = wDa.alloc (.cells #[.int .i64 0, .int .i64 0, .int .i64 0, .int .i64 0, .int .i64 0, .int .i64 0, .slice none 0 0] 77) := ⟨_, rfl⟩
          rw [← hx9] at KCa1 hHa1 hba1 ⊢
          clear hx9
          have HNa1 := Lib.hid hN1
          rw [← hN1] at KCa1 ⊢
          clear hN1
          refine wpAnyH_ready (rs := [1]) (by kernel_rfl) (by simp) ?_
          refine AllReadyH.cons (o := moa1) rfl (fun K hK => ?_) AllReadyH.nil
          dsimp only [moa1]
          go_simp
          go_at_call 59
          (with_reducible refine (law_toSE a0 a1 a2 a3 a4 a5 a6 a7 a8 a9 _ hn0 (HA0.out.below (Inv.below KCa1))).mono ?_)
          rintro e9 wca2 ⟨gA, rfl, hsA, hfA, hba2⟩
          have KCa2 := KCa1.step hba2
          refine hK.out _ _ ?_ (fun hHa2 => ?_)
          · exact ⟨KCa2.get 14 rfl, KCa2.get 15 rfl, KCa2.get 16 rfl, KCa2.get 17 rfl, KCa2.get 18 rfl, KCa2.get 19 rfl, KCa2.get 20 rfl, KCa2.get 7 rfl, KCa2.get 8 rfl, KCa2.get 9 rfl, KCa2.get 10 rfl, KCa2.get 11 rfl, KCa2.get 12 rfl, KCa2.get 13 rfl⟩
          clear hK K
          try simp only [Act.put, moa1, List.setIfInBounds_toArray, List.set_cons_zero, List.set_cons_succ]
          refine wpAnyH_ready (rs := [3]) (by kernel_rfl) (by simp) ?_
          refine AllReadyH.cons (o := moa3) rfl (fun K hK => ?_) AllReadyH.nil
          dsimp only [moa3]
          go_simp
          go_at_call 59
          (with_reducible refine (law_toSE a10 a11 a12 a13 a14 a15 a16 a17 a18 a19 _ hn10 (HA10.out.below (Inv.below KCa2))).mono ?_)
          rintro e9 wca3 ⟨gB, rfl, hsB, hfB, hba3⟩
          have KCa3 := KCa2.step hba3
          refine hK.out _ _ ?_ (fun hHa3 => ?_)
          · exact ⟨KCa3.get 14 rfl, KCa3.get 15 rfl, KCa3.get 16 rfl, KCa3.get 17 rfl, KCa3.get 18 rfl, KCa3.get 19 rfl, KCa3.get 20 rfl, KCa3.get 7 rfl, KCa3.get 8 rfl, KCa3.get 9 rfl, KCa3.get 10 rfl, KCa3.get 11 rfl, KCa3.get 12 rfl, KCa3.get 13 rfl⟩
          clear hK K
          try simp only [Act.put, moa3, List.setIfInBounds_toArray, List.set_cons_zero, List.set_cons_succ]
          refine wpAnyH_ready (rs := [4]) (by kernel_rfl) (by simp) ?_
          refine AllReadyH.cons (o := moa4) rfl (fun K hK => ?_) AllReadyH.nil
          dsimp only [moa4]
          go_simp
          go_at_call 63
          (with_reducible refine (SP.out _ _ _ [gA] [gB] (hsA.step hba3) hsB).mono ?_)
          rintro e9 wca4 ⟨vR, fpR, rfl, hsR, hndR, hfR, hba4⟩
          obtain ⟨aoR, cR, rfl, _, _⟩ := ints_open hsR
          have KCa4 := KCa3.own (ownS intTy (.slice aoR VH.length cR) VH fpR) hba4 hsR hfR
          refine hK.out _ _ ?_ (fun hHa4 => ?_)
          · exact ⟨KCa4.get 14 rfl, KCa4.get 15 rfl, KCa4.get 16 rfl, KCa4.get 17 rfl, KCa4.get 18 rfl, KCa4.get 19 rfl, KCa4.get 20 rfl, KCa4.get 7 rfl, KCa4.get 8 rfl, KCa4.get 9 rfl, KCa4.get 10 rfl, KCa4.get 11 rfl, KCa4.get 12 rfl, KCa4.get 13 rfl⟩
          clear hK K
          try simp only [Act.put, moa4, List.setIfInBounds_toArray, List.set_cons_zero, List.set_cons_succ]
          refine wpAnyH_take (i := 5) (oi := moa5) (v := .tuple #[.agg #[.int .i64 vb, .int .i64 vc, .int .i64 vu, .int .i64 vm, .int .i64 vx, .int .i64 vs, .slice aoR VH.length cR], .bool OKV]) rfl (by kernel_rfl) (by kernel_rfl) (by kernel_rfl) (fun _ _ _ h => h) (Or.inl ⟨by rfl, ?_⟩) (by assumption) ?_
          · intro w8 hS8
            (try dsimp only at hS8)
            dsimp only [moa5]
            (first | (go_simp; done) | (go_simp; simp_all; done) | (simp_all [go_sem]; done))
          try simp only [Act.put, moa5, List.setIfInBounds_toArray, List.set_cons_zero, List.set_cons_succ]
          refine wpAnyH_take (i := 6) (oi := moa6) (v := .agg #[.int .i64 vb, .int .i64 vc, .int .i64 vu, .int .i64 vm, .int .i64 vx, .int .i64 vs, .slice aoR VH.length cR]) rfl (by kernel_rfl) (by kernel_rfl) (by kernel_rfl) (fun _ _ _ h => h) (Or.inl ⟨by rfl, ?_⟩) (by assumption) ?_
          · intro w8 hS8
            (try dsimp only at hS8)
            dsimp only [moa6]
            (first | (go_simp; done) | (go_simp; simp_all; done) | (simp_all [go_sem]; done))
          try simp only [Act.put, moa6, List.setIfInBounds_toArray, List.set_cons_zero, List.set_cons_succ]
          refine wpAnyH_take (i := 7) (oi := moa7) (v := .bool OKV) rfl (by kernel_rfl) (by kernel_rfl) (by kernel_rfl) (fun _ _ _ h => h) (Or.inl ⟨by rfl, ?_⟩) (by assumption) ?_
          · intro w8 hS8
            (try dsimp only at hS8)
            dsimp only [moa7]
            (first | (go_simp; done) | (go_simp; simp_all; done) | (simp_all [go_sem]; done))
          try simp only [Act.put, moa7, List.setIfInBounds_toArray, List.set_cons_zero, List.set_cons_succ]
          refine wpAnyH_ready (rs := [9]) (by kernel_rfl) (by simp) ?_
          refine AllReadyH.cons (o := moa9) rfl (fun K hK => ?_) AllReadyH.nil
          have k0 := KCa4.get 0 rfl
          have f0 := KCa4.fz 0 rfl
          have k1 := KCa4.get 1 rfl
          have f1 := KCa4.fz 1 rfl
          have k2 := KCa4.get 2 rfl
          have f2 := KCa4.fz 2 rfl
          have k3 := KCa4.get 3 rfl
          have f3 := KCa4.fz 3 rfl
          have k4 := KCa4.get 4 rfl
          have f4 := KCa4.fz 4 rfl
          have k5 := KCa4.get 5 rfl
          have f5 := KCa4.fz 5 rfl
          have k6 := KCa4.get 6 rfl
          have f6 := KCa4.fz 6 rfl
          dsimp only [moa9]
          go_simp
          have KCa5 := KCa4.setB7 (.int .i64 vb) (.int .i64 vc) (.int .i64 vu) (.int .i64 vm) (.int .i64 vx) (.int .i64 vs) (.slice aoR VH.length cR) (by have h1 := KDa.below.size; have h2 := HNa1.out; omega) (fun c9 hc9 => by have h1 := (KDa.1.2 c9 hc9).1; have h2 := HNa1.out; omega)
          refine hK.out _ _ ?_ (fun hHa5 => ?_)
          · exact ⟨KCa5.get 14 rfl, KCa5.get 15 rfl, KCa5.get 16 rfl, KCa5.get 17 rfl, KCa5.get 18 rfl, KCa5.get 19 rfl, KCa5.get 20 rfl, KCa5.get 7 rfl, KCa5.get 8 rfl, KCa5.get 9 rfl, KCa5.get 10 rfl, KCa5.get 11 rfl, KCa5.get 12 rfl, KCa5.get 13 rfl⟩
          clear hK K
          try simp only [Act.put, moa9, List.setIfInBounds_toArray, List.set_cons_zero, List.set_cons_succ]
          refine wpAnyH_take (i := 10) (oi := moa10) (v := .bool OKV) rfl (by kernel_rfl) (by kernel_rfl) (by kernel_rfl) (fun _ _ _ h => h) (Or.inl ⟨by rfl, ?_⟩) (by assumption) ?_
          · intro w8 hS8
            (try dsimp only at hS8)
            dsimp only [moa10]
            (first | (go_simp; done) | (go_simp; simp_all; done) | (simp_all [go_sem]; done))
          try simp only [Act.put, moa10, List.setIfInBounds_toArray, List.set_cons_zero, List.set_cons_succ]
          refine wpAnyH_done (by kernel_rfl) ?_ _
          dsimp only [Exit.then]
          go_step
          go_meet
          exact ⟨nba1, aoR, cR, fpR, rfl, rfl, KCa5⟩

      case rest =>
        obtain ⟨nb3, ao3, c3, fp3, rfl, rfl, IX⟩ := hcut
        clear I0
        have I1 := IX
        clear IX
        have y0 := I1.get 14 rfl
        have y1 := I1.get 15 rfl
        have y2 := I1.get 16 rfl
        have y3 := I1.get 17 rfl
        have y4 := I1.get 18 rfl
        have y5 := I1.get 19 rfl
        have y6 := I1.get 20 rfl
        go_wp2_with fail
        refine (law_toSE a0 a1 a2 a3 a4 a5 a6 a7 a8 a9 _ hn0 (HA0.out.below I1.below)).mono ?_
        rintro e w4 ⟨g4, rfl, hs, hf, hb⟩
        have I2 := (I1.own (ownS intTy (.slice (some ⟨g4, 0, none⟩) a7 a7) (lsI a7 a9) [g4]) hb hs hf).alloc7 (.int .i64 a0) (.int .i64 a1) (.int .i64 a2) (.int .i64 a3) (.int .i64 a4) (.int .i64 a5) (.slice (some ⟨g4, 0, none⟩) a7 a7) 77 w4.heap.size rfl
        clear hs hf hb y0 y1 y2 y3 y4 y5 y6 I1
        have y0 := I2.get 14 rfl
        have y1 := I2.get 15 rfl
        have y2 := I2.get 16 rfl
        have y3 := I2.get 17 rfl
        have y4 := I2.get 18 rfl
        have y5 := I2.get 19 rfl
        have y6 := I2.get 20 rfl
        go_wp2_with fail
        refine (law_toSE a10 a11 a12 a13 a14 a15 a16 a17 a18 a19 _ hn10 (HA10.out.below I2.below)).mono ?_
        rintro e w5 ⟨g5, rfl, hs, hf, hb⟩
        have I3 := (I2.own (ownS intTy (.slice (some ⟨g5, 0, none⟩) a17 a17) (lsI a17 a19) [g5]) hb hs hf).alloc7 (.int .i64 a10) (.int .i64 a11) (.int .i64 a12) (.int .i64 a13) (.int .i64 a14) (.int .i64 a15) (.slice (some ⟨g5, 0, none⟩) a17 a17) 77 w5.heap.size rfl
        clear hs hf hb y0 y1 y2 y3 y4 y5 y6 I2
        have y0 := I3.get 7 rfl
        have y1 := I3.get 8 rfl
        have y2 := I3.get 9 rfl
        have y3 := I3.get 10 rfl
        have y4 := I3.get 11 rfl
        have y5 := I3.get 12 rfl
        have y6 := I3.get 13 rfl
        have y7 := I3.get 0 rfl
        have y8 := I3.get 1 rfl
        have y9 := I3.get 2 rfl
        have y10 := I3.get 3 rfl
        have y11 := I3.get 4 rfl
        have y12 := I3.get 5 rfl
        have y13 := I3.get 6 rfl
        go_wp2_with fail
        refine (IM.out _ _ _ _ _ (I3.at 1 rfl) (I3.at 0 rfl)).mono ?_
        rintro e w6 ⟨v9, fp6, rfl, hs, hnd6, hf, hb⟩
        obtain ⟨ao6, c6, rfl, _, _⟩ := ints_open hs
        have I4 := (I3.own (ownS intTy (.slice ao6 VH.length c6) VH fp6) hb hs hf).alloc7 (.int .i64 vb) (.int .i64 vc) (.int .i64 vu) (.int .i64 vm) (.int .i64 vx) (.int .i64 vs) (.slice ao6 VH.length c6) 77 w6.heap.size rfl
        clear hs hf hb y0 y1 y2 y3 y4 y5 y6 y7 y8 y9 y10 y11 y12 y13 I3
        have y0 := I4.get 0 rfl
        have y1 := I4.get 1 rfl
        have y2 := I4.get 2 rfl
        have y3 := I4.get 3 rfl
        have y4 := I4.get 4 rfl
        have y5 := I4.get 5 rfl
        have y6 := I4.get 6 rfl
        have y7 := I4.get 21 rfl
        have y8 := I4.get 22 rfl
        have y9 := I4.get 23 rfl
        have y10 := I4.get 24 rfl
        have y11 := I4.get 25 rfl
        have y12 := I4.get 26 rfl
        have y13 := I4.get 27 rfl
        go_wp2_with fail
        refine (law_eqSE vb vc vu vm vx vs VH _ _ _ _ _ _ _ _ _ (by omega) (I4.at 0 rfl) (I4.at 3 rfl)).mono ?_
        rintro e w7 ⟨rfl, hb⟩
        have I5 := I4.step hb
        clear hb y0 y1 y2 y3 y4 y5 y6 y7 y8 y9 y10 y11 y12 y13 I4
        have hx : SliceRep intTy w7 (.slice (some ⟨g4, 0, none⟩) a7 a7) (lsI a7 a9) [g4] := I5.at 2 rfl
        have IQ := I5
        have KQ := I5.1.sub (l' := [(⟨w4.heap.size, 0, none⟩, .int .i64 a0), (⟨w4.heap.size, 1, none⟩, .int .i64 a1), (⟨w4.heap.size, 2, none⟩, .int .i64 a2), (⟨w4.heap.size, 3, none⟩, .int .i64 a3), (⟨w4.heap.size, 4, none⟩, .int .i64 a4), (⟨w4.heap.size, 5, none⟩, .int .i64 a5), (⟨w4.heap.size, 6, none⟩, .slice (some ⟨g4, 0, none⟩) a7 a7), (⟨w.heap.size, 0, none⟩, .int .i64 a0), (⟨w.heap.size, 1, none⟩, .int .i64 a1), (⟨w.heap.size, 2, none⟩, .int .i64 a2), (⟨w.heap.size, 3, none⟩, .int .i64 a3), (⟨w.heap.size, 4, none⟩, .int .i64 a4), (⟨w.heap.size, 5, none⟩, .int .i64 a5), (⟨w.heap.size, 6, none⟩, .slice a6 a7 a8)]) (by intro p9 hp9; simp only [List.mem_cons, List.not_mem_nil, or_false] at hp9; rcases hp9 with rfl | rfl | rfl | rfl | rfl | rfl | rfl | rfl | rfl | rfl | rfl | rfl | rfl | rfl <;> simp)
        go_wp2_with fail
        go_region_held3 (fun w' => w'.cell? ⟨w4.heap.size, 0, none⟩ = some (.int .i64 a0) ∧ w'.cell? ⟨w4.heap.size, 1, none⟩ = some (.int .i64 a1) ∧ w'.cell? ⟨w4.heap.size, 2, none⟩ = some (.int .i64 a2) ∧ w'.cell? ⟨w4.heap.size, 3, none⟩ = some (.int .i64 a3) ∧ w'.cell? ⟨w4.heap.size, 4, none⟩ = some (.int .i64 a4) ∧ w'.cell? ⟨w4.heap.size, 5, none⟩ = some (.int .i64 a5) ∧ w'.cell? ⟨w4.heap.size, 6, none⟩ = some (.slice (some ⟨g4, 0, none⟩) a7 a7) ∧ w'.cell? ⟨w.heap.size, 0, none⟩ = some (.int .i64 a0) ∧ w'.cell? ⟨w.heap.size, 1, none⟩ = some (.int .i64 a1) ∧ w'.cell? ⟨w.heap.size, 2, none⟩ = some (.int .i64 a2) ∧ w'.cell? ⟨w.heap.size, 3, none⟩ = some (.int .i64 a3) ∧ w'.cell? ⟨w.heap.size, 4, none⟩ = some (.int .i64 a4) ∧ w'.cell? ⟨w.heap.size, 5, none⟩ = some (.int .i64 a5) ∧ w'.cell? ⟨w.heap.size, 6, none⟩ = some (.slice a6 a7 a8) ∧ Below w7.heap.size w7 w') (first | assumption | exact kn14_at KQ (Below.refl _ _).drew | exact kn14_keep KQ (by assumption) (by assumption)) (first | (go_simp; go_at_call 59; (with_reducible refine (law_toSE a0 a1 a2 a3 a4 a5 a6 a7 a8 a9 _ hn0 ?_).mono ?_); (exact (HA0.out.below KQ.1).below (kn14_b (by assumption))); rintro e9 w10 ⟨g9, rfl, hs9, _, hb9⟩) | (go_simp; go_at_call 52; (with_reducible refine (law_eqSE a0 a1 a2 a3 a4 a5 (lsI a7 a9) _ _ _ _ _ _ [g4] [g9] _ ?_ ?_ ?_).mono ?_); (rw [lsI_len]; omega); (exact hx.step (kn14_b (by assumption))); (exact hs9); rintro e9 w11 ⟨rfl, hb⟩))
        all_goals
          have IX := IQ.step (kn14_b (‹_ ∧ _ ∧ _ ∧ _ ∧ _ ∧ _ ∧ _ ∧ _ ∧ _ ∧ _ ∧ _ ∧ _ ∧ _ ∧ _ ∧ Below w7.heap.size w7 w11›))
          obtain ⟨w8, hw9⟩ : ∃ w9, w9 = w11 := ⟨_, rfl⟩
          clear hb hs9 hb9 KQ IQ I5 hx
          subst hw9
          have I6 := IX
          clear IX
          have hx : SliceRep intTy w8 (.slice (some ⟨g5, 0, none⟩) a17 a17) (lsI a17 a19) [g5] := I6.at 1 rfl
          have IQ := I6
          have KQ := I6.1.sub (l' := [(⟨w5.heap.size, 0, none⟩, .int .i64 a10), (⟨w5.heap.size, 1, none⟩, .int .i64 a11), (⟨w5.heap.size, 2, none⟩, .int .i64 a12), (⟨w5.heap.size, 3, none⟩, .int .i64 a13), (⟨w5.heap.size, 4, none⟩, .int .i64 a14), (⟨w5.heap.size, 5, none⟩, .int .i64 a15), (⟨w5.heap.size, 6, none⟩, .slice (some ⟨g5, 0, none⟩) a17 a17), (⟨w.heap.size + 1, 0, none⟩, .int .i64 a10), (⟨w.heap.size + 1, 1, none⟩, .int .i64 a11), (⟨w.heap.size + 1, 2, none⟩, .int .i64 a12), (⟨w.heap.size + 1, 3, none⟩, .int .i64 a13), (⟨w.heap.size + 1, 4, none⟩, .int .i64 a14), (⟨w.heap.size + 1, 5, none⟩, .int .i64 a15), (⟨w.heap.size + 1, 6, none⟩, .slice a16 a17 a18)]) (by intro p9 hp9; simp only [List.mem_cons, List.not_mem_nil, or_false] at hp9; rcases hp9 with rfl | rfl | rfl | rfl | rfl | rfl | rfl | rfl | rfl | rfl | rfl | rfl | rfl | rfl <;> simp)
          go_wp2_with fail
          go_region_held3 (fun w' => w'.cell? ⟨w5.heap.size, 0, none⟩ = some (.int .i64 a10) ∧ w'.cell? ⟨w5.heap.size, 1, none⟩ = some (.int .i64 a11) ∧ w'.cell? ⟨w5.heap.size, 2, none⟩ = some (.int .i64 a12) ∧ w'.cell? ⟨w5.heap.size, 3, none⟩ = some (.int .i64 a13) ∧ w'.cell? ⟨w5.heap.size, 4, none⟩ = some (.int .i64 a14) ∧ w'.cell? ⟨w5.heap.size, 5, none⟩ = some (.int .i64 a15) ∧ w'.cell? ⟨w5.heap.size, 6, none⟩ = some (.slice (some ⟨g5, 0, none⟩) a17 a17) ∧ w'.cell? ⟨w.heap.size + 1, 0, none⟩ = some (.int .i64 a10) ∧ w'.cell? ⟨w.heap.size + 1, 1, none⟩ = some (.int .i64 a11) ∧ w'.cell? ⟨w.heap.size + 1, 2, none⟩ = some (.int .i64 a12) ∧ w'.cell? ⟨w.heap.size + 1, 3, none⟩ = some (.int .i64 a13) ∧ w'.cell? ⟨w.heap.size + 1, 4, none⟩ = some (.int .i64 a14) ∧ w'.cell? ⟨w.heap.size + 1, 5, none⟩ = some (.int .i64 a15) ∧ w'.cell? ⟨w.heap.size + 1, 6, none⟩ = some (.slice a16 a17 a18) ∧ Below w8.heap.size w8 w') (first | assumption | exact kn14_at KQ (Below.refl _ _).drew | exact kn14_keep KQ (by assumption) (by assumption)) (first | (go_simp; go_at_call 59; (with_reducible refine (law_toSE a10 a11 a12 a13 a14 a15 a16 a17 a18 a19 _ hn10 ?_).mono ?_); (exact (HA10.out.below KQ.1).below (kn14_b (by assumption))); rintro e9 w10 ⟨g9, rfl, hs9, _, hb9⟩) | (go_simp; go_at_call 52; (with_reducible refine (law_eqSE a10 a11 a12 a13 a14 a15 (lsI a17 a19) _ _ _ _ _ _ [g5] [g9] _ ?_ ?_ ?_).mono ?_); (rw [lsI_len]; omega); (exact hx.step (kn14_b (by assumption))); (exact hs9); rintro e9 w11 ⟨rfl, hb⟩))
          all_goals
            have IX := IQ.step (kn14_b (‹_ ∧ _ ∧ _ ∧ _ ∧ _ ∧ _ ∧ _ ∧ _ ∧ _ ∧ _ ∧ _ ∧ _ ∧ _ ∧ _ ∧ Below w8.heap.size w8 w11›))
            obtain ⟨w9, hw9⟩ : ∃ w9, w9 = w11 := ⟨_, rfl⟩
            clear hb hs9 hb9 KQ IQ I6 hx
            subst hw9
            have I7 := IX
            clear IX
            have y0 := I7.get 14 rfl
            have y1 := I7.get 15 rfl
            have y2 := I7.get 16 rfl
            have y3 := I7.get 17 rfl
            have y4 := I7.get 18 rfl
            have y5 := I7.get 19 rfl
            have y6 := I7.get 20 rfl
            go_wp2_with fail
            refine (law_markSE a0 a1 a2 a3 a4 a5 (lsI a7 a9) _ _ 1 _ (by rw [lsI_len]; omega) (by decide) (by decide) (I7.at 2 rfl)).mono ?_
            rintro e w10 ⟨rfl, hc, hs⟩
            have I8 := Inv.chg (S1 := [ownS intTy (.slice ao6 VH.length c6) VH fp6, ownS intTy (.slice (some ⟨g5, 0, none⟩) a17 a17) (lsI a17 a19) [g5]]) (S2 := [ownS intTy (.slice ao3 VH.length c3) VH fp3]) (s := ownS intTy (.slice (some ⟨g4, 0, none⟩) a7 a7) (lsI a7 a9) [g4]) I7 (ownS intTy (.slice (some ⟨g4, 0, none⟩) a7 a7) (markI 1 (lsI a7 a9).length) [g4]) rfl hc hs
            clear hc hs y0 y1 y2 y3 y4 y5 y6 I7
            obtain ⟨ka, hka⟩ : ∃ z, z = 1 + ((lsI a7 a9).length : Int) := ⟨_, rfl⟩
            rw [← hka]
            have kab : 0 ≤ ka ∧ ka ≤ 4000000 := by rw [hka, lsI_len]; omega
            clear hka
            obtain ⟨ka0, ka1⟩ := kab
            have y0 := I8.get 7 rfl
            have y1 := I8.get 8 rfl
            have y2 := I8.get 9 rfl
            have y3 := I8.get 10 rfl
            have y4 := I8.get 11 rfl
            have y5 := I8.get 12 rfl
            have y6 := I8.get 13 rfl
            go_wp2_with fail
            refine (law_markSE a10 a11 a12 a13 a14 a15 (lsI a17 a19) _ _ ka _ (by rw [lsI_len]; omega) ka0 (by omega) (I8.at 1 rfl)).mono ?_
            rintro e w11 ⟨rfl, hc, hs⟩
            have I9 := Inv.chg (S1 := [ownS intTy (.slice ao6 VH.length c6) VH fp6]) (S2 := [ownS intTy (.slice (some ⟨g4, 0, none⟩) a7 a7) (markI 1 (lsI a7 a9).length) [g4], ownS intTy (.slice ao3 VH.length c3) VH fp3]) (s := ownS intTy (.slice (some ⟨g5, 0, none⟩) a17 a17) (lsI a17 a19) [g5]) I8 (ownS intTy (.slice (some ⟨g5, 0, none⟩) a17 a17) (markI ka (lsI a17 a19).length) [g5]) rfl hc hs
            clear hc hs y0 y1 y2 y3 y4 y5 y6 I8
            obtain ⟨kb, hkb⟩ : ∃ z, z = ka + ((lsI a17 a19).length : Int) := ⟨_, rfl⟩
            rw [← hkb]
            have kbb : 0 ≤ kb ∧ kb ≤ 8000000 := by rw [hkb, lsI_len]; omega
            clear hkb
            obtain ⟨kb0, kb1⟩ := kbb
            have kbz : ¬ kb < 0 := by omega
            have kbd : decide (kb < 0) = false := decide_eq_false kbz
            have y0 := I9.get 0 rfl
            have y1 := I9.get 1 rfl
            have y2 := I9.get 2 rfl
            have y3 := I9.get 3 rfl
            have y4 := I9.get 4 rfl
            have y5 := I9.get 5 rfl
            have y6 := I9.get 6 rfl
            have y7 := I9.get 21 rfl
            have y8 := I9.get 22 rfl
            have y9 := I9.get 23 rfl
            have y10 := I9.get 24 rfl
            have y11 := I9.get 25 rfl
            have y12 := I9.get 26 rfl
            have y13 := I9.get 27 rfl
            go_wp2_with fail
            refine (law_eqSE vb vc vu vm vx vs VH _ _ _ _ _ _ _ _ _ (by omega) (I9.at 0 rfl) (I9.at 3 rfl)).mono ?_
            rintro e w12 ⟨rfl, hb⟩
            have I10 := I9.step hb
            clear hb y0 y1 y2 y3 y4 y5 y6 y7 y8 y9 y10 y11 y12 y13 I9
            have y0 := I10.get 0 rfl
            have y1 := I10.get 1 rfl
            have y2 := I10.get 2 rfl
            have y3 := I10.get 3 rfl
            have y4 := I10.get 4 rfl
            have y5 := I10.get 5 rfl
            have y6 := I10.get 6 rfl
            go_wp2_with fail
            refine (law_markSE vb vc vu vm vx vs VH _ _ 1 _ (by omega) (by decide) (by decide) (I10.at 0 rfl)).mono ?_
            rintro e w13 ⟨rfl, hc, hs⟩
            have I11 := Inv.chg (S1 := []) (S2 := [ownS intTy (.slice (some ⟨g5, 0, none⟩) a17 a17) (markI ka (lsI a17 a19).length) [g5], ownS intTy (.slice (some ⟨g4, 0, none⟩) a7 a7) (markI 1 (lsI a7 a9).length) [g4], ownS intTy (.slice ao3 VH.length c3) VH fp3]) (s := ownS intTy (.slice ao6 VH.length c6) VH fp6) I10 (ownS intTy (.slice ao6 VH.length c6) (markI 1 VH.length) fp6) rfl hc hs
            clear hc hs y0 y1 y2 y3 y4 y5 y6 I10
            obtain ⟨mm, hmm⟩ : ∃ q, q = 1 + (VH.length : Int) := ⟨_, rfl⟩
            rw [← hmm]
            have mm0 : ¬ mm < 0 := by omega
            have mmd : decide (mm < 0) = false := decide_eq_false (by omega)
            have Hmm := Lib.hid hmm
            clear hmm
            have mmq : (mm != mm) = false := bne_self_eq_false _
            have y0 := I11.get 0 rfl
            have y1 := I11.get 1 rfl
            have y2 := I11.get 2 rfl
            have y3 := I11.get 3 rfl
            have y4 := I11.get 4 rfl
            have y5 := I11.get 5 rfl
            have y6 := I11.get 6 rfl
            go_wp2_with fail
            refine (law_heldS vb vc vu vm vx vs _ VH.length fp6 1 _ (by omega) (by decide) (by decide) (I11.at 0 rfl)).mono ?_
            rintro e w14 ⟨rfl, hb⟩
            rw [← Hmm.out]
            have I12 := I11.step hb
            clear hb y0 y1 y2 y3 y4 y5 y6 I11
            go_upto_region 31 with fail
            go_cut [15, 16] (fun s15 s16 wx => ∃ (nb15 : Nat) (ao15 : Option Addr) (c15 : Nat) (fp15 : List Nat), s15 = .pointer (some ⟨nb15, 0, none⟩) ∧ s16 = .bool OKV ∧ Inv w wx [(⟨nb15, 0, none⟩, .int .i64 vb), (⟨nb15, 1, none⟩, .int .i64 vc), (⟨nb15, 2, none⟩, .int .i64 vu), (⟨nb15, 3, none⟩, .int .i64 vm), (⟨nb15, 4, none⟩, .int .i64 vx), (⟨nb15, 5, none⟩, .int .i64 vs), (⟨nb15, 6, none⟩, .slice ao15 VH.length c15), (⟨w6.heap.size, 0, none⟩, .int .i64 vb), (⟨w6.heap.size, 1, none⟩, .int .i64 vc), (⟨w6.heap.size, 2, none⟩, .int .i64 vu), (⟨w6.heap.size, 3, none⟩, .int .i64 vm), (⟨w6.heap.size, 4, none⟩, .int .i64 vx), (⟨w6.heap.size, 5, none⟩, .int .i64 vs), (⟨w6.heap.size, 6, none⟩, .slice ao6 VH.length c6), (⟨w5.heap.size, 0, none⟩, .int .i64 a10), (⟨w5.heap.size, 1, none⟩, .int .i64 a11), (⟨w5.heap.size, 2, none⟩, .int .i64 a12), (⟨w5.heap.size, 3, none⟩, .int .i64 a13), (⟨w5.heap.size, 4, none⟩, .int .i64 a14), (⟨w5.heap.size, 5, none⟩, .int .i64 a15), (⟨w5.heap.size, 6, none⟩, .slice (some ⟨g5, 0, none⟩) a17 a17), (⟨w4.heap.size, 0, none⟩, .int .i64 a0), (⟨w4.heap.size, 1, none⟩, .int .i64 a1), (⟨w4.heap.size, 2, none⟩, .int .i64 a2), (⟨w4.heap.size, 3, none⟩, .int .i64 a3), (⟨w4.heap.size, 4, none⟩, .int .i64 a4), (⟨w4.heap.size, 5, none⟩, .int .i64 a5), (⟨w4.heap.size, 6, none⟩, .slice (some ⟨g4, 0, none⟩) a7 a7), (⟨nb3, 0, none⟩, .int .i64 vb), (⟨nb3, 1, none⟩, .int .i64 vc), (⟨nb3, 2, none⟩, .int .i64 vu), (⟨nb3, 3, none⟩, .int .i64 vm), (⟨nb3, 4, none⟩, .int .i64 vx), (⟨nb3, 5, none⟩, .int .i64 vs), (⟨nb3, 6, none⟩, .slice ao3 VH.length c3), (⟨w.heap.size + 1, 0, none⟩, .int .i64 a10), (⟨w.heap.size + 1, 1, none⟩, .int .i64 a11), (⟨w.heap.size + 1, 2, none⟩, .int .i64 a12), (⟨w.heap.size + 1, 3, none⟩, .int .i64 a13), (⟨w.heap.size + 1, 4, none⟩, .int .i64 a14), (⟨w.heap.size + 1, 5, none⟩, .int .i64 a15), (⟨w.heap.size + 1, 6, none⟩, .slice a16 a17 a18), (⟨w.heap.size, 0, none⟩, .int .i64 a0), (⟨w.heap.size, 1, none⟩, .int .i64 a1), (⟨w.heap.size, 2, none⟩, .int .i64 a2), (⟨w.heap.size, 3, none⟩, .int .i64 a3), (⟨w.heap.size, 4, none⟩, .int .i64 a4), (⟨w.heap.size, 5, none⟩, .int .i64 a5), (⟨w.heap.size, 6, none⟩, .slice a6 a7 a8)] [ownS intTy (.slice ao15 VH.length c15) VH fp15, ownS intTy (.slice ao6 VH.length c6) (markI 1 VH.length) fp6, ownS intTy (.slice (some ⟨g5, 0, none⟩) a17 a17) (markI ka (lsI a17 a19).length) [g5], ownS intTy (.slice (some ⟨g4, 0, none⟩) a7 a7) (markI 1 (lsI a7 a9).length) [g4], ownS intTy (.slice ao3 VH.length c3) VH fp3])
            case first =>
              have KDb := I12.drew
              refine wp_region_held_drew (S := fun w' => w'.cell? ⟨w.heap.size, 0, none⟩ = some (.int .i64 a0) ∧ w'.cell? ⟨w.heap.size, 1, none⟩ = some (.int .i64 a1) ∧ w'.cell? ⟨w.heap.size, 2, none⟩ = some (.int .i64 a2) ∧ w'.cell? ⟨w.heap.size, 3, none⟩ = some (.int .i64 a3) ∧ w'.cell? ⟨w.heap.size, 4, none⟩ = some (.int .i64 a4) ∧ w'.cell? ⟨w.heap.size, 5, none⟩ = some (.int .i64 a5) ∧ w'.cell? ⟨w.heap.size, 6, none⟩ = some (.slice a6 a7 a8) ∧ w'.cell? ⟨w.heap.size + 1, 0, none⟩ = some (.int .i64 a10) ∧ w'.cell? ⟨w.heap.size + 1, 1, none⟩ = some (.int .i64 a11) ∧ w'.cell? ⟨w.heap.size + 1, 2, none⟩ = some (.int .i64 a12) ∧ w'.cell? ⟨w.heap.size + 1, 3, none⟩ = some (.int .i64 a13) ∧ w'.cell? ⟨w.heap.size + 1, 4, none⟩ = some (.int .i64 a14) ∧ w'.cell? ⟨w.heap.size + 1, 5, none⟩ = some (.int .i64 a15) ∧ w'.cell? ⟨w.heap.size + 1, 6, none⟩ = some (.slice a16 a17 a18)) (by kernel_rfl) (⟨KDb.get 35 rfl, KDb.get 36 rfl, KDb.get 37 rfl, KDb.get 38 rfl, KDb.get 39 rfl, KDb.get 40 rfl, KDb.get 41 rfl, KDb.get 28 rfl, KDb.get 29 rfl, KDb.get 30 rfl, KDb.get 31 rfl, KDb.get 32 rfl, KDb.get 33 rfl, KDb.get 34 rfl⟩) (fun hHeld => ?_)
              obtain ⟨wDb, hx9⟩ : ∃ x, x = w14.drew := ⟨_, rfl⟩
              have BDb := Lib.hid (show Below w14.heap.size w14 w14.drew from (Below.refl _ _).drew)
              rw [← hx9] at KDb hHeld BDb ⊢
              clear hx9
              refine wpAnyH_take (i := 0) (oi := mob0) (v := .agg #[.int .i64 a0, .int .i64 a1, .int .i64 a2, .int .i64 a3, .int .i64 a4, .int .i64 a5, .slice a6 a7 a8]) rfl (by kernel_rfl) (by kernel_rfl) (by kernel_rfl) (fun _ _ _ h => h) (Or.inl ⟨by rfl, ?_⟩) (by assumption) ?_
              · intro w8 hS8
                (try dsimp only at hS8)
                dsimp only [mob0]
                (first | (go_simp; done) | (go_simp; simp_all; done) | (simp_all [go_sem]; done))
              try simp only [Act.put, mob0, List.setIfInBounds_toArray, List.set_cons_zero, List.set_cons_succ]
              refine wpAnyH_take (i := 2) (oi := mob2) (v := .agg #[.int .i64 a10, .int .i64 a11, .int .i64 a12, .int .i64 a13, .int .i64 a14, .int .i64 a15, .slice a16 a17 a18]) rfl (by kernel_rfl) (by kernel_rfl) (by kernel_rfl) (fun _ _ _ h => h) (Or.inl ⟨by rfl, ?_⟩) (by assumption) ?_
              · intro w8 hS8
                (try dsimp only at hS8)
                dsimp only [mob2]
                (first | (go_simp; done) | (go_simp; simp_all; done) | (simp_all [go_sem]; done))
              try simp only [Act.put, mob2, List.setIfInBounds_toArray, List.set_cons_zero, List.set_cons_succ]
              refine wpAnyH_ready (rs := [1, 8]) (by kernel_rfl) (by simp) ?_
              refine AllReadyH.cons (o := mob1) rfl (fun K hK => ?_) (AllReadyH.cons (o := mob8) rfl (fun K hK => ?_) (AllReadyH.nil))
              · skip
                dsimp only [mob1]
                go_simp
                go_at_call 59
                (with_reducible refine (law_toSE a0 a1 a2 a3 a4 a5 a6 a7 a8 a9 _ hn0 (HA0.out.below (Inv.below KDb))).mono ?_)
                rintro e9 wcb1 ⟨gA, rfl, hsA, hfA, hbb1⟩
                have KCb1 := KDb.step hbb1
                refine hK.out _ _ ?_ (fun hHb1 => ?_)
                · exact ⟨KCb1.get 35 rfl, KCb1.get 36 rfl, KCb1.get 37 rfl, KCb1.get 38 rfl, KCb1.get 39 rfl, KCb1.get 40 rfl, KCb1.get 41 rfl, KCb1.get 28 rfl, KCb1.get 29 rfl, KCb1.get 30 rfl, KCb1.get 31 rfl, KCb1.get 32 rfl, KCb1.get 33 rfl, KCb1.get 34 rfl⟩
                clear hK K
                try simp only [Act.put, mob1, List.setIfInBounds_toArray, List.set_cons_zero, List.set_cons_succ]
                refine wpAnyH_ready (rs := [3, 8]) (by kernel_rfl) (by simp) ?_
                refine AllReadyH.cons (o := mob3) rfl (fun K hK => ?_) (AllReadyH.cons (o := mob8) rfl (fun K hK => ?_) (AllReadyH.nil))
                · skip
                  dsimp only [mob3]
                  go_simp
                  go_at_call 59
                  (with_reducible refine (law_toSE a10 a11 a12 a13 a14 a15 a16 a17 a18 a19 _ hn10 (HA10.out.below (Inv.below KCb1))).mono ?_)
                  rintro e9 wcb2 ⟨gB, rfl, hsB, hfB, hbb2⟩
                  have KCb2 := KCb1.step hbb2
                  refine hK.out _ _ ?_ (fun hHb2 => ?_)
                  · exact ⟨KCb2.get 35 rfl, KCb2.get 36 rfl, KCb2.get 37 rfl, KCb2.get 38 rfl, KCb2.get 39 rfl, KCb2.get 40 rfl, KCb2.get 41 rfl, KCb2.get 28 rfl, KCb2.get 29 rfl, KCb2.get 30 rfl, KCb2.get 31 rfl, KCb2.get 32 rfl, KCb2.get 33 rfl, KCb2.get 34 rfl⟩
                  clear hK K
                  try simp only [Act.put, mob3, List.setIfInBounds_toArray, List.set_cons_zero, List.set_cons_succ]
                  refine wpAnyH_ready (rs := [4, 8]) (by kernel_rfl) (by simp) ?_
                  refine AllReadyH.cons (o := mob4) rfl (fun K hK => ?_) (AllReadyH.cons (o := mob8) rfl (fun K hK => ?_) (AllReadyH.nil))
                  · skip
                    dsimp only [mob4]
                    go_simp
                    go_at_call 64
                    (with_reducible refine (IM.out _ _ _ [gA] [gB] (hsA.step hbb2) hsB).mono ?_)
                    rintro e9 wcb3 ⟨vR, fpR, rfl, hsR, hndR, hfR, hbb3⟩
                    obtain ⟨aoR, cR, rfl, _, _⟩ := ints_open hsR
                    have KCb3 := KCb2.own (ownS intTy (.slice aoR VH.length cR) VH fpR) hbb3 hsR hfR
                    refine hK.out _ _ ?_ (fun hHb3 => ?_)
                    · exact ⟨KCb3.get 35 rfl, KCb3.get 36 rfl, KCb3.get 37 rfl, KCb3.get 38 rfl, KCb3.get 39 rfl, KCb3.get 40 rfl, KCb3.get 41 rfl, KCb3.get 28 rfl, KCb3.get 29 rfl, KCb3.get 30 rfl, KCb3.get 31 rfl, KCb3.get 32 rfl, KCb3.get 33 rfl, KCb3.get 34 rfl⟩
                    clear hK K
                    try simp only [Act.put, mob4, List.setIfInBounds_toArray, List.set_cons_zero, List.set_cons_succ]
                    refine wpAnyH_take (i := 5) (oi := mob5) (v := .tuple #[.agg #[.int .i64 vb, .int .i64 vc, .int .i64 vu, .int .i64 vm, .int .i64 vx, .int .i64 vs, .slice aoR VH.length cR], .bool OKV]) rfl (by kernel_rfl) (by kernel_rfl) (by kernel_rfl) (fun _ _ _ h => h) (Or.inl ⟨by rfl, ?_⟩) (by assumption) ?_
                    · intro w8 hS8
                      (try dsimp only at hS8)
                      dsimp only [mob5]
                      (first | (go_simp; done) | (go_simp; simp_all; done) | (simp_all [go_sem]; done))
                    try simp only [Act.put, mob5, List.setIfInBounds_toArray, List.set_cons_zero, List.set_cons_succ]
                    refine wpAnyH_take (i := 6) (oi := mob6) (v := .agg #[.int .i64 vb, .int .i64 vc, .int .i64 vu, .int .i64 vm, .int .i64 vx, .int .i64 vs, .slice aoR VH.length cR]) rfl (by kernel_rfl) (by kernel_rfl) (by kernel_rfl) (fun _ _ _ h => h) (Or.inl ⟨by rfl, ?_⟩) (by assumption) ?_
                    · intro w8 hS8
                      (try dsimp only at hS8)
                      dsimp only [mob6]
                      (first | (go_simp; done) | (go_simp; simp_all; done) | (simp_all [go_sem]; done))
                    try simp only [Act.put, mob6, List.setIfInBounds_toArray, List.set_cons_zero, List.set_cons_succ]
                    refine wpAnyH_take (i := 7) (oi := mob7) (v := .bool OKV) rfl (by kernel_rfl) (by kernel_rfl) (by kernel_rfl) (fun _ _ _ h => h) (Or.inl ⟨by rfl, ?_⟩) (by assumption) ?_
                    · intro w8 hS8
                      (try dsimp only at hS8)
                      dsimp only [mob7]
                      (first | (go_simp; done) | (go_simp; simp_all; done) | (simp_all [go_sem]; done))
                    try simp only [Act.put, mob7, List.setIfInBounds_toArray, List.set_cons_zero, List.set_cons_succ]
                    refine wpAnyH_ready (rs := [8]) (by kernel_rfl) (by simp) ?_
                    refine AllReadyH.cons (o := mob8) rfl (fun K hK => ?_) AllReadyH.nil
                    dsimp only [mob8]
                    go_simp
                    have KCb4 := KCb3.alloc7 (.int .i64 0) (.int .i64 0) (.int .i64 0) (.int .i64 0) (.int .i64 0) (.int .i64 0) (.slice none 0 0) 77 wcb3.heap.size rfl
                    have hbb4 : Below wcb3.heap.size wcb3 (wcb3.alloc (.cells #[.int .i64 0, .int .i64 0, .int .i64 0, .int .i64 0, .int .i64 0, .int .i64 0, .slice none 0 0] 77)) := (Below.refl _ _).alloc (Nat.le_refl _) _
                    obtain ⟨nbb4, hN4⟩ : ∃ x, x = wcb3.heap.size := ⟨_, rfl⟩
                    refine hK.out _ _ ?_ (fun hHb4 => ?_)
                    · exact ⟨KCb4.get 42 rfl, KCb4.get 43 rfl, KCb4.get 44 rfl, KCb4.get 45 rfl, KCb4.get 46 rfl, KCb4.get 47 rfl, KCb4.get 48 rfl, KCb4.get 35 rfl, KCb4.get 36 rfl, KCb4.get 37 rfl, KCb4.get 38 rfl, KCb4.get 39 rfl, KCb4.get 40 rfl, KCb4.get 41 rfl⟩
                    clear hK K
                    try simp only [Act.put, mob8, List.setIfInBounds_toArray, List.set_cons_zero, List.set_cons_succ]
                    obtain ⟨wcb4, hx9⟩ : ∃ x, x = wcb3.alloc (.cells #[.int .i64 0, .int .i64 0, .int .i64 0, .int .i64 0, .int .i64 0, .int .i64 0, .slice none 0 0] 77) := ⟨_, rfl⟩
                    rw [← hx9] at KCb4 hHb4 hbb4 ⊢
                    clear hx9
                    have HNb4 := Lib.hid hN4
                    rw [← hN4] at KCb4 ⊢
                    clear hN4
                    refine wpAnyH_ready (rs := [9]) (by kernel_rfl) (by simp) ?_
                    refine AllReadyH.cons (o := mob9) rfl (fun K hK => ?_) AllReadyH.nil
                    have k0 := KCb4.get 0 rfl
                    have f0 := KCb4.fz 0 rfl
                    have k1 := KCb4.get 1 rfl
                    have f1 := KCb4.fz 1 rfl
                    have k2 := KCb4.get 2 rfl
                    have f2 := KCb4.fz 2 rfl
                    have k3 := KCb4.get 3 rfl
                    have f3 := KCb4.fz 3 rfl
                    have k4 := KCb4.get 4 rfl
                    have f4 := KCb4.fz 4 rfl
                    have k5 := KCb4.get 5 rfl
                    have f5 := KCb4.fz 5 rfl
                    have k6 := KCb4.get 6 rfl
                    have f6 := KCb4.fz 6 rfl
                    dsimp only [mob9]
                    go_simp
                    have KCb5 := KCb4.setB7 (.int .i64 vb) (.int .i64 vc) (.int .i64 vu) (.int .i64 vm) (.int .i64 vx) (.int .i64 vs) (.slice aoR VH.length cR) (by have h1 := KCb3.below.size; have h2 := HNb4.out; omega) (fun c9 hc9 => by have h1 := (KCb3.1.2 c9 hc9).1; have h2 := HNb4.out; omega)
                    refine hK.out _ _ ?_ (fun hHb5 => ?_)
                    · exact ⟨KCb5.get 42 rfl, KCb5.get 43 rfl, KCb5.get 44 rfl, KCb5.get 45 rfl, KCb5.get 46 rfl, KCb5.get 47 rfl, KCb5.get 48 rfl, KCb5.get 35 rfl, KCb5.get 36 rfl, KCb5.get 37 rfl, KCb5.get 38 rfl, KCb5.get 39 rfl, KCb5.get 40 rfl, KCb5.get 41 rfl⟩
                    clear hK K
                    try simp only [Act.put, mob9, List.setIfInBounds_toArray, List.set_cons_zero, List.set_cons_succ]
                    refine wpAnyH_take (i := 10) (oi := mob10) (v := .bool OKV) rfl (by kernel_rfl) (by kernel_rfl) (by kernel_rfl) (fun _ _ _ h => h) (Or.inl ⟨by rfl, ?_⟩) (by assumption) ?_
                    · intro w8 hS8
                      (try dsimp only at hS8)
                      dsimp only [mob10]
                      (first | (go_simp; done) | (go_simp; simp_all; done) | (simp_all [go_sem]; done))
                    try simp only [Act.put, mob10, List.setIfInBounds_toArray, List.set_cons_zero, List.set_cons_succ]
                    refine wpAnyH_done (by kernel_rfl) ?_ _
                    dsimp only [Exit.then]
                    go_step
                    go_meet
                    exact ⟨nbb4, aoR, cR, fpR, rfl, rfl, KCb5⟩
                  · skip
                    dsimp only [mob8]
                    go_simp
                    have KCb3 := KCb2.alloc7 (.int .i64 0) (.int .i64 0) (.int .i64 0) (.int .i64 0) (.int .i64 0) (.int .i64 0) (.slice none 0 0) 77 wcb2.heap.size rfl
                    have hbb3 : Below wcb2.heap.size wcb2 (wcb2.alloc (.cells #[.int .i64 0, .int .i64 0, .int .i64 0, .int .i64 0, .int .i64 0, .int .i64 0, .slice none 0 0] 77)) := (Below.refl _ _).alloc (Nat.le_refl _) _
                    obtain ⟨nbb3, hN3⟩ : ∃ x, x = wcb2.heap.size := ⟨_, rfl⟩
                    refine hK.out _ _ ?_ (fun hHb3 => ?_)
                    · exact ⟨KCb3.get 42 rfl, KCb3.get 43 rfl, KCb3.get 44 rfl, KCb3.get 45 rfl, KCb3.get 46 rfl, KCb3.get 47 rfl, KCb3.get 48 rfl, KCb3.get 35 rfl, KCb3.get 36 rfl, KCb3.get 37 rfl, KCb3.get 38 rfl, KCb3.get 39 rfl, KCb3.get 40 rfl, KCb3.get 41 rfl⟩
                    clear hK K
                    try simp only [Act.put, mob8, List.setIfInBounds_toArray, List.set_cons_zero, List.set_cons_succ]
                    obtain ⟨wcb3, hx9⟩ : ∃ x, x = wcb2.alloc (.cells #[.int .i64 0, .int .i64 0, .int .i64 0, .int .i64 0, .int .i64 0, .int .i64 0, .slice none 0 0] 77) := ⟨_, rfl⟩
                    rw [← hx9] at KCb3 hHb3 hbb3 ⊢
                    clear hx9
                    have HNb3 := Lib.hid hN3
                    rw [← hN3] at KCb3 ⊢
                    clear hN3
                    refine wpAnyH_ready (rs := [4]) (by kernel_rfl) (by simp) ?_
                    refine AllReadyH.cons (o := mob4) rfl (fun K hK => ?_) AllReadyH.nil
                    dsimp only [mob4]
                    go_simp
                    go_at_call 64
                    (with_reducible refine (IM.out _ _ _ [gA] [gB] ((hsA.step hbb2).step hbb3) (hsB.step hbb3)).mono ?_)
                    rintro e9 wcb4 ⟨vR, fpR, rfl, hsR, hndR, hfR, hbb4⟩
                    obtain ⟨aoR, cR, rfl, _, _⟩ := ints_open hsR
                    have KCb4 := KCb3.own (ownS intTy (.slice aoR VH.length cR) VH fpR) hbb4 hsR hfR
                    refine hK.out _ _ ?_ (fun hHb4 => ?_)
                    · exact ⟨KCb4.get 42 rfl, KCb4.get 43 rfl, KCb4.get 44 rfl, KCb4.get 45 rfl, KCb4.get 46 rfl, KCb4.get 47 rfl, KCb4.get 48 rfl, KCb4.get 35 rfl, KCb4.get 36 rfl, KCb4.get 37 rfl, KCb4.get 38 rfl, KCb4.get 39 rfl, KCb4.get 40 rfl, KCb4.get 41 rfl⟩
                    clear hK K
                    try simp only [Act.put, mob4, List.setIfInBounds_toArray, List.set_cons_zero, List.set_cons_succ]
                    refine wpAnyH_take (i := 5) (oi := mob5) (v := .tuple #[.agg #[.int .i64 vb, .int .i64 vc, .int .i64 vu, .int .i64 vm, .int .i64 vx, .int .i64 vs, .slice aoR VH.length cR], .bool OKV]) rfl (by kernel_rfl) (by kernel_rfl) (by kernel_rfl) (fun _ _ _ h => h) (Or.inl ⟨by rfl, ?_⟩) (by assumption) ?_
                    · intro w8 hS8
                      (try dsimp only at hS8)
                      dsimp only [mob5]
                      (first | (go_simp; done) | (go_simp; simp_all; done) | (simp_all [go_sem]; done))
                    try simp only [Act.put, mob5, List.setIfInBounds_toArray, List.set_cons_zero, List.set_cons_succ]
                    refine wpAnyH_take (i := 6) (oi := mob6) (v := .agg #[.int .i64 vb, .int .i64 vc, .int .i64 vu, .int .i64 vm, .int .i64 vx, .int .i64 vs, .slice aoR VH.length cR]) rfl (by kernel_rfl) (by kernel_rfl) (by kernel_rfl) (fun _ _ _ h => h) (Or.inl ⟨by rfl, ?_⟩) (by assumption) ?_
                    · intro w8 hS8
                      (try dsimp only at hS8)
                      dsimp only [mob6]
                      (first | (go_simp; done) | (go_simp; simp_all; done) | (simp_all [go_sem]; done))
                    try simp only [Act.put, mob6, List.setIfInBounds_toArray, List.set_cons_zero, List.set_cons_succ]
                    refine wpAnyH_take (i := 7) (oi := mob7) (v := .bool OKV) rfl (by kernel_rfl) (by kernel_rfl) (by kernel_rfl) (fun _ _ _ h => h) (Or.inl ⟨by rfl, ?_⟩) (by assumption) ?_
                    · intro w8 hS8
                      (try dsimp only at hS8)
                      dsimp only [mob7]
                      (first | (go_simp; done) | (go_simp; simp_all; done) | (simp_all [go_sem]; done))
                    try simp only [Act.put, mob7, List.setIfInBounds_toArray, List.set_cons_zero, List.set_cons_succ]
                    refine wpAnyH_ready (rs := [9]) (by kernel_rfl) (by simp) ?_
                    refine AllReadyH.cons (o := mob9) rfl (fun K hK => ?_) AllReadyH.nil
                    have k0 := KCb4.get 0 rfl
                    have f0 := KCb4.fz 0 rfl
                    have k1 := KCb4.get 1 rfl
                    have f1 := KCb4.fz 1 rfl
                    have k2 := KCb4.get 2 rfl
                    have f2 := KCb4.fz 2 rfl
                    have k3 := KCb4.get 3 rfl
                    have f3 := KCb4.fz 3 rfl
                    have k4 := KCb4.get 4 rfl
                    have f4 := KCb4.fz 4 rfl
                    have k5 := KCb4.get 5 rfl
                    have f5 := KCb4.fz 5 rfl
                    have k6 := KCb4.get 6 rfl
                    have f6 := KCb4.fz 6 rfl
                    dsimp only [mob9]
                    go_simp
                    have KCb5 := KCb4.setB7 (.int .i64 vb) (.int .i64 vc) (.int .i64 vu) (.int .i64 vm) (.int .i64 vx) (.int .i64 vs) (.slice aoR VH.length cR) (by have h1 := KCb2.below.size; have h2 := HNb3.out; omega) (fun c9 hc9 => by have h1 := (KCb2.1.2 c9 hc9).1; have h2 := HNb3.out; omega)
                    refine hK.out _ _ ?_ (fun hHb5 => ?_)
                    · exact ⟨KCb5.get 42 rfl, KCb5.get 43 rfl, KCb5.get 44 rfl, KCb5.get 45 rfl, KCb5.get 46 rfl, KCb5.get 47 rfl, KCb5.get 48 rfl, KCb5.get 35 rfl, KCb5.get 36 rfl, KCb5.get 37 rfl, KCb5.get 38 rfl, KCb5.get 39 rfl, KCb5.get 40 rfl, KCb5.get 41 rfl⟩
                    clear hK K
                    try simp only [Act.put, mob9, List.setIfInBounds_toArray, List.set_cons_zero, List.set_cons_succ]
                    refine wpAnyH_take (i := 10) (oi := mob10) (v := .bool OKV) rfl (by kernel_rfl) (by kernel_rfl) (by kernel_rfl) (fun _ _ _ h => h) (Or.inl ⟨by rfl, ?_⟩) (by assumption) ?_
                    · intro w8 hS8
                      (try dsimp only at hS8)
                      dsimp only [mob10]
                      (first | (go_simp; done) | (go_simp; simp_all; done) | (simp_all [go_sem]; done))
                    try simp only [Act.put, mob10, List.setIfInBounds_toArray, List.set_cons_zero, List.set_cons_succ]
                    refine wpAnyH_done (by kernel_rfl) ?_ _
                    dsimp only [Exit.then]
                    go_step
                    go_meet
                    exact ⟨nbb3, aoR, cR, fpR, rfl, rfl, KCb5⟩
                · skip
                  dsimp only [mob8]
                  go_simp
                  have KCb2 := KCb1.alloc7 (.int .i64 0) (.int .i64 0) (.int .i64 0) (.int .i64 0) (.int .i64 0) (.int .i64 0) (.slice none 0 0) 77 wcb1.heap.size rfl
                  have hbb2 : Below wcb1.heap.size wcb1 (wcb1.alloc (.cells #[.int .i64 0, .int .i64 0, .int .i64 0, .int .i64 0, .int .i64 0, .int .i64 0, .slice none 0 0] 77)) := (Below.refl _ _).alloc (Nat.le_refl _) _
                  obtain ⟨nbb2, hN2⟩ : ∃ x, x = wcb1.heap.size := ⟨_, rfl⟩
                  refine hK.out _ _ ?_ (fun hHb2 => ?_)
                  · exact ⟨KCb2.get 42 rfl, KCb2.get 43 rfl, KCb2.get 44 rfl, KCb2.get 45 rfl, KCb2.get 46 rfl, KCb2.get 47 rfl, KCb2.get 48 rfl, KCb2.get 35 rfl, KCb2.get 36 rfl, KCb2.get 37 rfl, KCb2.get 38 rfl, KCb2.get 39 rfl, KCb2.get 40 rfl, KCb2.get 41 rfl⟩
                  clear hK K
                  try simp only [Act.put, mob8, List.setIfInBounds_toArray, List.set_cons_zero, List.set_cons_succ]
                  obtain ⟨wcb2, hx9⟩ : ∃ x, x = wcb1.alloc (.cells #[.int .i64 0, .int .i64 0, .int .i64 0, .int .i64 0, .int .i64 0, .int .i64 0, .slice none 0 0] 77) := ⟨_, rfl⟩
                  rw [← hx9] at KCb2 hHb2 hbb2 ⊢
                  clear hx9
                  have HNb2 := Lib.hid hN2
                  rw [← hN2] at KCb2 ⊢
                  clear hN2
                  refine wpAnyH_ready (rs := [3]) (by kernel_rfl) (by simp) ?_
                  refine AllReadyH.cons (o := mob3) rfl (fun K hK => ?_) AllReadyH.nil
                  dsimp only [mob3]
                  go_simp
                  go_at_call 59
                  (with_reducible refine (law_toSE a10 a11 a12 a13 a14 a15 a16 a17 a18 a19 _ hn10 (HA10.out.below (Inv.below KCb2))).mono ?_)
                  rintro e9 wcb3 ⟨gB, rfl, hsB, hfB, hbb3⟩
                  have KCb3 := KCb2.step hbb3
                  refine hK.out _ _ ?_ (fun hHb3 => ?_)
                  · exact ⟨KCb3.get 42 rfl, KCb3.get 43 rfl, KCb3.get 44 rfl, KCb3.get 45 rfl, KCb3.get 46 rfl, KCb3.get 47 rfl, KCb3.get 48 rfl, KCb3.get 35 rfl, KCb3.get 36 rfl, KCb3.get 37 rfl, KCb3.get 38 rfl, KCb3.get 39 rfl, KCb3.get 40 rfl, KCb3.get 41 rfl⟩
                  clear hK K
                  try simp only [Act.put, mob3, List.setIfInBounds_toArray, List.set_cons_zero, List.set_cons_succ]
                  refine wpAnyH_ready (rs := [4]) (by kernel_rfl) (by simp) ?_
                  refine AllReadyH.cons (o := mob4) rfl (fun K hK => ?_) AllReadyH.nil
                  dsimp only [mob4]
                  go_simp
                  go_at_call 64
                  (with_reducible refine (IM.out _ _ _ [gA] [gB] ((hsA.step hbb2).step hbb3) hsB).mono ?_)
                  rintro e9 wcb4 ⟨vR, fpR, rfl, hsR, hndR, hfR, hbb4⟩
                  obtain ⟨aoR, cR, rfl, _, _⟩ := ints_open hsR
                  have KCb4 := KCb3.own (ownS intTy (.slice aoR VH.length cR) VH fpR) hbb4 hsR hfR
                  refine hK.out _ _ ?_ (fun hHb4 => ?_)
                  · exact ⟨KCb4.get 42 rfl, KCb4.get 43 rfl, KCb4.get 44 rfl, KCb4.get 45 rfl, KCb4.get 46 rfl, KCb4.get 47 rfl, KCb4.get 48 rfl, KCb4.get 35 rfl, KCb4.get 36 rfl, KCb4.get 37 rfl, KCb4.get 38 rfl, KCb4.get 39 rfl, KCb4.get 40 rfl, KCb4.get 41 rfl⟩
                  clear hK K
                  try simp only [Act.put, mob4, List.setIfInBounds_toArray, List.set_cons_zero, List.set_cons_succ]
                  refine wpAnyH_take (i := 5) (oi := mob5) (v := .tuple #[.agg #[.int .i64 vb, .int .i64 vc, .int .i64 vu, .int .i64 vm, .int .i64 vx, .int .i64 vs, .slice aoR VH.length cR], .bool OKV]) rfl (by kernel_rfl) (by kernel_rfl) (by kernel_rfl) (fun _ _ _ h => h) (Or.inl ⟨by rfl, ?_⟩) (by assumption) ?_
                  · intro w8 hS8
                    (try dsimp only at hS8)
                    dsimp only [mob5]
                    (first | (go_simp; done) | (go_simp; simp_all; done) | (simp_all [go_sem]; done))
                  try simp only [Act.put, mob5, List.setIfInBounds_toArray, List.set_cons_zero, List.set_cons_succ]
                  refine wpAnyH_take (i := 6) (oi := mob6) (v := .agg #[.int .i64 vb, .int .i64 vc, .int .i64 vu, .int .i64 vm, .int .i64 vx, .int .i64 vs, .slice aoR VH.length cR]) rfl (by kernel_rfl) (by kernel_rfl) (by kernel_rfl) (fun _ _ _ h => h) (Or.inl ⟨by rfl, ?_⟩) (by assumption) ?_
                  · intro w8 hS8
                    (try dsimp only at hS8)
                    dsimp only [mob6]
                    (first | (go_simp; done) | (go_simp; simp_all; done) | (simp_all [go_sem]; done))
                  try simp only [Act.put, mob6, List.setIfInBounds_toArray, List.set_cons_zero, List.set_cons_succ]
                  refine wpAnyH_take (i := 7) (oi := mob7) (v := .bool OKV) rfl (by kernel_rfl) (by kernel_rfl) (by kernel_rfl) (fun _ _ _ h => h) (Or.inl ⟨by rfl, ?_⟩) (by assumption) ?_
                  · intro w8 hS8
                    (try dsimp only at hS8)
                    dsimp only [mob7]
                    (first | (go_simp; done) | (go_simp; simp_all; done) | (simp_all [go_sem]; done))
                  try simp only [Act.put, mob7, List.setIfInBounds_toArray, List.set_cons_zero, List.set_cons_succ]
                  refine wpAnyH_ready (rs := [9]) (by kernel_rfl) (by simp) ?_
                  refine AllReadyH.cons (o := mob9) rfl (fun K hK => ?_) AllReadyH.nil
                  have k0 := KCb4.get 0 rfl
                  have f0 := KCb4.fz 0 rfl
                  have k1 := KCb4.get 1 rfl
                  have f1 := KCb4.fz 1 rfl
                  have k2 := KCb4.get 2 rfl
                  have f2 := KCb4.fz 2 rfl
                  have k3 := KCb4.get 3 rfl
                  have f3 := KCb4.fz 3 rfl
                  have k4 := KCb4.get 4 rfl
                  have f4 := KCb4.fz 4 rfl
                  have k5 := KCb4.get 5 rfl
                  have f5 := KCb4.fz 5 rfl
                  have k6 := KCb4.get 6 rfl
                  have f6 := KCb4.fz 6 rfl
                  dsimp only [mob9]
                  go_simp
                  have KCb5 := KCb4.setB7 (.int .i64 vb) (.int .i64 vc) (.int .i64 vu) (.int .i64 vm) (.int .i64 vx) (.int .i64 vs) (.slice aoR VH.length cR) (by have h1 := KCb1.below.size; have h2 := HNb2.out; omega) (fun c9 hc9 => by have h1 := (KCb1.1.2 c9 hc9).1; have h2 := HNb2.out; omega)
                  refine hK.out _ _ ?_ (fun hHb5 => ?_)
                  · exact ⟨KCb5.get 42 rfl, KCb5.get 43 rfl, KCb5.get 44 rfl, KCb5.get 45 rfl, KCb5.get 46 rfl, KCb5.get 47 rfl, KCb5.get 48 rfl, KCb5.get 35 rfl, KCb5.get 36 rfl, KCb5.get 37 rfl, KCb5.get 38 rfl, KCb5.get 39 rfl, KCb5.get 40 rfl, KCb5.get 41 rfl⟩
                  clear hK K
                  try simp only [Act.put, mob9, List.setIfInBounds_toArray, List.set_cons_zero, List.set_cons_succ]
                  refine wpAnyH_take (i := 10) (oi := mob10) (v := .bool OKV) rfl (by kernel_rfl) (by kernel_rfl) (by kernel_rfl) (fun _ _ _ h => h) (Or.inl ⟨by rfl, ?_⟩) (by assumption) ?_
                  · intro w8 hS8
                    (try dsimp only at hS8)
                    dsimp only [mob10]
                    (first | (go_simp; done) | (go_simp; simp_all; done) | (simp_all [go_sem]; done))
                  try simp only [Act.put, mob10, List.setIfInBounds_toArray, List.set_cons_zero, List.set_cons_succ]
                  refine wpAnyH_done (by kernel_rfl) ?_ _
                  dsimp only [Exit.then]
                  go_step
                  go_meet
                  exact ⟨nbb2, aoR, cR, fpR, rfl, rfl, KCb5⟩
              · skip
                dsimp only [mob8]
                go_simp
                have KCb1 := KDb.alloc7 (.int .i64 0) (.int .i64 0) (.int .i64 0) (.int .i64 0) (.int .i64 0) (.int .i64 0) (.slice none 0 0) 77 wDb.heap.size rfl
                have hbb1 : Below wDb.heap.size wDb (wDb.alloc (.cells #[.int .i64 0, .int .i64 0, .int .i64 0, .int .i64 0, .int .i64 0, .int .i64 0, .slice none 0 0] 77)) := (Below.refl _ _).alloc (Nat.le_refl _) _
                obtain ⟨nbb1, hN1⟩ : ∃ x, x = wDb.heap.size := ⟨_, rfl⟩
                refine hK.out _ _ ?_ (fun hHb1 => ?_)
                · exact ⟨KCb1.get 42 rfl, KCb1.get 43 rfl, KCb1.get 44 rfl, KCb1.get 45 rfl, KCb1.get 46 rfl, KCb1.get 47 rfl, KCb1.get 48 rfl, KCb1.get 35 rfl, KCb1.get 36 rfl, KCb1.get 37 rfl, KCb1.get 38 rfl, KCb1.get 39 rfl, KCb1.get 40 rfl, KCb1.get 41 rfl⟩
                clear hK K
                try simp only [Act.put, mob8, List.setIfInBounds_toArray, List.set_cons_zero, List.set_cons_succ]
                obtain ⟨wcb1, hx9⟩ : ∃ x, x = wDb.alloc (.cells #[.int .i64 0, .int .i64 0, .int .i64 0, .int .i64 0, .int .i64 0, .int .i64 0, .slice none 0 0] 77) := ⟨_, rfl⟩
                rw [← hx9] at KCb1 hHb1 hbb1 ⊢
                clear hx9
                have HNb1 := Lib.hid hN1
                rw [← hN1] at KCb1 ⊢
                clear hN1
                refine wpAnyH_ready (rs := [1]) (by kernel_rfl) (by simp) ?_
                refine AllReadyH.cons (o := mob1) rfl (fun K hK => ?_) AllReadyH.nil
                dsimp only [mob1]
                go_simp
                go_at_call 59
                (with_reducible refine (law_toSE a0 a1 a2 a3 a4 a5 a6 a7 a8 a9 _ hn0 (HA0.out.below (Inv.below KCb1))).mono ?_)
                rintro e9 wcb2 ⟨gA, rfl, hsA, hfA, hbb2⟩
                have KCb2 := KCb1.step hbb2
                refine hK.out _ _ ?_ (fun hHb2 => ?_)
                · exact ⟨KCb2.get 42 rfl, KCb2.get 43 rfl, KCb2.get 44 rfl, KCb2.get 45 rfl, KCb2.get 46 rfl, KCb2.get 47 rfl, KCb2.get 48 rfl, KCb2.get 35 rfl, KCb2.get 36 rfl, KCb2.get 37 rfl, KCb2.get 38 rfl, KCb2.get 39 rfl, KCb2.get 40 rfl, KCb2.get 41 rfl⟩
                clear hK K
                try simp only [Act.put, mob1, List.setIfInBounds_toArray, List.set_cons_zero, List.set_cons_succ]
                refine wpAnyH_ready (rs := [3]) (by kernel_rfl) (by simp) ?_
                refine AllReadyH.cons (o := mob3) rfl (fun K hK => ?_) AllReadyH.nil
                dsimp only [mob3]
                go_simp
                go_at_call 59
                (with_reducible refine (law_toSE a10 a11 a12 a13 a14 a15 a16 a17 a18 a19 _ hn10 (HA10.out.below (Inv.below KCb2))).mono ?_)
                rintro e9 wcb3 ⟨gB, rfl, hsB, hfB, hbb3⟩
                have KCb3 := KCb2.step hbb3
                refine hK.out _ _ ?_ (fun hHb3 => ?_)
                · exact ⟨KCb3.get 42 rfl, KCb3.get 43 rfl, KCb3.get 44 rfl, KCb3.get 45 rfl, KCb3.get 46 rfl, KCb3.get 47 rfl, KCb3.get 48 rfl, KCb3.get 35 rfl, KCb3.get 36 rfl, KCb3.get 37 rfl, KCb3.get 38 rfl, KCb3.get 39 rfl, KCb3.get 40 rfl, KCb3.get 41 rfl⟩
                clear hK K
                try simp only [Act.put, mob3, List.setIfInBounds_toArray, List.set_cons_zero, List.set_cons_succ]
                refine wpAnyH_ready (rs := [4]) (by kernel_rfl) (by simp) ?_
                refine AllReadyH.cons (o := mob4) rfl (fun K hK => ?_) AllReadyH.nil
                dsimp only [mob4]
                go_simp
                go_at_call 64
                (with_reducible refine (IM.out _ _ _ [gA] [gB] (hsA.step hbb3) hsB).mono ?_)
                rintro e9 wcb4 ⟨vR, fpR, rfl, hsR, hndR, hfR, hbb4⟩
                obtain ⟨aoR, cR, rfl, _, _⟩ := ints_open hsR
                have KCb4 := KCb3.own (ownS intTy (.slice aoR VH.length cR) VH fpR) hbb4 hsR hfR
                refine hK.out _ _ ?_ (fun hHb4 => ?_)
                · exact ⟨KCb4.get 42 rfl, KCb4.get 43 rfl, KCb4.get 44 rfl, KCb4.get 45 rfl, KCb4.get 46 rfl, KCb4.get 47 rfl, KCb4.get 48 rfl, KCb4.get 35 rfl, KCb4.get 36 rfl, KCb4.get 37 rfl, KCb4.get 38 rfl, KCb4.get 39 rfl, KCb4.get 40 rfl, KCb4.get 41 rfl⟩
                clear hK K
                try simp only [Act.put, mob4, List.setIfInBounds_toArray, List.set_cons_zero, List.set_cons_succ]
                refine wpAnyH_take (i := 5) (oi := mob5) (v := .tuple #[.agg #[.int .i64 vb, .int .i64 vc, .int .i64 vu, .int .i64 vm, .int .i64 vx, .int .i64 vs, .slice aoR VH.length cR], .bool OKV]) rfl (by kernel_rfl) (by kernel_rfl) (by kernel_rfl) (fun _ _ _ h => h) (Or.inl ⟨by rfl, ?_⟩) (by assumption) ?_
                · intro w8 hS8
                  (try dsimp only at hS8)
                  dsimp only [mob5]
                  (first | (go_simp; done) | (go_simp; simp_all; done) | (simp_all [go_sem]; done))
                try simp only [Act.put, mob5, List.setIfInBounds_toArray, List.set_cons_zero, List.set_cons_succ]
                refine wpAnyH_take (i := 6) (oi := mob6) (v := .agg #[.int .i64 vb, .int .i64 vc, .int .i64 vu, .int .i64 vm, .int .i64 vx, .int .i64 vs, .slice aoR VH.length cR]) rfl (by kernel_rfl) (by kernel_rfl) (by kernel_rfl) (fun _ _ _ h => h) (Or.inl ⟨by rfl, ?_⟩) (by assumption) ?_
                · intro w8 hS8
                  (try dsimp only at hS8)
                  dsimp only [mob6]
                  (first | (go_simp; done) | (go_simp; simp_all; done) | (simp_all [go_sem]; done))
                try simp only [Act.put, mob6, List.setIfInBounds_toArray, List.set_cons_zero, List.set_cons_succ]
                refine wpAnyH_take (i := 7) (oi := mob7) (v := .bool OKV) rfl (by kernel_rfl) (by kernel_rfl) (by kernel_rfl) (fun _ _ _ h => h) (Or.inl ⟨by rfl, ?_⟩) (by assumption) ?_
                · intro w8 hS8
                  (try dsimp only at hS8)
                  dsimp only [mob7]
                  (first | (go_simp; done) | (go_simp; simp_all; done) | (simp_all [go_sem]; done))
                try simp only [Act.put, mob7, List.setIfInBounds_toArray, List.set_cons_zero, List.set_cons_succ]
                refine wpAnyH_ready (rs := [9]) (by kernel_rfl) (by simp) ?_
                refine AllReadyH.cons (o := mob9) rfl (fun K hK => ?_) AllReadyH.nil
                have k0 := KCb4.get 0 rfl
                have f0 := KCb4.fz 0 rfl
                have k1 := KCb4.get 1 rfl
                have f1 := KCb4.fz 1 rfl
                have k2 := KCb4.get 2 rfl
                have f2 := KCb4.fz 2 rfl
                have k3 := KCb4.get 3 rfl
                have f3 := KCb4.fz 3 rfl
                have k4 := KCb4.get 4 rfl
                have f4 := KCb4.fz 4 rfl
                have k5 := KCb4.get 5 rfl
                have f5 := KCb4.fz 5 rfl
                have k6 := KCb4.get 6 rfl
                have f6 := KCb4.fz 6 rfl
                dsimp only [mob9]
                go_simp
                have KCb5 := KCb4.setB7 (.int .i64 vb) (.int .i64 vc) (.int .i64 vu) (.int .i64 vm) (.int .i64 vx) (.int .i64 vs) (.slice aoR VH.length cR) (by have h1 := KDb.below.size; have h2 := HNb1.out; omega) (fun c9 hc9 => by have h1 := (KDb.1.2 c9 hc9).1; have h2 := HNb1.out; omega)
                refine hK.out _ _ ?_ (fun hHb5 => ?_)
                · exact ⟨KCb5.get 42 rfl, KCb5.get 43 rfl, KCb5.get 44 rfl, KCb5.get 45 rfl, KCb5.get 46 rfl, KCb5.get 47 rfl, KCb5.get 48 rfl, KCb5.get 35 rfl, KCb5.get 36 rfl, KCb5.get 37 rfl, KCb5.get 38 rfl, KCb5.get 39 rfl, KCb5.get 40 rfl, KCb5.get 41 rfl⟩
                clear hK K
                try simp only [Act.put, mob9, List.setIfInBounds_toArray, List.set_cons_zero, List.set_cons_succ]
                refine wpAnyH_take (i := 10) (oi := mob10) (v := .bool OKV) rfl (by kernel_rfl) (by kernel_rfl) (by kernel_rfl) (fun _ _ _ h => h) (Or.inl ⟨by rfl, ?_⟩) (by assumption) ?_
                · intro w8 hS8
                  (try dsimp only at hS8)
                  dsimp only [mob10]
                  (first | (go_simp; done) | (go_simp; simp_all; done) | (simp_all [go_sem]; done))
                try simp only [Act.put, mob10, List.setIfInBounds_toArray, List.set_cons_zero, List.set_cons_succ]
                refine wpAnyH_done (by kernel_rfl) ?_ _
                dsimp only [Exit.then]
                go_step
                go_meet
                exact ⟨nbb1, aoR, cR, fpR, rfl, rfl, KCb5⟩

            case rest =>
              obtain ⟨nb15, ao15, c15, fp15, rfl, rfl, IX⟩ := hcut
              clear I12
              have I13 := IX
              clear IX
              have y0 := I13.get 0 rfl
              have y1 := I13.get 1 rfl
              have y2 := I13.get 2 rfl
              have y3 := I13.get 3 rfl
              have y4 := I13.get 4 rfl
              have y5 := I13.get 5 rfl
              have y6 := I13.get 6 rfl
              have y7 := I13.get 28 rfl
              have y8 := I13.get 29 rfl
              have y9 := I13.get 30 rfl
              have y10 := I13.get 31 rfl
              have y11 := I13.get 32 rfl
              have y12 := I13.get 33 rfl
              have y13 := I13.get 34 rfl
              go_wp2_with fail
              refine (law_eqSE vb vc vu vm vx vs VH _ _ _ _ _ _ _ _ _ (by omega) (I13.at 0 rfl) (I13.at 4 rfl)).mono ?_
              rintro e w16 ⟨rfl, hb⟩
              have I14 := I13.step hb
              clear hb y0 y1 y2 y3 y4 y5 y6 y7 y8 y9 y10 y11 y12 y13 I13
              have y0 := I14.get 7 rfl
              have y1 := I14.get 8 rfl
              have y2 := I14.get 9 rfl
              have y3 := I14.get 10 rfl
              have y4 := I14.get 11 rfl
              have y5 := I14.get 12 rfl
              have y6 := I14.get 13 rfl
              go_wp2_with fail
              refine (law_heldS vb vc vu vm vx vs _ VH.length fp6 1 _ (by omega) (by decide) (by decide) (I14.at 1 rfl)).mono ?_
              rintro e w17 ⟨rfl, hb⟩
              rw [← Hmm.out]
              have I15 := I14.step hb
              clear hb y0 y1 y2 y3 y4 y5 y6 I14
              go_wp2
              go_ret
              exact ⟨rfl, I15.below⟩

/-! ### THE ROW's STEP -/
set_option maxRecDepth 100000 in
theorem lifted (os : Os) (started : os.Started) (H : Type) (enc : TypeId × Value → H) :
    ReturnsInHanded {} Try.checked os 9 .any (Rows.fnExactMergeSummariesSpec.pre6 enc Try.prog Try.f9 Rows.fnExactMergeSummariesRow.domain false) (Rows.fnExactMergeSummariesSpec.post enc Try.prog Try.f9 false true false false) := by
  refine returnsInHanded_of_change (C := Try.checked) own started (by kernel_rfl) Try.func9
    (ChangeSpec.witness6 (enc := enc) (C := Try.checked) false ⟨#[], #[.agg #[.int .i64 0, .int .i64 0, .int .i64 0, .int .i64 0, .int .i64 0, .int .i64 0, .slice none 0 0], .agg #[.int .i64 0, .int .i64 0, .int .i64 0, .int .i64 0, .int .i64 0, .int .i64 0, .slice none 0 0]], []⟩ 8 (by kernel_rfl) (by kernel_rfl) (by kernel_rfl) (by kernel_rfl)) ?_
  intro W base args ds gs before hval0 hW hcnd _
  have hval : ∀ (j : Nat) t v, Try.f9.params[j]? = some t → args[j]? = some v → Value.okWide Try.prog W .any base t v := hval0
  have hW' := hW
  obtain ⟨p, q, hA0, hV, rfl, hfz, hnd⟩ := hW
  have hA : DataW.TrodAll enc Try.prog W 0 (fun _ => true) true Try.f9.params.toList args.toList ds p := hA0
  rw [Try.params9] at hA hval
  obtain ⟨v0, vs0, d0, ds0, p0, q0, hargs, rfl, rfl, h0, r0⟩ := trodAll_cons hA
  obtain ⟨v1, vs1, d1, ds1, p1, q1, rfl, rfl, rfl, h1, r1⟩ := trodAll_cons r0
  obtain ⟨rfl, rfl, rfl⟩ := trodAll_nil r1
  obtain rfl : args = #[v0, v1] := by cases args; simp_all
  obtain ⟨rfl, rfl⟩ := trodVars_none hV
  have kk0 := h0
  have lt0 : ∀ x ∈ p0, x.block < W.heap.size := by obtain ⟨m, hm⟩ := kk0; exact DataW.trod_lt m _ _ _ hm
  obtain ⟨a0, a1, a2, a3, a4, a5, a6, a7, a8, a9, rfl, w_a0_0, w_a0_1, w_a0_2, w_a0_3, w_a0_4, w_a0_5, w_a0_6, w_a0_7⟩ := open_sum (hval 0 87 v0 rfl rfl) h0 (fun _ => rfl)
  have kk1 := h1
  have lt1 : ∀ x ∈ p1, x.block < W.heap.size := by obtain ⟨m, hm⟩ := kk1; exact DataW.trod_lt m _ _ _ hm
  obtain ⟨a10, a11, a12, a13, a14, a15, a16, a17, a18, a19, rfl, w_a10_0, w_a10_1, w_a10_2, w_a10_3, w_a10_4, w_a10_5, w_a10_6, w_a10_7⟩ := open_sum (hval 1 87 v1 rfl rfl) h1 (fun _ => rfl)
  clear hA0 hval0
  simp only [List.append_nil] at hW'
  refine (walk a0 a1 a2 a3 a4 a5 a6 a7 a8 a9 a10 a11 a12 a13 a14 a15 a16 a17 a18 a19 W w_a0_0 w_a0_1 w_a0_2 w_a0_3 w_a0_4 w_a0_5 w_a0_6 w_a0_7 w_a10_0 w_a10_1 w_a10_2 w_a10_3 w_a10_4 w_a10_5 w_a10_6 w_a10_7).mono fun e W' ⟨he, hg⟩ => ?_
  subst he
  exact ⟨_, rfl, _, _, _, [], _, [], hW', (trodAll_cons_mk (shut_bool Try.underlying4 _) trodAll_mk0), (trodAll_cons_mk (Below.trod (by kernel_rfl) (by kernel_rfl) (of_decide_eq_true (by kernel_rfl)) kk0 hg lt0) (trodAll_cons_mk (Below.trod (by kernel_rfl) (by kernel_rfl) (of_decide_eq_true (by kernel_rfl)) kk1 hg lt1) trodAll_mk0)), rfl, hg.frame _, fun h => by cases h⟩

theorem over : Rows.fnExactMergeSummariesRow.holds Try.pinned (OpenSpec.ofChange Rows.fnExactMergeSummariesSpec) :=
  OpenClaim.holds_of_wide 9 Try.f9 rfl rfl rfl rfl rfl rfl rfl ⟨rfl, rfl, rfl, rfl, rfl⟩ rfl rfl rfl rfl rfl (by kernel_rfl) Try.func9 (MkF.closed_of (by kernel_rfl) (by kernel_rfl) (by kernel_rfl) (by kernel_rfl) (by kernel_rfl) (by kernel_rfl) (by kernel_rfl) (by kernel_rfl) (by kernel_rfl) (by kernel_rfl) (by kernel_rfl) (by kernel_rfl) (by kernel_rfl) (by kernel_rfl) (by kernel_rfl) (by kernel_rfl) (by kernel_rfl) (by kernel_rfl) (by kernel_rfl) (by kernel_rfl) (by kernel_rfl) (by kernel_rfl) (by kernel_rfl) (by kernel_rfl) (by kernel_rfl) MkF.mk_enter (MkF.lifts_eq MkF.mk_lifts rfl) (MkF.make_eq MkF.mk_make rfl) (by kernel_rfl) (by kernel_rfl) (by kernel_rfl) (by kernel_rfl))
    (of_decide_eq_true (by kernel_rfl)) (by unfold Func.isWrapper; first | (rw [if_pos (by decide +kernel)]; kernel_rfl) | (rw [if_neg (by decide +kernel)]; exact ⟨rfl, rfl⟩))
    (fun os started H enc _ => lifted os started H enc)

/-- ████ THE STATEMENT ████ -/
theorem proved : Rows.FnExactMergeSummariesSaid :=
  over
end Go.Proofs.Ytcfcohnkkgickaa.fnExactMergeSummaries
