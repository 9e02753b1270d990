/-
  Proved: for every two tables, the law FnExactChangedBlocks returns true (the project's ChangedBlocks answers as its model, leaves its arguments as they were, and hands back memory of its own). No condition.
-/
import Derived.Test.YtmjcfkaiheajaaaRows
import Derived.Test.YtmjcfkaiheajaaaPlain
import Derived.Test.YtmjcfkaiheajaaaL1In
import Derived.Test.YtmjcfkaiheajaaaKeep
import Derived.Test.YtmjcfkaiheajaaaRvSpec
import Derived.Test.YtmjcfkaiheajaaaRwLaw
import Derived.Test.YtmjcfkaiheajaaaRwsOwn
import Derived.Test.YtmjcfkaiheajaaaArSpec
import Derived.Test.YtmjcfkaiheajaaaEqRows
import Derived.Test.YtmjcfkaiheajaaaFdSpec
import Derived.Test.YtmjcfkaiheajaaaRwsApp
import Derived.Test.YtmjcfkaiheajaaaBkPlain
import Derived.Test.YtmjcfkaiheajaaaBkLaw
import Derived.Test.YtmjcfkaiheajaaaRep
import Derived.Test.YtmjcfkaiheajaaaRwRep
import Derived.Test.YtmjcfkaiheajaaaMkRows
import Derived.Test.YtmjcfkaiheajaaaInv
import Derived.Test.YtmjcfkaiheajaaaBkOwn
import Derived.Test.YtmjcfkaiheajaaaTbRep
import Derived.Test.YtmjcfkaiheajaaaTbLaw
import Derived.Test.YtmjcfkaiheajaaaTmMark
import Derived.Test.YtmjcfkaiheajaaaTbSz2
import Derived.Test.YtmjcfkaiheajaaaTbFind
import Derived.Test.YtmjcfkaiheajaaaTbFbk
import Derived.Test.YtmjcfkaiheajaaaFbkImpl
import Derived.Test.YtmjcfkaiheajaaaEbSpec
import Derived.Test.YtmjcfkaiheajaaaEbImpl
import Derived.Test.YtmjcfkaiheajaaaEtPlain
import Derived.Test.YtmjcfkaiheajaaaIntOwn
import Derived.Test.YtmjcfkaiheajaaaIntLaw
import Derived.Test.YtmjcfkaiheajaaaCbPlain
import Derived.Test.YtmjcfkaiheajaaaCbSpec
import Derived.Test.YtmjcfkaiheajaaaCbImpl
import Derived.Test.YtmjcfkaiheajaaaLimbs
import Derived.Test.YtmjcfkaiheajaaaTblArg
import Derived.WalkKit
import Derived.ProofKit
import Derived.OpenShut
import Derived.ShutString
import Derived.ChangeOld
import Derived.Below
import Derived.Carry
namespace Go.Proofs.Ytmjcfkaiheajaaa.fnExactChangedBlocks
open Go.ChangeShapes Go.WideShapes Go.ChangeAt Go.RowKit
open Go.ChangeMaps (open_string shut_string)
set_option linter.unusedVariables false

theorem own : ownKnob Try.prog.godebug = none := by kernel_rfl

/-! ### The walk -/
set_option maxRecDepth 100000 in
set_option maxHeartbeats 8000000 in
theorem walk (a0 : Int) (a1 : Option Addr) (a2 : Nat) (a3 : Nat) (a4 : Nat → Blk) (a5 : Int) (a6 : Option Addr) (a7 : Nat) (a8 : Nat) (a9 : Nat → Blk) (w : World) (w_a0_0 : (Lit.int .i64 a0).wf = true) (w_a0_1 : BlksArg w a1 a2 a4) (w_a0_2 : a2 ≤ maxLen) (w_a0_3 : WfB a2 a4) (w_a5_0 : (Lit.int .i64 a5).wf = true) (w_a5_1 : BlksArg w a6 a7 a9) (w_a5_2 : a7 ≤ maxLen) (w_a5_3 : WfB a7 a9) :
    Calls Try.prog 7 #[.agg #[.int .i64 a0, .slice a1 a2 a3], .agg #[.int .i64 a5, .slice a6 a7 a8]] w fun e w' => e = .returned (.bool true) ∧ Below w.heap.size w w' := by
  have hm1 := w_a0_2
  have hm2 := w_a5_2
  have HA := Lib.hid w_a0_1
  have HB := Lib.hid w_a5_1
  clear w_a0_2 w_a5_2
  go_enter Try.func7, Try.ntmps7
  go_wp2_with fail
  have K0 := ((Kept.start w).alloc2 (.int .i64 a0) (.slice a1 a2 a3) 34 _ rfl).alloc2 (.int .i64 a5) (.slice a6 a7 a8) 34 (w.heap.size + 1) (by simp)
  refine (law_szTbl2 1048576 a0 a1 a2 a3 a4 _ (by decide) (by decide) hm1 (HA.out.below K0.1)).mono ?_
  rintro e w1 ⟨⟨r, rfl, hr⟩, hb⟩
  have K1 := K0.step hb
  clear hb K0
  rcases hr with rfl | ⟨hr0, hr1, hn, hsum, hrl⟩
  · go_wp2
    go_ret
    exact ⟨rfl, K1.1⟩
  · have z1 : ¬ r < 0 := by omega
    have z2 : decide (r < 0) = false := decide_eq_false z1
    have HRA := Lib.hid hrl
    have HRBA := Lib.hid (lstB_rows hrl)
    have HRNA := Lib.hid (show ∀ k, k < a2 → (Bn (lstB a2 a4) k).rows.length ≤ 1048576 from fun k hk => by rw [Bn_at (by rw [lstB_len]; exact hk), lstB_at]; exact hrl k hk)
    have HSA := Lib.hid (show (rowsN a4 a2 : Int) ≤ 1048576 from by omega)
    clear hrl hsum
    have k0 := K1.get 0 rfl
    have k1 := K1.get 1 rfl
    have k2 := K1.get 2 rfl
    have k3 := K1.get 3 rfl
    go_wp2_with fail
    refine (law_szTbl2 r a5 a6 a7 a8 a9 _ hr0 hr1 hm2 (HB.out.below K1.1)).mono ?_
    rintro e w2 ⟨⟨r2, rfl, hr⟩, hb⟩
    have K2 := K1.step hb
    clear hb K1 k0 k1 k2 k3
    rcases hr with rfl | ⟨hr20, hr21, hn', hsum, hrl⟩
    · go_wp2
      go_ret
      exact ⟨rfl, K2.1⟩
    · have z3 : ¬ r2 < 0 := by omega
      have z4 : decide (r2 < 0) = false := decide_eq_false z3
      have HRB := Lib.hid hrl
      have HRBB := Lib.hid (lstB_rows hrl)
      have HRNB := Lib.hid (show ∀ k, k < a7 → (Bn (lstB a7 a9) k).rows.length ≤ 1048576 from fun k hk => by rw [Bn_at (by rw [lstB_len]; exact hk), lstB_at]; exact hrl k hk)
      have HSB := Lib.hid (show (rowsN a9 a7 : Int) ≤ 1048576 from by omega)
      clear hrl hsum
      obtain ⟨L, hL⟩ : ∃ L, L = cbL (lstB a2 a4) (lstB a7 a9) 20 := ⟨_, rfl⟩
      have hL20 : L.length ≤ 20 := by rw [hL]; exact cbL_len _ _ _
      have SP : Hid (∀ (g g' c c' : Nat) (w : World), BlksVal w (some ⟨g, 0, none⟩) (lstB a2 a4) → BlksVal w (some ⟨g', 0, none⟩) (lstB a7 a9) → Calls Try.prog 33 #[.agg #[.int .i64 a0, .slice (some ⟨g, 0, none⟩) a2 c], .agg #[.int .i64 a5, .slice (some ⟨g', 0, none⟩) a7 c']] w (IntsPost L w)) := (fun g g' c c' w h h' => by rw [hL]; exact spec_cb a0 a5 _ _ a2 a7 c c' (lstB a2 a4) (lstB a7 a9) w (lstB_len _ _) (lstB_len _ _) hn hn' HRNA.out HRNB.out h h' : ∀ (g g' c c' : Nat) (w : World), BlksVal w (some ⟨g, 0, none⟩) (lstB a2 a4) → BlksVal w (some ⟨g', 0, none⟩) (lstB a7 a9) → Calls Try.prog 33 #[.agg #[.int .i64 a0, .slice (some ⟨g, 0, none⟩) a2 c], .agg #[.int .i64 a5, .slice (some ⟨g', 0, none⟩) a7 c']] w (IntsPost L w))
      have IM : Hid (∀ (g g' c c' : Nat) (w : World), BlksVal w (some ⟨g, 0, none⟩) (lstB a2 a4) → BlksVal w (some ⟨g', 0, none⟩) (lstB a7 a9) → Calls Try.prog 34 #[.agg #[.int .i64 a0, .slice (some ⟨g, 0, none⟩) a2 c], .agg #[.int .i64 a5, .slice (some ⟨g', 0, none⟩) a7 c']] w (IntsPost L w)) := (fun g g' c c' w h h' => by rw [hL]; exact impl_cb a0 a5 _ _ a2 a7 c c' (lstB a2 a4) (lstB a7 a9) w (lstB_len _ _) (lstB_len _ _) hn hn' HRNA.out HRNB.out h h' : ∀ (g g' c c' : Nat) (w : World), BlksVal w (some ⟨g, 0, none⟩) (lstB a2 a4) → BlksVal w (some ⟨g', 0, none⟩) (lstB a7 a9) → Calls Try.prog 34 #[.agg #[.int .i64 a0, .slice (some ⟨g, 0, none⟩) a2 c], .agg #[.int .i64 a5, .slice (some ⟨g', 0, none⟩) a7 c']] w (IntsPost L w))
      clear hL
      have I0 := Inv.of_kept (K2)
      clear K2
      have IQ := I0
      have KQ := I0.1.sub (l' := [(⟨w.heap.size, 0, none⟩, .int .i64 a0), (⟨w.heap.size, 1, none⟩, .slice a1 a2 a3), (⟨w.heap.size + 1, 0, none⟩, .int .i64 a5), (⟨w.heap.size + 1, 1, none⟩, .slice a6 a7 a8)]) (by intro p9 hp9; simp only [List.mem_cons, List.not_mem_nil, or_false] at hp9; rcases hp9 with rfl | rfl | rfl | rfl <;> simp)
      go_wp2_with fail
      go_region_held3 (fun w' => w'.cell? ⟨w.heap.size, 0, none⟩ = some (.int .i64 a0) ∧ w'.cell? ⟨w.heap.size, 1, none⟩ = some (.slice a1 a2 a3) ∧ w'.cell? ⟨w.heap.size + 1, 0, none⟩ = some (.int .i64 a5) ∧ w'.cell? ⟨w.heap.size + 1, 1, none⟩ = some (.slice a6 a7 a8) ∧ Below w2.heap.size w2 w') (first | assumption | exact kn4_at KQ (Below.refl _ _).drew | exact kn4_keep KQ (by assumption) (by assumption)) (first | (go_simp; go_at_call 17; (with_reducible refine (law_toTbl a0 a1 a2 a3 a4 _ hn HRA.out ?_).mono ?_); (exact (HA.out.below KQ.1).below (kn4_b (by assumption))); rintro e9 w9 ⟨gA, fpA, rfl, hsA, _, _, hbA⟩) | (go_simp; go_at_call 17; (with_reducible refine (law_toTbl a5 a6 a7 a8 a9 _ hn' HRB.out ?_).mono ?_); (exact (HB.out.below KQ.1).below (kn4_b (by assumption))); rintro e9 w10 ⟨gB, fpB, rfl, hsB, _, _, hbB⟩) | (go_simp; go_at_call 33; (with_reducible refine (SP.out _ _ _ _ _ ?_ ?_).mono ?_); (exact blks_at (hsA.step hbB)); (exact blks_at hsB); rintro e9 w11 ⟨v, rfl, hown, hb⟩; have hO := hown.mono (kn4_b (by assumption)).size; obtain ⟨ao3, c3, rfl⟩ := hown.shape))
      all_goals
        obtain ⟨fp3, hs, hf, _⟩ := hO.rep
        have IX := IQ.own (ownS intTy (.slice ao3 L.length c3) L fp3) (kn4_b (‹_ ∧ _ ∧ _ ∧ _ ∧ Below w2.heap.size w2 w11›)) hs hf
        obtain ⟨w3, hw3⟩ : ∃ w9, w9 = w11 := ⟨_, rfl⟩
        obtain ⟨ao3, hao3⟩ : ∃ x, x = ao3 := ⟨_, rfl⟩
        obtain ⟨c3, hc3⟩ : ∃ x, x = c3 := ⟨_, rfl⟩
        clear hb hsA hsB hbA hbB KQ IQ I0 hs hf hO hown
        subst hw3 hao3 hc3
        have I1 := IX
        clear IX
        have y0 := I1.get 2 rfl
        have y1 := I1.get 3 rfl
        go_wp2_with fail
        refine (law_toTbl a0 a1 a2 a3 a4 _ hn HRA.out (HA.out.below I1.below)).mono ?_
        rintro e w4 ⟨g4, fp4, rfl, hs, hf, hnd4, hb⟩
        have I2 := (I1.own (ownS blkTy (.slice (some ⟨g4, 0, none⟩) a2 a2) (lstB a2 a4) fp4) hb hs hf).alloc2 (.int .i64 a0) (.slice (some ⟨g4, 0, none⟩) a2 a2) 38 w4.heap.size rfl
        clear hs hf hb y0 y1 I1
        have y0 := I2.get 2 rfl
        have y1 := I2.get 3 rfl
        go_wp2_with fail
        refine (law_toTbl a5 a6 a7 a8 a9 _ hn' HRB.out (HB.out.below I2.below)).mono ?_
        rintro e w5 ⟨g5, fp5, rfl, hs, hf, hnd5, hb⟩
        have I3 := (I2.own (ownS blkTy (.slice (some ⟨g5, 0, none⟩) a7 a7) (lstB a7 a9) fp5) hb hs hf).alloc2 (.int .i64 a5) (.slice (some ⟨g5, 0, none⟩) a7 a7) 38 w5.heap.size rfl
        clear hs hf hb y0 y1 I2
        have y0 := I3.get 2 rfl
        have y1 := I3.get 3 rfl
        have y2 := I3.get 0 rfl
        have y3 := I3.get 1 rfl
        go_wp2_with fail
        refine (IM.out _ _ _ _ _ (blks_at (I3.at 1 rfl)) (blks_at (I3.at 0 rfl))).mono ?_
        rintro e w6 ⟨v, rfl, hown, hb⟩
        obtain ⟨ao6, c6, rfl⟩ := hown.shape
        obtain ⟨fp6, hs, hf, _⟩ := hown.rep
        have I4 := I3.own (ownS intTy (.slice ao6 L.length c6) L fp6) hb hs hf
        clear hs hf hb hown y0 y1 y2 y3 I3
        go_wp2_with fail
        refine (law_eqI _ _ L _ _ _ (by omega) (I4.at 0 rfl) (I4.at 3 rfl)).mono ?_
        rintro e w7 ⟨rfl, hb⟩
        have I5 := I4.step hb
        clear hb I4
        have hx : SliceRep blkTy w7 (.slice (some ⟨g4, 0, none⟩) a2 a2) (lstB a2 a4) fp4 := I5.at 2 rfl
        have IQ := I5
        have KQ := I5.1.sub (l' := [(⟨w4.heap.size, 0, none⟩, .int .i64 a0), (⟨w4.heap.size, 1, none⟩, .slice (some ⟨g4, 0, none⟩) a2 a2), (⟨w.heap.size, 0, none⟩, .int .i64 a0), (⟨w.heap.size, 1, none⟩, .slice a1 a2 a3)]) (by intro p9 hp9; simp only [List.mem_cons, List.not_mem_nil, or_false] at hp9; rcases hp9 with rfl | rfl | rfl | rfl <;> simp)
        go_wp2_with fail
        go_region_held3 (fun w' => w'.cell? ⟨w4.heap.size, 0, none⟩ = some (.int .i64 a0) ∧ w'.cell? ⟨w4.heap.size, 1, none⟩ = some (.slice (some ⟨g4, 0, none⟩) a2 a2) ∧ w'.cell? ⟨w.heap.size, 0, none⟩ = some (.int .i64 a0) ∧ w'.cell? ⟨w.heap.size, 1, none⟩ = some (.slice a1 a2 a3) ∧ Below w7.heap.size w7 w') (first | assumption | exact kn4_at KQ (Below.refl _ _).drew | exact kn4_keep KQ (by assumption) (by assumption)) (first | (go_simp; go_at_call 17; (with_reducible refine (law_toTbl a0 a1 a2 a3 a4 _ hn HRA.out ?_).mono ?_); (exact (HA.out.below KQ.1).below (kn4_b (by assumption))); rintro e9 w9 ⟨gA, fpA, rfl, hsA, _, _, hbA⟩) | (go_simp; go_at_call 19; (with_reducible refine (law_eqTbl _ _ _ _ _ _ (lstB a2 a4) _ (lstB_len _ _) hn HRBA.out ?_ ?_).mono ?_); (exact blks_at (hx.step (kn4_b (by assumption)))); (exact blks_at hsA); rintro e9 w11 ⟨rfl, hb⟩))
        all_goals
          have IX := IQ.step (kn4_b (‹_ ∧ _ ∧ _ ∧ _ ∧ Below w7.heap.size w7 w11›))
          obtain ⟨wq4, hw9⟩ : ∃ w9, w9 = w11 := ⟨_, rfl⟩
          clear hb hsA hbA KQ IQ I5 hx
          subst hw9
          have I6 := IX
          clear IX
          have hx : SliceRep blkTy wq4 (.slice (some ⟨g5, 0, none⟩) a7 a7) (lstB a7 a9) fp5 := I6.at 1 rfl
          have IQ := I6
          have KQ := I6.1.sub (l' := [(⟨w5.heap.size, 0, none⟩, .int .i64 a5), (⟨w5.heap.size, 1, none⟩, .slice (some ⟨g5, 0, none⟩) a7 a7), (⟨w.heap.size + 1, 0, none⟩, .int .i64 a5), (⟨w.heap.size + 1, 1, none⟩, .slice a6 a7 a8)]) (by intro p9 hp9; simp only [List.mem_cons, List.not_mem_nil, or_false] at hp9; rcases hp9 with rfl | rfl | rfl | rfl <;> simp)
          go_wp2_with fail
          go_region_held3 (fun w' => w'.cell? ⟨w5.heap.size, 0, none⟩ = some (.int .i64 a5) ∧ w'.cell? ⟨w5.heap.size, 1, none⟩ = some (.slice (some ⟨g5, 0, none⟩) a7 a7) ∧ w'.cell? ⟨w.heap.size + 1, 0, none⟩ = some (.int .i64 a5) ∧ w'.cell? ⟨w.heap.size + 1, 1, none⟩ = some (.slice a6 a7 a8) ∧ Below wq4.heap.size wq4 w') (first | assumption | exact kn4_at KQ (Below.refl _ _).drew | exact kn4_keep KQ (by assumption) (by assumption)) (first | (go_simp; go_at_call 17; (with_reducible refine (law_toTbl a5 a6 a7 a8 a9 _ hn' HRB.out ?_).mono ?_); (exact (HB.out.below KQ.1).below (kn4_b (by assumption))); rintro e9 w10 ⟨gB, fpB, rfl, hsB, _, _, hbB⟩) | (go_simp; go_at_call 19; (with_reducible refine (law_eqTbl _ _ _ _ _ _ (lstB a7 a9) _ (lstB_len _ _) hn' HRBB.out ?_ ?_).mono ?_); (exact blks_at (hx.step (kn4_b (by assumption)))); (exact blks_at hsB); rintro e9 w11 ⟨rfl, hb⟩))
          all_goals
            have IX := IQ.step (kn4_b (‹_ ∧ _ ∧ _ ∧ _ ∧ Below wq4.heap.size wq4 w11›))
            obtain ⟨wq5, hw9⟩ : ∃ w9, w9 = w11 := ⟨_, rfl⟩
            clear hb hsB hbB KQ IQ I6 hx
            subst hw9
            have I7 := IX
            clear IX
            have y0 := I7.get 2 rfl
            have y1 := I7.get 3 rfl
            go_wp2_with fail
            refine (law_markTblO a0 _ (lstB a2 a4) fp4 1 _ (by rw [lstB_len]; omega) (by rw [markEnd_lst]; have := HSA.out; omega) (by decide) (I7.at 2 rfl) hnd4).mono ?_
            rintro e w8 ⟨rfl, hc, hs⟩
            have I8 := Inv.chg (S1 := [ownS intTy (.slice ao6 L.length c6) L fp6, ownS blkTy (.slice (some ⟨g5, 0, none⟩) a7 a7) (lstB a7 a9) fp5]) (S2 := [ownS intTy (.slice ao3 L.length c3) L fp3]) (s := ownS blkTy (.slice (some ⟨g4, 0, none⟩) a2 a2) (lstB a2 a4) fp4) I7 (ownS blkTy (.slice (some ⟨g4, 0, none⟩) a2 a2) (markBlks 1 (lstB a2 a4)) fp4) rfl hc hs
            clear hc hs y0 y1 I7
            obtain ⟨ka, hka⟩ : ∃ q, q = markEnd 1 (lstB a2 a4) := ⟨_, rfl⟩
            rw [← hka]
            have kab : 0 ≤ ka ∧ ka ≤ 20000000 := by rw [hka, markEnd_lst]; have := HSA.out; omega
            clear hka
            obtain ⟨ka0, ka1⟩ := kab
            have y0 := I8.get 0 rfl
            have y1 := I8.get 1 rfl
            go_wp2_with fail
            refine (law_markTblO a5 _ (lstB a7 a9) fp5 ka _ (by rw [lstB_len]; omega) (by rw [markEnd_lst]; have := HSB.out; omega) ka0 (I8.at 1 rfl) hnd5).mono ?_
            rintro e w9 ⟨rfl, hc, hs⟩
            have I9 := Inv.chg (S1 := [ownS intTy (.slice ao6 L.length c6) L fp6]) (S2 := [ownS blkTy (.slice (some ⟨g4, 0, none⟩) a2 a2) (markBlks 1 (lstB a2 a4)) fp4, ownS intTy (.slice ao3 L.length c3) L fp3]) (s := ownS blkTy (.slice (some ⟨g5, 0, none⟩) a7 a7) (lstB a7 a9) fp5) I8 (ownS blkTy (.slice (some ⟨g5, 0, none⟩) a7 a7) (markBlks ka (lstB a7 a9)) fp5) rfl hc hs
            clear hc hs y0 y1 I8
            obtain ⟨kb, hkb⟩ : ∃ q, q = markEnd ka (lstB a7 a9) := ⟨_, rfl⟩
            rw [← hkb]
            have kbb : 0 ≤ kb ∧ kb ≤ 40000000 := by rw [hkb, markEnd_lst]; have := HSB.out; omega
            clear hkb
            obtain ⟨kb0, kb1⟩ := kbb
            have kbd : decide (kb < 0) = false := decide_eq_false (by omega)
            go_wp2_with fail
            refine (law_eqI _ _ L _ _ _ (by omega) (I9.at 0 rfl) (I9.at 3 rfl)).mono ?_
            rintro e w10 ⟨rfl, hb⟩
            have I10 := I9.step hb
            clear hb I9
            go_wp2_with fail
            refine (law_markI _ L _ 1 _ (by omega) (by decide) (by decide) (I10.at 0 rfl)).mono ?_
            rintro e w12 ⟨rfl, hc, hs⟩
            have I11 := Inv.chg (S1 := []) (S2 := [ownS blkTy (.slice (some ⟨g5, 0, none⟩) a7 a7) (markBlks ka (lstB a7 a9)) fp5, ownS blkTy (.slice (some ⟨g4, 0, none⟩) a2 a2) (markBlks 1 (lstB a2 a4)) fp4, ownS intTy (.slice ao3 L.length c3) L fp3]) (s := ownS intTy (.slice ao6 L.length c6) L fp6) I10 (ownS intTy (.slice ao6 L.length c6) (markI 1 L.length) fp6) rfl hc hs
            clear hc hs I10
            obtain ⟨mm, hmm⟩ : ∃ q, q = 1 + (L.length : Int) := ⟨_, rfl⟩
            rw [← hmm]
            have mmd : decide (mm < 0) = false := decide_eq_false (by omega)
            have Hmm := Lib.hid hmm
            clear hmm
            have mmq : (mm != mm) = false := bne_self_eq_false _
            go_wp2_with fail
            refine (law_heldI _ L.length fp6 1 _ (by omega) (by decide) (by decide) (I11.at 0 rfl)).mono ?_
            rintro e w13 ⟨rfl, hb⟩
            rw [← Hmm.out]
            have I12 := I11.step hb
            clear hb I11
            have IQ := I12
            have KQ := I12.1.sub (l' := [(⟨w.heap.size, 0, none⟩, .int .i64 a0), (⟨w.heap.size, 1, none⟩, .slice a1 a2 a3), (⟨w.heap.size + 1, 0, none⟩, .int .i64 a5), (⟨w.heap.size + 1, 1, none⟩, .slice a6 a7 a8)]) (by intro p9 hp9; simp only [List.mem_cons, List.not_mem_nil, or_false] at hp9; rcases hp9 with rfl | rfl | rfl | rfl <;> simp)
            go_wp2_with fail
            go_region_held3 (fun w' => w'.cell? ⟨w.heap.size, 0, none⟩ = some (.int .i64 a0) ∧ w'.cell? ⟨w.heap.size, 1, none⟩ = some (.slice a1 a2 a3) ∧ w'.cell? ⟨w.heap.size + 1, 0, none⟩ = some (.int .i64 a5) ∧ w'.cell? ⟨w.heap.size + 1, 1, none⟩ = some (.slice a6 a7 a8) ∧ Below w13.heap.size w13 w') (first | assumption | exact kn4_at KQ (Below.refl _ _).drew | exact kn4_keep KQ (by assumption) (by assumption)) (first | (go_simp; go_at_call 17; (with_reducible refine (law_toTbl a0 a1 a2 a3 a4 _ hn HRA.out ?_).mono ?_); (exact (HA.out.below KQ.1).below (kn4_b (by assumption))); rintro e9 w9 ⟨gA, fpA, rfl, hsA, _, _, hbA⟩) | (go_simp; go_at_call 17; (with_reducible refine (law_toTbl a5 a6 a7 a8 a9 _ hn' HRB.out ?_).mono ?_); (exact (HB.out.below KQ.1).below (kn4_b (by assumption))); rintro e9 w10 ⟨gB, fpB, rfl, hsB, _, _, hbB⟩) | (go_simp; go_at_call 34; (with_reducible refine (IM.out _ _ _ _ _ ?_ ?_).mono ?_); (exact blks_at (hsA.step hbB)); (exact blks_at hsB); rintro e9 w11 ⟨v, rfl, hown, hb⟩; have hO := hown.mono (kn4_b (by assumption)).size; obtain ⟨ao3, c3, rfl⟩ := hown.shape))
            all_goals
              obtain ⟨fp14, hs, hf, _⟩ := hO.rep
              have IX := IQ.own (ownS intTy (.slice ao3 L.length c3) L fp14) (kn4_b (‹_ ∧ _ ∧ _ ∧ _ ∧ Below w13.heap.size w13 w11›)) hs hf
              obtain ⟨w14, hw14⟩ : ∃ w9, w9 = w11 := ⟨_, rfl⟩
              obtain ⟨ao14, hao14⟩ : ∃ x, x = ao3 := ⟨_, rfl⟩
              obtain ⟨c14, hc14⟩ : ∃ x, x = c3 := ⟨_, rfl⟩
              clear hb hsA hsB hbA hbB KQ IQ I12 hs hf hO hown
              subst hw14 hao14 hc14
              have I13 := IX
              clear IX
              go_wp2_with fail
              refine (law_eqI _ _ L _ _ _ (by omega) (I13.at 0 rfl) (I13.at 4 rfl)).mono ?_
              rintro e w15 ⟨rfl, hb⟩
              have I14 := I13.step hb
              clear hb I13
              go_wp2_with fail
              refine (law_heldI _ L.length fp6 1 _ (by omega) (by decide) (by decide) (I14.at 1 rfl)).mono ?_
              rintro e w16 ⟨rfl, hb⟩
              rw [← Hmm.out]
              have I15 := I14.step hb
              clear hb I14
              go_wp2
              go_ret
              exact ⟨rfl, I15.below⟩

/-! ### THE ROW's STEP -/
set_option maxRecDepth 100000 in
theorem lifted (os : Os) (started : os.Started) (H : Type) (enc : TypeId × Value → H) :
    ReturnsInHanded {} Try.checked os 7 .any (Rows.fnExactChangedBlocksSpec.pre6 enc Try.prog Try.f7 Rows.fnExactChangedBlocksRow.domain false) (Rows.fnExactChangedBlocksSpec.post enc Try.prog Try.f7 false true false false) := by
  refine returnsInHanded_of_change (C := Try.checked) own started (by kernel_rfl) Try.func7
    (ChangeSpec.witness6 (enc := enc) (C := Try.checked) false ⟨#[], #[.agg #[.int .i64 0, .slice none 0 0], .agg #[.int .i64 0, .slice none 0 0]], []⟩ 8 (by kernel_rfl) (by kernel_rfl) (by kernel_rfl) (by kernel_rfl)) ?_
  intro W base args ds gs before hval0 hW hcnd _
  have hval : ∀ (j : Nat) t v, Try.f7.params[j]? = some t → args[j]? = some v → Value.okWide Try.prog W .any base t v := hval0
  have hW' := hW
  obtain ⟨p, q, hA0, hV, rfl, hfz, hnd⟩ := hW
  have hA : DataW.TrodAll enc Try.prog W 0 (fun _ => true) true Try.f7.params.toList args.toList ds p := hA0
  rw [Try.params7] at hA hval
  obtain ⟨v0, vs0, d0, ds0, p0, q0, hargs, rfl, rfl, h0, r0⟩ := trodAll_cons hA
  obtain ⟨v1, vs1, d1, ds1, p1, q1, rfl, rfl, rfl, h1, r1⟩ := trodAll_cons r0
  obtain ⟨rfl, rfl, rfl⟩ := trodAll_nil r1
  obtain rfl : args = #[v0, v1] := by cases args; simp_all
  obtain ⟨rfl, rfl⟩ := trodVars_none hV
  have kk0 := h0
  have lt0 : ∀ x ∈ p0, x.block < W.heap.size := by obtain ⟨m, hm⟩ := kk0; exact DataW.trod_lt m _ _ _ hm
  obtain ⟨a0, a1, a2, a3, a4, rfl, w_a0_0, w_a0_1, w_a0_2, w_a0_3⟩ := open_tbl (hval 0 34 v0 rfl rfl) h0 (fun _ => rfl)
  have kk1 := h1
  have lt1 : ∀ x ∈ p1, x.block < W.heap.size := by obtain ⟨m, hm⟩ := kk1; exact DataW.trod_lt m _ _ _ hm
  obtain ⟨a5, a6, a7, a8, a9, rfl, w_a5_0, w_a5_1, w_a5_2, w_a5_3⟩ := open_tbl (hval 1 34 v1 rfl rfl) h1 (fun _ => rfl)
  clear hA0 hval0
  simp only [List.append_nil] at hW'
  refine (walk a0 a1 a2 a3 a4 a5 a6 a7 a8 a9 W w_a0_0 w_a0_1 w_a0_2 w_a0_3 w_a5_0 w_a5_1 w_a5_2 w_a5_3).mono fun e W' ⟨he, hg⟩ => ?_
  subst he
  exact ⟨_, rfl, _, _, _, [], _, [], hW', (trodAll_cons_mk (shut_bool Try.underlying4 _) trodAll_mk0), (trodAll_cons_mk (Below.trod (by kernel_rfl) (by kernel_rfl) (of_decide_eq_true (by kernel_rfl)) kk0 hg lt0) (trodAll_cons_mk (Below.trod (by kernel_rfl) (by kernel_rfl) (of_decide_eq_true (by kernel_rfl)) kk1 hg lt1) trodAll_mk0)), rfl, hg.frame _, fun h => by cases h⟩

theorem over : Rows.fnExactChangedBlocksRow.holds Try.pinned (OpenSpec.ofChange Rows.fnExactChangedBlocksSpec) :=
  OpenClaim.holds_of_wide 7 Try.f7 rfl rfl rfl rfl rfl rfl rfl ⟨rfl, rfl, rfl, rfl, rfl⟩ rfl rfl rfl rfl rfl (by kernel_rfl) Try.func7 (by kernel_rfl)
    (of_decide_eq_true (by kernel_rfl)) (by unfold Func.isWrapper; first | (rw [if_pos (by decide +kernel)]; kernel_rfl) | (rw [if_neg (by decide +kernel)]; exact ⟨rfl, rfl⟩))
    (fun os started H enc _ => lifted os started H enc)

/-- ████ THE STATEMENT ████ -/
theorem proved : Rows.FnExactChangedBlocksSaid :=
  over
end Go.Proofs.Ytmjcfkaiheajaaa.fnExactChangedBlocks
