/-
  Proved: for every block and every row, the law FnExactAddRow returns true (the project's AddRow answers as its model, leaves its arguments as they were, and hands back rows of its own). No condition.
-/
import Derived.Test.YtndebdimjlfepaaRows
import Derived.Test.YtndebdimjlfepaaMk
import Derived.Test.YtndebdimjlfepaaPlain
import Derived.Test.YtndebdimjlfepaaL1In
import Derived.Test.YtndebdimjlfepaaKeep
import Derived.Test.YtndebdimjlfepaaRvSpec
import Derived.Test.YtndebdimjlfepaaRwLaw
import Derived.Test.YtndebdimjlfepaaRwsOwn
import Derived.Test.YtndebdimjlfepaaArSpec
import Derived.Test.YtndebdimjlfepaaEqRows
import Derived.Test.YtndebdimjlfepaaFdSpec
import Derived.Test.YtndebdimjlfepaaRwsApp
import Derived.Test.YtndebdimjlfepaaBkPlain
import Derived.Test.YtndebdimjlfepaaBkLaw
import Derived.Test.YtndebdimjlfepaaRep
import Derived.Test.YtndebdimjlfepaaRwRep
import Derived.Test.YtndebdimjlfepaaMkRows
import Derived.Test.YtndebdimjlfepaaRwSrc
import Derived.Test.YtndebdimjlfepaaAdPlain
import Derived.Test.YtndebdimjlfepaaAdSpec
import Derived.Test.YtndebdimjlfepaaKo
import Derived.Test.YtndebdimjlfepaaAdrSpec
import Derived.Test.YtndebdimjlfepaaRmSpec
import Derived.Test.YtndebdimjlfepaaInv
import Derived.Test.YtndebdimjlfepaaBkOwn
import Derived.Test.YtndebdimjlfepaaBkMark
import Derived.Test.YtndebdimjlfepaaBkCon
import Derived.Test.YtndebdimjlfepaaAdImpl
import Derived.Test.YtndebdimjlfepaaBlkArg
import Derived.Test.YtndebdimjlfepaaRowArg
import Derived.WalkKit
import Derived.ProofKit
import Derived.OpenShut
import Derived.ShutString
import Derived.ChangeOld
import Derived.Below
import Derived.Carry
namespace Go.Proofs.Ytndebdimjlfepaa.fnExactAddRow
open Go.ChangeShapes Go.WideShapes Go.ChangeAt Go.RowKit
open Go.ChangeMaps (open_string shut_string)
set_option linter.unusedVariables false

theorem own : ownKnob Try.prog.godebug = none := by kernel_rfl

/-! ### The walk -/
set_option maxRecDepth 100000 in
set_option maxHeartbeats 8000000 in
theorem walk (a0 : Int) (a1 : Option Addr) (a2 : Nat) (a3 : Nat) (a4 : Nat → Rw) (a5 : Int) (a6 : Int) (a7 : Int) (a8 : Int) (a9 : Bool) (w : World) (w_a0_0 : (Lit.int .i64 a0).wf = true) (w_a0_1 : RowsArg w a1 a2 a4) (w_a0_2 : a2 ≤ maxLen) (w_a5_0 : (Lit.int .i64 a5).wf = true) (w_a5_1 : (Lit.int .i64 a6).wf = true) (w_a5_2 : (Lit.int .i64 a7).wf = true) (w_a5_3 : (Lit.int .i64 a8).wf = true) :
    Calls Try.prog 15 #[.agg #[.int .i64 a0, .slice a1 a2 a3], .agg #[.int .i64 a5, .int .i64 a6, .int .i64 a7, .int .i64 a8, .bool a9]] w fun e w' => e = .returned (.bool true) ∧ Below w.heap.size w w' := by
  have hmax : a2 ≤ 9223372036854775807 := Nat.le_trans w_a0_2 (by unfold maxLen; omega)
  by_cases hbig : 1048576 < a2
  · go_enter Try.func15, Try.ntmps15
    go_wp2_with fail
    have K0 := ((Kept.start w).alloc2 (.int .i64 a0) (.slice a1 a2 a3) 85 _ rfl).alloc5 (.int .i64 a5) (.int .i64 a6) (.int .i64 a7) (.int .i64 a8) (.bool a9) 26 (w.heap.size + 1) (by simp)
    refine (law_szb_big a0 a1 a2 a3 _ hbig hmax).mono ?_
    rintro e w1 ⟨rfl, hb⟩
    have K1 := K0.step hb
    clear hb K0
    go_wp2
    go_ret
    exact ⟨rfl, K1.1⟩
  · have hn : a2 ≤ 1048576 := by omega
    have hnI : (a2 : Int) ≤ 1048576 := by omega
    have hz : ¬ (1048576 - (a2 : Int)) < 0 := by omega
    have hzd : decide ((1048576 - (a2 : Int)) < 0) = false := decide_eq_false hz
    have HA := Lib.hid w_a0_1
    clear hbig hmax w_a0_2
    go_enter Try.func15, Try.ntmps15
    go_wp2_with fail
    have K0 := ((Kept.start w).alloc2 (.int .i64 a0) (.slice a1 a2 a3) 85 _ rfl).alloc5 (.int .i64 a5) (.int .i64 a6) (.int .i64 a7) (.int .i64 a8) (.bool a9) 26 (w.heap.size + 1) (by simp)
    refine (law_szb a0 a1 a2 a3 _ hn).mono ?_
    rintro e w1 ⟨rfl, hb⟩
    have I1 := Inv.of_kept (K0.step hb)
    clear hb K0
    go_upto_region 5 with fail
    go_cut [6, 7] (fun s6 s7 wx => ∃ (l' : List Rw) (ok : Bool) (g6 : Nat) (ao6 : Option Addr) (c6 : Nat) (fp6 : List Nat), Hid (l' = addAns a0 (lst a2 a4) ⟨a5, a6, a7, a8, a9⟩ ∧ ok = addOk a0 (lst a2 a4) ⟨a5, a6, a7, a8, a9⟩) ∧ s6 = .pointer (some ⟨g6, 0, none⟩) ∧ s7 = .bool ok ∧ Inv w wx ([(⟨g6, 0, none⟩, .int .i64 a0), (⟨g6, 1, none⟩, .slice ao6 l'.length c6), (⟨w.heap.size + 1, 0, none⟩, .int .i64 a5), (⟨w.heap.size + 1, 1, none⟩, .int .i64 a6), (⟨w.heap.size + 1, 2, none⟩, .int .i64 a7), (⟨w.heap.size + 1, 3, none⟩, .int .i64 a8), (⟨w.heap.size + 1, 4, none⟩, .bool a9), (⟨w.heap.size, 0, none⟩, .int .i64 a0), (⟨w.heap.size, 1, none⟩, .slice a1 a2 a3)]) [ownS rowTy (.slice ao6 l'.length c6) (l') fp6])
    case first =>
      have KH6 := I1.1.sub (l' := [(⟨w.heap.size + 1, 0, none⟩, .int .i64 a5), (⟨w.heap.size + 1, 1, none⟩, .int .i64 a6), (⟨w.heap.size + 1, 2, none⟩, .int .i64 a7), (⟨w.heap.size + 1, 3, none⟩, .int .i64 a8), (⟨w.heap.size + 1, 4, none⟩, .bool a9), (⟨w.heap.size, 0, none⟩, .int .i64 a0), (⟨w.heap.size, 1, none⟩, .slice a1 a2 a3)]) (by intro p9 hp9; simp only [List.mem_cons, List.not_mem_nil, or_false] at hp9; rcases hp9 with rfl | rfl | rfl | rfl | rfl | rfl | rfl <;> simp)
      have zw := I1.below.size
      go_region_held3 (fun w' => w'.cell? ⟨w.heap.size + 1, 0, none⟩ = some (.int .i64 a5) ∧ w'.cell? ⟨w.heap.size + 1, 1, none⟩ = some (.int .i64 a6) ∧ w'.cell? ⟨w.heap.size + 1, 2, none⟩ = some (.int .i64 a7) ∧ w'.cell? ⟨w.heap.size + 1, 3, none⟩ = some (.int .i64 a8) ∧ w'.cell? ⟨w.heap.size + 1, 4, none⟩ = some (.bool a9) ∧ w'.cell? ⟨w.heap.size, 0, none⟩ = some (.int .i64 a0) ∧ w'.cell? ⟨w.heap.size, 1, none⟩ = some (.slice a1 a2 a3) ∧ Below w1.heap.size w1 w') (first | assumption | exact k7_at KH6 (Below.refl _ _).drew | exact k7_keep KH6 (by assumption) (by assumption) | exact k7_alloc KH6 (by assumption) | exact k7_alloc KH6 (k7_keep KH6 (by assumption) (by assumption)) | exact k7_alloc KH6 (k7_at KH6 hB11) | exact k7_set KH6 (k7_at KH6 hB11) (by omega) | exact k7_set KH6 (by assumption) (by omega) | exact k7_set KH6 (k7_keep KH6 (by assumption) (by assumption)) (by omega)) (first | (go_simp; go_at_call 66; (with_reducible refine (law_toBlkO _ _ _ _ a4 _ hn ?_).mono ?_); (exact (HA.out.below I1.below).below (k7_b (by assumption))); rintro e9 w9 ⟨g9, rfl, hs9, hg9, hb⟩; have I9 := Inv.step (W := w) (by repeat' (first | (with_reducible apply Inv.drew) | (with_reducible apply Inv.alloc2 (hN := rfl)) | with_reducible exact I1)) hb; have hz9 := hb.size; (try simp only [World.size_alloc, World.size_drew] at hz9)) | (go_simp; go_at_call 60; (with_reducible refine (law_toR _ _ _ _ _ _).mono ?_); rintro e9 w10 ⟨rfl, hb⟩; have hs10 := (hs9.step (by repeat' (first | (with_reducible exact (Below.refl _ _)) | (with_reducible refine Below.drew ?_) | (refine Below.alloc ?_ (by (try simp only [World.size_alloc, World.size_drew]); omega) _)))).step hb; have I10 := Inv.step (W := w) (by repeat' (first | (with_reducible apply Inv.drew) | (with_reducible apply Inv.alloc2 (hN := rfl)) | with_reducible exact I9)) hb; have hz10 := hb.size; (try simp only [World.size_alloc, World.size_drew] at hz10)) | (go_simp; go_at_call 69; (with_reducible refine (spec_addO a0 g9 a2 _ (lst a2 a4) [g9] ⟨a5, a6, a7, a8, a9⟩ _ (by rw [lst_len]; exact hn) ?_).mono ?_); (exact hs10.step (by repeat' (first | (with_reducible exact (Below.refl _ _)) | (with_reducible refine Below.drew ?_) | (refine Below.alloc ?_ (by (try simp only [World.size_alloc, World.size_drew]); omega) _)))); rintro e9 w11 ⟨l', ok, hans, v6, fp6, rfl, hs11, hf11, hn11, hb⟩; have HS := Lib.hid hans; clear hans; obtain ⟨ao6, c6, rfl⟩ := hs11.val; have hB11 := below_via (W := w1) hb (k7_b (by assumption)); have hz11 := hb.size; (try simp only [World.size_alloc, World.size_drew] at hz11); have I11 := Inv.own (W := w) (by repeat' (first | (with_reducible apply Inv.drew) | (with_reducible apply Inv.alloc2 (hN := rfl)) | with_reducible exact I10)) (ownS rowTy (.slice ao6 l'.length c6) l' fp6) hb hs11 hf11; (try have y0 := I11.get 0 rfl); (try have f0 := I11.fz 0 rfl); (try have y1 := I11.get 1 rfl); (try have f1 := I11.fz 1 rfl)))
      all_goals
        (dsimp only [Exit.then]; go_step; go_meet)
        first | exact ⟨l', ok, _, _, _, _, HS, rfl, rfl, I11.alloc2 _ _ _ _ rfl⟩ | exact ⟨l', ok, _, _, _, _, HS, rfl, rfl, I11.set2 _ _ (by omega) (fun c9 hc9 => by have := (I1.1.2 c9 hc9).1; omega)⟩
    case rest =>
      obtain ⟨l', ok, g6, ao6, c6, fp6, HANS, rfl, rfl, I2⟩ := hcut
      have hl' : l'.length ≤ 1048576 := add_len HANS.out (by rw [lst_len]; exact hn)
      have e0 := I2.get 7 rfl
      have e1 := I2.get 8 rfl
      go_wp2_with fail
      refine (law_toBlkO a0 a1 a2 a3 a4 _ hn (HA.out.below I2.below)).mono ?_
      rintro e w2 ⟨g8, rfl, hs, hg, hb⟩
      have I3 := (I2.own (ownS rowTy (.slice (some ⟨g8, 0, none⟩) a2 a2) (lst a2 a4) [g8]) hb hs (fun k hk => by have hk' : k = g8 := List.mem_singleton.1 hk; omega)).alloc2 (.int .i64 a0) (.slice (some ⟨g8, 0, none⟩) a2 a2) 89 w2.heap.size rfl
      clear e0 e1 hs hg hb I2
      obtain ⟨x8, hx8⟩ : ∃ x8, x8 = w2.heap.size := ⟨_, rfl⟩
      rw [← hx8] at I3
      go_upto_region 7 with fail
      rw [← hx8]
      clear hx8
      generalize (w2.alloc (.cells #[.int .i64 a0, .slice (some ⟨g8, 0, none⟩) a2 a2] 89)) = w3 at I3 ⊢
      go_cut [9, 10] (fun s9 s10 wx => ∃ (g9 : Nat) (ao9 : Option Addr) (c9 : Nat) (fp9 : List Nat), s9 = .pointer (some ⟨g9, 0, none⟩) ∧ s10 = .bool ok ∧ Inv w wx ([(⟨g9, 0, none⟩, .int .i64 a0), (⟨g9, 1, none⟩, .slice ao9 l'.length c9), (⟨x8, 0, none⟩, .int .i64 a0), (⟨x8, 1, none⟩, .slice (some ⟨g8, 0, none⟩) a2 a2), (⟨g6, 0, none⟩, .int .i64 a0), (⟨g6, 1, none⟩, .slice ao6 l'.length c6), (⟨w.heap.size + 1, 0, none⟩, .int .i64 a5), (⟨w.heap.size + 1, 1, none⟩, .int .i64 a6), (⟨w.heap.size + 1, 2, none⟩, .int .i64 a7), (⟨w.heap.size + 1, 3, none⟩, .int .i64 a8), (⟨w.heap.size + 1, 4, none⟩, .bool a9), (⟨w.heap.size, 0, none⟩, .int .i64 a0), (⟨w.heap.size, 1, none⟩, .slice a1 a2 a3)]) [ownS rowTy (.slice ao9 l'.length c9) (l') fp9, ownS rowTy (.slice (some ⟨g8, 0, none⟩) a2 a2) (lst a2 a4) [g8], ownS rowTy (.slice ao6 l'.length c6) (l') fp6])
      case first =>
        have KH9 := I3.1.sub (l' := [(⟨w.heap.size + 1, 0, none⟩, .int .i64 a5), (⟨w.heap.size + 1, 1, none⟩, .int .i64 a6), (⟨w.heap.size + 1, 2, none⟩, .int .i64 a7), (⟨w.heap.size + 1, 3, none⟩, .int .i64 a8), (⟨w.heap.size + 1, 4, none⟩, .bool a9), (⟨x8, 0, none⟩, .int .i64 a0), (⟨x8, 1, none⟩, .slice (some ⟨g8, 0, none⟩) a2 a2)]) (by intro p9 hp9; simp only [List.mem_cons, List.not_mem_nil, or_false] at hp9; rcases hp9 with rfl | rfl | rfl | rfl | rfl | rfl | rfl <;> simp)
        have zw := I3.below.size
        have hx0 : SliceRep rowTy w3 (.slice (some ⟨g8, 0, none⟩) a2 a2) (lst a2 a4) [g8] := I3.at 0 rfl
        go_region_held3 (fun w' => w'.cell? ⟨w.heap.size + 1, 0, none⟩ = some (.int .i64 a5) ∧ w'.cell? ⟨w.heap.size + 1, 1, none⟩ = some (.int .i64 a6) ∧ w'.cell? ⟨w.heap.size + 1, 2, none⟩ = some (.int .i64 a7) ∧ w'.cell? ⟨w.heap.size + 1, 3, none⟩ = some (.int .i64 a8) ∧ w'.cell? ⟨w.heap.size + 1, 4, none⟩ = some (.bool a9) ∧ w'.cell? ⟨x8, 0, none⟩ = some (.int .i64 a0) ∧ w'.cell? ⟨x8, 1, none⟩ = some (.slice (some ⟨g8, 0, none⟩) a2 a2) ∧ Below w3.heap.size w3 w') (first | assumption | exact k7_at KH9 (Below.refl _ _).drew | exact k7_keep KH9 (by assumption) (by assumption) | exact k7_alloc KH9 (by assumption) | exact k7_alloc KH9 (k7_keep KH9 (by assumption) (by assumption)) | exact k7_alloc KH9 (k7_at KH9 hB11) | exact k7_set KH9 (k7_at KH9 hB11) (by omega) | exact k7_set KH9 (by assumption) (by omega) | exact k7_set KH9 (k7_keep KH9 (by assumption) (by assumption)) (by omega)) (first | (go_simp; go_at_call 60; (with_reducible refine (law_toR _ _ _ _ _ _).mono ?_); rintro e9 w10 ⟨rfl, hb⟩; have I10 := Inv.step (W := w) (by repeat' (first | (with_reducible apply Inv.drew) | (with_reducible apply Inv.alloc2 (hN := rfl)) | with_reducible exact I3)) hb; have hz10 := hb.size; (try simp only [World.size_alloc, World.size_drew] at hz10)) | (go_simp; go_at_call 70; (with_reducible refine (impl_addO a0 g8 a2 _ (lst a2 a4) [g8] ⟨a5, a6, a7, a8, a9⟩ _ (by rw [lst_len]; exact hn) ?_).mono ?_); (exact hx0.step (k7_b (by assumption))); rintro e9 w11 ⟨l2, ok2, hans, v6, fp6, rfl, hs11, hf11, hn11, hb⟩; obtain ⟨rfl, rfl⟩ := add_unique HANS.out hans; have HS := Lib.hid hans; clear hans; obtain ⟨ao6, c6, rfl⟩ := hs11.val; have hB11 := below_via (W := w3) hb (k7_b (by assumption)); have hz11 := hb.size; (try simp only [World.size_alloc, World.size_drew] at hz11); have I11 := Inv.own (W := w) (by repeat' (first | (with_reducible apply Inv.drew) | (with_reducible apply Inv.alloc2 (hN := rfl)) | with_reducible exact I10)) (ownS rowTy (.slice ao6 l'.length c6) l' fp6) hb hs11 hf11; (try have y0 := I11.get 0 rfl); (try have f0 := I11.fz 0 rfl); (try have y1 := I11.get 1 rfl); (try have f1 := I11.fz 1 rfl)))
        all_goals
          (dsimp only [Exit.then]; go_step; go_meet)
          first | exact ⟨_, _, _, _, rfl, rfl, I11.alloc2 _ _ _ _ rfl⟩ | exact ⟨_, _, _, _, rfl, rfl, I11.set2 _ _ (by omega) (fun c9 hc9 => by have := (I3.1.2 c9 hc9).1; omega)⟩
      case rest =>
        obtain ⟨g9, ao9, c9, fp9, rfl, rfl, I4⟩ := hcut
        have y0 := I4.get 0 rfl
        have y1 := I4.get 1 rfl
        have y2 := I4.get 4 rfl
        have y3 := I4.get 5 rfl
        go_wp2_with fail
        refine (law_eqBkO a0 _ _ _ _ _ _ l' fp9 fp6 _ hl' (I4.at 0 rfl) (I4.at 2 rfl)).mono ?_
        rintro e w4 ⟨rfl, hb⟩
        have I5 := I4.step hb
        clear hb I4 y0 y1 y2 y3
        have KQ := I5.1.sub (l' := [(⟨x8, 0, none⟩, .int .i64 a0), (⟨x8, 1, none⟩, .slice (some ⟨g8, 0, none⟩) a2 a2), (⟨w.heap.size, 0, none⟩, .int .i64 a0), (⟨w.heap.size, 1, none⟩, .slice a1 a2 a3)]) (by intro p9 hp9; simp only [List.mem_cons, List.not_mem_nil, or_false] at hp9; rcases hp9 with rfl | rfl | rfl | rfl <;> simp)
        have hx5 : SliceRep rowTy w4 (.slice (some ⟨g8, 0, none⟩) a2 a2) (lst a2 a4) [g8] := I5.at 1 rfl
        go_wp2_with fail
        go_region_held3 (fun w' => w'.cell? ⟨x8, 0, none⟩ = some (.int .i64 a0) ∧ w'.cell? ⟨x8, 1, none⟩ = some (.slice (some ⟨g8, 0, none⟩) a2 a2) ∧ w'.cell? ⟨w.heap.size, 0, none⟩ = some (.int .i64 a0) ∧ w'.cell? ⟨w.heap.size, 1, none⟩ = some (.slice a1 a2 a3) ∧ Below w4.heap.size w4 w') (first | assumption | exact bq_start KQ | exact bq_keep KQ (by assumption) (by assumption)) (first | (go_simp; go_at_call 66; (with_reducible refine (law_toBlkO _ _ _ _ a4 _ hn ?_).mono ?_); (exact (HA.out.below KQ.1).below (bq_below (by assumption))); rintro e9 w9 ⟨gq, rfl, hs9, _, hb⟩) | (go_simp; go_at_call 68; (with_reducible refine (law_eqBkO _ _ _ _ _ _ _ (lst a2 a4) [g8] [gq] _ (by rw [lst_len]; exact hn) ?_ ?_).mono ?_); (exact hx5.step (bq_below (by assumption))); (exact hs9); rintro e9 w10 ⟨rfl, hb⟩))
        all_goals
          have I6 := I5.step (‹_ ∧ _ ∧ _ ∧ _ ∧ Below w4.heap.size w4 w10›).2.2.2.2
          obtain ⟨w5, hw5⟩ : ∃ w5, w5 = w10 := ⟨_, rfl⟩
          clear hb hs9 KQ I5 hx5
          subst hw5
          have y0 := I6.get 2 rfl
          have y1 := I6.get 3 rfl
          go_wp2_with fail
          refine (law_markBkO a0 _ (lst a2 a4) [g8] 1 _ (by rw [lst_len]; omega) (by decide) (by decide) (I6.at 1 rfl)).mono ?_
          rintro e w6 ⟨rfl, hc, hs⟩
          have I7 := Inv.chg (S1 := [ownS rowTy (.slice ao9 l'.length c9) (l') fp9]) (S2 := [ownS rowTy (.slice ao6 l'.length c6) (l') fp6]) (s := ownS rowTy (.slice (some ⟨g8, 0, none⟩) a2 a2) (lst a2 a4) [g8]) I6 (ownS rowTy (.slice (some ⟨g8, 0, none⟩) a2 a2) (marks 1 (lst a2 a4).length) [g8]) rfl hc hs
          clear hc hs I6 y0 y1
          obtain ⟨kk, hkk⟩ : ∃ kk, kk = 1 + 5 * ((lst a2 a4).length : Int) := ⟨_, rfl⟩
          rw [← hkk]
          have kk0 : ¬ kk < 0 := by omega
          have kkd : decide (kk < 0) = false := decide_eq_false kk0
          clear hkk
          have y0 := I7.get 0 rfl
          have y1 := I7.get 1 rfl
          have y2 := I7.get 4 rfl
          have y3 := I7.get 5 rfl
          go_wp2_with fail
          refine (law_eqBkO a0 _ _ _ _ _ _ l' fp9 fp6 _ hl' (I7.at 0 rfl) (I7.at 2 rfl)).mono ?_
          rintro e w7 ⟨rfl, hb⟩
          have I8 := I7.step hb
          clear hb I7 y0 y1 y2 y3
          have y0 := I8.get 0 rfl
          have y1 := I8.get 1 rfl
          go_wp2_with fail
          refine (law_markBkO a0 _ l' fp9 1 _ (by omega) (by decide) (by decide) (I8.at 0 rfl)).mono ?_
          rintro e w8 ⟨rfl, hc, hs⟩
          have I9' := Inv.chg (S1 := []) (S2 := [ownS rowTy (.slice (some ⟨g8, 0, none⟩) a2 a2) (marks 1 (lst a2 a4).length) [g8], ownS rowTy (.slice ao6 l'.length c6) (l') fp6]) (s := ownS rowTy (.slice ao9 l'.length c9) (l') fp9) I8 (ownS rowTy (.slice ao9 l'.length c9) (marks 1 l'.length) fp9) rfl hc hs
          clear hc hs I8 y0 y1
          have y0 := I9'.get 0 rfl
          have y1 := I9'.get 1 rfl
          obtain ⟨mm, hmm⟩ : ∃ mm, mm = 1 + 5 * (l'.length : Int) := ⟨_, rfl⟩
          rw [← hmm]
          have HM := Lib.hid hmm
          have mm0 : ¬ mm < 0 := by omega
          have mmd : decide (mm < 0) = false := decide_eq_false mm0
          clear hmm
          go_wp2_with fail
          refine (law_heldBkO a0 _ l'.length fp9 1 _ (by omega) (by decide) (by decide) (I9'.at 0 rfl)).mono ?_
          rintro e w12 ⟨rfl, hb⟩
          rw [← HM.out]
          have IA := I9'.step hb
          clear hb I9' y0 y1
          go_upto_region 24 with fail
          go_cut [14, 15] (fun s14 s15 wx => ∃ (g14 : Nat) (ao14 : Option Addr) (c14 : Nat) (fp14 : List Nat), s14 = .pointer (some ⟨g14, 0, none⟩) ∧ s15 = .bool ok ∧ Inv w wx ([(⟨g14, 0, none⟩, .int .i64 a0), (⟨g14, 1, none⟩, .slice ao14 l'.length c14), (⟨g9, 0, none⟩, .int .i64 a0), (⟨g9, 1, none⟩, .slice ao9 l'.length c9), (⟨x8, 0, none⟩, .int .i64 a0), (⟨x8, 1, none⟩, .slice (some ⟨g8, 0, none⟩) a2 a2), (⟨g6, 0, none⟩, .int .i64 a0), (⟨g6, 1, none⟩, .slice ao6 l'.length c6), (⟨w.heap.size + 1, 0, none⟩, .int .i64 a5), (⟨w.heap.size + 1, 1, none⟩, .int .i64 a6), (⟨w.heap.size + 1, 2, none⟩, .int .i64 a7), (⟨w.heap.size + 1, 3, none⟩, .int .i64 a8), (⟨w.heap.size + 1, 4, none⟩, .bool a9), (⟨w.heap.size, 0, none⟩, .int .i64 a0), (⟨w.heap.size, 1, none⟩, .slice a1 a2 a3)]) [ownS rowTy (.slice ao14 l'.length c14) (l') fp14, ownS rowTy (.slice ao9 l'.length c9) (marks 1 l'.length) fp9, ownS rowTy (.slice (some ⟨g8, 0, none⟩) a2 a2) (marks 1 (lst a2 a4).length) [g8], ownS rowTy (.slice ao6 l'.length c6) (l') fp6])
          case first =>
            have KH14 := IA.1.sub (l' := [(⟨w.heap.size + 1, 0, none⟩, .int .i64 a5), (⟨w.heap.size + 1, 1, none⟩, .int .i64 a6), (⟨w.heap.size + 1, 2, none⟩, .int .i64 a7), (⟨w.heap.size + 1, 3, none⟩, .int .i64 a8), (⟨w.heap.size + 1, 4, none⟩, .bool a9), (⟨w.heap.size, 0, none⟩, .int .i64 a0), (⟨w.heap.size, 1, none⟩, .slice a1 a2 a3)]) (by intro p9 hp9; simp only [List.mem_cons, List.not_mem_nil, or_false] at hp9; rcases hp9 with rfl | rfl | rfl | rfl | rfl | rfl | rfl <;> simp)
            have zw := IA.below.size
            go_region_held3 (fun w' => w'.cell? ⟨w.heap.size + 1, 0, none⟩ = some (.int .i64 a5) ∧ w'.cell? ⟨w.heap.size + 1, 1, none⟩ = some (.int .i64 a6) ∧ w'.cell? ⟨w.heap.size + 1, 2, none⟩ = some (.int .i64 a7) ∧ w'.cell? ⟨w.heap.size + 1, 3, none⟩ = some (.int .i64 a8) ∧ w'.cell? ⟨w.heap.size + 1, 4, none⟩ = some (.bool a9) ∧ w'.cell? ⟨w.heap.size, 0, none⟩ = some (.int .i64 a0) ∧ w'.cell? ⟨w.heap.size, 1, none⟩ = some (.slice a1 a2 a3) ∧ Below w12.heap.size w12 w') (first | assumption | exact k7_at KH14 (Below.refl _ _).drew | exact k7_keep KH14 (by assumption) (by assumption) | exact k7_alloc KH14 (by assumption) | exact k7_alloc KH14 (k7_keep KH14 (by assumption) (by assumption)) | exact k7_alloc KH14 (k7_at KH14 hB11) | exact k7_set KH14 (k7_at KH14 hB11) (by omega) | exact k7_set KH14 (by assumption) (by omega) | exact k7_set KH14 (k7_keep KH14 (by assumption) (by assumption)) (by omega)) (first | (go_simp; go_at_call 66; (with_reducible refine (law_toBlkO _ _ _ _ a4 _ hn ?_).mono ?_); (exact (HA.out.below IA.below).below (k7_b (by assumption))); rintro e9 w9 ⟨g9, rfl, hs9, hg9, hb⟩; have I9 := Inv.step (W := w) (by repeat' (first | (with_reducible apply Inv.drew) | (with_reducible apply Inv.alloc2 (hN := rfl)) | with_reducible exact IA)) hb; have hz9 := hb.size; (try simp only [World.size_alloc, World.size_drew] at hz9)) | (go_simp; go_at_call 60; (with_reducible refine (law_toR _ _ _ _ _ _).mono ?_); rintro e9 w10 ⟨rfl, hb⟩; have hs10 := (hs9.step (by repeat' (first | (with_reducible exact (Below.refl _ _)) | (with_reducible refine Below.drew ?_) | (refine Below.alloc ?_ (by (try simp only [World.size_alloc, World.size_drew]); omega) _)))).step hb; have I10 := Inv.step (W := w) (by repeat' (first | (with_reducible apply Inv.drew) | (with_reducible apply Inv.alloc2 (hN := rfl)) | with_reducible exact I9)) hb; have hz10 := hb.size; (try simp only [World.size_alloc, World.size_drew] at hz10)) | (go_simp; go_at_call 70; (with_reducible refine (impl_addO a0 g9 a2 _ (lst a2 a4) [g9] ⟨a5, a6, a7, a8, a9⟩ _ (by rw [lst_len]; exact hn) ?_).mono ?_); (exact hs10.step (by repeat' (first | (with_reducible exact (Below.refl _ _)) | (with_reducible refine Below.drew ?_) | (refine Below.alloc ?_ (by (try simp only [World.size_alloc, World.size_drew]); omega) _)))); rintro e9 w11 ⟨l2, ok2, hans, v6, fp6, rfl, hs11, hf11, hn11, hb⟩; obtain ⟨rfl, rfl⟩ := add_unique HANS.out hans; have HS := Lib.hid hans; clear hans; obtain ⟨ao6, c6, rfl⟩ := hs11.val; have hB11 := below_via (W := w12) hb (k7_b (by assumption)); have hz11 := hb.size; (try simp only [World.size_alloc, World.size_drew] at hz11); have I11 := Inv.own (W := w) (by repeat' (first | (with_reducible apply Inv.drew) | (with_reducible apply Inv.alloc2 (hN := rfl)) | with_reducible exact I10)) (ownS rowTy (.slice ao6 l'.length c6) l' fp6) hb hs11 hf11; (try have y0 := I11.get 0 rfl); (try have f0 := I11.fz 0 rfl); (try have y1 := I11.get 1 rfl); (try have f1 := I11.fz 1 rfl)))
            all_goals
              (dsimp only [Exit.then]; go_step; go_meet)
              first | exact ⟨_, _, _, _, rfl, rfl, I11.alloc2 _ _ _ _ rfl⟩ | exact ⟨_, _, _, _, rfl, rfl, I11.set2 _ _ (by omega) (fun c9 hc9 => by have := (IA.1.2 c9 hc9).1; omega)⟩
          case rest =>
            obtain ⟨g14, ao14, c14, fp14, rfl, rfl, IB⟩ := hcut
            have y0 := IB.get 0 rfl
            have y1 := IB.get 1 rfl
            have y2 := IB.get 6 rfl
            have y3 := IB.get 7 rfl
            go_wp2_with fail
            refine (law_eqBkO a0 _ _ _ _ _ _ l' fp14 fp6 _ hl' (IB.at 0 rfl) (IB.at 3 rfl)).mono ?_
            rintro e w13 ⟨rfl, hb⟩
            have IC := IB.step hb
            clear hb IB y0 y1 y2 y3
            have y0 := IC.get 2 rfl
            have y1 := IC.get 3 rfl
            go_wp2_with fail
            refine (law_heldBkO a0 _ l'.length fp9 1 _ (by omega) (by decide) (by decide) (IC.at 1 rfl)).mono ?_
            rintro e w14 ⟨rfl, hb⟩
            rw [← HM.out]
            have ID := IC.step hb
            clear hb IC y0 y1
            go_wp2
            go_ret
            exact ⟨rfl, ID.below⟩

/-! ### THE ROW's STEP -/
set_option maxRecDepth 100000 in
theorem lifted (os : Os) (started : os.Started) (H : Type) (enc : TypeId × Value → H) :
    ReturnsInHanded {} Try.checked os 15 .any (Rows.fnExactAddRowSpec.pre6 enc Try.prog Try.f15 Rows.fnExactAddRowRow.domain false) (Rows.fnExactAddRowSpec.post enc Try.prog Try.f15 false true false false) := by
  refine returnsInHanded_of_change (C := Try.checked) own started (by kernel_rfl) Try.func15
    (ChangeSpec.witness6 (enc := enc) (C := Try.checked) false ⟨#[], #[.agg #[.int .i64 0, .slice none 0 0], .agg #[.int .i64 0, .int .i64 0, .int .i64 0, .int .i64 0, .bool false]], []⟩ 8 (by kernel_rfl) (by kernel_rfl) (by kernel_rfl) (by kernel_rfl)) ?_
  intro W base args ds gs before hval0 hW hcnd _
  have hval : ∀ (j : Nat) t v, Try.f15.params[j]? = some t → args[j]? = some v → Value.okWide Try.prog W .any base t v := hval0
  have hW' := hW
  obtain ⟨p, q, hA0, hV, rfl, hfz, hnd⟩ := hW
  have hA : DataW.TrodAll enc Try.prog W 0 (fun _ => true) true Try.f15.params.toList args.toList ds p := hA0
  rw [Try.params15] at hA hval
  obtain ⟨v0, vs0, d0, ds0, p0, q0, hargs, rfl, rfl, h0, r0⟩ := trodAll_cons hA
  obtain ⟨v1, vs1, d1, ds1, p1, q1, rfl, rfl, rfl, h1, r1⟩ := trodAll_cons r0
  obtain ⟨rfl, rfl, rfl⟩ := trodAll_nil r1
  obtain rfl : args = #[v0, v1] := by cases args; simp_all
  obtain ⟨rfl, rfl⟩ := trodVars_none hV
  have kk0 := h0
  have lt0 : ∀ x ∈ p0, x.block < W.heap.size := by obtain ⟨m, hm⟩ := kk0; exact DataW.trod_lt m _ _ _ hm
  obtain ⟨a0, a1, a2, a3, a4, rfl, w_a0_0, w_a0_1, w_a0_2⟩ := open_blk (hval 0 85 v0 rfl rfl) h0 (fun _ => rfl)
  have kk1 := h1
  have lt1 : ∀ x ∈ p1, x.block < W.heap.size := by obtain ⟨m, hm⟩ := kk1; exact DataW.trod_lt m _ _ _ hm
  obtain ⟨a5, a6, a7, a8, a9, rfl, w_a5_0, w_a5_1, w_a5_2, w_a5_3⟩ := open_row (hval 1 26 v1 rfl rfl) h1
  clear hA0 hval0
  simp only [List.append_nil] at hW'
  refine (walk a0 a1 a2 a3 a4 a5 a6 a7 a8 a9 W w_a0_0 w_a0_1 w_a0_2 w_a5_0 w_a5_1 w_a5_2 w_a5_3).mono fun e W' ⟨he, hg⟩ => ?_
  subst he
  exact ⟨_, rfl, _, _, _, [], _, [], hW', (trodAll_cons_mk (shut_bool Try.underlying4 _) trodAll_mk0), (trodAll_cons_mk (Below.trod (by kernel_rfl) (by kernel_rfl) (of_decide_eq_true (by kernel_rfl)) kk0 hg lt0) (trodAll_cons_mk (Below.trod (by kernel_rfl) (by kernel_rfl) (of_decide_eq_true (by kernel_rfl)) kk1 hg lt1) trodAll_mk0)), rfl, hg.frame _, fun h => by cases h⟩

theorem over : Rows.fnExactAddRowRow.holds Try.pinned (OpenSpec.ofChange Rows.fnExactAddRowSpec) :=
  OpenClaim.holds_of_wide 15 Try.f15 rfl rfl rfl rfl rfl rfl rfl ⟨rfl, rfl, rfl, rfl, rfl⟩ rfl rfl rfl rfl rfl (by kernel_rfl) Try.func15 (MkF.closed_of (by kernel_rfl) (by kernel_rfl) (by kernel_rfl) (by kernel_rfl) (by kernel_rfl) (by kernel_rfl) (by kernel_rfl) (by kernel_rfl) (by kernel_rfl) (by kernel_rfl) (by kernel_rfl) (by kernel_rfl) (by kernel_rfl) (by kernel_rfl) (by kernel_rfl) (by kernel_rfl) (by kernel_rfl) (by kernel_rfl) (by kernel_rfl) (by kernel_rfl) (by kernel_rfl) (by kernel_rfl) (by kernel_rfl) (by kernel_rfl) (by kernel_rfl) MkF.mk_enter (MkF.lifts_eq MkF.mk_lifts rfl) (MkF.make_eq MkF.mk_make rfl) (by kernel_rfl) (by kernel_rfl) (by kernel_rfl) (by kernel_rfl))
    (of_decide_eq_true (by kernel_rfl)) (by unfold Func.isWrapper; first | (rw [if_pos (by decide +kernel)]; kernel_rfl) | (rw [if_neg (by decide +kernel)]; exact ⟨rfl, rfl⟩))
    (fun os started H enc _ => lifted os started H enc)

/-- ████ THE STATEMENT ████ -/
theorem proved : Rows.FnExactAddRowSaid :=
  over
end Go.Proofs.Ytndebdimjlfepaa.fnExactAddRow
