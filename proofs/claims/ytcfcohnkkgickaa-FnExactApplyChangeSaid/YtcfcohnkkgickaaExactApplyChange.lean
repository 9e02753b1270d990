/-
  Proved: for every table and every change, the law FnExactApplyChange returns true (the project's ApplyChange answers as its model, leaves its arguments as they were, and hands back blocks and rows of its own). No condition.
-/
import Derived.Test.YtcfcohnkkgickaaRows
import Derived.Test.YtcfcohnkkgickaaMgA
import Derived.Test.YtcfcohnkkgickaaMgB
import Derived.Test.YtcfcohnkkgickaaApcImpl
import Derived.Test.YtcfcohnkkgickaaApcSpec
import Derived.Test.YtcfcohnkkgickaaTblArg
import Derived.Test.YtcfcohnkkgickaaChgArg
import Derived.WalkKit
import Derived.ProofKit
import Derived.OpenShut
import Derived.ShutString
import Derived.ChangeOld
import Derived.Below
import Derived.Carry
namespace Go.Proofs.Ytcfcohnkkgickaa.fnExactApplyChange
open Go.ChangeShapes Go.WideShapes Go.ChangeAt Go.RowKit
open Go.ChangeMaps (open_string shut_string)
set_option linter.unusedVariables false

theorem own : ownKnob Try.prog.godebug = none := by kernel_rfl

/-! ### The walk -/
set_option maxRecDepth 100000 in
set_option maxHeartbeats 8000000 in
theorem walk (a0 : Int) (a1 : Option Addr) (a2 : Nat) (a3 : Nat) (a4 : Nat → Blk) (a5 : Int) (a6 : Int) (a7 : Int) (a8 : Int) (a9 : Int) (a10 : Int) (a11 : Bool) (w : World) (w_a0_0 : (Lit.int .i64 a0).wf = true) (w_a0_1 : BlksArg w a1 a2 a4) (w_a0_2 : a2 ≤ maxLen) (w_a0_3 : WfB a2 a4) (w_a5_0 : (Lit.int .i64 a5).wf = true) (w_a5_1 : (Lit.int .i64 a6).wf = true) (w_a5_2 : (Lit.int .i64 a7).wf = true) (w_a5_3 : (Lit.int .i64 a8).wf = true) (w_a5_4 : (Lit.int .i64 a9).wf = true) (w_a5_5 : (Lit.int .i64 a10).wf = true) :
    Calls Try.prog 3 #[.agg #[.int .i64 a0, .slice a1 a2 a3], .agg #[.int .i64 a5, .int .i64 a6, .int .i64 a7, .int .i64 a8, .int .i64 a9, .int .i64 a10, .bool a11]] w fun e w' => e = .returned (.bool true) ∧ Below w.heap.size w w' := by
  have hm1 := w_a0_2
  have HA := Lib.hid w_a0_1
  have HWF := Lib.hid w_a0_3
  clear w_a0_2
  go_enter Try.func3, Try.ntmps3
  go_wp2_with fail
  have K0 := ((Kept.start w).alloc2 (.int .i64 a0) (.slice a1 a2 a3) 24 _ rfl).alloc7 (.int .i64 a5) (.int .i64 a6) (.int .i64 a7) (.int .i64 a8) (.int .i64 a9) (.int .i64 a10) (.bool a11) 28 (w.heap.size + 1) (by simp)
  refine (law_szTbl2 1048576 a0 a1 a2 a3 a4 _ (by decide) (by decide) hm1 (HA.out.below K0.1)).mono ?_
  rintro e w1 ⟨⟨r, rfl, hr⟩, hb⟩
  have K1 := K0.step hb
  clear hb K0
  rcases hr with rfl | ⟨hr0, hr1, hn, hsum, hrl⟩
  · go_wp2
    go_ret
    exact ⟨rfl, K1.1⟩
  · have z1 : ¬ r < 0 := by omega
    have z2 : decide (r < 0) = false := decide_eq_false z1
    have HR := Lib.hid hrl
    have HRB := Lib.hid (lstB_rows hrl)
    have HRN := Lib.hid (show ∀ k, k < a2 → (Bn (lstB a2 a4) k).rows.length ≤ 1048576 from fun k hk => by rw [Bn_at (by rw [lstB_len]; exact hk), lstB_at]; exact hrl k hk)
    have HS := Lib.hid (show (rowsN a4 a2 : Int) ≤ 1048576 from by omega)
    have HWB := Lib.hid (show WfB a2 (Bn (lstB a2 a4)) from fun k hk j hj => by
      have e : Bn (lstB a2 a4) k = a4 k := by rw [Bn_at (by rw [lstB_len]; exact hk), lstB_at]
      rw [e] at hj ⊢
      exact HWF.out k hk j hj)
    obtain ⟨V, hV⟩ : ∃ V, V = (applyC a0 (lstB a2 a4) ⟨a5, a6, ⟨a7, a8, a9, a10, a11⟩⟩).1 := ⟨_, rfl⟩
    obtain ⟨L, hL⟩ : ∃ L, L = (applyC a0 (lstB a2 a4) ⟨a5, a6, ⟨a7, a8, a9, a10, a11⟩⟩).2.1 := ⟨_, rfl⟩
    obtain ⟨Q, hQ⟩ : ∃ Q, Q = (applyC a0 (lstB a2 a4) ⟨a5, a6, ⟨a7, a8, a9, a10, a11⟩⟩).2.2 := ⟨_, rfl⟩
    have HE : EndOk L := by rw [hL]; exact or_ends (lst_ends hn (by omega) hrl) (applyC_or _ _ _)
    have hL1 : L.length ≤ 1048576 := HE.1
    have HLR := Lib.hid HE.2.1
    have HME := Lib.hid HE.2.2
    have hmg := markEnd_ge L 1
    have SP : Hid (∀ (g c : Nat) (w : World) (fp : List Nat), SliceRep blkTy w (.slice (some ⟨g, 0, none⟩) a2 c) (lstB a2 a4) fp → fp.Nodup → Calls Try.prog 14 #[.agg #[.int .i64 a0, .slice (some ⟨g, 0, none⟩) a2 c], .agg #[.int .i64 a5, .int .i64 a6, .int .i64 a7, .int .i64 a8, .int .i64 a9, .int .i64 a10, .bool a11]] w (ApcP V L Q w)) := (fun g c w fp hs hnd => by rw [hV, hL, hQ]; exact spec_apc a0 ⟨a5, a6, ⟨a7, a8, a9, a10, a11⟩⟩ (some ⟨g, 0, none⟩) a2 c (lstB a2 a4) w (lstB_len _ _) hn HRN.out (blks_at hs) (BlksSrc.rep hs) fp hs hnd : ∀ (g c : Nat) (w : World) (fp : List Nat), SliceRep blkTy w (.slice (some ⟨g, 0, none⟩) a2 c) (lstB a2 a4) fp → fp.Nodup → Calls Try.prog 14 #[.agg #[.int .i64 a0, .slice (some ⟨g, 0, none⟩) a2 c], .agg #[.int .i64 a5, .int .i64 a6, .int .i64 a7, .int .i64 a8, .int .i64 a9, .int .i64 a10, .bool a11]] w (ApcP V L Q w))
    have IM : Hid (∀ (g c : Nat) (w : World) (fp : List Nat), SliceRep blkTy w (.slice (some ⟨g, 0, none⟩) a2 c) (lstB a2 a4) fp → fp.Nodup → Calls Try.prog 17 #[.agg #[.int .i64 a0, .slice (some ⟨g, 0, none⟩) a2 c], .agg #[.int .i64 a5, .int .i64 a6, .int .i64 a7, .int .i64 a8, .int .i64 a9, .int .i64 a10, .bool a11]] w (ApcP V L Q w)) := (fun g c w fp hs _ => by rw [hV, hL, hQ]; exact impl_apc a0 ⟨a5, a6, ⟨a7, a8, a9, a10, a11⟩⟩ (some ⟨g, 0, none⟩) a2 c (lstB a2 a4) w (lstB_len _ _) hn HRN.out HWB.out (blks_at hs) (BlksSrc.rep hs) : ∀ (g c : Nat) (w : World) (fp : List Nat), SliceRep blkTy w (.slice (some ⟨g, 0, none⟩) a2 c) (lstB a2 a4) fp → fp.Nodup → Calls Try.prog 17 #[.agg #[.int .i64 a0, .slice (some ⟨g, 0, none⟩) a2 c], .agg #[.int .i64 a5, .int .i64 a6, .int .i64 a7, .int .i64 a8, .int .i64 a9, .int .i64 a10, .bool a11]] w (ApcP V L Q w))
    have qq : (Q != Q) = false := bne_self_eq_false Q
    have I1 := Inv.of_kept K1
    clear K1 hV hL hQ HE hrl hsum hm1 hr0
    go_upto_region 5 with fail
    go_cut [6, 7] (fun s6 s7 wx => ∃ (g6 : Nat) (ao6 : Option Addr) (c6 : Nat) (fp6 : List Nat), Hid (fp6.Nodup) ∧ s6 = .pointer (some ⟨g6, 0, none⟩) ∧ s7 = .int .i64 Q ∧ Inv w wx ([(⟨g6, 0, none⟩, .int .i64 V), (⟨g6, 1, none⟩, .slice ao6 L.length c6), (⟨w.heap.size + 1, 0, none⟩, .int .i64 a5), (⟨w.heap.size + 1, 1, none⟩, .int .i64 a6), (⟨w.heap.size + 1, 2, none⟩, .int .i64 a7), (⟨w.heap.size + 1, 3, none⟩, .int .i64 a8), (⟨w.heap.size + 1, 4, none⟩, .int .i64 a9), (⟨w.heap.size + 1, 5, none⟩, .int .i64 a10), (⟨w.heap.size + 1, 6, none⟩, .bool a11), (⟨w.heap.size, 0, none⟩, .int .i64 a0), (⟨w.heap.size, 1, none⟩, .slice a1 a2 a3)]) [ownS blkTy (.slice ao6 L.length c6) L fp6])
    case first =>
      have KH6 := I1.1.sub (l' := [(⟨w.heap.size + 1, 0, none⟩, .int .i64 a5), (⟨w.heap.size + 1, 1, none⟩, .int .i64 a6), (⟨w.heap.size + 1, 2, none⟩, .int .i64 a7), (⟨w.heap.size + 1, 3, none⟩, .int .i64 a8), (⟨w.heap.size + 1, 4, none⟩, .int .i64 a9), (⟨w.heap.size + 1, 5, none⟩, .int .i64 a10), (⟨w.heap.size + 1, 6, none⟩, .bool a11), (⟨w.heap.size, 0, none⟩, .int .i64 a0), (⟨w.heap.size, 1, none⟩, .slice a1 a2 a3)]) (by intro p9 hp9; simp only [List.mem_cons, List.not_mem_nil, or_false] at hp9; rcases hp9 with rfl | rfl | rfl | rfl | rfl | rfl | rfl | rfl | rfl <;> simp)
      have zw := I1.below.size
      go_region_held3 (fun w' => w'.cell? ⟨w.heap.size + 1, 0, none⟩ = some (.int .i64 a5) ∧ w'.cell? ⟨w.heap.size + 1, 1, none⟩ = some (.int .i64 a6) ∧ w'.cell? ⟨w.heap.size + 1, 2, none⟩ = some (.int .i64 a7) ∧ w'.cell? ⟨w.heap.size + 1, 3, none⟩ = some (.int .i64 a8) ∧ w'.cell? ⟨w.heap.size + 1, 4, none⟩ = some (.int .i64 a9) ∧ w'.cell? ⟨w.heap.size + 1, 5, none⟩ = some (.int .i64 a10) ∧ w'.cell? ⟨w.heap.size + 1, 6, none⟩ = some (.bool a11) ∧ w'.cell? ⟨w.heap.size, 0, none⟩ = some (.int .i64 a0) ∧ w'.cell? ⟨w.heap.size, 1, none⟩ = some (.slice a1 a2 a3) ∧ Below w1.heap.size w1 w') (first | assumption | exact kn9_at KH6 (Below.refl _ _).drew | exact kn9_keep KH6 (by assumption) (by assumption) | exact kn9_alloc KH6 (by assumption) | exact kn9_alloc KH6 (kn9_keep KH6 (by assumption) (by assumption)) | exact kn9_alloc KH6 (kn9_at KH6 hB11) | exact kn9_set KH6 (kn9_at KH6 hB11) (by omega) | exact kn9_set KH6 (by assumption) (by omega) | exact kn9_set KH6 (kn9_keep KH6 (by assumption) (by assumption)) (by omega)) (first | (go_simp; go_at_call 15; (with_reducible refine (law_toTbl a0 a1 a2 a3 a4 _ hn HR.out ?_).mono ?_); (exact (HA.out.below I1.below).below (kn9_b (by assumption))); rintro e9 w9 ⟨g9, fp9, rfl, hs9, hg9, hn9, hb⟩; have I9 := Inv.step (W := w) (by repeat' (first | (with_reducible apply Inv.drew) | (with_reducible apply Inv.alloc2 (hN := rfl)) | with_reducible exact I1)) hb; have hz9 := hb.size; (try simp only [World.size_alloc] at hz9); (try simp only [World.size_drew] at hz9)) | (go_simp; go_at_call 16; (with_reducible refine (law_toC _ _ _ _ _ _ _ _).mono ?_); rintro e9 w10 ⟨rfl, hb⟩; have hs10 := (hs9.step (by repeat' (first | (with_reducible exact (Below.refl _ _)) | (with_reducible refine Below.drew ?_) | (refine Below.alloc ?_ (by (try simp only [World.size_alloc, World.size_drew]); omega) _)))).step hb; have I10 := Inv.step (W := w) (by repeat' (first | (with_reducible apply Inv.drew) | (with_reducible apply Inv.alloc2 (hN := rfl)) | with_reducible exact I9)) hb; have hz10 := hb.size; (try simp only [World.size_alloc] at hz10); (try simp only [World.size_drew] at hz10)) | (go_simp; go_at_call 14; (with_reducible refine (SP.out g9 a2 _ fp9 ?_ ?_).mono ?_); (exact hs10.step (by repeat' (first | (with_reducible exact (Below.refl _ _)) | (with_reducible refine Below.drew ?_) | (refine Below.alloc ?_ (by (try simp only [World.size_alloc, World.size_drew]); omega) _)))); exact hn9; rintro e9 w11 ⟨v6, fp6, rfl, hs11, hn11, hf11, hb⟩; have HN11 := Lib.hid hn11; obtain ⟨ao6, c6, rfl⟩ := hs11.val; have hB11 := below_via (W := w1) hb (kn9_b (by assumption)); have hz11 := hb.size; (try simp only [World.size_alloc] at hz11); (try simp only [World.size_drew] at hz11); have I11 := Inv.own (W := w) (by repeat' (first | (with_reducible apply Inv.drew) | (with_reducible apply Inv.alloc2 (hN := rfl)) | with_reducible exact I10)) (ownS blkTy (.slice ao6 L.length c6) L fp6) hb hs11 hf11; (try have y0 := I11.get 0 rfl); (try have f0 := I11.fz 0 rfl); (try have y1 := I11.get 1 rfl); (try have f1 := I11.fz 1 rfl)))
      all_goals
        (dsimp only [Exit.then]; go_step; go_meet)
        first | exact ⟨_, _, _, _, HN11, rfl, rfl, I11.alloc2 _ _ _ _ rfl⟩ | exact ⟨_, _, _, _, HN11, rfl, rfl, I11.set2 _ _ (by omega) (fun c9 hc9 => by have := (I1.1.2 c9 hc9).1; omega)⟩
    case rest =>
      obtain ⟨g6, ao6, c6, fp6, HN6, rfl, rfl, I2⟩ := hcut
      have y0 := I2.get 9 rfl
      have y1 := I2.get 10 rfl
      go_wp2_with fail
      refine (law_toTbl a0 a1 a2 a3 a4 _ hn HR.out (HA.out.below I2.below)).mono ?_
      rintro e w2 ⟨g8, fp8, rfl, hs, hf, hnd8, hb⟩
      have HN8 := Lib.hid hnd8
      have I3 := (I2.own (ownS blkTy (.slice (some ⟨g8, 0, none⟩) a2 a2) (lstB a2 a4) fp8) hb hs hf).alloc2 (.int .i64 a0) (.slice (some ⟨g8, 0, none⟩) a2 a2) 32 w2.heap.size rfl
      clear y0 y1 hs hf hb I2 hnd8
      obtain ⟨x8, hx8⟩ : ∃ x8, x8 = w2.heap.size := ⟨_, rfl⟩
      rw [← hx8] at I3
      go_upto_region 7 with fail
      rw [← hx8]
      clear hx8
      generalize (w2.alloc (.cells #[.int .i64 a0, .slice (some ⟨g8, 0, none⟩) a2 a2] 32)) = w3 at I3 ⊢
      go_cut [9, 10] (fun s9 s10 wx => ∃ (g9 : Nat) (ao9 : Option Addr) (c9 : Nat) (fp9 : List Nat), Hid (fp9.Nodup) ∧ s9 = .pointer (some ⟨g9, 0, none⟩) ∧ s10 = .int .i64 Q ∧ Inv w wx ([(⟨g9, 0, none⟩, .int .i64 V), (⟨g9, 1, none⟩, .slice ao9 L.length c9), (⟨x8, 0, none⟩, .int .i64 a0), (⟨x8, 1, none⟩, .slice (some ⟨g8, 0, none⟩) a2 a2), (⟨g6, 0, none⟩, .int .i64 V), (⟨g6, 1, none⟩, .slice ao6 L.length c6), (⟨w.heap.size + 1, 0, none⟩, .int .i64 a5), (⟨w.heap.size + 1, 1, none⟩, .int .i64 a6), (⟨w.heap.size + 1, 2, none⟩, .int .i64 a7), (⟨w.heap.size + 1, 3, none⟩, .int .i64 a8), (⟨w.heap.size + 1, 4, none⟩, .int .i64 a9), (⟨w.heap.size + 1, 5, none⟩, .int .i64 a10), (⟨w.heap.size + 1, 6, none⟩, .bool a11), (⟨w.heap.size, 0, none⟩, .int .i64 a0), (⟨w.heap.size, 1, none⟩, .slice a1 a2 a3)]) [ownS blkTy (.slice ao9 L.length c9) L fp9, ownS blkTy (.slice (some ⟨g8, 0, none⟩) a2 a2) (lstB a2 a4) fp8, ownS blkTy (.slice ao6 L.length c6) L fp6])
      case first =>
        have KH9 := I3.1.sub (l' := [(⟨w.heap.size + 1, 0, none⟩, .int .i64 a5), (⟨w.heap.size + 1, 1, none⟩, .int .i64 a6), (⟨w.heap.size + 1, 2, none⟩, .int .i64 a7), (⟨w.heap.size + 1, 3, none⟩, .int .i64 a8), (⟨w.heap.size + 1, 4, none⟩, .int .i64 a9), (⟨w.heap.size + 1, 5, none⟩, .int .i64 a10), (⟨w.heap.size + 1, 6, none⟩, .bool a11), (⟨x8, 0, none⟩, .int .i64 a0), (⟨x8, 1, none⟩, .slice (some ⟨g8, 0, none⟩) a2 a2)]) (by intro p9 hp9; simp only [List.mem_cons, List.not_mem_nil, or_false] at hp9; rcases hp9 with rfl | rfl | rfl | rfl | rfl | rfl | rfl | rfl | rfl <;> simp)
        have zw := I3.below.size
        have hx0 : SliceRep blkTy w3 (.slice (some ⟨g8, 0, none⟩) a2 a2) (lstB a2 a4) fp8 := I3.at 0 rfl
        go_region_held3 (fun w' => w'.cell? ⟨w.heap.size + 1, 0, none⟩ = some (.int .i64 a5) ∧ w'.cell? ⟨w.heap.size + 1, 1, none⟩ = some (.int .i64 a6) ∧ w'.cell? ⟨w.heap.size + 1, 2, none⟩ = some (.int .i64 a7) ∧ w'.cell? ⟨w.heap.size + 1, 3, none⟩ = some (.int .i64 a8) ∧ w'.cell? ⟨w.heap.size + 1, 4, none⟩ = some (.int .i64 a9) ∧ w'.cell? ⟨w.heap.size + 1, 5, none⟩ = some (.int .i64 a10) ∧ w'.cell? ⟨w.heap.size + 1, 6, none⟩ = some (.bool a11) ∧ w'.cell? ⟨x8, 0, none⟩ = some (.int .i64 a0) ∧ w'.cell? ⟨x8, 1, none⟩ = some (.slice (some ⟨g8, 0, none⟩) a2 a2) ∧ Below w3.heap.size w3 w') (first | assumption | exact kn9_at KH9 (Below.refl _ _).drew | exact kn9_keep KH9 (by assumption) (by assumption) | exact kn9_alloc KH9 (by assumption) | exact kn9_alloc KH9 (kn9_keep KH9 (by assumption) (by assumption)) | exact kn9_alloc KH9 (kn9_at KH9 hB11) | exact kn9_set KH9 (kn9_at KH9 hB11) (by omega) | exact kn9_set KH9 (by assumption) (by omega) | exact kn9_set KH9 (kn9_keep KH9 (by assumption) (by assumption)) (by omega)) (first | (go_simp; go_at_call 16; (with_reducible refine (law_toC _ _ _ _ _ _ _ _).mono ?_); rintro e9 w10 ⟨rfl, hb⟩; have I10 := Inv.step (W := w) (by repeat' (first | (with_reducible apply Inv.drew) | (with_reducible apply Inv.alloc2 (hN := rfl)) | with_reducible exact I3)) hb; have hz10 := hb.size; (try simp only [World.size_alloc] at hz10); (try simp only [World.size_drew] at hz10)) | (go_simp; go_at_call 17; (with_reducible refine (IM.out g8 a2 _ fp8 ?_ ?_).mono ?_); (exact hx0.step (kn9_b (by assumption))); exact HN8.out; rintro e9 w11 ⟨v6, fp6, rfl, hs11, hn11, hf11, hb⟩; have HN11 := Lib.hid hn11; obtain ⟨ao6, c6, rfl⟩ := hs11.val; have hB11 := below_via (W := w3) hb (kn9_b (by assumption)); have hz11 := hb.size; (try simp only [World.size_alloc] at hz11); (try simp only [World.size_drew] at hz11); have I11 := Inv.own (W := w) (by repeat' (first | (with_reducible apply Inv.drew) | (with_reducible apply Inv.alloc2 (hN := rfl)) | with_reducible exact I10)) (ownS blkTy (.slice ao6 L.length c6) L fp6) hb hs11 hf11; (try have y0 := I11.get 0 rfl); (try have f0 := I11.fz 0 rfl); (try have y1 := I11.get 1 rfl); (try have f1 := I11.fz 1 rfl)))
        all_goals
          (dsimp only [Exit.then]; go_step; go_meet)
          first | exact ⟨_, _, _, _, HN11, rfl, rfl, I11.alloc2 _ _ _ _ rfl⟩ | exact ⟨_, _, _, _, HN11, rfl, rfl, I11.set2 _ _ (by omega) (fun c9 hc9 => by have := (I3.1.2 c9 hc9).1; omega)⟩
      case rest =>
        obtain ⟨g9, ao9, c9, fp9, HN9, rfl, rfl, I4⟩ := hcut
        have y0 := I4.get 0 rfl
        have y1 := I4.get 1 rfl
        have y2 := I4.get 4 rfl
        have y3 := I4.get 5 rfl
        go_wp2_with fail
        refine (law_eqTblO V _ _ _ _ _ _ L fp9 fp6 _ hL1 HLR.out (I4.at 0 rfl) (I4.at 2 rfl)).mono ?_
        rintro e w4 ⟨rfl, hb⟩
        have I5 := I4.step hb
        clear hb I4 y0 y1 y2 y3
        have KQ := I5.1.sub (l' := [(⟨x8, 0, none⟩, .int .i64 a0), (⟨x8, 1, none⟩, .slice (some ⟨g8, 0, none⟩) a2 a2), (⟨w.heap.size, 0, none⟩, .int .i64 a0), (⟨w.heap.size, 1, none⟩, .slice a1 a2 a3)]) (by intro p9 hp9; simp only [List.mem_cons, List.not_mem_nil, or_false] at hp9; rcases hp9 with rfl | rfl | rfl | rfl <;> simp)
        have hx5 : SliceRep blkTy w4 (.slice (some ⟨g8, 0, none⟩) a2 a2) (lstB a2 a4) fp8 := I5.at 1 rfl
        go_wp2_with fail
        go_region_held3 (fun w' => w'.cell? ⟨x8, 0, none⟩ = some (.int .i64 a0) ∧ w'.cell? ⟨x8, 1, none⟩ = some (.slice (some ⟨g8, 0, none⟩) a2 a2) ∧ w'.cell? ⟨w.heap.size, 0, none⟩ = some (.int .i64 a0) ∧ w'.cell? ⟨w.heap.size, 1, none⟩ = some (.slice a1 a2 a3) ∧ Below w4.heap.size w4 w') (first | assumption | exact kn4_at KQ (Below.refl _ _).drew | exact kn4_keep KQ (by assumption) (by assumption)) (first | (go_simp; go_at_call 15; (with_reducible refine (law_toTbl a0 a1 a2 a3 a4 _ hn HR.out ?_).mono ?_); (exact (HA.out.below KQ.1).below (kn4_b (by assumption))); rintro e9 w9 ⟨gq, fpq, rfl, hs9, _, _, hb⟩) | (go_simp; go_at_call 18; (with_reducible refine (law_eqTblO _ _ _ _ _ _ _ (lstB a2 a4) fp8 fpq _ (by rw [lstB_len]; exact hn) HRB.out ?_ ?_).mono ?_); (exact hx5.step (kn4_b (by assumption))); (exact hs9); rintro e9 w10 ⟨rfl, hb⟩))
        all_goals
          have I6 := I5.step (kn4_b (‹_ ∧ _ ∧ _ ∧ _ ∧ Below w4.heap.size w4 w10›))
          obtain ⟨w5, hw5⟩ : ∃ w5, w5 = w10 := ⟨_, rfl⟩
          clear hb hs9 KQ I5 hx5
          subst hw5
          have y0 := I6.get 2 rfl
          have y1 := I6.get 3 rfl
          go_wp2_with fail
          refine (law_markTblO a0 _ (lstB a2 a4) fp8 1 _ (by rw [lstB_len]; omega) (by rw [markEnd_lst]; have := HS.out; omega) (by decide) (I6.at 1 rfl) HN8.out).mono ?_
          rintro e w6 ⟨rfl, hc, hs⟩
          have I7 := Inv.chg (S1 := [ownS blkTy (.slice ao9 L.length c9) L fp9]) (S2 := [ownS blkTy (.slice ao6 L.length c6) L fp6]) (s := ownS blkTy (.slice (some ⟨g8, 0, none⟩) a2 a2) (lstB a2 a4) fp8) I6 (ownS blkTy (.slice (some ⟨g8, 0, none⟩) a2 a2) (markBlks 1 (lstB a2 a4)) fp8) rfl hc hs
          clear hc hs I6 y0 y1
          obtain ⟨kk, hkk⟩ : ∃ kk, kk = markEnd 1 (lstB a2 a4) := ⟨_, rfl⟩
          rw [← hkk]
          have kk0 : ¬ kk < 0 := by have := markEnd_ge (lstB a2 a4) 1; omega
          have kkd : decide (kk < 0) = false := decide_eq_false kk0
          clear hkk
          have y0 := I7.get 0 rfl
          have y1 := I7.get 1 rfl
          have y2 := I7.get 4 rfl
          have y3 := I7.get 5 rfl
          go_wp2_with fail
          refine (law_eqTblO V _ _ _ _ _ _ L fp9 fp6 _ hL1 HLR.out (I7.at 0 rfl) (I7.at 2 rfl)).mono ?_
          rintro e w7 ⟨rfl, hb⟩
          have I8 := I7.step hb
          clear hb I7 y0 y1 y2 y3
          have y0 := I8.get 0 rfl
          have y1 := I8.get 1 rfl
          go_wp2_with fail
          refine (law_markTblO V _ L fp9 1 _ (by omega) (by have := HME.out; omega) (by decide) (I8.at 0 rfl) HN9.out).mono ?_
          rintro e w8 ⟨rfl, hc, hs⟩
          have I9' := Inv.chg (S1 := []) (S2 := [ownS blkTy (.slice (some ⟨g8, 0, none⟩) a2 a2) (markBlks 1 (lstB a2 a4)) fp8, ownS blkTy (.slice ao6 L.length c6) L fp6]) (s := ownS blkTy (.slice ao9 L.length c9) L fp9) I8 (ownS blkTy (.slice ao9 L.length c9) (markBlks 1 L) fp9) rfl hc hs
          clear hc hs I8 y0 y1
          have y0 := I9'.get 0 rfl
          have y1 := I9'.get 1 rfl
          obtain ⟨mm, hmm⟩ : ∃ mm, mm = markEnd 1 L := ⟨_, rfl⟩
          rw [← hmm]
          have HM := Lib.hid hmm
          have mm0 : ¬ mm < 0 := by omega
          have mmd : decide (mm < 0) = false := decide_eq_false mm0
          have mmq : (mm != mm) = false := bne_self_eq_false mm
          clear hmm
          go_wp2_with fail
          refine (law_heldTblO V _ L fp9 1 _ (by omega) (by have := HME.out; omega) (by decide) (I9'.at 0 rfl)).mono ?_
          rintro e w12 ⟨rfl, hb⟩
          rw [← HM.out]
          have IA := I9'.step hb
          clear hb I9' y0 y1
          go_upto_region 24 with fail
          go_cut [14, 15] (fun s14 s15 wx => ∃ (g14 : Nat) (ao14 : Option Addr) (c14 : Nat) (fp14 : List Nat), Hid (fp14.Nodup) ∧ s14 = .pointer (some ⟨g14, 0, none⟩) ∧ s15 = .int .i64 Q ∧ Inv w wx ([(⟨g14, 0, none⟩, .int .i64 V), (⟨g14, 1, none⟩, .slice ao14 L.length c14), (⟨g9, 0, none⟩, .int .i64 V), (⟨g9, 1, none⟩, .slice ao9 L.length c9), (⟨x8, 0, none⟩, .int .i64 a0), (⟨x8, 1, none⟩, .slice (some ⟨g8, 0, none⟩) a2 a2), (⟨g6, 0, none⟩, .int .i64 V), (⟨g6, 1, none⟩, .slice ao6 L.length c6), (⟨w.heap.size + 1, 0, none⟩, .int .i64 a5), (⟨w.heap.size + 1, 1, none⟩, .int .i64 a6), (⟨w.heap.size + 1, 2, none⟩, .int .i64 a7), (⟨w.heap.size + 1, 3, none⟩, .int .i64 a8), (⟨w.heap.size + 1, 4, none⟩, .int .i64 a9), (⟨w.heap.size + 1, 5, none⟩, .int .i64 a10), (⟨w.heap.size + 1, 6, none⟩, .bool a11), (⟨w.heap.size, 0, none⟩, .int .i64 a0), (⟨w.heap.size, 1, none⟩, .slice a1 a2 a3)]) [ownS blkTy (.slice ao14 L.length c14) L fp14, ownS blkTy (.slice ao9 L.length c9) (markBlks 1 L) fp9, ownS blkTy (.slice (some ⟨g8, 0, none⟩) a2 a2) (markBlks 1 (lstB a2 a4)) fp8, ownS blkTy (.slice ao6 L.length c6) L fp6])
          case first =>
            have KH14 := IA.1.sub (l' := [(⟨w.heap.size + 1, 0, none⟩, .int .i64 a5), (⟨w.heap.size + 1, 1, none⟩, .int .i64 a6), (⟨w.heap.size + 1, 2, none⟩, .int .i64 a7), (⟨w.heap.size + 1, 3, none⟩, .int .i64 a8), (⟨w.heap.size + 1, 4, none⟩, .int .i64 a9), (⟨w.heap.size + 1, 5, none⟩, .int .i64 a10), (⟨w.heap.size + 1, 6, none⟩, .bool a11), (⟨w.heap.size, 0, none⟩, .int .i64 a0), (⟨w.heap.size, 1, none⟩, .slice a1 a2 a3)]) (by intro p9 hp9; simp only [List.mem_cons, List.not_mem_nil, or_false] at hp9; rcases hp9 with rfl | rfl | rfl | rfl | rfl | rfl | rfl | rfl | rfl <;> simp)
            have zw := IA.below.size
            go_region_held3 (fun w' => w'.cell? ⟨w.heap.size + 1, 0, none⟩ = some (.int .i64 a5) ∧ w'.cell? ⟨w.heap.size + 1, 1, none⟩ = some (.int .i64 a6) ∧ w'.cell? ⟨w.heap.size + 1, 2, none⟩ = some (.int .i64 a7) ∧ w'.cell? ⟨w.heap.size + 1, 3, none⟩ = some (.int .i64 a8) ∧ w'.cell? ⟨w.heap.size + 1, 4, none⟩ = some (.int .i64 a9) ∧ w'.cell? ⟨w.heap.size + 1, 5, none⟩ = some (.int .i64 a10) ∧ w'.cell? ⟨w.heap.size + 1, 6, none⟩ = some (.bool a11) ∧ w'.cell? ⟨w.heap.size, 0, none⟩ = some (.int .i64 a0) ∧ w'.cell? ⟨w.heap.size, 1, none⟩ = some (.slice a1 a2 a3) ∧ Below w12.heap.size w12 w') (first | assumption | exact kn9_at KH14 (Below.refl _ _).drew | exact kn9_keep KH14 (by assumption) (by assumption) | exact kn9_alloc KH14 (by assumption) | exact kn9_alloc KH14 (kn9_keep KH14 (by assumption) (by assumption)) | exact kn9_alloc KH14 (kn9_at KH14 hB11) | exact kn9_set KH14 (kn9_at KH14 hB11) (by omega) | exact kn9_set KH14 (by assumption) (by omega) | exact kn9_set KH14 (kn9_keep KH14 (by assumption) (by assumption)) (by omega)) (first | (go_simp; go_at_call 15; (with_reducible refine (law_toTbl a0 a1 a2 a3 a4 _ hn HR.out ?_).mono ?_); (exact (HA.out.below IA.below).below (kn9_b (by assumption))); rintro e9 w9 ⟨g9, fp9, rfl, hs9, hg9, hn9, hb⟩; have I9 := Inv.step (W := w) (by repeat' (first | (with_reducible apply Inv.drew) | (with_reducible apply Inv.alloc2 (hN := rfl)) | with_reducible exact IA)) hb; have hz9 := hb.size; (try simp only [World.size_alloc] at hz9); (try simp only [World.size_drew] at hz9)) | (go_simp; go_at_call 16; (with_reducible refine (law_toC _ _ _ _ _ _ _ _).mono ?_); rintro e9 w10 ⟨rfl, hb⟩; have hs10 := (hs9.step (by repeat' (first | (with_reducible exact (Below.refl _ _)) | (with_reducible refine Below.drew ?_) | (refine Below.alloc ?_ (by (try simp only [World.size_alloc, World.size_drew]); omega) _)))).step hb; have I10 := Inv.step (W := w) (by repeat' (first | (with_reducible apply Inv.drew) | (with_reducible apply Inv.alloc2 (hN := rfl)) | with_reducible exact I9)) hb; have hz10 := hb.size; (try simp only [World.size_alloc] at hz10); (try simp only [World.size_drew] at hz10)) | (go_simp; go_at_call 17; (with_reducible refine (IM.out g9 a2 _ fp9 ?_ ?_).mono ?_); (exact hs10.step (by repeat' (first | (with_reducible exact (Below.refl _ _)) | (with_reducible refine Below.drew ?_) | (refine Below.alloc ?_ (by (try simp only [World.size_alloc, World.size_drew]); omega) _)))); exact hn9; rintro e9 w11 ⟨v6, fp6, rfl, hs11, hn11, hf11, hb⟩; have HN11 := Lib.hid hn11; obtain ⟨ao6, c6, rfl⟩ := hs11.val; have hB11 := below_via (W := w12) hb (kn9_b (by assumption)); have hz11 := hb.size; (try simp only [World.size_alloc] at hz11); (try simp only [World.size_drew] at hz11); have I11 := Inv.own (W := w) (by repeat' (first | (with_reducible apply Inv.drew) | (with_reducible apply Inv.alloc2 (hN := rfl)) | with_reducible exact I10)) (ownS blkTy (.slice ao6 L.length c6) L fp6) hb hs11 hf11; (try have y0 := I11.get 0 rfl); (try have f0 := I11.fz 0 rfl); (try have y1 := I11.get 1 rfl); (try have f1 := I11.fz 1 rfl)))
            all_goals
              (dsimp only [Exit.then]; go_step; go_meet)
              first | exact ⟨_, _, _, _, HN11, rfl, rfl, I11.alloc2 _ _ _ _ rfl⟩ | exact ⟨_, _, _, _, HN11, rfl, rfl, I11.set2 _ _ (by omega) (fun c9 hc9 => by have := (IA.1.2 c9 hc9).1; omega)⟩
          case rest =>
            obtain ⟨g14, ao14, c14, fp14, HN14, rfl, rfl, IB⟩ := hcut
            have y0 := IB.get 0 rfl
            have y1 := IB.get 1 rfl
            have y2 := IB.get 6 rfl
            have y3 := IB.get 7 rfl
            go_wp2_with fail
            refine (law_eqTblO V _ _ _ _ _ _ L fp14 fp6 _ hL1 HLR.out (IB.at 0 rfl) (IB.at 3 rfl)).mono ?_
            rintro e w13 ⟨rfl, hb⟩
            have IC := IB.step hb
            clear hb IB y0 y1 y2 y3
            have y0 := IC.get 2 rfl
            have y1 := IC.get 3 rfl
            go_wp2_with fail
            refine (law_heldTblO V _ L fp9 1 _ (by omega) (by have := HME.out; omega) (by decide) (IC.at 1 rfl)).mono ?_
            rintro e w14 ⟨rfl, hb⟩
            rw [← HM.out]
            have ID := IC.step hb
            clear hb IC y0 y1
            go_wp2
            go_ret
            exact ⟨rfl, ID.below⟩

/-! ### THE ROW's STEP -/
set_option maxRecDepth 100000 in
theorem lifted (os : Os) (started : os.Started) (H : Type) (enc : TypeId × Value → H) :
    ReturnsInHanded {} Try.checked os 3 .any (Rows.fnExactApplyChangeSpec.pre6 enc Try.prog Try.f3 Rows.fnExactApplyChangeRow.domain false) (Rows.fnExactApplyChangeSpec.post enc Try.prog Try.f3 false true false false) := by
  refine returnsInHanded_of_change (C := Try.checked) own started (by kernel_rfl) Try.func3
    (ChangeSpec.witness6 (enc := enc) (C := Try.checked) false ⟨#[], #[.agg #[.int .i64 0, .slice none 0 0], .agg #[.int .i64 0, .int .i64 0, .int .i64 0, .int .i64 0, .int .i64 0, .int .i64 0, .bool false]], []⟩ 8 (by kernel_rfl) (by kernel_rfl) (by kernel_rfl) (by kernel_rfl)) ?_
  intro W base args ds gs before hval0 hW hcnd _
  have hval : ∀ (j : Nat) t v, Try.f3.params[j]? = some t → args[j]? = some v → Value.okWide Try.prog W .any base t v := hval0
  have hW' := hW
  obtain ⟨p, q, hA0, hV, rfl, hfz, hnd⟩ := hW
  have hA : DataW.TrodAll enc Try.prog W 0 (fun _ => true) true Try.f3.params.toList args.toList ds p := hA0
  rw [Try.params3] at hA hval
  obtain ⟨v0, vs0, d0, ds0, p0, q0, hargs, rfl, rfl, h0, r0⟩ := trodAll_cons hA
  obtain ⟨v1, vs1, d1, ds1, p1, q1, rfl, rfl, rfl, h1, r1⟩ := trodAll_cons r0
  obtain ⟨rfl, rfl, rfl⟩ := trodAll_nil r1
  obtain rfl : args = #[v0, v1] := by cases args; simp_all
  obtain ⟨rfl, rfl⟩ := trodVars_none hV
  have kk0 := h0
  have lt0 : ∀ x ∈ p0, x.block < W.heap.size := by obtain ⟨m, hm⟩ := kk0; exact DataW.trod_lt m _ _ _ hm
  obtain ⟨a0, a1, a2, a3, a4, rfl, w_a0_0, w_a0_1, w_a0_2, w_a0_3⟩ := open_tbl (hval 0 24 v0 rfl rfl) h0 (fun _ => rfl)
  have kk1 := h1
  have lt1 : ∀ x ∈ p1, x.block < W.heap.size := by obtain ⟨m, hm⟩ := kk1; exact DataW.trod_lt m _ _ _ hm
  obtain ⟨a5, a6, a7, a8, a9, a10, a11, rfl, w_a5_0, w_a5_1, w_a5_2, w_a5_3, w_a5_4, w_a5_5⟩ := open_chg (hval 1 28 v1 rfl rfl) h1
  clear hA0 hval0
  simp only [List.append_nil] at hW'
  refine (walk a0 a1 a2 a3 a4 a5 a6 a7 a8 a9 a10 a11 W w_a0_0 w_a0_1 w_a0_2 w_a0_3 w_a5_0 w_a5_1 w_a5_2 w_a5_3 w_a5_4 w_a5_5).mono fun e W' ⟨he, hg⟩ => ?_
  subst he
  exact ⟨_, rfl, _, _, _, [], _, [], hW', (trodAll_cons_mk (shut_bool Try.underlying4 _) trodAll_mk0), (trodAll_cons_mk (Below.trod (by kernel_rfl) (by kernel_rfl) (of_decide_eq_true (by kernel_rfl)) kk0 hg lt0) (trodAll_cons_mk (Below.trod (by kernel_rfl) (by kernel_rfl) (of_decide_eq_true (by kernel_rfl)) kk1 hg lt1) trodAll_mk0)), rfl, hg.frame _, fun h => by cases h⟩

theorem over : Rows.fnExactApplyChangeRow.holds Try.pinned (OpenSpec.ofChange Rows.fnExactApplyChangeSpec) :=
  OpenClaim.holds_of_wide 3 Try.f3 rfl rfl rfl rfl rfl rfl rfl ⟨rfl, rfl, rfl, rfl, rfl⟩ rfl rfl rfl rfl rfl (by kernel_rfl) Try.func3 (MkF.closed_of (by kernel_rfl) (by kernel_rfl) (by kernel_rfl) (by kernel_rfl) (by kernel_rfl) (by kernel_rfl) (by kernel_rfl) (by kernel_rfl) (by kernel_rfl) (by kernel_rfl) (by kernel_rfl) (by kernel_rfl) (by kernel_rfl) (by kernel_rfl) (by kernel_rfl) (by kernel_rfl) (by kernel_rfl) (by kernel_rfl) (by kernel_rfl) (by kernel_rfl) (by kernel_rfl) (by kernel_rfl) (by kernel_rfl) (by kernel_rfl) (by kernel_rfl) MkF.mk_enter (MkF.lifts_eq MkF.mk_lifts rfl) (MkF.make_eq MkF.mk_make rfl) (by kernel_rfl) (by kernel_rfl) (by kernel_rfl) (by kernel_rfl))
    (of_decide_eq_true (by kernel_rfl)) (by unfold Func.isWrapper; first | (rw [if_pos (by decide +kernel)]; kernel_rfl) | (rw [if_neg (by decide +kernel)]; exact ⟨rfl, rfl⟩))
    (fun os started H enc _ => lifted os started H enc)

/-- ████ THE STATEMENT ████ -/
theorem proved : Rows.FnExactApplyChangeSaid :=
  over
end Go.Proofs.Ytcfcohnkkgickaa.fnExactApplyChange
