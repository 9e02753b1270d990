/-
  The walk over the model's ChangedBlocks.
-/
import Derived.Test.YtmjcfkaiheajaaaRows
import Derived.Test.YtmjcfkaiheajaaaCbPlain
import Derived.Test.YtmjcfkaiheajaaaIntOwn
import Derived.Test.YtmjcfkaiheajaaaEtPlain
import Derived.Test.YtmjcfkaiheajaaaTbFbk
import Derived.Test.YtmjcfkaiheajaaaEbSpec
import Derived.Deep.QuietTactic
import Derived.BigQuiet
import Derived.Deep.RegionHeld3
namespace Go.Proofs.Ytmjcfkaiheajaaa
open Go.RowKit Num

/-- What ChangedBlocks leaves. -/
def IntsPost (L : List Int) (w : World) (e : Ending) (w' : World) : Prop := ∃ v, e = .returned v ∧ OwnI w' w.heap.size v L ∧ Below w.heap.size w w'
def CbPost (l l' : List Blk) : World → Ending → World → Prop := IntsPost (cbL l l' 20)

set_option maxRecDepth 8000 in
set_option maxHeartbeats 6400000 in
theorem spec_cb (ver ver' : Int) (ao bo : Option Addr) (n n' c c' : Nat) (l l' : List Blk) (w : World) (hl : l.length = n) (hl' : l'.length = n') (hn : n ≤ 1048576) (hn' : n' ≤ 1048576)
    (hr : ∀ k, k < n → (Bn l k).rows.length ≤ 1048576) (hr' : ∀ k, k < n' → (Bn l' k).rows.length ≤ 1048576) (hG : BlksVal w ao l) (hH : BlksVal w bo l') :
    Calls Try.prog 33 #[.agg #[.int .i64 ver, .slice ao n c], .agg #[.int .i64 ver', .slice bo n' c']] w (CbPost l l' w) := by
  have HG := Lib.hid hG
  have HH := Lib.hid hH
  have HL := Lib.hid hl
  have HL' := Lib.hid hl'
  have HR := Lib.hid hr
  have HR' := Lib.hid hr'
  clear hG hH hl hl' hr hr'
  have hnI : (n : Int) ≤ 1048576 := by omega
  have hnI' : (n' : Int) ≤ 1048576 := by omega
  go_enter Try.func33, Try.ntmps33
  go_wp2_with fail
  have K0 := ((Kept.start w).alloc2 (.int .i64 ver) (.slice ao n c) 38 _ rfl).alloc2 (.int .i64 ver') (.slice bo n' c') 38 (w.heap.size + 1) (by simp)
  have HI := Lib.hid (KI.lit (B := w.heap.size + 1 + 1) (N := w.heap.size + 1 + 1) K0 (by simp) (Nat.le_refl _))
  go_loopw [5, 6] (fun sv iv wr => ∃ j : Nat, j ≤ 20 ∧ iv = .int .i64 ((j : Int) + 1) ∧ Hid (KI w wr (w.heap.size + 1 + 1) [(⟨w.heap.size + 1, 0, none⟩, .int .i64 ver'), (⟨w.heap.size + 1, 1, none⟩, .slice bo n' c'), (⟨w.heap.size, 0, none⟩, .int .i64 ver), (⟨w.heap.size, 1, none⟩, .slice ao n c)] sv (cbL l l' j))) (fun _ iv _ => 21 - (intOf iv).toNat)
  case atStart => exact ⟨0, Nat.zero_le _, rfl, HI.out⟩
  case round =>
    obtain ⟨j, hj, rfl, HK⟩ := hrel
    clear K0 HI
    have hjI : (j : Int) ≤ 20 := by omega
    have LC := Lib.hid (cbL_len l l' j)
    have a0 := HK.out.1.get 0 rfl
    have a1 := HK.out.1.get 1 rfl
    have a2 := HK.out.1.get 2 rfl
    have a3 := HK.out.1.get 3 rfl
    by_cases hlt : j < 20
    · have hlI : (j : Int) + 1 ≤ 20 := by omega
      go_wp2_with fail
      refine (spec_findB ver ((j : Int) + 1) ao n c l _ HL.out hn (HG.out.below HK.out.1.1)).mono ?_
      rintro e w1 ⟨⟨v1, hv1, rfl⟩, hb⟩
      have HV1 := Lib.hid hv1
      have HK1 := Lib.hid (HK.out.step hb)
      clear hb hv1 a0 a1 a2 a3
      have a0 := HK1.out.1.get 0 rfl
      have a1 := HK1.out.1.get 1 rfl
      have a2 := HK1.out.1.get 2 rfl
      have a3 := HK1.out.1.get 3 rfl
      go_wp2_with fail
      refine (spec_findB ver' ((j : Int) + 1) bo n' c' l' _ HL'.out hn' (HH.out.below HK1.out.1.1)).mono ?_
      rintro e w2 ⟨⟨v2, hv2, rfl⟩, hb⟩
      have HV2 := Lib.hid hv2
      have HK2 := Lib.hid (HK1.out.step hb)
      clear hb hv2 a0 a1 a2 a3 HK1
      have a0 := HK2.out.1.get 0 rfl
      have a1 := HK2.out.1.get 1 rfl
      have a2 := HK2.out.1.get 2 rfl
      have a3 := HK2.out.1.get 3 rfl
      by_cases h1 : v1 < 0
      · have N1 := Lib.hid (blkOf_none HL.out HV1.out h1)
        have d1 : decide (v1 < 0) = true := decide_eq_true h1
        have e1 : decide (0 ≤ v1) = false := decide_eq_false (by omega)
        by_cases h2 : v2 < 0
        · have N2 := Lib.hid (blkOf_none HL'.out HV2.out h2)
          have d2 : decide (v2 < 0) = true := decide_eq_true h2
          have e2 : decide (0 ≤ v2) = false := decide_eq_false (by omega)
          have NX := Lib.hid (cbL_same (n := j) (la := l) (lb := l') (N1.out.trans N2.out.symm))
          go_wp2_with fail
          go_quiet (fail)
          go_wp2
          go_roundw
          case rel => exact ⟨j + 1, by omega, by go_num, by rw [NX.out]; exact HK2.out.step (below_drewN (Below.refl _ _) _)⟩
          case measure => simp [intOf]; omega
        · obtain ⟨k2, hk2, hvk, hbo⟩ := blkOf_some HL'.out HV2.out h2
          have N2 := Lib.hid hbo
          have d2 : decide (v2 < 0) = false := decide_eq_false h2
          have NX := Lib.hid (cbL_diff (n := j) (la := l) (lb := l') (fun h => by rw [N1.out, N2.out] at h; cases h))
          clear hbo hvk
          go_wp2_with fail
          go_quiet (fail)
          go_wp2_with (first | (at_builtin; refine wpList_append_ki (W := w) rfl _ _ rfl (w.heap.size + 1 + 1) u5 _ (cbL l l' j) ((j : Int) + 1) rfl (HK2.out.step (below_drewN (Below.refl _ _) _)) 1 _ rfl rfl ?_ ?_ ?_ ?_; (· have := LC.out; omega); (· omega); (· have h9 := HK2.out.1.lt 0 rfl; simp only at h9; show _ ≤ w2.heap.size; omega); intro v' w6 K6))
          go_wp2
          go_roundw
          case rel => exact ⟨j + 1, by omega, by go_num, by rw [NX.out]; exact K6⟩
          case measure => simp [intOf]; omega
      · obtain ⟨k1, hk1, hvk1, hbo⟩ := blkOf_some HL.out HV1.out h1
        have N1 := Lib.hid hbo
        have d1 : decide (v1 < 0) = false := decide_eq_false h1
        clear hbo
        by_cases h2 : v2 < 0
        · have N2 := Lib.hid (blkOf_none HL'.out HV2.out h2)
          have d2 : decide (v2 < 0) = true := decide_eq_true h2
          have NX := Lib.hid (cbL_diff (n := j) (la := l) (lb := l') (fun h => by rw [N1.out, N2.out] at h; cases h))
          clear hvk1
          go_wp2_with fail
          go_quiet (fail)
          go_wp2_with (first | (at_builtin; refine wpList_append_ki (W := w) rfl _ _ rfl (w.heap.size + 1 + 1) u5 _ (cbL l l' j) ((j : Int) + 1) rfl (HK2.out.step (below_drewN (Below.refl _ _) _)) 1 _ rfl rfl ?_ ?_ ?_ ?_; (· have := LC.out; omega); (· omega); (· have h9 := HK2.out.1.lt 0 rfl; simp only at h9; show _ ≤ w2.heap.size; omega); intro v' w6 K6))
          go_wp2
          go_roundw
          case rel => exact ⟨j + 1, by omega, by go_num, by rw [NX.out]; exact K6⟩
          case measure => simp [intOf]; omega
        · obtain ⟨k2, hk2, hvk2, hbo⟩ := blkOf_some HL'.out HV2.out h2
          have N2 := Lib.hid hbo
          clear hbo HV1 HV2 d1 h1 h2
          subst hvk1 hvk2
          have d1 : decide ((k1 : Int) < 0) = false := decide_eq_false (by omega)
          have d2 : decide ((k2 : Int) < 0) = false := decide_eq_false (by omega)
          have e1 : decide (0 ≤ (k1 : Int)) = true := decide_eq_true (by omega)
          have e2 : decide (0 ≤ (k2 : Int)) = true := decide_eq_true (by omega)
          have i1 : (k1 : Int) < (n : Int) := by omega
          have i2 : (k2 : Int) < (n' : Int) := by omega
          obtain ⟨g, rfl, hg, hGB⟩ := (HG.out.below HK2.out.1.1).head HL.out (by omega)
          obtain ⟨h, rfl, hh, hHB⟩ := (HH.out.below HK2.out.1.1).head HL'.out (by omega)
          obtain ⟨ra, ca, q0, q1, x2⟩ := hGB k1 hk1
          obtain ⟨rb, cb, r0, r1, y2⟩ := hHB k2 hk2
          have A2 := Lib.hid x2
          have B2 := Lib.hid y2
          have hrl := HR.out k1 hk1
          have hrl' := HR'.out k2 hk2
          obtain ⟨x, hx⟩ : ∃ x, x = Bn l k1 := ⟨_, rfl⟩
          obtain ⟨y, hy⟩ : ∃ y, y = Bn l' k2 := ⟨_, rfl⟩
          rw [← hx] at q0 q1 A2 hrl N1
          rw [← hy] at r0 r1 B2 hrl' N2
          have Q := Lib.hid (And.intro a3 (And.intro a1 (And.intro q0 (And.intro q1 (And.intro r0 r1)))))
          clear hGB hHB x2 y2 hx hy
          go_wp2_with fail
          go_region_held3 (fun w' => w'.cell? ⟨w.heap.size, 1, none⟩ = some (.slice (some ⟨g, 0, none⟩) n c) ∧ w'.cell? ⟨w.heap.size + 1, 1, none⟩ = some (.slice (some ⟨h, 0, none⟩) n' c') ∧ w'.cell? ⟨g, k1 * 2, none⟩ = some (.int .i64 x.id) ∧ w'.cell? ⟨g, k1 * 2 + 1, none⟩ = some (.slice ra x.rows.length ca) ∧ w'.cell? ⟨h, k2 * 2, none⟩ = some (.int .i64 y.id) ∧ w'.cell? ⟨h, k2 * 2 + 1, none⟩ = some (.slice rb y.rows.length cb) ∧ Below w2.heap.size w2 w') (first | assumption | exact t6_at Q.out ((Below.refl _ _).drew) | exact t6_keep Q.out (by assumption) (by assumption)) (first | (go_simp; go_at_call 67; (with_reducible refine (spec_ebV x.id y.id ra rb x.rows.length y.rows.length ca cb (Rn x.rows) (Rn y.rows) _ hrl hrl' ?_ ?_).mono ?_); (exact A2.out.below (t6_b (by assumption))); (exact B2.out.below (t6_b (by assumption))); rintro e9 w9 ⟨v, hv, rfl, hb⟩))
          all_goals
            have K3 := Lib.hid (HK2.out.step (t6_b (‹_ ∧ _ ∧ _ ∧ _ ∧ _ ∧ _ ∧ Below w2.heap.size w2 w9›)))
            have HV := Lib.hid hv
            obtain ⟨w5, hw5⟩ : ∃ w5, w5 = w9 := ⟨_, rfl⟩
            clear hv hb Q a0 a1 a2 a3 q0 q1 r0 r1
            subst hw5
            cases v
            · have NX := Lib.hid (cbL_diff (n := j) (la := l) (lb := l') (fun h => by
                rw [N1.out, N2.out] at h
                exact absurd (HV.out.2 ((eqBlk_iff x y).2 (Option.some.inj h))) (by simp)))
              clear HV
              go_wp2_with (first | (at_builtin; refine wpList_append_ki (W := w) rfl _ _ rfl (w.heap.size + 1 + 1) u5 _ (cbL l l' j) ((j : Int) + 1) rfl K3.out 1 _ rfl rfl ?_ ?_ ?_ ?_; (· have := LC.out; omega); (· omega); (· have h9 := (K3.out).1.lt 0 rfl; simp only at h9; omega); intro v' w6 K6))
              go_wp2
              go_roundw
              case rel => exact ⟨j + 1, by omega, by go_num, by rw [NX.out]; exact K6⟩
              case measure => simp [intOf]; omega
            · have NX := Lib.hid (cbL_same (n := j) (la := l) (lb := l') (by rw [N1.out, N2.out, (eqBlk_iff x y).1 (HV.out.1 rfl)]))
              clear HV
              go_wp2
              go_roundw
              case rel => exact ⟨j + 1, by omega, by go_num, by rw [NX.out]; exact K3.out⟩
              case measure => simp [intOf]; omega
    · obtain rfl : j = 20 := by omega
      clear a0 a1 a2 a3
      go_wp2
      go_ret
      exact ⟨_, rfl, HK.out.2.1.mono (by omega), HK.out.1.1⟩
end Go.Proofs.Ytmjcfkaiheajaaa
