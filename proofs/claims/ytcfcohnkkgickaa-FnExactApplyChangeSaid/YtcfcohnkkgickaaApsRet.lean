/-
  The walk over the model's ApplyChange: a retaining change.
-/
import Derived.Test.YtcfcohnkkgickaaRows
import Derived.Test.YtcfcohnkkgickaaMgB
import Derived.Test.YtcfcohnkkgickaaApAll
import Derived.Test.YtcfcohnkkgickaaPfmAll
import Derived.Test.YtcfcohnkkgickaaCpSpec
import Derived.Test.YtcfcohnkkgickaaBkCon
import Derived.Deep.RegionWith
import Derived.Test.YtcfcohnkkgickaaTvSpec
namespace Go.Proofs.Ytcfcohnkkgickaa
open Go.RowKit Num

/-- What the blocks of a slice reach: each block's rows by themselves. -/
theorem elems_rows {w : World} {g : Nat} : ∀ {l : List Blk} {k0 : Nat} {f : List Nat}, Elems blkTy w g k0 l f → f.Nodup → ∃ F : Nat → List Nat, ∀ j, j < l.length → (F j).Nodup ∧ (∀ x ∈ F j, x ∈ f) ∧ (∀ i, i < j → ∀ x ∈ F j, x ∉ F i) ∧ ∃ vb, w.cell? ⟨g, (k0 + j) * 2, none⟩ = some (.int .i64 (Bn l j).id) ∧ w.cell? ⟨g, (k0 + j) * 2 + 1, none⟩ = some vb ∧ SliceRep rowTy w vb (Bn l j).rows (F j)
  | [], _, _, _, _ => ⟨fun _ => [], fun j hj => absurd hj (by simp)⟩
  | x :: l, k0, f, ⟨cs, f1, f2, e, hc, h1, h2⟩, hn => by
    subst e
    obtain ⟨n1, n2, n3⟩ := List.nodup_append.1 hn
    obtain ⟨F, hF⟩ := elems_rows h2 n2
    refine ⟨fun j => match j with | 0 => f1 | j + 1 => F j, fun j hj => ?_⟩
    match j, hj with
    | 0, _ =>
      obtain ⟨vb, rfl, hs⟩ := h1
      exact ⟨n1, fun x hx => List.mem_append_left _ hx, fun i hi => absurd hi (by omega), vb, hc 0 (by simp), hc 1 (by simp), hs⟩
    | j + 1, hj =>
      obtain ⟨a, b, c, d⟩ := hF j (by simpa using hj)
      refine ⟨a, fun x hx => List.mem_append_right _ (b x hx), fun i hi x hx => ?_, ?_⟩
      · match i, hi with
        | 0, _ => exact fun e => n3 x e x (b x hx) rfl
        | i + 1, hi => exact c i (by omega) x hx
      · rw [show k0 + (j + 1) = k0 + 1 + j by omega]
        exact d
theorem blks_rows {w : World} {v : Value} {l : List Blk} {fp : List Nat} (h : SliceRep blkTy w v l fp) (hn : fp.Nodup) : ∃ F : Nat → List Nat, ∀ j, j < l.length → (F j).Nodup ∧ (∀ x ∈ F j, x ∈ fp) ∧ (∀ i, i < j → ∀ x ∈ F j, x ∉ F i) ∧ ∃ g cap ro rc, v = .slice (some ⟨g, 0, none⟩) l.length cap ∧ g < w.heap.size ∧ w.cell? ⟨g, j * 2, none⟩ = some (.int .i64 (Bn l j).id) ∧ w.cell? ⟨g, j * 2 + 1, none⟩ = some (.slice ro (Bn l j).rows.length rc) ∧ SliceRep rowTy w (.slice ro (Bn l j).rows.length rc) (Bn l j).rows (F j) := by
  rcases h with ⟨rfl, e⟩ | ⟨g, cap, f, rfl, hc, ho, he, rfl⟩
  · exact ⟨fun _ => [], fun j hj => absurd hj (by simp)⟩
  · obtain ⟨F, hF⟩ := elems_rows he (List.nodup_cons.1 hn).2
    refine ⟨F, fun j hj => ?_⟩
    obtain ⟨a, b, c, vb, c0, c1, hs⟩ := hF j hj
    obtain ⟨ro, rc, rfl⟩ := hs.val
    rw [Nat.zero_add] at c0 c1
    exact ⟨a, fun x hx => List.mem_cons_of_mem _ (b x hx), c, g, cap, ro, rc, rfl, ho.1, c0, c1, hs⟩
theorem KB.lit {W X : World} {B N : Nat} (h : Kept W X []) (hN : X.heap.size = N) (hB : B ≤ N) : KB W (X.alloc (.cells #[] 80)) B [] (.slice (some ⟨N, 0, none⟩) 0 0) [] [] := by
  refine ⟨h.step ((Below.refl _ _).alloc (Nat.le_refl _) _), ⟨[], ?_, rfl, (fun k hk => by cases hk), List.nodup_nil, fun k hk => by cases hk⟩, fun p hp => by cases hp⟩
  subst hN
  exact World.ownsRow_lit X #[] 0 hB (by decide) rfl
/-- The blocks that a retaining change keeps. -/
def keepL (b : Int) (l : List Blk) : List Blk := l.filter (fun b9 => decide (b ≤ b9.id))
theorem keepL_yes {b : Int} {l : List Blk} {k : Nat} (hk : k < l.length) (h : b ≤ (Bn l k).id) : keepL b (l.take k) ++ [⟨(Bn l k).id, (Bn l k).rows⟩] = keepL b (l.take (k + 1)) := by
  rw [← take_bn hk]; unfold keepL; rw [List.filter_append]; simp [h]
theorem keepL_no {b : Int} {l : List Blk} {k : Nat} (hk : k < l.length) (h : ¬ b ≤ (Bn l k).id) : keepL b (l.take k) = keepL b (l.take (k + 1)) := by
  rw [← take_bn hk]; unfold keepL; rw [List.filter_append]; simp [h]
theorem keepL_len (b : Int) (l : List Blk) : (keepL b l).length ≤ l.length := List.length_filter_le _ _

set_option maxRecDepth 8000 in
set_option maxHeartbeats 6400000 in
theorem spec_aps4 (ver : Int) (b i g y x : Int) (nl : Bool) (ao : Option Addr) (n cap : Nat) (l : List Blk) (w : World) (hl : l.length = n) (hn : n ≤ 1048576) (hr : ∀ k, k < n → (Bn l k).rows.length ≤ 1048576) (hV : BlksVal w ao l) (hS : BlksSrc w ao l) (hG : TblOk ver l l.length ∧ ChOk ⟨4, b, ⟨i, g, y, x, nl⟩⟩ ∧ ver ≠ 99) :
    Calls Try.prog 14 #[.agg #[.int .i64 ver, .slice ao n cap], .agg #[.int .i64 4, .int .i64 b, .int .i64 i, .int .i64 g, .int .i64 y, .int .i64 x, .bool nl]] w (ApcP (applyC ver l ⟨4, b, ⟨i, g, y, x, nl⟩⟩).1 (applyC ver l ⟨4, b, ⟨i, g, y, x, nl⟩⟩).2.1 (applyC ver l ⟨4, b, ⟨i, g, y, x, nl⟩⟩).2.2 w) := by
  have TC := Lib.hid (fun w hS => spec_tcopy ver ao n cap l w hl hn hr hS)
  have TV := Lib.hid (fun w hV => spec_tv ver ao n cap l w hl hn hr hV)
  have IV := Lib.hid (fun w => spec_ivc ⟨4, b, ⟨i, g, y, x, nl⟩⟩ w)
  have BR := Lib.hid (fun w hV => spec_bor ver i ao n cap l w hl hn hr hV)
  have HV := Lib.hid hV
  have HS := Lib.hid hS
  have HL := Lib.hid hl
  have HG := Lib.hid hG
  clear hV hS hl hn hr hG
  go_enter Try.func14, Try.ntmps14
  have K0 := (((Kept.start w).alloc2 (.int .i64 ver) (.slice ao n cap) 32 _ rfl).alloc7 (.int .i64 4) (.int .i64 b) (.int .i64 i) (.int .i64 g) (.int .i64 y) (.int .i64 x) (.bool nl) 38 (w.heap.size + 1) (by simp)).alloc2 (.int .i64 0) (.slice none 0 0) 32 (w.heap.size + 1 + 1) (by simp)
  go_upto_region 1 with fail
  obtain ⟨W0, hW0⟩ : ∃ W0, W0 = (((w.alloc (.cells #[.int .i64 ver, .slice ao n cap] 32)).alloc (.cells #[.int .i64 4, .int .i64 b, .int .i64 i, .int .i64 g, .int .i64 y, .int .i64 x, .bool nl] 38)).alloc (.cells #[.int .i64 0, .slice none 0 0] 32)) := ⟨_, rfl⟩
  rw [← hW0] at K0 ⊢
  clear hW0
  have t0 := K0.get 9 rfl
  have t1 := K0.get 10 rfl
  go_wp2_with fail
  refine (TC.out _ (HS.out.keep K0.1)).mono ?_
  rintro e w1 ⟨v, f, rfl, hO, hb⟩
  obtain ⟨ao', cap', rfl⟩ := hO.shape
  have K1 := K0.step hb
  have HO := Lib.hid hO
  have HW1 := Lib.hid hb
  have HK0 := Lib.hid K0
  clear hb hO t0 t1 K0
  have K2 := K1.alloc2 (.int .i64 ver) (.slice ao' l.length cap') 32 w1.heap.size rfl
  have HO2 := Lib.hid (show Below w1.heap.size w1 (w1.alloc (.cells #[.int .i64 ver, .slice ao' l.length cap'] 32)) from (Below.refl _ _).alloc (Nat.le_refl _) _)
  have q0 := K2.get 11 rfl
  have q1 := K2.get 12 rfl
  go_upto_region 2 with fail
  obtain ⟨w2, hw2⟩ : ∃ w2, w2 = w1.alloc (.cells #[.int .i64 ver, .slice ao' l.length cap'] 32) := ⟨_, rfl⟩
  rw [← hw2] at K2 HO2 q0 q1 ⊢
  clear hw2 K1
  go_wp2_with fail
  refine (TV.out _ (HV.out.below K2.1)).mono ?_
  rintro e w3 ⟨tv, htv, rfl, hb⟩
  have K3 := K2.step hb
  have ETV := Lib.hid htv
  have HO3 := Lib.hid (HO2.out.trans (hb.mono HO2.out.size))
  clear hb htv q0 q1 K2
  obtain rfl : tv = true := ETV.out.2 (by rw [← HL.out]; exact HG.out.1)
  have r0 := K3.get 4 rfl
  have r1 := K3.get 5 rfl
  have r2 := K3.get 6 rfl
  have r3 := K3.get 7 rfl
  have r4 := K3.get 8 rfl
  have r5 := K3.get 9 rfl
  have r6 := K3.get 10 rfl
  go_wp2_with fail
  refine (IV.out _).mono ?_
  rintro e w4 ⟨⟨iv, hiv, rfl⟩, hb⟩
  have K4 := K3.step hb
  have EIV := Lib.hid hiv
  have HO4 := Lib.hid (HO3.out.trans (hb.mono HO3.out.size))
  clear hb hiv r0 r1 r2 r3 r4 r5 r6 K3
  obtain rfl : iv = true := EIV.out.2 HG.out.2.1
  have hvb : (ver == 99) = false := beq_eq_false_iff_ne.2 HG.out.2.2
  have r0 := K4.get 4 rfl
  have r1 := K4.get 5 rfl
  have r2 := K4.get 6 rfl
  have r3 := K4.get 7 rfl
  have r4 := K4.get 8 rfl
  have r5 := K4.get 9 rfl
  have r6 := K4.get 10 rfl
  have q0 := K4.get 11 rfl
  have q1 := K4.get 12 rfl
  go_wp2_with fail
  refine (BR.out _ (HV.out.below K4.1)).mono ?_
  rintro e w5 ⟨⟨vb, hvb9, rfl⟩, hb⟩
  have K5 := K4.step hb
  have HO5 := Lib.hid (HO4.out.trans (hb.mono HO4.out.size))
  have EB := Lib.hid (firstAns_idx (p := fun b : Blk => HasRow b.rows i) (l := l) (by rw [HL.out]; exact hvb9))
  have hv1 : -1 ≤ vb ∧ vb < 6 := by
    have h6 := HG.out.1.2.1
    have h7 := HL.out
    rcases hvb9 with ⟨k, hk, _, _, rfl⟩ | ⟨_, rfl⟩ <;> omega
  obtain ⟨hv1, hv2⟩ := hv1
  clear hb hvb9 r0 r1 r2 r3 r4 r5 r6 q0 q1 K4 hvb
  obtain ⟨fpy, hsy, hfy, hny⟩ := HO.out.rep
  have HFY := Lib.hid (show ∀ j ∈ fpy, W0.heap.size ≤ j ∧ j < w1.heap.size from fun j hj => ⟨hfy j hj, hsy.lt j hj⟩)
  obtain ⟨F, hF⟩ := blks_rows (hsy.step HO5.out) hny
  have HFF := Lib.hid hF
  have HBW := Lib.hid (show Below W0.heap.size W0 w5 from HW1.out.trans (HO5.out.mono HW1.out.size))
  have HYL := Lib.hid (show w1.heap.size < w5.heap.size from K5.lt 0 rfl)
  have HSC := Lib.hid (show W0.heap.size ≤ w1.heap.size from HW1.out.size)
  have AN := Lib.hid (show applyC ver l ⟨4, b, ⟨i, g, y, x, nl⟩⟩ = (ver + 1, keepL b l, 0) from applyC_4 HG.out rfl)
  have hl6 : l.length ≤ 6 := HG.out.1.2.1
  have hlI : (l.length : Int) ≤ 6 := by omega
  have HK5 := Lib.hid K5
  have HSt := Lib.hid (KB.lit (W := W0) (B := W0.heap.size) (N := w5.heap.size) (⟨HBW.out, fun p hp => by cases hp⟩ : Kept W0 w5 []) rfl (Nat.le_trans HSC.out (Nat.le_of_lt HYL.out)))
  have HSb := Lib.hid (show Below w5.heap.size w5 (w5.alloc (.cells #[] 80)) from (Below.refl _ _).alloc (Nat.le_refl _) _)
  have r0 := K5.get 4 rfl
  clear hsy hfy hny hF K5
  go_wp2_with fail
  go_loopw [9, 10] (fun sv iv wr => ∃ (k : Nat) (f' : List Nat), iv = .int .i64 (k : Int) ∧ k ≤ l.length ∧ Hid (KB W0 wr W0.heap.size [] sv (keepL b (l.take k)) f') ∧ Hid (Below w5.heap.size w5 wr) ∧ Hid (∀ x ∈ f', ∃ j, j < k ∧ x ∈ F j) ∧ Hid (∀ q, sv.ownBlock = some q → w5.heap.size ≤ q)) (fun _ iv _ => l.length - (intOf iv).toNat)
  case atStart => exact ⟨0, [], rfl, Nat.zero_le _, HSt.out, HSb.out, (fun x hx => by cases hx), fun q e => by simp only [Value.ownBlock, Option.some.injEq] at e; omega⟩
  case round =>
    obtain ⟨k, f', rfl, hk, HK, HB5, HFP, HOW⟩ := hrel
    clear HSt HSb r0
    have K9 := HK5.out.step HB5.out
    have y1 := K9.get 1 rfl
    have c9 := K9.get 5 rfl
    have hkI : (k : Int) ≤ 6 := by omega
    by_cases hlt : k < l.length
    · have hltI : (k : Int) < (l.length : Int) := by omega
      obtain ⟨hfn, hfm, hfd, gy, capy, ro, rc, hvy, hgy, d0, d1, hsr⟩ := HFF.out k hlt
      simp only [Value.slice.injEq, true_and] at hvy
      obtain ⟨rfl, rfl⟩ := hvy
      have D0 := (HB5.out.cell (p := ⟨gy, k * 2, none⟩) hgy).trans d0
      have D1 := (HB5.out.cell (p := ⟨gy, k * 2 + 1, none⟩) hgy).trans d1
      have HSR := Lib.hid (hsr.step HB5.out)
      obtain ⟨id, hid⟩ : ∃ id, id = (Bn l k).id := ⟨_, rfl⟩
      obtain ⟨rl, hrl⟩ : ∃ rl, rl = (Bn l k).rows := ⟨_, rfl⟩
      rw [← hid] at D0
      rw [← hrl] at D1 HSR
      have HID := Lib.hid hid
      have HRL := Lib.hid hrl
      have HFN := Lib.hid hfn
      have HFM := Lib.hid hfm
      have HFD := Lib.hid hfd
      have HGY := Lib.hid hgy
      have HD0 := Lib.hid d0
      have HD1' := Lib.hid d1
      clear hfn hfm hfd d0 d1 hsr hid hrl K9 hgy
      go_upto_region 11 with fail
      go_quiet (fail)
      obtain ⟨w2, hw2⟩ : ∃ w2, w2 = wr.drewN nq := ⟨_, rfl⟩
      have HBQ := Lib.hid (show Below wr.heap.size wr w2 by rw [hw2]; exact below_drewN (Below.refl _ _) _)
      rw [← hw2]
      clear hw2 y1 c9 D0 D1
      have HK := Lib.hid (HK.out.step HBQ.out)
      have HSR := Lib.hid (HSR.out.step HBQ.out)
      have HB5 := Lib.hid (HB5.out.trans (HBQ.out.mono HB5.out.size))
      have y1 := (HK5.out.step HB5.out).get 1 rfl
      have D0 := (HB5.out.cell (p := ⟨gy, k * 2, none⟩) HGY.out).trans HD0.out
      have D1 := (HB5.out.cell (p := ⟨gy, k * 2 + 1, none⟩) HGY.out).trans HD1'.out
      rw [← HID.out] at D0
      rw [← HRL.out] at D1
      by_cases hge : b ≤ id
      · have hgd : decide (b ≤ id) = true := decide_eq_true hge
        have hgg : decide (id ≥ b) = true := decide_eq_true hge
        have KA := (Kept.start w2).alloc2 (.int .i64 id) (.slice ro rl.length rc) 80 _ rfl
        have N0 := Lib.hid (KA.get 0 rfl)
        have N1 := Lib.hid (KA.get 1 rfl)
        have HA := Lib.hid (show Below w2.heap.size w2 (w2.alloc (.cells #[.int .i64 id, .slice ro rl.length rc] 80)) from (Below.refl _ _).alloc (Nat.le_refl _) _)
        have KBB := Lib.hid (HK.out.step HA.out)
        have HS2 := Lib.hid (HSR.out.step HA.out)
        have HD1 := Lib.hid (show ∀ j ∈ F k, j ∉ f' from fun j hj e => by obtain ⟨i9, hi9, hx9⟩ := HFP.out j e; exact HFD.out i9 hi9 j hj hx9)
        have HD2 := Lib.hid (show ∀ j ∈ F k, u9.ownBlock ≠ some j from fun j hj e => by have h1 := HOW.out j e; have h2 := (HFY.out j (HFM.out j hj)).2; have h3 := HYL.out; omega)
        have HD3 := Lib.hid (show ∀ j ∈ F k, W0.heap.size ≤ j from fun j hj => (HFY.out j (HFM.out j hj)).1)
        have HLN := Lib.hid (show ((keepL b (l.take k)).length + 1) * 32 ≤ 140737488355328 by have h1 := keepL_len b (l.take k); rw [List.length_take] at h1; omega)
        have HWS := Lib.hid (show W0.heap.size ≤ (w2.alloc (.cells #[.int .i64 id, .slice ro rl.length rc] 80)).heap.size by have h1 := HB5.out.size; have h2 := HA.out.size; have h3 := HSC.out; have h4 := HYL.out; omega)
        clear KA
        go_wp2_with (first | (at_builtin; refine wpList_append_kbG (W := W0) rfl _ _ rfl W0.heap.size u9 [] (keepL b (l.take k)) f' ⟨id, rl⟩ ro rl.length rc (F k) w2.heap.size 1 rfl rfl KBB.out N0.out N1.out HS2.out HD3.out HFN.out HD1.out HD2.out (fun p hp => by cases hp) HLN.out (Nat.le_refl _) HWS.out ?_; intro v' w6 KB6 hob hgr; have HK6 := Lib.hid KB6; have HOB := Lib.hid hob; have HGR := Lib.hid hgr; clear KB6 hob hgr))
        have HB6 := Lib.hid (show Below w5.heap.size w5 w6 from (kept_grown (l := []) ⟨HB5.out.trans (HA.out.mono HB5.out.size), fun p hp => by cases hp⟩ HGR.out (fun q e => HOW.out q e) (fun p hp => by cases hp)).1)
        have HK7 := Lib.hid (show KB W0 w6 W0.heap.size [] v' (keepL b (l.take (k + 1))) (f' ++ F k) by rw [← keepL_yes hlt (by rw [← HID.out]; exact hge), ← HID.out, ← HRL.out]; exact HK6.out)
        have HF6 := Lib.hid (show ∀ x ∈ f' ++ F k, ∃ j, j < k + 1 ∧ x ∈ F j from fun x hx => by
          rcases List.mem_append.1 hx with h | h
          · obtain ⟨j, hj, hx⟩ := HFP.out x h
            exact ⟨j, by omega, hx⟩
          · exact ⟨k, by omega, h⟩)
        have HO6 := Lib.hid (show ∀ q, v'.ownBlock = some q → w5.heap.size ≤ q from fun q e => by
          rcases HOB.out with h | h
          · exact HOW.out q (by rw [← h]; exact e)
          · rw [h] at e
            simp only [Option.some.injEq] at e
            have h1 := HA.out.size
            have h2 := HB5.out.size
            omega)
        clear HK6 HOB HGR KBB HS2 HD1 HD2 HD3 N0 N1 HA HLN HWS
        go_wp2
        go_roundw
        case rel => exact ⟨k + 1, _, int_eq (by omega), by omega, HK7, HB6, HF6, HO6⟩
        case measure => simp [intOf]; omega
      · have hgd : decide (b ≤ id) = false := decide_eq_false hge
        have hgg : decide (id ≥ b) = false := decide_eq_false hge
        have HK7 := Lib.hid (show KB W0 w2 W0.heap.size [] u9 (keepL b (l.take (k + 1))) f' by rw [← keepL_no hlt (by rw [← HID.out]; exact hge)]; exact HK.out)
        have HF6 := Lib.hid (show ∀ x ∈ f', ∃ j, j < k + 1 ∧ x ∈ F j from fun x hx => by obtain ⟨j, hj, hx⟩ := HFP.out x hx; exact ⟨j, by omega, hx⟩)
        go_wp2
        go_roundw
        case rel => exact ⟨k + 1, f', int_eq (by omega), by omega, HK7, HB5, HF6, HOW⟩
        case measure => simp [intOf]; omega
    · obtain rfl : k = l.length := by omega
      have hown := HK.out
      rw [List.take_length] at hown
      obtain ⟨ao9, cc9, rfl⟩ := hown.2.1.shape
      obtain ⟨L, hL⟩ : ∃ L, L = keepL b l := ⟨_, rfl⟩
      rw [← hL] at hown AN ⊢
      have KQ := K9.sub (l' := [(⟨w1.heap.size, 0, none⟩, .int .i64 ver), (⟨w1.heap.size, 1, none⟩, .slice ao' l.length cap')]) (by intro p9 hp9; simp only [List.mem_cons, List.not_mem_nil, or_false] at hp9; rcases hp9 with rfl | rfl <;> simp)
      have hkb : KB W0 wr W0.heap.size [(⟨w1.heap.size, 0, none⟩, .int .i64 ver), (⟨w1.heap.size, 1, none⟩, .slice ao' l.length cap')] (.slice ao9 L.length cc9) L f' := ⟨⟨HBW.out.trans (HB5.out.mono HBW.out.size), KQ.2⟩, hown.2.1, fun p hp => by
        have e9 : p.1.block = w1.heap.size := by simp only [List.mem_cons, List.not_mem_nil, or_false] at hp; rcases hp with rfl | rfl <;> rfl
        rw [e9]
        refine ⟨fun e => by have h1 := HOW.out _ (by rw [hL] at e; exact e); have h2 := HYL.out; omega, fun e => ?_⟩
        obtain ⟨j, hj, hx⟩ := HFP.out _ e
        have h1 := (HFY.out _ ((HFF.out j hj).2.1 _ hx)).2
        omega⟩
      obtain ⟨fp6, hTB6, hf6, _, _⟩ := hkb.boxSetL (bp := w1.heap.size) (ver := ver) (u := .slice ao' l.length cap') (by simp) (by simp)
      have HTB := Lib.hid hTB6
      have HF7 := Lib.hid (show ∀ k ∈ fp6, W0.heap.size ≤ k from fun k hk => (hf6 k hk).1)
      have HB7 := Lib.hid ((HBW.out.trans (HB5.out.mono HBW.out.size)).setCell (show W0.heap.size ≤ (⟨w1.heap.size, 1, none⟩ : Addr).block from HSC.out) (.slice ao9 L.length cc9))
      have z1 := K9.fz 1 rfl
      clear hown hkb hTB6 hf6 KQ K9 HL hL
      go_upto_region 24 with fail
      obtain ⟨w7, hw7⟩ : ∃ w7, w7 = wr.setCell ⟨w1.heap.size, 1, none⟩ (.slice ao9 L.length cc9) := ⟨_, rfl⟩
      rw [← hw7] at HTB HB7 ⊢
      clear hw7 y1 c9 z1
      have K6 := HK0.out.step HB7.out
      have c0 := HTB.out.2.1
      have z0 := HTB.out.2.2.1
      have c1 := HTB.out.2.2.2.1
      have a0 := K6.get 0 rfl
      have a1 := K6.get 1 rfl
      have g0 := K6.fz 0 rfl
      have g1 := K6.fz 1 rfl
      have v9 := K6.get 9 rfl
      have hver : -1000 ≤ ver ∧ ver ≤ 1000 := by have := HG.out.1.1; omega
      obtain ⟨hve1, hve2⟩ := hver
      have HRL := Lib.hid (show w.heap.size + 1 + 1 < W0.heap.size from HK0.out.lt 0 rfl)
      have HBP := Lib.hid (show W0.heap.size ≤ w1.heap.size from HW1.out.size)
      have y6 := K6.lt 0 rfl
      have K7 := ((K6.cons (a := ⟨w1.heap.size, 0, none⟩) HTB.out.1 c0 z0).set (p := []) (.int .i64 (ver + 1)) (Nat.le_trans (by have := HRL.out; omega) HBP.out) (by
        intro c hc e
        have e2 := congrArg Addr.block e
        have h3 := HRL.out
        have h4 := HBP.out
        simp only [List.nil_append, List.mem_cons, List.not_mem_nil, or_false] at hc
        rcases hc with rfl | rfl | rfl | rfl | rfl | rfl | rfl | rfl | rfl | rfl | rfl <;> (simp only at e2; omega))).sub (l' := [(⟨w.heap.size + 1 + 1, 0, none⟩, .int .i64 0), (⟨w.heap.size + 1 + 1, 1, none⟩, .slice none 0 0)]) (by intro p9 hp9; simp only [List.mem_cons, List.not_mem_nil, or_false] at hp9; rcases hp9 with rfl | rfl <;> simp)
      have K8 := K7.set2 (.int .i64 (ver + 1)) (.slice ao9 L.length cc9) (by omega) (by simp)
      have m0 := K8.get 0 rfl
      have m1 := K8.get 1 rfl
      have n0 := K7.get 0 rfl
      have n1 := K7.get 1 rfl
      have o0 := K7.fz 0 rfl
      have o1 := K7.fz 1 rfl
      have HB8 := Lib.hid K8.1
      have S8 := Lib.hid (((HTB.out.2.2.2.2.2.1.set ⟨w1.heap.size, 0, none⟩ (.int .i64 (ver + 1)) (fun k hk e => HTB.out.2.2.2.2.2.2.2 (by have e' : k = w1.heap.size := e; rw [← e']; exact hk))).set ⟨w.heap.size + 1 + 1, 0, none⟩ (.int .i64 (ver + 1)) (fun k hk e => by have h1 := HF7.out k hk; have h2 := HRL.out; have e' : k = w.heap.size + 1 + 1 := e; omega)).set ⟨w.heap.size + 1 + 1, 1, none⟩ (.slice ao9 L.length cc9) (fun k hk e => by have h1 := HF7.out k hk; have h2 := HRL.out; have e' : k = w.heap.size + 1 + 1 := e; omega))
      have HF8 := Lib.hid (show ∀ k ∈ fp6, w.heap.size ≤ k from fun k hk => by have h1 := HF7.out k hk; have h2 := HRL.out; omega)
      clear K7 K8 K6
      go_wp2
      exact bodyPost_ret (v := .tuple #[.agg #[.int .i64 (ver + 1), .slice ao9 L.length cc9], .int .i64 0]) (by simp [results, Try.results14, go_sem, m0, m1, y6]) rfl ⟨.slice ao9 L.length cc9, fp6, by rw [AN.out], by rw [AN.out]; exact S8.out, HTB.out.2.2.2.2.2.2.1, HF8.out, HB8.out⟩
end Go.Proofs.Ytcfcohnkkgickaa
