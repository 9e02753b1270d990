/-
  The walk over the model's l7Append: the block is found and has room.
-/
import Derived.Test.YtcfcohnkkgickaaRows
import Derived.Test.YtcfcohnkkgickaaApfSpec
import Derived.Test.YtcfcohnkkgickaaMgB
namespace Go.Proofs.Ytcfcohnkkgickaa
open Go.RowKit Num

theorem add_fits {ver : Int} {l : List Blk} (hT : TblOk ver l l.length) {k : Nat} (hk : k < l.length) {b : Int} {r : Rw} (hr : r.ok = true) (hA : ¬ iRow l r.i < l.length) (h6 : (Bn l k).rows.length < 6) : addOk (Bn l k).id (Bn l k).rows r = true :=
  (addOk_iff (tbl_blk hT hk)).2 ⟨hr, h6, fun j hj e => hA (by
    have hh : HasRow l[k].rows r.i := by rw [show l[k] = Bn l k from (Bn_at hk).symm]; exact ⟨j, hj, e⟩
    unfold iRow fIdx
    exact List.findIdx_lt_length_of_exists ⟨l[k], List.getElem_mem hk, @decide_eq_true _ (Classical.propDecidable _) hh⟩)⟩
theorem set2_other {w : World} {g o : Nat} {u v : Value} {a : Addr} (h : a.block ≠ g) : ((w.setCell ⟨g, o, none⟩ u).setCell ⟨g, o + 1, none⟩ v).cell? a = w.cell? a := by
  rw [World.cell?_setCell_other (w := w.setCell ⟨g, o, none⟩ u) (a := ⟨g, o + 1, none⟩) (b := a) (v := v) (fun e => h (by rw [← e])), World.cell?_setCell_other (w := w) (a := ⟨g, o, none⟩) (b := a) (v := u) (fun e => h (by rw [← e]))]

set_option maxRecDepth 8000 in
set_option maxHeartbeats 6400000 in
/-- The block is found and has room. -/
theorem spec_app_room (ver : Int) (ao : Option Addr) (n cap : Nat) (l : List Blk) (b i g y x : Int) (nl : Bool) (f : List Nat) (W w : World) (hn : l.length = n) (hT : TblOk ver l l.length) (hC : ChOk ⟨1, b, ⟨i, g, y, x, nl⟩⟩) (hW : Below W.heap.size W w) (hO : OwnB w W.heap.size (.slice ao n cap) l f) (hA : ¬ iRow l i < l.length) {k : Nat} (ek : iBlk l b = k) (hk : k < l.length) (h6 : (Bn l k).rows.length < 6) :
    Calls Try.prog 79 #[.agg #[.int .i64 ver, .slice ao n cap], .agg #[.int .i64 1, .int .i64 b, .int .i64 i, .int .i64 g, .int .i64 y, .int .i64 x, .bool nl]] w (AppPost ver l b ⟨i, g, y, x, nl⟩ (ownF (.slice ao n cap) f) w) := by
  have hn6 : l.length ≤ 6 := hT.2.1
  have AN := Lib.hid (show appC l b ⟨i, g, y, x, nl⟩ = (l.set k ⟨b, addL (Bn l k).rows ⟨i, g, y, x, nl⟩⟩, 0) by unfold appC; rw [if_neg hA, ek, if_pos hk, if_pos h6])
  obtain ⟨fp, hS, hnd, hF⟩ := ownB_F hO
  have HFW := Lib.hid (show ∀ j ∈ fp, W.heap.size ≤ j from fun j hj => (ownF_lt hO j (hF j hj)).1)
  have HF := Lib.hid hF
  obtain ⟨ao', cap', e9, hcap, hV⟩ := blks_open hS
  simp only [Value.slice.injEq] at e9
  obtain ⟨rfl, h9, rfl⟩ := e9
  clear h9
  obtain ⟨gt, ro, rcap, fk, rfl, hgt, d0, d1, hs9⟩ := slice_blkAt hS hnd hk
  have hr := bn_rows hT
  have HGM := Lib.hid (show gt ∈ fp from by
    obtain ⟨g5, cap5, vb5, fa5, fk5, fb5, e5, e6, _⟩ := blk_open hS hnd hk
    simp only [Value.slice.injEq, Option.some.injEq, Addr.mk.injEq, and_true] at e5
    rw [e6, e5.1]; simp)
  have HV := Lib.hid hV
  have HW := Lib.hid hW
  have HC := Lib.hid (hC.one rfl)
  have HS := Lib.hid hS
  have HND := Lib.hid hnd
  have HA := Lib.hid hA
  have HK := Lib.hid ek
  have hkl := Lib.hid hk
  have BR := Lib.hid (fun w hV => spec_bor ver i (some ⟨gt, 0, none⟩) n cap l w hn (by omega) (fun k hk => by have := hr k (by omega); omega) hV)
  have FB := Lib.hid (fun w hV => spec_findB ver b (some ⟨gt, 0, none⟩) n cap l w hn (by omega) hV)
  have HEQ := Lib.hid (show (Bn l k).id = b from by have h := fIdx_at (p := fun c : Blk => c.id = b) (l := l) (by have := ek; unfold iBlk at this; rw [this]; exact hk); have e := ek; unfold iBlk at e; simp only [e] at h; rw [Bn_at hk]; exact h)
  have OKF := Lib.hid (add_fits (b := b) hT hk (hC.one rfl).2 hA h6)
  have ADD := Lib.hid (show addAns (Bn l k).id (Bn l k).rows ⟨i, g, y, x, nl⟩ = addL (Bn l k).rows ⟨i, g, y, x, nl⟩ by unfold addAns; rw [if_pos OKF.out])
  have AD := Lib.hid (fun w1 hs => spec_addV (Bn l k).id (.slice ro (Bn l k).rows.length rcap) (Bn l k).rows fk ⟨i, g, y, x, nl⟩ w1 (by have := hr k hk; omega) hs)
  rw [OKF.out] at AD
  have hnI : (n : Int) ≤ 6 := by omega
  have hkI : (k : Int) < (n : Int) := by omega
  have HN := Lib.hid hn
  have HS9 := Lib.hid hs9
  have D0 := Lib.hid d0
  have D1 := Lib.hid d1
  obtain ⟨bid, hbid⟩ : ∃ bid, bid = (Bn l k).id := ⟨_, rfl⟩
  obtain ⟨rl, hrl⟩ : ∃ rl, rl = (Bn l k).rows := ⟨_, rfl⟩
  rw [ADD.out] at AD
  rw [← hbid] at AD D0 HEQ
  rw [← hrl] at AD D1 HS9 AN
  clear ADD OKF hV hO hT hC hS hF hr hn hA hW hnd ek hk h6 hs9 d0 d1 hbid hrl
  go_enter Try.func79, Try.ntmps79
  have K0 := (((Kept.start w).alloc2 (.int .i64 ver) (.slice (some ⟨gt, 0, none⟩) n cap) 32 _ rfl).alloc7 (.int .i64 1) (.int .i64 b) (.int .i64 i) (.int .i64 g) (.int .i64 y) (.int .i64 x) (.bool nl) 38 (w.heap.size + 1) (by simp)).alloc2 (.int .i64 0) (.slice none 0 0) 32 (w.heap.size + 1 + 1) (by simp)
  go_wp2_with fail
  refine (BR.out _ (HV.out.below K0.1)).mono ?_
  rintro e w1 ⟨⟨vb, hvb, rfl⟩, hb⟩
  have K1 := K0.step hb
  have EB := Lib.hid (firstAns_idx (p := fun b : Blk => HasRow b.rows i) (l := l) (by rw [HN.out]; exact hvb))
  have hv1 : -1 ≤ vb ∧ vb < 6 := by rcases hvb with ⟨k, hk, _, _, rfl⟩ | ⟨_, rfl⟩ <;> omega
  obtain ⟨hv1, hv2⟩ := hv1
  clear hb hvb K0
  have hd := not_row EB.out HA.out
  have t0 := K1.get 9 rfl
  have t1 := K1.get 10 rfl
  have r1 := K1.get 3 rfl
  go_wp2_with fail
  refine (FB.out _ (HV.out.below K1.1)).mono ?_
  rintro e w2 ⟨⟨vf, hvf, rfl⟩, hb⟩
  have K2 := K1.step hb
  have EF := firstAns_idx (p := fun c : Blk => c.id = b) (l := l) (by rw [HN.out]; exact hvf)
  obtain ⟨hd0, rfl⟩ := is_blk EF HK.out hkl.out
  clear hb hvf K1 t0 t1 r1 EF hd
  have t1 := K2.get 10 rfl
  have d0 := (K2.1.cell (p := ⟨gt, k * 2, none⟩) hgt).trans D0.out
  have d1 := (K2.1.cell (p := ⟨gt, k * 2 + 1, none⟩) hgt).trans D1.out
  have r2 := K2.get 4 rfl
  have r3 := K2.get 5 rfl
  have r4 := K2.get 6 rfl
  have r5 := K2.get 7 rfl
  have r6 := K2.get 8 rfl
  have HS2 := Lib.hid (HS9.out.step K2.1)
  have KA2 := K2.alloc2 (.int .i64 0) (.slice none 0 0) 80 _ rfl
  have t1' := KA2.get 12 rfl
  have hb2 := (Below.refl w2.heap.size w2).alloc (Nat.le_refl _) (.cells #[.int .i64 0, .slice none 0 0] 80)
  have d0' := (hb2.cell (p := ⟨gt, k * 2, none⟩) (Nat.lt_of_lt_of_le hgt K2.1.size)).trans d0
  have d1' := (hb2.cell (p := ⟨gt, k * 2 + 1, none⟩) (Nat.lt_of_lt_of_le hgt K2.1.size)).trans d1
  have r2' := KA2.get 6 rfl
  have r3' := KA2.get 7 rfl
  have r4' := KA2.get 8 rfl
  have r5' := KA2.get 9 rfl
  have r6' := KA2.get 10 rfl
  clear KA2 hb2
  go_upto_region 5 with fail
  go_region_with (go_at_call 129; (with_reducible refine (AD.out _ ?_).mono ?_); (first | exact HS2.out.step (Below.refl _ _).drew | exact HS2.out.step (((Below.refl _ _).alloc (Nat.le_refl _) _).drew)); rintro e9 w9 ⟨v9, fp9, rfl, hs9, hf9, hn9, hb⟩; have hb9 : Below w2.heap.size w2 w9 := (by first | exact below_via hb (Below.refl w2.heap.size w2).drew | exact below_via hb (((Below.refl w2.heap.size w2).alloc (Nat.le_refl _) _).drew)); have HB9 := Lib.hid hb9; obtain ⟨ao9, c9, rfl⟩ := hs9.val; (try have z0 := ((K2.alloc2 (.int .i64 0) (.slice none 0 0) 80 _ rfl).drew.step hb).get 0 rfl); (try have z1 := ((K2.alloc2 (.int .i64 0) (.slice none 0 0) 80 _ rfl).drew.step hb).get 1 rfl); (try have y0 := ((K2.alloc2 (.int .i64 0) (.slice none 0 0) 80 _ rfl).drew.step hb).fz 0 rfl); (try have y1 := ((K2.alloc2 (.int .i64 0) (.slice none 0 0) 80 _ rfl).drew.step hb).fz 1 rfl); have HR9 := Lib.hid hs9; have HF9 := Lib.hid hf9; have HN9 := Lib.hid hn9; clear hb hb9 hs9 hf9 hn9)
  all_goals
    first
    | (obtain ⟨bx, hbx⟩ : ∃ bx, bx = w9.heap.size := ⟨_, rfl⟩
       obtain ⟨w3, hw3⟩ : ∃ w3, w3 = w9.alloc (.cells #[.int .i64 bid, .slice ao9 (addL rl ⟨i, g, y, x, nl⟩).length c9] 80) := ⟨_, rfl⟩
       rw [← hw3]
       rw [← hbx]
       have HK3 := Lib.hid (K2.step (by rw [hw3]; exact HB9.out.alloc HB9.out.size _ : Below w2.heap.size w2 w3))
       have B0 : w3.cell? ⟨bx, 0, none⟩ = some (.int .i64 bid) := by rw [hw3, hbx]; simp
       have B1 : w3.cell? ⟨bx, 1, none⟩ = some (.slice ao9 (addL rl ⟨i, g, y, x, nl⟩).length c9) := by rw [hw3, hbx]; simp
       have HR3 := Lib.hid (show SliceRep rowTy w3 (.slice ao9 (addL rl ⟨i, g, y, x, nl⟩).length c9) (addL rl ⟨i, g, y, x, nl⟩) fp9 by rw [hw3]; exact HR9.out.step ((Below.refl _ _).alloc (Nat.le_refl _) _))
       have HG3 := Lib.hid (show ∀ j ∈ fp9, w2.heap.size ≤ j from fun j hj => by have h := HF9.out j hj; simp only [World.size_drew, World.size_alloc] at h; omega))
    | (obtain ⟨bx, hbx⟩ : ∃ bx, bx = w2.heap.size := ⟨_, rfl⟩
       obtain ⟨w3, hw3⟩ : ∃ w3, w3 = (w9.setCell ⟨w2.heap.size, 0, none⟩ (.int .i64 bid)).setCell ⟨w2.heap.size, 1, none⟩ (.slice ao9 (addL rl ⟨i, g, y, x, nl⟩).length c9) := ⟨_, rfl⟩
       rw [← hw3]
       rw [← hbx]
       have HK3 := Lib.hid (K2.step (by rw [hw3]; exact (HB9.out.setCell (show w2.heap.size ≤ (⟨w2.heap.size, 0, none⟩ : Addr).block from Nat.le_refl _) _).setCell (show w2.heap.size ≤ (⟨w2.heap.size, 1, none⟩ : Addr).block from Nat.le_refl _) _ : Below w2.heap.size w2 w3))
       have B0 : w3.cell? ⟨bx, 0, none⟩ = some (.int .i64 bid) := by rw [hw3, hbx, set_other (by omega)]; exact set_same ⟨_, z0⟩
       have B1 : w3.cell? ⟨bx, 1, none⟩ = some (.slice ao9 (addL rl ⟨i, g, y, x, nl⟩).length c9) := by rw [hw3, hbx]; exact set_same ⟨.slice none 0 0, by rw [set_other (by omega)]; exact z1⟩
       have HG3 := Lib.hid (show ∀ j ∈ fp9, w2.heap.size < j from fun j hj => by have h := HF9.out j hj; simp only [World.size_drew, World.size_alloc] at h; omega)
       have HR3 := Lib.hid (show SliceRep rowTy w3 (.slice ao9 (addL rl ⟨i, g, y, x, nl⟩).length c9) (addL rl ⟨i, g, y, x, nl⟩) fp9 by rw [hw3]; exact (HR9.out.set _ _ (fun j hj e => by have h := HG3.out j hj; have e' : j = w2.heap.size := e; omega)).set _ _ (fun j hj e => by have h := HG3.out j hj; have e' : j = w2.heap.size := e; omega)))
    clear t1 d0 d1 r2 r3 r4 r5 r6 t1' d0' d1' r2' r3' r4' r5' r6' hw3 hbx
    try clear z0
    try clear z1
    try clear y0
    try clear y1
    have t0 := HK3.out.get 9 rfl
    have t1 := HK3.out.get 10 rfl
    have q0 := HK3.out.fz 0 rfl
    have q1 := HK3.out.fz 1 rfl
    have r0 := HK3.out.get 0 rfl
    have r1 := HK3.out.get 1 rfl
    have yy := HK3.out.lt 0 rfl
    have HLT := Lib.hid HS.out.lt
    have HG4 := Lib.hid (show ∀ j ∈ fp9, w2.heap.size ≤ j from fun j hj => by have h := HG3.out j hj; omega)
    have HSZ := Lib.hid (show w.heap.size + 1 + 1 < w2.heap.size from K2.lt 0 rfl)
    have TB : TblBox w3 w.heap.size ver (.slice (some ⟨gt, 0, none⟩) n cap) l fp := ⟨HK3.out.lt 9 rfl, t0, HK3.out.fz 9 rfl, t1, HK3.out.fz 10 rfl, HS.out.step HK3.out.1, HND.out, fun e => by have := HLT.out _ e; omega⟩
    obtain ⟨g2, cap2, fp2, hv2, ⟨⟨u0, p0⟩, z0, ⟨u1, p1⟩, z1⟩, hTB, hfx, hCH⟩ := TB.putB hkl.out bid HR3.out HN9.out (fun j hj e => by
      have h1 := HG4.out j hj
      have h2 := HSZ.out
      rcases List.mem_cons.1 e with e | e
      · omega
      · have h3 := HLT.out j e; omega)
    simp only [Value.slice.injEq, Option.some.injEq, Addr.mk.injEq, and_true] at hv2
    obtain ⟨rfl, hz2, rfl⟩ := hv2
    clear hz2
    have c2 := hTB.2.1
    have c3 := hTB.2.2.2.1
    have HTB := Lib.hid hTB
    have HFX := Lib.hid hfx
    have e0 : ((w3.setCell ⟨gt, k * 2, none⟩ (.int .i64 bid)).setCell ⟨gt, k * 2 + 1, none⟩ (.slice ao9 (addL rl ⟨i, g, y, x, nl⟩).length c9)).cell? ⟨w.heap.size + 1 + 1, 0, none⟩ = some (.int .i64 0) := (set2_other (by simp only; omega)).trans r0
    have e1 : ((w3.setCell ⟨gt, k * 2, none⟩ (.int .i64 bid)).setCell ⟨gt, k * 2 + 1, none⟩ (.slice ao9 (addL rl ⟨i, g, y, x, nl⟩).length c9)).cell? ⟨w.heap.size + 1 + 1, 1, none⟩ = some (.slice none 0 0) := (set2_other (by simp only; omega)).trans r1
    have HCW := Lib.hid (((Chg.of (fp := (w.heap.size + 1 + 1) :: ownF (.slice (some ⟨gt, 0, none⟩) n cap) f) HK3.out.1).set (a := ⟨gt, k * 2, none⟩) (List.mem_cons_of_mem _ (HF.out gt HGM.out)) (.int .i64 bid)).set (a := ⟨gt, k * 2 + 1, none⟩) (List.mem_cons_of_mem _ (HF.out gt HGM.out)) (.slice ao9 (addL rl ⟨i, g, y, x, nl⟩).length c9))
    clear TB hTB hfx hCH K2
    go_upto_region 9 with fail
    obtain ⟨w4, hw4⟩ : ∃ w4, w4 = (w3.setCell ⟨gt, k * 2, none⟩ (.int .i64 bid)).setCell ⟨gt, k * 2 + 1, none⟩ (.slice ao9 (addL rl ⟨i, g, y, x, nl⟩).length c9) := ⟨_, rfl⟩
    rw [← hw4] at HTB c2 c3 e0 e1 HCW ⊢
    have f0 : w4.frozen? ⟨w.heap.size + 1 + 1, 0, none⟩ = false := by rw [hw4, World.frozen?_setCell, World.frozen?_setCell]; exact q0
    have f1 : w4.frozen? ⟨w.heap.size + 1 + 1, 1, none⟩ = false := by rw [hw4, World.frozen?_setCell, World.frozen?_setCell]; exact q1
    have y4 : w.heap.size + 1 + 1 < w4.heap.size := by rw [hw4]; simpa using yy
    clear hw4 t0 t1 q0 q1 r0 r1 yy B0 B1 p0 p1 z0 z1 HK3
    have m0 : ((w4.setCell ⟨w.heap.size + 1 + 1, 0, none⟩ (.int .i64 ver)).setCell ⟨w.heap.size + 1 + 1, 1, none⟩ (.slice (some ⟨gt, 0, none⟩) n cap)).cell? ⟨w.heap.size + 1 + 1, 0, none⟩ = some (.int .i64 ver) := by rw [set_other (by omega)]; exact set_same ⟨_, e0⟩
    have m1 : ((w4.setCell ⟨w.heap.size + 1 + 1, 0, none⟩ (.int .i64 ver)).setCell ⟨w.heap.size + 1 + 1, 1, none⟩ (.slice (some ⟨gt, 0, none⟩) n cap)).cell? ⟨w.heap.size + 1 + 1, 1, none⟩ = some (.slice (some ⟨gt, 0, none⟩) n cap) := set_same ⟨.slice none 0 0, by rw [set_other (by omega)]; exact e1⟩
    have HNE := Lib.hid (show ∀ j ∈ fp2, j ≠ w.heap.size + 1 + 1 from fun j hj e => by
      rcases HFX.out j hj with h | h
      · have := HLT.out j h; omega
      · have h1 := HG4.out j h; have h2 := HSZ.out; omega)
    have HFP := Lib.hid (show ∀ j ∈ fp2, j ∈ ownF (.slice (some ⟨gt, 0, none⟩) n cap) f ∨ w.heap.size ≤ j from fun j hj => by
      rcases HFX.out j hj with h | h
      · exact .inl (HF.out j h)
      · have h1 := HG4.out j h; have h2 := HSZ.out; exact .inr (by omega))
    go_wp2
    exact bodyPost_ret (v := .tuple #[.agg #[.int .i64 ver, .slice (some ⟨gt, 0, none⟩) n cap], .int .i64 0]) (by simp [results, Try.results79, go_sem, m0, m1, y4]) rfl ⟨.slice (some ⟨gt, 0, none⟩) n cap, fp2, by rw [AN.out], by rw [AN.out]; simp only; rw [← HEQ.out]; exact (HTB.out.2.2.2.2.2.1.set ⟨w.heap.size + 1 + 1, 0, none⟩ _ (fun j hj e => HNE.out j hj e)).set ⟨w.heap.size + 1 + 1, 1, none⟩ _ (fun j hj e => HNE.out j hj e), HTB.out.2.2.2.2.2.2.1, HFP.out, Chg.new ((HCW.out.set (a := ⟨w.heap.size + 1 + 1, 0, none⟩) (by simp) _).set (a := ⟨w.heap.size + 1 + 1, 1, none⟩) (by simp) _) (fun k hk => by rcases List.mem_cons.1 hk with rfl | hk; exact .inr (by omega); exact .inl hk)⟩
end Go.Proofs.Ytcfcohnkkgickaa
