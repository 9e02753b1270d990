/-
  The walk over the model's l7Append: the block is found.
-/
import Derived.Test.YtcfcohnkkgickaaRows
import Derived.Test.YtcfcohnkkgickaaApSpec
import Derived.Test.YtcfcohnkkgickaaPfmApp
import Derived.Deep.RegionHeld3
import Derived.Deep.RegionLaw
namespace Go.Proofs.Ytcfcohnkkgickaa
open Go.RowKit Num

/-- What l7Append leaves, told from W on. -/
def AppOut (ver : Int) (l : List Blk) (b : Int) (r : Rw) (W : World) (e : Ending) (w' : World) : Prop :=
  ∃ v fp, e = .returned (.tuple #[.agg #[.int .i64 ver, v], .int .i64 (appC l b r).2]) ∧ SliceRep blkTy w' v (appC l b r).1 fp ∧ fp.Nodup ∧ (∀ k ∈ fp, W.heap.size ≤ k) ∧ Below W.heap.size W w'
theorem AppPost.out {ver : Int} {l : List Blk} {b : Int} {r : Rw} {F : List Nat} {W w w' : World} {e : Ending} (h : AppPost ver l b r F w e w') (hF : ∀ k ∈ F, W.heap.size ≤ k) (hb : Below W.heap.size W w) : AppOut ver l b r W e w' := by
  obtain ⟨v, fp, h1, h2, h3, h4, h5⟩ := h
  refine ⟨v, fp, h1, h2, h3, fun k hk => ?_, hb.trans (h5.below hF hb.size)⟩
  rcases h4 k hk with h | h
  · exact hF k h
  · exact Nat.le_trans hb.size h
theorem Chg.new {F F' : List Nat} {w w' : World} (h : Chg F' w w') (hs : ∀ k ∈ F', k ∈ F ∨ w.heap.size ≤ k) : Chg F w w' :=
  ⟨h.os, h.tape, h.output, h.size, fun k hk hn => h.block k hk (fun e => by rcases hs k e with h1 | h1; exact hn h1; omega)⟩
theorem slice_blkAt {w : World} {ao : Option Addr} {n cap : Nat} {l : List Blk} {fp : List Nat} (hs : SliceRep blkTy w (.slice ao n cap) l fp) (hn : fp.Nodup) {k : Nat} (hk : k < l.length) :
    ∃ g ro rcap fk, ao = some ⟨g, 0, none⟩ ∧ g < w.heap.size ∧ w.cell? ⟨g, k * 2, none⟩ = some (.int .i64 (Bn l k).id) ∧ w.cell? ⟨g, k * 2 + 1, none⟩ = some (.slice ro (Bn l k).rows.length rcap) ∧ SliceRep rowTy w (.slice ro (Bn l k).rows.length rcap) (Bn l k).rows fk := by
  obtain ⟨g, cap', vb, fa, fk, fb, e, _, _, ho, c0, c1, hs', _, _⟩ := blk_open hs hn hk
  simp only [Value.slice.injEq] at e
  rw [← Bn_at hk] at c0 hs'
  obtain ⟨ro, rcap, rfl, _, _⟩ := rows_open hs'
  exact ⟨g, ro, rcap, fk, e.1, ho.1, c0, c1, hs'⟩

set_option maxRecDepth 8000 in
set_option maxHeartbeats 6400000 in
/-- The block is found and has no room. -/
theorem spec_app_full (ver : Int) (ao : Option Addr) (n cap : Nat) (l : List Blk) (b i g y x : Int) (nl : Bool) (f : List Nat) (W w : World) (hn : l.length = n) (hT : TblOk ver l l.length) (hC : ChOk ⟨1, b, ⟨i, g, y, x, nl⟩⟩) (hW : Below W.heap.size W w) (hO : OwnB w W.heap.size (.slice ao n cap) l f) (hA : ¬ iRow l i < l.length) {k : Nat} (ek : iBlk l b = k) (hk : k < l.length) (h6 : ¬ (Bn l k).rows.length < 6) :
    Calls Try.prog 79 #[.agg #[.int .i64 ver, .slice ao n cap], .agg #[.int .i64 1, .int .i64 b, .int .i64 i, .int .i64 g, .int .i64 y, .int .i64 x, .bool nl]] w (AppPost ver l b ⟨i, g, y, x, nl⟩ (ownF (.slice ao n cap) f) w) := by
  have hn6 : l.length ≤ 6 := hT.2.1
  have AN := Lib.hid (show appC l b ⟨i, g, y, x, nl⟩ = (l, 4) by unfold appC; rw [if_neg hA, ek, if_pos hk, if_neg h6])
  obtain ⟨fp, hS, hnd, hF⟩ := ownB_F hO
  have HFW := Lib.hid (show ∀ j ∈ fp, W.heap.size ≤ j from fun j hj => (ownF_lt hO j (hF j hj)).1)
  have HF := Lib.hid hF
  obtain ⟨ao', cap', e9, hcap, hV⟩ := blks_open hS
  simp only [Value.slice.injEq] at e9
  obtain ⟨rfl, h9, rfl⟩ := e9
  clear h9
  obtain ⟨gt, ro, rcap, fk, rfl, hgt, d0, d1, hs9⟩ := slice_blkAt hS hnd hk
  have hr := bn_rows hT
  have HV := Lib.hid hV
  have HW := Lib.hid hW
  have HC := Lib.hid (hC.one rfl)
  have HS := Lib.hid hS
  have HND := Lib.hid hnd
  have HA := Lib.hid hA
  have HK := Lib.hid ek
  have hkl := Lib.hid hk
  have BR := Lib.hid (fun w hV => spec_bor ver i (some ⟨gt, 0, none⟩) n cap l w hn (by omega) (fun k hk => by have := hr k (by omega); omega) hV)
  have FB := Lib.hid (fun w hV => spec_findB ver b (some ⟨gt, 0, none⟩) n cap l w hn (by omega) hV)
  have OKF := Lib.hid (show addOk (Bn l k).id (Bn l k).rows ⟨i, g, y, x, nl⟩ = false from Bool.eq_false_iff.2 fun h => h6 ((addOk_iff (tbl_blk hT hk)).1 h).2.1)
  have AD := Lib.hid (fun w1 hs => spec_addV (Bn l k).id (.slice ro (Bn l k).rows.length rcap) (Bn l k).rows fk ⟨i, g, y, x, nl⟩ w1 (by have := hr k hk; omega) hs)
  rw [OKF.out] at AD
  have hnI : (n : Int) ≤ 6 := by omega
  have hkI : (k : Int) < (n : Int) := by omega
  have HN := Lib.hid hn
  have HS9 := Lib.hid hs9
  have D0 := Lib.hid d0
  have D1 := Lib.hid d1
  obtain ⟨bid, hbid⟩ : ∃ bid, bid = (Bn l k).id := ⟨_, rfl⟩
  obtain ⟨rl, hrl⟩ : ∃ rl, rl = (Bn l k).rows := ⟨_, rfl⟩
  rw [← hbid] at AD D0
  rw [← hrl] at AD D1 HS9
  clear hV hO hT hC hS hF hr hn hA hW hnd ek hk h6 hs9 d0 d1 hbid hrl
  go_enter Try.func79, Try.ntmps79
  have K0 := (((Kept.start w).alloc2 (.int .i64 ver) (.slice (some ⟨gt, 0, none⟩) n cap) 32 _ rfl).alloc7 (.int .i64 1) (.int .i64 b) (.int .i64 i) (.int .i64 g) (.int .i64 y) (.int .i64 x) (.bool nl) 38 (w.heap.size + 1) (by simp)).alloc2 (.int .i64 0) (.slice none 0 0) 32 (w.heap.size + 1 + 1) (by simp)
  go_wp2_with fail
  refine (BR.out _ (HV.out.below K0.1)).mono ?_
  rintro e w1 ⟨⟨vb, hvb, rfl⟩, hb⟩
  have K1 := K0.step hb
  have EB := Lib.hid (firstAns_idx (p := fun b : Blk => HasRow b.rows i) (l := l) (by rw [HN.out]; exact hvb))
  have hv1 : -1 ≤ vb ∧ vb < 6 := by rcases hvb with ⟨k, hk, _, _, rfl⟩ | ⟨_, rfl⟩ <;> omega
  obtain ⟨hv1, hv2⟩ := hv1
  clear hb hvb K0
  have hd := not_row EB.out HA.out
  have t0 := K1.get 9 rfl
  have t1 := K1.get 10 rfl
  have r1 := K1.get 3 rfl
  go_wp2_with fail
  refine (FB.out _ (HV.out.below K1.1)).mono ?_
  rintro e w2 ⟨⟨vf, hvf, rfl⟩, hb⟩
  have K2 := K1.step hb
  have EF := firstAns_idx (p := fun c : Blk => c.id = b) (l := l) (by rw [HN.out]; exact hvf)
  obtain ⟨hd0, rfl⟩ := is_blk EF HK.out hkl.out
  clear hb hvf K1 t0 t1 r1 EF hd
  have t1 := K2.get 10 rfl
  have d0 := (K2.1.cell (p := ⟨gt, k * 2, none⟩) hgt).trans D0.out
  have d1 := (K2.1.cell (p := ⟨gt, k * 2 + 1, none⟩) hgt).trans D1.out
  have r2 := K2.get 4 rfl
  have r3 := K2.get 5 rfl
  have r4 := K2.get 6 rfl
  have r5 := K2.get 7 rfl
  have r6 := K2.get 8 rfl
  have HS2 := Lib.hid (HS9.out.step K2.1)
  have KA2 := K2.alloc2 (.int .i64 0) (.slice none 0 0) 80 _ rfl
  have t1' := KA2.get 12 rfl
  have hb2 := (Below.refl w2.heap.size w2).alloc (Nat.le_refl _) (.cells #[.int .i64 0, .slice none 0 0] 80)
  have d0' := (hb2.cell (p := ⟨gt, k * 2, none⟩) (Nat.lt_of_lt_of_le hgt K2.1.size)).trans d0
  have d1' := (hb2.cell (p := ⟨gt, k * 2 + 1, none⟩) (Nat.lt_of_lt_of_le hgt K2.1.size)).trans d1
  have r2' := KA2.get 6 rfl
  have r3' := KA2.get 7 rfl
  have r4' := KA2.get 8 rfl
  have r5' := KA2.get 9 rfl
  have r6' := KA2.get 10 rfl
  clear KA2 hb2
  go_upto_region 5 with fail
  go_region_with (go_at_call 129; (with_reducible refine (AD.out _ ?_).mono ?_); (first | exact HS2.out.step (Below.refl _ _).drew | exact HS2.out.step (((Below.refl _ _).alloc (Nat.le_refl _) _).drew)); rintro e9 w9 ⟨v9, fp9, rfl, hs9, hf9, hn9, hb⟩; have hb9 : Below w2.heap.size w2 w9 := (by first | exact below_via hb (Below.refl w2.heap.size w2).drew | exact below_via hb (((Below.refl w2.heap.size w2).alloc (Nat.le_refl _) _).drew)); have HB9 := Lib.hid hb9; obtain ⟨ao9, c9, rfl⟩ := hs9.val; (try have z0 := ((K2.alloc2 (.int .i64 0) (.slice none 0 0) 80 _ rfl).drew.step hb).get 0 rfl); (try have z1 := ((K2.alloc2 (.int .i64 0) (.slice none 0 0) 80 _ rfl).drew.step hb).get 1 rfl); (try have y0 := ((K2.alloc2 (.int .i64 0) (.slice none 0 0) 80 _ rfl).drew.step hb).fz 0 rfl); (try have y1 := ((K2.alloc2 (.int .i64 0) (.slice none 0 0) 80 _ rfl).drew.step hb).fz 1 rfl); clear hb hb9 hs9 hf9 hn9)
  all_goals
    first
    | (obtain ⟨w3, hw3⟩ : ∃ w3, w3 = w9.alloc (.cells #[.int .i64 bid, .slice ao9 (addAns bid rl ⟨i, g, y, x, nl⟩).length c9] 80) := ⟨_, rfl⟩; rw [← hw3]; have K3 := K2.step (by rw [hw3]; exact HB9.out.alloc HB9.out.size _ : Below w2.heap.size w2 w3))
    | (obtain ⟨w3, hw3⟩ : ∃ w3, w3 = (w9.setCell ⟨w2.heap.size, 0, none⟩ (.int .i64 bid)).setCell ⟨w2.heap.size, 1, none⟩ (.slice ao9 (addAns bid rl ⟨i, g, y, x, nl⟩).length c9) := ⟨_, rfl⟩; rw [← hw3]; have K3 := K2.step (by rw [hw3]; exact (HB9.out.setCell (show w2.heap.size ≤ (⟨w2.heap.size, 0, none⟩ : Addr).block from Nat.le_refl _) _).setCell (show w2.heap.size ≤ (⟨w2.heap.size, 1, none⟩ : Addr).block from Nat.le_refl _) _ : Below w2.heap.size w2 w3))
    clear t1 d0 d1 r2 r3 r4 r5 r6 t1' d0' d1' r2' r3' r4' r5' r6' hw3
    try clear z0
    try clear z1
    try clear y0
    try clear y1
    have t0 := K3.get 9 rfl
    have t1 := K3.get 10 rfl
    have q0 := K3.fz 0 rfl
    have q1 := K3.fz 1 rfl
    have r0 := K3.get 0 rfl
    have r1 := K3.get 1 rfl
    have yy := K3.lt 0 rfl
    have K4 := (K3.sub (l' := [(⟨w.heap.size + 1 + 1, 0, none⟩, .int .i64 0), (⟨w.heap.size + 1 + 1, 1, none⟩, .slice none 0 0)]) (by intro p9 hp9; simp only [List.mem_cons, List.not_mem_nil, or_false] at hp9; rcases hp9 with rfl | rfl <;> simp)).set2 (.int .i64 ver) (.slice (some ⟨gt, 0, none⟩) n cap) (by omega) (by simp)
    have m0 := K4.get 0 rfl
    have m1 := K4.get 1 rfl
    have HB := Lib.hid K4.1
    have HS3 := Lib.hid (HS.out.step K4.1)
    clear K4 K3 K2
    go_wp2
    exact bodyPost_ret (v := .tuple #[.agg #[.int .i64 ver, .slice (some ⟨gt, 0, none⟩) n cap], .int .i64 4]) (by simp [results, Try.results79, go_sem, m0, m1, yy]) rfl ⟨_, fp, by rw [AN.out], by rw [AN.out]; exact HS3.out, HND.out, fun k hk => .inl (HF.out k hk), Chg.of HB.out⟩
end Go.Proofs.Ytcfcohnkkgickaa
