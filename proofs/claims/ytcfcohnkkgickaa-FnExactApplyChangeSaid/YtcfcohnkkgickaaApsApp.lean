/-
  The walk over the model's ApplyChange: an append.
-/
import Derived.Test.YtcfcohnkkgickaaRows
import Derived.Test.YtcfcohnkkgickaaMgB
import Derived.Test.YtcfcohnkkgickaaApAll
import Derived.Test.YtcfcohnkkgickaaPfmAll
import Derived.Test.YtcfcohnkkgickaaCpSpec
import Derived.Test.YtcfcohnkkgickaaTvSpec
namespace Go.Proofs.Ytcfcohnkkgickaa
open Go.RowKit Num

/-- Appending, as performing a change answers it. -/
theorem appC_applyC {ver : Int} {l : List Blk} {b : Int} {r : Rw} (h : TblOk ver l l.length ∧ ChOk ⟨1, b, r⟩ ∧ ver ≠ 99) : ((appC l b r).2 = 0 → applyC ver l ⟨1, b, r⟩ = (ver + 1, (appC l b r).1, 0)) ∧ ((appC l b r).2 ≠ 0 → applyC ver l ⟨1, b, r⟩ = (ver, l, (appC l b r).2)) := by
  rw [applyC_good h, if_pos rfl]
  unfold appC
  constructor
  · repeat' split
    all_goals simp
  · repeat' split
    all_goals simp

set_option maxRecDepth 8000 in
set_option maxHeartbeats 6400000 in
theorem spec_aps1 (ver : Int) (b i g y x : Int) (nl : Bool) (ao : Option Addr) (n cap : Nat) (l : List Blk) (w : World) (hl : l.length = n) (hn : n ≤ 1048576) (hr : ∀ k, k < n → (Bn l k).rows.length ≤ 1048576) (hV : BlksVal w ao l) (hS : BlksSrc w ao l) (hG : TblOk ver l l.length ∧ ChOk ⟨1, b, ⟨i, g, y, x, nl⟩⟩ ∧ ver ≠ 99) :
    Calls Try.prog 14 #[.agg #[.int .i64 ver, .slice ao n cap], .agg #[.int .i64 1, .int .i64 b, .int .i64 i, .int .i64 g, .int .i64 y, .int .i64 x, .bool nl]] w (ApcP (applyC ver l ⟨1, b, ⟨i, g, y, x, nl⟩⟩).1 (applyC ver l ⟨1, b, ⟨i, g, y, x, nl⟩⟩).2.1 (applyC ver l ⟨1, b, ⟨i, g, y, x, nl⟩⟩).2.2 w) := by
  have TC := Lib.hid (fun w hS => spec_tcopy ver ao n cap l w hl hn hr hS)
  have TV := Lib.hid (fun w hV => spec_tv ver ao n cap l w hl hn hr hV)
  have IV := Lib.hid (fun w => spec_ivc ⟨1, b, ⟨i, g, y, x, nl⟩⟩ w)
  have BR := Lib.hid (fun w hV => spec_bor ver i ao n cap l w hl hn hr hV)
  have HV := Lib.hid hV
  have HS := Lib.hid hS
  have HL := Lib.hid hl
  have HG := Lib.hid hG
  clear hV hS hl hn hr hG
  go_enter Try.func14, Try.ntmps14
  have K0 := (((Kept.start w).alloc2 (.int .i64 ver) (.slice ao n cap) 32 _ rfl).alloc7 (.int .i64 1) (.int .i64 b) (.int .i64 i) (.int .i64 g) (.int .i64 y) (.int .i64 x) (.bool nl) 38 (w.heap.size + 1) (by simp)).alloc2 (.int .i64 0) (.slice none 0 0) 32 (w.heap.size + 1 + 1) (by simp)
  go_upto_region 1 with fail
  obtain ⟨W0, hW0⟩ : ∃ W0, W0 = (((w.alloc (.cells #[.int .i64 ver, .slice ao n cap] 32)).alloc (.cells #[.int .i64 1, .int .i64 b, .int .i64 i, .int .i64 g, .int .i64 y, .int .i64 x, .bool nl] 38)).alloc (.cells #[.int .i64 0, .slice none 0 0] 32)) := ⟨_, rfl⟩
  rw [← hW0] at K0 ⊢
  clear hW0
  have t0 := K0.get 9 rfl
  have t1 := K0.get 10 rfl
  go_wp2_with fail
  refine (TC.out _ (HS.out.keep K0.1)).mono ?_
  rintro e w1 ⟨v, f, rfl, hO, hb⟩
  obtain ⟨ao', cap', rfl⟩ := hO.shape
  have K1 := K0.step hb
  have HO := Lib.hid hO
  have HW1 := Lib.hid hb
  have HK0 := Lib.hid K0
  clear hb hO t0 t1 K0
  have K2 := K1.alloc2 (.int .i64 ver) (.slice ao' l.length cap') 32 w1.heap.size rfl
  have HO2 := Lib.hid (show Below w1.heap.size w1 (w1.alloc (.cells #[.int .i64 ver, .slice ao' l.length cap'] 32)) from (Below.refl _ _).alloc (Nat.le_refl _) _)
  have q0 := K2.get 11 rfl
  have q1 := K2.get 12 rfl
  go_upto_region 2 with fail
  obtain ⟨w2, hw2⟩ : ∃ w2, w2 = w1.alloc (.cells #[.int .i64 ver, .slice ao' l.length cap'] 32) := ⟨_, rfl⟩
  rw [← hw2] at K2 HO2 q0 q1 ⊢
  clear hw2 K1
  go_wp2_with fail
  refine (TV.out _ (HV.out.below K2.1)).mono ?_
  rintro e w3 ⟨tv, htv, rfl, hb⟩
  have K3 := K2.step hb
  have ETV := Lib.hid htv
  have HO3 := Lib.hid (HO2.out.trans (hb.mono HO2.out.size))
  clear hb htv q0 q1 K2
  obtain rfl : tv = true := ETV.out.2 (by rw [← HL.out]; exact HG.out.1)
  have r0 := K3.get 4 rfl
  have r1 := K3.get 5 rfl
  have r2 := K3.get 6 rfl
  have r3 := K3.get 7 rfl
  have r4 := K3.get 8 rfl
  have r5 := K3.get 9 rfl
  have r6 := K3.get 10 rfl
  go_wp2_with fail
  refine (IV.out _).mono ?_
  rintro e w4 ⟨⟨iv, hiv, rfl⟩, hb⟩
  have K4 := K3.step hb
  have EIV := Lib.hid hiv
  have HO4 := Lib.hid (HO3.out.trans (hb.mono HO3.out.size))
  clear hb hiv r0 r1 r2 r3 r4 r5 r6 K3
  obtain rfl : iv = true := EIV.out.2 HG.out.2.1
  have hvb : (ver == 99) = false := beq_eq_false_iff_ne.2 HG.out.2.2
  have r0 := K4.get 4 rfl
  have r1 := K4.get 5 rfl
  have r2 := K4.get 6 rfl
  have r3 := K4.get 7 rfl
  have r4 := K4.get 8 rfl
  have r5 := K4.get 9 rfl
  have r6 := K4.get 10 rfl
  have q0 := K4.get 11 rfl
  have q1 := K4.get 12 rfl
  go_wp2_with fail
  refine (BR.out _ (HV.out.below K4.1)).mono ?_
  rintro e w5 ⟨⟨vb, hvb9, rfl⟩, hb⟩
  have K5 := K4.step hb
  have HO5 := Lib.hid (HO4.out.trans (hb.mono HO4.out.size))
  have EB := Lib.hid (firstAns_idx (p := fun b : Blk => HasRow b.rows i) (l := l) (by rw [HL.out]; exact hvb9))
  have hv1 : -1 ≤ vb ∧ vb < 6 := by
    have h6 := HG.out.1.2.1
    have h7 := HL.out
    rcases hvb9 with ⟨k, hk, _, _, rfl⟩ | ⟨_, rfl⟩ <;> omega
  obtain ⟨hv1, hv2⟩ := hv1
  clear hb hvb9 r0 r1 r2 r3 r4 r5 r6 q0 q1 K4 hvb
  have r0 := K5.get 4 rfl
  have r1 := K5.get 5 rfl
  have r2 := K5.get 6 rfl
  have r3 := K5.get 7 rfl
  have r4 := K5.get 8 rfl
  have r5 := K5.get 9 rfl
  have r6 := K5.get 10 rfl
  have b0 := K5.get 0 rfl
  have b1 := K5.get 1 rfl
  have h0 := K5.fz 0 rfl
  have h1 := K5.fz 1 rfl
  have HK5 := Lib.hid K5
  have AP := Lib.hid (spec_app ver ao' l.length cap' l b i g y x nl f W0 w5 rfl HG.out.1 HG.out.2.1 (HW1.out.trans (HO5.out.mono HW1.out.size)) (HO.out.step HO5.out))
  have HYF := Lib.hid (show w1.heap.size ∉ ownF (.slice ao' l.length cap') f from fun e => by have := (ownF_lt HO.out _ e).2; omega)
  have HLT := Lib.hid (show ∀ k ∈ ownF (.slice ao' l.length cap') f, W0.heap.size ≤ k ∧ k < w1.heap.size from ownF_lt HO.out)
  have HYL := Lib.hid (show w1.heap.size < w5.heap.size from K5.lt 0 rfl)
  have HSC := Lib.hid (show W0.heap.size ≤ w1.heap.size from HW1.out.size)
  go_wp2_with fail
  refine AP.out.mono ?_
  rintro e w6 ⟨v6, fp6, rfl, hs6, hn6, hf6, hc6⟩
  obtain ⟨ao6, c6, rfl⟩ := hs6.val
  have HC6 := Lib.hid hc6
  have HN6 := Lib.hid hn6
  have HS6 := Lib.hid hs6
  have HF6 := Lib.hid (show ∀ k ∈ fp6, W0.heap.size ≤ k ∧ k ≠ w1.heap.size from fun k hk => by
    rcases hf6 k hk with h | h
    · have := HLT.out k h; exact ⟨this.1, fun e => HYF.out (by rw [← e]; exact h)⟩
    · have h1 := HYL.out; have h2 := HSC.out; exact ⟨by omega, by omega⟩)
  have hyb := hc6.block w1.heap.size HYL.out HYF.out
  have B0 : w6.cell? ⟨w1.heap.size, 0, none⟩ = some (.int .i64 ver) := (World.cell?_of_block (a := ⟨w1.heap.size, 0, none⟩) hyb).trans b0
  have B1 : w6.cell? ⟨w1.heap.size, 1, none⟩ = some (.slice ao' l.length cap') := (World.cell?_of_block (a := ⟨w1.heap.size, 1, none⟩) hyb).trans b1
  have E0 : w6.frozen? ⟨w1.heap.size, 0, none⟩ = false := (World.frozen?_of_block (a := ⟨w1.heap.size, 0, none⟩) hyb).trans h0
  have E1 : w6.frozen? ⟨w1.heap.size, 1, none⟩ = false := (World.frozen?_of_block (a := ⟨w1.heap.size, 1, none⟩) hyb).trans h1
  have HBW := Lib.hid (show Below W0.heap.size W0 w6 from (HW1.out.trans (HO5.out.mono HW1.out.size)).trans (hc6.below (fun k hk => (HLT.out k hk).1) (by have h1 := HYL.out; have h2 := HSC.out; omega)))
  clear hs6 hn6 hf6 hc6 hyb r0 r1 r2 r3 r4 r5 r6 b0 b1 h0 h1 K5
  obtain ⟨L, hL⟩ : ∃ L, L = (appC l b ⟨i, g, y, x, nl⟩).1 := ⟨_, rfl⟩
  obtain ⟨q, hq⟩ : ∃ q, q = (appC l b ⟨i, g, y, x, nl⟩).2 := ⟨_, rfl⟩
  rw [← hL] at HS6 ⊢
  rw [← hq]
  have EA := Lib.hid (appC_applyC (b := b) (r := ⟨i, g, y, x, nl⟩) HG.out)
  rw [← hL, ← hq] at EA
  clear hL hq
  go_upto_region 24 with fail
  obtain ⟨w7, hw7⟩ : ∃ w7, w7 = (w6.setCell ⟨w1.heap.size, 0, none⟩ (.int .i64 ver)).setCell ⟨w1.heap.size, 1, none⟩ (.slice ao6 L.length c6) := ⟨_, rfl⟩
  rw [← hw7]
  have HTB := Lib.hid (show TblBox w7 w1.heap.size ver (.slice ao6 L.length c6) L fp6 by
    rw [hw7]
    refine ⟨by simpa using Nat.lt_of_lt_of_le HYL.out HC6.out.size, by rw [set_other (by omega)]; exact set_same ⟨_, B0⟩, by rw [World.frozen?_setCell, World.frozen?_setCell]; exact E0, set_same ⟨.slice ao' l.length cap', by rw [set_other (by omega)]; exact B1⟩, by rw [World.frozen?_setCell, World.frozen?_setCell]; exact E1, (HS6.out.set _ _ (fun k hk e => (HF6.out k hk).2 e)).set _ _ (fun k hk e => (HF6.out k hk).2 e), HN6.out, fun e => (HF6.out _ e).2 rfl⟩)
  have HB7 := Lib.hid (show Below W0.heap.size W0 w7 by rw [hw7]; exact (HBW.out.setCell (show W0.heap.size ≤ (⟨w1.heap.size, 0, none⟩ : Addr).block from HSC.out) _).setCell (show W0.heap.size ≤ (⟨w1.heap.size, 1, none⟩ : Addr).block from HSC.out) _)
  have HF7 := Lib.hid (show ∀ k ∈ fp6, W0.heap.size ≤ k from fun k hk => (HF6.out k hk).1)
  clear hw7 B0 B1 E0 E1
  have K6 := HK0.out.step HB7.out
  by_cases hq0 : q = 0
  · subst hq0
    have AN := Lib.hid (EA.out.1 rfl)
    have c0 := HTB.out.2.1
    have z0 := HTB.out.2.2.1
    have c1 := HTB.out.2.2.2.1
    have a0 := K6.get 0 rfl
    have a1 := K6.get 1 rfl
    have g0 := K6.fz 0 rfl
    have g1 := K6.fz 1 rfl
    have v9 := K6.get 9 rfl
    have hver : -1000 ≤ ver ∧ ver ≤ 1000 := by have := HG.out.1.1; omega
    obtain ⟨hve1, hve2⟩ := hver
    have HRL := Lib.hid (show w.heap.size + 1 + 1 < W0.heap.size from HK0.out.lt 0 rfl)
    have HBP := Lib.hid (show W0.heap.size ≤ w1.heap.size from HW1.out.size)
    have y6 := K6.lt 0 rfl
    have K7 := ((K6.cons (a := ⟨w1.heap.size, 0, none⟩) HTB.out.1 c0 z0).set (p := []) (.int .i64 (ver + 1)) (Nat.le_trans (by have := HRL.out; omega) HBP.out) (by
      intro c hc e
      have e2 := congrArg Addr.block e
      have h3 := HRL.out
      have h4 := HBP.out
      simp only [List.nil_append, List.mem_cons, List.not_mem_nil, or_false] at hc
      rcases hc with rfl | rfl | rfl | rfl | rfl | rfl | rfl | rfl | rfl | rfl | rfl <;> (simp only at e2; omega))).sub (l' := [(⟨w.heap.size + 1 + 1, 0, none⟩, .int .i64 0), (⟨w.heap.size + 1 + 1, 1, none⟩, .slice none 0 0)]) (by intro p9 hp9; simp only [List.mem_cons, List.not_mem_nil, or_false] at hp9; rcases hp9 with rfl | rfl <;> simp)
    have K8 := K7.set2 (.int .i64 (ver + 1)) (.slice ao6 L.length c6) (by omega) (by simp)
    have m0 := K8.get 0 rfl
    have m1 := K8.get 1 rfl
    have n0 := K7.get 0 rfl
    have n1 := K7.get 1 rfl
    have o0 := K7.fz 0 rfl
    have o1 := K7.fz 1 rfl
    have HB8 := Lib.hid K8.1
    have S8 := Lib.hid (((HTB.out.2.2.2.2.2.1.set ⟨w1.heap.size, 0, none⟩ (.int .i64 (ver + 1)) (fun k hk e => HTB.out.2.2.2.2.2.2.2 (by have e' : k = w1.heap.size := e; rw [← e']; exact hk))).set ⟨w.heap.size + 1 + 1, 0, none⟩ (.int .i64 (ver + 1)) (fun k hk e => by have h1 := HF7.out k hk; have h2 := HRL.out; have e' : k = w.heap.size + 1 + 1 := e; omega)).set ⟨w.heap.size + 1 + 1, 1, none⟩ (.slice ao6 L.length c6) (fun k hk e => by have h1 := HF7.out k hk; have h2 := HRL.out; have e' : k = w.heap.size + 1 + 1 := e; omega))
    have HF8 := Lib.hid (show ∀ k ∈ fp6, w.heap.size ≤ k from fun k hk => by have h1 := HF7.out k hk; have h2 := HRL.out; omega)
    clear K7 K8 K6
    go_wp2
    exact bodyPost_ret (v := .tuple #[.agg #[.int .i64 (ver + 1), .slice ao6 L.length c6], .int .i64 0]) (by simp [results, Try.results14, go_sem, m0, m1, y6]) rfl ⟨.slice ao6 L.length c6, fp6, by rw [AN.out], by rw [AN.out]; exact S8.out, HTB.out.2.2.2.2.2.2.1, HF8.out, HB8.out⟩
  · have hqb : (q != 0) = true := bne_iff_ne.2 hq0
    have AN := Lib.hid (EA.out.2 hq0)
    clear hq0
    have q0 := K6.get 9 rfl
    have q1 := K6.get 10 rfl
    go_wp2_with fail
    refine (TC.out _ (HS.out.keep K6.1)).mono ?_
    rintro e w8 ⟨v8, f8, rfl, hO8, hb8⟩
    obtain ⟨ao8, c8, rfl⟩ := hO8.shape
    obtain ⟨fp8, hs8, hf8, hn8⟩ := hO8.rep
    have K8 := K6.step hb8
    have a0 := K8.get 0 rfl
    have a1 := K8.get 1 rfl
    have g0 := K8.fz 0 rfl
    have g1 := K8.fz 1 rfl
    have y6 := K8.lt 0 rfl
    have HRR := Lib.hid (show w.heap.size + 1 + 1 < w7.heap.size from K6.lt 0 rfl)
    have K9 := (K8.sub (l' := [(⟨w.heap.size + 1 + 1, 0, none⟩, .int .i64 0), (⟨w.heap.size + 1 + 1, 1, none⟩, .slice none 0 0)]) (by intro p9 hp9; simp only [List.mem_cons, List.not_mem_nil, or_false] at hp9; rcases hp9 with rfl | rfl <;> simp)).set2 (.int .i64 ver) (.slice ao8 l.length c8) (by omega) (by simp)
    have m0 := K9.get 0 rfl
    have m1 := K9.get 1 rfl
    have HB9 := Lib.hid K9.1
    have S9 := Lib.hid ((hs8.set ⟨w.heap.size + 1 + 1, 0, none⟩ (.int .i64 ver) (fun k hk e => by have h1 := hf8 k hk; have h2 := HRR.out; have e' : k = w.heap.size + 1 + 1 := e; omega)).set ⟨w.heap.size + 1 + 1, 1, none⟩ (.slice ao8 l.length c8) (fun k hk e => by have h1 := hf8 k hk; have h2 := HRR.out; have e' : k = w.heap.size + 1 + 1 := e; omega))
    have HF9 := Lib.hid (show ∀ k ∈ fp8, w.heap.size ≤ k from fun k hk => by have h1 := hf8 k hk; have h2 := HRR.out; omega)
    have HN8 := Lib.hid hn8
    clear K6 K8 K9 hs8 hf8 hn8 hO8 hb8 q0 q1
    go_wp2
    exact bodyPost_ret (v := .tuple #[.agg #[.int .i64 ver, .slice ao8 l.length c8], .int .i64 q]) (by simp [results, Try.results14, go_sem, m0, m1, y6]) rfl ⟨.slice ao8 l.length c8, fp8, by rw [AN.out], by rw [AN.out]; exact S9.out, HN8.out, HF9.out, HB9.out⟩
end Go.Proofs.Ytcfcohnkkgickaa
