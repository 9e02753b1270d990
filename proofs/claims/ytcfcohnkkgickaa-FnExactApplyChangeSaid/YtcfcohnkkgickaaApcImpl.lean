/-
  The walk over the project's ApplyChange.
-/
import Derived.Test.YtcfcohnkkgickaaRows
import Derived.Test.YtcfcohnkkgickaaPfmAll
import Derived.Test.YtcfcohnkkgickaaTcImpl
import Derived.Test.YtcfcohnkkgickaaTvImpl
import Derived.Test.YtcfcohnkkgickaaIvcImpl
namespace Go.Proofs.Ytcfcohnkkgickaa
open Go.RowKit Num

/-- What ApplyChange leaves. -/
def ApcPost (ver : Int) (l : List Blk) (c : Cg) (w : World) (e : Ending) (w' : World) : Prop :=
  ∃ v fp, e = .returned (.tuple #[.agg #[.int .i64 (applyC ver l c).1, v], .int .i64 (applyC ver l c).2.2]) ∧ SliceRep blkTy w' v (applyC ver l c).2.1 fp ∧ fp.Nodup ∧ (∀ k ∈ fp, w.heap.size ≤ k) ∧ Below w.heap.size w w'

set_option maxRecDepth 8000 in
set_option maxHeartbeats 6400000 in
theorem impl_apc1 (ver : Int) (b i g y x : Int) (nl : Bool) (ao : Option Addr) (n cap : Nat) (l : List Blk) (w : World) (hl : l.length = n) (hn : n ≤ 1048576) (hr : ∀ k, k < n → (Bn l k).rows.length ≤ 1048576) (hw : WfB n (Bn l)) (hV : BlksVal w ao l) (hS : BlksSrc w ao l) (hG : TblOk ver l l.length ∧ ChOk ⟨1, b, ⟨i, g, y, x, nl⟩⟩ ∧ ver ≠ 99) :
    Calls Try.prog 17 #[.agg #[.int .i64 ver, .slice ao n cap], .agg #[.int .i64 1, .int .i64 b, .int .i64 i, .int .i64 g, .int .i64 y, .int .i64 x, .bool nl]] w (ApcPost ver l ⟨1, b, ⟨i, g, y, x, nl⟩⟩ w) := by
  have TC := Lib.hid (fun w hS => impl_tcopy ver ao n cap l w hl hn hr hS)
  have TV := Lib.hid (fun w hV => impl_tv ver ao n cap l w hl hn hr hw hV)
  have IV := Lib.hid (fun w => impl_ivc ⟨1, b, ⟨i, g, y, x, nl⟩⟩ w)
  have HV := Lib.hid hV
  have HS := Lib.hid hS
  have HL := Lib.hid hl
  have HG := Lib.hid hG
  clear hV hS hl hn hr hw hG
  go_enter Try.func17, Try.ntmps17
  have K0 := (((Kept.start w).alloc2 (.int .i64 ver) (.slice ao n cap) 32 _ rfl).alloc7 (.int .i64 1) (.int .i64 b) (.int .i64 i) (.int .i64 g) (.int .i64 y) (.int .i64 x) (.bool nl) 38 (w.heap.size + 1) (by simp)).alloc2 (.int .i64 0) (.slice none 0 0) 32 (w.heap.size + 1 + 1) (by simp)
  go_upto_region 1 with fail
  obtain ⟨W0, hW0⟩ : ∃ W0, W0 = (((w.alloc (.cells #[.int .i64 ver, .slice ao n cap] 32)).alloc (.cells #[.int .i64 1, .int .i64 b, .int .i64 i, .int .i64 g, .int .i64 y, .int .i64 x, .bool nl] 38)).alloc (.cells #[.int .i64 0, .slice none 0 0] 32)) := ⟨_, rfl⟩
  rw [← hW0] at K0 ⊢
  clear hW0
  have t0 := K0.get 9 rfl
  have t1 := K0.get 10 rfl
  go_wp2_with fail
  refine (TC.out _ (HS.out.keep K0.1)).mono ?_
  rintro e w1 ⟨v, f, rfl, hO, hb⟩
  obtain ⟨ao', cap', rfl⟩ := hO.shape
  have K1 := K0.step hb
  have HO := Lib.hid hO
  have HW1 := Lib.hid hb
  have HK0 := Lib.hid K0
  clear hb hO t0 t1 K0
  have K2 := K1.alloc2 (.int .i64 ver) (.slice ao' l.length cap') 32 w1.heap.size rfl
  have HO2 := Lib.hid (show Below w1.heap.size w1 (w1.alloc (.cells #[.int .i64 ver, .slice ao' l.length cap'] 32)) from (Below.refl _ _).alloc (Nat.le_refl _) _)
  have q0 := K2.get 11 rfl
  have q1 := K2.get 12 rfl
  go_upto_region 2 with fail
  obtain ⟨w2, hw2⟩ : ∃ w2, w2 = w1.alloc (.cells #[.int .i64 ver, .slice ao' l.length cap'] 32) := ⟨_, rfl⟩
  rw [← hw2] at K2 HO2 q0 q1 ⊢
  clear hw2 K1
  try clear t0
  try clear t1
  go_wp2_with fail
  refine (TV.out _ (HV.out.below K2.1)).mono ?_
  rintro e w3 ⟨tv, htv, rfl, hb⟩
  have K3 := K2.step hb
  have ETV := Lib.hid htv
  have HO3 := Lib.hid (HO2.out.trans (hb.mono HO2.out.size))
  clear hb htv q0 q1 K2
  obtain rfl : tv = true := ETV.out.2 (by rw [← HL.out]; exact HG.out.1)
  have r0 := K3.get 4 rfl
  have r1 := K3.get 5 rfl
  have r2 := K3.get 6 rfl
  have r3 := K3.get 7 rfl
  have r4 := K3.get 8 rfl
  have r5 := K3.get 9 rfl
  have r6 := K3.get 10 rfl
  go_wp2_with fail
  refine (IV.out _).mono ?_
  rintro e w4 ⟨⟨iv, hiv, rfl⟩, hb⟩
  have K4 := K3.step hb
  have EIV := Lib.hid hiv
  have HO4 := Lib.hid (HO3.out.trans (hb.mono HO3.out.size))
  clear hb hiv r0 r1 r2 r3 r4 r5 r6 K3
  obtain rfl : iv = true := EIV.out.2 HG.out.2.1
  have hvb : (ver == 99) = false := beq_eq_false_iff_ne.2 HG.out.2.2
  have q0 := K4.get 11 rfl
  have r0 := K4.get 4 rfl
  have r1 := K4.get 5 rfl
  have r2 := K4.get 6 rfl
  have r3 := K4.get 7 rfl
  have r4 := K4.get 8 rfl
  have r5 := K4.get 9 rfl
  have r6 := K4.get 10 rfl
  have KD := Lib.hid (fun w => impl_kind1 b i g y x nl w)
  have P := meth_pf1
  have PF := Lib.hid (fun w5 hK => impl_pfo1 ver b i g y x nl w1.heap.size (.slice ao' l.length cap') l f W0 w5 HG.out.1 HG.out.2.1 HG.out.2.2 hK HW1.out.size)
  go_wp2_with fail
  refine (KD.out _).mono ?_
  rintro e w5 ⟨rfl, hb⟩
  have K5 := K4.step hb
  have HO5 := Lib.hid (HO4.out.trans (hb.mono HO4.out.size))
  have KBT := Lib.hid (KB.fresh (W := W0) (L := TBL w1.heap.size ver (.slice ao' l.length cap')) HO.out HO5.out ⟨HW1.out.trans (HO5.out.mono HW1.out.size), fun p hp => by
    simp only [TBL, List.mem_cons, List.not_mem_nil, or_false] at hp
    rcases hp with rfl | rfl
    · exact ⟨K5.lt 0 rfl, K5.get 0 rfl, K5.fz 0 rfl⟩
    · exact ⟨K5.lt 1 rfl, K5.get 1 rfl, K5.fz 1 rfl⟩⟩ (fun p hp => by
    simp only [TBL, List.mem_cons, List.not_mem_nil, or_false] at hp
    rcases hp with rfl | rfl <;> exact Nat.le_refl _))
  clear hb q0 r0 r1 r2 r3 r4 r5 r6 K4 K5 hvb
  go_wp2_with fail
  refine (PF.out _ KBT.out).mono ?_
  rintro e w6 ⟨v', fp', rfl, hTB, hf', hbel⟩
  have VE := Lib.hid (applyC_ver HG.out)
  have K6 := HK0.out.step hbel
  have HRL := Lib.hid (show w.heap.size + 1 + 1 < W0.heap.size from HK0.out.lt 0 rfl)
  obtain ⟨ao6, c6, rfl⟩ := hTB.2.2.2.2.2.1.val
  have HTB := Lib.hid hTB
  have HF := Lib.hid hf'
  have HBP := Lib.hid (show W0.heap.size ≤ w1.heap.size from HW1.out.size)
  have c0 := hTB.2.1
  have z0 := hTB.2.2.1
  have c1 := hTB.2.2.2.1
  have a0 := K6.get 0 rfl
  have a1 := K6.get 1 rfl
  have g0 := K6.fz 0 rfl
  have g1 := K6.fz 1 rfl
  have hv1 : -1000 ≤ ver ∧ ver ≤ 1000 := by have := HG.out.1.1; omega
  obtain ⟨hv1, hv2⟩ := hv1
  obtain ⟨l', hl'⟩ : ∃ l', l' = (applyC ver l ⟨1, b, ⟨i, g, y, x, nl⟩⟩).2.1 := ⟨_, rfl⟩
  obtain ⟨q, hq⟩ : ∃ q, q = (applyC ver l ⟨1, b, ⟨i, g, y, x, nl⟩⟩).2.2 := ⟨_, rfl⟩
  obtain ⟨ve, hve⟩ : ∃ ve, ve = (applyC ver l ⟨1, b, ⟨i, g, y, x, nl⟩⟩).1 := ⟨_, rfl⟩
  have EL := Lib.hid hl'
  rw [← hq]
  have EQ := Lib.hid hq
  have EV := Lib.hid hve
  rw [← hl'] at HTB c1
  rw [← hq] at VE
  rw [← hve] at VE
  clear hTB hf' PF KBT KD P hl' hq hve
  by_cases hq0 : q = 0
  · subst hq0
    have hve : ver + 1 = ve := by have h := VE.out; rw [if_pos rfl] at h; exact h.symm
    have HVE := Lib.hid hve
    have y6 := K6.lt 0 rfl
    have K7 := ((K6.cons (a := ⟨w1.heap.size, 0, none⟩) HTB.out.1 c0 z0).set (p := []) (.int .i64 (ver + 1)) (Nat.le_trans (by have := HRL.out; omega) HBP.out) (by
      intro c hc e
      have e2 := congrArg Addr.block e
      have h3 := HRL.out
      have h4 := HBP.out
      simp only [List.nil_append, List.mem_cons, List.not_mem_nil, or_false] at hc
      rcases hc with rfl | rfl | rfl | rfl | rfl | rfl | rfl | rfl | rfl | rfl | rfl <;> (simp only at e2; omega))).sub (l' := [(⟨w.heap.size + 1 + 1, 0, none⟩, .int .i64 0), (⟨w.heap.size + 1 + 1, 1, none⟩, .slice none 0 0)]) (by intro p9 hp9; simp only [List.mem_cons, List.not_mem_nil, or_false] at hp9; rcases hp9 with rfl | rfl <;> simp)
    have K8 := K7.set2 (.int .i64 (ver + 1)) (.slice ao6 l'.length c6) (by omega) (by simp)
    have m0 := K8.get 0 rfl
    have m1 := K8.get 1 rfl
    have n0 := K7.get 0 rfl
    have n1 := K7.get 1 rfl
    have o0 := K7.fz 0 rfl
    have o1 := K7.fz 1 rfl
    have HB8 := Lib.hid K8.1
    have S8 := Lib.hid (((HTB.out.2.2.2.2.2.1.set ⟨w1.heap.size, 0, none⟩ (.int .i64 (ver + 1)) (fun k hk e => HTB.out.2.2.2.2.2.2.2 (by have e' : k = w1.heap.size := e; rw [← e']; exact hk))).set ⟨w.heap.size + 1 + 1, 0, none⟩ (.int .i64 (ver + 1)) (fun k hk e => by have h1 := HF.out k hk; have h2 := HRL.out; have e' : k = w.heap.size + 1 + 1 := e; omega)).set ⟨w.heap.size + 1 + 1, 1, none⟩ (.slice ao6 l'.length c6) (fun k hk e => by have h1 := HF.out k hk; have h2 := HRL.out; have e' : k = w.heap.size + 1 + 1 := e; omega))
    have HF8 := Lib.hid (show ∀ k ∈ fp', w.heap.size ≤ k from fun k hk => by have h1 := HF.out k hk; have h2 := HRL.out; omega)
    clear K6 K7 K8 hve
    go_wp2
    exact bodyPost_ret (v := .tuple #[.agg #[.int .i64 (ver + 1), .slice ao6 l'.length c6], .int .i64 0]) (by simp [results, Try.results17, go_sem, m0, m1, y6]) rfl ⟨.slice ao6 l'.length c6, fp', by rw [← EV.out, ← EQ.out, ← HVE.out], by rw [← EL.out]; exact S8.out, HTB.out.2.2.2.2.2.2.1, HF8.out, HB8.out⟩
  · have hqb : (q == 0) = false := beq_eq_false_iff_ne.2 hq0
    have hve : ver = ve := by have h := VE.out; rw [if_neg hq0] at h; exact h.symm
    have HVE := Lib.hid hve
    have HQ := Lib.hid hq0
    have y6 := K6.lt 0 rfl
    have K8 := (K6.sub (l' := [(⟨w.heap.size + 1 + 1, 0, none⟩, .int .i64 0), (⟨w.heap.size + 1 + 1, 1, none⟩, .slice none 0 0)]) (by intro p9 hp9; simp only [List.mem_cons, List.not_mem_nil, or_false] at hp9; rcases hp9 with rfl | rfl <;> simp)).set2 (.int .i64 ver) (.slice ao6 l'.length c6) (by omega) (by simp)
    have m0 := K8.get 0 rfl
    have m1 := K8.get 1 rfl
    have HB8 := Lib.hid K8.1
    have S8 := Lib.hid ((HTB.out.2.2.2.2.2.1.set ⟨w.heap.size + 1 + 1, 0, none⟩ (.int .i64 ver) (fun k hk e => by have h1 := HF.out k hk; have h2 := HRL.out; have e' : k = w.heap.size + 1 + 1 := e; omega)).set ⟨w.heap.size + 1 + 1, 1, none⟩ (.slice ao6 l'.length c6) (fun k hk e => by have h1 := HF.out k hk; have h2 := HRL.out; have e' : k = w.heap.size + 1 + 1 := e; omega))
    have HF8 := Lib.hid (show ∀ k ∈ fp', w.heap.size ≤ k from fun k hk => by have h1 := HF.out k hk; have h2 := HRL.out; omega)
    clear K6 K8 hve hq0
    go_wp2
    exact bodyPost_ret (v := .tuple #[.agg #[.int .i64 ver, .slice ao6 l'.length c6], .int .i64 q]) (by simp [results, Try.results17, go_sem, m0, m1, y6]) rfl ⟨.slice ao6 l'.length c6, fp', by rw [← EV.out, ← EQ.out, ← HVE.out], by rw [← EL.out]; exact S8.out, HTB.out.2.2.2.2.2.2.1, HF8.out, HB8.out⟩

set_option maxRecDepth 8000 in
set_option maxHeartbeats 6400000 in
theorem impl_apc2 (ver : Int) (b i g y x : Int) (nl : Bool) (ao : Option Addr) (n cap : Nat) (l : List Blk) (w : World) (hl : l.length = n) (hn : n ≤ 1048576) (hr : ∀ k, k < n → (Bn l k).rows.length ≤ 1048576) (hw : WfB n (Bn l)) (hV : BlksVal w ao l) (hS : BlksSrc w ao l) (hG : TblOk ver l l.length ∧ ChOk ⟨2, b, ⟨i, g, y, x, nl⟩⟩ ∧ ver ≠ 99) :
    Calls Try.prog 17 #[.agg #[.int .i64 ver, .slice ao n cap], .agg #[.int .i64 2, .int .i64 b, .int .i64 i, .int .i64 g, .int .i64 y, .int .i64 x, .bool nl]] w (ApcPost ver l ⟨2, b, ⟨i, g, y, x, nl⟩⟩ w) := by
  have TC := Lib.hid (fun w hS => impl_tcopy ver ao n cap l w hl hn hr hS)
  have TV := Lib.hid (fun w hV => impl_tv ver ao n cap l w hl hn hr hw hV)
  have IV := Lib.hid (fun w => impl_ivc ⟨2, b, ⟨i, g, y, x, nl⟩⟩ w)
  have HV := Lib.hid hV
  have HS := Lib.hid hS
  have HL := Lib.hid hl
  have HG := Lib.hid hG
  clear hV hS hl hn hr hw hG
  go_enter Try.func17, Try.ntmps17
  have K0 := (((Kept.start w).alloc2 (.int .i64 ver) (.slice ao n cap) 32 _ rfl).alloc7 (.int .i64 2) (.int .i64 b) (.int .i64 i) (.int .i64 g) (.int .i64 y) (.int .i64 x) (.bool nl) 38 (w.heap.size + 1) (by simp)).alloc2 (.int .i64 0) (.slice none 0 0) 32 (w.heap.size + 1 + 1) (by simp)
  go_upto_region 1 with fail
  obtain ⟨W0, hW0⟩ : ∃ W0, W0 = (((w.alloc (.cells #[.int .i64 ver, .slice ao n cap] 32)).alloc (.cells #[.int .i64 2, .int .i64 b, .int .i64 i, .int .i64 g, .int .i64 y, .int .i64 x, .bool nl] 38)).alloc (.cells #[.int .i64 0, .slice none 0 0] 32)) := ⟨_, rfl⟩
  rw [← hW0] at K0 ⊢
  clear hW0
  have t0 := K0.get 9 rfl
  have t1 := K0.get 10 rfl
  go_wp2_with fail
  refine (TC.out _ (HS.out.keep K0.1)).mono ?_
  rintro e w1 ⟨v, f, rfl, hO, hb⟩
  obtain ⟨ao', cap', rfl⟩ := hO.shape
  have K1 := K0.step hb
  have HO := Lib.hid hO
  have HW1 := Lib.hid hb
  have HK0 := Lib.hid K0
  clear hb hO t0 t1 K0
  have K2 := K1.alloc2 (.int .i64 ver) (.slice ao' l.length cap') 32 w1.heap.size rfl
  have HO2 := Lib.hid (show Below w1.heap.size w1 (w1.alloc (.cells #[.int .i64 ver, .slice ao' l.length cap'] 32)) from (Below.refl _ _).alloc (Nat.le_refl _) _)
  have q0 := K2.get 11 rfl
  have q1 := K2.get 12 rfl
  go_upto_region 2 with fail
  obtain ⟨w2, hw2⟩ : ∃ w2, w2 = w1.alloc (.cells #[.int .i64 ver, .slice ao' l.length cap'] 32) := ⟨_, rfl⟩
  rw [← hw2] at K2 HO2 q0 q1 ⊢
  clear hw2 K1
  try clear t0
  try clear t1
  go_wp2_with fail
  refine (TV.out _ (HV.out.below K2.1)).mono ?_
  rintro e w3 ⟨tv, htv, rfl, hb⟩
  have K3 := K2.step hb
  have ETV := Lib.hid htv
  have HO3 := Lib.hid (HO2.out.trans (hb.mono HO2.out.size))
  clear hb htv q0 q1 K2
  obtain rfl : tv = true := ETV.out.2 (by rw [← HL.out]; exact HG.out.1)
  have r0 := K3.get 4 rfl
  have r1 := K3.get 5 rfl
  have r2 := K3.get 6 rfl
  have r3 := K3.get 7 rfl
  have r4 := K3.get 8 rfl
  have r5 := K3.get 9 rfl
  have r6 := K3.get 10 rfl
  go_wp2_with fail
  refine (IV.out _).mono ?_
  rintro e w4 ⟨⟨iv, hiv, rfl⟩, hb⟩
  have K4 := K3.step hb
  have EIV := Lib.hid hiv
  have HO4 := Lib.hid (HO3.out.trans (hb.mono HO3.out.size))
  clear hb hiv r0 r1 r2 r3 r4 r5 r6 K3
  obtain rfl : iv = true := EIV.out.2 HG.out.2.1
  have hvb : (ver == 99) = false := beq_eq_false_iff_ne.2 HG.out.2.2
  have q0 := K4.get 11 rfl
  have r0 := K4.get 4 rfl
  have r1 := K4.get 5 rfl
  have r2 := K4.get 6 rfl
  have r3 := K4.get 7 rfl
  have r4 := K4.get 8 rfl
  have r5 := K4.get 9 rfl
  have r6 := K4.get 10 rfl
  have KD := Lib.hid (fun w => impl_kind2 b i g y x nl w)
  have P := meth_pf2
  have PF := Lib.hid (fun w5 hK => impl_pfo2 ver b i g y x nl w1.heap.size (.slice ao' l.length cap') l f W0 w5 HG.out.1 HG.out.2.1 HG.out.2.2 hK HW1.out.size)
  go_wp2_with fail
  refine (KD.out _).mono ?_
  rintro e w5 ⟨rfl, hb⟩
  have K5 := K4.step hb
  have HO5 := Lib.hid (HO4.out.trans (hb.mono HO4.out.size))
  have KBT := Lib.hid (KB.fresh (W := W0) (L := TBL w1.heap.size ver (.slice ao' l.length cap')) HO.out HO5.out ⟨HW1.out.trans (HO5.out.mono HW1.out.size), fun p hp => by
    simp only [TBL, List.mem_cons, List.not_mem_nil, or_false] at hp
    rcases hp with rfl | rfl
    · exact ⟨K5.lt 0 rfl, K5.get 0 rfl, K5.fz 0 rfl⟩
    · exact ⟨K5.lt 1 rfl, K5.get 1 rfl, K5.fz 1 rfl⟩⟩ (fun p hp => by
    simp only [TBL, List.mem_cons, List.not_mem_nil, or_false] at hp
    rcases hp with rfl | rfl <;> exact Nat.le_refl _))
  clear hb q0 r0 r1 r2 r3 r4 r5 r6 K4 K5 hvb
  go_wp2_with fail
  refine (PF.out _ KBT.out).mono ?_
  rintro e w6 ⟨v', fp', rfl, hTB, hf', hbel⟩
  have VE := Lib.hid (applyC_ver HG.out)
  have K6 := HK0.out.step hbel
  have HRL := Lib.hid (show w.heap.size + 1 + 1 < W0.heap.size from HK0.out.lt 0 rfl)
  obtain ⟨ao6, c6, rfl⟩ := hTB.2.2.2.2.2.1.val
  have HTB := Lib.hid hTB
  have HF := Lib.hid hf'
  have HBP := Lib.hid (show W0.heap.size ≤ w1.heap.size from HW1.out.size)
  have c0 := hTB.2.1
  have z0 := hTB.2.2.1
  have c1 := hTB.2.2.2.1
  have a0 := K6.get 0 rfl
  have a1 := K6.get 1 rfl
  have g0 := K6.fz 0 rfl
  have g1 := K6.fz 1 rfl
  have hv1 : -1000 ≤ ver ∧ ver ≤ 1000 := by have := HG.out.1.1; omega
  obtain ⟨hv1, hv2⟩ := hv1
  obtain ⟨l', hl'⟩ : ∃ l', l' = (applyC ver l ⟨2, b, ⟨i, g, y, x, nl⟩⟩).2.1 := ⟨_, rfl⟩
  obtain ⟨q, hq⟩ : ∃ q, q = (applyC ver l ⟨2, b, ⟨i, g, y, x, nl⟩⟩).2.2 := ⟨_, rfl⟩
  obtain ⟨ve, hve⟩ : ∃ ve, ve = (applyC ver l ⟨2, b, ⟨i, g, y, x, nl⟩⟩).1 := ⟨_, rfl⟩
  have EL := Lib.hid hl'
  rw [← hq]
  have EQ := Lib.hid hq
  have EV := Lib.hid hve
  rw [← hl'] at HTB c1
  rw [← hq] at VE
  rw [← hve] at VE
  clear hTB hf' PF KBT KD P hl' hq hve
  by_cases hq0 : q = 0
  · subst hq0
    have hve : ver + 1 = ve := by have h := VE.out; rw [if_pos rfl] at h; exact h.symm
    have HVE := Lib.hid hve
    have y6 := K6.lt 0 rfl
    have K7 := ((K6.cons (a := ⟨w1.heap.size, 0, none⟩) HTB.out.1 c0 z0).set (p := []) (.int .i64 (ver + 1)) (Nat.le_trans (by have := HRL.out; omega) HBP.out) (by
      intro c hc e
      have e2 := congrArg Addr.block e
      have h3 := HRL.out
      have h4 := HBP.out
      simp only [List.nil_append, List.mem_cons, List.not_mem_nil, or_false] at hc
      rcases hc with rfl | rfl | rfl | rfl | rfl | rfl | rfl | rfl | rfl | rfl | rfl <;> (simp only at e2; omega))).sub (l' := [(⟨w.heap.size + 1 + 1, 0, none⟩, .int .i64 0), (⟨w.heap.size + 1 + 1, 1, none⟩, .slice none 0 0)]) (by intro p9 hp9; simp only [List.mem_cons, List.not_mem_nil, or_false] at hp9; rcases hp9 with rfl | rfl <;> simp)
    have K8 := K7.set2 (.int .i64 (ver + 1)) (.slice ao6 l'.length c6) (by omega) (by simp)
    have m0 := K8.get 0 rfl
    have m1 := K8.get 1 rfl
    have n0 := K7.get 0 rfl
    have n1 := K7.get 1 rfl
    have o0 := K7.fz 0 rfl
    have o1 := K7.fz 1 rfl
    have HB8 := Lib.hid K8.1
    have S8 := Lib.hid (((HTB.out.2.2.2.2.2.1.set ⟨w1.heap.size, 0, none⟩ (.int .i64 (ver + 1)) (fun k hk e => HTB.out.2.2.2.2.2.2.2 (by have e' : k = w1.heap.size := e; rw [← e']; exact hk))).set ⟨w.heap.size + 1 + 1, 0, none⟩ (.int .i64 (ver + 1)) (fun k hk e => by have h1 := HF.out k hk; have h2 := HRL.out; have e' : k = w.heap.size + 1 + 1 := e; omega)).set ⟨w.heap.size + 1 + 1, 1, none⟩ (.slice ao6 l'.length c6) (fun k hk e => by have h1 := HF.out k hk; have h2 := HRL.out; have e' : k = w.heap.size + 1 + 1 := e; omega))
    have HF8 := Lib.hid (show ∀ k ∈ fp', w.heap.size ≤ k from fun k hk => by have h1 := HF.out k hk; have h2 := HRL.out; omega)
    clear K6 K7 K8 hve
    go_wp2
    exact bodyPost_ret (v := .tuple #[.agg #[.int .i64 (ver + 1), .slice ao6 l'.length c6], .int .i64 0]) (by simp [results, Try.results17, go_sem, m0, m1, y6]) rfl ⟨.slice ao6 l'.length c6, fp', by rw [← EV.out, ← EQ.out, ← HVE.out], by rw [← EL.out]; exact S8.out, HTB.out.2.2.2.2.2.2.1, HF8.out, HB8.out⟩
  · have hqb : (q == 0) = false := beq_eq_false_iff_ne.2 hq0
    have hve : ver = ve := by have h := VE.out; rw [if_neg hq0] at h; exact h.symm
    have HVE := Lib.hid hve
    have HQ := Lib.hid hq0
    have y6 := K6.lt 0 rfl
    have K8 := (K6.sub (l' := [(⟨w.heap.size + 1 + 1, 0, none⟩, .int .i64 0), (⟨w.heap.size + 1 + 1, 1, none⟩, .slice none 0 0)]) (by intro p9 hp9; simp only [List.mem_cons, List.not_mem_nil, or_false] at hp9; rcases hp9 with rfl | rfl <;> simp)).set2 (.int .i64 ver) (.slice ao6 l'.length c6) (by omega) (by simp)
    have m0 := K8.get 0 rfl
    have m1 := K8.get 1 rfl
    have HB8 := Lib.hid K8.1
    have S8 := Lib.hid ((HTB.out.2.2.2.2.2.1.set ⟨w.heap.size + 1 + 1, 0, none⟩ (.int .i64 ver) (fun k hk e => by have h1 := HF.out k hk; have h2 := HRL.out; have e' : k = w.heap.size + 1 + 1 := e; omega)).set ⟨w.heap.size + 1 + 1, 1, none⟩ (.slice ao6 l'.length c6) (fun k hk e => by have h1 := HF.out k hk; have h2 := HRL.out; have e' : k = w.heap.size + 1 + 1 := e; omega))
    have HF8 := Lib.hid (show ∀ k ∈ fp', w.heap.size ≤ k from fun k hk => by have h1 := HF.out k hk; have h2 := HRL.out; omega)
    clear K6 K8 hve hq0
    go_wp2
    exact bodyPost_ret (v := .tuple #[.agg #[.int .i64 ver, .slice ao6 l'.length c6], .int .i64 q]) (by simp [results, Try.results17, go_sem, m0, m1, y6]) rfl ⟨.slice ao6 l'.length c6, fp', by rw [← EV.out, ← EQ.out, ← HVE.out], by rw [← EL.out]; exact S8.out, HTB.out.2.2.2.2.2.2.1, HF8.out, HB8.out⟩

set_option maxRecDepth 8000 in
set_option maxHeartbeats 6400000 in
theorem impl_apc3 (ver : Int) (b i g y x : Int) (nl : Bool) (ao : Option Addr) (n cap : Nat) (l : List Blk) (w : World) (hl : l.length = n) (hn : n ≤ 1048576) (hr : ∀ k, k < n → (Bn l k).rows.length ≤ 1048576) (hw : WfB n (Bn l)) (hV : BlksVal w ao l) (hS : BlksSrc w ao l) (hG : TblOk ver l l.length ∧ ChOk ⟨3, b, ⟨i, g, y, x, nl⟩⟩ ∧ ver ≠ 99) :
    Calls Try.prog 17 #[.agg #[.int .i64 ver, .slice ao n cap], .agg #[.int .i64 3, .int .i64 b, .int .i64 i, .int .i64 g, .int .i64 y, .int .i64 x, .bool nl]] w (ApcPost ver l ⟨3, b, ⟨i, g, y, x, nl⟩⟩ w) := by
  have TC := Lib.hid (fun w hS => impl_tcopy ver ao n cap l w hl hn hr hS)
  have TV := Lib.hid (fun w hV => impl_tv ver ao n cap l w hl hn hr hw hV)
  have IV := Lib.hid (fun w => impl_ivc ⟨3, b, ⟨i, g, y, x, nl⟩⟩ w)
  have HV := Lib.hid hV
  have HS := Lib.hid hS
  have HL := Lib.hid hl
  have HG := Lib.hid hG
  clear hV hS hl hn hr hw hG
  go_enter Try.func17, Try.ntmps17
  have K0 := (((Kept.start w).alloc2 (.int .i64 ver) (.slice ao n cap) 32 _ rfl).alloc7 (.int .i64 3) (.int .i64 b) (.int .i64 i) (.int .i64 g) (.int .i64 y) (.int .i64 x) (.bool nl) 38 (w.heap.size + 1) (by simp)).alloc2 (.int .i64 0) (.slice none 0 0) 32 (w.heap.size + 1 + 1) (by simp)
  go_upto_region 1 with fail
  obtain ⟨W0, hW0⟩ : ∃ W0, W0 = (((w.alloc (.cells #[.int .i64 ver, .slice ao n cap] 32)).alloc (.cells #[.int .i64 3, .int .i64 b, .int .i64 i, .int .i64 g, .int .i64 y, .int .i64 x, .bool nl] 38)).alloc (.cells #[.int .i64 0, .slice none 0 0] 32)) := ⟨_, rfl⟩
  rw [← hW0] at K0 ⊢
  clear hW0
  have t0 := K0.get 9 rfl
  have t1 := K0.get 10 rfl
  go_wp2_with fail
  refine (TC.out _ (HS.out.keep K0.1)).mono ?_
  rintro e w1 ⟨v, f, rfl, hO, hb⟩
  obtain ⟨ao', cap', rfl⟩ := hO.shape
  have K1 := K0.step hb
  have HO := Lib.hid hO
  have HW1 := Lib.hid hb
  have HK0 := Lib.hid K0
  clear hb hO t0 t1 K0
  have K2 := K1.alloc2 (.int .i64 ver) (.slice ao' l.length cap') 32 w1.heap.size rfl
  have HO2 := Lib.hid (show Below w1.heap.size w1 (w1.alloc (.cells #[.int .i64 ver, .slice ao' l.length cap'] 32)) from (Below.refl _ _).alloc (Nat.le_refl _) _)
  have q0 := K2.get 11 rfl
  have q1 := K2.get 12 rfl
  go_upto_region 2 with fail
  obtain ⟨w2, hw2⟩ : ∃ w2, w2 = w1.alloc (.cells #[.int .i64 ver, .slice ao' l.length cap'] 32) := ⟨_, rfl⟩
  rw [← hw2] at K2 HO2 q0 q1 ⊢
  clear hw2 K1
  try clear t0
  try clear t1
  go_wp2_with fail
  refine (TV.out _ (HV.out.below K2.1)).mono ?_
  rintro e w3 ⟨tv, htv, rfl, hb⟩
  have K3 := K2.step hb
  have ETV := Lib.hid htv
  have HO3 := Lib.hid (HO2.out.trans (hb.mono HO2.out.size))
  clear hb htv q0 q1 K2
  obtain rfl : tv = true := ETV.out.2 (by rw [← HL.out]; exact HG.out.1)
  have r0 := K3.get 4 rfl
  have r1 := K3.get 5 rfl
  have r2 := K3.get 6 rfl
  have r3 := K3.get 7 rfl
  have r4 := K3.get 8 rfl
  have r5 := K3.get 9 rfl
  have r6 := K3.get 10 rfl
  go_wp2_with fail
  refine (IV.out _).mono ?_
  rintro e w4 ⟨⟨iv, hiv, rfl⟩, hb⟩
  have K4 := K3.step hb
  have EIV := Lib.hid hiv
  have HO4 := Lib.hid (HO3.out.trans (hb.mono HO3.out.size))
  clear hb hiv r0 r1 r2 r3 r4 r5 r6 K3
  obtain rfl : iv = true := EIV.out.2 HG.out.2.1
  have hvb : (ver == 99) = false := beq_eq_false_iff_ne.2 HG.out.2.2
  have q0 := K4.get 11 rfl
  have r0 := K4.get 4 rfl
  have r1 := K4.get 5 rfl
  have r2 := K4.get 6 rfl
  have r3 := K4.get 7 rfl
  have r4 := K4.get 8 rfl
  have r5 := K4.get 9 rfl
  have r6 := K4.get 10 rfl
  have KD := Lib.hid (fun w => impl_kind3 b i g y x nl w)
  have P := meth_pf3
  have PF := Lib.hid (fun w5 hK => impl_pfo3 ver b i g y x nl w1.heap.size (.slice ao' l.length cap') l f W0 w5 HG.out.1 HG.out.2.1 HG.out.2.2 hK HW1.out.size)
  go_wp2_with fail
  refine (KD.out _).mono ?_
  rintro e w5 ⟨rfl, hb⟩
  have K5 := K4.step hb
  have HO5 := Lib.hid (HO4.out.trans (hb.mono HO4.out.size))
  have KBT := Lib.hid (KB.fresh (W := W0) (L := TBL w1.heap.size ver (.slice ao' l.length cap')) HO.out HO5.out ⟨HW1.out.trans (HO5.out.mono HW1.out.size), fun p hp => by
    simp only [TBL, List.mem_cons, List.not_mem_nil, or_false] at hp
    rcases hp with rfl | rfl
    · exact ⟨K5.lt 0 rfl, K5.get 0 rfl, K5.fz 0 rfl⟩
    · exact ⟨K5.lt 1 rfl, K5.get 1 rfl, K5.fz 1 rfl⟩⟩ (fun p hp => by
    simp only [TBL, List.mem_cons, List.not_mem_nil, or_false] at hp
    rcases hp with rfl | rfl <;> exact Nat.le_refl _))
  clear hb q0 r0 r1 r2 r3 r4 r5 r6 K4 K5 hvb
  go_wp2_with fail
  refine (PF.out _ KBT.out).mono ?_
  rintro e w6 ⟨v', fp', rfl, hTB, hf', hbel⟩
  have VE := Lib.hid (applyC_ver HG.out)
  have K6 := HK0.out.step hbel
  have HRL := Lib.hid (show w.heap.size + 1 + 1 < W0.heap.size from HK0.out.lt 0 rfl)
  obtain ⟨ao6, c6, rfl⟩ := hTB.2.2.2.2.2.1.val
  have HTB := Lib.hid hTB
  have HF := Lib.hid hf'
  have HBP := Lib.hid (show W0.heap.size ≤ w1.heap.size from HW1.out.size)
  have c0 := hTB.2.1
  have z0 := hTB.2.2.1
  have c1 := hTB.2.2.2.1
  have a0 := K6.get 0 rfl
  have a1 := K6.get 1 rfl
  have g0 := K6.fz 0 rfl
  have g1 := K6.fz 1 rfl
  have hv1 : -1000 ≤ ver ∧ ver ≤ 1000 := by have := HG.out.1.1; omega
  obtain ⟨hv1, hv2⟩ := hv1
  obtain ⟨l', hl'⟩ : ∃ l', l' = (applyC ver l ⟨3, b, ⟨i, g, y, x, nl⟩⟩).2.1 := ⟨_, rfl⟩
  obtain ⟨q, hq⟩ : ∃ q, q = (applyC ver l ⟨3, b, ⟨i, g, y, x, nl⟩⟩).2.2 := ⟨_, rfl⟩
  obtain ⟨ve, hve⟩ : ∃ ve, ve = (applyC ver l ⟨3, b, ⟨i, g, y, x, nl⟩⟩).1 := ⟨_, rfl⟩
  have EL := Lib.hid hl'
  rw [← hq]
  have EQ := Lib.hid hq
  have EV := Lib.hid hve
  rw [← hl'] at HTB c1
  rw [← hq] at VE
  rw [← hve] at VE
  clear hTB hf' PF KBT KD P hl' hq hve
  by_cases hq0 : q = 0
  · subst hq0
    have hve : ver + 1 = ve := by have h := VE.out; rw [if_pos rfl] at h; exact h.symm
    have HVE := Lib.hid hve
    have y6 := K6.lt 0 rfl
    have K7 := ((K6.cons (a := ⟨w1.heap.size, 0, none⟩) HTB.out.1 c0 z0).set (p := []) (.int .i64 (ver + 1)) (Nat.le_trans (by have := HRL.out; omega) HBP.out) (by
      intro c hc e
      have e2 := congrArg Addr.block e
      have h3 := HRL.out
      have h4 := HBP.out
      simp only [List.nil_append, List.mem_cons, List.not_mem_nil, or_false] at hc
      rcases hc with rfl | rfl | rfl | rfl | rfl | rfl | rfl | rfl | rfl | rfl | rfl <;> (simp only at e2; omega))).sub (l' := [(⟨w.heap.size + 1 + 1, 0, none⟩, .int .i64 0), (⟨w.heap.size + 1 + 1, 1, none⟩, .slice none 0 0)]) (by intro p9 hp9; simp only [List.mem_cons, List.not_mem_nil, or_false] at hp9; rcases hp9 with rfl | rfl <;> simp)
    have K8 := K7.set2 (.int .i64 (ver + 1)) (.slice ao6 l'.length c6) (by omega) (by simp)
    have m0 := K8.get 0 rfl
    have m1 := K8.get 1 rfl
    have n0 := K7.get 0 rfl
    have n1 := K7.get 1 rfl
    have o0 := K7.fz 0 rfl
    have o1 := K7.fz 1 rfl
    have HB8 := Lib.hid K8.1
    have S8 := Lib.hid (((HTB.out.2.2.2.2.2.1.set ⟨w1.heap.size, 0, none⟩ (.int .i64 (ver + 1)) (fun k hk e => HTB.out.2.2.2.2.2.2.2 (by have e' : k = w1.heap.size := e; rw [← e']; exact hk))).set ⟨w.heap.size + 1 + 1, 0, none⟩ (.int .i64 (ver + 1)) (fun k hk e => by have h1 := HF.out k hk; have h2 := HRL.out; have e' : k = w.heap.size + 1 + 1 := e; omega)).set ⟨w.heap.size + 1 + 1, 1, none⟩ (.slice ao6 l'.length c6) (fun k hk e => by have h1 := HF.out k hk; have h2 := HRL.out; have e' : k = w.heap.size + 1 + 1 := e; omega))
    have HF8 := Lib.hid (show ∀ k ∈ fp', w.heap.size ≤ k from fun k hk => by have h1 := HF.out k hk; have h2 := HRL.out; omega)
    clear K6 K7 K8 hve
    go_wp2
    exact bodyPost_ret (v := .tuple #[.agg #[.int .i64 (ver + 1), .slice ao6 l'.length c6], .int .i64 0]) (by simp [results, Try.results17, go_sem, m0, m1, y6]) rfl ⟨.slice ao6 l'.length c6, fp', by rw [← EV.out, ← EQ.out, ← HVE.out], by rw [← EL.out]; exact S8.out, HTB.out.2.2.2.2.2.2.1, HF8.out, HB8.out⟩
  · have hqb : (q == 0) = false := beq_eq_false_iff_ne.2 hq0
    have hve : ver = ve := by have h := VE.out; rw [if_neg hq0] at h; exact h.symm
    have HVE := Lib.hid hve
    have HQ := Lib.hid hq0
    have y6 := K6.lt 0 rfl
    have K8 := (K6.sub (l' := [(⟨w.heap.size + 1 + 1, 0, none⟩, .int .i64 0), (⟨w.heap.size + 1 + 1, 1, none⟩, .slice none 0 0)]) (by intro p9 hp9; simp only [List.mem_cons, List.not_mem_nil, or_false] at hp9; rcases hp9 with rfl | rfl <;> simp)).set2 (.int .i64 ver) (.slice ao6 l'.length c6) (by omega) (by simp)
    have m0 := K8.get 0 rfl
    have m1 := K8.get 1 rfl
    have HB8 := Lib.hid K8.1
    have S8 := Lib.hid ((HTB.out.2.2.2.2.2.1.set ⟨w.heap.size + 1 + 1, 0, none⟩ (.int .i64 ver) (fun k hk e => by have h1 := HF.out k hk; have h2 := HRL.out; have e' : k = w.heap.size + 1 + 1 := e; omega)).set ⟨w.heap.size + 1 + 1, 1, none⟩ (.slice ao6 l'.length c6) (fun k hk e => by have h1 := HF.out k hk; have h2 := HRL.out; have e' : k = w.heap.size + 1 + 1 := e; omega))
    have HF8 := Lib.hid (show ∀ k ∈ fp', w.heap.size ≤ k from fun k hk => by have h1 := HF.out k hk; have h2 := HRL.out; omega)
    clear K6 K8 hve hq0
    go_wp2
    exact bodyPost_ret (v := .tuple #[.agg #[.int .i64 ver, .slice ao6 l'.length c6], .int .i64 q]) (by simp [results, Try.results17, go_sem, m0, m1, y6]) rfl ⟨.slice ao6 l'.length c6, fp', by rw [← EV.out, ← EQ.out, ← HVE.out], by rw [← EL.out]; exact S8.out, HTB.out.2.2.2.2.2.2.1, HF8.out, HB8.out⟩

set_option maxRecDepth 8000 in
set_option maxHeartbeats 6400000 in
theorem impl_apc4 (ver : Int) (b i g y x : Int) (nl : Bool) (ao : Option Addr) (n cap : Nat) (l : List Blk) (w : World) (hl : l.length = n) (hn : n ≤ 1048576) (hr : ∀ k, k < n → (Bn l k).rows.length ≤ 1048576) (hw : WfB n (Bn l)) (hV : BlksVal w ao l) (hS : BlksSrc w ao l) (hG : TblOk ver l l.length ∧ ChOk ⟨4, b, ⟨i, g, y, x, nl⟩⟩ ∧ ver ≠ 99) :
    Calls Try.prog 17 #[.agg #[.int .i64 ver, .slice ao n cap], .agg #[.int .i64 4, .int .i64 b, .int .i64 i, .int .i64 g, .int .i64 y, .int .i64 x, .bool nl]] w (ApcPost ver l ⟨4, b, ⟨i, g, y, x, nl⟩⟩ w) := by
  have TC := Lib.hid (fun w hS => impl_tcopy ver ao n cap l w hl hn hr hS)
  have TV := Lib.hid (fun w hV => impl_tv ver ao n cap l w hl hn hr hw hV)
  have IV := Lib.hid (fun w => impl_ivc ⟨4, b, ⟨i, g, y, x, nl⟩⟩ w)
  have HV := Lib.hid hV
  have HS := Lib.hid hS
  have HL := Lib.hid hl
  have HG := Lib.hid hG
  clear hV hS hl hn hr hw hG
  go_enter Try.func17, Try.ntmps17
  have K0 := (((Kept.start w).alloc2 (.int .i64 ver) (.slice ao n cap) 32 _ rfl).alloc7 (.int .i64 4) (.int .i64 b) (.int .i64 i) (.int .i64 g) (.int .i64 y) (.int .i64 x) (.bool nl) 38 (w.heap.size + 1) (by simp)).alloc2 (.int .i64 0) (.slice none 0 0) 32 (w.heap.size + 1 + 1) (by simp)
  go_upto_region 1 with fail
  obtain ⟨W0, hW0⟩ : ∃ W0, W0 = (((w.alloc (.cells #[.int .i64 ver, .slice ao n cap] 32)).alloc (.cells #[.int .i64 4, .int .i64 b, .int .i64 i, .int .i64 g, .int .i64 y, .int .i64 x, .bool nl] 38)).alloc (.cells #[.int .i64 0, .slice none 0 0] 32)) := ⟨_, rfl⟩
  rw [← hW0] at K0 ⊢
  clear hW0
  have t0 := K0.get 9 rfl
  have t1 := K0.get 10 rfl
  go_wp2_with fail
  refine (TC.out _ (HS.out.keep K0.1)).mono ?_
  rintro e w1 ⟨v, f, rfl, hO, hb⟩
  obtain ⟨ao', cap', rfl⟩ := hO.shape
  have K1 := K0.step hb
  have HO := Lib.hid hO
  have HW1 := Lib.hid hb
  have HK0 := Lib.hid K0
  clear hb hO t0 t1 K0
  have K2 := K1.alloc2 (.int .i64 ver) (.slice ao' l.length cap') 32 w1.heap.size rfl
  have HO2 := Lib.hid (show Below w1.heap.size w1 (w1.alloc (.cells #[.int .i64 ver, .slice ao' l.length cap'] 32)) from (Below.refl _ _).alloc (Nat.le_refl _) _)
  have q0 := K2.get 11 rfl
  have q1 := K2.get 12 rfl
  go_upto_region 2 with fail
  obtain ⟨w2, hw2⟩ : ∃ w2, w2 = w1.alloc (.cells #[.int .i64 ver, .slice ao' l.length cap'] 32) := ⟨_, rfl⟩
  rw [← hw2] at K2 HO2 q0 q1 ⊢
  clear hw2 K1
  try clear t0
  try clear t1
  go_wp2_with fail
  refine (TV.out _ (HV.out.below K2.1)).mono ?_
  rintro e w3 ⟨tv, htv, rfl, hb⟩
  have K3 := K2.step hb
  have ETV := Lib.hid htv
  have HO3 := Lib.hid (HO2.out.trans (hb.mono HO2.out.size))
  clear hb htv q0 q1 K2
  obtain rfl : tv = true := ETV.out.2 (by rw [← HL.out]; exact HG.out.1)
  have r0 := K3.get 4 rfl
  have r1 := K3.get 5 rfl
  have r2 := K3.get 6 rfl
  have r3 := K3.get 7 rfl
  have r4 := K3.get 8 rfl
  have r5 := K3.get 9 rfl
  have r6 := K3.get 10 rfl
  go_wp2_with fail
  refine (IV.out _).mono ?_
  rintro e w4 ⟨⟨iv, hiv, rfl⟩, hb⟩
  have K4 := K3.step hb
  have EIV := Lib.hid hiv
  have HO4 := Lib.hid (HO3.out.trans (hb.mono HO3.out.size))
  clear hb hiv r0 r1 r2 r3 r4 r5 r6 K3
  obtain rfl : iv = true := EIV.out.2 HG.out.2.1
  have hvb : (ver == 99) = false := beq_eq_false_iff_ne.2 HG.out.2.2
  have q0 := K4.get 11 rfl
  have r0 := K4.get 4 rfl
  have r1 := K4.get 5 rfl
  have r2 := K4.get 6 rfl
  have r3 := K4.get 7 rfl
  have r4 := K4.get 8 rfl
  have r5 := K4.get 9 rfl
  have r6 := K4.get 10 rfl
  have KD := Lib.hid (fun w => impl_kind4 b i g y x nl w)
  have P := meth_pf4
  have PF := Lib.hid (fun w5 hK => impl_pfo4 ver b i g y x nl w1.heap.size (.slice ao' l.length cap') l f W0 w5 HG.out.1 HG.out.2.1 HG.out.2.2 hK HW1.out.size)
  go_wp2_with fail
  refine (KD.out _).mono ?_
  rintro e w5 ⟨rfl, hb⟩
  have K5 := K4.step hb
  have HO5 := Lib.hid (HO4.out.trans (hb.mono HO4.out.size))
  have KBT := Lib.hid (KB.fresh (W := W0) (L := TBL w1.heap.size ver (.slice ao' l.length cap')) HO.out HO5.out ⟨HW1.out.trans (HO5.out.mono HW1.out.size), fun p hp => by
    simp only [TBL, List.mem_cons, List.not_mem_nil, or_false] at hp
    rcases hp with rfl | rfl
    · exact ⟨K5.lt 0 rfl, K5.get 0 rfl, K5.fz 0 rfl⟩
    · exact ⟨K5.lt 1 rfl, K5.get 1 rfl, K5.fz 1 rfl⟩⟩ (fun p hp => by
    simp only [TBL, List.mem_cons, List.not_mem_nil, or_false] at hp
    rcases hp with rfl | rfl <;> exact Nat.le_refl _))
  clear hb q0 r0 r1 r2 r3 r4 r5 r6 K4 K5 hvb
  go_wp2_with fail
  refine (PF.out _ KBT.out).mono ?_
  rintro e w6 ⟨v', fp', rfl, hTB, hf', hbel⟩
  have VE := Lib.hid (applyC_ver HG.out)
  have K6 := HK0.out.step hbel
  have HRL := Lib.hid (show w.heap.size + 1 + 1 < W0.heap.size from HK0.out.lt 0 rfl)
  obtain ⟨ao6, c6, rfl⟩ := hTB.2.2.2.2.2.1.val
  have HTB := Lib.hid hTB
  have HF := Lib.hid hf'
  have HBP := Lib.hid (show W0.heap.size ≤ w1.heap.size from HW1.out.size)
  have c0 := hTB.2.1
  have z0 := hTB.2.2.1
  have c1 := hTB.2.2.2.1
  have a0 := K6.get 0 rfl
  have a1 := K6.get 1 rfl
  have g0 := K6.fz 0 rfl
  have g1 := K6.fz 1 rfl
  have hv1 : -1000 ≤ ver ∧ ver ≤ 1000 := by have := HG.out.1.1; omega
  obtain ⟨hv1, hv2⟩ := hv1
  obtain ⟨l', hl'⟩ : ∃ l', l' = (applyC ver l ⟨4, b, ⟨i, g, y, x, nl⟩⟩).2.1 := ⟨_, rfl⟩
  obtain ⟨q, hq⟩ : ∃ q, q = (applyC ver l ⟨4, b, ⟨i, g, y, x, nl⟩⟩).2.2 := ⟨_, rfl⟩
  obtain ⟨ve, hve⟩ : ∃ ve, ve = (applyC ver l ⟨4, b, ⟨i, g, y, x, nl⟩⟩).1 := ⟨_, rfl⟩
  have EL := Lib.hid hl'
  rw [← hq]
  have EQ := Lib.hid hq
  have EV := Lib.hid hve
  rw [← hl'] at HTB c1
  rw [← hq] at VE
  rw [← hve] at VE
  clear hTB hf' PF KBT KD P hl' hq hve
  by_cases hq0 : q = 0
  · subst hq0
    have hve : ver + 1 = ve := by have h := VE.out; rw [if_pos rfl] at h; exact h.symm
    have HVE := Lib.hid hve
    have y6 := K6.lt 0 rfl
    have K7 := ((K6.cons (a := ⟨w1.heap.size, 0, none⟩) HTB.out.1 c0 z0).set (p := []) (.int .i64 (ver + 1)) (Nat.le_trans (by have := HRL.out; omega) HBP.out) (by
      intro c hc e
      have e2 := congrArg Addr.block e
      have h3 := HRL.out
      have h4 := HBP.out
      simp only [List.nil_append, List.mem_cons, List.not_mem_nil, or_false] at hc
      rcases hc with rfl | rfl | rfl | rfl | rfl | rfl | rfl | rfl | rfl | rfl | rfl <;> (simp only at e2; omega))).sub (l' := [(⟨w.heap.size + 1 + 1, 0, none⟩, .int .i64 0), (⟨w.heap.size + 1 + 1, 1, none⟩, .slice none 0 0)]) (by intro p9 hp9; simp only [List.mem_cons, List.not_mem_nil, or_false] at hp9; rcases hp9 with rfl | rfl <;> simp)
    have K8 := K7.set2 (.int .i64 (ver + 1)) (.slice ao6 l'.length c6) (by omega) (by simp)
    have m0 := K8.get 0 rfl
    have m1 := K8.get 1 rfl
    have n0 := K7.get 0 rfl
    have n1 := K7.get 1 rfl
    have o0 := K7.fz 0 rfl
    have o1 := K7.fz 1 rfl
    have HB8 := Lib.hid K8.1
    have S8 := Lib.hid (((HTB.out.2.2.2.2.2.1.set ⟨w1.heap.size, 0, none⟩ (.int .i64 (ver + 1)) (fun k hk e => HTB.out.2.2.2.2.2.2.2 (by have e' : k = w1.heap.size := e; rw [← e']; exact hk))).set ⟨w.heap.size + 1 + 1, 0, none⟩ (.int .i64 (ver + 1)) (fun k hk e => by have h1 := HF.out k hk; have h2 := HRL.out; have e' : k = w.heap.size + 1 + 1 := e; omega)).set ⟨w.heap.size + 1 + 1, 1, none⟩ (.slice ao6 l'.length c6) (fun k hk e => by have h1 := HF.out k hk; have h2 := HRL.out; have e' : k = w.heap.size + 1 + 1 := e; omega))
    have HF8 := Lib.hid (show ∀ k ∈ fp', w.heap.size ≤ k from fun k hk => by have h1 := HF.out k hk; have h2 := HRL.out; omega)
    clear K6 K7 K8 hve
    go_wp2
    exact bodyPost_ret (v := .tuple #[.agg #[.int .i64 (ver + 1), .slice ao6 l'.length c6], .int .i64 0]) (by simp [results, Try.results17, go_sem, m0, m1, y6]) rfl ⟨.slice ao6 l'.length c6, fp', by rw [← EV.out, ← EQ.out, ← HVE.out], by rw [← EL.out]; exact S8.out, HTB.out.2.2.2.2.2.2.1, HF8.out, HB8.out⟩
  · have hqb : (q == 0) = false := beq_eq_false_iff_ne.2 hq0
    have hve : ver = ve := by have h := VE.out; rw [if_neg hq0] at h; exact h.symm
    have HVE := Lib.hid hve
    have HQ := Lib.hid hq0
    have y6 := K6.lt 0 rfl
    have K8 := (K6.sub (l' := [(⟨w.heap.size + 1 + 1, 0, none⟩, .int .i64 0), (⟨w.heap.size + 1 + 1, 1, none⟩, .slice none 0 0)]) (by intro p9 hp9; simp only [List.mem_cons, List.not_mem_nil, or_false] at hp9; rcases hp9 with rfl | rfl <;> simp)).set2 (.int .i64 ver) (.slice ao6 l'.length c6) (by omega) (by simp)
    have m0 := K8.get 0 rfl
    have m1 := K8.get 1 rfl
    have HB8 := Lib.hid K8.1
    have S8 := Lib.hid ((HTB.out.2.2.2.2.2.1.set ⟨w.heap.size + 1 + 1, 0, none⟩ (.int .i64 ver) (fun k hk e => by have h1 := HF.out k hk; have h2 := HRL.out; have e' : k = w.heap.size + 1 + 1 := e; omega)).set ⟨w.heap.size + 1 + 1, 1, none⟩ (.slice ao6 l'.length c6) (fun k hk e => by have h1 := HF.out k hk; have h2 := HRL.out; have e' : k = w.heap.size + 1 + 1 := e; omega))
    have HF8 := Lib.hid (show ∀ k ∈ fp', w.heap.size ≤ k from fun k hk => by have h1 := HF.out k hk; have h2 := HRL.out; omega)
    clear K6 K8 hve hq0
    go_wp2
    exact bodyPost_ret (v := .tuple #[.agg #[.int .i64 ver, .slice ao6 l'.length c6], .int .i64 q]) (by simp [results, Try.results17, go_sem, m0, m1, y6]) rfl ⟨.slice ao6 l'.length c6, fp', by rw [← EV.out, ← EQ.out, ← HVE.out], by rw [← EL.out]; exact S8.out, HTB.out.2.2.2.2.2.2.1, HF8.out, HB8.out⟩

set_option maxRecDepth 8000 in
set_option maxHeartbeats 6400000 in
theorem impl_apc0 (ver : Int) (k : Int) (b i g y x : Int) (nl : Bool) (ao : Option Addr) (n cap : Nat) (l : List Blk) (w : World) (hl : l.length = n) (hn : n ≤ 1048576) (hr : ∀ k, k < n → (Bn l k).rows.length ≤ 1048576) (hw : WfB n (Bn l)) (hV : BlksVal w ao l) (hS : BlksSrc w ao l) (hG : ¬ (TblOk ver l l.length ∧ ChOk ⟨k, b, ⟨i, g, y, x, nl⟩⟩ ∧ ver ≠ 99)) :
    Calls Try.prog 17 #[.agg #[.int .i64 ver, .slice ao n cap], .agg #[.int .i64 k, .int .i64 b, .int .i64 i, .int .i64 g, .int .i64 y, .int .i64 x, .bool nl]] w (ApcPost ver l ⟨k, b, ⟨i, g, y, x, nl⟩⟩ w) := by
  have TC := Lib.hid (fun w hS => impl_tcopy ver ao n cap l w hl hn hr hS)
  have TV := Lib.hid (fun w hV => impl_tv ver ao n cap l w hl hn hr hw hV)
  have IV := Lib.hid (fun w => impl_ivc ⟨k, b, ⟨i, g, y, x, nl⟩⟩ w)
  have HV := Lib.hid hV
  have HS := Lib.hid hS
  have HL := Lib.hid hl
  have AN := Lib.hid (applyC_bad hG)
  have HG := Lib.hid hG
  clear hV hS hl hn hr hw hG
  go_enter Try.func17, Try.ntmps17
  have K0 := (((Kept.start w).alloc2 (.int .i64 ver) (.slice ao n cap) 32 _ rfl).alloc7 (.int .i64 k) (.int .i64 b) (.int .i64 i) (.int .i64 g) (.int .i64 y) (.int .i64 x) (.bool nl) 38 (w.heap.size + 1) (by simp)).alloc2 (.int .i64 0) (.slice none 0 0) 32 (w.heap.size + 1 + 1) (by simp)
  go_upto_region 1 with fail
  obtain ⟨W0, hW0⟩ : ∃ W0, W0 = (((w.alloc (.cells #[.int .i64 ver, .slice ao n cap] 32)).alloc (.cells #[.int .i64 k, .int .i64 b, .int .i64 i, .int .i64 g, .int .i64 y, .int .i64 x, .bool nl] 38)).alloc (.cells #[.int .i64 0, .slice none 0 0] 32)) := ⟨_, rfl⟩
  rw [← hW0] at K0 ⊢
  clear hW0
  have t0 := K0.get 9 rfl
  have t1 := K0.get 10 rfl
  go_wp2_with fail
  refine (TC.out _ (HS.out.keep K0.1)).mono ?_
  rintro e w1 ⟨v, f, rfl, hO, hb⟩
  obtain ⟨ao', cap', rfl⟩ := hO.shape
  have K1 := K0.step hb
  have HO := Lib.hid hO
  have HW1 := Lib.hid hb
  have HK0 := Lib.hid K0
  clear hb hO t0 t1 K0
  have K2 := K1.alloc2 (.int .i64 ver) (.slice ao' l.length cap') 32 w1.heap.size rfl
  have HO2 := Lib.hid (show Below w1.heap.size w1 (w1.alloc (.cells #[.int .i64 ver, .slice ao' l.length cap'] 32)) from (Below.refl _ _).alloc (Nat.le_refl _) _)
  have q0 := K2.get 11 rfl
  have q1 := K2.get 12 rfl
  go_upto_region 2 with fail
  obtain ⟨w2, hw2⟩ : ∃ w2, w2 = w1.alloc (.cells #[.int .i64 ver, .slice ao' l.length cap'] 32) := ⟨_, rfl⟩
  rw [← hw2] at K2 HO2 q0 q1 ⊢
  clear hw2 K1
  try clear t0
  try clear t1
  go_wp2_with fail
  refine (TV.out _ (HV.out.below K2.1)).mono ?_
  rintro e w3 ⟨tv, htv, rfl, hb⟩
  have K3 := K2.step hb
  have ETV := Lib.hid htv
  have HO3 := Lib.hid (HO2.out.trans (hb.mono HO2.out.size))
  clear hb htv q0 q1 K2
  cases tv
  · clear HG
    obtain ⟨fp, hs, hf, hnd⟩ := HO.out.rep
    have HRL := Lib.hid (show w.heap.size + 1 + 1 < W0.heap.size from HK0.out.lt 0 rfl)
    have S0 := hs.step HO3.out
    have b0 := K3.get 0 rfl
    have b1 := K3.get 1 rfl
    have a0 := K3.get 2 rfl
    have a1 := K3.get 3 rfl
    have g0 := K3.fz 2 rfl
    have g1 := K3.fz 3 rfl
    have y6 := K3.lt 2 rfl
    have K8 := (K3.sub (l' := [(⟨w.heap.size + 1 + 1, 0, none⟩, .int .i64 0), (⟨w.heap.size + 1 + 1, 1, none⟩, .slice none 0 0)]) (by intro p9 hp9; simp only [List.mem_cons, List.not_mem_nil, or_false] at hp9; rcases hp9 with rfl | rfl <;> simp)).set2 (.int .i64 ver) (.slice ao' l.length cap') (by omega) (by simp)
    have m0 := K8.get 0 rfl
    have m1 := K8.get 1 rfl
    have HB8 := Lib.hid K8.1
    have S8 := Lib.hid ((S0.set ⟨w.heap.size + 1 + 1, 0, none⟩ (.int .i64 ver) (fun k hk e => by have h1 := hf k hk; have h2 := HRL.out; have e' : k = w.heap.size + 1 + 1 := e; omega)).set ⟨w.heap.size + 1 + 1, 1, none⟩ (.slice ao' l.length cap') (fun k hk e => by have h1 := hf k hk; have h2 := HRL.out; have e' : k = w.heap.size + 1 + 1 := e; omega))
    have HF8 := Lib.hid (show ∀ k ∈ fp, w.heap.size ≤ k from fun k hk => by have h1 := hf k hk; have h2 := HRL.out; omega)
    have HND := Lib.hid hnd
    clear K3 K8 hs hf hnd S0
    go_wp2
    exact bodyPost_ret (v := .tuple #[.agg #[.int .i64 ver, .slice ao' l.length cap'], .int .i64 1]) (by simp [results, Try.results17, go_sem, m0, m1, y6]) rfl ⟨.slice ao' l.length cap', fp, by rw [AN.out], by rw [AN.out]; exact S8.out, HND.out, HF8.out, HB8.out⟩
  · have HT := Lib.hid (show TblOk ver l l.length by rw [HL.out]; exact ETV.out.1 rfl)
    have r0 := K3.get 4 rfl
    have r1 := K3.get 5 rfl
    have r2 := K3.get 6 rfl
    have r3 := K3.get 7 rfl
    have r4 := K3.get 8 rfl
    have r5 := K3.get 9 rfl
    have r6 := K3.get 10 rfl
    go_wp2_with fail
    refine (IV.out _).mono ?_
    rintro e w4 ⟨⟨iv, hiv, rfl⟩, hb⟩
    have K4 := K3.step hb
    have EIV := Lib.hid hiv
    have HO4 := Lib.hid (HO3.out.trans (hb.mono HO3.out.size))
    clear hb hiv r0 r1 r2 r3 r4 r5 r6 K3
    cases iv
    · clear HG
      obtain ⟨fp, hs, hf, hnd⟩ := HO.out.rep
      have HRL := Lib.hid (show w.heap.size + 1 + 1 < W0.heap.size from HK0.out.lt 0 rfl)
      have S0 := hs.step HO4.out
      have b0 := K4.get 0 rfl
      have b1 := K4.get 1 rfl
      have a0 := K4.get 2 rfl
      have a1 := K4.get 3 rfl
      have g0 := K4.fz 2 rfl
      have g1 := K4.fz 3 rfl
      have y6 := K4.lt 2 rfl
      have K8 := (K4.sub (l' := [(⟨w.heap.size + 1 + 1, 0, none⟩, .int .i64 0), (⟨w.heap.size + 1 + 1, 1, none⟩, .slice none 0 0)]) (by intro p9 hp9; simp only [List.mem_cons, List.not_mem_nil, or_false] at hp9; rcases hp9 with rfl | rfl <;> simp)).set2 (.int .i64 ver) (.slice ao' l.length cap') (by omega) (by simp)
      have m0 := K8.get 0 rfl
      have m1 := K8.get 1 rfl
      have HB8 := Lib.hid K8.1
      have S8 := Lib.hid ((S0.set ⟨w.heap.size + 1 + 1, 0, none⟩ (.int .i64 ver) (fun k hk e => by have h1 := hf k hk; have h2 := HRL.out; have e' : k = w.heap.size + 1 + 1 := e; omega)).set ⟨w.heap.size + 1 + 1, 1, none⟩ (.slice ao' l.length cap') (fun k hk e => by have h1 := hf k hk; have h2 := HRL.out; have e' : k = w.heap.size + 1 + 1 := e; omega))
      have HF8 := Lib.hid (show ∀ k ∈ fp, w.heap.size ≤ k from fun k hk => by have h1 := hf k hk; have h2 := HRL.out; omega)
      have HND := Lib.hid hnd
      clear K4 K8 hs hf hnd S0
      go_wp2
      exact bodyPost_ret (v := .tuple #[.agg #[.int .i64 ver, .slice ao' l.length cap'], .int .i64 1]) (by simp [results, Try.results17, go_sem, m0, m1, y6]) rfl ⟨.slice ao' l.length cap', fp, by rw [AN.out], by rw [AN.out]; exact S8.out, HND.out, HF8.out, HB8.out⟩
    · have hv99 : ver = 99 := Classical.byContradiction fun h => HG.out ⟨HT.out, EIV.out.1 rfl, h⟩
      have hvb : (ver == 99) = true := by rw [hv99]; rfl
      have HV9 := Lib.hid hv99
      have q0 := K4.get 11 rfl
      clear HG hv99
      obtain ⟨fp, hs, hf, hnd⟩ := HO.out.rep
      have HRL := Lib.hid (show w.heap.size + 1 + 1 < W0.heap.size from HK0.out.lt 0 rfl)
      have S0 := hs.step HO4.out
      have b0 := K4.get 0 rfl
      have b1 := K4.get 1 rfl
      have a0 := K4.get 2 rfl
      have a1 := K4.get 3 rfl
      have g0 := K4.fz 2 rfl
      have g1 := K4.fz 3 rfl
      have y6 := K4.lt 2 rfl
      have K8 := (K4.sub (l' := [(⟨w.heap.size + 1 + 1, 0, none⟩, .int .i64 0), (⟨w.heap.size + 1 + 1, 1, none⟩, .slice none 0 0)]) (by intro p9 hp9; simp only [List.mem_cons, List.not_mem_nil, or_false] at hp9; rcases hp9 with rfl | rfl <;> simp)).set2 (.int .i64 ver) (.slice ao' l.length cap') (by omega) (by simp)
      have m0 := K8.get 0 rfl
      have m1 := K8.get 1 rfl
      have HB8 := Lib.hid K8.1
      have S8 := Lib.hid ((S0.set ⟨w.heap.size + 1 + 1, 0, none⟩ (.int .i64 ver) (fun k hk e => by have h1 := hf k hk; have h2 := HRL.out; have e' : k = w.heap.size + 1 + 1 := e; omega)).set ⟨w.heap.size + 1 + 1, 1, none⟩ (.slice ao' l.length cap') (fun k hk e => by have h1 := hf k hk; have h2 := HRL.out; have e' : k = w.heap.size + 1 + 1 := e; omega))
      have HF8 := Lib.hid (show ∀ k ∈ fp, w.heap.size ≤ k from fun k hk => by have h1 := hf k hk; have h2 := HRL.out; omega)
      have HND := Lib.hid hnd
      clear K4 K8 hs hf hnd S0
      go_wp2
      exact bodyPost_ret (v := .tuple #[.agg #[.int .i64 ver, .slice ao' l.length cap'], .int .i64 1]) (by simp [results, Try.results17, go_sem, m0, m1, y6]) rfl ⟨.slice ao' l.length cap', fp, by rw [AN.out], by rw [AN.out]; exact S8.out, HND.out, HF8.out, HB8.out⟩

/-- The project's ApplyChange. -/
theorem impl_apc (ver : Int) (c : Cg) (ao : Option Addr) (n cap : Nat) (l : List Blk) (w : World) (hl : l.length = n) (hn : n ≤ 1048576) (hr : ∀ k, k < n → (Bn l k).rows.length ≤ 1048576) (hw : WfB n (Bn l)) (hV : BlksVal w ao l) (hS : BlksSrc w ao l) :
    Calls Try.prog 17 #[.agg #[.int .i64 ver, .slice ao n cap], c.val] w (ApcPost ver l c w) := by
  by_cases hG : TblOk ver l l.length ∧ ChOk c ∧ ver ≠ 99
  · obtain ⟨k, b, i, g, y, x, nl⟩ := c
    have h4 : k = 1 ∨ k = 2 ∨ k = 3 ∨ k = 4 := by
      rcases hG.2.1 with h | h | h | h
      · exact .inl h.1
      · exact .inr (.inl h.1)
      · exact .inr (.inr (.inl h.1))
      · exact .inr (.inr (.inr h.1))
    rcases h4 with rfl | rfl | rfl | rfl
    · exact impl_apc1 ver b i g y x nl ao n cap l w hl hn hr hw hV hS hG
    · exact impl_apc2 ver b i g y x nl ao n cap l w hl hn hr hw hV hS hG
    · exact impl_apc3 ver b i g y x nl ao n cap l w hl hn hr hw hV hS hG
    · exact impl_apc4 ver b i g y x nl ao n cap l w hl hn hr hw hV hS hG
  · obtain ⟨k, b, i, g, y, x, nl⟩ := c
    exact impl_apc0 ver k b i g y x nl ao n cap l w hl hn hr hw hV hS hG
end Go.Proofs.Ytcfcohnkkgickaa
