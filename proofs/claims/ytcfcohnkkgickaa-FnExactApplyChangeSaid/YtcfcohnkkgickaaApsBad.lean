/-
  The walk over the model's ApplyChange: changes that are not valid.
-/
import Derived.Test.YtcfcohnkkgickaaRows
import Derived.Test.YtcfcohnkkgickaaMgB
import Derived.Test.YtcfcohnkkgickaaApAll
import Derived.Test.YtcfcohnkkgickaaPfmAll
import Derived.Test.YtcfcohnkkgickaaCpSpec
import Derived.Test.YtcfcohnkkgickaaTvSpec
namespace Go.Proofs.Ytcfcohnkkgickaa
open Go.RowKit Num

set_option maxRecDepth 8000 in
set_option maxHeartbeats 6400000 in
theorem spec_aps0 (ver : Int) (k : Int) (b i g y x : Int) (nl : Bool) (ao : Option Addr) (n cap : Nat) (l : List Blk) (w : World) (hl : l.length = n) (hn : n ≤ 1048576) (hr : ∀ k, k < n → (Bn l k).rows.length ≤ 1048576) (hV : BlksVal w ao l) (hS : BlksSrc w ao l) (hG : ¬ (TblOk ver l l.length ∧ ChOk ⟨k, b, ⟨i, g, y, x, nl⟩⟩ ∧ ver ≠ 99)) :
    Calls Try.prog 14 #[.agg #[.int .i64 ver, .slice ao n cap], .agg #[.int .i64 k, .int .i64 b, .int .i64 i, .int .i64 g, .int .i64 y, .int .i64 x, .bool nl]] w (ApcP (applyC ver l ⟨k, b, ⟨i, g, y, x, nl⟩⟩).1 (applyC ver l ⟨k, b, ⟨i, g, y, x, nl⟩⟩).2.1 (applyC ver l ⟨k, b, ⟨i, g, y, x, nl⟩⟩).2.2 w) := by
  have TC := Lib.hid (fun w hS => spec_tcopy ver ao n cap l w hl hn hr hS)
  have TV := Lib.hid (fun w hV => spec_tv ver ao n cap l w hl hn hr hV)
  have IV := Lib.hid (fun w => spec_ivc ⟨k, b, ⟨i, g, y, x, nl⟩⟩ w)
  have BR := Lib.hid (fun w hV => spec_bor ver i ao n cap l w hl hn hr hV)
  have HV := Lib.hid hV
  have HS := Lib.hid hS
  have HL := Lib.hid hl
  have AN := Lib.hid (applyC_bad hG)
  have HG := Lib.hid hG
  clear hV hS hl hn hr hG
  go_enter Try.func14, Try.ntmps14
  have K0 := (((Kept.start w).alloc2 (.int .i64 ver) (.slice ao n cap) 32 _ rfl).alloc7 (.int .i64 k) (.int .i64 b) (.int .i64 i) (.int .i64 g) (.int .i64 y) (.int .i64 x) (.bool nl) 38 (w.heap.size + 1) (by simp)).alloc2 (.int .i64 0) (.slice none 0 0) 32 (w.heap.size + 1 + 1) (by simp)
  go_upto_region 1 with fail
  obtain ⟨W0, hW0⟩ : ∃ W0, W0 = (((w.alloc (.cells #[.int .i64 ver, .slice ao n cap] 32)).alloc (.cells #[.int .i64 k, .int .i64 b, .int .i64 i, .int .i64 g, .int .i64 y, .int .i64 x, .bool nl] 38)).alloc (.cells #[.int .i64 0, .slice none 0 0] 32)) := ⟨_, rfl⟩
  rw [← hW0] at K0 ⊢
  clear hW0
  have t0 := K0.get 9 rfl
  have t1 := K0.get 10 rfl
  go_wp2_with fail
  refine (TC.out _ (HS.out.keep K0.1)).mono ?_
  rintro e w1 ⟨v, f, rfl, hO, hb⟩
  obtain ⟨ao', cap', rfl⟩ := hO.shape
  have K1 := K0.step hb
  have HO := Lib.hid hO
  have HW1 := Lib.hid hb
  have HK0 := Lib.hid K0
  clear hb hO t0 t1 K0
  have K2 := K1.alloc2 (.int .i64 ver) (.slice ao' l.length cap') 32 w1.heap.size rfl
  have HO2 := Lib.hid (show Below w1.heap.size w1 (w1.alloc (.cells #[.int .i64 ver, .slice ao' l.length cap'] 32)) from (Below.refl _ _).alloc (Nat.le_refl _) _)
  have q0 := K2.get 11 rfl
  have q1 := K2.get 12 rfl
  go_upto_region 2 with fail
  obtain ⟨w2, hw2⟩ : ∃ w2, w2 = w1.alloc (.cells #[.int .i64 ver, .slice ao' l.length cap'] 32) := ⟨_, rfl⟩
  rw [← hw2] at K2 HO2 q0 q1 ⊢
  clear hw2 K1
  go_wp2_with fail
  refine (TV.out _ (HV.out.below K2.1)).mono ?_
  rintro e w3 ⟨tv, htv, rfl, hb⟩
  have K3 := K2.step hb
  have ETV := Lib.hid htv
  have HO3 := Lib.hid (HO2.out.trans (hb.mono HO2.out.size))
  clear hb htv q0 q1 K2
  cases tv
  · clear HG
    obtain ⟨fp, hs, hf, hnd⟩ := HO.out.rep
    have HRL := Lib.hid (show w.heap.size + 1 + 1 < W0.heap.size from HK0.out.lt 0 rfl)
    have S0 := hs.step HO3.out
    have b0 := K3.get 0 rfl
    have b1 := K3.get 1 rfl
    have a0 := K3.get 2 rfl
    have a1 := K3.get 3 rfl
    have g0 := K3.fz 2 rfl
    have g1 := K3.fz 3 rfl
    have y6 := K3.lt 2 rfl
    have K8 := (K3.sub (l' := [(⟨w.heap.size + 1 + 1, 0, none⟩, .int .i64 0), (⟨w.heap.size + 1 + 1, 1, none⟩, .slice none 0 0)]) (by intro p9 hp9; simp only [List.mem_cons, List.not_mem_nil, or_false] at hp9; rcases hp9 with rfl | rfl <;> simp)).set2 (.int .i64 ver) (.slice ao' l.length cap') (by omega) (by simp)
    have m0 := K8.get 0 rfl
    have m1 := K8.get 1 rfl
    have HB8 := Lib.hid K8.1
    have S8 := Lib.hid ((S0.set ⟨w.heap.size + 1 + 1, 0, none⟩ (.int .i64 ver) (fun k hk e => by have h1 := hf k hk; have h2 := HRL.out; have e' : k = w.heap.size + 1 + 1 := e; omega)).set ⟨w.heap.size + 1 + 1, 1, none⟩ (.slice ao' l.length cap') (fun k hk e => by have h1 := hf k hk; have h2 := HRL.out; have e' : k = w.heap.size + 1 + 1 := e; omega))
    have HF8 := Lib.hid (show ∀ k ∈ fp, w.heap.size ≤ k from fun k hk => by have h1 := hf k hk; have h2 := HRL.out; omega)
    have HND := Lib.hid hnd
    clear K3 K8 hs hf hnd S0
    go_wp2
    exact bodyPost_ret (v := .tuple #[.agg #[.int .i64 ver, .slice ao' l.length cap'], .int .i64 1]) (by simp [results, Try.results14, go_sem, m0, m1, y6]) rfl ⟨.slice ao' l.length cap', fp, by rw [AN.out], by rw [AN.out]; exact S8.out, HND.out, HF8.out, HB8.out⟩
  · have HT := Lib.hid (show TblOk ver l l.length by rw [HL.out]; exact ETV.out.1 rfl)
    have r0 := K3.get 4 rfl
    have r1 := K3.get 5 rfl
    have r2 := K3.get 6 rfl
    have r3 := K3.get 7 rfl
    have r4 := K3.get 8 rfl
    have r5 := K3.get 9 rfl
    have r6 := K3.get 10 rfl
    go_wp2_with fail
    refine (IV.out _).mono ?_
    rintro e w4 ⟨⟨iv, hiv, rfl⟩, hb⟩
    have K4 := K3.step hb
    have EIV := Lib.hid hiv
    have HO4 := Lib.hid (HO3.out.trans (hb.mono HO3.out.size))
    clear hb hiv r0 r1 r2 r3 r4 r5 r6 K3
    cases iv
    · clear HG
      obtain ⟨fp, hs, hf, hnd⟩ := HO.out.rep
      have HRL := Lib.hid (show w.heap.size + 1 + 1 < W0.heap.size from HK0.out.lt 0 rfl)
      have S0 := hs.step HO4.out
      have b0 := K4.get 0 rfl
      have b1 := K4.get 1 rfl
      have a0 := K4.get 2 rfl
      have a1 := K4.get 3 rfl
      have g0 := K4.fz 2 rfl
      have g1 := K4.fz 3 rfl
      have y6 := K4.lt 2 rfl
      have K8 := (K4.sub (l' := [(⟨w.heap.size + 1 + 1, 0, none⟩, .int .i64 0), (⟨w.heap.size + 1 + 1, 1, none⟩, .slice none 0 0)]) (by intro p9 hp9; simp only [List.mem_cons, List.not_mem_nil, or_false] at hp9; rcases hp9 with rfl | rfl <;> simp)).set2 (.int .i64 ver) (.slice ao' l.length cap') (by omega) (by simp)
      have m0 := K8.get 0 rfl
      have m1 := K8.get 1 rfl
      have HB8 := Lib.hid K8.1
      have S8 := Lib.hid ((S0.set ⟨w.heap.size + 1 + 1, 0, none⟩ (.int .i64 ver) (fun k hk e => by have h1 := hf k hk; have h2 := HRL.out; have e' : k = w.heap.size + 1 + 1 := e; omega)).set ⟨w.heap.size + 1 + 1, 1, none⟩ (.slice ao' l.length cap') (fun k hk e => by have h1 := hf k hk; have h2 := HRL.out; have e' : k = w.heap.size + 1 + 1 := e; omega))
      have HF8 := Lib.hid (show ∀ k ∈ fp, w.heap.size ≤ k from fun k hk => by have h1 := hf k hk; have h2 := HRL.out; omega)
      have HND := Lib.hid hnd
      clear K4 K8 hs hf hnd S0
      go_wp2
      exact bodyPost_ret (v := .tuple #[.agg #[.int .i64 ver, .slice ao' l.length cap'], .int .i64 1]) (by simp [results, Try.results14, go_sem, m0, m1, y6]) rfl ⟨.slice ao' l.length cap', fp, by rw [AN.out], by rw [AN.out]; exact S8.out, HND.out, HF8.out, HB8.out⟩
    · have hv99 : ver = 99 := Classical.byContradiction fun h => HG.out ⟨HT.out, EIV.out.1 rfl, h⟩
      have hvb : (ver == 99) = true := by rw [hv99]; rfl
      have HV9 := Lib.hid hv99
      have q0 := K4.get 11 rfl
      clear HG hv99
      obtain ⟨fp, hs, hf, hnd⟩ := HO.out.rep
      have HRL := Lib.hid (show w.heap.size + 1 + 1 < W0.heap.size from HK0.out.lt 0 rfl)
      have S0 := hs.step HO4.out
      have b0 := K4.get 0 rfl
      have b1 := K4.get 1 rfl
      have a0 := K4.get 2 rfl
      have a1 := K4.get 3 rfl
      have g0 := K4.fz 2 rfl
      have g1 := K4.fz 3 rfl
      have y6 := K4.lt 2 rfl
      have K8 := (K4.sub (l' := [(⟨w.heap.size + 1 + 1, 0, none⟩, .int .i64 0), (⟨w.heap.size + 1 + 1, 1, none⟩, .slice none 0 0)]) (by intro p9 hp9; simp only [List.mem_cons, List.not_mem_nil, or_false] at hp9; rcases hp9 with rfl | rfl <;> simp)).set2 (.int .i64 ver) (.slice ao' l.length cap') (by omega) (by simp)
      have m0 := K8.get 0 rfl
      have m1 := K8.get 1 rfl
      have HB8 := Lib.hid K8.1
      have S8 := Lib.hid ((S0.set ⟨w.heap.size + 1 + 1, 0, none⟩ (.int .i64 ver) (fun k hk e => by have h1 := hf k hk; have h2 := HRL.out; have e' : k = w.heap.size + 1 + 1 := e; omega)).set ⟨w.heap.size + 1 + 1, 1, none⟩ (.slice ao' l.length cap') (fun k hk e => by have h1 := hf k hk; have h2 := HRL.out; have e' : k = w.heap.size + 1 + 1 := e; omega))
      have HF8 := Lib.hid (show ∀ k ∈ fp, w.heap.size ≤ k from fun k hk => by have h1 := hf k hk; have h2 := HRL.out; omega)
      have HND := Lib.hid hnd
      clear K4 K8 hs hf hnd S0
      go_wp2
      exact bodyPost_ret (v := .tuple #[.agg #[.int .i64 ver, .slice ao' l.length cap'], .int .i64 1]) (by simp [results, Try.results14, go_sem, m0, m1, y6]) rfl ⟨.slice ao' l.length cap', fp, by rw [AN.out], by rw [AN.out]; exact S8.out, HND.out, HF8.out, HB8.out⟩
end Go.Proofs.Ytcfcohnkkgickaa
