/-
  The walk over the model's ApplyChange: a deletion.
-/
import Derived.Test.YtcfcohnkkgickaaRows
import Derived.Test.YtcfcohnkkgickaaMgB
import Derived.Test.YtcfcohnkkgickaaApAll
import Derived.Test.YtcfcohnkkgickaaPfmAll
import Derived.Test.YtcfcohnkkgickaaCpSpec
import Derived.Deep.RegionHeld3
import Derived.Test.YtcfcohnkkgickaaBkCon
import Derived.Deep.RegionWith
import Derived.Test.YtcfcohnkkgickaaTvSpec
namespace Go.Proofs.Ytcfcohnkkgickaa
open Go.RowKit Num

theorem put_in {w : World} {bp : Nat} {ver : Int} {v : Value} {l : List Blk} {fp : List Nat} (h : TblBox w bp ver v l fp) {k : Nat} (hk : k < l.length) {g cap : Nat} (hv : v = .slice (some ⟨g, 0, none⟩) l.length cap) : g ∈ fp := by
  obtain ⟨h1, h2, h3, h4, h5, h6, h7, h8⟩ := h
  obtain ⟨g', cap', vb, fa, fk, fb, e, rfl, hc, ho, c0, c1, hs, ha, hb⟩ := blk_open h6 h7 hk
  rw [hv] at e
  simp only [Value.slice.injEq, Option.some.injEq, Addr.mk.injEq, and_true, true_and] at e
  rw [e.1]
  simp

set_option maxRecDepth 8000 in
set_option maxHeartbeats 6400000 in
theorem spec_aps3 (ver : Int) (b i g y x : Int) (nl : Bool) (ao : Option Addr) (n cap : Nat) (l : List Blk) (w : World) (hl : l.length = n) (hn : n ≤ 1048576) (hr : ∀ k, k < n → (Bn l k).rows.length ≤ 1048576) (hV : BlksVal w ao l) (hS : BlksSrc w ao l) (hG : TblOk ver l l.length ∧ ChOk ⟨3, b, ⟨i, g, y, x, nl⟩⟩ ∧ ver ≠ 99) (fp0 : List Nat) (hR0 : SliceRep blkTy w (.slice ao n cap) l fp0) (hN0 : fp0.Nodup) :
    Calls Try.prog 14 #[.agg #[.int .i64 ver, .slice ao n cap], .agg #[.int .i64 3, .int .i64 b, .int .i64 i, .int .i64 g, .int .i64 y, .int .i64 x, .bool nl]] w (ApcP (applyC ver l ⟨3, b, ⟨i, g, y, x, nl⟩⟩).1 (applyC ver l ⟨3, b, ⟨i, g, y, x, nl⟩⟩).2.1 (applyC ver l ⟨3, b, ⟨i, g, y, x, nl⟩⟩).2.2 w) := by
  have TC := Lib.hid (fun w hS => spec_tcopy ver ao n cap l w hl hn hr hS)
  have TV := Lib.hid (fun w hV => spec_tv ver ao n cap l w hl hn hr hV)
  have IV := Lib.hid (fun w => spec_ivc ⟨3, b, ⟨i, g, y, x, nl⟩⟩ w)
  have BR := Lib.hid (fun w hV => spec_bor ver i ao n cap l w hl hn hr hV)
  have HV := Lib.hid hV
  have HS := Lib.hid hS
  have HL := Lib.hid hl
  have HG := Lib.hid hG
  have HR0 := Lib.hid hR0
  have HN0 := Lib.hid hN0
  clear hV hS hl hn hr hG hR0 hN0
  go_enter Try.func14, Try.ntmps14
  have K0 := (((Kept.start w).alloc2 (.int .i64 ver) (.slice ao n cap) 32 _ rfl).alloc7 (.int .i64 3) (.int .i64 b) (.int .i64 i) (.int .i64 g) (.int .i64 y) (.int .i64 x) (.bool nl) 38 (w.heap.size + 1) (by simp)).alloc2 (.int .i64 0) (.slice none 0 0) 32 (w.heap.size + 1 + 1) (by simp)
  go_upto_region 1 with fail
  obtain ⟨W0, hW0⟩ : ∃ W0, W0 = (((w.alloc (.cells #[.int .i64 ver, .slice ao n cap] 32)).alloc (.cells #[.int .i64 3, .int .i64 b, .int .i64 i, .int .i64 g, .int .i64 y, .int .i64 x, .bool nl] 38)).alloc (.cells #[.int .i64 0, .slice none 0 0] 32)) := ⟨_, rfl⟩
  rw [← hW0] at K0 ⊢
  clear hW0
  have t0 := K0.get 9 rfl
  have t1 := K0.get 10 rfl
  go_wp2_with fail
  refine (TC.out _ (HS.out.keep K0.1)).mono ?_
  rintro e w1 ⟨v, f, rfl, hO, hb⟩
  obtain ⟨ao', cap', rfl⟩ := hO.shape
  have K1 := K0.step hb
  have HO := Lib.hid hO
  have HW1 := Lib.hid hb
  have HK0 := Lib.hid K0
  clear hb hO t0 t1 K0
  have K2 := K1.alloc2 (.int .i64 ver) (.slice ao' l.length cap') 32 w1.heap.size rfl
  have HO2 := Lib.hid (show Below w1.heap.size w1 (w1.alloc (.cells #[.int .i64 ver, .slice ao' l.length cap'] 32)) from (Below.refl _ _).alloc (Nat.le_refl _) _)
  have q0 := K2.get 11 rfl
  have q1 := K2.get 12 rfl
  go_upto_region 2 with fail
  obtain ⟨w2, hw2⟩ : ∃ w2, w2 = w1.alloc (.cells #[.int .i64 ver, .slice ao' l.length cap'] 32) := ⟨_, rfl⟩
  rw [← hw2] at K2 HO2 q0 q1 ⊢
  clear hw2 K1
  go_wp2_with fail
  refine (TV.out _ (HV.out.below K2.1)).mono ?_
  rintro e w3 ⟨tv, htv, rfl, hb⟩
  have K3 := K2.step hb
  have ETV := Lib.hid htv
  have HO3 := Lib.hid (HO2.out.trans (hb.mono HO2.out.size))
  clear hb htv q0 q1 K2
  obtain rfl : tv = true := ETV.out.2 (by rw [← HL.out]; exact HG.out.1)
  have r0 := K3.get 4 rfl
  have r1 := K3.get 5 rfl
  have r2 := K3.get 6 rfl
  have r3 := K3.get 7 rfl
  have r4 := K3.get 8 rfl
  have r5 := K3.get 9 rfl
  have r6 := K3.get 10 rfl
  go_wp2_with fail
  refine (IV.out _).mono ?_
  rintro e w4 ⟨⟨iv, hiv, rfl⟩, hb⟩
  have K4 := K3.step hb
  have EIV := Lib.hid hiv
  have HO4 := Lib.hid (HO3.out.trans (hb.mono HO3.out.size))
  clear hb hiv r0 r1 r2 r3 r4 r5 r6 K3
  obtain rfl : iv = true := EIV.out.2 HG.out.2.1
  have hvb : (ver == 99) = false := beq_eq_false_iff_ne.2 HG.out.2.2
  have r0 := K4.get 4 rfl
  have r1 := K4.get 5 rfl
  have r2 := K4.get 6 rfl
  have r3 := K4.get 7 rfl
  have r4 := K4.get 8 rfl
  have r5 := K4.get 9 rfl
  have r6 := K4.get 10 rfl
  have q0 := K4.get 11 rfl
  have q1 := K4.get 12 rfl
  go_wp2_with fail
  refine (BR.out _ (HV.out.below K4.1)).mono ?_
  rintro e w5 ⟨⟨vb, hvb9, rfl⟩, hb⟩
  have K5 := K4.step hb
  have HO5 := Lib.hid (HO4.out.trans (hb.mono HO4.out.size))
  have EB := Lib.hid (firstAns_idx (p := fun b : Blk => HasRow b.rows i) (l := l) (by rw [HL.out]; exact hvb9))
  have hv1 : -1 ≤ vb ∧ vb < 6 := by
    have h6 := HG.out.1.2.1
    have h7 := HL.out
    rcases hvb9 with ⟨k, hk, _, _, rfl⟩ | ⟨_, rfl⟩ <;> omega
  obtain ⟨hv1, hv2⟩ := hv1
  clear hb hvb9 r0 r1 r2 r3 r4 r5 r6 q0 q1 K4 hvb
  have r0 := K5.get 4 rfl
  by_cases h0 : vb < 0
  · have hd : decide (vb < 0) = true := decide_eq_true h0
    have AN := Lib.hid (applyC_3n HG.out rfl (idx_no EB.out h0))
    clear h0
    obtain ⟨fp, hs, hf, hnd⟩ := HO.out.rep
    have HRL := Lib.hid (show w.heap.size + 1 + 1 < W0.heap.size from HK0.out.lt 0 rfl)
    have S0 := hs.step HO5.out
    have b0 := K5.get 0 rfl
    have b1 := K5.get 1 rfl
    have a0 := K5.get 2 rfl
    have a1 := K5.get 3 rfl
    have g0 := K5.fz 2 rfl
    have g1 := K5.fz 3 rfl
    have y6 := K5.lt 2 rfl
    have K8 := (K5.sub (l' := [(⟨w.heap.size + 1 + 1, 0, none⟩, .int .i64 0), (⟨w.heap.size + 1 + 1, 1, none⟩, .slice none 0 0)]) (by intro p9 hp9; simp only [List.mem_cons, List.not_mem_nil, or_false] at hp9; rcases hp9 with rfl | rfl <;> simp)).set2 (.int .i64 ver) (.slice ao' l.length cap') (by omega) (by simp)
    have m0 := K8.get 0 rfl
    have m1 := K8.get 1 rfl
    have HB8 := Lib.hid K8.1
    have S8 := Lib.hid ((S0.set ⟨w.heap.size + 1 + 1, 0, none⟩ (.int .i64 ver) (fun k hk e => by have h1 := hf k hk; have h2 := HRL.out; have e' : k = w.heap.size + 1 + 1 := e; omega)).set ⟨w.heap.size + 1 + 1, 1, none⟩ (.slice ao' l.length cap') (fun k hk e => by have h1 := hf k hk; have h2 := HRL.out; have e' : k = w.heap.size + 1 + 1 := e; omega))
    have HF8 := Lib.hid (show ∀ k ∈ fp, w.heap.size ≤ k from fun k hk => by have h1 := hf k hk; have h2 := HRL.out; omega)
    have HND := Lib.hid hnd
    clear K5 K8 hs hf hnd S0
    go_wp2
    exact bodyPost_ret (v := .tuple #[.agg #[.int .i64 ver, .slice ao' l.length cap'], .int .i64 3]) (by simp [results, Try.results14, go_sem, m0, m1, y6]) rfl ⟨.slice ao' l.length cap', fp, by rw [AN.out], by rw [AN.out]; exact S8.out, HND.out, HF8.out, HB8.out⟩
  · obtain ⟨fpy, hsy, hfy, hny⟩ := HO.out.rep
    have HFY := Lib.hid (show ∀ j ∈ fpy, W0.heap.size ≤ j ∧ j < w1.heap.size from fun j hj => ⟨hfy j hj, hsy.lt j hj⟩)
    have TB := Lib.hid (show TblBox w5 w1.heap.size ver (.slice ao' l.length cap') l fpy from ⟨K5.lt 0 rfl, K5.get 0 rfl, K5.fz 0 rfl, K5.get 1 rfl, K5.fz 1 rfl, hsy.step HO5.out, hny, fun e => by have := (HFY.out _ e).2; omega⟩)
    clear hsy hfy hny
    have hd : decide (vb < 0) = false := decide_eq_false h0
    obtain ⟨k, hk⟩ : ∃ k : Nat, vb = (k : Int) := ⟨vb.toNat, by omega⟩
    subst hk
    obtain ⟨e1, hkl⟩ := idx_at EB.out
    have EK := Lib.hid (show iRow l i = k from e1)
    have HH := Lib.hid (hasRow_at EK.out hkl)
    obtain ⟨gt, ro, rcap, fk, rfl, hgt, dd0, dd1, hst⟩ := slice_blkAt HR0.out HN0.out hkl
    obtain ⟨rl, hrl⟩ : ∃ rl, rl = (Bn l k).rows := ⟨_, rfl⟩
    rw [← hrl] at dd1 hst
    have HRL := Lib.hid hrl
    obtain ⟨bid, hbid⟩ : ∃ bid, bid = (Bn l k).id := ⟨_, rfl⟩
    rw [← hbid] at dd0
    have HID := Lib.hid hbid
    have hrl6 : rl.length ≤ 6 := by rw [hrl]; exact tbl_rows HG.out.1 k hkl
    have hrl0 : 0 < rl.length := by obtain ⟨j, hj, _⟩ := HH.out; rw [hrl]; omega
    obtain ⟨th, hro⟩ : ∃ th, ro = some ⟨th, 0, none⟩ := by
      obtain ⟨ao9, cap9, e9, _, hV9⟩ := rows_open hst
      obtain ⟨g9, e8, _⟩ := hV9.resolve_left (by omega)
      simp only [Value.slice.injEq] at e9
      exact ⟨g9, e9.1.trans e8⟩
    subst hro
    obtain ⟨m, hm⟩ : ∃ m, m = rl.length := ⟨_, rfl⟩
    rw [← hm] at dd1 hst
    have HMm := Lib.hid hm
    have hmI : (m : Int) ≤ 6 := by omega
    have hkI : (k : Int) < (n : Int) := by have := HL.out; omega
    have hkL : (k : Int) < (l.length : Int) := by omega
    have HST := Lib.hid (hst.step (K5.1))
    have HGW := Lib.hid hgt
    have HGT := Lib.hid (Nat.lt_of_lt_of_le hgt K5.1.size)
    have T0 := (K5.1.cell (p := ⟨gt, k * 2, none⟩) hgt).trans dd0
    have T1 := (K5.1.cell (p := ⟨gt, k * 2 + 1, none⟩) hgt).trans dd1
    have q1 := K5.get 12 rfl
    have yb := K5.get 1 rfl
    have ri := K5.get 6 rfl
    have RM := Lib.hid (fun w hs => spec_remO bid th m rcap rl fk i w (by omega) hs)
    have HBL := Lib.hid (show blkL bid rl = true from by rw [hbid, hrl]; exact tbl_blk HG.out.1 hkl)
    clear dd0 dd1 hst hrl hbid hm e1
    obtain ⟨gy, capy, hvy⟩ : ∃ g cap, (.slice ao' l.length cap' : Value) = .slice (some ⟨g, 0, none⟩) l.length cap := by
      obtain ⟨j0, hj0, _⟩ := HH.out
      obtain ⟨g, cap, q, rcap, hv, _⟩ := TB.out.put hkl hj0 ⟨i, g, y, x, nl⟩
      exact ⟨g, cap, hv⟩
    simp only [Value.slice.injEq, true_and] at hvy
    obtain ⟨rfl, rfl⟩ := hvy
    go_upto_region 23 with fail
    have AT5 : ∀ w', Below w5.heap.size w5 w' → w'.cell? ⟨w1.heap.size, 1, none⟩ = some (.slice (some ⟨gy, 0, none⟩) l.length cap') ∧ w'.cell? ⟨w.heap.size, 1, none⟩ = some (.slice (some ⟨gt, 0, none⟩) n cap) ∧ w'.cell? ⟨gt, k * 2, none⟩ = some (.int .i64 bid) ∧ w'.cell? ⟨gt, k * 2 + 1, none⟩ = some (.slice (some ⟨th, 0, none⟩) m rcap) ∧ w'.cell? ⟨w.heap.size + 1, 2, none⟩ = some (.int .i64 i) := fun w' hb => ⟨(K5.step hb).get 1 rfl, (K5.step hb).get 12 rfl, (hb.cell (p := ⟨gt, k * 2, none⟩) HGT.out).trans T0, (hb.cell (p := ⟨gt, k * 2 + 1, none⟩) HGT.out).trans T1, (K5.step hb).get 6 rfl⟩
    have AT := Lib.hid AT5
    clear AT5 r0 T0 T1 q1 yb ri
    refine wp_region_held_drew (S := fun w' => w'.cell? ⟨w1.heap.size, 1, none⟩ = some (.slice (some ⟨gy, 0, none⟩) l.length cap') ∧ w'.cell? ⟨w.heap.size, 1, none⟩ = some (.slice (some ⟨gt, 0, none⟩) n cap) ∧ w'.cell? ⟨gt, k * 2, none⟩ = some (.int .i64 bid) ∧ w'.cell? ⟨gt, k * 2 + 1, none⟩ = some (.slice (some ⟨th, 0, none⟩) m rcap) ∧ w'.cell? ⟨w.heap.size + 1, 2, none⟩ = some (.int .i64 i)) (by kernel_rfl) (AT.out _ (Below.refl _ _).drew) (fun hHeld => ?_)
    refine wpAnyH_take (i := 0) (oi := { dst := some 99, op := Go.Op.fieldAddr 32 (Go.Operand.tmp 6) 1, type := 0, pos := "l07_change.go:67", after := #[], guard := none }) (v := .pointer (some ⟨w1.heap.size, 1, none⟩)) rfl (by kernel_rfl) (by kernel_rfl) (by kernel_rfl) (fun _ _ _ h => h) (Or.inl ⟨by rfl, ?_⟩) (by assumption) ?_
    · intro w8 hS8
      (try dsimp only at hS8)
      go_simp
    try simp only [Act.put, List.setIfInBounds_toArray, List.set_cons_zero, List.set_cons_succ]
    refine wpAnyH_take (i := 1) (oi := { dst := some 100, op := Go.Op.load 30 (Go.Operand.tmp 99), type := 30, pos := "l07_change.go:67", after := #[{ on := 0, ground := Go.Ground.data }], guard := none }) (v := .slice (some ⟨gy, 0, none⟩) l.length cap') rfl (by kernel_rfl) (by kernel_rfl) (by kernel_rfl) (fun _ _ _ h => h) (Or.inl ⟨by rfl, ?_⟩) (by assumption) ?_
    · intro w8 hS8
      (try dsimp only at hS8)
      go_simp
    try simp only [Act.put, List.setIfInBounds_toArray, List.set_cons_zero, List.set_cons_succ]
    refine wpAnyH_take (i := 2) (oi := { dst := some 101, op := Go.Op.move (Go.Operand.tmp 8), type := 3, pos := "l07_change.go:67", after := #[], guard := none }) (v := .int .i64 k) rfl (by kernel_rfl) (by kernel_rfl) (by kernel_rfl) (fun _ _ _ h => h) (Or.inl ⟨by rfl, ?_⟩) (by assumption) ?_
    · intro w8 hS8
      (try dsimp only at hS8)
      go_simp
    try simp only [Act.put, List.setIfInBounds_toArray, List.set_cons_zero, List.set_cons_succ]
    refine wpAnyH_take (i := 3) (oi := { dst := some 102, op := Go.Op.fieldAddr 32 (Go.Operand.tmp 2) 1, type := 0, pos := "l07_change.go:67", after := #[], guard := none }) (v := .pointer (some ⟨w.heap.size, 1, none⟩)) rfl (by kernel_rfl) (by kernel_rfl) (by kernel_rfl) (fun _ _ _ h => h) (Or.inl ⟨by rfl, ?_⟩) (by assumption) ?_
    · intro w8 hS8
      (try dsimp only at hS8)
      go_simp
    try simp only [Act.put, List.setIfInBounds_toArray, List.set_cons_zero, List.set_cons_succ]
    refine wpAnyH_take (i := 4) (oi := { dst := some 103, op := Go.Op.load 30 (Go.Operand.tmp 102), type := 30, pos := "l07_change.go:67", after := #[{ on := 3, ground := Go.Ground.data }], guard := none }) (v := .slice (some ⟨gt, 0, none⟩) n cap) rfl (by kernel_rfl) (by kernel_rfl) (by kernel_rfl) (fun _ _ _ h => h) (Or.inl ⟨by rfl, ?_⟩) (by assumption) ?_
    · intro w8 hS8
      (try dsimp only at hS8)
      go_simp
    try simp only [Act.put, List.setIfInBounds_toArray, List.set_cons_zero, List.set_cons_succ]
    refine wpAnyH_take (i := 5) (oi := { dst := some 104, op := Go.Op.move (Go.Operand.tmp 8), type := 3, pos := "l07_change.go:67", after := #[], guard := none }) (v := .int .i64 k) rfl (by kernel_rfl) (by kernel_rfl) (by kernel_rfl) (fun _ _ _ h => h) (Or.inl ⟨by rfl, ?_⟩) (by assumption) ?_
    · intro w8 hS8
      (try dsimp only at hS8)
      go_simp
    try simp only [Act.put, List.setIfInBounds_toArray, List.set_cons_zero, List.set_cons_succ]
    refine wpAnyH_take (i := 6) (oi := { dst := some 105, op := Go.Op.indexAddr 30 (Go.Operand.tmp 103) (Go.Operand.tmp 104), type := 0, pos := "l07_change.go:67", after := #[{ on := 4, ground := Go.Ground.data }, { on := 5, ground := Go.Ground.data }], guard := none }) (v := .pointer (some ⟨gt, k * 2, none⟩)) rfl (by kernel_rfl) (by kernel_rfl) (by kernel_rfl) (fun _ _ _ h => h) (Or.inl ⟨by rfl, ?_⟩) (by assumption) ?_
    · intro w8 hS8
      (try dsimp only at hS8)
      go_simp
    try simp only [Act.put, List.setIfInBounds_toArray, List.set_cons_zero, List.set_cons_succ]
    refine wpAnyH_take (i := 7) (oi := { dst := some 106, op := Go.Op.load 80 (Go.Operand.tmp 105), type := 80, pos := "l07_change.go:67", after := #[{ on := 6, ground := Go.Ground.data }], guard := none }) (v := .agg #[.int .i64 bid, .slice (some ⟨th, 0, none⟩) m rcap]) rfl (by kernel_rfl) (by kernel_rfl) (by kernel_rfl) (fun _ _ _ h => h) (Or.inl ⟨by rfl, ?_⟩) (by assumption) ?_
    · intro w8 hS8
      (try dsimp only at hS8)
      go_simp
    try simp only [Act.put, List.setIfInBounds_toArray, List.set_cons_zero, List.set_cons_succ]
    refine wpAnyH_take (i := 8) (oi := { dst := some 107, op := Go.Op.fieldAddr 38 (Go.Operand.tmp 3) 2, type := 0, pos := "l07_change.go:67", after := #[], guard := none }) (v := .pointer (some ⟨w.heap.size + 1, 2, none⟩)) rfl (by kernel_rfl) (by kernel_rfl) (by kernel_rfl) (fun _ _ _ h => h) (Or.inl ⟨by rfl, ?_⟩) (by assumption) ?_
    · intro w8 hS8
      (try dsimp only at hS8)
      go_simp
    try simp only [Act.put, List.setIfInBounds_toArray, List.set_cons_zero, List.set_cons_succ]
    refine wpAnyH_take (i := 9) (oi := { dst := some 108, op := Go.Op.fieldAddr 36 (Go.Operand.tmp 107) 0, type := 0, pos := "l07_change.go:67", after := #[{ on := 8, ground := Go.Ground.data }], guard := none }) (v := .pointer (some ⟨w.heap.size + 1, 2, none⟩)) rfl (by kernel_rfl) (by kernel_rfl) (by kernel_rfl) (fun _ _ _ h => h) (Or.inl ⟨by rfl, ?_⟩) (by assumption) ?_
    · intro w8 hS8
      (try dsimp only at hS8)
      go_simp
    try simp only [Act.put, List.setIfInBounds_toArray, List.set_cons_zero, List.set_cons_succ]
    refine wpAnyH_take (i := 10) (oi := { dst := some 109, op := Go.Op.load 3 (Go.Operand.tmp 108), type := 3, pos := "l07_change.go:67", after := #[{ on := 9, ground := Go.Ground.data }], guard := none }) (v := .int .i64 i) rfl (by kernel_rfl) (by kernel_rfl) (by kernel_rfl) (fun _ _ _ h => h) (Or.inl ⟨by rfl, ?_⟩) (by assumption) ?_
    · intro w8 hS8
      (try dsimp only at hS8)
      go_simp
    try simp only [Act.put, List.setIfInBounds_toArray, List.set_cons_zero, List.set_cons_succ]
    refine wpAnyH_ready (rs := [11]) (by kernel_rfl) (by simp) ?_
    refine AllReadyH.cons (o := { dst := some 110, op := Go.Op.call { callee := Go.Callee.value (Go.Operand.func 81), args := #[Go.Operand.tmp 106, Go.Operand.tmp 109], argTypes := #[80, 3] }, type := 107, pos := "l07_change.go:67", after := #[{ on := 7, ground := Go.Ground.data }, { on := 10, ground := Go.Ground.data }], guard := none }) rfl (fun K hK => ?_) AllReadyH.nil
    go_simp
    go_at_call 81
    (with_reducible refine (RM.out _ ?_).mono ?_)
    · exact HST.out.step (Below.refl _ _).drew
    rintro e9 w9 ⟨l9, ok9, hans, v9, fp9, rfl, hs9, hf9, hn9, hb⟩
    have hb9 := below_via hb (Below.refl w5.heap.size w5).drew
    obtain ⟨g2, cap2, fp2, hv2, hcl, hTB, hfx, hCH⟩ := (TB.out.step hb9).putB hkl bid hs9 hn9 (fun j hj e => by
      have h1 := hf9 j hj
      simp only [World.size_drew] at h1
      have h4 := TB.out.1
      rcases List.mem_cons.1 e with e | e
      · omega
      · have h3 := (HFY.out j e).2
        omega)
    simp only [Value.slice.injEq, Option.some.injEq, Addr.mk.injEq, and_true, true_and] at hv2
    obtain ⟨rfl, rfl⟩ := hv2
    have HIN := Lib.hid (put_in (TB.out.step hb9) hkl rfl)
    have HCL := Lib.hid (show ∀ o, o < 2 → (∃ u, w9.cell? ⟨gy, k * 2 + o, none⟩ = some u) ∧ w9.frozen? ⟨gy, k * 2 + o, none⟩ = false from fun o ho => by
      obtain ⟨p0, z0, p1, z1⟩ := hcl
      rcases o with _ | _ | o
      · exact ⟨p0, z0⟩
      · exact ⟨p1, z1⟩
      · omega)
    obtain ⟨ao9, c9, rfl⟩ := hs9.val
    have HTB := Lib.hid hTB
    have HCH := Lib.hid hCH
    have HB9 := Lib.hid hb9
    have HFX := Lib.hid hfx
    have HF9 := Lib.hid hf9
    have HAN := Lib.hid hans
    clear hcl hTB hCH hb hb9 hfx hf9 hans hs9
    refine hK.out _ _ ?_ (fun hH9 => ?_)
    · exact AT.out _ HB9.out
    clear hK K
    try simp only [Act.put, List.setIfInBounds_toArray, List.set_cons_zero, List.set_cons_succ]
    refine wpAnyH_take (i := 12) (oi := { dst := some 98, op := Go.Op.move (Go.Operand.tmp 110), type := 107, pos := "l07_change.go:67", after := #[{ on := 11, ground := Go.Ground.data }], guard := none }) (v := .tuple #[.agg #[.int .i64 bid, .slice ao9 l9.length c9], .bool ok9]) rfl (by kernel_rfl) (by kernel_rfl) (by kernel_rfl) (fun _ _ _ h => h) (Or.inl ⟨by rfl, ?_⟩) (by assumption) ?_
    · intro w8 hS8
      (try dsimp only at hS8)
      go_simp
    try simp only [Act.put, List.setIfInBounds_toArray, List.set_cons_zero, List.set_cons_succ]
    refine wpAnyH_take (i := 13) (oi := { dst := some 111, op := Go.Op.extract (Go.Operand.tmp 98) 0, type := 80, pos := "l07_change.go:67", after := #[{ on := 12, ground := Go.Ground.data }], guard := none }) (v := .agg #[.int .i64 bid, .slice ao9 l9.length c9]) rfl (by kernel_rfl) (by kernel_rfl) (by kernel_rfl) (fun _ _ _ h => h) (Or.inl ⟨by rfl, ?_⟩) (by assumption) ?_
    · intro w8 hS8
      (try dsimp only at hS8)
      go_simp
    try simp only [Act.put, List.setIfInBounds_toArray, List.set_cons_zero, List.set_cons_succ]
    refine wpAnyH_take (i := 14) (oi := { dst := some 112, op := Go.Op.extract (Go.Operand.tmp 98) 1, type := 4, pos := "l07_change.go:67", after := #[{ on := 12, ground := Go.Ground.data }, { on := 16, ground := Go.Ground.gcOnly Go.Departure.lateStores }], guard := none }) (v := .bool ok9) rfl (by kernel_rfl) (by kernel_rfl) (by kernel_rfl) (fun _ _ _ h => h) (Or.inl ⟨by rfl, ?_⟩) (by assumption) ?_
    · intro w8 hS8
      (try dsimp only at hS8)
      go_simp
    try simp only [Act.put, List.setIfInBounds_toArray, List.set_cons_zero, List.set_cons_succ]
    refine wpAnyH_take (i := 15) (oi := { dst := some 113, op := Go.Op.indexAddr 30 (Go.Operand.tmp 100) (Go.Operand.tmp 101), type := 0, pos := "l07_change.go:67", after := #[{ on := 1, ground := Go.Ground.data }, { on := 2, ground := Go.Ground.data }, { on := 0, ground := Go.Ground.phase }, { on := 1, ground := Go.Ground.phase }, { on := 2, ground := Go.Ground.phase }, { on := 3, ground := Go.Ground.phase }, { on := 4, ground := Go.Ground.phase }, { on := 5, ground := Go.Ground.phase }, { on := 6, ground := Go.Ground.phase }, { on := 7, ground := Go.Ground.phase }, { on := 8, ground := Go.Ground.phase }, { on := 9, ground := Go.Ground.phase }, { on := 10, ground := Go.Ground.phase }, { on := 11, ground := Go.Ground.phase }, { on := 12, ground := Go.Ground.phase }, { on := 13, ground := Go.Ground.phase }, { on := 14, ground := Go.Ground.textOnly Go.Departure.lateStores }], guard := none }) (v := .pointer (some ⟨gy, k * 2, none⟩)) rfl (by kernel_rfl) (by kernel_rfl) (by kernel_rfl) (fun _ _ _ h => h) (Or.inl ⟨by rfl, ?_⟩) (by assumption) ?_
    · intro w8 hS8
      (try dsimp only at hS8)
      go_simp
    try simp only [Act.put, List.setIfInBounds_toArray, List.set_cons_zero, List.set_cons_succ]
    refine wpAnyH_ready (rs := [16]) (by kernel_rfl) (by simp) ?_
    refine AllReadyH.cons (o := { dst := none, op := Go.Op.store 80 (Go.Operand.tmp 113) (Go.Operand.tmp 111), type := 0, pos := "l07_change.go:67", after := #[{ on := 15, ground := Go.Ground.data }, { on := 13, ground := Go.Ground.data }, { on := 11, ground := Go.Ground.chain }, { on := 0, ground := Go.Ground.phase }, { on := 1, ground := Go.Ground.phase }, { on := 2, ground := Go.Ground.phase }, { on := 3, ground := Go.Ground.phase }, { on := 4, ground := Go.Ground.phase }, { on := 5, ground := Go.Ground.phase }, { on := 6, ground := Go.Ground.phase }, { on := 7, ground := Go.Ground.phase }, { on := 8, ground := Go.Ground.phase }, { on := 9, ground := Go.Ground.phase }, { on := 10, ground := Go.Ground.phase }, { on := 11, ground := Go.Ground.phase }, { on := 12, ground := Go.Ground.phase }, { on := 13, ground := Go.Ground.phase }, { on := 14, ground := Go.Ground.textOnly Go.Departure.lateStores }], guard := none }) rfl (fun K hK => ?_) AllReadyH.nil
    refine step_store2 rfl (.tmp 113) (.tmp 111) rfl gy k (.int .i64 bid) (.slice ao9 l9.length c9) rfl rfl rfl rfl HCL.out ?_
    refine hK.out _ _ ?_ (fun hH10 => ?_)
    · have hq := HFY.out gy HIN.out
      have h1 := HW1.out.size
      have h2 : gt < W0.heap.size := Nat.lt_of_lt_of_le HGW.out HK0.out.1.size
      have h3 := HK0.out.lt 9 rfl
      have h4 := HK0.out.lt 2 rfl
      refine kc5_eq (AT.out _ HB9.out) (fun a ha => ?_)
      have hne : a.block ≠ gy := by
        rcases ha with rfl | rfl | rfl | rfl | rfl <;> (simp only at h3 h4 ⊢; omega)
      rw [World.cell?_setCell_other (w := _) (a := ⟨gy, k * 2 + 1, none⟩) (b := a) (v := _) (fun e => hne (by rw [← e])), World.cell?_setCell_other (w := _) (a := ⟨gy, k * 2, none⟩) (b := a) (v := _) (fun e => hne (by rw [← e]))]
    clear hK K
    try simp only [Act.put, List.setIfInBounds_toArray, List.set_cons_zero, List.set_cons_succ]
    refine wpAnyH_done (by kernel_rfl) ?_ _
    obtain ⟨w10, hw10⟩ : ∃ w10, w10 = (w9.setCell ⟨gy, k * 2, none⟩ (.int .i64 bid)).setCell ⟨gy, k * 2 + 1, none⟩ (.slice ao9 l9.length c9) := ⟨_, rfl⟩
    rw [← hw10] at HTB HCH ⊢
    clear hw10 hH9 hH10 AT HCL HIN
    obtain ⟨hz5, j, hj9, hl9⟩ := rem_at HAN.out HBL.out (by rw [HRL.out]; exact HH.out)
    have AN := Lib.hid (show applyC ver l ⟨3, b, ⟨i, g, y, x, nl⟩⟩ = (ver + 1, l.set k ⟨bid, l9⟩, 0) by rw [applyC_3y HG.out rfl EK.out hkl (j := j) (by rw [← HRL.out]; exact hj9), HID.out, hl9, HRL.out])
    have HF7 := Lib.hid (show ∀ j ∈ fp2, W0.heap.size ≤ j from fun j hj => by
      rcases HFX.out j hj with h | h
      · exact (HFY.out j h).1
      · have h1 := HF9.out j h
        have h2 := TB.out.1
        have h3 := HW1.out.size
        simp only [World.size_drew] at h1
        omega)
    clear hz5 hj9 hl9
    have HB7 := Lib.hid ((HW1.out.trans (HO5.out.mono HW1.out.size)).trans ((HB9.out.mono (Nat.le_trans HW1.out.size HO5.out.size)).trans (HCH.out.below (fun x hx => (HFY.out x hx).1) (by have h1 := HB9.out.size; have h2 := HW1.out.size; have h3 := HO5.out.size; omega))))
    have K6 := HK0.out.step HB7.out
    have c0 := HTB.out.2.1
    have z0 := HTB.out.2.2.1
    have c1 := HTB.out.2.2.2.1
    have a0 := K6.get 0 rfl
    have a1 := K6.get 1 rfl
    have g0 := K6.fz 0 rfl
    have g1 := K6.fz 1 rfl
    have v9 := K6.get 9 rfl
    have hver : -1000 ≤ ver ∧ ver ≤ 1000 := by have := HG.out.1.1; omega
    obtain ⟨hve1, hve2⟩ := hver
    have HRL := Lib.hid (show w.heap.size + 1 + 1 < W0.heap.size from HK0.out.lt 0 rfl)
    have HBP := Lib.hid (show W0.heap.size ≤ w1.heap.size from HW1.out.size)
    have y6 := K6.lt 0 rfl
    have K7 := ((K6.cons (a := ⟨w1.heap.size, 0, none⟩) HTB.out.1 c0 z0).set (p := []) (.int .i64 (ver + 1)) (Nat.le_trans (by have := HRL.out; omega) HBP.out) (by
      intro c hc e
      have e2 := congrArg Addr.block e
      have h3 := HRL.out
      have h4 := HBP.out
      simp only [List.nil_append, List.mem_cons, List.not_mem_nil, or_false] at hc
      rcases hc with rfl | rfl | rfl | rfl | rfl | rfl | rfl | rfl | rfl | rfl | rfl <;> (simp only at e2; omega))).sub (l' := [(⟨w.heap.size + 1 + 1, 0, none⟩, .int .i64 0), (⟨w.heap.size + 1 + 1, 1, none⟩, .slice none 0 0)]) (by intro p9 hp9; simp only [List.mem_cons, List.not_mem_nil, or_false] at hp9; rcases hp9 with rfl | rfl <;> simp)
    have K8 := K7.set2 (.int .i64 (ver + 1)) (.slice (some ⟨gy, 0, none⟩) l.length cap') (by omega) (by simp)
    have m0 := K8.get 0 rfl
    have m1 := K8.get 1 rfl
    have n0 := K7.get 0 rfl
    have n1 := K7.get 1 rfl
    have o0 := K7.fz 0 rfl
    have o1 := K7.fz 1 rfl
    have HB8 := Lib.hid K8.1
    have S8 := Lib.hid (((HTB.out.2.2.2.2.2.1.set ⟨w1.heap.size, 0, none⟩ (.int .i64 (ver + 1)) (fun k hk e => HTB.out.2.2.2.2.2.2.2 (by have e' : k = w1.heap.size := e; rw [← e']; exact hk))).set ⟨w.heap.size + 1 + 1, 0, none⟩ (.int .i64 (ver + 1)) (fun k hk e => by have h1 := HF7.out k hk; have h2 := HRL.out; have e' : k = w.heap.size + 1 + 1 := e; omega)).set ⟨w.heap.size + 1 + 1, 1, none⟩ (.slice (some ⟨gy, 0, none⟩) l.length cap') (fun k hk e => by have h1 := HF7.out k hk; have h2 := HRL.out; have e' : k = w.heap.size + 1 + 1 := e; omega))
    have HF8 := Lib.hid (show ∀ k ∈ fp2, w.heap.size ≤ k from fun k hk => by have h1 := HF7.out k hk; have h2 := HRL.out; omega)
    clear K7 K8 K6
    go_wp2
    exact bodyPost_ret (v := .tuple #[.agg #[.int .i64 (ver + 1), .slice (some ⟨gy, 0, none⟩) l.length cap'], .int .i64 0]) (by simp [results, Try.results14, go_sem, m0, m1, y6]) rfl ⟨.slice (some ⟨gy, 0, none⟩) l.length cap', fp2, by rw [AN.out], by rw [AN.out]; exact S8.out, HTB.out.2.2.2.2.2.2.1, HF8.out, HB8.out⟩
end Go.Proofs.Ytcfcohnkkgickaa
