/-
  The walk over the project's ChangedBlocks.
-/
import Derived.Test.YtmjcfkaiheajaaaRows
import Derived.Test.YtmjcfkaiheajaaaCbSpec
import Derived.Test.YtmjcfkaiheajaaaFbkImpl
import Derived.Test.YtmjcfkaiheajaaaEbImpl
namespace Go.Proofs.Ytmjcfkaiheajaaa
open Go.RowKit Num

/-- What looking a block up answers. -/
def BkPost (l : List Blk) (id : Int) (w : World) (e : Ending) (w' : World) : Prop :=
  ∃ (b : Blk) (is : Bool) (rao : Option Addr) (rcap : Nat), blkOf l id = (if is then some b else none) ∧ b = (blkOf l id).getD ⟨0, []⟩ ∧ e = .returned (.tuple #[.agg #[.int .i64 b.id, .slice rao b.rows.length rcap], .bool is]) ∧ RowsVal w rao b.rows.length (Rn b.rows) ∧ b.rows.length ≤ 1048576 ∧ Below w.heap.size w w'
theorem blk_same {o o' : Option Blk} {b b' : Blk} {i i' : Bool} (h : o = (if i then some b else none)) (h' : o' = (if i' then some b' else none)) (hb : b = o.getD ⟨0, []⟩) (hb' : b' = o'.getD ⟨0, []⟩) : o = o' ↔ i = i' ∧ b = b' := by
  subst h h'
  cases i <;> cases i' <;> simp_all

set_option maxRecDepth 8000 in
set_option maxHeartbeats 6400000 in
theorem impl_bk (ver id : Int) (ao : Option Addr) (n c : Nat) (l : List Blk) (w : World) (hl : l.length = n) (hn : n ≤ 1048576) (hr : ∀ k, k < n → (Bn l k).rows.length ≤ 1048576) (hG : BlksVal w ao l) :
    Calls Try.prog 68 #[.agg #[.int .i64 ver, .slice ao n c], .int .i64 id] w (BkPost l id w) := by
  have HG := Lib.hid hG
  have HL := Lib.hid hl
  have HR := Lib.hid hr
  clear hG hl hr
  have hnI : (n : Int) ≤ 1048576 := by omega
  go_enter Try.func68, Try.ntmps68
  go_wp2_with fail
  have K0 := ((Kept.start w).alloc2 (.int .i64 ver) (.slice ao n c) 38 _ rfl).alloc2 (.int .i64 0) (.slice none 0 0) 67 (w.heap.size + 1) (by simp)
  refine (impl_findB ver id ao n c l _ HL.out hn (HG.out.below K0.1)).mono ?_
  rintro e w1 ⟨⟨v1, hv1, rfl⟩, hb⟩
  have HV1 := Lib.hid hv1
  have K1 := K0.step hb
  clear hb hv1 K0
  have a0 := K1.get 2 rfl
  have a1 := K1.get 3 rfl
  have q0 := K1.fz 0 rfl
  have q1 := K1.fz 1 rfl
  have r0 := K1.get 0 rfl
  have r1 := K1.get 1 rfl
  have yy := K1.lt 0 rfl
  have KS := K1.sub (l' := [(⟨w.heap.size + 1, 0, none⟩, .int .i64 0), (⟨w.heap.size + 1, 1, none⟩, .slice none 0 0)]) (by intro p9 hp9; simp only [List.mem_cons, List.not_mem_nil, or_false] at hp9; rcases hp9 with rfl | rfl <;> simp)
  by_cases h1 : v1 < 0
  · have N1 := Lib.hid (blkOf_none HL.out HV1.out h1)
    have d1 : decide (v1 < 0) = true := decide_eq_true h1
    have K2 := KS.set2 (.int .i64 0) (.slice none 0 0) (by omega) (by simp)
    have m0 := K2.get 0 rfl
    have m1 := K2.get 1 rfl
    have HB := Lib.hid K2.1
    clear K2 KS
    go_wp2
    exact bodyPost_ret (v := .tuple #[.agg #[.int .i64 0, .slice none 0 0], .bool false]) (by simp [results, Try.results68, go_sem, m0, m1, yy]) rfl ⟨⟨0, []⟩, false, none, 0, by rw [N1.out]; rfl, by rw [N1.out]; rfl, rfl, .inl rfl, by simp, HB.out⟩
  · obtain ⟨k1, hk1, hvk1, hbo⟩ := blkOf_some HL.out HV1.out h1
    have N1 := Lib.hid hbo
    clear hbo HV1 h1
    subst hvk1
    have d1 : decide ((k1 : Int) < 0) = false := decide_eq_false (by omega)
    have i1 : (k1 : Int) < (n : Int) := by omega
    have hrl := HR.out k1 hk1
    obtain ⟨g, rfl, hg, hGB⟩ := (HG.out.below K1.1).head HL.out (by omega)
    obtain ⟨ra, ca, p0, p1, _⟩ := hGB k1 hk1
    obtain ⟨g', eg, hg', hGB'⟩ := HG.out.head HL.out (by omega)
    obtain ⟨ra', ca', p0', p1', x2⟩ := hGB' k1 hk1
    simp only [Option.some.injEq, Addr.mk.injEq, and_true] at eg
    subst eg
    have e1 := (K1.1.cell (p := ⟨g, k1 * 2 + 1, none⟩) hg').symm.trans p1
    rw [p1'] at e1
    simp only [Option.some.injEq, Value.slice.injEq, true_and] at e1
    obtain ⟨rfl, rfl⟩ := e1
    have A2 := Lib.hid x2
    obtain ⟨b, hb⟩ : ∃ b, b = Bn l k1 := ⟨_, rfl⟩
    rw [← hb] at p0 p1 A2 hrl N1
    obtain ⟨m, hm⟩ : ∃ m, m = b.rows.length := ⟨_, rfl⟩
    rw [← hm] at p1
    have HM := Lib.hid hm
    obtain ⟨bi, hbi⟩ : ∃ bi, bi = b.id := ⟨_, rfl⟩
    rw [← hbi] at p0
    have HBI := Lib.hid hbi
    clear hGB hGB' p0' p1' x2 hb hm hbi
    have K2 := KS.set2 (.int .i64 bi) (.slice ra' m ca') (by omega) (by simp)
    have m0 := K2.get 0 rfl
    have m1 := K2.get 1 rfl
    have HB := Lib.hid K2.1
    clear K2 KS
    go_wp2
    exact bodyPost_ret (v := .tuple #[.agg #[.int .i64 bi, .slice ra' m ca'], .bool true]) (by simp [results, Try.results68, go_sem, m0, m1, yy]) rfl ⟨b, true, ra', ca', by rw [N1.out]; rfl, by rw [N1.out]; rfl, by rw [HM.out, HBI.out], A2.out, hrl, HB.out⟩

set_option maxRecDepth 8000 in
set_option maxHeartbeats 6400000 in
theorem impl_cb (ver ver' : Int) (ao bo : Option Addr) (n n' c c' : Nat) (l l' : List Blk) (w : World) (hl : l.length = n) (hl' : l'.length = n') (hn : n ≤ 1048576) (hn' : n' ≤ 1048576)
    (hr : ∀ k, k < n → (Bn l k).rows.length ≤ 1048576) (hr' : ∀ k, k < n' → (Bn l' k).rows.length ≤ 1048576) (hG : BlksVal w ao l) (hH : BlksVal w bo l') :
    Calls Try.prog 34 #[.agg #[.int .i64 ver, .slice ao n c], .agg #[.int .i64 ver', .slice bo n' c']] w (CbPost l l' w) := by
  have HG := Lib.hid hG
  have HH := Lib.hid hH
  have BA := Lib.hid (fun id w hG => impl_bk ver id ao n c l w hl hn hr hG)
  have BQ := Lib.hid (fun id w hH => impl_bk ver' id bo n' c' l' w hl' hn' hr' hH)
  clear hG hH hl hl' hr hr'
  go_enter Try.func34, Try.ntmps34
  go_wp2_with fail
  have K0 := ((Kept.start w).alloc2 (.int .i64 ver) (.slice ao n c) 38 _ rfl).alloc2 (.int .i64 ver') (.slice bo n' c') 38 (w.heap.size + 1) (by simp)
  have HI := Lib.hid (KI.start0 (B := w.heap.size + 1 + 1) K0)
  go_loopw [5, 6] (fun sv iv wr => ∃ j : Nat, j ≤ 20 ∧ iv = .int .i64 ((j : Int) + 1) ∧ Hid (KI w wr (w.heap.size + 1 + 1) [(⟨w.heap.size + 1, 0, none⟩, .int .i64 ver'), (⟨w.heap.size + 1, 1, none⟩, .slice bo n' c'), (⟨w.heap.size, 0, none⟩, .int .i64 ver), (⟨w.heap.size, 1, none⟩, .slice ao n c)] sv (cbL l l' j))) (fun _ iv _ => 21 - (intOf iv).toNat)
  case atStart => exact ⟨0, Nat.zero_le _, rfl, HI.out⟩
  case round =>
    obtain ⟨j, hj, rfl, HK⟩ := hrel
    clear K0 HI
    have hjI : (j : Int) ≤ 20 := by omega
    have LC := Lib.hid (cbL_len l l' j)
    have a0 := HK.out.1.get 0 rfl
    have a1 := HK.out.1.get 1 rfl
    have a2 := HK.out.1.get 2 rfl
    have a3 := HK.out.1.get 3 rfl
    by_cases hlt : j < 20
    · have hlI : (j : Int) + 1 ≤ 20 := by omega
      go_wp2_with fail
      refine (BA.out ((j : Int) + 1) _ (HG.out.below HK.out.1.1)).mono ?_
      rintro e w1 ⟨b, i, rao, rcap, hb1, hb2, rfl, hV1, hrl, hb⟩
      have H1 := Lib.hid hb1
      have H2 := Lib.hid hb2
      have HV1 := Lib.hid (hV1.below hb)
      obtain ⟨bi, hbi⟩ : ∃ bi, bi = b.id := ⟨_, rfl⟩
      obtain ⟨m, hm⟩ : ∃ m, m = b.rows.length := ⟨_, rfl⟩
      rw [← hbi, ← hm]
      have HK1 := Lib.hid ((HK.out.step hb).alloc2 (.int .i64 bi) (.slice rao m rcap) 67 w1.heap.size rfl)
      have HV1' := Lib.hid (HV1.out.below ((Below.refl w1.heap.size w1).alloc (Nat.le_refl _) (.cells #[.int .i64 bi, .slice rao m rcap] 67)))
      have HBI := Lib.hid hbi
      have HM := Lib.hid hm
      clear hb hb1 hb2 hV1 HV1 a0 a1 a2 a3 hbi hm
      have a2 := HK1.out.1.get 2 rfl
      have a3 := HK1.out.1.get 3 rfl
      go_wp2_with fail
      refine (BQ.out ((j : Int) + 1) _ (HH.out.below HK1.out.1.1)).mono ?_
      rintro e w2 ⟨b', i', rao', rcap', hb1, hb2, rfl, hV1, hrl', hb⟩
      have H1' := Lib.hid hb1
      have H2' := Lib.hid hb2
      have HV2 := Lib.hid (hV1.below hb)
      obtain ⟨bi', hbi⟩ : ∃ bi, bi = b'.id := ⟨_, rfl⟩
      obtain ⟨m', hm⟩ : ∃ m, m = b'.rows.length := ⟨_, rfl⟩
      rw [← hbi, ← hm]
      have HK2 := Lib.hid ((HK1.out.step hb).alloc2 (.int .i64 bi') (.slice rao' m' rcap') 67 w2.heap.size rfl)
      have bz := (Below.refl w2.heap.size w2).alloc (Nat.le_refl _) (.cells #[.int .i64 bi', .slice rao' m' rcap'] 67)
      have HV2' := Lib.hid (HV2.out.below bz)
      have HV1'' := Lib.hid ((HV1'.out.below hb).below bz)
      have HBI' := Lib.hid hbi
      have HM' := Lib.hid hm
      have SA := Lib.hid (blk_same H1.out H1'.out H2.out H2'.out)
      have hml := hrl
      have hml' := hrl'
      rw [← HM.out] at hml HV1''
      rw [← HM'.out] at hml' HV2'
      clear hb hb1 hb2 hV1 HV2 a2 a3 hbi hm bz HK1 HV1' H1 H2 H1' H2'
      have a0 := HK2.out.1.get 0 rfl
      have a1 := HK2.out.1.get 1 rfl
      have a2 := HK2.out.1.get 2 rfl
      have a3 := HK2.out.1.get 3 rfl
      have EBC := Lib.hid (fun w hA hB => impl_ebV bi bi' rao rao' m m' rcap rcap' (Rn b.rows) (Rn b'.rows) w hml hml' hA hB)
      by_cases hi : i = i'
      · subst hi
        have q : (i != i) = false := bne_self_eq_false _
        go_wp2_with fail
        refine (EBC.out _ HV1''.out HV2'.out).mono ?_
        rintro e w5 ⟨v, hv, rfl, hb⟩
        have K3 := Lib.hid (HK2.out.step hb)
        have HV := Lib.hid hv
        clear hv hb a0 a1 a2 a3
        cases v
        · have NX := Lib.hid (cbL_diff (n := j) (la := l) (lb := l') (fun h => by
            have h1 := (SA.out.1 h).2
            have h2 := HV.out.2 (by rw [HBI.out, HBI'.out, HM.out, HM'.out]; exact (eqBlk_iff b b').2 h1)
            exact absurd h2 (by simp)))
          clear HV
          go_wp2_with (first | (at_builtin; refine wpList_append_ki (W := w) rfl _ _ rfl (w.heap.size + 1 + 1) u5 _ (cbL l l' j) ((j : Int) + 1) rfl K3.out 1 _ rfl rfl ?_ ?_ ?_ ?_; (· have := LC.out; omega); (· omega); (· have h9 := (K3.out).1.lt 4 rfl; simp only at h9; omega); intro v' w6 K6))
          go_wp2
          go_roundw
          case rel => exact ⟨j + 1, by omega, by go_num, by rw [NX.out]; exact K6.sub (fun p9 hp9 => List.mem_cons_of_mem _ (List.mem_cons_of_mem _ (List.mem_cons_of_mem _ (List.mem_cons_of_mem _ hp9))))⟩
          case measure => simp [intOf]; omega
        · have NX := Lib.hid (cbL_same (n := j) (la := l) (lb := l') (SA.out.2 ⟨by first | trivial | rfl, by
            have h2 := HV.out.1 rfl
            rw [HBI.out, HBI'.out, HM.out, HM'.out] at h2
            exact (eqBlk_iff b b').1 h2⟩))
          clear HV
          go_wp2
          go_roundw
          case rel => exact ⟨j + 1, by omega, by go_num, by rw [NX.out]; exact K3.out.sub (fun p9 hp9 => List.mem_cons_of_mem _ (List.mem_cons_of_mem _ (List.mem_cons_of_mem _ (List.mem_cons_of_mem _ hp9))))⟩
          case measure => simp [intOf]; omega
      · have q : (i != i') = true := by simpa using hi
        have NX := Lib.hid (cbL_diff (n := j) (la := l) (lb := l') (fun h => hi (SA.out.1 h).1))
        have HI9 := Lib.hid hi
        clear hi
        go_upto_region 8 with fail
        go_wp2_with (first | (at_builtin; refine wpList_append_ki (W := w) rfl _ _ rfl (w.heap.size + 1 + 1) u5 _ (cbL l l' j) ((j : Int) + 1) rfl HK2.out 1 1 rfl (by rw [World.size_alloc]; rfl) ?_ ?_ ?_ ?_; (· have := LC.out; omega); (· omega); (· have h9 := (HK2.out).1.lt 4 rfl; simp only at h9; omega); intro v' w6 K6))
        go_wp2
        go_roundw
        case rel => exact ⟨j + 1, by omega, by go_num, by rw [NX.out]; exact K6.sub (fun p9 hp9 => List.mem_cons_of_mem _ (List.mem_cons_of_mem _ (List.mem_cons_of_mem _ (List.mem_cons_of_mem _ hp9))))⟩
        case measure => simp [intOf]; omega
    · obtain rfl : j = 20 := by omega
      clear a0 a1 a2 a3
      go_wp2
      go_ret
      exact ⟨_, rfl, HK.out.2.1.mono (by omega), HK.out.1.1⟩
end Go.Proofs.Ytmjcfkaiheajaaa
