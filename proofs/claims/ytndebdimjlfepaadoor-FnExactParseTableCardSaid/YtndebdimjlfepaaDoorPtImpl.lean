/-
  The walk over the project's ParseTable.
-/
import Derived.Test.YtndebdimjlfepaaDoorRows
import Derived.Test.YtndebdimjlfepaaDoorSpImpl
import Derived.Test.YtndebdimjlfepaaDoorPaBlk
import Derived.Test.YtndebdimjlfepaaDoorPtSpec
import Derived.Test.YtndebdimjlfepaaDoorTvImpl
namespace Go.Proofs.YtndebdimjlfepaaDoor
open Go.RowKit Num

/-- The IDs of rows that were read are numbers of the machine. -/
theorem wf_read {T : List (List UInt8)} {L : List Blk} (hL : L.length = T.length) (hr : ∀ k (hk : k < T.length) (hk' : k < L.length), RdBlk T[k] L[k] true) : WfB L.length (Bn L) := fun k hk j hj => by
  rw [Bn_at hk] at hj ⊢
  have h : blkB L[k].id L[k].rows.length (Rn L[k].rows) = true := by
    rcases hr k (by omega) hk with ⟨_, h, _⟩ | ⟨h, _⟩
    · exact h
    · cases h
  have h2 : (Rn L[k].rows j).ok = true := areB_rows _ (blkB_of h).2.1 j hj
  have h3 : rowB (Rn L[k].rows j).i (Rn L[k].rows j).g (Rn L[k].rows j).y (Rn L[k].rows j).x (Rn L[k].rows j).nl = true := h2
  unfold rowB at h3
  rw [Bool.and_eq_true] at h3
  have h4 := of_decide_eq_true h3.1
  exact WalkArith.wf_i64 (by omega)

set_option maxRecDepth 8000 in
set_option maxHeartbeats 12800000 in
theorem impl_pt (s : ByteArray) (w : World) (hs : s.size ≤ 1048576) (ht : PowTab w) (hm : MaxCell w) :
    Calls Tryd.prog 31 #[.string s] w (PTPost s w) := by
  have HT : Hid (PowTab w) := ht
  have HM : Hid (MaxCell w) := hm
  have HLT : Hid (0 < w.heap.size) := (show _ < _ by obtain ⟨m, hm⟩ := hm; exact World.block_lt_of_cell? w _ hm)
  clear ht hm
  go_enter Tryd.func31, Tryd.ntmps31
  go_wp2_with fail
  have K0 := (Kept.start w).alloc2 (.int .i64 0) (.slice none 0 0) 53 _ rfl
  refine (impl_sp 59 118 s _ hs (HT.out.below K0.1 (Nat.le_refl _)) (HM.out.below K0.1 HLT.out)).mono ?_
  rintro e w3 ⟨p0, d, T, m, k1, n, aoT, cap, h7, hT6, hS6, hmk, hp, rfl, hTA, hb⟩
  have K3 := K0.step hb
  have H7 := Lib.hid h7
  have HS6 := Lib.hid hS6
  have MK := Lib.hid hmk
  have A1 := Lib.hid hp
  have TA := Lib.hid hTA
  clear h7 hS6 hmk hp hTA hb K0
  have h6I : (T.length : Int) ≤ 6 := by omega
  go_wp2_with fail
  all_goals
    refine (impl_pas aoT T _ _ _ rfl hT6 TA.out HS6.out (HT.out.below K3.1 (Nat.le_refl _)) (HM.out.below K3.1 HLT.out)).mono ?_
    rintro e w4 hpr
    clear TA HS6
    rcases hpr with ⟨L, v, fL, hL, hr, rfl, hown, hb⟩ | ⟨k, hk, ⟨bb, hbad⟩, rfl, hb⟩
    · obtain ⟨ao4, cap4, rfl⟩ := hown.shape
      have K4 := K3.step hb
      have HRD := Lib.hid hr
      have HLL := Lib.hid hL
      have HOWN := Lib.hid hown
      have BB := Lib.hid K4.1
      have BX := K4.alloc2 (.int .i64 n) (.slice ao4 L.length cap4) 53 w4.heap.size rfl
      have zz : w.heap.size < w4.heap.size := K4.lt 0 rfl
      have HB3 : Hid (w.heap.size < w3.heap.size) := (show _ < _ from K3.lt 0 rfl)
      have hLn : L.length ≤ 6 := by omega
      clear hL hr hown hb K3
      cases m
      · have AN := Lib.hid (cutT_no H7.out fun hp => tpk_unmarked hp MK.out)
        have t0 := K4.get 0 rfl
        have t1 := K4.get 1 rfl
        have u0 := K4.fz 0 rfl
        have u1 := K4.fz 1 rfl
        have K6 := K4.set2 (.int .i64 0) (.slice none 0 0) (Nat.le_refl _) (by simp)
        have r0' := K6.get 0 rfl
        have r1' := K6.get 1 rfl
        have yy := K6.lt 0 rfl
        clear BX K4
        go_wp2
        exact bodyPost_ret (v := .tuple #[.agg #[.int .i64 0, .slice none 0 0], .bool false]) (by simp [results, Tryd.results31, go_sem, r0', r1', yy, zz, Nat.ne_of_lt zz]) rfl (PTPost.no AN.out (K6.1.alloc K6.1.size _))
      · cases k1
        · have AN := Lib.hid (cutT_no H7.out fun hp => tpk_badnum hp MK.out A1.out)
          have t0 := K4.get 0 rfl
          have t1 := K4.get 1 rfl
          have u0 := K4.fz 0 rfl
          have u1 := K4.fz 1 rfl
          have K6 := K4.set2 (.int .i64 0) (.slice none 0 0) (Nat.le_refl _) (by simp)
          have r0' := K6.get 0 rfl
          have r1' := K6.get 1 rfl
          have yy := K6.lt 0 rfl
          clear BX K4
          go_wp2
          exact bodyPost_ret (v := .tuple #[.agg #[.int .i64 0, .slice none 0 0], .bool false]) (by simp [results, Tryd.results31, go_sem, r0', r1', yy, zz, Nat.ne_of_lt zz]) rfl (PTPost.no AN.out (K6.1.alloc K6.1.size _))
        · have hV : BlksVal w4 ao4 L := by
            obtain ⟨fp, hs5, _, _⟩ := HOWN.out.rep
            obtain ⟨ao5, cap5, e5, _, hV5⟩ := blks_open hs5
            simp only [Value.slice.injEq, true_and] at e5
            rw [e5.1]; exact hV5
          have HV := Lib.hid (hV.below ((Below.refl w4.heap.size w4).alloc (Nat.le_refl _) (.cells #[.int .i64 n, .slice ao4 L.length cap4] 53)))
          have HRW := Lib.hid (show ∀ k, k < L.length → (Bn L k).rows.length ≤ 1048576 from fun k hk => by
            rw [Bn_at hk]
            have := pbl_len (HRD.out k (by have := HLL.out; omega) hk)
            omega)
          have HWF := Lib.hid (show WfB L.length (Bn L) from wf_read (HLL.out) HRD.out)
          clear hV
          go_wp2_with fail
          refine (impl_tv n ao4 L.length cap4 L _ rfl (by omega) HRW.out HWF.out HV.out).mono ?_
          rintro e w5 ⟨q, hq, rfl, hb⟩
          have HQ := Lib.hid hq
          have K5 := BX.step hb
          have HO5 := Lib.hid ((HOWN.out.step ((Below.refl w4.heap.size w4).alloc (Nat.le_refl _) (.cells #[.int .i64 n, .slice ao4 L.length cap4] 53))).step hb)
          clear hq
          clear hb BX HOWN HV
          have r0 := K5.get 2 rfl
          have r1 := K5.get 3 rfl
          have q0 := K5.fz 2 rfl
          have q1 := K5.fz 3 rfl
          have b0 := K5.get 0 rfl
          have b1 := K5.get 1 rfl
          cases q
          · have AN := Lib.hid (cutT_no H7.out fun hp => tpk_invalid hp MK.out A1.out HLL.out HRD.out (fun h => absurd (HQ.out.2 h) (by simp)))
            have K6 := (K5.sub (l' := [(⟨w.heap.size, 0, none⟩, .int .i64 0), (⟨w.heap.size, 1, none⟩, .slice none 0 0)]) (by intro p9 hp9; simp only [List.mem_cons, List.not_mem_nil, or_false] at hp9; rcases hp9 with rfl | rfl <;> simp)).set2 (.int .i64 0) (.slice none 0 0) (Nat.le_refl _) (by simp)
            have r0' := K6.get 0 rfl
            have r1' := K6.get 1 rfl
            have yy := K6.lt 0 rfl
            clear K5
            go_wp2
            exact bodyPost_ret (v := .tuple #[.agg #[.int .i64 0, .slice none 0 0], .bool false]) (by simp [results, Tryd.results31, go_sem, r0', r1', yy]) rfl (PTPost.no AN.out K6.1)
          · have AN := Lib.hid (tpk_yes (cutT_ok H7.out HLL.out HRD.out) MK.out A1.out HLL.out HRD.out (HQ.out.1 rfl))
            have K6 := (K5.sub (l' := [(⟨w.heap.size, 0, none⟩, .int .i64 0), (⟨w.heap.size, 1, none⟩, .slice none 0 0)]) (by intro p9 hp9; simp only [List.mem_cons, List.not_mem_nil, or_false] at hp9; rcases hp9 with rfl | rfl <;> simp)).set2 (.int .i64 n) (.slice ao4 L.length cap4) (Nat.le_refl _) (by simp)
            obtain ⟨fp, hs6, hf6, hn6⟩ := OwnB.rep ((HO5.out.setb (a := ⟨w.heap.size, 0, none⟩) HB3.out (.int .i64 n)).setb (a := ⟨w.heap.size, 1, none⟩) HB3.out (.slice ao4 L.length cap4))
            have R6 := Lib.hid hs6
            have F6 := Lib.hid (show ∀ k ∈ fp, w.heap.size ≤ k from fun k hk => by have h1 := hf6 k hk; have h2 := HB3.out; omega)
            have r0' := K6.get 0 rfl
            have r1' := K6.get 1 rfl
            have yy := K6.lt 0 rfl
            clear K5 hs6 hf6
            go_wp2
            exact bodyPost_ret (v := .tuple #[.agg #[.int .i64 n, .slice ao4 L.length cap4], .bool true]) (by simp [results, Tryd.results31, go_sem, r0', r1', yy]) rfl ⟨n, L, true, _, fp, AN.out, rfl, R6.out, F6.out, hn6, K6.1⟩
    · skip
      all_goals
        have K4 := K3.step hb
        have HB := Lib.hid (show RdBlk T[k] bb false from hbad)
        have AN := Lib.hid (cutT_no H7.out fun hp => tp_bad hp hk HB.out)
        have BX := K4.alloc2 (.int .i64 n) (.slice none 0 0) 53 w4.heap.size rfl
        have zz : w.heap.size < w4.heap.size := K4.lt 0 rfl
        clear hb K3 hbad
        cases m
        · have t0 := K4.get 0 rfl
          have t1 := K4.get 1 rfl
          have u0 := K4.fz 0 rfl
          have u1 := K4.fz 1 rfl
          have K6 := K4.set2 (.int .i64 0) (.slice none 0 0) (Nat.le_refl _) (by simp)
          have r0' := K6.get 0 rfl
          have r1' := K6.get 1 rfl
          have yy := K6.lt 0 rfl
          clear BX K4
          go_wp2
          exact bodyPost_ret (v := .tuple #[.agg #[.int .i64 0, .slice none 0 0], .bool false]) (by simp [results, Tryd.results31, go_sem, r0', r1', yy, zz, Nat.ne_of_lt zz]) rfl (PTPost.no AN.out (K6.1.alloc K6.1.size _))
        · cases k1
          · have t0 := K4.get 0 rfl
            have t1 := K4.get 1 rfl
            have u0 := K4.fz 0 rfl
            have u1 := K4.fz 1 rfl
            have K6 := K4.set2 (.int .i64 0) (.slice none 0 0) (Nat.le_refl _) (by simp)
            have r0' := K6.get 0 rfl
            have r1' := K6.get 1 rfl
            have yy := K6.lt 0 rfl
            clear BX K4
            go_wp2
            exact bodyPost_ret (v := .tuple #[.agg #[.int .i64 0, .slice none 0 0], .bool false]) (by simp [results, Tryd.results31, go_sem, r0', r1', yy, zz, Nat.ne_of_lt zz]) rfl (PTPost.no AN.out (K6.1.alloc K6.1.size _))
          · have t0 := K4.get 0 rfl
            have t1 := K4.get 1 rfl
            have u0 := K4.fz 0 rfl
            have u1 := K4.fz 1 rfl
            have K6 := K4.set2 (.int .i64 0) (.slice none 0 0) (Nat.le_refl _) (by simp)
            have r0' := K6.get 0 rfl
            have r1' := K6.get 1 rfl
            have yy := K6.lt 0 rfl
            clear BX K4
            go_wp2
            exact bodyPost_ret (v := .tuple #[.agg #[.int .i64 0, .slice none 0 0], .bool false]) (by simp [results, Tryd.results31, go_sem, r0', r1', yy, zz, Nat.ne_of_lt zz]) rfl (PTPost.no AN.out (K6.1.alloc K6.1.size _))
end Go.Proofs.YtndebdimjlfepaaDoor
