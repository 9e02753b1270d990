/-
  The walk over the project's ParseBlock.
-/
import Derived.Test.YtndebdimjlfepaaDoorRows
import Derived.Test.YtndebdimjlfepaaDoorSpImpl
import Derived.Test.YtndebdimjlfepaaDoorPaRow
import Derived.Test.YtndebdimjlfepaaDoorBvImpl
namespace Go.Proofs.YtndebdimjlfepaaDoor
open Go.RowKit Num

set_option maxRecDepth 8000 in
set_option maxHeartbeats 12800000 in
theorem impl_pb (s : ByteArray) (w : World) (hs : s.size ≤ 1048576) (ht : PowTab w) (hm : MaxCell w) :
    Calls Tryd.prog 22 #[.string s] w (PBPost s w) := by
  have HT : Hid (PowTab w) := ht
  have HM : Hid (MaxCell w) := hm
  have HLT : Hid (0 < w.heap.size) := (show _ < _ by obtain ⟨m, hm⟩ := hm; exact World.block_lt_of_cell? w _ hm)
  clear ht hm
  go_enter Tryd.func22, Tryd.ntmps22
  go_wp2_with fail
  have K0 := (Kept.start w).alloc2 (.int .i64 0) (.slice none 0 0) 39 _ rfl
  refine (impl_sp 32 35 s _ hs (HT.out.below K0.1 (Nat.le_refl _)) (HM.out.below K0.1 HLT.out)).mono ?_
  rintro e w3 ⟨p0, d, T, m, k1, n, aoT, cap, h7, hT6, hS6, hmk, hp, rfl, hTA, hb⟩
  have K3 := K0.step hb
  have H7 := Lib.hid h7
  have HS6 := Lib.hid hS6
  have MK := Lib.hid hmk
  have A1 := Lib.hid hp
  have TA := Lib.hid hTA
  clear h7 hS6 hmk hp hTA hb K0
  have h6I : (T.length : Int) ≤ 6 := by omega
  go_wp2_with fail
  all_goals
    refine (impl_prs aoT T _ _ _ rfl hT6 TA.out HS6.out (HT.out.below K3.1 (Nat.le_refl _)) (HM.out.below K3.1 HLT.out)).mono ?_
    rintro e w4 hpr
    clear TA HS6
    rcases hpr with ⟨L, v, hL, hr, rfl, hown, hb⟩ | ⟨k, hk, hbad, rfl, hb⟩
    · obtain ⟨ao4, cap4, rfl⟩ := hown.shape
      have K4 := K3.step hb
      have HRD := Lib.hid hr
      have HLL := Lib.hid hL
      have HOWN := Lib.hid hown
      have BB := Lib.hid K4.1
      have BX := K4.alloc2 (.int .i64 n) (.slice ao4 L.length cap4) 39 w4.heap.size rfl
      have zz : w.heap.size < w4.heap.size := K4.lt 0 rfl
      have HB3 : Hid (w.heap.size < w3.heap.size) := (show _ < _ from K3.lt 0 rfl)
      have hLn : L.length ≤ 6 := by omega
      clear hL hr hown hb K3
      cases m
      · have AN := Lib.hid (cut7_no H7.out fun hp => pbk_unmarked hp MK.out)
        have t0 := K4.get 0 rfl
        have t1 := K4.get 1 rfl
        have u0 := K4.fz 0 rfl
        have u1 := K4.fz 1 rfl
        have K6 := K4.set2 (.int .i64 0) (.slice none 0 0) (Nat.le_refl _) (by simp)
        have r0' := K6.get 0 rfl
        have r1' := K6.get 1 rfl
        have yy := K6.lt 0 rfl
        clear BX K4
        go_wp2
        exact bodyPost_ret (v := .tuple #[.agg #[.int .i64 0, .slice none 0 0], .bool false]) (by simp [results, Tryd.results22, go_sem, r0', r1', yy, zz, Nat.ne_of_lt zz]) rfl (PBPost.no AN.out (K6.1.alloc K6.1.size _))
      · cases k1
        · have AN := Lib.hid (cut7_no H7.out fun hp => pbk_badnum hp MK.out A1.out)
          have t0 := K4.get 0 rfl
          have t1 := K4.get 1 rfl
          have u0 := K4.fz 0 rfl
          have u1 := K4.fz 1 rfl
          have K6 := K4.set2 (.int .i64 0) (.slice none 0 0) (Nat.le_refl _) (by simp)
          have r0' := K6.get 0 rfl
          have r1' := K6.get 1 rfl
          have yy := K6.lt 0 rfl
          clear BX K4
          go_wp2
          exact bodyPost_ret (v := .tuple #[.agg #[.int .i64 0, .slice none 0 0], .bool false]) (by simp [results, Tryd.results22, go_sem, r0', r1', yy, zz, Nat.ne_of_lt zz]) rfl (PBPost.no AN.out (K6.1.alloc K6.1.size _))
        · have hV : RowsVal w4 ao4 L.length (Rn L) := by
            obtain ⟨fp, hs5, _, _⟩ := HOWN.out.rep
            obtain ⟨ao5, cap5, e5, _, hV5⟩ := rows_open hs5
            simp only [Value.slice.injEq, true_and] at e5
            rw [e5.1]; exact hV5
          have HV := Lib.hid (hV.below ((Below.refl w4.heap.size w4).alloc (Nat.le_refl _) (.cells #[.int .i64 n, .slice ao4 L.length cap4] 39)))
          clear hV
          obtain ⟨q, hq⟩ : ∃ q, q = blkB n L.length (Rn L) := ⟨_, rfl⟩
          have DV := Lib.hid (fun w hV => impl_bvV n ao4 L.length cap4 (Rn L) w (by omega) hV)
          have DV2 := DV.out
          rw [← hq] at DV2
          have DV3 := Lib.hid DV2
          have HQ := Lib.hid hq
          clear hq DV DV2
          go_wp2_with fail
          refine (DV3.out _ HV.out).mono ?_
          rintro e w5 ⟨rfl, hb⟩
          have K5 := BX.step hb
          have HO5 := Lib.hid ((HOWN.out.step ((Below.refl w4.heap.size w4).alloc (Nat.le_refl _) (.cells #[.int .i64 n, .slice ao4 L.length cap4] 39))).step hb)
          clear hb BX HOWN HV
          have r0 := K5.get 2 rfl
          have r1 := K5.get 3 rfl
          have q0 := K5.fz 2 rfl
          have q1 := K5.fz 3 rfl
          have b0 := K5.get 0 rfl
          have b1 := K5.get 1 rfl
          cases q
          · have AN := Lib.hid (cut7_no H7.out fun hp => pbk_invalid hp MK.out A1.out HLL.out HRD.out HQ.out.symm)
            have K6 := (K5.sub (l' := [(⟨w.heap.size, 0, none⟩, .int .i64 0), (⟨w.heap.size, 1, none⟩, .slice none 0 0)]) (by intro p9 hp9; simp only [List.mem_cons, List.not_mem_nil, or_false] at hp9; rcases hp9 with rfl | rfl <;> simp)).set2 (.int .i64 0) (.slice none 0 0) (Nat.le_refl _) (by simp)
            have r0' := K6.get 0 rfl
            have r1' := K6.get 1 rfl
            have yy := K6.lt 0 rfl
            clear K5
            go_wp2
            exact bodyPost_ret (v := .tuple #[.agg #[.int .i64 0, .slice none 0 0], .bool false]) (by simp [results, Tryd.results22, go_sem, r0', r1', yy]) rfl (PBPost.no AN.out K6.1)
          · have AN := Lib.hid (pbk_yes (cut7_ok H7.out HLL.out HRD.out) MK.out A1.out HLL.out HRD.out HQ.out.symm)
            have K6 := (K5.sub (l' := [(⟨w.heap.size, 0, none⟩, .int .i64 0), (⟨w.heap.size, 1, none⟩, .slice none 0 0)]) (by intro p9 hp9; simp only [List.mem_cons, List.not_mem_nil, or_false] at hp9; rcases hp9 with rfl | rfl <;> simp)).set2 (.int .i64 n) (.slice ao4 L.length cap4) (Nat.le_refl _) (by simp)
            obtain ⟨fp, hs6, hf6, hn6⟩ := OwnR.rep ((HO5.out.setb (a := ⟨w.heap.size, 0, none⟩) HB3.out (.int .i64 n)).setb (a := ⟨w.heap.size, 1, none⟩) HB3.out (.slice ao4 L.length cap4))
            have R6 := Lib.hid hs6
            have F6 := Lib.hid (show ∀ k ∈ fp, w.heap.size ≤ k from fun k hk => by have h1 := hf6 k hk; have h2 := HB3.out; omega)
            have r0' := K6.get 0 rfl
            have r1' := K6.get 1 rfl
            have yy := K6.lt 0 rfl
            clear K5 hs6 hf6
            go_wp2
            exact bodyPost_ret (v := .tuple #[.agg #[.int .i64 n, .slice ao4 L.length cap4], .bool true]) (by simp [results, Tryd.results22, go_sem, r0', r1', yy]) rfl ⟨n, L, true, _, fp, AN.out, rfl, R6.out, F6.out, hn6, K6.1⟩
    · skip
      all_goals
        have K4 := K3.step hb
        have HB := Lib.hid (show PRow T[k] 0 0 0 0 false false from hbad)
        have AN := Lib.hid (cut7_no H7.out fun hp => pb_bad hp hk HB.out)
        have BX := K4.alloc2 (.int .i64 n) (.slice none 0 0) 39 w4.heap.size rfl
        have zz : w.heap.size < w4.heap.size := K4.lt 0 rfl
        clear hb K3 hbad
        cases m
        · have t0 := K4.get 0 rfl
          have t1 := K4.get 1 rfl
          have u0 := K4.fz 0 rfl
          have u1 := K4.fz 1 rfl
          have K6 := K4.set2 (.int .i64 0) (.slice none 0 0) (Nat.le_refl _) (by simp)
          have r0' := K6.get 0 rfl
          have r1' := K6.get 1 rfl
          have yy := K6.lt 0 rfl
          clear BX K4
          go_wp2
          exact bodyPost_ret (v := .tuple #[.agg #[.int .i64 0, .slice none 0 0], .bool false]) (by simp [results, Tryd.results22, go_sem, r0', r1', yy, zz, Nat.ne_of_lt zz]) rfl (PBPost.no AN.out (K6.1.alloc K6.1.size _))
        · cases k1
          · have t0 := K4.get 0 rfl
            have t1 := K4.get 1 rfl
            have u0 := K4.fz 0 rfl
            have u1 := K4.fz 1 rfl
            have K6 := K4.set2 (.int .i64 0) (.slice none 0 0) (Nat.le_refl _) (by simp)
            have r0' := K6.get 0 rfl
            have r1' := K6.get 1 rfl
            have yy := K6.lt 0 rfl
            clear BX K4
            go_wp2
            exact bodyPost_ret (v := .tuple #[.agg #[.int .i64 0, .slice none 0 0], .bool false]) (by simp [results, Tryd.results22, go_sem, r0', r1', yy, zz, Nat.ne_of_lt zz]) rfl (PBPost.no AN.out (K6.1.alloc K6.1.size _))
          · have t0 := K4.get 0 rfl
            have t1 := K4.get 1 rfl
            have u0 := K4.fz 0 rfl
            have u1 := K4.fz 1 rfl
            have K6 := K4.set2 (.int .i64 0) (.slice none 0 0) (Nat.le_refl _) (by simp)
            have r0' := K6.get 0 rfl
            have r1' := K6.get 1 rfl
            have yy := K6.lt 0 rfl
            clear BX K4
            go_wp2
            exact bodyPost_ret (v := .tuple #[.agg #[.int .i64 0, .slice none 0 0], .bool false]) (by simp [results, Tryd.results22, go_sem, r0', r1', yy, zz, Nat.ne_of_lt zz]) rfl (PBPost.no AN.out (K6.1.alloc K6.1.size _))
end Go.Proofs.YtndebdimjlfepaaDoor
