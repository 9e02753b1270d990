/-
  The walk over the project's AddRow.
-/
import Derived.Test.YtndebdimjlfepaaRows
import Derived.Test.YtndebdimjlfepaaBvImpl
import Derived.Test.YtndebdimjlfepaaWtImpl
import Derived.Test.YtndebdimjlfepaaWoImpl
import Derived.Test.YtndebdimjlfepaaAdrSpec
import Derived.Test.YtndebdimjlfepaaBkCon
import Derived.Deep.CutBlock
namespace Go.Proofs.Ytndebdimjlfepaa
open Go.RowKit Num

theorem KO.made {W w w' : World} {B : Nat} {l : List (Addr × Value)} {v : Value} {rows : List Rw} (h : Kept W w l) (hb : Below w.heap.size w w') (ho : OwnR w' w.heap.size v rows) (hB : B ≤ w.heap.size) : KO W w' B l v rows :=
  ⟨h.step hb, ho.mono hB, fun p hp e => by have h1 := (h.2 p hp).1; have h2 := (ho.lt _ e).1; omega⟩

set_option maxRecDepth 8000 in
set_option maxHeartbeats 12800000 in
theorem impl_add (id : Int) (h cap : Nat) (l : List Rw) (r : Rw) (w : World) (hn : l.length ≤ 1048576) (hcap : l.length ≤ cap) (hV : RowsVal w (some ⟨h, 0, none⟩) l.length (Rn l)) :
    Calls Try.prog 70 #[.agg #[.int .i64 id, .slice (some ⟨h, 0, none⟩) l.length cap], .agg #[.int .i64 r.i, .int .i64 r.g, .int .i64 r.y, .int .i64 r.x, .bool r.nl]] w (BlkRes id (addAns id l r) (addOk id l r) w) := by
  have HV := Lib.hid hV
  clear hV
  have hnI : (l.length : Int) ≤ 1048576 := by omega
  have hlen : (addL l r).length = l.length + 1 := addL_len l r
  have HLN := Lib.hid hlen
  clear hlen
  go_enter Try.func70, Try.ntmps70
  go_upto_region 1 with fail
  have K1 := (((Kept.start w).alloc2 (.int .i64 id) (.slice (some ⟨h, 0, none⟩) l.length cap) 89 _ rfl).alloc5 (.int .i64 r.i) (.int .i64 r.g) (.int .i64 r.y) (.int .i64 r.x) (.bool r.nl) 36 (w.heap.size + 1) (by simp)).alloc2 (.int .i64 0) (.slice none 0 0) 89 (w.heap.size + 1 + 1) (by simp)
  generalize (((w.alloc (.cells #[.int .i64 id, .slice (some ⟨h, 0, none⟩) l.length cap] 89)).alloc (.cells #[.int .i64 r.i, .int .i64 r.g, .int .i64 r.y, .int .i64 r.x, .bool r.nl] 36)).alloc (.cells #[.int .i64 0, .slice none 0 0] 89)) = wc at K1 ⊢
  have z2 : w.heap.size + 1 + 1 < wc.heap.size := K1.lt 0 rfl
  have KB := Lib.hid K1.base
  go_cut [6] (fun s7 wx => MidBox id (l.length + 1) (addL l r) w wx (w.heap.size + 1 + 1 + 1) [(⟨w.heap.size + 1 + 1, 0, none⟩, .int .i64 0), (⟨w.heap.size + 1 + 1, 1, none⟩, .slice none 0 0), (⟨w.heap.size + 1, 0, none⟩, .int .i64 r.i), (⟨w.heap.size + 1, 1, none⟩, .int .i64 r.g), (⟨w.heap.size + 1, 2, none⟩, .int .i64 r.y), (⟨w.heap.size + 1, 3, none⟩, .int .i64 r.x), (⟨w.heap.size + 1, 4, none⟩, .bool r.nl), (⟨w.heap.size, 0, none⟩, .int .i64 id), (⟨w.heap.size, 1, none⟩, .slice (some ⟨h, 0, none⟩) l.length cap)] s7)
  case first =>
    obtain ⟨e0, e1, e2, e3, e4, e5, e6⟩ := c9k K1 (Below.refl _ _)
    go_region_held3 (fun w' => w'.cell? ⟨w.heap.size + 1, 0, none⟩ = some (.int .i64 r.i) ∧ w'.cell? ⟨w.heap.size + 1, 1, none⟩ = some (.int .i64 r.g) ∧ w'.cell? ⟨w.heap.size + 1, 2, none⟩ = some (.int .i64 r.y) ∧ w'.cell? ⟨w.heap.size + 1, 3, none⟩ = some (.int .i64 r.x) ∧ w'.cell? ⟨w.heap.size + 1, 4, none⟩ = some (.bool r.nl) ∧ w'.cell? ⟨w.heap.size, 0, none⟩ = some (.int .i64 id) ∧ w'.cell? ⟨w.heap.size, 1, none⟩ = some (.slice (some ⟨h, 0, none⟩) l.length cap)) (first | assumption | exact ⟨e0, e1, e2, e3, e4, e5, e6⟩ | exact c9a (by assumption) | exact c9k K1 KO3.1.1 | exact c9a (c9k K1 KO3.1.1) | exact c9s (c9k K1 KO3.1.1) (by simp only; omega) (by simp only; omega) (by simp only; omega) (by simp only; omega) (by simp only; omega) (by simp only; omega) (by simp only; omega) | exact c9s (by assumption) (by simp only; omega) (by simp only; omega) (by simp only; omega) (by simp only; omega) (by simp only; omega) (by simp only; omega) (by simp only; omega) ) (first | (go_simp; go_at_call 108; (with_reducible refine (impl_with h cap l r _ hn hcap ?_).mono ?_); (exact HV.out.below (K1.1.trans (Below.mono (by repeat' (first | (with_reducible exact (Below.refl _ _)) | (with_reducible refine Below.drew ?_) | (refine Below.alloc ?_ (by (try simp only [World.size_alloc, World.size_drew]); omega) _))) K1.1.size))); rintro e9 w3 ⟨v3, rfl, hown3, hb⟩; have KO3 := KO.made (W := wc) (B := wc.heap.size) (by repeat' (first | (with_reducible apply Kept.drew) | (with_reducible apply Kept.alloc2 (hB := rfl)) | with_reducible exact KB.out)) hb hown3 (by (try simp only [World.size_alloc, World.size_drew]); omega); (try simp only [World.size_alloc, World.size_drew, List.nil_append] at KO3); (try have y0 := KO3.1.get 0 rfl); (try have y1 := KO3.1.get 1 rfl); (try have f0 := KO3.1.fz 0 rfl); (try have f1 := KO3.1.fz 1 rfl); obtain ⟨ao3, cap3, hv3⟩ := KO3.2.1.shape; subst hv3))
    all_goals
      (dsimp only [Exit.then]; go_step; go_meet)
      first | exact (midBox_alloc K1 z2 KO3 _ rfl).cast HLN.out | exact (midBox_set K1 z2 KO3 _ (.int .i64 0) (.slice none 0 0) (by simp) (by simp) (by omega)).cast HLN.out
  case rest =>
    obtain ⟨g7, ao', cap', rfl, hg7, K2, O2⟩ := hcut
    obtain ⟨fp, RX, hfp, hnd⟩ := O2.rep
    have hlen : (addL l r).length = l.length + 1 := addL_len l r
    have HRX := Lib.hid RX
    clear RX O2
    have SC := Lib.hid (RowsVal.src (c := cap) (o := 0) (m := l.length) HV.out (by omega))
    rw [List.drop_zero, List.take_length, Nat.zero_mul] at SC
    have D1 := fun w hV => impl_bvV id (some ⟨h, 0, none⟩) l.length cap (Rn l) w hn hV
    obtain ⟨q1, hq1⟩ : ∃ q, q = blkB id l.length (Rn l) := ⟨_, rfl⟩
    rw [← hq1] at D1
    have HQ1 := Lib.hid (show q1 = blkL id l from hq1)
    have DD1 := Lib.hid D1
    clear D1 hq1
    have b0 := K2.get 9 rfl
    have b1 := K2.get 10 rfl
    go_wp2_with fail
    refine (DD1.out _ (HV.out.below K2.1)).mono ?_
    rintro e w4 ⟨rfl, hb⟩
    have K4 := K2.step hb
    have R4 := Lib.hid (HRX.out.step hb)
    clear hb K2 HRX b0 b1
    cases q1
    · have AN := Lib.hid (show addOk id l r = false by unfold addOk; rw [← HQ1.out]; rfl)
      have b0 := K4.get 9 rfl
      have b1 := K4.get 10 rfl
      have SC4 := Lib.hid (SC.out.keep K4.1)
      go_wp2_with fail
      refine (impl_bc id _ cap l _ hn SC4.out).mono ?_
      rintro e w8 ⟨v8, fp8, rfl, hs8, hf8, hn8, hb⟩
      obtain ⟨ao8, cap8, rfl⟩ := hs8.val
      have K8 := K4.step hb
      have HB8 : Hid (w.heap.size + 1 + 1 < w4.heap.size) := (show _ < _ from K4.lt 2 rfl)
      clear hb K4
      have c0 := K8.get 2 rfl
      have c1 := K8.get 3 rfl
      have e0 := K8.fz 2 rfl
      have e1 := K8.fz 3 rfl
      have K6 := (K8.sub (l' := [(⟨w.heap.size + 1 + 1, 0, none⟩, .int .i64 0), (⟨w.heap.size + 1 + 1, 1, none⟩, .slice none 0 0)]) (by intro p9 hp9; simp only [List.mem_cons, List.not_mem_nil, or_false] at hp9; rcases hp9 with rfl | rfl <;> simp)).set2 (.int .i64 id) (.slice ao8 l.length cap8) (by omega) (by simp)
      have R6 := Lib.hid ((hs8.set ⟨w.heap.size + 1 + 1, 0, none⟩ (.int .i64 id) (fun k hk => by have := hf8 k hk; have := HB8.out; simp only; omega)).set ⟨w.heap.size + 1 + 1, 1, none⟩ (.slice ao8 l.length cap8) (fun k hk => by have := hf8 k hk; have := HB8.out; simp only; omega))
      have HF8 := Lib.hid hf8
      have r0 := K6.get 0 rfl
      have r1 := K6.get 1 rfl
      have yy := K6.lt 0 rfl
      clear K8 hs8 hf8
      go_wp2
      exact bodyPost_ret (v := .tuple #[.agg #[.int .i64 id, .slice ao8 l.length cap8], .bool false]) (by simp [results, Try.results70, go_sem, r0, r1, yy]) rfl (by rw [AN.out]; exact ⟨_, fp8, rfl, by unfold addAns; rw [if_neg (by rw [AN.out]; simp)]; exact R6.out, fun k hk => by have := HF8.out k hk; have := HB8.out; omega, hn8, K6.1⟩)
    · have hl6 : l.length ≤ 6 := (blkL_of HQ1.out.symm).2.2
      have D2 := fun w hV => impl_bvV id ao' (l.length + 1) cap' (Rn (addL l r)) w (by omega) hV
      obtain ⟨q2, hq2⟩ : ∃ q, q = blkB id (l.length + 1) (Rn (addL l r)) := ⟨_, rfl⟩
      rw [← hq2] at D2
      have HQ2 := Lib.hid (show q2 = blkL id (addL l r) by unfold blkL; rw [hlen]; exact hq2)
      have DD2 := Lib.hid D2
      clear D2 hq2
      have x0 := K4.get 0 rfl
      have x1 := K4.get 1 rfl
      have hV4 : RowsVal w4 ao' (l.length + 1) (Rn (addL l r)) := by
        obtain ⟨ao5, cap5, e5, _, hV5⟩ := rows_open R4.out
        rw [hlen] at e5 hV5
        simp only [Value.slice.injEq, true_and] at e5
        rw [e5.1]; exact hV5
      have HV4 := Lib.hid hV4
      clear hV4
      go_wp2_with fail
      refine (DD2.out _ HV4.out).mono ?_
      rintro e w5 ⟨rfl, hb⟩
      have K5 := K4.step hb
      have R5 := Lib.hid (R4.out.step hb)
      clear hb K4 R4 x0 x1 HV4
      cases q2
      · have AN := Lib.hid (show addOk id l r = false by unfold addOk; rw [← HQ2.out]; simp)
        have b0 := K5.get 9 rfl
        have b1 := K5.get 10 rfl
        have SC4 := Lib.hid (SC.out.keep K5.1)
        go_wp2_with fail
        refine (impl_bc id _ cap l _ hn SC4.out).mono ?_
        rintro e w8 ⟨v8, fp8, rfl, hs8, hf8, hn8, hb⟩
        obtain ⟨ao8, cap8, rfl⟩ := hs8.val
        have K8 := K5.step hb
        have HB8 : Hid (w.heap.size + 1 + 1 < w5.heap.size) := (show _ < _ from K5.lt 2 rfl)
        clear hb K5
        have c0 := K8.get 2 rfl
        have c1 := K8.get 3 rfl
        have e0 := K8.fz 2 rfl
        have e1 := K8.fz 3 rfl
        have K6 := (K8.sub (l' := [(⟨w.heap.size + 1 + 1, 0, none⟩, .int .i64 0), (⟨w.heap.size + 1 + 1, 1, none⟩, .slice none 0 0)]) (by intro p9 hp9; simp only [List.mem_cons, List.not_mem_nil, or_false] at hp9; rcases hp9 with rfl | rfl <;> simp)).set2 (.int .i64 id) (.slice ao8 l.length cap8) (by omega) (by simp)
        have R6 := Lib.hid ((hs8.set ⟨w.heap.size + 1 + 1, 0, none⟩ (.int .i64 id) (fun k hk => by have := hf8 k hk; have := HB8.out; simp only; omega)).set ⟨w.heap.size + 1 + 1, 1, none⟩ (.slice ao8 l.length cap8) (fun k hk => by have := hf8 k hk; have := HB8.out; simp only; omega))
        have HF8 := Lib.hid hf8
        have r0 := K6.get 0 rfl
        have r1 := K6.get 1 rfl
        have yy := K6.lt 0 rfl
        clear K8 hs8 hf8
        go_wp2
        exact bodyPost_ret (v := .tuple #[.agg #[.int .i64 id, .slice ao8 l.length cap8], .bool false]) (by simp [results, Try.results70, go_sem, r0, r1, yy]) rfl (by rw [AN.out]; exact ⟨_, fp8, rfl, by unfold addAns; rw [if_neg (by rw [AN.out]; simp)]; exact R6.out, fun k hk => by have := HF8.out k hk; have := HB8.out; omega, hn8, K6.1⟩)
      · have AN := Lib.hid (show addOk id l r = true by unfold addOk; rw [← HQ1.out, ← HQ2.out]; rfl)
        have x0 := K5.get 0 rfl
        have x1 := K5.get 1 rfl
        have c0 := K5.get 2 rfl
        have c1 := K5.get 3 rfl
        have e0 := K5.fz 2 rfl
        have e1 := K5.fz 3 rfl
        have K6 := (K5.sub (l' := [(⟨w.heap.size + 1 + 1, 0, none⟩, .int .i64 0), (⟨w.heap.size + 1 + 1, 1, none⟩, .slice none 0 0)]) (by intro p9 hp9; simp only [List.mem_cons, List.not_mem_nil, or_false] at hp9; rcases hp9 with rfl | rfl <;> simp)).set2 (.int .i64 id) (.slice ao' (l.length + 1) cap') (by omega) (by simp)
        have R6 := Lib.hid ((R5.out.set ⟨w.heap.size + 1 + 1, 0, none⟩ (.int .i64 id) (fun k hk => by have := hfp k hk; simp only; omega)).set ⟨w.heap.size + 1 + 1, 1, none⟩ (.slice ao' (l.length + 1) cap') (fun k hk => by have := hfp k hk; simp only; omega))
        have r0 := K6.get 0 rfl
        have r1 := K6.get 1 rfl
        have yy := K6.lt 0 rfl
        clear K5 R5
        go_wp2
        exact bodyPost_ret (v := .tuple #[.agg #[.int .i64 id, .slice ao' (l.length + 1) cap'], .bool true]) (by simp [results, Try.results70, go_sem, r0, r1, yy]) rfl (by rw [AN.out]; exact ⟨_, fp, rfl, by unfold addAns; rw [if_pos AN.out]; exact R6.out, fun k hk => by have := hfp k hk; omega, hnd, K6.1⟩)

theorem impl_addO (id : Int) (g n c : Nat) (l : List Rw) (fp : List Nat) (r : Rw) (w : World) (hn : l.length ≤ 1048576) (h : SliceRep rowTy w (.slice (some ⟨g, 0, none⟩) n c) l fp) :
    Calls Try.prog 70 #[.agg #[.int .i64 id, .slice (some ⟨g, 0, none⟩) n c], .agg #[.int .i64 r.i, .int .i64 r.g, .int .i64 r.y, .int .i64 r.x, .bool r.nl]] w (AddPost id l r w) := by
  obtain ⟨rfl, hc, hV⟩ := rows_headV h
  exact (impl_add id g c l r w hn hc hV).mono fun e w' hh => ⟨_, _, ⟨rfl, rfl⟩, hh⟩
end Go.Proofs.Ytndebdimjlfepaa
