/-
  The walk over the project's performing of an appending: the arms that leave the table as it was.
-/
import Derived.Test.YtcfcohnkkgickaaRows
import Derived.Test.YtcfcohnkkgickaaMgB
import Derived.Test.YtcfcohnkkgickaaEbhImpl
import Derived.Test.YtcfcohnkkgickaaWtNil
import Derived.Test.YtcfcohnkkgickaaIvcImpl
import Derived.Deep.RegionHeld3
import Derived.Deep.RegionLaw
namespace Go.Proofs.Ytcfcohnkkgickaa
open Go.RowKit Num

/-- A block of a table behind a pointer, to be read. -/
theorem TblBox.blkAt {w : World} {bp : Nat} {ver : Int} {v : Value} {l : List Blk} {fp : List Nat} (h : TblBox w bp ver v l fp) {k : Nat} (hk : k < l.length) :
    ∃ g cap ro rcap fk, v = .slice (some ⟨g, 0, none⟩) l.length cap ∧ g < w.heap.size ∧ w.cell? ⟨g, k * 2, none⟩ = some (.int .i64 (Bn l k).id) ∧ w.cell? ⟨g, k * 2 + 1, none⟩ = some (.slice ro (Bn l k).rows.length rcap) ∧ (Bn l k).rows.length ≤ rcap ∧ SliceRep rowTy w (.slice ro (Bn l k).rows.length rcap) (Bn l k).rows fk := by
  obtain ⟨g, cap, vb, fa, fk, fb, rfl, _, _, ho, c0, c1, hs, _, _⟩ := blk_open h.2.2.2.2.2.1 h.2.2.2.2.2.2.1 hk
  rw [← Bn_at hk] at c0 hs
  obtain ⟨ro, rcap, rfl, hc, _⟩ := rows_open hs
  exact ⟨g, cap, ro, rcap, fk, rfl, ho.1, c0, c1, hc, hs⟩
theorem set_id {w : World} {g o : Nat} {v : Value} (h : w.cell? ⟨g, o, none⟩ = some v) : w.setCell ⟨g, o, none⟩ v = w := by
  have e : (w.setCell ⟨g, o, none⟩ v).heap = w.heap := by
    unfold World.setCell
    simp only
    apply Array.ext_getElem?
    intro i
    rw [Array.getElem?_modify]
    by_cases hi : g = i
    · subst hi
      rw [if_pos rfl]
      unfold World.cell? at h
      simp only at h
      cases hb : w.heap[g]? with
      | none => rfl
      | some ob =>
        rw [hb] at h
        cases ob with
        | cells c t f =>
          simp only [Option.map_some] at h ⊢
          congr 2
          simp at h ⊢
          apply Array.ext_getElem?
          intro j
          rw [Array.getElem?_setIfInBounds]
          split
          · rename_i e
            subst e
            split
            · rw [h]
            · exact (Array.getElem?_eq_none (by omega)).symm
          · rfl
        | _ => rfl
    · rw [if_neg hi]
  show ({ w with heap := (w.setCell ⟨g, o, none⟩ v).heap } : World) = w
  rw [e]
/-- The rows of a block of a table behind a pointer, to be replaced. -/
theorem TblBox.putR {w : World} {bp : Nat} {ver : Int} {v : Value} {l : List Blk} {fp : List Nat} (h : TblBox w bp ver v l fp) {k : Nat} (hk : k < l.length) {vb : Value} {rows : List Rw} {fn : List Nat} (hs : SliceRep rowTy w vb rows fn) (hn : fn.Nodup) (hd : ∀ j ∈ fn, j ∉ bp :: fp) :
    ∃ g cap fp', v = .slice (some ⟨g, 0, none⟩) l.length cap ∧ ((∃ u, w.cell? ⟨g, k * 2 + 1, none⟩ = some u) ∧ w.frozen? ⟨g, k * 2 + 1, none⟩ = false) ∧ TblBox (w.setCell ⟨g, k * 2 + 1, none⟩ vb) bp ver v (l.set k ⟨(Bn l k).id, rows⟩) fp' ∧ (∀ x ∈ fp', x ∈ fp ∨ x ∈ fn) ∧ Chg fp w (w.setCell ⟨g, k * 2 + 1, none⟩ vb) := by
  obtain ⟨g, cap, ro, rcap, fk, e0, hg, c0, c1, _⟩ := h.blkAt hk
  obtain ⟨g2, cap2, fp', e2, ⟨_, _, h3, h4⟩, h5, h6, h7⟩ := h.putB hk (Bn l k).id hs hn hd
  rw [e0] at e2
  simp only [Value.slice.injEq, Option.some.injEq, Addr.mk.injEq, and_true, true_and] at e2
  obtain ⟨rfl, rfl⟩ := e2
  rw [set_id c0] at h5 h7
  exact ⟨g, cap, fp', e0, ⟨h3, h4⟩, h5, h6, h7⟩
theorem not_row {l : List Blk} {i vb : Int} (h : vb = idxI (fun c : Blk => HasRow c.rows i) l) (h1 : ¬ iRow l i < l.length) : decide (0 ≤ vb) = false := by
  refine decide_eq_false ?_
  unfold idxI at h
  rw [if_neg (show ¬ fIdx (fun c : Blk => HasRow c.rows i) l < l.length from h1)] at h
  omega
theorem is_row {l : List Blk} {i vb : Int} (h : vb = idxI (fun c : Blk => HasRow c.rows i) l) (h1 : iRow l i < l.length) : decide (0 ≤ vb) = true := by
  refine decide_eq_true ?_
  unfold idxI at h
  rw [if_pos (show fIdx (fun c : Blk => HasRow c.rows i) l < l.length from h1)] at h
  omega
theorem not_blk {l : List Blk} {b vf : Int} (h : vf = idxI (fun c : Blk => c.id = b) l) (h1 : ¬ iBlk l b < l.length) : decide (0 ≤ vf) = false := by
  refine decide_eq_false ?_
  unfold idxI at h
  rw [if_neg (show ¬ fIdx (fun c : Blk => c.id = b) l < l.length from h1)] at h
  omega
theorem is_blk {l : List Blk} {b vf : Int} {k : Nat} (h : vf = idxI (fun c : Blk => c.id = b) l) (e : iBlk l b = k) (h1 : k < l.length) : decide (0 ≤ vf) = true ∧ vf = (k : Int) := by
  subst e
  unfold idxI at h
  rw [if_pos (show fIdx (fun c : Blk => c.id = b) l < l.length from h1)] at h
  exact ⟨decide_eq_true (by omega), h⟩

set_option maxRecDepth 8000 in
set_option maxHeartbeats 6400000 in
theorem impl_pf1t (ver b i g y x : Int) (nl : Bool) (bp : Nat) (v : Value) (l : List Blk) (fp : List Nat) (w : World) (hT : TblOk ver l l.length) (hC : ChOk ⟨1, b, ⟨i, g, y, x, nl⟩⟩) (hv : ver ≠ 99) (hB : TblBox w bp ver v l fp) (h1 : iRow l i < l.length) :
    Calls Try.prog 163 #[.agg #[.int .i64 1, .int .i64 b, .int .i64 i, .int .i64 g, .int .i64 y, .int .i64 x, .bool nl], .pointer (some ⟨bp, 0, none⟩)] w (PfPost ver l ⟨1, b, ⟨i, g, y, x, nl⟩⟩ bp fp w) := by
  have hn6 : l.length ≤ 6 := hT.2.1
  obtain ⟨ao, cap, rfl, hcap, hV⟩ := hB.open
  have hir := (hC.one rfl)
  have FB := Lib.hid (fun w hV => impl_findB ver b ao l.length cap l w rfl (by omega) hV)
  have BR := Lib.hid (fun w hV => impl_bor ver i ao l.length cap l w rfl (by omega) (fun k hk => by have := tbl_rows hT k hk; omega) (tbl_wf hT) (id_wf (by have h9 := rowB_of hir.2; simp only at h9; omega)) hV)
  have EH := Lib.hid (fun w hV => impl_ebh ver b ao l.length cap l w rfl (by omega) hV)
  have AP := Lib.hid (show TblOk ver l l.length ∧ ChOk ⟨1, b, ⟨i, g, y, x, nl⟩⟩ ∧ ver ≠ 99 from ⟨hT, hC, hv⟩)
  have HBX := Lib.hid hB
  have HV := Lib.hid hV
  have HT := Lib.hid hT
  have hnI : (l.length : Int) ≤ 6 := by omega
  obtain ⟨n, hn⟩ : ∃ n, n = l.length := ⟨_, rfl⟩
  have HN := Lib.hid hn
  rw [← hn] at BR FB EH HBX hnI hn6
  clear hV hT hC hv hB hcap hir
  have AN := Lib.hid (show (applyC ver l ⟨1, b, ⟨i, g, y, x, nl⟩⟩).2 = (l, 2) by rw [applyC_1t AP.out rfl h1])
  have H1 := Lib.hid h1
  clear h1 hn
  go_enter Try.func163, Try.ntmps163
  go_wp2_with fail
  have K0 := HBX.out.kept (Kept.start w)
  have K1 := K0.alloc7 (.int .i64 1) (.int .i64 b) (.int .i64 i) (.int .i64 g) (.int .i64 y) (.int .i64 x) (.bool nl) 160 w.heap.size rfl
  have KQ := K1.sub (l' := [(⟨bp, 0, none⟩, .int .i64 ver), (⟨bp, 1, none⟩, .slice ao n cap), (⟨w.heap.size, 1, none⟩, .int .i64 b), (⟨w.heap.size, 2, none⟩, .int .i64 i)]) (by intro p9 hp9; simp only [List.mem_cons, List.not_mem_nil, or_false] at hp9; rcases hp9 with rfl | rfl | rfl | rfl <;> simp)
  obtain ⟨w1, hw1⟩ : ∃ w1, w1 = w.alloc (.cells #[.int .i64 1, .int .i64 b, .int .i64 i, .int .i64 g, .int .i64 y, .int .i64 x, .bool nl] 160) := ⟨_, rfl⟩
  rw [← hw1] at K1 KQ ⊢
  clear hw1
  go_region_held3 (fun w' => w'.cell? ⟨bp, 0, none⟩ = some (.int .i64 ver) ∧ w'.cell? ⟨bp, 1, none⟩ = some (.slice ao n cap) ∧ w'.cell? ⟨w.heap.size, 1, none⟩ = some (.int .i64 b) ∧ w'.cell? ⟨w.heap.size, 2, none⟩ = some (.int .i64 i) ∧ Below w1.heap.size w1 w') (first | assumption | exact kn4_at KQ (Below.refl _ _).drew | exact kn4_keep KQ (by assumption) (by assumption)) (first | (go_simp; go_at_call 164; (with_reducible refine (FB.out _ ?_).mono ?_); (exact (HV.out.below K1.1).below (kn4_b (by assumption))); rintro e9 w9 ⟨⟨vf, hvf, rfl⟩, hb⟩))
  have K2 := K1.step (kn4_b (‹_ ∧ _ ∧ _ ∧ _ ∧ Below w1.heap.size w1 w9›))
  obtain ⟨w2, hw2⟩ : ∃ w2, w2 = w9 := ⟨_, rfl⟩
  subst hw2
  have EF := Lib.hid (firstAns_idx (p := fun c : Blk => c.id = b) (l := l) (by rw [← HN.out]; exact hvf))
  have hf1 : -1 ≤ vf ∧ vf < 6 := by rcases hvf with ⟨k, hk, _, _, rfl⟩ | ⟨_, rfl⟩ <;> omega
  obtain ⟨hf1, hf2⟩ := hf1
  clear hb hvf KQ K1 K0
  have KQ := K2.sub (l' := [(⟨bp, 0, none⟩, .int .i64 ver), (⟨bp, 1, none⟩, .slice ao n cap), (⟨w.heap.size, 1, none⟩, .int .i64 b), (⟨w.heap.size, 2, none⟩, .int .i64 i)]) (by intro p9 hp9; simp only [List.mem_cons, List.not_mem_nil, or_false] at hp9; rcases hp9 with rfl | rfl | rfl | rfl <;> simp)
  try clear ‹_ ∧ _ ∧ _ ∧ _ ∧ Below w1.heap.size w1 w2›
  go_wp2_with fail
  obtain ⟨ex, hex⟩ : ∃ ex, ex = decide (0 ≤ vf) := ⟨_, rfl⟩
  rw [← hex]
  have EX := Lib.hid hex
  clear hex
  go_region_held3 (fun w' => w'.cell? ⟨bp, 0, none⟩ = some (.int .i64 ver) ∧ w'.cell? ⟨bp, 1, none⟩ = some (.slice ao n cap) ∧ w'.cell? ⟨w.heap.size, 1, none⟩ = some (.int .i64 b) ∧ w'.cell? ⟨w.heap.size, 2, none⟩ = some (.int .i64 i) ∧ Below w2.heap.size w2 w') (first | assumption | exact kn4_at KQ (Below.refl _ _).drew | exact kn4_keep KQ (by assumption) (by assumption)) (first | (go_simp; go_at_call 165; (with_reducible refine (BR.out _ ?_).mono ?_); (exact (HV.out.below K2.1).below (kn4_b (by assumption))); rintro e9 w9 ⟨⟨vb, hvb, rfl⟩, hb⟩))
  have K3 := K2.step (kn4_b (‹_ ∧ _ ∧ _ ∧ _ ∧ Below w2.heap.size w2 w9›))
  obtain ⟨w3, hw3⟩ : ∃ w3, w3 = w9 := ⟨_, rfl⟩
  subst hw3
  have EB := Lib.hid (firstAns_idx (p := fun c : Blk => HasRow c.rows i) (l := l) (by rw [← HN.out]; exact hvb))
  have hv1 : -1 ≤ vb ∧ vb < 6 := by rcases hvb with ⟨k, hk, _, _, rfl⟩ | ⟨_, rfl⟩ <;> omega
  obtain ⟨hv1, hv2⟩ := hv1
  clear hb hvb KQ K2
  try clear ‹_ ∧ _ ∧ _ ∧ _ ∧ Below w2.heap.size w2 w3›
  rw [is_row EB.out H1.out]
  have HK := Lib.hid K3.1
  clear K3
  go_wp2
  go_ret
  exact PfPost.same HBX.out HK.out AN.out

set_option maxRecDepth 8000 in
set_option maxHeartbeats 6400000 in
theorem impl_pf1f (ver b i g y x : Int) (nl : Bool) (bp : Nat) (v : Value) (l : List Blk) (fp : List Nat) (w : World) (hT : TblOk ver l l.length) (hC : ChOk ⟨1, b, ⟨i, g, y, x, nl⟩⟩) (hv : ver ≠ 99) (hB : TblBox w bp ver v l fp) (h1 : ¬ iRow l i < l.length) {k : Nat} (ek : iBlk l b = k) (hk : k < l.length) (h6 : ¬ (Bn l k).rows.length < 6) :
    Calls Try.prog 163 #[.agg #[.int .i64 1, .int .i64 b, .int .i64 i, .int .i64 g, .int .i64 y, .int .i64 x, .bool nl], .pointer (some ⟨bp, 0, none⟩)] w (PfPost ver l ⟨1, b, ⟨i, g, y, x, nl⟩⟩ bp fp w) := by
  have hn6 : l.length ≤ 6 := hT.2.1
  obtain ⟨ao, cap, rfl, hcap, hV⟩ := hB.open
  have hir := (hC.one rfl)
  have FB := Lib.hid (fun w hV => impl_findB ver b ao l.length cap l w rfl (by omega) hV)
  have BR := Lib.hid (fun w hV => impl_bor ver i ao l.length cap l w rfl (by omega) (fun k hk => by have := tbl_rows hT k hk; omega) (tbl_wf hT) (id_wf (by have h9 := rowB_of hir.2; simp only at h9; omega)) hV)
  have EH := Lib.hid (fun w hV => impl_ebh ver b ao l.length cap l w rfl (by omega) hV)
  have AP := Lib.hid (show TblOk ver l l.length ∧ ChOk ⟨1, b, ⟨i, g, y, x, nl⟩⟩ ∧ ver ≠ 99 from ⟨hT, hC, hv⟩)
  have HBX := Lib.hid hB
  have HV := Lib.hid hV
  have HT := Lib.hid hT
  have hnI : (l.length : Int) ≤ 6 := by omega
  obtain ⟨n, hn⟩ : ∃ n, n = l.length := ⟨_, rfl⟩
  have HN := Lib.hid hn
  rw [← hn] at BR FB EH HBX hnI hn6
  clear hV hT hC hv hB hcap hir
  have AN := Lib.hid (show (applyC ver l ⟨1, b, ⟨i, g, y, x, nl⟩⟩).2 = (l, 4) by rw [applyC_1f AP.out rfl h1 ek hk h6])
  have H1 := Lib.hid h1
  have HK0 := Lib.hid ek
  have hkl := Lib.hid hk
  have H6 := Lib.hid h6
  clear h1 ek hk h6 hn
  go_enter Try.func163, Try.ntmps163
  go_wp2_with fail
  have K0 := HBX.out.kept (Kept.start w)
  have K1 := K0.alloc7 (.int .i64 1) (.int .i64 b) (.int .i64 i) (.int .i64 g) (.int .i64 y) (.int .i64 x) (.bool nl) 160 w.heap.size rfl
  have KQ := K1.sub (l' := [(⟨bp, 0, none⟩, .int .i64 ver), (⟨bp, 1, none⟩, .slice ao n cap), (⟨w.heap.size, 1, none⟩, .int .i64 b), (⟨w.heap.size, 2, none⟩, .int .i64 i)]) (by intro p9 hp9; simp only [List.mem_cons, List.not_mem_nil, or_false] at hp9; rcases hp9 with rfl | rfl | rfl | rfl <;> simp)
  obtain ⟨w1, hw1⟩ : ∃ w1, w1 = w.alloc (.cells #[.int .i64 1, .int .i64 b, .int .i64 i, .int .i64 g, .int .i64 y, .int .i64 x, .bool nl] 160) := ⟨_, rfl⟩
  rw [← hw1] at K1 KQ ⊢
  clear hw1
  go_region_held3 (fun w' => w'.cell? ⟨bp, 0, none⟩ = some (.int .i64 ver) ∧ w'.cell? ⟨bp, 1, none⟩ = some (.slice ao n cap) ∧ w'.cell? ⟨w.heap.size, 1, none⟩ = some (.int .i64 b) ∧ w'.cell? ⟨w.heap.size, 2, none⟩ = some (.int .i64 i) ∧ Below w1.heap.size w1 w') (first | assumption | exact kn4_at KQ (Below.refl _ _).drew | exact kn4_keep KQ (by assumption) (by assumption)) (first | (go_simp; go_at_call 164; (with_reducible refine (FB.out _ ?_).mono ?_); (exact (HV.out.below K1.1).below (kn4_b (by assumption))); rintro e9 w9 ⟨⟨vf, hvf, rfl⟩, hb⟩))
  have K2 := K1.step (kn4_b (‹_ ∧ _ ∧ _ ∧ _ ∧ Below w1.heap.size w1 w9›))
  obtain ⟨w2, hw2⟩ : ∃ w2, w2 = w9 := ⟨_, rfl⟩
  subst hw2
  have EF := Lib.hid (firstAns_idx (p := fun c : Blk => c.id = b) (l := l) (by rw [← HN.out]; exact hvf))
  have hf1 : -1 ≤ vf ∧ vf < 6 := by rcases hvf with ⟨k, hk, _, _, rfl⟩ | ⟨_, rfl⟩ <;> omega
  obtain ⟨hf1, hf2⟩ := hf1
  clear hb hvf KQ K1 K0
  have KQ := K2.sub (l' := [(⟨bp, 0, none⟩, .int .i64 ver), (⟨bp, 1, none⟩, .slice ao n cap), (⟨w.heap.size, 1, none⟩, .int .i64 b), (⟨w.heap.size, 2, none⟩, .int .i64 i)]) (by intro p9 hp9; simp only [List.mem_cons, List.not_mem_nil, or_false] at hp9; rcases hp9 with rfl | rfl | rfl | rfl <;> simp)
  try clear ‹_ ∧ _ ∧ _ ∧ _ ∧ Below w1.heap.size w1 w2›
  go_wp2_with fail
  obtain ⟨ex, hex⟩ : ∃ ex, ex = decide (0 ≤ vf) := ⟨_, rfl⟩
  rw [← hex]
  have EX := Lib.hid hex
  clear hex
  go_region_held3 (fun w' => w'.cell? ⟨bp, 0, none⟩ = some (.int .i64 ver) ∧ w'.cell? ⟨bp, 1, none⟩ = some (.slice ao n cap) ∧ w'.cell? ⟨w.heap.size, 1, none⟩ = some (.int .i64 b) ∧ w'.cell? ⟨w.heap.size, 2, none⟩ = some (.int .i64 i) ∧ Below w2.heap.size w2 w') (first | assumption | exact kn4_at KQ (Below.refl _ _).drew | exact kn4_keep KQ (by assumption) (by assumption)) (first | (go_simp; go_at_call 165; (with_reducible refine (BR.out _ ?_).mono ?_); (exact (HV.out.below K2.1).below (kn4_b (by assumption))); rintro e9 w9 ⟨⟨vb, hvb, rfl⟩, hb⟩))
  have K3 := K2.step (kn4_b (‹_ ∧ _ ∧ _ ∧ _ ∧ Below w2.heap.size w2 w9›))
  obtain ⟨w3, hw3⟩ : ∃ w3, w3 = w9 := ⟨_, rfl⟩
  subst hw3
  have EB := Lib.hid (firstAns_idx (p := fun c : Blk => HasRow c.rows i) (l := l) (by rw [← HN.out]; exact hvb))
  have hv1 : -1 ≤ vb ∧ vb < 6 := by rcases hvb with ⟨k, hk, _, _, rfl⟩ | ⟨_, rfl⟩ <;> omega
  obtain ⟨hv1, hv2⟩ := hv1
  clear hb hvb KQ K2
  try clear ‹_ ∧ _ ∧ _ ∧ _ ∧ Below w2.heap.size w2 w3›
  rw [not_row EB.out H1.out]
  obtain ⟨hd0, hvf0⟩ := is_blk EF.out HK0.out hkl.out
  have hex0 : ex = true := EX.out.trans hd0
  subst hex0
  subst hvf0
  clear hd0 EX EF
  obtain ⟨gt, cap', ro, rcap, fk, hv9, hgt, d0, d1, hrc, hs9⟩ := HBX.out.blkAt hkl.out
  simp only [Value.slice.injEq] at hv9
  obtain ⟨rfl, hz1, rfl⟩ := hv9
  clear hz1
  obtain ⟨rl, hrl⟩ : ∃ rl, rl = (Bn l k).rows := ⟨_, rfl⟩
  rw [← hrl] at d1 hrc hs9 
  have HRL := Lib.hid hrl
  obtain ⟨m, hm⟩ : ∃ m, m = rl.length := ⟨_, rfl⟩
  rw [← hm] at d1 hrc hs9
  have HMm := Lib.hid hm
  have hm6 : m ≤ 6 := by rw [hm, hrl]; exact tbl_rows HT.out k hkl.out
  have hkI : (k : Int) < (n : Int) := by have := HN.out; have := hkl.out; omega
  have d2 := (K3.1.cell (p := ⟨gt, k * 2 + 1, none⟩) hgt).trans d1
  have a1 := K3.get 8 rfl
  have HS9 := Lib.hid hs9
  have D1 := Lib.hid d1
  clear hs9 d0 d1 hrl hm
  obtain rfl : m = 6 := by have h6 := H6.out; rw [← HRL.out, ← HMm.out] at h6; omega
  have HK := Lib.hid K3.1
  clear K3
  go_wp2
  go_ret
  exact PfPost.same HBX.out HK.out AN.out

set_option maxRecDepth 8000 in
set_option maxHeartbeats 6400000 in
theorem impl_pf1m (ver b i g y x : Int) (nl : Bool) (bp : Nat) (v : Value) (l : List Blk) (fp : List Nat) (w : World) (hT : TblOk ver l l.length) (hC : ChOk ⟨1, b, ⟨i, g, y, x, nl⟩⟩) (hv : ver ≠ 99) (hB : TblBox w bp ver v l fp) (h1 : ¬ iRow l i < l.length) (hk : ¬ iBlk l b < l.length) (hm : 0 < l.length ∧ b < (Bn l (l.length - 1)).id) :
    Calls Try.prog 163 #[.agg #[.int .i64 1, .int .i64 b, .int .i64 i, .int .i64 g, .int .i64 y, .int .i64 x, .bool nl], .pointer (some ⟨bp, 0, none⟩)] w (PfPost ver l ⟨1, b, ⟨i, g, y, x, nl⟩⟩ bp fp w) := by
  have hn6 : l.length ≤ 6 := hT.2.1
  obtain ⟨ao, cap, rfl, hcap, hV⟩ := hB.open
  have hir := (hC.one rfl)
  have FB := Lib.hid (fun w hV => impl_findB ver b ao l.length cap l w rfl (by omega) hV)
  have BR := Lib.hid (fun w hV => impl_bor ver i ao l.length cap l w rfl (by omega) (fun k hk => by have := tbl_rows hT k hk; omega) (tbl_wf hT) (id_wf (by have h9 := rowB_of hir.2; simp only at h9; omega)) hV)
  have EH := Lib.hid (fun w hV => impl_ebh ver b ao l.length cap l w rfl (by omega) hV)
  have AP := Lib.hid (show TblOk ver l l.length ∧ ChOk ⟨1, b, ⟨i, g, y, x, nl⟩⟩ ∧ ver ≠ 99 from ⟨hT, hC, hv⟩)
  have HBX := Lib.hid hB
  have HV := Lib.hid hV
  have HT := Lib.hid hT
  have hnI : (l.length : Int) ≤ 6 := by omega
  obtain ⟨n, hn⟩ : ∃ n, n = l.length := ⟨_, rfl⟩
  have HN := Lib.hid hn
  rw [← hn] at BR FB EH HBX hnI hn6
  clear hV hT hC hv hB hcap hir
  have AN := Lib.hid (show (applyC ver l ⟨1, b, ⟨i, g, y, x, nl⟩⟩).2 = (l, 3) by rw [applyC_1m AP.out rfl h1 hk hm])
  have H1 := Lib.hid h1
  have HK0 := Lib.hid hk
  have hq : decide (0 < n ∧ b < (Bn l (n - 1)).id) = true := decide_eq_true (by rw [hn]; exact hm)
  rw [hq] at EH
  clear h1 hk hm hq hn
  go_enter Try.func163, Try.ntmps163
  go_wp2_with fail
  have K0 := HBX.out.kept (Kept.start w)
  have K1 := K0.alloc7 (.int .i64 1) (.int .i64 b) (.int .i64 i) (.int .i64 g) (.int .i64 y) (.int .i64 x) (.bool nl) 160 w.heap.size rfl
  have KQ := K1.sub (l' := [(⟨bp, 0, none⟩, .int .i64 ver), (⟨bp, 1, none⟩, .slice ao n cap), (⟨w.heap.size, 1, none⟩, .int .i64 b), (⟨w.heap.size, 2, none⟩, .int .i64 i)]) (by intro p9 hp9; simp only [List.mem_cons, List.not_mem_nil, or_false] at hp9; rcases hp9 with rfl | rfl | rfl | rfl <;> simp)
  obtain ⟨w1, hw1⟩ : ∃ w1, w1 = w.alloc (.cells #[.int .i64 1, .int .i64 b, .int .i64 i, .int .i64 g, .int .i64 y, .int .i64 x, .bool nl] 160) := ⟨_, rfl⟩
  rw [← hw1] at K1 KQ ⊢
  clear hw1
  go_region_held3 (fun w' => w'.cell? ⟨bp, 0, none⟩ = some (.int .i64 ver) ∧ w'.cell? ⟨bp, 1, none⟩ = some (.slice ao n cap) ∧ w'.cell? ⟨w.heap.size, 1, none⟩ = some (.int .i64 b) ∧ w'.cell? ⟨w.heap.size, 2, none⟩ = some (.int .i64 i) ∧ Below w1.heap.size w1 w') (first | assumption | exact kn4_at KQ (Below.refl _ _).drew | exact kn4_keep KQ (by assumption) (by assumption)) (first | (go_simp; go_at_call 164; (with_reducible refine (FB.out _ ?_).mono ?_); (exact (HV.out.below K1.1).below (kn4_b (by assumption))); rintro e9 w9 ⟨⟨vf, hvf, rfl⟩, hb⟩))
  have K2 := K1.step (kn4_b (‹_ ∧ _ ∧ _ ∧ _ ∧ Below w1.heap.size w1 w9›))
  obtain ⟨w2, hw2⟩ : ∃ w2, w2 = w9 := ⟨_, rfl⟩
  subst hw2
  have EF := Lib.hid (firstAns_idx (p := fun c : Blk => c.id = b) (l := l) (by rw [← HN.out]; exact hvf))
  have hf1 : -1 ≤ vf ∧ vf < 6 := by rcases hvf with ⟨k, hk, _, _, rfl⟩ | ⟨_, rfl⟩ <;> omega
  obtain ⟨hf1, hf2⟩ := hf1
  clear hb hvf KQ K1 K0
  have KQ := K2.sub (l' := [(⟨bp, 0, none⟩, .int .i64 ver), (⟨bp, 1, none⟩, .slice ao n cap), (⟨w.heap.size, 1, none⟩, .int .i64 b), (⟨w.heap.size, 2, none⟩, .int .i64 i)]) (by intro p9 hp9; simp only [List.mem_cons, List.not_mem_nil, or_false] at hp9; rcases hp9 with rfl | rfl | rfl | rfl <;> simp)
  try clear ‹_ ∧ _ ∧ _ ∧ _ ∧ Below w1.heap.size w1 w2›
  go_wp2_with fail
  obtain ⟨ex, hex⟩ : ∃ ex, ex = decide (0 ≤ vf) := ⟨_, rfl⟩
  rw [← hex]
  have EX := Lib.hid hex
  clear hex
  go_region_held3 (fun w' => w'.cell? ⟨bp, 0, none⟩ = some (.int .i64 ver) ∧ w'.cell? ⟨bp, 1, none⟩ = some (.slice ao n cap) ∧ w'.cell? ⟨w.heap.size, 1, none⟩ = some (.int .i64 b) ∧ w'.cell? ⟨w.heap.size, 2, none⟩ = some (.int .i64 i) ∧ Below w2.heap.size w2 w') (first | assumption | exact kn4_at KQ (Below.refl _ _).drew | exact kn4_keep KQ (by assumption) (by assumption)) (first | (go_simp; go_at_call 165; (with_reducible refine (BR.out _ ?_).mono ?_); (exact (HV.out.below K2.1).below (kn4_b (by assumption))); rintro e9 w9 ⟨⟨vb, hvb, rfl⟩, hb⟩))
  have K3 := K2.step (kn4_b (‹_ ∧ _ ∧ _ ∧ _ ∧ Below w2.heap.size w2 w9›))
  obtain ⟨w3, hw3⟩ : ∃ w3, w3 = w9 := ⟨_, rfl⟩
  subst hw3
  have EB := Lib.hid (firstAns_idx (p := fun c : Blk => HasRow c.rows i) (l := l) (by rw [← HN.out]; exact hvb))
  have hv1 : -1 ≤ vb ∧ vb < 6 := by rcases hvb with ⟨k, hk, _, _, rfl⟩ | ⟨_, rfl⟩ <;> omega
  obtain ⟨hv1, hv2⟩ := hv1
  clear hb hvb KQ K2
  try clear ‹_ ∧ _ ∧ _ ∧ _ ∧ Below w2.heap.size w2 w3›
  rw [not_row EB.out H1.out]
  have hex0 : ex = false := EX.out.trans (not_blk EF.out HK0.out)
  subst hex0
  have a1 := K3.get 8 rfl
  go_wp2_with fail
  have KQ := K3.sub (l' := [(⟨bp, 0, none⟩, .int .i64 ver), (⟨bp, 1, none⟩, .slice ao n cap), (⟨w.heap.size, 1, none⟩, .int .i64 b)]) (by intro p9 hp9; simp only [List.mem_cons, List.not_mem_nil, or_false] at hp9; rcases hp9 with rfl | rfl | rfl <;> simp)
  go_region_held3 (fun w' => w'.cell? ⟨bp, 0, none⟩ = some (.int .i64 ver) ∧ w'.cell? ⟨bp, 1, none⟩ = some (.slice ao n cap) ∧ w'.cell? ⟨w.heap.size, 1, none⟩ = some (.int .i64 b) ∧ Below w3.heap.size w3 w') (first | assumption | exact kn3_at KQ (Below.refl _ _).drew | exact kn3_keep KQ (by assumption) (by assumption)) (first | (go_simp; go_at_call 160; (with_reducible refine (EH.out _ ?_).mono ?_); (exact (HV.out.below K3.1).below (kn3_b (by assumption))); rintro e9 w9 ⟨rfl, hb⟩))
  have K4 := K3.step (kn3_b (‹_ ∧ _ ∧ _ ∧ Below w3.heap.size w3 w9›))
  obtain ⟨w4, hw4⟩ : ∃ w4, w4 = w9 := ⟨_, rfl⟩
  subst hw4
  clear hb KQ K3 a1
  have HK := Lib.hid K4.1
  clear K4
  go_wp2
  go_ret
  exact PfPost.same HBX.out HK.out AN.out

set_option maxRecDepth 8000 in
set_option maxHeartbeats 6400000 in
theorem impl_pf1g (ver b i g y x : Int) (nl : Bool) (bp : Nat) (v : Value) (l : List Blk) (fp : List Nat) (w : World) (hT : TblOk ver l l.length) (hC : ChOk ⟨1, b, ⟨i, g, y, x, nl⟩⟩) (hv : ver ≠ 99) (hB : TblBox w bp ver v l fp) (h1 : ¬ iRow l i < l.length) (hk : ¬ iBlk l b < l.length) (hm : ¬ (0 < l.length ∧ b < (Bn l (l.length - 1)).id)) (h6 : l.length = 6) :
    Calls Try.prog 163 #[.agg #[.int .i64 1, .int .i64 b, .int .i64 i, .int .i64 g, .int .i64 y, .int .i64 x, .bool nl], .pointer (some ⟨bp, 0, none⟩)] w (PfPost ver l ⟨1, b, ⟨i, g, y, x, nl⟩⟩ bp fp w) := by
  have hn6 : l.length ≤ 6 := hT.2.1
  obtain ⟨ao, cap, rfl, hcap, hV⟩ := hB.open
  have hir := (hC.one rfl)
  have FB := Lib.hid (fun w hV => impl_findB ver b ao l.length cap l w rfl (by omega) hV)
  have BR := Lib.hid (fun w hV => impl_bor ver i ao l.length cap l w rfl (by omega) (fun k hk => by have := tbl_rows hT k hk; omega) (tbl_wf hT) (id_wf (by have h9 := rowB_of hir.2; simp only at h9; omega)) hV)
  have EH := Lib.hid (fun w hV => impl_ebh ver b ao l.length cap l w rfl (by omega) hV)
  have AP := Lib.hid (show TblOk ver l l.length ∧ ChOk ⟨1, b, ⟨i, g, y, x, nl⟩⟩ ∧ ver ≠ 99 from ⟨hT, hC, hv⟩)
  have HBX := Lib.hid hB
  have HV := Lib.hid hV
  have HT := Lib.hid hT
  have hnI : (l.length : Int) ≤ 6 := by omega
  obtain ⟨n, hn⟩ : ∃ n, n = l.length := ⟨_, rfl⟩
  have HN := Lib.hid hn
  rw [← hn] at BR FB EH HBX hnI hn6
  clear hV hT hC hv hB hcap hir
  have AN := Lib.hid (show (applyC ver l ⟨1, b, ⟨i, g, y, x, nl⟩⟩).2 = (l, 4) by rw [applyC_1g AP.out rfl h1 hk hm h6])
  have H1 := Lib.hid h1
  have HK0 := Lib.hid hk
  have hq : decide (0 < n ∧ b < (Bn l (n - 1)).id) = false := decide_eq_false (by rw [hn]; exact hm)
  rw [hq] at EH
  have H9 := Lib.hid (show n = 6 by omega)
  clear h1 hk hm hq hn h6
  go_enter Try.func163, Try.ntmps163
  go_wp2_with fail
  have K0 := HBX.out.kept (Kept.start w)
  have K1 := K0.alloc7 (.int .i64 1) (.int .i64 b) (.int .i64 i) (.int .i64 g) (.int .i64 y) (.int .i64 x) (.bool nl) 160 w.heap.size rfl
  have KQ := K1.sub (l' := [(⟨bp, 0, none⟩, .int .i64 ver), (⟨bp, 1, none⟩, .slice ao n cap), (⟨w.heap.size, 1, none⟩, .int .i64 b), (⟨w.heap.size, 2, none⟩, .int .i64 i)]) (by intro p9 hp9; simp only [List.mem_cons, List.not_mem_nil, or_false] at hp9; rcases hp9 with rfl | rfl | rfl | rfl <;> simp)
  obtain ⟨w1, hw1⟩ : ∃ w1, w1 = w.alloc (.cells #[.int .i64 1, .int .i64 b, .int .i64 i, .int .i64 g, .int .i64 y, .int .i64 x, .bool nl] 160) := ⟨_, rfl⟩
  rw [← hw1] at K1 KQ ⊢
  clear hw1
  go_region_held3 (fun w' => w'.cell? ⟨bp, 0, none⟩ = some (.int .i64 ver) ∧ w'.cell? ⟨bp, 1, none⟩ = some (.slice ao n cap) ∧ w'.cell? ⟨w.heap.size, 1, none⟩ = some (.int .i64 b) ∧ w'.cell? ⟨w.heap.size, 2, none⟩ = some (.int .i64 i) ∧ Below w1.heap.size w1 w') (first | assumption | exact kn4_at KQ (Below.refl _ _).drew | exact kn4_keep KQ (by assumption) (by assumption)) (first | (go_simp; go_at_call 164; (with_reducible refine (FB.out _ ?_).mono ?_); (exact (HV.out.below K1.1).below (kn4_b (by assumption))); rintro e9 w9 ⟨⟨vf, hvf, rfl⟩, hb⟩))
  have K2 := K1.step (kn4_b (‹_ ∧ _ ∧ _ ∧ _ ∧ Below w1.heap.size w1 w9›))
  obtain ⟨w2, hw2⟩ : ∃ w2, w2 = w9 := ⟨_, rfl⟩
  subst hw2
  have EF := Lib.hid (firstAns_idx (p := fun c : Blk => c.id = b) (l := l) (by rw [← HN.out]; exact hvf))
  have hf1 : -1 ≤ vf ∧ vf < 6 := by rcases hvf with ⟨k, hk, _, _, rfl⟩ | ⟨_, rfl⟩ <;> omega
  obtain ⟨hf1, hf2⟩ := hf1
  clear hb hvf KQ K1 K0
  have KQ := K2.sub (l' := [(⟨bp, 0, none⟩, .int .i64 ver), (⟨bp, 1, none⟩, .slice ao n cap), (⟨w.heap.size, 1, none⟩, .int .i64 b), (⟨w.heap.size, 2, none⟩, .int .i64 i)]) (by intro p9 hp9; simp only [List.mem_cons, List.not_mem_nil, or_false] at hp9; rcases hp9 with rfl | rfl | rfl | rfl <;> simp)
  try clear ‹_ ∧ _ ∧ _ ∧ _ ∧ Below w1.heap.size w1 w2›
  go_wp2_with fail
  obtain ⟨ex, hex⟩ : ∃ ex, ex = decide (0 ≤ vf) := ⟨_, rfl⟩
  rw [← hex]
  have EX := Lib.hid hex
  clear hex
  go_region_held3 (fun w' => w'.cell? ⟨bp, 0, none⟩ = some (.int .i64 ver) ∧ w'.cell? ⟨bp, 1, none⟩ = some (.slice ao n cap) ∧ w'.cell? ⟨w.heap.size, 1, none⟩ = some (.int .i64 b) ∧ w'.cell? ⟨w.heap.size, 2, none⟩ = some (.int .i64 i) ∧ Below w2.heap.size w2 w') (first | assumption | exact kn4_at KQ (Below.refl _ _).drew | exact kn4_keep KQ (by assumption) (by assumption)) (first | (go_simp; go_at_call 165; (with_reducible refine (BR.out _ ?_).mono ?_); (exact (HV.out.below K2.1).below (kn4_b (by assumption))); rintro e9 w9 ⟨⟨vb, hvb, rfl⟩, hb⟩))
  have K3 := K2.step (kn4_b (‹_ ∧ _ ∧ _ ∧ _ ∧ Below w2.heap.size w2 w9›))
  obtain ⟨w3, hw3⟩ : ∃ w3, w3 = w9 := ⟨_, rfl⟩
  subst hw3
  have EB := Lib.hid (firstAns_idx (p := fun c : Blk => HasRow c.rows i) (l := l) (by rw [← HN.out]; exact hvb))
  have hv1 : -1 ≤ vb ∧ vb < 6 := by rcases hvb with ⟨k, hk, _, _, rfl⟩ | ⟨_, rfl⟩ <;> omega
  obtain ⟨hv1, hv2⟩ := hv1
  clear hb hvb KQ K2
  try clear ‹_ ∧ _ ∧ _ ∧ _ ∧ Below w2.heap.size w2 w3›
  rw [not_row EB.out H1.out]
  have hex0 : ex = false := EX.out.trans (not_blk EF.out HK0.out)
  subst hex0
  have a1 := K3.get 8 rfl
  go_wp2_with fail
  have KQ := K3.sub (l' := [(⟨bp, 0, none⟩, .int .i64 ver), (⟨bp, 1, none⟩, .slice ao n cap), (⟨w.heap.size, 1, none⟩, .int .i64 b)]) (by intro p9 hp9; simp only [List.mem_cons, List.not_mem_nil, or_false] at hp9; rcases hp9 with rfl | rfl | rfl <;> simp)
  go_region_held3 (fun w' => w'.cell? ⟨bp, 0, none⟩ = some (.int .i64 ver) ∧ w'.cell? ⟨bp, 1, none⟩ = some (.slice ao n cap) ∧ w'.cell? ⟨w.heap.size, 1, none⟩ = some (.int .i64 b) ∧ Below w3.heap.size w3 w') (first | assumption | exact kn3_at KQ (Below.refl _ _).drew | exact kn3_keep KQ (by assumption) (by assumption)) (first | (go_simp; go_at_call 160; (with_reducible refine (EH.out _ ?_).mono ?_); (exact (HV.out.below K3.1).below (kn3_b (by assumption))); rintro e9 w9 ⟨rfl, hb⟩))
  have K4 := K3.step (kn3_b (‹_ ∧ _ ∧ _ ∧ Below w3.heap.size w3 w9›))
  obtain ⟨w4, hw4⟩ : ∃ w4, w4 = w9 := ⟨_, rfl⟩
  subst hw4
  clear hb KQ K3 a1
  obtain rfl : n = 6 := H9.out
  have a1 := K4.get 8 rfl
  have HK := Lib.hid K4.1
  clear K4
  go_wp2
  go_ret
  exact PfPost.same HBX.out HK.out AN.out
end Go.Proofs.Ytcfcohnkkgickaa
