/-
  The walk over the project's performing of an appending: the arms that leave the table as it was.
-/
import Derived.Test.YtcfcohnkkgickaaRows
import Derived.Test.YtcfcohnkkgickaaMgB
import Derived.Test.YtcfcohnkkgickaaEbhImpl
import Derived.Test.YtcfcohnkkgickaaPfmApp
import Derived.Test.YtcfcohnkkgickaaWtNil
import Derived.Test.YtcfcohnkkgickaaIvcImpl
import Derived.Deep.RegionHeld3
import Derived.Deep.RegionLaw
namespace Go.Proofs.Ytcfcohnkkgickaa
open Go.RowKit Num


set_option maxRecDepth 8000 in
set_option maxHeartbeats 6400000 in
theorem impl_pf1y (ver b i g y x : Int) (nl : Bool) (bp : Nat) (v : Value) (l : List Blk) (fp : List Nat) (w : World) (hT : TblOk ver l l.length) (hC : ChOk ⟨1, b, ⟨i, g, y, x, nl⟩⟩) (hv : ver ≠ 99) (hB : TblBox w bp ver v l fp) (h1 : ¬ iRow l i < l.length) {k : Nat} (ek : iBlk l b = k) (hk : k < l.length) (h6 : (Bn l k).rows.length < 6) :
    Calls Try.prog 163 #[.agg #[.int .i64 1, .int .i64 b, .int .i64 i, .int .i64 g, .int .i64 y, .int .i64 x, .bool nl], .pointer (some ⟨bp, 0, none⟩)] w (PfPost ver l ⟨1, b, ⟨i, g, y, x, nl⟩⟩ bp fp w) := by
  have hn6 : l.length ≤ 6 := hT.2.1
  obtain ⟨ao, cap, rfl, hcap, hV⟩ := hB.open
  have hir := (hC.one rfl)
  have FB := Lib.hid (fun w hV => impl_findB ver b ao l.length cap l w rfl (by omega) hV)
  have BR := Lib.hid (fun w hV => impl_bor ver i ao l.length cap l w rfl (by omega) (fun k hk => by have := tbl_rows hT k hk; omega) (tbl_wf hT) (id_wf (by have h9 := rowB_of hir.2; simp only at h9; omega)) hV)
  have EH := Lib.hid (fun w hV => impl_ebh ver b ao l.length cap l w rfl (by omega) hV)
  have AP := Lib.hid (show TblOk ver l l.length ∧ ChOk ⟨1, b, ⟨i, g, y, x, nl⟩⟩ ∧ ver ≠ 99 from ⟨hT, hC, hv⟩)
  have HBX := Lib.hid hB
  have HV := Lib.hid hV
  have HT := Lib.hid hT
  have hnI : (l.length : Int) ≤ 6 := by omega
  obtain ⟨n, hn⟩ : ∃ n, n = l.length := ⟨_, rfl⟩
  have HN := Lib.hid hn
  rw [← hn] at BR FB EH HBX hnI hn6
  clear hV hT hC hv hB hcap hir
  have AN := Lib.hid (applyC_1y AP.out rfl h1 ek hk h6)
  have H1 := Lib.hid h1
  have HK0 := Lib.hid ek
  have hkl := Lib.hid hk
  have H6 := Lib.hid h6
  clear h1 ek hk h6 hn
  go_enter Try.func163, Try.ntmps163
  go_wp2_with fail
  have K0 := HBX.out.kept (Kept.start w)
  have K1 := K0.alloc7 (.int .i64 1) (.int .i64 b) (.int .i64 i) (.int .i64 g) (.int .i64 y) (.int .i64 x) (.bool nl) 160 w.heap.size rfl
  have KQ := K1.sub (l' := [(⟨bp, 0, none⟩, .int .i64 ver), (⟨bp, 1, none⟩, .slice ao n cap), (⟨w.heap.size, 1, none⟩, .int .i64 b), (⟨w.heap.size, 2, none⟩, .int .i64 i)]) (by intro p9 hp9; simp only [List.mem_cons, List.not_mem_nil, or_false] at hp9; rcases hp9 with rfl | rfl | rfl | rfl <;> simp)
  obtain ⟨w1, hw1⟩ : ∃ w1, w1 = w.alloc (.cells #[.int .i64 1, .int .i64 b, .int .i64 i, .int .i64 g, .int .i64 y, .int .i64 x, .bool nl] 160) := ⟨_, rfl⟩
  rw [← hw1] at K1 KQ ⊢
  clear hw1
  go_region_held3 (fun w' => w'.cell? ⟨bp, 0, none⟩ = some (.int .i64 ver) ∧ w'.cell? ⟨bp, 1, none⟩ = some (.slice ao n cap) ∧ w'.cell? ⟨w.heap.size, 1, none⟩ = some (.int .i64 b) ∧ w'.cell? ⟨w.heap.size, 2, none⟩ = some (.int .i64 i) ∧ Below w1.heap.size w1 w') (first | assumption | exact kn4_at KQ (Below.refl _ _).drew | exact kn4_keep KQ (by assumption) (by assumption)) (first | (go_simp; go_at_call 164; (with_reducible refine (FB.out _ ?_).mono ?_); (exact (HV.out.below K1.1).below (kn4_b (by assumption))); rintro e9 w9 ⟨⟨vf, hvf, rfl⟩, hb⟩))
  have K2 := K1.step (kn4_b (‹_ ∧ _ ∧ _ ∧ _ ∧ Below w1.heap.size w1 w9›))
  obtain ⟨w2, hw2⟩ : ∃ w2, w2 = w9 := ⟨_, rfl⟩
  subst hw2
  have EF := Lib.hid (firstAns_idx (p := fun c : Blk => c.id = b) (l := l) (by rw [← HN.out]; exact hvf))
  have hf1 : -1 ≤ vf ∧ vf < 6 := by rcases hvf with ⟨k, hk, _, _, rfl⟩ | ⟨_, rfl⟩ <;> omega
  obtain ⟨hf1, hf2⟩ := hf1
  clear hb hvf KQ K1 K0
  have KQ := K2.sub (l' := [(⟨bp, 0, none⟩, .int .i64 ver), (⟨bp, 1, none⟩, .slice ao n cap), (⟨w.heap.size, 1, none⟩, .int .i64 b), (⟨w.heap.size, 2, none⟩, .int .i64 i)]) (by intro p9 hp9; simp only [List.mem_cons, List.not_mem_nil, or_false] at hp9; rcases hp9 with rfl | rfl | rfl | rfl <;> simp)
  try clear ‹_ ∧ _ ∧ _ ∧ _ ∧ Below w1.heap.size w1 w2›
  go_wp2_with fail
  obtain ⟨ex, hex⟩ : ∃ ex, ex = decide (0 ≤ vf) := ⟨_, rfl⟩
  rw [← hex]
  have EX := Lib.hid hex
  clear hex
  go_region_held3 (fun w' => w'.cell? ⟨bp, 0, none⟩ = some (.int .i64 ver) ∧ w'.cell? ⟨bp, 1, none⟩ = some (.slice ao n cap) ∧ w'.cell? ⟨w.heap.size, 1, none⟩ = some (.int .i64 b) ∧ w'.cell? ⟨w.heap.size, 2, none⟩ = some (.int .i64 i) ∧ Below w2.heap.size w2 w') (first | assumption | exact kn4_at KQ (Below.refl _ _).drew | exact kn4_keep KQ (by assumption) (by assumption)) (first | (go_simp; go_at_call 165; (with_reducible refine (BR.out _ ?_).mono ?_); (exact (HV.out.below K2.1).below (kn4_b (by assumption))); rintro e9 w9 ⟨⟨vb, hvb, rfl⟩, hb⟩))
  have K3 := K2.step (kn4_b (‹_ ∧ _ ∧ _ ∧ _ ∧ Below w2.heap.size w2 w9›))
  obtain ⟨w3, hw3⟩ : ∃ w3, w3 = w9 := ⟨_, rfl⟩
  subst hw3
  have EB := Lib.hid (firstAns_idx (p := fun c : Blk => HasRow c.rows i) (l := l) (by rw [← HN.out]; exact hvb))
  have hv1 : -1 ≤ vb ∧ vb < 6 := by rcases hvb with ⟨k, hk, _, _, rfl⟩ | ⟨_, rfl⟩ <;> omega
  obtain ⟨hv1, hv2⟩ := hv1
  clear hb hvb KQ K2
  try clear ‹_ ∧ _ ∧ _ ∧ _ ∧ Below w2.heap.size w2 w3›
  rw [not_row EB.out H1.out]
  obtain ⟨hd0, hvf0⟩ := is_blk EF.out HK0.out hkl.out
  have hex0 : ex = true := EX.out.trans hd0
  subst hex0
  subst hvf0
  clear hd0 EX EF
  obtain ⟨gt, cap', ro, rcap, fk, hv9, hgt, d0, d1, hrc, hs9⟩ := HBX.out.blkAt hkl.out
  simp only [Value.slice.injEq] at hv9
  obtain ⟨rfl, hz1, rfl⟩ := hv9
  clear hz1
  obtain ⟨rl, hrl⟩ : ∃ rl, rl = (Bn l k).rows := ⟨_, rfl⟩
  rw [← hrl] at d1 hrc hs9 
  have HRL := Lib.hid hrl
  obtain ⟨m, hm⟩ : ∃ m, m = rl.length := ⟨_, rfl⟩
  rw [← hm] at d1 hrc hs9
  have HMm := Lib.hid hm
  have hm6 : m ≤ 6 := by rw [hm, hrl]; exact tbl_rows HT.out k hkl.out
  have hkI : (k : Int) < (n : Int) := by have := HN.out; have := hkl.out; omega
  have d2 := (K3.1.cell (p := ⟨gt, k * 2 + 1, none⟩) hgt).trans d1
  have a1 := K3.get 8 rfl
  have HS9 := Lib.hid hs9
  have D1 := Lib.hid d1
  clear hs9 d0 d1 hrl hm
  have hmI : ¬ (m : Int) = 6 := by have h6 := H6.out; rw [← HRL.out, ← HMm.out] at h6; omega
  have hmb : ((m : Int) == 6) = false := beq_eq_false_iff_ne.2 hmI
  go_wp2_with fail
  go_quiet (fail)
  go_upto_region 15 with fail
  obtain ⟨w4, hw4⟩ : ∃ w4, w4 = w3.drewN nq := ⟨_, rfl⟩
  rw [← hw4]
  have K4 := K3.step (by rw [hw4]; exact below_drewN (Below.refl _ _) _ : Below w3.heap.size w3 w4)
  have d3 := (K4.1.cell (p := ⟨gt, k * 2 + 1, none⟩) hgt).trans D1.out
  have a2 := K4.get 2 rfl
  have a3 := K4.get 3 rfl
  have a4 := K4.get 4 rfl
  have a5 := K4.get 5 rfl
  have a6 := K4.get 6 rfl
  have HB4 := Lib.hid (HBX.out.step K4.1)
  have HS4 := Lib.hid (HS9.out.step K4.1)
  have WV := Lib.hid (fun w1 hs => impl_withV (.slice ro m rcap) rl fk ⟨i, g, y, x, nl⟩ w1 (by have := HMm.out; omega) hs)
  have HEQ := Lib.hid (show (Bn l k).id = b from by have h := fIdx_at (p := fun c : Blk => c.id = b) (l := l) (by have := HK0.out; unfold iBlk at this; rw [this]; exact hkl.out); have e := HK0.out; unfold iBlk at e; simp only [e] at h; rw [Bn_at hkl.out]; exact h)
  clear a1 d2 hw4 K3 hmI hmb HBX
  go_region_with (go_at_call 166; (with_reducible refine (WV.out _ ?_).mono ?_); (exact HS4.out.step (Below.refl _ _).drew); rintro e9 w9 ⟨v9, rfl, hown, hb⟩; have hb9 := below_via hb (Below.refl w4.heap.size w4).drew; have b1 := (K4.step hb9).get 8 rfl; have HB9 := Lib.hid hb9; obtain ⟨fp9, hs9, hf9, hn9⟩ := hown.rep; obtain ⟨g2, cap2, fp2, hv2, ⟨⟨u1, p1⟩, z1⟩, hTB, hfx, hCH⟩ := (HB4.out.step hb9).putR hkl.out hs9 hn9 (fun j hj e => by (have h1 := hf9 j hj; have h2 : ∀ x ∈ bp :: fp, x < w4.heap.size := (fun x hx => by (rcases List.mem_cons.1 hx with rfl | hx; exact HB4.out.1; exact HB4.out.2.2.2.2.2.1.lt x hx)); have h3 := h2 j e; simp only [World.size_drew] at h1; omega)); simp only [Value.slice.injEq, Option.some.injEq, Addr.mk.injEq, and_true] at hv2; obtain ⟨rfl, hz2, rfl⟩ := hv2; clear hz2; have HTB := Lib.hid hTB; have HCH := Lib.hid hCH; have HFX := Lib.hid hfx; have HF9 := Lib.hid hf9; obtain ⟨ao9, c9, rfl⟩ := hs9.val; clear hb hb9 hTB hCH hfx hf9 hown hs9)
  all_goals
    have E9 := Lib.hid (show (applyC ver l ⟨1, b, ⟨i, g, y, x, nl⟩⟩).2.1 = l.set k ⟨(Bn l k).id, addL rl ⟨i, g, y, x, nl⟩⟩ by rw [AN.out]; simp only; rw [HEQ.out, HRL.out])
    have HC2 := Lib.hid (((Chg.of K4.1).step HB9.out).trans (HCH.out.mono (fp' := bp :: fp) (fun x hx => by simp [hx])))
    have HF2 := Lib.hid (show ∀ x ∈ fp2, x ∈ fp ∨ w.heap.size ≤ x from fun x hx => by
      rcases HFX.out x hx with h | h
      · exact .inl h
      · have h1 := HF9.out x h
        have h2 := K4.1.size
        simp only [World.size_drew] at h1
        exact .inr (by omega))
    clear K4
    go_wp2
    go_ret
    exact ⟨_, fp2, (by rw [AN.out]; rfl), by rw [E9.out]; exact HTB.out, HF2.out, HC2.out⟩
end Go.Proofs.Ytcfcohnkkgickaa
