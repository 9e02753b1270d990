/-
  The walk over the project's performing of an appending: the arms that leave the table as it was.
-/
import Derived.Test.YtcfcohnkkgickaaRows
import Derived.Test.YtcfcohnkkgickaaMgB
import Derived.Test.YtcfcohnkkgickaaEbhImpl
import Derived.Test.YtcfcohnkkgickaaPfmApp
import Derived.Test.YtcfcohnkkgickaaBkStep
import Derived.Test.YtcfcohnkkgickaaWtNil
import Derived.Test.YtcfcohnkkgickaaIvcImpl
import Derived.Deep.RegionHeld3
import Derived.Deep.RegionLaw
namespace Go.Proofs.Ytcfcohnkkgickaa
open Go.RowKit Num


/-- What performOn leaves, told from B on. -/
def PfOut (ver : Int) (l : List Blk) (c : Cg) (bp B : Nat) (W : World) (e : Ending) (w' : World) : Prop :=
  ∃ v' fp', e = .returned (.int .i64 (applyC ver l c).2.2) ∧ TblBox w' bp ver v' (applyC ver l c).2.1 fp' ∧ (∀ k ∈ fp', B ≤ k) ∧ Below B W w'
theorem PfPost.out {ver : Int} {l : List Blk} {c : Cg} {bp B : Nat} {fp : List Nat} {W w w' : World} {e : Ending} (h : PfPost ver l c bp fp w e w') (hf : ∀ k ∈ fp, B ≤ k) (hbp : B ≤ bp) (hb : Below B W w) (hB : B ≤ w.heap.size) : PfOut ver l c bp B W e w' := by
  obtain ⟨v', fp', h1, h2, h3, h4⟩ := h
  refine ⟨v', fp', h1, h2, fun k hk => ?_, hb.trans (h4.below (fun k hk => ?_) hB)⟩
  · rcases h3 k hk with h | h
    · exact hf k h
    · omega
  · rcases List.mem_cons.1 hk with rfl | hk
    · exact hbp
    · exact hf k hk

set_option maxRecDepth 8000 in
set_option maxHeartbeats 6400000 in
theorem impl_pf1n (ver b i g y x : Int) (nl : Bool) (bp : Nat) (v : Value) (l : List Blk) (fp : List Nat) (w : World) (hT : TblOk ver l l.length) (hC : ChOk ⟨1, b, ⟨i, g, y, x, nl⟩⟩) (hv : ver ≠ 99) (hB : TblBox w bp ver v l fp) (h1 : ¬ iRow l i < l.length) (hk : ¬ iBlk l b < l.length) (hm : ¬ (0 < l.length ∧ b < (Bn l (l.length - 1)).id)) (h6 : ¬ l.length = 6) (W : World) (f : List Nat) (hK : KB W w W.heap.size [(⟨bp, 0, none⟩, .int .i64 ver), (⟨bp, 1, none⟩, v)] v l f) (hbp : W.heap.size ≤ bp) :
    Calls Try.prog 163 #[.agg #[.int .i64 1, .int .i64 b, .int .i64 i, .int .i64 g, .int .i64 y, .int .i64 x, .bool nl], .pointer (some ⟨bp, 0, none⟩)] w (PfOut ver l ⟨1, b, ⟨i, g, y, x, nl⟩⟩ bp W.heap.size W) := by
  have hn6 : l.length ≤ 6 := hT.2.1
  obtain ⟨ao, cap, rfl, hcap, hV⟩ := hB.open
  have hir := (hC.one rfl)
  have FB := Lib.hid (fun w hV => impl_findB ver b ao l.length cap l w rfl (by omega) hV)
  have BR := Lib.hid (fun w hV => impl_bor ver i ao l.length cap l w rfl (by omega) (fun k hk => by have := tbl_rows hT k hk; omega) (tbl_wf hT) (id_wf (by have h9 := rowB_of hir.2; simp only at h9; omega)) hV)
  have EH := Lib.hid (fun w hV => impl_ebh ver b ao l.length cap l w rfl (by omega) hV)
  have AP := Lib.hid (show TblOk ver l l.length ∧ ChOk ⟨1, b, ⟨i, g, y, x, nl⟩⟩ ∧ ver ≠ 99 from ⟨hT, hC, hv⟩)
  have HBX := Lib.hid hB
  have HV := Lib.hid hV
  have HT := Lib.hid hT
  have hnI : (l.length : Int) ≤ 6 := by omega
  obtain ⟨n, hn⟩ : ∃ n, n = l.length := ⟨_, rfl⟩
  have HN := Lib.hid hn
  rw [← hn] at BR FB EH HBX hnI hn6
  clear hV hT hC hv hB hcap hir
  have AN := Lib.hid (applyC_1n AP.out rfl h1 hk hm h6)
  have HKB := Lib.hid hK
  have HBP := Lib.hid hbp
  rw [← hn] at HKB
  have H1 := Lib.hid h1
  have HK0 := Lib.hid hk
  have hq : decide (0 < n ∧ b < (Bn l (n - 1)).id) = false := decide_eq_false (by rw [hn]; exact hm)
  rw [hq] at EH
  have H9 := Lib.hid (show ¬ (n : Int) = 6 by omega)
  clear h1 hk hm hq hn h6 hK hbp
  go_enter Try.func163, Try.ntmps163
  go_wp2_with fail
  have K0 := HBX.out.kept (Kept.start w)
  have K1 := K0.alloc7 (.int .i64 1) (.int .i64 b) (.int .i64 i) (.int .i64 g) (.int .i64 y) (.int .i64 x) (.bool nl) 160 w.heap.size rfl
  have KQ := K1.sub (l' := [(⟨bp, 0, none⟩, .int .i64 ver), (⟨bp, 1, none⟩, .slice ao n cap), (⟨w.heap.size, 1, none⟩, .int .i64 b), (⟨w.heap.size, 2, none⟩, .int .i64 i)]) (by intro p9 hp9; simp only [List.mem_cons, List.not_mem_nil, or_false] at hp9; rcases hp9 with rfl | rfl | rfl | rfl <;> simp)
  obtain ⟨w1, hw1⟩ : ∃ w1, w1 = w.alloc (.cells #[.int .i64 1, .int .i64 b, .int .i64 i, .int .i64 g, .int .i64 y, .int .i64 x, .bool nl] 160) := ⟨_, rfl⟩
  rw [← hw1] at K1 KQ ⊢
  clear hw1
  go_region_held3 (fun w' => w'.cell? ⟨bp, 0, none⟩ = some (.int .i64 ver) ∧ w'.cell? ⟨bp, 1, none⟩ = some (.slice ao n cap) ∧ w'.cell? ⟨w.heap.size, 1, none⟩ = some (.int .i64 b) ∧ w'.cell? ⟨w.heap.size, 2, none⟩ = some (.int .i64 i) ∧ Below w1.heap.size w1 w') (first | assumption | exact kn4_at KQ (Below.refl _ _).drew | exact kn4_keep KQ (by assumption) (by assumption)) (first | (go_simp; go_at_call 164; (with_reducible refine (FB.out _ ?_).mono ?_); (exact (HV.out.below K1.1).below (kn4_b (by assumption))); rintro e9 w9 ⟨⟨vf, hvf, rfl⟩, hb⟩))
  have K2 := K1.step (kn4_b (‹_ ∧ _ ∧ _ ∧ _ ∧ Below w1.heap.size w1 w9›))
  obtain ⟨w2, hw2⟩ : ∃ w2, w2 = w9 := ⟨_, rfl⟩
  subst hw2
  have EF := Lib.hid (firstAns_idx (p := fun c : Blk => c.id = b) (l := l) (by rw [← HN.out]; exact hvf))
  have hf1 : -1 ≤ vf ∧ vf < 6 := by rcases hvf with ⟨k, hk, _, _, rfl⟩ | ⟨_, rfl⟩ <;> omega
  obtain ⟨hf1, hf2⟩ := hf1
  clear hb hvf KQ K1 K0
  have KQ := K2.sub (l' := [(⟨bp, 0, none⟩, .int .i64 ver), (⟨bp, 1, none⟩, .slice ao n cap), (⟨w.heap.size, 1, none⟩, .int .i64 b), (⟨w.heap.size, 2, none⟩, .int .i64 i)]) (by intro p9 hp9; simp only [List.mem_cons, List.not_mem_nil, or_false] at hp9; rcases hp9 with rfl | rfl | rfl | rfl <;> simp)
  try clear ‹_ ∧ _ ∧ _ ∧ _ ∧ Below w1.heap.size w1 w2›
  go_wp2_with fail
  obtain ⟨ex, hex⟩ : ∃ ex, ex = decide (0 ≤ vf) := ⟨_, rfl⟩
  rw [← hex]
  have EX := Lib.hid hex
  clear hex
  go_region_held3 (fun w' => w'.cell? ⟨bp, 0, none⟩ = some (.int .i64 ver) ∧ w'.cell? ⟨bp, 1, none⟩ = some (.slice ao n cap) ∧ w'.cell? ⟨w.heap.size, 1, none⟩ = some (.int .i64 b) ∧ w'.cell? ⟨w.heap.size, 2, none⟩ = some (.int .i64 i) ∧ Below w2.heap.size w2 w') (first | assumption | exact kn4_at KQ (Below.refl _ _).drew | exact kn4_keep KQ (by assumption) (by assumption)) (first | (go_simp; go_at_call 165; (with_reducible refine (BR.out _ ?_).mono ?_); (exact (HV.out.below K2.1).below (kn4_b (by assumption))); rintro e9 w9 ⟨⟨vb, hvb, rfl⟩, hb⟩))
  have K3 := K2.step (kn4_b (‹_ ∧ _ ∧ _ ∧ _ ∧ Below w2.heap.size w2 w9›))
  obtain ⟨w3, hw3⟩ : ∃ w3, w3 = w9 := ⟨_, rfl⟩
  subst hw3
  have EB := Lib.hid (firstAns_idx (p := fun c : Blk => HasRow c.rows i) (l := l) (by rw [← HN.out]; exact hvb))
  have hv1 : -1 ≤ vb ∧ vb < 6 := by rcases hvb with ⟨k, hk, _, _, rfl⟩ | ⟨_, rfl⟩ <;> omega
  obtain ⟨hv1, hv2⟩ := hv1
  clear hb hvb KQ K2
  try clear ‹_ ∧ _ ∧ _ ∧ _ ∧ Below w2.heap.size w2 w3›
  rw [not_row EB.out H1.out]
  have hex0 : ex = false := EX.out.trans (not_blk EF.out HK0.out)
  subst hex0
  have a1 := K3.get 8 rfl
  go_wp2_with fail
  have KQ := K3.sub (l' := [(⟨bp, 0, none⟩, .int .i64 ver), (⟨bp, 1, none⟩, .slice ao n cap), (⟨w.heap.size, 1, none⟩, .int .i64 b)]) (by intro p9 hp9; simp only [List.mem_cons, List.not_mem_nil, or_false] at hp9; rcases hp9 with rfl | rfl | rfl <;> simp)
  go_region_held3 (fun w' => w'.cell? ⟨bp, 0, none⟩ = some (.int .i64 ver) ∧ w'.cell? ⟨bp, 1, none⟩ = some (.slice ao n cap) ∧ w'.cell? ⟨w.heap.size, 1, none⟩ = some (.int .i64 b) ∧ Below w3.heap.size w3 w') (first | assumption | exact kn3_at KQ (Below.refl _ _).drew | exact kn3_keep KQ (by assumption) (by assumption)) (first | (go_simp; go_at_call 160; (with_reducible refine (EH.out _ ?_).mono ?_); (exact (HV.out.below K3.1).below (kn3_b (by assumption))); rintro e9 w9 ⟨rfl, hb⟩))
  have K4 := K3.step (kn3_b (‹_ ∧ _ ∧ _ ∧ Below w3.heap.size w3 w9›))
  obtain ⟨w4, hw4⟩ : ∃ w4, w4 = w9 := ⟨_, rfl⟩
  subst hw4
  clear hb KQ K3 a1
  have a1 := K4.get 8 rfl
  have a2 := K4.get 1 rfl
  have hnb : ((n : Int) == 6) = false := beq_eq_false_iff_ne.2 H9.out
  go_upto_region 13 with fail
  have f1 := K4.fz 8 rfl
  have a3 := (((Below.refl w4.heap.size w4).alloc (Nat.le_refl _) (.cells #[.int .i64 b, .slice none 0 0] 80)).cell (p := ⟨bp, 1, none⟩) (K4.lt 8 rfl)).trans a1
  have KB4 := Lib.hid (HKB.out.wide K4 (by
    intro p9 hp9
    simp only [List.mem_cons, List.not_mem_nil, or_false] at hp9
    rcases hp9 with rfl | rfl | rfl | rfl | rfl | rfl | rfl | rfl | rfl
    all_goals first | exact .inr (Nat.le_refl _) | exact .inl ⟨(⟨bp, 0, none⟩, .int .i64 ver), by simp, rfl⟩))
  have HW4 := Lib.hid (show W.heap.size ≤ w4.heap.size from KB4.out.1.1.size)
  have HHN := Lib.hid (show (l.length + 1) * 32 ≤ 140737488355328 by have := HN.out; omega)
  go_region_law (refine step_append_kb (W := W) rfl (.tmp 72) (.tmp 76) rfl W.heap.size (.slice ao n cap) [(⟨w.heap.size, 0, none⟩, .int .i64 1), (⟨w.heap.size, 1, none⟩, .int .i64 b), (⟨w.heap.size, 2, none⟩, .int .i64 i), (⟨w.heap.size, 3, none⟩, .int .i64 g), (⟨w.heap.size, 4, none⟩, .int .i64 y), (⟨w.heap.size, 5, none⟩, .int .i64 x), (⟨w.heap.size, 6, none⟩, .bool nl), (⟨bp, 0, none⟩, .int .i64 ver), (⟨bp, 1, none⟩, .slice ao n cap)] l f ⟨b, []⟩ none 0 0 [] w4.heap.size 1 rfl rfl ?_ ?_ ?_ (.inl ⟨rfl, rfl, .inl rfl⟩) ?_ List.nodup_nil ?_ ?_ ?_ HHN.out (Nat.le_refl _) ?_ ?_; (· first | exact KB4.out.step (((Below.refl _ _).drew).alloc (Nat.le_refl _) _) | exact KB4.out.step (((Below.refl _ _).alloc (Nat.le_refl _) _).drew)); (· simp [World.cell?_alloc_at]); (· simp [World.cell?_alloc_at]); (· intro k hk; cases hk); (· intro k hk; cases hk); (· intro k hk; cases hk); (· intro p hp e; cases e); (· have := HW4.out; simp; omega); intro v' w6 KB6; obtain ⟨ao', c', hv'⟩ := KB6.2.1.shape; rw [List.length_append, ← HN.out, List.length_singleton] at hv'; subst hv'; have y1 := KB6.1.get 8 rfl; have g1 := KB6.1.fz 8 rfl)
  all_goals
    rw [List.append_nil] at KB6
    obtain ⟨fp5, HB5, hf5⟩ := KB6.boxSet (bp := bp) (ver := ver) (u := .slice ao n cap) (by simp) (by simp)
    have K5 := KB6.1.set (p := [(⟨w.heap.size, 0, none⟩, .int .i64 1), (⟨w.heap.size, 1, none⟩, .int .i64 b), (⟨w.heap.size, 2, none⟩, .int .i64 i), (⟨w.heap.size, 3, none⟩, .int .i64 g), (⟨w.heap.size, 4, none⟩, .int .i64 y), (⟨w.heap.size, 5, none⟩, .int .i64 x), (⟨w.heap.size, 6, none⟩, .bool nl), (⟨bp, 0, none⟩, .int .i64 ver)]) (q := []) (a := ⟨bp, 1, none⟩) (.slice ao' (n + 1) c') HBP.out (by
      have hb1 := HBX.out.1
      intro c hc e
      have e2 := congrArg Addr.block e
      simp only [List.append_nil, List.mem_cons, List.not_mem_nil, or_false] at hc
      rcases hc with rfl | rfl | rfl | rfl | rfl | rfl | rfl | rfl
      all_goals first | (simp only at e2; omega) | (simp at e))
    clear KB4 y1 g1 a1 a2 a3 f1 KB6 K4
    obtain ⟨w5, hw5⟩ : ∃ w5, w5 = w6.setCell ⟨bp, 1, none⟩ (.slice ao' (n + 1) c') := ⟨_, rfl⟩
    rw [← hw5] at HB5 K5 ⊢
    have hlen : (l ++ [(⟨b, []⟩ : Blk)]).length = n + 1 := by rw [List.length_append, ← HN.out]; rfl
    have hnl : n < (l ++ [(⟨b, []⟩ : Blk)]).length := by omega
    obtain ⟨gt, cap', ro, rcap, fk, hv9, hgt, d0, d1, hrc, hs9⟩ := HB5.blkAt (k := n) hnl
    have hbn : Bn (l ++ [(⟨b, []⟩ : Blk)]) n = ⟨b, []⟩ := by
      rw [Bn_at hnl, List.getElem_append_right (by rw [← HN.out]; exact Nat.le_refl _)]
      simp
    rw [hbn] at d0 d1 hrc hs9
    rw [hlen] at hv9
    simp only [Value.slice.injEq] at hv9
    obtain ⟨rfl, hz1, rfl⟩ := hv9
    have d2 : w5.cell? ⟨gt, n * 2 + 1, none⟩ = some (.slice ro 0 rcap) := d1
    have HS5 := Lib.hid (show SliceRep rowTy w5 (.slice ro 0 rcap) [] fk from hs9)
    have HBN := Lib.hid hbn
    have HNL := Lib.hid hnl
    have HB5 := Lib.hid HB5
    have HF5 := Lib.hid hf5
    have K5 := Lib.hid K5
    have a8 := K5.out.get 8 rfl
    have WV := Lib.hid (fun w1 hs => impl_withV (.slice ro 0 rcap) [] fk ⟨i, g, y, x, nl⟩ w1 (by simp) hs)
    have hkI : (n : Int) < (n : Int) + 1 := by omega
    clear hz1 hw5 hlen hnl hbn d0 d1 hrc hs9 hf5 hgt
    go_upto_region 15 with fail
    have b2 := K5.out.get 2 rfl
    have b3 := K5.out.get 3 rfl
    have b4 := K5.out.get 4 rfl
    have b5 := K5.out.get 5 rfl
    have b6 := K5.out.get 6 rfl
    go_region_with (go_at_call 166; (with_reducible refine (WV.out _ ?_).mono ?_); (exact HS5.out.step (Below.refl _ _).drew); rintro e9 w9 ⟨v9, rfl, hown, hb⟩; have hb9 := below_via hb (Below.refl w5.heap.size w5).drew; have HB9 := Lib.hid hb9; obtain ⟨fp9, hs9, hf9, hn9⟩ := hown.rep; obtain ⟨g2, cap2, fp2, hv2, ⟨⟨u1, p1⟩, z1⟩, hTB, hfx, hCH⟩ := (HB5.out.step hb9).putR HNL.out hs9 hn9 (fun j hj e => by (have h1 := hf9 j hj; have h2 : ∀ x ∈ bp :: fp5, x < w5.heap.size := (fun x hx => by (rcases List.mem_cons.1 hx with rfl | hx; exact HB5.out.1; exact HB5.out.2.2.2.2.2.1.lt x hx)); have h3 := h2 j e; simp only [World.size_drew] at h1; omega)); simp only [Value.slice.injEq, Option.some.injEq, Addr.mk.injEq, and_true] at hv2; obtain ⟨rfl, hz2, rfl⟩ := hv2; clear hz2; have HTB := Lib.hid hTB; have HCH := Lib.hid hCH; have HFX := Lib.hid hfx; have HF9 := Lib.hid hf9; obtain ⟨ao9, c9, rfl⟩ := hs9.val; clear hb hb9 hTB hCH hfx hf9 hown hs9)
    all_goals
      have E9 := Lib.hid (show (applyC ver l ⟨1, b, ⟨i, g, y, x, nl⟩⟩).2.1 = (l ++ [(⟨b, []⟩ : Blk)]).set n ⟨(Bn (l ++ [(⟨b, []⟩ : Blk)]) n).id, addL [] ⟨i, g, y, x, nl⟩⟩ by
        rw [AN.out, HBN.out, HN.out, List.set_append_right _ _ (Nat.le_refl _)]
        simp [addL, posL])
      have HC2 := Lib.hid (K5.out.1.trans ((HB9.out.mono K5.out.1.size).trans (HCH.out.below (fun k hk => (HF5.out k hk).1) (Nat.le_trans K5.out.1.size HB9.out.size))))
      have HF2 := Lib.hid (show ∀ x ∈ fp2, W.heap.size ≤ x from fun x hx => by
        rcases HFX.out x hx with h | h
        · exact (HF5.out x h).1
        · have h1 := HF9.out x h
          have h2 := K5.out.1.size
          simp only [World.size_drew] at h1
          omega)
      clear a8 b2 b3 b4 b5 b6
      go_wp2
      go_ret
      exact ⟨_, fp2, (by rw [AN.out]; rfl), by rw [E9.out]; exact HTB.out, HF2.out, HC2.out⟩
end Go.Proofs.Ytcfcohnkkgickaa
