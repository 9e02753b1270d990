/-
  The walk over the project's performing of a deletion.
-/
import Derived.Test.YtcfcohnkkgickaaRows
import Derived.Test.YtcfcohnkkgickaaMgB
import Derived.Test.YtcfcohnkkgickaaRmImpl
import Derived.Test.YtcfcohnkkgickaaIvcImpl
import Derived.Deep.RegionHeld3
import Derived.Deep.RegionLaw
namespace Go.Proofs.Ytcfcohnkkgickaa
open Go.RowKit Num

set_option maxRecDepth 8000 in
set_option maxHeartbeats 6400000 in
theorem impl_pf3 (ver b i g y x : Int) (nl : Bool) (bp : Nat) (v : Value) (l : List Blk) (fp : List Nat) (w : World) (hT : TblOk ver l l.length) (hC : ChOk ⟨3, b, ⟨i, g, y, x, nl⟩⟩) (hv : ver ≠ 99) (hB : TblBox w bp ver v l fp) :
    Calls Try.prog 175 #[.agg #[.int .i64 3, .int .i64 b, .int .i64 i, .int .i64 g, .int .i64 y, .int .i64 x, .bool nl], .pointer (some ⟨bp, 0, none⟩)] w (PfPost ver l ⟨3, b, ⟨i, g, y, x, nl⟩⟩ bp fp w) := by
  have hn6 : l.length ≤ 6 := hT.2.1
  obtain ⟨ao, cap, rfl, hcap, hV⟩ := hB.open
  have hir := (hC.three rfl).2.1
  simp only at hir
  have BR := Lib.hid (fun w hV => impl_bor ver i ao l.length cap l w rfl (by omega) (fun k hk => by have := tbl_rows hT k hk; omega) (tbl_wf hT) (id_wf (by omega)) hV)
  have AP := Lib.hid (show TblOk ver l l.length ∧ ChOk ⟨3, b, ⟨i, g, y, x, nl⟩⟩ ∧ ver ≠ 99 from ⟨hT, hC, hv⟩)
  have HBX := Lib.hid hB
  have HV := Lib.hid hV
  have HT := Lib.hid hT
  have hnI : (l.length : Int) ≤ 6 := by omega
  obtain ⟨n, hn⟩ : ∃ n, n = l.length := ⟨_, rfl⟩
  have HN := Lib.hid hn
  rw [← hn] at BR HBX hnI hn6
  clear hV hT hC hv hB hn hcap
  go_enter Try.func175, Try.ntmps175
  go_wp2_with fail
  have K0 := HBX.out.kept (Kept.start w)
  have K1 := K0.alloc7 (.int .i64 3) (.int .i64 b) (.int .i64 i) (.int .i64 g) (.int .i64 y) (.int .i64 x) (.bool nl) 162 w.heap.size rfl
  have KQ := K1.sub (l' := [(⟨bp, 0, none⟩, .int .i64 ver), (⟨bp, 1, none⟩, .slice ao n cap), (⟨w.heap.size, 2, none⟩, .int .i64 i)]) (by intro p9 hp9; simp only [List.mem_cons, List.not_mem_nil, or_false] at hp9; rcases hp9 with rfl | rfl | rfl <;> simp)
  obtain ⟨w1, hw1⟩ : ∃ w1, w1 = w.alloc (.cells #[.int .i64 3, .int .i64 b, .int .i64 i, .int .i64 g, .int .i64 y, .int .i64 x, .bool nl] 162) := ⟨_, rfl⟩
  rw [← hw1] at K1 KQ ⊢
  clear hw1
  go_region_held3 (fun w' => w'.cell? ⟨bp, 0, none⟩ = some (.int .i64 ver) ∧ w'.cell? ⟨bp, 1, none⟩ = some (.slice ao n cap) ∧ w'.cell? ⟨w.heap.size, 2, none⟩ = some (.int .i64 i) ∧ Below w1.heap.size w1 w') (first | assumption | exact kn3_at KQ (Below.refl _ _).drew | exact kn3_keep KQ (by assumption) (by assumption)) (first | (go_simp; go_at_call 165; (with_reducible refine (BR.out _ ?_).mono ?_); (exact (HV.out.below K1.1).below (kn3_b (by assumption))); rintro e9 w9 ⟨⟨vb, hvb, rfl⟩, hb⟩))
  all_goals
    have K2 := K1.step (kn3_b (‹_ ∧ _ ∧ _ ∧ Below w1.heap.size w1 w9›))
    obtain ⟨w2, hw2⟩ : ∃ w2, w2 = w9 := ⟨_, rfl⟩
    have EB := Lib.hid (firstAns_idx (p := fun b : Blk => HasRow b.rows i) (l := l) (by rw [← HN.out]; exact hvb))
    have hv1 : -1 ≤ vb ∧ vb < 6 := by rcases hvb with ⟨k, hk, _, _, rfl⟩ | ⟨_, rfl⟩ <;> omega
    obtain ⟨hv1, hv2⟩ := hv1
    clear hb hvb KQ K1 K0
    subst hw2
    by_cases h0 : vb < 0
    · have hd : decide (vb < 0) = true := decide_eq_true h0
      have AN := Lib.hid (show (applyC ver l ⟨3, b, ⟨i, g, y, x, nl⟩⟩).2 = (l, 3) by
        rw [applyC_3n AP.out rfl (idx_no EB.out h0)])
      have HK := Lib.hid K2.1
      clear K2
      go_wp2
      go_ret
      exact PfPost.same HBX.out HK.out AN.out
    · have hd : decide (vb < 0) = false := decide_eq_false h0
      obtain ⟨k, hk⟩ : ∃ k : Nat, vb = (k : Int) := ⟨vb.toNat, by omega⟩
      subst hk
      obtain ⟨e1, hkl⟩ := idx_at EB.out
      have EK := Lib.hid (show iRow l i = k from e1)
      have HH := Lib.hid (hasRow_at EK.out hkl)
      obtain ⟨j0, hj0, hx0⟩ := HH.out
      obtain ⟨gt, cap', q, rcap, hv9, d0, d1, hRV, hgt, hx1, hx2, hx3⟩ := HBX.out.put hkl hj0 ⟨i, g, y, x, nl⟩
      clear hx0 hx1 hx2 hx3
      obtain ⟨hgt, hqt⟩ := hgt
      simp only [Value.slice.injEq] at hv9
      obtain ⟨rfl, hz1, rfl⟩ := hv9
      clear hz1
      obtain ⟨rl, hrl⟩ : ∃ rl, rl = (Bn l k).rows := ⟨_, rfl⟩
      rw [← hrl] at d1 hRV
      have HRL := Lib.hid hrl
      obtain ⟨m, hm⟩ : ∃ m, m = rl.length := ⟨_, rfl⟩
      rw [← hm] at d1 hRV
      have HMm := Lib.hid hm
      have hm6 : m ≤ 6 := by rw [hm, hrl]; exact tbl_rows HT.out k hkl
      have hkI : (k : Int) < (n : Int) := by rw [HN.out]; omega
      have a1 := K2.get 8 rfl
      have HR9 := Lib.hid (hRV.below K2.1)
      have hrc9 : m ≤ rcap := by
        obtain ⟨g2, cap2, vb2, fa, fk, fb, e2, _, _, _, _, c2, hs2, _, _⟩ := blk_open HBX.out.2.2.2.2.2.1 HBX.out.2.2.2.2.2.2.1 hkl
        simp only [Value.slice.injEq, Option.some.injEq, Addr.mk.injEq, and_true] at e2
        rw [← e2.1] at c2
        rw [d1] at c2
        obtain ⟨ao3, cap3, e3, h3, _⟩ := rows_open hs2
        simp only [Option.some.injEq] at c2
        rw [← c2, Value.slice.injEq] at e3
        rw [e3.2.1, e3.2.2]; exact h3
      obtain ⟨bid, hbid⟩ : ∃ bid, bid = (Bn l k).id := ⟨_, rfl⟩
      rw [← hbid] at d0
      have HID := Lib.hid hbid
      have RM := Lib.hid (fun w hV => impl_rem bid q rcap rl i w (by omega) (by omega) hV)
      rw [← HMm.out] at RM
      have d2 := (K2.1.cell (p := ⟨gt, k * 2 + 1, none⟩) hgt).trans d1
      have d3 := (K2.1.cell (p := ⟨gt, k * 2, none⟩) hgt).trans d0
      have a0 := K2.get 7 rfl
      have a3 := K2.get 2 rfl
      have hmI : (m : Int) ≤ 6 := by omega
      have HBL := Lib.hid (show blkL bid rl = true from by rw [hbid, hrl]; exact tbl_blk HT.out hkl)
      clear hRV e1 hj0 hrl hm EB d1 d0 hbid
      go_wp2_with fail
      go_region_with (go_at_call 176; (with_reducible refine (RM.out _ ?_).mono ?_); (exact HR9.out.below (Below.refl _ _).drew); rintro e9 w9 ⟨l9, ok9, hans, v9, fp9, rfl, hs9, hf9, hn9, hb⟩; have hb9 := below_via hb (Below.refl w2.heap.size w2).drew; have b1 := (K2.step hb9).get 8 rfl; have HB9 := Lib.hid hb9; obtain ⟨g2, cap2, fp2, hv2, ⟨⟨u0, p0⟩, z0, ⟨u1, p1⟩, z1⟩, hTB, hfx, hCH⟩ := (HBX.out.step (K2.1.trans (hb9.mono K2.1.size))).putB hkl bid hs9 hn9 (fun j hj e => by (have h1 := hf9 j hj; have h2 : ∀ x ∈ bp :: fp, x < w.heap.size := (fun x hx => by (rcases List.mem_cons.1 hx with rfl | hx; exact HBX.out.1; exact HBX.out.2.2.2.2.2.1.lt x hx)); have h3 := h2 j e; simp only [World.size_drew] at h1; have := K2.1.size; omega)); simp only [Value.slice.injEq, Option.some.injEq, Addr.mk.injEq, and_true] at hv2; obtain ⟨rfl, hz2, rfl⟩ := hv2; clear hz2; have HTB := Lib.hid hTB; have HCH := Lib.hid hCH; have HFX := Lib.hid hfx; have HF9 := Lib.hid hf9; have HAN := Lib.hid hans; obtain ⟨ao9, c9, rfl⟩ := hs9.val; clear hb hb9 hTB hCH hfx hf9 hans hs9)
      all_goals
        obtain ⟨hz5, j, hj9, hl9⟩ := rem_at HAN.out HBL.out (by rw [HRL.out]; exact HH.out)
        have AN := Lib.hid (applyC_3y AP.out rfl EK.out hkl (j := j) (by rw [← HRL.out]; exact hj9))
        have E9 := Lib.hid (show (applyC ver l ⟨3, b, ⟨i, g, y, x, nl⟩⟩).2.1 = l.set k ⟨bid, l9⟩ by rw [AN.out]; simp only; rw [HID.out, hl9, HRL.out])
        have HC2 := Lib.hid (((Chg.of K2.1).step HB9.out).trans (HCH.out.mono (fp' := bp :: fp) (fun x hx => by simp [hx])))
        have HF2 := Lib.hid (show ∀ x ∈ fp2, x ∈ fp ∨ w.heap.size ≤ x from fun x hx => by
          rcases HFX.out x hx with h | h
          · exact .inl h
          · have h1 := HF9.out x h
            have h2 := K2.1.size
            simp only [World.size_drew] at h1
            exact .inr (by omega))
        clear K2 hz5 hj9 hl9
        go_wp2
        go_ret
        exact ⟨_, fp2, (by rw [AN.out]; rfl), by rw [E9.out]; exact HTB.out, HF2.out, HC2.out⟩
end Go.Proofs.Ytcfcohnkkgickaa
