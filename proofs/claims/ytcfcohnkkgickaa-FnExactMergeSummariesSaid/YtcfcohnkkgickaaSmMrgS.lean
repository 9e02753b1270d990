/-
  The walk over the model's MergeSummaries.
-/
import Derived.Test.YtcfcohnkkgickaaRows
import Derived.Test.YtcfcohnkkgickaaKeep
import Derived.Test.YtcfcohnkkgickaaSmFold
import Derived.Test.YtcfcohnkkgickaaSmSpec
import Derived.Test.YtcfcohnkkgickaaHgAdd
namespace Go.Proofs.Ytcfcohnkkgickaa
open Go.RowKit Num

/-- What a function leaves that hands back a summary of its own and a bool. -/
def SmOk2 (b c u mn mx sm : Int) (h : List Int) (ok : Bool) (w : World) (e : Ending) (w' : World) : Prop :=
  ∃ v fp, e = .returned (.tuple #[.agg #[.int .i64 b, .int .i64 c, .int .i64 u, .int .i64 mn, .int .i64 mx, .int .i64 sm, v], .bool ok]) ∧ SliceRep intTy w' v h fp ∧ fp.Nodup ∧ (∀ k ∈ fp, w.heap.size ≤ k) ∧ Below w.heap.size w w'
theorem nilI (w : World) : SliceRep intTy w (.slice none 0 0) [] [] := .inl ⟨rfl, rfl, .inl rfl⟩
theorem mrg_first {a b : Sm} (h : mrgB a b = true) (hc : a.sp.c = 0) : mrgS a b = ⟨0, a.c + b.c, a.u + b.u, b.mn, b.mx, a.sm + b.sm, addC a.h b.h⟩ := by
  rw [mrgS_t h, Sp.plus_l hc]
  have := (mrgB_of h).2.1.2.2.2.2.1 hc
  have e : a.sm = 0 := this.2.2
  rw [e, Int.zero_add]
  rfl
theorem mrg_second {a b : Sm} (h : mrgB a b = true) (hc : ¬ a.sp.c = 0) (hb : b.sp.c = 0) : mrgS a b = ⟨0, a.c + b.c, a.u + b.u, a.mn, a.mx, a.sm + b.sm, addC a.h b.h⟩ := by
  rw [mrgS_t h, Sp.plus_r hc hb]
  have := (mrgB_of h).2.2.2.2.2.2.1 hb
  have e : b.sm = 0 := this.2.2
  rw [e, Int.add_zero]
  rfl
theorem mrg_both {a b : Sm} (h : mrgB a b = true) (hc : ¬ a.sp.c = 0) (hb : ¬ b.sp.c = 0) : mrgS a b = ⟨0, a.c + b.c, a.u + b.u, min a.mn b.mn, max a.mx b.mx, a.sm + b.sm, addC a.h b.h⟩ := by
  rw [mrgS_t h, Sp.plus_b hc hb]
  rfl
/-- The bounds of a valid summary. -/
theorem SmOk.bnd {s : Sm} (h : SmOk s) : (0 ≤ s.u ∧ s.u ≤ s.c ∧ s.c ≤ 99) ∧ (-9801 ≤ s.sm ∧ s.sm ≤ 9801) := by
  have h1 := h.c99
  have h2 := h.2.2.2.1
  have h3 := h.2.2.2.2.s99 (by unfold Sm.sp; simp only; omega)
  exact ⟨⟨h2.1, h2.2, h1.2⟩, h3.1, h3.2.1⟩

set_option maxRecDepth 8000 in
set_option maxHeartbeats 6400000 in
theorem spec_mrg (b c u mn mx sm : Int) (ao : Option Addr) (n cap : Nat) (l : List Int) (b' c' u' mn' mx' sm' : Int) (bo : Option Addr) (m cap9 : Nat) (r : List Int) (w : World) (hl : l.length = n) (hr : r.length = m) (hn : n ≤ 1099511627776) (hm : m ≤ 1099511627776) (hV : IntsVal w ao l) (hV' : IntsVal w bo r) (V : Sm) (hVV : V = mrgS ⟨b, c, u, mn, mx, sm, l⟩ ⟨b', c', u', mn', mx', sm', r⟩) :
    Calls Try.prog 63 #[.agg #[.int .i64 b, .int .i64 c, .int .i64 u, .int .i64 mn, .int .i64 mx, .int .i64 sm, .slice ao n cap], .agg #[.int .i64 b', .int .i64 c', .int .i64 u', .int .i64 mn', .int .i64 mx', .int .i64 sm', .slice bo m cap9]] w (SmOk2 V.b V.c V.u V.mn V.mx V.sm V.h (mrgB ⟨b, c, u, mn, mx, sm, l⟩ ⟨b', c', u', mn', mx', sm', r⟩) w) := by
  have AH := fun w hV hV' => spec_addHV ao bo n m cap cap9 l r w hl hr hn hm hV hV'
  have I1 := fun w hV => spec_isS b c u mn mx sm ao n cap l w hl hn hV
  have I2 := fun w hV => spec_isS b' c' u' mn' mx' sm' bo m cap9 r w hr hm hV
  have HMB := Lib.hid (show mrgB ⟨b, c, u, mn, mx, sm, l⟩ ⟨b', c', u', mn', mx', sm', r⟩ = (addOkH l r && (smB ⟨b, c, u, mn, mx, sm, l⟩ && smB ⟨b', c', u', mn', mx', sm', r⟩)) from rfl)
  obtain ⟨q0, hq0⟩ : ∃ q, q = addOkH l r := ⟨_, rfl⟩
  obtain ⟨q1, hq1⟩ : ∃ q, q = smB ⟨b, c, u, mn, mx, sm, l⟩ := ⟨_, rfl⟩
  obtain ⟨q2, hq2⟩ : ∃ q, q = smB ⟨b', c', u', mn', mx', sm', r⟩ := ⟨_, rfl⟩
  obtain ⟨HH, hHH⟩ : ∃ H, H = addH l r := ⟨_, rfl⟩
  simp only [← hq0, ← hHH] at AH
  simp only [← hq1] at I1
  simp only [← hq2] at I2
  have HAH := Lib.hid AH
  have HI1 := Lib.hid I1
  have HI2 := Lib.hid I2
  have HV := Lib.hid hV
  have HV' := Lib.hid hV'
  have HQ0 := Lib.hid hq0
  have HQ1 := Lib.hid hq1
  have HQ2 := Lib.hid hq2
  have HHH := Lib.hid hHH
  have HVV := Lib.hid hVV
  clear AH I1 I2 hV hV' hq0 hq1 hq2 hHH hl hr hVV
  cases q1
  · skip
    have AM := Lib.hid (show mrgB ⟨b, c, u, mn, mx, sm, l⟩ ⟨b', c', u', mn', mx', sm', r⟩ = false by rw [HMB.out, ← HQ0.out, ← HQ1.out, ← HQ2.out]; cases q0 <;> rfl)
    have AN := Lib.hid (show V = ⟨0, 0, 0, 0, 0, 0, []⟩ from HVV.out.trans (mrgS_f AM.out))
    go_enter Try.func63, Try.ntmps63
    have K0 := (((Kept.start w).alloc7 (.int .i64 b) (.int .i64 c) (.int .i64 u) (.int .i64 mn) (.int .i64 mx) (.int .i64 sm) (.slice ao n cap) 77 _ rfl).alloc7 (.int .i64 b') (.int .i64 c') (.int .i64 u') (.int .i64 mn') (.int .i64 mx') (.int .i64 sm') (.slice bo m cap9) 77 (w.heap.size + 1) (by simp)).alloc7 (.int .i64 0) (.int .i64 0) (.int .i64 0) (.int .i64 0) (.int .i64 0) (.int .i64 0) (.slice none 0 0) 77 (w.heap.size + 1 + 1) (by simp)
    go_wp2_with fail
    refine (HAH.out _ (HV.out.below K0.1) (HV'.out.below K0.1)).mono ?_
    rintro e w1 ⟨v9, fp, rfl, hs, hnd, hf, hb⟩
    obtain ⟨aoh, ch, rfl, _, hVh⟩ := ints_open hs
    have K1 := K0.step hb
    have h2 := K0.lt 0 rfl
    simp only at h2
    have HFW := Lib.hid (show ∀ k ∈ fp, w.heap.size + 1 + 1 < k from fun k hk => by have h1 := hf k hk; omega)
    have HS1 := Lib.hid hs
    clear hb K0 hs hf h2
    have x0 := K1.get 14 rfl
    have x1 := K1.get 15 rfl
    have x2 := K1.get 16 rfl
    have x3 := K1.get 17 rfl
    have x4 := K1.get 18 rfl
    have x5 := K1.get 19 rfl
    have x6 := K1.get 20 rfl
    go_wp2_with fail
    refine (HI1.out _ (HV.out.below K1.1)).mono ?_
    rintro e w2 ⟨rfl, hb⟩
    have K2 := K1.step hb
    have HS2 := Lib.hid (HS1.out.step hb)
    have HBK2 := Lib.hid hb
    clear hb x0 x1 x2 x3 x4 x5 x6 K1
    have HK9 := Lib.hid (K2.setB7 (.int .i64 0) (.int .i64 0) (.int .i64 0) (.int .i64 0) (.int .i64 0) (.int .i64 0) (.slice none 0 0) (by omega) (by simp only [List.mem_cons, List.not_mem_nil, or_false]; rintro c9 (rfl | rfl | rfl | rfl | rfl | rfl | rfl | rfl | rfl | rfl | rfl | rfl | rfl | rfl) <;> (dsimp only; omega))).1
    have k0 := K2.get 0 rfl
    have f0 := K2.fz 0 rfl
    have k1 := K2.get 1 rfl
    have f1 := K2.fz 1 rfl
    have k2 := K2.get 2 rfl
    have f2 := K2.fz 2 rfl
    have k3 := K2.get 3 rfl
    have f3 := K2.fz 3 rfl
    have k4 := K2.get 4 rfl
    have f4 := K2.fz 4 rfl
    have k5 := K2.get 5 rfl
    have f5 := K2.fz 5 rfl
    have k6 := K2.get 6 rfl
    have f6 := K2.fz 6 rfl
    have z := K2.lt 0 rfl
    clear K2 HS1
    go_wp2
    exact bodyPost_ret (v := .tuple #[.agg #[.int .i64 0, .int .i64 0, .int .i64 0, .int .i64 0, .int .i64 0, .int .i64 0, .slice none 0 0], .bool false]) (by simp [results, Try.results63, go_sem, k0, k1, k2, k3, k4, k5, k6, z]) rfl ⟨_, [], by rw [AN.out, AM.out], by rw [AN.out]; exact nilI _, List.nodup_nil, (fun k hk => by cases hk), HK9.out⟩
  · cases q2
    · skip
      have AM := Lib.hid (show mrgB ⟨b, c, u, mn, mx, sm, l⟩ ⟨b', c', u', mn', mx', sm', r⟩ = false by rw [HMB.out, ← HQ0.out, ← HQ1.out, ← HQ2.out]; cases q0 <;> rfl)
      have AN := Lib.hid (show V = ⟨0, 0, 0, 0, 0, 0, []⟩ from HVV.out.trans (mrgS_f AM.out))
      go_enter Try.func63, Try.ntmps63
      have K0 := (((Kept.start w).alloc7 (.int .i64 b) (.int .i64 c) (.int .i64 u) (.int .i64 mn) (.int .i64 mx) (.int .i64 sm) (.slice ao n cap) 77 _ rfl).alloc7 (.int .i64 b') (.int .i64 c') (.int .i64 u') (.int .i64 mn') (.int .i64 mx') (.int .i64 sm') (.slice bo m cap9) 77 (w.heap.size + 1) (by simp)).alloc7 (.int .i64 0) (.int .i64 0) (.int .i64 0) (.int .i64 0) (.int .i64 0) (.int .i64 0) (.slice none 0 0) 77 (w.heap.size + 1 + 1) (by simp)
      go_wp2_with fail
      refine (HAH.out _ (HV.out.below K0.1) (HV'.out.below K0.1)).mono ?_
      rintro e w1 ⟨v9, fp, rfl, hs, hnd, hf, hb⟩
      obtain ⟨aoh, ch, rfl, _, hVh⟩ := ints_open hs
      have K1 := K0.step hb
      have h2 := K0.lt 0 rfl
      simp only at h2
      have HFW := Lib.hid (show ∀ k ∈ fp, w.heap.size + 1 + 1 < k from fun k hk => by have h1 := hf k hk; omega)
      have HS1 := Lib.hid hs
      clear hb K0 hs hf h2
      have x0 := K1.get 14 rfl
      have x1 := K1.get 15 rfl
      have x2 := K1.get 16 rfl
      have x3 := K1.get 17 rfl
      have x4 := K1.get 18 rfl
      have x5 := K1.get 19 rfl
      have x6 := K1.get 20 rfl
      go_wp2_with fail
      refine (HI1.out _ (HV.out.below K1.1)).mono ?_
      rintro e w2 ⟨rfl, hb⟩
      have K2 := K1.step hb
      have HS2 := Lib.hid (HS1.out.step hb)
      have HBK2 := Lib.hid hb
      clear hb x0 x1 x2 x3 x4 x5 x6 K1
      have x0 := K2.get 7 rfl
      have x1 := K2.get 8 rfl
      have x2 := K2.get 9 rfl
      have x3 := K2.get 10 rfl
      have x4 := K2.get 11 rfl
      have x5 := K2.get 12 rfl
      have x6 := K2.get 13 rfl
      go_wp2_with fail
      refine (HI2.out _ (HV'.out.below K2.1)).mono ?_
      rintro e w3 ⟨rfl, hb⟩
      have K3 := K2.step hb
      have HS3 := Lib.hid (HS2.out.step hb)
      have HBK3 := Lib.hid hb
      clear hb x0 x1 x2 x3 x4 x5 x6 K2
      have HK9 := Lib.hid (K3.setB7 (.int .i64 0) (.int .i64 0) (.int .i64 0) (.int .i64 0) (.int .i64 0) (.int .i64 0) (.slice none 0 0) (by omega) (by simp only [List.mem_cons, List.not_mem_nil, or_false]; rintro c9 (rfl | rfl | rfl | rfl | rfl | rfl | rfl | rfl | rfl | rfl | rfl | rfl | rfl | rfl) <;> (dsimp only; omega))).1
      have k0 := K3.get 0 rfl
      have f0 := K3.fz 0 rfl
      have k1 := K3.get 1 rfl
      have f1 := K3.fz 1 rfl
      have k2 := K3.get 2 rfl
      have f2 := K3.fz 2 rfl
      have k3 := K3.get 3 rfl
      have f3 := K3.fz 3 rfl
      have k4 := K3.get 4 rfl
      have f4 := K3.fz 4 rfl
      have k5 := K3.get 5 rfl
      have f5 := K3.fz 5 rfl
      have k6 := K3.get 6 rfl
      have f6 := K3.fz 6 rfl
      have z := K3.lt 0 rfl
      clear K3 HS1
      go_wp2
      exact bodyPost_ret (v := .tuple #[.agg #[.int .i64 0, .int .i64 0, .int .i64 0, .int .i64 0, .int .i64 0, .int .i64 0, .slice none 0 0], .bool false]) (by simp [results, Try.results63, go_sem, k0, k1, k2, k3, k4, k5, k6, z]) rfl ⟨_, [], by rw [AN.out, AM.out], by rw [AN.out]; exact nilI _, List.nodup_nil, (fun k hk => by cases hk), HK9.out⟩
    · cases q0
      · skip
        have AM := Lib.hid (show mrgB ⟨b, c, u, mn, mx, sm, l⟩ ⟨b', c', u', mn', mx', sm', r⟩ = false by rw [HMB.out, ← HQ0.out, ← HQ1.out, ← HQ2.out]; rfl)
        have AN := Lib.hid (show V = ⟨0, 0, 0, 0, 0, 0, []⟩ from HVV.out.trans (mrgS_f AM.out))
        go_enter Try.func63, Try.ntmps63
        have K0 := (((Kept.start w).alloc7 (.int .i64 b) (.int .i64 c) (.int .i64 u) (.int .i64 mn) (.int .i64 mx) (.int .i64 sm) (.slice ao n cap) 77 _ rfl).alloc7 (.int .i64 b') (.int .i64 c') (.int .i64 u') (.int .i64 mn') (.int .i64 mx') (.int .i64 sm') (.slice bo m cap9) 77 (w.heap.size + 1) (by simp)).alloc7 (.int .i64 0) (.int .i64 0) (.int .i64 0) (.int .i64 0) (.int .i64 0) (.int .i64 0) (.slice none 0 0) 77 (w.heap.size + 1 + 1) (by simp)
        go_wp2_with fail
        refine (HAH.out _ (HV.out.below K0.1) (HV'.out.below K0.1)).mono ?_
        rintro e w1 ⟨v9, fp, rfl, hs, hnd, hf, hb⟩
        obtain ⟨aoh, ch, rfl, _, hVh⟩ := ints_open hs
        have K1 := K0.step hb
        have h2 := K0.lt 0 rfl
        simp only at h2
        have HFW := Lib.hid (show ∀ k ∈ fp, w.heap.size + 1 + 1 < k from fun k hk => by have h1 := hf k hk; omega)
        have HS1 := Lib.hid hs
        clear hb K0 hs hf h2
        have x0 := K1.get 14 rfl
        have x1 := K1.get 15 rfl
        have x2 := K1.get 16 rfl
        have x3 := K1.get 17 rfl
        have x4 := K1.get 18 rfl
        have x5 := K1.get 19 rfl
        have x6 := K1.get 20 rfl
        go_wp2_with fail
        refine (HI1.out _ (HV.out.below K1.1)).mono ?_
        rintro e w2 ⟨rfl, hb⟩
        have K2 := K1.step hb
        have HS2 := Lib.hid (HS1.out.step hb)
        have HBK2 := Lib.hid hb
        clear hb x0 x1 x2 x3 x4 x5 x6 K1
        have x0 := K2.get 7 rfl
        have x1 := K2.get 8 rfl
        have x2 := K2.get 9 rfl
        have x3 := K2.get 10 rfl
        have x4 := K2.get 11 rfl
        have x5 := K2.get 12 rfl
        have x6 := K2.get 13 rfl
        go_wp2_with fail
        refine (HI2.out _ (HV'.out.below K2.1)).mono ?_
        rintro e w3 ⟨rfl, hb⟩
        have K3 := K2.step hb
        have HS3 := Lib.hid (HS2.out.step hb)
        have HBK3 := Lib.hid hb
        clear hb x0 x1 x2 x3 x4 x5 x6 K2
        have HK9 := Lib.hid (K3.setB7 (.int .i64 0) (.int .i64 0) (.int .i64 0) (.int .i64 0) (.int .i64 0) (.int .i64 0) (.slice none 0 0) (by omega) (by simp only [List.mem_cons, List.not_mem_nil, or_false]; rintro c9 (rfl | rfl | rfl | rfl | rfl | rfl | rfl | rfl | rfl | rfl | rfl | rfl | rfl | rfl) <;> (dsimp only; omega))).1
        have k0 := K3.get 0 rfl
        have f0 := K3.fz 0 rfl
        have k1 := K3.get 1 rfl
        have f1 := K3.fz 1 rfl
        have k2 := K3.get 2 rfl
        have f2 := K3.fz 2 rfl
        have k3 := K3.get 3 rfl
        have f3 := K3.fz 3 rfl
        have k4 := K3.get 4 rfl
        have f4 := K3.fz 4 rfl
        have k5 := K3.get 5 rfl
        have f5 := K3.fz 5 rfl
        have k6 := K3.get 6 rfl
        have f6 := K3.fz 6 rfl
        have z := K3.lt 0 rfl
        clear K3 HS1
        go_wp2
        exact bodyPost_ret (v := .tuple #[.agg #[.int .i64 0, .int .i64 0, .int .i64 0, .int .i64 0, .int .i64 0, .int .i64 0, .slice none 0 0], .bool false]) (by simp [results, Try.results63, go_sem, k0, k1, k2, k3, k4, k5, k6, z]) rfl ⟨_, [], by rw [AN.out, AM.out], by rw [AN.out]; exact nilI _, List.nodup_nil, (fun k hk => by cases hk), HK9.out⟩
      · skip
        have AMT := show mrgB ⟨b, c, u, mn, mx, sm, l⟩ ⟨b', c', u', mn', mx', sm', r⟩ = true by rw [HMB.out, ← HQ0.out, ← HQ1.out, ← HQ2.out]; rfl
        have AM := Lib.hid AMT
        obtain ⟨HOK, SO1, SO2⟩ := mrgB_of AMT
        obtain ⟨⟨hu0, hu1, hu2⟩, hs0, hs1⟩ := SO1.bnd
        obtain ⟨⟨hv0, hv1, hv2⟩, ht0, ht1⟩ := SO2.bnd
        simp only at hu0 hu1 hu2 hs0 hs1 hv0 hv1 hv2 ht0 ht1
        have EH := Lib.hid (show addC l r = HH by rw [HHH.out]; exact (addH_t HQ0.out.symm).symm)
        have hw1 : IntKind.i64.wrap (c + c') = c + c' := by rw [IntKind.wrap_i64]; omega
        have hw2 : IntKind.i64.wrap (u + u') = u + u' := by rw [IntKind.wrap_i64]; omega
        have hw3 : IntKind.i64.wrap (sm + sm') = sm + sm' := by rw [IntKind.wrap_i64]; omega
        clear HOK SO1 SO2 AMT
        by_cases hc0 : c = u
        · have q3 : (c == u) = true := beq_iff_eq.2 hc0
          have AN := Lib.hid (show V = ⟨0, c + c', u + u', mn', mx', sm + sm', HH⟩ by rw [HVV.out, mrg_first AM.out (by unfold Sm.sp; simp only; omega)]; simp only; rw [EH.out])
          clear hu0 hu1 hu2 hs0 hs1 hv0 hv1 hv2 ht0 ht1
          clear hc0
          go_enter Try.func63, Try.ntmps63
          have K0 := (((Kept.start w).alloc7 (.int .i64 b) (.int .i64 c) (.int .i64 u) (.int .i64 mn) (.int .i64 mx) (.int .i64 sm) (.slice ao n cap) 77 _ rfl).alloc7 (.int .i64 b') (.int .i64 c') (.int .i64 u') (.int .i64 mn') (.int .i64 mx') (.int .i64 sm') (.slice bo m cap9) 77 (w.heap.size + 1) (by simp)).alloc7 (.int .i64 0) (.int .i64 0) (.int .i64 0) (.int .i64 0) (.int .i64 0) (.int .i64 0) (.slice none 0 0) 77 (w.heap.size + 1 + 1) (by simp)
          go_wp2_with fail
          refine (HAH.out _ (HV.out.below K0.1) (HV'.out.below K0.1)).mono ?_
          rintro e w1 ⟨v9, fp, rfl, hs, hnd, hf, hb⟩
          obtain ⟨aoh, ch, rfl, _, hVh⟩ := ints_open hs
          have K1 := K0.step hb
          have h2 := K0.lt 0 rfl
          simp only at h2
          have HFW := Lib.hid (show ∀ k ∈ fp, w.heap.size + 1 + 1 < k from fun k hk => by have h1 := hf k hk; omega)
          have HS1 := Lib.hid hs
          clear hb K0 hs hf h2
          have x0 := K1.get 14 rfl
          have x1 := K1.get 15 rfl
          have x2 := K1.get 16 rfl
          have x3 := K1.get 17 rfl
          have x4 := K1.get 18 rfl
          have x5 := K1.get 19 rfl
          have x6 := K1.get 20 rfl
          go_wp2_with fail
          refine (HI1.out _ (HV.out.below K1.1)).mono ?_
          rintro e w2 ⟨rfl, hb⟩
          have K2 := K1.step hb
          have HS2 := Lib.hid (HS1.out.step hb)
          have HBK2 := Lib.hid hb
          clear hb x0 x1 x2 x3 x4 x5 x6 K1
          have x0 := K2.get 7 rfl
          have x1 := K2.get 8 rfl
          have x2 := K2.get 9 rfl
          have x3 := K2.get 10 rfl
          have x4 := K2.get 11 rfl
          have x5 := K2.get 12 rfl
          have x6 := K2.get 13 rfl
          go_wp2_with fail
          refine (HI2.out _ (HV'.out.below K2.1)).mono ?_
          rintro e w3 ⟨rfl, hb⟩
          have K3 := K2.step hb
          have HS3 := Lib.hid (HS2.out.step hb)
          have HBK3 := Lib.hid hb
          clear hb x0 x1 x2 x3 x4 x5 x6 K2
          have K4 := K3.alloc7 (.int .i64 0) (.int .i64 (c + c')) (.int .i64 (u + u')) (.int .i64 mn) (.int .i64 mx) (.int .i64 (sm + sm')) (.slice aoh HH.length ch) 77 w3.heap.size rfl
          have HS4 := Lib.hid (HS3.out.step ((Below.refl w3.heap.size w3).alloc (Nat.le_refl _) (.cells #[.int .i64 0, .int .i64 (c + c'), .int .i64 (u + u'), .int .i64 mn, .int .i64 mx, .int .i64 (sm + sm'), .slice aoh HH.length ch] 77)))
          have hN2 := K3.lt 0 rfl
          simp only at hN2
          have HNE := Lib.hid (show ∀ k ∈ fp, k ≠ w3.heap.size from fun k hk e => by have := HS3.out.lt k hk; omega)
          have x0 := K3.get 7 rfl
          have y0 := K3.get 14 rfl
          have x1 := K3.get 8 rfl
          have y1 := K3.get 15 rfl
          have x2 := K3.get 9 rfl
          have y2 := K3.get 16 rfl
          have x3 := K3.get 10 rfl
          have y3 := K3.get 17 rfl
          have x4 := K3.get 11 rfl
          have y4 := K3.get 18 rfl
          have x5 := K3.get 12 rfl
          have y5 := K3.get 19 rfl
          have x6 := K3.get 13 rfl
          have y6 := K3.get 20 rfl
          go_upto_region 5 with fail
          obtain ⟨w4, hx9⟩ : ∃ xq, xq = w3.alloc (.cells #[.int .i64 0, .int .i64 (c + c'), .int .i64 (u + u'), .int .i64 mn, .int .i64 mx, .int .i64 (sm + sm'), .slice aoh HH.length ch] 77) := ⟨_, rfl⟩
          rw [← hx9] at K4 HS4 ⊢
          obtain ⟨nb, hnb⟩ : ∃ xq, xq = w3.heap.size := ⟨_, rfl⟩
          rw [← hnb] at K4 HNE hN2 ⊢
          clear hx9 hnb x0 x1 x2 x3 x4 x5 x6 y0 y1 y2 y3 y4 y5 y6 K3
          have z14 := K4.get 14 rfl
          have z15 := K4.get 15 rfl
          have z16 := K4.get 16 rfl
          have z17 := K4.get 17 rfl
          have z18 := K4.get 18 rfl
          have z19 := K4.get 19 rfl
          have z20 := K4.get 20 rfl
          have z21 := K4.get 21 rfl
          have z22 := K4.get 22 rfl
          have z23 := K4.get 23 rfl
          have z24 := K4.get 24 rfl
          have z25 := K4.get 25 rfl
          have z26 := K4.get 26 rfl
          have z27 := K4.get 27 rfl
          have x9 := K4.get 3 rfl
          have y9 := K4.fz 3 rfl
          have KT1 : Kept w (w4.setCell ⟨nb, 3, none⟩ (.int .i64 (mn'))) [(⟨nb, 0, none⟩, .int .i64 0), (⟨nb, 1, none⟩, .int .i64 ((c + c'))), (⟨nb, 2, none⟩, .int .i64 ((u + u'))), (⟨nb, 3, none⟩, .int .i64 mn'), (⟨nb, 4, none⟩, .int .i64 mx), (⟨nb, 5, none⟩, .int .i64 ((sm + sm'))), (⟨nb, 6, none⟩, .slice aoh HH.length ch), (⟨w.heap.size + 1 + 1, 0, none⟩, .int .i64 0), (⟨w.heap.size + 1 + 1, 1, none⟩, .int .i64 0), (⟨w.heap.size + 1 + 1, 2, none⟩, .int .i64 0), (⟨w.heap.size + 1 + 1, 3, none⟩, .int .i64 0), (⟨w.heap.size + 1 + 1, 4, none⟩, .int .i64 0), (⟨w.heap.size + 1 + 1, 5, none⟩, .int .i64 0), (⟨w.heap.size + 1 + 1, 6, none⟩, .slice none 0 0), (⟨w.heap.size + 1, 0, none⟩, .int .i64 b'), (⟨w.heap.size + 1, 1, none⟩, .int .i64 c'), (⟨w.heap.size + 1, 2, none⟩, .int .i64 u'), (⟨w.heap.size + 1, 3, none⟩, .int .i64 mn'), (⟨w.heap.size + 1, 4, none⟩, .int .i64 mx'), (⟨w.heap.size + 1, 5, none⟩, .int .i64 sm'), (⟨w.heap.size + 1, 6, none⟩, .slice bo m cap9), (⟨w.heap.size, 0, none⟩, .int .i64 b), (⟨w.heap.size, 1, none⟩, .int .i64 c), (⟨w.heap.size, 2, none⟩, .int .i64 u), (⟨w.heap.size, 3, none⟩, .int .i64 mn), (⟨w.heap.size, 4, none⟩, .int .i64 mx), (⟨w.heap.size, 5, none⟩, .int .i64 sm), (⟨w.heap.size, 6, none⟩, .slice ao n cap)] := Kept.set (p := [(⟨nb, 0, none⟩, .int .i64 0), (⟨nb, 1, none⟩, .int .i64 ((c + c'))), (⟨nb, 2, none⟩, .int .i64 ((u + u')))]) K4 (.int .i64 (mn')) (by simp only; omega) (by simp only [List.cons_append, List.nil_append, List.mem_cons, List.not_mem_nil, or_false]; rintro c9 (rfl | rfl | rfl | rfl | rfl | rfl | rfl | rfl | rfl | rfl | rfl | rfl | rfl | rfl | rfl | rfl | rfl | rfl | rfl | rfl | rfl | rfl | rfl | rfl | rfl | rfl | rfl) <;> (intro e9; simp only [Addr.mk.injEq] at e9; omega))
          go_upto_region 7 with fail
          obtain ⟨wt1, hx9⟩ : ∃ xq, xq = w4.setCell ⟨nb, 3, none⟩ (.int .i64 (mn')) := ⟨_, rfl⟩
          have HT1 := Lib.hid (HS4.out.set ⟨nb, 3, none⟩ (.int .i64 (mn')) HNE.out)
          rw [← hx9] at KT1 HT1 ⊢
          clear hx9 x9 y9 z14 z15 z16 z17 z18 z19 z20 z21 z22 z23 z24 z25 z26 z27 K4
          have z14 := KT1.get 14 rfl
          have z15 := KT1.get 15 rfl
          have z16 := KT1.get 16 rfl
          have z17 := KT1.get 17 rfl
          have z18 := KT1.get 18 rfl
          have z19 := KT1.get 19 rfl
          have z20 := KT1.get 20 rfl
          have z21 := KT1.get 21 rfl
          have z22 := KT1.get 22 rfl
          have z23 := KT1.get 23 rfl
          have z24 := KT1.get 24 rfl
          have z25 := KT1.get 25 rfl
          have z26 := KT1.get 26 rfl
          have z27 := KT1.get 27 rfl
          have x9 := KT1.get 4 rfl
          have y9 := KT1.fz 4 rfl
          have KT2 : Kept w (wt1.setCell ⟨nb, 4, none⟩ (.int .i64 (mx'))) [(⟨nb, 0, none⟩, .int .i64 0), (⟨nb, 1, none⟩, .int .i64 ((c + c'))), (⟨nb, 2, none⟩, .int .i64 ((u + u'))), (⟨nb, 3, none⟩, .int .i64 mn'), (⟨nb, 4, none⟩, .int .i64 mx'), (⟨nb, 5, none⟩, .int .i64 ((sm + sm'))), (⟨nb, 6, none⟩, .slice aoh HH.length ch), (⟨w.heap.size + 1 + 1, 0, none⟩, .int .i64 0), (⟨w.heap.size + 1 + 1, 1, none⟩, .int .i64 0), (⟨w.heap.size + 1 + 1, 2, none⟩, .int .i64 0), (⟨w.heap.size + 1 + 1, 3, none⟩, .int .i64 0), (⟨w.heap.size + 1 + 1, 4, none⟩, .int .i64 0), (⟨w.heap.size + 1 + 1, 5, none⟩, .int .i64 0), (⟨w.heap.size + 1 + 1, 6, none⟩, .slice none 0 0), (⟨w.heap.size + 1, 0, none⟩, .int .i64 b'), (⟨w.heap.size + 1, 1, none⟩, .int .i64 c'), (⟨w.heap.size + 1, 2, none⟩, .int .i64 u'), (⟨w.heap.size + 1, 3, none⟩, .int .i64 mn'), (⟨w.heap.size + 1, 4, none⟩, .int .i64 mx'), (⟨w.heap.size + 1, 5, none⟩, .int .i64 sm'), (⟨w.heap.size + 1, 6, none⟩, .slice bo m cap9), (⟨w.heap.size, 0, none⟩, .int .i64 b), (⟨w.heap.size, 1, none⟩, .int .i64 c), (⟨w.heap.size, 2, none⟩, .int .i64 u), (⟨w.heap.size, 3, none⟩, .int .i64 mn), (⟨w.heap.size, 4, none⟩, .int .i64 mx), (⟨w.heap.size, 5, none⟩, .int .i64 sm), (⟨w.heap.size, 6, none⟩, .slice ao n cap)] := Kept.set (p := [(⟨nb, 0, none⟩, .int .i64 0), (⟨nb, 1, none⟩, .int .i64 ((c + c'))), (⟨nb, 2, none⟩, .int .i64 ((u + u'))), (⟨nb, 3, none⟩, .int .i64 mn')]) KT1 (.int .i64 (mx')) (by simp only; omega) (by simp only [List.cons_append, List.nil_append, List.mem_cons, List.not_mem_nil, or_false]; rintro c9 (rfl | rfl | rfl | rfl | rfl | rfl | rfl | rfl | rfl | rfl | rfl | rfl | rfl | rfl | rfl | rfl | rfl | rfl | rfl | rfl | rfl | rfl | rfl | rfl | rfl | rfl | rfl) <;> (intro e9; simp only [Addr.mk.injEq] at e9; omega))
          go_upto_region 11 with fail
          obtain ⟨wt2, hx9⟩ : ∃ xq, xq = wt1.setCell ⟨nb, 4, none⟩ (.int .i64 (mx')) := ⟨_, rfl⟩
          have HT2 := Lib.hid (HT1.out.set ⟨nb, 4, none⟩ (.int .i64 (mx')) HNE.out)
          rw [← hx9] at KT2 HT2 ⊢
          clear hx9 x9 y9 z14 z15 z16 z17 z18 z19 z20 z21 z22 z23 z24 z25 z26 z27 KT1
          have K7 := (KT2.sub (l' := [(⟨w.heap.size + 1 + 1, 0, none⟩, .int .i64 0), (⟨w.heap.size + 1 + 1, 1, none⟩, .int .i64 0), (⟨w.heap.size + 1 + 1, 2, none⟩, .int .i64 0), (⟨w.heap.size + 1 + 1, 3, none⟩, .int .i64 0), (⟨w.heap.size + 1 + 1, 4, none⟩, .int .i64 0), (⟨w.heap.size + 1 + 1, 5, none⟩, .int .i64 0), (⟨w.heap.size + 1 + 1, 6, none⟩, .slice none 0 0), (⟨nb, 0, none⟩, .int .i64 0), (⟨nb, 1, none⟩, .int .i64 ((c + c'))), (⟨nb, 2, none⟩, .int .i64 ((u + u'))), (⟨nb, 3, none⟩, .int .i64 mn'), (⟨nb, 4, none⟩, .int .i64 mx'), (⟨nb, 5, none⟩, .int .i64 ((sm + sm'))), (⟨nb, 6, none⟩, .slice aoh HH.length ch)]) (by intro p9 hp9; simp only [List.mem_cons, List.not_mem_nil, or_false] at hp9; rcases hp9 with rfl | rfl | rfl | rfl | rfl | rfl | rfl | rfl | rfl | rfl | rfl | rfl | rfl | rfl <;> simp)).setB7 (.int .i64 0) (.int .i64 (c + c')) (.int .i64 (u + u')) (.int .i64 mn') (.int .i64 mx') (.int .i64 (sm + sm')) (.slice aoh HH.length ch) (by omega) (by simp only [List.mem_cons, List.not_mem_nil, or_false]; rintro c9 (rfl | rfl | rfl | rfl | rfl | rfl | rfl) <;> (dsimp only; omega))
          have HK7 := Lib.hid K7.1
          have HS9 := Lib.hid (HT2.out.setB7 (w.heap.size + 1 + 1) (.int .i64 0) (.int .i64 (c + c')) (.int .i64 (u + u')) (.int .i64 mn') (.int .i64 mx') (.int .i64 (sm + sm')) (.slice aoh HH.length ch) (fun j hj => by have := HFW.out j hj; omega))
          have HF9 := Lib.hid (show ∀ j ∈ fp, w.heap.size ≤ j from fun j hj => by have := HFW.out j hj; omega)
          have k0 := KT2.get 7 rfl
          have f0 := KT2.fz 7 rfl
          have e0 := KT2.get 0 rfl
          have k1 := KT2.get 8 rfl
          have f1 := KT2.fz 8 rfl
          have e1 := KT2.get 1 rfl
          have k2 := KT2.get 9 rfl
          have f2 := KT2.fz 9 rfl
          have e2 := KT2.get 2 rfl
          have k3 := KT2.get 10 rfl
          have f3 := KT2.fz 10 rfl
          have e3 := KT2.get 3 rfl
          have k4 := KT2.get 11 rfl
          have f4 := KT2.fz 11 rfl
          have e4 := KT2.get 4 rfl
          have k5 := KT2.get 12 rfl
          have f5 := KT2.fz 12 rfl
          have e5 := KT2.get 5 rfl
          have k6 := KT2.get 13 rfl
          have f6 := KT2.fz 13 rfl
          have e6 := KT2.get 6 rfl
          have z := KT2.lt 7 rfl
          clear K7 KT2
          go_wp2
          exact bodyPost_ret (v := .tuple #[.agg #[.int .i64 0, .int .i64 (c + c'), .int .i64 (u + u'), .int .i64 mn', .int .i64 mx', .int .i64 (sm + sm'), .slice aoh HH.length ch], .bool true]) (by simp [results, Try.results63, go_sem, k0, k1, k2, k3, k4, k5, k6, z]) rfl ⟨_, fp, by rw [AN.out, AM.out], by rw [AN.out]; exact HS9.out, hnd, HF9.out, HK7.out⟩
        · have q3 : (c == u) = false := beq_eq_false_iff_ne.2 hc0
          by_cases hb0 : u' < c'
          · have q4 : decide (u' < c') = true := decide_eq_true hb0
            have AN := Lib.hid (show V = ⟨0, c + c', u + u', min mn mn', max mx mx', sm + sm', HH⟩ by rw [HVV.out, mrg_both AM.out (by unfold Sm.sp; simp only; omega) (by unfold Sm.sp; simp only; omega)]; simp only; rw [EH.out])
            clear hu0 hu1 hu2 hs0 hs1 hv0 hv1 hv2 ht0 ht1
            clear hc0
            go_enter Try.func63, Try.ntmps63
            have K0 := (((Kept.start w).alloc7 (.int .i64 b) (.int .i64 c) (.int .i64 u) (.int .i64 mn) (.int .i64 mx) (.int .i64 sm) (.slice ao n cap) 77 _ rfl).alloc7 (.int .i64 b') (.int .i64 c') (.int .i64 u') (.int .i64 mn') (.int .i64 mx') (.int .i64 sm') (.slice bo m cap9) 77 (w.heap.size + 1) (by simp)).alloc7 (.int .i64 0) (.int .i64 0) (.int .i64 0) (.int .i64 0) (.int .i64 0) (.int .i64 0) (.slice none 0 0) 77 (w.heap.size + 1 + 1) (by simp)
            go_wp2_with fail
            refine (HAH.out _ (HV.out.below K0.1) (HV'.out.below K0.1)).mono ?_
            rintro e w1 ⟨v9, fp, rfl, hs, hnd, hf, hb⟩
            obtain ⟨aoh, ch, rfl, _, hVh⟩ := ints_open hs
            have K1 := K0.step hb
            have h2 := K0.lt 0 rfl
            simp only at h2
            have HFW := Lib.hid (show ∀ k ∈ fp, w.heap.size + 1 + 1 < k from fun k hk => by have h1 := hf k hk; omega)
            have HS1 := Lib.hid hs
            clear hb K0 hs hf h2
            have x0 := K1.get 14 rfl
            have x1 := K1.get 15 rfl
            have x2 := K1.get 16 rfl
            have x3 := K1.get 17 rfl
            have x4 := K1.get 18 rfl
            have x5 := K1.get 19 rfl
            have x6 := K1.get 20 rfl
            go_wp2_with fail
            refine (HI1.out _ (HV.out.below K1.1)).mono ?_
            rintro e w2 ⟨rfl, hb⟩
            have K2 := K1.step hb
            have HS2 := Lib.hid (HS1.out.step hb)
            have HBK2 := Lib.hid hb
            clear hb x0 x1 x2 x3 x4 x5 x6 K1
            have x0 := K2.get 7 rfl
            have x1 := K2.get 8 rfl
            have x2 := K2.get 9 rfl
            have x3 := K2.get 10 rfl
            have x4 := K2.get 11 rfl
            have x5 := K2.get 12 rfl
            have x6 := K2.get 13 rfl
            go_wp2_with fail
            refine (HI2.out _ (HV'.out.below K2.1)).mono ?_
            rintro e w3 ⟨rfl, hb⟩
            have K3 := K2.step hb
            have HS3 := Lib.hid (HS2.out.step hb)
            have HBK3 := Lib.hid hb
            clear hb x0 x1 x2 x3 x4 x5 x6 K2
            have K4 := K3.alloc7 (.int .i64 0) (.int .i64 (c + c')) (.int .i64 (u + u')) (.int .i64 mn) (.int .i64 mx) (.int .i64 (sm + sm')) (.slice aoh HH.length ch) 77 w3.heap.size rfl
            have HS4 := Lib.hid (HS3.out.step ((Below.refl w3.heap.size w3).alloc (Nat.le_refl _) (.cells #[.int .i64 0, .int .i64 (c + c'), .int .i64 (u + u'), .int .i64 mn, .int .i64 mx, .int .i64 (sm + sm'), .slice aoh HH.length ch] 77)))
            have hN2 := K3.lt 0 rfl
            simp only at hN2
            have HNE := Lib.hid (show ∀ k ∈ fp, k ≠ w3.heap.size from fun k hk e => by have := HS3.out.lt k hk; omega)
            have x0 := K3.get 7 rfl
            have y0 := K3.get 14 rfl
            have x1 := K3.get 8 rfl
            have y1 := K3.get 15 rfl
            have x2 := K3.get 9 rfl
            have y2 := K3.get 16 rfl
            have x3 := K3.get 10 rfl
            have y3 := K3.get 17 rfl
            have x4 := K3.get 11 rfl
            have y4 := K3.get 18 rfl
            have x5 := K3.get 12 rfl
            have y5 := K3.get 19 rfl
            have x6 := K3.get 13 rfl
            have y6 := K3.get 20 rfl
            go_upto_region 5 with fail
            obtain ⟨w4, hx9⟩ : ∃ xq, xq = w3.alloc (.cells #[.int .i64 0, .int .i64 (c + c'), .int .i64 (u + u'), .int .i64 mn, .int .i64 mx, .int .i64 (sm + sm'), .slice aoh HH.length ch] 77) := ⟨_, rfl⟩
            rw [← hx9] at K4 HS4 ⊢
            obtain ⟨nb, hnb⟩ : ∃ xq, xq = w3.heap.size := ⟨_, rfl⟩
            rw [← hnb] at K4 HNE hN2 ⊢
            clear hx9 hnb x0 x1 x2 x3 x4 x5 x6 y0 y1 y2 y3 y4 y5 y6 K3
            have z14 := K4.get 14 rfl
            have z15 := K4.get 15 rfl
            have z16 := K4.get 16 rfl
            have z17 := K4.get 17 rfl
            have z18 := K4.get 18 rfl
            have z19 := K4.get 19 rfl
            have z20 := K4.get 20 rfl
            have z21 := K4.get 21 rfl
            have z22 := K4.get 22 rfl
            have z23 := K4.get 23 rfl
            have z24 := K4.get 24 rfl
            have z25 := K4.get 25 rfl
            have z26 := K4.get 26 rfl
            have z27 := K4.get 27 rfl
            have x9 := K4.get 3 rfl
            have y9 := K4.fz 3 rfl
            have KT1 : Kept w (w4.setCell ⟨nb, 3, none⟩ (.int .i64 (min mn mn'))) [(⟨nb, 0, none⟩, .int .i64 0), (⟨nb, 1, none⟩, .int .i64 ((c + c'))), (⟨nb, 2, none⟩, .int .i64 ((u + u'))), (⟨nb, 3, none⟩, .int .i64 (min mn mn')), (⟨nb, 4, none⟩, .int .i64 mx), (⟨nb, 5, none⟩, .int .i64 ((sm + sm'))), (⟨nb, 6, none⟩, .slice aoh HH.length ch), (⟨w.heap.size + 1 + 1, 0, none⟩, .int .i64 0), (⟨w.heap.size + 1 + 1, 1, none⟩, .int .i64 0), (⟨w.heap.size + 1 + 1, 2, none⟩, .int .i64 0), (⟨w.heap.size + 1 + 1, 3, none⟩, .int .i64 0), (⟨w.heap.size + 1 + 1, 4, none⟩, .int .i64 0), (⟨w.heap.size + 1 + 1, 5, none⟩, .int .i64 0), (⟨w.heap.size + 1 + 1, 6, none⟩, .slice none 0 0), (⟨w.heap.size + 1, 0, none⟩, .int .i64 b'), (⟨w.heap.size + 1, 1, none⟩, .int .i64 c'), (⟨w.heap.size + 1, 2, none⟩, .int .i64 u'), (⟨w.heap.size + 1, 3, none⟩, .int .i64 mn'), (⟨w.heap.size + 1, 4, none⟩, .int .i64 mx'), (⟨w.heap.size + 1, 5, none⟩, .int .i64 sm'), (⟨w.heap.size + 1, 6, none⟩, .slice bo m cap9), (⟨w.heap.size, 0, none⟩, .int .i64 b), (⟨w.heap.size, 1, none⟩, .int .i64 c), (⟨w.heap.size, 2, none⟩, .int .i64 u), (⟨w.heap.size, 3, none⟩, .int .i64 mn), (⟨w.heap.size, 4, none⟩, .int .i64 mx), (⟨w.heap.size, 5, none⟩, .int .i64 sm), (⟨w.heap.size, 6, none⟩, .slice ao n cap)] := Kept.set (p := [(⟨nb, 0, none⟩, .int .i64 0), (⟨nb, 1, none⟩, .int .i64 ((c + c'))), (⟨nb, 2, none⟩, .int .i64 ((u + u')))]) K4 (.int .i64 (min mn mn')) (by simp only; omega) (by simp only [List.cons_append, List.nil_append, List.mem_cons, List.not_mem_nil, or_false]; rintro c9 (rfl | rfl | rfl | rfl | rfl | rfl | rfl | rfl | rfl | rfl | rfl | rfl | rfl | rfl | rfl | rfl | rfl | rfl | rfl | rfl | rfl | rfl | rfl | rfl | rfl | rfl | rfl) <;> (intro e9; simp only [Addr.mk.injEq] at e9; omega))
            go_upto_region 10 with fail
            obtain ⟨wt1, hx9⟩ : ∃ xq, xq = w4.setCell ⟨nb, 3, none⟩ (.int .i64 (min mn mn')) := ⟨_, rfl⟩
            have HT1 := Lib.hid (HS4.out.set ⟨nb, 3, none⟩ (.int .i64 (min mn mn')) HNE.out)
            rw [← hx9] at KT1 HT1 ⊢
            clear hx9 x9 y9 z14 z15 z16 z17 z18 z19 z20 z21 z22 z23 z24 z25 z26 z27 K4
            have z14 := KT1.get 14 rfl
            have z15 := KT1.get 15 rfl
            have z16 := KT1.get 16 rfl
            have z17 := KT1.get 17 rfl
            have z18 := KT1.get 18 rfl
            have z19 := KT1.get 19 rfl
            have z20 := KT1.get 20 rfl
            have z21 := KT1.get 21 rfl
            have z22 := KT1.get 22 rfl
            have z23 := KT1.get 23 rfl
            have z24 := KT1.get 24 rfl
            have z25 := KT1.get 25 rfl
            have z26 := KT1.get 26 rfl
            have z27 := KT1.get 27 rfl
            have x9 := KT1.get 4 rfl
            have y9 := KT1.fz 4 rfl
            have KT2 : Kept w (wt1.setCell ⟨nb, 4, none⟩ (.int .i64 (max mx mx'))) [(⟨nb, 0, none⟩, .int .i64 0), (⟨nb, 1, none⟩, .int .i64 ((c + c'))), (⟨nb, 2, none⟩, .int .i64 ((u + u'))), (⟨nb, 3, none⟩, .int .i64 (min mn mn')), (⟨nb, 4, none⟩, .int .i64 (max mx mx')), (⟨nb, 5, none⟩, .int .i64 ((sm + sm'))), (⟨nb, 6, none⟩, .slice aoh HH.length ch), (⟨w.heap.size + 1 + 1, 0, none⟩, .int .i64 0), (⟨w.heap.size + 1 + 1, 1, none⟩, .int .i64 0), (⟨w.heap.size + 1 + 1, 2, none⟩, .int .i64 0), (⟨w.heap.size + 1 + 1, 3, none⟩, .int .i64 0), (⟨w.heap.size + 1 + 1, 4, none⟩, .int .i64 0), (⟨w.heap.size + 1 + 1, 5, none⟩, .int .i64 0), (⟨w.heap.size + 1 + 1, 6, none⟩, .slice none 0 0), (⟨w.heap.size + 1, 0, none⟩, .int .i64 b'), (⟨w.heap.size + 1, 1, none⟩, .int .i64 c'), (⟨w.heap.size + 1, 2, none⟩, .int .i64 u'), (⟨w.heap.size + 1, 3, none⟩, .int .i64 mn'), (⟨w.heap.size + 1, 4, none⟩, .int .i64 mx'), (⟨w.heap.size + 1, 5, none⟩, .int .i64 sm'), (⟨w.heap.size + 1, 6, none⟩, .slice bo m cap9), (⟨w.heap.size, 0, none⟩, .int .i64 b), (⟨w.heap.size, 1, none⟩, .int .i64 c), (⟨w.heap.size, 2, none⟩, .int .i64 u), (⟨w.heap.size, 3, none⟩, .int .i64 mn), (⟨w.heap.size, 4, none⟩, .int .i64 mx), (⟨w.heap.size, 5, none⟩, .int .i64 sm), (⟨w.heap.size, 6, none⟩, .slice ao n cap)] := Kept.set (p := [(⟨nb, 0, none⟩, .int .i64 0), (⟨nb, 1, none⟩, .int .i64 ((c + c'))), (⟨nb, 2, none⟩, .int .i64 ((u + u'))), (⟨nb, 3, none⟩, .int .i64 (min mn mn'))]) KT1 (.int .i64 (max mx mx')) (by simp only; omega) (by simp only [List.cons_append, List.nil_append, List.mem_cons, List.not_mem_nil, or_false]; rintro c9 (rfl | rfl | rfl | rfl | rfl | rfl | rfl | rfl | rfl | rfl | rfl | rfl | rfl | rfl | rfl | rfl | rfl | rfl | rfl | rfl | rfl | rfl | rfl | rfl | rfl | rfl | rfl) <;> (intro e9; simp only [Addr.mk.injEq] at e9; omega))
            go_upto_region 11 with fail
            obtain ⟨wt2, hx9⟩ : ∃ xq, xq = wt1.setCell ⟨nb, 4, none⟩ (.int .i64 (max mx mx')) := ⟨_, rfl⟩
            have HT2 := Lib.hid (HT1.out.set ⟨nb, 4, none⟩ (.int .i64 (max mx mx')) HNE.out)
            rw [← hx9] at KT2 HT2 ⊢
            clear hx9 x9 y9 z14 z15 z16 z17 z18 z19 z20 z21 z22 z23 z24 z25 z26 z27 KT1
            have K7 := (KT2.sub (l' := [(⟨w.heap.size + 1 + 1, 0, none⟩, .int .i64 0), (⟨w.heap.size + 1 + 1, 1, none⟩, .int .i64 0), (⟨w.heap.size + 1 + 1, 2, none⟩, .int .i64 0), (⟨w.heap.size + 1 + 1, 3, none⟩, .int .i64 0), (⟨w.heap.size + 1 + 1, 4, none⟩, .int .i64 0), (⟨w.heap.size + 1 + 1, 5, none⟩, .int .i64 0), (⟨w.heap.size + 1 + 1, 6, none⟩, .slice none 0 0), (⟨nb, 0, none⟩, .int .i64 0), (⟨nb, 1, none⟩, .int .i64 ((c + c'))), (⟨nb, 2, none⟩, .int .i64 ((u + u'))), (⟨nb, 3, none⟩, .int .i64 ((min mn mn'))), (⟨nb, 4, none⟩, .int .i64 ((max mx mx'))), (⟨nb, 5, none⟩, .int .i64 ((sm + sm'))), (⟨nb, 6, none⟩, .slice aoh HH.length ch)]) (by intro p9 hp9; simp only [List.mem_cons, List.not_mem_nil, or_false] at hp9; rcases hp9 with rfl | rfl | rfl | rfl | rfl | rfl | rfl | rfl | rfl | rfl | rfl | rfl | rfl | rfl <;> simp)).setB7 (.int .i64 0) (.int .i64 (c + c')) (.int .i64 (u + u')) (.int .i64 (min mn mn')) (.int .i64 (max mx mx')) (.int .i64 (sm + sm')) (.slice aoh HH.length ch) (by omega) (by simp only [List.mem_cons, List.not_mem_nil, or_false]; rintro c9 (rfl | rfl | rfl | rfl | rfl | rfl | rfl) <;> (dsimp only; omega))
            have HK7 := Lib.hid K7.1
            have HS9 := Lib.hid (HT2.out.setB7 (w.heap.size + 1 + 1) (.int .i64 0) (.int .i64 (c + c')) (.int .i64 (u + u')) (.int .i64 (min mn mn')) (.int .i64 (max mx mx')) (.int .i64 (sm + sm')) (.slice aoh HH.length ch) (fun j hj => by have := HFW.out j hj; omega))
            have HF9 := Lib.hid (show ∀ j ∈ fp, w.heap.size ≤ j from fun j hj => by have := HFW.out j hj; omega)
            have k0 := KT2.get 7 rfl
            have f0 := KT2.fz 7 rfl
            have e0 := KT2.get 0 rfl
            have k1 := KT2.get 8 rfl
            have f1 := KT2.fz 8 rfl
            have e1 := KT2.get 1 rfl
            have k2 := KT2.get 9 rfl
            have f2 := KT2.fz 9 rfl
            have e2 := KT2.get 2 rfl
            have k3 := KT2.get 10 rfl
            have f3 := KT2.fz 10 rfl
            have e3 := KT2.get 3 rfl
            have k4 := KT2.get 11 rfl
            have f4 := KT2.fz 11 rfl
            have e4 := KT2.get 4 rfl
            have k5 := KT2.get 12 rfl
            have f5 := KT2.fz 12 rfl
            have e5 := KT2.get 5 rfl
            have k6 := KT2.get 13 rfl
            have f6 := KT2.fz 13 rfl
            have e6 := KT2.get 6 rfl
            have z := KT2.lt 7 rfl
            clear K7 KT2
            go_wp2
            exact bodyPost_ret (v := .tuple #[.agg #[.int .i64 0, .int .i64 (c + c'), .int .i64 (u + u'), .int .i64 (min mn mn'), .int .i64 (max mx mx'), .int .i64 (sm + sm'), .slice aoh HH.length ch], .bool true]) (by simp [results, Try.results63, go_sem, k0, k1, k2, k3, k4, k5, k6, z]) rfl ⟨_, fp, by rw [AN.out, AM.out], by rw [AN.out]; exact HS9.out, hnd, HF9.out, HK7.out⟩
          · have q4 : decide (u' < c') = false := decide_eq_false hb0
            have AN := Lib.hid (show V = ⟨0, c + c', u + u', mn, mx, sm + sm', HH⟩ by rw [HVV.out, mrg_second AM.out (by unfold Sm.sp; simp only; omega) (by unfold Sm.sp; simp only; omega)]; simp only; rw [EH.out])
            clear hu0 hu1 hu2 hs0 hs1 hv0 hv1 hv2 ht0 ht1
            clear hc0 hb0
            go_enter Try.func63, Try.ntmps63
            have K0 := (((Kept.start w).alloc7 (.int .i64 b) (.int .i64 c) (.int .i64 u) (.int .i64 mn) (.int .i64 mx) (.int .i64 sm) (.slice ao n cap) 77 _ rfl).alloc7 (.int .i64 b') (.int .i64 c') (.int .i64 u') (.int .i64 mn') (.int .i64 mx') (.int .i64 sm') (.slice bo m cap9) 77 (w.heap.size + 1) (by simp)).alloc7 (.int .i64 0) (.int .i64 0) (.int .i64 0) (.int .i64 0) (.int .i64 0) (.int .i64 0) (.slice none 0 0) 77 (w.heap.size + 1 + 1) (by simp)
            go_wp2_with fail
            refine (HAH.out _ (HV.out.below K0.1) (HV'.out.below K0.1)).mono ?_
            rintro e w1 ⟨v9, fp, rfl, hs, hnd, hf, hb⟩
            obtain ⟨aoh, ch, rfl, _, hVh⟩ := ints_open hs
            have K1 := K0.step hb
            have h2 := K0.lt 0 rfl
            simp only at h2
            have HFW := Lib.hid (show ∀ k ∈ fp, w.heap.size + 1 + 1 < k from fun k hk => by have h1 := hf k hk; omega)
            have HS1 := Lib.hid hs
            clear hb K0 hs hf h2
            have x0 := K1.get 14 rfl
            have x1 := K1.get 15 rfl
            have x2 := K1.get 16 rfl
            have x3 := K1.get 17 rfl
            have x4 := K1.get 18 rfl
            have x5 := K1.get 19 rfl
            have x6 := K1.get 20 rfl
            go_wp2_with fail
            refine (HI1.out _ (HV.out.below K1.1)).mono ?_
            rintro e w2 ⟨rfl, hb⟩
            have K2 := K1.step hb
            have HS2 := Lib.hid (HS1.out.step hb)
            have HBK2 := Lib.hid hb
            clear hb x0 x1 x2 x3 x4 x5 x6 K1
            have x0 := K2.get 7 rfl
            have x1 := K2.get 8 rfl
            have x2 := K2.get 9 rfl
            have x3 := K2.get 10 rfl
            have x4 := K2.get 11 rfl
            have x5 := K2.get 12 rfl
            have x6 := K2.get 13 rfl
            go_wp2_with fail
            refine (HI2.out _ (HV'.out.below K2.1)).mono ?_
            rintro e w3 ⟨rfl, hb⟩
            have K3 := K2.step hb
            have HS3 := Lib.hid (HS2.out.step hb)
            have HBK3 := Lib.hid hb
            clear hb x0 x1 x2 x3 x4 x5 x6 K2
            have K4 := K3.alloc7 (.int .i64 0) (.int .i64 (c + c')) (.int .i64 (u + u')) (.int .i64 mn) (.int .i64 mx) (.int .i64 (sm + sm')) (.slice aoh HH.length ch) 77 w3.heap.size rfl
            have HS4 := Lib.hid (HS3.out.step ((Below.refl w3.heap.size w3).alloc (Nat.le_refl _) (.cells #[.int .i64 0, .int .i64 (c + c'), .int .i64 (u + u'), .int .i64 mn, .int .i64 mx, .int .i64 (sm + sm'), .slice aoh HH.length ch] 77)))
            have hN2 := K3.lt 0 rfl
            simp only at hN2
            have HNE := Lib.hid (show ∀ k ∈ fp, k ≠ w3.heap.size from fun k hk e => by have := HS3.out.lt k hk; omega)
            have x0 := K3.get 7 rfl
            have y0 := K3.get 14 rfl
            have x1 := K3.get 8 rfl
            have y1 := K3.get 15 rfl
            have x2 := K3.get 9 rfl
            have y2 := K3.get 16 rfl
            have x3 := K3.get 10 rfl
            have y3 := K3.get 17 rfl
            have x4 := K3.get 11 rfl
            have y4 := K3.get 18 rfl
            have x5 := K3.get 12 rfl
            have y5 := K3.get 19 rfl
            have x6 := K3.get 13 rfl
            have y6 := K3.get 20 rfl
            go_upto_region 5 with fail
            obtain ⟨w4, hx9⟩ : ∃ xq, xq = w3.alloc (.cells #[.int .i64 0, .int .i64 (c + c'), .int .i64 (u + u'), .int .i64 mn, .int .i64 mx, .int .i64 (sm + sm'), .slice aoh HH.length ch] 77) := ⟨_, rfl⟩
            rw [← hx9] at K4 HS4 ⊢
            obtain ⟨nb, hnb⟩ : ∃ xq, xq = w3.heap.size := ⟨_, rfl⟩
            rw [← hnb] at K4 HNE hN2 ⊢
            clear hx9 hnb x0 x1 x2 x3 x4 x5 x6 y0 y1 y2 y3 y4 y5 y6 K3
            have z14 := K4.get 14 rfl
            have z15 := K4.get 15 rfl
            have z16 := K4.get 16 rfl
            have z17 := K4.get 17 rfl
            have z18 := K4.get 18 rfl
            have z19 := K4.get 19 rfl
            have z20 := K4.get 20 rfl
            have z21 := K4.get 21 rfl
            have z22 := K4.get 22 rfl
            have z23 := K4.get 23 rfl
            have z24 := K4.get 24 rfl
            have z25 := K4.get 25 rfl
            have z26 := K4.get 26 rfl
            have z27 := K4.get 27 rfl
            go_upto_region 11 with fail
            clear z14 z15 z16 z17 z18 z19 z20 z21 z22 z23 z24 z25 z26 z27
            have K7 := (K4.sub (l' := [(⟨w.heap.size + 1 + 1, 0, none⟩, .int .i64 0), (⟨w.heap.size + 1 + 1, 1, none⟩, .int .i64 0), (⟨w.heap.size + 1 + 1, 2, none⟩, .int .i64 0), (⟨w.heap.size + 1 + 1, 3, none⟩, .int .i64 0), (⟨w.heap.size + 1 + 1, 4, none⟩, .int .i64 0), (⟨w.heap.size + 1 + 1, 5, none⟩, .int .i64 0), (⟨w.heap.size + 1 + 1, 6, none⟩, .slice none 0 0), (⟨nb, 0, none⟩, .int .i64 0), (⟨nb, 1, none⟩, .int .i64 ((c + c'))), (⟨nb, 2, none⟩, .int .i64 ((u + u'))), (⟨nb, 3, none⟩, .int .i64 mn), (⟨nb, 4, none⟩, .int .i64 mx), (⟨nb, 5, none⟩, .int .i64 ((sm + sm'))), (⟨nb, 6, none⟩, .slice aoh HH.length ch)]) (by intro p9 hp9; simp only [List.mem_cons, List.not_mem_nil, or_false] at hp9; rcases hp9 with rfl | rfl | rfl | rfl | rfl | rfl | rfl | rfl | rfl | rfl | rfl | rfl | rfl | rfl <;> simp)).setB7 (.int .i64 0) (.int .i64 (c + c')) (.int .i64 (u + u')) (.int .i64 mn) (.int .i64 mx) (.int .i64 (sm + sm')) (.slice aoh HH.length ch) (by omega) (by simp only [List.mem_cons, List.not_mem_nil, or_false]; rintro c9 (rfl | rfl | rfl | rfl | rfl | rfl | rfl) <;> (dsimp only; omega))
            have HK7 := Lib.hid K7.1
            have HS9 := Lib.hid (HS4.out.setB7 (w.heap.size + 1 + 1) (.int .i64 0) (.int .i64 (c + c')) (.int .i64 (u + u')) (.int .i64 mn) (.int .i64 mx) (.int .i64 (sm + sm')) (.slice aoh HH.length ch) (fun j hj => by have := HFW.out j hj; omega))
            have HF9 := Lib.hid (show ∀ j ∈ fp, w.heap.size ≤ j from fun j hj => by have := HFW.out j hj; omega)
            have k0 := K4.get 7 rfl
            have f0 := K4.fz 7 rfl
            have e0 := K4.get 0 rfl
            have k1 := K4.get 8 rfl
            have f1 := K4.fz 8 rfl
            have e1 := K4.get 1 rfl
            have k2 := K4.get 9 rfl
            have f2 := K4.fz 9 rfl
            have e2 := K4.get 2 rfl
            have k3 := K4.get 10 rfl
            have f3 := K4.fz 10 rfl
            have e3 := K4.get 3 rfl
            have k4 := K4.get 11 rfl
            have f4 := K4.fz 11 rfl
            have e4 := K4.get 4 rfl
            have k5 := K4.get 12 rfl
            have f5 := K4.fz 12 rfl
            have e5 := K4.get 5 rfl
            have k6 := K4.get 13 rfl
            have f6 := K4.fz 13 rfl
            have e6 := K4.get 6 rfl
            have z := K4.lt 7 rfl
            clear K7 K4
            go_wp2
            exact bodyPost_ret (v := .tuple #[.agg #[.int .i64 0, .int .i64 (c + c'), .int .i64 (u + u'), .int .i64 mn, .int .i64 mx, .int .i64 (sm + sm'), .slice aoh HH.length ch], .bool true]) (by simp [results, Try.results63, go_sem, k0, k1, k2, k3, k4, k5, k6, z]) rfl ⟨_, fp, by rw [AN.out, AM.out], by rw [AN.out]; exact HS9.out, hnd, HF9.out, HK7.out⟩
end Go.Proofs.Ytcfcohnkkgickaa
