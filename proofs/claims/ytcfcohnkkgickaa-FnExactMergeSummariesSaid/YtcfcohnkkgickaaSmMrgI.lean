/-
  The walk over the project's MergeSummaries.
-/
import Derived.Test.YtcfcohnkkgickaaRows
import Derived.Test.YtcfcohnkkgickaaKeep
import Derived.Test.YtcfcohnkkgickaaSmMrgS
import Derived.Test.YtcfcohnkkgickaaSmImpl
import Derived.Test.YtcfcohnkkgickaaSmFold
import Derived.Test.YtcfcohnkkgickaaHgAddI
namespace Go.Proofs.Ytcfcohnkkgickaa
open Go.RowKit Num

def mrI0 : Oper := { dst := some 29, op := Go.Op.move (Go.Operand.tmp 6), type := 45, pos := "l09_summary.go:92", after := #[], guard := none }
def mrI1 : Oper := { dst := some 30, op := Go.Op.load 77 (Go.Operand.tmp 2), type := 77, pos := "l09_summary.go:92", after := #[], guard := none }
def mrI2 : Oper := { dst := some 31, op := Go.Op.call { callee := Go.Callee.value (Go.Operand.func 119), args := #[Go.Operand.tmp 30], argTypes := #[77] }, type := 142, pos := "l09_summary.go:92", after := #[{ on := 1, ground := Go.Ground.data }], guard := none }
def mrI3 : Oper := { dst := some 32, op := Go.Op.load 77 (Go.Operand.tmp 3), type := 77, pos := "l09_summary.go:92", after := #[], guard := none }
def mrI4 : Oper := { dst := some 33, op := Go.Op.call { callee := Go.Callee.value (Go.Operand.func 119), args := #[Go.Operand.tmp 32], argTypes := #[77] }, type := 142, pos := "l09_summary.go:92", after := #[{ on := 3, ground := Go.Ground.data }, { on := 2, ground := Go.Ground.chain }], guard := none }
def mrI5 : Oper := { dst := some 34, op := Go.Op.call { callee := Go.Callee.value (Go.Operand.func 121), args := #[Go.Operand.tmp 31, Go.Operand.tmp 33], argTypes := #[142, 142] }, type := 142, pos := "l09_summary.go:92", after := #[{ on := 2, ground := Go.Ground.data }, { on := 4, ground := Go.Ground.data }, { on := 4, ground := Go.Ground.chain }], guard := none }
def mrI6 : Oper := { dst := some 35, op := Go.Op.call { callee := Go.Callee.value (Go.Operand.func 111), args := #[Go.Operand.const (Go.Value.int Go.IntKind.i64 0), Go.Operand.tmp 29, Go.Operand.tmp 34], argTypes := #[3, 45, 142] }, type := 77, pos := "l09_summary.go:92", after := #[{ on := 0, ground := Go.Ground.data }, { on := 5, ground := Go.Ground.data }, { on := 5, ground := Go.Ground.chain }], guard := none }
def mrI7 : Oper := { dst := none, op := Go.Op.store 77 (Go.Operand.tmp 4) (Go.Operand.tmp 35), type := 0, pos := "l09_summary.go:92", after := #[{ on := 6, ground := Go.Ground.data }, { on := 6, ground := Go.Ground.chain }, { on := 0, ground := Go.Ground.phase }, { on := 1, ground := Go.Ground.phase }, { on := 2, ground := Go.Ground.phase }, { on := 3, ground := Go.Ground.phase }, { on := 4, ground := Go.Ground.phase }, { on := 5, ground := Go.Ground.phase }, { on := 6, ground := Go.Ground.phase }], guard := none }
def mrI8 : Oper := { dst := some 5, op := Go.Op.assign (Go.Operand.const (Go.Value.bool true)), type := 4, pos := "l09_summary.go:92", after := #[{ on := 7, ground := Go.Ground.chain }, { on := 0, ground := Go.Ground.phase }, { on := 1, ground := Go.Ground.phase }, { on := 2, ground := Go.Ground.phase }, { on := 3, ground := Go.Ground.phase }, { on := 4, ground := Go.Ground.phase }, { on := 5, ground := Go.Ground.phase }, { on := 6, ground := Go.Ground.phase }, { on := 7, ground := Go.Ground.phase }], guard := none }
set_option maxRecDepth 8000 in
set_option maxHeartbeats 6400000 in
theorem impl_mrg (b c u mn mx sm : Int) (ao : Option Addr) (n cap : Nat) (l : List Int) (b' c' u' mn' mx' sm' : Int) (bo : Option Addr) (m cap9 : Nat) (r : List Int) (w : World) (hl : l.length = n) (hr : r.length = m) (hn : n ≤ 1099511627776) (hm : m ≤ 1099511627776) (hV : IntsVal w ao l) (hV' : IntsVal w bo r) (V : Sm) (hVV : V = mrgS ⟨b, c, u, mn, mx, sm, l⟩ ⟨b', c', u', mn', mx', sm', r⟩) :
    Calls Try.prog 64 #[.agg #[.int .i64 b, .int .i64 c, .int .i64 u, .int .i64 mn, .int .i64 mx, .int .i64 sm, .slice ao n cap], .agg #[.int .i64 b', .int .i64 c', .int .i64 u', .int .i64 mn', .int .i64 mx', .int .i64 sm', .slice bo m cap9]] w (SmOk2 V.b V.c V.u V.mn V.mx V.sm V.h (mrgB ⟨b, c, u, mn, mx, sm, l⟩ ⟨b', c', u', mn', mx', sm', r⟩) w) := by
  have AH := fun w hV hV' => impl_addHV ao bo n m cap cap9 l r w hl hr hn hm hV hV'
  have I1 := fun w hV => impl_isS b c u mn mx sm ao n cap l w hl hn hV
  have I2 := fun w hV => impl_isS b' c' u' mn' mx' sm' bo m cap9 r w hr hm hV
  have HMB := Lib.hid (show mrgB ⟨b, c, u, mn, mx, sm, l⟩ ⟨b', c', u', mn', mx', sm', r⟩ = (addOkH l r && (smB ⟨b, c, u, mn, mx, sm, l⟩ && smB ⟨b', c', u', mn', mx', sm', r⟩)) from rfl)
  obtain ⟨q0, hq0⟩ : ∃ q, q = addOkH l r := ⟨_, rfl⟩
  obtain ⟨q1, hq1⟩ : ∃ q, q = smB ⟨b, c, u, mn, mx, sm, l⟩ := ⟨_, rfl⟩
  obtain ⟨q2, hq2⟩ : ∃ q, q = smB ⟨b', c', u', mn', mx', sm', r⟩ := ⟨_, rfl⟩
  obtain ⟨HH, hHH⟩ : ∃ H, H = addH l r := ⟨_, rfl⟩
  simp only [← hq0, ← hHH] at AH
  simp only [← hq1] at I1
  simp only [← hq2] at I2
  have HAH := Lib.hid AH
  have HI1 := Lib.hid I1
  have HI2 := Lib.hid I2
  have HV := Lib.hid hV
  have HV' := Lib.hid hV'
  have HQ0 := Lib.hid hq0
  have HQ1 := Lib.hid hq1
  have HQ2 := Lib.hid hq2
  have HHH := Lib.hid hHH
  have HVV := Lib.hid hVV
  clear AH I1 I2 hV hV' hq0 hq1 hq2 hHH hl hr hVV
  cases q0
  · skip
    have AM := Lib.hid (show mrgB ⟨b, c, u, mn, mx, sm, l⟩ ⟨b', c', u', mn', mx', sm', r⟩ = false by rw [HMB.out, ← HQ0.out, ← HQ1.out, ← HQ2.out]; rfl)
    have AN := Lib.hid (show V = ⟨0, 0, 0, 0, 0, 0, []⟩ from HVV.out.trans (mrgS_f AM.out))
    go_enter Try.func64, Try.ntmps64
    have K0 := (((Kept.start w).alloc7 (.int .i64 b) (.int .i64 c) (.int .i64 u) (.int .i64 mn) (.int .i64 mx) (.int .i64 sm) (.slice ao n cap) 77 _ rfl).alloc7 (.int .i64 b') (.int .i64 c') (.int .i64 u') (.int .i64 mn') (.int .i64 mx') (.int .i64 sm') (.slice bo m cap9) 77 (w.heap.size + 1) (by simp)).alloc7 (.int .i64 0) (.int .i64 0) (.int .i64 0) (.int .i64 0) (.int .i64 0) (.int .i64 0) (.slice none 0 0) 77 (w.heap.size + 1 + 1) (by simp)
    go_wp2_with fail
    refine (HAH.out _ (HV.out.below K0.1) (HV'.out.below K0.1)).mono ?_
    rintro e w1 ⟨v9, fp, rfl, hs, hnd, hf, hb⟩
    obtain ⟨aoh, ch, rfl, _, hVh⟩ := ints_open hs
    have K1 := K0.step hb
    have h2 := K0.lt 0 rfl
    simp only at h2
    have HFW := Lib.hid (show ∀ k ∈ fp, w.heap.size + 1 + 1 < k from fun k hk => by have h1 := hf k hk; omega)
    have HS1 := Lib.hid hs
    clear hb K0 hs hf h2
    have HK9 := Lib.hid (K1.setB7 (.int .i64 0) (.int .i64 0) (.int .i64 0) (.int .i64 0) (.int .i64 0) (.int .i64 0) (.slice none 0 0) (by omega) (by simp only [List.mem_cons, List.not_mem_nil, or_false]; rintro c9 (rfl | rfl | rfl | rfl | rfl | rfl | rfl | rfl | rfl | rfl | rfl | rfl | rfl | rfl) <;> (dsimp only; omega))).1
    have k0 := K1.get 0 rfl
    have f0 := K1.fz 0 rfl
    have k1 := K1.get 1 rfl
    have f1 := K1.fz 1 rfl
    have k2 := K1.get 2 rfl
    have f2 := K1.fz 2 rfl
    have k3 := K1.get 3 rfl
    have f3 := K1.fz 3 rfl
    have k4 := K1.get 4 rfl
    have f4 := K1.fz 4 rfl
    have k5 := K1.get 5 rfl
    have f5 := K1.fz 5 rfl
    have k6 := K1.get 6 rfl
    have f6 := K1.fz 6 rfl
    have z := K1.lt 0 rfl
    clear K1 HS1
    go_wp2
    exact bodyPost_ret (v := .tuple #[.agg #[.int .i64 0, .int .i64 0, .int .i64 0, .int .i64 0, .int .i64 0, .int .i64 0, .slice none 0 0], .bool false]) (by simp [results, Try.results64, go_sem, k0, k1, k2, k3, k4, k5, k6, z]) rfl ⟨_, [], by rw [AN.out, AM.out], by rw [AN.out]; exact nilI _, List.nodup_nil, (fun k hk => by cases hk), HK9.out⟩
  · cases q1
    · skip
      have AM := Lib.hid (show mrgB ⟨b, c, u, mn, mx, sm, l⟩ ⟨b', c', u', mn', mx', sm', r⟩ = false by rw [HMB.out, ← HQ0.out, ← HQ1.out, ← HQ2.out]; rfl)
      have AN := Lib.hid (show V = ⟨0, 0, 0, 0, 0, 0, []⟩ from HVV.out.trans (mrgS_f AM.out))
      go_enter Try.func64, Try.ntmps64
      have K0 := (((Kept.start w).alloc7 (.int .i64 b) (.int .i64 c) (.int .i64 u) (.int .i64 mn) (.int .i64 mx) (.int .i64 sm) (.slice ao n cap) 77 _ rfl).alloc7 (.int .i64 b') (.int .i64 c') (.int .i64 u') (.int .i64 mn') (.int .i64 mx') (.int .i64 sm') (.slice bo m cap9) 77 (w.heap.size + 1) (by simp)).alloc7 (.int .i64 0) (.int .i64 0) (.int .i64 0) (.int .i64 0) (.int .i64 0) (.int .i64 0) (.slice none 0 0) 77 (w.heap.size + 1 + 1) (by simp)
      go_wp2_with fail
      refine (HAH.out _ (HV.out.below K0.1) (HV'.out.below K0.1)).mono ?_
      rintro e w1 ⟨v9, fp, rfl, hs, hnd, hf, hb⟩
      obtain ⟨aoh, ch, rfl, _, hVh⟩ := ints_open hs
      have K1 := K0.step hb
      have h2 := K0.lt 0 rfl
      simp only at h2
      have HFW := Lib.hid (show ∀ k ∈ fp, w.heap.size + 1 + 1 < k from fun k hk => by have h1 := hf k hk; omega)
      have HS1 := Lib.hid hs
      clear hb K0 hs hf h2
      have x0 := K1.get 14 rfl
      have x1 := K1.get 15 rfl
      have x2 := K1.get 16 rfl
      have x3 := K1.get 17 rfl
      have x4 := K1.get 18 rfl
      have x5 := K1.get 19 rfl
      have x6 := K1.get 20 rfl
      go_wp2_with fail
      refine (HI1.out _ (HV.out.below K1.1)).mono ?_
      rintro e w2 ⟨rfl, hb⟩
      have K2 := K1.step hb
      have HS2 := Lib.hid (HS1.out.step hb)
      have HBK2 := Lib.hid hb
      clear hb x0 x1 x2 x3 x4 x5 x6 K1
      have HK9 := Lib.hid (K2.setB7 (.int .i64 0) (.int .i64 0) (.int .i64 0) (.int .i64 0) (.int .i64 0) (.int .i64 0) (.slice none 0 0) (by omega) (by simp only [List.mem_cons, List.not_mem_nil, or_false]; rintro c9 (rfl | rfl | rfl | rfl | rfl | rfl | rfl | rfl | rfl | rfl | rfl | rfl | rfl | rfl) <;> (dsimp only; omega))).1
      have k0 := K2.get 0 rfl
      have f0 := K2.fz 0 rfl
      have k1 := K2.get 1 rfl
      have f1 := K2.fz 1 rfl
      have k2 := K2.get 2 rfl
      have f2 := K2.fz 2 rfl
      have k3 := K2.get 3 rfl
      have f3 := K2.fz 3 rfl
      have k4 := K2.get 4 rfl
      have f4 := K2.fz 4 rfl
      have k5 := K2.get 5 rfl
      have f5 := K2.fz 5 rfl
      have k6 := K2.get 6 rfl
      have f6 := K2.fz 6 rfl
      have z := K2.lt 0 rfl
      clear K2 HS1
      go_wp2
      exact bodyPost_ret (v := .tuple #[.agg #[.int .i64 0, .int .i64 0, .int .i64 0, .int .i64 0, .int .i64 0, .int .i64 0, .slice none 0 0], .bool false]) (by simp [results, Try.results64, go_sem, k0, k1, k2, k3, k4, k5, k6, z]) rfl ⟨_, [], by rw [AN.out, AM.out], by rw [AN.out]; exact nilI _, List.nodup_nil, (fun k hk => by cases hk), HK9.out⟩
    · cases q2
      · skip
        have AM := Lib.hid (show mrgB ⟨b, c, u, mn, mx, sm, l⟩ ⟨b', c', u', mn', mx', sm', r⟩ = false by rw [HMB.out, ← HQ0.out, ← HQ1.out, ← HQ2.out]; rfl)
        have AN := Lib.hid (show V = ⟨0, 0, 0, 0, 0, 0, []⟩ from HVV.out.trans (mrgS_f AM.out))
        go_enter Try.func64, Try.ntmps64
        have K0 := (((Kept.start w).alloc7 (.int .i64 b) (.int .i64 c) (.int .i64 u) (.int .i64 mn) (.int .i64 mx) (.int .i64 sm) (.slice ao n cap) 77 _ rfl).alloc7 (.int .i64 b') (.int .i64 c') (.int .i64 u') (.int .i64 mn') (.int .i64 mx') (.int .i64 sm') (.slice bo m cap9) 77 (w.heap.size + 1) (by simp)).alloc7 (.int .i64 0) (.int .i64 0) (.int .i64 0) (.int .i64 0) (.int .i64 0) (.int .i64 0) (.slice none 0 0) 77 (w.heap.size + 1 + 1) (by simp)
        go_wp2_with fail
        refine (HAH.out _ (HV.out.below K0.1) (HV'.out.below K0.1)).mono ?_
        rintro e w1 ⟨v9, fp, rfl, hs, hnd, hf, hb⟩
        obtain ⟨aoh, ch, rfl, _, hVh⟩ := ints_open hs
        have K1 := K0.step hb
        have h2 := K0.lt 0 rfl
        simp only at h2
        have HFW := Lib.hid (show ∀ k ∈ fp, w.heap.size + 1 + 1 < k from fun k hk => by have h1 := hf k hk; omega)
        have HS1 := Lib.hid hs
        clear hb K0 hs hf h2
        have x0 := K1.get 14 rfl
        have x1 := K1.get 15 rfl
        have x2 := K1.get 16 rfl
        have x3 := K1.get 17 rfl
        have x4 := K1.get 18 rfl
        have x5 := K1.get 19 rfl
        have x6 := K1.get 20 rfl
        go_wp2_with fail
        refine (HI1.out _ (HV.out.below K1.1)).mono ?_
        rintro e w2 ⟨rfl, hb⟩
        have K2 := K1.step hb
        have HS2 := Lib.hid (HS1.out.step hb)
        have HBK2 := Lib.hid hb
        clear hb x0 x1 x2 x3 x4 x5 x6 K1
        have x0 := K2.get 7 rfl
        have x1 := K2.get 8 rfl
        have x2 := K2.get 9 rfl
        have x3 := K2.get 10 rfl
        have x4 := K2.get 11 rfl
        have x5 := K2.get 12 rfl
        have x6 := K2.get 13 rfl
        go_wp2_with fail
        refine (HI2.out _ (HV'.out.below K2.1)).mono ?_
        rintro e w3 ⟨rfl, hb⟩
        have K3 := K2.step hb
        have HS3 := Lib.hid (HS2.out.step hb)
        have HBK3 := Lib.hid hb
        clear hb x0 x1 x2 x3 x4 x5 x6 K2
        have HK9 := Lib.hid (K3.setB7 (.int .i64 0) (.int .i64 0) (.int .i64 0) (.int .i64 0) (.int .i64 0) (.int .i64 0) (.slice none 0 0) (by omega) (by simp only [List.mem_cons, List.not_mem_nil, or_false]; rintro c9 (rfl | rfl | rfl | rfl | rfl | rfl | rfl | rfl | rfl | rfl | rfl | rfl | rfl | rfl) <;> (dsimp only; omega))).1
        have k0 := K3.get 0 rfl
        have f0 := K3.fz 0 rfl
        have k1 := K3.get 1 rfl
        have f1 := K3.fz 1 rfl
        have k2 := K3.get 2 rfl
        have f2 := K3.fz 2 rfl
        have k3 := K3.get 3 rfl
        have f3 := K3.fz 3 rfl
        have k4 := K3.get 4 rfl
        have f4 := K3.fz 4 rfl
        have k5 := K3.get 5 rfl
        have f5 := K3.fz 5 rfl
        have k6 := K3.get 6 rfl
        have f6 := K3.fz 6 rfl
        have z := K3.lt 0 rfl
        clear K3 HS1
        go_wp2
        exact bodyPost_ret (v := .tuple #[.agg #[.int .i64 0, .int .i64 0, .int .i64 0, .int .i64 0, .int .i64 0, .int .i64 0, .slice none 0 0], .bool false]) (by simp [results, Try.results64, go_sem, k0, k1, k2, k3, k4, k5, k6, z]) rfl ⟨_, [], by rw [AN.out, AM.out], by rw [AN.out]; exact nilI _, List.nodup_nil, (fun k hk => by cases hk), HK9.out⟩
      · skip
        have AMT := show mrgB ⟨b, c, u, mn, mx, sm, l⟩ ⟨b', c', u', mn', mx', sm', r⟩ = true by rw [HMB.out, ← HQ0.out, ← HQ1.out, ← HQ2.out]; rfl
        have AM := Lib.hid AMT
        obtain ⟨HOK, SO1, SO2⟩ := mrgB_of AMT
        obtain ⟨⟨hu0, hu1, hu2⟩, hs0, hs1⟩ := SO1.bnd
        obtain ⟨⟨hv0, hv1, hv2⟩, ht0, ht1⟩ := SO2.bnd
        simp only at hu0 hu1 hu2 hs0 hs1 hv0 hv1 hv2 ht0 ht1
        have EH := Lib.hid (show addC l r = HH by rw [HHH.out]; exact (addH_t HQ0.out.symm).symm)
        have hcu : 0 ≤ c - u ∧ c - u ≤ 2000000 := by omega
        have hcu' : 0 ≤ c' - u' ∧ c' - u' ≤ 2000000 := by omega
        have P1 := Lib.hid (fun w v => impl_spOf b c u mn mx sm v w hu0 hu1 hu2)
        have P2 := Lib.hid (fun w v => impl_spOf b' c' u' mn' mx' sm' v w hv0 hv1 hv2)
        have PL := fun w => impl_spPlus (c - u) mn mx sm (c' - u') mn' mx' sm' w (by omega) (by omega) (by omega) (by omega)
        have hms := mrg_sumOf AMT
        rw [← HVV.out] at hms
        have hpc : 0 ≤ (Sp.plus ⟨c - u, mn, mx, sm⟩ ⟨c' - u', mn', mx', sm'⟩).c ∧ (Sp.plus ⟨c - u, mn, mx, sm⟩ ⟨c' - u', mn', mx', sm'⟩).c ≤ 2000000 := by
          unfold Sp.plus; simp only
          split
          · omega
          · split
            · omega
            · simp only; omega
        obtain ⟨⟨pc, pm, px, ps⟩, hP⟩ : ∃ z : Sp, z = Sp.plus ⟨c - u, mn, mx, sm⟩ ⟨c' - u', mn', mx', sm'⟩ := ⟨_, rfl⟩
        simp only [← hP] at PL
        rw [← hP] at hpc
        have hms2 : sumOf 0 HH ⟨pc, pm, px, ps⟩ = V := by rw [hP, ← EH.out]; exact hms
        obtain ⟨d1, hd1⟩ : ∃ d, d = c - u := ⟨_, rfl⟩
        obtain ⟨d2, hd2⟩ : ∃ d, d = c' - u' := ⟨_, rfl⟩
        rw [← hd1] at P1 PL
        rw [← hd2] at P2 PL
        have HPL : Hid (∀ w : World, Calls Try.prog 121 #[.agg #[.int .i64 d1, .int .i64 mn, .int .i64 mx, .int .i64 sm], .agg #[.int .i64 d2, .int .i64 mn', .int .i64 mx', .int .i64 sm']] w fun e w' => e = .returned (.agg #[.int .i64 pc, .int .i64 pm, .int .i64 px, .int .i64 ps]) ∧ Below w.heap.size w w') := (fun w => PL w : ∀ w : World, Calls Try.prog 121 #[.agg #[.int .i64 d1, .int .i64 mn, .int .i64 mx, .int .i64 sm], .agg #[.int .i64 d2, .int .i64 mn', .int .i64 mx', .int .i64 sm']] w fun e w' => e = .returned (.agg #[.int .i64 pc, .int .i64 pm, .int .i64 px, .int .i64 ps]) ∧ Below w.heap.size w w')
        obtain ⟨Vb, Vc, Vu, Vm, Vx, Vs, Vh⟩ := V
        have hvh : Vh = HH := by have h := congrArg Sm.h hms2; exact h.symm
        subst hvh
        have SO : Hid (∀ (ao : Option Addr) (cap : Nat) (w : World), IntsVal w ao Vh → Calls Try.prog 111 #[.int .i64 0, .slice ao Vh.length cap, .agg #[.int .i64 pc, .int .i64 pm, .int .i64 px, .int .i64 ps]] w fun e w' => e = .returned (.agg #[.int .i64 Vb, .int .i64 Vc, .int .i64 Vu, .int .i64 Vm, .int .i64 Vx, .int .i64 Vs, .slice ao Vh.length cap]) ∧ Below w.heap.size w w') := (fun ao cap w hV => by
          have h := impl_sumOf 0 ao Vh.length cap Vh pc pm px ps w rfl (by rw [← EH.out, HOK.1]; decide) hV (by rw [← EH.out]; exact HOK) hpc
          rw [hms2] at h
          exact h : ∀ (ao : Option Addr) (cap : Nat) (w : World), IntsVal w ao Vh → Calls Try.prog 111 #[.int .i64 0, .slice ao Vh.length cap, .agg #[.int .i64 pc, .int .i64 pm, .int .i64 px, .int .i64 ps]] w fun e w' => e = .returned (.agg #[.int .i64 Vb, .int .i64 Vc, .int .i64 Vu, .int .i64 Vm, .int .i64 Vx, .int .i64 Vs, .slice ao Vh.length cap]) ∧ Below w.heap.size w w')
        have AT := Lib.hid AMT
        clear PL hP hms hms2 hpc hd1 hd2 hcu hcu' hu0 hu1 hu2 hs0 hs1 hv0 hv1 hv2 ht0 ht1 HOK SO1 SO2 AMT
        go_enter Try.func64, Try.ntmps64
        have K0 := (((Kept.start w).alloc7 (.int .i64 b) (.int .i64 c) (.int .i64 u) (.int .i64 mn) (.int .i64 mx) (.int .i64 sm) (.slice ao n cap) 77 _ rfl).alloc7 (.int .i64 b') (.int .i64 c') (.int .i64 u') (.int .i64 mn') (.int .i64 mx') (.int .i64 sm') (.slice bo m cap9) 77 (w.heap.size + 1) (by simp)).alloc7 (.int .i64 0) (.int .i64 0) (.int .i64 0) (.int .i64 0) (.int .i64 0) (.int .i64 0) (.slice none 0 0) 77 (w.heap.size + 1 + 1) (by simp)
        go_wp2_with fail
        refine (HAH.out _ (HV.out.below K0.1) (HV'.out.below K0.1)).mono ?_
        rintro e w1 ⟨v9, fp, rfl, hs, hnd, hf, hb⟩
        obtain ⟨aoh, ch, rfl, _, hVh⟩ := ints_open hs
        have K1 := K0.step hb
        have h2 := K0.lt 0 rfl
        simp only at h2
        have HFW := Lib.hid (show ∀ k ∈ fp, w.heap.size + 1 + 1 < k from fun k hk => by have h1 := hf k hk; omega)
        have HS1 := Lib.hid hs
        clear hb K0 hs hf h2
        have x0 := K1.get 14 rfl
        have x1 := K1.get 15 rfl
        have x2 := K1.get 16 rfl
        have x3 := K1.get 17 rfl
        have x4 := K1.get 18 rfl
        have x5 := K1.get 19 rfl
        have x6 := K1.get 20 rfl
        go_wp2_with fail
        refine (HI1.out _ (HV.out.below K1.1)).mono ?_
        rintro e w2 ⟨rfl, hb⟩
        have K2 := K1.step hb
        have HS2 := Lib.hid (HS1.out.step hb)
        have HBK2 := Lib.hid hb
        clear hb x0 x1 x2 x3 x4 x5 x6 K1
        have x0 := K2.get 7 rfl
        have x1 := K2.get 8 rfl
        have x2 := K2.get 9 rfl
        have x3 := K2.get 10 rfl
        have x4 := K2.get 11 rfl
        have x5 := K2.get 12 rfl
        have x6 := K2.get 13 rfl
        go_wp2_with fail
        refine (HI2.out _ (HV'.out.below K2.1)).mono ?_
        rintro e w3 ⟨rfl, hb⟩
        have K3 := K2.step hb
        have HS3 := Lib.hid (HS2.out.step hb)
        have HBK3 := Lib.hid hb
        clear hb x0 x1 x2 x3 x4 x5 x6 K2
        have HVh := Lib.hid ((hVh.below HBK2.out).below HBK3.out)
        clear hVh
        go_upto_region 4 with fail
        have KDm := K3.drew
        refine wp_region_held_drew (S := fun w' => w'.cell? ⟨w.heap.size, 0, none⟩ = some (.int .i64 b) ∧ w'.cell? ⟨w.heap.size, 1, none⟩ = some (.int .i64 c) ∧ w'.cell? ⟨w.heap.size, 2, none⟩ = some (.int .i64 u) ∧ w'.cell? ⟨w.heap.size, 3, none⟩ = some (.int .i64 mn) ∧ w'.cell? ⟨w.heap.size, 4, none⟩ = some (.int .i64 mx) ∧ w'.cell? ⟨w.heap.size, 5, none⟩ = some (.int .i64 sm) ∧ w'.cell? ⟨w.heap.size, 6, none⟩ = some (.slice ao n cap) ∧ w'.cell? ⟨w.heap.size + 1, 0, none⟩ = some (.int .i64 b') ∧ w'.cell? ⟨w.heap.size + 1, 1, none⟩ = some (.int .i64 c') ∧ w'.cell? ⟨w.heap.size + 1, 2, none⟩ = some (.int .i64 u') ∧ w'.cell? ⟨w.heap.size + 1, 3, none⟩ = some (.int .i64 mn') ∧ w'.cell? ⟨w.heap.size + 1, 4, none⟩ = some (.int .i64 mx') ∧ w'.cell? ⟨w.heap.size + 1, 5, none⟩ = some (.int .i64 sm') ∧ w'.cell? ⟨w.heap.size + 1, 6, none⟩ = some (.slice bo m cap9)) (by kernel_rfl) (⟨KDm.get 14 rfl, KDm.get 15 rfl, KDm.get 16 rfl, KDm.get 17 rfl, KDm.get 18 rfl, KDm.get 19 rfl, KDm.get 20 rfl, KDm.get 7 rfl, KDm.get 8 rfl, KDm.get 9 rfl, KDm.get 10 rfl, KDm.get 11 rfl, KDm.get 12 rfl, KDm.get 13 rfl⟩) (fun hHeld => ?_)
        obtain ⟨wDm, hx9⟩ : ∃ x, x = w3.drew := ⟨_, rfl⟩
        have BDm := Lib.hid (show Below w3.heap.size w3 w3.drew from (Below.refl _ _).drew)
        rw [← hx9] at KDm hHeld BDm ⊢
        clear hx9
        refine wpAnyH_take (i := 0) (oi := mrI0) (v := .slice aoh Vh.length ch) rfl (by kernel_rfl) (by kernel_rfl) (by kernel_rfl) (fun _ _ _ h => h) (Or.inl ⟨by rfl, ?_⟩) (by assumption) ?_
        · intro w8 hS8
          (try dsimp only at hS8)
          dsimp only [mrI0]
          (first | (go_simp; done) | (go_simp; simp_all; done) | (simp_all [go_sem]; done))
        try simp only [Act.put, mrI0, List.setIfInBounds_toArray, List.set_cons_zero, List.set_cons_succ]
        refine wpAnyH_take (i := 1) (oi := mrI1) (v := .agg #[.int .i64 b, .int .i64 c, .int .i64 u, .int .i64 mn, .int .i64 mx, .int .i64 sm, .slice ao n cap]) rfl (by kernel_rfl) (by kernel_rfl) (by kernel_rfl) (fun _ _ _ h => h) (Or.inl ⟨by rfl, ?_⟩) (by assumption) ?_
        · intro w8 hS8
          (try dsimp only at hS8)
          dsimp only [mrI1]
          (first | (go_simp; done) | (go_simp; simp_all; done) | (simp_all [go_sem]; done))
        try simp only [Act.put, mrI1, List.setIfInBounds_toArray, List.set_cons_zero, List.set_cons_succ]
        refine wpAnyH_take (i := 3) (oi := mrI3) (v := .agg #[.int .i64 b', .int .i64 c', .int .i64 u', .int .i64 mn', .int .i64 mx', .int .i64 sm', .slice bo m cap9]) rfl (by kernel_rfl) (by kernel_rfl) (by kernel_rfl) (fun _ _ _ h => h) (Or.inl ⟨by rfl, ?_⟩) (by assumption) ?_
        · intro w8 hS8
          (try dsimp only at hS8)
          dsimp only [mrI3]
          (first | (go_simp; done) | (go_simp; simp_all; done) | (simp_all [go_sem]; done))
        try simp only [Act.put, mrI3, List.setIfInBounds_toArray, List.set_cons_zero, List.set_cons_succ]
        refine wpAnyH_ready (rs := [2]) (by kernel_rfl) (by simp) ?_
        refine AllReadyH.cons (o := mrI2) rfl (fun K hK => ?_) AllReadyH.nil
        dsimp only [mrI2]
        go_simp
        go_at_call 119
        (with_reducible refine (P1.out _ _).mono ?_)
        rintro e9 wcm1 ⟨rfl, hbm1⟩
        have KCm1 := KDm.step hbm1
        refine hK.out _ _ ?_ (fun hHm1 => ?_)
        · exact ⟨KCm1.get 14 rfl, KCm1.get 15 rfl, KCm1.get 16 rfl, KCm1.get 17 rfl, KCm1.get 18 rfl, KCm1.get 19 rfl, KCm1.get 20 rfl, KCm1.get 7 rfl, KCm1.get 8 rfl, KCm1.get 9 rfl, KCm1.get 10 rfl, KCm1.get 11 rfl, KCm1.get 12 rfl, KCm1.get 13 rfl⟩
        clear hK K
        try simp only [Act.put, mrI2, List.setIfInBounds_toArray, List.set_cons_zero, List.set_cons_succ]
        refine wpAnyH_ready (rs := [4]) (by kernel_rfl) (by simp) ?_
        refine AllReadyH.cons (o := mrI4) rfl (fun K hK => ?_) AllReadyH.nil
        dsimp only [mrI4]
        go_simp
        go_at_call 119
        (with_reducible refine (P2.out _ _).mono ?_)
        rintro e9 wcm2 ⟨rfl, hbm2⟩
        have KCm2 := KCm1.step hbm2
        refine hK.out _ _ ?_ (fun hHm2 => ?_)
        · exact ⟨KCm2.get 14 rfl, KCm2.get 15 rfl, KCm2.get 16 rfl, KCm2.get 17 rfl, KCm2.get 18 rfl, KCm2.get 19 rfl, KCm2.get 20 rfl, KCm2.get 7 rfl, KCm2.get 8 rfl, KCm2.get 9 rfl, KCm2.get 10 rfl, KCm2.get 11 rfl, KCm2.get 12 rfl, KCm2.get 13 rfl⟩
        clear hK K
        try simp only [Act.put, mrI4, List.setIfInBounds_toArray, List.set_cons_zero, List.set_cons_succ]
        refine wpAnyH_ready (rs := [5]) (by kernel_rfl) (by simp) ?_
        refine AllReadyH.cons (o := mrI5) rfl (fun K hK => ?_) AllReadyH.nil
        dsimp only [mrI5]
        go_simp
        go_at_call 121
        (with_reducible refine (HPL.out _).mono ?_)
        rintro e9 wcm3 ⟨rfl, hbm3⟩
        have KCm3 := KCm2.step hbm3
        refine hK.out _ _ ?_ (fun hHm3 => ?_)
        · exact ⟨KCm3.get 14 rfl, KCm3.get 15 rfl, KCm3.get 16 rfl, KCm3.get 17 rfl, KCm3.get 18 rfl, KCm3.get 19 rfl, KCm3.get 20 rfl, KCm3.get 7 rfl, KCm3.get 8 rfl, KCm3.get 9 rfl, KCm3.get 10 rfl, KCm3.get 11 rfl, KCm3.get 12 rfl, KCm3.get 13 rfl⟩
        clear hK K
        try simp only [Act.put, mrI5, List.setIfInBounds_toArray, List.set_cons_zero, List.set_cons_succ]
        refine wpAnyH_ready (rs := [6]) (by kernel_rfl) (by simp) ?_
        refine AllReadyH.cons (o := mrI6) rfl (fun K hK => ?_) AllReadyH.nil
        dsimp only [mrI6]
        go_simp
        go_at_call 111
        (with_reducible refine (SO.out aoh ch _ ((((HVh.out.below BDm.out).below hbm1).below hbm2).below hbm3)).mono ?_)
        rintro e9 wcm4 ⟨rfl, hbm4⟩
        have KCm4 := KCm3.step hbm4
        refine hK.out _ _ ?_ (fun hHm4 => ?_)
        · exact ⟨KCm4.get 14 rfl, KCm4.get 15 rfl, KCm4.get 16 rfl, KCm4.get 17 rfl, KCm4.get 18 rfl, KCm4.get 19 rfl, KCm4.get 20 rfl, KCm4.get 7 rfl, KCm4.get 8 rfl, KCm4.get 9 rfl, KCm4.get 10 rfl, KCm4.get 11 rfl, KCm4.get 12 rfl, KCm4.get 13 rfl⟩
        clear hK K
        try simp only [Act.put, mrI6, List.setIfInBounds_toArray, List.set_cons_zero, List.set_cons_succ]
        refine wpAnyH_ready (rs := [7]) (by kernel_rfl) (by simp) ?_
        refine AllReadyH.cons (o := mrI7) rfl (fun K hK => ?_) AllReadyH.nil
        have k0 := KCm4.get 0 rfl
        have f0 := KCm4.fz 0 rfl
        have k1 := KCm4.get 1 rfl
        have f1 := KCm4.fz 1 rfl
        have k2 := KCm4.get 2 rfl
        have f2 := KCm4.fz 2 rfl
        have k3 := KCm4.get 3 rfl
        have f3 := KCm4.fz 3 rfl
        have k4 := KCm4.get 4 rfl
        have f4 := KCm4.fz 4 rfl
        have k5 := KCm4.get 5 rfl
        have f5 := KCm4.fz 5 rfl
        have k6 := KCm4.get 6 rfl
        have f6 := KCm4.fz 6 rfl
        dsimp only [mrI7]
        go_simp
        have KCm5 := KCm4.setB7 (.int .i64 Vb) (.int .i64 Vc) (.int .i64 Vu) (.int .i64 Vm) (.int .i64 Vx) (.int .i64 Vs) (.slice aoh Vh.length ch) (by omega) (by simp only [List.mem_cons, List.not_mem_nil, or_false]; rintro c9 (rfl | rfl | rfl | rfl | rfl | rfl | rfl | rfl | rfl | rfl | rfl | rfl | rfl | rfl) <;> (dsimp only; omega))
        refine hK.out _ _ ?_ (fun hHm5 => ?_)
        · exact ⟨KCm5.get 14 rfl, KCm5.get 15 rfl, KCm5.get 16 rfl, KCm5.get 17 rfl, KCm5.get 18 rfl, KCm5.get 19 rfl, KCm5.get 20 rfl, KCm5.get 7 rfl, KCm5.get 8 rfl, KCm5.get 9 rfl, KCm5.get 10 rfl, KCm5.get 11 rfl, KCm5.get 12 rfl, KCm5.get 13 rfl⟩
        clear hK K
        try simp only [Act.put, mrI7, List.setIfInBounds_toArray, List.set_cons_zero, List.set_cons_succ]
        refine wpAnyH_take (i := 8) (oi := mrI8) (v := .bool true) rfl (by kernel_rfl) (by kernel_rfl) (by kernel_rfl) (fun _ _ _ h => h) (Or.inl ⟨by rfl, ?_⟩) (by assumption) ?_
        · intro w8 hS8
          (try dsimp only at hS8)
          dsimp only [mrI8]
          (first | (go_simp; done) | (go_simp; simp_all; done) | (simp_all [go_sem]; done))
        try simp only [Act.put, mrI8, List.setIfInBounds_toArray, List.set_cons_zero, List.set_cons_succ]
        refine wpAnyH_done (by kernel_rfl) ?_ _
        have HS9 := Lib.hid ((((((HS3.out.step BDm.out).step hbm1).step hbm2).step hbm3).step hbm4).setB7 (w.heap.size + 1 + 1) (.int .i64 Vb) (.int .i64 Vc) (.int .i64 Vu) (.int .i64 Vm) (.int .i64 Vx) (.int .i64 Vs) (.slice aoh Vh.length ch) (fun j hj => by have := HFW.out j hj; omega))
        have HF9 := Lib.hid (show ∀ j ∈ fp, w.heap.size ≤ j from fun j hj => by have := HFW.out j hj; omega)
        have HK9 := Lib.hid KCm5.1
        have z := KCm5.lt 0 rfl
        have e0 := KCm5.get 0 rfl
        have e1 := KCm5.get 1 rfl
        have e2 := KCm5.get 2 rfl
        have e3 := KCm5.get 3 rfl
        have e4 := KCm5.get 4 rfl
        have e5 := KCm5.get 5 rfl
        have e6 := KCm5.get 6 rfl
        clear k0 k1 k2 k3 k4 k5 k6 f0 f1 f2 f3 f4 f5 f6
        go_wp2
        exact bodyPost_ret (v := .tuple #[.agg #[.int .i64 Vb, .int .i64 Vc, .int .i64 Vu, .int .i64 Vm, .int .i64 Vx, .int .i64 Vs, .slice aoh Vh.length ch], .bool true]) (by simp [results, Try.results64, go_sem, e0, e1, e2, e3, e4, e5, e6, z]) rfl ⟨_, fp, by rw [AT.out], HS9.out, hnd, HF9.out, HK9.out⟩
end Go.Proofs.Ytcfcohnkkgickaa
