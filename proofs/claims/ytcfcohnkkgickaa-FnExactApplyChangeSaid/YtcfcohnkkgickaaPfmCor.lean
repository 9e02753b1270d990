/-
  The walk over the project's performing of a correction.
-/
import Derived.Test.YtcfcohnkkgickaaRows
import Derived.Test.YtcfcohnkkgickaaMgB
import Derived.Test.YtcfcohnkkgickaaFdImpl
import Derived.Test.YtcfcohnkkgickaaIvcImpl
import Derived.Deep.RegionHeld3
namespace Go.Proofs.Ytcfcohnkkgickaa
open Go.RowKit Num

set_option maxRecDepth 8000 in
set_option maxHeartbeats 6400000 in
theorem impl_pf2 (ver b i g y x : Int) (nl : Bool) (bp : Nat) (v : Value) (l : List Blk) (fp : List Nat) (w : World) (hT : TblOk ver l l.length) (hC : ChOk ⟨2, b, ⟨i, g, y, x, nl⟩⟩) (hv : ver ≠ 99) (hB : TblBox w bp ver v l fp) :
    Calls Try.prog 171 #[.agg #[.int .i64 2, .int .i64 b, .int .i64 i, .int .i64 g, .int .i64 y, .int .i64 x, .bool nl], .pointer (some ⟨bp, 0, none⟩)] w (PfPost ver l ⟨2, b, ⟨i, g, y, x, nl⟩⟩ bp fp w) := by
  have hn6 : l.length ≤ 6 := hT.2.1
  obtain ⟨ao, cap, rfl, hcap, hV⟩ := hB.open
  have hir := ok_id (hC.two rfl).2
  simp only at hir
  have BR := Lib.hid (fun w hV => impl_bor ver i ao l.length cap l w rfl (by omega) (fun k hk => by have := tbl_rows hT k hk; omega) (tbl_wf hT) (id_wf (by omega)) hV)
  have AP := Lib.hid (show TblOk ver l l.length ∧ ChOk ⟨2, b, ⟨i, g, y, x, nl⟩⟩ ∧ ver ≠ 99 from ⟨hT, hC, hv⟩)
  have HBX := Lib.hid hB
  have HV := Lib.hid hV
  have HT := Lib.hid hT
  have hnI : (l.length : Int) ≤ 6 := by omega
  obtain ⟨n, hn⟩ : ∃ n, n = l.length := ⟨_, rfl⟩
  have HN := Lib.hid hn
  rw [← hn] at BR HBX hnI hn6
  clear hV hT hC hv hB hn hcap
  go_enter Try.func171, Try.ntmps171
  go_wp2_with fail
  have K0 := HBX.out.kept (Kept.start w)
  have K1 := K0.alloc7 (.int .i64 2) (.int .i64 b) (.int .i64 i) (.int .i64 g) (.int .i64 y) (.int .i64 x) (.bool nl) 161 w.heap.size rfl
  have KQ := K1.sub (l' := [(⟨bp, 0, none⟩, .int .i64 ver), (⟨bp, 1, none⟩, .slice ao n cap), (⟨w.heap.size, 2, none⟩, .int .i64 i)]) (by intro p9 hp9; simp only [List.mem_cons, List.not_mem_nil, or_false] at hp9; rcases hp9 with rfl | rfl | rfl <;> simp)
  obtain ⟨w1, hw1⟩ : ∃ w1, w1 = w.alloc (.cells #[.int .i64 2, .int .i64 b, .int .i64 i, .int .i64 g, .int .i64 y, .int .i64 x, .bool nl] 161) := ⟨_, rfl⟩
  rw [← hw1] at K1 KQ ⊢
  clear hw1
  go_region_held3 (fun w' => w'.cell? ⟨bp, 0, none⟩ = some (.int .i64 ver) ∧ w'.cell? ⟨bp, 1, none⟩ = some (.slice ao n cap) ∧ w'.cell? ⟨w.heap.size, 2, none⟩ = some (.int .i64 i) ∧ Below w1.heap.size w1 w') (first | assumption | exact kn3_at KQ (Below.refl _ _).drew | exact kn3_keep KQ (by assumption) (by assumption)) (first | (go_simp; go_at_call 165; (with_reducible refine (BR.out _ ?_).mono ?_); (exact (HV.out.below K1.1).below (kn3_b (by assumption))); rintro e9 w9 ⟨⟨vb, hvb, rfl⟩, hb⟩))
  all_goals
    have K2 := K1.step (kn3_b (‹_ ∧ _ ∧ _ ∧ Below w1.heap.size w1 w9›))
    obtain ⟨w2, hw2⟩ : ∃ w2, w2 = w9 := ⟨_, rfl⟩
    have EB := Lib.hid (firstAns_idx (p := fun b : Blk => HasRow b.rows i) (l := l) (by rw [← HN.out]; exact hvb))
    have hv1 : -1 ≤ vb ∧ vb < 6 := by rcases hvb with ⟨k, hk, _, _, rfl⟩ | ⟨_, rfl⟩ <;> omega
    obtain ⟨hv1, hv2⟩ := hv1
    clear hb hvb KQ K1 K0
    subst hw2
    by_cases h0 : vb < 0
    · have hd : decide (vb < 0) = true := decide_eq_true h0
      have AN := Lib.hid (show (applyC ver l ⟨2, b, ⟨i, g, y, x, nl⟩⟩).2 = (l, 3) by
        rw [applyC_2n AP.out rfl (idx_no EB.out h0)])
      have HK := Lib.hid K2.1
      clear K2
      go_wp2
      go_ret
      exact PfPost.same HBX.out HK.out AN.out
    · have hd : decide (vb < 0) = false := decide_eq_false h0
      obtain ⟨k, hk⟩ : ∃ k : Nat, vb = (k : Int) := ⟨vb.toNat, by omega⟩
      subst hk
      obtain ⟨e1, hkl⟩ := idx_at EB.out
      have EK := Lib.hid (show iRow l i = k from e1)
      have HH := Lib.hid (hasRow_at EK.out hkl)
      obtain ⟨j0, hj0, hx0⟩ := HH.out
      obtain ⟨gt, cap', q, rcap, hv9, d0, d1, hRV, hgt, hx1, hx2, hx3⟩ := HBX.out.put hkl hj0 ⟨i, g, y, x, nl⟩
      clear hx0 hx1 hx2 hx3 d0
      obtain ⟨hgt, hqt⟩ := hgt
      simp only [Value.slice.injEq] at hv9
      obtain ⟨rfl, hz1, rfl⟩ := hv9
      clear hz1
      obtain ⟨rl, hrl⟩ : ∃ rl, rl = (Bn l k).rows := ⟨_, rfl⟩
      rw [← hrl] at d1 hRV
      have HRL := Lib.hid hrl
      obtain ⟨m, hm⟩ : ∃ m, m = rl.length := ⟨_, rfl⟩
      rw [← hm] at d1 hRV
      have HMm := Lib.hid hm
      have hm6 : m ≤ 6 := by rw [hm, hrl]; exact tbl_rows HT.out k hkl
      have hkI : (k : Int) < (n : Int) := by rw [HN.out]; omega
      have a1 := K2.get 8 rfl
      have HR9 := Lib.hid (hRV.below K2.1)
      have FD := Lib.hid (fun w hV => impl_fdV (some ⟨q, 0, none⟩) m rcap i (Rn rl) w (by omega) hV)
      have D1 := Lib.hid d1
      have d2 := (K2.1.cell (p := ⟨gt, k * 2 + 1, none⟩) hgt).trans d1
      have hmI : (m : Int) ≤ 6 := by omega
      have zw2 : w.heap.size < w2.heap.size := K2.lt 0 rfl
      clear hRV e1 hj0 hrl hm EB d1
      go_upto_region 5 with fail
      clear d2
      have KQ := K2.sub (l' := [(⟨w.heap.size, 2, none⟩, .int .i64 i), (⟨w.heap.size, 3, none⟩, .int .i64 g), (⟨w.heap.size, 4, none⟩, .int .i64 y), (⟨w.heap.size, 5, none⟩, .int .i64 x), (⟨w.heap.size, 6, none⟩, .bool nl)]) (by intro p9 hp9; simp only [List.mem_cons, List.not_mem_nil, or_false] at hp9; rcases hp9 with rfl | rfl | rfl | rfl | rfl <;> simp)
      refine wp_region_held_drew (S := fun w' => w'.cell? ⟨w.heap.size, 2, none⟩ = some (.int .i64 i) ∧ w'.cell? ⟨w.heap.size, 3, none⟩ = some (.int .i64 g) ∧ w'.cell? ⟨w.heap.size, 4, none⟩ = some (.int .i64 y) ∧ w'.cell? ⟨w.heap.size, 5, none⟩ = some (.int .i64 x) ∧ w'.cell? ⟨w.heap.size, 6, none⟩ = some (.bool nl)) (by kernel_rfl) (kc5_at KQ (Below.refl _ _).drew) (fun hHeld => ?_)
      refine wpAnyH_take (i := 0) (oi := { dst := some 24, op := Go.Op.move (Go.Operand.tmp 6), type := 57, pos := "l07_change.go:112", after := #[], guard := none }) (v := .slice (some ⟨q, 0, none⟩) m rcap) rfl (by kernel_rfl) (by kernel_rfl) (by kernel_rfl) (fun _ _ _ h => h) (Or.inl ⟨by rfl, ?_⟩) (by assumption) ?_
      · intro w8 hS8
        (try dsimp only at hS8)
        go_simp
      try simp only [Act.put, List.setIfInBounds_toArray, List.set_cons_zero, List.set_cons_succ]
      refine wpAnyH_take (i := 1) (oi := { dst := some 25, op := Go.Op.move (Go.Operand.tmp 6), type := 57, pos := "l07_change.go:112", after := #[], guard := none }) (v := .slice (some ⟨q, 0, none⟩) m rcap) rfl (by kernel_rfl) (by kernel_rfl) (by kernel_rfl) (fun _ _ _ h => h) (Or.inl ⟨by rfl, ?_⟩) (by assumption) ?_
      · intro w8 hS8
        (try dsimp only at hS8)
        go_simp
      try simp only [Act.put, List.setIfInBounds_toArray, List.set_cons_zero, List.set_cons_succ]
      refine wpAnyH_take (i := 2) (oi := { dst := some 26, op := Go.Op.fieldAddr 161 (Go.Operand.tmp 2) 2, type := 0, pos := "l07_change.go:112", after := #[], guard := none }) (v := .pointer (some ⟨w.heap.size, 2, none⟩)) rfl (by kernel_rfl) (by kernel_rfl) (by kernel_rfl) (fun _ _ _ h => h) (Or.inl ⟨by rfl, ?_⟩) (by assumption) ?_
      · intro w8 hS8
        (try dsimp only at hS8)
        go_simp
      try simp only [Act.put, List.setIfInBounds_toArray, List.set_cons_zero, List.set_cons_succ]
      refine wpAnyH_take (i := 3) (oi := { dst := some 27, op := Go.Op.fieldAddr 36 (Go.Operand.tmp 26) 0, type := 0, pos := "l07_change.go:112", after := #[{ on := 2, ground := Go.Ground.data }], guard := none }) (v := .pointer (some ⟨w.heap.size, 2, none⟩)) rfl (by kernel_rfl) (by kernel_rfl) (by kernel_rfl) (fun _ _ _ h => h) (Or.inl ⟨by rfl, ?_⟩) (by assumption) ?_
      · intro w8 hS8
        (try dsimp only at hS8)
        go_simp
      try simp only [Act.put, List.setIfInBounds_toArray, List.set_cons_zero, List.set_cons_succ]
      refine wpAnyH_take (i := 4) (oi := { dst := some 28, op := Go.Op.load 3 (Go.Operand.tmp 27), type := 3, pos := "l07_change.go:112", after := #[{ on := 3, ground := Go.Ground.data }], guard := none }) (v := .int .i64 i) rfl (by kernel_rfl) (by kernel_rfl) (by kernel_rfl) (fun _ _ _ h => h) (Or.inl ⟨by rfl, ?_⟩) (by assumption) ?_
      · intro w8 hS8
        (try dsimp only at hS8)
        go_simp
      try simp only [Act.put, List.setIfInBounds_toArray, List.set_cons_zero, List.set_cons_succ]
      refine wpAnyH_take (i := 6) (oi := { dst := some 30, op := Go.Op.fieldAddr 161 (Go.Operand.tmp 2) 2, type := 0, pos := "l07_change.go:112", after := #[], guard := none }) (v := .pointer (some ⟨w.heap.size, 2, none⟩)) rfl (by kernel_rfl) (by kernel_rfl) (by kernel_rfl) (fun _ _ _ h => h) (Or.inl ⟨by rfl, ?_⟩) (by assumption) ?_
      · intro w8 hS8
        (try dsimp only at hS8)
        go_simp
      try simp only [Act.put, List.setIfInBounds_toArray, List.set_cons_zero, List.set_cons_succ]
      refine wpAnyH_take (i := 7) (oi := { dst := some 31, op := Go.Op.load 36 (Go.Operand.tmp 30), type := 36, pos := "l07_change.go:112", after := #[{ on := 6, ground := Go.Ground.data }], guard := none }) (v := .agg #[.int .i64 i, .int .i64 g, .int .i64 y, .int .i64 x, .bool nl]) rfl (by kernel_rfl) (by kernel_rfl) (by kernel_rfl) (fun _ _ _ h => h) (Or.inl ⟨by rfl, ?_⟩) (by assumption) ?_
      · intro w8 hS8
        (try dsimp only at hS8)
        go_simp
      try simp only [Act.put, List.setIfInBounds_toArray, List.set_cons_zero, List.set_cons_succ]
      refine wpAnyH_ready (rs := [5]) (by kernel_rfl) (by simp) ?_
      refine AllReadyH.cons (o := { dst := some 29, op := Go.Op.call { callee := Go.Callee.value (Go.Operand.func 172), args := #[Go.Operand.tmp 25, Go.Operand.tmp 28], argTypes := #[57, 3] }, type := 3, pos := "l07_change.go:112", after := #[{ on := 1, ground := Go.Ground.data }, { on := 4, ground := Go.Ground.data }], guard := none }) rfl (fun K hK => ?_) AllReadyH.nil
      go_simp
      go_at_call 172
      (with_reducible refine (FD.out _ ?_).mono ?_)
      · exact HR9.out.below (Below.refl _ _).drew
      rintro e9 w9 ⟨vj, hvj, rfl, hb⟩
      obtain ⟨j, hj, rfl, hij⟩ := fd_at (l := rl) (by rw [← HMm.out]; exact hvj) (by rw [HRL.out]; exact HH.out)
      have hb9 := below_via hb (Below.refl w2.heap.size w2).drew
      obtain ⟨g2, cap2, q2, rcap2, hv2, hx4, e1, hx5, hx6, hcl, hTB, hCH⟩ := (HBX.out.step (K2.1.trans (hb9.mono K2.1.size))).put (j := j) hkl (by rw [← HRL.out]; exact hj) ⟨i, g, y, x, nl⟩
      simp only [Value.slice.injEq, Option.some.injEq, Addr.mk.injEq, and_true] at hv2
      obtain ⟨rfl, hz2, rfl⟩ := hv2
      rw [(K2.1.trans (hb9.mono K2.1.size)).cell (p := ⟨gt, k * 2 + 1, none⟩) hgt, D1.out] at e1
      simp only [Option.some.injEq, Value.slice.injEq, Addr.mk.injEq, and_true] at e1
      obtain ⟨rfl, hz3, rfl⟩ := e1
      clear hz2 hz3
      rw [← HRL.out] at hcl
      have hjI : (j : Int) < (m : Int) := by have := HMm.out; omega
      have HCL := Lib.hid (show ∀ o, o < 5 → (∃ u, w9.cell? ⟨q, j * 5 + o, none⟩ = some u) ∧ w9.frozen? ⟨q, j * 5 + o, none⟩ = false from fun o ho => hcl (j * 5 + o) (by omega))
      have HTB := Lib.hid hTB
      have HCH := Lib.hid hCH
      have HB9 := Lib.hid hb9
      have HIJ := Lib.hid hij
      clear hcl hTB hCH hb hvj hb9 hij hx4 hx5 hx6
      refine hK.out _ _ ?_ (fun hH9 => ?_)
      · exact kc5_at KQ HB9.out
      clear hK K
      try simp only [Act.put, List.setIfInBounds_toArray, List.set_cons_zero, List.set_cons_succ]
      refine wpAnyH_take (i := 8) (oi := { dst := some 32, op := Go.Op.indexAddr 57 (Go.Operand.tmp 24) (Go.Operand.tmp 29), type := 0, pos := "l07_change.go:112", after := #[{ on := 0, ground := Go.Ground.data }, { on := 5, ground := Go.Ground.data }, { on := 0, ground := Go.Ground.phase }, { on := 1, ground := Go.Ground.phase }, { on := 2, ground := Go.Ground.phase }, { on := 3, ground := Go.Ground.phase }, { on := 4, ground := Go.Ground.phase }, { on := 5, ground := Go.Ground.phase }, { on := 6, ground := Go.Ground.phase }, { on := 7, ground := Go.Ground.phase }], guard := none }) (v := .pointer (some ⟨q, j * 5, none⟩)) rfl (by kernel_rfl) (by kernel_rfl) (by kernel_rfl) (fun _ _ _ h => h) (Or.inl ⟨by rfl, ?_⟩) (by assumption) ?_
      · intro w8 hS8
        (try dsimp only at hS8)
        go_simp
      try simp only [Act.put, List.setIfInBounds_toArray, List.set_cons_zero, List.set_cons_succ]
      refine wpAnyH_ready (rs := [9]) (by kernel_rfl) (by simp) ?_
      refine AllReadyH.cons (o := { dst := none, op := Go.Op.store 36 (Go.Operand.tmp 32) (Go.Operand.tmp 31), type := 0, pos := "l07_change.go:112", after := #[{ on := 8, ground := Go.Ground.data }, { on := 7, ground := Go.Ground.data }, { on := 5, ground := Go.Ground.chain }, { on := 0, ground := Go.Ground.phase }, { on := 1, ground := Go.Ground.phase }, { on := 2, ground := Go.Ground.phase }, { on := 3, ground := Go.Ground.phase }, { on := 4, ground := Go.Ground.phase }, { on := 5, ground := Go.Ground.phase }, { on := 6, ground := Go.Ground.phase }, { on := 7, ground := Go.Ground.phase }], guard := none }) rfl (fun K hK => ?_) AllReadyH.nil
      refine step_store5 rfl (.tmp 32) (.tmp 31) rfl q j ⟨i, g, y, x, nl⟩ rfl rfl HCL.out ?_
      refine hK.out _ _ ?_ (fun hH10 => ?_)
      · refine kc5_eq (kc5_at KQ HB9.out) (fun a ha => put5_cell (by rcases ha with rfl | rfl | rfl | rfl | rfl <;> (simp only; omega)))
      clear hK K
      try simp only [Act.put, List.setIfInBounds_toArray, List.set_cons_zero, List.set_cons_succ]
      refine wpAnyH_done (by kernel_rfl) ?_ _
      have AN := Lib.hid (applyC_2y AP.out rfl EK.out hkl (j := j) (by rw [← HRL.out]; exact HIJ.out))
      have HC2 := Lib.hid (((Chg.of K2.1).step HB9.out).trans (HCH.out.mono (fp' := bp :: fp) (fun x hx => by simp [hx])))
      clear KQ K2 hH9 hH10
      go_wp2
      go_ret
      exact ⟨_, fp, (by rw [AN.out]; rfl), by rw [AN.out]; exact HTB.out, fun x hx => .inl hx, HC2.out⟩
end Go.Proofs.Ytcfcohnkkgickaa
