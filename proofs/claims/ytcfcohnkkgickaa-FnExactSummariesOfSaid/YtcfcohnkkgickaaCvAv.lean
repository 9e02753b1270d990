/-
  The walk over the project's test of cells.
-/
import Derived.Test.YtcfcohnkkgickaaRows
import Derived.Test.YtcfcohnkkgickaaCvTot
import Derived.Test.YtcfcohnkkgickaaCvEq
import Derived.Deep.RegionHeld3
import Derived.Deep.MidRow
namespace Go.Proofs.Ytcfcohnkkgickaa
open Go.RowKit Num

/-- The cells as a list of values. -/
def cl (l : List Int) : List Value := l.map fun x => Value.int .i64 x
theorem cl_cv (l : List Int) : (cl l).toArray = cv l := rfl
theorem cells_info {l : List Int} (hl : l.length = 12) : (Try.prog.info? 126).map (·.size) = some (cl l).length := by
  rw [show (cl l).length = 12 by simp [cl, hl]]; kernel_rfl
theorem Cells.range {W w : World} {g : Nat} {l : List Int} (h : Cells W w g l) : w.rangeAt g 0 (cl l) := fun j v hj => by
  unfold cl at hj
  rw [List.getElem?_map] at hj
  obtain ⟨x, hx, rfl⟩ := Option.map_eq_some_iff.1 hj
  obtain ⟨hk, rfl⟩ := List.getElem?_eq_some_iff.1 hx
  rw [Nat.zero_add]
  exact h.2.2.2 j hk
theorem rg_keep {w w1 w2 : World} {b : Nat} {cs : List Value} (h : w1.rangeAt b 0 cs ∧ Below w.heap.size w w1) (hg : b < w.heap.size) (hb : Below w1.heap.size w1 w2) : w2.rangeAt b 0 cs ∧ Below w.heap.size w w2 :=
  ⟨fun j v hj => by rw [hb.cell (p := ⟨b, 0 + j, none⟩) (Nat.lt_of_lt_of_le hg h.2.size)]; exact h.1 j v hj, h.2.trans (hb.mono h.2.size)⟩

set_option maxRecDepth 8000 in
set_option maxHeartbeats 6400000 in
theorem impl_av (l : List Int) (w : World) (hl : l.length = 12) :
    Calls Try.prog 103 #[.agg (cv l)] w fun e w' => e = .returned (.bool (hgB l)) ∧ Below w.heap.size w w' := by
  have LM := Lib.hid (fun w => impl_lim l w hl)
  have HA := Lib.hid (cells_alloc (Below.refl w.heap.size w) l 126 w.heap.size rfl)
  have hinf := cells_info hl
  have hund := Try.underlying126
  have hm : Try.prog.eqGuardType Try.prog.depth 126 = false := by kernel_rfl
  have HR := Lib.hid HA.out.range
  unfold CvPost at LM
  by_cases h99 : In99 l
  · have TT := Lib.hid (fun w => impl_tot l w hl h99)
    have e99 : limL l = l := ((limL_iff l).2 h99).symm
    rw [e99] at LM
    have he : ∀ w, (Op.equalIn 10000 126 (.agg (cv l)) (.agg (cv l))).run Try.prog w = .ok true w := fun w => by
      have h := run_eq_cells 9998 l l hl hl w
      rwa [decide_eq_true rfl] at h
    obtain ⟨s, hs⟩ : ∃ s, s = hsum l := ⟨_, rfl⟩
    rw [← hs] at TT
    have AN := Lib.hid (show decide (s ≤ 99) = hgB l by
      by_cases h9 : s ≤ 99
      · rw [decide_eq_true h9]; exact (hgB_true ⟨hl, h99, by rw [← hs]; exact h9⟩).symm
      · rw [decide_eq_false h9]; exact (hgB_false fun h => h9 (by rw [hs]; exact h.2.2)).symm)
    obtain ⟨D, hD⟩ : ∃ D, D = cl l := ⟨_, rfl⟩
    rw [← cl_cv, ← hD] at LM TT HA he HR ⊢
    rw [← hD] at hinf
    clear hl h99 e99 hs hD
    obtain ⟨w1, hw1⟩ : ∃ w1, w1 = w.alloc (.cells D.toArray 126) := ⟨_, rfl⟩
    rw [← hw1] at HR HA
    have hg : w.heap.size < w1.heap.size := HA.out.2.2.1.1
    go_enter Try.func103, Try.ntmps103
    go_wp2_with fail
    rw [← hw1]
    clear hw1
    refine wp_region_held_drew (S := fun w' => w'.rangeAt w.heap.size 0 D ∧ Below w1.heap.size w1 w') (by kernel_rfl) (⟨by simpa using HR.out, (Below.refl _ _).drew⟩) (fun hHeld => ?_)
    refine wpAnyH_take (i := 0) (oi := { dst := some 3, op := Go.Op.load 126 (Go.Operand.tmp 1), type := 126, pos := "l08_histogram.go:45", after := #[], guard := none }) (v := .agg D.toArray) rfl (by kernel_rfl) (by kernel_rfl) (by kernel_rfl) (fun _ _ _ h => h) (yieldsIf_load_mid (by rfl) _ _ rfl _ _ rfl _ _ (fun w hw => hw.1) hund rfl hinf) (by assumption) ?_
    try simp only [Act.put, List.setIfInBounds_toArray, List.set_cons_zero, List.set_cons_succ]
    refine wpAnyH_take (i := 1) (oi := { dst := some 4, op := Go.Op.load 126 (Go.Operand.tmp 1), type := 126, pos := "l08_histogram.go:45", after := #[], guard := none }) (v := .agg D.toArray) rfl (by kernel_rfl) (by kernel_rfl) (by kernel_rfl) (fun _ _ _ h => h) (yieldsIf_load_mid (by rfl) _ _ rfl _ _ rfl _ _ (fun w hw => hw.1) hund rfl hinf) (by assumption) ?_
    try simp only [Act.put, List.setIfInBounds_toArray, List.set_cons_zero, List.set_cons_succ]
    refine wpAnyH_ready (rs := [2]) (by kernel_rfl) (by simp) ?_
    refine AllReadyH.cons (o := { dst := some 5, op := Go.Op.call { callee := Go.Callee.value (Go.Operand.func 140), args := #[Go.Operand.tmp 4], argTypes := #[126] }, type := 126, pos := "l08_histogram.go:45", after := #[{ on := 1, ground := Go.Ground.data }], guard := none }) rfl (fun K hK => ?_) AllReadyH.nil
    go_simp
    go_at_call 140
    (with_reducible refine (LM.out _).mono ?_)
    rintro e9 w9 ⟨rfl, hb⟩
    refine hK.out _ _ ?_ (fun hH1 => ?_)
    · exact rg_keep hHeld hg hb
    clear hK K
    try simp only [Act.put, List.setIfInBounds_toArray, List.set_cons_zero, List.set_cons_succ]
    refine wpAnyH_take (i := 3) (oi := { dst := some 6, op := Go.Op.binOp BinOp.eql 126 (Go.Operand.tmp 3) (Go.Operand.tmp 5) 126, type := 4, pos := "l08_histogram.go:45", after := #[{ on := 0, ground := Go.Ground.data }, { on := 2, ground := Go.Ground.data }], guard := none }) (v := .bool true) rfl (by kernel_rfl) (by kernel_rfl) (by kernel_rfl) (fun _ _ _ h => h) (Or.inl ⟨by rfl, ?_⟩) (by assumption) ?_
    · intro w8 hS8
      (try dsimp only at hS8)
      go_simp
    try simp only [Act.put, List.setIfInBounds_toArray, List.set_cons_zero, List.set_cons_succ]
    refine wpAnyH_take (i := 4) (oi := { dst := some 7, op := Go.Op.move (Go.Operand.tmp 6), type := 4, pos := "l08_histogram.go:45", after := #[{ on := 3, ground := Go.Ground.data }, { on := 2, ground := Go.Ground.chain }], guard := none }) (v := .bool true) rfl (by kernel_rfl) (by kernel_rfl) (by kernel_rfl) (fun _ _ _ h => h) (Or.inl ⟨by rfl, ?_⟩) (by assumption) ?_
    · intro w8 hS8
      (try dsimp only at hS8)
      go_simp
    try simp only [Act.put, List.setIfInBounds_toArray, List.set_cons_zero, List.set_cons_succ]
    refine wpAnyH_take (i := 5) (oi := { dst := some 8, op := Go.Op.load 126 (Go.Operand.tmp 1), type := 126, pos := "l08_histogram.go:45", after := #[{ on := 4, ground := Go.Ground.guard }], guard := some (4, true) }) (v := .agg D.toArray) rfl (by kernel_rfl) (by kernel_rfl) (by kernel_rfl) (fun _ _ _ h => h) (yieldsIf_load_mid (by rfl) _ _ rfl _ _ rfl _ _ (fun w hw => hw.1) hund rfl hinf) (by assumption) ?_
    try simp only [Act.put, List.setIfInBounds_toArray, List.set_cons_zero, List.set_cons_succ]
    refine wpAnyH_ready (rs := [6]) (by kernel_rfl) (by simp) ?_
    refine AllReadyH.cons (o := { dst := some 9, op := Go.Op.call { callee := Go.Callee.value (Go.Operand.func 100), args := #[Go.Operand.tmp 8], argTypes := #[126] }, type := 3, pos := "l08_histogram.go:45", after := #[{ on := 5, ground := Go.Ground.data }, { on := 4, ground := Go.Ground.chain }, { on := 4, ground := Go.Ground.guard }], guard := some (4, true) }) rfl (fun K hK => ?_) AllReadyH.nil
    go_simp
    go_at_call 100
    (with_reducible refine (TT.out _).mono ?_)
    rintro e9 w10 ⟨rfl, hb2⟩
    refine hK.out _ _ ?_ (fun hH2 => ?_)
    · exact rg_keep hH1 hg hb2
    clear hK K
    try simp only [Act.put, List.setIfInBounds_toArray, List.set_cons_zero, List.set_cons_succ]
    refine wpAnyH_take (i := 7) (oi := { dst := some 10, op := Go.Op.binOp BinOp.leq 3 (Go.Operand.tmp 9) (Go.Operand.const (Go.Value.int Go.IntKind.i64 99)) 3, type := 4, pos := "l08_histogram.go:45", after := #[{ on := 6, ground := Go.Ground.data }, { on := 4, ground := Go.Ground.guard }], guard := some (4, true) }) (v := .bool (decide (s ≤ 99))) rfl (by kernel_rfl) (by kernel_rfl) (by kernel_rfl) (fun _ _ _ h => h) (Or.inl ⟨by rfl, ?_⟩) (by assumption) ?_
    · intro w8 hS8
      (try dsimp only at hS8)
      go_simp
    try simp only [Act.put, List.setIfInBounds_toArray, List.set_cons_zero, List.set_cons_succ]
    refine wpAnyH_take (i := 8) (oi := { dst := some 11, op := Go.Op.pick (Go.Operand.tmp 7) (Go.Operand.tmp 10) (Go.Operand.const (Go.Value.bool false)), type := 4, pos := "l08_histogram.go:45", after := #[{ on := 4, ground := Go.Ground.data }, { on := 7, ground := Go.Ground.data }], guard := none }) (v := .bool (decide (s ≤ 99))) rfl (by kernel_rfl) (by kernel_rfl) (by kernel_rfl) (fun _ _ _ h => h) (Or.inl ⟨by rfl, ?_⟩) (by assumption) ?_
    · intro w8 hS8
      (try dsimp only at hS8)
      go_simp
    try simp only [Act.put, List.setIfInBounds_toArray, List.set_cons_zero, List.set_cons_succ]
    refine wpAnyH_take (i := 9) (oi := { dst := some 2, op := Go.Op.assign (Go.Operand.tmp 11), type := 4, pos := "l08_histogram.go:45", after := #[{ on := 8, ground := Go.Ground.data }, { on := 6, ground := Go.Ground.chain }, { on := 0, ground := Go.Ground.phase }, { on := 1, ground := Go.Ground.phase }, { on := 2, ground := Go.Ground.phase }, { on := 3, ground := Go.Ground.phase }, { on := 4, ground := Go.Ground.phase }, { on := 5, ground := Go.Ground.phase }, { on := 6, ground := Go.Ground.phase }, { on := 7, ground := Go.Ground.phase }, { on := 8, ground := Go.Ground.phase }], guard := none }) (v := .bool (decide (s ≤ 99))) rfl (by kernel_rfl) (by kernel_rfl) (by kernel_rfl) (fun _ _ _ h => h) (Or.inl ⟨by rfl, ?_⟩) (by assumption) ?_
    · intro w8 hS8
      (try dsimp only at hS8)
      go_simp
    try simp only [Act.put, List.setIfInBounds_toArray, List.set_cons_zero, List.set_cons_succ]
    refine wpAnyH_done (by kernel_rfl) ?_ _
    have HB := Lib.hid (HA.out.1.trans (hH2.2.mono HA.out.1.size))
    go_wp2
    go_ret
    exact ⟨by rw [← AN.out]; rfl, HB.out⟩
  · have he : ∀ w, (Op.equalIn 10000 126 (.agg (cv l)) (.agg (cv (limL l)))).run Try.prog w = .ok false w := fun w => by
      have h := run_eq_cells 9998 l (limL l) hl (by rw [limL_len]; exact hl) w
      rwa [decide_eq_false (fun e => h99 ((limL_iff l).1 e))] at h
    have AN := Lib.hid (show hgB l = false from hgB_false fun h => h99 h.2.1)
    obtain ⟨D, hD⟩ : ∃ D, D = cl l := ⟨_, rfl⟩
    obtain ⟨C, hC⟩ : ∃ C, C = cv (limL l) := ⟨_, rfl⟩
    rw [← hC] at LM he
    rw [← cl_cv, ← hD] at LM HA he HR ⊢
    rw [← hD] at hinf
    clear hl h99 hD hC
    obtain ⟨w1, hw1⟩ : ∃ w1, w1 = w.alloc (.cells D.toArray 126) := ⟨_, rfl⟩
    rw [← hw1] at HR HA
    have hg : w.heap.size < w1.heap.size := HA.out.2.2.1.1
    go_enter Try.func103, Try.ntmps103
    go_wp2_with fail
    rw [← hw1]
    clear hw1
    refine wp_region_held_drew (S := fun w' => w'.rangeAt w.heap.size 0 D ∧ Below w1.heap.size w1 w') (by kernel_rfl) (⟨by simpa using HR.out, (Below.refl _ _).drew⟩) (fun hHeld => ?_)
    refine wpAnyH_take (i := 0) (oi := { dst := some 3, op := Go.Op.load 126 (Go.Operand.tmp 1), type := 126, pos := "l08_histogram.go:45", after := #[], guard := none }) (v := .agg D.toArray) rfl (by kernel_rfl) (by kernel_rfl) (by kernel_rfl) (fun _ _ _ h => h) (yieldsIf_load_mid (by rfl) _ _ rfl _ _ rfl _ _ (fun w hw => hw.1) hund rfl hinf) (by assumption) ?_
    try simp only [Act.put, List.setIfInBounds_toArray, List.set_cons_zero, List.set_cons_succ]
    refine wpAnyH_take (i := 1) (oi := { dst := some 4, op := Go.Op.load 126 (Go.Operand.tmp 1), type := 126, pos := "l08_histogram.go:45", after := #[], guard := none }) (v := .agg D.toArray) rfl (by kernel_rfl) (by kernel_rfl) (by kernel_rfl) (fun _ _ _ h => h) (yieldsIf_load_mid (by rfl) _ _ rfl _ _ rfl _ _ (fun w hw => hw.1) hund rfl hinf) (by assumption) ?_
    try simp only [Act.put, List.setIfInBounds_toArray, List.set_cons_zero, List.set_cons_succ]
    refine wpAnyH_ready (rs := [2]) (by kernel_rfl) (by simp) ?_
    refine AllReadyH.cons (o := { dst := some 5, op := Go.Op.call { callee := Go.Callee.value (Go.Operand.func 140), args := #[Go.Operand.tmp 4], argTypes := #[126] }, type := 126, pos := "l08_histogram.go:45", after := #[{ on := 1, ground := Go.Ground.data }], guard := none }) rfl (fun K hK => ?_) AllReadyH.nil
    go_simp
    go_at_call 140
    (with_reducible refine (LM.out _).mono ?_)
    rintro e9 w9 ⟨rfl, hb⟩
    refine hK.out _ _ ?_ (fun hH1 => ?_)
    · exact rg_keep hHeld hg hb
    clear hK K
    try simp only [Act.put, List.setIfInBounds_toArray, List.set_cons_zero, List.set_cons_succ]
    refine wpAnyH_take (i := 3) (oi := { dst := some 6, op := Go.Op.binOp BinOp.eql 126 (Go.Operand.tmp 3) (Go.Operand.tmp 5) 126, type := 4, pos := "l08_histogram.go:45", after := #[{ on := 0, ground := Go.Ground.data }, { on := 2, ground := Go.Ground.data }], guard := none }) (v := .bool false) rfl (by kernel_rfl) (by kernel_rfl) (by kernel_rfl) (fun _ _ _ h => h) (Or.inl ⟨by rfl, ?_⟩) (by assumption) ?_
    · intro w8 hS8
      (try dsimp only at hS8)
      go_simp
    try simp only [Act.put, List.setIfInBounds_toArray, List.set_cons_zero, List.set_cons_succ]
    refine wpAnyH_take (i := 4) (oi := { dst := some 7, op := Go.Op.move (Go.Operand.tmp 6), type := 4, pos := "l08_histogram.go:45", after := #[{ on := 3, ground := Go.Ground.data }, { on := 2, ground := Go.Ground.chain }], guard := none }) (v := .bool false) rfl (by kernel_rfl) (by kernel_rfl) (by kernel_rfl) (fun _ _ _ h => h) (Or.inl ⟨by rfl, ?_⟩) (by assumption) ?_
    · intro w8 hS8
      (try dsimp only at hS8)
      go_simp
    try simp only [Act.put, List.setIfInBounds_toArray, List.set_cons_zero, List.set_cons_succ]
    refine held_skip (i := 5) (oi := { dst := some 8, op := Go.Op.load 126 (Go.Operand.tmp 1), type := 126, pos := "l08_histogram.go:45", after := #[{ on := 4, ground := Go.Ground.guard }], guard := some (4, true) }) rfl (by kernel_rfl) (by kernel_rfl) (by kernel_rfl) (fun _ _ _ h => h) (by rfl) (by assumption) ?_
    try simp only [Act.put, List.setIfInBounds_toArray, List.set_cons_zero, List.set_cons_succ]
    refine held_skip (i := 6) (oi := { dst := some 9, op := Go.Op.call { callee := Go.Callee.value (Go.Operand.func 100), args := #[Go.Operand.tmp 8], argTypes := #[126] }, type := 3, pos := "l08_histogram.go:45", after := #[{ on := 5, ground := Go.Ground.data }, { on := 4, ground := Go.Ground.chain }, { on := 4, ground := Go.Ground.guard }], guard := some (4, true) }) rfl (by kernel_rfl) (by kernel_rfl) (by kernel_rfl) (fun _ _ _ h => h) (by rfl) (by assumption) ?_
    try simp only [Act.put, List.setIfInBounds_toArray, List.set_cons_zero, List.set_cons_succ]
    refine held_skip (i := 7) (oi := { dst := some 10, op := Go.Op.binOp BinOp.leq 3 (Go.Operand.tmp 9) (Go.Operand.const (Go.Value.int Go.IntKind.i64 99)) 3, type := 4, pos := "l08_histogram.go:45", after := #[{ on := 6, ground := Go.Ground.data }, { on := 4, ground := Go.Ground.guard }], guard := some (4, true) }) rfl (by kernel_rfl) (by kernel_rfl) (by kernel_rfl) (fun _ _ _ h => h) (by rfl) (by assumption) ?_
    try simp only [Act.put, List.setIfInBounds_toArray, List.set_cons_zero, List.set_cons_succ]
    refine wpAnyH_take (i := 8) (oi := { dst := some 11, op := Go.Op.pick (Go.Operand.tmp 7) (Go.Operand.tmp 10) (Go.Operand.const (Go.Value.bool false)), type := 4, pos := "l08_histogram.go:45", after := #[{ on := 4, ground := Go.Ground.data }, { on := 7, ground := Go.Ground.data }], guard := none }) (v := .bool false) rfl (by kernel_rfl) (by kernel_rfl) (by kernel_rfl) (fun _ _ _ h => h) (Or.inl ⟨by rfl, ?_⟩) (by assumption) ?_
    · intro w8 hS8
      (try dsimp only at hS8)
      go_simp
    try simp only [Act.put, List.setIfInBounds_toArray, List.set_cons_zero, List.set_cons_succ]
    refine wpAnyH_take (i := 9) (oi := { dst := some 2, op := Go.Op.assign (Go.Operand.tmp 11), type := 4, pos := "l08_histogram.go:45", after := #[{ on := 8, ground := Go.Ground.data }, { on := 6, ground := Go.Ground.chain }, { on := 0, ground := Go.Ground.phase }, { on := 1, ground := Go.Ground.phase }, { on := 2, ground := Go.Ground.phase }, { on := 3, ground := Go.Ground.phase }, { on := 4, ground := Go.Ground.phase }, { on := 5, ground := Go.Ground.phase }, { on := 6, ground := Go.Ground.phase }, { on := 7, ground := Go.Ground.phase }, { on := 8, ground := Go.Ground.phase }], guard := none }) (v := .bool false) rfl (by kernel_rfl) (by kernel_rfl) (by kernel_rfl) (fun _ _ _ h => h) (Or.inl ⟨by rfl, ?_⟩) (by assumption) ?_
    · intro w8 hS8
      (try dsimp only at hS8)
      go_simp
    try simp only [Act.put, List.setIfInBounds_toArray, List.set_cons_zero, List.set_cons_succ]
    refine wpAnyH_done (by kernel_rfl) ?_ _
    have HB := Lib.hid (HA.out.1.trans (hH1.2.mono HA.out.1.size))
    go_wp2
    go_ret
    exact ⟨by rw [AN.out]; rfl, HB.out⟩
end Go.Proofs.Ytcfcohnkkgickaa
