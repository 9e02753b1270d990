/-
  The walk over the model's AddRow at a block without rows (nil).
-/
import Derived.Test.YtcfcohnkkgickaaRows
import Derived.Test.YtcfcohnkkgickaaAdrSpec
namespace Go.Proofs.Ytcfcohnkkgickaa
open Go.RowKit Num

set_option maxRecDepth 8000 in
set_option maxHeartbeats 12800000 in
theorem spec_add0 (id : Int) (r : Rw) (w : World) :
    Calls Try.prog 129 #[.agg #[.int .i64 id, .slice none 0 0], .agg #[.int .i64 r.i, .int .i64 r.g, .int .i64 r.y, .int .i64 r.x, .bool r.nl]] w (BlkRes id (addAns id [] r) (addOk id [] r) w) := by
  go_enter Try.func129, Try.ntmps129
  go_upto_block 0 with fail
  have K0 := (((Kept.start w).alloc2 (.int .i64 id) (.slice none 0 0) 80 _ rfl).alloc5 (.int .i64 r.i) (.int .i64 r.g) (.int .i64 r.y) (.int .i64 r.x) (.bool r.nl) 36 (w.heap.size + 1) (by simp)).alloc2 (.int .i64 0) (.slice none 0 0) 80 (w.heap.size + 1 + 1) (by simp)
  generalize (((w.alloc (.cells #[.int .i64 id, .slice none 0 0] 80)).alloc (.cells #[.int .i64 r.i, .int .i64 r.g, .int .i64 r.y, .int .i64 r.x, .bool r.nl] 36)).alloc (.cells #[.int .i64 0, .slice none 0 0] 80)) = W2 at K0 ⊢
  go_cut [6] (fun kv wx => kv = .int .i64 0 ∧ Kept w wx [(⟨w.heap.size + 1 + 1, 0, none⟩, .int .i64 0), (⟨w.heap.size + 1 + 1, 1, none⟩, .slice none 0 0), (⟨w.heap.size + 1, 0, none⟩, .int .i64 r.i), (⟨w.heap.size + 1, 1, none⟩, .int .i64 r.g), (⟨w.heap.size + 1, 2, none⟩, .int .i64 r.y), (⟨w.heap.size + 1, 3, none⟩, .int .i64 r.x), (⟨w.heap.size + 1, 4, none⟩, .bool r.nl), (⟨w.heap.size, 0, none⟩, .int .i64 id), (⟨w.heap.size, 1, none⟩, .slice none 0 0)])
  case first =>
    go_wp2_with fail
    go_loopw [6] (fun kv wr => kv = .int .i64 0 ∧ Hid (Kept w wr [(⟨w.heap.size + 1 + 1, 0, none⟩, .int .i64 0), (⟨w.heap.size + 1 + 1, 1, none⟩, .slice none 0 0), (⟨w.heap.size + 1, 0, none⟩, .int .i64 r.i), (⟨w.heap.size + 1, 1, none⟩, .int .i64 r.g), (⟨w.heap.size + 1, 2, none⟩, .int .i64 r.y), (⟨w.heap.size + 1, 3, none⟩, .int .i64 r.x), (⟨w.heap.size + 1, 4, none⟩, .bool r.nl), (⟨w.heap.size, 0, none⟩, .int .i64 id), (⟨w.heap.size, 1, none⟩, .slice none 0 0)])) (fun kv _ => 0)
    case atStart => exact ⟨rfl, K0⟩
    case round =>
      obtain ⟨rfl, HK⟩ := hrel
      have b1 := HK.out.get 8 rfl
      have r0 := HK.out.get 2 rfl
      have hsd : decide ((0 : Int) < 0) = false := decide_eq_false (by omega)
      go_wp2_with fail
      refine wp_region_held_drew (S := fun w' => w'.cell? ⟨w.heap.size, 1, none⟩ = some (.slice none 0 0) ∧ w'.cell? ⟨w.heap.size + 1, 0, none⟩ = some (.int .i64 r.i)) (by kernel_rfl) (⟨b1, r0⟩) (fun hHeld => ?_)
      refine wpAnyH_take (i := 0) (oi := { dst := some 8, op := Go.Op.move (Go.Operand.tmp 6), type := 3, pos := "l05_block.go:15", after := #[], guard := none }) (v := .int .i64 0) rfl (by kernel_rfl) (by kernel_rfl) (by kernel_rfl) (fun _ _ _ h => h) (Or.inl ⟨by rfl, ?_⟩) (by assumption) ?_
      · intro w8 hS8
        (try dsimp only at hS8)
        go_simp
      try simp only [Act.put, List.setIfInBounds_toArray, List.set_cons_zero, List.set_cons_succ]
      refine wpAnyH_take (i := 1) (oi := { dst := some 9, op := Go.Op.fieldAddr 80 (Go.Operand.tmp 2) 1, type := 0, pos := "l05_block.go:15", after := #[], guard := none }) (v := .pointer (some ⟨w.heap.size, 1, none⟩)) rfl (by kernel_rfl) (by kernel_rfl) (by kernel_rfl) (fun _ _ _ h => h) (Or.inl ⟨by rfl, ?_⟩) (by assumption) ?_
      · intro w8 hS8
        (try dsimp only at hS8)
        go_simp
      try simp only [Act.put, List.setIfInBounds_toArray, List.set_cons_zero, List.set_cons_succ]
      refine wpAnyH_take (i := 2) (oi := { dst := some 10, op := Go.Op.load 57 (Go.Operand.tmp 9), type := 57, pos := "l05_block.go:15", after := #[{ on := 1, ground := Go.Ground.data }], guard := none }) (v := .slice none 0 0) rfl (by kernel_rfl) (by kernel_rfl) (by kernel_rfl) (fun _ _ _ h => h) (Or.inl ⟨by rfl, ?_⟩) (by assumption) ?_
      · intro w8 hS8
        (try dsimp only at hS8)
        go_simp
      try simp only [Act.put, List.setIfInBounds_toArray, List.set_cons_zero, List.set_cons_succ]
      refine wpAnyH_take (i := 3) (oi := { dst := some 11, op := Go.Op.call { callee := Go.Callee.builtin Go.Builtin.len, args := #[Go.Operand.tmp 10], argTypes := #[57] }, type := 3, pos := "l05_block.go:15", after := #[{ on := 2, ground := Go.Ground.data }], guard := none }) (v := .int .i64 0) rfl (by kernel_rfl) (by kernel_rfl) (by kernel_rfl) (fun _ _ _ h => h) (Or.inl ⟨by rfl, ?_⟩) (by assumption) ?_
      · intro w8 hS8
        (try dsimp only at hS8)
        go_simp
      try simp only [Act.put, List.setIfInBounds_toArray, List.set_cons_zero, List.set_cons_succ]
      refine wpAnyH_take (i := 4) (oi := { dst := some 12, op := Go.Op.binOp BinOp.lss 3 (Go.Operand.tmp 8) (Go.Operand.tmp 11) 3, type := 4, pos := "l05_block.go:15", after := #[{ on := 0, ground := Go.Ground.data }, { on := 3, ground := Go.Ground.data }], guard := none }) (v := .bool false) rfl (by kernel_rfl) (by kernel_rfl) (by kernel_rfl) (fun _ _ _ h => h) (Or.inl ⟨by rfl, ?_⟩) (by assumption) ?_
      · intro w8 hS8
        (try dsimp only at hS8)
        go_simp
      try simp only [Act.put, List.setIfInBounds_toArray, List.set_cons_zero, List.set_cons_succ]
      refine wpAnyH_take (i := 5) (oi := { dst := some 13, op := Go.Op.move (Go.Operand.tmp 12), type := 4, pos := "l05_block.go:15", after := #[{ on := 4, ground := Go.Ground.data }], guard := none }) (v := .bool false) rfl (by kernel_rfl) (by kernel_rfl) (by kernel_rfl) (fun _ _ _ h => h) (Or.inl ⟨by rfl, ?_⟩) (by assumption) ?_
      · intro w8 hS8
        (try dsimp only at hS8)
        go_simp
      try simp only [Act.put, List.setIfInBounds_toArray, List.set_cons_zero, List.set_cons_succ]
      refine held_skip (i := 6) (oi := { dst := some 14, op := Go.Op.fieldAddr 80 (Go.Operand.tmp 2) 1, type := 0, pos := "l05_block.go:15", after := #[{ on := 5, ground := Go.Ground.guard }], guard := some (5, true) }) rfl (by kernel_rfl) (by kernel_rfl) (by kernel_rfl) (fun _ _ _ h => h) (by rfl) (by assumption) ?_
      try simp only [Act.put, List.setIfInBounds_toArray, List.set_cons_zero, List.set_cons_succ]
      refine held_skip (i := 7) (oi := { dst := some 15, op := Go.Op.load 57 (Go.Operand.tmp 14), type := 57, pos := "l05_block.go:15", after := #[{ on := 6, ground := Go.Ground.data }, { on := 5, ground := Go.Ground.guard }], guard := some (5, true) }) rfl (by kernel_rfl) (by kernel_rfl) (by kernel_rfl) (fun _ _ _ h => h) (by rfl) (by assumption) ?_
      try simp only [Act.put, List.setIfInBounds_toArray, List.set_cons_zero, List.set_cons_succ]
      refine held_skip (i := 8) (oi := { dst := some 16, op := Go.Op.move (Go.Operand.tmp 6), type := 3, pos := "l05_block.go:15", after := #[{ on := 5, ground := Go.Ground.guard }], guard := some (5, true) }) rfl (by kernel_rfl) (by kernel_rfl) (by kernel_rfl) (fun _ _ _ h => h) (by rfl) (by assumption) ?_
      try simp only [Act.put, List.setIfInBounds_toArray, List.set_cons_zero, List.set_cons_succ]
      refine held_skip (i := 9) (oi := { dst := some 17, op := Go.Op.indexAddr 57 (Go.Operand.tmp 15) (Go.Operand.tmp 16), type := 0, pos := "l05_block.go:15", after := #[{ on := 7, ground := Go.Ground.data }, { on := 8, ground := Go.Ground.data }, { on := 5, ground := Go.Ground.guard }], guard := some (5, true) }) rfl (by kernel_rfl) (by kernel_rfl) (by kernel_rfl) (fun _ _ _ h => h) (by rfl) (by assumption) ?_
      try simp only [Act.put, List.setIfInBounds_toArray, List.set_cons_zero, List.set_cons_succ]
      refine held_skip (i := 10) (oi := { dst := some 18, op := Go.Op.fieldAddr 36 (Go.Operand.tmp 17) 0, type := 0, pos := "l05_block.go:15", after := #[{ on := 9, ground := Go.Ground.data }, { on := 5, ground := Go.Ground.guard }], guard := some (5, true) }) rfl (by kernel_rfl) (by kernel_rfl) (by kernel_rfl) (fun _ _ _ h => h) (by rfl) (by assumption) ?_
      try simp only [Act.put, List.setIfInBounds_toArray, List.set_cons_zero, List.set_cons_succ]
      refine held_skip (i := 11) (oi := { dst := some 19, op := Go.Op.load 3 (Go.Operand.tmp 18), type := 3, pos := "l05_block.go:15", after := #[{ on := 10, ground := Go.Ground.data }, { on := 5, ground := Go.Ground.guard }], guard := some (5, true) }) rfl (by kernel_rfl) (by kernel_rfl) (by kernel_rfl) (fun _ _ _ h => h) (by rfl) (by assumption) ?_
      try simp only [Act.put, List.setIfInBounds_toArray, List.set_cons_zero, List.set_cons_succ]
      refine held_skip (i := 12) (oi := { dst := some 20, op := Go.Op.fieldAddr 36 (Go.Operand.tmp 3) 0, type := 0, pos := "l05_block.go:15", after := #[{ on := 5, ground := Go.Ground.guard }], guard := some (5, true) }) rfl (by kernel_rfl) (by kernel_rfl) (by kernel_rfl) (fun _ _ _ h => h) (by rfl) (by assumption) ?_
      try simp only [Act.put, List.setIfInBounds_toArray, List.set_cons_zero, List.set_cons_succ]
      refine held_skip (i := 13) (oi := { dst := some 21, op := Go.Op.load 3 (Go.Operand.tmp 20), type := 3, pos := "l05_block.go:15", after := #[{ on := 12, ground := Go.Ground.data }, { on := 5, ground := Go.Ground.guard }], guard := some (5, true) }) rfl (by kernel_rfl) (by kernel_rfl) (by kernel_rfl) (fun _ _ _ h => h) (by rfl) (by assumption) ?_
      try simp only [Act.put, List.setIfInBounds_toArray, List.set_cons_zero, List.set_cons_succ]
      refine held_skip (i := 14) (oi := { dst := some 22, op := Go.Op.binOp BinOp.lss 3 (Go.Operand.tmp 19) (Go.Operand.tmp 21) 3, type := 4, pos := "l05_block.go:15", after := #[{ on := 11, ground := Go.Ground.data }, { on := 13, ground := Go.Ground.data }, { on := 5, ground := Go.Ground.guard }], guard := some (5, true) }) rfl (by kernel_rfl) (by kernel_rfl) (by kernel_rfl) (fun _ _ _ h => h) (by rfl) (by assumption) ?_
      try simp only [Act.put, List.setIfInBounds_toArray, List.set_cons_zero, List.set_cons_succ]
      refine wpAnyH_take (i := 15) (oi := { dst := some 23, op := Go.Op.pick (Go.Operand.tmp 13) (Go.Operand.tmp 22) (Go.Operand.const (Go.Value.bool false)), type := 4, pos := "l05_block.go:15", after := #[{ on := 5, ground := Go.Ground.data }, { on := 14, ground := Go.Ground.data }], guard := none }) (v := .bool false) rfl (by kernel_rfl) (by kernel_rfl) (by kernel_rfl) (fun _ _ _ h => h) (Or.inl ⟨by rfl, ?_⟩) (by assumption) ?_
      · intro w8 hS8
        (try dsimp only at hS8)
        go_simp
      try simp only [Act.put, List.setIfInBounds_toArray, List.set_cons_zero, List.set_cons_succ]
      refine wpAnyH_done (by kernel_rfl) ?_ _
      go_wp2_with fail
      go_meet
      exact ⟨rfl, HK.out.drew⟩
  case rest =>
    obtain ⟨rfl, K1⟩ := hcut
    have SA := Lib.hid (show SrcR wc (.slice none 0 0) [] from .inl ⟨rfl, rfl⟩)
    have EA : addL [] r = [r] := by unfold addL; simp
    have HEA := Lib.hid EA
    clear EA
    have z2 : w.heap.size + 1 + 1 < wc.heap.size := K1.lt 0 rfl
    have KB := Lib.hid K1.base
    go_upto_region 4 with fail
    go_cut [7] (fun s7 wx => MidBox id 1 [r] w wx (w.heap.size + 1 + 1 + 1) [(⟨w.heap.size + 1 + 1, 0, none⟩, .int .i64 0), (⟨w.heap.size + 1 + 1, 1, none⟩, .slice none 0 0), (⟨w.heap.size + 1, 0, none⟩, .int .i64 r.i), (⟨w.heap.size + 1, 1, none⟩, .int .i64 r.g), (⟨w.heap.size + 1, 2, none⟩, .int .i64 r.y), (⟨w.heap.size + 1, 3, none⟩, .int .i64 r.x), (⟨w.heap.size + 1, 4, none⟩, .bool r.nl), (⟨w.heap.size, 0, none⟩, .int .i64 id), (⟨w.heap.size, 1, none⟩, .slice none 0 0)] s7)
    case first =>
      obtain ⟨e0, e1, e2, e3, e4, e5, e6⟩ := c9k K1 (Below.refl _ _)
      go_region_held3 (fun w' => w'.cell? ⟨w.heap.size + 1, 0, none⟩ = some (.int .i64 r.i) ∧ w'.cell? ⟨w.heap.size + 1, 1, none⟩ = some (.int .i64 r.g) ∧ w'.cell? ⟨w.heap.size + 1, 2, none⟩ = some (.int .i64 r.y) ∧ w'.cell? ⟨w.heap.size + 1, 3, none⟩ = some (.int .i64 r.x) ∧ w'.cell? ⟨w.heap.size + 1, 4, none⟩ = some (.bool r.nl) ∧ w'.cell? ⟨w.heap.size, 0, none⟩ = some (.int .i64 id) ∧ w'.cell? ⟨w.heap.size, 1, none⟩ = some (.slice none 0 0)) (first | assumption | exact ⟨e0, e1, e2, e3, e4, e5, e6⟩ | exact c9a (by assumption) | exact c9k K1 KO1.1.1 | exact c9k K1 KO2.1.1 | exact c9k K1 KO3.1.1 | exact c9a (c9k K1 KO3.1.1) | exact c9s (c9k K1 KO3.1.1) (by simp only; omega) (by simp only; omega) (by simp only; omega) (by simp only; omega) (by simp only; omega) (by simp only; omega) (by simp only; omega) | exact c9s (by assumption) (by simp only; omega) (by simp only; omega) (by simp only; omega) (by simp only; omega) (by simp only; omega) (by simp only; omega) (by simp only; omega)) (first | (apply step_append_ko (W := wc) (s := Operand.tmp 28) (x := Operand.tmp 32) rfl rfl (B := wc.heap.size) (rows := []) (news := []) rfl rfl; (· repeat' (first | (with_reducible apply KO.drew) | (with_reducible apply KO.alloc5 (hN := rfl)) | (with_reducible apply KO.alloc2 (hN := rfl)) | (apply KO.lit <;> first | omega | (simp; done) | skip) | with_reducible exact KB.out | (with_reducible apply Kept.drew) | (with_reducible apply Kept.alloc5 (hB := rfl)) | (with_reducible apply Kept.alloc2 (hB := rfl)))); (· exact SA.out.keep (by repeat' (first | (with_reducible exact (Below.refl _ _)) | (with_reducible refine Below.drew ?_) | (refine Below.alloc ?_ (by (try simp only [World.size_alloc, World.size_drew]); omega) _)))); (· simp); (· exact Nat.le_refl _); (· (try simp only [World.size_alloc, World.size_drew]); omega); intro v1 w1 KO1; (try simp only [World.size_alloc, World.size_drew, List.nil_append] at KO1); (try have y0 := KO1.1.get 0 rfl); (try have y1 := KO1.1.get 1 rfl); (try have y2 := KO1.1.get 2 rfl); (try have y3 := KO1.1.get 3 rfl); (try have y4 := KO1.1.get 4 rfl); (try have y5 := KO1.1.get 5 rfl); (try have y6 := KO1.1.get 6 rfl); (try have y7 := KO1.1.get 7 rfl); (try have y8 := KO1.1.get 8 rfl); (try have y9 := KO1.1.get 9 rfl); (try have y10 := KO1.1.get 10 rfl); (try have y11 := KO1.1.get 11 rfl); (try have y12 := KO1.1.get 12 rfl); (try have y13 := KO1.1.get 13 rfl); (try have y14 := KO1.1.get 14 rfl); (try have y15 := KO1.1.get 15 rfl); have zz1 := KO1.1.1.size) | (apply step_append_ko (W := wc) (s := Operand.tmp 33) (x := Operand.tmp 35) rfl rfl (B := wc.heap.size) (rows := []) (news := [r]) rfl rfl; (· repeat' (first | (with_reducible apply KO.drew) | (with_reducible apply KO.alloc5 (hN := rfl)) | (with_reducible apply KO.alloc2 (hN := rfl)) | exact KO1)); (· exact SrcR.cells (by first | (with_reducible assumption) | (with_reducible exact cell_alloc_some _ (by assumption)) | (with_reducible exact cell_alloc_some _ (cell_alloc_some _ (by assumption))) | (go_simp; done)) (by first | (with_reducible assumption) | (with_reducible exact cell_alloc_some _ (by assumption)) | (with_reducible exact cell_alloc_some _ (cell_alloc_some _ (by assumption))) | (go_simp; done)) (by first | (with_reducible assumption) | (with_reducible exact cell_alloc_some _ (by assumption)) | (with_reducible exact cell_alloc_some _ (cell_alloc_some _ (by assumption))) | (go_simp; done)) (by first | (with_reducible assumption) | (with_reducible exact cell_alloc_some _ (by assumption)) | (with_reducible exact cell_alloc_some _ (cell_alloc_some _ (by assumption))) | (go_simp; done)) (by first | (with_reducible assumption) | (with_reducible exact cell_alloc_some _ (by assumption)) | (with_reducible exact cell_alloc_some _ (cell_alloc_some _ (by assumption))) | (go_simp; done))); (· simp); (· exact Nat.le_refl _); (· (try simp only [World.size_alloc, World.size_drew]); omega); intro v2 w2 KO2; (try simp only [World.size_alloc, World.size_drew, List.nil_append] at KO2); (try have y0 := KO2.1.get 0 rfl); (try have y1 := KO2.1.get 1 rfl); (try have y2 := KO2.1.get 2 rfl); (try have y3 := KO2.1.get 3 rfl); (try have y4 := KO2.1.get 4 rfl); (try have y5 := KO2.1.get 5 rfl); (try have y6 := KO2.1.get 6 rfl); (try have y7 := KO2.1.get 7 rfl); (try have y8 := KO2.1.get 8 rfl); (try have y9 := KO2.1.get 9 rfl); (try have y10 := KO2.1.get 10 rfl); (try have y11 := KO2.1.get 11 rfl); (try have y12 := KO2.1.get 12 rfl); (try have y13 := KO2.1.get 13 rfl); (try have y14 := KO2.1.get 14 rfl); (try have y15 := KO2.1.get 15 rfl); have zz2 := KO2.1.1.size) | (apply step_append_ko (W := wc) (s := Operand.tmp 36) (x := Operand.tmp 40) rfl rfl (B := wc.heap.size) (rows := [r]) (news := []) rfl rfl; (· repeat' (first | (with_reducible apply KO.drew) | (with_reducible apply KO.alloc5 (hN := rfl)) | (with_reducible apply KO.alloc2 (hN := rfl)) | exact KO2)); (· exact SA.out.keep (by repeat' (first | (exact KO2.1.1) | (with_reducible exact (Below.refl _ _)) | (with_reducible refine Below.drew ?_) | (refine Below.alloc ?_ (by (try simp only [World.size_alloc, World.size_drew]); omega) _)))); (· simp); (· exact Nat.le_refl _); (· (try simp only [World.size_alloc, World.size_drew]); omega); intro v3 w3 KO3; (try simp only [World.size_alloc, World.size_drew, List.nil_append] at KO3); (try have y0 := KO3.1.get 0 rfl); (try have y1 := KO3.1.get 1 rfl); (try have y2 := KO3.1.get 2 rfl); (try have y3 := KO3.1.get 3 rfl); (try have y4 := KO3.1.get 4 rfl); (try have y5 := KO3.1.get 5 rfl); (try have y6 := KO3.1.get 6 rfl); (try have y7 := KO3.1.get 7 rfl); (try have y8 := KO3.1.get 8 rfl); (try have y9 := KO3.1.get 9 rfl); (try have y10 := KO3.1.get 10 rfl); (try have y11 := KO3.1.get 11 rfl); (try have y12 := KO3.1.get 12 rfl); (try have y13 := KO3.1.get 13 rfl); (try have y14 := KO3.1.get 14 rfl); (try have y15 := KO3.1.get 15 rfl); have zz3 := KO3.1.1.size; obtain ⟨ao3, cap3, hv3⟩ := KO3.2.1.shape; subst hv3; (try have f0 := KO3.1.fz 0 rfl); (try have f1 := KO3.1.fz 1 rfl); (try have f2 := KO3.1.fz 2 rfl); (try have f3 := KO3.1.fz 3 rfl); (try have f4 := KO3.1.fz 4 rfl); (try have f5 := KO3.1.fz 5 rfl); (try have f6 := KO3.1.fz 6 rfl)))
      all_goals
        rw [List.append_nil, List.length_singleton] at KO3
        (dsimp only [Exit.then]; go_step; go_meet)
        first | exact (midBox_alloc K1 z2 KO3 _ rfl).cast (by omega) | exact (midBox_set K1 z2 KO3 _ (.int .i64 0) (.slice none 0 0) (by simp) (by simp) (by omega)).cast (by omega)
    case rest =>
      obtain ⟨g7, ao', cap', rfl, hg7, K2, O2⟩ := hcut
      obtain ⟨fp, RX, hfp, hnd⟩ := O2.rep
      have HRX := Lib.hid RX
      clear RX O2 SA
      have D1 := fun w => spec_bvV id none 0 0 (Rn []) w (by omega) (.inl rfl)
      obtain ⟨q1, hq1⟩ : ∃ q, q = blkB id 0 (Rn []) := ⟨_, rfl⟩
      rw [← hq1] at D1
      have HQ1 := Lib.hid (show q1 = blkL id [] from hq1)
      have DD1 := Lib.hid D1
      clear D1 hq1
      have b0 := K2.get 9 rfl
      have b1 := K2.get 10 rfl
      go_wp2_with fail
      refine (DD1.out _).mono ?_
      rintro e w4 ⟨rfl, hb⟩
      have K4 := K2.step hb
      have R4 := Lib.hid (HRX.out.step hb)
      clear hb K2 HRX b0 b1
      cases q1
      · have AN := Lib.hid (show addOk id [] r = false by unfold addOk; rw [← HQ1.out]; rfl)
        have b0 := K4.get 9 rfl
        have b1 := K4.get 10 rfl
        have SC4 := Lib.hid (show SrcR w4 (.slice none 0 0) [] from .inl ⟨rfl, rfl⟩)
        go_wp2_with fail
        refine (spec_copy id none 0 [] _ (Nat.zero_le _) SC4.out).mono ?_
        rintro e w8 ⟨v8, fp8, rfl, hs8, hf8, hn8, hb⟩
        obtain ⟨ao8, cap8, rfl⟩ := hs8.val
        have K8 := K4.step hb
        have HB8 : Hid (w.heap.size + 1 + 1 < w4.heap.size) := (show _ < _ from K4.lt 2 rfl)
        clear hb K4
        have c0 := K8.get 2 rfl
        have c1 := K8.get 3 rfl
        have e0 := K8.fz 2 rfl
        have e1 := K8.fz 3 rfl
        have K6 := (K8.sub (l' := [(⟨w.heap.size + 1 + 1, 0, none⟩, .int .i64 0), (⟨w.heap.size + 1 + 1, 1, none⟩, .slice none 0 0)]) (by intro p9 hp9; simp only [List.mem_cons, List.not_mem_nil, or_false] at hp9; rcases hp9 with rfl | rfl <;> simp)).set2 (.int .i64 id) (.slice ao8 0 cap8) (by omega) (by simp)
        have R6 := Lib.hid ((hs8.set ⟨w.heap.size + 1 + 1, 0, none⟩ (.int .i64 id) (fun k hk => by have := hf8 k hk; have := HB8.out; simp only; omega)).set ⟨w.heap.size + 1 + 1, 1, none⟩ (.slice ao8 0 cap8) (fun k hk => by have := hf8 k hk; have := HB8.out; simp only; omega))
        have HF8 := Lib.hid hf8
        have r0 := K6.get 0 rfl
        have r1 := K6.get 1 rfl
        have yy := K6.lt 0 rfl
        clear K8 hs8 hf8
        go_wp2
        exact bodyPost_ret (v := .tuple #[.agg #[.int .i64 id, .slice ao8 0 cap8], .bool false]) (by simp [results, Try.results129, go_sem, r0, r1, yy]) rfl (by rw [AN.out]; exact ⟨_, fp8, rfl, by unfold addAns; rw [if_neg (by rw [AN.out]; simp)]; exact R6.out, fun k hk => by have := HF8.out k hk; have := HB8.out; omega, hn8, K6.1⟩)
      · have D2 := fun w hV => spec_bvV id ao' 1 cap' (Rn [r]) w (by omega) hV
        obtain ⟨q2, hq2⟩ : ∃ q, q = blkB id 1 (Rn [r]) := ⟨_, rfl⟩
        rw [← hq2] at D2
        have HQ2 := Lib.hid (show q2 = blkL id [r] from hq2)
        have DD2 := Lib.hid D2
        clear D2 hq2
        have x0 := K4.get 0 rfl
        have x1 := K4.get 1 rfl
        have hV4 : RowsVal w4 ao' 1 (Rn [r]) := by
          obtain ⟨ao5, cap5, e5, _, hV5⟩ := rows_open R4.out
          rw [List.length_singleton] at e5 hV5
          simp only [Value.slice.injEq, true_and] at e5
          rw [e5.1]; exact hV5
        have HV4 := Lib.hid hV4
        clear hV4
        go_wp2_with fail
        refine (DD2.out _ HV4.out).mono ?_
        rintro e w5 ⟨rfl, hb⟩
        have K5 := K4.step hb
        have R5 := Lib.hid (R4.out.step hb)
        clear hb K4 R4 x0 x1 HV4
        cases q2
        · have AN := Lib.hid (show addOk id [] r = false by unfold addOk; rw [HEA.out, ← HQ2.out]; simp)
          have b0 := K5.get 9 rfl
          have b1 := K5.get 10 rfl
          have SC4 := Lib.hid (show SrcR w5 (.slice none 0 0) [] from .inl ⟨rfl, rfl⟩)
          go_wp2_with fail
          refine (spec_copy id none 0 [] _ (Nat.zero_le _) SC4.out).mono ?_
          rintro e w8 ⟨v8, fp8, rfl, hs8, hf8, hn8, hb⟩
          obtain ⟨ao8, cap8, rfl⟩ := hs8.val
          have K8 := K5.step hb
          have HB8 : Hid (w.heap.size + 1 + 1 < w5.heap.size) := (show _ < _ from K5.lt 2 rfl)
          clear hb K5
          have c0 := K8.get 2 rfl
          have c1 := K8.get 3 rfl
          have e0 := K8.fz 2 rfl
          have e1 := K8.fz 3 rfl
          have K6 := (K8.sub (l' := [(⟨w.heap.size + 1 + 1, 0, none⟩, .int .i64 0), (⟨w.heap.size + 1 + 1, 1, none⟩, .slice none 0 0)]) (by intro p9 hp9; simp only [List.mem_cons, List.not_mem_nil, or_false] at hp9; rcases hp9 with rfl | rfl <;> simp)).set2 (.int .i64 id) (.slice ao8 0 cap8) (by omega) (by simp)
          have R6 := Lib.hid ((hs8.set ⟨w.heap.size + 1 + 1, 0, none⟩ (.int .i64 id) (fun k hk => by have := hf8 k hk; have := HB8.out; simp only; omega)).set ⟨w.heap.size + 1 + 1, 1, none⟩ (.slice ao8 0 cap8) (fun k hk => by have := hf8 k hk; have := HB8.out; simp only; omega))
          have HF8 := Lib.hid hf8
          have r0 := K6.get 0 rfl
          have r1 := K6.get 1 rfl
          have yy := K6.lt 0 rfl
          clear K8 hs8 hf8
          go_wp2
          exact bodyPost_ret (v := .tuple #[.agg #[.int .i64 id, .slice ao8 0 cap8], .bool false]) (by simp [results, Try.results129, go_sem, r0, r1, yy]) rfl (by rw [AN.out]; exact ⟨_, fp8, rfl, by unfold addAns; rw [if_neg (by rw [AN.out]; simp)]; exact R6.out, fun k hk => by have := HF8.out k hk; have := HB8.out; omega, hn8, K6.1⟩)
        · have AN := Lib.hid (show addOk id [] r = true by unfold addOk; rw [HEA.out, ← HQ1.out, ← HQ2.out]; rfl)
          have x0 := K5.get 0 rfl
          have x1 := K5.get 1 rfl
          have c0 := K5.get 2 rfl
          have c1 := K5.get 3 rfl
          have e0 := K5.fz 2 rfl
          have e1 := K5.fz 3 rfl
          have K6 := (K5.sub (l' := [(⟨w.heap.size + 1 + 1, 0, none⟩, .int .i64 0), (⟨w.heap.size + 1 + 1, 1, none⟩, .slice none 0 0)]) (by intro p9 hp9; simp only [List.mem_cons, List.not_mem_nil, or_false] at hp9; rcases hp9 with rfl | rfl <;> simp)).set2 (.int .i64 id) (.slice ao' 1 cap') (by omega) (by simp)
          have R6 := Lib.hid ((R5.out.set ⟨w.heap.size + 1 + 1, 0, none⟩ (.int .i64 id) (fun k hk => by have := hfp k hk; simp only; omega)).set ⟨w.heap.size + 1 + 1, 1, none⟩ (.slice ao' 1 cap') (fun k hk => by have := hfp k hk; simp only; omega))
          have r0 := K6.get 0 rfl
          have r1 := K6.get 1 rfl
          have yy := K6.lt 0 rfl
          clear K5 R5
          go_wp2
          exact bodyPost_ret (v := .tuple #[.agg #[.int .i64 id, .slice ao' 1 cap'], .bool true]) (by simp [results, Try.results129, go_sem, r0, r1, yy]) rfl (by rw [AN.out]; exact ⟨_, fp, rfl, by unfold addAns; rw [if_pos AN.out, HEA.out]; exact R6.out, fun k hk => by have := hfp k hk; omega, hnd, K6.1⟩)
end Go.Proofs.Ytcfcohnkkgickaa
