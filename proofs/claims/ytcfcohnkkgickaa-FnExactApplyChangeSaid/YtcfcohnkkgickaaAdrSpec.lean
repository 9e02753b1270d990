/-
  The walk over the model's AddRow.
-/
import Derived.Test.YtcfcohnkkgickaaRows
import Derived.Test.YtcfcohnkkgickaaAdSpec
import Derived.Test.YtcfcohnkkgickaaMgB
import Derived.Test.YtcfcohnkkgickaaKo
import Derived.Deep.CutBlock
namespace Go.Proofs.Ytcfcohnkkgickaa
open Go.RowKit Num

/-! What the region that makes the longer rows keeps: seven loaded cells. -/
theorem c9k {W w w' : World} {a0 a1 a2 a3 a4 a5 a6 a7 a8 : Addr} {v0 v1 v2 v3 v4 v5 v6 v7 v8 : Value} {l : List (Addr × Value)} (h : Kept W w ((a0, v0) :: (a1, v1) :: (a2, v2) :: (a3, v3) :: (a4, v4) :: (a5, v5) :: (a6, v6) :: (a7, v7) :: (a8, v8) :: l)) (hb : Below w.heap.size w w') : w'.cell? a2 = some v2 ∧ w'.cell? a3 = some v3 ∧ w'.cell? a4 = some v4 ∧ w'.cell? a5 = some v5 ∧ w'.cell? a6 = some v6 ∧ w'.cell? a7 = some v7 ∧ w'.cell? a8 = some v8 :=
  have k := h.step hb
  ⟨k.get 2 rfl, k.get 3 rfl, k.get 4 rfl, k.get 5 rfl, k.get 6 rfl, k.get 7 rfl, k.get 8 rfl⟩
theorem c9a {w : World} {a2 a3 a4 a5 a6 a7 a8 : Addr} {v2 v3 v4 v5 v6 v7 v8 : Value} {o : Obj} (q : w.cell? a2 = some v2 ∧ w.cell? a3 = some v3 ∧ w.cell? a4 = some v4 ∧ w.cell? a5 = some v5 ∧ w.cell? a6 = some v6 ∧ w.cell? a7 = some v7 ∧ w.cell? a8 = some v8) : (w.alloc o).cell? a2 = some v2 ∧ (w.alloc o).cell? a3 = some v3 ∧ (w.alloc o).cell? a4 = some v4 ∧ (w.alloc o).cell? a5 = some v5 ∧ (w.alloc o).cell? a6 = some v6 ∧ (w.alloc o).cell? a7 = some v7 ∧ (w.alloc o).cell? a8 = some v8 :=
  ⟨cell_alloc_some o q.1, cell_alloc_some o q.2.1, cell_alloc_some o q.2.2.1, cell_alloc_some o q.2.2.2.1, cell_alloc_some o q.2.2.2.2.1, cell_alloc_some o q.2.2.2.2.2.1, cell_alloc_some o q.2.2.2.2.2.2⟩
theorem c9s {w : World} {a2 a3 a4 a5 a6 a7 a8 : Addr} {v2 v3 v4 v5 v6 v7 v8 x y : Value} {g : Nat} (q : w.cell? a2 = some v2 ∧ w.cell? a3 = some v3 ∧ w.cell? a4 = some v4 ∧ w.cell? a5 = some v5 ∧ w.cell? a6 = some v6 ∧ w.cell? a7 = some v7 ∧ w.cell? a8 = some v8) (h2 : a2.block ≠ g) (h3 : a3.block ≠ g) (h4 : a4.block ≠ g) (h5 : a5.block ≠ g) (h6 : a6.block ≠ g) (h7 : a7.block ≠ g) (h8 : a8.block ≠ g) : ((w.setCell ⟨g, 0, none⟩ x).setCell ⟨g, 1, none⟩ y).cell? a2 = some v2 ∧ ((w.setCell ⟨g, 0, none⟩ x).setCell ⟨g, 1, none⟩ y).cell? a3 = some v3 ∧ ((w.setCell ⟨g, 0, none⟩ x).setCell ⟨g, 1, none⟩ y).cell? a4 = some v4 ∧ ((w.setCell ⟨g, 0, none⟩ x).setCell ⟨g, 1, none⟩ y).cell? a5 = some v5 ∧ ((w.setCell ⟨g, 0, none⟩ x).setCell ⟨g, 1, none⟩ y).cell? a6 = some v6 ∧ ((w.setCell ⟨g, 0, none⟩ x).setCell ⟨g, 1, none⟩ y).cell? a7 = some v7 ∧ ((w.setCell ⟨g, 0, none⟩ x).setCell ⟨g, 1, none⟩ y).cell? a8 = some v8 :=
  ⟨cell_set2_some x y q.1 h2, cell_set2_some x y q.2.1 h3, cell_set2_some x y q.2.2.1 h4, cell_set2_some x y q.2.2.2.1 h5, cell_set2_some x y q.2.2.2.2.1 h6, cell_set2_some x y q.2.2.2.2.2.1 h7, cell_set2_some x y q.2.2.2.2.2.2 h8⟩

set_option maxRecDepth 8000 in
set_option maxHeartbeats 12800000 in
theorem spec_add (id : Int) (h cap : Nat) (l : List Rw) (r : Rw) (w : World) (hn : l.length ≤ 1048576) (hcap : l.length ≤ cap) (hV : RowsVal w (some ⟨h, 0, none⟩) l.length (Rn l)) :
    Calls Try.prog 129 #[.agg #[.int .i64 id, .slice (some ⟨h, 0, none⟩) l.length cap], .agg #[.int .i64 r.i, .int .i64 r.g, .int .i64 r.y, .int .i64 r.x, .bool r.nl]] w (BlkRes id (addAns id l r) (addOk id l r) w) := by
  have HV := Lib.hid hV
  clear hV
  have hnI : (l.length : Int) ≤ 1048576 := by omega
  go_enter Try.func129, Try.ntmps129
  go_upto_block 0 with fail
  have K0 := (((Kept.start w).alloc2 (.int .i64 id) (.slice (some ⟨h, 0, none⟩) l.length cap) 80 _ rfl).alloc5 (.int .i64 r.i) (.int .i64 r.g) (.int .i64 r.y) (.int .i64 r.x) (.bool r.nl) 36 (w.heap.size + 1) (by simp)).alloc2 (.int .i64 0) (.slice none 0 0) 80 (w.heap.size + 1 + 1) (by simp)
  generalize (((w.alloc (.cells #[.int .i64 id, .slice (some ⟨h, 0, none⟩) l.length cap] 80)).alloc (.cells #[.int .i64 r.i, .int .i64 r.g, .int .i64 r.y, .int .i64 r.x, .bool r.nl] 36)).alloc (.cells #[.int .i64 0, .slice none 0 0] 80)) = W2 at K0 ⊢
  go_cut [6] (fun kv wx => kv = .int .i64 (posL r.i l : Nat) ∧ Kept w wx [(⟨w.heap.size + 1 + 1, 0, none⟩, .int .i64 0), (⟨w.heap.size + 1 + 1, 1, none⟩, .slice none 0 0), (⟨w.heap.size + 1, 0, none⟩, .int .i64 r.i), (⟨w.heap.size + 1, 1, none⟩, .int .i64 r.g), (⟨w.heap.size + 1, 2, none⟩, .int .i64 r.y), (⟨w.heap.size + 1, 3, none⟩, .int .i64 r.x), (⟨w.heap.size + 1, 4, none⟩, .bool r.nl), (⟨w.heap.size, 0, none⟩, .int .i64 id), (⟨w.heap.size, 1, none⟩, .slice (some ⟨h, 0, none⟩) l.length cap)])
  case first =>
    go_wp2_with fail
    go_loopw [6] (fun kv wr => ∃ k : Nat, k ≤ l.length ∧ kv = .int .i64 k ∧ Hid (∀ j, j < k → (Rn l j).i < r.i) ∧ Hid (Kept w wr [(⟨w.heap.size + 1 + 1, 0, none⟩, .int .i64 0), (⟨w.heap.size + 1 + 1, 1, none⟩, .slice none 0 0), (⟨w.heap.size + 1, 0, none⟩, .int .i64 r.i), (⟨w.heap.size + 1, 1, none⟩, .int .i64 r.g), (⟨w.heap.size + 1, 2, none⟩, .int .i64 r.y), (⟨w.heap.size + 1, 3, none⟩, .int .i64 r.x), (⟨w.heap.size + 1, 4, none⟩, .bool r.nl), (⟨w.heap.size, 0, none⟩, .int .i64 id), (⟨w.heap.size, 1, none⟩, .slice (some ⟨h, 0, none⟩) l.length cap)])) (fun kv _ => l.length - (intOf kv).toNat)
    case atStart => exact ⟨0, Nat.zero_le _, rfl, (fun j hj => by omega), K0⟩
    case round =>
      obtain ⟨k, hk, rfl, HA, HK⟩ := hrel
      have b1 := HK.out.get 8 rfl
      have r0 := HK.out.get 2 rfl
      by_cases hlt : k < l.length
      · have hkI : (k : Int) < (l.length : Int) := by omega
        have hsd : decide ((k : Int) < (l.length : Int)) = true := decide_eq_true hkI
        obtain ⟨hg, hR⟩ := rows_head HV.out (by omega)
        have c0 := ((hR k hlt).below HK.out.1 hg).1
        clear hR
        by_cases hc : (Rn l k).i < r.i
        · have hcd : decide ((Rn l k).i < r.i) = true := decide_eq_true hc
          have HN := Lib.hid (show ∀ j, j < k + 1 → (Rn l j).i < r.i from fun j hj => by
            by_cases h : j < k
            · exact HA.out j h
            · obtain rfl : j = k := by omega
              exact hc)
          have HC := Lib.hid hc
          clear hc
          go_wp2_with fail
          go_region_held3 (fun w' => w'.cell? ⟨w.heap.size, 1, none⟩ = some (.slice (some ⟨h, 0, none⟩) l.length cap) ∧ w'.cell? ⟨w.heap.size + 1, 0, none⟩ = some (.int .i64 r.i) ∧ w'.cell? ⟨h, k * 5, none⟩ = some (.int .i64 (Rn l k).i)) (first | assumption | exact ⟨b1, r0, c0⟩) (fail)
          go_wp2
          go_roundw
          case rel => exact ⟨k + 1, by omega, by go_num, HN.out, HK.out.drew⟩
          case measure => simp [intOf]; omega
        · have hcd : decide ((Rn l k).i < r.i) = false := decide_eq_false hc
          have HE := Lib.hid (posL_unique (x := r.i) (l := l) hk HA.out (fun _ => hc))
          have HC := Lib.hid hc
          clear hc
          go_wp2_with fail
          go_region_held3 (fun w' => w'.cell? ⟨w.heap.size, 1, none⟩ = some (.slice (some ⟨h, 0, none⟩) l.length cap) ∧ w'.cell? ⟨w.heap.size + 1, 0, none⟩ = some (.int .i64 r.i) ∧ w'.cell? ⟨h, k * 5, none⟩ = some (.int .i64 (Rn l k).i)) (first | assumption | exact ⟨b1, r0, c0⟩) (fail)
          go_wp2_with fail
          go_meet
          exact ⟨by rw [← HE.out], HK.out.drew⟩
      · obtain rfl : k = l.length := by omega
        have hsd : decide ((l.length : Int) < (l.length : Int)) = false := decide_eq_false (by omega)
        have HE := Lib.hid (posL_unique (x := r.i) (l := l) hk HA.out (fun h => absurd h (by omega)))
        go_wp2_with fail
        refine wp_region_held_drew (S := fun w' => w'.cell? ⟨w.heap.size, 1, none⟩ = some (.slice (some ⟨h, 0, none⟩) l.length cap) ∧ w'.cell? ⟨w.heap.size + 1, 0, none⟩ = some (.int .i64 r.i)) (by kernel_rfl) (⟨b1, r0⟩) (fun hHeld => ?_)
        refine wpAnyH_take (i := 0) (oi := { dst := some 8, op := Go.Op.move (Go.Operand.tmp 6), type := 3, pos := "l05_block.go:15", after := #[], guard := none }) (v := .int .i64 l.length) rfl (by kernel_rfl) (by kernel_rfl) (by kernel_rfl) (fun _ _ _ h => h) (Or.inl ⟨by rfl, ?_⟩) (by assumption) ?_
        · intro w8 hS8
          (try dsimp only at hS8)
          go_simp
        try simp only [Act.put, List.setIfInBounds_toArray, List.set_cons_zero, List.set_cons_succ]
        refine wpAnyH_take (i := 1) (oi := { dst := some 9, op := Go.Op.fieldAddr 80 (Go.Operand.tmp 2) 1, type := 0, pos := "l05_block.go:15", after := #[], guard := none }) (v := .pointer (some ⟨w.heap.size, 1, none⟩)) rfl (by kernel_rfl) (by kernel_rfl) (by kernel_rfl) (fun _ _ _ h => h) (Or.inl ⟨by rfl, ?_⟩) (by assumption) ?_
        · intro w8 hS8
          (try dsimp only at hS8)
          go_simp
        try simp only [Act.put, List.setIfInBounds_toArray, List.set_cons_zero, List.set_cons_succ]
        refine wpAnyH_take (i := 2) (oi := { dst := some 10, op := Go.Op.load 57 (Go.Operand.tmp 9), type := 57, pos := "l05_block.go:15", after := #[{ on := 1, ground := Go.Ground.data }], guard := none }) (v := .slice (some ⟨h, 0, none⟩) l.length cap) rfl (by kernel_rfl) (by kernel_rfl) (by kernel_rfl) (fun _ _ _ h => h) (Or.inl ⟨by rfl, ?_⟩) (by assumption) ?_
        · intro w8 hS8
          (try dsimp only at hS8)
          go_simp
        try simp only [Act.put, List.setIfInBounds_toArray, List.set_cons_zero, List.set_cons_succ]
        refine wpAnyH_take (i := 3) (oi := { dst := some 11, op := Go.Op.call { callee := Go.Callee.builtin Go.Builtin.len, args := #[Go.Operand.tmp 10], argTypes := #[57] }, type := 3, pos := "l05_block.go:15", after := #[{ on := 2, ground := Go.Ground.data }], guard := none }) (v := .int .i64 l.length) rfl (by kernel_rfl) (by kernel_rfl) (by kernel_rfl) (fun _ _ _ h => h) (Or.inl ⟨by rfl, ?_⟩) (by assumption) ?_
        · intro w8 hS8
          (try dsimp only at hS8)
          go_simp
        try simp only [Act.put, List.setIfInBounds_toArray, List.set_cons_zero, List.set_cons_succ]
        refine wpAnyH_take (i := 4) (oi := { dst := some 12, op := Go.Op.binOp BinOp.lss 3 (Go.Operand.tmp 8) (Go.Operand.tmp 11) 3, type := 4, pos := "l05_block.go:15", after := #[{ on := 0, ground := Go.Ground.data }, { on := 3, ground := Go.Ground.data }], guard := none }) (v := .bool false) rfl (by kernel_rfl) (by kernel_rfl) (by kernel_rfl) (fun _ _ _ h => h) (Or.inl ⟨by rfl, ?_⟩) (by assumption) ?_
        · intro w8 hS8
          (try dsimp only at hS8)
          go_simp
        try simp only [Act.put, List.setIfInBounds_toArray, List.set_cons_zero, List.set_cons_succ]
        refine wpAnyH_take (i := 5) (oi := { dst := some 13, op := Go.Op.move (Go.Operand.tmp 12), type := 4, pos := "l05_block.go:15", after := #[{ on := 4, ground := Go.Ground.data }], guard := none }) (v := .bool false) rfl (by kernel_rfl) (by kernel_rfl) (by kernel_rfl) (fun _ _ _ h => h) (Or.inl ⟨by rfl, ?_⟩) (by assumption) ?_
        · intro w8 hS8
          (try dsimp only at hS8)
          go_simp
        try simp only [Act.put, List.setIfInBounds_toArray, List.set_cons_zero, List.set_cons_succ]
        refine held_skip (i := 6) (oi := { dst := some 14, op := Go.Op.fieldAddr 80 (Go.Operand.tmp 2) 1, type := 0, pos := "l05_block.go:15", after := #[{ on := 5, ground := Go.Ground.guard }], guard := some (5, true) }) rfl (by kernel_rfl) (by kernel_rfl) (by kernel_rfl) (fun _ _ _ h => h) (by rfl) (by assumption) ?_
        try simp only [Act.put, List.setIfInBounds_toArray, List.set_cons_zero, List.set_cons_succ]
        refine held_skip (i := 7) (oi := { dst := some 15, op := Go.Op.load 57 (Go.Operand.tmp 14), type := 57, pos := "l05_block.go:15", after := #[{ on := 6, ground := Go.Ground.data }, { on := 5, ground := Go.Ground.guard }], guard := some (5, true) }) rfl (by kernel_rfl) (by kernel_rfl) (by kernel_rfl) (fun _ _ _ h => h) (by rfl) (by assumption) ?_
        try simp only [Act.put, List.setIfInBounds_toArray, List.set_cons_zero, List.set_cons_succ]
        refine held_skip (i := 8) (oi := { dst := some 16, op := Go.Op.move (Go.Operand.tmp 6), type := 3, pos := "l05_block.go:15", after := #[{ on := 5, ground := Go.Ground.guard }], guard := some (5, true) }) rfl (by kernel_rfl) (by kernel_rfl) (by kernel_rfl) (fun _ _ _ h => h) (by rfl) (by assumption) ?_
        try simp only [Act.put, List.setIfInBounds_toArray, List.set_cons_zero, List.set_cons_succ]
        refine held_skip (i := 9) (oi := { dst := some 17, op := Go.Op.indexAddr 57 (Go.Operand.tmp 15) (Go.Operand.tmp 16), type := 0, pos := "l05_block.go:15", after := #[{ on := 7, ground := Go.Ground.data }, { on := 8, ground := Go.Ground.data }, { on := 5, ground := Go.Ground.guard }], guard := some (5, true) }) rfl (by kernel_rfl) (by kernel_rfl) (by kernel_rfl) (fun _ _ _ h => h) (by rfl) (by assumption) ?_
        try simp only [Act.put, List.setIfInBounds_toArray, List.set_cons_zero, List.set_cons_succ]
        refine held_skip (i := 10) (oi := { dst := some 18, op := Go.Op.fieldAddr 36 (Go.Operand.tmp 17) 0, type := 0, pos := "l05_block.go:15", after := #[{ on := 9, ground := Go.Ground.data }, { on := 5, ground := Go.Ground.guard }], guard := some (5, true) }) rfl (by kernel_rfl) (by kernel_rfl) (by kernel_rfl) (fun _ _ _ h => h) (by rfl) (by assumption) ?_
        try simp only [Act.put, List.setIfInBounds_toArray, List.set_cons_zero, List.set_cons_succ]
        refine held_skip (i := 11) (oi := { dst := some 19, op := Go.Op.load 3 (Go.Operand.tmp 18), type := 3, pos := "l05_block.go:15", after := #[{ on := 10, ground := Go.Ground.data }, { on := 5, ground := Go.Ground.guard }], guard := some (5, true) }) rfl (by kernel_rfl) (by kernel_rfl) (by kernel_rfl) (fun _ _ _ h => h) (by rfl) (by assumption) ?_
        try simp only [Act.put, List.setIfInBounds_toArray, List.set_cons_zero, List.set_cons_succ]
        refine held_skip (i := 12) (oi := { dst := some 20, op := Go.Op.fieldAddr 36 (Go.Operand.tmp 3) 0, type := 0, pos := "l05_block.go:15", after := #[{ on := 5, ground := Go.Ground.guard }], guard := some (5, true) }) rfl (by kernel_rfl) (by kernel_rfl) (by kernel_rfl) (fun _ _ _ h => h) (by rfl) (by assumption) ?_
        try simp only [Act.put, List.setIfInBounds_toArray, List.set_cons_zero, List.set_cons_succ]
        refine held_skip (i := 13) (oi := { dst := some 21, op := Go.Op.load 3 (Go.Operand.tmp 20), type := 3, pos := "l05_block.go:15", after := #[{ on := 12, ground := Go.Ground.data }, { on := 5, ground := Go.Ground.guard }], guard := some (5, true) }) rfl (by kernel_rfl) (by kernel_rfl) (by kernel_rfl) (fun _ _ _ h => h) (by rfl) (by assumption) ?_
        try simp only [Act.put, List.setIfInBounds_toArray, List.set_cons_zero, List.set_cons_succ]
        refine held_skip (i := 14) (oi := { dst := some 22, op := Go.Op.binOp BinOp.lss 3 (Go.Operand.tmp 19) (Go.Operand.tmp 21) 3, type := 4, pos := "l05_block.go:15", after := #[{ on := 11, ground := Go.Ground.data }, { on := 13, ground := Go.Ground.data }, { on := 5, ground := Go.Ground.guard }], guard := some (5, true) }) rfl (by kernel_rfl) (by kernel_rfl) (by kernel_rfl) (fun _ _ _ h => h) (by rfl) (by assumption) ?_
        try simp only [Act.put, List.setIfInBounds_toArray, List.set_cons_zero, List.set_cons_succ]
        refine wpAnyH_take (i := 15) (oi := { dst := some 23, op := Go.Op.pick (Go.Operand.tmp 13) (Go.Operand.tmp 22) (Go.Operand.const (Go.Value.bool false)), type := 4, pos := "l05_block.go:15", after := #[{ on := 5, ground := Go.Ground.data }, { on := 14, ground := Go.Ground.data }], guard := none }) (v := .bool false) rfl (by kernel_rfl) (by kernel_rfl) (by kernel_rfl) (fun _ _ _ h => h) (Or.inl ⟨by rfl, ?_⟩) (by assumption) ?_
        · intro w8 hS8
          (try dsimp only at hS8)
          go_simp
        try simp only [Act.put, List.setIfInBounds_toArray, List.set_cons_zero, List.set_cons_succ]
        refine wpAnyH_done (by kernel_rfl) ?_ _
        go_wp2_with fail
        go_meet
        exact ⟨by rw [← HE.out], HK.out.drew⟩
  case rest =>
    obtain ⟨rfl, K1⟩ := hcut
    have hp := posL_le r.i l
    obtain ⟨p, hpp⟩ : ∃ p, p = posL r.i l := ⟨_, rfl⟩
    rw [← hpp] at hp
    have SA := Lib.hid ((RowsVal.src (c := cap) (o := 0) (m := p) HV.out (by omega)).keep K1.1)
    have SB := Lib.hid ((RowsVal.tail (c := cap - p) (p := p) (cap := cap) HV.out (by omega) hcap).keep K1.1)
    rw [List.drop_zero, Nat.zero_mul] at SA
    have LA : (l.take p).length = p := by rw [List.length_take]; omega
    have LB : (l.drop p).length = l.length - p := List.length_drop ..
    have EA : l.take p ++ [r] ++ l.drop p = addL l r := by rw [hpp]; unfold addL; rw [List.append_assoc]
    have HPP := Lib.hid hpp
    rw [← hpp]
    have HEA := Lib.hid EA
    have HLA := Lib.hid LA
    have HLB := Lib.hid LB
    clear hpp EA LA LB
    have i1 : (p : Int) ≤ (l.length : Int) := by omega
    have i2 : (p : Int) ≤ (cap : Int) := by omega
    have i3 : (l.length : Int) ≤ (cap : Int) := by omega
    have i4 : (0 : Int) ≤ (p : Int) := by omega
    have z2 : w.heap.size + 1 + 1 < wc.heap.size := K1.lt 0 rfl
    have KB := Lib.hid K1.base
    go_upto_region 4 with fail
    go_cut [7] (fun s7 wx => MidBox id (l.length + 1) (addL l r) w wx (w.heap.size + 1 + 1 + 1) [(⟨w.heap.size + 1 + 1, 0, none⟩, .int .i64 0), (⟨w.heap.size + 1 + 1, 1, none⟩, .slice none 0 0), (⟨w.heap.size + 1, 0, none⟩, .int .i64 r.i), (⟨w.heap.size + 1, 1, none⟩, .int .i64 r.g), (⟨w.heap.size + 1, 2, none⟩, .int .i64 r.y), (⟨w.heap.size + 1, 3, none⟩, .int .i64 r.x), (⟨w.heap.size + 1, 4, none⟩, .bool r.nl), (⟨w.heap.size, 0, none⟩, .int .i64 id), (⟨w.heap.size, 1, none⟩, .slice (some ⟨h, 0, none⟩) l.length cap)] s7)
    case first =>
      obtain ⟨e0, e1, e2, e3, e4, e5, e6⟩ := c9k K1 (Below.refl _ _)
      go_region_held3 (fun w' => w'.cell? ⟨w.heap.size + 1, 0, none⟩ = some (.int .i64 r.i) ∧ w'.cell? ⟨w.heap.size + 1, 1, none⟩ = some (.int .i64 r.g) ∧ w'.cell? ⟨w.heap.size + 1, 2, none⟩ = some (.int .i64 r.y) ∧ w'.cell? ⟨w.heap.size + 1, 3, none⟩ = some (.int .i64 r.x) ∧ w'.cell? ⟨w.heap.size + 1, 4, none⟩ = some (.bool r.nl) ∧ w'.cell? ⟨w.heap.size, 0, none⟩ = some (.int .i64 id) ∧ w'.cell? ⟨w.heap.size, 1, none⟩ = some (.slice (some ⟨h, 0, none⟩) l.length cap)) (first | assumption | exact ⟨e0, e1, e2, e3, e4, e5, e6⟩ | exact c9a (by assumption) | exact c9k K1 KO1.1.1 | exact c9k K1 KO2.1.1 | exact c9k K1 KO3.1.1 | exact c9a (c9k K1 KO3.1.1) | exact c9s (c9k K1 KO3.1.1) (by simp only; omega) (by simp only; omega) (by simp only; omega) (by simp only; omega) (by simp only; omega) (by simp only; omega) (by simp only; omega) | exact c9s (by assumption) (by simp only; omega) (by simp only; omega) (by simp only; omega) (by simp only; omega) (by simp only; omega) (by simp only; omega) (by simp only; omega)) (first | (apply step_append_ko (W := wc) (s := Operand.tmp 28) (x := Operand.tmp 32) rfl rfl (B := wc.heap.size) (rows := []) (news := l.take p) rfl rfl; (· repeat' (first | (with_reducible apply KO.drew) | (with_reducible apply KO.alloc5 (hN := rfl)) | (with_reducible apply KO.alloc2 (hN := rfl)) | (apply KO.lit <;> first | omega | (simp; done) | skip) | with_reducible exact KB.out | (with_reducible apply Kept.drew) | (with_reducible apply Kept.alloc5 (hB := rfl)) | (with_reducible apply Kept.alloc2 (hB := rfl)))); (· exact SA.out.keep (by repeat' (first | (with_reducible exact (Below.refl _ _)) | (with_reducible refine Below.drew ?_) | (refine Below.alloc ?_ (by (try simp only [World.size_alloc, World.size_drew]); omega) _)))); (· simp [HLA.out, HLB.out]; omega); (· exact Nat.le_refl _); (· (try simp only [World.size_alloc, World.size_drew]); omega); intro v1 w1 KO1; (try simp only [World.size_alloc, World.size_drew, List.nil_append] at KO1); (try have y0 := KO1.1.get 0 rfl); (try have y1 := KO1.1.get 1 rfl); (try have y2 := KO1.1.get 2 rfl); (try have y3 := KO1.1.get 3 rfl); (try have y4 := KO1.1.get 4 rfl); (try have y5 := KO1.1.get 5 rfl); (try have y6 := KO1.1.get 6 rfl); (try have y7 := KO1.1.get 7 rfl); (try have y8 := KO1.1.get 8 rfl); (try have y9 := KO1.1.get 9 rfl); (try have y10 := KO1.1.get 10 rfl); (try have y11 := KO1.1.get 11 rfl); (try have y12 := KO1.1.get 12 rfl); (try have y13 := KO1.1.get 13 rfl); (try have y14 := KO1.1.get 14 rfl); (try have y15 := KO1.1.get 15 rfl); have zz1 := KO1.1.1.size) | (apply step_append_ko (W := wc) (s := Operand.tmp 33) (x := Operand.tmp 35) rfl rfl (B := wc.heap.size) (rows := (l.take p)) (news := [r]) rfl rfl; (· repeat' (first | (with_reducible apply KO.drew) | (with_reducible apply KO.alloc5 (hN := rfl)) | (with_reducible apply KO.alloc2 (hN := rfl)) | exact KO1)); (· exact SrcR.cells (by first | (with_reducible assumption) | (with_reducible exact cell_alloc_some _ (by assumption)) | (with_reducible exact cell_alloc_some _ (cell_alloc_some _ (by assumption))) | (go_simp; done)) (by first | (with_reducible assumption) | (with_reducible exact cell_alloc_some _ (by assumption)) | (with_reducible exact cell_alloc_some _ (cell_alloc_some _ (by assumption))) | (go_simp; done)) (by first | (with_reducible assumption) | (with_reducible exact cell_alloc_some _ (by assumption)) | (with_reducible exact cell_alloc_some _ (cell_alloc_some _ (by assumption))) | (go_simp; done)) (by first | (with_reducible assumption) | (with_reducible exact cell_alloc_some _ (by assumption)) | (with_reducible exact cell_alloc_some _ (cell_alloc_some _ (by assumption))) | (go_simp; done)) (by first | (with_reducible assumption) | (with_reducible exact cell_alloc_some _ (by assumption)) | (with_reducible exact cell_alloc_some _ (cell_alloc_some _ (by assumption))) | (go_simp; done))); (· simp [HLA.out, HLB.out]; omega); (· exact Nat.le_refl _); (· (try simp only [World.size_alloc, World.size_drew]); omega); intro v2 w2 KO2; (try simp only [World.size_alloc, World.size_drew, List.nil_append] at KO2); (try have y0 := KO2.1.get 0 rfl); (try have y1 := KO2.1.get 1 rfl); (try have y2 := KO2.1.get 2 rfl); (try have y3 := KO2.1.get 3 rfl); (try have y4 := KO2.1.get 4 rfl); (try have y5 := KO2.1.get 5 rfl); (try have y6 := KO2.1.get 6 rfl); (try have y7 := KO2.1.get 7 rfl); (try have y8 := KO2.1.get 8 rfl); (try have y9 := KO2.1.get 9 rfl); (try have y10 := KO2.1.get 10 rfl); (try have y11 := KO2.1.get 11 rfl); (try have y12 := KO2.1.get 12 rfl); (try have y13 := KO2.1.get 13 rfl); (try have y14 := KO2.1.get 14 rfl); (try have y15 := KO2.1.get 15 rfl); have zz2 := KO2.1.1.size) | (apply step_append_ko (W := wc) (s := Operand.tmp 36) (x := Operand.tmp 40) rfl rfl (B := wc.heap.size) (rows := (l.take p ++ [r])) (news := (l.drop p)) rfl rfl; (· repeat' (first | (with_reducible apply KO.drew) | (with_reducible apply KO.alloc5 (hN := rfl)) | (with_reducible apply KO.alloc2 (hN := rfl)) | exact KO2)); (· exact SB.out.keep (by repeat' (first | (exact KO2.1.1) | (with_reducible exact (Below.refl _ _)) | (with_reducible refine Below.drew ?_) | (refine Below.alloc ?_ (by (try simp only [World.size_alloc, World.size_drew]); omega) _)))); (· simp [HLA.out, HLB.out]; omega); (· exact Nat.le_refl _); (· (try simp only [World.size_alloc, World.size_drew]); omega); intro v3 w3 KO3; (try simp only [World.size_alloc, World.size_drew, List.nil_append] at KO3); (try have y0 := KO3.1.get 0 rfl); (try have y1 := KO3.1.get 1 rfl); (try have y2 := KO3.1.get 2 rfl); (try have y3 := KO3.1.get 3 rfl); (try have y4 := KO3.1.get 4 rfl); (try have y5 := KO3.1.get 5 rfl); (try have y6 := KO3.1.get 6 rfl); (try have y7 := KO3.1.get 7 rfl); (try have y8 := KO3.1.get 8 rfl); (try have y9 := KO3.1.get 9 rfl); (try have y10 := KO3.1.get 10 rfl); (try have y11 := KO3.1.get 11 rfl); (try have y12 := KO3.1.get 12 rfl); (try have y13 := KO3.1.get 13 rfl); (try have y14 := KO3.1.get 14 rfl); (try have y15 := KO3.1.get 15 rfl); have zz3 := KO3.1.1.size; obtain ⟨ao3, cap3, hv3⟩ := KO3.2.1.shape; subst hv3; (try have f0 := KO3.1.fz 0 rfl); (try have f1 := KO3.1.fz 1 rfl); (try have f2 := KO3.1.fz 2 rfl); (try have f3 := KO3.1.fz 3 rfl); (try have f4 := KO3.1.fz 4 rfl); (try have f5 := KO3.1.fz 5 rfl); (try have f6 := KO3.1.fz 6 rfl)))
      all_goals
        have e1 : (l.take p ++ [r] ++ l.drop p).length = p + (l.length - p + 1) := by simp only [List.length_append, HLA.out, HLB.out, List.length_cons, List.length_nil]; omega
        rw [e1, HEA.out] at KO3
        clear e1
        (dsimp only [Exit.then]; go_step; go_meet)
        first | exact (midBox_alloc K1 z2 KO3 _ rfl).cast (by omega) | exact (midBox_set K1 z2 KO3 _ (.int .i64 0) (.slice none 0 0) (by simp) (by simp) (by omega)).cast (by omega)
    case rest =>
      obtain ⟨g7, ao', cap', rfl, hg7, K2, O2⟩ := hcut
      obtain ⟨fp, RX, hfp, hnd⟩ := O2.rep
      have hlen : (addL l r).length = l.length + 1 := addL_len l r
      have HRX := Lib.hid RX
      clear RX O2 HEA HLA HLB SA SB
      have SC := Lib.hid (RowsVal.src (c := cap) (o := 0) (m := l.length) HV.out (by omega))
      rw [List.drop_zero, List.take_length, Nat.zero_mul] at SC
      have D1 := fun w hV => spec_bvV id (some ⟨h, 0, none⟩) l.length cap (Rn l) w hn hV
      obtain ⟨q1, hq1⟩ : ∃ q, q = blkB id l.length (Rn l) := ⟨_, rfl⟩
      rw [← hq1] at D1
      have HQ1 := Lib.hid (show q1 = blkL id l from hq1)
      have DD1 := Lib.hid D1
      clear D1 hq1
      have b0 := K2.get 9 rfl
      have b1 := K2.get 10 rfl
      go_wp2_with fail
      refine (DD1.out _ (HV.out.below K2.1)).mono ?_
      rintro e w4 ⟨rfl, hb⟩
      have K4 := K2.step hb
      have R4 := Lib.hid (HRX.out.step hb)
      clear hb K2 HRX b0 b1
      cases q1
      · have AN := Lib.hid (show addOk id l r = false by unfold addOk; rw [← HQ1.out]; rfl)
        have b0 := K4.get 9 rfl
        have b1 := K4.get 10 rfl
        have SC4 := Lib.hid (SC.out.keep K4.1)
        go_wp2_with fail
        refine (spec_copy id _ cap l _ hn SC4.out).mono ?_
        rintro e w8 ⟨v8, fp8, rfl, hs8, hf8, hn8, hb⟩
        obtain ⟨ao8, cap8, rfl⟩ := hs8.val
        have K8 := K4.step hb
        have HB8 : Hid (w.heap.size + 1 + 1 < w4.heap.size) := (show _ < _ from K4.lt 2 rfl)
        clear hb K4
        have c0 := K8.get 2 rfl
        have c1 := K8.get 3 rfl
        have e0 := K8.fz 2 rfl
        have e1 := K8.fz 3 rfl
        have K6 := (K8.sub (l' := [(⟨w.heap.size + 1 + 1, 0, none⟩, .int .i64 0), (⟨w.heap.size + 1 + 1, 1, none⟩, .slice none 0 0)]) (by intro p9 hp9; simp only [List.mem_cons, List.not_mem_nil, or_false] at hp9; rcases hp9 with rfl | rfl <;> simp)).set2 (.int .i64 id) (.slice ao8 l.length cap8) (by omega) (by simp)
        have R6 := Lib.hid ((hs8.set ⟨w.heap.size + 1 + 1, 0, none⟩ (.int .i64 id) (fun k hk => by have := hf8 k hk; have := HB8.out; simp only; omega)).set ⟨w.heap.size + 1 + 1, 1, none⟩ (.slice ao8 l.length cap8) (fun k hk => by have := hf8 k hk; have := HB8.out; simp only; omega))
        have HF8 := Lib.hid hf8
        have r0 := K6.get 0 rfl
        have r1 := K6.get 1 rfl
        have yy := K6.lt 0 rfl
        clear K8 hs8 hf8
        go_wp2
        exact bodyPost_ret (v := .tuple #[.agg #[.int .i64 id, .slice ao8 l.length cap8], .bool false]) (by simp [results, Try.results129, go_sem, r0, r1, yy]) rfl (by rw [AN.out]; exact ⟨_, fp8, rfl, by unfold addAns; rw [if_neg (by rw [AN.out]; simp)]; exact R6.out, fun k hk => by have := HF8.out k hk; have := HB8.out; omega, hn8, K6.1⟩)
      · have hl6 : l.length ≤ 6 := (blkL_of HQ1.out.symm).2.2
        have D2 := fun w hV => spec_bvV id ao' (l.length + 1) cap' (Rn (addL l r)) w (by omega) hV
        obtain ⟨q2, hq2⟩ : ∃ q, q = blkB id (l.length + 1) (Rn (addL l r)) := ⟨_, rfl⟩
        rw [← hq2] at D2
        have HQ2 := Lib.hid (show q2 = blkL id (addL l r) by unfold blkL; rw [hlen]; exact hq2)
        have DD2 := Lib.hid D2
        clear D2 hq2
        have x0 := K4.get 0 rfl
        have x1 := K4.get 1 rfl
        have hV4 : RowsVal w4 ao' (l.length + 1) (Rn (addL l r)) := by
          obtain ⟨ao5, cap5, e5, _, hV5⟩ := rows_open R4.out
          rw [hlen] at e5 hV5
          simp only [Value.slice.injEq, true_and] at e5
          rw [e5.1]; exact hV5
        have HV4 := Lib.hid hV4
        clear hV4
        go_wp2_with fail
        refine (DD2.out _ HV4.out).mono ?_
        rintro e w5 ⟨rfl, hb⟩
        have K5 := K4.step hb
        have R5 := Lib.hid (R4.out.step hb)
        clear hb K4 R4 x0 x1 HV4
        cases q2
        · have AN := Lib.hid (show addOk id l r = false by unfold addOk; rw [← HQ2.out]; simp)
          have b0 := K5.get 9 rfl
          have b1 := K5.get 10 rfl
          have SC4 := Lib.hid (SC.out.keep K5.1)
          go_wp2_with fail
          refine (spec_copy id _ cap l _ hn SC4.out).mono ?_
          rintro e w8 ⟨v8, fp8, rfl, hs8, hf8, hn8, hb⟩
          obtain ⟨ao8, cap8, rfl⟩ := hs8.val
          have K8 := K5.step hb
          have HB8 : Hid (w.heap.size + 1 + 1 < w5.heap.size) := (show _ < _ from K5.lt 2 rfl)
          clear hb K5
          have c0 := K8.get 2 rfl
          have c1 := K8.get 3 rfl
          have e0 := K8.fz 2 rfl
          have e1 := K8.fz 3 rfl
          have K6 := (K8.sub (l' := [(⟨w.heap.size + 1 + 1, 0, none⟩, .int .i64 0), (⟨w.heap.size + 1 + 1, 1, none⟩, .slice none 0 0)]) (by intro p9 hp9; simp only [List.mem_cons, List.not_mem_nil, or_false] at hp9; rcases hp9 with rfl | rfl <;> simp)).set2 (.int .i64 id) (.slice ao8 l.length cap8) (by omega) (by simp)
          have R6 := Lib.hid ((hs8.set ⟨w.heap.size + 1 + 1, 0, none⟩ (.int .i64 id) (fun k hk => by have := hf8 k hk; have := HB8.out; simp only; omega)).set ⟨w.heap.size + 1 + 1, 1, none⟩ (.slice ao8 l.length cap8) (fun k hk => by have := hf8 k hk; have := HB8.out; simp only; omega))
          have HF8 := Lib.hid hf8
          have r0 := K6.get 0 rfl
          have r1 := K6.get 1 rfl
          have yy := K6.lt 0 rfl
          clear K8 hs8 hf8
          go_wp2
          exact bodyPost_ret (v := .tuple #[.agg #[.int .i64 id, .slice ao8 l.length cap8], .bool false]) (by simp [results, Try.results129, go_sem, r0, r1, yy]) rfl (by rw [AN.out]; exact ⟨_, fp8, rfl, by unfold addAns; rw [if_neg (by rw [AN.out]; simp)]; exact R6.out, fun k hk => by have := HF8.out k hk; have := HB8.out; omega, hn8, K6.1⟩)
        · have AN := Lib.hid (show addOk id l r = true by unfold addOk; rw [← HQ1.out, ← HQ2.out]; rfl)
          have x0 := K5.get 0 rfl
          have x1 := K5.get 1 rfl
          have c0 := K5.get 2 rfl
          have c1 := K5.get 3 rfl
          have e0 := K5.fz 2 rfl
          have e1 := K5.fz 3 rfl
          have K6 := (K5.sub (l' := [(⟨w.heap.size + 1 + 1, 0, none⟩, .int .i64 0), (⟨w.heap.size + 1 + 1, 1, none⟩, .slice none 0 0)]) (by intro p9 hp9; simp only [List.mem_cons, List.not_mem_nil, or_false] at hp9; rcases hp9 with rfl | rfl <;> simp)).set2 (.int .i64 id) (.slice ao' (l.length + 1) cap') (by omega) (by simp)
          have R6 := Lib.hid ((R5.out.set ⟨w.heap.size + 1 + 1, 0, none⟩ (.int .i64 id) (fun k hk => by have := hfp k hk; simp only; omega)).set ⟨w.heap.size + 1 + 1, 1, none⟩ (.slice ao' (l.length + 1) cap') (fun k hk => by have := hfp k hk; simp only; omega))
          have r0 := K6.get 0 rfl
          have r1 := K6.get 1 rfl
          have yy := K6.lt 0 rfl
          clear K5 R5
          go_wp2
          exact bodyPost_ret (v := .tuple #[.agg #[.int .i64 id, .slice ao' (l.length + 1) cap'], .bool true]) (by simp [results, Try.results129, go_sem, r0, r1, yy]) rfl (by rw [AN.out]; exact ⟨_, fp, rfl, by unfold addAns; rw [if_pos AN.out]; exact R6.out, fun k hk => by have := hfp k hk; omega, hnd, K6.1⟩)
end Go.Proofs.Ytcfcohnkkgickaa
