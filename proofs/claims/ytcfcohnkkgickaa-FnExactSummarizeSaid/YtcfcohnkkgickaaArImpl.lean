/-
  The walk over the project's AreRows.
-/
import Derived.Test.YtcfcohnkkgickaaRows
import Derived.Test.YtcfcohnkkgickaaArSpec
import Derived.Test.YtcfcohnkkgickaaRvImpl
namespace Go.Proofs.Ytcfcohnkkgickaa
open Go.RowKit Num

/-- A row's box: block B. -/
def box5 (B : Nat) (r : Rw) : List (Addr × Value) := [(⟨B, 0, none⟩, .int .i64 r.i), (⟨B, 1, none⟩, .int .i64 r.g), (⟨B, 2, none⟩, .int .i64 r.y), (⟨B, 3, none⟩, .int .i64 r.x), (⟨B, 4, none⟩, .bool r.nl)]
theorem b5_start {W w : World} {B : Nat} {r : Rw} (h : Kept W w (box5 B r)) :
    w.drew.cell? ⟨B, 0, none⟩ = some (.int .i64 r.i) ∧ w.drew.cell? ⟨B, 1, none⟩ = some (.int .i64 r.g) ∧ w.drew.cell? ⟨B, 2, none⟩ = some (.int .i64 r.y) ∧ w.drew.cell? ⟨B, 3, none⟩ = some (.int .i64 r.x) ∧ w.drew.cell? ⟨B, 4, none⟩ = some (.bool r.nl) ∧ Kept W w.drew (box5 B r) :=
  have k := h.drew
  ⟨k.get 0 rfl, k.get 1 rfl, k.get 2 rfl, k.get 3 rfl, k.get 4 rfl, k⟩
theorem b5_keep {W w w' : World} {B : Nat} {r : Rw} (h : w.cell? ⟨B, 0, none⟩ = some (.int .i64 r.i) ∧ w.cell? ⟨B, 1, none⟩ = some (.int .i64 r.g) ∧ w.cell? ⟨B, 2, none⟩ = some (.int .i64 r.y) ∧ w.cell? ⟨B, 3, none⟩ = some (.int .i64 r.x) ∧ w.cell? ⟨B, 4, none⟩ = some (.bool r.nl) ∧ Kept W w (box5 B r)) (hb : Below w.heap.size w w') :
    w'.cell? ⟨B, 0, none⟩ = some (.int .i64 r.i) ∧ w'.cell? ⟨B, 1, none⟩ = some (.int .i64 r.g) ∧ w'.cell? ⟨B, 2, none⟩ = some (.int .i64 r.y) ∧ w'.cell? ⟨B, 3, none⟩ = some (.int .i64 r.x) ∧ w'.cell? ⟨B, 4, none⟩ = some (.bool r.nl) ∧ Kept W w' (box5 B r) :=
  have k := h.2.2.2.2.2.step hb
  ⟨k.get 0 rfl, k.get 1 rfl, k.get 2 rfl, k.get 3 rfl, k.get 4 rfl, k⟩
theorem b6_start {W w : World} {B : Nat} {r : Rw} {a : Addr} {v : Value} (h : Kept W w (box5 B r)) (ha : w.cell? a = some v) :
    w.drew.cell? ⟨B, 0, none⟩ = some (.int .i64 r.i) ∧ w.drew.cell? ⟨B, 1, none⟩ = some (.int .i64 r.g) ∧ w.drew.cell? ⟨B, 2, none⟩ = some (.int .i64 r.y) ∧ w.drew.cell? ⟨B, 3, none⟩ = some (.int .i64 r.x) ∧ w.drew.cell? ⟨B, 4, none⟩ = some (.bool r.nl) ∧ w.drew.cell? a = some v ∧ Kept W w.drew (box5 B r) :=
  have k := h.drew
  ⟨k.get 0 rfl, k.get 1 rfl, k.get 2 rfl, k.get 3 rfl, k.get 4 rfl, ha, k⟩
theorem b6_keep {W w w' : World} {B : Nat} {r : Rw} {a : Addr} {v : Value} (h : w.cell? ⟨B, 0, none⟩ = some (.int .i64 r.i) ∧ w.cell? ⟨B, 1, none⟩ = some (.int .i64 r.g) ∧ w.cell? ⟨B, 2, none⟩ = some (.int .i64 r.y) ∧ w.cell? ⟨B, 3, none⟩ = some (.int .i64 r.x) ∧ w.cell? ⟨B, 4, none⟩ = some (.bool r.nl) ∧ w.cell? a = some v ∧ Kept W w (box5 B r)) (hb : Below w.heap.size w w') :
    w'.cell? ⟨B, 0, none⟩ = some (.int .i64 r.i) ∧ w'.cell? ⟨B, 1, none⟩ = some (.int .i64 r.g) ∧ w'.cell? ⟨B, 2, none⟩ = some (.int .i64 r.y) ∧ w'.cell? ⟨B, 3, none⟩ = some (.int .i64 r.x) ∧ w'.cell? ⟨B, 4, none⟩ = some (.bool r.nl) ∧ w'.cell? a = some v ∧ Kept W w' (box5 B r) :=
  have k := h.2.2.2.2.2.2.step hb
  ⟨k.get 0 rfl, k.get 1 rfl, k.get 2 rfl, k.get 3 rfl, k.get 4 rfl, by rw [hb.cell (World.block_lt_of_cell? w _ h.2.2.2.2.2.1)]; exact h.2.2.2.2.2.1, k⟩

set_option maxRecDepth 8000 in
set_option maxHeartbeats 6400000 in
theorem impl_arV (ao : Option Addr) (n cap : Nat) (R : Nat → Rw) (w : World) (hn : n ≤ 1048576) (hV : RowsVal w ao n R) :
    Calls Try.prog 143 #[.slice ao n cap] w fun e w' => e = .returned (.bool (areB R n)) ∧ Below w.heap.size w w' := by
  have HO := Lib.hid hV
  clear hV
  have hnI : (n : Int) ≤ 1048576 := by omega
  go_enter Try.func143, Try.ntmps143
  go_wp2_with fail
  go_loopw [7] (fun iv wr => ∃ k : Nat, k ≤ n ∧ iv = .int .i64 k ∧ Hid (areB R k = true) ∧ Hid (Below w.heap.size w wr)) (fun iv _ => n - (intOf iv).toNat)
  case atStart => exact ⟨0, Nat.zero_le _, rfl, rfl, Below.refl _ _⟩
  case round =>
    obtain ⟨k, hk, rfl, HA, HB⟩ := hrel
    by_cases hlt : k < n
    · have hkI : (k : Int) < (n : Int) := by omega
      obtain ⟨g, rfl, hg, hR⟩ : ∃ g, ao = some ⟨g, 0, none⟩ ∧ g < w.heap.size ∧ ∀ k, k < n → RowIn w g k (R k) := HO.out.resolve_left (by omega)
      have HR := Lib.hid hR
      clear hR
      obtain ⟨c0, c1, c2, c3, c4⟩ := (HR.out k hlt).below HB.out hg
      have hgr : g < wr.heap.size := Nat.lt_of_lt_of_le hg HB.out.size
      have K0 : Kept w (wr.alloc (.cells #[.int .i64 (R k).i, .int .i64 (R k).g, .int .i64 (R k).y, .int .i64 (R k).x, .bool (R k).nl] 36)) (box5 wr.heap.size (R k)) := Kept.alloc5 (show Kept w wr [] from ⟨HB.out, fun _ h => by cases h⟩) _ _ _ _ _ _ _ rfl
      have HK := Lib.hid K0
      clear K0
      cases hv : (R k).ok
      · have AN := Lib.hid (areB_bad hlt hv)
        have D0 := fun w => impl_rv (R k).i (R k).g (R k).y (R k).x (R k).nl w
        unfold Rw.ok at hv
        rw [hv] at D0
        have DV := Lib.hid D0
        clear D0 hv
        go_wp2_with fail
        refine wp_region_held_drew (S := fun w' => w'.cell? ⟨wr.heap.size, 0, none⟩ = some (.int .i64 (R k).i) ∧ w'.cell? ⟨wr.heap.size, 1, none⟩ = some (.int .i64 (R k).g) ∧ w'.cell? ⟨wr.heap.size, 2, none⟩ = some (.int .i64 (R k).y) ∧ w'.cell? ⟨wr.heap.size, 3, none⟩ = some (.int .i64 (R k).x) ∧ w'.cell? ⟨wr.heap.size, 4, none⟩ = some (.bool (R k).nl) ∧ Kept w w' (box5 wr.heap.size (R k))) (by kernel_rfl) (b5_start HK.out) (fun hHeld => ?_)
        refine wpAnyH_take (i := 0) (oi := { dst := some 12, op := Go.Op.load 36 (Go.Operand.tmp 4), type := 36, pos := "l04_row.go:100", after := #[], guard := none }) (v := .agg #[.int .i64 (R k).i, .int .i64 (R k).g, .int .i64 (R k).y, .int .i64 (R k).x, .bool (R k).nl]) rfl (by kernel_rfl) (by kernel_rfl) (by kernel_rfl) (fun _ _ _ h => h) (Or.inl ⟨by rfl, ?_⟩) (by assumption) ?_
        · intro w8 hS8
          (try dsimp only at hS8)
          go_simp
        try simp only [Act.put, List.setIfInBounds_toArray, List.set_cons_zero, List.set_cons_succ]
        refine wpAnyH_ready (rs := [1]) (by kernel_rfl) (by simp) ?_
        refine AllReadyH.cons (o := { dst := some 13, op := Go.Op.call { callee := Go.Callee.value (Go.Operand.func 96), args := #[Go.Operand.tmp 12], argTypes := #[36] }, type := 4, pos := "l04_row.go:100", after := #[{ on := 0, ground := Go.Ground.data }], guard := none }) rfl (fun K hK => ?_) AllReadyH.nil
        go_simp
        go_at_call 96
        (with_reducible refine (DV.out _).mono ?_)
        rintro e9 w9 ⟨rfl, hb⟩
        refine hK.out _ _ ?_ (fun hH1 => ?_)
        · exact b5_keep hHeld hb
        clear hK K
        try simp only [Act.put, List.setIfInBounds_toArray, List.set_cons_zero, List.set_cons_succ]
        refine wpAnyH_take (i := 2) (oi := { dst := some 14, op := Go.Op.unOp UnOp.not 4 (Go.Operand.tmp 13), type := 4, pos := "l04_row.go:100", after := #[{ on := 1, ground := Go.Ground.data }], guard := none }) (v := .bool true) rfl (by kernel_rfl) (by kernel_rfl) (by kernel_rfl) (fun _ _ _ h => h) (Or.inl ⟨by rfl, ?_⟩) (by assumption) ?_
        · intro w8 hS8
          (try dsimp only at hS8)
          go_simp
        try simp only [Act.put, List.setIfInBounds_toArray, List.set_cons_zero, List.set_cons_succ]
        refine wpAnyH_take (i := 3) (oi := { dst := some 15, op := Go.Op.move (Go.Operand.tmp 14), type := 4, pos := "l04_row.go:100", after := #[{ on := 2, ground := Go.Ground.data }, { on := 1, ground := Go.Ground.chain }], guard := none }) (v := .bool true) rfl (by kernel_rfl) (by kernel_rfl) (by kernel_rfl) (fun _ _ _ h => h) (Or.inl ⟨by rfl, ?_⟩) (by assumption) ?_
        · intro w8 hS8
          (try dsimp only at hS8)
          go_simp
        try simp only [Act.put, List.setIfInBounds_toArray, List.set_cons_zero, List.set_cons_succ]
        refine held_skip (i := 4) (oi := { dst := some 16, op := Go.Op.move (Go.Operand.tmp 3), type := 3, pos := "l04_row.go:100", after := #[{ on := 3, ground := Go.Ground.guard }], guard := some (3, false) }) rfl (by kernel_rfl) (by kernel_rfl) (by kernel_rfl) (fun _ _ _ h => h) (by rfl) (by assumption) ?_
        try simp only [Act.put, List.setIfInBounds_toArray, List.set_cons_zero, List.set_cons_succ]
        refine held_skip (i := 5) (oi := { dst := some 17, op := Go.Op.binOp BinOp.gtr 3 (Go.Operand.tmp 16) (Go.Operand.const (Go.Value.int Go.IntKind.i64 0)) 3, type := 4, pos := "l04_row.go:100", after := #[{ on := 4, ground := Go.Ground.data }, { on := 3, ground := Go.Ground.guard }], guard := some (3, false) }) rfl (by kernel_rfl) (by kernel_rfl) (by kernel_rfl) (fun _ _ _ h => h) (by rfl) (by assumption) ?_
        try simp only [Act.put, List.setIfInBounds_toArray, List.set_cons_zero, List.set_cons_succ]
        refine held_skip (i := 6) (oi := { dst := some 18, op := Go.Op.move (Go.Operand.tmp 17), type := 4, pos := "l04_row.go:100", after := #[{ on := 5, ground := Go.Ground.data }, { on := 3, ground := Go.Ground.chain }, { on := 3, ground := Go.Ground.guard }], guard := some (3, false) }) rfl (by kernel_rfl) (by kernel_rfl) (by kernel_rfl) (fun _ _ _ h => h) (by rfl) (by assumption) ?_
        try simp only [Act.put, List.setIfInBounds_toArray, List.set_cons_zero, List.set_cons_succ]
        refine held_skip (i := 7) (oi := { dst := some 19, op := Go.Op.move (Go.Operand.tmp 0), type := 57, pos := "l04_row.go:100", after := #[{ on := 6, ground := Go.Ground.guard }], guard := some (6, true) }) rfl (by kernel_rfl) (by kernel_rfl) (by kernel_rfl) (fun _ _ _ h => h) (by rfl) (by assumption) ?_
        try simp only [Act.put, List.setIfInBounds_toArray, List.set_cons_zero, List.set_cons_succ]
        refine held_skip (i := 8) (oi := { dst := some 20, op := Go.Op.move (Go.Operand.tmp 3), type := 3, pos := "l04_row.go:100", after := #[{ on := 6, ground := Go.Ground.guard }], guard := some (6, true) }) rfl (by kernel_rfl) (by kernel_rfl) (by kernel_rfl) (fun _ _ _ h => h) (by rfl) (by assumption) ?_
        try simp only [Act.put, List.setIfInBounds_toArray, List.set_cons_zero, List.set_cons_succ]
        refine held_skip (i := 9) (oi := { dst := some 21, op := Go.Op.binOp BinOp.sub 3 (Go.Operand.tmp 20) (Go.Operand.const (Go.Value.int Go.IntKind.i64 1)) 3, type := 3, pos := "l04_row.go:100", after := #[{ on := 8, ground := Go.Ground.data }, { on := 6, ground := Go.Ground.guard }], guard := some (6, true) }) rfl (by kernel_rfl) (by kernel_rfl) (by kernel_rfl) (fun _ _ _ h => h) (by rfl) (by assumption) ?_
        try simp only [Act.put, List.setIfInBounds_toArray, List.set_cons_zero, List.set_cons_succ]
        refine held_skip (i := 10) (oi := { dst := some 22, op := Go.Op.indexAddr 57 (Go.Operand.tmp 19) (Go.Operand.tmp 21), type := 0, pos := "l04_row.go:100", after := #[{ on := 7, ground := Go.Ground.data }, { on := 9, ground := Go.Ground.data }, { on := 6, ground := Go.Ground.guard }], guard := some (6, true) }) rfl (by kernel_rfl) (by kernel_rfl) (by kernel_rfl) (fun _ _ _ h => h) (by rfl) (by assumption) ?_
        try simp only [Act.put, List.setIfInBounds_toArray, List.set_cons_zero, List.set_cons_succ]
        refine held_skip (i := 11) (oi := { dst := some 23, op := Go.Op.fieldAddr 36 (Go.Operand.tmp 22) 0, type := 0, pos := "l04_row.go:100", after := #[{ on := 10, ground := Go.Ground.data }, { on := 6, ground := Go.Ground.guard }], guard := some (6, true) }) rfl (by kernel_rfl) (by kernel_rfl) (by kernel_rfl) (fun _ _ _ h => h) (by rfl) (by assumption) ?_
        try simp only [Act.put, List.setIfInBounds_toArray, List.set_cons_zero, List.set_cons_succ]
        refine held_skip (i := 12) (oi := { dst := some 24, op := Go.Op.load 3 (Go.Operand.tmp 23), type := 3, pos := "l04_row.go:100", after := #[{ on := 11, ground := Go.Ground.data }, { on := 6, ground := Go.Ground.guard }], guard := some (6, true) }) rfl (by kernel_rfl) (by kernel_rfl) (by kernel_rfl) (fun _ _ _ h => h) (by rfl) (by assumption) ?_
        try simp only [Act.put, List.setIfInBounds_toArray, List.set_cons_zero, List.set_cons_succ]
        refine held_skip (i := 13) (oi := { dst := some 25, op := Go.Op.fieldAddr 36 (Go.Operand.tmp 4) 0, type := 0, pos := "l04_row.go:100", after := #[{ on := 6, ground := Go.Ground.guard }], guard := some (6, true) }) rfl (by kernel_rfl) (by kernel_rfl) (by kernel_rfl) (fun _ _ _ h => h) (by rfl) (by assumption) ?_
        try simp only [Act.put, List.setIfInBounds_toArray, List.set_cons_zero, List.set_cons_succ]
        refine held_skip (i := 14) (oi := { dst := some 26, op := Go.Op.load 3 (Go.Operand.tmp 25), type := 3, pos := "l04_row.go:100", after := #[{ on := 13, ground := Go.Ground.data }, { on := 6, ground := Go.Ground.guard }], guard := some (6, true) }) rfl (by kernel_rfl) (by kernel_rfl) (by kernel_rfl) (fun _ _ _ h => h) (by rfl) (by assumption) ?_
        try simp only [Act.put, List.setIfInBounds_toArray, List.set_cons_zero, List.set_cons_succ]
        refine held_skip (i := 15) (oi := { dst := some 27, op := Go.Op.binOp BinOp.geq 3 (Go.Operand.tmp 24) (Go.Operand.tmp 26) 3, type := 4, pos := "l04_row.go:100", after := #[{ on := 12, ground := Go.Ground.data }, { on := 14, ground := Go.Ground.data }, { on := 6, ground := Go.Ground.guard }], guard := some (6, true) }) rfl (by kernel_rfl) (by kernel_rfl) (by kernel_rfl) (fun _ _ _ h => h) (by rfl) (by assumption) ?_
        try simp only [Act.put, List.setIfInBounds_toArray, List.set_cons_zero, List.set_cons_succ]
        refine held_skip (i := 16) (oi := { dst := some 28, op := Go.Op.pick (Go.Operand.tmp 18) (Go.Operand.tmp 27) (Go.Operand.const (Go.Value.bool false)), type := 4, pos := "l04_row.go:100", after := #[{ on := 6, ground := Go.Ground.data }, { on := 15, ground := Go.Ground.data }, { on := 3, ground := Go.Ground.guard }], guard := some (3, false) }) rfl (by kernel_rfl) (by kernel_rfl) (by kernel_rfl) (fun _ _ _ h => h) (by rfl) (by assumption) ?_
        try simp only [Act.put, List.setIfInBounds_toArray, List.set_cons_zero, List.set_cons_succ]
        refine wpAnyH_take (i := 17) (oi := { dst := some 29, op := Go.Op.pick (Go.Operand.tmp 15) (Go.Operand.const (Go.Value.bool true)) (Go.Operand.tmp 28), type := 4, pos := "l04_row.go:100", after := #[{ on := 3, ground := Go.Ground.data }, { on := 16, ground := Go.Ground.data }], guard := none }) (v := .bool true) rfl (by kernel_rfl) (by kernel_rfl) (by kernel_rfl) (fun _ _ _ h => h) (Or.inl ⟨by rfl, ?_⟩) (by assumption) ?_
        · intro w8 hS8
          (try dsimp only at hS8)
          go_simp
        try simp only [Act.put, List.setIfInBounds_toArray, List.set_cons_zero, List.set_cons_succ]
        refine wpAnyH_done (by kernel_rfl) ?_ _
        go_wp2
        go_ret
        exact ⟨by rw [AN.out]; rfl, hH1.2.2.2.2.2.1⟩
      · have HV := Lib.hid hv
        have D0 := fun w => impl_rv (R k).i (R k).g (R k).y (R k).x (R k).nl w
        unfold Rw.ok at hv
        rw [hv] at D0
        have DV := Lib.hid D0
        clear D0 hv
        by_cases h0 : k = 0
        · have hz : decide ((0 : Int) < (k : Int)) = false := decide_eq_false (by omega)
          have H0 := Lib.hid h0
          have AN := Lib.hid (show areB R (k + 1) = true by have h1 := HV.out; rw [h0] at h1 ⊢; exact areB_zero h1)
          clear h0
          go_wp2_with fail
          refine wp_region_held_drew (S := fun w' => w'.cell? ⟨wr.heap.size, 0, none⟩ = some (.int .i64 (R k).i) ∧ w'.cell? ⟨wr.heap.size, 1, none⟩ = some (.int .i64 (R k).g) ∧ w'.cell? ⟨wr.heap.size, 2, none⟩ = some (.int .i64 (R k).y) ∧ w'.cell? ⟨wr.heap.size, 3, none⟩ = some (.int .i64 (R k).x) ∧ w'.cell? ⟨wr.heap.size, 4, none⟩ = some (.bool (R k).nl) ∧ Kept w w' (box5 wr.heap.size (R k))) (by kernel_rfl) (b5_start HK.out) (fun hHeld => ?_)
          refine wpAnyH_take (i := 0) (oi := { dst := some 12, op := Go.Op.load 36 (Go.Operand.tmp 4), type := 36, pos := "l04_row.go:100", after := #[], guard := none }) (v := .agg #[.int .i64 (R k).i, .int .i64 (R k).g, .int .i64 (R k).y, .int .i64 (R k).x, .bool (R k).nl]) rfl (by kernel_rfl) (by kernel_rfl) (by kernel_rfl) (fun _ _ _ h => h) (Or.inl ⟨by rfl, ?_⟩) (by assumption) ?_
          · intro w8 hS8
            (try dsimp only at hS8)
            go_simp
          try simp only [Act.put, List.setIfInBounds_toArray, List.set_cons_zero, List.set_cons_succ]
          refine wpAnyH_ready (rs := [1]) (by kernel_rfl) (by simp) ?_
          refine AllReadyH.cons (o := { dst := some 13, op := Go.Op.call { callee := Go.Callee.value (Go.Operand.func 96), args := #[Go.Operand.tmp 12], argTypes := #[36] }, type := 4, pos := "l04_row.go:100", after := #[{ on := 0, ground := Go.Ground.data }], guard := none }) rfl (fun K hK => ?_) AllReadyH.nil
          go_simp
          go_at_call 96
          (with_reducible refine (DV.out _).mono ?_)
          rintro e9 w9 ⟨rfl, hb⟩
          refine hK.out _ _ ?_ (fun hH1 => ?_)
          · exact b5_keep hHeld hb
          clear hK K
          try simp only [Act.put, List.setIfInBounds_toArray, List.set_cons_zero, List.set_cons_succ]
          refine wpAnyH_take (i := 2) (oi := { dst := some 14, op := Go.Op.unOp UnOp.not 4 (Go.Operand.tmp 13), type := 4, pos := "l04_row.go:100", after := #[{ on := 1, ground := Go.Ground.data }], guard := none }) (v := .bool false) rfl (by kernel_rfl) (by kernel_rfl) (by kernel_rfl) (fun _ _ _ h => h) (Or.inl ⟨by rfl, ?_⟩) (by assumption) ?_
          · intro w8 hS8
            (try dsimp only at hS8)
            go_simp
          try simp only [Act.put, List.setIfInBounds_toArray, List.set_cons_zero, List.set_cons_succ]
          refine wpAnyH_take (i := 3) (oi := { dst := some 15, op := Go.Op.move (Go.Operand.tmp 14), type := 4, pos := "l04_row.go:100", after := #[{ on := 2, ground := Go.Ground.data }, { on := 1, ground := Go.Ground.chain }], guard := none }) (v := .bool false) rfl (by kernel_rfl) (by kernel_rfl) (by kernel_rfl) (fun _ _ _ h => h) (Or.inl ⟨by rfl, ?_⟩) (by assumption) ?_
          · intro w8 hS8
            (try dsimp only at hS8)
            go_simp
          try simp only [Act.put, List.setIfInBounds_toArray, List.set_cons_zero, List.set_cons_succ]
          refine wpAnyH_take (i := 4) (oi := { dst := some 16, op := Go.Op.move (Go.Operand.tmp 3), type := 3, pos := "l04_row.go:100", after := #[{ on := 3, ground := Go.Ground.guard }], guard := some (3, false) }) (v := .int .i64 k) rfl (by kernel_rfl) (by kernel_rfl) (by kernel_rfl) (fun _ _ _ h => h) (Or.inl ⟨by rfl, ?_⟩) (by assumption) ?_
          · intro w8 hS8
            (try dsimp only at hS8)
            go_simp
          try simp only [Act.put, List.setIfInBounds_toArray, List.set_cons_zero, List.set_cons_succ]
          refine wpAnyH_take (i := 5) (oi := { dst := some 17, op := Go.Op.binOp BinOp.gtr 3 (Go.Operand.tmp 16) (Go.Operand.const (Go.Value.int Go.IntKind.i64 0)) 3, type := 4, pos := "l04_row.go:100", after := #[{ on := 4, ground := Go.Ground.data }, { on := 3, ground := Go.Ground.guard }], guard := some (3, false) }) (v := .bool false) rfl (by kernel_rfl) (by kernel_rfl) (by kernel_rfl) (fun _ _ _ h => h) (Or.inl ⟨by rfl, ?_⟩) (by assumption) ?_
          · intro w8 hS8
            (try dsimp only at hS8)
            (first | (go_simp; done) | (go_simp; exact H0.out))
          try simp only [Act.put, List.setIfInBounds_toArray, List.set_cons_zero, List.set_cons_succ]
          refine wpAnyH_take (i := 6) (oi := { dst := some 18, op := Go.Op.move (Go.Operand.tmp 17), type := 4, pos := "l04_row.go:100", after := #[{ on := 5, ground := Go.Ground.data }, { on := 3, ground := Go.Ground.chain }, { on := 3, ground := Go.Ground.guard }], guard := some (3, false) }) (v := .bool false) rfl (by kernel_rfl) (by kernel_rfl) (by kernel_rfl) (fun _ _ _ h => h) (Or.inl ⟨by rfl, ?_⟩) (by assumption) ?_
          · intro w8 hS8
            (try dsimp only at hS8)
            go_simp
          try simp only [Act.put, List.setIfInBounds_toArray, List.set_cons_zero, List.set_cons_succ]
          refine held_skip (i := 7) (oi := { dst := some 19, op := Go.Op.move (Go.Operand.tmp 0), type := 57, pos := "l04_row.go:100", after := #[{ on := 6, ground := Go.Ground.guard }], guard := some (6, true) }) rfl (by kernel_rfl) (by kernel_rfl) (by kernel_rfl) (fun _ _ _ h => h) (by rfl) (by assumption) ?_
          try simp only [Act.put, List.setIfInBounds_toArray, List.set_cons_zero, List.set_cons_succ]
          refine held_skip (i := 8) (oi := { dst := some 20, op := Go.Op.move (Go.Operand.tmp 3), type := 3, pos := "l04_row.go:100", after := #[{ on := 6, ground := Go.Ground.guard }], guard := some (6, true) }) rfl (by kernel_rfl) (by kernel_rfl) (by kernel_rfl) (fun _ _ _ h => h) (by rfl) (by assumption) ?_
          try simp only [Act.put, List.setIfInBounds_toArray, List.set_cons_zero, List.set_cons_succ]
          refine held_skip (i := 9) (oi := { dst := some 21, op := Go.Op.binOp BinOp.sub 3 (Go.Operand.tmp 20) (Go.Operand.const (Go.Value.int Go.IntKind.i64 1)) 3, type := 3, pos := "l04_row.go:100", after := #[{ on := 8, ground := Go.Ground.data }, { on := 6, ground := Go.Ground.guard }], guard := some (6, true) }) rfl (by kernel_rfl) (by kernel_rfl) (by kernel_rfl) (fun _ _ _ h => h) (by rfl) (by assumption) ?_
          try simp only [Act.put, List.setIfInBounds_toArray, List.set_cons_zero, List.set_cons_succ]
          refine held_skip (i := 10) (oi := { dst := some 22, op := Go.Op.indexAddr 57 (Go.Operand.tmp 19) (Go.Operand.tmp 21), type := 0, pos := "l04_row.go:100", after := #[{ on := 7, ground := Go.Ground.data }, { on := 9, ground := Go.Ground.data }, { on := 6, ground := Go.Ground.guard }], guard := some (6, true) }) rfl (by kernel_rfl) (by kernel_rfl) (by kernel_rfl) (fun _ _ _ h => h) (by rfl) (by assumption) ?_
          try simp only [Act.put, List.setIfInBounds_toArray, List.set_cons_zero, List.set_cons_succ]
          refine held_skip (i := 11) (oi := { dst := some 23, op := Go.Op.fieldAddr 36 (Go.Operand.tmp 22) 0, type := 0, pos := "l04_row.go:100", after := #[{ on := 10, ground := Go.Ground.data }, { on := 6, ground := Go.Ground.guard }], guard := some (6, true) }) rfl (by kernel_rfl) (by kernel_rfl) (by kernel_rfl) (fun _ _ _ h => h) (by rfl) (by assumption) ?_
          try simp only [Act.put, List.setIfInBounds_toArray, List.set_cons_zero, List.set_cons_succ]
          refine held_skip (i := 12) (oi := { dst := some 24, op := Go.Op.load 3 (Go.Operand.tmp 23), type := 3, pos := "l04_row.go:100", after := #[{ on := 11, ground := Go.Ground.data }, { on := 6, ground := Go.Ground.guard }], guard := some (6, true) }) rfl (by kernel_rfl) (by kernel_rfl) (by kernel_rfl) (fun _ _ _ h => h) (by rfl) (by assumption) ?_
          try simp only [Act.put, List.setIfInBounds_toArray, List.set_cons_zero, List.set_cons_succ]
          refine held_skip (i := 13) (oi := { dst := some 25, op := Go.Op.fieldAddr 36 (Go.Operand.tmp 4) 0, type := 0, pos := "l04_row.go:100", after := #[{ on := 6, ground := Go.Ground.guard }], guard := some (6, true) }) rfl (by kernel_rfl) (by kernel_rfl) (by kernel_rfl) (fun _ _ _ h => h) (by rfl) (by assumption) ?_
          try simp only [Act.put, List.setIfInBounds_toArray, List.set_cons_zero, List.set_cons_succ]
          refine held_skip (i := 14) (oi := { dst := some 26, op := Go.Op.load 3 (Go.Operand.tmp 25), type := 3, pos := "l04_row.go:100", after := #[{ on := 13, ground := Go.Ground.data }, { on := 6, ground := Go.Ground.guard }], guard := some (6, true) }) rfl (by kernel_rfl) (by kernel_rfl) (by kernel_rfl) (fun _ _ _ h => h) (by rfl) (by assumption) ?_
          try simp only [Act.put, List.setIfInBounds_toArray, List.set_cons_zero, List.set_cons_succ]
          refine held_skip (i := 15) (oi := { dst := some 27, op := Go.Op.binOp BinOp.geq 3 (Go.Operand.tmp 24) (Go.Operand.tmp 26) 3, type := 4, pos := "l04_row.go:100", after := #[{ on := 12, ground := Go.Ground.data }, { on := 14, ground := Go.Ground.data }, { on := 6, ground := Go.Ground.guard }], guard := some (6, true) }) rfl (by kernel_rfl) (by kernel_rfl) (by kernel_rfl) (fun _ _ _ h => h) (by rfl) (by assumption) ?_
          try simp only [Act.put, List.setIfInBounds_toArray, List.set_cons_zero, List.set_cons_succ]
          refine wpAnyH_take (i := 16) (oi := { dst := some 28, op := Go.Op.pick (Go.Operand.tmp 18) (Go.Operand.tmp 27) (Go.Operand.const (Go.Value.bool false)), type := 4, pos := "l04_row.go:100", after := #[{ on := 6, ground := Go.Ground.data }, { on := 15, ground := Go.Ground.data }, { on := 3, ground := Go.Ground.guard }], guard := some (3, false) }) (v := .bool false) rfl (by kernel_rfl) (by kernel_rfl) (by kernel_rfl) (fun _ _ _ h => h) (Or.inl ⟨by rfl, ?_⟩) (by assumption) ?_
          · intro w8 hS8
            (try dsimp only at hS8)
            go_simp
          try simp only [Act.put, List.setIfInBounds_toArray, List.set_cons_zero, List.set_cons_succ]
          refine wpAnyH_take (i := 17) (oi := { dst := some 29, op := Go.Op.pick (Go.Operand.tmp 15) (Go.Operand.const (Go.Value.bool true)) (Go.Operand.tmp 28), type := 4, pos := "l04_row.go:100", after := #[{ on := 3, ground := Go.Ground.data }, { on := 16, ground := Go.Ground.data }], guard := none }) (v := .bool false) rfl (by kernel_rfl) (by kernel_rfl) (by kernel_rfl) (fun _ _ _ h => h) (Or.inl ⟨by rfl, ?_⟩) (by assumption) ?_
          · intro w8 hS8
            (try dsimp only at hS8)
            go_simp
          try simp only [Act.put, List.setIfInBounds_toArray, List.set_cons_zero, List.set_cons_succ]
          refine wpAnyH_done (by kernel_rfl) ?_ _
          have HG2 := Lib.hid hH1.2.2.2.2.2
          go_wp2
          go_roundw
          case rel => exact ⟨k + 1, by omega, by go_num, AN.out, HG2.out.1⟩
          case measure => simp [intOf]; omega
        · obtain ⟨m, hm⟩ : ∃ m, k = m + 1 := ⟨k - 1, by omega⟩
          have HM := Lib.hid (show (wr.alloc (.cells #[.int .i64 (R k).i, .int .i64 (R k).g, .int .i64 (R k).y, .int .i64 (R k).x, .bool (R k).nl] 36)).cell? ⟨g, m * 5, none⟩ = some (.int .i64 (R m).i) from cell_alloc_some _ ((HR.out m (by omega)).below HB.out hg).1)
          have hz : 0 < k := by omega
          have hw9 : IntKind.i64.wrap ((k : Int) - 1) = (m : Int) := by rw [IntWalk.i64_in _ (by omega)]; omega
          have hmI : (m : Int) < (n : Int) := by omega
          have hm0 : (0 : Int) ≤ (m : Int) := by omega
          have HMK := Lib.hid hm
          clear h0
          by_cases hl : (R m).i < (R k).i
          · have hq : decide ((R k).i ≤ (R m).i) = false := decide_eq_false (by omega)
            have AN := Lib.hid (show areB R (k + 1) = true by have h1 := HV.out; have h2 := HA.out; rw [hm] at h1 h2 hl ⊢; exact areB_next h2 h1 hl)
            clear hl hm
            go_wp2_with fail
            (first | go_region_held3 (fun w' => w'.cell? ⟨wr.heap.size, 0, none⟩ = some (.int .i64 (R k).i) ∧ w'.cell? ⟨wr.heap.size, 1, none⟩ = some (.int .i64 (R k).g) ∧ w'.cell? ⟨wr.heap.size, 2, none⟩ = some (.int .i64 (R k).y) ∧ w'.cell? ⟨wr.heap.size, 3, none⟩ = some (.int .i64 (R k).x) ∧ w'.cell? ⟨wr.heap.size, 4, none⟩ = some (.bool (R k).nl) ∧ w'.cell? ⟨g, m * 5, none⟩ = some (.int .i64 (R m).i) ∧ Kept w w' (box5 wr.heap.size (R k))) (first | assumption | exact b6_start HK.out HM.out | exact b6_keep (by assumption) (by assumption)) (first | (go_simp; go_at_call 96; (with_reducible refine (DV.out _).mono ?_); rintro e9 w9 ⟨rfl, hb⟩)) | fail)
            all_goals
              have HG2 := Lib.hid (‹_ ∧ _ ∧ _ ∧ _ ∧ _ ∧ _ ∧ Kept w w9 _›.2.2.2.2.2.2)
              clear hw9
              go_wp2
              go_roundw
              case rel => exact ⟨k + 1, by omega, by go_num, AN.out, HG2.out.1⟩
              case measure => simp [intOf]; omega
          · have hq : decide ((R k).i ≤ (R m).i) = true := decide_eq_true (by omega)
            have AN := Lib.hid (show areB R n = false by rw [hm] at hl hlt; exact areB_low hlt hl)
            clear hl hm
            go_wp2_with fail
            (first | go_region_held3 (fun w' => w'.cell? ⟨wr.heap.size, 0, none⟩ = some (.int .i64 (R k).i) ∧ w'.cell? ⟨wr.heap.size, 1, none⟩ = some (.int .i64 (R k).g) ∧ w'.cell? ⟨wr.heap.size, 2, none⟩ = some (.int .i64 (R k).y) ∧ w'.cell? ⟨wr.heap.size, 3, none⟩ = some (.int .i64 (R k).x) ∧ w'.cell? ⟨wr.heap.size, 4, none⟩ = some (.bool (R k).nl) ∧ w'.cell? ⟨g, m * 5, none⟩ = some (.int .i64 (R m).i) ∧ Kept w w' (box5 wr.heap.size (R k))) (first | assumption | exact b6_start HK.out HM.out | exact b6_keep (by assumption) (by assumption)) (first | (go_simp; go_at_call 96; (with_reducible refine (DV.out _).mono ?_); rintro e9 w9 ⟨rfl, hb⟩)) | fail)
            all_goals
              have HG2 := Lib.hid (‹_ ∧ _ ∧ _ ∧ _ ∧ _ ∧ _ ∧ Kept w w9 _›.2.2.2.2.2.2)
              clear hw9
              go_wp2
              go_ret
              exact ⟨by rw [AN.out]; rfl, HG2.out.1⟩
    · obtain rfl : k = n := by omega
      have hsd : decide ((k : Int) < (k : Int)) = false := decide_eq_false (by omega)
      go_wp2
      go_ret
      exact ⟨by rw [HA.out]; rfl, HB.out⟩

theorem impl_ar (g n cap : Nat) (R : Nat → Rw) (w : World) (hn : n ≤ 1048576) (hg : g < w.heap.size) (hR : ∀ k, k < n → RowIn w g k (R k)) :
    Calls Try.prog 143 #[.slice (some ⟨g, 0, none⟩) n cap] w fun e w' => e = .returned (.bool (areB R n)) ∧ Below w.heap.size w w' :=
  impl_arV _ n cap R w hn (.inr ⟨g, rfl, hg, hR⟩)
end Go.Proofs.Ytcfcohnkkgickaa
