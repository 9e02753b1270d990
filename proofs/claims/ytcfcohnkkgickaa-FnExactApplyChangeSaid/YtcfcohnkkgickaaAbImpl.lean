/-
  The walk over the project's areBlocks.
-/
import Derived.Test.YtcfcohnkkgickaaRows
import Derived.Test.YtcfcohnkkgickaaBvImpl
import Derived.Test.YtcfcohnkkgickaaMgB
import Derived.Deep.RegionHeld3
namespace Go.Proofs.Ytcfcohnkkgickaa
open Go.RowKit Num

/-! What a region keeps: two cells of a box, and a third cell. -/
theorem k2s_start {W w : World} {a0 a1 : Addr} {v0 v1 : Value} (h : Kept W w [(a0, v0), (a1, v1)]) : w.drew.cell? a0 = some v0 ∧ w.drew.cell? a1 = some v1 ∧ Kept W w.drew [(a0, v0), (a1, v1)] :=
  have k := h.drew
  ⟨k.get 0 rfl, k.get 1 rfl, k⟩
theorem k2s_keep {W w w' : World} {a0 a1 : Addr} {v0 v1 : Value} (h : w.cell? a0 = some v0 ∧ w.cell? a1 = some v1 ∧ Kept W w [(a0, v0), (a1, v1)]) (hb : Below w.heap.size w w') : w'.cell? a0 = some v0 ∧ w'.cell? a1 = some v1 ∧ Kept W w' [(a0, v0), (a1, v1)] :=
  have k := h.2.2.step hb
  ⟨k.get 0 rfl, k.get 1 rfl, k⟩
theorem k3s_start {W w : World} {a0 a1 a2 : Addr} {v0 v1 v2 : Value} (h : Kept W w [(a0, v0), (a1, v1)]) (ha : w.cell? a2 = some v2) : w.drew.cell? a0 = some v0 ∧ w.drew.cell? a1 = some v1 ∧ w.drew.cell? a2 = some v2 ∧ Kept W w.drew [(a0, v0), (a1, v1)] :=
  have k := h.drew
  ⟨k.get 0 rfl, k.get 1 rfl, ha, k⟩
theorem k3s_keep {W w w' : World} {a0 a1 a2 : Addr} {v0 v1 v2 : Value} (h : w.cell? a0 = some v0 ∧ w.cell? a1 = some v1 ∧ w.cell? a2 = some v2 ∧ Kept W w [(a0, v0), (a1, v1)]) (hb : Below w.heap.size w w') : w'.cell? a0 = some v0 ∧ w'.cell? a1 = some v1 ∧ w'.cell? a2 = some v2 ∧ Kept W w' [(a0, v0), (a1, v1)] :=
  have k := h.2.2.2.step hb
  ⟨k.get 0 rfl, k.get 1 rfl, by rw [hb.cell (World.block_lt_of_cell? w _ h.2.2.1)]; exact h.2.2.1, k⟩

/-- What areBlocks answers. -/
def AbPost (l : List Blk) (n : Nat) (w : World) (e : Ending) (w' : World) : Prop := ∃ v : Bool, (v = true ↔ BlksOk l n) ∧ e = .returned (.bool v) ∧ Below w.heap.size w w'
theorem AbPost.no {l : List Blk} {n : Nat} {w w' : World} (h : ¬ BlksOk l n) (hb : Below w.heap.size w w') : AbPost l n w (.returned (.bool false)) w' := ⟨false, ⟨(fun h9 => by cases h9), fun k => absurd k h⟩, rfl, hb⟩
theorem AbPost.yes {l : List Blk} {n : Nat} {w w' : World} (h : BlksOk l n) (hb : Below w.heap.size w w') : AbPost l n w (.returned (.bool true)) w' := ⟨true, ⟨fun _ => h, fun _ => rfl⟩, rfl, hb⟩

set_option maxRecDepth 8000 in
set_option maxHeartbeats 6400000 in
theorem impl_ab (ao : Option Addr) (n cap : Nat) (l : List Blk) (w : World) (hl : l.length = n) (hn : n ≤ 1048576) (hr : ∀ k, k < n → (Bn l k).rows.length ≤ 1048576) (hV : BlksVal w ao l) :
    Calls Try.prog 131 #[.slice ao n cap] w (AbPost l n w) := by
  have HV := Lib.hid hV
  have HL := Lib.hid hl
  have HR := Lib.hid hr
  clear hV hl hr
  have hnI : (n : Int) ≤ 1048576 := by omega
  go_enter Try.func131, Try.ntmps131
  go_wp2_with fail
  go_loopw [7] (fun iv wr => ∃ k : Nat, k ≤ n ∧ iv = .int .i64 k ∧ Hid (BlksOk l k) ∧ Hid (Below w.heap.size w wr)) (fun iv _ => n - (intOf iv).toNat)
  case atStart => exact ⟨0, Nat.zero_le _, rfl, Lib.hid (BlksOk.zero l), Below.refl _ _⟩
  case round =>
    obtain ⟨k, hk, rfl, HA, HB⟩ := hrel
    by_cases hlt : k < n
    · have hkI : (k : Int) < (n : Int) := by omega
      obtain ⟨g, rfl, hg, hBk⟩ := HV.out.head HL.out (by omega)
      obtain ⟨rao, rcap, c0, c1, hRV⟩ := (hBk k hlt).below HB.out hg (Nat.le_refl _)
      have hrl := HR.out k hlt
      have HNV := Lib.hid (show bkB l k = false → ¬ BlksOk l n from fun h1 h2 => by have := h2.1 k hlt; rw [h1] at this; cases this)
      have HYV := Lib.hid (show bkB l k = true → (∀ j, j + 1 = k → (Bn l j).id < (Bn l (j + 1)).id) → BlksOk l (k + 1) from fun h1 h2 => HA.out.succ h1 h2)
      have HNO := Lib.hid (show ∀ j, k = j + 1 → ¬ (Bn l j).id < (Bn l k).id → ¬ BlksOk l n from fun j e h1 h2 => by subst e; exact h1 (h2.2 j hlt))
      have D0 := fun w hV => impl_bvV (Bn l k).id rao (Bn l k).rows.length rcap (Rn (Bn l k).rows) w hrl hV
      rw [show blkB (Bn l k).id (Bn l k).rows.length (Rn (Bn l k).rows) = bkB l k from rfl] at D0
      obtain ⟨vb, hvb⟩ : ∃ vb, vb = bkB l k := ⟨_, rfl⟩
      rw [← hvb] at HNV HYV D0
      obtain ⟨bk, hbk⟩ : ∃ bk, bk = Bn l k := ⟨_, rfl⟩
      have HBK := Lib.hid hbk
      rw [← hbk] at c0 c1 hRV hrl HNO D0
      obtain ⟨m, hm⟩ : ∃ m, m = bk.rows.length := ⟨_, rfl⟩
      rw [← hm] at c1 hRV hrl D0
      have hB0 := (Below.refl wr.heap.size wr).alloc (Nat.le_refl _) (.cells #[.int .i64 bk.id, .slice rao m rcap] 80)
      have HRD := Lib.hid (show RowsVal (wr.alloc (.cells #[.int .i64 bk.id, .slice rao m rcap] 80)).drew rao m (Rn bk.rows) from hRV.below hB0.drew)
      have K0 : Kept w (wr.alloc (.cells #[.int .i64 bk.id, .slice rao m rcap] 80)) [(⟨wr.heap.size, 0, none⟩, .int .i64 bk.id), (⟨wr.heap.size, 1, none⟩, .slice rao m rcap)] := Kept.alloc2 (show Kept w wr [] from ⟨HB.out, fun _ h => by cases h⟩) _ _ _ _ rfl
      have HK := Lib.hid K0
      have HPV := Lib.hid hBk
      clear K0 hB0 hRV hvb hbk hm hBk
      cases vb
      · have AN := Lib.hid (HNV.out rfl)
        have DV := Lib.hid D0
        clear D0
        go_wp2_with fail
        refine wp_region_held_drew (S := fun w' => w'.cell? ⟨wr.heap.size, 0, none⟩ = some (.int .i64 bk.id) ∧ w'.cell? ⟨wr.heap.size, 1, none⟩ = some (.slice rao m rcap) ∧ Kept w w' [(⟨wr.heap.size, 0, none⟩, .int .i64 bk.id), (⟨wr.heap.size, 1, none⟩, .slice rao m rcap)]) (by kernel_rfl) (k2s_start HK.out) (fun hHeld => ?_)
        refine wpAnyH_take (i := 0) (oi := { dst := some 12, op := Go.Op.load 80 (Go.Operand.tmp 4), type := 80, pos := "l06_table.go:51", after := #[], guard := none }) (v := .agg #[.int .i64 bk.id, .slice rao m rcap]) rfl (by kernel_rfl) (by kernel_rfl) (by kernel_rfl) (fun _ _ _ h => h) (Or.inl ⟨by rfl, ?_⟩) (by assumption) ?_
        · intro w8 hS8
          (try dsimp only at hS8)
          go_simp
        try simp only [Act.put, List.setIfInBounds_toArray, List.set_cons_zero, List.set_cons_succ]
        refine wpAnyH_ready (rs := [1]) (by kernel_rfl) (by simp) ?_
        refine AllReadyH.cons (o := { dst := some 13, op := Go.Op.call { callee := Go.Callee.value (Go.Operand.func 110), args := #[Go.Operand.tmp 12], argTypes := #[80] }, type := 4, pos := "l06_table.go:51", after := #[{ on := 0, ground := Go.Ground.data }], guard := none }) rfl (fun K hK => ?_) AllReadyH.nil
        go_simp
        go_at_call 110
        (with_reducible refine (DV.out _ HRD.out).mono ?_)
        rintro e9 w9 ⟨rfl, hb⟩
        refine hK.out _ _ ?_ (fun hH1 => ?_)
        · exact k2s_keep hHeld hb
        clear hK K
        try simp only [Act.put, List.setIfInBounds_toArray, List.set_cons_zero, List.set_cons_succ]
        refine wpAnyH_take (i := 2) (oi := { dst := some 14, op := Go.Op.unOp UnOp.not 4 (Go.Operand.tmp 13), type := 4, pos := "l06_table.go:51", after := #[{ on := 1, ground := Go.Ground.data }], guard := none }) (v := .bool true) rfl (by kernel_rfl) (by kernel_rfl) (by kernel_rfl) (fun _ _ _ h => h) (Or.inl ⟨by rfl, ?_⟩) (by assumption) ?_
        · intro w8 hS8
          (try dsimp only at hS8)
          go_simp
        try simp only [Act.put, List.setIfInBounds_toArray, List.set_cons_zero, List.set_cons_succ]
        refine wpAnyH_take (i := 3) (oi := { dst := some 15, op := Go.Op.move (Go.Operand.tmp 14), type := 4, pos := "l06_table.go:51", after := #[{ on := 2, ground := Go.Ground.data }, { on := 1, ground := Go.Ground.chain }], guard := none }) (v := .bool true) rfl (by kernel_rfl) (by kernel_rfl) (by kernel_rfl) (fun _ _ _ h => h) (Or.inl ⟨by rfl, ?_⟩) (by assumption) ?_
        · intro w8 hS8
          (try dsimp only at hS8)
          go_simp
        try simp only [Act.put, List.setIfInBounds_toArray, List.set_cons_zero, List.set_cons_succ]
        refine held_skip (i := 4) (oi := { dst := some 16, op := Go.Op.move (Go.Operand.tmp 3), type := 3, pos := "l06_table.go:51", after := #[{ on := 3, ground := Go.Ground.guard }], guard := some (3, false) }) rfl (by kernel_rfl) (by kernel_rfl) (by kernel_rfl) (fun _ _ _ h => h) (by rfl) (by assumption) ?_
        try simp only [Act.put, List.setIfInBounds_toArray, List.set_cons_zero, List.set_cons_succ]
        refine held_skip (i := 5) (oi := { dst := some 17, op := Go.Op.binOp BinOp.gtr 3 (Go.Operand.tmp 16) (Go.Operand.const (Go.Value.int Go.IntKind.i64 0)) 3, type := 4, pos := "l06_table.go:51", after := #[{ on := 4, ground := Go.Ground.data }, { on := 3, ground := Go.Ground.guard }], guard := some (3, false) }) rfl (by kernel_rfl) (by kernel_rfl) (by kernel_rfl) (fun _ _ _ h => h) (by rfl) (by assumption) ?_
        try simp only [Act.put, List.setIfInBounds_toArray, List.set_cons_zero, List.set_cons_succ]
        refine held_skip (i := 6) (oi := { dst := some 18, op := Go.Op.move (Go.Operand.tmp 17), type := 4, pos := "l06_table.go:51", after := #[{ on := 5, ground := Go.Ground.data }, { on := 3, ground := Go.Ground.chain }, { on := 3, ground := Go.Ground.guard }], guard := some (3, false) }) rfl (by kernel_rfl) (by kernel_rfl) (by kernel_rfl) (fun _ _ _ h => h) (by rfl) (by assumption) ?_
        try simp only [Act.put, List.setIfInBounds_toArray, List.set_cons_zero, List.set_cons_succ]
        refine held_skip (i := 7) (oi := { dst := some 19, op := Go.Op.move (Go.Operand.tmp 0), type := 30, pos := "l06_table.go:51", after := #[{ on := 6, ground := Go.Ground.guard }], guard := some (6, true) }) rfl (by kernel_rfl) (by kernel_rfl) (by kernel_rfl) (fun _ _ _ h => h) (by rfl) (by assumption) ?_
        try simp only [Act.put, List.setIfInBounds_toArray, List.set_cons_zero, List.set_cons_succ]
        refine held_skip (i := 8) (oi := { dst := some 20, op := Go.Op.move (Go.Operand.tmp 3), type := 3, pos := "l06_table.go:51", after := #[{ on := 6, ground := Go.Ground.guard }], guard := some (6, true) }) rfl (by kernel_rfl) (by kernel_rfl) (by kernel_rfl) (fun _ _ _ h => h) (by rfl) (by assumption) ?_
        try simp only [Act.put, List.setIfInBounds_toArray, List.set_cons_zero, List.set_cons_succ]
        refine held_skip (i := 9) (oi := { dst := some 21, op := Go.Op.binOp BinOp.sub 3 (Go.Operand.tmp 20) (Go.Operand.const (Go.Value.int Go.IntKind.i64 1)) 3, type := 3, pos := "l06_table.go:51", after := #[{ on := 8, ground := Go.Ground.data }, { on := 6, ground := Go.Ground.guard }], guard := some (6, true) }) rfl (by kernel_rfl) (by kernel_rfl) (by kernel_rfl) (fun _ _ _ h => h) (by rfl) (by assumption) ?_
        try simp only [Act.put, List.setIfInBounds_toArray, List.set_cons_zero, List.set_cons_succ]
        refine held_skip (i := 10) (oi := { dst := some 22, op := Go.Op.indexAddr 30 (Go.Operand.tmp 19) (Go.Operand.tmp 21), type := 0, pos := "l06_table.go:51", after := #[{ on := 7, ground := Go.Ground.data }, { on := 9, ground := Go.Ground.data }, { on := 6, ground := Go.Ground.guard }], guard := some (6, true) }) rfl (by kernel_rfl) (by kernel_rfl) (by kernel_rfl) (fun _ _ _ h => h) (by rfl) (by assumption) ?_
        try simp only [Act.put, List.setIfInBounds_toArray, List.set_cons_zero, List.set_cons_succ]
        refine held_skip (i := 11) (oi := { dst := some 23, op := Go.Op.fieldAddr 80 (Go.Operand.tmp 22) 0, type := 0, pos := "l06_table.go:51", after := #[{ on := 10, ground := Go.Ground.data }, { on := 6, ground := Go.Ground.guard }], guard := some (6, true) }) rfl (by kernel_rfl) (by kernel_rfl) (by kernel_rfl) (fun _ _ _ h => h) (by rfl) (by assumption) ?_
        try simp only [Act.put, List.setIfInBounds_toArray, List.set_cons_zero, List.set_cons_succ]
        refine held_skip (i := 12) (oi := { dst := some 24, op := Go.Op.load 3 (Go.Operand.tmp 23), type := 3, pos := "l06_table.go:51", after := #[{ on := 11, ground := Go.Ground.data }, { on := 6, ground := Go.Ground.guard }], guard := some (6, true) }) rfl (by kernel_rfl) (by kernel_rfl) (by kernel_rfl) (fun _ _ _ h => h) (by rfl) (by assumption) ?_
        try simp only [Act.put, List.setIfInBounds_toArray, List.set_cons_zero, List.set_cons_succ]
        refine held_skip (i := 13) (oi := { dst := some 25, op := Go.Op.fieldAddr 80 (Go.Operand.tmp 4) 0, type := 0, pos := "l06_table.go:51", after := #[{ on := 6, ground := Go.Ground.guard }], guard := some (6, true) }) rfl (by kernel_rfl) (by kernel_rfl) (by kernel_rfl) (fun _ _ _ h => h) (by rfl) (by assumption) ?_
        try simp only [Act.put, List.setIfInBounds_toArray, List.set_cons_zero, List.set_cons_succ]
        refine held_skip (i := 14) (oi := { dst := some 26, op := Go.Op.load 3 (Go.Operand.tmp 25), type := 3, pos := "l06_table.go:51", after := #[{ on := 13, ground := Go.Ground.data }, { on := 6, ground := Go.Ground.guard }], guard := some (6, true) }) rfl (by kernel_rfl) (by kernel_rfl) (by kernel_rfl) (fun _ _ _ h => h) (by rfl) (by assumption) ?_
        try simp only [Act.put, List.setIfInBounds_toArray, List.set_cons_zero, List.set_cons_succ]
        refine held_skip (i := 15) (oi := { dst := some 27, op := Go.Op.binOp BinOp.geq 3 (Go.Operand.tmp 24) (Go.Operand.tmp 26) 3, type := 4, pos := "l06_table.go:51", after := #[{ on := 12, ground := Go.Ground.data }, { on := 14, ground := Go.Ground.data }, { on := 6, ground := Go.Ground.guard }], guard := some (6, true) }) rfl (by kernel_rfl) (by kernel_rfl) (by kernel_rfl) (fun _ _ _ h => h) (by rfl) (by assumption) ?_
        try simp only [Act.put, List.setIfInBounds_toArray, List.set_cons_zero, List.set_cons_succ]
        refine held_skip (i := 16) (oi := { dst := some 28, op := Go.Op.pick (Go.Operand.tmp 18) (Go.Operand.tmp 27) (Go.Operand.const (Go.Value.bool false)), type := 4, pos := "l06_table.go:51", after := #[{ on := 6, ground := Go.Ground.data }, { on := 15, ground := Go.Ground.data }, { on := 3, ground := Go.Ground.guard }], guard := some (3, false) }) rfl (by kernel_rfl) (by kernel_rfl) (by kernel_rfl) (fun _ _ _ h => h) (by rfl) (by assumption) ?_
        try simp only [Act.put, List.setIfInBounds_toArray, List.set_cons_zero, List.set_cons_succ]
        refine wpAnyH_take (i := 17) (oi := { dst := some 29, op := Go.Op.pick (Go.Operand.tmp 15) (Go.Operand.const (Go.Value.bool true)) (Go.Operand.tmp 28), type := 4, pos := "l06_table.go:51", after := #[{ on := 3, ground := Go.Ground.data }, { on := 16, ground := Go.Ground.data }], guard := none }) (v := .bool true) rfl (by kernel_rfl) (by kernel_rfl) (by kernel_rfl) (fun _ _ _ h => h) (Or.inl ⟨by rfl, ?_⟩) (by assumption) ?_
        · intro w8 hS8
          (try dsimp only at hS8)
          go_simp
        try simp only [Act.put, List.setIfInBounds_toArray, List.set_cons_zero, List.set_cons_succ]
        refine wpAnyH_done (by kernel_rfl) ?_ _
        go_wp2
        go_ret
        exact AbPost.no AN.out hH1.2.2.1
      · have DV := Lib.hid D0
        clear D0
        by_cases h0 : k = 0
        · have hz : decide ((0 : Int) < (k : Int)) = false := decide_eq_false (by omega)
          have H0 := Lib.hid h0
          have AN := Lib.hid (HYV.out rfl (fun j e => by omega))
          clear h0
          go_wp2_with fail
          refine wp_region_held_drew (S := fun w' => w'.cell? ⟨wr.heap.size, 0, none⟩ = some (.int .i64 bk.id) ∧ w'.cell? ⟨wr.heap.size, 1, none⟩ = some (.slice rao m rcap) ∧ Kept w w' [(⟨wr.heap.size, 0, none⟩, .int .i64 bk.id), (⟨wr.heap.size, 1, none⟩, .slice rao m rcap)]) (by kernel_rfl) (k2s_start HK.out) (fun hHeld => ?_)
          refine wpAnyH_take (i := 0) (oi := { dst := some 12, op := Go.Op.load 80 (Go.Operand.tmp 4), type := 80, pos := "l06_table.go:51", after := #[], guard := none }) (v := .agg #[.int .i64 bk.id, .slice rao m rcap]) rfl (by kernel_rfl) (by kernel_rfl) (by kernel_rfl) (fun _ _ _ h => h) (Or.inl ⟨by rfl, ?_⟩) (by assumption) ?_
          · intro w8 hS8
            (try dsimp only at hS8)
            go_simp
          try simp only [Act.put, List.setIfInBounds_toArray, List.set_cons_zero, List.set_cons_succ]
          refine wpAnyH_ready (rs := [1]) (by kernel_rfl) (by simp) ?_
          refine AllReadyH.cons (o := { dst := some 13, op := Go.Op.call { callee := Go.Callee.value (Go.Operand.func 110), args := #[Go.Operand.tmp 12], argTypes := #[80] }, type := 4, pos := "l06_table.go:51", after := #[{ on := 0, ground := Go.Ground.data }], guard := none }) rfl (fun K hK => ?_) AllReadyH.nil
          go_simp
          go_at_call 110
          (with_reducible refine (DV.out _ HRD.out).mono ?_)
          rintro e9 w9 ⟨rfl, hb⟩
          refine hK.out _ _ ?_ (fun hH1 => ?_)
          · exact k2s_keep hHeld hb
          clear hK K
          try simp only [Act.put, List.setIfInBounds_toArray, List.set_cons_zero, List.set_cons_succ]
          refine wpAnyH_take (i := 2) (oi := { dst := some 14, op := Go.Op.unOp UnOp.not 4 (Go.Operand.tmp 13), type := 4, pos := "l06_table.go:51", after := #[{ on := 1, ground := Go.Ground.data }], guard := none }) (v := .bool false) rfl (by kernel_rfl) (by kernel_rfl) (by kernel_rfl) (fun _ _ _ h => h) (Or.inl ⟨by rfl, ?_⟩) (by assumption) ?_
          · intro w8 hS8
            (try dsimp only at hS8)
            go_simp
          try simp only [Act.put, List.setIfInBounds_toArray, List.set_cons_zero, List.set_cons_succ]
          refine wpAnyH_take (i := 3) (oi := { dst := some 15, op := Go.Op.move (Go.Operand.tmp 14), type := 4, pos := "l06_table.go:51", after := #[{ on := 2, ground := Go.Ground.data }, { on := 1, ground := Go.Ground.chain }], guard := none }) (v := .bool false) rfl (by kernel_rfl) (by kernel_rfl) (by kernel_rfl) (fun _ _ _ h => h) (Or.inl ⟨by rfl, ?_⟩) (by assumption) ?_
          · intro w8 hS8
            (try dsimp only at hS8)
            go_simp
          try simp only [Act.put, List.setIfInBounds_toArray, List.set_cons_zero, List.set_cons_succ]
          refine wpAnyH_take (i := 4) (oi := { dst := some 16, op := Go.Op.move (Go.Operand.tmp 3), type := 3, pos := "l06_table.go:51", after := #[{ on := 3, ground := Go.Ground.guard }], guard := some (3, false) }) (v := .int .i64 k) rfl (by kernel_rfl) (by kernel_rfl) (by kernel_rfl) (fun _ _ _ h => h) (Or.inl ⟨by rfl, ?_⟩) (by assumption) ?_
          · intro w8 hS8
            (try dsimp only at hS8)
            go_simp
          try simp only [Act.put, List.setIfInBounds_toArray, List.set_cons_zero, List.set_cons_succ]
          refine wpAnyH_take (i := 5) (oi := { dst := some 17, op := Go.Op.binOp BinOp.gtr 3 (Go.Operand.tmp 16) (Go.Operand.const (Go.Value.int Go.IntKind.i64 0)) 3, type := 4, pos := "l06_table.go:51", after := #[{ on := 4, ground := Go.Ground.data }, { on := 3, ground := Go.Ground.guard }], guard := some (3, false) }) (v := .bool false) rfl (by kernel_rfl) (by kernel_rfl) (by kernel_rfl) (fun _ _ _ h => h) (Or.inl ⟨by rfl, ?_⟩) (by assumption) ?_
          · intro w8 hS8
            (try dsimp only at hS8)
            (first | (go_simp; done) | (go_simp; exact H0.out))
          try simp only [Act.put, List.setIfInBounds_toArray, List.set_cons_zero, List.set_cons_succ]
          refine wpAnyH_take (i := 6) (oi := { dst := some 18, op := Go.Op.move (Go.Operand.tmp 17), type := 4, pos := "l06_table.go:51", after := #[{ on := 5, ground := Go.Ground.data }, { on := 3, ground := Go.Ground.chain }, { on := 3, ground := Go.Ground.guard }], guard := some (3, false) }) (v := .bool false) rfl (by kernel_rfl) (by kernel_rfl) (by kernel_rfl) (fun _ _ _ h => h) (Or.inl ⟨by rfl, ?_⟩) (by assumption) ?_
          · intro w8 hS8
            (try dsimp only at hS8)
            go_simp
          try simp only [Act.put, List.setIfInBounds_toArray, List.set_cons_zero, List.set_cons_succ]
          refine held_skip (i := 7) (oi := { dst := some 19, op := Go.Op.move (Go.Operand.tmp 0), type := 30, pos := "l06_table.go:51", after := #[{ on := 6, ground := Go.Ground.guard }], guard := some (6, true) }) rfl (by kernel_rfl) (by kernel_rfl) (by kernel_rfl) (fun _ _ _ h => h) (by rfl) (by assumption) ?_
          try simp only [Act.put, List.setIfInBounds_toArray, List.set_cons_zero, List.set_cons_succ]
          refine held_skip (i := 8) (oi := { dst := some 20, op := Go.Op.move (Go.Operand.tmp 3), type := 3, pos := "l06_table.go:51", after := #[{ on := 6, ground := Go.Ground.guard }], guard := some (6, true) }) rfl (by kernel_rfl) (by kernel_rfl) (by kernel_rfl) (fun _ _ _ h => h) (by rfl) (by assumption) ?_
          try simp only [Act.put, List.setIfInBounds_toArray, List.set_cons_zero, List.set_cons_succ]
          refine held_skip (i := 9) (oi := { dst := some 21, op := Go.Op.binOp BinOp.sub 3 (Go.Operand.tmp 20) (Go.Operand.const (Go.Value.int Go.IntKind.i64 1)) 3, type := 3, pos := "l06_table.go:51", after := #[{ on := 8, ground := Go.Ground.data }, { on := 6, ground := Go.Ground.guard }], guard := some (6, true) }) rfl (by kernel_rfl) (by kernel_rfl) (by kernel_rfl) (fun _ _ _ h => h) (by rfl) (by assumption) ?_
          try simp only [Act.put, List.setIfInBounds_toArray, List.set_cons_zero, List.set_cons_succ]
          refine held_skip (i := 10) (oi := { dst := some 22, op := Go.Op.indexAddr 30 (Go.Operand.tmp 19) (Go.Operand.tmp 21), type := 0, pos := "l06_table.go:51", after := #[{ on := 7, ground := Go.Ground.data }, { on := 9, ground := Go.Ground.data }, { on := 6, ground := Go.Ground.guard }], guard := some (6, true) }) rfl (by kernel_rfl) (by kernel_rfl) (by kernel_rfl) (fun _ _ _ h => h) (by rfl) (by assumption) ?_
          try simp only [Act.put, List.setIfInBounds_toArray, List.set_cons_zero, List.set_cons_succ]
          refine held_skip (i := 11) (oi := { dst := some 23, op := Go.Op.fieldAddr 80 (Go.Operand.tmp 22) 0, type := 0, pos := "l06_table.go:51", after := #[{ on := 10, ground := Go.Ground.data }, { on := 6, ground := Go.Ground.guard }], guard := some (6, true) }) rfl (by kernel_rfl) (by kernel_rfl) (by kernel_rfl) (fun _ _ _ h => h) (by rfl) (by assumption) ?_
          try simp only [Act.put, List.setIfInBounds_toArray, List.set_cons_zero, List.set_cons_succ]
          refine held_skip (i := 12) (oi := { dst := some 24, op := Go.Op.load 3 (Go.Operand.tmp 23), type := 3, pos := "l06_table.go:51", after := #[{ on := 11, ground := Go.Ground.data }, { on := 6, ground := Go.Ground.guard }], guard := some (6, true) }) rfl (by kernel_rfl) (by kernel_rfl) (by kernel_rfl) (fun _ _ _ h => h) (by rfl) (by assumption) ?_
          try simp only [Act.put, List.setIfInBounds_toArray, List.set_cons_zero, List.set_cons_succ]
          refine held_skip (i := 13) (oi := { dst := some 25, op := Go.Op.fieldAddr 80 (Go.Operand.tmp 4) 0, type := 0, pos := "l06_table.go:51", after := #[{ on := 6, ground := Go.Ground.guard }], guard := some (6, true) }) rfl (by kernel_rfl) (by kernel_rfl) (by kernel_rfl) (fun _ _ _ h => h) (by rfl) (by assumption) ?_
          try simp only [Act.put, List.setIfInBounds_toArray, List.set_cons_zero, List.set_cons_succ]
          refine held_skip (i := 14) (oi := { dst := some 26, op := Go.Op.load 3 (Go.Operand.tmp 25), type := 3, pos := "l06_table.go:51", after := #[{ on := 13, ground := Go.Ground.data }, { on := 6, ground := Go.Ground.guard }], guard := some (6, true) }) rfl (by kernel_rfl) (by kernel_rfl) (by kernel_rfl) (fun _ _ _ h => h) (by rfl) (by assumption) ?_
          try simp only [Act.put, List.setIfInBounds_toArray, List.set_cons_zero, List.set_cons_succ]
          refine held_skip (i := 15) (oi := { dst := some 27, op := Go.Op.binOp BinOp.geq 3 (Go.Operand.tmp 24) (Go.Operand.tmp 26) 3, type := 4, pos := "l06_table.go:51", after := #[{ on := 12, ground := Go.Ground.data }, { on := 14, ground := Go.Ground.data }, { on := 6, ground := Go.Ground.guard }], guard := some (6, true) }) rfl (by kernel_rfl) (by kernel_rfl) (by kernel_rfl) (fun _ _ _ h => h) (by rfl) (by assumption) ?_
          try simp only [Act.put, List.setIfInBounds_toArray, List.set_cons_zero, List.set_cons_succ]
          refine wpAnyH_take (i := 16) (oi := { dst := some 28, op := Go.Op.pick (Go.Operand.tmp 18) (Go.Operand.tmp 27) (Go.Operand.const (Go.Value.bool false)), type := 4, pos := "l06_table.go:51", after := #[{ on := 6, ground := Go.Ground.data }, { on := 15, ground := Go.Ground.data }, { on := 3, ground := Go.Ground.guard }], guard := some (3, false) }) (v := .bool false) rfl (by kernel_rfl) (by kernel_rfl) (by kernel_rfl) (fun _ _ _ h => h) (Or.inl ⟨by rfl, ?_⟩) (by assumption) ?_
          · intro w8 hS8
            (try dsimp only at hS8)
            go_simp
          try simp only [Act.put, List.setIfInBounds_toArray, List.set_cons_zero, List.set_cons_succ]
          refine wpAnyH_take (i := 17) (oi := { dst := some 29, op := Go.Op.pick (Go.Operand.tmp 15) (Go.Operand.const (Go.Value.bool true)) (Go.Operand.tmp 28), type := 4, pos := "l06_table.go:51", after := #[{ on := 3, ground := Go.Ground.data }, { on := 16, ground := Go.Ground.data }], guard := none }) (v := .bool false) rfl (by kernel_rfl) (by kernel_rfl) (by kernel_rfl) (fun _ _ _ h => h) (Or.inl ⟨by rfl, ?_⟩) (by assumption) ?_
          · intro w8 hS8
            (try dsimp only at hS8)
            go_simp
          try simp only [Act.put, List.setIfInBounds_toArray, List.set_cons_zero, List.set_cons_succ]
          refine wpAnyH_done (by kernel_rfl) ?_ _
          have HG2 := Lib.hid hH1.2.2
          go_wp2
          go_roundw
          case rel => exact ⟨k + 1, by omega, by go_num, AN, HG2.out.1⟩
          case measure => simp [intOf]; omega
        · obtain ⟨j, hm⟩ : ∃ j, k = j + 1 := ⟨k - 1, by omega⟩
          obtain ⟨_, _, p0, _, _⟩ := HPV.out j (by omega)
          have HLT := Lib.hid (show (Bn l j).id < bk.id → BlksOk l (k + 1) from fun h1 => HYV.out rfl (fun i e => by
            obtain rfl : i = j := by omega
            rw [e, ← HBK.out]; exact h1))
          have HGE := Lib.hid (HNO.out j hm)
          obtain ⟨pid, hpid⟩ : ∃ p, p = (Bn l j).id := ⟨_, rfl⟩
          rw [← hpid] at p0 HLT HGE
          have HM := Lib.hid (show (wr.alloc (.cells #[.int .i64 bk.id, .slice rao m rcap] 80)).cell? ⟨g, j * 2, none⟩ = some (.int .i64 pid) from cell_alloc_some _ ((HB.out.cell (p := ⟨g, j * 2, none⟩) hg).trans p0))
          have hz : 0 < k := by omega
          have hw9 : IntKind.i64.wrap ((k : Int) - 1) = (j : Int) := by rw [IntWalk.i64_in _ (by omega)]; omega
          have hmI : (j : Int) < (n : Int) := by omega
          have hm0 : (0 : Int) ≤ (j : Int) := by omega
          have HMK := Lib.hid hm
          clear h0 p0 hpid
          by_cases hl : pid < bk.id
          · have hq : decide (bk.id ≤ pid) = false := decide_eq_false (by omega)
            have AN := Lib.hid (HLT.out hl)
            clear hl hm
            go_wp2_with fail
            (first | go_region_held3 (fun w' => w'.cell? ⟨wr.heap.size, 0, none⟩ = some (.int .i64 bk.id) ∧ w'.cell? ⟨wr.heap.size, 1, none⟩ = some (.slice rao m rcap) ∧ w'.cell? ⟨g, j * 2, none⟩ = some (.int .i64 pid) ∧ Kept w w' [(⟨wr.heap.size, 0, none⟩, .int .i64 bk.id), (⟨wr.heap.size, 1, none⟩, .slice rao m rcap)]) (first | assumption | exact k3s_start HK.out HM.out | exact k3s_keep (by assumption) (by assumption)) (first | (go_simp; go_at_call 110; (with_reducible refine (DV.out _ ?_).mono ?_); (exact HRD.out); rintro e9 w9 ⟨rfl, hb⟩)) | fail)
            all_goals
              have HG2 := Lib.hid (‹_ ∧ _ ∧ _ ∧ Kept w w9 _›.2.2.2)
              clear hw9
              go_wp2
              go_roundw
              case rel => exact ⟨k + 1, by omega, by go_num, AN, HG2.out.1⟩
              case measure => simp [intOf]; omega
          · have hq : decide (bk.id ≤ pid) = true := decide_eq_true (by omega)
            have AN := Lib.hid (HGE.out hl)
            clear hl hm
            go_wp2_with fail
            (first | go_region_held3 (fun w' => w'.cell? ⟨wr.heap.size, 0, none⟩ = some (.int .i64 bk.id) ∧ w'.cell? ⟨wr.heap.size, 1, none⟩ = some (.slice rao m rcap) ∧ w'.cell? ⟨g, j * 2, none⟩ = some (.int .i64 pid) ∧ Kept w w' [(⟨wr.heap.size, 0, none⟩, .int .i64 bk.id), (⟨wr.heap.size, 1, none⟩, .slice rao m rcap)]) (first | assumption | exact k3s_start HK.out HM.out | exact k3s_keep (by assumption) (by assumption)) (first | (go_simp; go_at_call 110; (with_reducible refine (DV.out _ ?_).mono ?_); (exact HRD.out); rintro e9 w9 ⟨rfl, hb⟩)) | fail)
            all_goals
              have HG2 := Lib.hid (‹_ ∧ _ ∧ _ ∧ Kept w w9 _›.2.2.2)
              clear hw9
              go_wp2
              go_ret
              exact AbPost.no AN.out HG2.out.1
    · obtain rfl : k = n := by omega
      have hsd : decide ((k : Int) < (k : Int)) = false := decide_eq_false (by omega)
      go_wp2
      go_ret
      exact AbPost.yes HA.out HB.out
end Go.Proofs.Ytcfcohnkkgickaa
