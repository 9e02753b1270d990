/-
  The walk over the model's IsValidTable.
-/
import Derived.Test.YtcfcohnkkgickaaRows
import Derived.Test.YtcfcohnkkgickaaMgB
import Derived.Test.YtcfcohnkkgickaaMgA
import Derived.Deep.RegionHeld3
namespace Go.Proofs.Ytcfcohnkkgickaa
open Go.RowKit Num

theorem first_min {p : Nat → Prop} : ∀ (i : Nat), p i → ∃ m, m ≤ i ∧ p m ∧ ∀ j, j < m → ¬ p j := fun i => by
  induction i using Nat.strongRecOn with
  | ind i ih =>
    intro hp
    by_cases h : ∃ j, j < i ∧ p j
    · obtain ⟨j, hj, hpj⟩ := h
      obtain ⟨m, hm, h1, h2⟩ := ih j hj hpj
      exact ⟨m, by omega, h1, h2⟩
    · exact ⟨i, Nat.le_refl _, hp, fun j hj hpj => h ⟨j, hj, hpj⟩⟩
theorem firstAns_here {p : Nat → Prop} {n k : Nat} (hk : k < n) (hp : p k) (h : ∀ i, i < k → ¬ p i) : FirstAns p n (k : Int) := .inl ⟨k, hk, hp, h, rfl⟩
theorem firstAns_less {p : Nat → Prop} {n k : Nat} (hk : k < n) (h : ∃ i, i < k ∧ p i) : ∃ v : Int, FirstAns p n v ∧ v ≠ (k : Int) := by
  obtain ⟨i, hi, hp⟩ := h
  obtain ⟨m, hm, h1, h2⟩ := first_min i hp
  exact ⟨m, .inl ⟨m, by omega, h1, h2, rfl⟩, by omega⟩

/-- What IsValidTable answers. -/
def TvPost (ver : Int) (l : List Blk) (n : Nat) (w : World) (e : Ending) (w' : World) : Prop := ∃ v : Bool, (v = true ↔ TblOk ver l n) ∧ e = .returned (.bool v) ∧ Below w.heap.size w w'
theorem TvPost.no {ver : Int} {l : List Blk} {n : Nat} {w w' : World} (h : ¬ TblOk ver l n) (hb : Below w.heap.size w w') : TvPost ver l n w (.returned (.bool false)) w' := ⟨false, ⟨(fun h9 => by cases h9), fun k => absurd k h⟩, rfl, hb⟩
theorem TvPost.yes {ver : Int} {l : List Blk} {n : Nat} {w w' : World} (h : TblOk ver l n) (hb : Below w.heap.size w w') : TvPost ver l n w (.returned (.bool true)) w' := ⟨true, ⟨fun _ => h, fun _ => rfl⟩, rfl, hb⟩
theorem tv_iff {ver : Int} {l : List Blk} {n : Nat} {v v' : Bool} (h : v = true ↔ TblOk ver l n) (h' : v' = true ↔ TblOk ver l n) : v = v' := by
  cases v <;> cases v'
  · rfl
  · exact absurd (h.2 (h'.1 rfl)) (by simp)
  · exact absurd (h'.2 (h.1 rfl)) (by simp)
  · rfl

/-! What a region keeps. -/
theorem tk2_start {W w : World} {a0 a1 t0 t1 : Addr} {v0 v1 u0 u1 : Value} (h : Kept W w [(a0, v0), (a1, v1), (t0, u0), (t1, u1)]) : w.drew.cell? a0 = some v0 ∧ w.drew.cell? a1 = some v1 ∧ Kept W w.drew [(a0, v0), (a1, v1), (t0, u0), (t1, u1)] :=
  have k := h.drew
  ⟨k.get 0 rfl, k.get 1 rfl, k⟩
theorem tk2_keep {W w w' : World} {a0 a1 t0 t1 : Addr} {v0 v1 u0 u1 : Value} (h : w.cell? a0 = some v0 ∧ w.cell? a1 = some v1 ∧ Kept W w [(a0, v0), (a1, v1), (t0, u0), (t1, u1)]) (hb : Below w.heap.size w w') : w'.cell? a0 = some v0 ∧ w'.cell? a1 = some v1 ∧ Kept W w' [(a0, v0), (a1, v1), (t0, u0), (t1, u1)] :=
  have k := h.2.2.step hb
  ⟨k.get 0 rfl, k.get 1 rfl, k⟩
theorem tk4_start {W w : World} {a0 a1 t0 t1 x : Addr} {v0 v1 u0 u1 y : Value} (h : Kept W w [(a0, v0), (a1, v1), (t0, u0), (t1, u1)]) (ha : w.cell? x = some y) : w.drew.cell? a0 = some v0 ∧ w.drew.cell? a1 = some v1 ∧ w.drew.cell? t1 = some u1 ∧ w.drew.cell? x = some y ∧ Kept W w.drew [(a0, v0), (a1, v1), (t0, u0), (t1, u1)] :=
  have k := h.drew
  ⟨k.get 0 rfl, k.get 1 rfl, k.get 3 rfl, ha, k⟩
theorem tk4_keep {W w w' : World} {a0 a1 t0 t1 x : Addr} {v0 v1 u0 u1 y : Value} (h : w.cell? a0 = some v0 ∧ w.cell? a1 = some v1 ∧ w.cell? t1 = some u1 ∧ w.cell? x = some y ∧ Kept W w [(a0, v0), (a1, v1), (t0, u0), (t1, u1)]) (hb : Below w.heap.size w w') : w'.cell? a0 = some v0 ∧ w'.cell? a1 = some v1 ∧ w'.cell? t1 = some u1 ∧ w'.cell? x = some y ∧ Kept W w' [(a0, v0), (a1, v1), (t0, u0), (t1, u1)] :=
  have k := h.2.2.2.2.step hb
  ⟨k.get 0 rfl, k.get 1 rfl, k.get 3 rfl, by rw [hb.cell (World.block_lt_of_cell? w _ h.2.2.2.1)]; exact h.2.2.2.1, k⟩
theorem tq4_start {W w : World} {a0 a1 t0 t1 x : Addr} {v0 v1 u0 u1 y : Value} (h : Kept W w [(a0, v0), (a1, v1), (t0, u0), (t1, u1)]) (ha : w.cell? x = some y) : w.drew.cell? t0 = some u0 ∧ w.drew.cell? t1 = some u1 ∧ w.drew.cell? a1 = some v1 ∧ w.drew.cell? x = some y ∧ Kept W w.drew [(a0, v0), (a1, v1), (t0, u0), (t1, u1)] :=
  have k := h.drew
  ⟨k.get 2 rfl, k.get 3 rfl, k.get 1 rfl, ha, k⟩
theorem tq4_keep {W w w' : World} {a0 a1 t0 t1 x : Addr} {v0 v1 u0 u1 y : Value} (h : w.cell? t0 = some u0 ∧ w.cell? t1 = some u1 ∧ w.cell? a1 = some v1 ∧ w.cell? x = some y ∧ Kept W w [(a0, v0), (a1, v1), (t0, u0), (t1, u1)]) (hb : Below w.heap.size w w') : w'.cell? t0 = some u0 ∧ w'.cell? t1 = some u1 ∧ w'.cell? a1 = some v1 ∧ w'.cell? x = some y ∧ Kept W w' [(a0, v0), (a1, v1), (t0, u0), (t1, u1)] :=
  have k := h.2.2.2.2.step hb
  ⟨k.get 2 rfl, k.get 3 rfl, k.get 1 rfl, by rw [hb.cell (World.block_lt_of_cell? w _ h.2.2.2.1)]; exact h.2.2.2.1, k⟩

set_option maxRecDepth 8000 in
set_option maxHeartbeats 12800000 in
theorem spec_tv (ver : Int) (ao : Option Addr) (n cap : Nat) (l : List Blk) (w : World) (hl : l.length = n) (hn : n ≤ 1048576) (hr : ∀ k, k < n → (Bn l k).rows.length ≤ 1048576) (hV : BlksVal w ao l) :
    Calls Try.prog 76 #[.agg #[.int .i64 ver, .slice ao n cap]] w (TvPost ver l n w) := by
  have HV := Lib.hid hV
  have HL := Lib.hid hl
  have HR := Lib.hid hr
  clear hV hl hr
  have hnI : (n : Int) ≤ 1048576 := by omega
  go_enter Try.func76, Try.ntmps76
  go_wp2_with fail
  have K0 := (Kept.start w).alloc2 (.int .i64 ver) (.slice ao n cap) 32 _ rfl
  go_loopw [3] (fun iv wr => ∃ k : Nat, k ≤ n ∧ iv = .int .i64 k ∧ Hid (BlksOk l k) ∧ Hid (UniqR l k) ∧ Hid (Kept w wr [(⟨w.heap.size, 0, none⟩, .int .i64 ver), (⟨w.heap.size, 1, none⟩, .slice ao n cap)])) (fun iv _ => n - (intOf iv).toNat)
  case atStart => exact ⟨0, Nat.zero_le _, rfl, Lib.hid (BlksOk.zero l), Lib.hid (UniqR.zero l), K0⟩
  case round =>
    clear K0
    obtain ⟨k, hk, rfl, HA, HU, HK⟩ := hrel
    have b0 := HK.out.get 0 rfl
    have b1 := HK.out.get 1 rfl
    by_cases hlt : k < n
    · have hkI : (k : Int) < (n : Int) := by omega
      have kk := HK.out.1
      obtain ⟨g, rfl, hg, hBk⟩ := HV.out.head HL.out (by omega)
      obtain ⟨rao, rcap, c0, c1, hRV0⟩ := hBk k hlt
      have hRV := hRV0.below kk
      have c0 := (kk.cell (p := ⟨g, k * 2, none⟩) hg).trans c0
      have c1 := (kk.cell (p := ⟨g, k * 2 + 1, none⟩) hg).trans c1
      have HRW := Lib.hid hRV0
      have hrl := HR.out k hlt
      have HNV := Lib.hid (show bkB l k = false → ¬ TblOk ver l n from fun h1 h2 => by have := h2.2.2.1.1 k hlt; rw [h1] at this; cases this)
      have HYV := Lib.hid (show bkB l k = true → (∀ j, j + 1 = k → (Bn l j).id < (Bn l (j + 1)).id) → BlksOk l (k + 1) from fun h1 h2 => HA.out.succ h1 h2)
      have HNO := Lib.hid (show ∀ j, k = j + 1 → ¬ (Bn l j).id < (Bn l k).id → ¬ TblOk ver l n from fun j e h1 h2 => by subst e; exact h1 (h2.2.2.1.2 j hlt))
      have HUN := Lib.hid (show ∀ x, HasRow (Bn l k).rows x → (∃ i, i < k ∧ HasRow (Bn l i).rows x) → ¬ TblOk ver l n from fun x h1 ⟨i, hi, h2⟩ h3 => h3.2.2.2 k hlt i hi x h1 h2)
      have HUS := Lib.hid (show (∀ i, i < k → ∀ x, HasRow (Bn l k).rows x → ¬ HasRow (Bn l i).rows x) → UniqR l (k + 1) from fun h => HU.out.succ h)
      have HHR := Lib.hid (show ∀ x, HasRow (Bn l k).rows x → (∀ i, i < k → ¬ HasRow (Bn l i).rows x) → FirstAns (fun k => HasRow (Bn l k).rows x) n (k : Int) from fun x h1 h2 => firstAns_here hlt h1 h2)
      have D0 := fun w hV => spec_bvV (Bn l k).id rao (Bn l k).rows.length rcap (Rn (Bn l k).rows) w hrl hV
      rw [show blkB (Bn l k).id (Bn l k).rows.length (Rn (Bn l k).rows) = bkB l k from rfl] at D0
      obtain ⟨vb, hvb⟩ : ∃ vb, vb = bkB l k := ⟨_, rfl⟩
      rw [← hvb] at HNV HYV D0
      obtain ⟨bk, hbk⟩ : ∃ bk, bk = Bn l k := ⟨_, rfl⟩
      have HBK := Lib.hid hbk
      rw [← hbk] at c0 c1 hRV HRW hrl HNO D0 HUN HUS HHR
      obtain ⟨m, hm⟩ : ∃ m, m = bk.rows.length := ⟨_, rfl⟩
      have HM := Lib.hid hm
      rw [← hm] at c1 hRV HRW hrl D0
      have hB0 := (Below.refl wr.heap.size wr).alloc (Nat.le_refl _) (.cells #[.int .i64 bk.id, .slice rao m rcap] 80)
      have HRD := Lib.hid (show RowsVal (wr.alloc (.cells #[.int .i64 bk.id, .slice rao m rcap] 80)).drew rao m (Rn bk.rows) from hRV.below hB0.drew)
      obtain ⟨bx, hbx⟩ : ∃ bx, wr.heap.size = bx := ⟨_, rfl⟩
      have HKB := Lib.hid (show Kept w (wr.alloc (.cells #[.int .i64 bk.id, .slice rao m rcap] 80)) [(⟨bx, 0, none⟩, .int .i64 bk.id), (⟨bx, 1, none⟩, .slice rao m rcap), (⟨w.heap.size, 0, none⟩, .int .i64 ver), (⟨w.heap.size, 1, none⟩, .slice (some ⟨g, 0, none⟩) n cap)] from HK.out.alloc2 _ _ _ _ hbx)
      have HPV := Lib.hid hBk
      have hmI : (m : Int) ≤ 1048576 := by omega
      clear hB0 hRV hRV0 hvb hbk hm hBk kk
      cases vb
      · have AN := Lib.hid (HNV.out rfl)
        have DV := Lib.hid D0
        clear D0
        go_wp2_with fail
        try rw [hbx]
        refine wp_region_held_drew (S := fun w' => w'.cell? ⟨bx, 0, none⟩ = some (.int .i64 bk.id) ∧ w'.cell? ⟨bx, 1, none⟩ = some (.slice rao m rcap) ∧ Kept w w' [(⟨bx, 0, none⟩, .int .i64 bk.id), (⟨bx, 1, none⟩, .slice rao m rcap), (⟨w.heap.size, 0, none⟩, .int .i64 ver), (⟨w.heap.size, 1, none⟩, .slice (some ⟨g, 0, none⟩) n cap)]) (by kernel_rfl) (tk2_start HKB.out) (fun hHeld => ?_)
        refine wpAnyH_take (i := 0) (oi := { dst := some 18, op := Go.Op.load 80 (Go.Operand.tmp 4), type := 80, pos := "l06_table.go:28", after := #[], guard := none }) (v := .agg #[.int .i64 bk.id, .slice rao m rcap]) rfl (by kernel_rfl) (by kernel_rfl) (by kernel_rfl) (fun _ _ _ h => h) (Or.inl ⟨by rfl, ?_⟩) (by assumption) ?_
        · intro w8 hS8
          (try dsimp only at hS8)
          go_simp
        try simp only [Act.put, List.setIfInBounds_toArray, List.set_cons_zero, List.set_cons_succ]
        refine wpAnyH_ready (rs := [1]) (by kernel_rfl) (by simp) ?_
        refine AllReadyH.cons (o := { dst := some 19, op := Go.Op.call { callee := Go.Callee.value (Go.Operand.func 108), args := #[Go.Operand.tmp 18], argTypes := #[80] }, type := 4, pos := "l06_table.go:28", after := #[{ on := 0, ground := Go.Ground.data }], guard := none }) rfl (fun K hK => ?_) AllReadyH.nil
        go_simp
        go_at_call 108
        (with_reducible refine (DV.out _ HRD.out).mono ?_)
        rintro e9 w9 ⟨rfl, hb⟩
        refine hK.out _ _ ?_ (fun hH1 => ?_)
        · exact tk2_keep hHeld hb
        clear hK K
        try simp only [Act.put, List.setIfInBounds_toArray, List.set_cons_zero, List.set_cons_succ]
        refine wpAnyH_take (i := 2) (oi := { dst := some 20, op := Go.Op.unOp UnOp.not 4 (Go.Operand.tmp 19), type := 4, pos := "l06_table.go:28", after := #[{ on := 1, ground := Go.Ground.data }], guard := none }) (v := .bool true) rfl (by kernel_rfl) (by kernel_rfl) (by kernel_rfl) (fun _ _ _ h => h) (Or.inl ⟨by rfl, ?_⟩) (by assumption) ?_
        · intro w8 hS8
          (try dsimp only at hS8)
          go_simp
        try simp only [Act.put, List.setIfInBounds_toArray, List.set_cons_zero, List.set_cons_succ]
        refine wpAnyH_take (i := 3) (oi := { dst := some 21, op := Go.Op.move (Go.Operand.tmp 20), type := 4, pos := "l06_table.go:28", after := #[{ on := 2, ground := Go.Ground.data }, { on := 1, ground := Go.Ground.chain }], guard := none }) (v := .bool true) rfl (by kernel_rfl) (by kernel_rfl) (by kernel_rfl) (fun _ _ _ h => h) (Or.inl ⟨by rfl, ?_⟩) (by assumption) ?_
        · intro w8 hS8
          (try dsimp only at hS8)
          go_simp
        try simp only [Act.put, List.setIfInBounds_toArray, List.set_cons_zero, List.set_cons_succ]
        refine held_skip (i := 4) (oi := { dst := some 22, op := Go.Op.move (Go.Operand.tmp 3), type := 3, pos := "l06_table.go:28", after := #[{ on := 3, ground := Go.Ground.guard }], guard := some (3, false) }) rfl (by kernel_rfl) (by kernel_rfl) (by kernel_rfl) (fun _ _ _ h => h) (by rfl) (by assumption) ?_
        try simp only [Act.put, List.setIfInBounds_toArray, List.set_cons_zero, List.set_cons_succ]
        refine held_skip (i := 5) (oi := { dst := some 23, op := Go.Op.binOp BinOp.gtr 3 (Go.Operand.tmp 22) (Go.Operand.const (Go.Value.int Go.IntKind.i64 0)) 3, type := 4, pos := "l06_table.go:28", after := #[{ on := 4, ground := Go.Ground.data }, { on := 3, ground := Go.Ground.guard }], guard := some (3, false) }) rfl (by kernel_rfl) (by kernel_rfl) (by kernel_rfl) (fun _ _ _ h => h) (by rfl) (by assumption) ?_
        try simp only [Act.put, List.setIfInBounds_toArray, List.set_cons_zero, List.set_cons_succ]
        refine held_skip (i := 6) (oi := { dst := some 24, op := Go.Op.move (Go.Operand.tmp 23), type := 4, pos := "l06_table.go:28", after := #[{ on := 5, ground := Go.Ground.data }, { on := 3, ground := Go.Ground.chain }, { on := 3, ground := Go.Ground.guard }], guard := some (3, false) }) rfl (by kernel_rfl) (by kernel_rfl) (by kernel_rfl) (fun _ _ _ h => h) (by rfl) (by assumption) ?_
        try simp only [Act.put, List.setIfInBounds_toArray, List.set_cons_zero, List.set_cons_succ]
        refine held_skip (i := 7) (oi := { dst := some 25, op := Go.Op.fieldAddr 32 (Go.Operand.tmp 1) 1, type := 0, pos := "l06_table.go:28", after := #[{ on := 6, ground := Go.Ground.guard }], guard := some (6, true) }) rfl (by kernel_rfl) (by kernel_rfl) (by kernel_rfl) (fun _ _ _ h => h) (by rfl) (by assumption) ?_
        try simp only [Act.put, List.setIfInBounds_toArray, List.set_cons_zero, List.set_cons_succ]
        refine held_skip (i := 8) (oi := { dst := some 26, op := Go.Op.load 30 (Go.Operand.tmp 25), type := 30, pos := "l06_table.go:28", after := #[{ on := 7, ground := Go.Ground.data }, { on := 6, ground := Go.Ground.guard }], guard := some (6, true) }) rfl (by kernel_rfl) (by kernel_rfl) (by kernel_rfl) (fun _ _ _ h => h) (by rfl) (by assumption) ?_
        try simp only [Act.put, List.setIfInBounds_toArray, List.set_cons_zero, List.set_cons_succ]
        refine held_skip (i := 9) (oi := { dst := some 27, op := Go.Op.move (Go.Operand.tmp 3), type := 3, pos := "l06_table.go:28", after := #[{ on := 6, ground := Go.Ground.guard }], guard := some (6, true) }) rfl (by kernel_rfl) (by kernel_rfl) (by kernel_rfl) (fun _ _ _ h => h) (by rfl) (by assumption) ?_
        try simp only [Act.put, List.setIfInBounds_toArray, List.set_cons_zero, List.set_cons_succ]
        refine held_skip (i := 10) (oi := { dst := some 28, op := Go.Op.binOp BinOp.sub 3 (Go.Operand.tmp 27) (Go.Operand.const (Go.Value.int Go.IntKind.i64 1)) 3, type := 3, pos := "l06_table.go:28", after := #[{ on := 9, ground := Go.Ground.data }, { on := 6, ground := Go.Ground.guard }], guard := some (6, true) }) rfl (by kernel_rfl) (by kernel_rfl) (by kernel_rfl) (fun _ _ _ h => h) (by rfl) (by assumption) ?_
        try simp only [Act.put, List.setIfInBounds_toArray, List.set_cons_zero, List.set_cons_succ]
        refine held_skip (i := 11) (oi := { dst := some 29, op := Go.Op.indexAddr 30 (Go.Operand.tmp 26) (Go.Operand.tmp 28), type := 0, pos := "l06_table.go:28", after := #[{ on := 8, ground := Go.Ground.data }, { on := 10, ground := Go.Ground.data }, { on := 6, ground := Go.Ground.guard }], guard := some (6, true) }) rfl (by kernel_rfl) (by kernel_rfl) (by kernel_rfl) (fun _ _ _ h => h) (by rfl) (by assumption) ?_
        try simp only [Act.put, List.setIfInBounds_toArray, List.set_cons_zero, List.set_cons_succ]
        refine held_skip (i := 12) (oi := { dst := some 30, op := Go.Op.fieldAddr 80 (Go.Operand.tmp 29) 0, type := 0, pos := "l06_table.go:28", after := #[{ on := 11, ground := Go.Ground.data }, { on := 6, ground := Go.Ground.guard }], guard := some (6, true) }) rfl (by kernel_rfl) (by kernel_rfl) (by kernel_rfl) (fun _ _ _ h => h) (by rfl) (by assumption) ?_
        try simp only [Act.put, List.setIfInBounds_toArray, List.set_cons_zero, List.set_cons_succ]
        refine held_skip (i := 13) (oi := { dst := some 31, op := Go.Op.load 3 (Go.Operand.tmp 30), type := 3, pos := "l06_table.go:28", after := #[{ on := 12, ground := Go.Ground.data }, { on := 6, ground := Go.Ground.guard }], guard := some (6, true) }) rfl (by kernel_rfl) (by kernel_rfl) (by kernel_rfl) (fun _ _ _ h => h) (by rfl) (by assumption) ?_
        try simp only [Act.put, List.setIfInBounds_toArray, List.set_cons_zero, List.set_cons_succ]
        refine held_skip (i := 14) (oi := { dst := some 32, op := Go.Op.fieldAddr 80 (Go.Operand.tmp 4) 0, type := 0, pos := "l06_table.go:28", after := #[{ on := 6, ground := Go.Ground.guard }], guard := some (6, true) }) rfl (by kernel_rfl) (by kernel_rfl) (by kernel_rfl) (fun _ _ _ h => h) (by rfl) (by assumption) ?_
        try simp only [Act.put, List.setIfInBounds_toArray, List.set_cons_zero, List.set_cons_succ]
        refine held_skip (i := 15) (oi := { dst := some 33, op := Go.Op.load 3 (Go.Operand.tmp 32), type := 3, pos := "l06_table.go:28", after := #[{ on := 14, ground := Go.Ground.data }, { on := 6, ground := Go.Ground.guard }], guard := some (6, true) }) rfl (by kernel_rfl) (by kernel_rfl) (by kernel_rfl) (fun _ _ _ h => h) (by rfl) (by assumption) ?_
        try simp only [Act.put, List.setIfInBounds_toArray, List.set_cons_zero, List.set_cons_succ]
        refine held_skip (i := 16) (oi := { dst := some 34, op := Go.Op.binOp BinOp.geq 3 (Go.Operand.tmp 31) (Go.Operand.tmp 33) 3, type := 4, pos := "l06_table.go:28", after := #[{ on := 13, ground := Go.Ground.data }, { on := 15, ground := Go.Ground.data }, { on := 6, ground := Go.Ground.guard }], guard := some (6, true) }) rfl (by kernel_rfl) (by kernel_rfl) (by kernel_rfl) (fun _ _ _ h => h) (by rfl) (by assumption) ?_
        try simp only [Act.put, List.setIfInBounds_toArray, List.set_cons_zero, List.set_cons_succ]
        refine held_skip (i := 17) (oi := { dst := some 35, op := Go.Op.pick (Go.Operand.tmp 24) (Go.Operand.tmp 34) (Go.Operand.const (Go.Value.bool false)), type := 4, pos := "l06_table.go:28", after := #[{ on := 6, ground := Go.Ground.data }, { on := 16, ground := Go.Ground.data }, { on := 3, ground := Go.Ground.guard }], guard := some (3, false) }) rfl (by kernel_rfl) (by kernel_rfl) (by kernel_rfl) (fun _ _ _ h => h) (by rfl) (by assumption) ?_
        try simp only [Act.put, List.setIfInBounds_toArray, List.set_cons_zero, List.set_cons_succ]
        refine wpAnyH_take (i := 18) (oi := { dst := some 36, op := Go.Op.pick (Go.Operand.tmp 21) (Go.Operand.const (Go.Value.bool true)) (Go.Operand.tmp 35), type := 4, pos := "l06_table.go:28", after := #[{ on := 3, ground := Go.Ground.data }, { on := 17, ground := Go.Ground.data }], guard := none }) (v := .bool true) rfl (by kernel_rfl) (by kernel_rfl) (by kernel_rfl) (fun _ _ _ h => h) (Or.inl ⟨by rfl, ?_⟩) (by assumption) ?_
        · intro w8 hS8
          (try dsimp only at hS8)
          go_simp
        try simp only [Act.put, List.setIfInBounds_toArray, List.set_cons_zero, List.set_cons_succ]
        refine wpAnyH_done (by kernel_rfl) ?_ _
        go_wp2
        go_ret
        exact TvPost.no AN.out hH1.2.2.1
      · have DV := Lib.hid D0
        clear D0
        by_cases h0 : k = 0
        · have hz : decide ((0 : Int) < (k : Int)) = false := decide_eq_false (by omega)
          have H0 := Lib.hid h0
          have AN := Lib.hid (HYV.out rfl (fun j e => by omega))
          clear h0
          go_wp2_with fail
          try rw [hbx]
          refine wp_region_held_drew (S := fun w' => w'.cell? ⟨bx, 0, none⟩ = some (.int .i64 bk.id) ∧ w'.cell? ⟨bx, 1, none⟩ = some (.slice rao m rcap) ∧ Kept w w' [(⟨bx, 0, none⟩, .int .i64 bk.id), (⟨bx, 1, none⟩, .slice rao m rcap), (⟨w.heap.size, 0, none⟩, .int .i64 ver), (⟨w.heap.size, 1, none⟩, .slice (some ⟨g, 0, none⟩) n cap)]) (by kernel_rfl) (tk2_start HKB.out) (fun hHeld => ?_)
          refine wpAnyH_take (i := 0) (oi := { dst := some 18, op := Go.Op.load 80 (Go.Operand.tmp 4), type := 80, pos := "l06_table.go:28", after := #[], guard := none }) (v := .agg #[.int .i64 bk.id, .slice rao m rcap]) rfl (by kernel_rfl) (by kernel_rfl) (by kernel_rfl) (fun _ _ _ h => h) (Or.inl ⟨by rfl, ?_⟩) (by assumption) ?_
          · intro w8 hS8
            (try dsimp only at hS8)
            go_simp
          try simp only [Act.put, List.setIfInBounds_toArray, List.set_cons_zero, List.set_cons_succ]
          refine wpAnyH_ready (rs := [1]) (by kernel_rfl) (by simp) ?_
          refine AllReadyH.cons (o := { dst := some 19, op := Go.Op.call { callee := Go.Callee.value (Go.Operand.func 108), args := #[Go.Operand.tmp 18], argTypes := #[80] }, type := 4, pos := "l06_table.go:28", after := #[{ on := 0, ground := Go.Ground.data }], guard := none }) rfl (fun K hK => ?_) AllReadyH.nil
          go_simp
          go_at_call 108
          (with_reducible refine (DV.out _ HRD.out).mono ?_)
          rintro e9 w9 ⟨rfl, hb⟩
          refine hK.out _ _ ?_ (fun hH1 => ?_)
          · exact tk2_keep hHeld hb
          clear hK K
          try simp only [Act.put, List.setIfInBounds_toArray, List.set_cons_zero, List.set_cons_succ]
          refine wpAnyH_take (i := 2) (oi := { dst := some 20, op := Go.Op.unOp UnOp.not 4 (Go.Operand.tmp 19), type := 4, pos := "l06_table.go:28", after := #[{ on := 1, ground := Go.Ground.data }], guard := none }) (v := .bool false) rfl (by kernel_rfl) (by kernel_rfl) (by kernel_rfl) (fun _ _ _ h => h) (Or.inl ⟨by rfl, ?_⟩) (by assumption) ?_
          · intro w8 hS8
            (try dsimp only at hS8)
            go_simp
          try simp only [Act.put, List.setIfInBounds_toArray, List.set_cons_zero, List.set_cons_succ]
          refine wpAnyH_take (i := 3) (oi := { dst := some 21, op := Go.Op.move (Go.Operand.tmp 20), type := 4, pos := "l06_table.go:28", after := #[{ on := 2, ground := Go.Ground.data }, { on := 1, ground := Go.Ground.chain }], guard := none }) (v := .bool false) rfl (by kernel_rfl) (by kernel_rfl) (by kernel_rfl) (fun _ _ _ h => h) (Or.inl ⟨by rfl, ?_⟩) (by assumption) ?_
          · intro w8 hS8
            (try dsimp only at hS8)
            go_simp
          try simp only [Act.put, List.setIfInBounds_toArray, List.set_cons_zero, List.set_cons_succ]
          refine wpAnyH_take (i := 4) (oi := { dst := some 22, op := Go.Op.move (Go.Operand.tmp 3), type := 3, pos := "l06_table.go:28", after := #[{ on := 3, ground := Go.Ground.guard }], guard := some (3, false) }) (v := .int .i64 k) rfl (by kernel_rfl) (by kernel_rfl) (by kernel_rfl) (fun _ _ _ h => h) (Or.inl ⟨by rfl, ?_⟩) (by assumption) ?_
          · intro w8 hS8
            (try dsimp only at hS8)
            go_simp
          try simp only [Act.put, List.setIfInBounds_toArray, List.set_cons_zero, List.set_cons_succ]
          refine wpAnyH_take (i := 5) (oi := { dst := some 23, op := Go.Op.binOp BinOp.gtr 3 (Go.Operand.tmp 22) (Go.Operand.const (Go.Value.int Go.IntKind.i64 0)) 3, type := 4, pos := "l06_table.go:28", after := #[{ on := 4, ground := Go.Ground.data }, { on := 3, ground := Go.Ground.guard }], guard := some (3, false) }) (v := .bool false) rfl (by kernel_rfl) (by kernel_rfl) (by kernel_rfl) (fun _ _ _ h => h) (Or.inl ⟨by rfl, ?_⟩) (by assumption) ?_
          · intro w8 hS8
            (try dsimp only at hS8)
            (first | (go_simp; done) | (go_simp; exact H0.out))
          try simp only [Act.put, List.setIfInBounds_toArray, List.set_cons_zero, List.set_cons_succ]
          refine wpAnyH_take (i := 6) (oi := { dst := some 24, op := Go.Op.move (Go.Operand.tmp 23), type := 4, pos := "l06_table.go:28", after := #[{ on := 5, ground := Go.Ground.data }, { on := 3, ground := Go.Ground.chain }, { on := 3, ground := Go.Ground.guard }], guard := some (3, false) }) (v := .bool false) rfl (by kernel_rfl) (by kernel_rfl) (by kernel_rfl) (fun _ _ _ h => h) (Or.inl ⟨by rfl, ?_⟩) (by assumption) ?_
          · intro w8 hS8
            (try dsimp only at hS8)
            go_simp
          try simp only [Act.put, List.setIfInBounds_toArray, List.set_cons_zero, List.set_cons_succ]
          refine held_skip (i := 7) (oi := { dst := some 25, op := Go.Op.fieldAddr 32 (Go.Operand.tmp 1) 1, type := 0, pos := "l06_table.go:28", after := #[{ on := 6, ground := Go.Ground.guard }], guard := some (6, true) }) rfl (by kernel_rfl) (by kernel_rfl) (by kernel_rfl) (fun _ _ _ h => h) (by rfl) (by assumption) ?_
          try simp only [Act.put, List.setIfInBounds_toArray, List.set_cons_zero, List.set_cons_succ]
          refine held_skip (i := 8) (oi := { dst := some 26, op := Go.Op.load 30 (Go.Operand.tmp 25), type := 30, pos := "l06_table.go:28", after := #[{ on := 7, ground := Go.Ground.data }, { on := 6, ground := Go.Ground.guard }], guard := some (6, true) }) rfl (by kernel_rfl) (by kernel_rfl) (by kernel_rfl) (fun _ _ _ h => h) (by rfl) (by assumption) ?_
          try simp only [Act.put, List.setIfInBounds_toArray, List.set_cons_zero, List.set_cons_succ]
          refine held_skip (i := 9) (oi := { dst := some 27, op := Go.Op.move (Go.Operand.tmp 3), type := 3, pos := "l06_table.go:28", after := #[{ on := 6, ground := Go.Ground.guard }], guard := some (6, true) }) rfl (by kernel_rfl) (by kernel_rfl) (by kernel_rfl) (fun _ _ _ h => h) (by rfl) (by assumption) ?_
          try simp only [Act.put, List.setIfInBounds_toArray, List.set_cons_zero, List.set_cons_succ]
          refine held_skip (i := 10) (oi := { dst := some 28, op := Go.Op.binOp BinOp.sub 3 (Go.Operand.tmp 27) (Go.Operand.const (Go.Value.int Go.IntKind.i64 1)) 3, type := 3, pos := "l06_table.go:28", after := #[{ on := 9, ground := Go.Ground.data }, { on := 6, ground := Go.Ground.guard }], guard := some (6, true) }) rfl (by kernel_rfl) (by kernel_rfl) (by kernel_rfl) (fun _ _ _ h => h) (by rfl) (by assumption) ?_
          try simp only [Act.put, List.setIfInBounds_toArray, List.set_cons_zero, List.set_cons_succ]
          refine held_skip (i := 11) (oi := { dst := some 29, op := Go.Op.indexAddr 30 (Go.Operand.tmp 26) (Go.Operand.tmp 28), type := 0, pos := "l06_table.go:28", after := #[{ on := 8, ground := Go.Ground.data }, { on := 10, ground := Go.Ground.data }, { on := 6, ground := Go.Ground.guard }], guard := some (6, true) }) rfl (by kernel_rfl) (by kernel_rfl) (by kernel_rfl) (fun _ _ _ h => h) (by rfl) (by assumption) ?_
          try simp only [Act.put, List.setIfInBounds_toArray, List.set_cons_zero, List.set_cons_succ]
          refine held_skip (i := 12) (oi := { dst := some 30, op := Go.Op.fieldAddr 80 (Go.Operand.tmp 29) 0, type := 0, pos := "l06_table.go:28", after := #[{ on := 11, ground := Go.Ground.data }, { on := 6, ground := Go.Ground.guard }], guard := some (6, true) }) rfl (by kernel_rfl) (by kernel_rfl) (by kernel_rfl) (fun _ _ _ h => h) (by rfl) (by assumption) ?_
          try simp only [Act.put, List.setIfInBounds_toArray, List.set_cons_zero, List.set_cons_succ]
          refine held_skip (i := 13) (oi := { dst := some 31, op := Go.Op.load 3 (Go.Operand.tmp 30), type := 3, pos := "l06_table.go:28", after := #[{ on := 12, ground := Go.Ground.data }, { on := 6, ground := Go.Ground.guard }], guard := some (6, true) }) rfl (by kernel_rfl) (by kernel_rfl) (by kernel_rfl) (fun _ _ _ h => h) (by rfl) (by assumption) ?_
          try simp only [Act.put, List.setIfInBounds_toArray, List.set_cons_zero, List.set_cons_succ]
          refine held_skip (i := 14) (oi := { dst := some 32, op := Go.Op.fieldAddr 80 (Go.Operand.tmp 4) 0, type := 0, pos := "l06_table.go:28", after := #[{ on := 6, ground := Go.Ground.guard }], guard := some (6, true) }) rfl (by kernel_rfl) (by kernel_rfl) (by kernel_rfl) (fun _ _ _ h => h) (by rfl) (by assumption) ?_
          try simp only [Act.put, List.setIfInBounds_toArray, List.set_cons_zero, List.set_cons_succ]
          refine held_skip (i := 15) (oi := { dst := some 33, op := Go.Op.load 3 (Go.Operand.tmp 32), type := 3, pos := "l06_table.go:28", after := #[{ on := 14, ground := Go.Ground.data }, { on := 6, ground := Go.Ground.guard }], guard := some (6, true) }) rfl (by kernel_rfl) (by kernel_rfl) (by kernel_rfl) (fun _ _ _ h => h) (by rfl) (by assumption) ?_
          try simp only [Act.put, List.setIfInBounds_toArray, List.set_cons_zero, List.set_cons_succ]
          refine held_skip (i := 16) (oi := { dst := some 34, op := Go.Op.binOp BinOp.geq 3 (Go.Operand.tmp 31) (Go.Operand.tmp 33) 3, type := 4, pos := "l06_table.go:28", after := #[{ on := 13, ground := Go.Ground.data }, { on := 15, ground := Go.Ground.data }, { on := 6, ground := Go.Ground.guard }], guard := some (6, true) }) rfl (by kernel_rfl) (by kernel_rfl) (by kernel_rfl) (fun _ _ _ h => h) (by rfl) (by assumption) ?_
          try simp only [Act.put, List.setIfInBounds_toArray, List.set_cons_zero, List.set_cons_succ]
          refine wpAnyH_take (i := 17) (oi := { dst := some 35, op := Go.Op.pick (Go.Operand.tmp 24) (Go.Operand.tmp 34) (Go.Operand.const (Go.Value.bool false)), type := 4, pos := "l06_table.go:28", after := #[{ on := 6, ground := Go.Ground.data }, { on := 16, ground := Go.Ground.data }, { on := 3, ground := Go.Ground.guard }], guard := some (3, false) }) (v := .bool false) rfl (by kernel_rfl) (by kernel_rfl) (by kernel_rfl) (fun _ _ _ h => h) (Or.inl ⟨by rfl, ?_⟩) (by assumption) ?_
          · intro w8 hS8
            (try dsimp only at hS8)
            go_simp
          try simp only [Act.put, List.setIfInBounds_toArray, List.set_cons_zero, List.set_cons_succ]
          refine wpAnyH_take (i := 18) (oi := { dst := some 36, op := Go.Op.pick (Go.Operand.tmp 21) (Go.Operand.const (Go.Value.bool true)) (Go.Operand.tmp 35), type := 4, pos := "l06_table.go:28", after := #[{ on := 3, ground := Go.Ground.data }, { on := 17, ground := Go.Ground.data }], guard := none }) (v := .bool false) rfl (by kernel_rfl) (by kernel_rfl) (by kernel_rfl) (fun _ _ _ h => h) (Or.inl ⟨by rfl, ?_⟩) (by assumption) ?_
          · intro w8 hS8
            (try dsimp only at hS8)
            go_simp
          try simp only [Act.put, List.setIfInBounds_toArray, List.set_cons_zero, List.set_cons_succ]
          refine wpAnyH_done (by kernel_rfl) ?_ _
          have HG2 := Lib.hid hH1.2.2
          clear hH1 hHeld HKB
          have HB9 := Lib.hid HG2
          clear hz hbx b0 b1 c0 c1 
          go_wp2_with fail
          go_loopw [5] (fun jv wr => ∃ j : Nat, j ≤ m ∧ jv = .int .i64 j ∧ Hid (∀ i, i < j → ∀ i', i' < k → ¬ HasRow (Bn l i').rows (Rn bk.rows i).i) ∧ Hid (Kept w wr [(⟨bx, 0, none⟩, .int .i64 bk.id), (⟨bx, 1, none⟩, .slice rao m rcap), (⟨w.heap.size, 0, none⟩, .int .i64 ver), (⟨w.heap.size, 1, none⟩, .slice (some ⟨g, 0, none⟩) n cap)])) (fun jv _ => m - (intOf jv).toNat)
          case atStart => exact ⟨0, Nat.zero_le _, rfl, Lib.hid (fun i hi => by omega), HG2⟩
          case round =>
            clear HG2 HB9
            obtain ⟨j, hj, rfl, HJ, HK2⟩ := hrel
            have d0 := HK2.out.get 0 rfl
            have d1 := HK2.out.get 1 rfl
            have d2 := HK2.out.get 2 rfl
            have d3 := HK2.out.get 3 rfl
            by_cases hjt : j < m
            · have hjI : (j : Int) < (m : Int) := by omega
              obtain ⟨h, rfl, hh, hRows⟩ : ∃ h, rao = some ⟨h, 0, none⟩ ∧ h < w.heap.size ∧ ∀ k, k < m → RowIn w h k (Rn bk.rows k) := HRW.out.resolve_left (by omega)
              have e0 := (HK2.out.1.cell (p := ⟨h, j * 5, none⟩) hh).trans (hRows j hjt).1
              have HAS := Lib.hid (show HasRow bk.rows (Rn bk.rows j).i from ⟨j, by rw [← HM.out]; exact hjt, rfl⟩)
              have HJS := Lib.hid (show (∀ i', i' < k → ¬ HasRow (Bn l i').rows (Rn bk.rows j).i) → ∀ i, i < j + 1 → ∀ i', i' < k → ¬ HasRow (Bn l i').rows (Rn bk.rows i).i from fun h1 i hi => by
                by_cases e : i < j
                · exact HJ.out i e
                · obtain rfl : i = j := by omega
                  exact h1)
              obtain ⟨rid, hrid⟩ : ∃ r, r = (Rn bk.rows j).i := ⟨_, rfl⟩
              rw [← hrid] at e0 HAS HJS
              have HE0 := Lib.hid e0
              have HHH := Lib.hid hh
              have SB := Lib.hid (fun w' (hb : Below w.heap.size w w') => spec_bor ver rid (some ⟨g, 0, none⟩) n cap l w' HL.out hn HR.out (HV.out.below hb))
              clear hRows hrid e0 hh d0 d1 d2 d3
              by_cases hex : ∃ i, i < k ∧ HasRow (Bn l i).rows rid
              · obtain ⟨v0, hF, hne⟩ := firstAns_less (p := fun k => HasRow (Bn l k).rows rid) hlt hex
                have q : (v0 != (k : Int)) = true := bne_iff_ne.2 hne
                have NO := Lib.hid (HUN.out rid HAS.out hex)
                have AN := Lib.hid hF
                clear hF hex hne
                have d0 := HK2.out.get 0 rfl
                have d1 := HK2.out.get 1 rfl
                have d2 := HK2.out.get 2 rfl
                have d3 := HK2.out.get 3 rfl
                go_wp2_with fail
                go_region_held3 (fun w' => w'.cell? ⟨w.heap.size, 0, none⟩ = some (.int .i64 ver) ∧ w'.cell? ⟨w.heap.size, 1, none⟩ = some (.slice (some ⟨g, 0, none⟩) n cap) ∧ w'.cell? ⟨bx, 1, none⟩ = some (.slice (some ⟨h, 0, none⟩) m rcap) ∧ w'.cell? ⟨h, j * 5, none⟩ = some (.int .i64 rid) ∧ Kept w w' [(⟨bx, 0, none⟩, .int .i64 bk.id), (⟨bx, 1, none⟩, .slice (some ⟨h, 0, none⟩) m rcap), (⟨w.heap.size, 0, none⟩, .int .i64 ver), (⟨w.heap.size, 1, none⟩, .slice (some ⟨g, 0, none⟩) n cap)]) (first | assumption | exact tq4_start HK2.out HE0.out | exact tq4_keep (by assumption) (by assumption)) (first | (go_simp; go_at_call 78; (with_reducible refine (SB.out _ ?_).mono ?_); (exact (‹_ ∧ _ ∧ _ ∧ _ ∧ Kept w _ _›).2.2.2.2.1); rintro e9 w9 ⟨⟨v, hv, rfl⟩, hb⟩; obtain rfl := FirstAns_unique hv AN.out; clear hv))
                all_goals
                  have HG3 := Lib.hid (‹_ ∧ _ ∧ _ ∧ _ ∧ Kept w w9 _›.2.2.2.2)
                  go_wp2
                  go_ret
                  exact TvPost.no NO.out HG3.out.1
              · have hF := HHR.out rid HAS.out (fun i hi h9 => hex ⟨i, hi, h9⟩)
                have q : ((k : Int) != (k : Int)) = false := bne_self_eq_false _
                have YE := Lib.hid (HJS.out (fun i hi h9 => hex ⟨i, hi, h9⟩))
                have AN := Lib.hid hF
                clear hF hex
                have d0 := HK2.out.get 0 rfl
                have d1 := HK2.out.get 1 rfl
                have d2 := HK2.out.get 2 rfl
                have d3 := HK2.out.get 3 rfl
                go_wp2_with fail
                go_region_held3 (fun w' => w'.cell? ⟨w.heap.size, 0, none⟩ = some (.int .i64 ver) ∧ w'.cell? ⟨w.heap.size, 1, none⟩ = some (.slice (some ⟨g, 0, none⟩) n cap) ∧ w'.cell? ⟨bx, 1, none⟩ = some (.slice (some ⟨h, 0, none⟩) m rcap) ∧ w'.cell? ⟨h, j * 5, none⟩ = some (.int .i64 rid) ∧ Kept w w' [(⟨bx, 0, none⟩, .int .i64 bk.id), (⟨bx, 1, none⟩, .slice (some ⟨h, 0, none⟩) m rcap), (⟨w.heap.size, 0, none⟩, .int .i64 ver), (⟨w.heap.size, 1, none⟩, .slice (some ⟨g, 0, none⟩) n cap)]) (first | assumption | exact tq4_start HK2.out HE0.out | exact tq4_keep (by assumption) (by assumption)) (first | (go_simp; go_at_call 78; (with_reducible refine (SB.out _ ?_).mono ?_); (exact (‹_ ∧ _ ∧ _ ∧ _ ∧ Kept w _ _›).2.2.2.2.1); rintro e9 w9 ⟨⟨v, hv, rfl⟩, hb⟩; obtain rfl := FirstAns_unique hv AN.out; clear hv))
                all_goals
                  have HG3 := Lib.hid (‹_ ∧ _ ∧ _ ∧ _ ∧ Kept w w9 _›.2.2.2.2)
                  obtain ⟨w7, hw7⟩ : ∃ w7, w7 = w9 := ⟨_, rfl⟩
                  clear HK2 d0 d1 d2 d3
                  subst hw7
                  go_wp2
                  go_roundw
                  case rel => exact ⟨j + 1, by omega, by go_num, YE, HG3⟩
                  case measure => simp [intOf]; omega
            · obtain rfl : j = m := by omega
              have hsd : decide ((j : Int) < (j : Int)) = false := decide_eq_false (by omega)
              have US := Lib.hid (HUS.out (fun i hi x ⟨r, hr, hx⟩ h9 => HJ.out r (by rw [HM.out]; exact hr) i hi (by rw [hx]; exact h9)))
              have KT := Lib.hid (HK2.out.sub (l' := [(⟨w.heap.size, 0, none⟩, .int .i64 ver), (⟨w.heap.size, 1, none⟩, .slice (some ⟨g, 0, none⟩) n cap)]) (by intro p9 hp9; simp only [List.mem_cons, List.not_mem_nil, or_false] at hp9; rcases hp9 with rfl | rfl <;> simp))
              go_wp2
              go_roundw
              case rel => exact ⟨k + 1, by omega, by go_num, AN, US, KT⟩
              case measure => simp [intOf]; omega
        · obtain ⟨p, hp⟩ : ∃ p, k = p + 1 := ⟨k - 1, by omega⟩
          obtain ⟨_, _, p0, _, _⟩ := HPV.out p (by omega)
          have HLT := Lib.hid (show (Bn l p).id < bk.id → BlksOk l (k + 1) from fun h1 => HYV.out rfl (fun i e => by
            obtain rfl : i = p := by omega
            rw [e, ← HBK.out]; exact h1))
          have HGE := Lib.hid (HNO.out p hp)
          obtain ⟨pid, hpid⟩ : ∃ q, q = (Bn l p).id := ⟨_, rfl⟩
          rw [← hpid] at p0 HLT HGE
          have HPM := Lib.hid (show (wr.alloc (.cells #[.int .i64 bk.id, .slice rao m rcap] 80)).cell? ⟨g, p * 2, none⟩ = some (.int .i64 pid) from cell_alloc_some _ ((HK.out.1.cell (p := ⟨g, p * 2, none⟩) hg).trans p0))
          have hz : 0 < k := by omega
          have hw9 : IntKind.i64.wrap ((k : Int) - 1) = (p : Int) := by rw [IntWalk.i64_in _ (by omega)]; omega
          have hpI : (p : Int) < (n : Int) := by omega
          have hp0 : (0 : Int) ≤ (p : Int) := by omega
          have HMK := Lib.hid hp
          clear h0 p0 hpid
          by_cases hl : pid < bk.id
          · have hq : decide (bk.id ≤ pid) = false := decide_eq_false (by omega)
            have AN := Lib.hid (HLT.out hl)
            clear hl hp
            go_wp2_with fail
            try rw [hbx]
            go_region_held3 (fun w' => w'.cell? ⟨bx, 0, none⟩ = some (.int .i64 bk.id) ∧ w'.cell? ⟨bx, 1, none⟩ = some (.slice rao m rcap) ∧ w'.cell? ⟨w.heap.size, 1, none⟩ = some (.slice (some ⟨g, 0, none⟩) n cap) ∧ w'.cell? ⟨g, p * 2, none⟩ = some (.int .i64 pid) ∧ Kept w w' [(⟨bx, 0, none⟩, .int .i64 bk.id), (⟨bx, 1, none⟩, .slice rao m rcap), (⟨w.heap.size, 0, none⟩, .int .i64 ver), (⟨w.heap.size, 1, none⟩, .slice (some ⟨g, 0, none⟩) n cap)]) (first | assumption | exact tk4_start HKB.out HPM.out | exact tk4_keep (by assumption) (by assumption)) (first | (go_simp; go_at_call 108; (with_reducible refine (DV.out _ ?_).mono ?_); (exact HRD.out); rintro e9 w9 ⟨rfl, hb⟩))
            all_goals
              have HG2 := Lib.hid (‹_ ∧ _ ∧ _ ∧ _ ∧ Kept w w9 _›.2.2.2.2)
              clear HKB
              have HB9 := Lib.hid HG2
              clear hz hbx b0 b1 c0 c1 hw9
              go_wp2_with fail
              go_loopw [5] (fun jv wr => ∃ j : Nat, j ≤ m ∧ jv = .int .i64 j ∧ Hid (∀ i, i < j → ∀ i', i' < k → ¬ HasRow (Bn l i').rows (Rn bk.rows i).i) ∧ Hid (Kept w wr [(⟨bx, 0, none⟩, .int .i64 bk.id), (⟨bx, 1, none⟩, .slice rao m rcap), (⟨w.heap.size, 0, none⟩, .int .i64 ver), (⟨w.heap.size, 1, none⟩, .slice (some ⟨g, 0, none⟩) n cap)])) (fun jv _ => m - (intOf jv).toNat)
              case atStart => exact ⟨0, Nat.zero_le _, rfl, Lib.hid (fun i hi => by omega), HG2⟩
              case round =>
                clear HG2 HB9
                obtain ⟨j, hj, rfl, HJ, HK2⟩ := hrel
                have d0 := HK2.out.get 0 rfl
                have d1 := HK2.out.get 1 rfl
                have d2 := HK2.out.get 2 rfl
                have d3 := HK2.out.get 3 rfl
                by_cases hjt : j < m
                · have hjI : (j : Int) < (m : Int) := by omega
                  obtain ⟨h, rfl, hh, hRows⟩ : ∃ h, rao = some ⟨h, 0, none⟩ ∧ h < w.heap.size ∧ ∀ k, k < m → RowIn w h k (Rn bk.rows k) := HRW.out.resolve_left (by omega)
                  have e0 := (HK2.out.1.cell (p := ⟨h, j * 5, none⟩) hh).trans (hRows j hjt).1
                  have HAS := Lib.hid (show HasRow bk.rows (Rn bk.rows j).i from ⟨j, by rw [← HM.out]; exact hjt, rfl⟩)
                  have HJS := Lib.hid (show (∀ i', i' < k → ¬ HasRow (Bn l i').rows (Rn bk.rows j).i) → ∀ i, i < j + 1 → ∀ i', i' < k → ¬ HasRow (Bn l i').rows (Rn bk.rows i).i from fun h1 i hi => by
                    by_cases e : i < j
                    · exact HJ.out i e
                    · obtain rfl : i = j := by omega
                      exact h1)
                  obtain ⟨rid, hrid⟩ : ∃ r, r = (Rn bk.rows j).i := ⟨_, rfl⟩
                  rw [← hrid] at e0 HAS HJS
                  have HE0 := Lib.hid e0
                  have HHH := Lib.hid hh
                  have SB := Lib.hid (fun w' (hb : Below w.heap.size w w') => spec_bor ver rid (some ⟨g, 0, none⟩) n cap l w' HL.out hn HR.out (HV.out.below hb))
                  clear hRows hrid e0 hh d0 d1 d2 d3
                  by_cases hex : ∃ i, i < k ∧ HasRow (Bn l i).rows rid
                  · obtain ⟨v0, hF, hne⟩ := firstAns_less (p := fun k => HasRow (Bn l k).rows rid) hlt hex
                    have q : (v0 != (k : Int)) = true := bne_iff_ne.2 hne
                    have NO := Lib.hid (HUN.out rid HAS.out hex)
                    have AN := Lib.hid hF
                    clear hF hex hne
                    have d0 := HK2.out.get 0 rfl
                    have d1 := HK2.out.get 1 rfl
                    have d2 := HK2.out.get 2 rfl
                    have d3 := HK2.out.get 3 rfl
                    go_wp2_with fail
                    go_region_held3 (fun w' => w'.cell? ⟨w.heap.size, 0, none⟩ = some (.int .i64 ver) ∧ w'.cell? ⟨w.heap.size, 1, none⟩ = some (.slice (some ⟨g, 0, none⟩) n cap) ∧ w'.cell? ⟨bx, 1, none⟩ = some (.slice (some ⟨h, 0, none⟩) m rcap) ∧ w'.cell? ⟨h, j * 5, none⟩ = some (.int .i64 rid) ∧ Kept w w' [(⟨bx, 0, none⟩, .int .i64 bk.id), (⟨bx, 1, none⟩, .slice (some ⟨h, 0, none⟩) m rcap), (⟨w.heap.size, 0, none⟩, .int .i64 ver), (⟨w.heap.size, 1, none⟩, .slice (some ⟨g, 0, none⟩) n cap)]) (first | assumption | exact tq4_start HK2.out HE0.out | exact tq4_keep (by assumption) (by assumption)) (first | (go_simp; go_at_call 78; (with_reducible refine (SB.out _ ?_).mono ?_); (exact (‹_ ∧ _ ∧ _ ∧ _ ∧ Kept w _ _›).2.2.2.2.1); rintro e9 w9 ⟨⟨v, hv, rfl⟩, hb⟩; obtain rfl := FirstAns_unique hv AN.out; clear hv))
                    all_goals
                      have HG3 := Lib.hid (‹_ ∧ _ ∧ _ ∧ _ ∧ Kept w w9 _›.2.2.2.2)
                      go_wp2
                      go_ret
                      exact TvPost.no NO.out HG3.out.1
                  · have hF := HHR.out rid HAS.out (fun i hi h9 => hex ⟨i, hi, h9⟩)
                    have q : ((k : Int) != (k : Int)) = false := bne_self_eq_false _
                    have YE := Lib.hid (HJS.out (fun i hi h9 => hex ⟨i, hi, h9⟩))
                    have AN := Lib.hid hF
                    clear hF hex
                    have d0 := HK2.out.get 0 rfl
                    have d1 := HK2.out.get 1 rfl
                    have d2 := HK2.out.get 2 rfl
                    have d3 := HK2.out.get 3 rfl
                    go_wp2_with fail
                    go_region_held3 (fun w' => w'.cell? ⟨w.heap.size, 0, none⟩ = some (.int .i64 ver) ∧ w'.cell? ⟨w.heap.size, 1, none⟩ = some (.slice (some ⟨g, 0, none⟩) n cap) ∧ w'.cell? ⟨bx, 1, none⟩ = some (.slice (some ⟨h, 0, none⟩) m rcap) ∧ w'.cell? ⟨h, j * 5, none⟩ = some (.int .i64 rid) ∧ Kept w w' [(⟨bx, 0, none⟩, .int .i64 bk.id), (⟨bx, 1, none⟩, .slice (some ⟨h, 0, none⟩) m rcap), (⟨w.heap.size, 0, none⟩, .int .i64 ver), (⟨w.heap.size, 1, none⟩, .slice (some ⟨g, 0, none⟩) n cap)]) (first | assumption | exact tq4_start HK2.out HE0.out | exact tq4_keep (by assumption) (by assumption)) (first | (go_simp; go_at_call 78; (with_reducible refine (SB.out _ ?_).mono ?_); (exact (‹_ ∧ _ ∧ _ ∧ _ ∧ Kept w _ _›).2.2.2.2.1); rintro e9 w9 ⟨⟨v, hv, rfl⟩, hb⟩; obtain rfl := FirstAns_unique hv AN.out; clear hv))
                    all_goals
                      have HG3 := Lib.hid (‹_ ∧ _ ∧ _ ∧ _ ∧ Kept w w9 _›.2.2.2.2)
                      obtain ⟨w7, hw7⟩ : ∃ w7, w7 = w9 := ⟨_, rfl⟩
                      clear HK2 d0 d1 d2 d3
                      subst hw7
                      go_wp2
                      go_roundw
                      case rel => exact ⟨j + 1, by omega, by go_num, YE, HG3⟩
                      case measure => simp [intOf]; omega
                · obtain rfl : j = m := by omega
                  have hsd : decide ((j : Int) < (j : Int)) = false := decide_eq_false (by omega)
                  have US := Lib.hid (HUS.out (fun i hi x ⟨r, hr, hx⟩ h9 => HJ.out r (by rw [HM.out]; exact hr) i hi (by rw [hx]; exact h9)))
                  have KT := Lib.hid (HK2.out.sub (l' := [(⟨w.heap.size, 0, none⟩, .int .i64 ver), (⟨w.heap.size, 1, none⟩, .slice (some ⟨g, 0, none⟩) n cap)]) (by intro p9 hp9; simp only [List.mem_cons, List.not_mem_nil, or_false] at hp9; rcases hp9 with rfl | rfl <;> simp))
                  go_wp2
                  go_roundw
                  case rel => exact ⟨k + 1, by omega, by go_num, AN, US, KT⟩
                  case measure => simp [intOf]; omega
          · have hq : decide (bk.id ≤ pid) = true := decide_eq_true (by omega)
            have AN := Lib.hid (HGE.out hl)
            clear hl hp
            go_wp2_with fail
            try rw [hbx]
            go_region_held3 (fun w' => w'.cell? ⟨bx, 0, none⟩ = some (.int .i64 bk.id) ∧ w'.cell? ⟨bx, 1, none⟩ = some (.slice rao m rcap) ∧ w'.cell? ⟨w.heap.size, 1, none⟩ = some (.slice (some ⟨g, 0, none⟩) n cap) ∧ w'.cell? ⟨g, p * 2, none⟩ = some (.int .i64 pid) ∧ Kept w w' [(⟨bx, 0, none⟩, .int .i64 bk.id), (⟨bx, 1, none⟩, .slice rao m rcap), (⟨w.heap.size, 0, none⟩, .int .i64 ver), (⟨w.heap.size, 1, none⟩, .slice (some ⟨g, 0, none⟩) n cap)]) (first | assumption | exact tk4_start HKB.out HPM.out | exact tk4_keep (by assumption) (by assumption)) (first | (go_simp; go_at_call 108; (with_reducible refine (DV.out _ ?_).mono ?_); (exact HRD.out); rintro e9 w9 ⟨rfl, hb⟩))
            all_goals
              have HG2 := Lib.hid (‹_ ∧ _ ∧ _ ∧ _ ∧ Kept w w9 _›.2.2.2.2)
              clear hw9
              go_wp2
              go_ret
              exact TvPost.no AN.out HG2.out.1
    · obtain rfl : k = n := by omega
      have hsd : decide ((k : Int) < (k : Int)) = false := decide_eq_false (by omega)
      have D1 := fun w => l1In_b ver 0 99 w
      by_cases h1 : 0 ≤ ver ∧ ver ≤ 99
      · rw [decide_eq_true h1] at D1
        have DD := Lib.hid D1
        clear D1
        by_cases h6 : k ≤ 6
        · have h6d : decide ((k : Int) ≤ 6) = true := decide_eq_true (by omega)
          have YE := Lib.hid (show TblOk ver l k from ⟨h1, h6, HA.out, HU.out⟩)
          clear h1
          go_wp2_with fail
          refine (DD.out _).mono ?_
          rintro e w1 ⟨rfl, rfl⟩
          go_wp2
          go_ret
          exact TvPost.yes YE.out HK.out.1
        · have h6d : decide ((k : Int) ≤ 6) = false := decide_eq_false (by omega)
          have NO := Lib.hid (show ¬ TblOk ver l k from fun h => h6 h.2.1)
          clear h1
          go_wp2_with fail
          refine (DD.out _).mono ?_
          rintro e w1 ⟨rfl, rfl⟩
          go_wp2
          go_ret
          exact TvPost.no NO.out HK.out.1
      · rw [decide_eq_false h1] at D1
        have DD := Lib.hid D1
        have NO := Lib.hid (show ¬ TblOk ver l k from fun h => h1 h.1)
        clear D1 h1
        go_wp2_with fail
        refine (DD.out _).mono ?_
        rintro e w1 ⟨rfl, rfl⟩
        go_wp2
        go_ret
        exact TvPost.no NO.out HK.out.1
end Go.Proofs.Ytcfcohnkkgickaa
