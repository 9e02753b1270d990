/-
  The walk over the model's AreRows.
-/
import Derived.Test.YtcfcohnkkgickaaRows
import Derived.Test.YtcfcohnkkgickaaRwsOwn
import Derived.Test.YtcfcohnkkgickaaKeep
import Derived.WalkKit
import Derived.WalkSpells
import Derived.WalkLawsBesides
import Derived.IntWalk
import Derived.Lib.Hide
import Derived.Deep.RegionHeld3
namespace Go.Proofs.Ytcfcohnkkgickaa
open Go.RowKit Num

/-- A row's validity. -/
def Rw.ok (r : Rw) : Bool := rowB r.i r.g r.y r.x r.nl

/-- Whether the first n rows are valid and their IDs ascend. -/
def areB (R : Nat → Rw) : Nat → Bool
  | 0 => true
  | k + 1 => areB R k && ((R k).ok && (decide (k = 0) || decide ((R (k - 1)).i < (R k).i)))

theorem areB_false {R : Nat → Rw} {k : Nat} (h : areB R k = false) : ∀ m, areB R (k + m) = false
  | 0 => h
  | m + 1 => by show (areB R (k + m) && _) = false; rw [areB_false h m]; rfl
theorem areB_no {R : Nat → Rw} {k n : Nat} (hk : k < n) (h : areB R (k + 1) = false) : areB R n = false := by
  have := areB_false h (n - (k + 1))
  rwa [show k + 1 + (n - (k + 1)) = n by omega] at this
theorem areB_bad {R : Nat → Rw} {k n : Nat} (hk : k < n) (h : (R k).ok = false) : areB R n = false := areB_no hk (by show (areB R k && ((R k).ok && _)) = false; rw [h]; simp)
theorem areB_low {R : Nat → Rw} {m n : Nat} (hk : m + 1 < n) (h : ¬ (R m).i < (R (m + 1)).i) : areB R n = false :=
  areB_no hk (by show (areB R (m + 1) && ((R (m + 1)).ok && (decide (m + 1 = 0) || decide ((R (m + 1 - 1)).i < (R (m + 1)).i)))) = false; rw [show m + 1 - 1 = m by omega, decide_eq_false h]; simp)
theorem areB_zero {R : Nat → Rw} (h : (R 0).ok = true) : areB R 1 = true := by show (areB R 0 && ((R 0).ok && _)) = true; rw [h]; rfl
theorem areB_next {R : Nat → Rw} {m : Nat} (ha : areB R (m + 1) = true) (h : (R (m + 1)).ok = true) (hl : (R m).i < (R (m + 1)).i) : areB R (m + 1 + 1) = true := by
  show (areB R (m + 1) && ((R (m + 1)).ok && (decide (m + 1 = 0) || decide ((R (m + 1 - 1)).i < (R (m + 1)).i)))) = true
  rw [ha, h, show m + 1 - 1 = m by omega, decide_eq_true hl]; simp

/-- The world has grown since W, and block g is there. -/
def Grow (W w : World) (g : Nat) : Prop := Below W.heap.size W w ∧ g < w.heap.size
theorem Grow.step {W w w' : World} {g : Nat} (h : Grow W w g) (hb : Below w.heap.size w w') : Grow W w' g := ⟨h.1.trans (hb.mono h.1.size), Nat.lt_of_lt_of_le h.2 hb.size⟩

theorem r5_start {W w : World} {g k : Nat} {r : Rw} (h : RowIn w g k r) (hg : Grow W w g) :
    w.drew.cell? ⟨g, k * 5, none⟩ = some (.int .i64 r.i) ∧ w.drew.cell? ⟨g, k * 5 + 1, none⟩ = some (.int .i64 r.g) ∧ w.drew.cell? ⟨g, k * 5 + 2, none⟩ = some (.int .i64 r.y) ∧ w.drew.cell? ⟨g, k * 5 + 3, none⟩ = some (.int .i64 r.x) ∧ w.drew.cell? ⟨g, k * 5 + 4, none⟩ = some (.bool r.nl) ∧ Grow W w.drew g :=
  ⟨h.1, h.2.1, h.2.2.1, h.2.2.2.1, h.2.2.2.2, hg.step (Below.refl _ _).drew⟩
theorem r5_keep {W w w' : World} {g k : Nat} {r : Rw} (h : w.cell? ⟨g, k * 5, none⟩ = some (.int .i64 r.i) ∧ w.cell? ⟨g, k * 5 + 1, none⟩ = some (.int .i64 r.g) ∧ w.cell? ⟨g, k * 5 + 2, none⟩ = some (.int .i64 r.y) ∧ w.cell? ⟨g, k * 5 + 3, none⟩ = some (.int .i64 r.x) ∧ w.cell? ⟨g, k * 5 + 4, none⟩ = some (.bool r.nl) ∧ Grow W w g) (hb : Below w.heap.size w w') :
    w'.cell? ⟨g, k * 5, none⟩ = some (.int .i64 r.i) ∧ w'.cell? ⟨g, k * 5 + 1, none⟩ = some (.int .i64 r.g) ∧ w'.cell? ⟨g, k * 5 + 2, none⟩ = some (.int .i64 r.y) ∧ w'.cell? ⟨g, k * 5 + 3, none⟩ = some (.int .i64 r.x) ∧ w'.cell? ⟨g, k * 5 + 4, none⟩ = some (.bool r.nl) ∧ Grow W w' g := by
  obtain ⟨h0, h1, h2, h3, h4, hg⟩ := h
  have r := RowIn.below (r := r) ⟨h0, h1, h2, h3, h4⟩ hb hg.2
  exact ⟨r.1, r.2.1, r.2.2.1, r.2.2.2.1, r.2.2.2.2, hg.step hb⟩
theorem r6_start {W w : World} {g k j : Nat} {r r' : Rw} (h : RowIn w g k r) (h' : RowIn w g j r') (hg : Grow W w g) :
    w.drew.cell? ⟨g, k * 5, none⟩ = some (.int .i64 r.i) ∧ w.drew.cell? ⟨g, k * 5 + 1, none⟩ = some (.int .i64 r.g) ∧ w.drew.cell? ⟨g, k * 5 + 2, none⟩ = some (.int .i64 r.y) ∧ w.drew.cell? ⟨g, k * 5 + 3, none⟩ = some (.int .i64 r.x) ∧ w.drew.cell? ⟨g, k * 5 + 4, none⟩ = some (.bool r.nl) ∧ w.drew.cell? ⟨g, j * 5, none⟩ = some (.int .i64 r'.i) ∧ Grow W w.drew g :=
  ⟨h.1, h.2.1, h.2.2.1, h.2.2.2.1, h.2.2.2.2, h'.1, hg.step (Below.refl _ _).drew⟩
theorem r6_keep {W w w' : World} {g k j : Nat} {r r' : Rw} (h : w.cell? ⟨g, k * 5, none⟩ = some (.int .i64 r.i) ∧ w.cell? ⟨g, k * 5 + 1, none⟩ = some (.int .i64 r.g) ∧ w.cell? ⟨g, k * 5 + 2, none⟩ = some (.int .i64 r.y) ∧ w.cell? ⟨g, k * 5 + 3, none⟩ = some (.int .i64 r.x) ∧ w.cell? ⟨g, k * 5 + 4, none⟩ = some (.bool r.nl) ∧ w.cell? ⟨g, j * 5, none⟩ = some (.int .i64 r'.i) ∧ Grow W w g) (hb : Below w.heap.size w w') :
    w'.cell? ⟨g, k * 5, none⟩ = some (.int .i64 r.i) ∧ w'.cell? ⟨g, k * 5 + 1, none⟩ = some (.int .i64 r.g) ∧ w'.cell? ⟨g, k * 5 + 2, none⟩ = some (.int .i64 r.y) ∧ w'.cell? ⟨g, k * 5 + 3, none⟩ = some (.int .i64 r.x) ∧ w'.cell? ⟨g, k * 5 + 4, none⟩ = some (.bool r.nl) ∧ w'.cell? ⟨g, j * 5, none⟩ = some (.int .i64 r'.i) ∧ Grow W w' g := by
  obtain ⟨h0, h1, h2, h3, h4, h5, hg⟩ := h
  have r := RowIn.below (r := r) ⟨h0, h1, h2, h3, h4⟩ hb hg.2
  exact ⟨r.1, r.2.1, r.2.2.1, r.2.2.2.1, r.2.2.2.2, by rw [hb.cell (p := ⟨g, j * 5, none⟩) hg.2]; exact h5, hg.step hb⟩

/-- A slice of n rows: none, or those of a block from its head on. -/
def RowsVal (w : World) (ao : Option Addr) (n : Nat) (R : Nat → Rw) : Prop := n = 0 ∨ ∃ g, ao = some ⟨g, 0, none⟩ ∧ g < w.heap.size ∧ ∀ k, k < n → RowIn w g k (R k)
theorem RowsVal.below {w w' : World} {ao : Option Addr} {n : Nat} {R : Nat → Rw} (h : RowsVal w ao n R) (hb : Below w.heap.size w w') : RowsVal w' ao n R := by
  rcases h with h | ⟨g, e, hg, h⟩
  · exact .inl h
  · exact .inr ⟨g, e, Nat.lt_of_lt_of_le hg hb.size, fun k hk => (h k hk).below hb hg⟩

set_option maxRecDepth 8000 in
set_option maxHeartbeats 6400000 in
theorem spec_arV (ao : Option Addr) (n cap : Nat) (R : Nat → Rw) (w : World) (hn : n ≤ 1048576) (hV : RowsVal w ao n R) :
    Calls Try.prog 142 #[.slice ao n cap] w fun e w' => e = .returned (.bool (areB R n)) ∧ Below w.heap.size w w' := by
  have HO := Lib.hid hV
  clear hV
  have hnI : (n : Int) ≤ 1048576 := by omega
  go_enter Try.func142, Try.ntmps142
  go_wp2_with fail
  go_loopw [3] (fun iv wr => ∃ k : Nat, k ≤ n ∧ iv = .int .i64 k ∧ Hid (areB R k = true) ∧ Hid (Below w.heap.size w wr)) (fun iv _ => n - (intOf iv).toNat)
  case atStart => exact ⟨0, Nat.zero_le _, rfl, rfl, Below.refl _ _⟩
  case round =>
    obtain ⟨k, hk, rfl, HA, HB⟩ := hrel
    by_cases hlt : k < n
    · have hkI : (k : Int) < (n : Int) := by omega
      obtain ⟨g, rfl, hg, hR⟩ : ∃ g, ao = some ⟨g, 0, none⟩ ∧ g < w.heap.size ∧ ∀ k, k < n → RowIn w g k (R k) := HO.out.resolve_left (by omega)
      have HR := Lib.hid hR
      have HG := Lib.hid (show Grow w wr g from ⟨HB.out, Nat.lt_of_lt_of_le hg HB.out.size⟩)
      clear hR
      have HK := Lib.hid ((HR.out k hlt).below HG.out.1 hg)
      cases hv : (R k).ok
      · have AN := Lib.hid (areB_bad hlt hv)
        have D0 := fun w => spec_rv (R k).i (R k).g (R k).y (R k).x (R k).nl w
        unfold Rw.ok at hv
        rw [hv] at D0
        have DV := Lib.hid D0
        clear D0 hv
        go_wp2_with fail
        refine wp_region_held_drew (S := fun w' => w'.cell? ⟨g, k * 5, none⟩ = some (.int .i64 (R k).i) ∧ w'.cell? ⟨g, k * 5 + 1, none⟩ = some (.int .i64 (R k).g) ∧ w'.cell? ⟨g, k * 5 + 2, none⟩ = some (.int .i64 (R k).y) ∧ w'.cell? ⟨g, k * 5 + 3, none⟩ = some (.int .i64 (R k).x) ∧ w'.cell? ⟨g, k * 5 + 4, none⟩ = some (.bool (R k).nl) ∧ Grow w w' g) (by kernel_rfl) (r5_start HK.out HG.out) (fun hHeld => ?_)
        refine wpAnyH_take (i := 0) (oi := { dst := some 10, op := Go.Op.move (Go.Operand.tmp 0), type := 57, pos := "l04_row.go:48", after := #[], guard := none }) (v := .slice (some ⟨g, 0, none⟩) n cap) rfl (by kernel_rfl) (by kernel_rfl) (by kernel_rfl) (fun _ _ _ h => h) (Or.inl ⟨by rfl, ?_⟩) (by assumption) ?_
        · intro w8 hS8
          (try dsimp only at hS8)
          go_simp
        try simp only [Act.put, List.setIfInBounds_toArray, List.set_cons_zero, List.set_cons_succ]
        refine wpAnyH_take (i := 1) (oi := { dst := some 11, op := Go.Op.move (Go.Operand.tmp 3), type := 3, pos := "l04_row.go:48", after := #[], guard := none }) (v := .int .i64 k) rfl (by kernel_rfl) (by kernel_rfl) (by kernel_rfl) (fun _ _ _ h => h) (Or.inl ⟨by rfl, ?_⟩) (by assumption) ?_
        · intro w8 hS8
          (try dsimp only at hS8)
          go_simp
        try simp only [Act.put, List.setIfInBounds_toArray, List.set_cons_zero, List.set_cons_succ]
        refine wpAnyH_take (i := 2) (oi := { dst := some 12, op := Go.Op.indexAddr 57 (Go.Operand.tmp 10) (Go.Operand.tmp 11), type := 0, pos := "l04_row.go:48", after := #[{ on := 0, ground := Go.Ground.data }, { on := 1, ground := Go.Ground.data }], guard := none }) (v := .pointer (some ⟨g, k * 5, none⟩)) rfl (by kernel_rfl) (by kernel_rfl) (by kernel_rfl) (fun _ _ _ h => h) (Or.inl ⟨by rfl, ?_⟩) (by assumption) ?_
        · intro w8 hS8
          (try dsimp only at hS8)
          go_simp
        try simp only [Act.put, List.setIfInBounds_toArray, List.set_cons_zero, List.set_cons_succ]
        refine wpAnyH_take (i := 3) (oi := { dst := some 13, op := Go.Op.load 36 (Go.Operand.tmp 12), type := 36, pos := "l04_row.go:48", after := #[{ on := 2, ground := Go.Ground.data }], guard := none }) (v := .agg #[.int .i64 (R k).i, .int .i64 (R k).g, .int .i64 (R k).y, .int .i64 (R k).x, .bool (R k).nl]) rfl (by kernel_rfl) (by kernel_rfl) (by kernel_rfl) (fun _ _ _ h => h) (Or.inl ⟨by rfl, ?_⟩) (by assumption) ?_
        · intro w8 hS8
          (try dsimp only at hS8)
          go_simp
        try simp only [Act.put, List.setIfInBounds_toArray, List.set_cons_zero, List.set_cons_succ]
        refine wpAnyH_ready (rs := [4]) (by kernel_rfl) (by simp) ?_
        refine AllReadyH.cons (o := { dst := some 14, op := Go.Op.call { callee := Go.Callee.value (Go.Operand.func 33), args := #[Go.Operand.tmp 13], argTypes := #[36] }, type := 4, pos := "l04_row.go:48", after := #[{ on := 3, ground := Go.Ground.data }], guard := none }) rfl (fun K hK => ?_) AllReadyH.nil
        go_simp
        go_at_call 33
        (with_reducible refine (DV.out _).mono ?_)
        rintro e9 w9 ⟨rfl, hb⟩
        refine hK.out _ _ ?_ (fun hH1 => ?_)
        · exact r5_keep hHeld hb
        clear hK K
        try simp only [Act.put, List.setIfInBounds_toArray, List.set_cons_zero, List.set_cons_succ]
        refine wpAnyH_take (i := 5) (oi := { dst := some 15, op := Go.Op.unOp UnOp.not 4 (Go.Operand.tmp 14), type := 4, pos := "l04_row.go:48", after := #[{ on := 4, ground := Go.Ground.data }], guard := none }) (v := .bool true) rfl (by kernel_rfl) (by kernel_rfl) (by kernel_rfl) (fun _ _ _ h => h) (Or.inl ⟨by rfl, ?_⟩) (by assumption) ?_
        · intro w8 hS8
          (try dsimp only at hS8)
          go_simp
        try simp only [Act.put, List.setIfInBounds_toArray, List.set_cons_zero, List.set_cons_succ]
        refine wpAnyH_take (i := 6) (oi := { dst := some 16, op := Go.Op.move (Go.Operand.tmp 15), type := 4, pos := "l04_row.go:48", after := #[{ on := 5, ground := Go.Ground.data }, { on := 4, ground := Go.Ground.chain }], guard := none }) (v := .bool true) rfl (by kernel_rfl) (by kernel_rfl) (by kernel_rfl) (fun _ _ _ h => h) (Or.inl ⟨by rfl, ?_⟩) (by assumption) ?_
        · intro w8 hS8
          (try dsimp only at hS8)
          go_simp
        try simp only [Act.put, List.setIfInBounds_toArray, List.set_cons_zero, List.set_cons_succ]
        refine held_skip (i := 7) (oi := { dst := some 17, op := Go.Op.move (Go.Operand.tmp 3), type := 3, pos := "l04_row.go:48", after := #[{ on := 6, ground := Go.Ground.guard }], guard := some (6, false) }) rfl (by kernel_rfl) (by kernel_rfl) (by kernel_rfl) (fun _ _ _ h => h) (by rfl) (by assumption) ?_
        try simp only [Act.put, List.setIfInBounds_toArray, List.set_cons_zero, List.set_cons_succ]
        refine held_skip (i := 8) (oi := { dst := some 18, op := Go.Op.binOp BinOp.gtr 3 (Go.Operand.tmp 17) (Go.Operand.const (Go.Value.int Go.IntKind.i64 0)) 3, type := 4, pos := "l04_row.go:48", after := #[{ on := 7, ground := Go.Ground.data }, { on := 6, ground := Go.Ground.guard }], guard := some (6, false) }) rfl (by kernel_rfl) (by kernel_rfl) (by kernel_rfl) (fun _ _ _ h => h) (by rfl) (by assumption) ?_
        try simp only [Act.put, List.setIfInBounds_toArray, List.set_cons_zero, List.set_cons_succ]
        refine held_skip (i := 9) (oi := { dst := some 19, op := Go.Op.move (Go.Operand.tmp 18), type := 4, pos := "l04_row.go:48", after := #[{ on := 8, ground := Go.Ground.data }, { on := 6, ground := Go.Ground.chain }, { on := 6, ground := Go.Ground.guard }], guard := some (6, false) }) rfl (by kernel_rfl) (by kernel_rfl) (by kernel_rfl) (fun _ _ _ h => h) (by rfl) (by assumption) ?_
        try simp only [Act.put, List.setIfInBounds_toArray, List.set_cons_zero, List.set_cons_succ]
        refine held_skip (i := 10) (oi := { dst := some 20, op := Go.Op.move (Go.Operand.tmp 0), type := 57, pos := "l04_row.go:48", after := #[{ on := 9, ground := Go.Ground.guard }], guard := some (9, true) }) rfl (by kernel_rfl) (by kernel_rfl) (by kernel_rfl) (fun _ _ _ h => h) (by rfl) (by assumption) ?_
        try simp only [Act.put, List.setIfInBounds_toArray, List.set_cons_zero, List.set_cons_succ]
        refine held_skip (i := 11) (oi := { dst := some 21, op := Go.Op.move (Go.Operand.tmp 3), type := 3, pos := "l04_row.go:48", after := #[{ on := 9, ground := Go.Ground.guard }], guard := some (9, true) }) rfl (by kernel_rfl) (by kernel_rfl) (by kernel_rfl) (fun _ _ _ h => h) (by rfl) (by assumption) ?_
        try simp only [Act.put, List.setIfInBounds_toArray, List.set_cons_zero, List.set_cons_succ]
        refine held_skip (i := 12) (oi := { dst := some 22, op := Go.Op.binOp BinOp.sub 3 (Go.Operand.tmp 21) (Go.Operand.const (Go.Value.int Go.IntKind.i64 1)) 3, type := 3, pos := "l04_row.go:48", after := #[{ on := 11, ground := Go.Ground.data }, { on := 9, ground := Go.Ground.guard }], guard := some (9, true) }) rfl (by kernel_rfl) (by kernel_rfl) (by kernel_rfl) (fun _ _ _ h => h) (by rfl) (by assumption) ?_
        try simp only [Act.put, List.setIfInBounds_toArray, List.set_cons_zero, List.set_cons_succ]
        refine held_skip (i := 13) (oi := { dst := some 23, op := Go.Op.indexAddr 57 (Go.Operand.tmp 20) (Go.Operand.tmp 22), type := 0, pos := "l04_row.go:48", after := #[{ on := 10, ground := Go.Ground.data }, { on := 12, ground := Go.Ground.data }, { on := 9, ground := Go.Ground.guard }], guard := some (9, true) }) rfl (by kernel_rfl) (by kernel_rfl) (by kernel_rfl) (fun _ _ _ h => h) (by rfl) (by assumption) ?_
        try simp only [Act.put, List.setIfInBounds_toArray, List.set_cons_zero, List.set_cons_succ]
        refine held_skip (i := 14) (oi := { dst := some 24, op := Go.Op.fieldAddr 36 (Go.Operand.tmp 23) 0, type := 0, pos := "l04_row.go:48", after := #[{ on := 13, ground := Go.Ground.data }, { on := 9, ground := Go.Ground.guard }], guard := some (9, true) }) rfl (by kernel_rfl) (by kernel_rfl) (by kernel_rfl) (fun _ _ _ h => h) (by rfl) (by assumption) ?_
        try simp only [Act.put, List.setIfInBounds_toArray, List.set_cons_zero, List.set_cons_succ]
        refine held_skip (i := 15) (oi := { dst := some 25, op := Go.Op.load 3 (Go.Operand.tmp 24), type := 3, pos := "l04_row.go:48", after := #[{ on := 14, ground := Go.Ground.data }, { on := 9, ground := Go.Ground.guard }], guard := some (9, true) }) rfl (by kernel_rfl) (by kernel_rfl) (by kernel_rfl) (fun _ _ _ h => h) (by rfl) (by assumption) ?_
        try simp only [Act.put, List.setIfInBounds_toArray, List.set_cons_zero, List.set_cons_succ]
        refine held_skip (i := 16) (oi := { dst := some 26, op := Go.Op.move (Go.Operand.tmp 0), type := 57, pos := "l04_row.go:48", after := #[{ on := 9, ground := Go.Ground.guard }], guard := some (9, true) }) rfl (by kernel_rfl) (by kernel_rfl) (by kernel_rfl) (fun _ _ _ h => h) (by rfl) (by assumption) ?_
        try simp only [Act.put, List.setIfInBounds_toArray, List.set_cons_zero, List.set_cons_succ]
        refine held_skip (i := 17) (oi := { dst := some 27, op := Go.Op.move (Go.Operand.tmp 3), type := 3, pos := "l04_row.go:48", after := #[{ on := 9, ground := Go.Ground.guard }], guard := some (9, true) }) rfl (by kernel_rfl) (by kernel_rfl) (by kernel_rfl) (fun _ _ _ h => h) (by rfl) (by assumption) ?_
        try simp only [Act.put, List.setIfInBounds_toArray, List.set_cons_zero, List.set_cons_succ]
        refine held_skip (i := 18) (oi := { dst := some 28, op := Go.Op.indexAddr 57 (Go.Operand.tmp 26) (Go.Operand.tmp 27), type := 0, pos := "l04_row.go:48", after := #[{ on := 16, ground := Go.Ground.data }, { on := 17, ground := Go.Ground.data }, { on := 9, ground := Go.Ground.guard }], guard := some (9, true) }) rfl (by kernel_rfl) (by kernel_rfl) (by kernel_rfl) (fun _ _ _ h => h) (by rfl) (by assumption) ?_
        try simp only [Act.put, List.setIfInBounds_toArray, List.set_cons_zero, List.set_cons_succ]
        refine held_skip (i := 19) (oi := { dst := some 29, op := Go.Op.fieldAddr 36 (Go.Operand.tmp 28) 0, type := 0, pos := "l04_row.go:48", after := #[{ on := 18, ground := Go.Ground.data }, { on := 9, ground := Go.Ground.guard }], guard := some (9, true) }) rfl (by kernel_rfl) (by kernel_rfl) (by kernel_rfl) (fun _ _ _ h => h) (by rfl) (by assumption) ?_
        try simp only [Act.put, List.setIfInBounds_toArray, List.set_cons_zero, List.set_cons_succ]
        refine held_skip (i := 20) (oi := { dst := some 30, op := Go.Op.load 3 (Go.Operand.tmp 29), type := 3, pos := "l04_row.go:48", after := #[{ on := 19, ground := Go.Ground.data }, { on := 9, ground := Go.Ground.guard }], guard := some (9, true) }) rfl (by kernel_rfl) (by kernel_rfl) (by kernel_rfl) (fun _ _ _ h => h) (by rfl) (by assumption) ?_
        try simp only [Act.put, List.setIfInBounds_toArray, List.set_cons_zero, List.set_cons_succ]
        refine held_skip (i := 21) (oi := { dst := some 31, op := Go.Op.binOp BinOp.geq 3 (Go.Operand.tmp 25) (Go.Operand.tmp 30) 3, type := 4, pos := "l04_row.go:48", after := #[{ on := 15, ground := Go.Ground.data }, { on := 20, ground := Go.Ground.data }, { on := 9, ground := Go.Ground.guard }], guard := some (9, true) }) rfl (by kernel_rfl) (by kernel_rfl) (by kernel_rfl) (fun _ _ _ h => h) (by rfl) (by assumption) ?_
        try simp only [Act.put, List.setIfInBounds_toArray, List.set_cons_zero, List.set_cons_succ]
        refine held_skip (i := 22) (oi := { dst := some 32, op := Go.Op.pick (Go.Operand.tmp 19) (Go.Operand.tmp 31) (Go.Operand.const (Go.Value.bool false)), type := 4, pos := "l04_row.go:48", after := #[{ on := 9, ground := Go.Ground.data }, { on := 21, ground := Go.Ground.data }, { on := 6, ground := Go.Ground.guard }], guard := some (6, false) }) rfl (by kernel_rfl) (by kernel_rfl) (by kernel_rfl) (fun _ _ _ h => h) (by rfl) (by assumption) ?_
        try simp only [Act.put, List.setIfInBounds_toArray, List.set_cons_zero, List.set_cons_succ]
        refine wpAnyH_take (i := 23) (oi := { dst := some 33, op := Go.Op.pick (Go.Operand.tmp 16) (Go.Operand.const (Go.Value.bool true)) (Go.Operand.tmp 32), type := 4, pos := "l04_row.go:48", after := #[{ on := 6, ground := Go.Ground.data }, { on := 22, ground := Go.Ground.data }], guard := none }) (v := .bool true) rfl (by kernel_rfl) (by kernel_rfl) (by kernel_rfl) (fun _ _ _ h => h) (Or.inl ⟨by rfl, ?_⟩) (by assumption) ?_
        · intro w8 hS8
          (try dsimp only at hS8)
          go_simp
        try simp only [Act.put, List.setIfInBounds_toArray, List.set_cons_zero, List.set_cons_succ]
        refine wpAnyH_done (by kernel_rfl) ?_ _
        go_wp2
        go_ret
        exact ⟨by rw [AN.out]; rfl, hH1.2.2.2.2.2.1⟩
      · have HV := Lib.hid hv
        have D0 := fun w => spec_rv (R k).i (R k).g (R k).y (R k).x (R k).nl w
        unfold Rw.ok at hv
        rw [hv] at D0
        have DV := Lib.hid D0
        clear D0 hv
        by_cases h0 : k = 0
        · have hz : decide ((0 : Int) < (k : Int)) = false := decide_eq_false (by omega)
          have H0 := Lib.hid h0
          have AN := Lib.hid (show areB R (k + 1) = true by have h1 := HV.out; rw [h0] at h1 ⊢; exact areB_zero h1)
          clear h0
          go_wp2_with fail
          refine wp_region_held_drew (S := fun w' => w'.cell? ⟨g, k * 5, none⟩ = some (.int .i64 (R k).i) ∧ w'.cell? ⟨g, k * 5 + 1, none⟩ = some (.int .i64 (R k).g) ∧ w'.cell? ⟨g, k * 5 + 2, none⟩ = some (.int .i64 (R k).y) ∧ w'.cell? ⟨g, k * 5 + 3, none⟩ = some (.int .i64 (R k).x) ∧ w'.cell? ⟨g, k * 5 + 4, none⟩ = some (.bool (R k).nl) ∧ Grow w w' g) (by kernel_rfl) (r5_start HK.out HG.out) (fun hHeld => ?_)
          refine wpAnyH_take (i := 0) (oi := { dst := some 10, op := Go.Op.move (Go.Operand.tmp 0), type := 57, pos := "l04_row.go:48", after := #[], guard := none }) (v := .slice (some ⟨g, 0, none⟩) n cap) rfl (by kernel_rfl) (by kernel_rfl) (by kernel_rfl) (fun _ _ _ h => h) (Or.inl ⟨by rfl, ?_⟩) (by assumption) ?_
          · intro w8 hS8
            (try dsimp only at hS8)
            go_simp
          try simp only [Act.put, List.setIfInBounds_toArray, List.set_cons_zero, List.set_cons_succ]
          refine wpAnyH_take (i := 1) (oi := { dst := some 11, op := Go.Op.move (Go.Operand.tmp 3), type := 3, pos := "l04_row.go:48", after := #[], guard := none }) (v := .int .i64 k) rfl (by kernel_rfl) (by kernel_rfl) (by kernel_rfl) (fun _ _ _ h => h) (Or.inl ⟨by rfl, ?_⟩) (by assumption) ?_
          · intro w8 hS8
            (try dsimp only at hS8)
            go_simp
          try simp only [Act.put, List.setIfInBounds_toArray, List.set_cons_zero, List.set_cons_succ]
          refine wpAnyH_take (i := 2) (oi := { dst := some 12, op := Go.Op.indexAddr 57 (Go.Operand.tmp 10) (Go.Operand.tmp 11), type := 0, pos := "l04_row.go:48", after := #[{ on := 0, ground := Go.Ground.data }, { on := 1, ground := Go.Ground.data }], guard := none }) (v := .pointer (some ⟨g, k * 5, none⟩)) rfl (by kernel_rfl) (by kernel_rfl) (by kernel_rfl) (fun _ _ _ h => h) (Or.inl ⟨by rfl, ?_⟩) (by assumption) ?_
          · intro w8 hS8
            (try dsimp only at hS8)
            go_simp
          try simp only [Act.put, List.setIfInBounds_toArray, List.set_cons_zero, List.set_cons_succ]
          refine wpAnyH_take (i := 3) (oi := { dst := some 13, op := Go.Op.load 36 (Go.Operand.tmp 12), type := 36, pos := "l04_row.go:48", after := #[{ on := 2, ground := Go.Ground.data }], guard := none }) (v := .agg #[.int .i64 (R k).i, .int .i64 (R k).g, .int .i64 (R k).y, .int .i64 (R k).x, .bool (R k).nl]) rfl (by kernel_rfl) (by kernel_rfl) (by kernel_rfl) (fun _ _ _ h => h) (Or.inl ⟨by rfl, ?_⟩) (by assumption) ?_
          · intro w8 hS8
            (try dsimp only at hS8)
            go_simp
          try simp only [Act.put, List.setIfInBounds_toArray, List.set_cons_zero, List.set_cons_succ]
          refine wpAnyH_ready (rs := [4]) (by kernel_rfl) (by simp) ?_
          refine AllReadyH.cons (o := { dst := some 14, op := Go.Op.call { callee := Go.Callee.value (Go.Operand.func 33), args := #[Go.Operand.tmp 13], argTypes := #[36] }, type := 4, pos := "l04_row.go:48", after := #[{ on := 3, ground := Go.Ground.data }], guard := none }) rfl (fun K hK => ?_) AllReadyH.nil
          go_simp
          go_at_call 33
          (with_reducible refine (DV.out _).mono ?_)
          rintro e9 w9 ⟨rfl, hb⟩
          refine hK.out _ _ ?_ (fun hH1 => ?_)
          · exact r5_keep hHeld hb
          clear hK K
          try simp only [Act.put, List.setIfInBounds_toArray, List.set_cons_zero, List.set_cons_succ]
          refine wpAnyH_take (i := 5) (oi := { dst := some 15, op := Go.Op.unOp UnOp.not 4 (Go.Operand.tmp 14), type := 4, pos := "l04_row.go:48", after := #[{ on := 4, ground := Go.Ground.data }], guard := none }) (v := .bool false) rfl (by kernel_rfl) (by kernel_rfl) (by kernel_rfl) (fun _ _ _ h => h) (Or.inl ⟨by rfl, ?_⟩) (by assumption) ?_
          · intro w8 hS8
            (try dsimp only at hS8)
            go_simp
          try simp only [Act.put, List.setIfInBounds_toArray, List.set_cons_zero, List.set_cons_succ]
          refine wpAnyH_take (i := 6) (oi := { dst := some 16, op := Go.Op.move (Go.Operand.tmp 15), type := 4, pos := "l04_row.go:48", after := #[{ on := 5, ground := Go.Ground.data }, { on := 4, ground := Go.Ground.chain }], guard := none }) (v := .bool false) rfl (by kernel_rfl) (by kernel_rfl) (by kernel_rfl) (fun _ _ _ h => h) (Or.inl ⟨by rfl, ?_⟩) (by assumption) ?_
          · intro w8 hS8
            (try dsimp only at hS8)
            go_simp
          try simp only [Act.put, List.setIfInBounds_toArray, List.set_cons_zero, List.set_cons_succ]
          refine wpAnyH_take (i := 7) (oi := { dst := some 17, op := Go.Op.move (Go.Operand.tmp 3), type := 3, pos := "l04_row.go:48", after := #[{ on := 6, ground := Go.Ground.guard }], guard := some (6, false) }) (v := .int .i64 k) rfl (by kernel_rfl) (by kernel_rfl) (by kernel_rfl) (fun _ _ _ h => h) (Or.inl ⟨by rfl, ?_⟩) (by assumption) ?_
          · intro w8 hS8
            (try dsimp only at hS8)
            go_simp
          try simp only [Act.put, List.setIfInBounds_toArray, List.set_cons_zero, List.set_cons_succ]
          refine wpAnyH_take (i := 8) (oi := { dst := some 18, op := Go.Op.binOp BinOp.gtr 3 (Go.Operand.tmp 17) (Go.Operand.const (Go.Value.int Go.IntKind.i64 0)) 3, type := 4, pos := "l04_row.go:48", after := #[{ on := 7, ground := Go.Ground.data }, { on := 6, ground := Go.Ground.guard }], guard := some (6, false) }) (v := .bool false) rfl (by kernel_rfl) (by kernel_rfl) (by kernel_rfl) (fun _ _ _ h => h) (Or.inl ⟨by rfl, ?_⟩) (by assumption) ?_
          · intro w8 hS8
            (try dsimp only at hS8)
            (first | (go_simp; done) | (go_simp; exact H0.out))
          try simp only [Act.put, List.setIfInBounds_toArray, List.set_cons_zero, List.set_cons_succ]
          refine wpAnyH_take (i := 9) (oi := { dst := some 19, op := Go.Op.move (Go.Operand.tmp 18), type := 4, pos := "l04_row.go:48", after := #[{ on := 8, ground := Go.Ground.data }, { on := 6, ground := Go.Ground.chain }, { on := 6, ground := Go.Ground.guard }], guard := some (6, false) }) (v := .bool false) rfl (by kernel_rfl) (by kernel_rfl) (by kernel_rfl) (fun _ _ _ h => h) (Or.inl ⟨by rfl, ?_⟩) (by assumption) ?_
          · intro w8 hS8
            (try dsimp only at hS8)
            go_simp
          try simp only [Act.put, List.setIfInBounds_toArray, List.set_cons_zero, List.set_cons_succ]
          refine held_skip (i := 10) (oi := { dst := some 20, op := Go.Op.move (Go.Operand.tmp 0), type := 57, pos := "l04_row.go:48", after := #[{ on := 9, ground := Go.Ground.guard }], guard := some (9, true) }) rfl (by kernel_rfl) (by kernel_rfl) (by kernel_rfl) (fun _ _ _ h => h) (by rfl) (by assumption) ?_
          try simp only [Act.put, List.setIfInBounds_toArray, List.set_cons_zero, List.set_cons_succ]
          refine held_skip (i := 11) (oi := { dst := some 21, op := Go.Op.move (Go.Operand.tmp 3), type := 3, pos := "l04_row.go:48", after := #[{ on := 9, ground := Go.Ground.guard }], guard := some (9, true) }) rfl (by kernel_rfl) (by kernel_rfl) (by kernel_rfl) (fun _ _ _ h => h) (by rfl) (by assumption) ?_
          try simp only [Act.put, List.setIfInBounds_toArray, List.set_cons_zero, List.set_cons_succ]
          refine held_skip (i := 12) (oi := { dst := some 22, op := Go.Op.binOp BinOp.sub 3 (Go.Operand.tmp 21) (Go.Operand.const (Go.Value.int Go.IntKind.i64 1)) 3, type := 3, pos := "l04_row.go:48", after := #[{ on := 11, ground := Go.Ground.data }, { on := 9, ground := Go.Ground.guard }], guard := some (9, true) }) rfl (by kernel_rfl) (by kernel_rfl) (by kernel_rfl) (fun _ _ _ h => h) (by rfl) (by assumption) ?_
          try simp only [Act.put, List.setIfInBounds_toArray, List.set_cons_zero, List.set_cons_succ]
          refine held_skip (i := 13) (oi := { dst := some 23, op := Go.Op.indexAddr 57 (Go.Operand.tmp 20) (Go.Operand.tmp 22), type := 0, pos := "l04_row.go:48", after := #[{ on := 10, ground := Go.Ground.data }, { on := 12, ground := Go.Ground.data }, { on := 9, ground := Go.Ground.guard }], guard := some (9, true) }) rfl (by kernel_rfl) (by kernel_rfl) (by kernel_rfl) (fun _ _ _ h => h) (by rfl) (by assumption) ?_
          try simp only [Act.put, List.setIfInBounds_toArray, List.set_cons_zero, List.set_cons_succ]
          refine held_skip (i := 14) (oi := { dst := some 24, op := Go.Op.fieldAddr 36 (Go.Operand.tmp 23) 0, type := 0, pos := "l04_row.go:48", after := #[{ on := 13, ground := Go.Ground.data }, { on := 9, ground := Go.Ground.guard }], guard := some (9, true) }) rfl (by kernel_rfl) (by kernel_rfl) (by kernel_rfl) (fun _ _ _ h => h) (by rfl) (by assumption) ?_
          try simp only [Act.put, List.setIfInBounds_toArray, List.set_cons_zero, List.set_cons_succ]
          refine held_skip (i := 15) (oi := { dst := some 25, op := Go.Op.load 3 (Go.Operand.tmp 24), type := 3, pos := "l04_row.go:48", after := #[{ on := 14, ground := Go.Ground.data }, { on := 9, ground := Go.Ground.guard }], guard := some (9, true) }) rfl (by kernel_rfl) (by kernel_rfl) (by kernel_rfl) (fun _ _ _ h => h) (by rfl) (by assumption) ?_
          try simp only [Act.put, List.setIfInBounds_toArray, List.set_cons_zero, List.set_cons_succ]
          refine held_skip (i := 16) (oi := { dst := some 26, op := Go.Op.move (Go.Operand.tmp 0), type := 57, pos := "l04_row.go:48", after := #[{ on := 9, ground := Go.Ground.guard }], guard := some (9, true) }) rfl (by kernel_rfl) (by kernel_rfl) (by kernel_rfl) (fun _ _ _ h => h) (by rfl) (by assumption) ?_
          try simp only [Act.put, List.setIfInBounds_toArray, List.set_cons_zero, List.set_cons_succ]
          refine held_skip (i := 17) (oi := { dst := some 27, op := Go.Op.move (Go.Operand.tmp 3), type := 3, pos := "l04_row.go:48", after := #[{ on := 9, ground := Go.Ground.guard }], guard := some (9, true) }) rfl (by kernel_rfl) (by kernel_rfl) (by kernel_rfl) (fun _ _ _ h => h) (by rfl) (by assumption) ?_
          try simp only [Act.put, List.setIfInBounds_toArray, List.set_cons_zero, List.set_cons_succ]
          refine held_skip (i := 18) (oi := { dst := some 28, op := Go.Op.indexAddr 57 (Go.Operand.tmp 26) (Go.Operand.tmp 27), type := 0, pos := "l04_row.go:48", after := #[{ on := 16, ground := Go.Ground.data }, { on := 17, ground := Go.Ground.data }, { on := 9, ground := Go.Ground.guard }], guard := some (9, true) }) rfl (by kernel_rfl) (by kernel_rfl) (by kernel_rfl) (fun _ _ _ h => h) (by rfl) (by assumption) ?_
          try simp only [Act.put, List.setIfInBounds_toArray, List.set_cons_zero, List.set_cons_succ]
          refine held_skip (i := 19) (oi := { dst := some 29, op := Go.Op.fieldAddr 36 (Go.Operand.tmp 28) 0, type := 0, pos := "l04_row.go:48", after := #[{ on := 18, ground := Go.Ground.data }, { on := 9, ground := Go.Ground.guard }], guard := some (9, true) }) rfl (by kernel_rfl) (by kernel_rfl) (by kernel_rfl) (fun _ _ _ h => h) (by rfl) (by assumption) ?_
          try simp only [Act.put, List.setIfInBounds_toArray, List.set_cons_zero, List.set_cons_succ]
          refine held_skip (i := 20) (oi := { dst := some 30, op := Go.Op.load 3 (Go.Operand.tmp 29), type := 3, pos := "l04_row.go:48", after := #[{ on := 19, ground := Go.Ground.data }, { on := 9, ground := Go.Ground.guard }], guard := some (9, true) }) rfl (by kernel_rfl) (by kernel_rfl) (by kernel_rfl) (fun _ _ _ h => h) (by rfl) (by assumption) ?_
          try simp only [Act.put, List.setIfInBounds_toArray, List.set_cons_zero, List.set_cons_succ]
          refine held_skip (i := 21) (oi := { dst := some 31, op := Go.Op.binOp BinOp.geq 3 (Go.Operand.tmp 25) (Go.Operand.tmp 30) 3, type := 4, pos := "l04_row.go:48", after := #[{ on := 15, ground := Go.Ground.data }, { on := 20, ground := Go.Ground.data }, { on := 9, ground := Go.Ground.guard }], guard := some (9, true) }) rfl (by kernel_rfl) (by kernel_rfl) (by kernel_rfl) (fun _ _ _ h => h) (by rfl) (by assumption) ?_
          try simp only [Act.put, List.setIfInBounds_toArray, List.set_cons_zero, List.set_cons_succ]
          refine wpAnyH_take (i := 22) (oi := { dst := some 32, op := Go.Op.pick (Go.Operand.tmp 19) (Go.Operand.tmp 31) (Go.Operand.const (Go.Value.bool false)), type := 4, pos := "l04_row.go:48", after := #[{ on := 9, ground := Go.Ground.data }, { on := 21, ground := Go.Ground.data }, { on := 6, ground := Go.Ground.guard }], guard := some (6, false) }) (v := .bool false) rfl (by kernel_rfl) (by kernel_rfl) (by kernel_rfl) (fun _ _ _ h => h) (Or.inl ⟨by rfl, ?_⟩) (by assumption) ?_
          · intro w8 hS8
            (try dsimp only at hS8)
            go_simp
          try simp only [Act.put, List.setIfInBounds_toArray, List.set_cons_zero, List.set_cons_succ]
          refine wpAnyH_take (i := 23) (oi := { dst := some 33, op := Go.Op.pick (Go.Operand.tmp 16) (Go.Operand.const (Go.Value.bool true)) (Go.Operand.tmp 32), type := 4, pos := "l04_row.go:48", after := #[{ on := 6, ground := Go.Ground.data }, { on := 22, ground := Go.Ground.data }], guard := none }) (v := .bool false) rfl (by kernel_rfl) (by kernel_rfl) (by kernel_rfl) (fun _ _ _ h => h) (Or.inl ⟨by rfl, ?_⟩) (by assumption) ?_
          · intro w8 hS8
            (try dsimp only at hS8)
            go_simp
          try simp only [Act.put, List.setIfInBounds_toArray, List.set_cons_zero, List.set_cons_succ]
          refine wpAnyH_done (by kernel_rfl) ?_ _
          have HG2 := Lib.hid hH1.2.2.2.2.2
          go_wp2
          go_roundw
          case rel => exact ⟨k + 1, by omega, by go_num, AN.out, HG2.out.1⟩
          case measure => simp [intOf]; omega
        · obtain ⟨m, hm⟩ : ∃ m, k = m + 1 := ⟨k - 1, by omega⟩
          have HM := Lib.hid ((HR.out m (by omega)).below HG.out.1 hg)
          have hz : 0 < k := by omega
          have hw9 : IntKind.i64.wrap ((k : Int) - 1) = (m : Int) := by rw [IntWalk.i64_in _ (by omega)]; omega
          have hmI : (m : Int) < (n : Int) := by omega
          have hm0 : (0 : Int) ≤ (m : Int) := by omega
          have HMK := Lib.hid hm
          clear h0
          by_cases hl : (R m).i < (R k).i
          · have hq : decide ((R k).i ≤ (R m).i) = false := decide_eq_false (by omega)
            have AN := Lib.hid (show areB R (k + 1) = true by have h1 := HV.out; have h2 := HA.out; rw [hm] at h1 h2 hl ⊢; exact areB_next h2 h1 hl)
            clear hl hm
            go_wp2_with fail
            (first | go_region_held3 (fun w' => w'.cell? ⟨g, k * 5, none⟩ = some (.int .i64 (R k).i) ∧ w'.cell? ⟨g, k * 5 + 1, none⟩ = some (.int .i64 (R k).g) ∧ w'.cell? ⟨g, k * 5 + 2, none⟩ = some (.int .i64 (R k).y) ∧ w'.cell? ⟨g, k * 5 + 3, none⟩ = some (.int .i64 (R k).x) ∧ w'.cell? ⟨g, k * 5 + 4, none⟩ = some (.bool (R k).nl) ∧ w'.cell? ⟨g, m * 5, none⟩ = some (.int .i64 (R m).i) ∧ Grow w w' g) (first | assumption | exact r6_start HK.out HM.out HG.out | exact r6_keep (by assumption) (by assumption)) (first | (go_simp; go_at_call 33; (with_reducible refine (DV.out _).mono ?_); rintro e9 w9 ⟨rfl, hb⟩)) | fail)
            all_goals
              have HG2 := Lib.hid (‹_ ∧ _ ∧ _ ∧ _ ∧ _ ∧ _ ∧ Grow w w9 g›.2.2.2.2.2.2)
              clear hw9
              go_wp2
              go_roundw
              case rel => exact ⟨k + 1, by omega, by go_num, AN.out, HG2.out.1⟩
              case measure => simp [intOf]; omega
          · have hq : decide ((R k).i ≤ (R m).i) = true := decide_eq_true (by omega)
            have AN := Lib.hid (show areB R n = false by rw [hm] at hl hlt; exact areB_low hlt hl)
            clear hl hm
            go_wp2_with fail
            (first | go_region_held3 (fun w' => w'.cell? ⟨g, k * 5, none⟩ = some (.int .i64 (R k).i) ∧ w'.cell? ⟨g, k * 5 + 1, none⟩ = some (.int .i64 (R k).g) ∧ w'.cell? ⟨g, k * 5 + 2, none⟩ = some (.int .i64 (R k).y) ∧ w'.cell? ⟨g, k * 5 + 3, none⟩ = some (.int .i64 (R k).x) ∧ w'.cell? ⟨g, k * 5 + 4, none⟩ = some (.bool (R k).nl) ∧ w'.cell? ⟨g, m * 5, none⟩ = some (.int .i64 (R m).i) ∧ Grow w w' g) (first | assumption | exact r6_start HK.out HM.out HG.out | exact r6_keep (by assumption) (by assumption)) (first | (go_simp; go_at_call 33; (with_reducible refine (DV.out _).mono ?_); rintro e9 w9 ⟨rfl, hb⟩)) | fail)
            all_goals
              have HG2 := Lib.hid (‹_ ∧ _ ∧ _ ∧ _ ∧ _ ∧ _ ∧ Grow w w9 g›.2.2.2.2.2.2)
              clear hw9
              go_wp2
              go_ret
              exact ⟨by rw [AN.out]; rfl, HG2.out.1⟩
    · obtain rfl : k = n := by omega
      have hsd : decide ((k : Int) < (k : Int)) = false := decide_eq_false (by omega)
      go_wp2
      go_ret
      exact ⟨by rw [HA.out]; rfl, HB.out⟩

theorem spec_ar (g n cap : Nat) (R : Nat → Rw) (w : World) (hn : n ≤ 1048576) (hg : g < w.heap.size) (hR : ∀ k, k < n → RowIn w g k (R k)) :
    Calls Try.prog 142 #[.slice (some ⟨g, 0, none⟩) n cap] w fun e w' => e = .returned (.bool (areB R n)) ∧ Below w.heap.size w w' :=
  spec_arV _ n cap R w hn (.inr ⟨g, rfl, hg, hR⟩)
end Go.Proofs.Ytcfcohnkkgickaa
