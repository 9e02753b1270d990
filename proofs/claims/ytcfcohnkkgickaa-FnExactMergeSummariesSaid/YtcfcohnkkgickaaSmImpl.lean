/-
  The walks over the project's spread, IsSummary and ValuesIn.
-/
import Derived.Test.YtcfcohnkkgickaaRows
import Derived.Test.YtcfcohnkkgickaaKeep
import Derived.Test.YtcfcohnkkgickaaSmSpec
import Derived.Test.YtcfcohnkkgickaaHgImpl
import Derived.Test.YtcfcohnkkgickaaIbImpl
import Derived.Test.YtcfcohnkkgickaaAl7
import Derived.Test.YtcfcohnkkgickaaHgVal
import Derived.Test.YtcfcohnkkgickaaLimbs
namespace Go.Proofs.Ytcfcohnkkgickaa
open Go.RowKit Num

set_option maxRecDepth 8000 in
set_option maxHeartbeats 6400000 in
theorem impl_spV (k mn mx sm : Int) (w : World) (hk0 : 0 ≤ k) (hk1 : k ≤ 99) :
    Calls Try.prog 120 #[.agg #[.int .i64 k, .int .i64 mn, .int .i64 mx, .int .i64 sm]] w fun e w' => e = .returned (.bool (spB ⟨k, mn, mx, sm⟩)) ∧ Below w.heap.size w w' := by
  by_cases hk : k = 0
  · skip
    subst hk
    have MK := Lib.hid (show ((mn == 0) && ((mx == 0) && (sm == 0))) = spB ⟨0, mn, mx, sm⟩ from by
      by_cases h : mn = 0 ∧ mx = 0 ∧ sm = 0
      · rw [spB_true ⟨fun _ => h, fun h9 => absurd rfl h9⟩, h.1, h.2.1, h.2.2]; rfl
      · rw [spB_false (fun h9 => h (h9.1 rfl))]
        simp only [not_and] at h
        by_cases a : mn = 0
        · by_cases b : mx = 0
          · have := h a b; rw [beq_eq_false_iff_ne.2 this]; simp
          · rw [beq_eq_false_iff_ne.2 b]; simp
        · rw [beq_eq_false_iff_ne.2 a]; simp)
    have q0 : ((0 : Int) == 0) = true := rfl
    go_enter Try.func120, Try.ntmps120
    have K0 := (Kept.start w).alloc4 (.int .i64 0) (.int .i64 mn) (.int .i64 mx) (.int .i64 sm) 142 _ rfl
    go_wp2_with fail
    all_goals
      subst_vars
      go_ret
      exact ⟨by rw [← MK.out]; simp_all, K0.1⟩
  · skip
    have q0 : (k == 0) = false := beq_eq_false_iff_ne.2 hk
    have HK9 := Lib.hid hk
    clear hk
    by_cases h1 : -99 ≤ mn
    · skip
      have d1 : decide (-99 ≤ mn) = true := decide_eq_true h1
      by_cases h2 : mn ≤ mx
      · skip
        have d2 : decide (mn ≤ mx) = true := decide_eq_true h2
        by_cases h3 : mx ≤ 99
        · skip
          have d3 : decide (mx ≤ 99) = true := decide_eq_true h3
          obtain ⟨p1, hp1⟩ : ∃ p, p = k * mn := ⟨_, rfl⟩
          obtain ⟨p2, hp2⟩ : ∃ p, p = k * mx := ⟨_, rfl⟩
          have b1 := prod99 ⟨hk0, hk1⟩ (m := mn) (by omega)
          have b2 := prod99 ⟨hk0, hk1⟩ (m := mx) (by omega)
          have hw1 : IntKind.i64.wrap (k * mn) = p1 := by rw [hp1, IntKind.wrap_i64]; omega
          have hw2 : IntKind.i64.wrap (k * mx) = p2 := by rw [hp2, IntKind.wrap_i64]; omega
          have HP1 := Lib.hid hp1
          have HP2 := Lib.hid hp2
          clear b1 b2 hp1 hp2
          by_cases h4 : p1 ≤ sm
          · skip
            have d4 : decide (p1 ≤ sm) = true := decide_eq_true h4
            by_cases h5 : sm ≤ p2
            · skip
              have d5 : decide (sm ≤ p2) = true := decide_eq_true h5
              have AN := Lib.hid (show spB ⟨k, mn, mx, sm⟩ = true from spB_true ⟨fun h9 => absurd h9 HK9.out, fun _ => ⟨h1, h2, h3, by simp only; rw [← HP1.out]; exact h4, by simp only; rw [← HP2.out]; exact h5⟩⟩)
              go_enter Try.func120, Try.ntmps120
              have K0 := (Kept.start w).alloc4 (.int .i64 k) (.int .i64 mn) (.int .i64 mx) (.int .i64 sm) 142 _ rfl
              go_wp2_with fail
              go_ret
              exact ⟨by rw [AN.out]; rfl, K0.1⟩
            · skip
              have d5 : decide (sm ≤ p2) = false := decide_eq_false h5
              have AN := Lib.hid (show spB ⟨k, mn, mx, sm⟩ = false from spB_false (fun h9 => h5 (by rw [HP2.out]; exact (h9.2 HK9.out).2.2.2.2)))
              go_enter Try.func120, Try.ntmps120
              have K0 := (Kept.start w).alloc4 (.int .i64 k) (.int .i64 mn) (.int .i64 mx) (.int .i64 sm) 142 _ rfl
              go_wp2_with fail
              go_ret
              exact ⟨by rw [AN.out]; rfl, K0.1⟩
          · skip
            have d4 : decide (p1 ≤ sm) = false := decide_eq_false h4
            have AN := Lib.hid (show spB ⟨k, mn, mx, sm⟩ = false from spB_false (fun h9 => h4 (by rw [HP1.out]; exact (h9.2 HK9.out).2.2.2.1)))
            go_enter Try.func120, Try.ntmps120
            have K0 := (Kept.start w).alloc4 (.int .i64 k) (.int .i64 mn) (.int .i64 mx) (.int .i64 sm) 142 _ rfl
            go_wp2_with fail
            go_ret
            exact ⟨by rw [AN.out]; rfl, K0.1⟩
        · skip
          have d3 : decide (mx ≤ 99) = false := decide_eq_false h3
          have AN := Lib.hid (show spB ⟨k, mn, mx, sm⟩ = false from spB_false (fun h9 => h3 (h9.2 HK9.out).2.2.1))
          go_enter Try.func120, Try.ntmps120
          have K0 := (Kept.start w).alloc4 (.int .i64 k) (.int .i64 mn) (.int .i64 mx) (.int .i64 sm) 142 _ rfl
          go_wp2_with fail
          go_ret
          exact ⟨by rw [AN.out]; rfl, K0.1⟩
      · skip
        have d2 : decide (mn ≤ mx) = false := decide_eq_false h2
        have AN := Lib.hid (show spB ⟨k, mn, mx, sm⟩ = false from spB_false (fun h9 => h2 (h9.2 HK9.out).2.1))
        go_enter Try.func120, Try.ntmps120
        have K0 := (Kept.start w).alloc4 (.int .i64 k) (.int .i64 mn) (.int .i64 mx) (.int .i64 sm) 142 _ rfl
        go_wp2_with fail
        go_ret
        exact ⟨by rw [AN.out]; rfl, K0.1⟩
    · skip
      have d1 : decide (-99 ≤ mn) = false := decide_eq_false h1
      have AN := Lib.hid (show spB ⟨k, mn, mx, sm⟩ = false from spB_false (fun h9 => h1 (h9.2 HK9.out).1))
      go_enter Try.func120, Try.ntmps120
      have K0 := (Kept.start w).alloc4 (.int .i64 k) (.int .i64 mn) (.int .i64 mx) (.int .i64 sm) 142 _ rfl
      go_wp2_with fail
      go_ret
      exact ⟨by rw [AN.out]; rfl, K0.1⟩

set_option maxRecDepth 8000 in
set_option maxHeartbeats 6400000 in
theorem impl_spOf (b c u mn mx sm : Int) (v : Value) (w : World) (h0 : 0 ≤ u) (h1 : u ≤ c) (h2 : c ≤ 99) :
    Calls Try.prog 119 #[.agg #[.int .i64 b, .int .i64 c, .int .i64 u, .int .i64 mn, .int .i64 mx, .int .i64 sm, v]] w fun e w' => e = .returned (.agg #[.int .i64 (c - u), .int .i64 mn, .int .i64 mx, .int .i64 sm]) ∧ Below w.heap.size w w' := by
  have hw : IntKind.i64.wrap (c - u) = c - u := by rw [IntKind.wrap_i64]; omega
  clear h0 h1 h2
  go_enter Try.func119, Try.ntmps119
  have K0 := ((Kept.start w).alloc7 (.int .i64 b) (.int .i64 c) (.int .i64 u) (.int .i64 mn) (.int .i64 mx) (.int .i64 sm) v 77 _ rfl).alloc4 (.int .i64 (c - u)) (.int .i64 mn) (.int .i64 mx) (.int .i64 sm) 142 (w.heap.size + 1) (by simp)
  go_wp2
  exact bodyPost_ret (v := .agg #[.int .i64 (c - u), .int .i64 mn, .int .i64 mx, .int .i64 sm]) (by simp [results, Try.results119, go_sem]) rfl ⟨rfl, K0.1⟩

def isO0 : Oper := { dst := some 3, op := Go.Op.fieldAddr 77 (Go.Operand.tmp 1) 0, type := 0, pos := "l09_summary.go:74", after := #[], guard := none }
def isO1 : Oper := { dst := some 4, op := Go.Op.load 3 (Go.Operand.tmp 3), type := 3, pos := "l09_summary.go:74", after := #[{ on := 0, ground := Go.Ground.data }], guard := none }
def isO2 : Oper := { dst := some 5, op := Go.Op.binOp BinOp.eql 3 (Go.Operand.tmp 4) (Go.Operand.const (Go.Value.int Go.IntKind.i64 0)) 3, type := 4, pos := "l09_summary.go:74", after := #[{ on := 1, ground := Go.Ground.data }], guard := none }
def isO3 : Oper := { dst := some 6, op := Go.Op.move (Go.Operand.tmp 5), type := 4, pos := "l09_summary.go:74", after := #[{ on := 2, ground := Go.Ground.data }], guard := none }
def isO4 : Oper := { dst := some 7, op := Go.Op.fieldAddr 77 (Go.Operand.tmp 1) 0, type := 0, pos := "l09_summary.go:74", after := #[{ on := 3, ground := Go.Ground.guard }], guard := some (3, false) }
def isO5 : Oper := { dst := some 8, op := Go.Op.load 3 (Go.Operand.tmp 7), type := 3, pos := "l09_summary.go:74", after := #[{ on := 4, ground := Go.Ground.data }, { on := 3, ground := Go.Ground.guard }], guard := some (3, false) }
def isO6 : Oper := { dst := some 9, op := Go.Op.call { callee := Go.Callee.value (Go.Operand.func 118), args := #[Go.Operand.tmp 8], argTypes := #[3] }, type := 4, pos := "l09_summary.go:74", after := #[{ on := 5, ground := Go.Ground.data }, { on := 3, ground := Go.Ground.chain }, { on := 3, ground := Go.Ground.guard }], guard := some (3, false) }
def isO7 : Oper := { dst := some 10, op := Go.Op.pick (Go.Operand.tmp 6) (Go.Operand.const (Go.Value.bool true)) (Go.Operand.tmp 9), type := 4, pos := "l09_summary.go:74", after := #[{ on := 3, ground := Go.Ground.data }, { on := 6, ground := Go.Ground.data }], guard := none }
def isO8 : Oper := { dst := some 11, op := Go.Op.move (Go.Operand.tmp 10), type := 4, pos := "l09_summary.go:74", after := #[{ on := 7, ground := Go.Ground.data }, { on := 6, ground := Go.Ground.chain }], guard := none }
def isO9 : Oper := { dst := some 12, op := Go.Op.fieldAddr 77 (Go.Operand.tmp 1) 6, type := 0, pos := "l09_summary.go:74", after := #[{ on := 8, ground := Go.Ground.guard }], guard := some (8, true) }
def isO10 : Oper := { dst := some 13, op := Go.Op.load 45 (Go.Operand.tmp 12), type := 45, pos := "l09_summary.go:74", after := #[{ on := 9, ground := Go.Ground.data }, { on := 8, ground := Go.Ground.guard }], guard := some (8, true) }
def isO11 : Oper := { dst := some 14, op := Go.Op.call { callee := Go.Callee.value (Go.Operand.func 37), args := #[Go.Operand.tmp 13], argTypes := #[45] }, type := 4, pos := "l09_summary.go:75", after := #[{ on := 10, ground := Go.Ground.data }, { on := 8, ground := Go.Ground.chain }, { on := 8, ground := Go.Ground.guard }], guard := some (8, true) }
def isO12 : Oper := { dst := some 15, op := Go.Op.pick (Go.Operand.tmp 11) (Go.Operand.tmp 14) (Go.Operand.const (Go.Value.bool false)), type := 4, pos := "l09_summary.go:74", after := #[{ on := 8, ground := Go.Ground.data }, { on := 11, ground := Go.Ground.data }], guard := none }
def isO13 : Oper := { dst := some 16, op := Go.Op.move (Go.Operand.tmp 15), type := 4, pos := "l09_summary.go:74", after := #[{ on := 12, ground := Go.Ground.data }, { on := 11, ground := Go.Ground.chain }], guard := none }
def isO14 : Oper := { dst := some 17, op := Go.Op.fieldAddr 77 (Go.Operand.tmp 1) 1, type := 0, pos := "l09_summary.go:74", after := #[{ on := 13, ground := Go.Ground.guard }], guard := some (13, true) }
def isO15 : Oper := { dst := some 18, op := Go.Op.load 3 (Go.Operand.tmp 17), type := 3, pos := "l09_summary.go:74", after := #[{ on := 14, ground := Go.Ground.data }, { on := 13, ground := Go.Ground.guard }], guard := some (13, true) }
def isO16 : Oper := { dst := some 19, op := Go.Op.fieldAddr 77 (Go.Operand.tmp 1) 6, type := 0, pos := "l09_summary.go:74", after := #[{ on := 13, ground := Go.Ground.guard }], guard := some (13, true) }
def isO17 : Oper := { dst := some 20, op := Go.Op.load 45 (Go.Operand.tmp 19), type := 45, pos := "l09_summary.go:74", after := #[{ on := 16, ground := Go.Ground.data }, { on := 13, ground := Go.Ground.guard }], guard := some (13, true) }
def isO18 : Oper := { dst := some 21, op := Go.Op.call { callee := Go.Callee.value (Go.Operand.func 36), args := #[Go.Operand.tmp 20], argTypes := #[45] }, type := 3, pos := "l09_summary.go:75", after := #[{ on := 17, ground := Go.Ground.data }, { on := 13, ground := Go.Ground.chain }, { on := 13, ground := Go.Ground.guard }], guard := some (13, true) }
def isO19 : Oper := { dst := some 22, op := Go.Op.binOp BinOp.eql 3 (Go.Operand.tmp 18) (Go.Operand.tmp 21) 3, type := 4, pos := "l09_summary.go:74", after := #[{ on := 15, ground := Go.Ground.data }, { on := 18, ground := Go.Ground.data }, { on := 13, ground := Go.Ground.guard }], guard := some (13, true) }
def isO20 : Oper := { dst := some 23, op := Go.Op.pick (Go.Operand.tmp 16) (Go.Operand.tmp 22) (Go.Operand.const (Go.Value.bool false)), type := 4, pos := "l09_summary.go:74", after := #[{ on := 13, ground := Go.Ground.data }, { on := 19, ground := Go.Ground.data }], guard := none }
def isO21 : Oper := { dst := some 24, op := Go.Op.move (Go.Operand.tmp 23), type := 4, pos := "l09_summary.go:74", after := #[{ on := 20, ground := Go.Ground.data }, { on := 18, ground := Go.Ground.chain }], guard := none }
def isO22 : Oper := { dst := some 25, op := Go.Op.fieldAddr 77 (Go.Operand.tmp 1) 2, type := 0, pos := "l09_summary.go:74", after := #[{ on := 21, ground := Go.Ground.guard }], guard := some (21, true) }
def isO23 : Oper := { dst := some 26, op := Go.Op.load 3 (Go.Operand.tmp 25), type := 3, pos := "l09_summary.go:74", after := #[{ on := 22, ground := Go.Ground.data }, { on := 21, ground := Go.Ground.guard }], guard := some (21, true) }
def isO24 : Oper := { dst := some 27, op := Go.Op.binOp BinOp.leq 3 (Go.Operand.const (Go.Value.int Go.IntKind.i64 0)) (Go.Operand.tmp 26) 3, type := 4, pos := "l09_summary.go:74", after := #[{ on := 23, ground := Go.Ground.data }, { on := 21, ground := Go.Ground.guard }], guard := some (21, true) }
def isO25 : Oper := { dst := some 28, op := Go.Op.pick (Go.Operand.tmp 24) (Go.Operand.tmp 27) (Go.Operand.const (Go.Value.bool false)), type := 4, pos := "l09_summary.go:74", after := #[{ on := 21, ground := Go.Ground.data }, { on := 24, ground := Go.Ground.data }], guard := none }
def isO26 : Oper := { dst := some 29, op := Go.Op.move (Go.Operand.tmp 28), type := 4, pos := "l09_summary.go:74", after := #[{ on := 25, ground := Go.Ground.data }, { on := 21, ground := Go.Ground.chain }], guard := none }
def isO27 : Oper := { dst := some 30, op := Go.Op.fieldAddr 77 (Go.Operand.tmp 1) 2, type := 0, pos := "l09_summary.go:74", after := #[{ on := 26, ground := Go.Ground.guard }], guard := some (26, true) }
def isO28 : Oper := { dst := some 31, op := Go.Op.load 3 (Go.Operand.tmp 30), type := 3, pos := "l09_summary.go:74", after := #[{ on := 27, ground := Go.Ground.data }, { on := 26, ground := Go.Ground.guard }], guard := some (26, true) }
def isO29 : Oper := { dst := some 32, op := Go.Op.fieldAddr 77 (Go.Operand.tmp 1) 1, type := 0, pos := "l09_summary.go:74", after := #[{ on := 26, ground := Go.Ground.guard }], guard := some (26, true) }
def isO30 : Oper := { dst := some 33, op := Go.Op.load 3 (Go.Operand.tmp 32), type := 3, pos := "l09_summary.go:74", after := #[{ on := 29, ground := Go.Ground.data }, { on := 26, ground := Go.Ground.guard }], guard := some (26, true) }
def isO31 : Oper := { dst := some 34, op := Go.Op.binOp BinOp.leq 3 (Go.Operand.tmp 31) (Go.Operand.tmp 33) 3, type := 4, pos := "l09_summary.go:74", after := #[{ on := 28, ground := Go.Ground.data }, { on := 30, ground := Go.Ground.data }, { on := 26, ground := Go.Ground.guard }], guard := some (26, true) }
def isO32 : Oper := { dst := some 35, op := Go.Op.pick (Go.Operand.tmp 29) (Go.Operand.tmp 34) (Go.Operand.const (Go.Value.bool false)), type := 4, pos := "l09_summary.go:74", after := #[{ on := 26, ground := Go.Ground.data }, { on := 31, ground := Go.Ground.data }], guard := none }
def isO33 : Oper := { dst := some 36, op := Go.Op.move (Go.Operand.tmp 35), type := 4, pos := "l09_summary.go:74", after := #[{ on := 32, ground := Go.Ground.data }, { on := 26, ground := Go.Ground.chain }], guard := none }
def isO34 : Oper := { dst := some 37, op := Go.Op.load 77 (Go.Operand.tmp 1), type := 77, pos := "l09_summary.go:74", after := #[{ on := 33, ground := Go.Ground.guard }], guard := some (33, true) }
def isO35 : Oper := { dst := some 38, op := Go.Op.call { callee := Go.Callee.value (Go.Operand.func 119), args := #[Go.Operand.tmp 37], argTypes := #[77] }, type := 142, pos := "l09_summary.go:77", after := #[{ on := 34, ground := Go.Ground.data }, { on := 33, ground := Go.Ground.chain }, { on := 33, ground := Go.Ground.guard }], guard := some (33, true) }
def isO36 : Oper := { dst := some 39, op := Go.Op.call { callee := Go.Callee.value (Go.Operand.func 120), args := #[Go.Operand.tmp 38], argTypes := #[142] }, type := 4, pos := "l09_summary.go:77", after := #[{ on := 35, ground := Go.Ground.data }, { on := 35, ground := Go.Ground.chain }, { on := 33, ground := Go.Ground.guard }], guard := some (33, true) }
def isO37 : Oper := { dst := some 40, op := Go.Op.pick (Go.Operand.tmp 36) (Go.Operand.tmp 39) (Go.Operand.const (Go.Value.bool false)), type := 4, pos := "l09_summary.go:74", after := #[{ on := 33, ground := Go.Ground.data }, { on := 36, ground := Go.Ground.data }], guard := none }
def isO38 : Oper := { dst := some 2, op := Go.Op.assign (Go.Operand.tmp 40), type := 4, pos := "l09_summary.go:74", after := #[{ on := 37, ground := Go.Ground.data }, { on := 36, ground := Go.Ground.chain }, { on := 0, ground := Go.Ground.phase }, { on := 1, ground := Go.Ground.phase }, { on := 2, ground := Go.Ground.phase }, { on := 3, ground := Go.Ground.phase }, { on := 4, ground := Go.Ground.phase }, { on := 5, ground := Go.Ground.phase }, { on := 6, ground := Go.Ground.phase }, { on := 7, ground := Go.Ground.phase }, { on := 8, ground := Go.Ground.phase }, { on := 9, ground := Go.Ground.phase }, { on := 10, ground := Go.Ground.phase }, { on := 11, ground := Go.Ground.phase }, { on := 12, ground := Go.Ground.phase }, { on := 13, ground := Go.Ground.phase }, { on := 14, ground := Go.Ground.phase }, { on := 15, ground := Go.Ground.phase }, { on := 16, ground := Go.Ground.phase }, { on := 17, ground := Go.Ground.phase }, { on := 18, ground := Go.Ground.phase }, { on := 19, ground := Go.Ground.phase }, { on := 20, ground := Go.Ground.phase }, { on := 21, ground := Go.Ground.phase }, { on := 22, ground := Go.Ground.phase }, { on := 23, ground := Go.Ground.phase }, { on := 24, ground := Go.Ground.phase }, { on := 25, ground := Go.Ground.phase }, { on := 26, ground := Go.Ground.phase }, { on := 27, ground := Go.Ground.phase }, { on := 28, ground := Go.Ground.phase }, { on := 29, ground := Go.Ground.phase }, { on := 30, ground := Go.Ground.phase }, { on := 31, ground := Go.Ground.phase }, { on := 32, ground := Go.Ground.phase }, { on := 33, ground := Go.Ground.phase }, { on := 34, ground := Go.Ground.phase }, { on := 35, ground := Go.Ground.phase }, { on := 36, ground := Go.Ground.phase }, { on := 37, ground := Go.Ground.phase }], guard := none }

set_option maxRecDepth 8000 in
set_option maxHeartbeats 6400000 in
theorem impl_isS (b c u mn mx sm : Int) (ao : Option Addr) (n cap : Nat) (l : List Int) (w : World) (hl : l.length = n) (hn : n ≤ 1099511627776) (hV : IntsVal w ao l) :
    Calls Try.prog 60 #[.agg #[.int .i64 b, .int .i64 c, .int .i64 u, .int .i64 mn, .int .i64 mx, .int .i64 sm, .slice ao n cap]] w fun e w' => e = .returned (.bool (smB ⟨b, c, u, mn, mx, sm, l⟩)) ∧ Below w.heap.size w w' := by
  have D1 := fun w => val_out (impl_ib b w)
  have D2 := fun w hV => impl_isHV ao n cap l w hl hn hV
  have DD3 := Lib.hid (fun w hV => impl_totV ao n cap l w hl hn hV)
  obtain ⟨S, hS⟩ : ∃ S : Sm, S = ⟨b, c, u, mn, mx, sm, l⟩ := ⟨_, rfl⟩
  rw [← hS]
  obtain ⟨q1, hq1⟩ : ∃ q, q = decide (1 ≤ b ∧ b ≤ 20) := ⟨_, rfl⟩
  obtain ⟨q2, hq2⟩ : ∃ q, q = hgB l := ⟨_, rfl⟩
  obtain ⟨t, hT⟩ : ∃ t, t = totH l := ⟨_, rfl⟩
  simp only [← hq1] at D1
  simp only [← hq2] at D2
  rw [← hT] at DD3
  have DD1 := Lib.hid D1
  have DD2 := Lib.hid D2
  have HV := Lib.hid hV
  have HS := Lib.hid hS
  have H1 := Lib.hid hq1
  have H2 := Lib.hid hq2
  have HT := Lib.hid hT
  clear D1 D2 hq1 hq2 hV hl hS hT
  by_cases hb0 : b = 0
  · skip
    have qb : (b == 0) = true := beq_iff_eq.2 hb0
    have HB : Hid (0 ≤ b ∧ b ≤ 20) := (by omega : 0 ≤ b ∧ b ≤ 20)
    clear hb0
    cases q2
    · skip
      have AN := Lib.hid (show smB S = false from smB_false (fun h => hgB_not H2.out.symm (by have h9 := h.2.1; rw [HS.out] at h9; exact h9)))
      go_enter Try.func60, Try.ntmps60
      have K0 := (Kept.start w).alloc7 (.int .i64 b) (.int .i64 c) (.int .i64 u) (.int .i64 mn) (.int .i64 mx) (.int .i64 sm) (.slice ao n cap) 77 _ rfl
      go_upto_region 1 with fail
      obtain ⟨w1, hw1⟩ : ∃ w1, w1 = w.alloc (.cells #[.int .i64 b, .int .i64 c, .int .i64 u, .int .i64 mn, .int .i64 mx, .int .i64 sm, .slice ao n cap] 77) := ⟨_, rfl⟩
      rw [← hw1] at K0 ⊢
      clear hw1
      have KQ := Lib.hid K0
      have HQ := Lib.hid (HV.out.below K0.1)
      clear K0
      refine wp_region_held_drew (S := fun w' => w'.cell? ⟨w.heap.size, 0, none⟩ = some (.int .i64 b) ∧ w'.cell? ⟨w.heap.size, 1, none⟩ = some (.int .i64 c) ∧ w'.cell? ⟨w.heap.size, 2, none⟩ = some (.int .i64 u) ∧ w'.cell? ⟨w.heap.size, 3, none⟩ = some (.int .i64 mn) ∧ w'.cell? ⟨w.heap.size, 4, none⟩ = some (.int .i64 mx) ∧ w'.cell? ⟨w.heap.size, 5, none⟩ = some (.int .i64 sm) ∧ w'.cell? ⟨w.heap.size, 6, none⟩ = some (.slice ao n cap) ∧ Below w1.heap.size w1 w') (by kernel_rfl) (kn7_at KQ.out (Below.refl _ _).drew) (fun hHeld => ?_)
      refine wpAnyH_take (i := 0) (oi := isO0) (v := .pointer (some ⟨w.heap.size, 0, none⟩)) rfl (by kernel_rfl) (by kernel_rfl) (by kernel_rfl) (fun _ _ _ h => h) (Or.inl ⟨by rfl, ?_⟩) (by assumption) ?_
      · intro w8 hS8
        (try dsimp only at hS8)
        dsimp only [isO0]
        (first | (go_simp; done) | (go_simp; simp_all; done) | (simp_all [go_sem]; done))
      try simp only [Act.put, isO0, List.setIfInBounds_toArray, List.set_cons_zero, List.set_cons_succ]
      refine wpAnyH_take (i := 1) (oi := isO1) (v := .int .i64 b) rfl (by kernel_rfl) (by kernel_rfl) (by kernel_rfl) (fun _ _ _ h => h) (Or.inl ⟨by rfl, ?_⟩) (by assumption) ?_
      · intro w8 hS8
        (try dsimp only at hS8)
        dsimp only [isO1]
        (first | (go_simp; done) | (go_simp; simp_all; done) | (simp_all [go_sem]; done))
      try simp only [Act.put, isO1, List.setIfInBounds_toArray, List.set_cons_zero, List.set_cons_succ]
      refine wpAnyH_take (i := 2) (oi := isO2) (v := .bool true) rfl (by kernel_rfl) (by kernel_rfl) (by kernel_rfl) (fun _ _ _ h => h) (Or.inl ⟨by rfl, ?_⟩) (by assumption) ?_
      · intro w8 hS8
        (try dsimp only at hS8)
        dsimp only [isO2]
        (first | (go_simp; done) | (go_simp; simp_all; done) | (simp_all [go_sem]; done))
      try simp only [Act.put, isO2, List.setIfInBounds_toArray, List.set_cons_zero, List.set_cons_succ]
      refine wpAnyH_take (i := 3) (oi := isO3) (v := .bool true) rfl (by kernel_rfl) (by kernel_rfl) (by kernel_rfl) (fun _ _ _ h => h) (Or.inl ⟨by rfl, ?_⟩) (by assumption) ?_
      · intro w8 hS8
        (try dsimp only at hS8)
        dsimp only [isO3]
        (first | (go_simp; done) | (go_simp; simp_all; done) | (simp_all [go_sem]; done))
      try simp only [Act.put, isO3, List.setIfInBounds_toArray, List.set_cons_zero, List.set_cons_succ]
      refine held_skip (i := 4) (oi := isO4) rfl (by kernel_rfl) (by kernel_rfl) (by kernel_rfl) (fun _ _ _ h => h) (by rfl) (by assumption) ?_
      try simp only [Act.put, isO4, List.setIfInBounds_toArray, List.set_cons_zero, List.set_cons_succ]
      refine held_skip (i := 5) (oi := isO5) rfl (by kernel_rfl) (by kernel_rfl) (by kernel_rfl) (fun _ _ _ h => h) (by rfl) (by assumption) ?_
      try simp only [Act.put, isO5, List.setIfInBounds_toArray, List.set_cons_zero, List.set_cons_succ]
      refine held_skip (i := 6) (oi := isO6) rfl (by kernel_rfl) (by kernel_rfl) (by kernel_rfl) (fun _ _ _ h => h) (by rfl) (by assumption) ?_
      try simp only [Act.put, isO6, List.setIfInBounds_toArray, List.set_cons_zero, List.set_cons_succ]
      refine wpAnyH_take (i := 7) (oi := isO7) (v := .bool true) rfl (by kernel_rfl) (by kernel_rfl) (by kernel_rfl) (fun _ _ _ h => h) (Or.inl ⟨by rfl, ?_⟩) (by assumption) ?_
      · intro w8 hS8
        (try dsimp only at hS8)
        dsimp only [isO7]
        (first | (go_simp; done) | (go_simp; simp_all; done) | (simp_all [go_sem]; done))
      try simp only [Act.put, isO7, List.setIfInBounds_toArray, List.set_cons_zero, List.set_cons_succ]
      refine wpAnyH_take (i := 8) (oi := isO8) (v := .bool true) rfl (by kernel_rfl) (by kernel_rfl) (by kernel_rfl) (fun _ _ _ h => h) (Or.inl ⟨by rfl, ?_⟩) (by assumption) ?_
      · intro w8 hS8
        (try dsimp only at hS8)
        dsimp only [isO8]
        (first | (go_simp; done) | (go_simp; simp_all; done) | (simp_all [go_sem]; done))
      try simp only [Act.put, isO8, List.setIfInBounds_toArray, List.set_cons_zero, List.set_cons_succ]
      refine wpAnyH_take (i := 9) (oi := isO9) (v := .pointer (some ⟨w.heap.size, 6, none⟩)) rfl (by kernel_rfl) (by kernel_rfl) (by kernel_rfl) (fun _ _ _ h => h) (Or.inl ⟨by rfl, ?_⟩) (by assumption) ?_
      · intro w8 hS8
        (try dsimp only at hS8)
        dsimp only [isO9]
        (first | (go_simp; done) | (go_simp; simp_all; done) | (simp_all [go_sem]; done))
      try simp only [Act.put, isO9, List.setIfInBounds_toArray, List.set_cons_zero, List.set_cons_succ]
      refine wpAnyH_take (i := 10) (oi := isO10) (v := .slice ao n cap) rfl (by kernel_rfl) (by kernel_rfl) (by kernel_rfl) (fun _ _ _ h => h) (Or.inl ⟨by rfl, ?_⟩) (by assumption) ?_
      · intro w8 hS8
        (try dsimp only at hS8)
        dsimp only [isO10]
        (first | (go_simp; done) | (go_simp; simp_all; done) | (simp_all [go_sem]; done))
      try simp only [Act.put, isO10, List.setIfInBounds_toArray, List.set_cons_zero, List.set_cons_succ]
      refine wpAnyH_ready (rs := [11]) (by kernel_rfl) (by simp) ?_
      refine AllReadyH.cons (o := isO11) rfl (fun K hK => ?_) AllReadyH.nil
      dsimp only [isO11]
      go_simp
      go_at_call 37
      (with_reducible refine (DD2.out _ (HQ.out.below (kn7_b hHeld))).mono ?_)
      rintro e9 w91 ⟨rfl, hb1⟩
      refine hK.out _ _ ?_ (fun hH1 => ?_)
      · exact kn7_keep KQ.out hHeld hb1
      clear hK K
      try simp only [Act.put, isO11, List.setIfInBounds_toArray, List.set_cons_zero, List.set_cons_succ]
      refine wpAnyH_take (i := 12) (oi := isO12) (v := .bool false) rfl (by kernel_rfl) (by kernel_rfl) (by kernel_rfl) (fun _ _ _ h => h) (Or.inl ⟨by rfl, ?_⟩) (by assumption) ?_
      · intro w8 hS8
        (try dsimp only at hS8)
        dsimp only [isO12]
        (first | (go_simp; done) | (go_simp; simp_all; done) | (simp_all [go_sem]; done))
      try simp only [Act.put, isO12, List.setIfInBounds_toArray, List.set_cons_zero, List.set_cons_succ]
      refine wpAnyH_take (i := 13) (oi := isO13) (v := .bool false) rfl (by kernel_rfl) (by kernel_rfl) (by kernel_rfl) (fun _ _ _ h => h) (Or.inl ⟨by rfl, ?_⟩) (by assumption) ?_
      · intro w8 hS8
        (try dsimp only at hS8)
        dsimp only [isO13]
        (first | (go_simp; done) | (go_simp; simp_all; done) | (simp_all [go_sem]; done))
      try simp only [Act.put, isO13, List.setIfInBounds_toArray, List.set_cons_zero, List.set_cons_succ]
      refine held_skip (i := 14) (oi := isO14) rfl (by kernel_rfl) (by kernel_rfl) (by kernel_rfl) (fun _ _ _ h => h) (by rfl) (by assumption) ?_
      try simp only [Act.put, isO14, List.setIfInBounds_toArray, List.set_cons_zero, List.set_cons_succ]
      refine held_skip (i := 15) (oi := isO15) rfl (by kernel_rfl) (by kernel_rfl) (by kernel_rfl) (fun _ _ _ h => h) (by rfl) (by assumption) ?_
      try simp only [Act.put, isO15, List.setIfInBounds_toArray, List.set_cons_zero, List.set_cons_succ]
      refine held_skip (i := 16) (oi := isO16) rfl (by kernel_rfl) (by kernel_rfl) (by kernel_rfl) (fun _ _ _ h => h) (by rfl) (by assumption) ?_
      try simp only [Act.put, isO16, List.setIfInBounds_toArray, List.set_cons_zero, List.set_cons_succ]
      refine held_skip (i := 17) (oi := isO17) rfl (by kernel_rfl) (by kernel_rfl) (by kernel_rfl) (fun _ _ _ h => h) (by rfl) (by assumption) ?_
      try simp only [Act.put, isO17, List.setIfInBounds_toArray, List.set_cons_zero, List.set_cons_succ]
      refine held_skip (i := 18) (oi := isO18) rfl (by kernel_rfl) (by kernel_rfl) (by kernel_rfl) (fun _ _ _ h => h) (by rfl) (by assumption) ?_
      try simp only [Act.put, isO18, List.setIfInBounds_toArray, List.set_cons_zero, List.set_cons_succ]
      refine held_skip (i := 19) (oi := isO19) rfl (by kernel_rfl) (by kernel_rfl) (by kernel_rfl) (fun _ _ _ h => h) (by rfl) (by assumption) ?_
      try simp only [Act.put, isO19, List.setIfInBounds_toArray, List.set_cons_zero, List.set_cons_succ]
      refine wpAnyH_take (i := 20) (oi := isO20) (v := .bool false) rfl (by kernel_rfl) (by kernel_rfl) (by kernel_rfl) (fun _ _ _ h => h) (Or.inl ⟨by rfl, ?_⟩) (by assumption) ?_
      · intro w8 hS8
        (try dsimp only at hS8)
        dsimp only [isO20]
        (first | (go_simp; done) | (go_simp; simp_all; done) | (simp_all [go_sem]; done))
      try simp only [Act.put, isO20, List.setIfInBounds_toArray, List.set_cons_zero, List.set_cons_succ]
      refine wpAnyH_take (i := 21) (oi := isO21) (v := .bool false) rfl (by kernel_rfl) (by kernel_rfl) (by kernel_rfl) (fun _ _ _ h => h) (Or.inl ⟨by rfl, ?_⟩) (by assumption) ?_
      · intro w8 hS8
        (try dsimp only at hS8)
        dsimp only [isO21]
        (first | (go_simp; done) | (go_simp; simp_all; done) | (simp_all [go_sem]; done))
      try simp only [Act.put, isO21, List.setIfInBounds_toArray, List.set_cons_zero, List.set_cons_succ]
      refine held_skip (i := 22) (oi := isO22) rfl (by kernel_rfl) (by kernel_rfl) (by kernel_rfl) (fun _ _ _ h => h) (by rfl) (by assumption) ?_
      try simp only [Act.put, isO22, List.setIfInBounds_toArray, List.set_cons_zero, List.set_cons_succ]
      refine held_skip (i := 23) (oi := isO23) rfl (by kernel_rfl) (by kernel_rfl) (by kernel_rfl) (fun _ _ _ h => h) (by rfl) (by assumption) ?_
      try simp only [Act.put, isO23, List.setIfInBounds_toArray, List.set_cons_zero, List.set_cons_succ]
      refine held_skip (i := 24) (oi := isO24) rfl (by kernel_rfl) (by kernel_rfl) (by kernel_rfl) (fun _ _ _ h => h) (by rfl) (by assumption) ?_
      try simp only [Act.put, isO24, List.setIfInBounds_toArray, List.set_cons_zero, List.set_cons_succ]
      refine wpAnyH_take (i := 25) (oi := isO25) (v := .bool false) rfl (by kernel_rfl) (by kernel_rfl) (by kernel_rfl) (fun _ _ _ h => h) (Or.inl ⟨by rfl, ?_⟩) (by assumption) ?_
      · intro w8 hS8
        (try dsimp only at hS8)
        dsimp only [isO25]
        (first | (go_simp; done) | (go_simp; simp_all; done) | (simp_all [go_sem]; done))
      try simp only [Act.put, isO25, List.setIfInBounds_toArray, List.set_cons_zero, List.set_cons_succ]
      refine wpAnyH_take (i := 26) (oi := isO26) (v := .bool false) rfl (by kernel_rfl) (by kernel_rfl) (by kernel_rfl) (fun _ _ _ h => h) (Or.inl ⟨by rfl, ?_⟩) (by assumption) ?_
      · intro w8 hS8
        (try dsimp only at hS8)
        dsimp only [isO26]
        (first | (go_simp; done) | (go_simp; simp_all; done) | (simp_all [go_sem]; done))
      try simp only [Act.put, isO26, List.setIfInBounds_toArray, List.set_cons_zero, List.set_cons_succ]
      refine held_skip (i := 27) (oi := isO27) rfl (by kernel_rfl) (by kernel_rfl) (by kernel_rfl) (fun _ _ _ h => h) (by rfl) (by assumption) ?_
      try simp only [Act.put, isO27, List.setIfInBounds_toArray, List.set_cons_zero, List.set_cons_succ]
      refine held_skip (i := 28) (oi := isO28) rfl (by kernel_rfl) (by kernel_rfl) (by kernel_rfl) (fun _ _ _ h => h) (by rfl) (by assumption) ?_
      try simp only [Act.put, isO28, List.setIfInBounds_toArray, List.set_cons_zero, List.set_cons_succ]
      refine held_skip (i := 29) (oi := isO29) rfl (by kernel_rfl) (by kernel_rfl) (by kernel_rfl) (fun _ _ _ h => h) (by rfl) (by assumption) ?_
      try simp only [Act.put, isO29, List.setIfInBounds_toArray, List.set_cons_zero, List.set_cons_succ]
      refine held_skip (i := 30) (oi := isO30) rfl (by kernel_rfl) (by kernel_rfl) (by kernel_rfl) (fun _ _ _ h => h) (by rfl) (by assumption) ?_
      try simp only [Act.put, isO30, List.setIfInBounds_toArray, List.set_cons_zero, List.set_cons_succ]
      refine held_skip (i := 31) (oi := isO31) rfl (by kernel_rfl) (by kernel_rfl) (by kernel_rfl) (fun _ _ _ h => h) (by rfl) (by assumption) ?_
      try simp only [Act.put, isO31, List.setIfInBounds_toArray, List.set_cons_zero, List.set_cons_succ]
      refine wpAnyH_take (i := 32) (oi := isO32) (v := .bool false) rfl (by kernel_rfl) (by kernel_rfl) (by kernel_rfl) (fun _ _ _ h => h) (Or.inl ⟨by rfl, ?_⟩) (by assumption) ?_
      · intro w8 hS8
        (try dsimp only at hS8)
        dsimp only [isO32]
        (first | (go_simp; done) | (go_simp; simp_all; done) | (simp_all [go_sem]; done))
      try simp only [Act.put, isO32, List.setIfInBounds_toArray, List.set_cons_zero, List.set_cons_succ]
      refine wpAnyH_take (i := 33) (oi := isO33) (v := .bool false) rfl (by kernel_rfl) (by kernel_rfl) (by kernel_rfl) (fun _ _ _ h => h) (Or.inl ⟨by rfl, ?_⟩) (by assumption) ?_
      · intro w8 hS8
        (try dsimp only at hS8)
        dsimp only [isO33]
        (first | (go_simp; done) | (go_simp; simp_all; done) | (simp_all [go_sem]; done))
      try simp only [Act.put, isO33, List.setIfInBounds_toArray, List.set_cons_zero, List.set_cons_succ]
      refine held_skip (i := 34) (oi := isO34) rfl (by kernel_rfl) (by kernel_rfl) (by kernel_rfl) (fun _ _ _ h => h) (by rfl) (by assumption) ?_
      try simp only [Act.put, isO34, List.setIfInBounds_toArray, List.set_cons_zero, List.set_cons_succ]
      refine held_skip (i := 35) (oi := isO35) rfl (by kernel_rfl) (by kernel_rfl) (by kernel_rfl) (fun _ _ _ h => h) (by rfl) (by assumption) ?_
      try simp only [Act.put, isO35, List.setIfInBounds_toArray, List.set_cons_zero, List.set_cons_succ]
      refine held_skip (i := 36) (oi := isO36) rfl (by kernel_rfl) (by kernel_rfl) (by kernel_rfl) (fun _ _ _ h => h) (by rfl) (by assumption) ?_
      try simp only [Act.put, isO36, List.setIfInBounds_toArray, List.set_cons_zero, List.set_cons_succ]
      refine wpAnyH_take (i := 37) (oi := isO37) (v := .bool false) rfl (by kernel_rfl) (by kernel_rfl) (by kernel_rfl) (fun _ _ _ h => h) (Or.inl ⟨by rfl, ?_⟩) (by assumption) ?_
      · intro w8 hS8
        (try dsimp only at hS8)
        dsimp only [isO37]
        (first | (go_simp; done) | (go_simp; simp_all; done) | (simp_all [go_sem]; done))
      try simp only [Act.put, isO37, List.setIfInBounds_toArray, List.set_cons_zero, List.set_cons_succ]
      refine wpAnyH_take (i := 38) (oi := isO38) (v := .bool false) rfl (by kernel_rfl) (by kernel_rfl) (by kernel_rfl) (fun _ _ _ h => h) (Or.inl ⟨by rfl, ?_⟩) (by assumption) ?_
      · intro w8 hS8
        (try dsimp only at hS8)
        dsimp only [isO38]
        (first | (go_simp; done) | (go_simp; simp_all; done) | (simp_all [go_sem]; done))
      try simp only [Act.put, isO38, List.setIfInBounds_toArray, List.set_cons_zero, List.set_cons_succ]
      refine wpAnyH_done (by kernel_rfl) ?_ _

      have KE := KQ.out.step (kn7_b hH1)
      go_wp2
      go_ret
      exact ⟨by rw [AN.out]; rfl, KE.1⟩
    · skip
      have HO := Lib.hid (hgB_of H2.out.symm)
      have HTS := Lib.hid (show t = hsum l from HT.out.trans (totH_of HO.out))
      have ht : t ≤ 99 := by rw [HTS.out]; exact HO.out.2.2
      by_cases h3 : c = t
      · skip
        have q3 : (c == t) = true := beq_iff_eq.2 h3
        by_cases hu0 : 0 ≤ u
        · skip
          have e0 : decide (0 ≤ u) = true := decide_eq_true hu0
          by_cases hu1 : u ≤ c
          · skip
            have e1 : decide (u ≤ c) = true := decide_eq_true hu1
            have SPO := Lib.hid (fun w => impl_spOf b c u mn mx sm (.slice ao n cap) w hu0 hu1 (by omega))
            obtain ⟨k, hk⟩ : ∃ k, k = c - u := ⟨_, rfl⟩
            rw [← hk] at SPO
            have hk0 : 0 ≤ k := by omega
            have hk1 : k ≤ 99 := by omega
            have SPV := fun w => impl_spV k mn mx sm w hk0 hk1
            obtain ⟨q5, hq5⟩ : ∃ q, q = spB ⟨k, mn, mx, sm⟩ := ⟨_, rfl⟩
            simp only [← hq5] at SPV
            have HSPV := Lib.hid SPV
            have AN := Lib.hid (show smB S = q5 by
              rw [hq5]
              by_cases hp : SpOk ⟨k, mn, mx, sm⟩
              · rw [spB_true hp]
                exact smB_true (by rw [HS.out]; exact ⟨HB.out, HO.out, h3.trans HTS.out, ⟨hu0, hu1⟩, by unfold Sm.sp; simp only; rw [← hk]; exact hp⟩)
              · rw [spB_false hp]
                exact smB_false (fun h => hp (by have h9 := h.2.2.2.2; rw [HS.out] at h9; unfold Sm.sp at h9; simp only at h9; rw [← hk] at h9; exact h9)))
            clear hk hq5 SPV h3 ht hk0 hk1 hu0 hu1
            go_enter Try.func60, Try.ntmps60
            have K0 := (Kept.start w).alloc7 (.int .i64 b) (.int .i64 c) (.int .i64 u) (.int .i64 mn) (.int .i64 mx) (.int .i64 sm) (.slice ao n cap) 77 _ rfl
            go_upto_region 1 with fail
            obtain ⟨w1, hw1⟩ : ∃ w1, w1 = w.alloc (.cells #[.int .i64 b, .int .i64 c, .int .i64 u, .int .i64 mn, .int .i64 mx, .int .i64 sm, .slice ao n cap] 77) := ⟨_, rfl⟩
            rw [← hw1] at K0 ⊢
            clear hw1
            have KQ := Lib.hid K0
            have HQ := Lib.hid (HV.out.below K0.1)
            clear K0
            refine wp_region_held_drew (S := fun w' => w'.cell? ⟨w.heap.size, 0, none⟩ = some (.int .i64 b) ∧ w'.cell? ⟨w.heap.size, 1, none⟩ = some (.int .i64 c) ∧ w'.cell? ⟨w.heap.size, 2, none⟩ = some (.int .i64 u) ∧ w'.cell? ⟨w.heap.size, 3, none⟩ = some (.int .i64 mn) ∧ w'.cell? ⟨w.heap.size, 4, none⟩ = some (.int .i64 mx) ∧ w'.cell? ⟨w.heap.size, 5, none⟩ = some (.int .i64 sm) ∧ w'.cell? ⟨w.heap.size, 6, none⟩ = some (.slice ao n cap) ∧ Below w1.heap.size w1 w') (by kernel_rfl) (kn7_at KQ.out (Below.refl _ _).drew) (fun hHeld => ?_)
            refine wpAnyH_take (i := 0) (oi := isO0) (v := .pointer (some ⟨w.heap.size, 0, none⟩)) rfl (by kernel_rfl) (by kernel_rfl) (by kernel_rfl) (fun _ _ _ h => h) (Or.inl ⟨by rfl, ?_⟩) (by assumption) ?_
            · intro w8 hS8
              (try dsimp only at hS8)
              dsimp only [isO0]
              (first | (go_simp; done) | (go_simp; simp_all; done) | (simp_all [go_sem]; done))
            try simp only [Act.put, isO0, List.setIfInBounds_toArray, List.set_cons_zero, List.set_cons_succ]
            refine wpAnyH_take (i := 1) (oi := isO1) (v := .int .i64 b) rfl (by kernel_rfl) (by kernel_rfl) (by kernel_rfl) (fun _ _ _ h => h) (Or.inl ⟨by rfl, ?_⟩) (by assumption) ?_
            · intro w8 hS8
              (try dsimp only at hS8)
              dsimp only [isO1]
              (first | (go_simp; done) | (go_simp; simp_all; done) | (simp_all [go_sem]; done))
            try simp only [Act.put, isO1, List.setIfInBounds_toArray, List.set_cons_zero, List.set_cons_succ]
            refine wpAnyH_take (i := 2) (oi := isO2) (v := .bool true) rfl (by kernel_rfl) (by kernel_rfl) (by kernel_rfl) (fun _ _ _ h => h) (Or.inl ⟨by rfl, ?_⟩) (by assumption) ?_
            · intro w8 hS8
              (try dsimp only at hS8)
              dsimp only [isO2]
              (first | (go_simp; done) | (go_simp; simp_all; done) | (simp_all [go_sem]; done))
            try simp only [Act.put, isO2, List.setIfInBounds_toArray, List.set_cons_zero, List.set_cons_succ]
            refine wpAnyH_take (i := 3) (oi := isO3) (v := .bool true) rfl (by kernel_rfl) (by kernel_rfl) (by kernel_rfl) (fun _ _ _ h => h) (Or.inl ⟨by rfl, ?_⟩) (by assumption) ?_
            · intro w8 hS8
              (try dsimp only at hS8)
              dsimp only [isO3]
              (first | (go_simp; done) | (go_simp; simp_all; done) | (simp_all [go_sem]; done))
            try simp only [Act.put, isO3, List.setIfInBounds_toArray, List.set_cons_zero, List.set_cons_succ]
            refine held_skip (i := 4) (oi := isO4) rfl (by kernel_rfl) (by kernel_rfl) (by kernel_rfl) (fun _ _ _ h => h) (by rfl) (by assumption) ?_
            try simp only [Act.put, isO4, List.setIfInBounds_toArray, List.set_cons_zero, List.set_cons_succ]
            refine held_skip (i := 5) (oi := isO5) rfl (by kernel_rfl) (by kernel_rfl) (by kernel_rfl) (fun _ _ _ h => h) (by rfl) (by assumption) ?_
            try simp only [Act.put, isO5, List.setIfInBounds_toArray, List.set_cons_zero, List.set_cons_succ]
            refine held_skip (i := 6) (oi := isO6) rfl (by kernel_rfl) (by kernel_rfl) (by kernel_rfl) (fun _ _ _ h => h) (by rfl) (by assumption) ?_
            try simp only [Act.put, isO6, List.setIfInBounds_toArray, List.set_cons_zero, List.set_cons_succ]
            refine wpAnyH_take (i := 7) (oi := isO7) (v := .bool true) rfl (by kernel_rfl) (by kernel_rfl) (by kernel_rfl) (fun _ _ _ h => h) (Or.inl ⟨by rfl, ?_⟩) (by assumption) ?_
            · intro w8 hS8
              (try dsimp only at hS8)
              dsimp only [isO7]
              (first | (go_simp; done) | (go_simp; simp_all; done) | (simp_all [go_sem]; done))
            try simp only [Act.put, isO7, List.setIfInBounds_toArray, List.set_cons_zero, List.set_cons_succ]
            refine wpAnyH_take (i := 8) (oi := isO8) (v := .bool true) rfl (by kernel_rfl) (by kernel_rfl) (by kernel_rfl) (fun _ _ _ h => h) (Or.inl ⟨by rfl, ?_⟩) (by assumption) ?_
            · intro w8 hS8
              (try dsimp only at hS8)
              dsimp only [isO8]
              (first | (go_simp; done) | (go_simp; simp_all; done) | (simp_all [go_sem]; done))
            try simp only [Act.put, isO8, List.setIfInBounds_toArray, List.set_cons_zero, List.set_cons_succ]
            refine wpAnyH_take (i := 9) (oi := isO9) (v := .pointer (some ⟨w.heap.size, 6, none⟩)) rfl (by kernel_rfl) (by kernel_rfl) (by kernel_rfl) (fun _ _ _ h => h) (Or.inl ⟨by rfl, ?_⟩) (by assumption) ?_
            · intro w8 hS8
              (try dsimp only at hS8)
              dsimp only [isO9]
              (first | (go_simp; done) | (go_simp; simp_all; done) | (simp_all [go_sem]; done))
            try simp only [Act.put, isO9, List.setIfInBounds_toArray, List.set_cons_zero, List.set_cons_succ]
            refine wpAnyH_take (i := 10) (oi := isO10) (v := .slice ao n cap) rfl (by kernel_rfl) (by kernel_rfl) (by kernel_rfl) (fun _ _ _ h => h) (Or.inl ⟨by rfl, ?_⟩) (by assumption) ?_
            · intro w8 hS8
              (try dsimp only at hS8)
              dsimp only [isO10]
              (first | (go_simp; done) | (go_simp; simp_all; done) | (simp_all [go_sem]; done))
            try simp only [Act.put, isO10, List.setIfInBounds_toArray, List.set_cons_zero, List.set_cons_succ]
            refine wpAnyH_ready (rs := [11]) (by kernel_rfl) (by simp) ?_
            refine AllReadyH.cons (o := isO11) rfl (fun K hK => ?_) AllReadyH.nil
            dsimp only [isO11]
            go_simp
            go_at_call 37
            (with_reducible refine (DD2.out _ (HQ.out.below (kn7_b hHeld))).mono ?_)
            rintro e9 w91 ⟨rfl, hb1⟩
            refine hK.out _ _ ?_ (fun hH1 => ?_)
            · exact kn7_keep KQ.out hHeld hb1
            clear hK K
            try simp only [Act.put, isO11, List.setIfInBounds_toArray, List.set_cons_zero, List.set_cons_succ]
            refine wpAnyH_take (i := 12) (oi := isO12) (v := .bool true) rfl (by kernel_rfl) (by kernel_rfl) (by kernel_rfl) (fun _ _ _ h => h) (Or.inl ⟨by rfl, ?_⟩) (by assumption) ?_
            · intro w8 hS8
              (try dsimp only at hS8)
              dsimp only [isO12]
              (first | (go_simp; done) | (go_simp; simp_all; done) | (simp_all [go_sem]; done))
            try simp only [Act.put, isO12, List.setIfInBounds_toArray, List.set_cons_zero, List.set_cons_succ]
            refine wpAnyH_take (i := 13) (oi := isO13) (v := .bool true) rfl (by kernel_rfl) (by kernel_rfl) (by kernel_rfl) (fun _ _ _ h => h) (Or.inl ⟨by rfl, ?_⟩) (by assumption) ?_
            · intro w8 hS8
              (try dsimp only at hS8)
              dsimp only [isO13]
              (first | (go_simp; done) | (go_simp; simp_all; done) | (simp_all [go_sem]; done))
            try simp only [Act.put, isO13, List.setIfInBounds_toArray, List.set_cons_zero, List.set_cons_succ]
            refine wpAnyH_take (i := 14) (oi := isO14) (v := .pointer (some ⟨w.heap.size, 1, none⟩)) rfl (by kernel_rfl) (by kernel_rfl) (by kernel_rfl) (fun _ _ _ h => h) (Or.inl ⟨by rfl, ?_⟩) (by assumption) ?_
            · intro w8 hS8
              (try dsimp only at hS8)
              dsimp only [isO14]
              (first | (go_simp; done) | (go_simp; simp_all; done) | (simp_all [go_sem]; done))
            try simp only [Act.put, isO14, List.setIfInBounds_toArray, List.set_cons_zero, List.set_cons_succ]
            refine wpAnyH_take (i := 15) (oi := isO15) (v := .int .i64 c) rfl (by kernel_rfl) (by kernel_rfl) (by kernel_rfl) (fun _ _ _ h => h) (Or.inl ⟨by rfl, ?_⟩) (by assumption) ?_
            · intro w8 hS8
              (try dsimp only at hS8)
              dsimp only [isO15]
              (first | (go_simp; done) | (go_simp; simp_all; done) | (simp_all [go_sem]; done))
            try simp only [Act.put, isO15, List.setIfInBounds_toArray, List.set_cons_zero, List.set_cons_succ]
            refine wpAnyH_take (i := 16) (oi := isO16) (v := .pointer (some ⟨w.heap.size, 6, none⟩)) rfl (by kernel_rfl) (by kernel_rfl) (by kernel_rfl) (fun _ _ _ h => h) (Or.inl ⟨by rfl, ?_⟩) (by assumption) ?_
            · intro w8 hS8
              (try dsimp only at hS8)
              dsimp only [isO16]
              (first | (go_simp; done) | (go_simp; simp_all; done) | (simp_all [go_sem]; done))
            try simp only [Act.put, isO16, List.setIfInBounds_toArray, List.set_cons_zero, List.set_cons_succ]
            refine wpAnyH_take (i := 17) (oi := isO17) (v := .slice ao n cap) rfl (by kernel_rfl) (by kernel_rfl) (by kernel_rfl) (fun _ _ _ h => h) (Or.inl ⟨by rfl, ?_⟩) (by assumption) ?_
            · intro w8 hS8
              (try dsimp only at hS8)
              dsimp only [isO17]
              (first | (go_simp; done) | (go_simp; simp_all; done) | (simp_all [go_sem]; done))
            try simp only [Act.put, isO17, List.setIfInBounds_toArray, List.set_cons_zero, List.set_cons_succ]
            refine wpAnyH_ready (rs := [18]) (by kernel_rfl) (by simp) ?_
            refine AllReadyH.cons (o := isO18) rfl (fun K hK => ?_) AllReadyH.nil
            dsimp only [isO18]
            go_simp
            go_at_call 36
            (with_reducible refine (DD3.out _ (HQ.out.below (kn7_b hH1))).mono ?_)
            rintro e9 w92 ⟨rfl, hb2⟩
            refine hK.out _ _ ?_ (fun hH2 => ?_)
            · exact kn7_keep KQ.out hH1 hb2
            clear hK K
            try simp only [Act.put, isO18, List.setIfInBounds_toArray, List.set_cons_zero, List.set_cons_succ]
            refine wpAnyH_take (i := 19) (oi := isO19) (v := .bool true) rfl (by kernel_rfl) (by kernel_rfl) (by kernel_rfl) (fun _ _ _ h => h) (Or.inl ⟨by rfl, ?_⟩) (by assumption) ?_
            · intro w8 hS8
              (try dsimp only at hS8)
              dsimp only [isO19]
              (first | (go_simp; done) | (go_simp; simp_all; done) | (simp_all [go_sem]; done))
            try simp only [Act.put, isO19, List.setIfInBounds_toArray, List.set_cons_zero, List.set_cons_succ]
            refine wpAnyH_take (i := 20) (oi := isO20) (v := .bool true) rfl (by kernel_rfl) (by kernel_rfl) (by kernel_rfl) (fun _ _ _ h => h) (Or.inl ⟨by rfl, ?_⟩) (by assumption) ?_
            · intro w8 hS8
              (try dsimp only at hS8)
              dsimp only [isO20]
              (first | (go_simp; done) | (go_simp; simp_all; done) | (simp_all [go_sem]; done))
            try simp only [Act.put, isO20, List.setIfInBounds_toArray, List.set_cons_zero, List.set_cons_succ]
            refine wpAnyH_take (i := 21) (oi := isO21) (v := .bool true) rfl (by kernel_rfl) (by kernel_rfl) (by kernel_rfl) (fun _ _ _ h => h) (Or.inl ⟨by rfl, ?_⟩) (by assumption) ?_
            · intro w8 hS8
              (try dsimp only at hS8)
              dsimp only [isO21]
              (first | (go_simp; done) | (go_simp; simp_all; done) | (simp_all [go_sem]; done))
            try simp only [Act.put, isO21, List.setIfInBounds_toArray, List.set_cons_zero, List.set_cons_succ]
            refine wpAnyH_take (i := 22) (oi := isO22) (v := .pointer (some ⟨w.heap.size, 2, none⟩)) rfl (by kernel_rfl) (by kernel_rfl) (by kernel_rfl) (fun _ _ _ h => h) (Or.inl ⟨by rfl, ?_⟩) (by assumption) ?_
            · intro w8 hS8
              (try dsimp only at hS8)
              dsimp only [isO22]
              (first | (go_simp; done) | (go_simp; simp_all; done) | (simp_all [go_sem]; done))
            try simp only [Act.put, isO22, List.setIfInBounds_toArray, List.set_cons_zero, List.set_cons_succ]
            refine wpAnyH_take (i := 23) (oi := isO23) (v := .int .i64 u) rfl (by kernel_rfl) (by kernel_rfl) (by kernel_rfl) (fun _ _ _ h => h) (Or.inl ⟨by rfl, ?_⟩) (by assumption) ?_
            · intro w8 hS8
              (try dsimp only at hS8)
              dsimp only [isO23]
              (first | (go_simp; done) | (go_simp; simp_all; done) | (simp_all [go_sem]; done))
            try simp only [Act.put, isO23, List.setIfInBounds_toArray, List.set_cons_zero, List.set_cons_succ]
            refine wpAnyH_take (i := 24) (oi := isO24) (v := .bool true) rfl (by kernel_rfl) (by kernel_rfl) (by kernel_rfl) (fun _ _ _ h => h) (Or.inl ⟨by rfl, ?_⟩) (by assumption) ?_
            · intro w8 hS8
              (try dsimp only at hS8)
              dsimp only [isO24]
              (first | (go_simp; done) | (go_simp; simp_all; done) | (simp_all [go_sem]; done))
            try simp only [Act.put, isO24, List.setIfInBounds_toArray, List.set_cons_zero, List.set_cons_succ]
            refine wpAnyH_take (i := 25) (oi := isO25) (v := .bool true) rfl (by kernel_rfl) (by kernel_rfl) (by kernel_rfl) (fun _ _ _ h => h) (Or.inl ⟨by rfl, ?_⟩) (by assumption) ?_
            · intro w8 hS8
              (try dsimp only at hS8)
              dsimp only [isO25]
              (first | (go_simp; done) | (go_simp; simp_all; done) | (simp_all [go_sem]; done))
            try simp only [Act.put, isO25, List.setIfInBounds_toArray, List.set_cons_zero, List.set_cons_succ]
            refine wpAnyH_take (i := 26) (oi := isO26) (v := .bool true) rfl (by kernel_rfl) (by kernel_rfl) (by kernel_rfl) (fun _ _ _ h => h) (Or.inl ⟨by rfl, ?_⟩) (by assumption) ?_
            · intro w8 hS8
              (try dsimp only at hS8)
              dsimp only [isO26]
              (first | (go_simp; done) | (go_simp; simp_all; done) | (simp_all [go_sem]; done))
            try simp only [Act.put, isO26, List.setIfInBounds_toArray, List.set_cons_zero, List.set_cons_succ]
            refine wpAnyH_take (i := 27) (oi := isO27) (v := .pointer (some ⟨w.heap.size, 2, none⟩)) rfl (by kernel_rfl) (by kernel_rfl) (by kernel_rfl) (fun _ _ _ h => h) (Or.inl ⟨by rfl, ?_⟩) (by assumption) ?_
            · intro w8 hS8
              (try dsimp only at hS8)
              dsimp only [isO27]
              (first | (go_simp; done) | (go_simp; simp_all; done) | (simp_all [go_sem]; done))
            try simp only [Act.put, isO27, List.setIfInBounds_toArray, List.set_cons_zero, List.set_cons_succ]
            refine wpAnyH_take (i := 28) (oi := isO28) (v := .int .i64 u) rfl (by kernel_rfl) (by kernel_rfl) (by kernel_rfl) (fun _ _ _ h => h) (Or.inl ⟨by rfl, ?_⟩) (by assumption) ?_
            · intro w8 hS8
              (try dsimp only at hS8)
              dsimp only [isO28]
              (first | (go_simp; done) | (go_simp; simp_all; done) | (simp_all [go_sem]; done))
            try simp only [Act.put, isO28, List.setIfInBounds_toArray, List.set_cons_zero, List.set_cons_succ]
            refine wpAnyH_take (i := 29) (oi := isO29) (v := .pointer (some ⟨w.heap.size, 1, none⟩)) rfl (by kernel_rfl) (by kernel_rfl) (by kernel_rfl) (fun _ _ _ h => h) (Or.inl ⟨by rfl, ?_⟩) (by assumption) ?_
            · intro w8 hS8
              (try dsimp only at hS8)
              dsimp only [isO29]
              (first | (go_simp; done) | (go_simp; simp_all; done) | (simp_all [go_sem]; done))
            try simp only [Act.put, isO29, List.setIfInBounds_toArray, List.set_cons_zero, List.set_cons_succ]
            refine wpAnyH_take (i := 30) (oi := isO30) (v := .int .i64 c) rfl (by kernel_rfl) (by kernel_rfl) (by kernel_rfl) (fun _ _ _ h => h) (Or.inl ⟨by rfl, ?_⟩) (by assumption) ?_
            · intro w8 hS8
              (try dsimp only at hS8)
              dsimp only [isO30]
              (first | (go_simp; done) | (go_simp; simp_all; done) | (simp_all [go_sem]; done))
            try simp only [Act.put, isO30, List.setIfInBounds_toArray, List.set_cons_zero, List.set_cons_succ]
            refine wpAnyH_take (i := 31) (oi := isO31) (v := .bool true) rfl (by kernel_rfl) (by kernel_rfl) (by kernel_rfl) (fun _ _ _ h => h) (Or.inl ⟨by rfl, ?_⟩) (by assumption) ?_
            · intro w8 hS8
              (try dsimp only at hS8)
              dsimp only [isO31]
              (first | (go_simp; done) | (go_simp; simp_all; done) | (simp_all [go_sem]; done))
            try simp only [Act.put, isO31, List.setIfInBounds_toArray, List.set_cons_zero, List.set_cons_succ]
            refine wpAnyH_take (i := 32) (oi := isO32) (v := .bool true) rfl (by kernel_rfl) (by kernel_rfl) (by kernel_rfl) (fun _ _ _ h => h) (Or.inl ⟨by rfl, ?_⟩) (by assumption) ?_
            · intro w8 hS8
              (try dsimp only at hS8)
              dsimp only [isO32]
              (first | (go_simp; done) | (go_simp; simp_all; done) | (simp_all [go_sem]; done))
            try simp only [Act.put, isO32, List.setIfInBounds_toArray, List.set_cons_zero, List.set_cons_succ]
            refine wpAnyH_take (i := 33) (oi := isO33) (v := .bool true) rfl (by kernel_rfl) (by kernel_rfl) (by kernel_rfl) (fun _ _ _ h => h) (Or.inl ⟨by rfl, ?_⟩) (by assumption) ?_
            · intro w8 hS8
              (try dsimp only at hS8)
              dsimp only [isO33]
              (first | (go_simp; done) | (go_simp; simp_all; done) | (simp_all [go_sem]; done))
            try simp only [Act.put, isO33, List.setIfInBounds_toArray, List.set_cons_zero, List.set_cons_succ]
            refine wpAnyH_take (i := 34) (oi := isO34) (v := .agg #[.int .i64 b, .int .i64 c, .int .i64 u, .int .i64 mn, .int .i64 mx, .int .i64 sm, .slice ao n cap]) rfl (by kernel_rfl) (by kernel_rfl) (by kernel_rfl) (fun _ _ _ h => h) (Or.inl ⟨by rfl, ?_⟩) (by assumption) ?_
            · intro w8 hS8
              (try dsimp only at hS8)
              dsimp only [isO34]
              (first | (go_simp; done) | (go_simp; simp_all; done) | (simp_all [go_sem]; done))
            try simp only [Act.put, isO34, List.setIfInBounds_toArray, List.set_cons_zero, List.set_cons_succ]
            refine wpAnyH_ready (rs := [35]) (by kernel_rfl) (by simp) ?_
            refine AllReadyH.cons (o := isO35) rfl (fun K hK => ?_) AllReadyH.nil
            dsimp only [isO35]
            go_simp
            go_at_call 119
            (with_reducible refine (SPO.out _).mono ?_)
            rintro e9 w93 ⟨rfl, hb3⟩
            refine hK.out _ _ ?_ (fun hH3 => ?_)
            · exact kn7_keep KQ.out hH2 hb3
            clear hK K
            try simp only [Act.put, isO35, List.setIfInBounds_toArray, List.set_cons_zero, List.set_cons_succ]
            refine wpAnyH_ready (rs := [36]) (by kernel_rfl) (by simp) ?_
            refine AllReadyH.cons (o := isO36) rfl (fun K hK => ?_) AllReadyH.nil
            dsimp only [isO36]
            go_simp
            go_at_call 120
            (with_reducible refine (HSPV.out _).mono ?_)
            rintro e9 w94 ⟨rfl, hb4⟩
            refine hK.out _ _ ?_ (fun hH4 => ?_)
            · exact kn7_keep KQ.out hH3 hb4
            clear hK K
            try simp only [Act.put, isO36, List.setIfInBounds_toArray, List.set_cons_zero, List.set_cons_succ]
            refine wpAnyH_take (i := 37) (oi := isO37) (v := .bool q5) rfl (by kernel_rfl) (by kernel_rfl) (by kernel_rfl) (fun _ _ _ h => h) (Or.inl ⟨by rfl, ?_⟩) (by assumption) ?_
            · intro w8 hS8
              (try dsimp only at hS8)
              dsimp only [isO37]
              (first | (go_simp; done) | (go_simp; simp_all; done) | (simp_all [go_sem]; done))
            try simp only [Act.put, isO37, List.setIfInBounds_toArray, List.set_cons_zero, List.set_cons_succ]
            refine wpAnyH_take (i := 38) (oi := isO38) (v := .bool q5) rfl (by kernel_rfl) (by kernel_rfl) (by kernel_rfl) (fun _ _ _ h => h) (Or.inl ⟨by rfl, ?_⟩) (by assumption) ?_
            · intro w8 hS8
              (try dsimp only at hS8)
              dsimp only [isO38]
              (first | (go_simp; done) | (go_simp; simp_all; done) | (simp_all [go_sem]; done))
            try simp only [Act.put, isO38, List.setIfInBounds_toArray, List.set_cons_zero, List.set_cons_succ]
            refine wpAnyH_done (by kernel_rfl) ?_ _

            have KE := KQ.out.step (kn7_b hH4)
            go_wp2
            go_ret
            exact ⟨by rw [AN.out]; rfl, KE.1⟩
          · skip
            have e1 : decide (u ≤ c) = false := decide_eq_false hu1
            have AN := Lib.hid (show smB S = false from smB_false (fun h => hu1 (by have h9 := h.2.2.2.1.2; rw [HS.out] at h9; exact h9)))
            clear hu1 hu0 h3 ht
            go_enter Try.func60, Try.ntmps60
            have K0 := (Kept.start w).alloc7 (.int .i64 b) (.int .i64 c) (.int .i64 u) (.int .i64 mn) (.int .i64 mx) (.int .i64 sm) (.slice ao n cap) 77 _ rfl
            go_upto_region 1 with fail
            obtain ⟨w1, hw1⟩ : ∃ w1, w1 = w.alloc (.cells #[.int .i64 b, .int .i64 c, .int .i64 u, .int .i64 mn, .int .i64 mx, .int .i64 sm, .slice ao n cap] 77) := ⟨_, rfl⟩
            rw [← hw1] at K0 ⊢
            clear hw1
            have KQ := Lib.hid K0
            have HQ := Lib.hid (HV.out.below K0.1)
            clear K0
            refine wp_region_held_drew (S := fun w' => w'.cell? ⟨w.heap.size, 0, none⟩ = some (.int .i64 b) ∧ w'.cell? ⟨w.heap.size, 1, none⟩ = some (.int .i64 c) ∧ w'.cell? ⟨w.heap.size, 2, none⟩ = some (.int .i64 u) ∧ w'.cell? ⟨w.heap.size, 3, none⟩ = some (.int .i64 mn) ∧ w'.cell? ⟨w.heap.size, 4, none⟩ = some (.int .i64 mx) ∧ w'.cell? ⟨w.heap.size, 5, none⟩ = some (.int .i64 sm) ∧ w'.cell? ⟨w.heap.size, 6, none⟩ = some (.slice ao n cap) ∧ Below w1.heap.size w1 w') (by kernel_rfl) (kn7_at KQ.out (Below.refl _ _).drew) (fun hHeld => ?_)
            refine wpAnyH_take (i := 0) (oi := isO0) (v := .pointer (some ⟨w.heap.size, 0, none⟩)) rfl (by kernel_rfl) (by kernel_rfl) (by kernel_rfl) (fun _ _ _ h => h) (Or.inl ⟨by rfl, ?_⟩) (by assumption) ?_
            · intro w8 hS8
              (try dsimp only at hS8)
              dsimp only [isO0]
              (first | (go_simp; done) | (go_simp; simp_all; done) | (simp_all [go_sem]; done))
            try simp only [Act.put, isO0, List.setIfInBounds_toArray, List.set_cons_zero, List.set_cons_succ]
            refine wpAnyH_take (i := 1) (oi := isO1) (v := .int .i64 b) rfl (by kernel_rfl) (by kernel_rfl) (by kernel_rfl) (fun _ _ _ h => h) (Or.inl ⟨by rfl, ?_⟩) (by assumption) ?_
            · intro w8 hS8
              (try dsimp only at hS8)
              dsimp only [isO1]
              (first | (go_simp; done) | (go_simp; simp_all; done) | (simp_all [go_sem]; done))
            try simp only [Act.put, isO1, List.setIfInBounds_toArray, List.set_cons_zero, List.set_cons_succ]
            refine wpAnyH_take (i := 2) (oi := isO2) (v := .bool true) rfl (by kernel_rfl) (by kernel_rfl) (by kernel_rfl) (fun _ _ _ h => h) (Or.inl ⟨by rfl, ?_⟩) (by assumption) ?_
            · intro w8 hS8
              (try dsimp only at hS8)
              dsimp only [isO2]
              (first | (go_simp; done) | (go_simp; simp_all; done) | (simp_all [go_sem]; done))
            try simp only [Act.put, isO2, List.setIfInBounds_toArray, List.set_cons_zero, List.set_cons_succ]
            refine wpAnyH_take (i := 3) (oi := isO3) (v := .bool true) rfl (by kernel_rfl) (by kernel_rfl) (by kernel_rfl) (fun _ _ _ h => h) (Or.inl ⟨by rfl, ?_⟩) (by assumption) ?_
            · intro w8 hS8
              (try dsimp only at hS8)
              dsimp only [isO3]
              (first | (go_simp; done) | (go_simp; simp_all; done) | (simp_all [go_sem]; done))
            try simp only [Act.put, isO3, List.setIfInBounds_toArray, List.set_cons_zero, List.set_cons_succ]
            refine held_skip (i := 4) (oi := isO4) rfl (by kernel_rfl) (by kernel_rfl) (by kernel_rfl) (fun _ _ _ h => h) (by rfl) (by assumption) ?_
            try simp only [Act.put, isO4, List.setIfInBounds_toArray, List.set_cons_zero, List.set_cons_succ]
            refine held_skip (i := 5) (oi := isO5) rfl (by kernel_rfl) (by kernel_rfl) (by kernel_rfl) (fun _ _ _ h => h) (by rfl) (by assumption) ?_
            try simp only [Act.put, isO5, List.setIfInBounds_toArray, List.set_cons_zero, List.set_cons_succ]
            refine held_skip (i := 6) (oi := isO6) rfl (by kernel_rfl) (by kernel_rfl) (by kernel_rfl) (fun _ _ _ h => h) (by rfl) (by assumption) ?_
            try simp only [Act.put, isO6, List.setIfInBounds_toArray, List.set_cons_zero, List.set_cons_succ]
            refine wpAnyH_take (i := 7) (oi := isO7) (v := .bool true) rfl (by kernel_rfl) (by kernel_rfl) (by kernel_rfl) (fun _ _ _ h => h) (Or.inl ⟨by rfl, ?_⟩) (by assumption) ?_
            · intro w8 hS8
              (try dsimp only at hS8)
              dsimp only [isO7]
              (first | (go_simp; done) | (go_simp; simp_all; done) | (simp_all [go_sem]; done))
            try simp only [Act.put, isO7, List.setIfInBounds_toArray, List.set_cons_zero, List.set_cons_succ]
            refine wpAnyH_take (i := 8) (oi := isO8) (v := .bool true) rfl (by kernel_rfl) (by kernel_rfl) (by kernel_rfl) (fun _ _ _ h => h) (Or.inl ⟨by rfl, ?_⟩) (by assumption) ?_
            · intro w8 hS8
              (try dsimp only at hS8)
              dsimp only [isO8]
              (first | (go_simp; done) | (go_simp; simp_all; done) | (simp_all [go_sem]; done))
            try simp only [Act.put, isO8, List.setIfInBounds_toArray, List.set_cons_zero, List.set_cons_succ]
            refine wpAnyH_take (i := 9) (oi := isO9) (v := .pointer (some ⟨w.heap.size, 6, none⟩)) rfl (by kernel_rfl) (by kernel_rfl) (by kernel_rfl) (fun _ _ _ h => h) (Or.inl ⟨by rfl, ?_⟩) (by assumption) ?_
            · intro w8 hS8
              (try dsimp only at hS8)
              dsimp only [isO9]
              (first | (go_simp; done) | (go_simp; simp_all; done) | (simp_all [go_sem]; done))
            try simp only [Act.put, isO9, List.setIfInBounds_toArray, List.set_cons_zero, List.set_cons_succ]
            refine wpAnyH_take (i := 10) (oi := isO10) (v := .slice ao n cap) rfl (by kernel_rfl) (by kernel_rfl) (by kernel_rfl) (fun _ _ _ h => h) (Or.inl ⟨by rfl, ?_⟩) (by assumption) ?_
            · intro w8 hS8
              (try dsimp only at hS8)
              dsimp only [isO10]
              (first | (go_simp; done) | (go_simp; simp_all; done) | (simp_all [go_sem]; done))
            try simp only [Act.put, isO10, List.setIfInBounds_toArray, List.set_cons_zero, List.set_cons_succ]
            refine wpAnyH_ready (rs := [11]) (by kernel_rfl) (by simp) ?_
            refine AllReadyH.cons (o := isO11) rfl (fun K hK => ?_) AllReadyH.nil
            dsimp only [isO11]
            go_simp
            go_at_call 37
            (with_reducible refine (DD2.out _ (HQ.out.below (kn7_b hHeld))).mono ?_)
            rintro e9 w91 ⟨rfl, hb1⟩
            refine hK.out _ _ ?_ (fun hH1 => ?_)
            · exact kn7_keep KQ.out hHeld hb1
            clear hK K
            try simp only [Act.put, isO11, List.setIfInBounds_toArray, List.set_cons_zero, List.set_cons_succ]
            refine wpAnyH_take (i := 12) (oi := isO12) (v := .bool true) rfl (by kernel_rfl) (by kernel_rfl) (by kernel_rfl) (fun _ _ _ h => h) (Or.inl ⟨by rfl, ?_⟩) (by assumption) ?_
            · intro w8 hS8
              (try dsimp only at hS8)
              dsimp only [isO12]
              (first | (go_simp; done) | (go_simp; simp_all; done) | (simp_all [go_sem]; done))
            try simp only [Act.put, isO12, List.setIfInBounds_toArray, List.set_cons_zero, List.set_cons_succ]
            refine wpAnyH_take (i := 13) (oi := isO13) (v := .bool true) rfl (by kernel_rfl) (by kernel_rfl) (by kernel_rfl) (fun _ _ _ h => h) (Or.inl ⟨by rfl, ?_⟩) (by assumption) ?_
            · intro w8 hS8
              (try dsimp only at hS8)
              dsimp only [isO13]
              (first | (go_simp; done) | (go_simp; simp_all; done) | (simp_all [go_sem]; done))
            try simp only [Act.put, isO13, List.setIfInBounds_toArray, List.set_cons_zero, List.set_cons_succ]
            refine wpAnyH_take (i := 14) (oi := isO14) (v := .pointer (some ⟨w.heap.size, 1, none⟩)) rfl (by kernel_rfl) (by kernel_rfl) (by kernel_rfl) (fun _ _ _ h => h) (Or.inl ⟨by rfl, ?_⟩) (by assumption) ?_
            · intro w8 hS8
              (try dsimp only at hS8)
              dsimp only [isO14]
              (first | (go_simp; done) | (go_simp; simp_all; done) | (simp_all [go_sem]; done))
            try simp only [Act.put, isO14, List.setIfInBounds_toArray, List.set_cons_zero, List.set_cons_succ]
            refine wpAnyH_take (i := 15) (oi := isO15) (v := .int .i64 c) rfl (by kernel_rfl) (by kernel_rfl) (by kernel_rfl) (fun _ _ _ h => h) (Or.inl ⟨by rfl, ?_⟩) (by assumption) ?_
            · intro w8 hS8
              (try dsimp only at hS8)
              dsimp only [isO15]
              (first | (go_simp; done) | (go_simp; simp_all; done) | (simp_all [go_sem]; done))
            try simp only [Act.put, isO15, List.setIfInBounds_toArray, List.set_cons_zero, List.set_cons_succ]
            refine wpAnyH_take (i := 16) (oi := isO16) (v := .pointer (some ⟨w.heap.size, 6, none⟩)) rfl (by kernel_rfl) (by kernel_rfl) (by kernel_rfl) (fun _ _ _ h => h) (Or.inl ⟨by rfl, ?_⟩) (by assumption) ?_
            · intro w8 hS8
              (try dsimp only at hS8)
              dsimp only [isO16]
              (first | (go_simp; done) | (go_simp; simp_all; done) | (simp_all [go_sem]; done))
            try simp only [Act.put, isO16, List.setIfInBounds_toArray, List.set_cons_zero, List.set_cons_succ]
            refine wpAnyH_take (i := 17) (oi := isO17) (v := .slice ao n cap) rfl (by kernel_rfl) (by kernel_rfl) (by kernel_rfl) (fun _ _ _ h => h) (Or.inl ⟨by rfl, ?_⟩) (by assumption) ?_
            · intro w8 hS8
              (try dsimp only at hS8)
              dsimp only [isO17]
              (first | (go_simp; done) | (go_simp; simp_all; done) | (simp_all [go_sem]; done))
            try simp only [Act.put, isO17, List.setIfInBounds_toArray, List.set_cons_zero, List.set_cons_succ]
            refine wpAnyH_ready (rs := [18]) (by kernel_rfl) (by simp) ?_
            refine AllReadyH.cons (o := isO18) rfl (fun K hK => ?_) AllReadyH.nil
            dsimp only [isO18]
            go_simp
            go_at_call 36
            (with_reducible refine (DD3.out _ (HQ.out.below (kn7_b hH1))).mono ?_)
            rintro e9 w92 ⟨rfl, hb2⟩
            refine hK.out _ _ ?_ (fun hH2 => ?_)
            · exact kn7_keep KQ.out hH1 hb2
            clear hK K
            try simp only [Act.put, isO18, List.setIfInBounds_toArray, List.set_cons_zero, List.set_cons_succ]
            refine wpAnyH_take (i := 19) (oi := isO19) (v := .bool true) rfl (by kernel_rfl) (by kernel_rfl) (by kernel_rfl) (fun _ _ _ h => h) (Or.inl ⟨by rfl, ?_⟩) (by assumption) ?_
            · intro w8 hS8
              (try dsimp only at hS8)
              dsimp only [isO19]
              (first | (go_simp; done) | (go_simp; simp_all; done) | (simp_all [go_sem]; done))
            try simp only [Act.put, isO19, List.setIfInBounds_toArray, List.set_cons_zero, List.set_cons_succ]
            refine wpAnyH_take (i := 20) (oi := isO20) (v := .bool true) rfl (by kernel_rfl) (by kernel_rfl) (by kernel_rfl) (fun _ _ _ h => h) (Or.inl ⟨by rfl, ?_⟩) (by assumption) ?_
            · intro w8 hS8
              (try dsimp only at hS8)
              dsimp only [isO20]
              (first | (go_simp; done) | (go_simp; simp_all; done) | (simp_all [go_sem]; done))
            try simp only [Act.put, isO20, List.setIfInBounds_toArray, List.set_cons_zero, List.set_cons_succ]
            refine wpAnyH_take (i := 21) (oi := isO21) (v := .bool true) rfl (by kernel_rfl) (by kernel_rfl) (by kernel_rfl) (fun _ _ _ h => h) (Or.inl ⟨by rfl, ?_⟩) (by assumption) ?_
            · intro w8 hS8
              (try dsimp only at hS8)
              dsimp only [isO21]
              (first | (go_simp; done) | (go_simp; simp_all; done) | (simp_all [go_sem]; done))
            try simp only [Act.put, isO21, List.setIfInBounds_toArray, List.set_cons_zero, List.set_cons_succ]
            refine wpAnyH_take (i := 22) (oi := isO22) (v := .pointer (some ⟨w.heap.size, 2, none⟩)) rfl (by kernel_rfl) (by kernel_rfl) (by kernel_rfl) (fun _ _ _ h => h) (Or.inl ⟨by rfl, ?_⟩) (by assumption) ?_
            · intro w8 hS8
              (try dsimp only at hS8)
              dsimp only [isO22]
              (first | (go_simp; done) | (go_simp; simp_all; done) | (simp_all [go_sem]; done))
            try simp only [Act.put, isO22, List.setIfInBounds_toArray, List.set_cons_zero, List.set_cons_succ]
            refine wpAnyH_take (i := 23) (oi := isO23) (v := .int .i64 u) rfl (by kernel_rfl) (by kernel_rfl) (by kernel_rfl) (fun _ _ _ h => h) (Or.inl ⟨by rfl, ?_⟩) (by assumption) ?_
            · intro w8 hS8
              (try dsimp only at hS8)
              dsimp only [isO23]
              (first | (go_simp; done) | (go_simp; simp_all; done) | (simp_all [go_sem]; done))
            try simp only [Act.put, isO23, List.setIfInBounds_toArray, List.set_cons_zero, List.set_cons_succ]
            refine wpAnyH_take (i := 24) (oi := isO24) (v := .bool true) rfl (by kernel_rfl) (by kernel_rfl) (by kernel_rfl) (fun _ _ _ h => h) (Or.inl ⟨by rfl, ?_⟩) (by assumption) ?_
            · intro w8 hS8
              (try dsimp only at hS8)
              dsimp only [isO24]
              (first | (go_simp; done) | (go_simp; simp_all; done) | (simp_all [go_sem]; done))
            try simp only [Act.put, isO24, List.setIfInBounds_toArray, List.set_cons_zero, List.set_cons_succ]
            refine wpAnyH_take (i := 25) (oi := isO25) (v := .bool true) rfl (by kernel_rfl) (by kernel_rfl) (by kernel_rfl) (fun _ _ _ h => h) (Or.inl ⟨by rfl, ?_⟩) (by assumption) ?_
            · intro w8 hS8
              (try dsimp only at hS8)
              dsimp only [isO25]
              (first | (go_simp; done) | (go_simp; simp_all; done) | (simp_all [go_sem]; done))
            try simp only [Act.put, isO25, List.setIfInBounds_toArray, List.set_cons_zero, List.set_cons_succ]
            refine wpAnyH_take (i := 26) (oi := isO26) (v := .bool true) rfl (by kernel_rfl) (by kernel_rfl) (by kernel_rfl) (fun _ _ _ h => h) (Or.inl ⟨by rfl, ?_⟩) (by assumption) ?_
            · intro w8 hS8
              (try dsimp only at hS8)
              dsimp only [isO26]
              (first | (go_simp; done) | (go_simp; simp_all; done) | (simp_all [go_sem]; done))
            try simp only [Act.put, isO26, List.setIfInBounds_toArray, List.set_cons_zero, List.set_cons_succ]
            refine wpAnyH_take (i := 27) (oi := isO27) (v := .pointer (some ⟨w.heap.size, 2, none⟩)) rfl (by kernel_rfl) (by kernel_rfl) (by kernel_rfl) (fun _ _ _ h => h) (Or.inl ⟨by rfl, ?_⟩) (by assumption) ?_
            · intro w8 hS8
              (try dsimp only at hS8)
              dsimp only [isO27]
              (first | (go_simp; done) | (go_simp; simp_all; done) | (simp_all [go_sem]; done))
            try simp only [Act.put, isO27, List.setIfInBounds_toArray, List.set_cons_zero, List.set_cons_succ]
            refine wpAnyH_take (i := 28) (oi := isO28) (v := .int .i64 u) rfl (by kernel_rfl) (by kernel_rfl) (by kernel_rfl) (fun _ _ _ h => h) (Or.inl ⟨by rfl, ?_⟩) (by assumption) ?_
            · intro w8 hS8
              (try dsimp only at hS8)
              dsimp only [isO28]
              (first | (go_simp; done) | (go_simp; simp_all; done) | (simp_all [go_sem]; done))
            try simp only [Act.put, isO28, List.setIfInBounds_toArray, List.set_cons_zero, List.set_cons_succ]
            refine wpAnyH_take (i := 29) (oi := isO29) (v := .pointer (some ⟨w.heap.size, 1, none⟩)) rfl (by kernel_rfl) (by kernel_rfl) (by kernel_rfl) (fun _ _ _ h => h) (Or.inl ⟨by rfl, ?_⟩) (by assumption) ?_
            · intro w8 hS8
              (try dsimp only at hS8)
              dsimp only [isO29]
              (first | (go_simp; done) | (go_simp; simp_all; done) | (simp_all [go_sem]; done))
            try simp only [Act.put, isO29, List.setIfInBounds_toArray, List.set_cons_zero, List.set_cons_succ]
            refine wpAnyH_take (i := 30) (oi := isO30) (v := .int .i64 c) rfl (by kernel_rfl) (by kernel_rfl) (by kernel_rfl) (fun _ _ _ h => h) (Or.inl ⟨by rfl, ?_⟩) (by assumption) ?_
            · intro w8 hS8
              (try dsimp only at hS8)
              dsimp only [isO30]
              (first | (go_simp; done) | (go_simp; simp_all; done) | (simp_all [go_sem]; done))
            try simp only [Act.put, isO30, List.setIfInBounds_toArray, List.set_cons_zero, List.set_cons_succ]
            refine wpAnyH_take (i := 31) (oi := isO31) (v := .bool false) rfl (by kernel_rfl) (by kernel_rfl) (by kernel_rfl) (fun _ _ _ h => h) (Or.inl ⟨by rfl, ?_⟩) (by assumption) ?_
            · intro w8 hS8
              (try dsimp only at hS8)
              dsimp only [isO31]
              (first | (go_simp; done) | (go_simp; simp_all; done) | (simp_all [go_sem]; done))
            try simp only [Act.put, isO31, List.setIfInBounds_toArray, List.set_cons_zero, List.set_cons_succ]
            refine wpAnyH_take (i := 32) (oi := isO32) (v := .bool false) rfl (by kernel_rfl) (by kernel_rfl) (by kernel_rfl) (fun _ _ _ h => h) (Or.inl ⟨by rfl, ?_⟩) (by assumption) ?_
            · intro w8 hS8
              (try dsimp only at hS8)
              dsimp only [isO32]
              (first | (go_simp; done) | (go_simp; simp_all; done) | (simp_all [go_sem]; done))
            try simp only [Act.put, isO32, List.setIfInBounds_toArray, List.set_cons_zero, List.set_cons_succ]
            refine wpAnyH_take (i := 33) (oi := isO33) (v := .bool false) rfl (by kernel_rfl) (by kernel_rfl) (by kernel_rfl) (fun _ _ _ h => h) (Or.inl ⟨by rfl, ?_⟩) (by assumption) ?_
            · intro w8 hS8
              (try dsimp only at hS8)
              dsimp only [isO33]
              (first | (go_simp; done) | (go_simp; simp_all; done) | (simp_all [go_sem]; done))
            try simp only [Act.put, isO33, List.setIfInBounds_toArray, List.set_cons_zero, List.set_cons_succ]
            refine held_skip (i := 34) (oi := isO34) rfl (by kernel_rfl) (by kernel_rfl) (by kernel_rfl) (fun _ _ _ h => h) (by rfl) (by assumption) ?_
            try simp only [Act.put, isO34, List.setIfInBounds_toArray, List.set_cons_zero, List.set_cons_succ]
            refine held_skip (i := 35) (oi := isO35) rfl (by kernel_rfl) (by kernel_rfl) (by kernel_rfl) (fun _ _ _ h => h) (by rfl) (by assumption) ?_
            try simp only [Act.put, isO35, List.setIfInBounds_toArray, List.set_cons_zero, List.set_cons_succ]
            refine held_skip (i := 36) (oi := isO36) rfl (by kernel_rfl) (by kernel_rfl) (by kernel_rfl) (fun _ _ _ h => h) (by rfl) (by assumption) ?_
            try simp only [Act.put, isO36, List.setIfInBounds_toArray, List.set_cons_zero, List.set_cons_succ]
            refine wpAnyH_take (i := 37) (oi := isO37) (v := .bool false) rfl (by kernel_rfl) (by kernel_rfl) (by kernel_rfl) (fun _ _ _ h => h) (Or.inl ⟨by rfl, ?_⟩) (by assumption) ?_
            · intro w8 hS8
              (try dsimp only at hS8)
              dsimp only [isO37]
              (first | (go_simp; done) | (go_simp; simp_all; done) | (simp_all [go_sem]; done))
            try simp only [Act.put, isO37, List.setIfInBounds_toArray, List.set_cons_zero, List.set_cons_succ]
            refine wpAnyH_take (i := 38) (oi := isO38) (v := .bool false) rfl (by kernel_rfl) (by kernel_rfl) (by kernel_rfl) (fun _ _ _ h => h) (Or.inl ⟨by rfl, ?_⟩) (by assumption) ?_
            · intro w8 hS8
              (try dsimp only at hS8)
              dsimp only [isO38]
              (first | (go_simp; done) | (go_simp; simp_all; done) | (simp_all [go_sem]; done))
            try simp only [Act.put, isO38, List.setIfInBounds_toArray, List.set_cons_zero, List.set_cons_succ]
            refine wpAnyH_done (by kernel_rfl) ?_ _

            have KE := KQ.out.step (kn7_b hH2)
            go_wp2
            go_ret
            exact ⟨by rw [AN.out]; rfl, KE.1⟩
        · skip
          have e0 : decide (0 ≤ u) = false := decide_eq_false hu0
          have AN := Lib.hid (show smB S = false from smB_false (fun h => hu0 (by have h9 := h.2.2.2.1.1; rw [HS.out] at h9; exact h9)))
          clear hu0 h3 ht
          go_enter Try.func60, Try.ntmps60
          have K0 := (Kept.start w).alloc7 (.int .i64 b) (.int .i64 c) (.int .i64 u) (.int .i64 mn) (.int .i64 mx) (.int .i64 sm) (.slice ao n cap) 77 _ rfl
          go_upto_region 1 with fail
          obtain ⟨w1, hw1⟩ : ∃ w1, w1 = w.alloc (.cells #[.int .i64 b, .int .i64 c, .int .i64 u, .int .i64 mn, .int .i64 mx, .int .i64 sm, .slice ao n cap] 77) := ⟨_, rfl⟩
          rw [← hw1] at K0 ⊢
          clear hw1
          have KQ := Lib.hid K0
          have HQ := Lib.hid (HV.out.below K0.1)
          clear K0
          refine wp_region_held_drew (S := fun w' => w'.cell? ⟨w.heap.size, 0, none⟩ = some (.int .i64 b) ∧ w'.cell? ⟨w.heap.size, 1, none⟩ = some (.int .i64 c) ∧ w'.cell? ⟨w.heap.size, 2, none⟩ = some (.int .i64 u) ∧ w'.cell? ⟨w.heap.size, 3, none⟩ = some (.int .i64 mn) ∧ w'.cell? ⟨w.heap.size, 4, none⟩ = some (.int .i64 mx) ∧ w'.cell? ⟨w.heap.size, 5, none⟩ = some (.int .i64 sm) ∧ w'.cell? ⟨w.heap.size, 6, none⟩ = some (.slice ao n cap) ∧ Below w1.heap.size w1 w') (by kernel_rfl) (kn7_at KQ.out (Below.refl _ _).drew) (fun hHeld => ?_)
          refine wpAnyH_take (i := 0) (oi := isO0) (v := .pointer (some ⟨w.heap.size, 0, none⟩)) rfl (by kernel_rfl) (by kernel_rfl) (by kernel_rfl) (fun _ _ _ h => h) (Or.inl ⟨by rfl, ?_⟩) (by assumption) ?_
          · intro w8 hS8
            (try dsimp only at hS8)
            dsimp only [isO0]
            (first | (go_simp; done) | (go_simp; simp_all; done) | (simp_all [go_sem]; done))
          try simp only [Act.put, isO0, List.setIfInBounds_toArray, List.set_cons_zero, List.set_cons_succ]
          refine wpAnyH_take (i := 1) (oi := isO1) (v := .int .i64 b) rfl (by kernel_rfl) (by kernel_rfl) (by kernel_rfl) (fun _ _ _ h => h) (Or.inl ⟨by rfl, ?_⟩) (by assumption) ?_
          · intro w8 hS8
            (try dsimp only at hS8)
            dsimp only [isO1]
            (first | (go_simp; done) | (go_simp; simp_all; done) | (simp_all [go_sem]; done))
          try simp only [Act.put, isO1, List.setIfInBounds_toArray, List.set_cons_zero, List.set_cons_succ]
          refine wpAnyH_take (i := 2) (oi := isO2) (v := .bool true) rfl (by kernel_rfl) (by kernel_rfl) (by kernel_rfl) (fun _ _ _ h => h) (Or.inl ⟨by rfl, ?_⟩) (by assumption) ?_
          · intro w8 hS8
            (try dsimp only at hS8)
            dsimp only [isO2]
            (first | (go_simp; done) | (go_simp; simp_all; done) | (simp_all [go_sem]; done))
          try simp only [Act.put, isO2, List.setIfInBounds_toArray, List.set_cons_zero, List.set_cons_succ]
          refine wpAnyH_take (i := 3) (oi := isO3) (v := .bool true) rfl (by kernel_rfl) (by kernel_rfl) (by kernel_rfl) (fun _ _ _ h => h) (Or.inl ⟨by rfl, ?_⟩) (by assumption) ?_
          · intro w8 hS8
            (try dsimp only at hS8)
            dsimp only [isO3]
            (first | (go_simp; done) | (go_simp; simp_all; done) | (simp_all [go_sem]; done))
          try simp only [Act.put, isO3, List.setIfInBounds_toArray, List.set_cons_zero, List.set_cons_succ]
          refine held_skip (i := 4) (oi := isO4) rfl (by kernel_rfl) (by kernel_rfl) (by kernel_rfl) (fun _ _ _ h => h) (by rfl) (by assumption) ?_
          try simp only [Act.put, isO4, List.setIfInBounds_toArray, List.set_cons_zero, List.set_cons_succ]
          refine held_skip (i := 5) (oi := isO5) rfl (by kernel_rfl) (by kernel_rfl) (by kernel_rfl) (fun _ _ _ h => h) (by rfl) (by assumption) ?_
          try simp only [Act.put, isO5, List.setIfInBounds_toArray, List.set_cons_zero, List.set_cons_succ]
          refine held_skip (i := 6) (oi := isO6) rfl (by kernel_rfl) (by kernel_rfl) (by kernel_rfl) (fun _ _ _ h => h) (by rfl) (by assumption) ?_
          try simp only [Act.put, isO6, List.setIfInBounds_toArray, List.set_cons_zero, List.set_cons_succ]
          refine wpAnyH_take (i := 7) (oi := isO7) (v := .bool true) rfl (by kernel_rfl) (by kernel_rfl) (by kernel_rfl) (fun _ _ _ h => h) (Or.inl ⟨by rfl, ?_⟩) (by assumption) ?_
          · intro w8 hS8
            (try dsimp only at hS8)
            dsimp only [isO7]
            (first | (go_simp; done) | (go_simp; simp_all; done) | (simp_all [go_sem]; done))
          try simp only [Act.put, isO7, List.setIfInBounds_toArray, List.set_cons_zero, List.set_cons_succ]
          refine wpAnyH_take (i := 8) (oi := isO8) (v := .bool true) rfl (by kernel_rfl) (by kernel_rfl) (by kernel_rfl) (fun _ _ _ h => h) (Or.inl ⟨by rfl, ?_⟩) (by assumption) ?_
          · intro w8 hS8
            (try dsimp only at hS8)
            dsimp only [isO8]
            (first | (go_simp; done) | (go_simp; simp_all; done) | (simp_all [go_sem]; done))
          try simp only [Act.put, isO8, List.setIfInBounds_toArray, List.set_cons_zero, List.set_cons_succ]
          refine wpAnyH_take (i := 9) (oi := isO9) (v := .pointer (some ⟨w.heap.size, 6, none⟩)) rfl (by kernel_rfl) (by kernel_rfl) (by kernel_rfl) (fun _ _ _ h => h) (Or.inl ⟨by rfl, ?_⟩) (by assumption) ?_
          · intro w8 hS8
            (try dsimp only at hS8)
            dsimp only [isO9]
            (first | (go_simp; done) | (go_simp; simp_all; done) | (simp_all [go_sem]; done))
          try simp only [Act.put, isO9, List.setIfInBounds_toArray, List.set_cons_zero, List.set_cons_succ]
          refine wpAnyH_take (i := 10) (oi := isO10) (v := .slice ao n cap) rfl (by kernel_rfl) (by kernel_rfl) (by kernel_rfl) (fun _ _ _ h => h) (Or.inl ⟨by rfl, ?_⟩) (by assumption) ?_
          · intro w8 hS8
            (try dsimp only at hS8)
            dsimp only [isO10]
            (first | (go_simp; done) | (go_simp; simp_all; done) | (simp_all [go_sem]; done))
          try simp only [Act.put, isO10, List.setIfInBounds_toArray, List.set_cons_zero, List.set_cons_succ]
          refine wpAnyH_ready (rs := [11]) (by kernel_rfl) (by simp) ?_
          refine AllReadyH.cons (o := isO11) rfl (fun K hK => ?_) AllReadyH.nil
          dsimp only [isO11]
          go_simp
          go_at_call 37
          (with_reducible refine (DD2.out _ (HQ.out.below (kn7_b hHeld))).mono ?_)
          rintro e9 w91 ⟨rfl, hb1⟩
          refine hK.out _ _ ?_ (fun hH1 => ?_)
          · exact kn7_keep KQ.out hHeld hb1
          clear hK K
          try simp only [Act.put, isO11, List.setIfInBounds_toArray, List.set_cons_zero, List.set_cons_succ]
          refine wpAnyH_take (i := 12) (oi := isO12) (v := .bool true) rfl (by kernel_rfl) (by kernel_rfl) (by kernel_rfl) (fun _ _ _ h => h) (Or.inl ⟨by rfl, ?_⟩) (by assumption) ?_
          · intro w8 hS8
            (try dsimp only at hS8)
            dsimp only [isO12]
            (first | (go_simp; done) | (go_simp; simp_all; done) | (simp_all [go_sem]; done))
          try simp only [Act.put, isO12, List.setIfInBounds_toArray, List.set_cons_zero, List.set_cons_succ]
          refine wpAnyH_take (i := 13) (oi := isO13) (v := .bool true) rfl (by kernel_rfl) (by kernel_rfl) (by kernel_rfl) (fun _ _ _ h => h) (Or.inl ⟨by rfl, ?_⟩) (by assumption) ?_
          · intro w8 hS8
            (try dsimp only at hS8)
            dsimp only [isO13]
            (first | (go_simp; done) | (go_simp; simp_all; done) | (simp_all [go_sem]; done))
          try simp only [Act.put, isO13, List.setIfInBounds_toArray, List.set_cons_zero, List.set_cons_succ]
          refine wpAnyH_take (i := 14) (oi := isO14) (v := .pointer (some ⟨w.heap.size, 1, none⟩)) rfl (by kernel_rfl) (by kernel_rfl) (by kernel_rfl) (fun _ _ _ h => h) (Or.inl ⟨by rfl, ?_⟩) (by assumption) ?_
          · intro w8 hS8
            (try dsimp only at hS8)
            dsimp only [isO14]
            (first | (go_simp; done) | (go_simp; simp_all; done) | (simp_all [go_sem]; done))
          try simp only [Act.put, isO14, List.setIfInBounds_toArray, List.set_cons_zero, List.set_cons_succ]
          refine wpAnyH_take (i := 15) (oi := isO15) (v := .int .i64 c) rfl (by kernel_rfl) (by kernel_rfl) (by kernel_rfl) (fun _ _ _ h => h) (Or.inl ⟨by rfl, ?_⟩) (by assumption) ?_
          · intro w8 hS8
            (try dsimp only at hS8)
            dsimp only [isO15]
            (first | (go_simp; done) | (go_simp; simp_all; done) | (simp_all [go_sem]; done))
          try simp only [Act.put, isO15, List.setIfInBounds_toArray, List.set_cons_zero, List.set_cons_succ]
          refine wpAnyH_take (i := 16) (oi := isO16) (v := .pointer (some ⟨w.heap.size, 6, none⟩)) rfl (by kernel_rfl) (by kernel_rfl) (by kernel_rfl) (fun _ _ _ h => h) (Or.inl ⟨by rfl, ?_⟩) (by assumption) ?_
          · intro w8 hS8
            (try dsimp only at hS8)
            dsimp only [isO16]
            (first | (go_simp; done) | (go_simp; simp_all; done) | (simp_all [go_sem]; done))
          try simp only [Act.put, isO16, List.setIfInBounds_toArray, List.set_cons_zero, List.set_cons_succ]
          refine wpAnyH_take (i := 17) (oi := isO17) (v := .slice ao n cap) rfl (by kernel_rfl) (by kernel_rfl) (by kernel_rfl) (fun _ _ _ h => h) (Or.inl ⟨by rfl, ?_⟩) (by assumption) ?_
          · intro w8 hS8
            (try dsimp only at hS8)
            dsimp only [isO17]
            (first | (go_simp; done) | (go_simp; simp_all; done) | (simp_all [go_sem]; done))
          try simp only [Act.put, isO17, List.setIfInBounds_toArray, List.set_cons_zero, List.set_cons_succ]
          refine wpAnyH_ready (rs := [18]) (by kernel_rfl) (by simp) ?_
          refine AllReadyH.cons (o := isO18) rfl (fun K hK => ?_) AllReadyH.nil
          dsimp only [isO18]
          go_simp
          go_at_call 36
          (with_reducible refine (DD3.out _ (HQ.out.below (kn7_b hH1))).mono ?_)
          rintro e9 w92 ⟨rfl, hb2⟩
          refine hK.out _ _ ?_ (fun hH2 => ?_)
          · exact kn7_keep KQ.out hH1 hb2
          clear hK K
          try simp only [Act.put, isO18, List.setIfInBounds_toArray, List.set_cons_zero, List.set_cons_succ]
          refine wpAnyH_take (i := 19) (oi := isO19) (v := .bool true) rfl (by kernel_rfl) (by kernel_rfl) (by kernel_rfl) (fun _ _ _ h => h) (Or.inl ⟨by rfl, ?_⟩) (by assumption) ?_
          · intro w8 hS8
            (try dsimp only at hS8)
            dsimp only [isO19]
            (first | (go_simp; done) | (go_simp; simp_all; done) | (simp_all [go_sem]; done))
          try simp only [Act.put, isO19, List.setIfInBounds_toArray, List.set_cons_zero, List.set_cons_succ]
          refine wpAnyH_take (i := 20) (oi := isO20) (v := .bool true) rfl (by kernel_rfl) (by kernel_rfl) (by kernel_rfl) (fun _ _ _ h => h) (Or.inl ⟨by rfl, ?_⟩) (by assumption) ?_
          · intro w8 hS8
            (try dsimp only at hS8)
            dsimp only [isO20]
            (first | (go_simp; done) | (go_simp; simp_all; done) | (simp_all [go_sem]; done))
          try simp only [Act.put, isO20, List.setIfInBounds_toArray, List.set_cons_zero, List.set_cons_succ]
          refine wpAnyH_take (i := 21) (oi := isO21) (v := .bool true) rfl (by kernel_rfl) (by kernel_rfl) (by kernel_rfl) (fun _ _ _ h => h) (Or.inl ⟨by rfl, ?_⟩) (by assumption) ?_
          · intro w8 hS8
            (try dsimp only at hS8)
            dsimp only [isO21]
            (first | (go_simp; done) | (go_simp; simp_all; done) | (simp_all [go_sem]; done))
          try simp only [Act.put, isO21, List.setIfInBounds_toArray, List.set_cons_zero, List.set_cons_succ]
          refine wpAnyH_take (i := 22) (oi := isO22) (v := .pointer (some ⟨w.heap.size, 2, none⟩)) rfl (by kernel_rfl) (by kernel_rfl) (by kernel_rfl) (fun _ _ _ h => h) (Or.inl ⟨by rfl, ?_⟩) (by assumption) ?_
          · intro w8 hS8
            (try dsimp only at hS8)
            dsimp only [isO22]
            (first | (go_simp; done) | (go_simp; simp_all; done) | (simp_all [go_sem]; done))
          try simp only [Act.put, isO22, List.setIfInBounds_toArray, List.set_cons_zero, List.set_cons_succ]
          refine wpAnyH_take (i := 23) (oi := isO23) (v := .int .i64 u) rfl (by kernel_rfl) (by kernel_rfl) (by kernel_rfl) (fun _ _ _ h => h) (Or.inl ⟨by rfl, ?_⟩) (by assumption) ?_
          · intro w8 hS8
            (try dsimp only at hS8)
            dsimp only [isO23]
            (first | (go_simp; done) | (go_simp; simp_all; done) | (simp_all [go_sem]; done))
          try simp only [Act.put, isO23, List.setIfInBounds_toArray, List.set_cons_zero, List.set_cons_succ]
          refine wpAnyH_take (i := 24) (oi := isO24) (v := .bool false) rfl (by kernel_rfl) (by kernel_rfl) (by kernel_rfl) (fun _ _ _ h => h) (Or.inl ⟨by rfl, ?_⟩) (by assumption) ?_
          · intro w8 hS8
            (try dsimp only at hS8)
            dsimp only [isO24]
            (first | (go_simp; done) | (go_simp; simp_all; done) | (simp_all [go_sem]; done))
          try simp only [Act.put, isO24, List.setIfInBounds_toArray, List.set_cons_zero, List.set_cons_succ]
          refine wpAnyH_take (i := 25) (oi := isO25) (v := .bool false) rfl (by kernel_rfl) (by kernel_rfl) (by kernel_rfl) (fun _ _ _ h => h) (Or.inl ⟨by rfl, ?_⟩) (by assumption) ?_
          · intro w8 hS8
            (try dsimp only at hS8)
            dsimp only [isO25]
            (first | (go_simp; done) | (go_simp; simp_all; done) | (simp_all [go_sem]; done))
          try simp only [Act.put, isO25, List.setIfInBounds_toArray, List.set_cons_zero, List.set_cons_succ]
          refine wpAnyH_take (i := 26) (oi := isO26) (v := .bool false) rfl (by kernel_rfl) (by kernel_rfl) (by kernel_rfl) (fun _ _ _ h => h) (Or.inl ⟨by rfl, ?_⟩) (by assumption) ?_
          · intro w8 hS8
            (try dsimp only at hS8)
            dsimp only [isO26]
            (first | (go_simp; done) | (go_simp; simp_all; done) | (simp_all [go_sem]; done))
          try simp only [Act.put, isO26, List.setIfInBounds_toArray, List.set_cons_zero, List.set_cons_succ]
          refine held_skip (i := 27) (oi := isO27) rfl (by kernel_rfl) (by kernel_rfl) (by kernel_rfl) (fun _ _ _ h => h) (by rfl) (by assumption) ?_
          try simp only [Act.put, isO27, List.setIfInBounds_toArray, List.set_cons_zero, List.set_cons_succ]
          refine held_skip (i := 28) (oi := isO28) rfl (by kernel_rfl) (by kernel_rfl) (by kernel_rfl) (fun _ _ _ h => h) (by rfl) (by assumption) ?_
          try simp only [Act.put, isO28, List.setIfInBounds_toArray, List.set_cons_zero, List.set_cons_succ]
          refine held_skip (i := 29) (oi := isO29) rfl (by kernel_rfl) (by kernel_rfl) (by kernel_rfl) (fun _ _ _ h => h) (by rfl) (by assumption) ?_
          try simp only [Act.put, isO29, List.setIfInBounds_toArray, List.set_cons_zero, List.set_cons_succ]
          refine held_skip (i := 30) (oi := isO30) rfl (by kernel_rfl) (by kernel_rfl) (by kernel_rfl) (fun _ _ _ h => h) (by rfl) (by assumption) ?_
          try simp only [Act.put, isO30, List.setIfInBounds_toArray, List.set_cons_zero, List.set_cons_succ]
          refine held_skip (i := 31) (oi := isO31) rfl (by kernel_rfl) (by kernel_rfl) (by kernel_rfl) (fun _ _ _ h => h) (by rfl) (by assumption) ?_
          try simp only [Act.put, isO31, List.setIfInBounds_toArray, List.set_cons_zero, List.set_cons_succ]
          refine wpAnyH_take (i := 32) (oi := isO32) (v := .bool false) rfl (by kernel_rfl) (by kernel_rfl) (by kernel_rfl) (fun _ _ _ h => h) (Or.inl ⟨by rfl, ?_⟩) (by assumption) ?_
          · intro w8 hS8
            (try dsimp only at hS8)
            dsimp only [isO32]
            (first | (go_simp; done) | (go_simp; simp_all; done) | (simp_all [go_sem]; done))
          try simp only [Act.put, isO32, List.setIfInBounds_toArray, List.set_cons_zero, List.set_cons_succ]
          refine wpAnyH_take (i := 33) (oi := isO33) (v := .bool false) rfl (by kernel_rfl) (by kernel_rfl) (by kernel_rfl) (fun _ _ _ h => h) (Or.inl ⟨by rfl, ?_⟩) (by assumption) ?_
          · intro w8 hS8
            (try dsimp only at hS8)
            dsimp only [isO33]
            (first | (go_simp; done) | (go_simp; simp_all; done) | (simp_all [go_sem]; done))
          try simp only [Act.put, isO33, List.setIfInBounds_toArray, List.set_cons_zero, List.set_cons_succ]
          refine held_skip (i := 34) (oi := isO34) rfl (by kernel_rfl) (by kernel_rfl) (by kernel_rfl) (fun _ _ _ h => h) (by rfl) (by assumption) ?_
          try simp only [Act.put, isO34, List.setIfInBounds_toArray, List.set_cons_zero, List.set_cons_succ]
          refine held_skip (i := 35) (oi := isO35) rfl (by kernel_rfl) (by kernel_rfl) (by kernel_rfl) (fun _ _ _ h => h) (by rfl) (by assumption) ?_
          try simp only [Act.put, isO35, List.setIfInBounds_toArray, List.set_cons_zero, List.set_cons_succ]
          refine held_skip (i := 36) (oi := isO36) rfl (by kernel_rfl) (by kernel_rfl) (by kernel_rfl) (fun _ _ _ h => h) (by rfl) (by assumption) ?_
          try simp only [Act.put, isO36, List.setIfInBounds_toArray, List.set_cons_zero, List.set_cons_succ]
          refine wpAnyH_take (i := 37) (oi := isO37) (v := .bool false) rfl (by kernel_rfl) (by kernel_rfl) (by kernel_rfl) (fun _ _ _ h => h) (Or.inl ⟨by rfl, ?_⟩) (by assumption) ?_
          · intro w8 hS8
            (try dsimp only at hS8)
            dsimp only [isO37]
            (first | (go_simp; done) | (go_simp; simp_all; done) | (simp_all [go_sem]; done))
          try simp only [Act.put, isO37, List.setIfInBounds_toArray, List.set_cons_zero, List.set_cons_succ]
          refine wpAnyH_take (i := 38) (oi := isO38) (v := .bool false) rfl (by kernel_rfl) (by kernel_rfl) (by kernel_rfl) (fun _ _ _ h => h) (Or.inl ⟨by rfl, ?_⟩) (by assumption) ?_
          · intro w8 hS8
            (try dsimp only at hS8)
            dsimp only [isO38]
            (first | (go_simp; done) | (go_simp; simp_all; done) | (simp_all [go_sem]; done))
          try simp only [Act.put, isO38, List.setIfInBounds_toArray, List.set_cons_zero, List.set_cons_succ]
          refine wpAnyH_done (by kernel_rfl) ?_ _

          have KE := KQ.out.step (kn7_b hH2)
          go_wp2
          go_ret
          exact ⟨by rw [AN.out]; rfl, KE.1⟩
      · skip
        have q3 : (c == t) = false := beq_eq_false_iff_ne.2 h3
        have AN := Lib.hid (show smB S = false from smB_false (fun h => h3 (by have h9 := h.2.2.1; rw [HS.out] at h9; rw [HTS.out]; exact h9)))
        clear h3 ht
        go_enter Try.func60, Try.ntmps60
        have K0 := (Kept.start w).alloc7 (.int .i64 b) (.int .i64 c) (.int .i64 u) (.int .i64 mn) (.int .i64 mx) (.int .i64 sm) (.slice ao n cap) 77 _ rfl
        go_upto_region 1 with fail
        obtain ⟨w1, hw1⟩ : ∃ w1, w1 = w.alloc (.cells #[.int .i64 b, .int .i64 c, .int .i64 u, .int .i64 mn, .int .i64 mx, .int .i64 sm, .slice ao n cap] 77) := ⟨_, rfl⟩
        rw [← hw1] at K0 ⊢
        clear hw1
        have KQ := Lib.hid K0
        have HQ := Lib.hid (HV.out.below K0.1)
        clear K0
        refine wp_region_held_drew (S := fun w' => w'.cell? ⟨w.heap.size, 0, none⟩ = some (.int .i64 b) ∧ w'.cell? ⟨w.heap.size, 1, none⟩ = some (.int .i64 c) ∧ w'.cell? ⟨w.heap.size, 2, none⟩ = some (.int .i64 u) ∧ w'.cell? ⟨w.heap.size, 3, none⟩ = some (.int .i64 mn) ∧ w'.cell? ⟨w.heap.size, 4, none⟩ = some (.int .i64 mx) ∧ w'.cell? ⟨w.heap.size, 5, none⟩ = some (.int .i64 sm) ∧ w'.cell? ⟨w.heap.size, 6, none⟩ = some (.slice ao n cap) ∧ Below w1.heap.size w1 w') (by kernel_rfl) (kn7_at KQ.out (Below.refl _ _).drew) (fun hHeld => ?_)
        refine wpAnyH_take (i := 0) (oi := isO0) (v := .pointer (some ⟨w.heap.size, 0, none⟩)) rfl (by kernel_rfl) (by kernel_rfl) (by kernel_rfl) (fun _ _ _ h => h) (Or.inl ⟨by rfl, ?_⟩) (by assumption) ?_
        · intro w8 hS8
          (try dsimp only at hS8)
          dsimp only [isO0]
          (first | (go_simp; done) | (go_simp; simp_all; done) | (simp_all [go_sem]; done))
        try simp only [Act.put, isO0, List.setIfInBounds_toArray, List.set_cons_zero, List.set_cons_succ]
        refine wpAnyH_take (i := 1) (oi := isO1) (v := .int .i64 b) rfl (by kernel_rfl) (by kernel_rfl) (by kernel_rfl) (fun _ _ _ h => h) (Or.inl ⟨by rfl, ?_⟩) (by assumption) ?_
        · intro w8 hS8
          (try dsimp only at hS8)
          dsimp only [isO1]
          (first | (go_simp; done) | (go_simp; simp_all; done) | (simp_all [go_sem]; done))
        try simp only [Act.put, isO1, List.setIfInBounds_toArray, List.set_cons_zero, List.set_cons_succ]
        refine wpAnyH_take (i := 2) (oi := isO2) (v := .bool true) rfl (by kernel_rfl) (by kernel_rfl) (by kernel_rfl) (fun _ _ _ h => h) (Or.inl ⟨by rfl, ?_⟩) (by assumption) ?_
        · intro w8 hS8
          (try dsimp only at hS8)
          dsimp only [isO2]
          (first | (go_simp; done) | (go_simp; simp_all; done) | (simp_all [go_sem]; done))
        try simp only [Act.put, isO2, List.setIfInBounds_toArray, List.set_cons_zero, List.set_cons_succ]
        refine wpAnyH_take (i := 3) (oi := isO3) (v := .bool true) rfl (by kernel_rfl) (by kernel_rfl) (by kernel_rfl) (fun _ _ _ h => h) (Or.inl ⟨by rfl, ?_⟩) (by assumption) ?_
        · intro w8 hS8
          (try dsimp only at hS8)
          dsimp only [isO3]
          (first | (go_simp; done) | (go_simp; simp_all; done) | (simp_all [go_sem]; done))
        try simp only [Act.put, isO3, List.setIfInBounds_toArray, List.set_cons_zero, List.set_cons_succ]
        refine held_skip (i := 4) (oi := isO4) rfl (by kernel_rfl) (by kernel_rfl) (by kernel_rfl) (fun _ _ _ h => h) (by rfl) (by assumption) ?_
        try simp only [Act.put, isO4, List.setIfInBounds_toArray, List.set_cons_zero, List.set_cons_succ]
        refine held_skip (i := 5) (oi := isO5) rfl (by kernel_rfl) (by kernel_rfl) (by kernel_rfl) (fun _ _ _ h => h) (by rfl) (by assumption) ?_
        try simp only [Act.put, isO5, List.setIfInBounds_toArray, List.set_cons_zero, List.set_cons_succ]
        refine held_skip (i := 6) (oi := isO6) rfl (by kernel_rfl) (by kernel_rfl) (by kernel_rfl) (fun _ _ _ h => h) (by rfl) (by assumption) ?_
        try simp only [Act.put, isO6, List.setIfInBounds_toArray, List.set_cons_zero, List.set_cons_succ]
        refine wpAnyH_take (i := 7) (oi := isO7) (v := .bool true) rfl (by kernel_rfl) (by kernel_rfl) (by kernel_rfl) (fun _ _ _ h => h) (Or.inl ⟨by rfl, ?_⟩) (by assumption) ?_
        · intro w8 hS8
          (try dsimp only at hS8)
          dsimp only [isO7]
          (first | (go_simp; done) | (go_simp; simp_all; done) | (simp_all [go_sem]; done))
        try simp only [Act.put, isO7, List.setIfInBounds_toArray, List.set_cons_zero, List.set_cons_succ]
        refine wpAnyH_take (i := 8) (oi := isO8) (v := .bool true) rfl (by kernel_rfl) (by kernel_rfl) (by kernel_rfl) (fun _ _ _ h => h) (Or.inl ⟨by rfl, ?_⟩) (by assumption) ?_
        · intro w8 hS8
          (try dsimp only at hS8)
          dsimp only [isO8]
          (first | (go_simp; done) | (go_simp; simp_all; done) | (simp_all [go_sem]; done))
        try simp only [Act.put, isO8, List.setIfInBounds_toArray, List.set_cons_zero, List.set_cons_succ]
        refine wpAnyH_take (i := 9) (oi := isO9) (v := .pointer (some ⟨w.heap.size, 6, none⟩)) rfl (by kernel_rfl) (by kernel_rfl) (by kernel_rfl) (fun _ _ _ h => h) (Or.inl ⟨by rfl, ?_⟩) (by assumption) ?_
        · intro w8 hS8
          (try dsimp only at hS8)
          dsimp only [isO9]
          (first | (go_simp; done) | (go_simp; simp_all; done) | (simp_all [go_sem]; done))
        try simp only [Act.put, isO9, List.setIfInBounds_toArray, List.set_cons_zero, List.set_cons_succ]
        refine wpAnyH_take (i := 10) (oi := isO10) (v := .slice ao n cap) rfl (by kernel_rfl) (by kernel_rfl) (by kernel_rfl) (fun _ _ _ h => h) (Or.inl ⟨by rfl, ?_⟩) (by assumption) ?_
        · intro w8 hS8
          (try dsimp only at hS8)
          dsimp only [isO10]
          (first | (go_simp; done) | (go_simp; simp_all; done) | (simp_all [go_sem]; done))
        try simp only [Act.put, isO10, List.setIfInBounds_toArray, List.set_cons_zero, List.set_cons_succ]
        refine wpAnyH_ready (rs := [11]) (by kernel_rfl) (by simp) ?_
        refine AllReadyH.cons (o := isO11) rfl (fun K hK => ?_) AllReadyH.nil
        dsimp only [isO11]
        go_simp
        go_at_call 37
        (with_reducible refine (DD2.out _ (HQ.out.below (kn7_b hHeld))).mono ?_)
        rintro e9 w91 ⟨rfl, hb1⟩
        refine hK.out _ _ ?_ (fun hH1 => ?_)
        · exact kn7_keep KQ.out hHeld hb1
        clear hK K
        try simp only [Act.put, isO11, List.setIfInBounds_toArray, List.set_cons_zero, List.set_cons_succ]
        refine wpAnyH_take (i := 12) (oi := isO12) (v := .bool true) rfl (by kernel_rfl) (by kernel_rfl) (by kernel_rfl) (fun _ _ _ h => h) (Or.inl ⟨by rfl, ?_⟩) (by assumption) ?_
        · intro w8 hS8
          (try dsimp only at hS8)
          dsimp only [isO12]
          (first | (go_simp; done) | (go_simp; simp_all; done) | (simp_all [go_sem]; done))
        try simp only [Act.put, isO12, List.setIfInBounds_toArray, List.set_cons_zero, List.set_cons_succ]
        refine wpAnyH_take (i := 13) (oi := isO13) (v := .bool true) rfl (by kernel_rfl) (by kernel_rfl) (by kernel_rfl) (fun _ _ _ h => h) (Or.inl ⟨by rfl, ?_⟩) (by assumption) ?_
        · intro w8 hS8
          (try dsimp only at hS8)
          dsimp only [isO13]
          (first | (go_simp; done) | (go_simp; simp_all; done) | (simp_all [go_sem]; done))
        try simp only [Act.put, isO13, List.setIfInBounds_toArray, List.set_cons_zero, List.set_cons_succ]
        refine wpAnyH_take (i := 14) (oi := isO14) (v := .pointer (some ⟨w.heap.size, 1, none⟩)) rfl (by kernel_rfl) (by kernel_rfl) (by kernel_rfl) (fun _ _ _ h => h) (Or.inl ⟨by rfl, ?_⟩) (by assumption) ?_
        · intro w8 hS8
          (try dsimp only at hS8)
          dsimp only [isO14]
          (first | (go_simp; done) | (go_simp; simp_all; done) | (simp_all [go_sem]; done))
        try simp only [Act.put, isO14, List.setIfInBounds_toArray, List.set_cons_zero, List.set_cons_succ]
        refine wpAnyH_take (i := 15) (oi := isO15) (v := .int .i64 c) rfl (by kernel_rfl) (by kernel_rfl) (by kernel_rfl) (fun _ _ _ h => h) (Or.inl ⟨by rfl, ?_⟩) (by assumption) ?_
        · intro w8 hS8
          (try dsimp only at hS8)
          dsimp only [isO15]
          (first | (go_simp; done) | (go_simp; simp_all; done) | (simp_all [go_sem]; done))
        try simp only [Act.put, isO15, List.setIfInBounds_toArray, List.set_cons_zero, List.set_cons_succ]
        refine wpAnyH_take (i := 16) (oi := isO16) (v := .pointer (some ⟨w.heap.size, 6, none⟩)) rfl (by kernel_rfl) (by kernel_rfl) (by kernel_rfl) (fun _ _ _ h => h) (Or.inl ⟨by rfl, ?_⟩) (by assumption) ?_
        · intro w8 hS8
          (try dsimp only at hS8)
          dsimp only [isO16]
          (first | (go_simp; done) | (go_simp; simp_all; done) | (simp_all [go_sem]; done))
        try simp only [Act.put, isO16, List.setIfInBounds_toArray, List.set_cons_zero, List.set_cons_succ]
        refine wpAnyH_take (i := 17) (oi := isO17) (v := .slice ao n cap) rfl (by kernel_rfl) (by kernel_rfl) (by kernel_rfl) (fun _ _ _ h => h) (Or.inl ⟨by rfl, ?_⟩) (by assumption) ?_
        · intro w8 hS8
          (try dsimp only at hS8)
          dsimp only [isO17]
          (first | (go_simp; done) | (go_simp; simp_all; done) | (simp_all [go_sem]; done))
        try simp only [Act.put, isO17, List.setIfInBounds_toArray, List.set_cons_zero, List.set_cons_succ]
        refine wpAnyH_ready (rs := [18]) (by kernel_rfl) (by simp) ?_
        refine AllReadyH.cons (o := isO18) rfl (fun K hK => ?_) AllReadyH.nil
        dsimp only [isO18]
        go_simp
        go_at_call 36
        (with_reducible refine (DD3.out _ (HQ.out.below (kn7_b hH1))).mono ?_)
        rintro e9 w92 ⟨rfl, hb2⟩
        refine hK.out _ _ ?_ (fun hH2 => ?_)
        · exact kn7_keep KQ.out hH1 hb2
        clear hK K
        try simp only [Act.put, isO18, List.setIfInBounds_toArray, List.set_cons_zero, List.set_cons_succ]
        refine wpAnyH_take (i := 19) (oi := isO19) (v := .bool false) rfl (by kernel_rfl) (by kernel_rfl) (by kernel_rfl) (fun _ _ _ h => h) (Or.inl ⟨by rfl, ?_⟩) (by assumption) ?_
        · intro w8 hS8
          (try dsimp only at hS8)
          dsimp only [isO19]
          (first | (go_simp; done) | (go_simp; simp_all; done) | (simp_all [go_sem]; done))
        try simp only [Act.put, isO19, List.setIfInBounds_toArray, List.set_cons_zero, List.set_cons_succ]
        refine wpAnyH_take (i := 20) (oi := isO20) (v := .bool false) rfl (by kernel_rfl) (by kernel_rfl) (by kernel_rfl) (fun _ _ _ h => h) (Or.inl ⟨by rfl, ?_⟩) (by assumption) ?_
        · intro w8 hS8
          (try dsimp only at hS8)
          dsimp only [isO20]
          (first | (go_simp; done) | (go_simp; simp_all; done) | (simp_all [go_sem]; done))
        try simp only [Act.put, isO20, List.setIfInBounds_toArray, List.set_cons_zero, List.set_cons_succ]
        refine wpAnyH_take (i := 21) (oi := isO21) (v := .bool false) rfl (by kernel_rfl) (by kernel_rfl) (by kernel_rfl) (fun _ _ _ h => h) (Or.inl ⟨by rfl, ?_⟩) (by assumption) ?_
        · intro w8 hS8
          (try dsimp only at hS8)
          dsimp only [isO21]
          (first | (go_simp; done) | (go_simp; simp_all; done) | (simp_all [go_sem]; done))
        try simp only [Act.put, isO21, List.setIfInBounds_toArray, List.set_cons_zero, List.set_cons_succ]
        refine held_skip (i := 22) (oi := isO22) rfl (by kernel_rfl) (by kernel_rfl) (by kernel_rfl) (fun _ _ _ h => h) (by rfl) (by assumption) ?_
        try simp only [Act.put, isO22, List.setIfInBounds_toArray, List.set_cons_zero, List.set_cons_succ]
        refine held_skip (i := 23) (oi := isO23) rfl (by kernel_rfl) (by kernel_rfl) (by kernel_rfl) (fun _ _ _ h => h) (by rfl) (by assumption) ?_
        try simp only [Act.put, isO23, List.setIfInBounds_toArray, List.set_cons_zero, List.set_cons_succ]
        refine held_skip (i := 24) (oi := isO24) rfl (by kernel_rfl) (by kernel_rfl) (by kernel_rfl) (fun _ _ _ h => h) (by rfl) (by assumption) ?_
        try simp only [Act.put, isO24, List.setIfInBounds_toArray, List.set_cons_zero, List.set_cons_succ]
        refine wpAnyH_take (i := 25) (oi := isO25) (v := .bool false) rfl (by kernel_rfl) (by kernel_rfl) (by kernel_rfl) (fun _ _ _ h => h) (Or.inl ⟨by rfl, ?_⟩) (by assumption) ?_
        · intro w8 hS8
          (try dsimp only at hS8)
          dsimp only [isO25]
          (first | (go_simp; done) | (go_simp; simp_all; done) | (simp_all [go_sem]; done))
        try simp only [Act.put, isO25, List.setIfInBounds_toArray, List.set_cons_zero, List.set_cons_succ]
        refine wpAnyH_take (i := 26) (oi := isO26) (v := .bool false) rfl (by kernel_rfl) (by kernel_rfl) (by kernel_rfl) (fun _ _ _ h => h) (Or.inl ⟨by rfl, ?_⟩) (by assumption) ?_
        · intro w8 hS8
          (try dsimp only at hS8)
          dsimp only [isO26]
          (first | (go_simp; done) | (go_simp; simp_all; done) | (simp_all [go_sem]; done))
        try simp only [Act.put, isO26, List.setIfInBounds_toArray, List.set_cons_zero, List.set_cons_succ]
        refine held_skip (i := 27) (oi := isO27) rfl (by kernel_rfl) (by kernel_rfl) (by kernel_rfl) (fun _ _ _ h => h) (by rfl) (by assumption) ?_
        try simp only [Act.put, isO27, List.setIfInBounds_toArray, List.set_cons_zero, List.set_cons_succ]
        refine held_skip (i := 28) (oi := isO28) rfl (by kernel_rfl) (by kernel_rfl) (by kernel_rfl) (fun _ _ _ h => h) (by rfl) (by assumption) ?_
        try simp only [Act.put, isO28, List.setIfInBounds_toArray, List.set_cons_zero, List.set_cons_succ]
        refine held_skip (i := 29) (oi := isO29) rfl (by kernel_rfl) (by kernel_rfl) (by kernel_rfl) (fun _ _ _ h => h) (by rfl) (by assumption) ?_
        try simp only [Act.put, isO29, List.setIfInBounds_toArray, List.set_cons_zero, List.set_cons_succ]
        refine held_skip (i := 30) (oi := isO30) rfl (by kernel_rfl) (by kernel_rfl) (by kernel_rfl) (fun _ _ _ h => h) (by rfl) (by assumption) ?_
        try simp only [Act.put, isO30, List.setIfInBounds_toArray, List.set_cons_zero, List.set_cons_succ]
        refine held_skip (i := 31) (oi := isO31) rfl (by kernel_rfl) (by kernel_rfl) (by kernel_rfl) (fun _ _ _ h => h) (by rfl) (by assumption) ?_
        try simp only [Act.put, isO31, List.setIfInBounds_toArray, List.set_cons_zero, List.set_cons_succ]
        refine wpAnyH_take (i := 32) (oi := isO32) (v := .bool false) rfl (by kernel_rfl) (by kernel_rfl) (by kernel_rfl) (fun _ _ _ h => h) (Or.inl ⟨by rfl, ?_⟩) (by assumption) ?_
        · intro w8 hS8
          (try dsimp only at hS8)
          dsimp only [isO32]
          (first | (go_simp; done) | (go_simp; simp_all; done) | (simp_all [go_sem]; done))
        try simp only [Act.put, isO32, List.setIfInBounds_toArray, List.set_cons_zero, List.set_cons_succ]
        refine wpAnyH_take (i := 33) (oi := isO33) (v := .bool false) rfl (by kernel_rfl) (by kernel_rfl) (by kernel_rfl) (fun _ _ _ h => h) (Or.inl ⟨by rfl, ?_⟩) (by assumption) ?_
        · intro w8 hS8
          (try dsimp only at hS8)
          dsimp only [isO33]
          (first | (go_simp; done) | (go_simp; simp_all; done) | (simp_all [go_sem]; done))
        try simp only [Act.put, isO33, List.setIfInBounds_toArray, List.set_cons_zero, List.set_cons_succ]
        refine held_skip (i := 34) (oi := isO34) rfl (by kernel_rfl) (by kernel_rfl) (by kernel_rfl) (fun _ _ _ h => h) (by rfl) (by assumption) ?_
        try simp only [Act.put, isO34, List.setIfInBounds_toArray, List.set_cons_zero, List.set_cons_succ]
        refine held_skip (i := 35) (oi := isO35) rfl (by kernel_rfl) (by kernel_rfl) (by kernel_rfl) (fun _ _ _ h => h) (by rfl) (by assumption) ?_
        try simp only [Act.put, isO35, List.setIfInBounds_toArray, List.set_cons_zero, List.set_cons_succ]
        refine held_skip (i := 36) (oi := isO36) rfl (by kernel_rfl) (by kernel_rfl) (by kernel_rfl) (fun _ _ _ h => h) (by rfl) (by assumption) ?_
        try simp only [Act.put, isO36, List.setIfInBounds_toArray, List.set_cons_zero, List.set_cons_succ]
        refine wpAnyH_take (i := 37) (oi := isO37) (v := .bool false) rfl (by kernel_rfl) (by kernel_rfl) (by kernel_rfl) (fun _ _ _ h => h) (Or.inl ⟨by rfl, ?_⟩) (by assumption) ?_
        · intro w8 hS8
          (try dsimp only at hS8)
          dsimp only [isO37]
          (first | (go_simp; done) | (go_simp; simp_all; done) | (simp_all [go_sem]; done))
        try simp only [Act.put, isO37, List.setIfInBounds_toArray, List.set_cons_zero, List.set_cons_succ]
        refine wpAnyH_take (i := 38) (oi := isO38) (v := .bool false) rfl (by kernel_rfl) (by kernel_rfl) (by kernel_rfl) (fun _ _ _ h => h) (Or.inl ⟨by rfl, ?_⟩) (by assumption) ?_
        · intro w8 hS8
          (try dsimp only at hS8)
          dsimp only [isO38]
          (first | (go_simp; done) | (go_simp; simp_all; done) | (simp_all [go_sem]; done))
        try simp only [Act.put, isO38, List.setIfInBounds_toArray, List.set_cons_zero, List.set_cons_succ]
        refine wpAnyH_done (by kernel_rfl) ?_ _

        have KE := KQ.out.step (kn7_b hH2)
        go_wp2
        go_ret
        exact ⟨by rw [AN.out]; rfl, KE.1⟩
  · skip
    have qb : (b == 0) = false := beq_eq_false_iff_ne.2 hb0
    have HB0 := Lib.hid hb0
    clear hb0
    cases q1
    · skip
      have AN := Lib.hid (show smB S = false from smB_false (fun h => of_decide_eq_false H1.out.symm (by have h9 := h.1; rw [HS.out] at h9; have := HB0.out; simp only at h9; omega)))
      go_enter Try.func60, Try.ntmps60
      have K0 := (Kept.start w).alloc7 (.int .i64 b) (.int .i64 c) (.int .i64 u) (.int .i64 mn) (.int .i64 mx) (.int .i64 sm) (.slice ao n cap) 77 _ rfl
      go_upto_region 1 with fail
      obtain ⟨w1, hw1⟩ : ∃ w1, w1 = w.alloc (.cells #[.int .i64 b, .int .i64 c, .int .i64 u, .int .i64 mn, .int .i64 mx, .int .i64 sm, .slice ao n cap] 77) := ⟨_, rfl⟩
      rw [← hw1] at K0 ⊢
      clear hw1
      have KQ := Lib.hid K0
      have HQ := Lib.hid (HV.out.below K0.1)
      clear K0
      refine wp_region_held_drew (S := fun w' => w'.cell? ⟨w.heap.size, 0, none⟩ = some (.int .i64 b) ∧ w'.cell? ⟨w.heap.size, 1, none⟩ = some (.int .i64 c) ∧ w'.cell? ⟨w.heap.size, 2, none⟩ = some (.int .i64 u) ∧ w'.cell? ⟨w.heap.size, 3, none⟩ = some (.int .i64 mn) ∧ w'.cell? ⟨w.heap.size, 4, none⟩ = some (.int .i64 mx) ∧ w'.cell? ⟨w.heap.size, 5, none⟩ = some (.int .i64 sm) ∧ w'.cell? ⟨w.heap.size, 6, none⟩ = some (.slice ao n cap) ∧ Below w1.heap.size w1 w') (by kernel_rfl) (kn7_at KQ.out (Below.refl _ _).drew) (fun hHeld => ?_)
      refine wpAnyH_take (i := 0) (oi := isO0) (v := .pointer (some ⟨w.heap.size, 0, none⟩)) rfl (by kernel_rfl) (by kernel_rfl) (by kernel_rfl) (fun _ _ _ h => h) (Or.inl ⟨by rfl, ?_⟩) (by assumption) ?_
      · intro w8 hS8
        (try dsimp only at hS8)
        dsimp only [isO0]
        (first | (go_simp; done) | (go_simp; simp_all; done) | (simp_all [go_sem]; done))
      try simp only [Act.put, isO0, List.setIfInBounds_toArray, List.set_cons_zero, List.set_cons_succ]
      refine wpAnyH_take (i := 1) (oi := isO1) (v := .int .i64 b) rfl (by kernel_rfl) (by kernel_rfl) (by kernel_rfl) (fun _ _ _ h => h) (Or.inl ⟨by rfl, ?_⟩) (by assumption) ?_
      · intro w8 hS8
        (try dsimp only at hS8)
        dsimp only [isO1]
        (first | (go_simp; done) | (go_simp; simp_all; done) | (simp_all [go_sem]; done))
      try simp only [Act.put, isO1, List.setIfInBounds_toArray, List.set_cons_zero, List.set_cons_succ]
      refine wpAnyH_take (i := 2) (oi := isO2) (v := .bool false) rfl (by kernel_rfl) (by kernel_rfl) (by kernel_rfl) (fun _ _ _ h => h) (Or.inl ⟨by rfl, ?_⟩) (by assumption) ?_
      · intro w8 hS8
        (try dsimp only at hS8)
        dsimp only [isO2]
        (first | (go_simp; done) | (go_simp; simp_all; done) | (simp_all [go_sem]; done))
      try simp only [Act.put, isO2, List.setIfInBounds_toArray, List.set_cons_zero, List.set_cons_succ]
      refine wpAnyH_take (i := 3) (oi := isO3) (v := .bool false) rfl (by kernel_rfl) (by kernel_rfl) (by kernel_rfl) (fun _ _ _ h => h) (Or.inl ⟨by rfl, ?_⟩) (by assumption) ?_
      · intro w8 hS8
        (try dsimp only at hS8)
        dsimp only [isO3]
        (first | (go_simp; done) | (go_simp; simp_all; done) | (simp_all [go_sem]; done))
      try simp only [Act.put, isO3, List.setIfInBounds_toArray, List.set_cons_zero, List.set_cons_succ]
      refine wpAnyH_take (i := 4) (oi := isO4) (v := .pointer (some ⟨w.heap.size, 0, none⟩)) rfl (by kernel_rfl) (by kernel_rfl) (by kernel_rfl) (fun _ _ _ h => h) (Or.inl ⟨by rfl, ?_⟩) (by assumption) ?_
      · intro w8 hS8
        (try dsimp only at hS8)
        dsimp only [isO4]
        (first | (go_simp; done) | (go_simp; simp_all; done) | (simp_all [go_sem]; done))
      try simp only [Act.put, isO4, List.setIfInBounds_toArray, List.set_cons_zero, List.set_cons_succ]
      refine wpAnyH_take (i := 5) (oi := isO5) (v := .int .i64 b) rfl (by kernel_rfl) (by kernel_rfl) (by kernel_rfl) (fun _ _ _ h => h) (Or.inl ⟨by rfl, ?_⟩) (by assumption) ?_
      · intro w8 hS8
        (try dsimp only at hS8)
        dsimp only [isO5]
        (first | (go_simp; done) | (go_simp; simp_all; done) | (simp_all [go_sem]; done))
      try simp only [Act.put, isO5, List.setIfInBounds_toArray, List.set_cons_zero, List.set_cons_succ]
      refine wpAnyH_ready (rs := [6]) (by kernel_rfl) (by simp) ?_
      refine AllReadyH.cons (o := isO6) rfl (fun K hK => ?_) AllReadyH.nil
      dsimp only [isO6]
      go_simp
      go_at_call 118
      (with_reducible refine (DD1.out _).mono ?_)
      rintro e9 w91 ⟨rfl, hb1⟩
      refine hK.out _ _ ?_ (fun hH1 => ?_)
      · exact kn7_keep KQ.out hHeld hb1
      clear hK K
      try simp only [Act.put, isO6, List.setIfInBounds_toArray, List.set_cons_zero, List.set_cons_succ]
      refine wpAnyH_take (i := 7) (oi := isO7) (v := .bool false) rfl (by kernel_rfl) (by kernel_rfl) (by kernel_rfl) (fun _ _ _ h => h) (Or.inl ⟨by rfl, ?_⟩) (by assumption) ?_
      · intro w8 hS8
        (try dsimp only at hS8)
        dsimp only [isO7]
        (first | (go_simp; done) | (go_simp; simp_all; done) | (simp_all [go_sem]; done))
      try simp only [Act.put, isO7, List.setIfInBounds_toArray, List.set_cons_zero, List.set_cons_succ]
      refine wpAnyH_take (i := 8) (oi := isO8) (v := .bool false) rfl (by kernel_rfl) (by kernel_rfl) (by kernel_rfl) (fun _ _ _ h => h) (Or.inl ⟨by rfl, ?_⟩) (by assumption) ?_
      · intro w8 hS8
        (try dsimp only at hS8)
        dsimp only [isO8]
        (first | (go_simp; done) | (go_simp; simp_all; done) | (simp_all [go_sem]; done))
      try simp only [Act.put, isO8, List.setIfInBounds_toArray, List.set_cons_zero, List.set_cons_succ]
      refine held_skip (i := 9) (oi := isO9) rfl (by kernel_rfl) (by kernel_rfl) (by kernel_rfl) (fun _ _ _ h => h) (by rfl) (by assumption) ?_
      try simp only [Act.put, isO9, List.setIfInBounds_toArray, List.set_cons_zero, List.set_cons_succ]
      refine held_skip (i := 10) (oi := isO10) rfl (by kernel_rfl) (by kernel_rfl) (by kernel_rfl) (fun _ _ _ h => h) (by rfl) (by assumption) ?_
      try simp only [Act.put, isO10, List.setIfInBounds_toArray, List.set_cons_zero, List.set_cons_succ]
      refine held_skip (i := 11) (oi := isO11) rfl (by kernel_rfl) (by kernel_rfl) (by kernel_rfl) (fun _ _ _ h => h) (by rfl) (by assumption) ?_
      try simp only [Act.put, isO11, List.setIfInBounds_toArray, List.set_cons_zero, List.set_cons_succ]
      refine wpAnyH_take (i := 12) (oi := isO12) (v := .bool false) rfl (by kernel_rfl) (by kernel_rfl) (by kernel_rfl) (fun _ _ _ h => h) (Or.inl ⟨by rfl, ?_⟩) (by assumption) ?_
      · intro w8 hS8
        (try dsimp only at hS8)
        dsimp only [isO12]
        (first | (go_simp; done) | (go_simp; simp_all; done) | (simp_all [go_sem]; done))
      try simp only [Act.put, isO12, List.setIfInBounds_toArray, List.set_cons_zero, List.set_cons_succ]
      refine wpAnyH_take (i := 13) (oi := isO13) (v := .bool false) rfl (by kernel_rfl) (by kernel_rfl) (by kernel_rfl) (fun _ _ _ h => h) (Or.inl ⟨by rfl, ?_⟩) (by assumption) ?_
      · intro w8 hS8
        (try dsimp only at hS8)
        dsimp only [isO13]
        (first | (go_simp; done) | (go_simp; simp_all; done) | (simp_all [go_sem]; done))
      try simp only [Act.put, isO13, List.setIfInBounds_toArray, List.set_cons_zero, List.set_cons_succ]
      refine held_skip (i := 14) (oi := isO14) rfl (by kernel_rfl) (by kernel_rfl) (by kernel_rfl) (fun _ _ _ h => h) (by rfl) (by assumption) ?_
      try simp only [Act.put, isO14, List.setIfInBounds_toArray, List.set_cons_zero, List.set_cons_succ]
      refine held_skip (i := 15) (oi := isO15) rfl (by kernel_rfl) (by kernel_rfl) (by kernel_rfl) (fun _ _ _ h => h) (by rfl) (by assumption) ?_
      try simp only [Act.put, isO15, List.setIfInBounds_toArray, List.set_cons_zero, List.set_cons_succ]
      refine held_skip (i := 16) (oi := isO16) rfl (by kernel_rfl) (by kernel_rfl) (by kernel_rfl) (fun _ _ _ h => h) (by rfl) (by assumption) ?_
      try simp only [Act.put, isO16, List.setIfInBounds_toArray, List.set_cons_zero, List.set_cons_succ]
      refine held_skip (i := 17) (oi := isO17) rfl (by kernel_rfl) (by kernel_rfl) (by kernel_rfl) (fun _ _ _ h => h) (by rfl) (by assumption) ?_
      try simp only [Act.put, isO17, List.setIfInBounds_toArray, List.set_cons_zero, List.set_cons_succ]
      refine held_skip (i := 18) (oi := isO18) rfl (by kernel_rfl) (by kernel_rfl) (by kernel_rfl) (fun _ _ _ h => h) (by rfl) (by assumption) ?_
      try simp only [Act.put, isO18, List.setIfInBounds_toArray, List.set_cons_zero, List.set_cons_succ]
      refine held_skip (i := 19) (oi := isO19) rfl (by kernel_rfl) (by kernel_rfl) (by kernel_rfl) (fun _ _ _ h => h) (by rfl) (by assumption) ?_
      try simp only [Act.put, isO19, List.setIfInBounds_toArray, List.set_cons_zero, List.set_cons_succ]
      refine wpAnyH_take (i := 20) (oi := isO20) (v := .bool false) rfl (by kernel_rfl) (by kernel_rfl) (by kernel_rfl) (fun _ _ _ h => h) (Or.inl ⟨by rfl, ?_⟩) (by assumption) ?_
      · intro w8 hS8
        (try dsimp only at hS8)
        dsimp only [isO20]
        (first | (go_simp; done) | (go_simp; simp_all; done) | (simp_all [go_sem]; done))
      try simp only [Act.put, isO20, List.setIfInBounds_toArray, List.set_cons_zero, List.set_cons_succ]
      refine wpAnyH_take (i := 21) (oi := isO21) (v := .bool false) rfl (by kernel_rfl) (by kernel_rfl) (by kernel_rfl) (fun _ _ _ h => h) (Or.inl ⟨by rfl, ?_⟩) (by assumption) ?_
      · intro w8 hS8
        (try dsimp only at hS8)
        dsimp only [isO21]
        (first | (go_simp; done) | (go_simp; simp_all; done) | (simp_all [go_sem]; done))
      try simp only [Act.put, isO21, List.setIfInBounds_toArray, List.set_cons_zero, List.set_cons_succ]
      refine held_skip (i := 22) (oi := isO22) rfl (by kernel_rfl) (by kernel_rfl) (by kernel_rfl) (fun _ _ _ h => h) (by rfl) (by assumption) ?_
      try simp only [Act.put, isO22, List.setIfInBounds_toArray, List.set_cons_zero, List.set_cons_succ]
      refine held_skip (i := 23) (oi := isO23) rfl (by kernel_rfl) (by kernel_rfl) (by kernel_rfl) (fun _ _ _ h => h) (by rfl) (by assumption) ?_
      try simp only [Act.put, isO23, List.setIfInBounds_toArray, List.set_cons_zero, List.set_cons_succ]
      refine held_skip (i := 24) (oi := isO24) rfl (by kernel_rfl) (by kernel_rfl) (by kernel_rfl) (fun _ _ _ h => h) (by rfl) (by assumption) ?_
      try simp only [Act.put, isO24, List.setIfInBounds_toArray, List.set_cons_zero, List.set_cons_succ]
      refine wpAnyH_take (i := 25) (oi := isO25) (v := .bool false) rfl (by kernel_rfl) (by kernel_rfl) (by kernel_rfl) (fun _ _ _ h => h) (Or.inl ⟨by rfl, ?_⟩) (by assumption) ?_
      · intro w8 hS8
        (try dsimp only at hS8)
        dsimp only [isO25]
        (first | (go_simp; done) | (go_simp; simp_all; done) | (simp_all [go_sem]; done))
      try simp only [Act.put, isO25, List.setIfInBounds_toArray, List.set_cons_zero, List.set_cons_succ]
      refine wpAnyH_take (i := 26) (oi := isO26) (v := .bool false) rfl (by kernel_rfl) (by kernel_rfl) (by kernel_rfl) (fun _ _ _ h => h) (Or.inl ⟨by rfl, ?_⟩) (by assumption) ?_
      · intro w8 hS8
        (try dsimp only at hS8)
        dsimp only [isO26]
        (first | (go_simp; done) | (go_simp; simp_all; done) | (simp_all [go_sem]; done))
      try simp only [Act.put, isO26, List.setIfInBounds_toArray, List.set_cons_zero, List.set_cons_succ]
      refine held_skip (i := 27) (oi := isO27) rfl (by kernel_rfl) (by kernel_rfl) (by kernel_rfl) (fun _ _ _ h => h) (by rfl) (by assumption) ?_
      try simp only [Act.put, isO27, List.setIfInBounds_toArray, List.set_cons_zero, List.set_cons_succ]
      refine held_skip (i := 28) (oi := isO28) rfl (by kernel_rfl) (by kernel_rfl) (by kernel_rfl) (fun _ _ _ h => h) (by rfl) (by assumption) ?_
      try simp only [Act.put, isO28, List.setIfInBounds_toArray, List.set_cons_zero, List.set_cons_succ]
      refine held_skip (i := 29) (oi := isO29) rfl (by kernel_rfl) (by kernel_rfl) (by kernel_rfl) (fun _ _ _ h => h) (by rfl) (by assumption) ?_
      try simp only [Act.put, isO29, List.setIfInBounds_toArray, List.set_cons_zero, List.set_cons_succ]
      refine held_skip (i := 30) (oi := isO30) rfl (by kernel_rfl) (by kernel_rfl) (by kernel_rfl) (fun _ _ _ h => h) (by rfl) (by assumption) ?_
      try simp only [Act.put, isO30, List.setIfInBounds_toArray, List.set_cons_zero, List.set_cons_succ]
      refine held_skip (i := 31) (oi := isO31) rfl (by kernel_rfl) (by kernel_rfl) (by kernel_rfl) (fun _ _ _ h => h) (by rfl) (by assumption) ?_
      try simp only [Act.put, isO31, List.setIfInBounds_toArray, List.set_cons_zero, List.set_cons_succ]
      refine wpAnyH_take (i := 32) (oi := isO32) (v := .bool false) rfl (by kernel_rfl) (by kernel_rfl) (by kernel_rfl) (fun _ _ _ h => h) (Or.inl ⟨by rfl, ?_⟩) (by assumption) ?_
      · intro w8 hS8
        (try dsimp only at hS8)
        dsimp only [isO32]
        (first | (go_simp; done) | (go_simp; simp_all; done) | (simp_all [go_sem]; done))
      try simp only [Act.put, isO32, List.setIfInBounds_toArray, List.set_cons_zero, List.set_cons_succ]
      refine wpAnyH_take (i := 33) (oi := isO33) (v := .bool false) rfl (by kernel_rfl) (by kernel_rfl) (by kernel_rfl) (fun _ _ _ h => h) (Or.inl ⟨by rfl, ?_⟩) (by assumption) ?_
      · intro w8 hS8
        (try dsimp only at hS8)
        dsimp only [isO33]
        (first | (go_simp; done) | (go_simp; simp_all; done) | (simp_all [go_sem]; done))
      try simp only [Act.put, isO33, List.setIfInBounds_toArray, List.set_cons_zero, List.set_cons_succ]
      refine held_skip (i := 34) (oi := isO34) rfl (by kernel_rfl) (by kernel_rfl) (by kernel_rfl) (fun _ _ _ h => h) (by rfl) (by assumption) ?_
      try simp only [Act.put, isO34, List.setIfInBounds_toArray, List.set_cons_zero, List.set_cons_succ]
      refine held_skip (i := 35) (oi := isO35) rfl (by kernel_rfl) (by kernel_rfl) (by kernel_rfl) (fun _ _ _ h => h) (by rfl) (by assumption) ?_
      try simp only [Act.put, isO35, List.setIfInBounds_toArray, List.set_cons_zero, List.set_cons_succ]
      refine held_skip (i := 36) (oi := isO36) rfl (by kernel_rfl) (by kernel_rfl) (by kernel_rfl) (fun _ _ _ h => h) (by rfl) (by assumption) ?_
      try simp only [Act.put, isO36, List.setIfInBounds_toArray, List.set_cons_zero, List.set_cons_succ]
      refine wpAnyH_take (i := 37) (oi := isO37) (v := .bool false) rfl (by kernel_rfl) (by kernel_rfl) (by kernel_rfl) (fun _ _ _ h => h) (Or.inl ⟨by rfl, ?_⟩) (by assumption) ?_
      · intro w8 hS8
        (try dsimp only at hS8)
        dsimp only [isO37]
        (first | (go_simp; done) | (go_simp; simp_all; done) | (simp_all [go_sem]; done))
      try simp only [Act.put, isO37, List.setIfInBounds_toArray, List.set_cons_zero, List.set_cons_succ]
      refine wpAnyH_take (i := 38) (oi := isO38) (v := .bool false) rfl (by kernel_rfl) (by kernel_rfl) (by kernel_rfl) (fun _ _ _ h => h) (Or.inl ⟨by rfl, ?_⟩) (by assumption) ?_
      · intro w8 hS8
        (try dsimp only at hS8)
        dsimp only [isO38]
        (first | (go_simp; done) | (go_simp; simp_all; done) | (simp_all [go_sem]; done))
      try simp only [Act.put, isO38, List.setIfInBounds_toArray, List.set_cons_zero, List.set_cons_succ]
      refine wpAnyH_done (by kernel_rfl) ?_ _

      have KE := KQ.out.step (kn7_b hH1)
      go_wp2
      go_ret
      exact ⟨by rw [AN.out]; rfl, KE.1⟩
    · skip
      have HB : Hid (0 ≤ b ∧ b ≤ 20) := (by have := of_decide_eq_true H1.out.symm; omega : 0 ≤ b ∧ b ≤ 20)
      cases q2
      · skip
        have AN := Lib.hid (show smB S = false from smB_false (fun h => hgB_not H2.out.symm (by have h9 := h.2.1; rw [HS.out] at h9; exact h9)))
        go_enter Try.func60, Try.ntmps60
        have K0 := (Kept.start w).alloc7 (.int .i64 b) (.int .i64 c) (.int .i64 u) (.int .i64 mn) (.int .i64 mx) (.int .i64 sm) (.slice ao n cap) 77 _ rfl
        go_upto_region 1 with fail
        obtain ⟨w1, hw1⟩ : ∃ w1, w1 = w.alloc (.cells #[.int .i64 b, .int .i64 c, .int .i64 u, .int .i64 mn, .int .i64 mx, .int .i64 sm, .slice ao n cap] 77) := ⟨_, rfl⟩
        rw [← hw1] at K0 ⊢
        clear hw1
        have KQ := Lib.hid K0
        have HQ := Lib.hid (HV.out.below K0.1)
        clear K0
        refine wp_region_held_drew (S := fun w' => w'.cell? ⟨w.heap.size, 0, none⟩ = some (.int .i64 b) ∧ w'.cell? ⟨w.heap.size, 1, none⟩ = some (.int .i64 c) ∧ w'.cell? ⟨w.heap.size, 2, none⟩ = some (.int .i64 u) ∧ w'.cell? ⟨w.heap.size, 3, none⟩ = some (.int .i64 mn) ∧ w'.cell? ⟨w.heap.size, 4, none⟩ = some (.int .i64 mx) ∧ w'.cell? ⟨w.heap.size, 5, none⟩ = some (.int .i64 sm) ∧ w'.cell? ⟨w.heap.size, 6, none⟩ = some (.slice ao n cap) ∧ Below w1.heap.size w1 w') (by kernel_rfl) (kn7_at KQ.out (Below.refl _ _).drew) (fun hHeld => ?_)
        refine wpAnyH_take (i := 0) (oi := isO0) (v := .pointer (some ⟨w.heap.size, 0, none⟩)) rfl (by kernel_rfl) (by kernel_rfl) (by kernel_rfl) (fun _ _ _ h => h) (Or.inl ⟨by rfl, ?_⟩) (by assumption) ?_
        · intro w8 hS8
          (try dsimp only at hS8)
          dsimp only [isO0]
          (first | (go_simp; done) | (go_simp; simp_all; done) | (simp_all [go_sem]; done))
        try simp only [Act.put, isO0, List.setIfInBounds_toArray, List.set_cons_zero, List.set_cons_succ]
        refine wpAnyH_take (i := 1) (oi := isO1) (v := .int .i64 b) rfl (by kernel_rfl) (by kernel_rfl) (by kernel_rfl) (fun _ _ _ h => h) (Or.inl ⟨by rfl, ?_⟩) (by assumption) ?_
        · intro w8 hS8
          (try dsimp only at hS8)
          dsimp only [isO1]
          (first | (go_simp; done) | (go_simp; simp_all; done) | (simp_all [go_sem]; done))
        try simp only [Act.put, isO1, List.setIfInBounds_toArray, List.set_cons_zero, List.set_cons_succ]
        refine wpAnyH_take (i := 2) (oi := isO2) (v := .bool false) rfl (by kernel_rfl) (by kernel_rfl) (by kernel_rfl) (fun _ _ _ h => h) (Or.inl ⟨by rfl, ?_⟩) (by assumption) ?_
        · intro w8 hS8
          (try dsimp only at hS8)
          dsimp only [isO2]
          (first | (go_simp; done) | (go_simp; simp_all; done) | (simp_all [go_sem]; done))
        try simp only [Act.put, isO2, List.setIfInBounds_toArray, List.set_cons_zero, List.set_cons_succ]
        refine wpAnyH_take (i := 3) (oi := isO3) (v := .bool false) rfl (by kernel_rfl) (by kernel_rfl) (by kernel_rfl) (fun _ _ _ h => h) (Or.inl ⟨by rfl, ?_⟩) (by assumption) ?_
        · intro w8 hS8
          (try dsimp only at hS8)
          dsimp only [isO3]
          (first | (go_simp; done) | (go_simp; simp_all; done) | (simp_all [go_sem]; done))
        try simp only [Act.put, isO3, List.setIfInBounds_toArray, List.set_cons_zero, List.set_cons_succ]
        refine wpAnyH_take (i := 4) (oi := isO4) (v := .pointer (some ⟨w.heap.size, 0, none⟩)) rfl (by kernel_rfl) (by kernel_rfl) (by kernel_rfl) (fun _ _ _ h => h) (Or.inl ⟨by rfl, ?_⟩) (by assumption) ?_
        · intro w8 hS8
          (try dsimp only at hS8)
          dsimp only [isO4]
          (first | (go_simp; done) | (go_simp; simp_all; done) | (simp_all [go_sem]; done))
        try simp only [Act.put, isO4, List.setIfInBounds_toArray, List.set_cons_zero, List.set_cons_succ]
        refine wpAnyH_take (i := 5) (oi := isO5) (v := .int .i64 b) rfl (by kernel_rfl) (by kernel_rfl) (by kernel_rfl) (fun _ _ _ h => h) (Or.inl ⟨by rfl, ?_⟩) (by assumption) ?_
        · intro w8 hS8
          (try dsimp only at hS8)
          dsimp only [isO5]
          (first | (go_simp; done) | (go_simp; simp_all; done) | (simp_all [go_sem]; done))
        try simp only [Act.put, isO5, List.setIfInBounds_toArray, List.set_cons_zero, List.set_cons_succ]
        refine wpAnyH_ready (rs := [6]) (by kernel_rfl) (by simp) ?_
        refine AllReadyH.cons (o := isO6) rfl (fun K hK => ?_) AllReadyH.nil
        dsimp only [isO6]
        go_simp
        go_at_call 118
        (with_reducible refine (DD1.out _).mono ?_)
        rintro e9 w91 ⟨rfl, hb1⟩
        refine hK.out _ _ ?_ (fun hH1 => ?_)
        · exact kn7_keep KQ.out hHeld hb1
        clear hK K
        try simp only [Act.put, isO6, List.setIfInBounds_toArray, List.set_cons_zero, List.set_cons_succ]
        refine wpAnyH_take (i := 7) (oi := isO7) (v := .bool true) rfl (by kernel_rfl) (by kernel_rfl) (by kernel_rfl) (fun _ _ _ h => h) (Or.inl ⟨by rfl, ?_⟩) (by assumption) ?_
        · intro w8 hS8
          (try dsimp only at hS8)
          dsimp only [isO7]
          (first | (go_simp; done) | (go_simp; simp_all; done) | (simp_all [go_sem]; done))
        try simp only [Act.put, isO7, List.setIfInBounds_toArray, List.set_cons_zero, List.set_cons_succ]
        refine wpAnyH_take (i := 8) (oi := isO8) (v := .bool true) rfl (by kernel_rfl) (by kernel_rfl) (by kernel_rfl) (fun _ _ _ h => h) (Or.inl ⟨by rfl, ?_⟩) (by assumption) ?_
        · intro w8 hS8
          (try dsimp only at hS8)
          dsimp only [isO8]
          (first | (go_simp; done) | (go_simp; simp_all; done) | (simp_all [go_sem]; done))
        try simp only [Act.put, isO8, List.setIfInBounds_toArray, List.set_cons_zero, List.set_cons_succ]
        refine wpAnyH_take (i := 9) (oi := isO9) (v := .pointer (some ⟨w.heap.size, 6, none⟩)) rfl (by kernel_rfl) (by kernel_rfl) (by kernel_rfl) (fun _ _ _ h => h) (Or.inl ⟨by rfl, ?_⟩) (by assumption) ?_
        · intro w8 hS8
          (try dsimp only at hS8)
          dsimp only [isO9]
          (first | (go_simp; done) | (go_simp; simp_all; done) | (simp_all [go_sem]; done))
        try simp only [Act.put, isO9, List.setIfInBounds_toArray, List.set_cons_zero, List.set_cons_succ]
        refine wpAnyH_take (i := 10) (oi := isO10) (v := .slice ao n cap) rfl (by kernel_rfl) (by kernel_rfl) (by kernel_rfl) (fun _ _ _ h => h) (Or.inl ⟨by rfl, ?_⟩) (by assumption) ?_
        · intro w8 hS8
          (try dsimp only at hS8)
          dsimp only [isO10]
          (first | (go_simp; done) | (go_simp; simp_all; done) | (simp_all [go_sem]; done))
        try simp only [Act.put, isO10, List.setIfInBounds_toArray, List.set_cons_zero, List.set_cons_succ]
        refine wpAnyH_ready (rs := [11]) (by kernel_rfl) (by simp) ?_
        refine AllReadyH.cons (o := isO11) rfl (fun K hK => ?_) AllReadyH.nil
        dsimp only [isO11]
        go_simp
        go_at_call 37
        (with_reducible refine (DD2.out _ (HQ.out.below (kn7_b hH1))).mono ?_)
        rintro e9 w92 ⟨rfl, hb2⟩
        refine hK.out _ _ ?_ (fun hH2 => ?_)
        · exact kn7_keep KQ.out hH1 hb2
        clear hK K
        try simp only [Act.put, isO11, List.setIfInBounds_toArray, List.set_cons_zero, List.set_cons_succ]
        refine wpAnyH_take (i := 12) (oi := isO12) (v := .bool false) rfl (by kernel_rfl) (by kernel_rfl) (by kernel_rfl) (fun _ _ _ h => h) (Or.inl ⟨by rfl, ?_⟩) (by assumption) ?_
        · intro w8 hS8
          (try dsimp only at hS8)
          dsimp only [isO12]
          (first | (go_simp; done) | (go_simp; simp_all; done) | (simp_all [go_sem]; done))
        try simp only [Act.put, isO12, List.setIfInBounds_toArray, List.set_cons_zero, List.set_cons_succ]
        refine wpAnyH_take (i := 13) (oi := isO13) (v := .bool false) rfl (by kernel_rfl) (by kernel_rfl) (by kernel_rfl) (fun _ _ _ h => h) (Or.inl ⟨by rfl, ?_⟩) (by assumption) ?_
        · intro w8 hS8
          (try dsimp only at hS8)
          dsimp only [isO13]
          (first | (go_simp; done) | (go_simp; simp_all; done) | (simp_all [go_sem]; done))
        try simp only [Act.put, isO13, List.setIfInBounds_toArray, List.set_cons_zero, List.set_cons_succ]
        refine held_skip (i := 14) (oi := isO14) rfl (by kernel_rfl) (by kernel_rfl) (by kernel_rfl) (fun _ _ _ h => h) (by rfl) (by assumption) ?_
        try simp only [Act.put, isO14, List.setIfInBounds_toArray, List.set_cons_zero, List.set_cons_succ]
        refine held_skip (i := 15) (oi := isO15) rfl (by kernel_rfl) (by kernel_rfl) (by kernel_rfl) (fun _ _ _ h => h) (by rfl) (by assumption) ?_
        try simp only [Act.put, isO15, List.setIfInBounds_toArray, List.set_cons_zero, List.set_cons_succ]
        refine held_skip (i := 16) (oi := isO16) rfl (by kernel_rfl) (by kernel_rfl) (by kernel_rfl) (fun _ _ _ h => h) (by rfl) (by assumption) ?_
        try simp only [Act.put, isO16, List.setIfInBounds_toArray, List.set_cons_zero, List.set_cons_succ]
        refine held_skip (i := 17) (oi := isO17) rfl (by kernel_rfl) (by kernel_rfl) (by kernel_rfl) (fun _ _ _ h => h) (by rfl) (by assumption) ?_
        try simp only [Act.put, isO17, List.setIfInBounds_toArray, List.set_cons_zero, List.set_cons_succ]
        refine held_skip (i := 18) (oi := isO18) rfl (by kernel_rfl) (by kernel_rfl) (by kernel_rfl) (fun _ _ _ h => h) (by rfl) (by assumption) ?_
        try simp only [Act.put, isO18, List.setIfInBounds_toArray, List.set_cons_zero, List.set_cons_succ]
        refine held_skip (i := 19) (oi := isO19) rfl (by kernel_rfl) (by kernel_rfl) (by kernel_rfl) (fun _ _ _ h => h) (by rfl) (by assumption) ?_
        try simp only [Act.put, isO19, List.setIfInBounds_toArray, List.set_cons_zero, List.set_cons_succ]
        refine wpAnyH_take (i := 20) (oi := isO20) (v := .bool false) rfl (by kernel_rfl) (by kernel_rfl) (by kernel_rfl) (fun _ _ _ h => h) (Or.inl ⟨by rfl, ?_⟩) (by assumption) ?_
        · intro w8 hS8
          (try dsimp only at hS8)
          dsimp only [isO20]
          (first | (go_simp; done) | (go_simp; simp_all; done) | (simp_all [go_sem]; done))
        try simp only [Act.put, isO20, List.setIfInBounds_toArray, List.set_cons_zero, List.set_cons_succ]
        refine wpAnyH_take (i := 21) (oi := isO21) (v := .bool false) rfl (by kernel_rfl) (by kernel_rfl) (by kernel_rfl) (fun _ _ _ h => h) (Or.inl ⟨by rfl, ?_⟩) (by assumption) ?_
        · intro w8 hS8
          (try dsimp only at hS8)
          dsimp only [isO21]
          (first | (go_simp; done) | (go_simp; simp_all; done) | (simp_all [go_sem]; done))
        try simp only [Act.put, isO21, List.setIfInBounds_toArray, List.set_cons_zero, List.set_cons_succ]
        refine held_skip (i := 22) (oi := isO22) rfl (by kernel_rfl) (by kernel_rfl) (by kernel_rfl) (fun _ _ _ h => h) (by rfl) (by assumption) ?_
        try simp only [Act.put, isO22, List.setIfInBounds_toArray, List.set_cons_zero, List.set_cons_succ]
        refine held_skip (i := 23) (oi := isO23) rfl (by kernel_rfl) (by kernel_rfl) (by kernel_rfl) (fun _ _ _ h => h) (by rfl) (by assumption) ?_
        try simp only [Act.put, isO23, List.setIfInBounds_toArray, List.set_cons_zero, List.set_cons_succ]
        refine held_skip (i := 24) (oi := isO24) rfl (by kernel_rfl) (by kernel_rfl) (by kernel_rfl) (fun _ _ _ h => h) (by rfl) (by assumption) ?_
        try simp only [Act.put, isO24, List.setIfInBounds_toArray, List.set_cons_zero, List.set_cons_succ]
        refine wpAnyH_take (i := 25) (oi := isO25) (v := .bool false) rfl (by kernel_rfl) (by kernel_rfl) (by kernel_rfl) (fun _ _ _ h => h) (Or.inl ⟨by rfl, ?_⟩) (by assumption) ?_
        · intro w8 hS8
          (try dsimp only at hS8)
          dsimp only [isO25]
          (first | (go_simp; done) | (go_simp; simp_all; done) | (simp_all [go_sem]; done))
        try simp only [Act.put, isO25, List.setIfInBounds_toArray, List.set_cons_zero, List.set_cons_succ]
        refine wpAnyH_take (i := 26) (oi := isO26) (v := .bool false) rfl (by kernel_rfl) (by kernel_rfl) (by kernel_rfl) (fun _ _ _ h => h) (Or.inl ⟨by rfl, ?_⟩) (by assumption) ?_
        · intro w8 hS8
          (try dsimp only at hS8)
          dsimp only [isO26]
          (first | (go_simp; done) | (go_simp; simp_all; done) | (simp_all [go_sem]; done))
        try simp only [Act.put, isO26, List.setIfInBounds_toArray, List.set_cons_zero, List.set_cons_succ]
        refine held_skip (i := 27) (oi := isO27) rfl (by kernel_rfl) (by kernel_rfl) (by kernel_rfl) (fun _ _ _ h => h) (by rfl) (by assumption) ?_
        try simp only [Act.put, isO27, List.setIfInBounds_toArray, List.set_cons_zero, List.set_cons_succ]
        refine held_skip (i := 28) (oi := isO28) rfl (by kernel_rfl) (by kernel_rfl) (by kernel_rfl) (fun _ _ _ h => h) (by rfl) (by assumption) ?_
        try simp only [Act.put, isO28, List.setIfInBounds_toArray, List.set_cons_zero, List.set_cons_succ]
        refine held_skip (i := 29) (oi := isO29) rfl (by kernel_rfl) (by kernel_rfl) (by kernel_rfl) (fun _ _ _ h => h) (by rfl) (by assumption) ?_
        try simp only [Act.put, isO29, List.setIfInBounds_toArray, List.set_cons_zero, List.set_cons_succ]
        refine held_skip (i := 30) (oi := isO30) rfl (by kernel_rfl) (by kernel_rfl) (by kernel_rfl) (fun _ _ _ h => h) (by rfl) (by assumption) ?_
        try simp only [Act.put, isO30, List.setIfInBounds_toArray, List.set_cons_zero, List.set_cons_succ]
        refine held_skip (i := 31) (oi := isO31) rfl (by kernel_rfl) (by kernel_rfl) (by kernel_rfl) (fun _ _ _ h => h) (by rfl) (by assumption) ?_
        try simp only [Act.put, isO31, List.setIfInBounds_toArray, List.set_cons_zero, List.set_cons_succ]
        refine wpAnyH_take (i := 32) (oi := isO32) (v := .bool false) rfl (by kernel_rfl) (by kernel_rfl) (by kernel_rfl) (fun _ _ _ h => h) (Or.inl ⟨by rfl, ?_⟩) (by assumption) ?_
        · intro w8 hS8
          (try dsimp only at hS8)
          dsimp only [isO32]
          (first | (go_simp; done) | (go_simp; simp_all; done) | (simp_all [go_sem]; done))
        try simp only [Act.put, isO32, List.setIfInBounds_toArray, List.set_cons_zero, List.set_cons_succ]
        refine wpAnyH_take (i := 33) (oi := isO33) (v := .bool false) rfl (by kernel_rfl) (by kernel_rfl) (by kernel_rfl) (fun _ _ _ h => h) (Or.inl ⟨by rfl, ?_⟩) (by assumption) ?_
        · intro w8 hS8
          (try dsimp only at hS8)
          dsimp only [isO33]
          (first | (go_simp; done) | (go_simp; simp_all; done) | (simp_all [go_sem]; done))
        try simp only [Act.put, isO33, List.setIfInBounds_toArray, List.set_cons_zero, List.set_cons_succ]
        refine held_skip (i := 34) (oi := isO34) rfl (by kernel_rfl) (by kernel_rfl) (by kernel_rfl) (fun _ _ _ h => h) (by rfl) (by assumption) ?_
        try simp only [Act.put, isO34, List.setIfInBounds_toArray, List.set_cons_zero, List.set_cons_succ]
        refine held_skip (i := 35) (oi := isO35) rfl (by kernel_rfl) (by kernel_rfl) (by kernel_rfl) (fun _ _ _ h => h) (by rfl) (by assumption) ?_
        try simp only [Act.put, isO35, List.setIfInBounds_toArray, List.set_cons_zero, List.set_cons_succ]
        refine held_skip (i := 36) (oi := isO36) rfl (by kernel_rfl) (by kernel_rfl) (by kernel_rfl) (fun _ _ _ h => h) (by rfl) (by assumption) ?_
        try simp only [Act.put, isO36, List.setIfInBounds_toArray, List.set_cons_zero, List.set_cons_succ]
        refine wpAnyH_take (i := 37) (oi := isO37) (v := .bool false) rfl (by kernel_rfl) (by kernel_rfl) (by kernel_rfl) (fun _ _ _ h => h) (Or.inl ⟨by rfl, ?_⟩) (by assumption) ?_
        · intro w8 hS8
          (try dsimp only at hS8)
          dsimp only [isO37]
          (first | (go_simp; done) | (go_simp; simp_all; done) | (simp_all [go_sem]; done))
        try simp only [Act.put, isO37, List.setIfInBounds_toArray, List.set_cons_zero, List.set_cons_succ]
        refine wpAnyH_take (i := 38) (oi := isO38) (v := .bool false) rfl (by kernel_rfl) (by kernel_rfl) (by kernel_rfl) (fun _ _ _ h => h) (Or.inl ⟨by rfl, ?_⟩) (by assumption) ?_
        · intro w8 hS8
          (try dsimp only at hS8)
          dsimp only [isO38]
          (first | (go_simp; done) | (go_simp; simp_all; done) | (simp_all [go_sem]; done))
        try simp only [Act.put, isO38, List.setIfInBounds_toArray, List.set_cons_zero, List.set_cons_succ]
        refine wpAnyH_done (by kernel_rfl) ?_ _

        have KE := KQ.out.step (kn7_b hH2)
        go_wp2
        go_ret
        exact ⟨by rw [AN.out]; rfl, KE.1⟩
      · skip
        have HO := Lib.hid (hgB_of H2.out.symm)
        have HTS := Lib.hid (show t = hsum l from HT.out.trans (totH_of HO.out))
        have ht : t ≤ 99 := by rw [HTS.out]; exact HO.out.2.2
        by_cases h3 : c = t
        · skip
          have q3 : (c == t) = true := beq_iff_eq.2 h3
          by_cases hu0 : 0 ≤ u
          · skip
            have e0 : decide (0 ≤ u) = true := decide_eq_true hu0
            by_cases hu1 : u ≤ c
            · skip
              have e1 : decide (u ≤ c) = true := decide_eq_true hu1
              have SPO := Lib.hid (fun w => impl_spOf b c u mn mx sm (.slice ao n cap) w hu0 hu1 (by omega))
              obtain ⟨k, hk⟩ : ∃ k, k = c - u := ⟨_, rfl⟩
              rw [← hk] at SPO
              have hk0 : 0 ≤ k := by omega
              have hk1 : k ≤ 99 := by omega
              have SPV := fun w => impl_spV k mn mx sm w hk0 hk1
              obtain ⟨q5, hq5⟩ : ∃ q, q = spB ⟨k, mn, mx, sm⟩ := ⟨_, rfl⟩
              simp only [← hq5] at SPV
              have HSPV := Lib.hid SPV
              have AN := Lib.hid (show smB S = q5 by
                rw [hq5]
                by_cases hp : SpOk ⟨k, mn, mx, sm⟩
                · rw [spB_true hp]
                  exact smB_true (by rw [HS.out]; exact ⟨HB.out, HO.out, h3.trans HTS.out, ⟨hu0, hu1⟩, by unfold Sm.sp; simp only; rw [← hk]; exact hp⟩)
                · rw [spB_false hp]
                  exact smB_false (fun h => hp (by have h9 := h.2.2.2.2; rw [HS.out] at h9; unfold Sm.sp at h9; simp only at h9; rw [← hk] at h9; exact h9)))
              clear hk hq5 SPV h3 ht hk0 hk1 hu0 hu1
              go_enter Try.func60, Try.ntmps60
              have K0 := (Kept.start w).alloc7 (.int .i64 b) (.int .i64 c) (.int .i64 u) (.int .i64 mn) (.int .i64 mx) (.int .i64 sm) (.slice ao n cap) 77 _ rfl
              go_upto_region 1 with fail
              obtain ⟨w1, hw1⟩ : ∃ w1, w1 = w.alloc (.cells #[.int .i64 b, .int .i64 c, .int .i64 u, .int .i64 mn, .int .i64 mx, .int .i64 sm, .slice ao n cap] 77) := ⟨_, rfl⟩
              rw [← hw1] at K0 ⊢
              clear hw1
              have KQ := Lib.hid K0
              have HQ := Lib.hid (HV.out.below K0.1)
              clear K0
              refine wp_region_held_drew (S := fun w' => w'.cell? ⟨w.heap.size, 0, none⟩ = some (.int .i64 b) ∧ w'.cell? ⟨w.heap.size, 1, none⟩ = some (.int .i64 c) ∧ w'.cell? ⟨w.heap.size, 2, none⟩ = some (.int .i64 u) ∧ w'.cell? ⟨w.heap.size, 3, none⟩ = some (.int .i64 mn) ∧ w'.cell? ⟨w.heap.size, 4, none⟩ = some (.int .i64 mx) ∧ w'.cell? ⟨w.heap.size, 5, none⟩ = some (.int .i64 sm) ∧ w'.cell? ⟨w.heap.size, 6, none⟩ = some (.slice ao n cap) ∧ Below w1.heap.size w1 w') (by kernel_rfl) (kn7_at KQ.out (Below.refl _ _).drew) (fun hHeld => ?_)
              refine wpAnyH_take (i := 0) (oi := isO0) (v := .pointer (some ⟨w.heap.size, 0, none⟩)) rfl (by kernel_rfl) (by kernel_rfl) (by kernel_rfl) (fun _ _ _ h => h) (Or.inl ⟨by rfl, ?_⟩) (by assumption) ?_
              · intro w8 hS8
                (try dsimp only at hS8)
                dsimp only [isO0]
                (first | (go_simp; done) | (go_simp; simp_all; done) | (simp_all [go_sem]; done))
              try simp only [Act.put, isO0, List.setIfInBounds_toArray, List.set_cons_zero, List.set_cons_succ]
              refine wpAnyH_take (i := 1) (oi := isO1) (v := .int .i64 b) rfl (by kernel_rfl) (by kernel_rfl) (by kernel_rfl) (fun _ _ _ h => h) (Or.inl ⟨by rfl, ?_⟩) (by assumption) ?_
              · intro w8 hS8
                (try dsimp only at hS8)
                dsimp only [isO1]
                (first | (go_simp; done) | (go_simp; simp_all; done) | (simp_all [go_sem]; done))
              try simp only [Act.put, isO1, List.setIfInBounds_toArray, List.set_cons_zero, List.set_cons_succ]
              refine wpAnyH_take (i := 2) (oi := isO2) (v := .bool false) rfl (by kernel_rfl) (by kernel_rfl) (by kernel_rfl) (fun _ _ _ h => h) (Or.inl ⟨by rfl, ?_⟩) (by assumption) ?_
              · intro w8 hS8
                (try dsimp only at hS8)
                dsimp only [isO2]
                (first | (go_simp; done) | (go_simp; simp_all; done) | (simp_all [go_sem]; done))
              try simp only [Act.put, isO2, List.setIfInBounds_toArray, List.set_cons_zero, List.set_cons_succ]
              refine wpAnyH_take (i := 3) (oi := isO3) (v := .bool false) rfl (by kernel_rfl) (by kernel_rfl) (by kernel_rfl) (fun _ _ _ h => h) (Or.inl ⟨by rfl, ?_⟩) (by assumption) ?_
              · intro w8 hS8
                (try dsimp only at hS8)
                dsimp only [isO3]
                (first | (go_simp; done) | (go_simp; simp_all; done) | (simp_all [go_sem]; done))
              try simp only [Act.put, isO3, List.setIfInBounds_toArray, List.set_cons_zero, List.set_cons_succ]
              refine wpAnyH_take (i := 4) (oi := isO4) (v := .pointer (some ⟨w.heap.size, 0, none⟩)) rfl (by kernel_rfl) (by kernel_rfl) (by kernel_rfl) (fun _ _ _ h => h) (Or.inl ⟨by rfl, ?_⟩) (by assumption) ?_
              · intro w8 hS8
                (try dsimp only at hS8)
                dsimp only [isO4]
                (first | (go_simp; done) | (go_simp; simp_all; done) | (simp_all [go_sem]; done))
              try simp only [Act.put, isO4, List.setIfInBounds_toArray, List.set_cons_zero, List.set_cons_succ]
              refine wpAnyH_take (i := 5) (oi := isO5) (v := .int .i64 b) rfl (by kernel_rfl) (by kernel_rfl) (by kernel_rfl) (fun _ _ _ h => h) (Or.inl ⟨by rfl, ?_⟩) (by assumption) ?_
              · intro w8 hS8
                (try dsimp only at hS8)
                dsimp only [isO5]
                (first | (go_simp; done) | (go_simp; simp_all; done) | (simp_all [go_sem]; done))
              try simp only [Act.put, isO5, List.setIfInBounds_toArray, List.set_cons_zero, List.set_cons_succ]
              refine wpAnyH_ready (rs := [6]) (by kernel_rfl) (by simp) ?_
              refine AllReadyH.cons (o := isO6) rfl (fun K hK => ?_) AllReadyH.nil
              dsimp only [isO6]
              go_simp
              go_at_call 118
              (with_reducible refine (DD1.out _).mono ?_)
              rintro e9 w91 ⟨rfl, hb1⟩
              refine hK.out _ _ ?_ (fun hH1 => ?_)
              · exact kn7_keep KQ.out hHeld hb1
              clear hK K
              try simp only [Act.put, isO6, List.setIfInBounds_toArray, List.set_cons_zero, List.set_cons_succ]
              refine wpAnyH_take (i := 7) (oi := isO7) (v := .bool true) rfl (by kernel_rfl) (by kernel_rfl) (by kernel_rfl) (fun _ _ _ h => h) (Or.inl ⟨by rfl, ?_⟩) (by assumption) ?_
              · intro w8 hS8
                (try dsimp only at hS8)
                dsimp only [isO7]
                (first | (go_simp; done) | (go_simp; simp_all; done) | (simp_all [go_sem]; done))
              try simp only [Act.put, isO7, List.setIfInBounds_toArray, List.set_cons_zero, List.set_cons_succ]
              refine wpAnyH_take (i := 8) (oi := isO8) (v := .bool true) rfl (by kernel_rfl) (by kernel_rfl) (by kernel_rfl) (fun _ _ _ h => h) (Or.inl ⟨by rfl, ?_⟩) (by assumption) ?_
              · intro w8 hS8
                (try dsimp only at hS8)
                dsimp only [isO8]
                (first | (go_simp; done) | (go_simp; simp_all; done) | (simp_all [go_sem]; done))
              try simp only [Act.put, isO8, List.setIfInBounds_toArray, List.set_cons_zero, List.set_cons_succ]
              refine wpAnyH_take (i := 9) (oi := isO9) (v := .pointer (some ⟨w.heap.size, 6, none⟩)) rfl (by kernel_rfl) (by kernel_rfl) (by kernel_rfl) (fun _ _ _ h => h) (Or.inl ⟨by rfl, ?_⟩) (by assumption) ?_
              · intro w8 hS8
                (try dsimp only at hS8)
                dsimp only [isO9]
                (first | (go_simp; done) | (go_simp; simp_all; done) | (simp_all [go_sem]; done))
              try simp only [Act.put, isO9, List.setIfInBounds_toArray, List.set_cons_zero, List.set_cons_succ]
              refine wpAnyH_take (i := 10) (oi := isO10) (v := .slice ao n cap) rfl (by kernel_rfl) (by kernel_rfl) (by kernel_rfl) (fun _ _ _ h => h) (Or.inl ⟨by rfl, ?_⟩) (by assumption) ?_
              · intro w8 hS8
                (try dsimp only at hS8)
                dsimp only [isO10]
                (first | (go_simp; done) | (go_simp; simp_all; done) | (simp_all [go_sem]; done))
              try simp only [Act.put, isO10, List.setIfInBounds_toArray, List.set_cons_zero, List.set_cons_succ]
              refine wpAnyH_ready (rs := [11]) (by kernel_rfl) (by simp) ?_
              refine AllReadyH.cons (o := isO11) rfl (fun K hK => ?_) AllReadyH.nil
              dsimp only [isO11]
              go_simp
              go_at_call 37
              (with_reducible refine (DD2.out _ (HQ.out.below (kn7_b hH1))).mono ?_)
              rintro e9 w92 ⟨rfl, hb2⟩
              refine hK.out _ _ ?_ (fun hH2 => ?_)
              · exact kn7_keep KQ.out hH1 hb2
              clear hK K
              try simp only [Act.put, isO11, List.setIfInBounds_toArray, List.set_cons_zero, List.set_cons_succ]
              refine wpAnyH_take (i := 12) (oi := isO12) (v := .bool true) rfl (by kernel_rfl) (by kernel_rfl) (by kernel_rfl) (fun _ _ _ h => h) (Or.inl ⟨by rfl, ?_⟩) (by assumption) ?_
              · intro w8 hS8
                (try dsimp only at hS8)
                dsimp only [isO12]
                (first | (go_simp; done) | (go_simp; simp_all; done) | (simp_all [go_sem]; done))
              try simp only [Act.put, isO12, List.setIfInBounds_toArray, List.set_cons_zero, List.set_cons_succ]
              refine wpAnyH_take (i := 13) (oi := isO13) (v := .bool true) rfl (by kernel_rfl) (by kernel_rfl) (by kernel_rfl) (fun _ _ _ h => h) (Or.inl ⟨by rfl, ?_⟩) (by assumption) ?_
              · intro w8 hS8
                (try dsimp only at hS8)
                dsimp only [isO13]
                (first | (go_simp; done) | (go_simp; simp_all; done) | (simp_all [go_sem]; done))
              try simp only [Act.put, isO13, List.setIfInBounds_toArray, List.set_cons_zero, List.set_cons_succ]
              refine wpAnyH_take (i := 14) (oi := isO14) (v := .pointer (some ⟨w.heap.size, 1, none⟩)) rfl (by kernel_rfl) (by kernel_rfl) (by kernel_rfl) (fun _ _ _ h => h) (Or.inl ⟨by rfl, ?_⟩) (by assumption) ?_
              · intro w8 hS8
                (try dsimp only at hS8)
                dsimp only [isO14]
                (first | (go_simp; done) | (go_simp; simp_all; done) | (simp_all [go_sem]; done))
              try simp only [Act.put, isO14, List.setIfInBounds_toArray, List.set_cons_zero, List.set_cons_succ]
              refine wpAnyH_take (i := 15) (oi := isO15) (v := .int .i64 c) rfl (by kernel_rfl) (by kernel_rfl) (by kernel_rfl) (fun _ _ _ h => h) (Or.inl ⟨by rfl, ?_⟩) (by assumption) ?_
              · intro w8 hS8
                (try dsimp only at hS8)
                dsimp only [isO15]
                (first | (go_simp; done) | (go_simp; simp_all; done) | (simp_all [go_sem]; done))
              try simp only [Act.put, isO15, List.setIfInBounds_toArray, List.set_cons_zero, List.set_cons_succ]
              refine wpAnyH_take (i := 16) (oi := isO16) (v := .pointer (some ⟨w.heap.size, 6, none⟩)) rfl (by kernel_rfl) (by kernel_rfl) (by kernel_rfl) (fun _ _ _ h => h) (Or.inl ⟨by rfl, ?_⟩) (by assumption) ?_
              · intro w8 hS8
                (try dsimp only at hS8)
                dsimp only [isO16]
                (first | (go_simp; done) | (go_simp; simp_all; done) | (simp_all [go_sem]; done))
              try simp only [Act.put, isO16, List.setIfInBounds_toArray, List.set_cons_zero, List.set_cons_succ]
              refine wpAnyH_take (i := 17) (oi := isO17) (v := .slice ao n cap) rfl (by kernel_rfl) (by kernel_rfl) (by kernel_rfl) (fun _ _ _ h => h) (Or.inl ⟨by rfl, ?_⟩) (by assumption) ?_
              · intro w8 hS8
                (try dsimp only at hS8)
                dsimp only [isO17]
                (first | (go_simp; done) | (go_simp; simp_all; done) | (simp_all [go_sem]; done))
              try simp only [Act.put, isO17, List.setIfInBounds_toArray, List.set_cons_zero, List.set_cons_succ]
              refine wpAnyH_ready (rs := [18]) (by kernel_rfl) (by simp) ?_
              refine AllReadyH.cons (o := isO18) rfl (fun K hK => ?_) AllReadyH.nil
              dsimp only [isO18]
              go_simp
              go_at_call 36
              (with_reducible refine (DD3.out _ (HQ.out.below (kn7_b hH2))).mono ?_)
              rintro e9 w93 ⟨rfl, hb3⟩
              refine hK.out _ _ ?_ (fun hH3 => ?_)
              · exact kn7_keep KQ.out hH2 hb3
              clear hK K
              try simp only [Act.put, isO18, List.setIfInBounds_toArray, List.set_cons_zero, List.set_cons_succ]
              refine wpAnyH_take (i := 19) (oi := isO19) (v := .bool true) rfl (by kernel_rfl) (by kernel_rfl) (by kernel_rfl) (fun _ _ _ h => h) (Or.inl ⟨by rfl, ?_⟩) (by assumption) ?_
              · intro w8 hS8
                (try dsimp only at hS8)
                dsimp only [isO19]
                (first | (go_simp; done) | (go_simp; simp_all; done) | (simp_all [go_sem]; done))
              try simp only [Act.put, isO19, List.setIfInBounds_toArray, List.set_cons_zero, List.set_cons_succ]
              refine wpAnyH_take (i := 20) (oi := isO20) (v := .bool true) rfl (by kernel_rfl) (by kernel_rfl) (by kernel_rfl) (fun _ _ _ h => h) (Or.inl ⟨by rfl, ?_⟩) (by assumption) ?_
              · intro w8 hS8
                (try dsimp only at hS8)
                dsimp only [isO20]
                (first | (go_simp; done) | (go_simp; simp_all; done) | (simp_all [go_sem]; done))
              try simp only [Act.put, isO20, List.setIfInBounds_toArray, List.set_cons_zero, List.set_cons_succ]
              refine wpAnyH_take (i := 21) (oi := isO21) (v := .bool true) rfl (by kernel_rfl) (by kernel_rfl) (by kernel_rfl) (fun _ _ _ h => h) (Or.inl ⟨by rfl, ?_⟩) (by assumption) ?_
              · intro w8 hS8
                (try dsimp only at hS8)
                dsimp only [isO21]
                (first | (go_simp; done) | (go_simp; simp_all; done) | (simp_all [go_sem]; done))
              try simp only [Act.put, isO21, List.setIfInBounds_toArray, List.set_cons_zero, List.set_cons_succ]
              refine wpAnyH_take (i := 22) (oi := isO22) (v := .pointer (some ⟨w.heap.size, 2, none⟩)) rfl (by kernel_rfl) (by kernel_rfl) (by kernel_rfl) (fun _ _ _ h => h) (Or.inl ⟨by rfl, ?_⟩) (by assumption) ?_
              · intro w8 hS8
                (try dsimp only at hS8)
                dsimp only [isO22]
                (first | (go_simp; done) | (go_simp; simp_all; done) | (simp_all [go_sem]; done))
              try simp only [Act.put, isO22, List.setIfInBounds_toArray, List.set_cons_zero, List.set_cons_succ]
              refine wpAnyH_take (i := 23) (oi := isO23) (v := .int .i64 u) rfl (by kernel_rfl) (by kernel_rfl) (by kernel_rfl) (fun _ _ _ h => h) (Or.inl ⟨by rfl, ?_⟩) (by assumption) ?_
              · intro w8 hS8
                (try dsimp only at hS8)
                dsimp only [isO23]
                (first | (go_simp; done) | (go_simp; simp_all; done) | (simp_all [go_sem]; done))
              try simp only [Act.put, isO23, List.setIfInBounds_toArray, List.set_cons_zero, List.set_cons_succ]
              refine wpAnyH_take (i := 24) (oi := isO24) (v := .bool true) rfl (by kernel_rfl) (by kernel_rfl) (by kernel_rfl) (fun _ _ _ h => h) (Or.inl ⟨by rfl, ?_⟩) (by assumption) ?_
              · intro w8 hS8
                (try dsimp only at hS8)
                dsimp only [isO24]
                (first | (go_simp; done) | (go_simp; simp_all; done) | (simp_all [go_sem]; done))
              try simp only [Act.put, isO24, List.setIfInBounds_toArray, List.set_cons_zero, List.set_cons_succ]
              refine wpAnyH_take (i := 25) (oi := isO25) (v := .bool true) rfl (by kernel_rfl) (by kernel_rfl) (by kernel_rfl) (fun _ _ _ h => h) (Or.inl ⟨by rfl, ?_⟩) (by assumption) ?_
              · intro w8 hS8
                (try dsimp only at hS8)
                dsimp only [isO25]
                (first | (go_simp; done) | (go_simp; simp_all; done) | (simp_all [go_sem]; done))
              try simp only [Act.put, isO25, List.setIfInBounds_toArray, List.set_cons_zero, List.set_cons_succ]
              refine wpAnyH_take (i := 26) (oi := isO26) (v := .bool true) rfl (by kernel_rfl) (by kernel_rfl) (by kernel_rfl) (fun _ _ _ h => h) (Or.inl ⟨by rfl, ?_⟩) (by assumption) ?_
              · intro w8 hS8
                (try dsimp only at hS8)
                dsimp only [isO26]
                (first | (go_simp; done) | (go_simp; simp_all; done) | (simp_all [go_sem]; done))
              try simp only [Act.put, isO26, List.setIfInBounds_toArray, List.set_cons_zero, List.set_cons_succ]
              refine wpAnyH_take (i := 27) (oi := isO27) (v := .pointer (some ⟨w.heap.size, 2, none⟩)) rfl (by kernel_rfl) (by kernel_rfl) (by kernel_rfl) (fun _ _ _ h => h) (Or.inl ⟨by rfl, ?_⟩) (by assumption) ?_
              · intro w8 hS8
                (try dsimp only at hS8)
                dsimp only [isO27]
                (first | (go_simp; done) | (go_simp; simp_all; done) | (simp_all [go_sem]; done))
              try simp only [Act.put, isO27, List.setIfInBounds_toArray, List.set_cons_zero, List.set_cons_succ]
              refine wpAnyH_take (i := 28) (oi := isO28) (v := .int .i64 u) rfl (by kernel_rfl) (by kernel_rfl) (by kernel_rfl) (fun _ _ _ h => h) (Or.inl ⟨by rfl, ?_⟩) (by assumption) ?_
              · intro w8 hS8
                (try dsimp only at hS8)
                dsimp only [isO28]
                (first | (go_simp; done) | (go_simp; simp_all; done) | (simp_all [go_sem]; done))
              try simp only [Act.put, isO28, List.setIfInBounds_toArray, List.set_cons_zero, List.set_cons_succ]
              refine wpAnyH_take (i := 29) (oi := isO29) (v := .pointer (some ⟨w.heap.size, 1, none⟩)) rfl (by kernel_rfl) (by kernel_rfl) (by kernel_rfl) (fun _ _ _ h => h) (Or.inl ⟨by rfl, ?_⟩) (by assumption) ?_
              · intro w8 hS8
                (try dsimp only at hS8)
                dsimp only [isO29]
                (first | (go_simp; done) | (go_simp; simp_all; done) | (simp_all [go_sem]; done))
              try simp only [Act.put, isO29, List.setIfInBounds_toArray, List.set_cons_zero, List.set_cons_succ]
              refine wpAnyH_take (i := 30) (oi := isO30) (v := .int .i64 c) rfl (by kernel_rfl) (by kernel_rfl) (by kernel_rfl) (fun _ _ _ h => h) (Or.inl ⟨by rfl, ?_⟩) (by assumption) ?_
              · intro w8 hS8
                (try dsimp only at hS8)
                dsimp only [isO30]
                (first | (go_simp; done) | (go_simp; simp_all; done) | (simp_all [go_sem]; done))
              try simp only [Act.put, isO30, List.setIfInBounds_toArray, List.set_cons_zero, List.set_cons_succ]
              refine wpAnyH_take (i := 31) (oi := isO31) (v := .bool true) rfl (by kernel_rfl) (by kernel_rfl) (by kernel_rfl) (fun _ _ _ h => h) (Or.inl ⟨by rfl, ?_⟩) (by assumption) ?_
              · intro w8 hS8
                (try dsimp only at hS8)
                dsimp only [isO31]
                (first | (go_simp; done) | (go_simp; simp_all; done) | (simp_all [go_sem]; done))
              try simp only [Act.put, isO31, List.setIfInBounds_toArray, List.set_cons_zero, List.set_cons_succ]
              refine wpAnyH_take (i := 32) (oi := isO32) (v := .bool true) rfl (by kernel_rfl) (by kernel_rfl) (by kernel_rfl) (fun _ _ _ h => h) (Or.inl ⟨by rfl, ?_⟩) (by assumption) ?_
              · intro w8 hS8
                (try dsimp only at hS8)
                dsimp only [isO32]
                (first | (go_simp; done) | (go_simp; simp_all; done) | (simp_all [go_sem]; done))
              try simp only [Act.put, isO32, List.setIfInBounds_toArray, List.set_cons_zero, List.set_cons_succ]
              refine wpAnyH_take (i := 33) (oi := isO33) (v := .bool true) rfl (by kernel_rfl) (by kernel_rfl) (by kernel_rfl) (fun _ _ _ h => h) (Or.inl ⟨by rfl, ?_⟩) (by assumption) ?_
              · intro w8 hS8
                (try dsimp only at hS8)
                dsimp only [isO33]
                (first | (go_simp; done) | (go_simp; simp_all; done) | (simp_all [go_sem]; done))
              try simp only [Act.put, isO33, List.setIfInBounds_toArray, List.set_cons_zero, List.set_cons_succ]
              refine wpAnyH_take (i := 34) (oi := isO34) (v := .agg #[.int .i64 b, .int .i64 c, .int .i64 u, .int .i64 mn, .int .i64 mx, .int .i64 sm, .slice ao n cap]) rfl (by kernel_rfl) (by kernel_rfl) (by kernel_rfl) (fun _ _ _ h => h) (Or.inl ⟨by rfl, ?_⟩) (by assumption) ?_
              · intro w8 hS8
                (try dsimp only at hS8)
                dsimp only [isO34]
                (first | (go_simp; done) | (go_simp; simp_all; done) | (simp_all [go_sem]; done))
              try simp only [Act.put, isO34, List.setIfInBounds_toArray, List.set_cons_zero, List.set_cons_succ]
              refine wpAnyH_ready (rs := [35]) (by kernel_rfl) (by simp) ?_
              refine AllReadyH.cons (o := isO35) rfl (fun K hK => ?_) AllReadyH.nil
              dsimp only [isO35]
              go_simp
              go_at_call 119
              (with_reducible refine (SPO.out _).mono ?_)
              rintro e9 w94 ⟨rfl, hb4⟩
              refine hK.out _ _ ?_ (fun hH4 => ?_)
              · exact kn7_keep KQ.out hH3 hb4
              clear hK K
              try simp only [Act.put, isO35, List.setIfInBounds_toArray, List.set_cons_zero, List.set_cons_succ]
              refine wpAnyH_ready (rs := [36]) (by kernel_rfl) (by simp) ?_
              refine AllReadyH.cons (o := isO36) rfl (fun K hK => ?_) AllReadyH.nil
              dsimp only [isO36]
              go_simp
              go_at_call 120
              (with_reducible refine (HSPV.out _).mono ?_)
              rintro e9 w95 ⟨rfl, hb5⟩
              refine hK.out _ _ ?_ (fun hH5 => ?_)
              · exact kn7_keep KQ.out hH4 hb5
              clear hK K
              try simp only [Act.put, isO36, List.setIfInBounds_toArray, List.set_cons_zero, List.set_cons_succ]
              refine wpAnyH_take (i := 37) (oi := isO37) (v := .bool q5) rfl (by kernel_rfl) (by kernel_rfl) (by kernel_rfl) (fun _ _ _ h => h) (Or.inl ⟨by rfl, ?_⟩) (by assumption) ?_
              · intro w8 hS8
                (try dsimp only at hS8)
                dsimp only [isO37]
                (first | (go_simp; done) | (go_simp; simp_all; done) | (simp_all [go_sem]; done))
              try simp only [Act.put, isO37, List.setIfInBounds_toArray, List.set_cons_zero, List.set_cons_succ]
              refine wpAnyH_take (i := 38) (oi := isO38) (v := .bool q5) rfl (by kernel_rfl) (by kernel_rfl) (by kernel_rfl) (fun _ _ _ h => h) (Or.inl ⟨by rfl, ?_⟩) (by assumption) ?_
              · intro w8 hS8
                (try dsimp only at hS8)
                dsimp only [isO38]
                (first | (go_simp; done) | (go_simp; simp_all; done) | (simp_all [go_sem]; done))
              try simp only [Act.put, isO38, List.setIfInBounds_toArray, List.set_cons_zero, List.set_cons_succ]
              refine wpAnyH_done (by kernel_rfl) ?_ _

              have KE := KQ.out.step (kn7_b hH5)
              go_wp2
              go_ret
              exact ⟨by rw [AN.out]; rfl, KE.1⟩
            · skip
              have e1 : decide (u ≤ c) = false := decide_eq_false hu1
              have AN := Lib.hid (show smB S = false from smB_false (fun h => hu1 (by have h9 := h.2.2.2.1.2; rw [HS.out] at h9; exact h9)))
              clear hu1 hu0 h3 ht
              go_enter Try.func60, Try.ntmps60
              have K0 := (Kept.start w).alloc7 (.int .i64 b) (.int .i64 c) (.int .i64 u) (.int .i64 mn) (.int .i64 mx) (.int .i64 sm) (.slice ao n cap) 77 _ rfl
              go_upto_region 1 with fail
              obtain ⟨w1, hw1⟩ : ∃ w1, w1 = w.alloc (.cells #[.int .i64 b, .int .i64 c, .int .i64 u, .int .i64 mn, .int .i64 mx, .int .i64 sm, .slice ao n cap] 77) := ⟨_, rfl⟩
              rw [← hw1] at K0 ⊢
              clear hw1
              have KQ := Lib.hid K0
              have HQ := Lib.hid (HV.out.below K0.1)
              clear K0
              refine wp_region_held_drew (S := fun w' => w'.cell? ⟨w.heap.size, 0, none⟩ = some (.int .i64 b) ∧ w'.cell? ⟨w.heap.size, 1, none⟩ = some (.int .i64 c) ∧ w'.cell? ⟨w.heap.size, 2, none⟩ = some (.int .i64 u) ∧ w'.cell? ⟨w.heap.size, 3, none⟩ = some (.int .i64 mn) ∧ w'.cell? ⟨w.heap.size, 4, none⟩ = some (.int .i64 mx) ∧ w'.cell? ⟨w.heap.size, 5, none⟩ = some (.int .i64 sm) ∧ w'.cell? ⟨w.heap.size, 6, none⟩ = some (.slice ao n cap) ∧ Below w1.heap.size w1 w') (by kernel_rfl) (kn7_at KQ.out (Below.refl _ _).drew) (fun hHeld => ?_)
              refine wpAnyH_take (i := 0) (oi := isO0) (v := .pointer (some ⟨w.heap.size, 0, none⟩)) rfl (by kernel_rfl) (by kernel_rfl) (by kernel_rfl) (fun _ _ _ h => h) (Or.inl ⟨by rfl, ?_⟩) (by assumption) ?_
              · intro w8 hS8
                (try dsimp only at hS8)
                dsimp only [isO0]
                (first | (go_simp; done) | (go_simp; simp_all; done) | (simp_all [go_sem]; done))
              try simp only [Act.put, isO0, List.setIfInBounds_toArray, List.set_cons_zero, List.set_cons_succ]
              refine wpAnyH_take (i := 1) (oi := isO1) (v := .int .i64 b) rfl (by kernel_rfl) (by kernel_rfl) (by kernel_rfl) (fun _ _ _ h => h) (Or.inl ⟨by rfl, ?_⟩) (by assumption) ?_
              · intro w8 hS8
                (try dsimp only at hS8)
                dsimp only [isO1]
                (first | (go_simp; done) | (go_simp; simp_all; done) | (simp_all [go_sem]; done))
              try simp only [Act.put, isO1, List.setIfInBounds_toArray, List.set_cons_zero, List.set_cons_succ]
              refine wpAnyH_take (i := 2) (oi := isO2) (v := .bool false) rfl (by kernel_rfl) (by kernel_rfl) (by kernel_rfl) (fun _ _ _ h => h) (Or.inl ⟨by rfl, ?_⟩) (by assumption) ?_
              · intro w8 hS8
                (try dsimp only at hS8)
                dsimp only [isO2]
                (first | (go_simp; done) | (go_simp; simp_all; done) | (simp_all [go_sem]; done))
              try simp only [Act.put, isO2, List.setIfInBounds_toArray, List.set_cons_zero, List.set_cons_succ]
              refine wpAnyH_take (i := 3) (oi := isO3) (v := .bool false) rfl (by kernel_rfl) (by kernel_rfl) (by kernel_rfl) (fun _ _ _ h => h) (Or.inl ⟨by rfl, ?_⟩) (by assumption) ?_
              · intro w8 hS8
                (try dsimp only at hS8)
                dsimp only [isO3]
                (first | (go_simp; done) | (go_simp; simp_all; done) | (simp_all [go_sem]; done))
              try simp only [Act.put, isO3, List.setIfInBounds_toArray, List.set_cons_zero, List.set_cons_succ]
              refine wpAnyH_take (i := 4) (oi := isO4) (v := .pointer (some ⟨w.heap.size, 0, none⟩)) rfl (by kernel_rfl) (by kernel_rfl) (by kernel_rfl) (fun _ _ _ h => h) (Or.inl ⟨by rfl, ?_⟩) (by assumption) ?_
              · intro w8 hS8
                (try dsimp only at hS8)
                dsimp only [isO4]
                (first | (go_simp; done) | (go_simp; simp_all; done) | (simp_all [go_sem]; done))
              try simp only [Act.put, isO4, List.setIfInBounds_toArray, List.set_cons_zero, List.set_cons_succ]
              refine wpAnyH_take (i := 5) (oi := isO5) (v := .int .i64 b) rfl (by kernel_rfl) (by kernel_rfl) (by kernel_rfl) (fun _ _ _ h => h) (Or.inl ⟨by rfl, ?_⟩) (by assumption) ?_
              · intro w8 hS8
                (try dsimp only at hS8)
                dsimp only [isO5]
                (first | (go_simp; done) | (go_simp; simp_all; done) | (simp_all [go_sem]; done))
              try simp only [Act.put, isO5, List.setIfInBounds_toArray, List.set_cons_zero, List.set_cons_succ]
              refine wpAnyH_ready (rs := [6]) (by kernel_rfl) (by simp) ?_
              refine AllReadyH.cons (o := isO6) rfl (fun K hK => ?_) AllReadyH.nil
              dsimp only [isO6]
              go_simp
              go_at_call 118
              (with_reducible refine (DD1.out _).mono ?_)
              rintro e9 w91 ⟨rfl, hb1⟩
              refine hK.out _ _ ?_ (fun hH1 => ?_)
              · exact kn7_keep KQ.out hHeld hb1
              clear hK K
              try simp only [Act.put, isO6, List.setIfInBounds_toArray, List.set_cons_zero, List.set_cons_succ]
              refine wpAnyH_take (i := 7) (oi := isO7) (v := .bool true) rfl (by kernel_rfl) (by kernel_rfl) (by kernel_rfl) (fun _ _ _ h => h) (Or.inl ⟨by rfl, ?_⟩) (by assumption) ?_
              · intro w8 hS8
                (try dsimp only at hS8)
                dsimp only [isO7]
                (first | (go_simp; done) | (go_simp; simp_all; done) | (simp_all [go_sem]; done))
              try simp only [Act.put, isO7, List.setIfInBounds_toArray, List.set_cons_zero, List.set_cons_succ]
              refine wpAnyH_take (i := 8) (oi := isO8) (v := .bool true) rfl (by kernel_rfl) (by kernel_rfl) (by kernel_rfl) (fun _ _ _ h => h) (Or.inl ⟨by rfl, ?_⟩) (by assumption) ?_
              · intro w8 hS8
                (try dsimp only at hS8)
                dsimp only [isO8]
                (first | (go_simp; done) | (go_simp; simp_all; done) | (simp_all [go_sem]; done))
              try simp only [Act.put, isO8, List.setIfInBounds_toArray, List.set_cons_zero, List.set_cons_succ]
              refine wpAnyH_take (i := 9) (oi := isO9) (v := .pointer (some ⟨w.heap.size, 6, none⟩)) rfl (by kernel_rfl) (by kernel_rfl) (by kernel_rfl) (fun _ _ _ h => h) (Or.inl ⟨by rfl, ?_⟩) (by assumption) ?_
              · intro w8 hS8
                (try dsimp only at hS8)
                dsimp only [isO9]
                (first | (go_simp; done) | (go_simp; simp_all; done) | (simp_all [go_sem]; done))
              try simp only [Act.put, isO9, List.setIfInBounds_toArray, List.set_cons_zero, List.set_cons_succ]
              refine wpAnyH_take (i := 10) (oi := isO10) (v := .slice ao n cap) rfl (by kernel_rfl) (by kernel_rfl) (by kernel_rfl) (fun _ _ _ h => h) (Or.inl ⟨by rfl, ?_⟩) (by assumption) ?_
              · intro w8 hS8
                (try dsimp only at hS8)
                dsimp only [isO10]
                (first | (go_simp; done) | (go_simp; simp_all; done) | (simp_all [go_sem]; done))
              try simp only [Act.put, isO10, List.setIfInBounds_toArray, List.set_cons_zero, List.set_cons_succ]
              refine wpAnyH_ready (rs := [11]) (by kernel_rfl) (by simp) ?_
              refine AllReadyH.cons (o := isO11) rfl (fun K hK => ?_) AllReadyH.nil
              dsimp only [isO11]
              go_simp
              go_at_call 37
              (with_reducible refine (DD2.out _ (HQ.out.below (kn7_b hH1))).mono ?_)
              rintro e9 w92 ⟨rfl, hb2⟩
              refine hK.out _ _ ?_ (fun hH2 => ?_)
              · exact kn7_keep KQ.out hH1 hb2
              clear hK K
              try simp only [Act.put, isO11, List.setIfInBounds_toArray, List.set_cons_zero, List.set_cons_succ]
              refine wpAnyH_take (i := 12) (oi := isO12) (v := .bool true) rfl (by kernel_rfl) (by kernel_rfl) (by kernel_rfl) (fun _ _ _ h => h) (Or.inl ⟨by rfl, ?_⟩) (by assumption) ?_
              · intro w8 hS8
                (try dsimp only at hS8)
                dsimp only [isO12]
                (first | (go_simp; done) | (go_simp; simp_all; done) | (simp_all [go_sem]; done))
              try simp only [Act.put, isO12, List.setIfInBounds_toArray, List.set_cons_zero, List.set_cons_succ]
              refine wpAnyH_take (i := 13) (oi := isO13) (v := .bool true) rfl (by kernel_rfl) (by kernel_rfl) (by kernel_rfl) (fun _ _ _ h => h) (Or.inl ⟨by rfl, ?_⟩) (by assumption) ?_
              · intro w8 hS8
                (try dsimp only at hS8)
                dsimp only [isO13]
                (first | (go_simp; done) | (go_simp; simp_all; done) | (simp_all [go_sem]; done))
              try simp only [Act.put, isO13, List.setIfInBounds_toArray, List.set_cons_zero, List.set_cons_succ]
              refine wpAnyH_take (i := 14) (oi := isO14) (v := .pointer (some ⟨w.heap.size, 1, none⟩)) rfl (by kernel_rfl) (by kernel_rfl) (by kernel_rfl) (fun _ _ _ h => h) (Or.inl ⟨by rfl, ?_⟩) (by assumption) ?_
              · intro w8 hS8
                (try dsimp only at hS8)
                dsimp only [isO14]
                (first | (go_simp; done) | (go_simp; simp_all; done) | (simp_all [go_sem]; done))
              try simp only [Act.put, isO14, List.setIfInBounds_toArray, List.set_cons_zero, List.set_cons_succ]
              refine wpAnyH_take (i := 15) (oi := isO15) (v := .int .i64 c) rfl (by kernel_rfl) (by kernel_rfl) (by kernel_rfl) (fun _ _ _ h => h) (Or.inl ⟨by rfl, ?_⟩) (by assumption) ?_
              · intro w8 hS8
                (try dsimp only at hS8)
                dsimp only [isO15]
                (first | (go_simp; done) | (go_simp; simp_all; done) | (simp_all [go_sem]; done))
              try simp only [Act.put, isO15, List.setIfInBounds_toArray, List.set_cons_zero, List.set_cons_succ]
              refine wpAnyH_take (i := 16) (oi := isO16) (v := .pointer (some ⟨w.heap.size, 6, none⟩)) rfl (by kernel_rfl) (by kernel_rfl) (by kernel_rfl) (fun _ _ _ h => h) (Or.inl ⟨by rfl, ?_⟩) (by assumption) ?_
              · intro w8 hS8
                (try dsimp only at hS8)
                dsimp only [isO16]
                (first | (go_simp; done) | (go_simp; simp_all; done) | (simp_all [go_sem]; done))
              try simp only [Act.put, isO16, List.setIfInBounds_toArray, List.set_cons_zero, List.set_cons_succ]
              refine wpAnyH_take (i := 17) (oi := isO17) (v := .slice ao n cap) rfl (by kernel_rfl) (by kernel_rfl) (by kernel_rfl) (fun _ _ _ h => h) (Or.inl ⟨by rfl, ?_⟩) (by assumption) ?_
              · intro w8 hS8
                (try dsimp only at hS8)
                dsimp only [isO17]
                (first | (go_simp; done) | (go_simp; simp_all; done) | (simp_all [go_sem]; done))
              try simp only [Act.put, isO17, List.setIfInBounds_toArray, List.set_cons_zero, List.set_cons_succ]
              refine wpAnyH_ready (rs := [18]) (by kernel_rfl) (by simp) ?_
              refine AllReadyH.cons (o := isO18) rfl (fun K hK => ?_) AllReadyH.nil
              dsimp only [isO18]
              go_simp
              go_at_call 36
              (with_reducible refine (DD3.out _ (HQ.out.below (kn7_b hH2))).mono ?_)
              rintro e9 w93 ⟨rfl, hb3⟩
              refine hK.out _ _ ?_ (fun hH3 => ?_)
              · exact kn7_keep KQ.out hH2 hb3
              clear hK K
              try simp only [Act.put, isO18, List.setIfInBounds_toArray, List.set_cons_zero, List.set_cons_succ]
              refine wpAnyH_take (i := 19) (oi := isO19) (v := .bool true) rfl (by kernel_rfl) (by kernel_rfl) (by kernel_rfl) (fun _ _ _ h => h) (Or.inl ⟨by rfl, ?_⟩) (by assumption) ?_
              · intro w8 hS8
                (try dsimp only at hS8)
                dsimp only [isO19]
                (first | (go_simp; done) | (go_simp; simp_all; done) | (simp_all [go_sem]; done))
              try simp only [Act.put, isO19, List.setIfInBounds_toArray, List.set_cons_zero, List.set_cons_succ]
              refine wpAnyH_take (i := 20) (oi := isO20) (v := .bool true) rfl (by kernel_rfl) (by kernel_rfl) (by kernel_rfl) (fun _ _ _ h => h) (Or.inl ⟨by rfl, ?_⟩) (by assumption) ?_
              · intro w8 hS8
                (try dsimp only at hS8)
                dsimp only [isO20]
                (first | (go_simp; done) | (go_simp; simp_all; done) | (simp_all [go_sem]; done))
              try simp only [Act.put, isO20, List.setIfInBounds_toArray, List.set_cons_zero, List.set_cons_succ]
              refine wpAnyH_take (i := 21) (oi := isO21) (v := .bool true) rfl (by kernel_rfl) (by kernel_rfl) (by kernel_rfl) (fun _ _ _ h => h) (Or.inl ⟨by rfl, ?_⟩) (by assumption) ?_
              · intro w8 hS8
                (try dsimp only at hS8)
                dsimp only [isO21]
                (first | (go_simp; done) | (go_simp; simp_all; done) | (simp_all [go_sem]; done))
              try simp only [Act.put, isO21, List.setIfInBounds_toArray, List.set_cons_zero, List.set_cons_succ]
              refine wpAnyH_take (i := 22) (oi := isO22) (v := .pointer (some ⟨w.heap.size, 2, none⟩)) rfl (by kernel_rfl) (by kernel_rfl) (by kernel_rfl) (fun _ _ _ h => h) (Or.inl ⟨by rfl, ?_⟩) (by assumption) ?_
              · intro w8 hS8
                (try dsimp only at hS8)
                dsimp only [isO22]
                (first | (go_simp; done) | (go_simp; simp_all; done) | (simp_all [go_sem]; done))
              try simp only [Act.put, isO22, List.setIfInBounds_toArray, List.set_cons_zero, List.set_cons_succ]
              refine wpAnyH_take (i := 23) (oi := isO23) (v := .int .i64 u) rfl (by kernel_rfl) (by kernel_rfl) (by kernel_rfl) (fun _ _ _ h => h) (Or.inl ⟨by rfl, ?_⟩) (by assumption) ?_
              · intro w8 hS8
                (try dsimp only at hS8)
                dsimp only [isO23]
                (first | (go_simp; done) | (go_simp; simp_all; done) | (simp_all [go_sem]; done))
              try simp only [Act.put, isO23, List.setIfInBounds_toArray, List.set_cons_zero, List.set_cons_succ]
              refine wpAnyH_take (i := 24) (oi := isO24) (v := .bool true) rfl (by kernel_rfl) (by kernel_rfl) (by kernel_rfl) (fun _ _ _ h => h) (Or.inl ⟨by rfl, ?_⟩) (by assumption) ?_
              · intro w8 hS8
                (try dsimp only at hS8)
                dsimp only [isO24]
                (first | (go_simp; done) | (go_simp; simp_all; done) | (simp_all [go_sem]; done))
              try simp only [Act.put, isO24, List.setIfInBounds_toArray, List.set_cons_zero, List.set_cons_succ]
              refine wpAnyH_take (i := 25) (oi := isO25) (v := .bool true) rfl (by kernel_rfl) (by kernel_rfl) (by kernel_rfl) (fun _ _ _ h => h) (Or.inl ⟨by rfl, ?_⟩) (by assumption) ?_
              · intro w8 hS8
                (try dsimp only at hS8)
                dsimp only [isO25]
                (first | (go_simp; done) | (go_simp; simp_all; done) | (simp_all [go_sem]; done))
              try simp only [Act.put, isO25, List.setIfInBounds_toArray, List.set_cons_zero, List.set_cons_succ]
              refine wpAnyH_take (i := 26) (oi := isO26) (v := .bool true) rfl (by kernel_rfl) (by kernel_rfl) (by kernel_rfl) (fun _ _ _ h => h) (Or.inl ⟨by rfl, ?_⟩) (by assumption) ?_
              · intro w8 hS8
                (try dsimp only at hS8)
                dsimp only [isO26]
                (first | (go_simp; done) | (go_simp; simp_all; done) | (simp_all [go_sem]; done))
              try simp only [Act.put, isO26, List.setIfInBounds_toArray, List.set_cons_zero, List.set_cons_succ]
              refine wpAnyH_take (i := 27) (oi := isO27) (v := .pointer (some ⟨w.heap.size, 2, none⟩)) rfl (by kernel_rfl) (by kernel_rfl) (by kernel_rfl) (fun _ _ _ h => h) (Or.inl ⟨by rfl, ?_⟩) (by assumption) ?_
              · intro w8 hS8
                (try dsimp only at hS8)
                dsimp only [isO27]
                (first | (go_simp; done) | (go_simp; simp_all; done) | (simp_all [go_sem]; done))
              try simp only [Act.put, isO27, List.setIfInBounds_toArray, List.set_cons_zero, List.set_cons_succ]
              refine wpAnyH_take (i := 28) (oi := isO28) (v := .int .i64 u) rfl (by kernel_rfl) (by kernel_rfl) (by kernel_rfl) (fun _ _ _ h => h) (Or.inl ⟨by rfl, ?_⟩) (by assumption) ?_
              · intro w8 hS8
                (try dsimp only at hS8)
                dsimp only [isO28]
                (first | (go_simp; done) | (go_simp; simp_all; done) | (simp_all [go_sem]; done))
              try simp only [Act.put, isO28, List.setIfInBounds_toArray, List.set_cons_zero, List.set_cons_succ]
              refine wpAnyH_take (i := 29) (oi := isO29) (v := .pointer (some ⟨w.heap.size, 1, none⟩)) rfl (by kernel_rfl) (by kernel_rfl) (by kernel_rfl) (fun _ _ _ h => h) (Or.inl ⟨by rfl, ?_⟩) (by assumption) ?_
              · intro w8 hS8
                (try dsimp only at hS8)
                dsimp only [isO29]
                (first | (go_simp; done) | (go_simp; simp_all; done) | (simp_all [go_sem]; done))
              try simp only [Act.put, isO29, List.setIfInBounds_toArray, List.set_cons_zero, List.set_cons_succ]
              refine wpAnyH_take (i := 30) (oi := isO30) (v := .int .i64 c) rfl (by kernel_rfl) (by kernel_rfl) (by kernel_rfl) (fun _ _ _ h => h) (Or.inl ⟨by rfl, ?_⟩) (by assumption) ?_
              · intro w8 hS8
                (try dsimp only at hS8)
                dsimp only [isO30]
                (first | (go_simp; done) | (go_simp; simp_all; done) | (simp_all [go_sem]; done))
              try simp only [Act.put, isO30, List.setIfInBounds_toArray, List.set_cons_zero, List.set_cons_succ]
              refine wpAnyH_take (i := 31) (oi := isO31) (v := .bool false) rfl (by kernel_rfl) (by kernel_rfl) (by kernel_rfl) (fun _ _ _ h => h) (Or.inl ⟨by rfl, ?_⟩) (by assumption) ?_
              · intro w8 hS8
                (try dsimp only at hS8)
                dsimp only [isO31]
                (first | (go_simp; done) | (go_simp; simp_all; done) | (simp_all [go_sem]; done))
              try simp only [Act.put, isO31, List.setIfInBounds_toArray, List.set_cons_zero, List.set_cons_succ]
              refine wpAnyH_take (i := 32) (oi := isO32) (v := .bool false) rfl (by kernel_rfl) (by kernel_rfl) (by kernel_rfl) (fun _ _ _ h => h) (Or.inl ⟨by rfl, ?_⟩) (by assumption) ?_
              · intro w8 hS8
                (try dsimp only at hS8)
                dsimp only [isO32]
                (first | (go_simp; done) | (go_simp; simp_all; done) | (simp_all [go_sem]; done))
              try simp only [Act.put, isO32, List.setIfInBounds_toArray, List.set_cons_zero, List.set_cons_succ]
              refine wpAnyH_take (i := 33) (oi := isO33) (v := .bool false) rfl (by kernel_rfl) (by kernel_rfl) (by kernel_rfl) (fun _ _ _ h => h) (Or.inl ⟨by rfl, ?_⟩) (by assumption) ?_
              · intro w8 hS8
                (try dsimp only at hS8)
                dsimp only [isO33]
                (first | (go_simp; done) | (go_simp; simp_all; done) | (simp_all [go_sem]; done))
              try simp only [Act.put, isO33, List.setIfInBounds_toArray, List.set_cons_zero, List.set_cons_succ]
              refine held_skip (i := 34) (oi := isO34) rfl (by kernel_rfl) (by kernel_rfl) (by kernel_rfl) (fun _ _ _ h => h) (by rfl) (by assumption) ?_
              try simp only [Act.put, isO34, List.setIfInBounds_toArray, List.set_cons_zero, List.set_cons_succ]
              refine held_skip (i := 35) (oi := isO35) rfl (by kernel_rfl) (by kernel_rfl) (by kernel_rfl) (fun _ _ _ h => h) (by rfl) (by assumption) ?_
              try simp only [Act.put, isO35, List.setIfInBounds_toArray, List.set_cons_zero, List.set_cons_succ]
              refine held_skip (i := 36) (oi := isO36) rfl (by kernel_rfl) (by kernel_rfl) (by kernel_rfl) (fun _ _ _ h => h) (by rfl) (by assumption) ?_
              try simp only [Act.put, isO36, List.setIfInBounds_toArray, List.set_cons_zero, List.set_cons_succ]
              refine wpAnyH_take (i := 37) (oi := isO37) (v := .bool false) rfl (by kernel_rfl) (by kernel_rfl) (by kernel_rfl) (fun _ _ _ h => h) (Or.inl ⟨by rfl, ?_⟩) (by assumption) ?_
              · intro w8 hS8
                (try dsimp only at hS8)
                dsimp only [isO37]
                (first | (go_simp; done) | (go_simp; simp_all; done) | (simp_all [go_sem]; done))
              try simp only [Act.put, isO37, List.setIfInBounds_toArray, List.set_cons_zero, List.set_cons_succ]
              refine wpAnyH_take (i := 38) (oi := isO38) (v := .bool false) rfl (by kernel_rfl) (by kernel_rfl) (by kernel_rfl) (fun _ _ _ h => h) (Or.inl ⟨by rfl, ?_⟩) (by assumption) ?_
              · intro w8 hS8
                (try dsimp only at hS8)
                dsimp only [isO38]
                (first | (go_simp; done) | (go_simp; simp_all; done) | (simp_all [go_sem]; done))
              try simp only [Act.put, isO38, List.setIfInBounds_toArray, List.set_cons_zero, List.set_cons_succ]
              refine wpAnyH_done (by kernel_rfl) ?_ _

              have KE := KQ.out.step (kn7_b hH3)
              go_wp2
              go_ret
              exact ⟨by rw [AN.out]; rfl, KE.1⟩
          · skip
            have e0 : decide (0 ≤ u) = false := decide_eq_false hu0
            have AN := Lib.hid (show smB S = false from smB_false (fun h => hu0 (by have h9 := h.2.2.2.1.1; rw [HS.out] at h9; exact h9)))
            clear hu0 h3 ht
            go_enter Try.func60, Try.ntmps60
            have K0 := (Kept.start w).alloc7 (.int .i64 b) (.int .i64 c) (.int .i64 u) (.int .i64 mn) (.int .i64 mx) (.int .i64 sm) (.slice ao n cap) 77 _ rfl
            go_upto_region 1 with fail
            obtain ⟨w1, hw1⟩ : ∃ w1, w1 = w.alloc (.cells #[.int .i64 b, .int .i64 c, .int .i64 u, .int .i64 mn, .int .i64 mx, .int .i64 sm, .slice ao n cap] 77) := ⟨_, rfl⟩
            rw [← hw1] at K0 ⊢
            clear hw1
            have KQ := Lib.hid K0
            have HQ := Lib.hid (HV.out.below K0.1)
            clear K0
            refine wp_region_held_drew (S := fun w' => w'.cell? ⟨w.heap.size, 0, none⟩ = some (.int .i64 b) ∧ w'.cell? ⟨w.heap.size, 1, none⟩ = some (.int .i64 c) ∧ w'.cell? ⟨w.heap.size, 2, none⟩ = some (.int .i64 u) ∧ w'.cell? ⟨w.heap.size, 3, none⟩ = some (.int .i64 mn) ∧ w'.cell? ⟨w.heap.size, 4, none⟩ = some (.int .i64 mx) ∧ w'.cell? ⟨w.heap.size, 5, none⟩ = some (.int .i64 sm) ∧ w'.cell? ⟨w.heap.size, 6, none⟩ = some (.slice ao n cap) ∧ Below w1.heap.size w1 w') (by kernel_rfl) (kn7_at KQ.out (Below.refl _ _).drew) (fun hHeld => ?_)
            refine wpAnyH_take (i := 0) (oi := isO0) (v := .pointer (some ⟨w.heap.size, 0, none⟩)) rfl (by kernel_rfl) (by kernel_rfl) (by kernel_rfl) (fun _ _ _ h => h) (Or.inl ⟨by rfl, ?_⟩) (by assumption) ?_
            · intro w8 hS8
              (try dsimp only at hS8)
              dsimp only [isO0]
              (first | (go_simp; done) | (go_simp; simp_all; done) | (simp_all [go_sem]; done))
            try simp only [Act.put, isO0, List.setIfInBounds_toArray, List.set_cons_zero, List.set_cons_succ]
            refine wpAnyH_take (i := 1) (oi := isO1) (v := .int .i64 b) rfl (by kernel_rfl) (by kernel_rfl) (by kernel_rfl) (fun _ _ _ h => h) (Or.inl ⟨by rfl, ?_⟩) (by assumption) ?_
            · intro w8 hS8
              (try dsimp only at hS8)
              dsimp only [isO1]
              (first | (go_simp; done) | (go_simp; simp_all; done) | (simp_all [go_sem]; done))
            try simp only [Act.put, isO1, List.setIfInBounds_toArray, List.set_cons_zero, List.set_cons_succ]
            refine wpAnyH_take (i := 2) (oi := isO2) (v := .bool false) rfl (by kernel_rfl) (by kernel_rfl) (by kernel_rfl) (fun _ _ _ h => h) (Or.inl ⟨by rfl, ?_⟩) (by assumption) ?_
            · intro w8 hS8
              (try dsimp only at hS8)
              dsimp only [isO2]
              (first | (go_simp; done) | (go_simp; simp_all; done) | (simp_all [go_sem]; done))
            try simp only [Act.put, isO2, List.setIfInBounds_toArray, List.set_cons_zero, List.set_cons_succ]
            refine wpAnyH_take (i := 3) (oi := isO3) (v := .bool false) rfl (by kernel_rfl) (by kernel_rfl) (by kernel_rfl) (fun _ _ _ h => h) (Or.inl ⟨by rfl, ?_⟩) (by assumption) ?_
            · intro w8 hS8
              (try dsimp only at hS8)
              dsimp only [isO3]
              (first | (go_simp; done) | (go_simp; simp_all; done) | (simp_all [go_sem]; done))
            try simp only [Act.put, isO3, List.setIfInBounds_toArray, List.set_cons_zero, List.set_cons_succ]
            refine wpAnyH_take (i := 4) (oi := isO4) (v := .pointer (some ⟨w.heap.size, 0, none⟩)) rfl (by kernel_rfl) (by kernel_rfl) (by kernel_rfl) (fun _ _ _ h => h) (Or.inl ⟨by rfl, ?_⟩) (by assumption) ?_
            · intro w8 hS8
              (try dsimp only at hS8)
              dsimp only [isO4]
              (first | (go_simp; done) | (go_simp; simp_all; done) | (simp_all [go_sem]; done))
            try simp only [Act.put, isO4, List.setIfInBounds_toArray, List.set_cons_zero, List.set_cons_succ]
            refine wpAnyH_take (i := 5) (oi := isO5) (v := .int .i64 b) rfl (by kernel_rfl) (by kernel_rfl) (by kernel_rfl) (fun _ _ _ h => h) (Or.inl ⟨by rfl, ?_⟩) (by assumption) ?_
            · intro w8 hS8
              (try dsimp only at hS8)
              dsimp only [isO5]
              (first | (go_simp; done) | (go_simp; simp_all; done) | (simp_all [go_sem]; done))
            try simp only [Act.put, isO5, List.setIfInBounds_toArray, List.set_cons_zero, List.set_cons_succ]
            refine wpAnyH_ready (rs := [6]) (by kernel_rfl) (by simp) ?_
            refine AllReadyH.cons (o := isO6) rfl (fun K hK => ?_) AllReadyH.nil
            dsimp only [isO6]
            go_simp
            go_at_call 118
            (with_reducible refine (DD1.out _).mono ?_)
            rintro e9 w91 ⟨rfl, hb1⟩
            refine hK.out _ _ ?_ (fun hH1 => ?_)
            · exact kn7_keep KQ.out hHeld hb1
            clear hK K
            try simp only [Act.put, isO6, List.setIfInBounds_toArray, List.set_cons_zero, List.set_cons_succ]
            refine wpAnyH_take (i := 7) (oi := isO7) (v := .bool true) rfl (by kernel_rfl) (by kernel_rfl) (by kernel_rfl) (fun _ _ _ h => h) (Or.inl ⟨by rfl, ?_⟩) (by assumption) ?_
            · intro w8 hS8
              (try dsimp only at hS8)
              dsimp only [isO7]
              (first | (go_simp; done) | (go_simp; simp_all; done) | (simp_all [go_sem]; done))
            try simp only [Act.put, isO7, List.setIfInBounds_toArray, List.set_cons_zero, List.set_cons_succ]
            refine wpAnyH_take (i := 8) (oi := isO8) (v := .bool true) rfl (by kernel_rfl) (by kernel_rfl) (by kernel_rfl) (fun _ _ _ h => h) (Or.inl ⟨by rfl, ?_⟩) (by assumption) ?_
            · intro w8 hS8
              (try dsimp only at hS8)
              dsimp only [isO8]
              (first | (go_simp; done) | (go_simp; simp_all; done) | (simp_all [go_sem]; done))
            try simp only [Act.put, isO8, List.setIfInBounds_toArray, List.set_cons_zero, List.set_cons_succ]
            refine wpAnyH_take (i := 9) (oi := isO9) (v := .pointer (some ⟨w.heap.size, 6, none⟩)) rfl (by kernel_rfl) (by kernel_rfl) (by kernel_rfl) (fun _ _ _ h => h) (Or.inl ⟨by rfl, ?_⟩) (by assumption) ?_
            · intro w8 hS8
              (try dsimp only at hS8)
              dsimp only [isO9]
              (first | (go_simp; done) | (go_simp; simp_all; done) | (simp_all [go_sem]; done))
            try simp only [Act.put, isO9, List.setIfInBounds_toArray, List.set_cons_zero, List.set_cons_succ]
            refine wpAnyH_take (i := 10) (oi := isO10) (v := .slice ao n cap) rfl (by kernel_rfl) (by kernel_rfl) (by kernel_rfl) (fun _ _ _ h => h) (Or.inl ⟨by rfl, ?_⟩) (by assumption) ?_
            · intro w8 hS8
              (try dsimp only at hS8)
              dsimp only [isO10]
              (first | (go_simp; done) | (go_simp; simp_all; done) | (simp_all [go_sem]; done))
            try simp only [Act.put, isO10, List.setIfInBounds_toArray, List.set_cons_zero, List.set_cons_succ]
            refine wpAnyH_ready (rs := [11]) (by kernel_rfl) (by simp) ?_
            refine AllReadyH.cons (o := isO11) rfl (fun K hK => ?_) AllReadyH.nil
            dsimp only [isO11]
            go_simp
            go_at_call 37
            (with_reducible refine (DD2.out _ (HQ.out.below (kn7_b hH1))).mono ?_)
            rintro e9 w92 ⟨rfl, hb2⟩
            refine hK.out _ _ ?_ (fun hH2 => ?_)
            · exact kn7_keep KQ.out hH1 hb2
            clear hK K
            try simp only [Act.put, isO11, List.setIfInBounds_toArray, List.set_cons_zero, List.set_cons_succ]
            refine wpAnyH_take (i := 12) (oi := isO12) (v := .bool true) rfl (by kernel_rfl) (by kernel_rfl) (by kernel_rfl) (fun _ _ _ h => h) (Or.inl ⟨by rfl, ?_⟩) (by assumption) ?_
            · intro w8 hS8
              (try dsimp only at hS8)
              dsimp only [isO12]
              (first | (go_simp; done) | (go_simp; simp_all; done) | (simp_all [go_sem]; done))
            try simp only [Act.put, isO12, List.setIfInBounds_toArray, List.set_cons_zero, List.set_cons_succ]
            refine wpAnyH_take (i := 13) (oi := isO13) (v := .bool true) rfl (by kernel_rfl) (by kernel_rfl) (by kernel_rfl) (fun _ _ _ h => h) (Or.inl ⟨by rfl, ?_⟩) (by assumption) ?_
            · intro w8 hS8
              (try dsimp only at hS8)
              dsimp only [isO13]
              (first | (go_simp; done) | (go_simp; simp_all; done) | (simp_all [go_sem]; done))
            try simp only [Act.put, isO13, List.setIfInBounds_toArray, List.set_cons_zero, List.set_cons_succ]
            refine wpAnyH_take (i := 14) (oi := isO14) (v := .pointer (some ⟨w.heap.size, 1, none⟩)) rfl (by kernel_rfl) (by kernel_rfl) (by kernel_rfl) (fun _ _ _ h => h) (Or.inl ⟨by rfl, ?_⟩) (by assumption) ?_
            · intro w8 hS8
              (try dsimp only at hS8)
              dsimp only [isO14]
              (first | (go_simp; done) | (go_simp; simp_all; done) | (simp_all [go_sem]; done))
            try simp only [Act.put, isO14, List.setIfInBounds_toArray, List.set_cons_zero, List.set_cons_succ]
            refine wpAnyH_take (i := 15) (oi := isO15) (v := .int .i64 c) rfl (by kernel_rfl) (by kernel_rfl) (by kernel_rfl) (fun _ _ _ h => h) (Or.inl ⟨by rfl, ?_⟩) (by assumption) ?_
            · intro w8 hS8
              (try dsimp only at hS8)
              dsimp only [isO15]
              (first | (go_simp; done) | (go_simp; simp_all; done) | (simp_all [go_sem]; done))
            try simp only [Act.put, isO15, List.setIfInBounds_toArray, List.set_cons_zero, List.set_cons_succ]
            refine wpAnyH_take (i := 16) (oi := isO16) (v := .pointer (some ⟨w.heap.size, 6, none⟩)) rfl (by kernel_rfl) (by kernel_rfl) (by kernel_rfl) (fun _ _ _ h => h) (Or.inl ⟨by rfl, ?_⟩) (by assumption) ?_
            · intro w8 hS8
              (try dsimp only at hS8)
              dsimp only [isO16]
              (first | (go_simp; done) | (go_simp; simp_all; done) | (simp_all [go_sem]; done))
            try simp only [Act.put, isO16, List.setIfInBounds_toArray, List.set_cons_zero, List.set_cons_succ]
            refine wpAnyH_take (i := 17) (oi := isO17) (v := .slice ao n cap) rfl (by kernel_rfl) (by kernel_rfl) (by kernel_rfl) (fun _ _ _ h => h) (Or.inl ⟨by rfl, ?_⟩) (by assumption) ?_
            · intro w8 hS8
              (try dsimp only at hS8)
              dsimp only [isO17]
              (first | (go_simp; done) | (go_simp; simp_all; done) | (simp_all [go_sem]; done))
            try simp only [Act.put, isO17, List.setIfInBounds_toArray, List.set_cons_zero, List.set_cons_succ]
            refine wpAnyH_ready (rs := [18]) (by kernel_rfl) (by simp) ?_
            refine AllReadyH.cons (o := isO18) rfl (fun K hK => ?_) AllReadyH.nil
            dsimp only [isO18]
            go_simp
            go_at_call 36
            (with_reducible refine (DD3.out _ (HQ.out.below (kn7_b hH2))).mono ?_)
            rintro e9 w93 ⟨rfl, hb3⟩
            refine hK.out _ _ ?_ (fun hH3 => ?_)
            · exact kn7_keep KQ.out hH2 hb3
            clear hK K
            try simp only [Act.put, isO18, List.setIfInBounds_toArray, List.set_cons_zero, List.set_cons_succ]
            refine wpAnyH_take (i := 19) (oi := isO19) (v := .bool true) rfl (by kernel_rfl) (by kernel_rfl) (by kernel_rfl) (fun _ _ _ h => h) (Or.inl ⟨by rfl, ?_⟩) (by assumption) ?_
            · intro w8 hS8
              (try dsimp only at hS8)
              dsimp only [isO19]
              (first | (go_simp; done) | (go_simp; simp_all; done) | (simp_all [go_sem]; done))
            try simp only [Act.put, isO19, List.setIfInBounds_toArray, List.set_cons_zero, List.set_cons_succ]
            refine wpAnyH_take (i := 20) (oi := isO20) (v := .bool true) rfl (by kernel_rfl) (by kernel_rfl) (by kernel_rfl) (fun _ _ _ h => h) (Or.inl ⟨by rfl, ?_⟩) (by assumption) ?_
            · intro w8 hS8
              (try dsimp only at hS8)
              dsimp only [isO20]
              (first | (go_simp; done) | (go_simp; simp_all; done) | (simp_all [go_sem]; done))
            try simp only [Act.put, isO20, List.setIfInBounds_toArray, List.set_cons_zero, List.set_cons_succ]
            refine wpAnyH_take (i := 21) (oi := isO21) (v := .bool true) rfl (by kernel_rfl) (by kernel_rfl) (by kernel_rfl) (fun _ _ _ h => h) (Or.inl ⟨by rfl, ?_⟩) (by assumption) ?_
            · intro w8 hS8
              (try dsimp only at hS8)
              dsimp only [isO21]
              (first | (go_simp; done) | (go_simp; simp_all; done) | (simp_all [go_sem]; done))
            try simp only [Act.put, isO21, List.setIfInBounds_toArray, List.set_cons_zero, List.set_cons_succ]
            refine wpAnyH_take (i := 22) (oi := isO22) (v := .pointer (some ⟨w.heap.size, 2, none⟩)) rfl (by kernel_rfl) (by kernel_rfl) (by kernel_rfl) (fun _ _ _ h => h) (Or.inl ⟨by rfl, ?_⟩) (by assumption) ?_
            · intro w8 hS8
              (try dsimp only at hS8)
              dsimp only [isO22]
              (first | (go_simp; done) | (go_simp; simp_all; done) | (simp_all [go_sem]; done))
            try simp only [Act.put, isO22, List.setIfInBounds_toArray, List.set_cons_zero, List.set_cons_succ]
            refine wpAnyH_take (i := 23) (oi := isO23) (v := .int .i64 u) rfl (by kernel_rfl) (by kernel_rfl) (by kernel_rfl) (fun _ _ _ h => h) (Or.inl ⟨by rfl, ?_⟩) (by assumption) ?_
            · intro w8 hS8
              (try dsimp only at hS8)
              dsimp only [isO23]
              (first | (go_simp; done) | (go_simp; simp_all; done) | (simp_all [go_sem]; done))
            try simp only [Act.put, isO23, List.setIfInBounds_toArray, List.set_cons_zero, List.set_cons_succ]
            refine wpAnyH_take (i := 24) (oi := isO24) (v := .bool false) rfl (by kernel_rfl) (by kernel_rfl) (by kernel_rfl) (fun _ _ _ h => h) (Or.inl ⟨by rfl, ?_⟩) (by assumption) ?_
            · intro w8 hS8
              (try dsimp only at hS8)
              dsimp only [isO24]
              (first | (go_simp; done) | (go_simp; simp_all; done) | (simp_all [go_sem]; done))
            try simp only [Act.put, isO24, List.setIfInBounds_toArray, List.set_cons_zero, List.set_cons_succ]
            refine wpAnyH_take (i := 25) (oi := isO25) (v := .bool false) rfl (by kernel_rfl) (by kernel_rfl) (by kernel_rfl) (fun _ _ _ h => h) (Or.inl ⟨by rfl, ?_⟩) (by assumption) ?_
            · intro w8 hS8
              (try dsimp only at hS8)
              dsimp only [isO25]
              (first | (go_simp; done) | (go_simp; simp_all; done) | (simp_all [go_sem]; done))
            try simp only [Act.put, isO25, List.setIfInBounds_toArray, List.set_cons_zero, List.set_cons_succ]
            refine wpAnyH_take (i := 26) (oi := isO26) (v := .bool false) rfl (by kernel_rfl) (by kernel_rfl) (by kernel_rfl) (fun _ _ _ h => h) (Or.inl ⟨by rfl, ?_⟩) (by assumption) ?_
            · intro w8 hS8
              (try dsimp only at hS8)
              dsimp only [isO26]
              (first | (go_simp; done) | (go_simp; simp_all; done) | (simp_all [go_sem]; done))
            try simp only [Act.put, isO26, List.setIfInBounds_toArray, List.set_cons_zero, List.set_cons_succ]
            refine held_skip (i := 27) (oi := isO27) rfl (by kernel_rfl) (by kernel_rfl) (by kernel_rfl) (fun _ _ _ h => h) (by rfl) (by assumption) ?_
            try simp only [Act.put, isO27, List.setIfInBounds_toArray, List.set_cons_zero, List.set_cons_succ]
            refine held_skip (i := 28) (oi := isO28) rfl (by kernel_rfl) (by kernel_rfl) (by kernel_rfl) (fun _ _ _ h => h) (by rfl) (by assumption) ?_
            try simp only [Act.put, isO28, List.setIfInBounds_toArray, List.set_cons_zero, List.set_cons_succ]
            refine held_skip (i := 29) (oi := isO29) rfl (by kernel_rfl) (by kernel_rfl) (by kernel_rfl) (fun _ _ _ h => h) (by rfl) (by assumption) ?_
            try simp only [Act.put, isO29, List.setIfInBounds_toArray, List.set_cons_zero, List.set_cons_succ]
            refine held_skip (i := 30) (oi := isO30) rfl (by kernel_rfl) (by kernel_rfl) (by kernel_rfl) (fun _ _ _ h => h) (by rfl) (by assumption) ?_
            try simp only [Act.put, isO30, List.setIfInBounds_toArray, List.set_cons_zero, List.set_cons_succ]
            refine held_skip (i := 31) (oi := isO31) rfl (by kernel_rfl) (by kernel_rfl) (by kernel_rfl) (fun _ _ _ h => h) (by rfl) (by assumption) ?_
            try simp only [Act.put, isO31, List.setIfInBounds_toArray, List.set_cons_zero, List.set_cons_succ]
            refine wpAnyH_take (i := 32) (oi := isO32) (v := .bool false) rfl (by kernel_rfl) (by kernel_rfl) (by kernel_rfl) (fun _ _ _ h => h) (Or.inl ⟨by rfl, ?_⟩) (by assumption) ?_
            · intro w8 hS8
              (try dsimp only at hS8)
              dsimp only [isO32]
              (first | (go_simp; done) | (go_simp; simp_all; done) | (simp_all [go_sem]; done))
            try simp only [Act.put, isO32, List.setIfInBounds_toArray, List.set_cons_zero, List.set_cons_succ]
            refine wpAnyH_take (i := 33) (oi := isO33) (v := .bool false) rfl (by kernel_rfl) (by kernel_rfl) (by kernel_rfl) (fun _ _ _ h => h) (Or.inl ⟨by rfl, ?_⟩) (by assumption) ?_
            · intro w8 hS8
              (try dsimp only at hS8)
              dsimp only [isO33]
              (first | (go_simp; done) | (go_simp; simp_all; done) | (simp_all [go_sem]; done))
            try simp only [Act.put, isO33, List.setIfInBounds_toArray, List.set_cons_zero, List.set_cons_succ]
            refine held_skip (i := 34) (oi := isO34) rfl (by kernel_rfl) (by kernel_rfl) (by kernel_rfl) (fun _ _ _ h => h) (by rfl) (by assumption) ?_
            try simp only [Act.put, isO34, List.setIfInBounds_toArray, List.set_cons_zero, List.set_cons_succ]
            refine held_skip (i := 35) (oi := isO35) rfl (by kernel_rfl) (by kernel_rfl) (by kernel_rfl) (fun _ _ _ h => h) (by rfl) (by assumption) ?_
            try simp only [Act.put, isO35, List.setIfInBounds_toArray, List.set_cons_zero, List.set_cons_succ]
            refine held_skip (i := 36) (oi := isO36) rfl (by kernel_rfl) (by kernel_rfl) (by kernel_rfl) (fun _ _ _ h => h) (by rfl) (by assumption) ?_
            try simp only [Act.put, isO36, List.setIfInBounds_toArray, List.set_cons_zero, List.set_cons_succ]
            refine wpAnyH_take (i := 37) (oi := isO37) (v := .bool false) rfl (by kernel_rfl) (by kernel_rfl) (by kernel_rfl) (fun _ _ _ h => h) (Or.inl ⟨by rfl, ?_⟩) (by assumption) ?_
            · intro w8 hS8
              (try dsimp only at hS8)
              dsimp only [isO37]
              (first | (go_simp; done) | (go_simp; simp_all; done) | (simp_all [go_sem]; done))
            try simp only [Act.put, isO37, List.setIfInBounds_toArray, List.set_cons_zero, List.set_cons_succ]
            refine wpAnyH_take (i := 38) (oi := isO38) (v := .bool false) rfl (by kernel_rfl) (by kernel_rfl) (by kernel_rfl) (fun _ _ _ h => h) (Or.inl ⟨by rfl, ?_⟩) (by assumption) ?_
            · intro w8 hS8
              (try dsimp only at hS8)
              dsimp only [isO38]
              (first | (go_simp; done) | (go_simp; simp_all; done) | (simp_all [go_sem]; done))
            try simp only [Act.put, isO38, List.setIfInBounds_toArray, List.set_cons_zero, List.set_cons_succ]
            refine wpAnyH_done (by kernel_rfl) ?_ _

            have KE := KQ.out.step (kn7_b hH3)
            go_wp2
            go_ret
            exact ⟨by rw [AN.out]; rfl, KE.1⟩
        · skip
          have q3 : (c == t) = false := beq_eq_false_iff_ne.2 h3
          have AN := Lib.hid (show smB S = false from smB_false (fun h => h3 (by have h9 := h.2.2.1; rw [HS.out] at h9; rw [HTS.out]; exact h9)))
          clear h3 ht
          go_enter Try.func60, Try.ntmps60
          have K0 := (Kept.start w).alloc7 (.int .i64 b) (.int .i64 c) (.int .i64 u) (.int .i64 mn) (.int .i64 mx) (.int .i64 sm) (.slice ao n cap) 77 _ rfl
          go_upto_region 1 with fail
          obtain ⟨w1, hw1⟩ : ∃ w1, w1 = w.alloc (.cells #[.int .i64 b, .int .i64 c, .int .i64 u, .int .i64 mn, .int .i64 mx, .int .i64 sm, .slice ao n cap] 77) := ⟨_, rfl⟩
          rw [← hw1] at K0 ⊢
          clear hw1
          have KQ := Lib.hid K0
          have HQ := Lib.hid (HV.out.below K0.1)
          clear K0
          refine wp_region_held_drew (S := fun w' => w'.cell? ⟨w.heap.size, 0, none⟩ = some (.int .i64 b) ∧ w'.cell? ⟨w.heap.size, 1, none⟩ = some (.int .i64 c) ∧ w'.cell? ⟨w.heap.size, 2, none⟩ = some (.int .i64 u) ∧ w'.cell? ⟨w.heap.size, 3, none⟩ = some (.int .i64 mn) ∧ w'.cell? ⟨w.heap.size, 4, none⟩ = some (.int .i64 mx) ∧ w'.cell? ⟨w.heap.size, 5, none⟩ = some (.int .i64 sm) ∧ w'.cell? ⟨w.heap.size, 6, none⟩ = some (.slice ao n cap) ∧ Below w1.heap.size w1 w') (by kernel_rfl) (kn7_at KQ.out (Below.refl _ _).drew) (fun hHeld => ?_)
          refine wpAnyH_take (i := 0) (oi := isO0) (v := .pointer (some ⟨w.heap.size, 0, none⟩)) rfl (by kernel_rfl) (by kernel_rfl) (by kernel_rfl) (fun _ _ _ h => h) (Or.inl ⟨by rfl, ?_⟩) (by assumption) ?_
          · intro w8 hS8
            (try dsimp only at hS8)
            dsimp only [isO0]
            (first | (go_simp; done) | (go_simp; simp_all; done) | (simp_all [go_sem]; done))
          try simp only [Act.put, isO0, List.setIfInBounds_toArray, List.set_cons_zero, List.set_cons_succ]
          refine wpAnyH_take (i := 1) (oi := isO1) (v := .int .i64 b) rfl (by kernel_rfl) (by kernel_rfl) (by kernel_rfl) (fun _ _ _ h => h) (Or.inl ⟨by rfl, ?_⟩) (by assumption) ?_
          · intro w8 hS8
            (try dsimp only at hS8)
            dsimp only [isO1]
            (first | (go_simp; done) | (go_simp; simp_all; done) | (simp_all [go_sem]; done))
          try simp only [Act.put, isO1, List.setIfInBounds_toArray, List.set_cons_zero, List.set_cons_succ]
          refine wpAnyH_take (i := 2) (oi := isO2) (v := .bool false) rfl (by kernel_rfl) (by kernel_rfl) (by kernel_rfl) (fun _ _ _ h => h) (Or.inl ⟨by rfl, ?_⟩) (by assumption) ?_
          · intro w8 hS8
            (try dsimp only at hS8)
            dsimp only [isO2]
            (first | (go_simp; done) | (go_simp; simp_all; done) | (simp_all [go_sem]; done))
          try simp only [Act.put, isO2, List.setIfInBounds_toArray, List.set_cons_zero, List.set_cons_succ]
          refine wpAnyH_take (i := 3) (oi := isO3) (v := .bool false) rfl (by kernel_rfl) (by kernel_rfl) (by kernel_rfl) (fun _ _ _ h => h) (Or.inl ⟨by rfl, ?_⟩) (by assumption) ?_
          · intro w8 hS8
            (try dsimp only at hS8)
            dsimp only [isO3]
            (first | (go_simp; done) | (go_simp; simp_all; done) | (simp_all [go_sem]; done))
          try simp only [Act.put, isO3, List.setIfInBounds_toArray, List.set_cons_zero, List.set_cons_succ]
          refine wpAnyH_take (i := 4) (oi := isO4) (v := .pointer (some ⟨w.heap.size, 0, none⟩)) rfl (by kernel_rfl) (by kernel_rfl) (by kernel_rfl) (fun _ _ _ h => h) (Or.inl ⟨by rfl, ?_⟩) (by assumption) ?_
          · intro w8 hS8
            (try dsimp only at hS8)
            dsimp only [isO4]
            (first | (go_simp; done) | (go_simp; simp_all; done) | (simp_all [go_sem]; done))
          try simp only [Act.put, isO4, List.setIfInBounds_toArray, List.set_cons_zero, List.set_cons_succ]
          refine wpAnyH_take (i := 5) (oi := isO5) (v := .int .i64 b) rfl (by kernel_rfl) (by kernel_rfl) (by kernel_rfl) (fun _ _ _ h => h) (Or.inl ⟨by rfl, ?_⟩) (by assumption) ?_
          · intro w8 hS8
            (try dsimp only at hS8)
            dsimp only [isO5]
            (first | (go_simp; done) | (go_simp; simp_all; done) | (simp_all [go_sem]; done))
          try simp only [Act.put, isO5, List.setIfInBounds_toArray, List.set_cons_zero, List.set_cons_succ]
          refine wpAnyH_ready (rs := [6]) (by kernel_rfl) (by simp) ?_
          refine AllReadyH.cons (o := isO6) rfl (fun K hK => ?_) AllReadyH.nil
          dsimp only [isO6]
          go_simp
          go_at_call 118
          (with_reducible refine (DD1.out _).mono ?_)
          rintro e9 w91 ⟨rfl, hb1⟩
          refine hK.out _ _ ?_ (fun hH1 => ?_)
          · exact kn7_keep KQ.out hHeld hb1
          clear hK K
          try simp only [Act.put, isO6, List.setIfInBounds_toArray, List.set_cons_zero, List.set_cons_succ]
          refine wpAnyH_take (i := 7) (oi := isO7) (v := .bool true) rfl (by kernel_rfl) (by kernel_rfl) (by kernel_rfl) (fun _ _ _ h => h) (Or.inl ⟨by rfl, ?_⟩) (by assumption) ?_
          · intro w8 hS8
            (try dsimp only at hS8)
            dsimp only [isO7]
            (first | (go_simp; done) | (go_simp; simp_all; done) | (simp_all [go_sem]; done))
          try simp only [Act.put, isO7, List.setIfInBounds_toArray, List.set_cons_zero, List.set_cons_succ]
          refine wpAnyH_take (i := 8) (oi := isO8) (v := .bool true) rfl (by kernel_rfl) (by kernel_rfl) (by kernel_rfl) (fun _ _ _ h => h) (Or.inl ⟨by rfl, ?_⟩) (by assumption) ?_
          · intro w8 hS8
            (try dsimp only at hS8)
            dsimp only [isO8]
            (first | (go_simp; done) | (go_simp; simp_all; done) | (simp_all [go_sem]; done))
          try simp only [Act.put, isO8, List.setIfInBounds_toArray, List.set_cons_zero, List.set_cons_succ]
          refine wpAnyH_take (i := 9) (oi := isO9) (v := .pointer (some ⟨w.heap.size, 6, none⟩)) rfl (by kernel_rfl) (by kernel_rfl) (by kernel_rfl) (fun _ _ _ h => h) (Or.inl ⟨by rfl, ?_⟩) (by assumption) ?_
          · intro w8 hS8
            (try dsimp only at hS8)
            dsimp only [isO9]
            (first | (go_simp; done) | (go_simp; simp_all; done) | (simp_all [go_sem]; done))
          try simp only [Act.put, isO9, List.setIfInBounds_toArray, List.set_cons_zero, List.set_cons_succ]
          refine wpAnyH_take (i := 10) (oi := isO10) (v := .slice ao n cap) rfl (by kernel_rfl) (by kernel_rfl) (by kernel_rfl) (fun _ _ _ h => h) (Or.inl ⟨by rfl, ?_⟩) (by assumption) ?_
          · intro w8 hS8
            (try dsimp only at hS8)
            dsimp only [isO10]
            (first | (go_simp; done) | (go_simp; simp_all; done) | (simp_all [go_sem]; done))
          try simp only [Act.put, isO10, List.setIfInBounds_toArray, List.set_cons_zero, List.set_cons_succ]
          refine wpAnyH_ready (rs := [11]) (by kernel_rfl) (by simp) ?_
          refine AllReadyH.cons (o := isO11) rfl (fun K hK => ?_) AllReadyH.nil
          dsimp only [isO11]
          go_simp
          go_at_call 37
          (with_reducible refine (DD2.out _ (HQ.out.below (kn7_b hH1))).mono ?_)
          rintro e9 w92 ⟨rfl, hb2⟩
          refine hK.out _ _ ?_ (fun hH2 => ?_)
          · exact kn7_keep KQ.out hH1 hb2
          clear hK K
          try simp only [Act.put, isO11, List.setIfInBounds_toArray, List.set_cons_zero, List.set_cons_succ]
          refine wpAnyH_take (i := 12) (oi := isO12) (v := .bool true) rfl (by kernel_rfl) (by kernel_rfl) (by kernel_rfl) (fun _ _ _ h => h) (Or.inl ⟨by rfl, ?_⟩) (by assumption) ?_
          · intro w8 hS8
            (try dsimp only at hS8)
            dsimp only [isO12]
            (first | (go_simp; done) | (go_simp; simp_all; done) | (simp_all [go_sem]; done))
          try simp only [Act.put, isO12, List.setIfInBounds_toArray, List.set_cons_zero, List.set_cons_succ]
          refine wpAnyH_take (i := 13) (oi := isO13) (v := .bool true) rfl (by kernel_rfl) (by kernel_rfl) (by kernel_rfl) (fun _ _ _ h => h) (Or.inl ⟨by rfl, ?_⟩) (by assumption) ?_
          · intro w8 hS8
            (try dsimp only at hS8)
            dsimp only [isO13]
            (first | (go_simp; done) | (go_simp; simp_all; done) | (simp_all [go_sem]; done))
          try simp only [Act.put, isO13, List.setIfInBounds_toArray, List.set_cons_zero, List.set_cons_succ]
          refine wpAnyH_take (i := 14) (oi := isO14) (v := .pointer (some ⟨w.heap.size, 1, none⟩)) rfl (by kernel_rfl) (by kernel_rfl) (by kernel_rfl) (fun _ _ _ h => h) (Or.inl ⟨by rfl, ?_⟩) (by assumption) ?_
          · intro w8 hS8
            (try dsimp only at hS8)
            dsimp only [isO14]
            (first | (go_simp; done) | (go_simp; simp_all; done) | (simp_all [go_sem]; done))
          try simp only [Act.put, isO14, List.setIfInBounds_toArray, List.set_cons_zero, List.set_cons_succ]
          refine wpAnyH_take (i := 15) (oi := isO15) (v := .int .i64 c) rfl (by kernel_rfl) (by kernel_rfl) (by kernel_rfl) (fun _ _ _ h => h) (Or.inl ⟨by rfl, ?_⟩) (by assumption) ?_
          · intro w8 hS8
            (try dsimp only at hS8)
            dsimp only [isO15]
            (first | (go_simp; done) | (go_simp; simp_all; done) | (simp_all [go_sem]; done))
          try simp only [Act.put, isO15, List.setIfInBounds_toArray, List.set_cons_zero, List.set_cons_succ]
          refine wpAnyH_take (i := 16) (oi := isO16) (v := .pointer (some ⟨w.heap.size, 6, none⟩)) rfl (by kernel_rfl) (by kernel_rfl) (by kernel_rfl) (fun _ _ _ h => h) (Or.inl ⟨by rfl, ?_⟩) (by assumption) ?_
          · intro w8 hS8
            (try dsimp only at hS8)
            dsimp only [isO16]
            (first | (go_simp; done) | (go_simp; simp_all; done) | (simp_all [go_sem]; done))
          try simp only [Act.put, isO16, List.setIfInBounds_toArray, List.set_cons_zero, List.set_cons_succ]
          refine wpAnyH_take (i := 17) (oi := isO17) (v := .slice ao n cap) rfl (by kernel_rfl) (by kernel_rfl) (by kernel_rfl) (fun _ _ _ h => h) (Or.inl ⟨by rfl, ?_⟩) (by assumption) ?_
          · intro w8 hS8
            (try dsimp only at hS8)
            dsimp only [isO17]
            (first | (go_simp; done) | (go_simp; simp_all; done) | (simp_all [go_sem]; done))
          try simp only [Act.put, isO17, List.setIfInBounds_toArray, List.set_cons_zero, List.set_cons_succ]
          refine wpAnyH_ready (rs := [18]) (by kernel_rfl) (by simp) ?_
          refine AllReadyH.cons (o := isO18) rfl (fun K hK => ?_) AllReadyH.nil
          dsimp only [isO18]
          go_simp
          go_at_call 36
          (with_reducible refine (DD3.out _ (HQ.out.below (kn7_b hH2))).mono ?_)
          rintro e9 w93 ⟨rfl, hb3⟩
          refine hK.out _ _ ?_ (fun hH3 => ?_)
          · exact kn7_keep KQ.out hH2 hb3
          clear hK K
          try simp only [Act.put, isO18, List.setIfInBounds_toArray, List.set_cons_zero, List.set_cons_succ]
          refine wpAnyH_take (i := 19) (oi := isO19) (v := .bool false) rfl (by kernel_rfl) (by kernel_rfl) (by kernel_rfl) (fun _ _ _ h => h) (Or.inl ⟨by rfl, ?_⟩) (by assumption) ?_
          · intro w8 hS8
            (try dsimp only at hS8)
            dsimp only [isO19]
            (first | (go_simp; done) | (go_simp; simp_all; done) | (simp_all [go_sem]; done))
          try simp only [Act.put, isO19, List.setIfInBounds_toArray, List.set_cons_zero, List.set_cons_succ]
          refine wpAnyH_take (i := 20) (oi := isO20) (v := .bool false) rfl (by kernel_rfl) (by kernel_rfl) (by kernel_rfl) (fun _ _ _ h => h) (Or.inl ⟨by rfl, ?_⟩) (by assumption) ?_
          · intro w8 hS8
            (try dsimp only at hS8)
            dsimp only [isO20]
            (first | (go_simp; done) | (go_simp; simp_all; done) | (simp_all [go_sem]; done))
          try simp only [Act.put, isO20, List.setIfInBounds_toArray, List.set_cons_zero, List.set_cons_succ]
          refine wpAnyH_take (i := 21) (oi := isO21) (v := .bool false) rfl (by kernel_rfl) (by kernel_rfl) (by kernel_rfl) (fun _ _ _ h => h) (Or.inl ⟨by rfl, ?_⟩) (by assumption) ?_
          · intro w8 hS8
            (try dsimp only at hS8)
            dsimp only [isO21]
            (first | (go_simp; done) | (go_simp; simp_all; done) | (simp_all [go_sem]; done))
          try simp only [Act.put, isO21, List.setIfInBounds_toArray, List.set_cons_zero, List.set_cons_succ]
          refine held_skip (i := 22) (oi := isO22) rfl (by kernel_rfl) (by kernel_rfl) (by kernel_rfl) (fun _ _ _ h => h) (by rfl) (by assumption) ?_
          try simp only [Act.put, isO22, List.setIfInBounds_toArray, List.set_cons_zero, List.set_cons_succ]
          refine held_skip (i := 23) (oi := isO23) rfl (by kernel_rfl) (by kernel_rfl) (by kernel_rfl) (fun _ _ _ h => h) (by rfl) (by assumption) ?_
          try simp only [Act.put, isO23, List.setIfInBounds_toArray, List.set_cons_zero, List.set_cons_succ]
          refine held_skip (i := 24) (oi := isO24) rfl (by kernel_rfl) (by kernel_rfl) (by kernel_rfl) (fun _ _ _ h => h) (by rfl) (by assumption) ?_
          try simp only [Act.put, isO24, List.setIfInBounds_toArray, List.set_cons_zero, List.set_cons_succ]
          refine wpAnyH_take (i := 25) (oi := isO25) (v := .bool false) rfl (by kernel_rfl) (by kernel_rfl) (by kernel_rfl) (fun _ _ _ h => h) (Or.inl ⟨by rfl, ?_⟩) (by assumption) ?_
          · intro w8 hS8
            (try dsimp only at hS8)
            dsimp only [isO25]
            (first | (go_simp; done) | (go_simp; simp_all; done) | (simp_all [go_sem]; done))
          try simp only [Act.put, isO25, List.setIfInBounds_toArray, List.set_cons_zero, List.set_cons_succ]
          refine wpAnyH_take (i := 26) (oi := isO26) (v := .bool false) rfl (by kernel_rfl) (by kernel_rfl) (by kernel_rfl) (fun _ _ _ h => h) (Or.inl ⟨by rfl, ?_⟩) (by assumption) ?_
          · intro w8 hS8
            (try dsimp only at hS8)
            dsimp only [isO26]
            (first | (go_simp; done) | (go_simp; simp_all; done) | (simp_all [go_sem]; done))
          try simp only [Act.put, isO26, List.setIfInBounds_toArray, List.set_cons_zero, List.set_cons_succ]
          refine held_skip (i := 27) (oi := isO27) rfl (by kernel_rfl) (by kernel_rfl) (by kernel_rfl) (fun _ _ _ h => h) (by rfl) (by assumption) ?_
          try simp only [Act.put, isO27, List.setIfInBounds_toArray, List.set_cons_zero, List.set_cons_succ]
          refine held_skip (i := 28) (oi := isO28) rfl (by kernel_rfl) (by kernel_rfl) (by kernel_rfl) (fun _ _ _ h => h) (by rfl) (by assumption) ?_
          try simp only [Act.put, isO28, List.setIfInBounds_toArray, List.set_cons_zero, List.set_cons_succ]
          refine held_skip (i := 29) (oi := isO29) rfl (by kernel_rfl) (by kernel_rfl) (by kernel_rfl) (fun _ _ _ h => h) (by rfl) (by assumption) ?_
          try simp only [Act.put, isO29, List.setIfInBounds_toArray, List.set_cons_zero, List.set_cons_succ]
          refine held_skip (i := 30) (oi := isO30) rfl (by kernel_rfl) (by kernel_rfl) (by kernel_rfl) (fun _ _ _ h => h) (by rfl) (by assumption) ?_
          try simp only [Act.put, isO30, List.setIfInBounds_toArray, List.set_cons_zero, List.set_cons_succ]
          refine held_skip (i := 31) (oi := isO31) rfl (by kernel_rfl) (by kernel_rfl) (by kernel_rfl) (fun _ _ _ h => h) (by rfl) (by assumption) ?_
          try simp only [Act.put, isO31, List.setIfInBounds_toArray, List.set_cons_zero, List.set_cons_succ]
          refine wpAnyH_take (i := 32) (oi := isO32) (v := .bool false) rfl (by kernel_rfl) (by kernel_rfl) (by kernel_rfl) (fun _ _ _ h => h) (Or.inl ⟨by rfl, ?_⟩) (by assumption) ?_
          · intro w8 hS8
            (try dsimp only at hS8)
            dsimp only [isO32]
            (first | (go_simp; done) | (go_simp; simp_all; done) | (simp_all [go_sem]; done))
          try simp only [Act.put, isO32, List.setIfInBounds_toArray, List.set_cons_zero, List.set_cons_succ]
          refine wpAnyH_take (i := 33) (oi := isO33) (v := .bool false) rfl (by kernel_rfl) (by kernel_rfl) (by kernel_rfl) (fun _ _ _ h => h) (Or.inl ⟨by rfl, ?_⟩) (by assumption) ?_
          · intro w8 hS8
            (try dsimp only at hS8)
            dsimp only [isO33]
            (first | (go_simp; done) | (go_simp; simp_all; done) | (simp_all [go_sem]; done))
          try simp only [Act.put, isO33, List.setIfInBounds_toArray, List.set_cons_zero, List.set_cons_succ]
          refine held_skip (i := 34) (oi := isO34) rfl (by kernel_rfl) (by kernel_rfl) (by kernel_rfl) (fun _ _ _ h => h) (by rfl) (by assumption) ?_
          try simp only [Act.put, isO34, List.setIfInBounds_toArray, List.set_cons_zero, List.set_cons_succ]
          refine held_skip (i := 35) (oi := isO35) rfl (by kernel_rfl) (by kernel_rfl) (by kernel_rfl) (fun _ _ _ h => h) (by rfl) (by assumption) ?_
          try simp only [Act.put, isO35, List.setIfInBounds_toArray, List.set_cons_zero, List.set_cons_succ]
          refine held_skip (i := 36) (oi := isO36) rfl (by kernel_rfl) (by kernel_rfl) (by kernel_rfl) (fun _ _ _ h => h) (by rfl) (by assumption) ?_
          try simp only [Act.put, isO36, List.setIfInBounds_toArray, List.set_cons_zero, List.set_cons_succ]
          refine wpAnyH_take (i := 37) (oi := isO37) (v := .bool false) rfl (by kernel_rfl) (by kernel_rfl) (by kernel_rfl) (fun _ _ _ h => h) (Or.inl ⟨by rfl, ?_⟩) (by assumption) ?_
          · intro w8 hS8
            (try dsimp only at hS8)
            dsimp only [isO37]
            (first | (go_simp; done) | (go_simp; simp_all; done) | (simp_all [go_sem]; done))
          try simp only [Act.put, isO37, List.setIfInBounds_toArray, List.set_cons_zero, List.set_cons_succ]
          refine wpAnyH_take (i := 38) (oi := isO38) (v := .bool false) rfl (by kernel_rfl) (by kernel_rfl) (by kernel_rfl) (fun _ _ _ h => h) (Or.inl ⟨by rfl, ?_⟩) (by assumption) ?_
          · intro w8 hS8
            (try dsimp only at hS8)
            dsimp only [isO38]
            (first | (go_simp; done) | (go_simp; simp_all; done) | (simp_all [go_sem]; done))
          try simp only [Act.put, isO38, List.setIfInBounds_toArray, List.set_cons_zero, List.set_cons_succ]
          refine wpAnyH_done (by kernel_rfl) ?_ _

          have KE := KQ.out.step (kn7_b hH3)
          go_wp2
          go_ret
          exact ⟨by rw [AN.out]; rfl, KE.1⟩

end Go.Proofs.Ytcfcohnkkgickaa
