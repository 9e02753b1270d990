/-
  The walk over FnIntervals, behind its test of length.
-/
import Derived.Test.YtdfmidihghoilaaDoorRows
import Derived.Test.YtdfmidihghoilaaDoorDrawBig
import Derived.Test.YtdfmidihghoilaaDoorDrawIv2
import Derived.Test.YtdfmidihghoilaaDoorIvC
import Derived.Test.YtdfmidihghoilaaDoorIpImpl
import Derived.Test.YtdfmidihghoilaaDoorKeep
import Derived.WalkKit
import Derived.WalkSpells
import Derived.WalkLawsBesides
import Derived.IntWalk
import Derived.Lib.Hide
import Derived.Deep.RegionHeld3
import Derived.Deep.DeepCutAuto
namespace Go.Proofs.YtdfmidihghoilaaDoor
open Go.RowKit Num

set_option maxRecDepth 100000 in
set_option maxHeartbeats 40000000 in
theorem iv_walk (ao : Option Addr) (n0 cap : Nat) (w : World) (hr : Rd w w.heap.size ao n0) (ht : PowTab w) (hm : MaxCell w) :
    Calls Tryd.prog 5 #[.slice ao n0 cap] w fun e w' => e = .returned (.bool true) ∧ Below w.heap.size w w' := by
  have HR := Lib.hid hr
  have HT : Hid (PowTab w) := ht
  have HM : Hid (MaxCell w) := hm
  have HLT : Hid (0 < w.heap.size) := (show _ < _ by obtain ⟨m, hm⟩ := hm; exact World.block_lt_of_cell? w _ hm)
  have hn := hr.1
  clear ht hr hm
  go_enter Tryd.func5, Tryd.ntmps5
  go_wp2_with fail
  refine (big_no ao n0 cap _ hn).mono ?_
  rintro e w1 ⟨rfl, rfl⟩
  go_wp2_with fail
  refine (drawMt w.heap.size ao n0 cap _ HR.out (Nat.le_refl _)).mono ?_
  rintro e0 w1 ⟨a, b, c, d, e, f, g, h, ⟨ha, hc, he, hg⟩, rfl, _, hb⟩
  obtain ⟨l1, l2, m1, m2, n, n2, j, L, p, q, C0⟩ := mvC a b c d e f g h ha hc he hg
  have CC := Lib.hid C0
  have K1 := (((Kept.start w).step hb).alloc4 (.int .i64 a) (.int .i64 b) (.int .i64 c) (.int .i64 d) 29 _ rfl).alloc4 (.int .i64 e) (.int .i64 f) (.int .i64 g) (.int .i64 h) 29 (w1.heap.size + 1) (by simp)
  clear hb ha hc he hg C0 hn
  have k0 := K1.get 0 rfl
  have k1 := K1.get 1 rfl
  have k2 := K1.get 2 rfl
  have k3 := K1.get 3 rfl
  have k4 := K1.get 4 rfl
  have k5 := K1.get 5 rfl
  have k6 := K1.get 6 rfl
  have k7 := K1.get 7 rfl
  go_wp2_with fail
  refine (CC.out.mt _).mono ?_
  rintro e9 w2 ⟨rfl, hb⟩
  have K2 := (K1.step hb).alloc4 (.int .i64 l1) (.int .i64 l2) (.int .i64 m1) (.int .i64 m2) 29 _ rfl
  have hz2 : w1.heap.size + 1 < w2.heap.size := (K1.step hb).lt 0 rfl
  clear hb K1 k0 k1 k2 k3 k4 k5 k6 k7
  have k4 := K2.get 4 rfl
  have k5 := K2.get 5 rfl
  have k6 := K2.get 6 rfl
  have k7 := K2.get 7 rfl
  have k8 := K2.get 8 rfl
  have k9 := K2.get 9 rfl
  have k10 := K2.get 10 rfl
  have k11 := K2.get 11 rfl
  go_wp2_with fail
  refine (CC.out.smt _).mono ?_
  rintro e9 w3 ⟨rfl, hb⟩
  have K3 := (K2.step hb).alloc4 (.int .i64 l1) (.int .i64 l2) (.int .i64 m1) (.int .i64 m2) 29 _ rfl
  have hz3 : w2.heap.size < w3.heap.size := (K2.step hb).lt 0 rfl
  clear hb K2 k4 k5 k6 k7 k8 k9 k10 k11
  have k8 := K3.get 8 rfl
  have k9 := K3.get 9 rfl
  have k10 := K3.get 10 rfl
  have k11 := K3.get 11 rfl
  have k12 := K3.get 12 rfl
  have k13 := K3.get 13 rfl
  have k14 := K3.get 14 rfl
  have k15 := K3.get 15 rfl
  go_wp2_with fail
  refine (CC.out.mt2 _).mono ?_
  rintro e9 w4 ⟨rfl, hb⟩
  have K4 := (K3.step hb).alloc4 (.int .i64 l1) (.int .i64 l2) (.int .i64 m1) (.int .i64 m2) 29 _ rfl
  have hz4 : w3.heap.size < w4.heap.size := (K3.step hb).lt 0 rfl
  clear hb K3 k8 k9 k10 k11 k12 k13 k14 k15
  go_upto_region 7 with fail
  go_cut [80] (fun s80 wx => s80 = .bool false ∧ Kept w wx [(⟨w1.heap.size + 1, 0, none⟩, .int .i64 e), (⟨w1.heap.size + 1, 1, none⟩, .int .i64 f), (⟨w1.heap.size + 1, 2, none⟩, .int .i64 g), (⟨w1.heap.size + 1, 3, none⟩, .int .i64 h), (⟨w1.heap.size, 0, none⟩, .int .i64 a), (⟨w1.heap.size, 1, none⟩, .int .i64 b), (⟨w1.heap.size, 2, none⟩, .int .i64 c), (⟨w1.heap.size, 3, none⟩, .int .i64 d), (⟨w2.heap.size, 0, none⟩, .int .i64 l1), (⟨w2.heap.size, 1, none⟩, .int .i64 l2), (⟨w2.heap.size, 2, none⟩, .int .i64 m1), (⟨w2.heap.size, 3, none⟩, .int .i64 m2)])
  case first =>
    as_aux_lemma =>
      (first | go_region_held3 (fun w' => w'.cell? ⟨w4.heap.size, 0, none⟩ = some (.int .i64 l1) ∧ w'.cell? ⟨w4.heap.size, 1, none⟩ = some (.int .i64 l2) ∧ w'.cell? ⟨w4.heap.size, 2, none⟩ = some (.int .i64 m1) ∧ w'.cell? ⟨w4.heap.size, 3, none⟩ = some (.int .i64 m2) ∧ w'.cell? ⟨w3.heap.size, 0, none⟩ = some (.int .i64 l1) ∧ w'.cell? ⟨w3.heap.size, 1, none⟩ = some (.int .i64 l2) ∧ w'.cell? ⟨w3.heap.size, 2, none⟩ = some (.int .i64 m1) ∧ w'.cell? ⟨w3.heap.size, 3, none⟩ = some (.int .i64 m2) ∧ w'.cell? ⟨w2.heap.size, 0, none⟩ = some (.int .i64 l1) ∧ w'.cell? ⟨w2.heap.size, 1, none⟩ = some (.int .i64 l2) ∧ w'.cell? ⟨w2.heap.size, 2, none⟩ = some (.int .i64 m1) ∧ w'.cell? ⟨w2.heap.size, 3, none⟩ = some (.int .i64 m2) ∧ w'.cell? ⟨w1.heap.size + 1, 0, none⟩ = some (.int .i64 e) ∧ w'.cell? ⟨w1.heap.size + 1, 1, none⟩ = some (.int .i64 f) ∧ w'.cell? ⟨w1.heap.size + 1, 2, none⟩ = some (.int .i64 g) ∧ w'.cell? ⟨w1.heap.size + 1, 3, none⟩ = some (.int .i64 h) ∧ w'.cell? ⟨w1.heap.size, 0, none⟩ = some (.int .i64 a) ∧ w'.cell? ⟨w1.heap.size, 1, none⟩ = some (.int .i64 b) ∧ w'.cell? ⟨w1.heap.size, 2, none⟩ = some (.int .i64 c) ∧ w'.cell? ⟨w1.heap.size, 3, none⟩ = some (.int .i64 d) ∧ Kept w w' [(⟨w4.heap.size, 0, none⟩, .int .i64 l1), (⟨w4.heap.size, 1, none⟩, .int .i64 l2), (⟨w4.heap.size, 2, none⟩, .int .i64 m1), (⟨w4.heap.size, 3, none⟩, .int .i64 m2), (⟨w3.heap.size, 0, none⟩, .int .i64 l1), (⟨w3.heap.size, 1, none⟩, .int .i64 l2), (⟨w3.heap.size, 2, none⟩, .int .i64 m1), (⟨w3.heap.size, 3, none⟩, .int .i64 m2), (⟨w2.heap.size, 0, none⟩, .int .i64 l1), (⟨w2.heap.size, 1, none⟩, .int .i64 l2), (⟨w2.heap.size, 2, none⟩, .int .i64 m1), (⟨w2.heap.size, 3, none⟩, .int .i64 m2), (⟨w1.heap.size + 1, 0, none⟩, .int .i64 e), (⟨w1.heap.size + 1, 1, none⟩, .int .i64 f), (⟨w1.heap.size + 1, 2, none⟩, .int .i64 g), (⟨w1.heap.size + 1, 3, none⟩, .int .i64 h), (⟨w1.heap.size, 0, none⟩, .int .i64 a), (⟨w1.heap.size, 1, none⟩, .int .i64 b), (⟨w1.heap.size, 2, none⟩, .int .i64 c), (⟨w1.heap.size, 3, none⟩, .int .i64 d)]) (first | assumption | exact s20_start K4 | exact s20_keep (by assumption) (by assumption)) (first | (go_simp; go_at_call 16; (with_reducible refine (CC.out.li _).mono ?_); rintro e9 w9 ⟨rfl, hb⟩) | (go_simp; go_at_call 17; (with_reducible refine (CC.out.sli _).mono ?_); rintro e9 w9 ⟨rfl, hb⟩) | (go_simp; go_at_call 18; (with_reducible refine (CC.out.ci _).mono ?_); rintro e9 w9 ⟨rfl, hb⟩) | (go_simp; go_at_call 19; (with_reducible refine (CC.out.sci _).mono ?_); rintro e9 w9 ⟨rfl, hb⟩)) | fail)
      all_goals
        have K5 := ‹_ ∧ _ ∧ _ ∧ _ ∧ _ ∧ _ ∧ _ ∧ _ ∧ _ ∧ _ ∧ _ ∧ _ ∧ _ ∧ _ ∧ _ ∧ _ ∧ _ ∧ _ ∧ _ ∧ _ ∧ Kept w w9 _›.2.2.2.2.2.2.2.2.2.2.2.2.2.2.2.2.2.2.2.2
        go_wp2_with fail
        go_meet
        exact ⟨rfl, K5.sub (by intro p9 hp9; simp only [List.mem_cons, List.not_mem_nil, or_false] at hp9; rcases hp9 with rfl | rfl | rfl | rfl | rfl | rfl | rfl | rfl | rfl | rfl | rfl | rfl <;> simp)⟩
  case rest =>
    obtain ⟨rfl, K5⟩ := hcut
    clear K4
    go_upto_region 9 with fail
    go_cut [104] (fun s104 wx => s104 = .bool false ∧ Kept w wx [(⟨w1.heap.size + 1, 0, none⟩, .int .i64 e), (⟨w1.heap.size + 1, 1, none⟩, .int .i64 f), (⟨w1.heap.size + 1, 2, none⟩, .int .i64 g), (⟨w1.heap.size + 1, 3, none⟩, .int .i64 h), (⟨w1.heap.size, 0, none⟩, .int .i64 a), (⟨w1.heap.size, 1, none⟩, .int .i64 b), (⟨w1.heap.size, 2, none⟩, .int .i64 c), (⟨w1.heap.size, 3, none⟩, .int .i64 d), (⟨w2.heap.size, 0, none⟩, .int .i64 l1), (⟨w2.heap.size, 1, none⟩, .int .i64 l2), (⟨w2.heap.size, 2, none⟩, .int .i64 m1), (⟨w2.heap.size, 3, none⟩, .int .i64 m2)])
    case first =>
      have SX0 := CC.out.sx
      have SY0 := CC.out.sy
      cases p
      · have SX : Hid _ := SX0
        clear SX0 SY0
        as_aux_lemma =>
          refine wp_region_held_drew (S := fun w' => w'.cell? ⟨w1.heap.size + 1, 0, none⟩ = some (.int .i64 e) ∧ w'.cell? ⟨w1.heap.size + 1, 1, none⟩ = some (.int .i64 f) ∧ w'.cell? ⟨w1.heap.size + 1, 2, none⟩ = some (.int .i64 g) ∧ w'.cell? ⟨w1.heap.size + 1, 3, none⟩ = some (.int .i64 h) ∧ w'.cell? ⟨w1.heap.size, 0, none⟩ = some (.int .i64 a) ∧ w'.cell? ⟨w1.heap.size, 1, none⟩ = some (.int .i64 b) ∧ w'.cell? ⟨w1.heap.size, 2, none⟩ = some (.int .i64 c) ∧ w'.cell? ⟨w1.heap.size, 3, none⟩ = some (.int .i64 d) ∧ Kept w w' [(⟨w1.heap.size + 1, 0, none⟩, .int .i64 e), (⟨w1.heap.size + 1, 1, none⟩, .int .i64 f), (⟨w1.heap.size + 1, 2, none⟩, .int .i64 g), (⟨w1.heap.size + 1, 3, none⟩, .int .i64 h), (⟨w1.heap.size, 0, none⟩, .int .i64 a), (⟨w1.heap.size, 1, none⟩, .int .i64 b), (⟨w1.heap.size, 2, none⟩, .int .i64 c), (⟨w1.heap.size, 3, none⟩, .int .i64 d), (⟨w2.heap.size, 0, none⟩, .int .i64 l1), (⟨w2.heap.size, 1, none⟩, .int .i64 l2), (⟨w2.heap.size, 2, none⟩, .int .i64 m1), (⟨w2.heap.size, 3, none⟩, .int .i64 m2)]) (by kernel_rfl) (s8_start K5) (fun hHeld => ?_)
          refine wpAnyH_take (i := 0) (oi := { dst := some 81, op := Op.load 29 (Operand.tmp 3), type := 29, pos := "laws.go:869", after := #[], guard := none }) (v := .agg #[.int .i64 a, .int .i64 b, .int .i64 c, .int .i64 d]) rfl (by kernel_rfl) (by kernel_rfl) (by kernel_rfl) (fun _ _ _ h => h) (Or.inl ⟨by rfl, ?_⟩) (by assumption) ?_
          · intro w8 hS8
            (try dsimp only at hS8)
            go_simp
          try simp only [Act.put, List.setIfInBounds_toArray, List.set_cons_zero, List.set_cons_succ]
          refine wpAnyH_ready (rs := [1]) (by kernel_rfl) (by simp) ?_
          refine AllReadyH.cons (o := { dst := some 82, op := Op.call { callee := Callee.value (Operand.func 20), args := #[Operand.tmp 81], argTypes := #[29] }, type := 4, pos := "laws.go:869", after := #[{ on := 0, ground := Ground.data }], guard := none }) rfl (fun K hK => ?_) AllReadyH.nil
          go_simp
          go_at_call 20
          (with_reducible refine (SX.out _).mono ?_)
          rintro e9 w9 ⟨rfl, hb⟩
          refine hK.out _ _ ?_ (fun hHeld1 => ?_)
          · exact s8_keep (by assumption) hb
          clear hK K
          try simp only [Act.put, List.setIfInBounds_toArray, List.set_cons_zero, List.set_cons_succ]
          refine wpAnyH_take (i := 2) (oi := { dst := some 83, op := Op.move (Operand.tmp 82), type := 4, pos := "laws.go:869", after := #[{ on := 1, ground := Ground.data }, { on := 1, ground := Ground.chain }], guard := none }) (v := .bool false) rfl (by kernel_rfl) (by kernel_rfl) (by kernel_rfl) (fun _ _ _ h => h) (Or.inl ⟨by rfl, ?_⟩) (by assumption) ?_
          · intro w8 hS8
            (try dsimp only at hS8)
            go_simp
          try simp only [Act.put, List.setIfInBounds_toArray, List.set_cons_zero, List.set_cons_succ]
          refine held_skip (i := 3) (oi := { dst := some 84, op := Op.load 29 (Operand.tmp 4), type := 29, pos := "laws.go:869", after := #[{ on := 2, ground := Ground.guard }], guard := some (2, true) }) rfl (by kernel_rfl) (by kernel_rfl) (by kernel_rfl) (fun _ _ _ h => h) (by rfl) (by assumption) ?_
          try simp only [Act.put, List.setIfInBounds_toArray, List.set_cons_zero, List.set_cons_succ]
          refine held_skip (i := 4) (oi := { dst := some 85, op := Op.call { callee := Callee.value (Operand.func 20), args := #[Operand.tmp 84], argTypes := #[29] }, type := 4, pos := "laws.go:869", after := #[{ on := 3, ground := Ground.data }, { on := 2, ground := Ground.chain }, { on := 2, ground := Ground.guard }], guard := some (2, true) }) rfl (by kernel_rfl) (by kernel_rfl) (by kernel_rfl) (fun _ _ _ h => h) (by rfl) (by assumption) ?_
          try simp only [Act.put, List.setIfInBounds_toArray, List.set_cons_zero, List.set_cons_succ]
          refine wpAnyH_take (i := 5) (oi := { dst := some 86, op := Op.pick (Operand.tmp 83) (Operand.tmp 85) (Operand.const (Value.bool false)), type := 4, pos := "laws.go:869", after := #[{ on := 2, ground := Ground.data }, { on := 4, ground := Ground.data }], guard := none }) (v := .bool false) rfl (by kernel_rfl) (by kernel_rfl) (by kernel_rfl) (fun _ _ _ h => h) (Or.inl ⟨by rfl, ?_⟩) (by assumption) ?_
          · intro w8 hS8
            (try dsimp only at hS8)
            go_simp
          try simp only [Act.put, List.setIfInBounds_toArray, List.set_cons_zero, List.set_cons_succ]
          refine wpAnyH_take (i := 6) (oi := { dst := some 87, op := Op.move (Operand.tmp 86), type := 4, pos := "laws.go:869", after := #[{ on := 5, ground := Ground.data }, { on := 4, ground := Ground.chain }], guard := none }) (v := .bool false) rfl (by kernel_rfl) (by kernel_rfl) (by kernel_rfl) (fun _ _ _ h => h) (Or.inl ⟨by rfl, ?_⟩) (by assumption) ?_
          · intro w8 hS8
            (try dsimp only at hS8)
            go_simp
          try simp only [Act.put, List.setIfInBounds_toArray, List.set_cons_zero, List.set_cons_succ]
          refine held_skip (i := 7) (oi := { dst := some 88, op := Op.move (Operand.tmp 6), type := 4, pos := "laws.go:869", after := #[{ on := 6, ground := Ground.guard }], guard := some (6, true) }) rfl (by kernel_rfl) (by kernel_rfl) (by kernel_rfl) (fun _ _ _ h => h) (by rfl) (by assumption) ?_
          try simp only [Act.put, List.setIfInBounds_toArray, List.set_cons_zero, List.set_cons_succ]
          refine held_skip (i := 8) (oi := { dst := some 89, op := Op.load 29 (Operand.tmp 3), type := 29, pos := "laws.go:869", after := #[{ on := 6, ground := Ground.guard }], guard := some (6, true) }) rfl (by kernel_rfl) (by kernel_rfl) (by kernel_rfl) (fun _ _ _ h => h) (by rfl) (by assumption) ?_
          try simp only [Act.put, List.setIfInBounds_toArray, List.set_cons_zero, List.set_cons_succ]
          refine held_skip (i := 9) (oi := { dst := some 90, op := Op.load 29 (Operand.tmp 4), type := 29, pos := "laws.go:869", after := #[{ on := 6, ground := Ground.guard }], guard := some (6, true) }) rfl (by kernel_rfl) (by kernel_rfl) (by kernel_rfl) (fun _ _ _ h => h) (by rfl) (by assumption) ?_
          try simp only [Act.put, List.setIfInBounds_toArray, List.set_cons_zero, List.set_cons_succ]
          refine held_skip (i := 10) (oi := { dst := some 91, op := Op.call { callee := Callee.value (Operand.func 18), args := #[Operand.tmp 89, Operand.tmp 90], argTypes := #[29, 29] }, type := 3, pos := "laws.go:869", after := #[{ on := 8, ground := Ground.data }, { on := 9, ground := Ground.data }, { on := 6, ground := Ground.chain }, { on := 6, ground := Ground.guard }], guard := some (6, true) }) rfl (by kernel_rfl) (by kernel_rfl) (by kernel_rfl) (fun _ _ _ h => h) (by rfl) (by assumption) ?_
          try simp only [Act.put, List.setIfInBounds_toArray, List.set_cons_zero, List.set_cons_succ]
          refine held_skip (i := 11) (oi := { dst := some 92, op := Op.binOp BinOp.eql 3 (Operand.tmp 91) (Operand.const (Value.int IntKind.i64 0)) 3, type := 4, pos := "laws.go:869", after := #[{ on := 10, ground := Ground.data }, { on := 6, ground := Ground.guard }], guard := some (6, true) }) rfl (by kernel_rfl) (by kernel_rfl) (by kernel_rfl) (fun _ _ _ h => h) (by rfl) (by assumption) ?_
          try simp only [Act.put, List.setIfInBounds_toArray, List.set_cons_zero, List.set_cons_succ]
          refine held_skip (i := 12) (oi := { dst := some 93, op := Op.binOp BinOp.neq 4 (Operand.tmp 88) (Operand.tmp 92) 4, type := 4, pos := "laws.go:869", after := #[{ on := 7, ground := Ground.data }, { on := 11, ground := Ground.data }, { on := 6, ground := Ground.guard }], guard := some (6, true) }) rfl (by kernel_rfl) (by kernel_rfl) (by kernel_rfl) (fun _ _ _ h => h) (by rfl) (by assumption) ?_
          try simp only [Act.put, List.setIfInBounds_toArray, List.set_cons_zero, List.set_cons_succ]
          refine held_skip (i := 13) (oi := { dst := some 94, op := Op.move (Operand.tmp 93), type := 4, pos := "laws.go:869", after := #[{ on := 12, ground := Ground.data }, { on := 10, ground := Ground.chain }, { on := 6, ground := Ground.guard }], guard := some (6, true) }) rfl (by kernel_rfl) (by kernel_rfl) (by kernel_rfl) (fun _ _ _ h => h) (by rfl) (by assumption) ?_
          try simp only [Act.put, List.setIfInBounds_toArray, List.set_cons_zero, List.set_cons_succ]
          refine held_skip (i := 14) (oi := { dst := some 95, op := Op.load 29 (Operand.tmp 3), type := 29, pos := "laws.go:869", after := #[{ on := 13, ground := Ground.guard }], guard := some (13, false) }) rfl (by kernel_rfl) (by kernel_rfl) (by kernel_rfl) (fun _ _ _ h => h) (by rfl) (by assumption) ?_
          try simp only [Act.put, List.setIfInBounds_toArray, List.set_cons_zero, List.set_cons_succ]
          refine held_skip (i := 15) (oi := { dst := some 96, op := Op.load 29 (Operand.tmp 4), type := 29, pos := "laws.go:869", after := #[{ on := 13, ground := Ground.guard }], guard := some (13, false) }) rfl (by kernel_rfl) (by kernel_rfl) (by kernel_rfl) (fun _ _ _ h => h) (by rfl) (by assumption) ?_
          try simp only [Act.put, List.setIfInBounds_toArray, List.set_cons_zero, List.set_cons_succ]
          refine held_skip (i := 16) (oi := { dst := some 97, op := Op.call { callee := Callee.value (Operand.func 18), args := #[Operand.tmp 95, Operand.tmp 96], argTypes := #[29, 29] }, type := 3, pos := "laws.go:869", after := #[{ on := 14, ground := Ground.data }, { on := 15, ground := Ground.data }, { on := 13, ground := Ground.chain }, { on := 13, ground := Ground.guard }], guard := some (13, false) }) rfl (by kernel_rfl) (by kernel_rfl) (by kernel_rfl) (fun _ _ _ h => h) (by rfl) (by assumption) ?_
          try simp only [Act.put, List.setIfInBounds_toArray, List.set_cons_zero, List.set_cons_succ]
          refine held_skip (i := 17) (oi := { dst := some 98, op := Op.load 29 (Operand.tmp 4), type := 29, pos := "laws.go:869", after := #[{ on := 13, ground := Ground.guard }], guard := some (13, false) }) rfl (by kernel_rfl) (by kernel_rfl) (by kernel_rfl) (fun _ _ _ h => h) (by rfl) (by assumption) ?_
          try simp only [Act.put, List.setIfInBounds_toArray, List.set_cons_zero, List.set_cons_succ]
          refine held_skip (i := 18) (oi := { dst := some 99, op := Op.load 29 (Operand.tmp 3), type := 29, pos := "laws.go:869", after := #[{ on := 13, ground := Ground.guard }], guard := some (13, false) }) rfl (by kernel_rfl) (by kernel_rfl) (by kernel_rfl) (fun _ _ _ h => h) (by rfl) (by assumption) ?_
          try simp only [Act.put, List.setIfInBounds_toArray, List.set_cons_zero, List.set_cons_succ]
          refine held_skip (i := 19) (oi := { dst := some 100, op := Op.call { callee := Callee.value (Operand.func 18), args := #[Operand.tmp 98, Operand.tmp 99], argTypes := #[29, 29] }, type := 3, pos := "laws.go:869", after := #[{ on := 17, ground := Ground.data }, { on := 18, ground := Ground.data }, { on := 16, ground := Ground.chain }, { on := 13, ground := Ground.guard }], guard := some (13, false) }) rfl (by kernel_rfl) (by kernel_rfl) (by kernel_rfl) (fun _ _ _ h => h) (by rfl) (by assumption) ?_
          try simp only [Act.put, List.setIfInBounds_toArray, List.set_cons_zero, List.set_cons_succ]
          refine held_skip (i := 20) (oi := { dst := some 101, op := Op.unOp UnOp.neg 3 (Operand.tmp 100), type := 3, pos := "laws.go:869", after := #[{ on := 19, ground := Ground.data }, { on := 13, ground := Ground.guard }], guard := some (13, false) }) rfl (by kernel_rfl) (by kernel_rfl) (by kernel_rfl) (fun _ _ _ h => h) (by rfl) (by assumption) ?_
          try simp only [Act.put, List.setIfInBounds_toArray, List.set_cons_zero, List.set_cons_succ]
          refine held_skip (i := 21) (oi := { dst := some 102, op := Op.binOp BinOp.neq 3 (Operand.tmp 97) (Operand.tmp 101) 3, type := 4, pos := "laws.go:869", after := #[{ on := 16, ground := Ground.data }, { on := 20, ground := Ground.data }, { on := 13, ground := Ground.guard }], guard := some (13, false) }) rfl (by kernel_rfl) (by kernel_rfl) (by kernel_rfl) (fun _ _ _ h => h) (by rfl) (by assumption) ?_
          try simp only [Act.put, List.setIfInBounds_toArray, List.set_cons_zero, List.set_cons_succ]
          refine held_skip (i := 22) (oi := { dst := some 103, op := Op.pick (Operand.tmp 94) (Operand.const (Value.bool true)) (Operand.tmp 102), type := 4, pos := "laws.go:869", after := #[{ on := 13, ground := Ground.data }, { on := 21, ground := Ground.data }, { on := 6, ground := Ground.guard }], guard := some (6, true) }) rfl (by kernel_rfl) (by kernel_rfl) (by kernel_rfl) (fun _ _ _ h => h) (by rfl) (by assumption) ?_
          try simp only [Act.put, List.setIfInBounds_toArray, List.set_cons_zero, List.set_cons_succ]
          refine wpAnyH_take (i := 23) (oi := { dst := some 104, op := Op.pick (Operand.tmp 87) (Operand.tmp 103) (Operand.const (Value.bool false)), type := 4, pos := "laws.go:869", after := #[{ on := 6, ground := Ground.data }, { on := 22, ground := Ground.data }], guard := none }) (v := .bool false) rfl (by kernel_rfl) (by kernel_rfl) (by kernel_rfl) (fun _ _ _ h => h) (Or.inl ⟨by rfl, ?_⟩) (by assumption) ?_
          · intro w8 hS8
            (try dsimp only at hS8)
            go_simp
          try simp only [Act.put, List.setIfInBounds_toArray, List.set_cons_zero, List.set_cons_succ]
          refine wpAnyH_done (by kernel_rfl) ?_ _
          go_wp2_with fail
          go_meet
          exact ⟨rfl, hHeld1.2.2.2.2.2.2.2.2⟩
      · cases q
        · have SX : Hid _ := SX0
          have SY : Hid _ := SY0
          clear SX0 SY0
          as_aux_lemma =>
            refine wp_region_held_drew (S := fun w' => w'.cell? ⟨w1.heap.size + 1, 0, none⟩ = some (.int .i64 e) ∧ w'.cell? ⟨w1.heap.size + 1, 1, none⟩ = some (.int .i64 f) ∧ w'.cell? ⟨w1.heap.size + 1, 2, none⟩ = some (.int .i64 g) ∧ w'.cell? ⟨w1.heap.size + 1, 3, none⟩ = some (.int .i64 h) ∧ w'.cell? ⟨w1.heap.size, 0, none⟩ = some (.int .i64 a) ∧ w'.cell? ⟨w1.heap.size, 1, none⟩ = some (.int .i64 b) ∧ w'.cell? ⟨w1.heap.size, 2, none⟩ = some (.int .i64 c) ∧ w'.cell? ⟨w1.heap.size, 3, none⟩ = some (.int .i64 d) ∧ Kept w w' [(⟨w1.heap.size + 1, 0, none⟩, .int .i64 e), (⟨w1.heap.size + 1, 1, none⟩, .int .i64 f), (⟨w1.heap.size + 1, 2, none⟩, .int .i64 g), (⟨w1.heap.size + 1, 3, none⟩, .int .i64 h), (⟨w1.heap.size, 0, none⟩, .int .i64 a), (⟨w1.heap.size, 1, none⟩, .int .i64 b), (⟨w1.heap.size, 2, none⟩, .int .i64 c), (⟨w1.heap.size, 3, none⟩, .int .i64 d), (⟨w2.heap.size, 0, none⟩, .int .i64 l1), (⟨w2.heap.size, 1, none⟩, .int .i64 l2), (⟨w2.heap.size, 2, none⟩, .int .i64 m1), (⟨w2.heap.size, 3, none⟩, .int .i64 m2)]) (by kernel_rfl) (s8_start K5) (fun hHeld => ?_)
            refine wpAnyH_take (i := 0) (oi := { dst := some 81, op := Op.load 29 (Operand.tmp 3), type := 29, pos := "laws.go:869", after := #[], guard := none }) (v := .agg #[.int .i64 a, .int .i64 b, .int .i64 c, .int .i64 d]) rfl (by kernel_rfl) (by kernel_rfl) (by kernel_rfl) (fun _ _ _ h => h) (Or.inl ⟨by rfl, ?_⟩) (by assumption) ?_
            · intro w8 hS8
              (try dsimp only at hS8)
              go_simp
            try simp only [Act.put, List.setIfInBounds_toArray, List.set_cons_zero, List.set_cons_succ]
            refine wpAnyH_ready (rs := [1]) (by kernel_rfl) (by simp) ?_
            refine AllReadyH.cons (o := { dst := some 82, op := Op.call { callee := Callee.value (Operand.func 20), args := #[Operand.tmp 81], argTypes := #[29] }, type := 4, pos := "laws.go:869", after := #[{ on := 0, ground := Ground.data }], guard := none }) rfl (fun K hK => ?_) AllReadyH.nil
            go_simp
            go_at_call 20
            (with_reducible refine (SX.out _).mono ?_)
            rintro e9 w9 ⟨rfl, hb⟩
            refine hK.out _ _ ?_ (fun hHeld1 => ?_)
            · exact s8_keep (by assumption) hb
            clear hK K
            try simp only [Act.put, List.setIfInBounds_toArray, List.set_cons_zero, List.set_cons_succ]
            refine wpAnyH_take (i := 2) (oi := { dst := some 83, op := Op.move (Operand.tmp 82), type := 4, pos := "laws.go:869", after := #[{ on := 1, ground := Ground.data }, { on := 1, ground := Ground.chain }], guard := none }) (v := .bool true) rfl (by kernel_rfl) (by kernel_rfl) (by kernel_rfl) (fun _ _ _ h => h) (Or.inl ⟨by rfl, ?_⟩) (by assumption) ?_
            · intro w8 hS8
              (try dsimp only at hS8)
              go_simp
            try simp only [Act.put, List.setIfInBounds_toArray, List.set_cons_zero, List.set_cons_succ]
            refine wpAnyH_take (i := 3) (oi := { dst := some 84, op := Op.load 29 (Operand.tmp 4), type := 29, pos := "laws.go:869", after := #[{ on := 2, ground := Ground.guard }], guard := some (2, true) }) (v := .agg #[.int .i64 e, .int .i64 f, .int .i64 g, .int .i64 h]) rfl (by kernel_rfl) (by kernel_rfl) (by kernel_rfl) (fun _ _ _ h => h) (Or.inl ⟨by rfl, ?_⟩) (by assumption) ?_
            · intro w8 hS8
              (try dsimp only at hS8)
              go_simp
            try simp only [Act.put, List.setIfInBounds_toArray, List.set_cons_zero, List.set_cons_succ]
            refine wpAnyH_ready (rs := [4]) (by kernel_rfl) (by simp) ?_
            refine AllReadyH.cons (o := { dst := some 85, op := Op.call { callee := Callee.value (Operand.func 20), args := #[Operand.tmp 84], argTypes := #[29] }, type := 4, pos := "laws.go:869", after := #[{ on := 3, ground := Ground.data }, { on := 2, ground := Ground.chain }, { on := 2, ground := Ground.guard }], guard := some (2, true) }) rfl (fun K hK => ?_) AllReadyH.nil
            go_simp
            go_at_call 20
            (with_reducible refine (SY.out _).mono ?_)
            rintro e9 w10 ⟨rfl, hb2⟩
            refine hK.out _ _ ?_ (fun hHeld2 => ?_)
            · exact s8_keep (by assumption) hb2
            clear hK K
            try simp only [Act.put, List.setIfInBounds_toArray, List.set_cons_zero, List.set_cons_succ]
            refine wpAnyH_take (i := 5) (oi := { dst := some 86, op := Op.pick (Operand.tmp 83) (Operand.tmp 85) (Operand.const (Value.bool false)), type := 4, pos := "laws.go:869", after := #[{ on := 2, ground := Ground.data }, { on := 4, ground := Ground.data }], guard := none }) (v := .bool false) rfl (by kernel_rfl) (by kernel_rfl) (by kernel_rfl) (fun _ _ _ h => h) (Or.inl ⟨by rfl, ?_⟩) (by assumption) ?_
            · intro w8 hS8
              (try dsimp only at hS8)
              go_simp
            try simp only [Act.put, List.setIfInBounds_toArray, List.set_cons_zero, List.set_cons_succ]
            refine wpAnyH_take (i := 6) (oi := { dst := some 87, op := Op.move (Operand.tmp 86), type := 4, pos := "laws.go:869", after := #[{ on := 5, ground := Ground.data }, { on := 4, ground := Ground.chain }], guard := none }) (v := .bool false) rfl (by kernel_rfl) (by kernel_rfl) (by kernel_rfl) (fun _ _ _ h => h) (Or.inl ⟨by rfl, ?_⟩) (by assumption) ?_
            · intro w8 hS8
              (try dsimp only at hS8)
              go_simp
            try simp only [Act.put, List.setIfInBounds_toArray, List.set_cons_zero, List.set_cons_succ]
            refine held_skip (i := 7) (oi := { dst := some 88, op := Op.move (Operand.tmp 6), type := 4, pos := "laws.go:869", after := #[{ on := 6, ground := Ground.guard }], guard := some (6, true) }) rfl (by kernel_rfl) (by kernel_rfl) (by kernel_rfl) (fun _ _ _ h => h) (by rfl) (by assumption) ?_
            try simp only [Act.put, List.setIfInBounds_toArray, List.set_cons_zero, List.set_cons_succ]
            refine held_skip (i := 8) (oi := { dst := some 89, op := Op.load 29 (Operand.tmp 3), type := 29, pos := "laws.go:869", after := #[{ on := 6, ground := Ground.guard }], guard := some (6, true) }) rfl (by kernel_rfl) (by kernel_rfl) (by kernel_rfl) (fun _ _ _ h => h) (by rfl) (by assumption) ?_
            try simp only [Act.put, List.setIfInBounds_toArray, List.set_cons_zero, List.set_cons_succ]
            refine held_skip (i := 9) (oi := { dst := some 90, op := Op.load 29 (Operand.tmp 4), type := 29, pos := "laws.go:869", after := #[{ on := 6, ground := Ground.guard }], guard := some (6, true) }) rfl (by kernel_rfl) (by kernel_rfl) (by kernel_rfl) (fun _ _ _ h => h) (by rfl) (by assumption) ?_
            try simp only [Act.put, List.setIfInBounds_toArray, List.set_cons_zero, List.set_cons_succ]
            refine held_skip (i := 10) (oi := { dst := some 91, op := Op.call { callee := Callee.value (Operand.func 18), args := #[Operand.tmp 89, Operand.tmp 90], argTypes := #[29, 29] }, type := 3, pos := "laws.go:869", after := #[{ on := 8, ground := Ground.data }, { on := 9, ground := Ground.data }, { on := 6, ground := Ground.chain }, { on := 6, ground := Ground.guard }], guard := some (6, true) }) rfl (by kernel_rfl) (by kernel_rfl) (by kernel_rfl) (fun _ _ _ h => h) (by rfl) (by assumption) ?_
            try simp only [Act.put, List.setIfInBounds_toArray, List.set_cons_zero, List.set_cons_succ]
            refine held_skip (i := 11) (oi := { dst := some 92, op := Op.binOp BinOp.eql 3 (Operand.tmp 91) (Operand.const (Value.int IntKind.i64 0)) 3, type := 4, pos := "laws.go:869", after := #[{ on := 10, ground := Ground.data }, { on := 6, ground := Ground.guard }], guard := some (6, true) }) rfl (by kernel_rfl) (by kernel_rfl) (by kernel_rfl) (fun _ _ _ h => h) (by rfl) (by assumption) ?_
            try simp only [Act.put, List.setIfInBounds_toArray, List.set_cons_zero, List.set_cons_succ]
            refine held_skip (i := 12) (oi := { dst := some 93, op := Op.binOp BinOp.neq 4 (Operand.tmp 88) (Operand.tmp 92) 4, type := 4, pos := "laws.go:869", after := #[{ on := 7, ground := Ground.data }, { on := 11, ground := Ground.data }, { on := 6, ground := Ground.guard }], guard := some (6, true) }) rfl (by kernel_rfl) (by kernel_rfl) (by kernel_rfl) (fun _ _ _ h => h) (by rfl) (by assumption) ?_
            try simp only [Act.put, List.setIfInBounds_toArray, List.set_cons_zero, List.set_cons_succ]
            refine held_skip (i := 13) (oi := { dst := some 94, op := Op.move (Operand.tmp 93), type := 4, pos := "laws.go:869", after := #[{ on := 12, ground := Ground.data }, { on := 10, ground := Ground.chain }, { on := 6, ground := Ground.guard }], guard := some (6, true) }) rfl (by kernel_rfl) (by kernel_rfl) (by kernel_rfl) (fun _ _ _ h => h) (by rfl) (by assumption) ?_
            try simp only [Act.put, List.setIfInBounds_toArray, List.set_cons_zero, List.set_cons_succ]
            refine held_skip (i := 14) (oi := { dst := some 95, op := Op.load 29 (Operand.tmp 3), type := 29, pos := "laws.go:869", after := #[{ on := 13, ground := Ground.guard }], guard := some (13, false) }) rfl (by kernel_rfl) (by kernel_rfl) (by kernel_rfl) (fun _ _ _ h => h) (by rfl) (by assumption) ?_
            try simp only [Act.put, List.setIfInBounds_toArray, List.set_cons_zero, List.set_cons_succ]
            refine held_skip (i := 15) (oi := { dst := some 96, op := Op.load 29 (Operand.tmp 4), type := 29, pos := "laws.go:869", after := #[{ on := 13, ground := Ground.guard }], guard := some (13, false) }) rfl (by kernel_rfl) (by kernel_rfl) (by kernel_rfl) (fun _ _ _ h => h) (by rfl) (by assumption) ?_
            try simp only [Act.put, List.setIfInBounds_toArray, List.set_cons_zero, List.set_cons_succ]
            refine held_skip (i := 16) (oi := { dst := some 97, op := Op.call { callee := Callee.value (Operand.func 18), args := #[Operand.tmp 95, Operand.tmp 96], argTypes := #[29, 29] }, type := 3, pos := "laws.go:869", after := #[{ on := 14, ground := Ground.data }, { on := 15, ground := Ground.data }, { on := 13, ground := Ground.chain }, { on := 13, ground := Ground.guard }], guard := some (13, false) }) rfl (by kernel_rfl) (by kernel_rfl) (by kernel_rfl) (fun _ _ _ h => h) (by rfl) (by assumption) ?_
            try simp only [Act.put, List.setIfInBounds_toArray, List.set_cons_zero, List.set_cons_succ]
            refine held_skip (i := 17) (oi := { dst := some 98, op := Op.load 29 (Operand.tmp 4), type := 29, pos := "laws.go:869", after := #[{ on := 13, ground := Ground.guard }], guard := some (13, false) }) rfl (by kernel_rfl) (by kernel_rfl) (by kernel_rfl) (fun _ _ _ h => h) (by rfl) (by assumption) ?_
            try simp only [Act.put, List.setIfInBounds_toArray, List.set_cons_zero, List.set_cons_succ]
            refine held_skip (i := 18) (oi := { dst := some 99, op := Op.load 29 (Operand.tmp 3), type := 29, pos := "laws.go:869", after := #[{ on := 13, ground := Ground.guard }], guard := some (13, false) }) rfl (by kernel_rfl) (by kernel_rfl) (by kernel_rfl) (fun _ _ _ h => h) (by rfl) (by assumption) ?_
            try simp only [Act.put, List.setIfInBounds_toArray, List.set_cons_zero, List.set_cons_succ]
            refine held_skip (i := 19) (oi := { dst := some 100, op := Op.call { callee := Callee.value (Operand.func 18), args := #[Operand.tmp 98, Operand.tmp 99], argTypes := #[29, 29] }, type := 3, pos := "laws.go:869", after := #[{ on := 17, ground := Ground.data }, { on := 18, ground := Ground.data }, { on := 16, ground := Ground.chain }, { on := 13, ground := Ground.guard }], guard := some (13, false) }) rfl (by kernel_rfl) (by kernel_rfl) (by kernel_rfl) (fun _ _ _ h => h) (by rfl) (by assumption) ?_
            try simp only [Act.put, List.setIfInBounds_toArray, List.set_cons_zero, List.set_cons_succ]
            refine held_skip (i := 20) (oi := { dst := some 101, op := Op.unOp UnOp.neg 3 (Operand.tmp 100), type := 3, pos := "laws.go:869", after := #[{ on := 19, ground := Ground.data }, { on := 13, ground := Ground.guard }], guard := some (13, false) }) rfl (by kernel_rfl) (by kernel_rfl) (by kernel_rfl) (fun _ _ _ h => h) (by rfl) (by assumption) ?_
            try simp only [Act.put, List.setIfInBounds_toArray, List.set_cons_zero, List.set_cons_succ]
            refine held_skip (i := 21) (oi := { dst := some 102, op := Op.binOp BinOp.neq 3 (Operand.tmp 97) (Operand.tmp 101) 3, type := 4, pos := "laws.go:869", after := #[{ on := 16, ground := Ground.data }, { on := 20, ground := Ground.data }, { on := 13, ground := Ground.guard }], guard := some (13, false) }) rfl (by kernel_rfl) (by kernel_rfl) (by kernel_rfl) (fun _ _ _ h => h) (by rfl) (by assumption) ?_
            try simp only [Act.put, List.setIfInBounds_toArray, List.set_cons_zero, List.set_cons_succ]
            refine held_skip (i := 22) (oi := { dst := some 103, op := Op.pick (Operand.tmp 94) (Operand.const (Value.bool true)) (Operand.tmp 102), type := 4, pos := "laws.go:869", after := #[{ on := 13, ground := Ground.data }, { on := 21, ground := Ground.data }, { on := 6, ground := Ground.guard }], guard := some (6, true) }) rfl (by kernel_rfl) (by kernel_rfl) (by kernel_rfl) (fun _ _ _ h => h) (by rfl) (by assumption) ?_
            try simp only [Act.put, List.setIfInBounds_toArray, List.set_cons_zero, List.set_cons_succ]
            refine wpAnyH_take (i := 23) (oi := { dst := some 104, op := Op.pick (Operand.tmp 87) (Operand.tmp 103) (Operand.const (Value.bool false)), type := 4, pos := "laws.go:869", after := #[{ on := 6, ground := Ground.data }, { on := 22, ground := Ground.data }], guard := none }) (v := .bool false) rfl (by kernel_rfl) (by kernel_rfl) (by kernel_rfl) (fun _ _ _ h => h) (Or.inl ⟨by rfl, ?_⟩) (by assumption) ?_
            · intro w8 hS8
              (try dsimp only at hS8)
              go_simp
            try simp only [Act.put, List.setIfInBounds_toArray, List.set_cons_zero, List.set_cons_succ]
            refine wpAnyH_done (by kernel_rfl) ?_ _
            go_wp2_with fail
            go_meet
            exact ⟨rfl, hHeld2.2.2.2.2.2.2.2.2⟩
        · have SX : Hid _ := SX0
          have SY : Hid _ := SY0
          have hj := CC.out.same rfl rfl
          have CI0 := CC.out.ci
          have CJ0 := CC.out.ci2
          clear SX0 SY0
          rcases CC.out.rng with ⟨h1, h2⟩ | ⟨h1, h2⟩ | ⟨h1, h2⟩
          · rw [h1] at CI0 hj
            rw [h2] at CJ0
            have hj2 : j = false := by rw [hj]; rfl
            have CI := Lib.hid CI0
            have CJ := Lib.hid CJ0
            clear CI0 CJ0 hj h1 h2 CC
            subst hj2
            as_aux_lemma =>
              (first | go_region_held3 (fun w' => w'.cell? ⟨w1.heap.size + 1, 0, none⟩ = some (.int .i64 e) ∧ w'.cell? ⟨w1.heap.size + 1, 1, none⟩ = some (.int .i64 f) ∧ w'.cell? ⟨w1.heap.size + 1, 2, none⟩ = some (.int .i64 g) ∧ w'.cell? ⟨w1.heap.size + 1, 3, none⟩ = some (.int .i64 h) ∧ w'.cell? ⟨w1.heap.size, 0, none⟩ = some (.int .i64 a) ∧ w'.cell? ⟨w1.heap.size, 1, none⟩ = some (.int .i64 b) ∧ w'.cell? ⟨w1.heap.size, 2, none⟩ = some (.int .i64 c) ∧ w'.cell? ⟨w1.heap.size, 3, none⟩ = some (.int .i64 d) ∧ Kept w w' [(⟨w1.heap.size + 1, 0, none⟩, .int .i64 e), (⟨w1.heap.size + 1, 1, none⟩, .int .i64 f), (⟨w1.heap.size + 1, 2, none⟩, .int .i64 g), (⟨w1.heap.size + 1, 3, none⟩, .int .i64 h), (⟨w1.heap.size, 0, none⟩, .int .i64 a), (⟨w1.heap.size, 1, none⟩, .int .i64 b), (⟨w1.heap.size, 2, none⟩, .int .i64 c), (⟨w1.heap.size, 3, none⟩, .int .i64 d), (⟨w2.heap.size, 0, none⟩, .int .i64 l1), (⟨w2.heap.size, 1, none⟩, .int .i64 l2), (⟨w2.heap.size, 2, none⟩, .int .i64 m1), (⟨w2.heap.size, 3, none⟩, .int .i64 m2)]) (first | assumption | exact s8_start K5 | exact s8_keep (by assumption) (by assumption)) (first | (go_simp; go_at_call 20; (with_reducible refine (SX.out _).mono ?_); rintro e9 w9 ⟨rfl, hb⟩) | (go_simp; go_at_call 20; (with_reducible refine (SY.out _).mono ?_); rintro e9 w9 ⟨rfl, hb⟩) | (go_simp; go_at_call 18; (with_reducible refine (CI.out _).mono ?_); rintro e9 w9 ⟨rfl, hb⟩) | (go_simp; go_at_call 18; (with_reducible refine (CJ.out _).mono ?_); rintro e9 w9 ⟨rfl, hb⟩)) | fail)
              all_goals
                have K6 := ‹_ ∧ _ ∧ _ ∧ _ ∧ _ ∧ _ ∧ _ ∧ _ ∧ Kept w w9 _›.2.2.2.2.2.2.2.2
                go_wp2_with fail
                go_meet
                exact ⟨rfl, K6⟩
          · rw [h1] at CI0 hj
            rw [h2] at CJ0
            have hj2 : j = true := by rw [hj]; rfl
            have CI := Lib.hid CI0
            have CJ := Lib.hid CJ0
            clear CI0 CJ0 hj h1 h2 CC
            subst hj2
            as_aux_lemma =>
              (first | go_region_held3 (fun w' => w'.cell? ⟨w1.heap.size + 1, 0, none⟩ = some (.int .i64 e) ∧ w'.cell? ⟨w1.heap.size + 1, 1, none⟩ = some (.int .i64 f) ∧ w'.cell? ⟨w1.heap.size + 1, 2, none⟩ = some (.int .i64 g) ∧ w'.cell? ⟨w1.heap.size + 1, 3, none⟩ = some (.int .i64 h) ∧ w'.cell? ⟨w1.heap.size, 0, none⟩ = some (.int .i64 a) ∧ w'.cell? ⟨w1.heap.size, 1, none⟩ = some (.int .i64 b) ∧ w'.cell? ⟨w1.heap.size, 2, none⟩ = some (.int .i64 c) ∧ w'.cell? ⟨w1.heap.size, 3, none⟩ = some (.int .i64 d) ∧ Kept w w' [(⟨w1.heap.size + 1, 0, none⟩, .int .i64 e), (⟨w1.heap.size + 1, 1, none⟩, .int .i64 f), (⟨w1.heap.size + 1, 2, none⟩, .int .i64 g), (⟨w1.heap.size + 1, 3, none⟩, .int .i64 h), (⟨w1.heap.size, 0, none⟩, .int .i64 a), (⟨w1.heap.size, 1, none⟩, .int .i64 b), (⟨w1.heap.size, 2, none⟩, .int .i64 c), (⟨w1.heap.size, 3, none⟩, .int .i64 d), (⟨w2.heap.size, 0, none⟩, .int .i64 l1), (⟨w2.heap.size, 1, none⟩, .int .i64 l2), (⟨w2.heap.size, 2, none⟩, .int .i64 m1), (⟨w2.heap.size, 3, none⟩, .int .i64 m2)]) (first | assumption | exact s8_start K5 | exact s8_keep (by assumption) (by assumption)) (first | (go_simp; go_at_call 20; (with_reducible refine (SX.out _).mono ?_); rintro e9 w9 ⟨rfl, hb⟩) | (go_simp; go_at_call 20; (with_reducible refine (SY.out _).mono ?_); rintro e9 w9 ⟨rfl, hb⟩) | (go_simp; go_at_call 18; (with_reducible refine (CI.out _).mono ?_); rintro e9 w9 ⟨rfl, hb⟩) | (go_simp; go_at_call 18; (with_reducible refine (CJ.out _).mono ?_); rintro e9 w9 ⟨rfl, hb⟩)) | fail)
              all_goals
                have K6 := ‹_ ∧ _ ∧ _ ∧ _ ∧ _ ∧ _ ∧ _ ∧ _ ∧ Kept w w9 _›.2.2.2.2.2.2.2.2
                go_wp2_with fail
                go_meet
                exact ⟨rfl, K6⟩
          · rw [h1] at CI0 hj
            rw [h2] at CJ0
            have hj2 : j = false := by rw [hj]; rfl
            have CI := Lib.hid CI0
            have CJ := Lib.hid CJ0
            clear CI0 CJ0 hj h1 h2 CC
            subst hj2
            as_aux_lemma =>
              (first | go_region_held3 (fun w' => w'.cell? ⟨w1.heap.size + 1, 0, none⟩ = some (.int .i64 e) ∧ w'.cell? ⟨w1.heap.size + 1, 1, none⟩ = some (.int .i64 f) ∧ w'.cell? ⟨w1.heap.size + 1, 2, none⟩ = some (.int .i64 g) ∧ w'.cell? ⟨w1.heap.size + 1, 3, none⟩ = some (.int .i64 h) ∧ w'.cell? ⟨w1.heap.size, 0, none⟩ = some (.int .i64 a) ∧ w'.cell? ⟨w1.heap.size, 1, none⟩ = some (.int .i64 b) ∧ w'.cell? ⟨w1.heap.size, 2, none⟩ = some (.int .i64 c) ∧ w'.cell? ⟨w1.heap.size, 3, none⟩ = some (.int .i64 d) ∧ Kept w w' [(⟨w1.heap.size + 1, 0, none⟩, .int .i64 e), (⟨w1.heap.size + 1, 1, none⟩, .int .i64 f), (⟨w1.heap.size + 1, 2, none⟩, .int .i64 g), (⟨w1.heap.size + 1, 3, none⟩, .int .i64 h), (⟨w1.heap.size, 0, none⟩, .int .i64 a), (⟨w1.heap.size, 1, none⟩, .int .i64 b), (⟨w1.heap.size, 2, none⟩, .int .i64 c), (⟨w1.heap.size, 3, none⟩, .int .i64 d), (⟨w2.heap.size, 0, none⟩, .int .i64 l1), (⟨w2.heap.size, 1, none⟩, .int .i64 l2), (⟨w2.heap.size, 2, none⟩, .int .i64 m1), (⟨w2.heap.size, 3, none⟩, .int .i64 m2)]) (first | assumption | exact s8_start K5 | exact s8_keep (by assumption) (by assumption)) (first | (go_simp; go_at_call 20; (with_reducible refine (SX.out _).mono ?_); rintro e9 w9 ⟨rfl, hb⟩) | (go_simp; go_at_call 20; (with_reducible refine (SY.out _).mono ?_); rintro e9 w9 ⟨rfl, hb⟩) | (go_simp; go_at_call 18; (with_reducible refine (CI.out _).mono ?_); rintro e9 w9 ⟨rfl, hb⟩) | (go_simp; go_at_call 18; (with_reducible refine (CJ.out _).mono ?_); rintro e9 w9 ⟨rfl, hb⟩)) | fail)
              all_goals
                have K6 := ‹_ ∧ _ ∧ _ ∧ _ ∧ _ ∧ _ ∧ _ ∧ _ ∧ Kept w w9 _›.2.2.2.2.2.2.2.2
                go_wp2_with fail
                go_meet
                exact ⟨rfl, K6⟩
    case rest =>
      obtain ⟨rfl, K6⟩ := hcut
      clear K5
      go_upto_region 11 with fail
      go_cut [126] (fun s126 wx => s126 = .bool false ∧ Kept w wx [])
      case first =>
        cases j
        · go_region
          all_goals
            go_wp2_with fail
            go_meet
            exact ⟨rfl, K6.drew.sub (by intro p9 hp9; cases hp9)⟩
        · have ZX0 := CC.out.zx rfl
          have ZY0 := CC.out.zy rfl
          have LI0 := CC.out.li
          have EQ := CC.out.eqv rfl
          clear CC
          cases L
          · have hne := EQ.2 rfl
            clear EQ
            by_cases h0 : l1 = a
            · rw [h0] at K6 ZX0 ZY0
              by_cases h1 : l2 = b
              · rw [h1] at K6 ZX0 ZY0
                by_cases h2 : m1 = c
                · rw [h2] at K6 ZX0 ZY0
                  have h3 : ¬ m2 = d := fun h3 => hne ⟨h0, h1, h2, h3⟩
                  clear h0 h1 h2
                  have q9 : (m2 == d) = false := beq_eq_false_iff_ne.2 h3
                  have H3 := Lib.hid h3
                  clear h3 hne
                  have ZX := Lib.hid ZX0
                  have ZY := Lib.hid ZY0
                  have LI := Lib.hid LI0
                  clear ZX0 ZY0 LI0
                  as_aux_lemma =>
                    (first | go_region_held3 (fun w' => w'.cell? ⟨w1.heap.size + 1, 0, none⟩ = some (.int .i64 e) ∧ w'.cell? ⟨w1.heap.size + 1, 1, none⟩ = some (.int .i64 f) ∧ w'.cell? ⟨w1.heap.size + 1, 2, none⟩ = some (.int .i64 g) ∧ w'.cell? ⟨w1.heap.size + 1, 3, none⟩ = some (.int .i64 h) ∧ w'.cell? ⟨w1.heap.size, 0, none⟩ = some (.int .i64 a) ∧ w'.cell? ⟨w1.heap.size, 1, none⟩ = some (.int .i64 b) ∧ w'.cell? ⟨w1.heap.size, 2, none⟩ = some (.int .i64 c) ∧ w'.cell? ⟨w1.heap.size, 3, none⟩ = some (.int .i64 d) ∧ w'.cell? ⟨w2.heap.size, 0, none⟩ = some (.int .i64 a) ∧ w'.cell? ⟨w2.heap.size, 1, none⟩ = some (.int .i64 b) ∧ w'.cell? ⟨w2.heap.size, 2, none⟩ = some (.int .i64 c) ∧ w'.cell? ⟨w2.heap.size, 3, none⟩ = some (.int .i64 m2) ∧ Kept w w' [(⟨w1.heap.size + 1, 0, none⟩, .int .i64 e), (⟨w1.heap.size + 1, 1, none⟩, .int .i64 f), (⟨w1.heap.size + 1, 2, none⟩, .int .i64 g), (⟨w1.heap.size + 1, 3, none⟩, .int .i64 h), (⟨w1.heap.size, 0, none⟩, .int .i64 a), (⟨w1.heap.size, 1, none⟩, .int .i64 b), (⟨w1.heap.size, 2, none⟩, .int .i64 c), (⟨w1.heap.size, 3, none⟩, .int .i64 d), (⟨w2.heap.size, 0, none⟩, .int .i64 a), (⟨w2.heap.size, 1, none⟩, .int .i64 b), (⟨w2.heap.size, 2, none⟩, .int .i64 c), (⟨w2.heap.size, 3, none⟩, .int .i64 m2)]) (first | assumption | exact s12_start K6 | exact s12_keep (by assumption) (by assumption)) (first | (go_simp; go_at_call 16; (with_reducible refine (ZX.out _).mono ?_); rintro e9 w9 ⟨rfl, hb⟩) | (go_simp; go_at_call 16; (with_reducible refine (ZY.out _).mono ?_); rintro e9 w9 ⟨rfl, hb⟩) | (go_simp; go_at_call 16; (with_reducible refine (LI.out _).mono ?_); rintro e9 w9 ⟨rfl, hb⟩)) | fail)
                    all_goals
                      have K7 := ‹_ ∧ _ ∧ _ ∧ _ ∧ _ ∧ _ ∧ _ ∧ _ ∧ _ ∧ _ ∧ _ ∧ _ ∧ Kept w w9 _›.2.2.2.2.2.2.2.2.2.2.2.2
                      go_wp2_with fail
                      go_meet
                      exact ⟨rfl, K7.sub (by intro p9 hp9; cases hp9)⟩
                · clear h0 h1
                  have q9 : (m1 == c) = false := beq_eq_false_iff_ne.2 h2
                  have H2 := Lib.hid h2
                  clear h2 hne
                  have ZX := Lib.hid ZX0
                  have ZY := Lib.hid ZY0
                  have LI := Lib.hid LI0
                  clear ZX0 ZY0 LI0
                  as_aux_lemma =>
                    (first | go_region_held3 (fun w' => w'.cell? ⟨w1.heap.size + 1, 0, none⟩ = some (.int .i64 e) ∧ w'.cell? ⟨w1.heap.size + 1, 1, none⟩ = some (.int .i64 f) ∧ w'.cell? ⟨w1.heap.size + 1, 2, none⟩ = some (.int .i64 g) ∧ w'.cell? ⟨w1.heap.size + 1, 3, none⟩ = some (.int .i64 h) ∧ w'.cell? ⟨w1.heap.size, 0, none⟩ = some (.int .i64 a) ∧ w'.cell? ⟨w1.heap.size, 1, none⟩ = some (.int .i64 b) ∧ w'.cell? ⟨w1.heap.size, 2, none⟩ = some (.int .i64 c) ∧ w'.cell? ⟨w1.heap.size, 3, none⟩ = some (.int .i64 d) ∧ w'.cell? ⟨w2.heap.size, 0, none⟩ = some (.int .i64 a) ∧ w'.cell? ⟨w2.heap.size, 1, none⟩ = some (.int .i64 b) ∧ w'.cell? ⟨w2.heap.size, 2, none⟩ = some (.int .i64 m1) ∧ w'.cell? ⟨w2.heap.size, 3, none⟩ = some (.int .i64 m2) ∧ Kept w w' [(⟨w1.heap.size + 1, 0, none⟩, .int .i64 e), (⟨w1.heap.size + 1, 1, none⟩, .int .i64 f), (⟨w1.heap.size + 1, 2, none⟩, .int .i64 g), (⟨w1.heap.size + 1, 3, none⟩, .int .i64 h), (⟨w1.heap.size, 0, none⟩, .int .i64 a), (⟨w1.heap.size, 1, none⟩, .int .i64 b), (⟨w1.heap.size, 2, none⟩, .int .i64 c), (⟨w1.heap.size, 3, none⟩, .int .i64 d), (⟨w2.heap.size, 0, none⟩, .int .i64 a), (⟨w2.heap.size, 1, none⟩, .int .i64 b), (⟨w2.heap.size, 2, none⟩, .int .i64 m1), (⟨w2.heap.size, 3, none⟩, .int .i64 m2)]) (first | assumption | exact s12_start K6 | exact s12_keep (by assumption) (by assumption)) (first | (go_simp; go_at_call 16; (with_reducible refine (ZX.out _).mono ?_); rintro e9 w9 ⟨rfl, hb⟩) | (go_simp; go_at_call 16; (with_reducible refine (ZY.out _).mono ?_); rintro e9 w9 ⟨rfl, hb⟩) | (go_simp; go_at_call 16; (with_reducible refine (LI.out _).mono ?_); rintro e9 w9 ⟨rfl, hb⟩)) | fail)
                    all_goals
                      have K7 := ‹_ ∧ _ ∧ _ ∧ _ ∧ _ ∧ _ ∧ _ ∧ _ ∧ _ ∧ _ ∧ _ ∧ _ ∧ Kept w w9 _›.2.2.2.2.2.2.2.2.2.2.2.2
                      go_wp2_with fail
                      go_meet
                      exact ⟨rfl, K7.sub (by intro p9 hp9; cases hp9)⟩
              · clear h0
                have q9 : (l2 == b) = false := beq_eq_false_iff_ne.2 h1
                have H1 := Lib.hid h1
                clear h1 hne
                have ZX := Lib.hid ZX0
                have ZY := Lib.hid ZY0
                have LI := Lib.hid LI0
                clear ZX0 ZY0 LI0
                as_aux_lemma =>
                  (first | go_region_held3 (fun w' => w'.cell? ⟨w1.heap.size + 1, 0, none⟩ = some (.int .i64 e) ∧ w'.cell? ⟨w1.heap.size + 1, 1, none⟩ = some (.int .i64 f) ∧ w'.cell? ⟨w1.heap.size + 1, 2, none⟩ = some (.int .i64 g) ∧ w'.cell? ⟨w1.heap.size + 1, 3, none⟩ = some (.int .i64 h) ∧ w'.cell? ⟨w1.heap.size, 0, none⟩ = some (.int .i64 a) ∧ w'.cell? ⟨w1.heap.size, 1, none⟩ = some (.int .i64 b) ∧ w'.cell? ⟨w1.heap.size, 2, none⟩ = some (.int .i64 c) ∧ w'.cell? ⟨w1.heap.size, 3, none⟩ = some (.int .i64 d) ∧ w'.cell? ⟨w2.heap.size, 0, none⟩ = some (.int .i64 a) ∧ w'.cell? ⟨w2.heap.size, 1, none⟩ = some (.int .i64 l2) ∧ w'.cell? ⟨w2.heap.size, 2, none⟩ = some (.int .i64 m1) ∧ w'.cell? ⟨w2.heap.size, 3, none⟩ = some (.int .i64 m2) ∧ Kept w w' [(⟨w1.heap.size + 1, 0, none⟩, .int .i64 e), (⟨w1.heap.size + 1, 1, none⟩, .int .i64 f), (⟨w1.heap.size + 1, 2, none⟩, .int .i64 g), (⟨w1.heap.size + 1, 3, none⟩, .int .i64 h), (⟨w1.heap.size, 0, none⟩, .int .i64 a), (⟨w1.heap.size, 1, none⟩, .int .i64 b), (⟨w1.heap.size, 2, none⟩, .int .i64 c), (⟨w1.heap.size, 3, none⟩, .int .i64 d), (⟨w2.heap.size, 0, none⟩, .int .i64 a), (⟨w2.heap.size, 1, none⟩, .int .i64 l2), (⟨w2.heap.size, 2, none⟩, .int .i64 m1), (⟨w2.heap.size, 3, none⟩, .int .i64 m2)]) (first | assumption | exact s12_start K6 | exact s12_keep (by assumption) (by assumption)) (first | (go_simp; go_at_call 16; (with_reducible refine (ZX.out _).mono ?_); rintro e9 w9 ⟨rfl, hb⟩) | (go_simp; go_at_call 16; (with_reducible refine (ZY.out _).mono ?_); rintro e9 w9 ⟨rfl, hb⟩) | (go_simp; go_at_call 16; (with_reducible refine (LI.out _).mono ?_); rintro e9 w9 ⟨rfl, hb⟩)) | fail)
                  all_goals
                    have K7 := ‹_ ∧ _ ∧ _ ∧ _ ∧ _ ∧ _ ∧ _ ∧ _ ∧ _ ∧ _ ∧ _ ∧ _ ∧ Kept w w9 _›.2.2.2.2.2.2.2.2.2.2.2.2
                    go_wp2_with fail
                    go_meet
                    exact ⟨rfl, K7.sub (by intro p9 hp9; cases hp9)⟩
            · have q9 : (l1 == a) = false := beq_eq_false_iff_ne.2 h0
              have H0 := Lib.hid h0
              clear h0 hne
              have ZX := Lib.hid ZX0
              have ZY := Lib.hid ZY0
              have LI := Lib.hid LI0
              clear ZX0 ZY0 LI0
              as_aux_lemma =>
                (first | go_region_held3 (fun w' => w'.cell? ⟨w1.heap.size + 1, 0, none⟩ = some (.int .i64 e) ∧ w'.cell? ⟨w1.heap.size + 1, 1, none⟩ = some (.int .i64 f) ∧ w'.cell? ⟨w1.heap.size + 1, 2, none⟩ = some (.int .i64 g) ∧ w'.cell? ⟨w1.heap.size + 1, 3, none⟩ = some (.int .i64 h) ∧ w'.cell? ⟨w1.heap.size, 0, none⟩ = some (.int .i64 a) ∧ w'.cell? ⟨w1.heap.size, 1, none⟩ = some (.int .i64 b) ∧ w'.cell? ⟨w1.heap.size, 2, none⟩ = some (.int .i64 c) ∧ w'.cell? ⟨w1.heap.size, 3, none⟩ = some (.int .i64 d) ∧ w'.cell? ⟨w2.heap.size, 0, none⟩ = some (.int .i64 l1) ∧ w'.cell? ⟨w2.heap.size, 1, none⟩ = some (.int .i64 l2) ∧ w'.cell? ⟨w2.heap.size, 2, none⟩ = some (.int .i64 m1) ∧ w'.cell? ⟨w2.heap.size, 3, none⟩ = some (.int .i64 m2) ∧ Kept w w' [(⟨w1.heap.size + 1, 0, none⟩, .int .i64 e), (⟨w1.heap.size + 1, 1, none⟩, .int .i64 f), (⟨w1.heap.size + 1, 2, none⟩, .int .i64 g), (⟨w1.heap.size + 1, 3, none⟩, .int .i64 h), (⟨w1.heap.size, 0, none⟩, .int .i64 a), (⟨w1.heap.size, 1, none⟩, .int .i64 b), (⟨w1.heap.size, 2, none⟩, .int .i64 c), (⟨w1.heap.size, 3, none⟩, .int .i64 d), (⟨w2.heap.size, 0, none⟩, .int .i64 l1), (⟨w2.heap.size, 1, none⟩, .int .i64 l2), (⟨w2.heap.size, 2, none⟩, .int .i64 m1), (⟨w2.heap.size, 3, none⟩, .int .i64 m2)]) (first | assumption | exact s12_start K6 | exact s12_keep (by assumption) (by assumption)) (first | (go_simp; go_at_call 16; (with_reducible refine (ZX.out _).mono ?_); rintro e9 w9 ⟨rfl, hb⟩) | (go_simp; go_at_call 16; (with_reducible refine (ZY.out _).mono ?_); rintro e9 w9 ⟨rfl, hb⟩) | (go_simp; go_at_call 16; (with_reducible refine (LI.out _).mono ?_); rintro e9 w9 ⟨rfl, hb⟩)) | fail)
                all_goals
                  have K7 := ‹_ ∧ _ ∧ _ ∧ _ ∧ _ ∧ _ ∧ _ ∧ _ ∧ _ ∧ _ ∧ _ ∧ _ ∧ Kept w w9 _›.2.2.2.2.2.2.2.2.2.2.2.2
                  go_wp2_with fail
                  go_meet
                  exact ⟨rfl, K7.sub (by intro p9 hp9; cases hp9)⟩
          · obtain ⟨h0, h1, h2, h3⟩ := EQ.1 rfl
            clear EQ
            rw [h0, h1, h2, h3] at K6 ZX0 ZY0
            clear h0 h1 h2 h3
            have ZX := Lib.hid ZX0
            have ZY := Lib.hid ZY0
            have LI := Lib.hid LI0
            clear ZX0 ZY0 LI0
            as_aux_lemma =>
              (first | go_region_held3 (fun w' => w'.cell? ⟨w1.heap.size + 1, 0, none⟩ = some (.int .i64 e) ∧ w'.cell? ⟨w1.heap.size + 1, 1, none⟩ = some (.int .i64 f) ∧ w'.cell? ⟨w1.heap.size + 1, 2, none⟩ = some (.int .i64 g) ∧ w'.cell? ⟨w1.heap.size + 1, 3, none⟩ = some (.int .i64 h) ∧ w'.cell? ⟨w1.heap.size, 0, none⟩ = some (.int .i64 a) ∧ w'.cell? ⟨w1.heap.size, 1, none⟩ = some (.int .i64 b) ∧ w'.cell? ⟨w1.heap.size, 2, none⟩ = some (.int .i64 c) ∧ w'.cell? ⟨w1.heap.size, 3, none⟩ = some (.int .i64 d) ∧ w'.cell? ⟨w2.heap.size, 0, none⟩ = some (.int .i64 a) ∧ w'.cell? ⟨w2.heap.size, 1, none⟩ = some (.int .i64 b) ∧ w'.cell? ⟨w2.heap.size, 2, none⟩ = some (.int .i64 c) ∧ w'.cell? ⟨w2.heap.size, 3, none⟩ = some (.int .i64 d) ∧ Kept w w' [(⟨w1.heap.size + 1, 0, none⟩, .int .i64 e), (⟨w1.heap.size + 1, 1, none⟩, .int .i64 f), (⟨w1.heap.size + 1, 2, none⟩, .int .i64 g), (⟨w1.heap.size + 1, 3, none⟩, .int .i64 h), (⟨w1.heap.size, 0, none⟩, .int .i64 a), (⟨w1.heap.size, 1, none⟩, .int .i64 b), (⟨w1.heap.size, 2, none⟩, .int .i64 c), (⟨w1.heap.size, 3, none⟩, .int .i64 d), (⟨w2.heap.size, 0, none⟩, .int .i64 a), (⟨w2.heap.size, 1, none⟩, .int .i64 b), (⟨w2.heap.size, 2, none⟩, .int .i64 c), (⟨w2.heap.size, 3, none⟩, .int .i64 d)]) (first | assumption | exact s12_start K6 | exact s12_keep (by assumption) (by assumption)) (first | (go_simp; go_at_call 16; (with_reducible refine (ZX.out _).mono ?_); rintro e9 w9 ⟨rfl, hb⟩) | (go_simp; go_at_call 16; (with_reducible refine (ZY.out _).mono ?_); rintro e9 w9 ⟨rfl, hb⟩) | (go_simp; go_at_call 16; (with_reducible refine (LI.out _).mono ?_); rintro e9 w9 ⟨rfl, hb⟩)) | fail)
              all_goals
                have K7 := ‹_ ∧ _ ∧ _ ∧ _ ∧ _ ∧ _ ∧ _ ∧ _ ∧ _ ∧ _ ∧ _ ∧ _ ∧ Kept w w9 _›.2.2.2.2.2.2.2.2.2.2.2.2
                go_wp2_with fail
                go_meet
                exact ⟨rfl, K7.sub (by intro p9 hp9; cases hp9)⟩
      case rest =>
        obtain ⟨rfl, K7⟩ := hcut
        clear K6
        go_wp2_with fail
        refine (drawCo _ ao n0 cap _ ((HR.out.below K7.1).mono K7.1.size) (Nat.le_refl _)).mono ?_
        rintro e9 w5 ⟨p1, p2, p3, p4, f1, f2, ⟨ha, hc, hn⟩, rfl, _, hb⟩
        obtain ⟨X, Y, k, j2, x9, R, s, D0⟩ := coC p1 p2 p3 p4 f1 f2 ha hc hn
        have DD := Lib.hid D0
        have K8 := ((K7.step hb).alloc4 (.int .i64 p1) (.int .i64 p2) (.int .i64 p3) (.int .i64 p4) 29 _ rfl).alloc2 (.int .i64 f1) (.int .i64 f2) 27 (w5.heap.size + 1) (by simp)
        clear hb ha hc hn D0 K7 CC
        have k2 := K8.get 2 rfl
        have k3 := K8.get 3 rfl
        have k4 := K8.get 4 rfl
        have k5 := K8.get 5 rfl
        go_wp2_with fail
        refine (DD.out.fi _ (HT.out.below K8.1 (Nat.le_refl _))).mono ?_
        rintro e9 w6 ⟨rfl, hb⟩
        have K9 := K8.step hb
        clear hb K8 k2 k3 k4 k5
        go_wp2_with fail
        refine (impl_ip s _ (by have := DD.out.len; omega) (HT.out.below K9.1 (Nat.le_refl _)) (HM.out.below K9.1 HLT.out)).mono ?_
        rintro e9 w7 ⟨⟨b1, b2, b3, b4, rd, hz, rfl⟩, hb⟩
        obtain ⟨z1, z2⟩ := DD.out.back _ _ _ _ _ hz
        have IS0 := DD.out.isv
        rw [← z1] at IS0 z2
        have HZ := Lib.hid z2
        have ISV := Lib.hid IS0
        have K10 := (K9.step hb).alloc4 (.int .i64 b1) (.int .i64 b2) (.int .i64 b3) (.int .i64 b4) 29 _ rfl
        clear hz z1 z2 IS0 hb K9
        have k6 := K10.get 6 rfl
        have k7 := K10.get 7 rfl
        have k8 := K10.get 8 rfl
        have k9 := K10.get 9 rfl
        go_wp2_with fail
        refine (DD.out.wd _).mono ?_
        rintro e9 w8 ⟨rfl, hb⟩
        have K11 := (K10.step hb).alloc2 (.int .i64 X) (.int .i64 Y) 27 _ rfl
        clear hb K10 k6 k7 k8 k9
        have k8 := K11.get 8 rfl
        have k9 := K11.get 9 rfl
        have k10 := K11.get 10 rfl
        have k11 := K11.get 11 rfl
        go_wp2_with fail
        refine (DD.out.swd _).mono ?_
        rintro e9 w10 ⟨rfl, hb⟩
        have K12 := (K11.step hb).alloc2 (.int .i64 X) (.int .i64 Y) 27 _ rfl
        clear hb K11 k8 k9 k10 k11
        go_upto_region 18 with fail
        cases rd
        · as_aux_lemma =>
            refine wp_region_held_drew (S := fun w' => w'.cell? ⟨w10.heap.size, 0, none⟩ = some (.int .i64 X) ∧ w'.cell? ⟨w10.heap.size, 1, none⟩ = some (.int .i64 Y) ∧ w'.cell? ⟨w8.heap.size, 0, none⟩ = some (.int .i64 X) ∧ w'.cell? ⟨w8.heap.size, 1, none⟩ = some (.int .i64 Y) ∧ w'.cell? ⟨w7.heap.size, 0, none⟩ = some (.int .i64 b1) ∧ w'.cell? ⟨w7.heap.size, 1, none⟩ = some (.int .i64 b2) ∧ w'.cell? ⟨w7.heap.size, 2, none⟩ = some (.int .i64 b3) ∧ w'.cell? ⟨w7.heap.size, 3, none⟩ = some (.int .i64 b4) ∧ w'.cell? ⟨w5.heap.size + 1, 0, none⟩ = some (.int .i64 f1) ∧ w'.cell? ⟨w5.heap.size + 1, 1, none⟩ = some (.int .i64 f2) ∧ w'.cell? ⟨w5.heap.size, 0, none⟩ = some (.int .i64 p1) ∧ w'.cell? ⟨w5.heap.size, 1, none⟩ = some (.int .i64 p2) ∧ w'.cell? ⟨w5.heap.size, 2, none⟩ = some (.int .i64 p3) ∧ w'.cell? ⟨w5.heap.size, 3, none⟩ = some (.int .i64 p4) ∧ Kept w w' [(⟨w10.heap.size, 0, none⟩, .int .i64 X), (⟨w10.heap.size, 1, none⟩, .int .i64 Y), (⟨w8.heap.size, 0, none⟩, .int .i64 X), (⟨w8.heap.size, 1, none⟩, .int .i64 Y), (⟨w7.heap.size, 0, none⟩, .int .i64 b1), (⟨w7.heap.size, 1, none⟩, .int .i64 b2), (⟨w7.heap.size, 2, none⟩, .int .i64 b3), (⟨w7.heap.size, 3, none⟩, .int .i64 b4), (⟨w5.heap.size + 1, 0, none⟩, .int .i64 f1), (⟨w5.heap.size + 1, 1, none⟩, .int .i64 f2), (⟨w5.heap.size, 0, none⟩, .int .i64 p1), (⟨w5.heap.size, 1, none⟩, .int .i64 p2), (⟨w5.heap.size, 2, none⟩, .int .i64 p3), (⟨w5.heap.size, 3, none⟩, .int .i64 p4)]) (by kernel_rfl) (s14_start K12) (fun hHeld => ?_)
            refine wpAnyH_take (i := 0) (oi := { dst := some 149, op := Go.Op.load 29 (Go.Operand.tmp 11), type := 29, pos := "laws.go:880", after := #[], guard := none }) (v := .agg #[.int .i64 p1, .int .i64 p2, .int .i64 p3, .int .i64 p4]) rfl (by kernel_rfl) (by kernel_rfl) (by kernel_rfl) (fun _ _ _ h => h) (Or.inl ⟨by rfl, ?_⟩) (by assumption) ?_
            · intro w8 hS8
              (try dsimp only at hS8)
              go_simp
            try simp only [Act.put, List.setIfInBounds_toArray, List.set_cons_zero, List.set_cons_succ]
            refine wpAnyH_take (i := 1) (oi := { dst := some 150, op := Go.Op.load 27 (Go.Operand.tmp 12), type := 27, pos := "laws.go:880", after := #[], guard := none }) (v := .agg #[.int .i64 f1, .int .i64 f2]) rfl (by kernel_rfl) (by kernel_rfl) (by kernel_rfl) (fun _ _ _ h => h) (Or.inl ⟨by rfl, ?_⟩) (by assumption) ?_
            · intro w8 hS8
              (try dsimp only at hS8)
              go_simp
            try simp only [Act.put, List.setIfInBounds_toArray, List.set_cons_zero, List.set_cons_succ]
            refine wpAnyH_take (i := 3) (oi := { dst := some 152, op := Go.Op.load 29 (Go.Operand.tmp 11), type := 29, pos := "laws.go:880", after := #[], guard := none }) (v := .agg #[.int .i64 p1, .int .i64 p2, .int .i64 p3, .int .i64 p4]) rfl (by kernel_rfl) (by kernel_rfl) (by kernel_rfl) (fun _ _ _ h => h) (Or.inl ⟨by rfl, ?_⟩) (by assumption) ?_
            · intro w8 hS8
              (try dsimp only at hS8)
              go_simp
            try simp only [Act.put, List.setIfInBounds_toArray, List.set_cons_zero, List.set_cons_succ]
            refine wpAnyH_take (i := 4) (oi := { dst := some 153, op := Go.Op.load 27 (Go.Operand.tmp 12), type := 27, pos := "laws.go:880", after := #[], guard := none }) (v := .agg #[.int .i64 f1, .int .i64 f2]) rfl (by kernel_rfl) (by kernel_rfl) (by kernel_rfl) (fun _ _ _ h => h) (Or.inl ⟨by rfl, ?_⟩) (by assumption) ?_
            · intro w8 hS8
              (try dsimp only at hS8)
              go_simp
            try simp only [Act.put, List.setIfInBounds_toArray, List.set_cons_zero, List.set_cons_succ]
            refine wpAnyH_ready (rs := [2]) (by kernel_rfl) (by simp) ?_
            refine AllReadyH.cons (o := { dst := some 151, op := Go.Op.call { callee := Go.Callee.value (Go.Operand.func 24), args := #[Go.Operand.tmp 149, Go.Operand.tmp 150], argTypes := #[29, 27] }, type := 4, pos := "laws.go:880", after := #[{ on := 0, ground := Go.Ground.data }, { on := 1, ground := Go.Ground.data }], guard := none }) rfl (fun K hK => ?_) AllReadyH.nil
            go_simp
            go_at_call 24
            (with_reducible refine (DD.out.co _).mono ?_)
            rintro e9 v1 ⟨rfl, hb1⟩
            refine hK.out _ _ ?_ (fun hS1 => ?_)
            · exact s14_keep hHeld hb1
            clear hK K
            try simp only [Act.put, List.setIfInBounds_toArray, List.set_cons_zero, List.set_cons_succ]
            refine wpAnyH_ready (rs := [5]) (by kernel_rfl) (by simp) ?_
            refine AllReadyH.cons (o := { dst := some 154, op := Go.Op.call { callee := Go.Callee.value (Go.Operand.func 25), args := #[Go.Operand.tmp 152, Go.Operand.tmp 153], argTypes := #[29, 27] }, type := 4, pos := "laws.go:880", after := #[{ on := 3, ground := Go.Ground.data }, { on := 4, ground := Go.Ground.data }, { on := 2, ground := Go.Ground.chain }], guard := none }) rfl (fun K hK => ?_) AllReadyH.nil
            go_simp
            go_at_call 25
            (with_reducible refine (DD.out.sco _).mono ?_)
            rintro e9 v2 ⟨rfl, hb2⟩
            refine hK.out _ _ ?_ (fun hS2 => ?_)
            · exact s14_keep hS1 hb2
            clear hK K
            try simp only [Act.put, List.setIfInBounds_toArray, List.set_cons_zero, List.set_cons_succ]
            refine wpAnyH_take (i := 6) (oi := { dst := some 155, op := Go.Op.binOp BinOp.eql 4 (Go.Operand.tmp 151) (Go.Operand.tmp 154) 4, type := 4, pos := "laws.go:880", after := #[{ on := 2, ground := Go.Ground.data }, { on := 5, ground := Go.Ground.data }], guard := none }) (v := .bool true) rfl (by kernel_rfl) (by kernel_rfl) (by kernel_rfl) (fun _ _ _ h => h) (Or.inl ⟨by rfl, ?_⟩) (by assumption) ?_
            · intro w8 hS8
              (try dsimp only at hS8)
              go_simp
            try simp only [Act.put, List.setIfInBounds_toArray, List.set_cons_zero, List.set_cons_succ]
            refine wpAnyH_take (i := 7) (oi := { dst := some 156, op := Go.Op.move (Go.Operand.tmp 155), type := 4, pos := "laws.go:880", after := #[{ on := 6, ground := Go.Ground.data }, { on := 5, ground := Go.Ground.chain }], guard := none }) (v := .bool true) rfl (by kernel_rfl) (by kernel_rfl) (by kernel_rfl) (fun _ _ _ h => h) (Or.inl ⟨by rfl, ?_⟩) (by assumption) ?_
            · intro w8 hS8
              (try dsimp only at hS8)
              go_simp
            try simp only [Act.put, List.setIfInBounds_toArray, List.set_cons_zero, List.set_cons_succ]
            refine wpAnyH_take (i := 8) (oi := { dst := some 157, op := Go.Op.move (Go.Operand.tmp 13), type := 9, pos := "laws.go:880", after := #[{ on := 7, ground := Go.Ground.guard }], guard := some (7, true) }) (v := .string s) rfl (by kernel_rfl) (by kernel_rfl) (by kernel_rfl) (fun _ _ _ h => h) (Or.inl ⟨by rfl, ?_⟩) (by assumption) ?_
            · intro w8 hS8
              (try dsimp only at hS8)
              go_simp
            try simp only [Act.put, List.setIfInBounds_toArray, List.set_cons_zero, List.set_cons_succ]
            refine wpAnyH_take (i := 9) (oi := { dst := some 158, op := Go.Op.load 29 (Go.Operand.tmp 11), type := 29, pos := "laws.go:880", after := #[{ on := 7, ground := Go.Ground.guard }], guard := some (7, true) }) (v := .agg #[.int .i64 p1, .int .i64 p2, .int .i64 p3, .int .i64 p4]) rfl (by kernel_rfl) (by kernel_rfl) (by kernel_rfl) (fun _ _ _ h => h) (Or.inl ⟨by rfl, ?_⟩) (by assumption) ?_
            · intro w8 hS8
              (try dsimp only at hS8)
              go_simp
            try simp only [Act.put, List.setIfInBounds_toArray, List.set_cons_zero, List.set_cons_succ]
            refine wpAnyH_ready (rs := [10]) (by kernel_rfl) (by simp) ?_
            refine AllReadyH.cons (o := { dst := some 159, op := Go.Op.call { callee := Go.Callee.value (Go.Operand.func 6), args := #[Go.Operand.tmp 158], argTypes := #[29] }, type := 9, pos := "laws.go:880", after := #[{ on := 9, ground := Go.Ground.data }, { on := 7, ground := Go.Ground.chain }, { on := 7, ground := Go.Ground.guard }], guard := some (7, true) }) rfl (fun K hK => ?_) AllReadyH.nil
            go_simp
            go_at_call 6
            (with_reducible refine (DD.out.sfi _).mono ?_)
            rintro e9 v3 ⟨rfl, hb3⟩
            refine hK.out _ _ ?_ (fun hS3 => ?_)
            · exact s14_keep hS2 hb3
            clear hK K
            try simp only [Act.put, List.setIfInBounds_toArray, List.set_cons_zero, List.set_cons_succ]
            refine wpAnyH_take (i := 11) (oi := { dst := some 160, op := Go.Op.binOp BinOp.eql 9 (Go.Operand.tmp 157) (Go.Operand.tmp 159) 9, type := 4, pos := "laws.go:880", after := #[{ on := 8, ground := Go.Ground.data }, { on := 10, ground := Go.Ground.data }, { on := 7, ground := Go.Ground.guard }], guard := some (7, true) }) (v := .bool true) rfl (by kernel_rfl) (by kernel_rfl) (by kernel_rfl) (fun _ _ _ h => h) (Or.inl ⟨by rfl, ?_⟩) (by assumption) ?_
            · intro w8 hS8
              (try dsimp only at hS8)
              go_simp
            try simp only [Act.put, List.setIfInBounds_toArray, List.set_cons_zero, List.set_cons_succ]
            refine wpAnyH_take (i := 12) (oi := { dst := some 161, op := Go.Op.pick (Go.Operand.tmp 156) (Go.Operand.tmp 160) (Go.Operand.const (Go.Value.bool false)), type := 4, pos := "laws.go:880", after := #[{ on := 7, ground := Go.Ground.data }, { on := 11, ground := Go.Ground.data }], guard := none }) (v := .bool true) rfl (by kernel_rfl) (by kernel_rfl) (by kernel_rfl) (fun _ _ _ h => h) (Or.inl ⟨by rfl, ?_⟩) (by assumption) ?_
            · intro w8 hS8
              (try dsimp only at hS8)
              go_simp
            try simp only [Act.put, List.setIfInBounds_toArray, List.set_cons_zero, List.set_cons_succ]
            refine wpAnyH_take (i := 13) (oi := { dst := some 162, op := Go.Op.move (Go.Operand.tmp 161), type := 4, pos := "laws.go:880", after := #[{ on := 12, ground := Go.Ground.data }, { on := 10, ground := Go.Ground.chain }], guard := none }) (v := .bool true) rfl (by kernel_rfl) (by kernel_rfl) (by kernel_rfl) (fun _ _ _ h => h) (Or.inl ⟨by rfl, ?_⟩) (by assumption) ?_
            · intro w8 hS8
              (try dsimp only at hS8)
              go_simp
            try simp only [Act.put, List.setIfInBounds_toArray, List.set_cons_zero, List.set_cons_succ]
            refine wpAnyH_take (i := 14) (oi := { dst := some 163, op := Go.Op.move (Go.Operand.tmp 15), type := 4, pos := "laws.go:880", after := #[{ on := 13, ground := Go.Ground.guard }], guard := some (13, true) }) (v := .bool false) rfl (by kernel_rfl) (by kernel_rfl) (by kernel_rfl) (fun _ _ _ h => h) (Or.inl ⟨by rfl, ?_⟩) (by assumption) ?_
            · intro w8 hS8
              (try dsimp only at hS8)
              go_simp
            try simp only [Act.put, List.setIfInBounds_toArray, List.set_cons_zero, List.set_cons_succ]
            refine wpAnyH_take (i := 15) (oi := { dst := some 164, op := Go.Op.load 29 (Go.Operand.tmp 11), type := 29, pos := "laws.go:880", after := #[{ on := 13, ground := Go.Ground.guard }], guard := some (13, true) }) (v := .agg #[.int .i64 p1, .int .i64 p2, .int .i64 p3, .int .i64 p4]) rfl (by kernel_rfl) (by kernel_rfl) (by kernel_rfl) (fun _ _ _ h => h) (Or.inl ⟨by rfl, ?_⟩) (by assumption) ?_
            · intro w8 hS8
              (try dsimp only at hS8)
              go_simp
            try simp only [Act.put, List.setIfInBounds_toArray, List.set_cons_zero, List.set_cons_succ]
            refine wpAnyH_ready (rs := [16]) (by kernel_rfl) (by simp) ?_
            refine AllReadyH.cons (o := { dst := some 165, op := Go.Op.call { callee := Go.Callee.value (Go.Operand.func 20), args := #[Go.Operand.tmp 164], argTypes := #[29] }, type := 4, pos := "laws.go:880", after := #[{ on := 15, ground := Go.Ground.data }, { on := 13, ground := Go.Ground.chain }, { on := 13, ground := Go.Ground.guard }], guard := some (13, true) }) rfl (fun K hK => ?_) AllReadyH.nil
            go_simp
            go_at_call 20
            (with_reducible refine (ISV.out _).mono ?_)
            rintro e9 v4 ⟨rfl, hb4⟩
            refine hK.out _ _ ?_ (fun hS4 => ?_)
            · exact s14_keep hS3 hb4
            clear hK K
            try simp only [Act.put, List.setIfInBounds_toArray, List.set_cons_zero, List.set_cons_succ]
            refine wpAnyH_take (i := 17) (oi := { dst := some 166, op := Go.Op.binOp BinOp.eql 4 (Go.Operand.tmp 163) (Go.Operand.tmp 165) 4, type := 4, pos := "laws.go:880", after := #[{ on := 14, ground := Go.Ground.data }, { on := 16, ground := Go.Ground.data }, { on := 13, ground := Go.Ground.guard }], guard := some (13, true) }) (v := .bool true) rfl (by kernel_rfl) (by kernel_rfl) (by kernel_rfl) (fun _ _ _ h => h) (Or.inl ⟨by rfl, ?_⟩) (by assumption) ?_
            · intro w8 hS8
              (try dsimp only at hS8)
              go_simp
            try simp only [Act.put, List.setIfInBounds_toArray, List.set_cons_zero, List.set_cons_succ]
            refine wpAnyH_take (i := 18) (oi := { dst := some 167, op := Go.Op.pick (Go.Operand.tmp 162) (Go.Operand.tmp 166) (Go.Operand.const (Go.Value.bool false)), type := 4, pos := "laws.go:880", after := #[{ on := 13, ground := Go.Ground.data }, { on := 17, ground := Go.Ground.data }], guard := none }) (v := .bool true) rfl (by kernel_rfl) (by kernel_rfl) (by kernel_rfl) (fun _ _ _ h => h) (Or.inl ⟨by rfl, ?_⟩) (by assumption) ?_
            · intro w8 hS8
              (try dsimp only at hS8)
              go_simp
            try simp only [Act.put, List.setIfInBounds_toArray, List.set_cons_zero, List.set_cons_succ]
            refine wpAnyH_take (i := 19) (oi := { dst := some 168, op := Go.Op.move (Go.Operand.tmp 167), type := 4, pos := "laws.go:880", after := #[{ on := 18, ground := Go.Ground.data }, { on := 16, ground := Go.Ground.chain }], guard := none }) (v := .bool true) rfl (by kernel_rfl) (by kernel_rfl) (by kernel_rfl) (fun _ _ _ h => h) (Or.inl ⟨by rfl, ?_⟩) (by assumption) ?_
            · intro w8 hS8
              (try dsimp only at hS8)
              go_simp
            try simp only [Act.put, List.setIfInBounds_toArray, List.set_cons_zero, List.set_cons_succ]
            refine wpAnyH_take (i := 20) (oi := { dst := some 169, op := Go.Op.move (Go.Operand.tmp 15), type := 4, pos := "laws.go:880", after := #[{ on := 19, ground := Go.Ground.guard }], guard := some (19, true) }) (v := .bool false) rfl (by kernel_rfl) (by kernel_rfl) (by kernel_rfl) (fun _ _ _ h => h) (Or.inl ⟨by rfl, ?_⟩) (by assumption) ?_
            · intro w8 hS8
              (try dsimp only at hS8)
              go_simp
            try simp only [Act.put, List.setIfInBounds_toArray, List.set_cons_zero, List.set_cons_succ]
            refine wpAnyH_take (i := 21) (oi := { dst := some 170, op := Go.Op.unOp UnOp.not 4 (Go.Operand.tmp 169), type := 4, pos := "laws.go:880", after := #[{ on := 20, ground := Go.Ground.data }, { on := 19, ground := Go.Ground.guard }], guard := some (19, true) }) (v := .bool true) rfl (by kernel_rfl) (by kernel_rfl) (by kernel_rfl) (fun _ _ _ h => h) (Or.inl ⟨by rfl, ?_⟩) (by assumption) ?_
            · intro w8 hS8
              (try dsimp only at hS8)
              go_simp
            try simp only [Act.put, List.setIfInBounds_toArray, List.set_cons_zero, List.set_cons_succ]
            refine wpAnyH_take (i := 22) (oi := { dst := some 171, op := Go.Op.move (Go.Operand.tmp 170), type := 4, pos := "laws.go:880", after := #[{ on := 21, ground := Go.Ground.data }, { on := 19, ground := Go.Ground.chain }, { on := 19, ground := Go.Ground.guard }], guard := some (19, true) }) (v := .bool true) rfl (by kernel_rfl) (by kernel_rfl) (by kernel_rfl) (fun _ _ _ h => h) (Or.inl ⟨by rfl, ?_⟩) (by assumption) ?_
            · intro w8 hS8
              (try dsimp only at hS8)
              go_simp
            try simp only [Act.put, List.setIfInBounds_toArray, List.set_cons_zero, List.set_cons_succ]
            refine held_skip (i := 23) (oi := { dst := some 172, op := Go.Op.load 29 (Go.Operand.tmp 14), type := 29, pos := "laws.go:880", after := #[{ on := 22, ground := Go.Ground.guard }], guard := some (22, false) }) rfl (by kernel_rfl) (by kernel_rfl) (by kernel_rfl) (fun _ _ _ h => h) (by rfl) (by assumption) ?_
            try simp only [Act.put, List.setIfInBounds_toArray, List.set_cons_zero, List.set_cons_succ]
            refine held_skip (i := 24) (oi := { dst := some 173, op := Go.Op.load 29 (Go.Operand.tmp 11), type := 29, pos := "laws.go:880", after := #[{ on := 22, ground := Go.Ground.guard }], guard := some (22, false) }) rfl (by kernel_rfl) (by kernel_rfl) (by kernel_rfl) (fun _ _ _ h => h) (by rfl) (by assumption) ?_
            try simp only [Act.put, List.setIfInBounds_toArray, List.set_cons_zero, List.set_cons_succ]
            refine held_skip (i := 25) (oi := { dst := some 174, op := Go.Op.binOp BinOp.eql 29 (Go.Operand.tmp 172) (Go.Operand.tmp 173) 29, type := 4, pos := "laws.go:880", after := #[{ on := 23, ground := Go.Ground.data }, { on := 24, ground := Go.Ground.data }, { on := 22, ground := Go.Ground.guard }], guard := some (22, false) }) rfl (by kernel_rfl) (by kernel_rfl) (by kernel_rfl) (fun _ _ _ h => h) (by rfl) (by assumption) ?_
            try simp only [Act.put, List.setIfInBounds_toArray, List.set_cons_zero, List.set_cons_succ]
            refine wpAnyH_take (i := 26) (oi := { dst := some 175, op := Go.Op.pick (Go.Operand.tmp 171) (Go.Operand.const (Go.Value.bool true)) (Go.Operand.tmp 174), type := 4, pos := "laws.go:880", after := #[{ on := 22, ground := Go.Ground.data }, { on := 25, ground := Go.Ground.data }, { on := 19, ground := Go.Ground.guard }], guard := some (19, true) }) (v := .bool true) rfl (by kernel_rfl) (by kernel_rfl) (by kernel_rfl) (fun _ _ _ h => h) (Or.inl ⟨by rfl, ?_⟩) (by assumption) ?_
            · intro w8 hS8
              (try dsimp only at hS8)
              go_simp
            try simp only [Act.put, List.setIfInBounds_toArray, List.set_cons_zero, List.set_cons_succ]
            refine wpAnyH_take (i := 27) (oi := { dst := some 176, op := Go.Op.pick (Go.Operand.tmp 168) (Go.Operand.tmp 175) (Go.Operand.const (Go.Value.bool false)), type := 4, pos := "laws.go:880", after := #[{ on := 19, ground := Go.Ground.data }, { on := 26, ground := Go.Ground.data }], guard := none }) (v := .bool true) rfl (by kernel_rfl) (by kernel_rfl) (by kernel_rfl) (fun _ _ _ h => h) (Or.inl ⟨by rfl, ?_⟩) (by assumption) ?_
            · intro w8 hS8
              (try dsimp only at hS8)
              go_simp
            try simp only [Act.put, List.setIfInBounds_toArray, List.set_cons_zero, List.set_cons_succ]
            refine wpAnyH_take (i := 28) (oi := { dst := some 177, op := Go.Op.move (Go.Operand.tmp 176), type := 4, pos := "laws.go:880", after := #[{ on := 27, ground := Go.Ground.data }, { on := 22, ground := Go.Ground.chain }], guard := none }) (v := .bool true) rfl (by kernel_rfl) (by kernel_rfl) (by kernel_rfl) (fun _ _ _ h => h) (Or.inl ⟨by rfl, ?_⟩) (by assumption) ?_
            · intro w8 hS8
              (try dsimp only at hS8)
              go_simp
            try simp only [Act.put, List.setIfInBounds_toArray, List.set_cons_zero, List.set_cons_succ]
            refine wpAnyH_take (i := 29) (oi := { dst := some 178, op := Go.Op.move (Go.Operand.tmp 17), type := 4, pos := "laws.go:880", after := #[{ on := 28, ground := Go.Ground.guard }], guard := some (28, true) }) (v := .bool j2) rfl (by kernel_rfl) (by kernel_rfl) (by kernel_rfl) (fun _ _ _ h => h) (Or.inl ⟨by rfl, ?_⟩) (by assumption) ?_
            · intro w8 hS8
              (try dsimp only at hS8)
              go_simp
            try simp only [Act.put, List.setIfInBounds_toArray, List.set_cons_zero, List.set_cons_succ]
            refine wpAnyH_take (i := 30) (oi := { dst := some 179, op := Go.Op.move (Go.Operand.tmp 19), type := 4, pos := "laws.go:880", after := #[{ on := 28, ground := Go.Ground.guard }], guard := some (28, true) }) (v := .bool j2) rfl (by kernel_rfl) (by kernel_rfl) (by kernel_rfl) (fun _ _ _ h => h) (Or.inl ⟨by rfl, ?_⟩) (by assumption) ?_
            · intro w8 hS8
              (try dsimp only at hS8)
              go_simp
            try simp only [Act.put, List.setIfInBounds_toArray, List.set_cons_zero, List.set_cons_succ]
            refine wpAnyH_take (i := 31) (oi := { dst := some 180, op := Go.Op.binOp BinOp.eql 4 (Go.Operand.tmp 178) (Go.Operand.tmp 179) 4, type := 4, pos := "laws.go:880", after := #[{ on := 29, ground := Go.Ground.data }, { on := 30, ground := Go.Ground.data }, { on := 28, ground := Go.Ground.guard }], guard := some (28, true) }) (v := .bool true) rfl (by kernel_rfl) (by kernel_rfl) (by kernel_rfl) (fun _ _ _ h => h) (Or.inl ⟨by rfl, ?_⟩) (by assumption) ?_
            · intro w8 hS8
              (try dsimp only at hS8)
              go_simp
            try simp only [Act.put, List.setIfInBounds_toArray, List.set_cons_zero, List.set_cons_succ]
            refine wpAnyH_take (i := 32) (oi := { dst := some 181, op := Go.Op.pick (Go.Operand.tmp 177) (Go.Operand.tmp 180) (Go.Operand.const (Go.Value.bool false)), type := 4, pos := "laws.go:880", after := #[{ on := 28, ground := Go.Ground.data }, { on := 31, ground := Go.Ground.data }], guard := none }) (v := .bool true) rfl (by kernel_rfl) (by kernel_rfl) (by kernel_rfl) (fun _ _ _ h => h) (Or.inl ⟨by rfl, ?_⟩) (by assumption) ?_
            · intro w8 hS8
              (try dsimp only at hS8)
              go_simp
            try simp only [Act.put, List.setIfInBounds_toArray, List.set_cons_zero, List.set_cons_succ]
            refine wpAnyH_take (i := 33) (oi := { dst := some 182, op := Go.Op.move (Go.Operand.tmp 181), type := 4, pos := "laws.go:880", after := #[{ on := 32, ground := Go.Ground.data }, { on := 28, ground := Go.Ground.chain }], guard := none }) (v := .bool true) rfl (by kernel_rfl) (by kernel_rfl) (by kernel_rfl) (fun _ _ _ h => h) (Or.inl ⟨by rfl, ?_⟩) (by assumption) ?_
            · intro w8 hS8
              (try dsimp only at hS8)
              go_simp
            try simp only [Act.put, List.setIfInBounds_toArray, List.set_cons_zero, List.set_cons_succ]
            refine wpAnyH_take (i := 34) (oi := { dst := some 183, op := Go.Op.load 27 (Go.Operand.tmp 16), type := 27, pos := "laws.go:880", after := #[{ on := 33, ground := Go.Ground.guard }], guard := some (33, true) }) (v := .agg #[.int .i64 X, .int .i64 Y]) rfl (by kernel_rfl) (by kernel_rfl) (by kernel_rfl) (fun _ _ _ h => h) (Or.inl ⟨by rfl, ?_⟩) (by assumption) ?_
            · intro w8 hS8
              (try dsimp only at hS8)
              go_simp
            try simp only [Act.put, List.setIfInBounds_toArray, List.set_cons_zero, List.set_cons_succ]
            refine wpAnyH_take (i := 35) (oi := { dst := some 184, op := Go.Op.load 27 (Go.Operand.tmp 18), type := 27, pos := "laws.go:880", after := #[{ on := 33, ground := Go.Ground.guard }], guard := some (33, true) }) (v := .agg #[.int .i64 X, .int .i64 Y]) rfl (by kernel_rfl) (by kernel_rfl) (by kernel_rfl) (fun _ _ _ h => h) (Or.inl ⟨by rfl, ?_⟩) (by assumption) ?_
            · intro w8 hS8
              (try dsimp only at hS8)
              go_simp
            try simp only [Act.put, List.setIfInBounds_toArray, List.set_cons_zero, List.set_cons_succ]
            refine wpAnyH_take (i := 36) (oi := { dst := some 185, op := Go.Op.binOp BinOp.eql 27 (Go.Operand.tmp 183) (Go.Operand.tmp 184) 27, type := 4, pos := "laws.go:880", after := #[{ on := 34, ground := Go.Ground.data }, { on := 35, ground := Go.Ground.data }, { on := 33, ground := Go.Ground.guard }], guard := some (33, true) }) (v := .bool true) rfl (by kernel_rfl) (by kernel_rfl) (by kernel_rfl) (fun _ _ _ h => h) (Or.inl ⟨by rfl, ?_⟩) (by assumption) ?_
            · intro w8 hS8
              (try dsimp only at hS8)
              go_simp
            try simp only [Act.put, List.setIfInBounds_toArray, List.set_cons_zero, List.set_cons_succ]
            refine wpAnyH_take (i := 37) (oi := { dst := some 186, op := Go.Op.pick (Go.Operand.tmp 182) (Go.Operand.tmp 185) (Go.Operand.const (Go.Value.bool false)), type := 4, pos := "laws.go:880", after := #[{ on := 33, ground := Go.Ground.data }, { on := 36, ground := Go.Ground.data }], guard := none }) (v := .bool true) rfl (by kernel_rfl) (by kernel_rfl) (by kernel_rfl) (fun _ _ _ h => h) (Or.inl ⟨by rfl, ?_⟩) (by assumption) ?_
            · intro w8 hS8
              (try dsimp only at hS8)
              go_simp
            try simp only [Act.put, List.setIfInBounds_toArray, List.set_cons_zero, List.set_cons_succ]
            refine wpAnyH_take (i := 38) (oi := { dst := some 187, op := Go.Op.move (Go.Operand.tmp 186), type := 4, pos := "laws.go:880", after := #[{ on := 37, ground := Go.Ground.data }, { on := 33, ground := Go.Ground.chain }], guard := none }) (v := .bool true) rfl (by kernel_rfl) (by kernel_rfl) (by kernel_rfl) (fun _ _ _ h => h) (Or.inl ⟨by rfl, ?_⟩) (by assumption) ?_
            · intro w8 hS8
              (try dsimp only at hS8)
              go_simp
            try simp only [Act.put, List.setIfInBounds_toArray, List.set_cons_zero, List.set_cons_succ]
            refine wpAnyH_take (i := 39) (oi := { dst := some 188, op := Go.Op.load 29 (Go.Operand.tmp 11), type := 29, pos := "laws.go:880", after := #[{ on := 38, ground := Go.Ground.guard }], guard := some (38, true) }) (v := .agg #[.int .i64 p1, .int .i64 p2, .int .i64 p3, .int .i64 p4]) rfl (by kernel_rfl) (by kernel_rfl) (by kernel_rfl) (fun _ _ _ h => h) (Or.inl ⟨by rfl, ?_⟩) (by assumption) ?_
            · intro w8 hS8
              (try dsimp only at hS8)
              go_simp
            try simp only [Act.put, List.setIfInBounds_toArray, List.set_cons_zero, List.set_cons_succ]
            refine wpAnyH_take (i := 41) (oi := { dst := some 190, op := Go.Op.load 29 (Go.Operand.tmp 11), type := 29, pos := "laws.go:880", after := #[{ on := 38, ground := Go.Ground.guard }], guard := some (38, true) }) (v := .agg #[.int .i64 p1, .int .i64 p2, .int .i64 p3, .int .i64 p4]) rfl (by kernel_rfl) (by kernel_rfl) (by kernel_rfl) (fun _ _ _ h => h) (Or.inl ⟨by rfl, ?_⟩) (by assumption) ?_
            · intro w8 hS8
              (try dsimp only at hS8)
              go_simp
            try simp only [Act.put, List.setIfInBounds_toArray, List.set_cons_zero, List.set_cons_succ]
            refine wpAnyH_ready (rs := [40]) (by kernel_rfl) (by simp) ?_
            refine AllReadyH.cons (o := { dst := some 189, op := Go.Op.call { callee := Go.Callee.value (Go.Operand.func 26), args := #[Go.Operand.tmp 188], argTypes := #[29] }, type := 4, pos := "laws.go:880", after := #[{ on := 39, ground := Go.Ground.data }, { on := 38, ground := Go.Ground.chain }, { on := 38, ground := Go.Ground.guard }], guard := some (38, true) }) rfl (fun K hK => ?_) AllReadyH.nil
            go_simp
            go_at_call 26
            (with_reducible refine (DD.out.ex _).mono ?_)
            rintro e9 v5 ⟨rfl, hb5⟩
            refine hK.out _ _ ?_ (fun hS5 => ?_)
            · exact s14_keep hS4 hb5
            clear hK K
            try simp only [Act.put, List.setIfInBounds_toArray, List.set_cons_zero, List.set_cons_succ]
            refine wpAnyH_ready (rs := [42]) (by kernel_rfl) (by simp) ?_
            refine AllReadyH.cons (o := { dst := some 191, op := Go.Op.call { callee := Go.Callee.value (Go.Operand.func 27), args := #[Go.Operand.tmp 190], argTypes := #[29] }, type := 4, pos := "laws.go:880", after := #[{ on := 41, ground := Go.Ground.data }, { on := 40, ground := Go.Ground.chain }, { on := 38, ground := Go.Ground.guard }], guard := some (38, true) }) rfl (fun K hK => ?_) AllReadyH.nil
            go_simp
            go_at_call 27
            (with_reducible refine (DD.out.sex _).mono ?_)
            rintro e9 v6 ⟨rfl, hb6⟩
            refine hK.out _ _ ?_ (fun hS6 => ?_)
            · exact s14_keep hS5 hb6
            clear hK K
            try simp only [Act.put, List.setIfInBounds_toArray, List.set_cons_zero, List.set_cons_succ]
            refine wpAnyH_take (i := 43) (oi := { dst := some 192, op := Go.Op.binOp BinOp.eql 4 (Go.Operand.tmp 189) (Go.Operand.tmp 191) 4, type := 4, pos := "laws.go:880", after := #[{ on := 40, ground := Go.Ground.data }, { on := 42, ground := Go.Ground.data }, { on := 38, ground := Go.Ground.guard }], guard := some (38, true) }) (v := .bool true) rfl (by kernel_rfl) (by kernel_rfl) (by kernel_rfl) (fun _ _ _ h => h) (Or.inl ⟨by rfl, ?_⟩) (by assumption) ?_
            · intro w8 hS8
              (try dsimp only at hS8)
              go_simp
            try simp only [Act.put, List.setIfInBounds_toArray, List.set_cons_zero, List.set_cons_succ]
            refine wpAnyH_take (i := 44) (oi := { dst := some 193, op := Go.Op.pick (Go.Operand.tmp 187) (Go.Operand.tmp 192) (Go.Operand.const (Go.Value.bool false)), type := 4, pos := "laws.go:880", after := #[{ on := 38, ground := Go.Ground.data }, { on := 43, ground := Go.Ground.data }], guard := none }) (v := .bool true) rfl (by kernel_rfl) (by kernel_rfl) (by kernel_rfl) (fun _ _ _ h => h) (Or.inl ⟨by rfl, ?_⟩) (by assumption) ?_
            · intro w8 hS8
              (try dsimp only at hS8)
              go_simp
            try simp only [Act.put, List.setIfInBounds_toArray, List.set_cons_zero, List.set_cons_succ]
            refine wpAnyH_take (i := 45) (oi := { dst := some 2, op := Go.Op.assign (Go.Operand.tmp 193), type := 4, pos := "laws.go:880", after := #[{ on := 44, ground := Go.Ground.data }, { on := 42, ground := Go.Ground.chain }, { on := 0, ground := Go.Ground.phase }, { on := 1, ground := Go.Ground.phase }, { on := 2, ground := Go.Ground.phase }, { on := 3, ground := Go.Ground.phase }, { on := 4, ground := Go.Ground.phase }, { on := 5, ground := Go.Ground.phase }, { on := 6, ground := Go.Ground.phase }, { on := 7, ground := Go.Ground.phase }, { on := 8, ground := Go.Ground.phase }, { on := 9, ground := Go.Ground.phase }, { on := 10, ground := Go.Ground.phase }, { on := 11, ground := Go.Ground.phase }, { on := 12, ground := Go.Ground.phase }, { on := 13, ground := Go.Ground.phase }, { on := 14, ground := Go.Ground.phase }, { on := 15, ground := Go.Ground.phase }, { on := 16, ground := Go.Ground.phase }, { on := 17, ground := Go.Ground.phase }, { on := 18, ground := Go.Ground.phase }, { on := 19, ground := Go.Ground.phase }, { on := 20, ground := Go.Ground.phase }, { on := 21, ground := Go.Ground.phase }, { on := 22, ground := Go.Ground.phase }, { on := 23, ground := Go.Ground.phase }, { on := 24, ground := Go.Ground.phase }, { on := 25, ground := Go.Ground.phase }, { on := 26, ground := Go.Ground.phase }, { on := 27, ground := Go.Ground.phase }, { on := 28, ground := Go.Ground.phase }, { on := 29, ground := Go.Ground.phase }, { on := 30, ground := Go.Ground.phase }, { on := 31, ground := Go.Ground.phase }, { on := 32, ground := Go.Ground.phase }, { on := 33, ground := Go.Ground.phase }, { on := 34, ground := Go.Ground.phase }, { on := 35, ground := Go.Ground.phase }, { on := 36, ground := Go.Ground.phase }, { on := 37, ground := Go.Ground.phase }, { on := 38, ground := Go.Ground.phase }, { on := 39, ground := Go.Ground.phase }, { on := 40, ground := Go.Ground.phase }, { on := 41, ground := Go.Ground.phase }, { on := 42, ground := Go.Ground.phase }, { on := 43, ground := Go.Ground.phase }, { on := 44, ground := Go.Ground.phase }], guard := none }) (v := .bool true) rfl (by kernel_rfl) (by kernel_rfl) (by kernel_rfl) (fun _ _ _ h => h) (Or.inl ⟨by rfl, ?_⟩) (by assumption) ?_
            · intro w8 hS8
              (try dsimp only at hS8)
              go_simp
            try simp only [Act.put, List.setIfInBounds_toArray, List.set_cons_zero, List.set_cons_succ]
            refine wpAnyH_done (by kernel_rfl) ?_ _
            go_wp2
            go_ret
            exact ⟨rfl, hS6.2.2.2.2.2.2.2.2.2.2.2.2.2.2.1⟩
        · obtain ⟨h1, h2, h3, h4⟩ := HZ.out rfl
          rw [h1, h2, h3, h4] at K12
          clear h1 h2 h3 h4
          as_aux_lemma =>
            (first | go_region_held3 (fun w' => w'.cell? ⟨w10.heap.size, 0, none⟩ = some (.int .i64 X) ∧ w'.cell? ⟨w10.heap.size, 1, none⟩ = some (.int .i64 Y) ∧ w'.cell? ⟨w8.heap.size, 0, none⟩ = some (.int .i64 X) ∧ w'.cell? ⟨w8.heap.size, 1, none⟩ = some (.int .i64 Y) ∧ w'.cell? ⟨w7.heap.size, 0, none⟩ = some (.int .i64 p1) ∧ w'.cell? ⟨w7.heap.size, 1, none⟩ = some (.int .i64 p2) ∧ w'.cell? ⟨w7.heap.size, 2, none⟩ = some (.int .i64 p3) ∧ w'.cell? ⟨w7.heap.size, 3, none⟩ = some (.int .i64 p4) ∧ w'.cell? ⟨w5.heap.size + 1, 0, none⟩ = some (.int .i64 f1) ∧ w'.cell? ⟨w5.heap.size + 1, 1, none⟩ = some (.int .i64 f2) ∧ w'.cell? ⟨w5.heap.size, 0, none⟩ = some (.int .i64 p1) ∧ w'.cell? ⟨w5.heap.size, 1, none⟩ = some (.int .i64 p2) ∧ w'.cell? ⟨w5.heap.size, 2, none⟩ = some (.int .i64 p3) ∧ w'.cell? ⟨w5.heap.size, 3, none⟩ = some (.int .i64 p4) ∧ Kept w w' [(⟨w10.heap.size, 0, none⟩, .int .i64 X), (⟨w10.heap.size, 1, none⟩, .int .i64 Y), (⟨w8.heap.size, 0, none⟩, .int .i64 X), (⟨w8.heap.size, 1, none⟩, .int .i64 Y), (⟨w7.heap.size, 0, none⟩, .int .i64 p1), (⟨w7.heap.size, 1, none⟩, .int .i64 p2), (⟨w7.heap.size, 2, none⟩, .int .i64 p3), (⟨w7.heap.size, 3, none⟩, .int .i64 p4), (⟨w5.heap.size + 1, 0, none⟩, .int .i64 f1), (⟨w5.heap.size + 1, 1, none⟩, .int .i64 f2), (⟨w5.heap.size, 0, none⟩, .int .i64 p1), (⟨w5.heap.size, 1, none⟩, .int .i64 p2), (⟨w5.heap.size, 2, none⟩, .int .i64 p3), (⟨w5.heap.size, 3, none⟩, .int .i64 p4)]) (first | assumption | exact s14_start K12 | exact s14_keep (by assumption) (by assumption)) (first | (go_simp; go_at_call 24; (with_reducible refine (DD.out.co _).mono ?_); rintro e9 w9 ⟨rfl, hb⟩) | (go_simp; go_at_call 25; (with_reducible refine (DD.out.sco _).mono ?_); rintro e9 w9 ⟨rfl, hb⟩) | (go_simp; go_at_call 6; (with_reducible refine (DD.out.sfi _).mono ?_); rintro e9 w9 ⟨rfl, hb⟩) | (go_simp; go_at_call 20; (with_reducible refine (ISV.out _).mono ?_); rintro e9 w9 ⟨rfl, hb⟩) | (go_simp; go_at_call 26; (with_reducible refine (DD.out.ex _).mono ?_); rintro e9 w9 ⟨rfl, hb⟩) | (go_simp; go_at_call 27; (with_reducible refine (DD.out.sex _).mono ?_); rintro e9 w9 ⟨rfl, hb⟩)) | fail)
            all_goals
              have K13 := ‹_ ∧ _ ∧ _ ∧ _ ∧ _ ∧ _ ∧ _ ∧ _ ∧ _ ∧ _ ∧ _ ∧ _ ∧ _ ∧ _ ∧ Kept w w9 _›.2.2.2.2.2.2.2.2.2.2.2.2.2.2
              go_wp2
              go_ret
              exact ⟨rfl, K13.1⟩
end Go.Proofs.YtdfmidihghoilaaDoor
