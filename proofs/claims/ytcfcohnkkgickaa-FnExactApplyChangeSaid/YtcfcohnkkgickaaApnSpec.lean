/-
  The walk over the model's l7Append: no block has the ID.
-/
import Derived.Test.YtcfcohnkkgickaaRows
import Derived.Test.YtcfcohnkkgickaaApfSpec
import Derived.Test.YtcfcohnkkgickaaMgB
import Derived.Test.YtcfcohnkkgickaaBkStep
import Derived.Test.YtcfcohnkkgickaaPfmAll
namespace Go.Proofs.Ytcfcohnkkgickaa
open Go.RowKit Num

theorem KB.boxSetL {W w : World} {B : Nat} {L : List (Addr × Value)} {v u : Value} {l : List Blk} {f : List Nat} {bp : Nat} {ver : Int} (h : KB W w B L v l f) (h0 : (⟨bp, 0, none⟩, .int .i64 ver) ∈ L) (h1 : (⟨bp, 1, none⟩, u) ∈ L) : ∃ fp, TblBox (w.setCell ⟨bp, 1, none⟩ v) bp ver v l fp ∧ (∀ k ∈ fp, B ≤ k ∧ k < w.heap.size) ∧ (∀ p ∈ L, p.1.block ∉ fp) ∧ ∀ k ∈ fp, k ∈ ownF v f := by
  obtain ⟨fp, hs, hn, hf⟩ := ownB_F h.2.1
  have c0 := h.1.2 _ h0
  have c1 := h.1.2 _ h1
  have d := h.2.2 _ h0
  have hbn := ownF_not hf d.1 d.2
  refine ⟨fp, ⟨by simpa using c0.1, ?_, by rw [World.frozen?_setCell]; exact c0.2.2, ?_, by rw [World.frozen?_setCell]; exact c1.2.2, hs.set _ _ (fun k hk e => hbn (by have e' : k = bp := e; rw [← e']; exact hk)), hn, hbn⟩, fun k hk => ownF_lt h.2.1 k (hf k hk), fun p hp => ownF_not hf (h.2.2 p hp).1 (h.2.2 p hp).2, hf⟩
  · rw [World.cell?_setCell_other (w := w) (a := ⟨bp, 1, none⟩) (b := ⟨bp, 0, none⟩) (v := v) (by simp)]
    exact c0.2.1
  · exact World.cell?_setCell_same (w := w) (a := ⟨bp, 1, none⟩) (v := v) c1.2.1
theorem ownF_mem {v : Value} {f : List Nat} {k : Nat} (h : k ∈ ownF v f) : k ∈ f ∨ v.ownBlock = some k := by
  unfold ownF at h
  cases hv : v.ownBlock with
  | none => rw [hv] at h; exact .inl h
  | some g =>
    rw [hv] at h
    rcases List.mem_cons.1 h with rfl | h
    · exact .inr rfl
    · exact .inl h
theorem ownF_of {v : Value} {f : List Nat} {k : Nat} (h : k ∈ f ∨ v.ownBlock = some k) : k ∈ ownF v f := by
  unfold ownF
  rcases h with h | h
  · cases v.ownBlock with
    | none => exact h
    | some g => exact List.mem_cons_of_mem _ h
  · rw [h]; exact List.mem_cons_self
theorem chg_grown {v : Value} {f : List Nat} {a b : Nat} {w w' : World} (h : w.grownBy w' v.ownBlock) : Chg (a :: b :: ownF v f) w w' :=
  ⟨h.os, h.tape, h.output, h.size, fun k hk hn => h.block k hk (fun e => hn (List.mem_cons_of_mem _ (List.mem_cons_of_mem _ (ownF_of (.inr e.symm)))))⟩
/-- 'append(out, b)': the block's cells stand in a block of memory of their own; its rows are new. -/
theorem wpList_append_kbG {ops : Array Oper} {rest : List Oper} {o : Oper} {a : Act} {Q : Exit → Act → World → Prop} {W w : World} (hgd : o.guard = none) (s x : Operand)
    (ho : o.op = .call { callee := .builtin .append, args := #[s, x], argTypes := #[30, 30] })
    (B : Nat) (v : Value) (L : List (Addr × Value)) (l : List Blk) (f : List Nat) (b : Blk) (ro : Option Addr) (rn rc : Nat) (fb : List Nat) (N c : Nat) (hs : a.eval s = v) (hx : a.eval x = .slice (some ⟨N, 0, none⟩) 1 c) (hko : KB W w B L v l f)
    (hc0 : w.cell? ⟨N, 0, none⟩ = some (.int .i64 b.id)) (hc1 : w.cell? ⟨N, 1, none⟩ = some (.slice ro rn rc)) (hrep : SliceRep rowTy w (.slice ro rn rc) b.rows fb) (hfb : ∀ k ∈ fb, B ≤ k) (hnd : fb.Nodup) (hd : ∀ k ∈ fb, k ∉ f) (hvb : ∀ k ∈ fb, v.ownBlock ≠ some k) (hLb : ∀ p ∈ L, p.1.block ∉ fb)
    (hlen : (l.length + 1) * 32 ≤ 140737488355328) (hWB : W.heap.size ≤ B) (hB : B ≤ w.heap.size)
    (h : ∀ v' w', KB W w' B L v' (l ++ [b]) (f ++ fb) → (v'.ownBlock = v.ownBlock ∨ v'.ownBlock = some w.heap.size) → w.grownBy w' v.ownBlock → wpList Try.prog ops Q rest (a.put o.dst v') w') : wpList Try.prog ops Q (o :: rest) a w := by
  obtain ⟨i0, hi, hx0⟩ := Option.map_eq_some_iff.1 Try.infoBlk
  simp only [Prod.mk.injEq] at hx0
  obtain ⟨hz0, hz1, hz2⟩ := hx0
  obtain ⟨hk, ⟨vs, hown, hreps, hfB, hfnd, hfv⟩, hap⟩ := hko
  refine wpList_append_own_at _ hgd s x 30 ho B 80 i0 _ 2 32 Try.underlying30 hi hz0 hz1 hz2 rfl (by decide) v l.length (kcells l vs) hs hown ⟨N, 0, none⟩ 1 c [.int .i64 b.id, .slice ro rn rc] hx rfl ?_ ?_ (by unfold maxLen; omega) (by omega) hB ?_
  · intro j u hj
    match j, hj with
    | 0, hj => simp only [List.getElem?_cons_zero, Option.some.injEq] at hj; subst hj; exact hc0
    | 1, hj => simp only [List.getElem?_cons_succ, List.getElem?_cons_zero, Option.some.injEq] at hj; subst hj; exact hc1
    | j + 2, hj => simp at hj
  · intro u hu
    simp only [List.mem_cons, List.not_mem_nil, or_false] at hu
    rcases hu with rfl | rfl <;> rfl
  · intro v' w' h2 h3 _ h5
    have hlt := World.ownsRow.lt hown
    refine h v' w' ⟨kept_grown hk h3 (fun k e => Nat.le_trans hWB (hlt k e).1) (fun p hp => (hap p hp).1), ⟨vs ++ [.slice ro rn rc], ?_, ?_, fun k hk => ?_, List.nodup_append.2 ⟨hfnd, hnd, fun x hx y hy e => hd y hy (by rw [← e]; exact hx)⟩, fun k hk => ?_⟩, fun p hp => ?_⟩ h5 h3
    · rw [List.length_append, kcells_snoc hreps.len]
      exact h2
    · exact Reps.snoc (b := b) (hrep.keep (fun k hk => h3.block k (hrep.lt k hk) (fun e => hvb k hk e.symm))) (hreps.keep (fun k hk => h3.block k (hreps.lt k hk) (fun e => hfv k hk e.symm)))
    · rcases List.mem_append.1 hk with hk | hk
      · exact hfB k hk
      · exact hfb k hk
    · rcases h5 with h5 | h5
      · rw [h5]
        rcases List.mem_append.1 hk with hk | hk
        · exact hfv k hk
        · exact hvb k hk
      · rw [h5]
        intro e
        simp only [Option.some.injEq] at e
        rcases List.mem_append.1 hk with hk | hk
        · have := hreps.lt k hk; omega
        · have := hrep.lt k hk; omega
    · refine ⟨fun e => ?_, fun e => ?_⟩
      · rcases h5 with h5 | h5
        · rw [h5] at e; exact (hap p hp).1 e
        · rw [h5] at e
          simp only [Option.some.injEq] at e
          have := (hk.2 p hp).1
          omega
      · rcases List.mem_append.1 e with e | e
        · exact (hap p hp).2 e
        · exact hLb p hp e
/-- A slice of one row that was made last but one. -/
theorem row_one {w : World} {g : Nat} {r : Rw} (hg : g < w.heap.size) (h : RowIn w g 0 r) (hf : ∀ j, j < 5 → w.frozen? ⟨g, j, none⟩ = false) : SliceRep rowTy w (.slice (some ⟨g, 0, none⟩) 1 1) [r] [g] := by
  obtain ⟨h0, h1, h2, h3, h4⟩ := h
  refine rows_shut (l := [r]) (by simp) ⟨hg, fun j hj => ?_⟩ (fun k hk => ?_)
  · simp only [List.length_singleton, Nat.one_mul] at hj
    refine ⟨?_, hf j hj⟩
    match j, hj with
    | 0, _ => exact ⟨_, h0⟩
    | 1, _ => exact ⟨_, h1⟩
    | 2, _ => exact ⟨_, h2⟩
    | 3, _ => exact ⟨_, h3⟩
    | 4, _ => exact ⟨_, h4⟩
    | j + 5, hj => omega
  · obtain rfl : k = 0 := by simp at hk; omega
    exact ⟨h0, h1, h2, h3, h4⟩

set_option maxRecDepth 8000 in
set_option maxHeartbeats 6400000 in
theorem spec_app_m (ver : Int) (ao : Option Addr) (n cap : Nat) (l : List Blk) (b i g y x : Int) (nl : Bool) (f : List Nat) (W w : World) (hn : l.length = n) (hT : TblOk ver l l.length) (hC : ChOk ⟨1, b, ⟨i, g, y, x, nl⟩⟩) (hW : Below W.heap.size W w) (hO : OwnB w W.heap.size (.slice ao n cap) l f) (hA : ¬ iRow l i < l.length) (hk : ¬ iBlk l b < l.length) (hm3 : 0 < l.length ∧ b < (Bn l (l.length - 1)).id) :
    Calls Try.prog 79 #[.agg #[.int .i64 ver, .slice ao n cap], .agg #[.int .i64 1, .int .i64 b, .int .i64 i, .int .i64 g, .int .i64 y, .int .i64 x, .bool nl]] w (AppPost ver l b ⟨i, g, y, x, nl⟩ (ownF (.slice ao n cap) f) w) := by
  have hn6 : l.length ≤ 6 := hT.2.1
  have AN := Lib.hid (show appC l b ⟨i, g, y, x, nl⟩ = (l, 3) by unfold appC; rw [if_neg hA, if_neg hk, if_pos hm3])
  obtain ⟨fp, hS, hnd, hF⟩ := ownB_F hO
  have HFW := Lib.hid (show ∀ j ∈ fp, W.heap.size ≤ j from fun j hj => (ownF_lt hO j (hF j hj)).1)
  have HF := Lib.hid hF
  obtain ⟨ao', cap', e9, hcap, hV⟩ := blks_open hS
  simp only [Value.slice.injEq] at e9
  obtain ⟨rfl, h9, rfl⟩ := e9
  clear h9
  have hr := bn_rows hT
  have HV := Lib.hid hV
  have HW := Lib.hid hW
  have HC := Lib.hid (hC.one rfl)
  have HS := Lib.hid hS
  have HO := Lib.hid hO
  have HND := Lib.hid hnd
  have HA := Lib.hid hA
  have HK := Lib.hid hk
  have BR := Lib.hid (fun w hV => spec_bor ver i ao n cap l w hn (by omega) (fun k hk => by have := hr k (by omega); omega) hV)
  have FB := Lib.hid (fun w hV => spec_findB ver b ao n cap l w hn (by omega) hV)
  have hnI : (n : Int) ≤ 6 := by omega
  have HN := Lib.hid hn
  have h0 : 0 < n := by omega
  obtain ⟨m, hm⟩ : ∃ m, n = m + 1 := ⟨n - 1, by omega⟩
  have hml : m < l.length := by omega
  obtain ⟨gt, ro, rcap, fk, rfl, hgt, dd0, dd1, hs9⟩ := slice_blkAt hS hnd hml
  have D0 := Lib.hid dd0
  obtain ⟨id, hid⟩ : ∃ id, id = (Bn l m).id := ⟨_, rfl⟩
  rw [← hid] at D0
  have hwm : IntKind.i64.wrap ((n : Int) - 1) = (m : Int) := by rw [IntKind.wrap_i64]; omega
  have hmI : (m : Int) < (n : Int) := by omega
  have hn0 : decide ((0 : Int) < (n : Int)) = true := decide_eq_true (by omega)
  have hbd : decide (b < id) = true := decide_eq_true (by rw [hid]; have e : l.length - 1 = m := by omega
                                                          rw [e] at hm3; exact hm3.2)
  clear hV hO hT hC hS hF hr hn hA hW hnd hk hm3 hm hml dd0 dd1 hs9 hid
  go_enter Try.func79, Try.ntmps79
  have K0 := (((Kept.start w).alloc2 (.int .i64 ver) (.slice (some ⟨gt, 0, none⟩) n cap) 32 _ rfl).alloc7 (.int .i64 1) (.int .i64 b) (.int .i64 i) (.int .i64 g) (.int .i64 y) (.int .i64 x) (.bool nl) 38 (w.heap.size + 1) (by simp)).alloc2 (.int .i64 0) (.slice none 0 0) 32 (w.heap.size + 1 + 1) (by simp)
  go_wp2_with fail
  refine (BR.out _ (HV.out.below K0.1)).mono ?_
  rintro e w1 ⟨⟨vb, hvb, rfl⟩, hb⟩
  have K1 := K0.step hb
  have EB := Lib.hid (firstAns_idx (p := fun b : Blk => HasRow b.rows i) (l := l) (by rw [HN.out]; exact hvb))
  have hv1 : -1 ≤ vb ∧ vb < 6 := by rcases hvb with ⟨k, hk, _, _, rfl⟩ | ⟨_, rfl⟩ <;> omega
  obtain ⟨hv1, hv2⟩ := hv1
  clear hb hvb K0
  have hd := not_row EB.out HA.out
  have t0 := K1.get 9 rfl
  have t1 := K1.get 10 rfl
  have r1 := K1.get 3 rfl
  go_wp2_with fail
  refine (FB.out _ (HV.out.below K1.1)).mono ?_
  rintro e w2 ⟨⟨vf, hvf, rfl⟩, hb⟩
  have K2 := K1.step hb
  have EF := firstAns_idx (p := fun c : Blk => c.id = b) (l := l) (by rw [HN.out]; exact hvf)
  have hf1 : -1 ≤ vf ∧ vf < 6 := by rcases hvf with ⟨k, hk, _, _, rfl⟩ | ⟨_, rfl⟩ <;> omega
  obtain ⟨hf1, hf2⟩ := hf1
  have hdf := not_blk EF HK.out
  clear hb hvf K1 t0 t1 r1 EF hd
  have t1 := K2.get 10 rfl
  have r2 := K2.get 3 rfl
  go_wp2_with fail
  have d0 := (K2.1.cell (p := ⟨gt, m * 2, none⟩) hgt).trans D0.out
  refine wp_region_held_drew (S := fun w' => w'.cell? ⟨w.heap.size, 1, none⟩ = some (.slice (some ⟨gt, 0, none⟩) n cap) ∧ w'.cell? ⟨gt, m * 2, none⟩ = some (.int .i64 id) ∧ w'.cell? ⟨w.heap.size + 1, 1, none⟩ = some (.int .i64 b)) (by kernel_rfl) (⟨t1, d0, r2⟩) (fun hHeld => ?_)
  refine wpAnyH_take (i := 0) (oi := { dst := some 42, op := Go.Op.fieldAddr 32 (Go.Operand.tmp 2) 1, type := 0, pos := "l07_change.go:38", after := #[], guard := none }) (v := .pointer (some ⟨w.heap.size, 1, none⟩)) rfl (by kernel_rfl) (by kernel_rfl) (by kernel_rfl) (fun _ _ _ h => h) (Or.inl ⟨by rfl, ?_⟩) (by assumption) ?_
  · intro w8 hS8
    (try dsimp only at hS8)
    go_simp
  try simp only [Act.put, List.setIfInBounds_toArray, List.set_cons_zero, List.set_cons_succ]
  refine wpAnyH_take (i := 1) (oi := { dst := some 43, op := Go.Op.load 30 (Go.Operand.tmp 42), type := 30, pos := "l07_change.go:38", after := #[{ on := 0, ground := Go.Ground.data }], guard := none }) (v := .slice (some ⟨gt, 0, none⟩) n cap) rfl (by kernel_rfl) (by kernel_rfl) (by kernel_rfl) (fun _ _ _ h => h) (Or.inl ⟨by rfl, ?_⟩) (by assumption) ?_
  · intro w8 hS8
    (try dsimp only at hS8)
    go_simp
  try simp only [Act.put, List.setIfInBounds_toArray, List.set_cons_zero, List.set_cons_succ]
  refine wpAnyH_take (i := 2) (oi := { dst := some 44, op := Go.Op.call { callee := Go.Callee.builtin Go.Builtin.len, args := #[Go.Operand.tmp 43], argTypes := #[30] }, type := 3, pos := "l07_change.go:38", after := #[{ on := 1, ground := Go.Ground.data }], guard := none }) (v := .int .i64 (n : Int)) rfl (by kernel_rfl) (by kernel_rfl) (by kernel_rfl) (fun _ _ _ h => h) (Or.inl ⟨by rfl, ?_⟩) (by assumption) ?_
  · intro w8 hS8
    (try dsimp only at hS8)
    go_simp
  try simp only [Act.put, List.setIfInBounds_toArray, List.set_cons_zero, List.set_cons_succ]
  refine wpAnyH_take (i := 3) (oi := { dst := some 45, op := Go.Op.binOp BinOp.gtr 3 (Go.Operand.tmp 44) (Go.Operand.const (Go.Value.int Go.IntKind.i64 0)) 3, type := 4, pos := "l07_change.go:38", after := #[{ on := 2, ground := Go.Ground.data }], guard := none }) (v := .bool true) rfl (by kernel_rfl) (by kernel_rfl) (by kernel_rfl) (fun _ _ _ h => h) (Or.inl ⟨by rfl, ?_⟩) (by assumption) ?_
  · intro w8 hS8
    (try dsimp only at hS8)
    go_simp
  try simp only [Act.put, List.setIfInBounds_toArray, List.set_cons_zero, List.set_cons_succ]
  refine wpAnyH_take (i := 4) (oi := { dst := some 46, op := Go.Op.move (Go.Operand.tmp 45), type := 4, pos := "l07_change.go:38", after := #[{ on := 3, ground := Go.Ground.data }], guard := none }) (v := .bool true) rfl (by kernel_rfl) (by kernel_rfl) (by kernel_rfl) (fun _ _ _ h => h) (Or.inl ⟨by rfl, ?_⟩) (by assumption) ?_
  · intro w8 hS8
    (try dsimp only at hS8)
    go_simp
  try simp only [Act.put, List.setIfInBounds_toArray, List.set_cons_zero, List.set_cons_succ]
  refine wpAnyH_take (i := 5) (oi := { dst := some 47, op := Go.Op.fieldAddr 32 (Go.Operand.tmp 2) 1, type := 0, pos := "l07_change.go:38", after := #[{ on := 4, ground := Go.Ground.guard }], guard := some (4, true) }) (v := .pointer (some ⟨w.heap.size, 1, none⟩)) rfl (by kernel_rfl) (by kernel_rfl) (by kernel_rfl) (fun _ _ _ h => h) (Or.inl ⟨by rfl, ?_⟩) (by assumption) ?_
  · intro w8 hS8
    (try dsimp only at hS8)
    go_simp
  try simp only [Act.put, List.setIfInBounds_toArray, List.set_cons_zero, List.set_cons_succ]
  refine wpAnyH_take (i := 6) (oi := { dst := some 48, op := Go.Op.load 30 (Go.Operand.tmp 47), type := 30, pos := "l07_change.go:38", after := #[{ on := 5, ground := Go.Ground.data }, { on := 4, ground := Go.Ground.guard }], guard := some (4, true) }) (v := .slice (some ⟨gt, 0, none⟩) n cap) rfl (by kernel_rfl) (by kernel_rfl) (by kernel_rfl) (fun _ _ _ h => h) (Or.inl ⟨by rfl, ?_⟩) (by assumption) ?_
  · intro w8 hS8
    (try dsimp only at hS8)
    go_simp
  try simp only [Act.put, List.setIfInBounds_toArray, List.set_cons_zero, List.set_cons_succ]
  refine wpAnyH_take (i := 7) (oi := { dst := some 49, op := Go.Op.fieldAddr 32 (Go.Operand.tmp 2) 1, type := 0, pos := "l07_change.go:38", after := #[{ on := 4, ground := Go.Ground.guard }], guard := some (4, true) }) (v := .pointer (some ⟨w.heap.size, 1, none⟩)) rfl (by kernel_rfl) (by kernel_rfl) (by kernel_rfl) (fun _ _ _ h => h) (Or.inl ⟨by rfl, ?_⟩) (by assumption) ?_
  · intro w8 hS8
    (try dsimp only at hS8)
    go_simp
  try simp only [Act.put, List.setIfInBounds_toArray, List.set_cons_zero, List.set_cons_succ]
  refine wpAnyH_take (i := 8) (oi := { dst := some 50, op := Go.Op.load 30 (Go.Operand.tmp 49), type := 30, pos := "l07_change.go:38", after := #[{ on := 7, ground := Go.Ground.data }, { on := 4, ground := Go.Ground.guard }], guard := some (4, true) }) (v := .slice (some ⟨gt, 0, none⟩) n cap) rfl (by kernel_rfl) (by kernel_rfl) (by kernel_rfl) (fun _ _ _ h => h) (Or.inl ⟨by rfl, ?_⟩) (by assumption) ?_
  · intro w8 hS8
    (try dsimp only at hS8)
    go_simp
  try simp only [Act.put, List.setIfInBounds_toArray, List.set_cons_zero, List.set_cons_succ]
  refine wpAnyH_take (i := 9) (oi := { dst := some 51, op := Go.Op.call { callee := Go.Callee.builtin Go.Builtin.len, args := #[Go.Operand.tmp 50], argTypes := #[30] }, type := 3, pos := "l07_change.go:38", after := #[{ on := 8, ground := Go.Ground.data }, { on := 4, ground := Go.Ground.guard }], guard := some (4, true) }) (v := .int .i64 (n : Int)) rfl (by kernel_rfl) (by kernel_rfl) (by kernel_rfl) (fun _ _ _ h => h) (Or.inl ⟨by rfl, ?_⟩) (by assumption) ?_
  · intro w8 hS8
    (try dsimp only at hS8)
    go_simp
  try simp only [Act.put, List.setIfInBounds_toArray, List.set_cons_zero, List.set_cons_succ]
  refine wpAnyH_take (i := 10) (oi := { dst := some 52, op := Go.Op.binOp BinOp.sub 3 (Go.Operand.tmp 51) (Go.Operand.const (Go.Value.int Go.IntKind.i64 1)) 3, type := 3, pos := "l07_change.go:38", after := #[{ on := 9, ground := Go.Ground.data }, { on := 4, ground := Go.Ground.guard }], guard := some (4, true) }) (v := .int .i64 (m : Int)) rfl (by kernel_rfl) (by kernel_rfl) (by kernel_rfl) (fun _ _ _ h => h) (Or.inl ⟨by rfl, ?_⟩) (by assumption) ?_
  · intro w8 hS8
    (try dsimp only at hS8)
    go_simp
  try simp only [Act.put, List.setIfInBounds_toArray, List.set_cons_zero, List.set_cons_succ]
  refine wpAnyH_take (i := 11) (oi := { dst := some 53, op := Go.Op.indexAddr 30 (Go.Operand.tmp 48) (Go.Operand.tmp 52), type := 0, pos := "l07_change.go:38", after := #[{ on := 6, ground := Go.Ground.data }, { on := 10, ground := Go.Ground.data }, { on := 4, ground := Go.Ground.guard }], guard := some (4, true) }) (v := .pointer (some ⟨gt, m * 2, none⟩)) rfl (by kernel_rfl) (by kernel_rfl) (by kernel_rfl) (fun _ _ _ h => h) (Or.inl ⟨by rfl, ?_⟩) (by assumption) ?_
  · intro w8 hS8
    (try dsimp only at hS8)
    go_simp
  try simp only [Act.put, List.setIfInBounds_toArray, List.set_cons_zero, List.set_cons_succ]
  refine wpAnyH_take (i := 12) (oi := { dst := some 54, op := Go.Op.fieldAddr 80 (Go.Operand.tmp 53) 0, type := 0, pos := "l07_change.go:38", after := #[{ on := 11, ground := Go.Ground.data }, { on := 4, ground := Go.Ground.guard }], guard := some (4, true) }) (v := .pointer (some ⟨gt, m * 2, none⟩)) rfl (by kernel_rfl) (by kernel_rfl) (by kernel_rfl) (fun _ _ _ h => h) (Or.inl ⟨by rfl, ?_⟩) (by assumption) ?_
  · intro w8 hS8
    (try dsimp only at hS8)
    go_simp
  try simp only [Act.put, List.setIfInBounds_toArray, List.set_cons_zero, List.set_cons_succ]
  refine wpAnyH_take (i := 13) (oi := { dst := some 55, op := Go.Op.load 3 (Go.Operand.tmp 54), type := 3, pos := "l07_change.go:38", after := #[{ on := 12, ground := Go.Ground.data }, { on := 4, ground := Go.Ground.guard }], guard := some (4, true) }) (v := .int .i64 id) rfl (by kernel_rfl) (by kernel_rfl) (by kernel_rfl) (fun _ _ _ h => h) (Or.inl ⟨by rfl, ?_⟩) (by assumption) ?_
  · intro w8 hS8
    (try dsimp only at hS8)
    go_simp
  try simp only [Act.put, List.setIfInBounds_toArray, List.set_cons_zero, List.set_cons_succ]
  refine wpAnyH_take (i := 14) (oi := { dst := some 56, op := Go.Op.fieldAddr 38 (Go.Operand.tmp 3) 1, type := 0, pos := "l07_change.go:38", after := #[{ on := 4, ground := Go.Ground.guard }], guard := some (4, true) }) (v := .pointer (some ⟨w.heap.size + 1, 1, none⟩)) rfl (by kernel_rfl) (by kernel_rfl) (by kernel_rfl) (fun _ _ _ h => h) (Or.inl ⟨by rfl, ?_⟩) (by assumption) ?_
  · intro w8 hS8
    (try dsimp only at hS8)
    go_simp
  try simp only [Act.put, List.setIfInBounds_toArray, List.set_cons_zero, List.set_cons_succ]
  refine wpAnyH_take (i := 15) (oi := { dst := some 57, op := Go.Op.load 3 (Go.Operand.tmp 56), type := 3, pos := "l07_change.go:38", after := #[{ on := 14, ground := Go.Ground.data }, { on := 4, ground := Go.Ground.guard }], guard := some (4, true) }) (v := .int .i64 b) rfl (by kernel_rfl) (by kernel_rfl) (by kernel_rfl) (fun _ _ _ h => h) (Or.inl ⟨by rfl, ?_⟩) (by assumption) ?_
  · intro w8 hS8
    (try dsimp only at hS8)
    go_simp
  try simp only [Act.put, List.setIfInBounds_toArray, List.set_cons_zero, List.set_cons_succ]
  refine wpAnyH_take (i := 16) (oi := { dst := some 58, op := Go.Op.binOp BinOp.gtr 3 (Go.Operand.tmp 55) (Go.Operand.tmp 57) 3, type := 4, pos := "l07_change.go:38", after := #[{ on := 13, ground := Go.Ground.data }, { on := 15, ground := Go.Ground.data }, { on := 4, ground := Go.Ground.guard }], guard := some (4, true) }) (v := .bool true) rfl (by kernel_rfl) (by kernel_rfl) (by kernel_rfl) (fun _ _ _ h => h) (Or.inl ⟨by rfl, ?_⟩) (by assumption) ?_
  · intro w8 hS8
    (try dsimp only at hS8)
    go_simp
  try simp only [Act.put, List.setIfInBounds_toArray, List.set_cons_zero, List.set_cons_succ]
  refine wpAnyH_take (i := 17) (oi := { dst := some 59, op := Go.Op.pick (Go.Operand.tmp 46) (Go.Operand.tmp 58) (Go.Operand.const (Go.Value.bool false)), type := 4, pos := "l07_change.go:38", after := #[{ on := 4, ground := Go.Ground.data }, { on := 16, ground := Go.Ground.data }], guard := none }) (v := .bool true) rfl (by kernel_rfl) (by kernel_rfl) (by kernel_rfl) (fun _ _ _ h => h) (Or.inl ⟨by rfl, ?_⟩) (by assumption) ?_
  · intro w8 hS8
    (try dsimp only at hS8)
    go_simp
  try simp only [Act.put, List.setIfInBounds_toArray, List.set_cons_zero, List.set_cons_succ]
  refine wpAnyH_done (by kernel_rfl) ?_ _
  clear t1 r2 d0
  have KD := K2.drew
  obtain ⟨w3, hw3⟩ : ∃ w3, w3 = w2.drew := ⟨_, rfl⟩
  rw [← hw3] at KD ⊢
  clear hw3
  have t0 := KD.get 9 rfl
  have t3 := KD.get 10 rfl
  have q0 := KD.fz 0 rfl
  have q1 := KD.fz 1 rfl
  have r0 := KD.get 0 rfl
  have r1 := KD.get 1 rfl
  have yy := KD.lt 0 rfl
  have K4 := (KD.sub (l' := [(⟨w.heap.size + 1 + 1, 0, none⟩, .int .i64 0), (⟨w.heap.size + 1 + 1, 1, none⟩, .slice none 0 0)]) (by intro p9 hp9; simp only [List.mem_cons, List.not_mem_nil, or_false] at hp9; rcases hp9 with rfl | rfl <;> simp)).set2 (.int .i64 ver) (.slice (some ⟨gt, 0, none⟩) n cap) (by omega) (by simp)
  have m0 := K4.get 0 rfl
  have m1 := K4.get 1 rfl
  have HB := Lib.hid K4.1
  have HS3 := Lib.hid (HS.out.step K4.1)
  clear K4 KD K2
  go_wp2
  exact bodyPost_ret (v := .tuple #[.agg #[.int .i64 ver, .slice (some ⟨gt, 0, none⟩) n cap], .int .i64 3]) (by simp [results, Try.results79, go_sem, m0, m1, yy]) rfl ⟨_, fp, by rw [AN.out], by rw [AN.out]; exact HS3.out, HND.out, fun k hk => .inl (HF.out k hk), Chg.of HB.out⟩

set_option maxRecDepth 8000 in
set_option maxHeartbeats 6400000 in
theorem spec_app_g (ver : Int) (ao : Option Addr) (n cap : Nat) (l : List Blk) (b i g y x : Int) (nl : Bool) (f : List Nat) (W w : World) (hn : l.length = n) (hT : TblOk ver l l.length) (hC : ChOk ⟨1, b, ⟨i, g, y, x, nl⟩⟩) (hW : Below W.heap.size W w) (hO : OwnB w W.heap.size (.slice ao n cap) l f) (hA : ¬ iRow l i < l.length) (hk : ¬ iBlk l b < l.length) (hm3 : ¬ (0 < l.length ∧ b < (Bn l (l.length - 1)).id)) (h6 : l.length = 6) :
    Calls Try.prog 79 #[.agg #[.int .i64 ver, .slice ao n cap], .agg #[.int .i64 1, .int .i64 b, .int .i64 i, .int .i64 g, .int .i64 y, .int .i64 x, .bool nl]] w (AppPost ver l b ⟨i, g, y, x, nl⟩ (ownF (.slice ao n cap) f) w) := by
  have hn6 : l.length ≤ 6 := hT.2.1
  have AN := Lib.hid (show appC l b ⟨i, g, y, x, nl⟩ = (l, 4) by unfold appC; rw [if_neg hA, if_neg hk, if_neg hm3, if_pos h6])
  obtain ⟨fp, hS, hnd, hF⟩ := ownB_F hO
  have HFW := Lib.hid (show ∀ j ∈ fp, W.heap.size ≤ j from fun j hj => (ownF_lt hO j (hF j hj)).1)
  have HF := Lib.hid hF
  obtain ⟨ao', cap', e9, hcap, hV⟩ := blks_open hS
  simp only [Value.slice.injEq] at e9
  obtain ⟨rfl, h9, rfl⟩ := e9
  clear h9
  have hr := bn_rows hT
  have HV := Lib.hid hV
  have HW := Lib.hid hW
  have HC := Lib.hid (hC.one rfl)
  have HS := Lib.hid hS
  have HO := Lib.hid hO
  have HND := Lib.hid hnd
  have HA := Lib.hid hA
  have HK := Lib.hid hk
  have BR := Lib.hid (fun w hV => spec_bor ver i ao n cap l w hn (by omega) (fun k hk => by have := hr k (by omega); omega) hV)
  have FB := Lib.hid (fun w hV => spec_findB ver b ao n cap l w hn (by omega) hV)
  have hnI : (n : Int) ≤ 6 := by omega
  have HN := Lib.hid hn
  have h0 : 0 < n := by omega
  obtain ⟨m, hm⟩ : ∃ m, n = m + 1 := ⟨n - 1, by omega⟩
  have hml : m < l.length := by omega
  obtain ⟨gt, ro, rcap, fk, rfl, hgt, dd0, dd1, hs9⟩ := slice_blkAt hS hnd hml
  have D0 := Lib.hid dd0
  obtain ⟨id, hid⟩ : ∃ id, id = (Bn l m).id := ⟨_, rfl⟩
  rw [← hid] at D0
  have hwm : IntKind.i64.wrap ((n : Int) - 1) = (m : Int) := by rw [IntKind.wrap_i64]; omega
  have hmI : (m : Int) < (n : Int) := by omega
  have hn0 : decide ((0 : Int) < (n : Int)) = true := decide_eq_true (by omega)
  have hbd : decide (b < id) = false := decide_eq_false (by rw [hid]; have e : l.length - 1 = m := by omega
                                                            rw [e] at hm3; exact fun h => hm3 ⟨by omega, h⟩)
  have hn66 : ((n : Int) == 6) = true := by rw [← hn, h6]; rfl
  clear hV hO hT hC hS hF hr hn hA hW hnd hk hm3 hm hml dd0 dd1 hs9 hid h6
  go_enter Try.func79, Try.ntmps79
  have K0 := (((Kept.start w).alloc2 (.int .i64 ver) (.slice (some ⟨gt, 0, none⟩) n cap) 32 _ rfl).alloc7 (.int .i64 1) (.int .i64 b) (.int .i64 i) (.int .i64 g) (.int .i64 y) (.int .i64 x) (.bool nl) 38 (w.heap.size + 1) (by simp)).alloc2 (.int .i64 0) (.slice none 0 0) 32 (w.heap.size + 1 + 1) (by simp)
  go_wp2_with fail
  refine (BR.out _ (HV.out.below K0.1)).mono ?_
  rintro e w1 ⟨⟨vb, hvb, rfl⟩, hb⟩
  have K1 := K0.step hb
  have EB := Lib.hid (firstAns_idx (p := fun b : Blk => HasRow b.rows i) (l := l) (by rw [HN.out]; exact hvb))
  have hv1 : -1 ≤ vb ∧ vb < 6 := by rcases hvb with ⟨k, hk, _, _, rfl⟩ | ⟨_, rfl⟩ <;> omega
  obtain ⟨hv1, hv2⟩ := hv1
  clear hb hvb K0
  have hd := not_row EB.out HA.out
  have t0 := K1.get 9 rfl
  have t1 := K1.get 10 rfl
  have r1 := K1.get 3 rfl
  go_wp2_with fail
  refine (FB.out _ (HV.out.below K1.1)).mono ?_
  rintro e w2 ⟨⟨vf, hvf, rfl⟩, hb⟩
  have K2 := K1.step hb
  have EF := firstAns_idx (p := fun c : Blk => c.id = b) (l := l) (by rw [HN.out]; exact hvf)
  have hf1 : -1 ≤ vf ∧ vf < 6 := by rcases hvf with ⟨k, hk, _, _, rfl⟩ | ⟨_, rfl⟩ <;> omega
  obtain ⟨hf1, hf2⟩ := hf1
  have hdf := not_blk EF HK.out
  clear hb hvf K1 t0 t1 r1 EF hd
  have t1 := K2.get 10 rfl
  have r2 := K2.get 3 rfl
  go_wp2_with fail
  have d0 := (K2.1.cell (p := ⟨gt, m * 2, none⟩) hgt).trans D0.out
  refine wp_region_held_drew (S := fun w' => w'.cell? ⟨w.heap.size, 1, none⟩ = some (.slice (some ⟨gt, 0, none⟩) n cap) ∧ w'.cell? ⟨gt, m * 2, none⟩ = some (.int .i64 id) ∧ w'.cell? ⟨w.heap.size + 1, 1, none⟩ = some (.int .i64 b)) (by kernel_rfl) (⟨t1, d0, r2⟩) (fun hHeld => ?_)
  refine wpAnyH_take (i := 0) (oi := { dst := some 42, op := Go.Op.fieldAddr 32 (Go.Operand.tmp 2) 1, type := 0, pos := "l07_change.go:38", after := #[], guard := none }) (v := .pointer (some ⟨w.heap.size, 1, none⟩)) rfl (by kernel_rfl) (by kernel_rfl) (by kernel_rfl) (fun _ _ _ h => h) (Or.inl ⟨by rfl, ?_⟩) (by assumption) ?_
  · intro w8 hS8
    (try dsimp only at hS8)
    go_simp
  try simp only [Act.put, List.setIfInBounds_toArray, List.set_cons_zero, List.set_cons_succ]
  refine wpAnyH_take (i := 1) (oi := { dst := some 43, op := Go.Op.load 30 (Go.Operand.tmp 42), type := 30, pos := "l07_change.go:38", after := #[{ on := 0, ground := Go.Ground.data }], guard := none }) (v := .slice (some ⟨gt, 0, none⟩) n cap) rfl (by kernel_rfl) (by kernel_rfl) (by kernel_rfl) (fun _ _ _ h => h) (Or.inl ⟨by rfl, ?_⟩) (by assumption) ?_
  · intro w8 hS8
    (try dsimp only at hS8)
    go_simp
  try simp only [Act.put, List.setIfInBounds_toArray, List.set_cons_zero, List.set_cons_succ]
  refine wpAnyH_take (i := 2) (oi := { dst := some 44, op := Go.Op.call { callee := Go.Callee.builtin Go.Builtin.len, args := #[Go.Operand.tmp 43], argTypes := #[30] }, type := 3, pos := "l07_change.go:38", after := #[{ on := 1, ground := Go.Ground.data }], guard := none }) (v := .int .i64 (n : Int)) rfl (by kernel_rfl) (by kernel_rfl) (by kernel_rfl) (fun _ _ _ h => h) (Or.inl ⟨by rfl, ?_⟩) (by assumption) ?_
  · intro w8 hS8
    (try dsimp only at hS8)
    go_simp
  try simp only [Act.put, List.setIfInBounds_toArray, List.set_cons_zero, List.set_cons_succ]
  refine wpAnyH_take (i := 3) (oi := { dst := some 45, op := Go.Op.binOp BinOp.gtr 3 (Go.Operand.tmp 44) (Go.Operand.const (Go.Value.int Go.IntKind.i64 0)) 3, type := 4, pos := "l07_change.go:38", after := #[{ on := 2, ground := Go.Ground.data }], guard := none }) (v := .bool true) rfl (by kernel_rfl) (by kernel_rfl) (by kernel_rfl) (fun _ _ _ h => h) (Or.inl ⟨by rfl, ?_⟩) (by assumption) ?_
  · intro w8 hS8
    (try dsimp only at hS8)
    go_simp
  try simp only [Act.put, List.setIfInBounds_toArray, List.set_cons_zero, List.set_cons_succ]
  refine wpAnyH_take (i := 4) (oi := { dst := some 46, op := Go.Op.move (Go.Operand.tmp 45), type := 4, pos := "l07_change.go:38", after := #[{ on := 3, ground := Go.Ground.data }], guard := none }) (v := .bool true) rfl (by kernel_rfl) (by kernel_rfl) (by kernel_rfl) (fun _ _ _ h => h) (Or.inl ⟨by rfl, ?_⟩) (by assumption) ?_
  · intro w8 hS8
    (try dsimp only at hS8)
    go_simp
  try simp only [Act.put, List.setIfInBounds_toArray, List.set_cons_zero, List.set_cons_succ]
  refine wpAnyH_take (i := 5) (oi := { dst := some 47, op := Go.Op.fieldAddr 32 (Go.Operand.tmp 2) 1, type := 0, pos := "l07_change.go:38", after := #[{ on := 4, ground := Go.Ground.guard }], guard := some (4, true) }) (v := .pointer (some ⟨w.heap.size, 1, none⟩)) rfl (by kernel_rfl) (by kernel_rfl) (by kernel_rfl) (fun _ _ _ h => h) (Or.inl ⟨by rfl, ?_⟩) (by assumption) ?_
  · intro w8 hS8
    (try dsimp only at hS8)
    go_simp
  try simp only [Act.put, List.setIfInBounds_toArray, List.set_cons_zero, List.set_cons_succ]
  refine wpAnyH_take (i := 6) (oi := { dst := some 48, op := Go.Op.load 30 (Go.Operand.tmp 47), type := 30, pos := "l07_change.go:38", after := #[{ on := 5, ground := Go.Ground.data }, { on := 4, ground := Go.Ground.guard }], guard := some (4, true) }) (v := .slice (some ⟨gt, 0, none⟩) n cap) rfl (by kernel_rfl) (by kernel_rfl) (by kernel_rfl) (fun _ _ _ h => h) (Or.inl ⟨by rfl, ?_⟩) (by assumption) ?_
  · intro w8 hS8
    (try dsimp only at hS8)
    go_simp
  try simp only [Act.put, List.setIfInBounds_toArray, List.set_cons_zero, List.set_cons_succ]
  refine wpAnyH_take (i := 7) (oi := { dst := some 49, op := Go.Op.fieldAddr 32 (Go.Operand.tmp 2) 1, type := 0, pos := "l07_change.go:38", after := #[{ on := 4, ground := Go.Ground.guard }], guard := some (4, true) }) (v := .pointer (some ⟨w.heap.size, 1, none⟩)) rfl (by kernel_rfl) (by kernel_rfl) (by kernel_rfl) (fun _ _ _ h => h) (Or.inl ⟨by rfl, ?_⟩) (by assumption) ?_
  · intro w8 hS8
    (try dsimp only at hS8)
    go_simp
  try simp only [Act.put, List.setIfInBounds_toArray, List.set_cons_zero, List.set_cons_succ]
  refine wpAnyH_take (i := 8) (oi := { dst := some 50, op := Go.Op.load 30 (Go.Operand.tmp 49), type := 30, pos := "l07_change.go:38", after := #[{ on := 7, ground := Go.Ground.data }, { on := 4, ground := Go.Ground.guard }], guard := some (4, true) }) (v := .slice (some ⟨gt, 0, none⟩) n cap) rfl (by kernel_rfl) (by kernel_rfl) (by kernel_rfl) (fun _ _ _ h => h) (Or.inl ⟨by rfl, ?_⟩) (by assumption) ?_
  · intro w8 hS8
    (try dsimp only at hS8)
    go_simp
  try simp only [Act.put, List.setIfInBounds_toArray, List.set_cons_zero, List.set_cons_succ]
  refine wpAnyH_take (i := 9) (oi := { dst := some 51, op := Go.Op.call { callee := Go.Callee.builtin Go.Builtin.len, args := #[Go.Operand.tmp 50], argTypes := #[30] }, type := 3, pos := "l07_change.go:38", after := #[{ on := 8, ground := Go.Ground.data }, { on := 4, ground := Go.Ground.guard }], guard := some (4, true) }) (v := .int .i64 (n : Int)) rfl (by kernel_rfl) (by kernel_rfl) (by kernel_rfl) (fun _ _ _ h => h) (Or.inl ⟨by rfl, ?_⟩) (by assumption) ?_
  · intro w8 hS8
    (try dsimp only at hS8)
    go_simp
  try simp only [Act.put, List.setIfInBounds_toArray, List.set_cons_zero, List.set_cons_succ]
  refine wpAnyH_take (i := 10) (oi := { dst := some 52, op := Go.Op.binOp BinOp.sub 3 (Go.Operand.tmp 51) (Go.Operand.const (Go.Value.int Go.IntKind.i64 1)) 3, type := 3, pos := "l07_change.go:38", after := #[{ on := 9, ground := Go.Ground.data }, { on := 4, ground := Go.Ground.guard }], guard := some (4, true) }) (v := .int .i64 (m : Int)) rfl (by kernel_rfl) (by kernel_rfl) (by kernel_rfl) (fun _ _ _ h => h) (Or.inl ⟨by rfl, ?_⟩) (by assumption) ?_
  · intro w8 hS8
    (try dsimp only at hS8)
    go_simp
  try simp only [Act.put, List.setIfInBounds_toArray, List.set_cons_zero, List.set_cons_succ]
  refine wpAnyH_take (i := 11) (oi := { dst := some 53, op := Go.Op.indexAddr 30 (Go.Operand.tmp 48) (Go.Operand.tmp 52), type := 0, pos := "l07_change.go:38", after := #[{ on := 6, ground := Go.Ground.data }, { on := 10, ground := Go.Ground.data }, { on := 4, ground := Go.Ground.guard }], guard := some (4, true) }) (v := .pointer (some ⟨gt, m * 2, none⟩)) rfl (by kernel_rfl) (by kernel_rfl) (by kernel_rfl) (fun _ _ _ h => h) (Or.inl ⟨by rfl, ?_⟩) (by assumption) ?_
  · intro w8 hS8
    (try dsimp only at hS8)
    go_simp
  try simp only [Act.put, List.setIfInBounds_toArray, List.set_cons_zero, List.set_cons_succ]
  refine wpAnyH_take (i := 12) (oi := { dst := some 54, op := Go.Op.fieldAddr 80 (Go.Operand.tmp 53) 0, type := 0, pos := "l07_change.go:38", after := #[{ on := 11, ground := Go.Ground.data }, { on := 4, ground := Go.Ground.guard }], guard := some (4, true) }) (v := .pointer (some ⟨gt, m * 2, none⟩)) rfl (by kernel_rfl) (by kernel_rfl) (by kernel_rfl) (fun _ _ _ h => h) (Or.inl ⟨by rfl, ?_⟩) (by assumption) ?_
  · intro w8 hS8
    (try dsimp only at hS8)
    go_simp
  try simp only [Act.put, List.setIfInBounds_toArray, List.set_cons_zero, List.set_cons_succ]
  refine wpAnyH_take (i := 13) (oi := { dst := some 55, op := Go.Op.load 3 (Go.Operand.tmp 54), type := 3, pos := "l07_change.go:38", after := #[{ on := 12, ground := Go.Ground.data }, { on := 4, ground := Go.Ground.guard }], guard := some (4, true) }) (v := .int .i64 id) rfl (by kernel_rfl) (by kernel_rfl) (by kernel_rfl) (fun _ _ _ h => h) (Or.inl ⟨by rfl, ?_⟩) (by assumption) ?_
  · intro w8 hS8
    (try dsimp only at hS8)
    go_simp
  try simp only [Act.put, List.setIfInBounds_toArray, List.set_cons_zero, List.set_cons_succ]
  refine wpAnyH_take (i := 14) (oi := { dst := some 56, op := Go.Op.fieldAddr 38 (Go.Operand.tmp 3) 1, type := 0, pos := "l07_change.go:38", after := #[{ on := 4, ground := Go.Ground.guard }], guard := some (4, true) }) (v := .pointer (some ⟨w.heap.size + 1, 1, none⟩)) rfl (by kernel_rfl) (by kernel_rfl) (by kernel_rfl) (fun _ _ _ h => h) (Or.inl ⟨by rfl, ?_⟩) (by assumption) ?_
  · intro w8 hS8
    (try dsimp only at hS8)
    go_simp
  try simp only [Act.put, List.setIfInBounds_toArray, List.set_cons_zero, List.set_cons_succ]
  refine wpAnyH_take (i := 15) (oi := { dst := some 57, op := Go.Op.load 3 (Go.Operand.tmp 56), type := 3, pos := "l07_change.go:38", after := #[{ on := 14, ground := Go.Ground.data }, { on := 4, ground := Go.Ground.guard }], guard := some (4, true) }) (v := .int .i64 b) rfl (by kernel_rfl) (by kernel_rfl) (by kernel_rfl) (fun _ _ _ h => h) (Or.inl ⟨by rfl, ?_⟩) (by assumption) ?_
  · intro w8 hS8
    (try dsimp only at hS8)
    go_simp
  try simp only [Act.put, List.setIfInBounds_toArray, List.set_cons_zero, List.set_cons_succ]
  refine wpAnyH_take (i := 16) (oi := { dst := some 58, op := Go.Op.binOp BinOp.gtr 3 (Go.Operand.tmp 55) (Go.Operand.tmp 57) 3, type := 4, pos := "l07_change.go:38", after := #[{ on := 13, ground := Go.Ground.data }, { on := 15, ground := Go.Ground.data }, { on := 4, ground := Go.Ground.guard }], guard := some (4, true) }) (v := .bool false) rfl (by kernel_rfl) (by kernel_rfl) (by kernel_rfl) (fun _ _ _ h => h) (Or.inl ⟨by rfl, ?_⟩) (by assumption) ?_
  · intro w8 hS8
    (try dsimp only at hS8)
    go_simp
  try simp only [Act.put, List.setIfInBounds_toArray, List.set_cons_zero, List.set_cons_succ]
  refine wpAnyH_take (i := 17) (oi := { dst := some 59, op := Go.Op.pick (Go.Operand.tmp 46) (Go.Operand.tmp 58) (Go.Operand.const (Go.Value.bool false)), type := 4, pos := "l07_change.go:38", after := #[{ on := 4, ground := Go.Ground.data }, { on := 16, ground := Go.Ground.data }], guard := none }) (v := .bool false) rfl (by kernel_rfl) (by kernel_rfl) (by kernel_rfl) (fun _ _ _ h => h) (Or.inl ⟨by rfl, ?_⟩) (by assumption) ?_
  · intro w8 hS8
    (try dsimp only at hS8)
    go_simp
  try simp only [Act.put, List.setIfInBounds_toArray, List.set_cons_zero, List.set_cons_succ]
  refine wpAnyH_done (by kernel_rfl) ?_ _
  clear t1 r2 d0
  have KD := K2.drew
  obtain ⟨w3, hw3⟩ : ∃ w3, w3 = w2.drew := ⟨_, rfl⟩
  rw [← hw3] at KD ⊢
  clear hw3
  have t0 := KD.get 9 rfl
  have t3 := KD.get 10 rfl
  have q0 := KD.fz 0 rfl
  have q1 := KD.fz 1 rfl
  have r0 := KD.get 0 rfl
  have r1 := KD.get 1 rfl
  have yy := KD.lt 0 rfl
  have K4 := (KD.sub (l' := [(⟨w.heap.size + 1 + 1, 0, none⟩, .int .i64 0), (⟨w.heap.size + 1 + 1, 1, none⟩, .slice none 0 0)]) (by intro p9 hp9; simp only [List.mem_cons, List.not_mem_nil, or_false] at hp9; rcases hp9 with rfl | rfl <;> simp)).set2 (.int .i64 ver) (.slice (some ⟨gt, 0, none⟩) n cap) (by omega) (by simp)
  have m0 := K4.get 0 rfl
  have m1 := K4.get 1 rfl
  have HB := Lib.hid K4.1
  have HS3 := Lib.hid (HS.out.step K4.1)
  clear K4 KD K2
  go_wp2
  exact bodyPost_ret (v := .tuple #[.agg #[.int .i64 ver, .slice (some ⟨gt, 0, none⟩) n cap], .int .i64 4]) (by simp [results, Try.results79, go_sem, m0, m1, yy]) rfl ⟨_, fp, by rw [AN.out], by rw [AN.out]; exact HS3.out, HND.out, fun k hk => .inl (HF.out k hk), Chg.of HB.out⟩

set_option maxRecDepth 8000 in
set_option maxHeartbeats 6400000 in
theorem spec_app_nz (ver : Int) (ao : Option Addr) (n cap : Nat) (l : List Blk) (b i g y x : Int) (nl : Bool) (f : List Nat) (W w : World) (hn : l.length = n) (hT : TblOk ver l l.length) (hC : ChOk ⟨1, b, ⟨i, g, y, x, nl⟩⟩) (hW : Below W.heap.size W w) (hO : OwnB w W.heap.size (.slice ao n cap) l f) (hA : ¬ iRow l i < l.length) (hk : ¬ iBlk l b < l.length) (hm3 : ¬ (0 < l.length ∧ b < (Bn l (l.length - 1)).id)) (h6 : ¬ l.length = 6) (h0 : n = 0) :
    Calls Try.prog 79 #[.agg #[.int .i64 ver, .slice ao n cap], .agg #[.int .i64 1, .int .i64 b, .int .i64 i, .int .i64 g, .int .i64 y, .int .i64 x, .bool nl]] w (AppPost ver l b ⟨i, g, y, x, nl⟩ (ownF (.slice ao n cap) f) w) := by
  have hn6 : l.length ≤ 6 := hT.2.1
  have AN := Lib.hid (show appC l b ⟨i, g, y, x, nl⟩ = (l ++ [⟨b, [⟨i, g, y, x, nl⟩]⟩], 0) by unfold appC; rw [if_neg hA, if_neg hk, if_neg hm3, if_neg h6])
  obtain ⟨fp, hS, hnd, hF⟩ := ownB_F hO
  have HFW := Lib.hid (show ∀ j ∈ fp, W.heap.size ≤ j from fun j hj => (ownF_lt hO j (hF j hj)).1)
  have HF := Lib.hid hF
  obtain ⟨ao', cap', e9, hcap, hV⟩ := blks_open hS
  simp only [Value.slice.injEq] at e9
  obtain ⟨rfl, h9, rfl⟩ := e9
  clear h9
  have hr := bn_rows hT
  have HV := Lib.hid hV
  have HW := Lib.hid hW
  have HC := Lib.hid (hC.one rfl)
  have HS := Lib.hid hS
  have HO := Lib.hid hO
  have HND := Lib.hid hnd
  have HA := Lib.hid hA
  have HK := Lib.hid hk
  have BR := Lib.hid (fun w hV => spec_bor ver i ao n cap l w hn (by omega) (fun k hk => by have := hr k (by omega); omega) hV)
  have FB := Lib.hid (fun w hV => spec_findB ver b ao n cap l w hn (by omega) hV)
  have hnI : (n : Int) ≤ 6 := by omega
  have HN := Lib.hid hn
  have hn0 : decide ((0 : Int) < (n : Int)) = false := decide_eq_false (by omega)
  have hnz : ¬ 0 < n := by omega
  have hn66 : ((n : Int) == 6) = false := beq_eq_false_iff_ne.2 (by omega)
  clear hV hO hT hC hS hF hr hn hA hW hnd hk hm3 h0 h6
  go_enter Try.func79, Try.ntmps79
  have K0 := (((Kept.start w).alloc2 (.int .i64 ver) (.slice ao n cap) 32 _ rfl).alloc7 (.int .i64 1) (.int .i64 b) (.int .i64 i) (.int .i64 g) (.int .i64 y) (.int .i64 x) (.bool nl) 38 (w.heap.size + 1) (by simp)).alloc2 (.int .i64 0) (.slice none 0 0) 32 (w.heap.size + 1 + 1) (by simp)
  go_wp2_with fail
  refine (BR.out _ (HV.out.below K0.1)).mono ?_
  rintro e w1 ⟨⟨vb, hvb, rfl⟩, hb⟩
  have K1 := K0.step hb
  have EB := Lib.hid (firstAns_idx (p := fun b : Blk => HasRow b.rows i) (l := l) (by rw [HN.out]; exact hvb))
  have hv1 : -1 ≤ vb ∧ vb < 6 := by rcases hvb with ⟨k, hk, _, _, rfl⟩ | ⟨_, rfl⟩ <;> omega
  obtain ⟨hv1, hv2⟩ := hv1
  clear hb hvb K0
  have hd := not_row EB.out HA.out
  have t0 := K1.get 9 rfl
  have t1 := K1.get 10 rfl
  have r1 := K1.get 3 rfl
  go_wp2_with fail
  refine (FB.out _ (HV.out.below K1.1)).mono ?_
  rintro e w2 ⟨⟨vf, hvf, rfl⟩, hb⟩
  have K2 := K1.step hb
  have EF := firstAns_idx (p := fun c : Blk => c.id = b) (l := l) (by rw [HN.out]; exact hvf)
  have hf1 : -1 ≤ vf ∧ vf < 6 := by rcases hvf with ⟨k, hk, _, _, rfl⟩ | ⟨_, rfl⟩ <;> omega
  obtain ⟨hf1, hf2⟩ := hf1
  have hdf := not_blk EF HK.out
  clear hb hvf K1 t0 t1 r1 EF hd
  have t1 := K2.get 10 rfl
  have r2 := K2.get 3 rfl
  go_wp2_with fail
  refine wp_region_held_drew (S := fun w' => w'.cell? ⟨w.heap.size, 1, none⟩ = some (.slice ao n cap)) (by kernel_rfl) (t1) (fun hHeld => ?_)
  refine wpAnyH_take (i := 0) (oi := { dst := some 42, op := Go.Op.fieldAddr 32 (Go.Operand.tmp 2) 1, type := 0, pos := "l07_change.go:38", after := #[], guard := none }) (v := .pointer (some ⟨w.heap.size, 1, none⟩)) rfl (by kernel_rfl) (by kernel_rfl) (by kernel_rfl) (fun _ _ _ h => h) (Or.inl ⟨by rfl, ?_⟩) (by assumption) ?_
  · intro w8 hS8
    (try dsimp only at hS8)
    go_simp
  try simp only [Act.put, List.setIfInBounds_toArray, List.set_cons_zero, List.set_cons_succ]
  refine wpAnyH_take (i := 1) (oi := { dst := some 43, op := Go.Op.load 30 (Go.Operand.tmp 42), type := 30, pos := "l07_change.go:38", after := #[{ on := 0, ground := Go.Ground.data }], guard := none }) (v := .slice ao n cap) rfl (by kernel_rfl) (by kernel_rfl) (by kernel_rfl) (fun _ _ _ h => h) (Or.inl ⟨by rfl, ?_⟩) (by assumption) ?_
  · intro w8 hS8
    (try dsimp only at hS8)
    go_simp
  try simp only [Act.put, List.setIfInBounds_toArray, List.set_cons_zero, List.set_cons_succ]
  refine wpAnyH_take (i := 2) (oi := { dst := some 44, op := Go.Op.call { callee := Go.Callee.builtin Go.Builtin.len, args := #[Go.Operand.tmp 43], argTypes := #[30] }, type := 3, pos := "l07_change.go:38", after := #[{ on := 1, ground := Go.Ground.data }], guard := none }) (v := .int .i64 (n : Int)) rfl (by kernel_rfl) (by kernel_rfl) (by kernel_rfl) (fun _ _ _ h => h) (Or.inl ⟨by rfl, ?_⟩) (by assumption) ?_
  · intro w8 hS8
    (try dsimp only at hS8)
    go_simp
  try simp only [Act.put, List.setIfInBounds_toArray, List.set_cons_zero, List.set_cons_succ]
  refine wpAnyH_take (i := 3) (oi := { dst := some 45, op := Go.Op.binOp BinOp.gtr 3 (Go.Operand.tmp 44) (Go.Operand.const (Go.Value.int Go.IntKind.i64 0)) 3, type := 4, pos := "l07_change.go:38", after := #[{ on := 2, ground := Go.Ground.data }], guard := none }) (v := .bool false) rfl (by kernel_rfl) (by kernel_rfl) (by kernel_rfl) (fun _ _ _ h => h) (Or.inl ⟨by rfl, ?_⟩) (by assumption) ?_
  · intro w8 hS8
    (try dsimp only at hS8)
    go_simp
  try simp only [Act.put, List.setIfInBounds_toArray, List.set_cons_zero, List.set_cons_succ]
  refine wpAnyH_take (i := 4) (oi := { dst := some 46, op := Go.Op.move (Go.Operand.tmp 45), type := 4, pos := "l07_change.go:38", after := #[{ on := 3, ground := Go.Ground.data }], guard := none }) (v := .bool false) rfl (by kernel_rfl) (by kernel_rfl) (by kernel_rfl) (fun _ _ _ h => h) (Or.inl ⟨by rfl, ?_⟩) (by assumption) ?_
  · intro w8 hS8
    (try dsimp only at hS8)
    go_simp
  try simp only [Act.put, List.setIfInBounds_toArray, List.set_cons_zero, List.set_cons_succ]
  refine held_skip (i := 5) (oi := { dst := some 47, op := Go.Op.fieldAddr 32 (Go.Operand.tmp 2) 1, type := 0, pos := "l07_change.go:38", after := #[{ on := 4, ground := Go.Ground.guard }], guard := some (4, true) }) rfl (by kernel_rfl) (by kernel_rfl) (by kernel_rfl) (fun _ _ _ h => h) (by rfl) (by assumption) ?_
  try simp only [Act.put, List.setIfInBounds_toArray, List.set_cons_zero, List.set_cons_succ]
  refine held_skip (i := 6) (oi := { dst := some 48, op := Go.Op.load 30 (Go.Operand.tmp 47), type := 30, pos := "l07_change.go:38", after := #[{ on := 5, ground := Go.Ground.data }, { on := 4, ground := Go.Ground.guard }], guard := some (4, true) }) rfl (by kernel_rfl) (by kernel_rfl) (by kernel_rfl) (fun _ _ _ h => h) (by rfl) (by assumption) ?_
  try simp only [Act.put, List.setIfInBounds_toArray, List.set_cons_zero, List.set_cons_succ]
  refine held_skip (i := 7) (oi := { dst := some 49, op := Go.Op.fieldAddr 32 (Go.Operand.tmp 2) 1, type := 0, pos := "l07_change.go:38", after := #[{ on := 4, ground := Go.Ground.guard }], guard := some (4, true) }) rfl (by kernel_rfl) (by kernel_rfl) (by kernel_rfl) (fun _ _ _ h => h) (by rfl) (by assumption) ?_
  try simp only [Act.put, List.setIfInBounds_toArray, List.set_cons_zero, List.set_cons_succ]
  refine held_skip (i := 8) (oi := { dst := some 50, op := Go.Op.load 30 (Go.Operand.tmp 49), type := 30, pos := "l07_change.go:38", after := #[{ on := 7, ground := Go.Ground.data }, { on := 4, ground := Go.Ground.guard }], guard := some (4, true) }) rfl (by kernel_rfl) (by kernel_rfl) (by kernel_rfl) (fun _ _ _ h => h) (by rfl) (by assumption) ?_
  try simp only [Act.put, List.setIfInBounds_toArray, List.set_cons_zero, List.set_cons_succ]
  refine held_skip (i := 9) (oi := { dst := some 51, op := Go.Op.call { callee := Go.Callee.builtin Go.Builtin.len, args := #[Go.Operand.tmp 50], argTypes := #[30] }, type := 3, pos := "l07_change.go:38", after := #[{ on := 8, ground := Go.Ground.data }, { on := 4, ground := Go.Ground.guard }], guard := some (4, true) }) rfl (by kernel_rfl) (by kernel_rfl) (by kernel_rfl) (fun _ _ _ h => h) (by rfl) (by assumption) ?_
  try simp only [Act.put, List.setIfInBounds_toArray, List.set_cons_zero, List.set_cons_succ]
  refine held_skip (i := 10) (oi := { dst := some 52, op := Go.Op.binOp BinOp.sub 3 (Go.Operand.tmp 51) (Go.Operand.const (Go.Value.int Go.IntKind.i64 1)) 3, type := 3, pos := "l07_change.go:38", after := #[{ on := 9, ground := Go.Ground.data }, { on := 4, ground := Go.Ground.guard }], guard := some (4, true) }) rfl (by kernel_rfl) (by kernel_rfl) (by kernel_rfl) (fun _ _ _ h => h) (by rfl) (by assumption) ?_
  try simp only [Act.put, List.setIfInBounds_toArray, List.set_cons_zero, List.set_cons_succ]
  refine held_skip (i := 11) (oi := { dst := some 53, op := Go.Op.indexAddr 30 (Go.Operand.tmp 48) (Go.Operand.tmp 52), type := 0, pos := "l07_change.go:38", after := #[{ on := 6, ground := Go.Ground.data }, { on := 10, ground := Go.Ground.data }, { on := 4, ground := Go.Ground.guard }], guard := some (4, true) }) rfl (by kernel_rfl) (by kernel_rfl) (by kernel_rfl) (fun _ _ _ h => h) (by rfl) (by assumption) ?_
  try simp only [Act.put, List.setIfInBounds_toArray, List.set_cons_zero, List.set_cons_succ]
  refine held_skip (i := 12) (oi := { dst := some 54, op := Go.Op.fieldAddr 80 (Go.Operand.tmp 53) 0, type := 0, pos := "l07_change.go:38", after := #[{ on := 11, ground := Go.Ground.data }, { on := 4, ground := Go.Ground.guard }], guard := some (4, true) }) rfl (by kernel_rfl) (by kernel_rfl) (by kernel_rfl) (fun _ _ _ h => h) (by rfl) (by assumption) ?_
  try simp only [Act.put, List.setIfInBounds_toArray, List.set_cons_zero, List.set_cons_succ]
  refine held_skip (i := 13) (oi := { dst := some 55, op := Go.Op.load 3 (Go.Operand.tmp 54), type := 3, pos := "l07_change.go:38", after := #[{ on := 12, ground := Go.Ground.data }, { on := 4, ground := Go.Ground.guard }], guard := some (4, true) }) rfl (by kernel_rfl) (by kernel_rfl) (by kernel_rfl) (fun _ _ _ h => h) (by rfl) (by assumption) ?_
  try simp only [Act.put, List.setIfInBounds_toArray, List.set_cons_zero, List.set_cons_succ]
  refine held_skip (i := 14) (oi := { dst := some 56, op := Go.Op.fieldAddr 38 (Go.Operand.tmp 3) 1, type := 0, pos := "l07_change.go:38", after := #[{ on := 4, ground := Go.Ground.guard }], guard := some (4, true) }) rfl (by kernel_rfl) (by kernel_rfl) (by kernel_rfl) (fun _ _ _ h => h) (by rfl) (by assumption) ?_
  try simp only [Act.put, List.setIfInBounds_toArray, List.set_cons_zero, List.set_cons_succ]
  refine held_skip (i := 15) (oi := { dst := some 57, op := Go.Op.load 3 (Go.Operand.tmp 56), type := 3, pos := "l07_change.go:38", after := #[{ on := 14, ground := Go.Ground.data }, { on := 4, ground := Go.Ground.guard }], guard := some (4, true) }) rfl (by kernel_rfl) (by kernel_rfl) (by kernel_rfl) (fun _ _ _ h => h) (by rfl) (by assumption) ?_
  try simp only [Act.put, List.setIfInBounds_toArray, List.set_cons_zero, List.set_cons_succ]
  refine held_skip (i := 16) (oi := { dst := some 58, op := Go.Op.binOp BinOp.gtr 3 (Go.Operand.tmp 55) (Go.Operand.tmp 57) 3, type := 4, pos := "l07_change.go:38", after := #[{ on := 13, ground := Go.Ground.data }, { on := 15, ground := Go.Ground.data }, { on := 4, ground := Go.Ground.guard }], guard := some (4, true) }) rfl (by kernel_rfl) (by kernel_rfl) (by kernel_rfl) (fun _ _ _ h => h) (by rfl) (by assumption) ?_
  try simp only [Act.put, List.setIfInBounds_toArray, List.set_cons_zero, List.set_cons_succ]
  refine wpAnyH_take (i := 17) (oi := { dst := some 59, op := Go.Op.pick (Go.Operand.tmp 46) (Go.Operand.tmp 58) (Go.Operand.const (Go.Value.bool false)), type := 4, pos := "l07_change.go:38", after := #[{ on := 4, ground := Go.Ground.data }, { on := 16, ground := Go.Ground.data }], guard := none }) (v := .bool false) rfl (by kernel_rfl) (by kernel_rfl) (by kernel_rfl) (fun _ _ _ h => h) (Or.inl ⟨by rfl, ?_⟩) (by assumption) ?_
  · intro w8 hS8
    (try dsimp only at hS8)
    go_simp
  try simp only [Act.put, List.setIfInBounds_toArray, List.set_cons_zero, List.set_cons_succ]
  refine wpAnyH_done (by kernel_rfl) ?_ _
  clear t1 r2
  have KD := K2.drew
  obtain ⟨w3, hw3⟩ : ∃ w3, w3 = w2.drew := ⟨_, rfl⟩
  rw [← hw3] at KD ⊢
  have HK3 := Lib.hid KD
  have KBD := Lib.hid (KB.fresh (W := W) (L := [(⟨w.heap.size + 1 + 1, 0, none⟩, .int .i64 0), (⟨w.heap.size + 1 + 1, 1, none⟩, .slice none 0 0), (⟨w.heap.size + 1, 0, none⟩, .int .i64 1), (⟨w.heap.size + 1, 1, none⟩, .int .i64 b), (⟨w.heap.size + 1, 2, none⟩, .int .i64 i), (⟨w.heap.size + 1, 3, none⟩, .int .i64 g), (⟨w.heap.size + 1, 4, none⟩, .int .i64 y), (⟨w.heap.size + 1, 5, none⟩, .int .i64 x), (⟨w.heap.size + 1, 6, none⟩, .bool nl), (⟨w.heap.size, 0, none⟩, .int .i64 ver), (⟨w.heap.size, 1, none⟩, .slice ao n cap)]) HO.out KD.1 ⟨HW.out.trans (KD.1.mono HW.out.size), KD.2⟩ (by
    intro p9 hp9
    simp only [List.mem_cons, List.not_mem_nil, or_false] at hp9
    rcases hp9 with rfl | rfl | rfl | rfl | rfl | rfl | rfl | rfl | rfl | rfl | rfl <;> (simp only; omega)))
  have t0 := KD.get 9 rfl
  have t3 := KD.get 10 rfl
  have f3 := KD.fz 10 rfl
  have c2 := KD.get 2 rfl
  have c3 := KD.get 3 rfl
  have c4 := KD.get 4 rfl
  have c5 := KD.get 5 rfl
  have c6 := KD.get 6 rfl
  have c7 := KD.get 7 rfl
  have c8 := KD.get 8 rfl
  have HWS := Lib.hid (show W.heap.size ≤ w3.heap.size from KBD.out.1.1.size)
  have b1 : Below w3.heap.size w3 (w3.alloc (.cells #[.int .i64 i, .int .i64 g, .int .i64 y, .int .i64 x, .bool nl] 36)) := (Below.refl _ _).alloc (Nat.le_refl _) _
  have b2 : Below w3.heap.size w3 ((w3.alloc (.cells #[.int .i64 i, .int .i64 g, .int .i64 y, .int .i64 x, .bool nl] 36)).alloc (.cells #[.int .i64 b, .slice (some ⟨w3.heap.size, 0, none⟩) 1 1] 80)) := b1.alloc b1.size _
  obtain ⟨w4, hw4⟩ : ∃ w4, w4 = (w3.alloc (.cells #[.int .i64 i, .int .i64 g, .int .i64 y, .int .i64 x, .bool nl] 36)).alloc (.cells #[.int .i64 b, .slice (some ⟨w3.heap.size, 0, none⟩) 1 1] 80) := ⟨_, rfl⟩
  have HB4 := Lib.hid (show Below w.heap.size w w4 by rw [hw4]; exact KD.1.trans (b2.mono KD.1.size))
  have KBB := Lib.hid (show KB W w4 W.heap.size [(⟨w.heap.size + 1 + 1, 0, none⟩, .int .i64 0), (⟨w.heap.size + 1 + 1, 1, none⟩, .slice none 0 0), (⟨w.heap.size + 1, 0, none⟩, .int .i64 1), (⟨w.heap.size + 1, 1, none⟩, .int .i64 b), (⟨w.heap.size + 1, 2, none⟩, .int .i64 i), (⟨w.heap.size + 1, 3, none⟩, .int .i64 g), (⟨w.heap.size + 1, 4, none⟩, .int .i64 y), (⟨w.heap.size + 1, 5, none⟩, .int .i64 x), (⟨w.heap.size + 1, 6, none⟩, .bool nl), (⟨w.heap.size, 0, none⟩, .int .i64 ver), (⟨w.heap.size, 1, none⟩, .slice ao n cap)] (.slice ao n cap) l f by rw [hw4]; exact KBD.out.step b2)
  have N0 := Lib.hid (show w4.cell? ⟨w3.heap.size + 1, 0, none⟩ = some (.int .i64 b) by rw [hw4, World.cell?_alloc_at _ _ _ _ (by simp)]; rfl)
  have N1 := Lib.hid (show w4.cell? ⟨w3.heap.size + 1, 1, none⟩ = some (.slice (some ⟨w3.heap.size, 0, none⟩) 1 1) by rw [hw4, World.cell?_alloc_at _ _ _ _ (by simp)]; rfl)
  have HR := Lib.hid (show SliceRep rowTy w4 (.slice (some ⟨w3.heap.size, 0, none⟩) 1 1) [⟨i, g, y, x, nl⟩] [w3.heap.size] by
    rw [hw4]
    refine (row_one (w := w3.alloc (.cells #[.int .i64 i, .int .i64 g, .int .i64 y, .int .i64 x, .bool nl] 36)) (by simp) ⟨?_, ?_, ?_, ?_, ?_⟩ (fun j _ => by simp)).step ((Below.refl _ _).alloc (Nat.le_refl _) _)
    all_goals (rw [World.cell?_alloc_at _ _ _ _ rfl]; rfl))
  have HOL := Lib.hid HO.out.lt
  have HSZ := Lib.hid (show w.heap.size ≤ w3.heap.size from KD.1.size)
  have HD1 := Lib.hid (show ∀ j ∈ [w3.heap.size], j ∉ f from fun j hj e => by rw [List.mem_singleton.1 hj] at e; have h1 := HOL.out.2 _ e; have := HSZ.out; omega)
  have HD2 := Lib.hid (show ∀ j ∈ [w3.heap.size], (Value.slice ao n cap).ownBlock ≠ some j from fun j hj e => by rw [List.mem_singleton.1 hj] at e; have h1 := (HOL.out.1 _ e).2; have := HSZ.out; omega)
  have HD3 := Lib.hid (show ∀ j ∈ [w3.heap.size], W.heap.size ≤ j from fun j hj => by rw [List.mem_singleton.1 hj]; exact HWS.out)
  have HD4 := Lib.hid (show ∀ p ∈ ([(⟨w.heap.size + 1 + 1, 0, none⟩, .int .i64 0), (⟨w.heap.size + 1 + 1, 1, none⟩, .slice none 0 0), (⟨w.heap.size + 1, 0, none⟩, .int .i64 1), (⟨w.heap.size + 1, 1, none⟩, .int .i64 b), (⟨w.heap.size + 1, 2, none⟩, .int .i64 i), (⟨w.heap.size + 1, 3, none⟩, .int .i64 g), (⟨w.heap.size + 1, 4, none⟩, .int .i64 y), (⟨w.heap.size + 1, 5, none⟩, .int .i64 x), (⟨w.heap.size + 1, 6, none⟩, .bool nl), (⟨w.heap.size, 0, none⟩, .int .i64 ver), (⟨w.heap.size, 1, none⟩, .slice ao n cap)] : List (Addr × Value)), p.1.block ∉ [w3.heap.size] from fun p hp e => by
    have h1 := (KBD.out.1.2 p hp).1
    rw [List.mem_singleton] at e; omega)
  have HW4 := Lib.hid (show W.heap.size ≤ w4.heap.size from KBB.out.1.1.size)
  have HLN := Lib.hid (show (l.length + 1) * 32 ≤ 140737488355328 by have := HN.out; omega)
  have HLL := Lib.hid (show (l ++ [(⟨b, [⟨i, g, y, x, nl⟩]⟩ : Blk)]).length = n + 1 by rw [List.length_append, HN.out]; rfl)
  clear KD b1 b2 K2 hw3
  go_wp2_with (first | (at_builtin; rw [← hw4]; refine wpList_append_kbG (W := W) rfl _ _ rfl W.heap.size (.slice ao n cap) _ l f ⟨b, [⟨i, g, y, x, nl⟩]⟩ (some ⟨w3.heap.size, 0, none⟩) 1 1 [w3.heap.size] (w3.heap.size + 1) 1 rfl rfl KBB.out N0.out N1.out HR.out HD3.out (by simp) HD1.out HD2.out HD4.out HLN.out (Nat.le_refl _) HW4.out ?_; intro v' w6 KB6 hob hgr; obtain ⟨ao', c', hv'⟩ := KB6.2.1.shape; rw [HLL.out] at hv'; subst hv'; have y1 := KB6.1.get 10 rfl; have f1 := KB6.1.fz 10 rfl; have x9 := KB6.1.get 9 rfl; have z0 := KB6.1.get 0 rfl; have z1 := KB6.1.get 1 rfl; have g0 := KB6.1.fz 0 rfl; have g1 := KB6.1.fz 1 rfl))
  obtain ⟨fp5, HB5, hf5, hL5, hM5⟩ := KB6.boxSetL (bp := w.heap.size) (ver := ver) (u := .slice ao n cap) (by simp) (by simp)
  have K5 := KB6.1.set (p := [(⟨w.heap.size + 1 + 1, 0, none⟩, .int .i64 0), (⟨w.heap.size + 1 + 1, 1, none⟩, .slice none 0 0), (⟨w.heap.size + 1, 0, none⟩, .int .i64 1), (⟨w.heap.size + 1, 1, none⟩, .int .i64 b), (⟨w.heap.size + 1, 2, none⟩, .int .i64 i), (⟨w.heap.size + 1, 3, none⟩, .int .i64 g), (⟨w.heap.size + 1, 4, none⟩, .int .i64 y), (⟨w.heap.size + 1, 5, none⟩, .int .i64 x), (⟨w.heap.size + 1, 6, none⟩, .bool nl), (⟨w.heap.size, 0, none⟩, .int .i64 ver)]) (q := []) (.slice ao' (n + 1) c') (by have := HW.out.size; simp only; omega) (by
    intro c9 hc9
    simp only [List.append_nil, List.mem_cons, List.not_mem_nil, or_false] at hc9
    rcases hc9 with rfl | rfl | rfl | rfl | rfl | rfl | rfl | rfl | rfl | rfl <;> simp)
  obtain ⟨w7, hw7⟩ : ∃ w7, w7 = w6.setCell ⟨w.heap.size, 1, none⟩ (.slice ao' (n + 1) c') := ⟨_, rfl⟩
  rw [← hw7] at HB5 K5
  have yy := K5.lt 0 rfl
  have HB5 := Lib.hid HB5
  have HR5 := Lib.hid (show w.heap.size + 1 + 1 ∉ fp5 from hL5 (⟨w.heap.size + 1 + 1, 0, none⟩, .int .i64 0) (by simp))
  have HF5 := Lib.hid hf5
  have K6 := (K5.sub (l' := [(⟨w.heap.size + 1 + 1, 0, none⟩, .int .i64 0), (⟨w.heap.size + 1 + 1, 1, none⟩, .slice none 0 0)]) (by intro p9 hp9; simp only [List.mem_cons, List.not_mem_nil, or_false] at hp9; rcases hp9 with rfl | rfl <;> simp)).set2 (.int .i64 ver) (.slice ao' (n + 1) c') (by have := HW.out.size; omega) (by simp)
  have m0 := K6.get 0 rfl
  have m1 := K6.get 1 rfl
  have HB := Lib.hid K6.1
  have HFN := Lib.hid (show ∀ k ∈ fp5, k ∈ ownF (.slice ao n cap) f ∨ w.heap.size ≤ k from fun k hk => by
    rcases ownF_mem (hM5 k hk) with h | h
    · rcases List.mem_append.1 h with h | h
      · exact .inl (ownF_of (.inl h))
      · rw [List.mem_singleton] at h
        exact .inr (by have := HSZ.out; omega)
    · rcases hob with h9 | h9
      · exact .inl (ownF_of (.inr (h9.symm.trans h)))
      · have e : w4.heap.size = k := by rw [h9] at h; exact Option.some.inj h
        exact .inr (by have := HB4.out.size; omega))
  have HCH := Lib.hid (Chg.new (F := ownF (.slice ao n cap) f) (F' := w.heap.size :: (w.heap.size + 1 + 1) :: ownF (.slice ao n cap) f) ((((((Chg.of HB4.out).trans (chg_grown hgr)).set (a := ⟨w.heap.size, 1, none⟩) (by simp) (.slice ao' (n + 1) c')).set (a := ⟨w.heap.size + 1 + 1, 0, none⟩) (by simp) (.int .i64 ver)).set (a := ⟨w.heap.size + 1 + 1, 1, none⟩) (by simp) (.slice ao' (n + 1) c'))) (fun k hk => by
    simp only [List.mem_cons] at hk
    rcases hk with rfl | rfl | hk
    · exact .inr (Nat.le_refl _)
    · exact .inr (by omega)
    · exact .inl hk))
  rw [← hw7] at HCH ⊢
  clear hf5 hL5 hM5 KB6 K5 K6 hw7
  exact bodyPost_ret (v := .tuple #[.agg #[.int .i64 ver, .slice ao' (n + 1) c'], .int .i64 0]) (by simp [results, Try.results79, go_sem, m0, m1, yy]) rfl ⟨.slice ao' (n + 1) c', fp5, by rw [AN.out], by rw [AN.out]; exact (HB5.out.2.2.2.2.2.1.set ⟨w.heap.size + 1 + 1, 0, none⟩ _ (fun j hj e => HR5.out (by have e' : j = w.heap.size + 1 + 1 := e; rw [← e']; exact hj))).set ⟨w.heap.size + 1 + 1, 1, none⟩ _ (fun j hj e => HR5.out (by have e' : j = w.heap.size + 1 + 1 := e; rw [← e']; exact hj)), HB5.out.2.2.2.2.2.2.1, HFN.out, HCH.out⟩

set_option maxRecDepth 8000 in
set_option maxHeartbeats 6400000 in
theorem spec_app_ns (ver : Int) (ao : Option Addr) (n cap : Nat) (l : List Blk) (b i g y x : Int) (nl : Bool) (f : List Nat) (W w : World) (hn : l.length = n) (hT : TblOk ver l l.length) (hC : ChOk ⟨1, b, ⟨i, g, y, x, nl⟩⟩) (hW : Below W.heap.size W w) (hO : OwnB w W.heap.size (.slice ao n cap) l f) (hA : ¬ iRow l i < l.length) (hk : ¬ iBlk l b < l.length) (hm3 : ¬ (0 < l.length ∧ b < (Bn l (l.length - 1)).id)) (h6 : ¬ l.length = 6) (h0 : 0 < n) :
    Calls Try.prog 79 #[.agg #[.int .i64 ver, .slice ao n cap], .agg #[.int .i64 1, .int .i64 b, .int .i64 i, .int .i64 g, .int .i64 y, .int .i64 x, .bool nl]] w (AppPost ver l b ⟨i, g, y, x, nl⟩ (ownF (.slice ao n cap) f) w) := by
  have hn6 : l.length ≤ 6 := hT.2.1
  have AN := Lib.hid (show appC l b ⟨i, g, y, x, nl⟩ = (l ++ [⟨b, [⟨i, g, y, x, nl⟩]⟩], 0) by unfold appC; rw [if_neg hA, if_neg hk, if_neg hm3, if_neg h6])
  obtain ⟨fp, hS, hnd, hF⟩ := ownB_F hO
  have HFW := Lib.hid (show ∀ j ∈ fp, W.heap.size ≤ j from fun j hj => (ownF_lt hO j (hF j hj)).1)
  have HF := Lib.hid hF
  obtain ⟨ao', cap', e9, hcap, hV⟩ := blks_open hS
  simp only [Value.slice.injEq] at e9
  obtain ⟨rfl, h9, rfl⟩ := e9
  clear h9
  have hr := bn_rows hT
  have HV := Lib.hid hV
  have HW := Lib.hid hW
  have HC := Lib.hid (hC.one rfl)
  have HS := Lib.hid hS
  have HO := Lib.hid hO
  have HND := Lib.hid hnd
  have HA := Lib.hid hA
  have HK := Lib.hid hk
  have BR := Lib.hid (fun w hV => spec_bor ver i ao n cap l w hn (by omega) (fun k hk => by have := hr k (by omega); omega) hV)
  have FB := Lib.hid (fun w hV => spec_findB ver b ao n cap l w hn (by omega) hV)
  have hnI : (n : Int) ≤ 6 := by omega
  have HN := Lib.hid hn
  obtain ⟨m, hm⟩ : ∃ m, n = m + 1 := ⟨n - 1, by omega⟩
  have hml : m < l.length := by omega
  obtain ⟨gt, ro, rcap, fk, rfl, hgt, dd0, dd1, hs9⟩ := slice_blkAt hS hnd hml
  have D0 := Lib.hid dd0
  obtain ⟨id, hid⟩ : ∃ id, id = (Bn l m).id := ⟨_, rfl⟩
  rw [← hid] at D0
  have hwm : IntKind.i64.wrap ((n : Int) - 1) = (m : Int) := by rw [IntKind.wrap_i64]; omega
  have hmI : (m : Int) < (n : Int) := by omega
  have hn0 : decide ((0 : Int) < (n : Int)) = true := decide_eq_true (by omega)
  have hbd : decide (b < id) = false := decide_eq_false (by rw [hid]; have e : l.length - 1 = m := by omega
                                                            rw [e] at hm3; exact fun h => hm3 ⟨by omega, h⟩)
  have hn66 : ((n : Int) == 6) = false := beq_eq_false_iff_ne.2 (by omega)
  clear hV hO hT hC hS hF hr hn hA hW hnd hk hm3 hm hml dd0 dd1 hs9 hid h6
  go_enter Try.func79, Try.ntmps79
  have K0 := (((Kept.start w).alloc2 (.int .i64 ver) (.slice (some ⟨gt, 0, none⟩) n cap) 32 _ rfl).alloc7 (.int .i64 1) (.int .i64 b) (.int .i64 i) (.int .i64 g) (.int .i64 y) (.int .i64 x) (.bool nl) 38 (w.heap.size + 1) (by simp)).alloc2 (.int .i64 0) (.slice none 0 0) 32 (w.heap.size + 1 + 1) (by simp)
  go_wp2_with fail
  refine (BR.out _ (HV.out.below K0.1)).mono ?_
  rintro e w1 ⟨⟨vb, hvb, rfl⟩, hb⟩
  have K1 := K0.step hb
  have EB := Lib.hid (firstAns_idx (p := fun b : Blk => HasRow b.rows i) (l := l) (by rw [HN.out]; exact hvb))
  have hv1 : -1 ≤ vb ∧ vb < 6 := by rcases hvb with ⟨k, hk, _, _, rfl⟩ | ⟨_, rfl⟩ <;> omega
  obtain ⟨hv1, hv2⟩ := hv1
  clear hb hvb K0
  have hd := not_row EB.out HA.out
  have t0 := K1.get 9 rfl
  have t1 := K1.get 10 rfl
  have r1 := K1.get 3 rfl
  go_wp2_with fail
  refine (FB.out _ (HV.out.below K1.1)).mono ?_
  rintro e w2 ⟨⟨vf, hvf, rfl⟩, hb⟩
  have K2 := K1.step hb
  have EF := firstAns_idx (p := fun c : Blk => c.id = b) (l := l) (by rw [HN.out]; exact hvf)
  have hf1 : -1 ≤ vf ∧ vf < 6 := by rcases hvf with ⟨k, hk, _, _, rfl⟩ | ⟨_, rfl⟩ <;> omega
  obtain ⟨hf1, hf2⟩ := hf1
  have hdf := not_blk EF HK.out
  clear hb hvf K1 t0 t1 r1 EF hd
  have t1 := K2.get 10 rfl
  have r2 := K2.get 3 rfl
  go_wp2_with fail
  have d0 := (K2.1.cell (p := ⟨gt, m * 2, none⟩) hgt).trans D0.out
  refine wp_region_held_drew (S := fun w' => w'.cell? ⟨w.heap.size, 1, none⟩ = some (.slice (some ⟨gt, 0, none⟩) n cap) ∧ w'.cell? ⟨gt, m * 2, none⟩ = some (.int .i64 id) ∧ w'.cell? ⟨w.heap.size + 1, 1, none⟩ = some (.int .i64 b)) (by kernel_rfl) (⟨t1, d0, r2⟩) (fun hHeld => ?_)
  refine wpAnyH_take (i := 0) (oi := { dst := some 42, op := Go.Op.fieldAddr 32 (Go.Operand.tmp 2) 1, type := 0, pos := "l07_change.go:38", after := #[], guard := none }) (v := .pointer (some ⟨w.heap.size, 1, none⟩)) rfl (by kernel_rfl) (by kernel_rfl) (by kernel_rfl) (fun _ _ _ h => h) (Or.inl ⟨by rfl, ?_⟩) (by assumption) ?_
  · intro w8 hS8
    (try dsimp only at hS8)
    go_simp
  try simp only [Act.put, List.setIfInBounds_toArray, List.set_cons_zero, List.set_cons_succ]
  refine wpAnyH_take (i := 1) (oi := { dst := some 43, op := Go.Op.load 30 (Go.Operand.tmp 42), type := 30, pos := "l07_change.go:38", after := #[{ on := 0, ground := Go.Ground.data }], guard := none }) (v := .slice (some ⟨gt, 0, none⟩) n cap) rfl (by kernel_rfl) (by kernel_rfl) (by kernel_rfl) (fun _ _ _ h => h) (Or.inl ⟨by rfl, ?_⟩) (by assumption) ?_
  · intro w8 hS8
    (try dsimp only at hS8)
    go_simp
  try simp only [Act.put, List.setIfInBounds_toArray, List.set_cons_zero, List.set_cons_succ]
  refine wpAnyH_take (i := 2) (oi := { dst := some 44, op := Go.Op.call { callee := Go.Callee.builtin Go.Builtin.len, args := #[Go.Operand.tmp 43], argTypes := #[30] }, type := 3, pos := "l07_change.go:38", after := #[{ on := 1, ground := Go.Ground.data }], guard := none }) (v := .int .i64 (n : Int)) rfl (by kernel_rfl) (by kernel_rfl) (by kernel_rfl) (fun _ _ _ h => h) (Or.inl ⟨by rfl, ?_⟩) (by assumption) ?_
  · intro w8 hS8
    (try dsimp only at hS8)
    go_simp
  try simp only [Act.put, List.setIfInBounds_toArray, List.set_cons_zero, List.set_cons_succ]
  refine wpAnyH_take (i := 3) (oi := { dst := some 45, op := Go.Op.binOp BinOp.gtr 3 (Go.Operand.tmp 44) (Go.Operand.const (Go.Value.int Go.IntKind.i64 0)) 3, type := 4, pos := "l07_change.go:38", after := #[{ on := 2, ground := Go.Ground.data }], guard := none }) (v := .bool true) rfl (by kernel_rfl) (by kernel_rfl) (by kernel_rfl) (fun _ _ _ h => h) (Or.inl ⟨by rfl, ?_⟩) (by assumption) ?_
  · intro w8 hS8
    (try dsimp only at hS8)
    go_simp
  try simp only [Act.put, List.setIfInBounds_toArray, List.set_cons_zero, List.set_cons_succ]
  refine wpAnyH_take (i := 4) (oi := { dst := some 46, op := Go.Op.move (Go.Operand.tmp 45), type := 4, pos := "l07_change.go:38", after := #[{ on := 3, ground := Go.Ground.data }], guard := none }) (v := .bool true) rfl (by kernel_rfl) (by kernel_rfl) (by kernel_rfl) (fun _ _ _ h => h) (Or.inl ⟨by rfl, ?_⟩) (by assumption) ?_
  · intro w8 hS8
    (try dsimp only at hS8)
    go_simp
  try simp only [Act.put, List.setIfInBounds_toArray, List.set_cons_zero, List.set_cons_succ]
  refine wpAnyH_take (i := 5) (oi := { dst := some 47, op := Go.Op.fieldAddr 32 (Go.Operand.tmp 2) 1, type := 0, pos := "l07_change.go:38", after := #[{ on := 4, ground := Go.Ground.guard }], guard := some (4, true) }) (v := .pointer (some ⟨w.heap.size, 1, none⟩)) rfl (by kernel_rfl) (by kernel_rfl) (by kernel_rfl) (fun _ _ _ h => h) (Or.inl ⟨by rfl, ?_⟩) (by assumption) ?_
  · intro w8 hS8
    (try dsimp only at hS8)
    go_simp
  try simp only [Act.put, List.setIfInBounds_toArray, List.set_cons_zero, List.set_cons_succ]
  refine wpAnyH_take (i := 6) (oi := { dst := some 48, op := Go.Op.load 30 (Go.Operand.tmp 47), type := 30, pos := "l07_change.go:38", after := #[{ on := 5, ground := Go.Ground.data }, { on := 4, ground := Go.Ground.guard }], guard := some (4, true) }) (v := .slice (some ⟨gt, 0, none⟩) n cap) rfl (by kernel_rfl) (by kernel_rfl) (by kernel_rfl) (fun _ _ _ h => h) (Or.inl ⟨by rfl, ?_⟩) (by assumption) ?_
  · intro w8 hS8
    (try dsimp only at hS8)
    go_simp
  try simp only [Act.put, List.setIfInBounds_toArray, List.set_cons_zero, List.set_cons_succ]
  refine wpAnyH_take (i := 7) (oi := { dst := some 49, op := Go.Op.fieldAddr 32 (Go.Operand.tmp 2) 1, type := 0, pos := "l07_change.go:38", after := #[{ on := 4, ground := Go.Ground.guard }], guard := some (4, true) }) (v := .pointer (some ⟨w.heap.size, 1, none⟩)) rfl (by kernel_rfl) (by kernel_rfl) (by kernel_rfl) (fun _ _ _ h => h) (Or.inl ⟨by rfl, ?_⟩) (by assumption) ?_
  · intro w8 hS8
    (try dsimp only at hS8)
    go_simp
  try simp only [Act.put, List.setIfInBounds_toArray, List.set_cons_zero, List.set_cons_succ]
  refine wpAnyH_take (i := 8) (oi := { dst := some 50, op := Go.Op.load 30 (Go.Operand.tmp 49), type := 30, pos := "l07_change.go:38", after := #[{ on := 7, ground := Go.Ground.data }, { on := 4, ground := Go.Ground.guard }], guard := some (4, true) }) (v := .slice (some ⟨gt, 0, none⟩) n cap) rfl (by kernel_rfl) (by kernel_rfl) (by kernel_rfl) (fun _ _ _ h => h) (Or.inl ⟨by rfl, ?_⟩) (by assumption) ?_
  · intro w8 hS8
    (try dsimp only at hS8)
    go_simp
  try simp only [Act.put, List.setIfInBounds_toArray, List.set_cons_zero, List.set_cons_succ]
  refine wpAnyH_take (i := 9) (oi := { dst := some 51, op := Go.Op.call { callee := Go.Callee.builtin Go.Builtin.len, args := #[Go.Operand.tmp 50], argTypes := #[30] }, type := 3, pos := "l07_change.go:38", after := #[{ on := 8, ground := Go.Ground.data }, { on := 4, ground := Go.Ground.guard }], guard := some (4, true) }) (v := .int .i64 (n : Int)) rfl (by kernel_rfl) (by kernel_rfl) (by kernel_rfl) (fun _ _ _ h => h) (Or.inl ⟨by rfl, ?_⟩) (by assumption) ?_
  · intro w8 hS8
    (try dsimp only at hS8)
    go_simp
  try simp only [Act.put, List.setIfInBounds_toArray, List.set_cons_zero, List.set_cons_succ]
  refine wpAnyH_take (i := 10) (oi := { dst := some 52, op := Go.Op.binOp BinOp.sub 3 (Go.Operand.tmp 51) (Go.Operand.const (Go.Value.int Go.IntKind.i64 1)) 3, type := 3, pos := "l07_change.go:38", after := #[{ on := 9, ground := Go.Ground.data }, { on := 4, ground := Go.Ground.guard }], guard := some (4, true) }) (v := .int .i64 (m : Int)) rfl (by kernel_rfl) (by kernel_rfl) (by kernel_rfl) (fun _ _ _ h => h) (Or.inl ⟨by rfl, ?_⟩) (by assumption) ?_
  · intro w8 hS8
    (try dsimp only at hS8)
    go_simp
  try simp only [Act.put, List.setIfInBounds_toArray, List.set_cons_zero, List.set_cons_succ]
  refine wpAnyH_take (i := 11) (oi := { dst := some 53, op := Go.Op.indexAddr 30 (Go.Operand.tmp 48) (Go.Operand.tmp 52), type := 0, pos := "l07_change.go:38", after := #[{ on := 6, ground := Go.Ground.data }, { on := 10, ground := Go.Ground.data }, { on := 4, ground := Go.Ground.guard }], guard := some (4, true) }) (v := .pointer (some ⟨gt, m * 2, none⟩)) rfl (by kernel_rfl) (by kernel_rfl) (by kernel_rfl) (fun _ _ _ h => h) (Or.inl ⟨by rfl, ?_⟩) (by assumption) ?_
  · intro w8 hS8
    (try dsimp only at hS8)
    go_simp
  try simp only [Act.put, List.setIfInBounds_toArray, List.set_cons_zero, List.set_cons_succ]
  refine wpAnyH_take (i := 12) (oi := { dst := some 54, op := Go.Op.fieldAddr 80 (Go.Operand.tmp 53) 0, type := 0, pos := "l07_change.go:38", after := #[{ on := 11, ground := Go.Ground.data }, { on := 4, ground := Go.Ground.guard }], guard := some (4, true) }) (v := .pointer (some ⟨gt, m * 2, none⟩)) rfl (by kernel_rfl) (by kernel_rfl) (by kernel_rfl) (fun _ _ _ h => h) (Or.inl ⟨by rfl, ?_⟩) (by assumption) ?_
  · intro w8 hS8
    (try dsimp only at hS8)
    go_simp
  try simp only [Act.put, List.setIfInBounds_toArray, List.set_cons_zero, List.set_cons_succ]
  refine wpAnyH_take (i := 13) (oi := { dst := some 55, op := Go.Op.load 3 (Go.Operand.tmp 54), type := 3, pos := "l07_change.go:38", after := #[{ on := 12, ground := Go.Ground.data }, { on := 4, ground := Go.Ground.guard }], guard := some (4, true) }) (v := .int .i64 id) rfl (by kernel_rfl) (by kernel_rfl) (by kernel_rfl) (fun _ _ _ h => h) (Or.inl ⟨by rfl, ?_⟩) (by assumption) ?_
  · intro w8 hS8
    (try dsimp only at hS8)
    go_simp
  try simp only [Act.put, List.setIfInBounds_toArray, List.set_cons_zero, List.set_cons_succ]
  refine wpAnyH_take (i := 14) (oi := { dst := some 56, op := Go.Op.fieldAddr 38 (Go.Operand.tmp 3) 1, type := 0, pos := "l07_change.go:38", after := #[{ on := 4, ground := Go.Ground.guard }], guard := some (4, true) }) (v := .pointer (some ⟨w.heap.size + 1, 1, none⟩)) rfl (by kernel_rfl) (by kernel_rfl) (by kernel_rfl) (fun _ _ _ h => h) (Or.inl ⟨by rfl, ?_⟩) (by assumption) ?_
  · intro w8 hS8
    (try dsimp only at hS8)
    go_simp
  try simp only [Act.put, List.setIfInBounds_toArray, List.set_cons_zero, List.set_cons_succ]
  refine wpAnyH_take (i := 15) (oi := { dst := some 57, op := Go.Op.load 3 (Go.Operand.tmp 56), type := 3, pos := "l07_change.go:38", after := #[{ on := 14, ground := Go.Ground.data }, { on := 4, ground := Go.Ground.guard }], guard := some (4, true) }) (v := .int .i64 b) rfl (by kernel_rfl) (by kernel_rfl) (by kernel_rfl) (fun _ _ _ h => h) (Or.inl ⟨by rfl, ?_⟩) (by assumption) ?_
  · intro w8 hS8
    (try dsimp only at hS8)
    go_simp
  try simp only [Act.put, List.setIfInBounds_toArray, List.set_cons_zero, List.set_cons_succ]
  refine wpAnyH_take (i := 16) (oi := { dst := some 58, op := Go.Op.binOp BinOp.gtr 3 (Go.Operand.tmp 55) (Go.Operand.tmp 57) 3, type := 4, pos := "l07_change.go:38", after := #[{ on := 13, ground := Go.Ground.data }, { on := 15, ground := Go.Ground.data }, { on := 4, ground := Go.Ground.guard }], guard := some (4, true) }) (v := .bool false) rfl (by kernel_rfl) (by kernel_rfl) (by kernel_rfl) (fun _ _ _ h => h) (Or.inl ⟨by rfl, ?_⟩) (by assumption) ?_
  · intro w8 hS8
    (try dsimp only at hS8)
    go_simp
  try simp only [Act.put, List.setIfInBounds_toArray, List.set_cons_zero, List.set_cons_succ]
  refine wpAnyH_take (i := 17) (oi := { dst := some 59, op := Go.Op.pick (Go.Operand.tmp 46) (Go.Operand.tmp 58) (Go.Operand.const (Go.Value.bool false)), type := 4, pos := "l07_change.go:38", after := #[{ on := 4, ground := Go.Ground.data }, { on := 16, ground := Go.Ground.data }], guard := none }) (v := .bool false) rfl (by kernel_rfl) (by kernel_rfl) (by kernel_rfl) (fun _ _ _ h => h) (Or.inl ⟨by rfl, ?_⟩) (by assumption) ?_
  · intro w8 hS8
    (try dsimp only at hS8)
    go_simp
  try simp only [Act.put, List.setIfInBounds_toArray, List.set_cons_zero, List.set_cons_succ]
  refine wpAnyH_done (by kernel_rfl) ?_ _
  clear t1 r2 d0
  have KD := K2.drew
  obtain ⟨w3, hw3⟩ : ∃ w3, w3 = w2.drew := ⟨_, rfl⟩
  rw [← hw3] at KD ⊢
  have HK3 := Lib.hid KD
  have KBD := Lib.hid (KB.fresh (W := W) (L := [(⟨w.heap.size + 1 + 1, 0, none⟩, .int .i64 0), (⟨w.heap.size + 1 + 1, 1, none⟩, .slice none 0 0), (⟨w.heap.size + 1, 0, none⟩, .int .i64 1), (⟨w.heap.size + 1, 1, none⟩, .int .i64 b), (⟨w.heap.size + 1, 2, none⟩, .int .i64 i), (⟨w.heap.size + 1, 3, none⟩, .int .i64 g), (⟨w.heap.size + 1, 4, none⟩, .int .i64 y), (⟨w.heap.size + 1, 5, none⟩, .int .i64 x), (⟨w.heap.size + 1, 6, none⟩, .bool nl), (⟨w.heap.size, 0, none⟩, .int .i64 ver), (⟨w.heap.size, 1, none⟩, .slice (some ⟨gt, 0, none⟩) n cap)]) HO.out KD.1 ⟨HW.out.trans (KD.1.mono HW.out.size), KD.2⟩ (by
    intro p9 hp9
    simp only [List.mem_cons, List.not_mem_nil, or_false] at hp9
    rcases hp9 with rfl | rfl | rfl | rfl | rfl | rfl | rfl | rfl | rfl | rfl | rfl <;> (simp only; omega)))
  have t0 := KD.get 9 rfl
  have t3 := KD.get 10 rfl
  have f3 := KD.fz 10 rfl
  have c2 := KD.get 2 rfl
  have c3 := KD.get 3 rfl
  have c4 := KD.get 4 rfl
  have c5 := KD.get 5 rfl
  have c6 := KD.get 6 rfl
  have c7 := KD.get 7 rfl
  have c8 := KD.get 8 rfl
  have HWS := Lib.hid (show W.heap.size ≤ w3.heap.size from KBD.out.1.1.size)
  have b1 : Below w3.heap.size w3 (w3.alloc (.cells #[.int .i64 i, .int .i64 g, .int .i64 y, .int .i64 x, .bool nl] 36)) := (Below.refl _ _).alloc (Nat.le_refl _) _
  have b2 : Below w3.heap.size w3 ((w3.alloc (.cells #[.int .i64 i, .int .i64 g, .int .i64 y, .int .i64 x, .bool nl] 36)).alloc (.cells #[.int .i64 b, .slice (some ⟨w3.heap.size, 0, none⟩) 1 1] 80)) := b1.alloc b1.size _
  obtain ⟨w4, hw4⟩ : ∃ w4, w4 = (w3.alloc (.cells #[.int .i64 i, .int .i64 g, .int .i64 y, .int .i64 x, .bool nl] 36)).alloc (.cells #[.int .i64 b, .slice (some ⟨w3.heap.size, 0, none⟩) 1 1] 80) := ⟨_, rfl⟩
  have HB4 := Lib.hid (show Below w.heap.size w w4 by rw [hw4]; exact KD.1.trans (b2.mono KD.1.size))
  have KBB := Lib.hid (show KB W w4 W.heap.size [(⟨w.heap.size + 1 + 1, 0, none⟩, .int .i64 0), (⟨w.heap.size + 1 + 1, 1, none⟩, .slice none 0 0), (⟨w.heap.size + 1, 0, none⟩, .int .i64 1), (⟨w.heap.size + 1, 1, none⟩, .int .i64 b), (⟨w.heap.size + 1, 2, none⟩, .int .i64 i), (⟨w.heap.size + 1, 3, none⟩, .int .i64 g), (⟨w.heap.size + 1, 4, none⟩, .int .i64 y), (⟨w.heap.size + 1, 5, none⟩, .int .i64 x), (⟨w.heap.size + 1, 6, none⟩, .bool nl), (⟨w.heap.size, 0, none⟩, .int .i64 ver), (⟨w.heap.size, 1, none⟩, .slice (some ⟨gt, 0, none⟩) n cap)] (.slice (some ⟨gt, 0, none⟩) n cap) l f by rw [hw4]; exact KBD.out.step b2)
  have N0 := Lib.hid (show w4.cell? ⟨w3.heap.size + 1, 0, none⟩ = some (.int .i64 b) by rw [hw4, World.cell?_alloc_at _ _ _ _ (by simp)]; rfl)
  have N1 := Lib.hid (show w4.cell? ⟨w3.heap.size + 1, 1, none⟩ = some (.slice (some ⟨w3.heap.size, 0, none⟩) 1 1) by rw [hw4, World.cell?_alloc_at _ _ _ _ (by simp)]; rfl)
  have HR := Lib.hid (show SliceRep rowTy w4 (.slice (some ⟨w3.heap.size, 0, none⟩) 1 1) [⟨i, g, y, x, nl⟩] [w3.heap.size] by
    rw [hw4]
    refine (row_one (w := w3.alloc (.cells #[.int .i64 i, .int .i64 g, .int .i64 y, .int .i64 x, .bool nl] 36)) (by simp) ⟨?_, ?_, ?_, ?_, ?_⟩ (fun j _ => by simp)).step ((Below.refl _ _).alloc (Nat.le_refl _) _)
    all_goals (rw [World.cell?_alloc_at _ _ _ _ rfl]; rfl))
  have HOL := Lib.hid HO.out.lt
  have HSZ := Lib.hid (show w.heap.size ≤ w3.heap.size from KD.1.size)
  have HD1 := Lib.hid (show ∀ j ∈ [w3.heap.size], j ∉ f from fun j hj e => by rw [List.mem_singleton.1 hj] at e; have h1 := HOL.out.2 _ e; have := HSZ.out; omega)
  have HD2 := Lib.hid (show ∀ j ∈ [w3.heap.size], (Value.slice (some ⟨gt, 0, none⟩) n cap).ownBlock ≠ some j from fun j hj e => by rw [List.mem_singleton.1 hj] at e; have h1 := (HOL.out.1 _ e).2; have := HSZ.out; omega)
  have HD3 := Lib.hid (show ∀ j ∈ [w3.heap.size], W.heap.size ≤ j from fun j hj => by rw [List.mem_singleton.1 hj]; exact HWS.out)
  have HD4 := Lib.hid (show ∀ p ∈ ([(⟨w.heap.size + 1 + 1, 0, none⟩, .int .i64 0), (⟨w.heap.size + 1 + 1, 1, none⟩, .slice none 0 0), (⟨w.heap.size + 1, 0, none⟩, .int .i64 1), (⟨w.heap.size + 1, 1, none⟩, .int .i64 b), (⟨w.heap.size + 1, 2, none⟩, .int .i64 i), (⟨w.heap.size + 1, 3, none⟩, .int .i64 g), (⟨w.heap.size + 1, 4, none⟩, .int .i64 y), (⟨w.heap.size + 1, 5, none⟩, .int .i64 x), (⟨w.heap.size + 1, 6, none⟩, .bool nl), (⟨w.heap.size, 0, none⟩, .int .i64 ver), (⟨w.heap.size, 1, none⟩, .slice (some ⟨gt, 0, none⟩) n cap)] : List (Addr × Value)), p.1.block ∉ [w3.heap.size] from fun p hp e => by
    have h1 := (KBD.out.1.2 p hp).1
    rw [List.mem_singleton] at e; omega)
  have HW4 := Lib.hid (show W.heap.size ≤ w4.heap.size from KBB.out.1.1.size)
  have HLN := Lib.hid (show (l.length + 1) * 32 ≤ 140737488355328 by have := HN.out; omega)
  have HLL := Lib.hid (show (l ++ [(⟨b, [⟨i, g, y, x, nl⟩]⟩ : Blk)]).length = n + 1 by rw [List.length_append, HN.out]; rfl)
  clear KD b1 b2 K2 hw3
  go_wp2_with (first | (at_builtin; rw [← hw4]; refine wpList_append_kbG (W := W) rfl _ _ rfl W.heap.size (.slice (some ⟨gt, 0, none⟩) n cap) _ l f ⟨b, [⟨i, g, y, x, nl⟩]⟩ (some ⟨w3.heap.size, 0, none⟩) 1 1 [w3.heap.size] (w3.heap.size + 1) 1 rfl rfl KBB.out N0.out N1.out HR.out HD3.out (by simp) HD1.out HD2.out HD4.out HLN.out (Nat.le_refl _) HW4.out ?_; intro v' w6 KB6 hob hgr; obtain ⟨ao', c', hv'⟩ := KB6.2.1.shape; rw [HLL.out] at hv'; subst hv'; have y1 := KB6.1.get 10 rfl; have f1 := KB6.1.fz 10 rfl; have x9 := KB6.1.get 9 rfl; have z0 := KB6.1.get 0 rfl; have z1 := KB6.1.get 1 rfl; have g0 := KB6.1.fz 0 rfl; have g1 := KB6.1.fz 1 rfl))
  obtain ⟨fp5, HB5, hf5, hL5, hM5⟩ := KB6.boxSetL (bp := w.heap.size) (ver := ver) (u := .slice (some ⟨gt, 0, none⟩) n cap) (by simp) (by simp)
  have K5 := KB6.1.set (p := [(⟨w.heap.size + 1 + 1, 0, none⟩, .int .i64 0), (⟨w.heap.size + 1 + 1, 1, none⟩, .slice none 0 0), (⟨w.heap.size + 1, 0, none⟩, .int .i64 1), (⟨w.heap.size + 1, 1, none⟩, .int .i64 b), (⟨w.heap.size + 1, 2, none⟩, .int .i64 i), (⟨w.heap.size + 1, 3, none⟩, .int .i64 g), (⟨w.heap.size + 1, 4, none⟩, .int .i64 y), (⟨w.heap.size + 1, 5, none⟩, .int .i64 x), (⟨w.heap.size + 1, 6, none⟩, .bool nl), (⟨w.heap.size, 0, none⟩, .int .i64 ver)]) (q := []) (.slice ao' (n + 1) c') (by have := HW.out.size; simp only; omega) (by
    intro c9 hc9
    simp only [List.append_nil, List.mem_cons, List.not_mem_nil, or_false] at hc9
    rcases hc9 with rfl | rfl | rfl | rfl | rfl | rfl | rfl | rfl | rfl | rfl <;> simp)
  obtain ⟨w7, hw7⟩ : ∃ w7, w7 = w6.setCell ⟨w.heap.size, 1, none⟩ (.slice ao' (n + 1) c') := ⟨_, rfl⟩
  rw [← hw7] at HB5 K5
  have yy := K5.lt 0 rfl
  have HB5 := Lib.hid HB5
  have HR5 := Lib.hid (show w.heap.size + 1 + 1 ∉ fp5 from hL5 (⟨w.heap.size + 1 + 1, 0, none⟩, .int .i64 0) (by simp))
  have HF5 := Lib.hid hf5
  have K6 := (K5.sub (l' := [(⟨w.heap.size + 1 + 1, 0, none⟩, .int .i64 0), (⟨w.heap.size + 1 + 1, 1, none⟩, .slice none 0 0)]) (by intro p9 hp9; simp only [List.mem_cons, List.not_mem_nil, or_false] at hp9; rcases hp9 with rfl | rfl <;> simp)).set2 (.int .i64 ver) (.slice ao' (n + 1) c') (by have := HW.out.size; omega) (by simp)
  have m0 := K6.get 0 rfl
  have m1 := K6.get 1 rfl
  have HB := Lib.hid K6.1
  have HFN := Lib.hid (show ∀ k ∈ fp5, k ∈ ownF (.slice (some ⟨gt, 0, none⟩) n cap) f ∨ w.heap.size ≤ k from fun k hk => by
    rcases ownF_mem (hM5 k hk) with h | h
    · rcases List.mem_append.1 h with h | h
      · exact .inl (ownF_of (.inl h))
      · rw [List.mem_singleton] at h
        exact .inr (by have := HSZ.out; omega)
    · rcases hob with h9 | h9
      · exact .inl (ownF_of (.inr (h9.symm.trans h)))
      · have e : w4.heap.size = k := by rw [h9] at h; exact Option.some.inj h
        exact .inr (by have := HB4.out.size; omega))
  have HCH := Lib.hid (Chg.new (F := ownF (.slice (some ⟨gt, 0, none⟩) n cap) f) (F' := w.heap.size :: (w.heap.size + 1 + 1) :: ownF (.slice (some ⟨gt, 0, none⟩) n cap) f) ((((((Chg.of HB4.out).trans (chg_grown hgr)).set (a := ⟨w.heap.size, 1, none⟩) (by simp) (.slice ao' (n + 1) c')).set (a := ⟨w.heap.size + 1 + 1, 0, none⟩) (by simp) (.int .i64 ver)).set (a := ⟨w.heap.size + 1 + 1, 1, none⟩) (by simp) (.slice ao' (n + 1) c'))) (fun k hk => by
    simp only [List.mem_cons] at hk
    rcases hk with rfl | rfl | hk
    · exact .inr (Nat.le_refl _)
    · exact .inr (by omega)
    · exact .inl hk))
  rw [← hw7] at HCH ⊢
  clear hf5 hL5 hM5 KB6 K5 K6 hw7
  exact bodyPost_ret (v := .tuple #[.agg #[.int .i64 ver, .slice ao' (n + 1) c'], .int .i64 0]) (by simp [results, Try.results79, go_sem, m0, m1, yy]) rfl ⟨.slice ao' (n + 1) c', fp5, by rw [AN.out], by rw [AN.out]; exact (HB5.out.2.2.2.2.2.1.set ⟨w.heap.size + 1 + 1, 0, none⟩ _ (fun j hj e => HR5.out (by have e' : j = w.heap.size + 1 + 1 := e; rw [← e']; exact hj))).set ⟨w.heap.size + 1 + 1, 1, none⟩ _ (fun j hj e => HR5.out (by have e' : j = w.heap.size + 1 + 1 := e; rw [← e']; exact hj)), HB5.out.2.2.2.2.2.2.1, HFN.out, HCH.out⟩
end Go.Proofs.Ytcfcohnkkgickaa
