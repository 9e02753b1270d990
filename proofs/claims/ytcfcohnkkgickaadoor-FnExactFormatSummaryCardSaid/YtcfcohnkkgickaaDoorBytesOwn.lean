/-
  Slices of bytes that the call itself made: what they own as a list of bytes; append to them; their conversion to a string.
-/
import Derived.Test.YtcfcohnkkgickaaDoorRows
import Derived.WalkKit
import Derived.WalkSpells
import Derived.WalkLawsBesides
import Derived.Laws.IdiomStrings
import Derived.Laws.BytesString
namespace Go.Proofs.YtcfcohnkkgickaaDoor
open Go.RowKit

/-- The cells of the bytes l. -/
def bcells (l : List UInt8) : List Value := l.map fun b => Value.int .u8 (b.toNat : Int)

/-- The slice v owns the bytes l among the blocks from B on. -/
def Bts (w : World) (B : Nat) (v : Value) (l : List UInt8) : Prop := w.ownsRow B 5 1 v l.length (bcells l)

theorem Tryd.infoU8 : (Tryd.prog.info? 5).map (fun i => (i.zero, i.size, i.bytes)) = some (some (.int .u8 0), 1, 1) := by kernel_rfl

theorem Bts.nil (w : World) (B : Nat) : Bts w B (.slice none 0 0) [] := ⟨rfl, .inl ⟨rfl, rfl⟩⟩

theorem Bts.lit (w : World) (B : Nat) (hB : B ≤ w.heap.size) : Bts (w.alloc (.cells #[] 5)) B (.slice (some ⟨w.heap.size, 0, none⟩) 0 0) [] :=
  World.ownsRow_lit w #[] 0 hB (by decide) rfl

/-- 'string(v)' where v owns the bytes l. -/
theorem Bts.str {w : World} {B : Nat} {v : Value} {l : List UInt8} (h : Bts w B v l) :
    (convert 76 9 v).run Tryd.prog w = .ok (.string ⟨l.toArray⟩) w := by
  have h0 := h
  rcases h.2 with ⟨rfl, hn⟩ | ⟨g, cap, cur, rfl, hb, hg, hnc, hcm, hcs, htake⟩
  · obtain rfl : l = [] := List.eq_nil_of_length_eq_zero hn
    rw [run_convert_bytes_string w 76 9 5 none 0 0 Tryd.underlying76 Tryd.underlying5 Tryd.underlying9]
    simp [Conv.bytesToString]
    rfl
  · refine run_convert_bytes_back w 76 9 5 ⟨g, 0, none⟩ cap l Tryd.underlying76 Tryd.underlying5 Tryd.underlying9 fun j hj => ?_
    exact World.ownsRow.cells h0 (g := g) rfl j (.int .u8 (l[j].toNat : Int)) (by simp [bcells, hj])

theorem bcells_append (l m : List UInt8) : bcells (l ++ m) = bcells l ++ bcells m := by simp [bcells]
theorem bcells_len (l : List UInt8) : (bcells l).length = l.length := by simp [bcells]

/-- 'append(out, b1, ..)': the new bytes lie in a new block of their own. -/
theorem wpList_append_bytes {ops : Array Oper} {rest : List Oper} {o : Oper} {a : Act} {Q : Exit → Act → World → Prop} {W w : World} (hgd : o.guard = none) (s x : Operand)
    (ho : o.op = .call { callee := .builtin .append, args := #[s, x], argTypes := #[76, 76] })
    (B : Nat) (v : Value) (l news : List UInt8) (hs : a.eval s = v) (hown : Bts w B v l) (cs : Array Value) (hcs : cs.toList = bcells news) (m c : Nat) (hm : m = news.length)
    (hx : a.eval x = .slice (some ⟨w.heap.size, 0, none⟩) m c) (hlen : l.length + news.length ≤ 140737488355328) (hB : B ≤ w.heap.size) (hbel : Below B W w)
    (h : ∀ v' w', Bts w' B v' (l ++ news) → Below B W w' → wpList Tryd.prog ops Q rest (a.put o.dst v') w') : wpList Tryd.prog ops Q (o :: rest) a (w.alloc (.cells cs 5)) := by
  obtain ⟨i0, hi, hz0, hz1, hz2⟩ := info_parts Tryd.infoU8
  subst hm
  have hlt : ∀ k, v.ownBlock = some k → B ≤ k := fun k hk => (World.ownsRow.lt hown k hk).1
  refine wpList_append_own _ hgd s x 76 ho B 5 i0 (.int .u8 0) 1 1 Tryd.underlying76 hi hz0 hz1 hz2 rfl (by decide) v l.length (bcells l) hs (World.ownsRow.alloc hown _)
    ⟨w.heap.size, 0, none⟩ news.length c (bcells news) hx (by simp [bcells_len]) ?_ ?_ (by unfold maxLen; omega) (by omega) (by simp; omega) ?_
  · intro j u hj
    have hadd : (⟨w.heap.size, 0, none⟩ : Addr).add j = ⟨w.heap.size, j, none⟩ := by unfold Addr.add; split <;> simp_all
    rw [hadd, cell_of_row _ w.heap.size j cs 5 (0, 0) (heap_alloc_new w _), ← hj, ← hcs]
    simp
  · intro u hu
    simp only [bcells, List.mem_map] at hu
    obtain ⟨b, _, rfl⟩ := hu
    rfl
  · intro v' w' h1 h2 _
    refine h v' w' ?_ ((hbel.alloc hB _).grown h2 (by simp; omega) hlt)
    unfold Bts
    rw [List.length_append, bcells_append]
    exact h1
/-- 'string([]byte{b})': the one byte lies in a new block. -/
theorem Bts.str1 (w : World) (x : Int) (b : UInt8) (h : x = (b.toNat : Int)) :
    (convert 76 9 (.slice (some ⟨w.heap.size, 0, none⟩) 1 1)).run Tryd.prog (w.alloc (.cells #[Value.int .u8 x] 5)) = .ok (.string ⟨#[b]⟩) (w.alloc (.cells #[Value.int .u8 x] 5)) := by
  subst h
  exact Bts.str (B := w.heap.size) (l := [b]) (World.ownsRow_lit w #[Value.int .u8 (b.toNat : Int)] 1 (Nat.le_refl _) (by decide) rfl)

/-- An iterator over a string stays as it is behind an append to an owned row. -/
theorem iter_kept {w w' : World} {B : Nat} {v : Value} {l : List UInt8} {o : Obj} (hg : (w.alloc o).grownBy w' v.ownBlock) (hown : Bts w B v l) (I : Nat) (s : ByteArray) (p : Nat) (hI : w.heap[I]? = some (.stringIter s p)) :
    w'.heap[I]? = some (.stringIter s p) := by
  have hlt : I < w.heap.size := (Array.getElem?_eq_some_iff.1 hI).1
  rw [hg.block I (by simp; omega) ?_]
  · rw [heap_alloc_old w o hlt]; exact hI
  · rcases hown.2 with ⟨rfl, _⟩ | ⟨g, cap, cur, rfl, _, hgg, _⟩
    · simp [Value.ownBlock]
    · intro h
      simp only [Value.ownBlock, Option.some.injEq] at h
      subst h
      rw [hgg] at hI
      cases hI

/-- 'append(out, b1, ..)': the new bytes lie in a new block of their own; an iterator over a string stays as it is. -/
theorem wpList_append_bytes_it {ops : Array Oper} {rest : List Oper} {o : Oper} {a : Act} {Q : Exit → Act → World → Prop} {W w : World} (hgd : o.guard = none) (s x : Operand)
    (ho : o.op = .call { callee := .builtin .append, args := #[s, x], argTypes := #[76, 76] })
    (B : Nat) (v : Value) (l news : List UInt8) (hs : a.eval s = v) (hown : Bts w B v l) (cs : Array Value) (hcs : cs.toList = bcells news) (m c : Nat) (hm : m = news.length)
    (hx : a.eval x = .slice (some ⟨w.heap.size, 0, none⟩) m c) (hlen : l.length + news.length ≤ 140737488355328) (hB : B ≤ w.heap.size) (hbel : Below B W w)
    (h : ∀ v' w', Bts w' B v' (l ++ news) → Below B W w' → (∀ (I : Nat) (s : ByteArray) (p : Nat), w.heap[I]? = some (.stringIter s p) → w'.heap[I]? = some (.stringIter s p)) → wpList Tryd.prog ops Q rest (a.put o.dst v') w') : wpList Tryd.prog ops Q (o :: rest) a (w.alloc (.cells cs 5)) := by
  obtain ⟨i0, hi, hz0, hz1, hz2⟩ := info_parts Tryd.infoU8
  subst hm
  have hlt : ∀ k, v.ownBlock = some k → B ≤ k := fun k hk => (World.ownsRow.lt hown k hk).1
  refine wpList_append_own _ hgd s x 76 ho B 5 i0 (.int .u8 0) 1 1 Tryd.underlying76 hi hz0 hz1 hz2 rfl (by decide) v l.length (bcells l) hs (World.ownsRow.alloc hown _)
    ⟨w.heap.size, 0, none⟩ news.length c (bcells news) hx (by simp [bcells_len]) ?_ ?_ (by unfold maxLen; omega) (by omega) (by simp; omega) ?_
  · intro j u hj
    have hadd : (⟨w.heap.size, 0, none⟩ : Addr).add j = ⟨w.heap.size, j, none⟩ := by unfold Addr.add; split <;> simp_all
    rw [hadd, cell_of_row _ w.heap.size j cs 5 (0, 0) (heap_alloc_new w _), ← hj, ← hcs]
    simp
  · intro u hu
    simp only [bcells, List.mem_map] at hu
    obtain ⟨b, _, rfl⟩ := hu
    rfl
  · intro v' w' h1 h2 _
    refine h v' w' ?_ ((hbel.alloc hB _).grown h2 (by simp; omega) hlt) ?_
    rotate_left
    · exact iter_kept h2 hown
    unfold Bts
    rw [List.length_append, bcells_append]
    exact h1
/-- 'append(out, b1, ..)': the new bytes lie in a new block of their own; what has grown is told. -/
theorem wpList_append_bytes_g {ops : Array Oper} {rest : List Oper} {o : Oper} {a : Act} {Q : Exit → Act → World → Prop} {W w : World} (hgd : o.guard = none) (s x : Operand)
    (ho : o.op = .call { callee := .builtin .append, args := #[s, x], argTypes := #[76, 76] })
    (B : Nat) (v : Value) (l news : List UInt8) (hs : a.eval s = v) (hown : Bts w B v l) (cs : Array Value) (hcs : cs.toList = bcells news) (m c : Nat) (hm : m = news.length)
    (hx : a.eval x = .slice (some ⟨w.heap.size, 0, none⟩) m c) (hlen : l.length + news.length ≤ 140737488355328) (hB : B ≤ w.heap.size) (hbel : Below B W w)
    (h : ∀ v' w', Bts w' B v' (l ++ news) → Below B W w' → (w.alloc (.cells cs 5)).grownBy w' v.ownBlock → wpList Tryd.prog ops Q rest (a.put o.dst v') w') : wpList Tryd.prog ops Q (o :: rest) a (w.alloc (.cells cs 5)) := by
  obtain ⟨i0, hi, hz0, hz1, hz2⟩ := info_parts Tryd.infoU8
  subst hm
  have hlt : ∀ k, v.ownBlock = some k → B ≤ k := fun k hk => (World.ownsRow.lt hown k hk).1
  refine wpList_append_own _ hgd s x 76 ho B 5 i0 (.int .u8 0) 1 1 Tryd.underlying76 hi hz0 hz1 hz2 rfl (by decide) v l.length (bcells l) hs (World.ownsRow.alloc hown _)
    ⟨w.heap.size, 0, none⟩ news.length c (bcells news) hx (by simp [bcells_len]) ?_ ?_ (by unfold maxLen; omega) (by omega) (by simp; omega) ?_
  · intro j u hj
    have hadd : (⟨w.heap.size, 0, none⟩ : Addr).add j = ⟨w.heap.size, j, none⟩ := by unfold Addr.add; split <;> simp_all
    rw [hadd, cell_of_row _ w.heap.size j cs 5 (0, 0) (heap_alloc_new w _), ← hj, ← hcs]
    simp
  · intro u hu
    simp only [bcells, List.mem_map] at hu
    obtain ⟨b, _, rfl⟩ := hu
    rfl
  · intro v' w' h1 h2 _
    refine h v' w' ?_ ((hbel.alloc hB _).grown h2 (by simp; omega) hlt) ?_
    rotate_left
    · exact h2
    unfold Bts
    rw [List.length_append, bcells_append]
    exact h1
theorem Bts.kept {w w' : World} {B b : Nat} {v : Value} {l : List UInt8} (h : Bts w B v l) (hg : w.grownBy w' (some b)) (hb : b < B) : Bts w' B v l :=
  World.ownsRow.kept h hg (by
    cases hv : v.ownBlock with
    | none => exact .inl rfl
    | some k => exact .inr (fun e => by have := (World.ownsRow.lt h k hv).1; cases e; omega))
theorem Bts.own_ne {w : World} {B b : Nat} {v : Value} {l : List UInt8} (h : Bts w B v l) (hb : b < B) : v.ownBlock ≠ some b ∧ ∀ k, v.ownBlock = some k → B ≤ k :=
  ⟨fun e => by have := (World.ownsRow.lt h b e).1; omega, fun k hk => (World.ownsRow.lt h k hk).1⟩
theorem u8_int (x : Int) (h0 : 0 ≤ x) (h1 : x < 256) : x = ((UInt8.ofNat x.toNat).toNat : Int) := by
  obtain ⟨k, rfl⟩ := Int.eq_ofNat_of_zero_le h0
  simp; omega

/-- 'append(out, b1, ..)' as a step of a region that draws its order: the new bytes lie in block H. -/
theorem step_append_bytes {ops : Array Oper} {o : Oper} {a : Act} {K : Act → World → Prop} {Q : Exit → Act → World → Prop} {E : Prop} {W w : World} (hgd : o.guard = none) (s x : Operand)
    (ho : o.op = .call { callee := .builtin .append, args := #[s, x], argTypes := #[76, 76] })
    (B : Nat) (v : Value) (l news : List UInt8) (hs : a.eval s = v) (hown : Bts w B v l) (H : Nat) (cs : Array Value) (hcs : cs.toList = bcells news) (hblk : w.heap[H]? = some (.cells cs 5 (0, 0))) (m c : Nat) (hm : m = news.length)
    (hx : a.eval x = .slice (some ⟨H, 0, none⟩) m c) (hlen : l.length + news.length ≤ 140737488355328) (hB : B ≤ w.heap.size) (hbel : Below B W w)
    (h : ∀ v' w', Bts w' B v' (l ++ news) → Below B W w' → K (a.put o.dst v') w') :
    if Region.wanted o (yielded ops a.tmps) = true then Oper.wp Tryd.prog o a w K Q else E := by
  have hw : Region.wanted o (yielded ops a.tmps) = true := by simp [Region.wanted, hgd]
  rw [if_pos hw]
  obtain ⟨i0, hi, hz0, hz1, hz2⟩ := info_parts Tryd.infoU8
  subst hm
  have hlt : ∀ k, v.ownBlock = some k → B ≤ k := fun k hk => (World.ownsRow.lt hown k hk).1
  refine wp_append_own w s x 76 ho B 5 i0 (.int .u8 0) 1 1 Tryd.underlying76 hi hz0 hz1 hz2 rfl (by decide) v l.length (bcells l) hs hown
    ⟨H, 0, none⟩ news.length c (bcells news) hx (by simp [bcells_len]) ?_ ?_ (by unfold maxLen; omega) (by omega) hB ?_
  · intro j u hj
    have hadd : (⟨H, 0, none⟩ : Addr).add j = ⟨H, j, none⟩ := by unfold Addr.add; split <;> simp_all
    rw [hadd, cell_of_row _ H j cs 5 (0, 0) hblk, ← hj, ← hcs]
    simp
  · intro u hu
    simp only [bcells, List.mem_map] at hu
    obtain ⟨b, _, rfl⟩ := hu
    rfl
  · intro v' w' h1 h2 _
    refine h v' w' ?_ (hbel.grown h2 hB hlt)
    unfold Bts
    rw [List.length_append, bcells_append]
    exact h1
theorem Bts.alloc {w : World} {B : Nat} {v : Value} {l : List UInt8} (h : Bts w B v l) (o : Obj) : Bts (w.alloc o) B v l := World.ownsRow.alloc h o
theorem Bts.drew {w : World} {B : Nat} {v : Value} {l : List UInt8} (h : Bts w B v l) : Bts w.drew B v l := h

/-- A row of the call's own at a known head: its cells, that none is frozen, a store into it. -/
theorem Bts.cellAt {w : World} {B g m cap : Nat} {l : List UInt8} (h : Bts w B (.slice (some ⟨g, 0, none⟩) m cap) l) (hm : l.length = m) (j : Nat) (hj : j < l.length) : w.cell? ⟨g, j, none⟩ = some (.int .u8 (l[j].toNat : Int)) := by
  subst hm
  have := World.ownsRow.cellAt h j (by omega)
  rw [this]
  simp [bcells, hj]
theorem Bts.frozenAt {w : World} {B g m cap : Nat} {l : List UInt8} (h : Bts w B (.slice (some ⟨g, 0, none⟩) m cap) l) (hm : l.length = m) (j : Nat) : w.frozen? ⟨g, j, none⟩ = false := by
  subst hm
  exact World.ownsRow.frozenAt h j
theorem Bts.stored {w : World} {B g m cap : Nat} {l : List UInt8} (h : Bts w B (.slice (some ⟨g, 0, none⟩) m cap) l) (hm : l.length = m) (j : Nat) (x : Int) (b : UInt8) (hb : x = (b.toNat : Int)) :
    Bts (w.setCell ⟨g, j, none⟩ (.int .u8 x)) B (.slice (some ⟨g, 0, none⟩) m cap) (l.set j b) := by
  subst hm
  subst hb
  have := (World.ownsRow.stored h j (.int .u8 (b.toNat : Int))).1
  have e : (bcells l).set j (.int .u8 (b.toNat : Int)) = bcells (l.set j b) := by simp [bcells, List.map_set]
  rw [e] at this
  unfold Bts
  rw [List.length_set]
  exact this
theorem Bts.lt {w : World} {B g m cap : Nat} {l : List UInt8} (h : Bts w B (.slice (some ⟨g, 0, none⟩) m cap) l) : B ≤ g ∧ g < w.heap.size := World.ownsRow.lt h g rfl

/-- 'make([]byte, m)'. -/
theorem wpList_make_bytes {ops : Array Oper} {rest : List Oper} {o : Oper} {a : Act} {Q : Exit → Act → World → Prop} {W w : World} (hg : o.guard = none) (x c : Operand) (ho : o.op = Op.makeSlice 76 x c)
    (B : Nat) (kl kc : IntKind) (L C : Int) (m : Nat) (hl : a.eval x = .int kl L) (hc : a.eval c = .int kc C) (hL : L = (m : Int)) (hC : C = (m : Int)) (hm : m ≤ 281474976710656) (hB : B ≤ w.heap.size) (hbel : Below B W w)
    (h : ∀ w', Bts w' w.heap.size (.slice (some ⟨w.heap.size, 0, none⟩) m m) (List.replicate m 0) → Below B W w' → wpList Tryd.prog ops Q rest (a.put o.dst (.slice (some ⟨w.heap.size, 0, none⟩) m m)) w') :
    wpList Tryd.prog ops Q (o :: rest) a w := by
  obtain ⟨i0, hi, hz0, hz1, hz2⟩ := info_parts Tryd.infoU8
  refine wpList_make_full w hg x c 76 ho w.heap.size 5 i0 (.int .u8 0) 1 Tryd.underlying76 hi hz0 hz1 kl kc L C m hl hc hL hC (by rw [hz2]; omega) (by unfold maxLen; omega) (Nat.le_refl _) ?_
  intro w' h1 h2
  refine h w' ?_ (hbel.grown h2 hB (fun k hk => by cases hk))
  have e : (madeCells (Value.int .u8 0).cells (m * 1)).toList = bcells (List.replicate m 0) := by
    show (madeCells #[Value.int .u8 0] (m * 1)).toList = _
    rw [toList_madeCells_one, Nat.mul_one]
    simp [bcells]
  rw [e] at h1
  unfold Bts
  rw [List.length_replicate]
  exact h1

/-- An int64's bounds out of 'wf'. -/
theorem i64_wf {a : Int} (h : (Lit.int .i64 a).wf = true) : -9223372036854775808 ≤ a ∧ a ≤ 9223372036854775807 := by
  simp only [Lit.wf, Bool.and_eq_true, decide_eq_true_eq] at h
  have e1 : IntKind.i64.min = -9223372036854775808 := by decide
  have e2 : IntKind.i64.max = 9223372036854775807 := by decide
  omega

/-- 'make([]byte, 0, n)'. -/
theorem wpList_make0_bytes {ops : Array Oper} {rest : List Oper} {o : Oper} {a : Act} {Q : Exit → Act → World → Prop} {W w : World} (hg : o.guard = none) (x c : Operand) (ho : o.op = Op.makeSlice 76 x c)
    (B : Nat) (kl kc : IntKind) (C : Int) (n : Nat) (hl : a.eval x = .int kl 0) (hc : a.eval c = .int kc C) (hC : C = (n : Int)) (hn : n ≤ 281474976710656) (hB : B ≤ w.heap.size) (hbel : Below B W w)
    (h : ∀ w', Bts w' B (.slice (some ⟨w.heap.size, 0, none⟩) 0 n) [] → Below B W w' → wpList Tryd.prog ops Q rest (a.put o.dst (.slice (some ⟨w.heap.size, 0, none⟩) 0 n)) w') :
    wpList Tryd.prog ops Q (o :: rest) a w := by
  obtain ⟨i0, hi, hz0, hz1, hz2⟩ := info_parts Tryd.infoU8
  refine wpList_make_own w hg x c 76 ho B 5 i0 (.int .u8 0) 1 Tryd.underlying76 hi hz0 hz1 kl kc C n hl hc hC (by rw [hz2]; omega) (by unfold maxLen; omega) hB ?_
  intro w' h1 h2
  exact h w' h1 (hbel.grown h2 hB (fun k hk => by cases hk))

theorem u8_wf {a : Int} (h : (Lit.int .u8 a).wf = true) : 0 ≤ a ∧ a ≤ 255 := by
  simp only [Lit.wf, Bool.and_eq_true, decide_eq_true_eq] at h
  have e1 : IntKind.u8.min = 0 := by decide
  have e2 : IntKind.u8.max = 255 := by decide
  omega

/-- One byte, two bytes as the walk writes them. -/
theorem bcells_one (x : Int) (b : UInt8) (h : x = (b.toNat : Int)) : (#[Value.int .u8 x] : Array Value).toList = bcells [b] := by subst h; rfl
theorem bcells_two (x y : Int) (b c : UInt8) (h : x = (b.toNat : Int)) (k : y = (c.toNat : Int)) : (#[Value.int .u8 x, Value.int .u8 y] : Array Value).toList = bcells [b, c] := by subst h; subst k; rfl
end Go.Proofs.YtcfcohnkkgickaaDoor
