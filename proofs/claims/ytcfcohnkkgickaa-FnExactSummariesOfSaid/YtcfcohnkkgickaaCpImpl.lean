/-
  The walk over the project's copy of a list of rows: 'make', then the builtin 'copy' of structs.
-/
import Derived.Test.YtcfcohnkkgickaaRows
import Derived.Test.YtcfcohnkkgickaaRwSrc
import Derived.Test.YtcfcohnkkgickaaKo
import Derived.Laws.CopyRow
import Derived.Laws.CopyOwn
import Derived.WalkKit
import Derived.WalkSpells
import Derived.WalkLawsBesides
import Derived.OwnWalk
import Derived.Deep.RegionLawGrows
import Derived.Laws.AppendOwnNone
import Derived.Lib.Hide
namespace Go.Proofs.Ytcfcohnkkgickaa
open Go.RowKit Num

/-- Rows of a call's own are what it hands back. -/
def RowsOut (l : List Rw) (w : World) (e : Ending) (w' : World) : Prop := ∃ v, e = .returned v ∧ OwnR w' w.heap.size v l ∧ Below w.heap.size w w'

/-- 'copy(d, s)' of structs that fill d. -/
theorem run_copy_all {P : Program} (w : World) (dT sT ty elem : TypeId) (g n N dCap : Nat) (a : Addr) (sCap : Nat) (cur : Array Value) (t : TypeId) (cs : List Value) (i : TypeInfo)
    (hu : P.underlying dT = some (.slice elem)) (hi : P.info? elem = some i) (hN : i.size = N) (hg : w.heap[g]? = some (.cells cur t (0, 0))) (hcs : cs.length = n * N) (hcur : cur.size = n * N)
    (hsrc : ∀ j v, cs[j]? = some v → w.cell? (a.add j) = some v) (h1 : ∀ v ∈ cs, v.oneCell' = true) :
    (Builtin.copy_ #[dT, sT] ty #[.slice (some ⟨g, 0, none⟩) n dCap, .slice (some a) n sCap]).run P w = .ok (goInt n) (w.setRow g cs.toArray) := by
  subst hN
  have hl := run_firstCells_some (P := P) w i.size n a n sCap cs hcs hsrc
  have hst := run_storeCells_at P g 0 t cs 0 cur w hg (by omega) h1
  have e : cur.toList.take (0 + 0) ++ cs ++ cur.toList.drop (0 + 0 + cs.length) = cs := by
    rw [List.drop_of_length_le (by rw [Array.length_toList]; omega)]
    simp
  rw [e] at hst
  simp [Builtin.copy_, run_underlying hu, Builtin.lenOf, sizeOf, typeInfo, hi, hl, hst]
theorem run_copy_empty {P : Program} (w : World) (dT sT ty elem : TypeId) (d : Option Addr) (dCap : Nat) (i : TypeInfo) (hu : P.underlying dT = some (.slice elem)) (hi : P.info? elem = some i) :
    (Builtin.copy_ #[dT, sT] ty #[.slice d 0 dCap, .slice none 0 0]).run P w = .ok (goInt 0) w := by
  cases d <;> simp [Builtin.copy_, run_underlying hu, Builtin.lenOf, Builtin.firstCells, sizeOf, typeInfo, hi, storeCells]

/-- The same as a step of the walk. -/
theorem wpList_copy_rows {ops : Array Oper} {rest : List Oper} {o : Oper} {a : Act} {Q : Exit → Act → World → Prop} {W w : World} (hgd : o.guard = none) (d s : Operand) (dT sT : TypeId)
    (ho : o.op = .call { callee := .builtin .copy, args := #[d, s], argTypes := #[dT, sT] }) (hu : Try.prog.underlying dT = some (.slice 36))
    (B g n : Nat) (l : List Rw) (xs : List Value) (xv : Value) (hd : a.eval d = .slice (some ⟨g, 0, none⟩) n n) (hs : a.eval s = xv) (hl : n = l.length) (hsrc : SrcR w xv l)
    (hown : w.ownsRow B 36 5 (.slice (some ⟨g, 0, none⟩) n n) n xs) (hB : B ≤ g) (hbel : Below B W w)
    (h : ∀ w', OwnR w' B (.slice (some ⟨g, 0, none⟩) n n) l → Below B W w' → wpList Try.prog ops Q rest (a.put o.dst (goInt n)) w') : wpList Try.prog ops Q (o :: rest) a w := by
  obtain ⟨i0, hi, hx0⟩ := Option.map_eq_some_iff.1 Try.infoRow
  simp only [Prod.mk.injEq] at hx0
  obtain ⟨hz0, hz1, hz2⟩ := hx0
  subst hl
  obtain ⟨_, ⟨hno, _⟩ | ⟨g', cap, cur, hv, hBg, hblk, hnc, hcap, hsz, _⟩⟩ := hown
  · cases hno
  · obtain ⟨rfl, rfl⟩ : g = g' ∧ l.length = cap := by simpa using hv
    refine wpList_plain hgd fun K hK' => ?_
    rcases hsrc with ⟨rfl, rfl⟩ | ⟨ad, c, rfl, hnews⟩
    · have hrun := run_copy_empty (P := Try.prog) w dT sT o.type 36 (some ⟨g, 0, none⟩) 0 i0 hu hi
      unfold Oper.wp
      simp [execOp, ho, resolve, invoke, builtin, hd, hs, hrun, Result.andThen]
      refine hK' _ _ (h w ⟨rfl, .inr ⟨g, 0, cur, rfl, hBg, hblk, Nat.le_refl _, hcap, by simpa using hsz, by simp [rcells]⟩⟩ hbel)
    · have hrun := run_copy_all (P := Try.prog) w dT sT o.type 36 g l.length 5 l.length ad c cur 36 (rcells l) i0 hu hi hz1 hblk (rcells_len l) hsz hnews (rcells_one l)
      unfold Oper.wp
      simp [execOp, ho, resolve, invoke, builtin, hd, hs, hrun, Result.andThen]
      refine hK' _ _ (h _ ⟨rcells_len l, .inr ⟨g, l.length, (rcells l).toArray, rfl, hBg, setRow_heap w g _ _ _ _ hblk, Nat.le_refl _, hcap, by simp [rcells_len], by rw [List.take_of_length_le (by simp [rcells_len])]⟩⟩ (below_setRow hbel hB _))

set_option maxRecDepth 8000 in
set_option maxHeartbeats 3200000 in
theorem impl_cp (ao : Option Addr) (cap : Nat) (l : List Rw) (w : World) (hn : l.length ≤ 1048576) (hs : SrcR w (.slice ao l.length cap) l) :
    Calls Try.prog 144 #[.slice ao l.length cap] w (RowsOut l w) := by
  have HS := Lib.hid hs
  clear hs
  have hnI : (l.length : Int) ≤ 1048576 := by omega
  obtain ⟨i0, hi, hx⟩ := Option.map_eq_some_iff.1 Try.infoRow
  simp only [Prod.mk.injEq] at hx
  obtain ⟨hz0, hz1, hz2⟩ := hx
  go_enter Try.func144, Try.ntmps144
  go_wp2_with (first | (at_make; refine wpList_make_full _ rfl _ _ _ rfl w.heap.size 36 i0 _ 5 (by kernel_rfl) hi hz0 hz1 .i64 .i64 _ _ l.length rfl rfl (by simp) (by simp) (by rw [hz2]; omega) (by unfold maxLen; omega) (Nat.le_refl _) ?_; intro w1 hown hgr; have hb := (Below.refl w.heap.size w).grown hgr (Nat.le_refl _) (by intro k hk; cases hk)) | ((with_reducible refine wpList_copy_rows (W := w) rfl (.tmp 7) (.tmp 8) 176 176 rfl (by kernel_rfl) w.heap.size w.heap.size l.length l _ _ rfl rfl rfl ?_ hown (Nat.le_refl _) hb ?_); (· exact HS.out.keep hb); intro w2 hown2 hb2))
  go_wp2
  go_ret
  exact ⟨_, rfl, hown2, hb2⟩
/-- 'append(s, x...)' as a step of a region that draws its order: s has no room left. -/
theorem step_grow_rows {ops : Array Oper} {o : Oper} {a : Act} {K : Act → World → Prop} {Q : Exit → Act → World → Prop} {E : Prop} {W w : World} (hgd : o.guard = none) (s x : Operand) (t : TypeId)
    (ho : o.op = .call { callee := .builtin .append, args := #[s, x], argTypes := #[t, t] }) (hu : Try.prog.underlying t = some (.slice 36))
    (ao : Option Addr) (n : Nat) (olds news : List Rw) (xv : Value) (hs : a.eval s = .slice ao n n) (hx : a.eval x = xv) (hold : SrcR w (.slice ao n n) olds) (hsrc : SrcR w xv news) (hnew : 0 < news.length) (hlen : (olds.length + news.length) * 40 ≤ 140737488355328)
    (B : Nat) (hB : B ≤ w.heap.size) (hbel : Below B W w) (h : ∀ v' w', OwnR w' B v' (olds ++ news) → Below B W w' → K (a.put o.dst v') w') :
    if Region.wanted o (yielded ops a.tmps) = true then Oper.wp Try.prog o a w K Q else E := by
  obtain ⟨i0, hi, hx0⟩ := Option.map_eq_some_iff.1 Try.infoRow
  simp only [Prod.mk.injEq] at hx0
  obtain ⟨hz0, hz1, hz2⟩ := hx0
  rcases hsrc with ⟨rfl, _⟩ | ⟨ad, c, rfl, hnews⟩
  · simp at hnew
  obtain ⟨hno, hn, hcell⟩ : (ao = none → n = 0 ∧ n = 0) ∧ n = olds.length ∧ ∀ b, ao = some b → ∀ j u, (rcells olds)[j]? = some u → w.cell? (b.add j) = some u := by
    rcases hold with ⟨rfl, e⟩ | ⟨b, c', e, hr⟩
    · simp only [Value.slice.injEq] at e
      obtain ⟨rfl, rfl, _⟩ := e
      exact ⟨fun _ => ⟨rfl, rfl⟩, rfl, fun b hb => by cases hb⟩
    · simp only [Value.slice.injEq] at e
      obtain ⟨rfl, rfl, _⟩ := e
      exact ⟨(fun hb => by cases hb), rfl, fun b' hb => by simp only [Option.some.injEq] at hb; subst hb; exact hr⟩
  subst hn
  refine step_append_grows hgd s x t ho 36 i0 _ 5 40 hu hi hz0 hz1 hz2 rfl (by decide) ao olds.length olds.length (rcells olds) hs hno (rcells_len olds) hcell ad news.length c (rcells news) hx (rcells_len news) hnews (rcells_one news) (by omega) (by unfold maxLen; omega) (by omega) ?_
  intro v' w' h1 h2
  refine h v' w' ?_ (hbel.grown h2 hB (by intro k hk; cases hk))
  unfold OwnR
  rw [List.length_append, rcells_append]
  exact World.ownsRow.mono h1 hB

/-- 'append(s, x...)' of rows of any named type of lists, as a step of a region that draws its order. -/
theorem step_append_rowsT {ops : Array Oper} {o : Oper} {a : Act} {K : Act → World → Prop} {Q : Exit → Act → World → Prop} {E : Prop} {W w : World} (hgd : o.guard = none) (s x : Operand) (t : TypeId)
    (ho : o.op = .call { callee := .builtin .append, args := #[s, x], argTypes := #[t, t] }) (hu : Try.prog.underlying t = some (.slice 36))
    (B : Nat) (v xv : Value) (l news : List Rw) (hs : a.eval s = v) (hx : a.eval x = xv) (hown : OwnR w B v l) (hsrc : SrcR w xv news) (hlen : (l.length + news.length) * 40 ≤ 140737488355328) (hB : B ≤ w.heap.size) (hbel : Below B W w)
    (h : ∀ v' w', OwnR w' B v' (l ++ news) → Below B W w' → K (a.put o.dst v') w') :
    if Region.wanted o (yielded ops a.tmps) = true then Oper.wp Try.prog o a w K Q else E := by
  have hw : Region.wanted o (yielded ops a.tmps) = true := by simp [Region.wanted, hgd]
  rw [if_pos hw]
  obtain ⟨i0, hi, hx0⟩ := Option.map_eq_some_iff.1 Try.infoRow
  simp only [Prod.mk.injEq] at hx0
  obtain ⟨hz0, hz1, hz2⟩ := hx0
  have hlt : ∀ k, v.ownBlock = some k → B ≤ k := fun k hk => (World.ownsRow.lt hown k hk).1
  rcases hsrc with ⟨rfl, rfl⟩ | ⟨ad, c, rfl, hnews⟩
  · have hrun := run_append_owned_none (P := Try.prog) (w := w) B t o.type 36 i0 5 hu hi v l.length (rcells l) hown
    unfold Oper.wp
    simp [execOp, ho, resolve, invoke, builtin, hs, hx, hrun, Result.andThen]
    exact h v w (by rw [List.append_nil]; exact hown) hbel
  · refine wp_append_own w s x t ho B 36 i0 _ 5 40 hu hi hz0 hz1 hz2 rfl (by decide) v l.length (rcells l) hs hown
      ad news.length c (rcells news) hx (rcells_len news) hnews (rcells_one news) (by unfold maxLen; omega) (by omega) hB ?_
    intro v' w' h1 h2 _
    refine h v' w' ?_ (hbel.grown h2 hB hlt)
    unfold OwnR
    rw [List.length_append, rcells_append]
    exact h1
theorem impl_cpN (ao : Option Addr) (n cap : Nat) (l : List Rw) (w : World) (hl : n = l.length) (hn : l.length ≤ 1048576) (hs : SrcR w (.slice ao n cap) l) :
    Calls Try.prog 144 #[.slice ao n cap] w (RowsOut l w) := by
  subst hl
  exact impl_cp ao cap l w hn hs
end Go.Proofs.Ytcfcohnkkgickaa
