/-
  An append to blocks of a call's own as a step of a drawn region; a table's box out of it.
-/
import Derived.Test.YtcfcohnkkgickaaRows
import Derived.Test.YtcfcohnkkgickaaBkApp
import Derived.Test.YtcfcohnkkgickaaMgB
import Derived.Test.YtcfcohnkkgickaaApSpec
namespace Go.Proofs.Ytcfcohnkkgickaa
open Go.RowKit Num

theorem step_append_kb {ops : Array Oper} {o : Oper} {a : Act} {K : Act → World → Prop} {Q : Exit → Act → World → Prop} {E : Prop} {W w : World} (hgd : o.guard = none) (s x : Operand)
    (ho : o.op = .call { callee := .builtin .append, args := #[s, x], argTypes := #[30, 30] })
    (B : Nat) (v : Value) (L : List (Addr × Value)) (l : List Blk) (f : List Nat) (b : Blk) (ro : Option Addr) (rn rc : Nat) (fb : List Nat) (N c : Nat) (hs : a.eval s = v) (hx : a.eval x = .slice (some ⟨N, 0, none⟩) 1 c) (hko : KB W w B L v l f)
    (hc0 : w.cell? ⟨N, 0, none⟩ = some (.int .i64 b.id)) (hc1 : w.cell? ⟨N, 1, none⟩ = some (.slice ro rn rc)) (hrep : SliceRep rowTy w (.slice ro rn rc) b.rows fb) (hfb : ∀ k ∈ fb, B ≤ k) (hnd : fb.Nodup) (hd : ∀ k ∈ fb, k ∉ f) (hvb : ∀ k ∈ fb, v.ownBlock ≠ some k) (hLb : ∀ p ∈ L, p.1.block ∉ fb)
    (hlen : (l.length + 1) * 32 ≤ 140737488355328) (hWB : W.heap.size ≤ B) (hB : B ≤ w.heap.size)
    (h : ∀ v' w', KB W w' B L v' (l ++ [b]) (f ++ fb) → K (a.put o.dst v') w') : if Region.wanted o (yielded ops a.tmps) = true then Oper.wp Try.prog o a w K Q else E := by
  have hw : Region.wanted o (yielded ops a.tmps) = true := by simp [Region.wanted, hgd]
  rw [if_pos hw]
  obtain ⟨i0, hi, hx0⟩ := Option.map_eq_some_iff.1 Try.infoBlk
  simp only [Prod.mk.injEq] at hx0
  obtain ⟨hz0, hz1, hz2⟩ := hx0
  obtain ⟨hk, ⟨vs, hown, hreps, hfB, hfnd, hfv⟩, hap⟩ := hko
  obtain ⟨v', w', hr, h2, h3, _, h5⟩ := run_append_own_at (P := Try.prog) w B 30 o.type 80 i0 _ 2 32 Try.underlying30 hi hz0 hz1 hz2 rfl (by decide) v l.length (kcells l vs) hown ⟨N, 0, none⟩ 1 c [.int .i64 b.id, .slice ro rn rc] rfl (fun j u hj => by
    match j, hj with
    | 0, hj => simp only [List.getElem?_cons_zero, Option.some.injEq] at hj; subst hj; exact hc0
    | 1, hj => simp only [List.getElem?_cons_succ, List.getElem?_cons_zero, Option.some.injEq] at hj; subst hj; exact hc1
    | j + 2, hj => simp at hj) (fun u hu => by
    simp only [List.mem_cons, List.not_mem_nil, or_false] at hu
    rcases hu with rfl | rfl <;> rfl) (by unfold maxLen; omega) (by omega) hB
  unfold Oper.wp
  simp [execOp, ho, resolve, invoke, builtin, hs, hx, hr, Result.andThen]
  have hlt := World.ownsRow.lt hown
  refine h v' w' ⟨kept_grown hk h3 (fun k e => Nat.le_trans hWB (hlt k e).1) (fun p hp => (hap p hp).1), ⟨vs ++ [.slice ro rn rc], ?_, ?_, fun k hk => ?_, List.nodup_append.2 ⟨hfnd, hnd, fun x hx y hy e => hd y hy (by rw [← e]; exact hx)⟩, fun k hk => ?_⟩, fun p hp => ?_⟩
  · rw [List.length_append, kcells_snoc hreps.len]
    exact h2
  · exact Reps.snoc (b := b) (hrep.keep (fun k hk => h3.block k (hrep.lt k hk) (fun e => hvb k hk e.symm))) (hreps.keep (fun k hk => h3.block k (hreps.lt k hk) (fun e => hfv k hk e.symm)))
  · rcases List.mem_append.1 hk with hk | hk
    · exact hfB k hk
    · exact hfb k hk
  · rcases h5 with h5 | h5
    · rw [h5]
      rcases List.mem_append.1 hk with hk | hk
      · exact hfv k hk
      · exact hvb k hk
    · rw [h5]
      intro e
      simp only [Option.some.injEq] at e
      rcases List.mem_append.1 hk with hk | hk
      · have := hreps.lt k hk; omega
      · have := hrep.lt k hk; omega
  · refine ⟨fun e => ?_, fun e => ?_⟩
    · rcases h5 with h5 | h5
      · rw [h5] at e; exact (hap p hp).1 e
      · rw [h5] at e
        simp only [Option.some.injEq] at e
        have := (hk.2 p hp).1
        omega
    · rcases List.mem_append.1 e with e | e
      · exact (hap p hp).2 e
      · exact hLb p hp e

theorem KB.wide {W w w' : World} {B : Nat} {L L' : List (Addr × Value)} {v : Value} {l : List Blk} {f : List Nat} (h : KB W w B L v l f) (hk : Kept w w' L') (hL : ∀ p ∈ L', (∃ q ∈ L, q.1.block = p.1.block) ∨ w.heap.size ≤ p.1.block) : KB W w' B L' v l f := by
  refine ⟨⟨h.1.1.trans (hk.1.mono h.1.1.size), hk.2⟩, h.2.1.step hk.1, fun p hp => ?_⟩
  rcases hL p hp with ⟨q, hq, e⟩ | e
  · rw [← e]; exact h.2.2 q hq
  · have h1 := h.2.1.lt
    exact ⟨fun e9 => by have := (h1.1 _ e9).2; omega, fun e9 => by have := h1.2 _ e9; omega⟩
theorem ownF_not {v : Value} {f fp : List Nat} {bp : Nat} (h : ∀ k ∈ fp, k ∈ ownF v f) (h1 : v.ownBlock ≠ some bp) (h2 : bp ∉ f) : bp ∉ fp := fun e => by
  have h3 := h bp e
  unfold ownF at h3
  cases hv : v.ownBlock with
  | none => rw [hv] at h3; exact h2 h3
  | some g =>
    rw [hv] at h3
    rcases List.mem_cons.1 h3 with rfl | h3
    · exact h1 hv
    · exact h2 h3
theorem KB.box {W w : World} {B : Nat} {L : List (Addr × Value)} {v : Value} {l : List Blk} {f : List Nat} {bp : Nat} {ver : Int} (h : KB W w B L v l f) (h0 : (⟨bp, 0, none⟩, .int .i64 ver) ∈ L) (h1 : (⟨bp, 1, none⟩, v) ∈ L) : ∃ fp, TblBox w bp ver v l fp ∧ ∀ k ∈ fp, B ≤ k ∧ k < w.heap.size := by
  obtain ⟨fp, hs, hn, hf⟩ := ownB_F h.2.1
  have c0 := h.1.2 _ h0
  have c1 := h.1.2 _ h1
  have d := h.2.2 _ h0
  exact ⟨fp, ⟨c0.1, c0.2.1, c0.2.2, c1.2.1, c1.2.2, hs, hn, ownF_not hf d.1 d.2⟩, fun k hk => ownF_lt h.2.1 k (hf k hk)⟩
theorem KB.boxSet {W w : World} {B : Nat} {L : List (Addr × Value)} {v u : Value} {l : List Blk} {f : List Nat} {bp : Nat} {ver : Int} (h : KB W w B L v l f) (h0 : (⟨bp, 0, none⟩, .int .i64 ver) ∈ L) (h1 : (⟨bp, 1, none⟩, u) ∈ L) : ∃ fp, TblBox (w.setCell ⟨bp, 1, none⟩ v) bp ver v l fp ∧ ∀ k ∈ fp, B ≤ k ∧ k < w.heap.size := by
  obtain ⟨fp, hs, hn, hf⟩ := ownB_F h.2.1
  have c0 := h.1.2 _ h0
  have c1 := h.1.2 _ h1
  have d := h.2.2 _ h0
  have hbn := ownF_not hf d.1 d.2
  refine ⟨fp, ⟨by simpa using c0.1, ?_, by rw [World.frozen?_setCell]; exact c0.2.2, ?_, by rw [World.frozen?_setCell]; exact c1.2.2, hs.set _ _ (fun k hk e => hbn (by have e' : k = bp := e; rw [← e']; exact hk)), hn, hbn⟩, fun k hk => ownF_lt h.2.1 k (hf k hk)⟩
  · rw [World.cell?_setCell_other (w := w) (a := ⟨bp, 1, none⟩) (b := ⟨bp, 0, none⟩) (v := v) (by simp)]
    exact c0.2.1
  · exact World.cell?_setCell_same (w := w) (a := ⟨bp, 1, none⟩) (v := v) c1.2.1
end Go.Proofs.Ytcfcohnkkgickaa
