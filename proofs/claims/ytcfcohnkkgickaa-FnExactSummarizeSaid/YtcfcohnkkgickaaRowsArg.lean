/-
  Rows as an argument of a law: a slice, opened to what its elements hold.
-/
import Derived.Test.YtcfcohnkkgickaaRows
import Derived.Test.YtcfcohnkkgickaaRowArg
import Derived.Test.YtcfcohnkkgickaaRwsOwn
import Derived.WalkKit
import Derived.ProofKit
import Derived.OpenShut
import Derived.ChangeSame
import Derived.Deep.Slices
namespace Go.Proofs.Ytcfcohnkkgickaa
open Go.ChangeShapes Go.WideShapes Go.ChangeAt Go.RowKit Go.Deep

theorem add_pos (x : Addr) (j : Nat) (h : j ≠ 0) : x.add j = ⟨x.block, x.off + j, none⟩ := by unfold Addr.add; rw [if_neg h]
theorem add_zero' (x : Addr) : x.add 0 = x := rfl

theorem open_rowsW {H : Type} {enc : TypeId × Value → H} {w : World} {base : Nat} {spare : Nat → Bool} {held : Bool} {ao : Option Addr} {n cap : Nat} {d : DataW H} {p : List MemPlace}
    (hsp : ∀ b, spare b = true) (h : DataW.Trod enc Try.prog w base spare held 72 (.slice ao n cap) d p) : ∃ R : Nat → Rw, RowsArg w ao n R ∧ n ≤ maxLen ∧ ∀ k, k < n → (Lit.int .i64 (R k).i).wf = true := by
  obtain ⟨fuel, hf⟩ := h
  rcases open_slice Try.underlying72 hf with ⟨hcs, _⟩ | ⟨a, len, c, m, n', D, Pl, hcs, _, hl, hm, hmm, _, hi⟩
  · simp [Value.cells] at hcs
    obtain ⟨rfl, rfl, rfl⟩ := hcs
    exact ⟨fun _ => ⟨0, 0, 0, 0, false⟩, .inl rfl, by unfold maxLen; omega, fun k hk => by omega⟩
  · simp [Value.cells] at hcs
    obtain ⟨rfl, rfl, rfl⟩ := hcs
    rw [hsp, if_pos rfl] at hmm
    have row : ∀ i, i < n → ∃ r : Rw, RowAt w a i r ∧ a.block < w.heap.size ∧ (Lit.int .i64 r.i).wf = true := fun i hin => by
      obtain ⟨cs', hc, ht⟩ := hi i (by omega)
      rw [cells_row] at hc
      obtain ⟨_, hcl, hat⟩ := World.cells?_some hc
      match cs', hcl with
      | [c0, c1, c2, c3, c4], _ =>
        obtain ⟨e0, e1, e2, e3, e4, rfl, rfl, rfl, rfl, rfl, _, wf0, _, _, _⟩ := trod_row ht
        have q0 := hat 0 (by omega)
        have q1 := hat 1 (by omega)
        have q2 := hat 2 (by omega)
        have q3 := hat 3 (by omega)
        have q4 := hat 4 (by omega)
        rw [add_zero'] at q0
        rw [add_pos _ _ (by decide)] at q1 q2 q3 q4
        refine ⟨⟨e0, e1, e2, e3, e4⟩, ⟨q0, q1, q2, q3, q4⟩, ?_, wf0⟩
        have hb := World.block_lt_of_cell? w _ q0
        rw [addr_block] at hb
        exact hb
    have ch : ∀ i, ∃ r : Rw, i < n → RowAt w a i r ∧ a.block < w.heap.size ∧ (Lit.int .i64 r.i).wf = true := fun i => by
      by_cases hin : i < n
      · obtain ⟨r, hr⟩ := row i hin
        exact ⟨r, fun _ => hr⟩
      · exact ⟨⟨0, 0, 0, 0, false⟩, fun h => absurd h hin⟩
    obtain ⟨R, hR⟩ := Classical.axiomOfChoice ch
    refine ⟨R, ?_, by omega, fun k hk => (hR k hk).2.2⟩
    by_cases h0 : n = 0
    · exact .inl h0
    · exact .inr ⟨a, rfl, (hR 0 (by omega)).2.1, fun k hk => (hR k hk).1⟩
theorem open_rows {H : Type} {enc : TypeId × Value → H} {w : World} {base : Nat} {spare : Nat → Bool} {held : Bool} {ao : Option Addr} {n cap : Nat} {d : DataW H} {p : List MemPlace}
    (hsp : ∀ b, spare b = true) (h : DataW.Trod enc Try.prog w base spare held 72 (.slice ao n cap) d p) : ∃ R : Nat → Rw, RowsArg w ao n R ∧ n ≤ maxLen := by
  obtain ⟨R, h1, h2, _⟩ := open_rowsW hsp h
  exact ⟨R, h1, h2⟩
end Go.Proofs.Ytcfcohnkkgickaa
