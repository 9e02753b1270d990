/-
  A table as an argument of a law: opened to its version and its blocks.
-/
import Derived.Test.YtcfcohnkkgickaaDoorRows
import Derived.Test.YtcfcohnkkgickaaDoorBlkArg
import Derived.Test.YtcfcohnkkgickaaDoorTbLaw
import Derived.WalkKit
import Derived.ProofKit
import Derived.OpenShut
import Derived.ChangeSame
import Derived.Lib.SmallJoins
namespace Go.Proofs.YtcfcohnkkgickaaDoor
open Go.ChangeShapes Go.WideShapes Go.ChangeAt Go.RowKit Go.Joins Go.Deep

theorem cellsR_rows : Tryd.prog.cellsOf 22 = 1 := by kernel_rfl

/-- The cells of a block that came in. -/
theorem trod_blk {H : Type} {enc : TypeId × Value → H} {w : World} {base : Nat} {spare : Nat → Bool} {held : Bool} {n : Nat} {c0 c1 : Value} {y : DataW H × List MemPlace} (hsp : ∀ b, spare b = true)
    (h : DataW.trod enc Tryd.prog w base spare held n 24 [c0, c1] = some y) :
    ∃ (id : Int) (rao : Option Addr) (rn rcap : Nat) (R : Nat → Rw), c0 = .int .i64 id ∧ c1 = .slice rao rn rcap ∧ RowsArg w rao rn R ∧ rn ≤ maxLen ∧ ∀ k, k < rn → (Lit.int .i64 (R k).i).wf = true := by
  obtain ⟨xs, m, _, hx, _, hlen, hg⟩ := DataW.trod_struct Tryd.underlying24 h
  match xs, hlen with
  | [y0, y1], _ =>
    have h0 : DataW.trod enc Tryd.prog w base spare held m 3 (([c0, c1].drop 0).take (Tryd.prog.cellsOf 3)) = some y0 := hg 0 _ rfl
    have h1 : DataW.trod enc Tryd.prog w base spare held m 22 (([c0, c1].drop 1).take (Tryd.prog.cellsOf 22)) = some y1 := hg 1 _ rfl
    simp only [cellsR_int, cellsR_rows, List.drop_zero, List.drop_succ_cons, List.take_succ_cons, List.take_zero] at h0 h1
    obtain ⟨a, e0, rfl, wa⟩ := DataW.trod_int Tryd.underlying3 h0
    simp only [List.cons.injEq, and_true] at e0
    have hs : ∃ ao n cap, c1 = .slice ao n cap := by
      rcases Go.Deep.open_slice Tryd.underlying22 h1 with ⟨hcs, _⟩ | ⟨x, len, c, _, _, _, _, hcs, _⟩
      · simp at hcs; exact ⟨_, _, _, hcs⟩
      · simp at hcs; exact ⟨_, _, _, hcs⟩
    obtain ⟨ao, n, cap, rfl⟩ := hs
    obtain ⟨R, hR, hn, hw⟩ := open_rowsW (ao := ao) (n := n) (cap := cap) (d := y1.1) (p := y1.2) hsp ⟨m, h1⟩
    exact ⟨a, ao, n, cap, R, e0, rfl, hR, hn, hw⟩

theorem open_blks {H : Type} {enc : TypeId × Value → H} {w : World} {base : Nat} {spare : Nat → Bool} {held : Bool} {ao : Option Addr} {n cap : Nat} {d : DataW H} {p : List MemPlace}
    (hsp : ∀ b, spare b = true) (h : DataW.Trod enc Tryd.prog w base spare held 33 (.slice ao n cap) d p) : ∃ B : Nat → Blk, BlksArg w ao n B ∧ n ≤ maxLen ∧ WfB n B := by
  obtain ⟨fuel, hf⟩ := h
  rcases open_slice Tryd.underlying33 hf with ⟨hcs, _⟩ | ⟨a, len, c, m, n', D, Pl, hcs, _, hl, hm, hmm, _, hi⟩
  · simp [Value.cells] at hcs
    obtain ⟨rfl, rfl, rfl⟩ := hcs
    exact ⟨fun _ => ⟨0, []⟩, .inl rfl, by unfold maxLen; omega, fun k hk => by omega⟩
  · simp [Value.cells] at hcs
    obtain ⟨rfl, rfl, rfl⟩ := hcs
    rw [hsp, if_pos rfl] at hmm
    have row : ∀ i, i < n → ∃ b : Blk, BlkAt w a i b ∧ a.block < w.heap.size ∧ ∀ j, j < b.rows.length → (Lit.int .i64 (Rn b.rows j).i).wf = true := fun i hin => by
      obtain ⟨cs', hc, ht⟩ := hi i (by omega)
      rw [cells_blk] at hc
      obtain ⟨_, hcl, hat⟩ := World.cells?_some hc
      match cs', hcl with
      | [c0, c1], _ =>
        obtain ⟨id, rao, rn, rcap, R, rfl, rfl, hR, hrn, hrw⟩ := trod_blk hsp ht
        have q0 := hat 0 (by omega)
        have q1 := hat 1 (by omega)
        rw [add_zero'] at q0
        rw [add_pos _ _ (by decide)] at q1
        refine ⟨⟨id, lst rn R⟩, ⟨rao, rn, rcap, R, q0, q1, hR, hrn, rfl⟩, ?_, fun j hj => by
          have hj' : j < rn := by simpa only [lst_len] using hj
          show (Lit.int .i64 (Rn (lst rn R) j).i).wf = true
          rw [Rn_lst hj']; exact hrw j hj'⟩
        have hb := World.block_lt_of_cell? w _ q0
        rw [addr_block] at hb
        exact hb
    have ch : ∀ i, ∃ b : Blk, i < n → BlkAt w a i b ∧ a.block < w.heap.size ∧ ∀ j, j < b.rows.length → (Lit.int .i64 (Rn b.rows j).i).wf = true := fun i => by
      by_cases hin : i < n
      · obtain ⟨r, hr⟩ := row i hin
        exact ⟨r, fun _ => hr⟩
      · exact ⟨⟨0, []⟩, fun h => absurd h hin⟩
    obtain ⟨B, hB⟩ := Classical.axiomOfChoice ch
    refine ⟨B, ?_, by omega, fun k hk => (hB k hk).2.2⟩
    by_cases h0 : n = 0
    · exact .inl h0
    · exact .inr ⟨a, rfl, (hB 0 (by omega)).2.1, fun k hk => (hB k hk).1⟩

theorem cells_tbl : Tryd.prog.cellsOf 35 = 2 := by kernel_rfl

set_option maxRecDepth 100000 in
theorem open_tbl {H : Type} {enc : TypeId × Value → H} {w : World} {base : Nat} {spare : Nat → Bool} {held : Bool} {r : Reach} {b0 : Nat} {v : Value} {d : DataW H} {p : List MemPlace}
    (hv : Value.okWide Tryd.prog w r b0 35 v) (h : DataW.Trod enc Tryd.prog w base spare held 35 v d p) (hsp : ∀ b, spare b = true) :
    ∃ (ver : Int) (ao : Option Addr) (n cap : Nat) (B : Nat → Blk), v = .agg #[.int .i64 ver, .slice ao n cap] ∧ (Lit.int .i64 ver).wf = true ∧ BlksArg w ao n B ∧ n ≤ maxLen ∧ WfB n B := by
  obtain ⟨c0, c1, y0, y1, m, rfl, rfl, rfl, hy0, hy1⟩ := open_agg2 Tryd.underlying35 (by kernel_rfl) cells_tbl hv h
  obtain ⟨a, e0, rfl, wa⟩ := DataW.trod_int Tryd.underlying3 hy0
  simp at e0
  subst e0
  have hs : ∃ ao n cap, c1 = .slice ao n cap := by
    rcases Go.Deep.open_slice Tryd.underlying33 hy1 with ⟨hcs, _⟩ | ⟨x, len, c, _, _, _, _, hcs, _⟩
    · simp at hcs; exact ⟨_, _, _, hcs⟩
    · simp at hcs; exact ⟨_, _, _, hcs⟩
  obtain ⟨ao, n, cap, rfl⟩ := hs
  obtain ⟨B, hB, hn, hw⟩ := open_blks (ao := ao) (n := n) (cap := cap) (d := y1.1) (p := y1.2) hsp ⟨m, hy1⟩
  exact ⟨a, ao, n, cap, B, rfl, wa, hB, hn, hw⟩
end Go.Proofs.YtcfcohnkkgickaaDoor
