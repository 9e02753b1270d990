/-
  A change as an argument of a law: opened to its seven values.
-/
import Derived.Test.YtcfcohnkkgickaaRows
import Derived.Test.YtcfcohnkkgickaaRowArg
import Derived.WalkKit
import Derived.ProofKit
import Derived.OpenShut
import Derived.ChangeSame
import Derived.Lib.SmallJoins
namespace Go.Proofs.Ytcfcohnkkgickaa
open Go.ChangeShapes Go.WideShapes Go.ChangeAt Go.RowKit Go.Joins

theorem cells_chg : Try.prog.cellsOf 28 = 7 := by kernel_rfl

theorem trod_chg {H : Type} {enc : TypeId × Value → H} {w : World} {base : Nat} {spare : Nat → Bool} {held : Bool} {n : Nat} {c0 c1 c2 c3 c4 c5 c6 : Value} {y : DataW H × List MemPlace}
    (h : DataW.trod enc Try.prog w base spare held n 28 [c0, c1, c2, c3, c4, c5, c6] = some y) :
    ∃ (k b i g y' x : Int) (nl : Bool), c0 = .int .i64 k ∧ c1 = .int .i64 b ∧ c2 = .int .i64 i ∧ c3 = .int .i64 g ∧ c4 = .int .i64 y' ∧ c5 = .int .i64 x ∧ c6 = .bool nl ∧ (Lit.int .i64 k).wf = true ∧ (Lit.int .i64 b).wf = true ∧ (Lit.int .i64 i).wf = true ∧ (Lit.int .i64 g).wf = true ∧ (Lit.int .i64 y').wf = true ∧ (Lit.int .i64 x).wf = true := by
  obtain ⟨xs, m, _, hx, _, hlen, hg⟩ := DataW.trod_struct Try.underlying28 h
  match xs, hlen with
  | [y0, y1, y2], _ =>
    have h0 : DataW.trod enc Try.prog w base spare held m 3 (([c0, c1, c2, c3, c4, c5, c6].drop 0).take (Try.prog.cellsOf 3)) = some y0 := hg 0 _ rfl
    have h1 : DataW.trod enc Try.prog w base spare held m 3 (([c0, c1, c2, c3, c4, c5, c6].drop 1).take (Try.prog.cellsOf 3)) = some y1 := hg 1 _ rfl
    have h2 : DataW.trod enc Try.prog w base spare held m 26 (([c0, c1, c2, c3, c4, c5, c6].drop 2).take (Try.prog.cellsOf 26)) = some y2 := hg 2 _ rfl
    simp only [cellsR_int, cells_row, List.drop_zero, List.drop_succ_cons, List.take_succ_cons, List.take_zero] at h0 h1 h2
    obtain ⟨a, e0, rfl, wa⟩ := DataW.trod_int Try.underlying3 h0
    obtain ⟨b, e1, rfl, wb⟩ := DataW.trod_int Try.underlying3 h1
    obtain ⟨i, g, y', x, nl, e2, e3, e4, e5, e6, _, w1, w2, w3, w4⟩ := trod_row h2
    simp only [List.cons.injEq, and_true] at e0 e1
    exact ⟨a, b, i, g, y', x, nl, e0, e1, e2, e3, e4, e5, e6, wa, wb, w1, w2, w3, w4⟩

set_option maxRecDepth 100000 in
theorem open_chg {H : Type} {enc : TypeId × Value → H} {w : World} {base : Nat} {spare : Nat → Bool} {held : Bool} {r : Reach} {b0 : Nat} {v : Value} {d : DataW H} {p : List MemPlace}
    (hv : Value.okWide Try.prog w r b0 28 v) (h : DataW.Trod enc Try.prog w base spare held 28 v d p) :
    ∃ (k b i g y x : Int) (nl : Bool), v = .agg #[.int .i64 k, .int .i64 b, .int .i64 i, .int .i64 g, .int .i64 y, .int .i64 x, .bool nl] ∧ (Lit.int .i64 k).wf = true ∧ (Lit.int .i64 b).wf = true ∧ (Lit.int .i64 i).wf = true ∧ (Lit.int .i64 g).wf = true ∧ (Lit.int .i64 y).wf = true ∧ (Lit.int .i64 x).wf = true := by
  obtain ⟨cs, rfl, hsz⟩ := okWide_struct Try.underlying28 hv
  obtain ⟨l⟩ := cs
  match l, hsz.trans cells_chg with
  | [c0, c1, c2, c3, c4, c5, c6], _ =>
    obtain ⟨fuel, hf⟩ := h
    obtain ⟨k, b, i, g, y, x, nl, rfl, rfl, rfl, rfl, rfl, rfl, rfl, w1, w2, w3, w4, w5, w6⟩ := trod_chg (show DataW.trod enc Try.prog w base spare held fuel 28 [c0, c1, c2, c3, c4, c5, c6] = some (d, p) from hf)
    exact ⟨k, b, i, g, y, x, nl, rfl, w1, w2, w3, w4, w5, w6⟩
end Go.Proofs.Ytcfcohnkkgickaa
