/-
  A row as an argument of a law: opened to its five values.
-/
import Derived.Test.YtcfcohnkkgickaaRows
import Derived.WalkKit
import Derived.ProofKit
import Derived.OpenShut
import Derived.ChangeSame
import Derived.Lib.SmallJoins
namespace Go.Proofs.Ytcfcohnkkgickaa
open Go.ChangeShapes Go.WideShapes Go.ChangeAt Go.RowKit Go.Joins

theorem cells_row : Try.prog.cellsOf 26 = 5 := by kernel_rfl
theorem cellsR_int : Try.prog.cellsOf 3 = 1 := by kernel_rfl
theorem cellsR_bool : Try.prog.cellsOf 4 = 1 := by kernel_rfl

theorem trod_row {H : Type} {enc : TypeId × Value → H} {w : World} {base : Nat} {spare : Nat → Bool} {held : Bool} {n : Nat} {c0 c1 c2 c3 c4 : Value} {y : DataW H × List MemPlace}
    (h : DataW.trod enc Try.prog w base spare held n 26 [c0, c1, c2, c3, c4] = some y) :
    ∃ (i g y' x : Int) (nl : Bool), c0 = .int .i64 i ∧ c1 = .int .i64 g ∧ c2 = .int .i64 y' ∧ c3 = .int .i64 x ∧ c4 = .bool nl ∧ y.2 = [] ∧ (Lit.int .i64 i).wf = true ∧ (Lit.int .i64 g).wf = true ∧ (Lit.int .i64 y').wf = true ∧ (Lit.int .i64 x).wf = true := by
  obtain ⟨xs, m, _, hx, _, hlen, hg⟩ := DataW.trod_struct Try.underlying26 h
  match xs, hlen with
  | [y0, y1, y2, y3, y4], _ =>
    have h0 : DataW.trod enc Try.prog w base spare held m 3 (([c0, c1, c2, c3, c4].drop 0).take (Try.prog.cellsOf 3)) = some y0 := hg 0 _ rfl
    have h1 : DataW.trod enc Try.prog w base spare held m 3 (([c0, c1, c2, c3, c4].drop 1).take (Try.prog.cellsOf 3)) = some y1 := hg 1 _ rfl
    have h2 : DataW.trod enc Try.prog w base spare held m 3 (([c0, c1, c2, c3, c4].drop 2).take (Try.prog.cellsOf 3)) = some y2 := hg 2 _ rfl
    have h3 : DataW.trod enc Try.prog w base spare held m 3 (([c0, c1, c2, c3, c4].drop 3).take (Try.prog.cellsOf 3)) = some y3 := hg 3 _ rfl
    have h4 : DataW.trod enc Try.prog w base spare held m 4 (([c0, c1, c2, c3, c4].drop 4).take (Try.prog.cellsOf 4)) = some y4 := hg 4 _ rfl
    simp only [cellsR_int, cellsR_bool, List.drop_zero, List.drop_succ_cons, List.take_succ_cons, List.take_zero] at h0 h1 h2 h3 h4
    obtain ⟨a, e0, rfl, wa⟩ := DataW.trod_int Try.underlying3 h0
    obtain ⟨b, e1, rfl, wb⟩ := DataW.trod_int Try.underlying3 h1
    obtain ⟨c, e2, rfl, wc⟩ := DataW.trod_int Try.underlying3 h2
    obtain ⟨d, e3, rfl, wd⟩ := DataW.trod_int Try.underlying3 h3
    obtain ⟨e, e4, rfl⟩ := DataW.trod_bool Try.underlying4 h4
    simp only [List.cons.injEq, and_true] at e0 e1 e2 e3 e4
    exact ⟨a, b, c, d, e, e0, e1, e2, e3, e4, by rw [hx]; rfl, wa, wb, wc, wd⟩

set_option maxRecDepth 100000 in
theorem open_row {H : Type} {enc : TypeId × Value → H} {w : World} {base : Nat} {spare : Nat → Bool} {held : Bool} {r : Reach} {b0 : Nat} {v : Value} {d : DataW H} {p : List MemPlace}
    (hv : Value.okWide Try.prog w r b0 26 v) (h : DataW.Trod enc Try.prog w base spare held 26 v d p) :
    ∃ (i g y x : Int) (nl : Bool), v = .agg #[.int .i64 i, .int .i64 g, .int .i64 y, .int .i64 x, .bool nl] ∧ (Lit.int .i64 i).wf = true ∧ (Lit.int .i64 g).wf = true ∧ (Lit.int .i64 y).wf = true ∧ (Lit.int .i64 x).wf = true := by
  obtain ⟨cs, rfl, hsz⟩ := okWide_struct Try.underlying26 hv
  obtain ⟨l⟩ := cs
  match l, hsz.trans cells_row with
  | [c0, c1, c2, c3, c4], _ =>
    obtain ⟨fuel, hf⟩ := h
    obtain ⟨i, g, y, x, nl, rfl, rfl, rfl, rfl, rfl, _, w1, w2, w3, w4⟩ := trod_row (show DataW.trod enc Try.prog w base spare held fuel 26 [c0, c1, c2, c3, c4] = some (d, p) from hf)
    exact ⟨i, g, y, x, nl, rfl, w1, w2, w3, w4⟩
end Go.Proofs.Ytcfcohnkkgickaa
