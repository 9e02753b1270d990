/-
  A summary as an argument of a law: opened to its six numbers and its cells.
-/
import Derived.Test.YtcfcohnkkgickaaRows
import Derived.Test.YtcfcohnkkgickaaIntArg
import Derived.WalkKit
import Derived.ProofKit
import Derived.OpenShut
import Derived.ChangeSame
import Derived.Lib.SmallJoins
namespace Go.Proofs.Ytcfcohnkkgickaa
open Go.ChangeShapes Go.WideShapes Go.ChangeAt Go.RowKit Go.Joins

theorem cells_sum : Try.prog.cellsOf 87 = 7 := by kernel_rfl
theorem cells_ints : Try.prog.cellsOf 45 = 1 := by kernel_rfl

theorem trod_sum {H : Type} {enc : TypeId × Value → H} {w : World} {base : Nat} {spare : Nat → Bool} {held : Bool} {n : Nat} {c0 c1 c2 c3 c4 c5 c6 : Value} {y : DataW H × List MemPlace} (hsp : ∀ b, spare b = true)
    (h : DataW.trod enc Try.prog w base spare held n 87 [c0, c1, c2, c3, c4, c5, c6] = some y) :
    ∃ (b c u mn mx sm : Int) (ao : Option Addr) (m cap : Nat) (R : Nat → Int), c0 = .int .i64 b ∧ c1 = .int .i64 c ∧ c2 = .int .i64 u ∧ c3 = .int .i64 mn ∧ c4 = .int .i64 mx ∧ c5 = .int .i64 sm ∧ c6 = .slice ao m cap ∧ (Lit.int .i64 b).wf = true ∧ (Lit.int .i64 c).wf = true ∧ (Lit.int .i64 u).wf = true ∧ (Lit.int .i64 mn).wf = true ∧ (Lit.int .i64 mx).wf = true ∧ (Lit.int .i64 sm).wf = true ∧ IntsArg w ao m R ∧ m ≤ maxLen := by
  obtain ⟨xs, m, _, hx, _, hlen, hg⟩ := DataW.trod_struct Try.underlying87 h
  match xs, hlen with
  | [y0, y1, y2, y3, y4, y5, y6], _ =>
    have h0 : DataW.trod enc Try.prog w base spare held m 3 (([c0, c1, c2, c3, c4, c5, c6].drop 0).take (Try.prog.cellsOf 3)) = some y0 := hg 0 _ rfl
    have h1 : DataW.trod enc Try.prog w base spare held m 3 (([c0, c1, c2, c3, c4, c5, c6].drop 1).take (Try.prog.cellsOf 3)) = some y1 := hg 1 _ rfl
    have h2 : DataW.trod enc Try.prog w base spare held m 3 (([c0, c1, c2, c3, c4, c5, c6].drop 2).take (Try.prog.cellsOf 3)) = some y2 := hg 2 _ rfl
    have h3 : DataW.trod enc Try.prog w base spare held m 3 (([c0, c1, c2, c3, c4, c5, c6].drop 3).take (Try.prog.cellsOf 3)) = some y3 := hg 3 _ rfl
    have h4 : DataW.trod enc Try.prog w base spare held m 3 (([c0, c1, c2, c3, c4, c5, c6].drop 4).take (Try.prog.cellsOf 3)) = some y4 := hg 4 _ rfl
    have h5 : DataW.trod enc Try.prog w base spare held m 3 (([c0, c1, c2, c3, c4, c5, c6].drop 5).take (Try.prog.cellsOf 3)) = some y5 := hg 5 _ rfl
    have h6 : DataW.trod enc Try.prog w base spare held m 45 (([c0, c1, c2, c3, c4, c5, c6].drop 6).take (Try.prog.cellsOf 45)) = some y6 := hg 6 _ rfl
    simp only [cellsI_int, cells_ints, List.drop_zero, List.drop_succ_cons, List.take_succ_cons, List.take_zero] at h0 h1 h2 h3 h4 h5 h6
    obtain ⟨a, e0, rfl, wa⟩ := DataW.trod_int Try.underlying3 h0
    obtain ⟨b, e1, rfl, wb⟩ := DataW.trod_int Try.underlying3 h1
    obtain ⟨c, e2, rfl, wc⟩ := DataW.trod_int Try.underlying3 h2
    obtain ⟨d, e3, rfl, wd⟩ := DataW.trod_int Try.underlying3 h3
    obtain ⟨e, e4, rfl, we⟩ := DataW.trod_int Try.underlying3 h4
    obtain ⟨f, e5, rfl, wf⟩ := DataW.trod_int Try.underlying3 h5
    simp only [List.cons.injEq, and_true] at e0 e1 e2 e3 e4 e5
    have hs : ∃ ao n cap, c6 = .slice ao n cap := by
      rcases Go.Deep.open_slice Try.underlying45 h6 with ⟨hcs, _⟩ | ⟨x, len, cc, _, _, _, _, hcs, _⟩
      · simp at hcs; exact ⟨_, _, _, hcs⟩
      · simp at hcs; exact ⟨_, _, _, hcs⟩
    obtain ⟨ao, n, cap, rfl⟩ := hs
    obtain ⟨R, hR, hn⟩ := open_intsA (ao := ao) (n := n) (cap := cap) (d := y6.1) (p := y6.2) hsp ⟨m, h6⟩
    exact ⟨a, b, c, d, e, f, ao, n, cap, R, e0, e1, e2, e3, e4, e5, rfl, wa, wb, wc, wd, we, wf, hR, hn⟩

set_option maxRecDepth 100000 in
theorem open_sum {H : Type} {enc : TypeId × Value → H} {w : World} {base : Nat} {spare : Nat → Bool} {held : Bool} {r : Reach} {b0 : Nat} {v : Value} {d : DataW H} {p : List MemPlace}
    (hv : Value.okWide Try.prog w r b0 87 v) (h : DataW.Trod enc Try.prog w base spare held 87 v d p) (hsp : ∀ b, spare b = true) :
    ∃ (b c u mn mx sm : Int) (ao : Option Addr) (m cap : Nat) (R : Nat → Int), v = .agg #[.int .i64 b, .int .i64 c, .int .i64 u, .int .i64 mn, .int .i64 mx, .int .i64 sm, .slice ao m cap] ∧ (Lit.int .i64 b).wf = true ∧ (Lit.int .i64 c).wf = true ∧ (Lit.int .i64 u).wf = true ∧ (Lit.int .i64 mn).wf = true ∧ (Lit.int .i64 mx).wf = true ∧ (Lit.int .i64 sm).wf = true ∧ IntsArg w ao m R ∧ m ≤ maxLen := by
  obtain ⟨cs, rfl, hsz⟩ := okWide_struct Try.underlying87 hv
  obtain ⟨l⟩ := cs
  match l, hsz.trans cells_sum with
  | [c0, c1, c2, c3, c4, c5, c6], _ =>
    obtain ⟨fuel, hf⟩ := h
    obtain ⟨b, c, u, mn, mx, sm, ao, m, cap, R, rfl, rfl, rfl, rfl, rfl, rfl, rfl, hh⟩ := trod_sum hsp (show DataW.trod enc Try.prog w base spare held fuel 87 [c0, c1, c2, c3, c4, c5, c6] = some (d, p) from hf)
    exact ⟨b, c, u, mn, mx, sm, ao, m, cap, R, rfl, hh⟩
end Go.Proofs.Ytcfcohnkkgickaa
