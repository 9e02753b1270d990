/-
  An interval as an argument of a law: opened to its four numbers, and shut again.
-/
import Derived.Test.YtdfmidihghoilaaRows
import Derived.Test.YtdfmidihghoilaaFracArg
import Derived.WalkKit
import Derived.ProofKit
import Derived.OpenShut
import Derived.ChangeSame
import Derived.Lib.SmallJoins
namespace Go.Proofs.Ytdfmidihghoilaa
open Go.ChangeShapes Go.WideShapes Go.ChangeAt Go.RowKit Go.Joins

theorem cells_iv : Try.prog.cellsOf 25 = 4 := by kernel_rfl
theorem cells_int : Try.prog.cellsOf 3 = 1 := by kernel_rfl

theorem trod_frac {H : Type} {enc : TypeId × Value → H} {w : World} {base : Nat} {spare : Nat → Bool} {held : Bool} {n : Nat} {c0 c1 : Value} {y : DataW H × List MemPlace}
    (h : DataW.trod enc Try.prog w base spare held n 23 [c0, c1] = some y) :
    ∃ a b : Int, c0 = .int .i64 a ∧ c1 = .int .i64 b ∧ y = (.agg [.lit (.int .i64 a), .lit (.int .i64 b)], []) ∧ (Lit.int .i64 a).wf = true ∧ (Lit.int .i64 b).wf = true := by
  obtain ⟨y0, y1, m, rfl, _, h0, h1⟩ := trod_struct2 Try.underlying23 h
  simp only [cells_int, List.drop_zero, List.drop_succ_cons, List.take_succ_cons, List.take_zero] at h0 h1
  obtain ⟨a, e0, rfl, wa⟩ := DataW.trod_int Try.underlying3 h0
  obtain ⟨b, e1, rfl, wb⟩ := DataW.trod_int Try.underlying3 h1
  simp at e0 e1
  subst e0 e1
  exact ⟨a, b, rfl, rfl, rfl, wa, wb⟩

set_option maxRecDepth 100000 in
theorem open_iv {H : Type} {enc : TypeId × Value → H} {w : World} {base : Nat} {spare : Nat → Bool} {held : Bool} {r : Reach} {b0 : Nat} {v : Value} {d : DataW H} {p : List MemPlace}
    (hv : Value.okWide Try.prog w r b0 25 v) (h : DataW.Trod enc Try.prog w base spare held 25 v d p) :
    ∃ x y u v' : Int, v = .agg #[.int .i64 x, .int .i64 y, .int .i64 u, .int .i64 v'] ∧ d = .agg [.agg [.lit (.int .i64 x), .lit (.int .i64 y)], .agg [.lit (.int .i64 u), .lit (.int .i64 v')]] ∧ p = [] ∧
      (Lit.int .i64 x).wf = true ∧ (Lit.int .i64 y).wf = true ∧ (Lit.int .i64 u).wf = true ∧ (Lit.int .i64 v').wf = true := by
  obtain ⟨cs, rfl, hsz⟩ := okWide_struct Try.underlying25 hv
  obtain ⟨c0, c1, c2, c3, rfl⟩ := array4 (hsz.trans cells_iv)
  obtain ⟨fuel, hf⟩ := h
  obtain ⟨y0, y1, n, hx, _, h0, h1⟩ := trod_struct2 Try.underlying25 hf
  simp only [cells_frac, Value.cells, List.drop_zero, List.drop_succ_cons, List.take_succ_cons, List.take_zero] at h0 h1
  obtain ⟨a, b, rfl, rfl, rfl, wa, wb⟩ := trod_frac h0
  obtain ⟨c, e, rfl, rfl, rfl, wc, we⟩ := trod_frac h1
  simp only [Prod.mk.injEq] at hx
  obtain ⟨rfl, rfl⟩ := hx
  exact ⟨a, b, c, e, rfl, rfl, rfl, wa, wb, wc, we⟩

set_option maxRecDepth 100000 in
theorem shut_iv {H : Type} {enc : TypeId × Value → H} {w : World} {base : Nat} {spare : Nat → Bool} {held : Bool} {x y u v : Int} (wx : (Lit.int .i64 x).wf = true) (wy : (Lit.int .i64 y).wf = true) (wu : (Lit.int .i64 u).wf = true) (wv : (Lit.int .i64 v).wf = true) :
    DataW.Trod enc Try.prog w base spare held 25 (.agg #[.int .i64 x, .int .i64 y, .int .i64 u, .int .i64 v]) (.agg [.agg [.lit (.int .i64 x), .lit (.int .i64 y)], .agg [.lit (.int .i64 u), .lit (.int .i64 v)]]) [] := by
  have fr : ∀ a b : Int, (Lit.int .i64 a).wf = true → (Lit.int .i64 b).wf = true → DataW.trod enc Try.prog w base spare held 2 23 [.int .i64 a, .int .i64 b] = some (.agg [.lit (.int .i64 a), .lit (.int .i64 b)], []) := fun a b wa wb =>
    trod_struct2_mk (n := 1) (cs := [.int .i64 a, .int .i64 b]) (y0 := (.lit (.int .i64 a), [])) (y1 := (.lit (.int .i64 b), [])) Try.underlying23 (by rw [cells_frac]; rfl)
      (by simp only [cells_int, List.drop_zero, List.take_succ_cons, List.take_zero]; exact trod_int_mk 0 Try.underlying3 wa) (by simp only [cells_int, List.drop_succ_cons, List.drop_zero, List.take_succ_cons, List.take_zero]; exact trod_int_mk 0 Try.underlying3 wb)
  refine ⟨3, ?_⟩
  exact trod_struct2_mk (n := 2) (cs := [.int .i64 x, .int .i64 y, .int .i64 u, .int .i64 v]) (y0 := (.agg [.lit (.int .i64 x), .lit (.int .i64 y)], [])) (y1 := (.agg [.lit (.int .i64 u), .lit (.int .i64 v)], [])) Try.underlying25 (by rw [cells_iv]; rfl)
    (by simp only [cells_frac, List.drop_zero, List.take_succ_cons, List.take_zero]; exact fr x y wx wy) (by simp only [cells_frac, List.drop_succ_cons, List.drop_zero, List.take_succ_cons, List.take_zero]; exact fr u v wu wv)
end Go.Proofs.Ytdfmidihghoilaa
