/-
  A block as an argument of a law: opened to its ID and its rows.
-/
import Derived.Test.YtcfcohnkkgickaaRows
import Derived.Test.YtcfcohnkkgickaaRowsArg
import Derived.WalkKit
import Derived.ProofKit
import Derived.OpenShut
import Derived.ChangeSame
import Derived.Lib.SmallJoins
namespace Go.Proofs.Ytcfcohnkkgickaa
open Go.ChangeShapes Go.WideShapes Go.ChangeAt Go.RowKit Go.Joins

theorem cells_blk : Try.prog.cellsOf 74 = 2 := by kernel_rfl

set_option maxRecDepth 100000 in
theorem open_blk {H : Type} {enc : TypeId × Value → H} {w : World} {base : Nat} {spare : Nat → Bool} {held : Bool} {r : Reach} {b0 : Nat} {v : Value} {d : DataW H} {p : List MemPlace}
    (hv : Value.okWide Try.prog w r b0 74 v) (h : DataW.Trod enc Try.prog w base spare held 74 v d p) (hsp : ∀ b, spare b = true) :
    ∃ (id : Int) (ao : Option Addr) (n cap : Nat) (R : Nat → Rw), v = .agg #[.int .i64 id, .slice ao n cap] ∧ (Lit.int .i64 id).wf = true ∧ RowsArg w ao n R ∧ n ≤ maxLen := by
  obtain ⟨c0, c1, y0, y1, m, rfl, rfl, rfl, hy0, hy1⟩ := open_agg2 Try.underlying74 (by kernel_rfl) cells_blk hv h
  obtain ⟨a, e0, rfl, wa⟩ := DataW.trod_int Try.underlying3 hy0
  simp at e0
  subst e0
  have hs : ∃ ao n cap, c1 = .slice ao n cap := by
    rcases Go.Deep.open_slice Try.underlying72 hy1 with ⟨hcs, _⟩ | ⟨x, len, c, _, _, _, _, hcs, _⟩
    · simp at hcs; exact ⟨_, _, _, hcs⟩
    · simp at hcs; exact ⟨_, _, _, hcs⟩
  obtain ⟨ao, n, cap, rfl⟩ := hs
  obtain ⟨R, hR, hn⟩ := open_rows (ao := ao) (n := n) (cap := cap) (d := y1.1) (p := y1.2) hsp ⟨m, hy1⟩
  exact ⟨a, ao, n, cap, R, rfl, wa, hR, hn⟩
end Go.Proofs.Ytcfcohnkkgickaa
