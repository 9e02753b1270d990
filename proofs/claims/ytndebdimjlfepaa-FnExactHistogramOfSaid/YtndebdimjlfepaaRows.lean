/-
  No cell of these rows narrows 'for every input' (looked for: loops, veiled, ifaces, maps, wideKeys, modest, calm, conditions, laid).
  DERIVED. THE GIVEN ROWS OF THIS SEAT. 16 by the template 'for every input the law returns true; each argument reads behind the call as it read before'; 0 by the template 'total and deterministic' (their statements: YtndebdimjlfepaaTotals.lean).
  GIVEN WITH THE SEED: the statements are not yours to turn. If you find one false, say at which input.
  Laid BY PROGRAM, IN A SANDBOX (cutbox-rows.mjs): the forced cells as the released guide's own fill.sh prints them over the translation b258a20e384ad8f4… (all of the seat's roots in one cut). By AI agents, Wed Nov 11 2026. No macro, syntax, notation, axiom, sorry.
-/
import Derived.Test.YtndebdimjlfepaaChecked
import GoSem.Claim
import GoSem.ClaimJoined
import GoSem.ClaimMapViews
import Derived.JoinedTies
import Derived.KernelRfl
namespace Go.Proofs.Ytndebdimjlfepaa
/- THE CELL 'sum', in the pinned program and in every row, IS THE sha256 OF THE DUMP (.gsa) THAT YtndebdimjlfepaaProg.lean LOADS. Nothing in Lean hashes anything: it is a label: what it is worth is what the hold of that sum in a sandbox is worth. -/
noncomputable def Try.pinned : Pinned := { name := "ytndebdimjlfepaa", sum := "b258a20e384ad8f41a7612e81e5e3f8398ec36460338e340a90bbe5145b0095c", checked := Try.checked }
namespace Rows
def none {H : Type} : Left H := { results := [], args := [] }

/-- 'laws.FnExactApplyChange': WHATEVER THE INPUT: true; the input reads as it did. -/
def fnExactApplyChangeSpec : ChangeSpec := { name := "fnExactApplyChange", fn := fun _ => fun
  | [d1, d2] => { results := [.lit (.bool true)], args := [d1, d2] }
  | _ => none }
def fnExactApplyChangeRow : OpenClaim := { program := "ytndebdimjlfepaa", sum := "b258a20e384ad8f41a7612e81e5e3f8398ec36460338e340a90bbe5145b0095c", func := "loop.example/g01927/laws.FnExactApplyChange", spec := "fnExactApplyChange", unfollowed := true, recurses := true, apart := false }
def FnExactApplyChangeSaid : Prop := fnExactApplyChangeRow.holds Try.pinned (OpenSpec.ofChange fnExactApplyChangeSpec)

/-- ITS FALSE NEIGHBOUR: 'it returns false'. Refute it at one input. -/
def fnExactApplyChangeWrong : ChangeSpec := { name := "fnExactApplyChange", fn := fun _ => fun
  | [d1, d2] => { results := [.lit (.bool false)], args := [d1, d2] }
  | _ => none }
def FnExactApplyChangeWrongFalsely : Prop := fnExactApplyChangeRow.holds Try.pinned (OpenSpec.ofChange fnExactApplyChangeWrong)

/-- 'laws.FnExactApplyChanges': WHATEVER THE INPUT: true; the input reads as it did. -/
def fnExactApplyChangesSpec : ChangeSpec := { name := "fnExactApplyChanges", fn := fun _ => fun
  | [d1, d2] => { results := [.lit (.bool true)], args := [d1, d2] }
  | _ => none }
def fnExactApplyChangesRow : OpenClaim := { program := "ytndebdimjlfepaa", sum := "b258a20e384ad8f41a7612e81e5e3f8398ec36460338e340a90bbe5145b0095c", func := "loop.example/g01927/laws.FnExactApplyChanges", spec := "fnExactApplyChanges", unfollowed := true, recurses := true, apart := false }
def FnExactApplyChangesSaid : Prop := fnExactApplyChangesRow.holds Try.pinned (OpenSpec.ofChange fnExactApplyChangesSpec)

/-- ITS FALSE NEIGHBOUR: 'it returns false'. Refute it at one input. -/
def fnExactApplyChangesWrong : ChangeSpec := { name := "fnExactApplyChanges", fn := fun _ => fun
  | [d1, d2] => { results := [.lit (.bool false)], args := [d1, d2] }
  | _ => none }
def FnExactApplyChangesWrongFalsely : Prop := fnExactApplyChangesRow.holds Try.pinned (OpenSpec.ofChange fnExactApplyChangesWrong)

/-- 'laws.FnExactBandOf': WHATEVER THE INPUT: true; the input reads as it did. -/
def fnExactBandOfSpec : ChangeSpec := { name := "fnExactBandOf", fn := fun _ => fun
  | [d] => { results := [.lit (.bool true)], args := [d] }
  | _ => none }
def fnExactBandOfRow : OpenClaim := { program := "ytndebdimjlfepaa", sum := "b258a20e384ad8f41a7612e81e5e3f8398ec36460338e340a90bbe5145b0095c", func := "loop.example/g01927/laws.FnExactBandOf", spec := "fnExactBandOf", apart := false }
def FnExactBandOfSaid : Prop := fnExactBandOfRow.holds Try.pinned (OpenSpec.ofChange fnExactBandOfSpec)

/-- ITS FALSE NEIGHBOUR: 'it returns false'. Refute it at one input. -/
def fnExactBandOfWrong : ChangeSpec := { name := "fnExactBandOf", fn := fun _ => fun
  | [d] => { results := [.lit (.bool false)], args := [d] }
  | _ => none }
def FnExactBandOfWrongFalsely : Prop := fnExactBandOfRow.holds Try.pinned (OpenSpec.ofChange fnExactBandOfWrong)

/-- 'laws.FnExactHistogramOf': WHATEVER THE INPUT: true; the input reads as it did. -/
def fnExactHistogramOfSpec : ChangeSpec := { name := "fnExactHistogramOf", fn := fun _ => fun
  | [d] => { results := [.lit (.bool true)], args := [d] }
  | _ => none }
def fnExactHistogramOfRow : OpenClaim := { program := "ytndebdimjlfepaa", sum := "b258a20e384ad8f41a7612e81e5e3f8398ec36460338e340a90bbe5145b0095c", func := "loop.example/g01927/laws.FnExactHistogramOf", spec := "fnExactHistogramOf", unfollowed := true, recurses := true, apart := false }
def FnExactHistogramOfSaid : Prop := fnExactHistogramOfRow.holds Try.pinned (OpenSpec.ofChange fnExactHistogramOfSpec)

/-- ITS FALSE NEIGHBOUR: 'it returns false'. Refute it at one input. -/
def fnExactHistogramOfWrong : ChangeSpec := { name := "fnExactHistogramOf", fn := fun _ => fun
  | [d] => { results := [.lit (.bool false)], args := [d] }
  | _ => none }
def FnExactHistogramOfWrongFalsely : Prop := fnExactHistogramOfRow.holds Try.pinned (OpenSpec.ofChange fnExactHistogramOfWrong)

/-- 'laws.FnExactIsHistogram': WHATEVER THE INPUT: true; the input reads as it did. -/
def fnExactIsHistogramSpec : ChangeSpec := { name := "fnExactIsHistogram", fn := fun _ => fun
  | [d] => { results := [.lit (.bool true)], args := [d] }
  | _ => none }
def fnExactIsHistogramRow : OpenClaim := { program := "ytndebdimjlfepaa", sum := "b258a20e384ad8f41a7612e81e5e3f8398ec36460338e340a90bbe5145b0095c", func := "loop.example/g01927/laws.FnExactIsHistogram", spec := "fnExactIsHistogram", apart := false }
def FnExactIsHistogramSaid : Prop := fnExactIsHistogramRow.holds Try.pinned (OpenSpec.ofChange fnExactIsHistogramSpec)

/-- ITS FALSE NEIGHBOUR: 'it returns false'. Refute it at one input. -/
def fnExactIsHistogramWrong : ChangeSpec := { name := "fnExactIsHistogram", fn := fun _ => fun
  | [d] => { results := [.lit (.bool false)], args := [d] }
  | _ => none }
def FnExactIsHistogramWrongFalsely : Prop := fnExactIsHistogramRow.holds Try.pinned (OpenSpec.ofChange fnExactIsHistogramWrong)

/-- 'laws.FnExactCellOf': WHATEVER THE INPUT: true; the input reads as it did. -/
def fnExactCellOfSpec : ChangeSpec := { name := "fnExactCellOf", fn := fun _ => fun
  | [d1, d2, d3] => { results := [.lit (.bool true)], args := [d1, d2, d3] }
  | _ => none }
def fnExactCellOfRow : OpenClaim := { program := "ytndebdimjlfepaa", sum := "b258a20e384ad8f41a7612e81e5e3f8398ec36460338e340a90bbe5145b0095c", func := "loop.example/g01927/laws.FnExactCellOf", spec := "fnExactCellOf", apart := false }
def FnExactCellOfSaid : Prop := fnExactCellOfRow.holds Try.pinned (OpenSpec.ofChange fnExactCellOfSpec)

/-- ITS FALSE NEIGHBOUR: 'it returns false'. Refute it at one input. -/
def fnExactCellOfWrong : ChangeSpec := { name := "fnExactCellOf", fn := fun _ => fun
  | [d1, d2, d3] => { results := [.lit (.bool false)], args := [d1, d2, d3] }
  | _ => none }
def FnExactCellOfWrongFalsely : Prop := fnExactCellOfRow.holds Try.pinned (OpenSpec.ofChange fnExactCellOfWrong)

/-- 'laws.FnExactTotalOf': WHATEVER THE INPUT: true; the input reads as it did. -/
def fnExactTotalOfSpec : ChangeSpec := { name := "fnExactTotalOf", fn := fun _ => fun
  | [d] => { results := [.lit (.bool true)], args := [d] }
  | _ => none }
def fnExactTotalOfRow : OpenClaim := { program := "ytndebdimjlfepaa", sum := "b258a20e384ad8f41a7612e81e5e3f8398ec36460338e340a90bbe5145b0095c", func := "loop.example/g01927/laws.FnExactTotalOf", spec := "fnExactTotalOf", apart := false }
def FnExactTotalOfSaid : Prop := fnExactTotalOfRow.holds Try.pinned (OpenSpec.ofChange fnExactTotalOfSpec)

/-- ITS FALSE NEIGHBOUR: 'it returns false'. Refute it at one input. -/
def fnExactTotalOfWrong : ChangeSpec := { name := "fnExactTotalOf", fn := fun _ => fun
  | [d] => { results := [.lit (.bool false)], args := [d] }
  | _ => none }
def FnExactTotalOfWrongFalsely : Prop := fnExactTotalOfRow.holds Try.pinned (OpenSpec.ofChange fnExactTotalOfWrong)

/-- 'laws.FnExactAddHistograms': WHATEVER THE INPUT: true; the input reads as it did. -/
def fnExactAddHistogramsSpec : ChangeSpec := { name := "fnExactAddHistograms", fn := fun _ => fun
  | [d1, d2] => { results := [.lit (.bool true)], args := [d1, d2] }
  | _ => none }
def fnExactAddHistogramsRow : OpenClaim := { program := "ytndebdimjlfepaa", sum := "b258a20e384ad8f41a7612e81e5e3f8398ec36460338e340a90bbe5145b0095c", func := "loop.example/g01927/laws.FnExactAddHistograms", spec := "fnExactAddHistograms", apart := false }
def FnExactAddHistogramsSaid : Prop := fnExactAddHistogramsRow.holds Try.pinned (OpenSpec.ofChange fnExactAddHistogramsSpec)

/-- ITS FALSE NEIGHBOUR: 'it returns false'. Refute it at one input. -/
def fnExactAddHistogramsWrong : ChangeSpec := { name := "fnExactAddHistograms", fn := fun _ => fun
  | [d1, d2] => { results := [.lit (.bool false)], args := [d1, d2] }
  | _ => none }
def FnExactAddHistogramsWrongFalsely : Prop := fnExactAddHistogramsRow.holds Try.pinned (OpenSpec.ofChange fnExactAddHistogramsWrong)

/-- 'laws.FnHistograms': WHATEVER THE INPUT: true; the input reads as it did. -/
def fnHistogramsSpec : ChangeSpec := { name := "fnHistograms", fn := fun _ => fun
  | [d] => { results := [.lit (.bool true)], args := [d] }
  | _ => none }
def fnHistogramsRow : OpenClaim := { program := "ytndebdimjlfepaa", sum := "b258a20e384ad8f41a7612e81e5e3f8398ec36460338e340a90bbe5145b0095c", func := "loop.example/g01927/laws.FnHistograms", spec := "fnHistograms", unfollowed := true, recurses := true, apart := false }
def FnHistogramsSaid : Prop := fnHistogramsRow.holds Try.pinned (OpenSpec.ofChange fnHistogramsSpec)

/-- ITS FALSE NEIGHBOUR: 'it returns false'. Refute it at one input. -/
def fnHistogramsWrong : ChangeSpec := { name := "fnHistograms", fn := fun _ => fun
  | [d] => { results := [.lit (.bool false)], args := [d] }
  | _ => none }
def FnHistogramsWrongFalsely : Prop := fnHistogramsRow.holds Try.pinned (OpenSpec.ofChange fnHistogramsWrong)

/-- 'laws.FnExactIsValidRow': WHATEVER THE INPUT: true; the input reads as it did. -/
def fnExactIsValidRowSpec : ChangeSpec := { name := "fnExactIsValidRow", fn := fun _ => fun
  | [d] => { results := [.lit (.bool true)], args := [d] }
  | _ => none }
def fnExactIsValidRowRow : OpenClaim := { program := "ytndebdimjlfepaa", sum := "b258a20e384ad8f41a7612e81e5e3f8398ec36460338e340a90bbe5145b0095c", func := "loop.example/g01927/laws.FnExactIsValidRow", spec := "fnExactIsValidRow", unfollowed := true, recurses := true, apart := false }
def FnExactIsValidRowSaid : Prop := fnExactIsValidRowRow.holds Try.pinned (OpenSpec.ofChange fnExactIsValidRowSpec)

/-- ITS FALSE NEIGHBOUR: 'it returns false'. Refute it at one input. -/
def fnExactIsValidRowWrong : ChangeSpec := { name := "fnExactIsValidRow", fn := fun _ => fun
  | [d] => { results := [.lit (.bool false)], args := [d] }
  | _ => none }
def FnExactIsValidRowWrongFalsely : Prop := fnExactIsValidRowRow.holds Try.pinned (OpenSpec.ofChange fnExactIsValidRowWrong)

/-- 'laws.FnExactAreRows': WHATEVER THE INPUT: true; the input reads as it did. -/
def fnExactAreRowsSpec : ChangeSpec := { name := "fnExactAreRows", fn := fun _ => fun
  | [d] => { results := [.lit (.bool true)], args := [d] }
  | _ => none }
def fnExactAreRowsRow : OpenClaim := { program := "ytndebdimjlfepaa", sum := "b258a20e384ad8f41a7612e81e5e3f8398ec36460338e340a90bbe5145b0095c", func := "loop.example/g01927/laws.FnExactAreRows", spec := "fnExactAreRows", unfollowed := true, recurses := true, apart := false }
def FnExactAreRowsSaid : Prop := fnExactAreRowsRow.holds Try.pinned (OpenSpec.ofChange fnExactAreRowsSpec)

/-- ITS FALSE NEIGHBOUR: 'it returns false'. Refute it at one input. -/
def fnExactAreRowsWrong : ChangeSpec := { name := "fnExactAreRows", fn := fun _ => fun
  | [d] => { results := [.lit (.bool false)], args := [d] }
  | _ => none }
def FnExactAreRowsWrongFalsely : Prop := fnExactAreRowsRow.holds Try.pinned (OpenSpec.ofChange fnExactAreRowsWrong)

/-- 'laws.FnExactIsValidBlock': WHATEVER THE INPUT: true; the input reads as it did. -/
def fnExactIsValidBlockSpec : ChangeSpec := { name := "fnExactIsValidBlock", fn := fun _ => fun
  | [d] => { results := [.lit (.bool true)], args := [d] }
  | _ => none }
def fnExactIsValidBlockRow : OpenClaim := { program := "ytndebdimjlfepaa", sum := "b258a20e384ad8f41a7612e81e5e3f8398ec36460338e340a90bbe5145b0095c", func := "loop.example/g01927/laws.FnExactIsValidBlock", spec := "fnExactIsValidBlock", unfollowed := true, recurses := true, apart := false }
def FnExactIsValidBlockSaid : Prop := fnExactIsValidBlockRow.holds Try.pinned (OpenSpec.ofChange fnExactIsValidBlockSpec)

/-- ITS FALSE NEIGHBOUR: 'it returns false'. Refute it at one input. -/
def fnExactIsValidBlockWrong : ChangeSpec := { name := "fnExactIsValidBlock", fn := fun _ => fun
  | [d] => { results := [.lit (.bool false)], args := [d] }
  | _ => none }
def FnExactIsValidBlockWrongFalsely : Prop := fnExactIsValidBlockRow.holds Try.pinned (OpenSpec.ofChange fnExactIsValidBlockWrong)

/-- 'laws.FnExactAddRow': WHATEVER THE INPUT: true; the input reads as it did. -/
def fnExactAddRowSpec : ChangeSpec := { name := "fnExactAddRow", fn := fun _ => fun
  | [d1, d2] => { results := [.lit (.bool true)], args := [d1, d2] }
  | _ => none }
def fnExactAddRowRow : OpenClaim := { program := "ytndebdimjlfepaa", sum := "b258a20e384ad8f41a7612e81e5e3f8398ec36460338e340a90bbe5145b0095c", func := "loop.example/g01927/laws.FnExactAddRow", spec := "fnExactAddRow", unfollowed := true, recurses := true, apart := false }
def FnExactAddRowSaid : Prop := fnExactAddRowRow.holds Try.pinned (OpenSpec.ofChange fnExactAddRowSpec)

/-- ITS FALSE NEIGHBOUR: 'it returns false'. Refute it at one input. -/
def fnExactAddRowWrong : ChangeSpec := { name := "fnExactAddRow", fn := fun _ => fun
  | [d1, d2] => { results := [.lit (.bool false)], args := [d1, d2] }
  | _ => none }
def FnExactAddRowWrongFalsely : Prop := fnExactAddRowRow.holds Try.pinned (OpenSpec.ofChange fnExactAddRowWrong)

/-- 'laws.FnExactRemoveRow': WHATEVER THE INPUT: true; the input reads as it did. -/
def fnExactRemoveRowSpec : ChangeSpec := { name := "fnExactRemoveRow", fn := fun _ => fun
  | [d1, d2] => { results := [.lit (.bool true)], args := [d1, d2] }
  | _ => none }
def fnExactRemoveRowRow : OpenClaim := { program := "ytndebdimjlfepaa", sum := "b258a20e384ad8f41a7612e81e5e3f8398ec36460338e340a90bbe5145b0095c", func := "loop.example/g01927/laws.FnExactRemoveRow", spec := "fnExactRemoveRow", unfollowed := true, recurses := true, apart := false }
def FnExactRemoveRowSaid : Prop := fnExactRemoveRowRow.holds Try.pinned (OpenSpec.ofChange fnExactRemoveRowSpec)

/-- ITS FALSE NEIGHBOUR: 'it returns false'. Refute it at one input. -/
def fnExactRemoveRowWrong : ChangeSpec := { name := "fnExactRemoveRow", fn := fun _ => fun
  | [d1, d2] => { results := [.lit (.bool false)], args := [d1, d2] }
  | _ => none }
def FnExactRemoveRowWrongFalsely : Prop := fnExactRemoveRowRow.holds Try.pinned (OpenSpec.ofChange fnExactRemoveRowWrong)

/-- 'laws.FnExactIsValidTable': WHATEVER THE INPUT: true; the input reads as it did. -/
def fnExactIsValidTableSpec : ChangeSpec := { name := "fnExactIsValidTable", fn := fun _ => fun
  | [d] => { results := [.lit (.bool true)], args := [d] }
  | _ => none }
def fnExactIsValidTableRow : OpenClaim := { program := "ytndebdimjlfepaa", sum := "b258a20e384ad8f41a7612e81e5e3f8398ec36460338e340a90bbe5145b0095c", func := "loop.example/g01927/laws.FnExactIsValidTable", spec := "fnExactIsValidTable", unfollowed := true, recurses := true, apart := false }
def FnExactIsValidTableSaid : Prop := fnExactIsValidTableRow.holds Try.pinned (OpenSpec.ofChange fnExactIsValidTableSpec)

/-- ITS FALSE NEIGHBOUR: 'it returns false'. Refute it at one input. -/
def fnExactIsValidTableWrong : ChangeSpec := { name := "fnExactIsValidTable", fn := fun _ => fun
  | [d] => { results := [.lit (.bool false)], args := [d] }
  | _ => none }
def FnExactIsValidTableWrongFalsely : Prop := fnExactIsValidTableRow.holds Try.pinned (OpenSpec.ofChange fnExactIsValidTableWrong)

/-- 'laws.FnExactIsValidChange': WHATEVER THE INPUT: true; the input reads as it did. -/
def fnExactIsValidChangeSpec : ChangeSpec := { name := "fnExactIsValidChange", fn := fun _ => fun
  | [d] => { results := [.lit (.bool true)], args := [d] }
  | _ => none }
def fnExactIsValidChangeRow : OpenClaim := { program := "ytndebdimjlfepaa", sum := "b258a20e384ad8f41a7612e81e5e3f8398ec36460338e340a90bbe5145b0095c", func := "loop.example/g01927/laws.FnExactIsValidChange", spec := "fnExactIsValidChange", unfollowed := true, recurses := true, apart := false }
def FnExactIsValidChangeSaid : Prop := fnExactIsValidChangeRow.holds Try.pinned (OpenSpec.ofChange fnExactIsValidChangeSpec)

/-- ITS FALSE NEIGHBOUR: 'it returns false'. Refute it at one input. -/
def fnExactIsValidChangeWrong : ChangeSpec := { name := "fnExactIsValidChange", fn := fun _ => fun
  | [d] => { results := [.lit (.bool false)], args := [d] }
  | _ => none }
def FnExactIsValidChangeWrongFalsely : Prop := fnExactIsValidChangeRow.holds Try.pinned (OpenSpec.ofChange fnExactIsValidChangeWrong)

/- THE SECOND FORM. 'bulk': how many values and letters a reading holds, each counted each time it is reached (what is shared counts as often as it is met; a slice's spare places count too). A statement '..UptoSaid' is the law's where the arguments, and the package variables that the reading takes, are together of bulk at most 1048576: NARROWER than '..Said'. Prove '..Said' where nothing that the law and all that it calls make is longer than what came in: it says more and counts as full. Else prove '..UptoSaid'. A law counts once. -/
mutual
def uptoBulk {H : Type} : DataW H → Nat
  | .lit (.string bytes) => bytes.length + 1
  | .lit _ => 1
  | .nil => 1
  | .ptr d => uptoBulk d + 1
  | .slice elems spare => uptoBulkAll elems + uptoBulkAll spare + 1
  | .agg parts => uptoBulkAll parts + 1
  | .iface _ d => uptoBulk d + 1
  | .map entries => uptoBulkEntries entries + 1
  | .held _ => 1
def uptoBulkAll {H : Type} : List (DataW H) → Nat
  | [] => 0
  | d :: r => uptoBulk d + uptoBulkAll r
def uptoBulkEntries {H : Type} : List (Lit × DataW H) → Nat
  | [] => 0
  | x :: r => uptoBulkEntry x + uptoBulkEntries r
def uptoBulkEntry {H : Type} : Lit × DataW H → Nat
  | (.string bytes, d) => bytes.length + uptoBulk d + 1
  | (_, d) => uptoBulk d + 1
 end
def uptoSmall : (H : Type) → List (DataW H) → Bool := fun _ ds => decide (uptoBulkAll ds ≤ 1048576)
def OpenSpec.upto (s : _root_.Go.ChangeSpec) : _root_.Go.OpenSpec := { _root_.Go.OpenSpec.ofChange s with cond := some uptoSmall }

/-- 'laws.FnExactApplyChange', WHERE WHAT IT READS IS OF BULK AT MOST 1048576: true; the input reads as it did. -/
def fnExactApplyChangeUptoRow : OpenClaim := { program := "ytndebdimjlfepaa", sum := "b258a20e384ad8f41a7612e81e5e3f8398ec36460338e340a90bbe5145b0095c", func := "loop.example/g01927/laws.FnExactApplyChange", spec := "fnExactApplyChange", unfollowed := true, recurses := true, apart := false, narrowed := true }
def FnExactApplyChangeUptoSaid : Prop := fnExactApplyChangeUptoRow.holds Try.pinned (OpenSpec.upto fnExactApplyChangeSpec)

/-- 'laws.FnExactApplyChanges', WHERE WHAT IT READS IS OF BULK AT MOST 1048576: true; the input reads as it did. -/
def fnExactApplyChangesUptoRow : OpenClaim := { program := "ytndebdimjlfepaa", sum := "b258a20e384ad8f41a7612e81e5e3f8398ec36460338e340a90bbe5145b0095c", func := "loop.example/g01927/laws.FnExactApplyChanges", spec := "fnExactApplyChanges", unfollowed := true, recurses := true, apart := false, narrowed := true }
def FnExactApplyChangesUptoSaid : Prop := fnExactApplyChangesUptoRow.holds Try.pinned (OpenSpec.upto fnExactApplyChangesSpec)

/-- 'laws.FnExactBandOf', WHERE WHAT IT READS IS OF BULK AT MOST 1048576: true; the input reads as it did. -/
def fnExactBandOfUptoRow : OpenClaim := { program := "ytndebdimjlfepaa", sum := "b258a20e384ad8f41a7612e81e5e3f8398ec36460338e340a90bbe5145b0095c", func := "loop.example/g01927/laws.FnExactBandOf", spec := "fnExactBandOf", apart := false, narrowed := true }
def FnExactBandOfUptoSaid : Prop := fnExactBandOfUptoRow.holds Try.pinned (OpenSpec.upto fnExactBandOfSpec)

/-- 'laws.FnExactHistogramOf', WHERE WHAT IT READS IS OF BULK AT MOST 1048576: true; the input reads as it did. -/
def fnExactHistogramOfUptoRow : OpenClaim := { program := "ytndebdimjlfepaa", sum := "b258a20e384ad8f41a7612e81e5e3f8398ec36460338e340a90bbe5145b0095c", func := "loop.example/g01927/laws.FnExactHistogramOf", spec := "fnExactHistogramOf", unfollowed := true, recurses := true, apart := false, narrowed := true }
def FnExactHistogramOfUptoSaid : Prop := fnExactHistogramOfUptoRow.holds Try.pinned (OpenSpec.upto fnExactHistogramOfSpec)

/-- 'laws.FnExactIsHistogram', WHERE WHAT IT READS IS OF BULK AT MOST 1048576: true; the input reads as it did. -/
def fnExactIsHistogramUptoRow : OpenClaim := { program := "ytndebdimjlfepaa", sum := "b258a20e384ad8f41a7612e81e5e3f8398ec36460338e340a90bbe5145b0095c", func := "loop.example/g01927/laws.FnExactIsHistogram", spec := "fnExactIsHistogram", apart := false, narrowed := true }
def FnExactIsHistogramUptoSaid : Prop := fnExactIsHistogramUptoRow.holds Try.pinned (OpenSpec.upto fnExactIsHistogramSpec)

/-- 'laws.FnExactCellOf', WHERE WHAT IT READS IS OF BULK AT MOST 1048576: true; the input reads as it did. -/
def fnExactCellOfUptoRow : OpenClaim := { program := "ytndebdimjlfepaa", sum := "b258a20e384ad8f41a7612e81e5e3f8398ec36460338e340a90bbe5145b0095c", func := "loop.example/g01927/laws.FnExactCellOf", spec := "fnExactCellOf", apart := false, narrowed := true }
def FnExactCellOfUptoSaid : Prop := fnExactCellOfUptoRow.holds Try.pinned (OpenSpec.upto fnExactCellOfSpec)

/-- 'laws.FnExactTotalOf', WHERE WHAT IT READS IS OF BULK AT MOST 1048576: true; the input reads as it did. -/
def fnExactTotalOfUptoRow : OpenClaim := { program := "ytndebdimjlfepaa", sum := "b258a20e384ad8f41a7612e81e5e3f8398ec36460338e340a90bbe5145b0095c", func := "loop.example/g01927/laws.FnExactTotalOf", spec := "fnExactTotalOf", apart := false, narrowed := true }
def FnExactTotalOfUptoSaid : Prop := fnExactTotalOfUptoRow.holds Try.pinned (OpenSpec.upto fnExactTotalOfSpec)

/-- 'laws.FnExactAddHistograms', WHERE WHAT IT READS IS OF BULK AT MOST 1048576: true; the input reads as it did. -/
def fnExactAddHistogramsUptoRow : OpenClaim := { program := "ytndebdimjlfepaa", sum := "b258a20e384ad8f41a7612e81e5e3f8398ec36460338e340a90bbe5145b0095c", func := "loop.example/g01927/laws.FnExactAddHistograms", spec := "fnExactAddHistograms", apart := false, narrowed := true }
def FnExactAddHistogramsUptoSaid : Prop := fnExactAddHistogramsUptoRow.holds Try.pinned (OpenSpec.upto fnExactAddHistogramsSpec)

/-- 'laws.FnHistograms', WHERE WHAT IT READS IS OF BULK AT MOST 1048576: true; the input reads as it did. -/
def fnHistogramsUptoRow : OpenClaim := { program := "ytndebdimjlfepaa", sum := "b258a20e384ad8f41a7612e81e5e3f8398ec36460338e340a90bbe5145b0095c", func := "loop.example/g01927/laws.FnHistograms", spec := "fnHistograms", unfollowed := true, recurses := true, apart := false, narrowed := true }
def FnHistogramsUptoSaid : Prop := fnHistogramsUptoRow.holds Try.pinned (OpenSpec.upto fnHistogramsSpec)

/-- 'laws.FnExactIsValidRow', WHERE WHAT IT READS IS OF BULK AT MOST 1048576: true; the input reads as it did. -/
def fnExactIsValidRowUptoRow : OpenClaim := { program := "ytndebdimjlfepaa", sum := "b258a20e384ad8f41a7612e81e5e3f8398ec36460338e340a90bbe5145b0095c", func := "loop.example/g01927/laws.FnExactIsValidRow", spec := "fnExactIsValidRow", unfollowed := true, recurses := true, apart := false, narrowed := true }
def FnExactIsValidRowUptoSaid : Prop := fnExactIsValidRowUptoRow.holds Try.pinned (OpenSpec.upto fnExactIsValidRowSpec)

/-- 'laws.FnExactAreRows', WHERE WHAT IT READS IS OF BULK AT MOST 1048576: true; the input reads as it did. -/
def fnExactAreRowsUptoRow : OpenClaim := { program := "ytndebdimjlfepaa", sum := "b258a20e384ad8f41a7612e81e5e3f8398ec36460338e340a90bbe5145b0095c", func := "loop.example/g01927/laws.FnExactAreRows", spec := "fnExactAreRows", unfollowed := true, recurses := true, apart := false, narrowed := true }
def FnExactAreRowsUptoSaid : Prop := fnExactAreRowsUptoRow.holds Try.pinned (OpenSpec.upto fnExactAreRowsSpec)

/-- 'laws.FnExactIsValidBlock', WHERE WHAT IT READS IS OF BULK AT MOST 1048576: true; the input reads as it did. -/
def fnExactIsValidBlockUptoRow : OpenClaim := { program := "ytndebdimjlfepaa", sum := "b258a20e384ad8f41a7612e81e5e3f8398ec36460338e340a90bbe5145b0095c", func := "loop.example/g01927/laws.FnExactIsValidBlock", spec := "fnExactIsValidBlock", unfollowed := true, recurses := true, apart := false, narrowed := true }
def FnExactIsValidBlockUptoSaid : Prop := fnExactIsValidBlockUptoRow.holds Try.pinned (OpenSpec.upto fnExactIsValidBlockSpec)

/-- 'laws.FnExactAddRow', WHERE WHAT IT READS IS OF BULK AT MOST 1048576: true; the input reads as it did. -/
def fnExactAddRowUptoRow : OpenClaim := { program := "ytndebdimjlfepaa", sum := "b258a20e384ad8f41a7612e81e5e3f8398ec36460338e340a90bbe5145b0095c", func := "loop.example/g01927/laws.FnExactAddRow", spec := "fnExactAddRow", unfollowed := true, recurses := true, apart := false, narrowed := true }
def FnExactAddRowUptoSaid : Prop := fnExactAddRowUptoRow.holds Try.pinned (OpenSpec.upto fnExactAddRowSpec)

/-- 'laws.FnExactRemoveRow', WHERE WHAT IT READS IS OF BULK AT MOST 1048576: true; the input reads as it did. -/
def fnExactRemoveRowUptoRow : OpenClaim := { program := "ytndebdimjlfepaa", sum := "b258a20e384ad8f41a7612e81e5e3f8398ec36460338e340a90bbe5145b0095c", func := "loop.example/g01927/laws.FnExactRemoveRow", spec := "fnExactRemoveRow", unfollowed := true, recurses := true, apart := false, narrowed := true }
def FnExactRemoveRowUptoSaid : Prop := fnExactRemoveRowUptoRow.holds Try.pinned (OpenSpec.upto fnExactRemoveRowSpec)

/-- 'laws.FnExactIsValidTable', WHERE WHAT IT READS IS OF BULK AT MOST 1048576: true; the input reads as it did. -/
def fnExactIsValidTableUptoRow : OpenClaim := { program := "ytndebdimjlfepaa", sum := "b258a20e384ad8f41a7612e81e5e3f8398ec36460338e340a90bbe5145b0095c", func := "loop.example/g01927/laws.FnExactIsValidTable", spec := "fnExactIsValidTable", unfollowed := true, recurses := true, apart := false, narrowed := true }
def FnExactIsValidTableUptoSaid : Prop := fnExactIsValidTableUptoRow.holds Try.pinned (OpenSpec.upto fnExactIsValidTableSpec)

/-- 'laws.FnExactIsValidChange', WHERE WHAT IT READS IS OF BULK AT MOST 1048576: true; the input reads as it did. -/
def fnExactIsValidChangeUptoRow : OpenClaim := { program := "ytndebdimjlfepaa", sum := "b258a20e384ad8f41a7612e81e5e3f8398ec36460338e340a90bbe5145b0095c", func := "loop.example/g01927/laws.FnExactIsValidChange", spec := "fnExactIsValidChange", unfollowed := true, recurses := true, apart := false, narrowed := true }
def FnExactIsValidChangeUptoSaid : Prop := fnExactIsValidChangeUptoRow.holds Try.pinned (OpenSpec.upto fnExactIsValidChangeSpec)

end Rows
end Go.Proofs.Ytndebdimjlfepaa
