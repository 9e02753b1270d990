/-
  No cell of these rows narrows 'for every input' (looked for: loops, veiled, ifaces, maps, wideKeys, modest, calm, conditions, laid).
  DERIVED. THE GIVEN ROWS OF THIS SEAT. 7 by the template 'for every input the law returns true; each argument reads behind the call as it read before'; 0 by the template 'total and deterministic' (their statements: YtbaoipbfpjgglaaTotals.lean).
  GIVEN WITH THE SEED: the statements are not yours to turn. If you find one false, say at which input.
  Laid BY PROGRAM, IN A SANDBOX (cutbox-rows.mjs): the forced cells as the released guide's own fill.sh prints them over the translation f94be39d3370b907… (all of the seat's roots in one cut). By AI agents, Wed Nov 11 2026. No macro, syntax, notation, axiom, sorry.
-/
import Derived.Test.YtbaoipbfpjgglaaChecked
import GoSem.Claim
import GoSem.ClaimJoined
import GoSem.ClaimMapViews
import Derived.JoinedTies
import Derived.KernelRfl
namespace Go.Proofs.Ytbaoipbfpjgglaa
/- THE CELL 'sum', in the pinned program and in every row, IS THE sha256 OF THE DUMP (.gsa) THAT YtbaoipbfpjgglaaProg.lean LOADS. Nothing in Lean hashes anything: it is a label: what it is worth is what the hold of that sum in a sandbox is worth. -/
noncomputable def Try.pinned : Pinned := { name := "ytbaoipbfpjgglaa", sum := "f94be39d3370b907462336a088cdb7a6167f1ef639009b730919af2f330c4695", checked := Try.checked }
namespace Rows
def none {H : Type} : Left H := { results := [], args := [] }

/-- 'laws.FnExactIsValidTable': WHATEVER THE INPUT: true; the input reads as it did. -/
def fnExactIsValidTableSpec : ChangeSpec := { name := "fnExactIsValidTable", fn := fun _ => fun
  | [d] => { results := [.lit (.bool true)], args := [d] }
  | _ => none }
def fnExactIsValidTableRow : OpenClaim := { program := "ytbaoipbfpjgglaa", sum := "f94be39d3370b907462336a088cdb7a6167f1ef639009b730919af2f330c4695", func := "loop.example/g01927/laws.FnExactIsValidTable", spec := "fnExactIsValidTable", unfollowed := true, recurses := true, apart := false }
def FnExactIsValidTableSaid : Prop := fnExactIsValidTableRow.holds Try.pinned (OpenSpec.ofChange fnExactIsValidTableSpec)

/-- ITS FALSE NEIGHBOUR: 'it returns false'. Refute it at one input. -/
def fnExactIsValidTableWrong : ChangeSpec := { name := "fnExactIsValidTable", fn := fun _ => fun
  | [d] => { results := [.lit (.bool false)], args := [d] }
  | _ => none }
def FnExactIsValidTableWrongFalsely : Prop := fnExactIsValidTableRow.holds Try.pinned (OpenSpec.ofChange fnExactIsValidTableWrong)

/-- 'laws.FnExactFindBlock': WHATEVER THE INPUT: true; the input reads as it did. -/
def fnExactFindBlockSpec : ChangeSpec := { name := "fnExactFindBlock", fn := fun _ => fun
  | [d1, d2] => { results := [.lit (.bool true)], args := [d1, d2] }
  | _ => none }
def fnExactFindBlockRow : OpenClaim := { program := "ytbaoipbfpjgglaa", sum := "f94be39d3370b907462336a088cdb7a6167f1ef639009b730919af2f330c4695", func := "loop.example/g01927/laws.FnExactFindBlock", spec := "fnExactFindBlock", unfollowed := true, recurses := true, apart := false }
def FnExactFindBlockSaid : Prop := fnExactFindBlockRow.holds Try.pinned (OpenSpec.ofChange fnExactFindBlockSpec)

/-- ITS FALSE NEIGHBOUR: 'it returns false'. Refute it at one input. -/
def fnExactFindBlockWrong : ChangeSpec := { name := "fnExactFindBlock", fn := fun _ => fun
  | [d1, d2] => { results := [.lit (.bool false)], args := [d1, d2] }
  | _ => none }
def FnExactFindBlockWrongFalsely : Prop := fnExactFindBlockRow.holds Try.pinned (OpenSpec.ofChange fnExactFindBlockWrong)

/-- 'laws.FnExactBlockOfRow': WHATEVER THE INPUT: true; the input reads as it did. -/
def fnExactBlockOfRowSpec : ChangeSpec := { name := "fnExactBlockOfRow", fn := fun _ => fun
  | [d1, d2] => { results := [.lit (.bool true)], args := [d1, d2] }
  | _ => none }
def fnExactBlockOfRowRow : OpenClaim := { program := "ytbaoipbfpjgglaa", sum := "f94be39d3370b907462336a088cdb7a6167f1ef639009b730919af2f330c4695", func := "loop.example/g01927/laws.FnExactBlockOfRow", spec := "fnExactBlockOfRow", apart := false }
def FnExactBlockOfRowSaid : Prop := fnExactBlockOfRowRow.holds Try.pinned (OpenSpec.ofChange fnExactBlockOfRowSpec)

/-- ITS FALSE NEIGHBOUR: 'it returns false'. Refute it at one input. -/
def fnExactBlockOfRowWrong : ChangeSpec := { name := "fnExactBlockOfRow", fn := fun _ => fun
  | [d1, d2] => { results := [.lit (.bool false)], args := [d1, d2] }
  | _ => none }
def FnExactBlockOfRowWrongFalsely : Prop := fnExactBlockOfRowRow.holds Try.pinned (OpenSpec.ofChange fnExactBlockOfRowWrong)

/-- 'laws.FnExactCountRows': WHATEVER THE INPUT: true; the input reads as it did. -/
def fnExactCountRowsSpec : ChangeSpec := { name := "fnExactCountRows", fn := fun _ => fun
  | [d] => { results := [.lit (.bool true)], args := [d] }
  | _ => none }
def fnExactCountRowsRow : OpenClaim := { program := "ytbaoipbfpjgglaa", sum := "f94be39d3370b907462336a088cdb7a6167f1ef639009b730919af2f330c4695", func := "loop.example/g01927/laws.FnExactCountRows", spec := "fnExactCountRows", apart := false }
def FnExactCountRowsSaid : Prop := fnExactCountRowsRow.holds Try.pinned (OpenSpec.ofChange fnExactCountRowsSpec)

/-- ITS FALSE NEIGHBOUR: 'it returns false'. Refute it at one input. -/
def fnExactCountRowsWrong : ChangeSpec := { name := "fnExactCountRows", fn := fun _ => fun
  | [d] => { results := [.lit (.bool false)], args := [d] }
  | _ => none }
def FnExactCountRowsWrongFalsely : Prop := fnExactCountRowsRow.holds Try.pinned (OpenSpec.ofChange fnExactCountRowsWrong)

/-- 'laws.FnExactEqualTables': WHATEVER THE INPUT: true; the input reads as it did. -/
def fnExactEqualTablesSpec : ChangeSpec := { name := "fnExactEqualTables", fn := fun _ => fun
  | [d1, d2] => { results := [.lit (.bool true)], args := [d1, d2] }
  | _ => none }
def fnExactEqualTablesRow : OpenClaim := { program := "ytbaoipbfpjgglaa", sum := "f94be39d3370b907462336a088cdb7a6167f1ef639009b730919af2f330c4695", func := "loop.example/g01927/laws.FnExactEqualTables", spec := "fnExactEqualTables", unfollowed := true, recurses := true, apart := false }
def FnExactEqualTablesSaid : Prop := fnExactEqualTablesRow.holds Try.pinned (OpenSpec.ofChange fnExactEqualTablesSpec)

/-- ITS FALSE NEIGHBOUR: 'it returns false'. Refute it at one input. -/
def fnExactEqualTablesWrong : ChangeSpec := { name := "fnExactEqualTables", fn := fun _ => fun
  | [d1, d2] => { results := [.lit (.bool false)], args := [d1, d2] }
  | _ => none }
def FnExactEqualTablesWrongFalsely : Prop := fnExactEqualTablesRow.holds Try.pinned (OpenSpec.ofChange fnExactEqualTablesWrong)

/-- 'laws.FnExactIsValidBlock': WHATEVER THE INPUT: true; the input reads as it did. -/
def fnExactIsValidBlockSpec : ChangeSpec := { name := "fnExactIsValidBlock", fn := fun _ => fun
  | [d] => { results := [.lit (.bool true)], args := [d] }
  | _ => none }
def fnExactIsValidBlockRow : OpenClaim := { program := "ytbaoipbfpjgglaa", sum := "f94be39d3370b907462336a088cdb7a6167f1ef639009b730919af2f330c4695", func := "loop.example/g01927/laws.FnExactIsValidBlock", spec := "fnExactIsValidBlock", unfollowed := true, recurses := true, apart := false }
def FnExactIsValidBlockSaid : Prop := fnExactIsValidBlockRow.holds Try.pinned (OpenSpec.ofChange fnExactIsValidBlockSpec)

/-- ITS FALSE NEIGHBOUR: 'it returns false'. Refute it at one input. -/
def fnExactIsValidBlockWrong : ChangeSpec := { name := "fnExactIsValidBlock", fn := fun _ => fun
  | [d] => { results := [.lit (.bool false)], args := [d] }
  | _ => none }
def FnExactIsValidBlockWrongFalsely : Prop := fnExactIsValidBlockRow.holds Try.pinned (OpenSpec.ofChange fnExactIsValidBlockWrong)

/-- 'laws.FnExactEqualBlocks': WHATEVER THE INPUT: true; the input reads as it did. -/
def fnExactEqualBlocksSpec : ChangeSpec := { name := "fnExactEqualBlocks", fn := fun _ => fun
  | [d1, d2] => { results := [.lit (.bool true)], args := [d1, d2] }
  | _ => none }
def fnExactEqualBlocksRow : OpenClaim := { program := "ytbaoipbfpjgglaa", sum := "f94be39d3370b907462336a088cdb7a6167f1ef639009b730919af2f330c4695", func := "loop.example/g01927/laws.FnExactEqualBlocks", spec := "fnExactEqualBlocks", apart := false }
def FnExactEqualBlocksSaid : Prop := fnExactEqualBlocksRow.holds Try.pinned (OpenSpec.ofChange fnExactEqualBlocksSpec)

/-- ITS FALSE NEIGHBOUR: 'it returns false'. Refute it at one input. -/
def fnExactEqualBlocksWrong : ChangeSpec := { name := "fnExactEqualBlocks", fn := fun _ => fun
  | [d1, d2] => { results := [.lit (.bool false)], args := [d1, d2] }
  | _ => none }
def FnExactEqualBlocksWrongFalsely : Prop := fnExactEqualBlocksRow.holds Try.pinned (OpenSpec.ofChange fnExactEqualBlocksWrong)

/- THE SECOND FORM. 'bulk': how many values and letters a reading holds, each counted each time it is reached (what is shared counts as often as it is met; a slice's spare places count too). A statement '..UptoSaid' is the law's where the arguments, and the package variables that the reading takes, are together of bulk at most 1048576: NARROWER than '..Said'. Prove '..Said' where nothing that the law and all that it calls make is longer than what came in: it says more and counts as full. Else prove '..UptoSaid'. A law counts once. -/
mutual
def uptoBulk {H : Type} : DataW H → Nat
  | .lit (.string bytes) => bytes.length + 1
  | .lit _ => 1
  | .nil => 1
  | .ptr d => uptoBulk d + 1
  | .slice elems spare => uptoBulkAll elems + uptoBulkAll spare + 1
  | .agg parts => uptoBulkAll parts + 1
  | .iface _ d => uptoBulk d + 1
  | .map entries => uptoBulkEntries entries + 1
  | .held _ => 1
def uptoBulkAll {H : Type} : List (DataW H) → Nat
  | [] => 0
  | d :: r => uptoBulk d + uptoBulkAll r
def uptoBulkEntries {H : Type} : List (Lit × DataW H) → Nat
  | [] => 0
  | x :: r => uptoBulkEntry x + uptoBulkEntries r
def uptoBulkEntry {H : Type} : Lit × DataW H → Nat
  | (.string bytes, d) => bytes.length + uptoBulk d + 1
  | (_, d) => uptoBulk d + 1
 end
def uptoSmall : (H : Type) → List (DataW H) → Bool := fun _ ds => decide (uptoBulkAll ds ≤ 1048576)
def OpenSpec.upto (s : _root_.Go.ChangeSpec) : _root_.Go.OpenSpec := { _root_.Go.OpenSpec.ofChange s with cond := some uptoSmall }

/-- 'laws.FnExactIsValidTable', WHERE WHAT IT READS IS OF BULK AT MOST 1048576: true; the input reads as it did. -/
def fnExactIsValidTableUptoRow : OpenClaim := { program := "ytbaoipbfpjgglaa", sum := "f94be39d3370b907462336a088cdb7a6167f1ef639009b730919af2f330c4695", func := "loop.example/g01927/laws.FnExactIsValidTable", spec := "fnExactIsValidTable", unfollowed := true, recurses := true, apart := false, narrowed := true }
def FnExactIsValidTableUptoSaid : Prop := fnExactIsValidTableUptoRow.holds Try.pinned (OpenSpec.upto fnExactIsValidTableSpec)

/-- 'laws.FnExactFindBlock', WHERE WHAT IT READS IS OF BULK AT MOST 1048576: true; the input reads as it did. -/
def fnExactFindBlockUptoRow : OpenClaim := { program := "ytbaoipbfpjgglaa", sum := "f94be39d3370b907462336a088cdb7a6167f1ef639009b730919af2f330c4695", func := "loop.example/g01927/laws.FnExactFindBlock", spec := "fnExactFindBlock", unfollowed := true, recurses := true, apart := false, narrowed := true }
def FnExactFindBlockUptoSaid : Prop := fnExactFindBlockUptoRow.holds Try.pinned (OpenSpec.upto fnExactFindBlockSpec)

/-- 'laws.FnExactBlockOfRow', WHERE WHAT IT READS IS OF BULK AT MOST 1048576: true; the input reads as it did. -/
def fnExactBlockOfRowUptoRow : OpenClaim := { program := "ytbaoipbfpjgglaa", sum := "f94be39d3370b907462336a088cdb7a6167f1ef639009b730919af2f330c4695", func := "loop.example/g01927/laws.FnExactBlockOfRow", spec := "fnExactBlockOfRow", apart := false, narrowed := true }
def FnExactBlockOfRowUptoSaid : Prop := fnExactBlockOfRowUptoRow.holds Try.pinned (OpenSpec.upto fnExactBlockOfRowSpec)

/-- 'laws.FnExactCountRows', WHERE WHAT IT READS IS OF BULK AT MOST 1048576: true; the input reads as it did. -/
def fnExactCountRowsUptoRow : OpenClaim := { program := "ytbaoipbfpjgglaa", sum := "f94be39d3370b907462336a088cdb7a6167f1ef639009b730919af2f330c4695", func := "loop.example/g01927/laws.FnExactCountRows", spec := "fnExactCountRows", apart := false, narrowed := true }
def FnExactCountRowsUptoSaid : Prop := fnExactCountRowsUptoRow.holds Try.pinned (OpenSpec.upto fnExactCountRowsSpec)

/-- 'laws.FnExactEqualTables', WHERE WHAT IT READS IS OF BULK AT MOST 1048576: true; the input reads as it did. -/
def fnExactEqualTablesUptoRow : OpenClaim := { program := "ytbaoipbfpjgglaa", sum := "f94be39d3370b907462336a088cdb7a6167f1ef639009b730919af2f330c4695", func := "loop.example/g01927/laws.FnExactEqualTables", spec := "fnExactEqualTables", unfollowed := true, recurses := true, apart := false, narrowed := true }
def FnExactEqualTablesUptoSaid : Prop := fnExactEqualTablesUptoRow.holds Try.pinned (OpenSpec.upto fnExactEqualTablesSpec)

/-- 'laws.FnExactIsValidBlock', WHERE WHAT IT READS IS OF BULK AT MOST 1048576: true; the input reads as it did. -/
def fnExactIsValidBlockUptoRow : OpenClaim := { program := "ytbaoipbfpjgglaa", sum := "f94be39d3370b907462336a088cdb7a6167f1ef639009b730919af2f330c4695", func := "loop.example/g01927/laws.FnExactIsValidBlock", spec := "fnExactIsValidBlock", unfollowed := true, recurses := true, apart := false, narrowed := true }
def FnExactIsValidBlockUptoSaid : Prop := fnExactIsValidBlockUptoRow.holds Try.pinned (OpenSpec.upto fnExactIsValidBlockSpec)

/-- 'laws.FnExactEqualBlocks', WHERE WHAT IT READS IS OF BULK AT MOST 1048576: true; the input reads as it did. -/
def fnExactEqualBlocksUptoRow : OpenClaim := { program := "ytbaoipbfpjgglaa", sum := "f94be39d3370b907462336a088cdb7a6167f1ef639009b730919af2f330c4695", func := "loop.example/g01927/laws.FnExactEqualBlocks", spec := "fnExactEqualBlocks", apart := false, narrowed := true }
def FnExactEqualBlocksUptoSaid : Prop := fnExactEqualBlocksUptoRow.holds Try.pinned (OpenSpec.upto fnExactEqualBlocksSpec)

end Rows
end Go.Proofs.Ytbaoipbfpjgglaa
