/-
  No cell of these rows narrows 'for every input' (looked for: loops, veiled, ifaces, maps, wideKeys, modest, calm, conditions, laid).
  DERIVED. THE GIVEN ROWS OF THIS SEAT. 4 by the template 'for every input the law returns true; each argument reads behind the call as it read before'; 0 by the template 'total and deterministic' (their statements: YtoabjmdfopabfaaTotals.lean).
  GIVEN WITH THE SEED: the statements are not yours to turn. If you find one false, say at which input.
  Laid BY PROGRAM, IN A SANDBOX (cutbox-rows.mjs): the forced cells as the released guide's own fill.sh prints them over the translation 754eec54e8c0d840… (all of the seat's roots in one cut). By AI agents, Wed Nov 11 2026. No macro, syntax, notation, axiom, sorry.
-/
import Derived.Test.YtoabjmdfopabfaaChecked
import GoSem.Claim
import GoSem.ClaimJoined
import GoSem.ClaimMapViews
import Derived.JoinedTies
import Derived.KernelRfl
namespace Go.Proofs.Ytoabjmdfopabfaa
/- THE CELL 'sum', in the pinned program and in every row, IS THE sha256 OF THE DUMP (.gsa) THAT YtoabjmdfopabfaaProg.lean LOADS. Nothing in Lean hashes anything: it is a label: what it is worth is what the hold of that sum in a sandbox is worth. -/
noncomputable def Try.pinned : Pinned := { name := "ytoabjmdfopabfaa", sum := "754eec54e8c0d840ede8f776a72802a0797f0a39de10ab3e7bd8ec63739d2b68", checked := Try.checked }
namespace Rows
def none {H : Type} : Left H := { results := [], args := [] }

/-- 'laws.FnExactIsValidBlock': WHATEVER THE INPUT: true; the input reads as it did. -/
def fnExactIsValidBlockSpec : ChangeSpec := { name := "fnExactIsValidBlock", fn := fun _ => fun
  | [d] => { results := [.lit (.bool true)], args := [d] }
  | _ => none }
def fnExactIsValidBlockRow : OpenClaim := { program := "ytoabjmdfopabfaa", sum := "754eec54e8c0d840ede8f776a72802a0797f0a39de10ab3e7bd8ec63739d2b68", func := "loop.example/g01927/laws.FnExactIsValidBlock", spec := "fnExactIsValidBlock", unfollowed := true, recurses := true, apart := false }
def FnExactIsValidBlockSaid : Prop := fnExactIsValidBlockRow.holds Try.pinned (OpenSpec.ofChange fnExactIsValidBlockSpec)

/-- ITS FALSE NEIGHBOUR: 'it returns false'. Refute it at one input. -/
def fnExactIsValidBlockWrong : ChangeSpec := { name := "fnExactIsValidBlock", fn := fun _ => fun
  | [d] => { results := [.lit (.bool false)], args := [d] }
  | _ => none }
def FnExactIsValidBlockWrongFalsely : Prop := fnExactIsValidBlockRow.holds Try.pinned (OpenSpec.ofChange fnExactIsValidBlockWrong)

/-- 'laws.FnExactAddRow': WHATEVER THE INPUT: true; the input reads as it did. -/
def fnExactAddRowSpec : ChangeSpec := { name := "fnExactAddRow", fn := fun _ => fun
  | [d1, d2] => { results := [.lit (.bool true)], args := [d1, d2] }
  | _ => none }
def fnExactAddRowRow : OpenClaim := { program := "ytoabjmdfopabfaa", sum := "754eec54e8c0d840ede8f776a72802a0797f0a39de10ab3e7bd8ec63739d2b68", func := "loop.example/g01927/laws.FnExactAddRow", spec := "fnExactAddRow", unfollowed := true, recurses := true, apart := false }
def FnExactAddRowSaid : Prop := fnExactAddRowRow.holds Try.pinned (OpenSpec.ofChange fnExactAddRowSpec)

/-- ITS FALSE NEIGHBOUR: 'it returns false'. Refute it at one input. -/
def fnExactAddRowWrong : ChangeSpec := { name := "fnExactAddRow", fn := fun _ => fun
  | [d1, d2] => { results := [.lit (.bool false)], args := [d1, d2] }
  | _ => none }
def FnExactAddRowWrongFalsely : Prop := fnExactAddRowRow.holds Try.pinned (OpenSpec.ofChange fnExactAddRowWrong)

/-- 'laws.FnExactRemoveRow': WHATEVER THE INPUT: true; the input reads as it did. -/
def fnExactRemoveRowSpec : ChangeSpec := { name := "fnExactRemoveRow", fn := fun _ => fun
  | [d1, d2] => { results := [.lit (.bool true)], args := [d1, d2] }
  | _ => none }
def fnExactRemoveRowRow : OpenClaim := { program := "ytoabjmdfopabfaa", sum := "754eec54e8c0d840ede8f776a72802a0797f0a39de10ab3e7bd8ec63739d2b68", func := "loop.example/g01927/laws.FnExactRemoveRow", spec := "fnExactRemoveRow", unfollowed := true, recurses := true, apart := false }
def FnExactRemoveRowSaid : Prop := fnExactRemoveRowRow.holds Try.pinned (OpenSpec.ofChange fnExactRemoveRowSpec)

/-- ITS FALSE NEIGHBOUR: 'it returns false'. Refute it at one input. -/
def fnExactRemoveRowWrong : ChangeSpec := { name := "fnExactRemoveRow", fn := fun _ => fun
  | [d1, d2] => { results := [.lit (.bool false)], args := [d1, d2] }
  | _ => none }
def FnExactRemoveRowWrongFalsely : Prop := fnExactRemoveRowRow.holds Try.pinned (OpenSpec.ofChange fnExactRemoveRowWrong)

/-- 'laws.FnExactEqualBlocks': WHATEVER THE INPUT: true; the input reads as it did. -/
def fnExactEqualBlocksSpec : ChangeSpec := { name := "fnExactEqualBlocks", fn := fun _ => fun
  | [d1, d2] => { results := [.lit (.bool true)], args := [d1, d2] }
  | _ => none }
def fnExactEqualBlocksRow : OpenClaim := { program := "ytoabjmdfopabfaa", sum := "754eec54e8c0d840ede8f776a72802a0797f0a39de10ab3e7bd8ec63739d2b68", func := "loop.example/g01927/laws.FnExactEqualBlocks", spec := "fnExactEqualBlocks", apart := false }
def FnExactEqualBlocksSaid : Prop := fnExactEqualBlocksRow.holds Try.pinned (OpenSpec.ofChange fnExactEqualBlocksSpec)

/-- ITS FALSE NEIGHBOUR: 'it returns false'. Refute it at one input. -/
def fnExactEqualBlocksWrong : ChangeSpec := { name := "fnExactEqualBlocks", fn := fun _ => fun
  | [d1, d2] => { results := [.lit (.bool false)], args := [d1, d2] }
  | _ => none }
def FnExactEqualBlocksWrongFalsely : Prop := fnExactEqualBlocksRow.holds Try.pinned (OpenSpec.ofChange fnExactEqualBlocksWrong)

/- THE SECOND FORM. 'bulk': how many values and letters a reading holds, each counted each time it is reached (what is shared counts as often as it is met; a slice's spare places count too). A statement '..UptoSaid' is the law's where the arguments, and the package variables that the reading takes, are together of bulk at most 1048576: NARROWER than '..Said'. Prove '..Said' where nothing that the law and all that it calls make is longer than what came in: it says more and counts as full. Else prove '..UptoSaid'. A law counts once. -/
mutual
def uptoBulk {H : Type} : DataW H → Nat
  | .lit (.string bytes) => bytes.length + 1
  | .lit _ => 1
  | .nil => 1
  | .ptr d => uptoBulk d + 1
  | .slice elems spare => uptoBulkAll elems + uptoBulkAll spare + 1
  | .agg parts => uptoBulkAll parts + 1
  | .iface _ d => uptoBulk d + 1
  | .map entries => uptoBulkEntries entries + 1
  | .held _ => 1
def uptoBulkAll {H : Type} : List (DataW H) → Nat
  | [] => 0
  | d :: r => uptoBulk d + uptoBulkAll r
def uptoBulkEntries {H : Type} : List (Lit × DataW H) → Nat
  | [] => 0
  | x :: r => uptoBulkEntry x + uptoBulkEntries r
def uptoBulkEntry {H : Type} : Lit × DataW H → Nat
  | (.string bytes, d) => bytes.length + uptoBulk d + 1
  | (_, d) => uptoBulk d + 1
 end
def uptoSmall : (H : Type) → List (DataW H) → Bool := fun _ ds => decide (uptoBulkAll ds ≤ 1048576)
def OpenSpec.upto (s : _root_.Go.ChangeSpec) : _root_.Go.OpenSpec := { _root_.Go.OpenSpec.ofChange s with cond := some uptoSmall }

/-- 'laws.FnExactIsValidBlock', WHERE WHAT IT READS IS OF BULK AT MOST 1048576: true; the input reads as it did. -/
def fnExactIsValidBlockUptoRow : OpenClaim := { program := "ytoabjmdfopabfaa", sum := "754eec54e8c0d840ede8f776a72802a0797f0a39de10ab3e7bd8ec63739d2b68", func := "loop.example/g01927/laws.FnExactIsValidBlock", spec := "fnExactIsValidBlock", unfollowed := true, recurses := true, apart := false, narrowed := true }
def FnExactIsValidBlockUptoSaid : Prop := fnExactIsValidBlockUptoRow.holds Try.pinned (OpenSpec.upto fnExactIsValidBlockSpec)

/-- 'laws.FnExactAddRow', WHERE WHAT IT READS IS OF BULK AT MOST 1048576: true; the input reads as it did. -/
def fnExactAddRowUptoRow : OpenClaim := { program := "ytoabjmdfopabfaa", sum := "754eec54e8c0d840ede8f776a72802a0797f0a39de10ab3e7bd8ec63739d2b68", func := "loop.example/g01927/laws.FnExactAddRow", spec := "fnExactAddRow", unfollowed := true, recurses := true, apart := false, narrowed := true }
def FnExactAddRowUptoSaid : Prop := fnExactAddRowUptoRow.holds Try.pinned (OpenSpec.upto fnExactAddRowSpec)

/-- 'laws.FnExactRemoveRow', WHERE WHAT IT READS IS OF BULK AT MOST 1048576: true; the input reads as it did. -/
def fnExactRemoveRowUptoRow : OpenClaim := { program := "ytoabjmdfopabfaa", sum := "754eec54e8c0d840ede8f776a72802a0797f0a39de10ab3e7bd8ec63739d2b68", func := "loop.example/g01927/laws.FnExactRemoveRow", spec := "fnExactRemoveRow", unfollowed := true, recurses := true, apart := false, narrowed := true }
def FnExactRemoveRowUptoSaid : Prop := fnExactRemoveRowUptoRow.holds Try.pinned (OpenSpec.upto fnExactRemoveRowSpec)

/-- 'laws.FnExactEqualBlocks', WHERE WHAT IT READS IS OF BULK AT MOST 1048576: true; the input reads as it did. -/
def fnExactEqualBlocksUptoRow : OpenClaim := { program := "ytoabjmdfopabfaa", sum := "754eec54e8c0d840ede8f776a72802a0797f0a39de10ab3e7bd8ec63739d2b68", func := "loop.example/g01927/laws.FnExactEqualBlocks", spec := "fnExactEqualBlocks", apart := false, narrowed := true }
def FnExactEqualBlocksUptoSaid : Prop := fnExactEqualBlocksUptoRow.holds Try.pinned (OpenSpec.upto fnExactEqualBlocksSpec)

end Rows
end Go.Proofs.Ytoabjmdfopabfaa
