/-
  No cell of these rows narrows 'for every input' (looked for: loops, veiled, ifaces, maps, wideKeys, modest, calm, conditions, laid).
  DERIVED. THE GIVEN ROWS OF THIS SEAT. 9 by the template 'for every input the law returns true; each argument reads behind the call as it read before'; 0 by the template 'total and deterministic' (their statements: YtmjcfkaiheajaaaTotals.lean).
  GIVEN WITH THE SEED: the statements are not yours to turn. If you find one false, say at which input.
  Laid BY PROGRAM, IN A SANDBOX (cutbox-rows.mjs): the forced cells as the released guide's own fill.sh prints them over the translation 59542ef343ad480c… (all of the seat's roots in one cut). By AI agents, Wed Nov 11 2026. No macro, syntax, notation, axiom, sorry.
-/
import Derived.Test.YtmjcfkaiheajaaaChecked
import GoSem.Claim
import GoSem.ClaimJoined
import GoSem.ClaimMapViews
import Derived.JoinedTies
import Derived.KernelRfl
namespace Go.Proofs.Ytmjcfkaiheajaaa
/- THE CELL 'sum', in the pinned program and in every row, IS THE sha256 OF THE DUMP (.gsa) THAT YtmjcfkaiheajaaaProg.lean LOADS. Nothing in Lean hashes anything: it is a label: what it is worth is what the hold of that sum in a sandbox is worth. -/
noncomputable def Try.pinned : Pinned := { name := "ytmjcfkaiheajaaa", sum := "59542ef343ad480c1711ff31568575047c19d6dab0fd2a6c9373d77cc9acfcf9", checked := Try.checked }
namespace Rows
def none {H : Type} : Left H := { results := [], args := [] }

/-- 'laws.FnExactIsValidChange': WHATEVER THE INPUT: true; the input reads as it did. -/
def fnExactIsValidChangeSpec : ChangeSpec := { name := "fnExactIsValidChange", fn := fun _ => fun
  | [d] => { results := [.lit (.bool true)], args := [d] }
  | _ => none }
def fnExactIsValidChangeRow : OpenClaim := { program := "ytmjcfkaiheajaaa", sum := "59542ef343ad480c1711ff31568575047c19d6dab0fd2a6c9373d77cc9acfcf9", func := "loop.example/g01927/laws.FnExactIsValidChange", spec := "fnExactIsValidChange", unfollowed := true, recurses := true, apart := false }
def FnExactIsValidChangeSaid : Prop := fnExactIsValidChangeRow.holds Try.pinned (OpenSpec.ofChange fnExactIsValidChangeSpec)

/-- ITS FALSE NEIGHBOUR: 'it returns false'. Refute it at one input. -/
def fnExactIsValidChangeWrong : ChangeSpec := { name := "fnExactIsValidChange", fn := fun _ => fun
  | [d] => { results := [.lit (.bool false)], args := [d] }
  | _ => none }
def FnExactIsValidChangeWrongFalsely : Prop := fnExactIsValidChangeRow.holds Try.pinned (OpenSpec.ofChange fnExactIsValidChangeWrong)

/-- 'laws.FnExactApplyChange': WHATEVER THE INPUT: true; the input reads as it did. -/
def fnExactApplyChangeSpec : ChangeSpec := { name := "fnExactApplyChange", fn := fun _ => fun
  | [d1, d2] => { results := [.lit (.bool true)], args := [d1, d2] }
  | _ => none }
def fnExactApplyChangeRow : OpenClaim := { program := "ytmjcfkaiheajaaa", sum := "59542ef343ad480c1711ff31568575047c19d6dab0fd2a6c9373d77cc9acfcf9", func := "loop.example/g01927/laws.FnExactApplyChange", spec := "fnExactApplyChange", unfollowed := true, recurses := true, apart := false }
def FnExactApplyChangeSaid : Prop := fnExactApplyChangeRow.holds Try.pinned (OpenSpec.ofChange fnExactApplyChangeSpec)

/-- ITS FALSE NEIGHBOUR: 'it returns false'. Refute it at one input. -/
def fnExactApplyChangeWrong : ChangeSpec := { name := "fnExactApplyChange", fn := fun _ => fun
  | [d1, d2] => { results := [.lit (.bool false)], args := [d1, d2] }
  | _ => none }
def FnExactApplyChangeWrongFalsely : Prop := fnExactApplyChangeRow.holds Try.pinned (OpenSpec.ofChange fnExactApplyChangeWrong)

/-- 'laws.FnExactApplyChanges': WHATEVER THE INPUT: true; the input reads as it did. -/
def fnExactApplyChangesSpec : ChangeSpec := { name := "fnExactApplyChanges", fn := fun _ => fun
  | [d1, d2] => { results := [.lit (.bool true)], args := [d1, d2] }
  | _ => none }
def fnExactApplyChangesRow : OpenClaim := { program := "ytmjcfkaiheajaaa", sum := "59542ef343ad480c1711ff31568575047c19d6dab0fd2a6c9373d77cc9acfcf9", func := "loop.example/g01927/laws.FnExactApplyChanges", spec := "fnExactApplyChanges", unfollowed := true, recurses := true, apart := false }
def FnExactApplyChangesSaid : Prop := fnExactApplyChangesRow.holds Try.pinned (OpenSpec.ofChange fnExactApplyChangesSpec)

/-- ITS FALSE NEIGHBOUR: 'it returns false'. Refute it at one input. -/
def fnExactApplyChangesWrong : ChangeSpec := { name := "fnExactApplyChanges", fn := fun _ => fun
  | [d1, d2] => { results := [.lit (.bool false)], args := [d1, d2] }
  | _ => none }
def FnExactApplyChangesWrongFalsely : Prop := fnExactApplyChangesRow.holds Try.pinned (OpenSpec.ofChange fnExactApplyChangesWrong)

/-- 'laws.FnExactFormatChange': WHATEVER THE INPUT: true; the input reads as it did. -/
def fnExactFormatChangeSpec : ChangeSpec := { name := "fnExactFormatChange", fn := fun _ => fun
  | [d] => { results := [.lit (.bool true)], args := [d] }
  | _ => none }
def fnExactFormatChangeRow : OpenClaim := { program := "ytmjcfkaiheajaaa", sum := "59542ef343ad480c1711ff31568575047c19d6dab0fd2a6c9373d77cc9acfcf9", func := "loop.example/g01927/laws.FnExactFormatChange", spec := "fnExactFormatChange", unfollowed := true, recurses := true, apart := false }
def FnExactFormatChangeSaid : Prop := fnExactFormatChangeRow.holds Try.pinned (OpenSpec.ofChange fnExactFormatChangeSpec)

/-- ITS FALSE NEIGHBOUR: 'it returns false'. Refute it at one input. -/
def fnExactFormatChangeWrong : ChangeSpec := { name := "fnExactFormatChange", fn := fun _ => fun
  | [d] => { results := [.lit (.bool false)], args := [d] }
  | _ => none }
def FnExactFormatChangeWrongFalsely : Prop := fnExactFormatChangeRow.holds Try.pinned (OpenSpec.ofChange fnExactFormatChangeWrong)

/-- 'laws.FnExactChangedBlocks': WHATEVER THE INPUT: true; the input reads as it did. -/
def fnExactChangedBlocksSpec : ChangeSpec := { name := "fnExactChangedBlocks", fn := fun _ => fun
  | [d1, d2] => { results := [.lit (.bool true)], args := [d1, d2] }
  | _ => none }
def fnExactChangedBlocksRow : OpenClaim := { program := "ytmjcfkaiheajaaa", sum := "59542ef343ad480c1711ff31568575047c19d6dab0fd2a6c9373d77cc9acfcf9", func := "loop.example/g01927/laws.FnExactChangedBlocks", spec := "fnExactChangedBlocks", unfollowed := true, recurses := true, apart := false }
def FnExactChangedBlocksSaid : Prop := fnExactChangedBlocksRow.holds Try.pinned (OpenSpec.ofChange fnExactChangedBlocksSpec)

/-- ITS FALSE NEIGHBOUR: 'it returns false'. Refute it at one input. -/
def fnExactChangedBlocksWrong : ChangeSpec := { name := "fnExactChangedBlocks", fn := fun _ => fun
  | [d1, d2] => { results := [.lit (.bool false)], args := [d1, d2] }
  | _ => none }
def FnExactChangedBlocksWrongFalsely : Prop := fnExactChangedBlocksRow.holds Try.pinned (OpenSpec.ofChange fnExactChangedBlocksWrong)

/-- 'laws.FnExactIsValidBlock': WHATEVER THE INPUT: true; the input reads as it did. -/
def fnExactIsValidBlockSpec : ChangeSpec := { name := "fnExactIsValidBlock", fn := fun _ => fun
  | [d] => { results := [.lit (.bool true)], args := [d] }
  | _ => none }
def fnExactIsValidBlockRow : OpenClaim := { program := "ytmjcfkaiheajaaa", sum := "59542ef343ad480c1711ff31568575047c19d6dab0fd2a6c9373d77cc9acfcf9", func := "loop.example/g01927/laws.FnExactIsValidBlock", spec := "fnExactIsValidBlock", unfollowed := true, recurses := true, apart := false }
def FnExactIsValidBlockSaid : Prop := fnExactIsValidBlockRow.holds Try.pinned (OpenSpec.ofChange fnExactIsValidBlockSpec)

/-- ITS FALSE NEIGHBOUR: 'it returns false'. Refute it at one input. -/
def fnExactIsValidBlockWrong : ChangeSpec := { name := "fnExactIsValidBlock", fn := fun _ => fun
  | [d] => { results := [.lit (.bool false)], args := [d] }
  | _ => none }
def FnExactIsValidBlockWrongFalsely : Prop := fnExactIsValidBlockRow.holds Try.pinned (OpenSpec.ofChange fnExactIsValidBlockWrong)

/-- 'laws.FnExactAddRow': WHATEVER THE INPUT: true; the input reads as it did. -/
def fnExactAddRowSpec : ChangeSpec := { name := "fnExactAddRow", fn := fun _ => fun
  | [d1, d2] => { results := [.lit (.bool true)], args := [d1, d2] }
  | _ => none }
def fnExactAddRowRow : OpenClaim := { program := "ytmjcfkaiheajaaa", sum := "59542ef343ad480c1711ff31568575047c19d6dab0fd2a6c9373d77cc9acfcf9", func := "loop.example/g01927/laws.FnExactAddRow", spec := "fnExactAddRow", unfollowed := true, recurses := true, apart := false }
def FnExactAddRowSaid : Prop := fnExactAddRowRow.holds Try.pinned (OpenSpec.ofChange fnExactAddRowSpec)

/-- ITS FALSE NEIGHBOUR: 'it returns false'. Refute it at one input. -/
def fnExactAddRowWrong : ChangeSpec := { name := "fnExactAddRow", fn := fun _ => fun
  | [d1, d2] => { results := [.lit (.bool false)], args := [d1, d2] }
  | _ => none }
def FnExactAddRowWrongFalsely : Prop := fnExactAddRowRow.holds Try.pinned (OpenSpec.ofChange fnExactAddRowWrong)

/-- 'laws.FnExactRemoveRow': WHATEVER THE INPUT: true; the input reads as it did. -/
def fnExactRemoveRowSpec : ChangeSpec := { name := "fnExactRemoveRow", fn := fun _ => fun
  | [d1, d2] => { results := [.lit (.bool true)], args := [d1, d2] }
  | _ => none }
def fnExactRemoveRowRow : OpenClaim := { program := "ytmjcfkaiheajaaa", sum := "59542ef343ad480c1711ff31568575047c19d6dab0fd2a6c9373d77cc9acfcf9", func := "loop.example/g01927/laws.FnExactRemoveRow", spec := "fnExactRemoveRow", unfollowed := true, recurses := true, apart := false }
def FnExactRemoveRowSaid : Prop := fnExactRemoveRowRow.holds Try.pinned (OpenSpec.ofChange fnExactRemoveRowSpec)

/-- ITS FALSE NEIGHBOUR: 'it returns false'. Refute it at one input. -/
def fnExactRemoveRowWrong : ChangeSpec := { name := "fnExactRemoveRow", fn := fun _ => fun
  | [d1, d2] => { results := [.lit (.bool false)], args := [d1, d2] }
  | _ => none }
def FnExactRemoveRowWrongFalsely : Prop := fnExactRemoveRowRow.holds Try.pinned (OpenSpec.ofChange fnExactRemoveRowWrong)

/-- 'laws.FnExactIsValidTable': WHATEVER THE INPUT: true; the input reads as it did. -/
def fnExactIsValidTableSpec : ChangeSpec := { name := "fnExactIsValidTable", fn := fun _ => fun
  | [d] => { results := [.lit (.bool true)], args := [d] }
  | _ => none }
def fnExactIsValidTableRow : OpenClaim := { program := "ytmjcfkaiheajaaa", sum := "59542ef343ad480c1711ff31568575047c19d6dab0fd2a6c9373d77cc9acfcf9", func := "loop.example/g01927/laws.FnExactIsValidTable", spec := "fnExactIsValidTable", unfollowed := true, recurses := true, apart := false }
def FnExactIsValidTableSaid : Prop := fnExactIsValidTableRow.holds Try.pinned (OpenSpec.ofChange fnExactIsValidTableSpec)

/-- ITS FALSE NEIGHBOUR: 'it returns false'. Refute it at one input. -/
def fnExactIsValidTableWrong : ChangeSpec := { name := "fnExactIsValidTable", fn := fun _ => fun
  | [d] => { results := [.lit (.bool false)], args := [d] }
  | _ => none }
def FnExactIsValidTableWrongFalsely : Prop := fnExactIsValidTableRow.holds Try.pinned (OpenSpec.ofChange fnExactIsValidTableWrong)

/- THE SECOND FORM. 'bulk': how many values and letters a reading holds, each counted each time it is reached (what is shared counts as often as it is met; a slice's spare places count too). A statement '..UptoSaid' is the law's where the arguments, and the package variables that the reading takes, are together of bulk at most 1048576: NARROWER than '..Said'. Prove '..Said' where nothing that the law and all that it calls make is longer than what came in: it says more and counts as full. Else prove '..UptoSaid'. A law counts once. -/
mutual
def uptoBulk {H : Type} : DataW H → Nat
  | .lit (.string bytes) => bytes.length + 1
  | .lit _ => 1
  | .nil => 1
  | .ptr d => uptoBulk d + 1
  | .slice elems spare => uptoBulkAll elems + uptoBulkAll spare + 1
  | .agg parts => uptoBulkAll parts + 1
  | .iface _ d => uptoBulk d + 1
  | .map entries => uptoBulkEntries entries + 1
  | .held _ => 1
def uptoBulkAll {H : Type} : List (DataW H) → Nat
  | [] => 0
  | d :: r => uptoBulk d + uptoBulkAll r
def uptoBulkEntries {H : Type} : List (Lit × DataW H) → Nat
  | [] => 0
  | x :: r => uptoBulkEntry x + uptoBulkEntries r
def uptoBulkEntry {H : Type} : Lit × DataW H → Nat
  | (.string bytes, d) => bytes.length + uptoBulk d + 1
  | (_, d) => uptoBulk d + 1
 end
def uptoSmall : (H : Type) → List (DataW H) → Bool := fun _ ds => decide (uptoBulkAll ds ≤ 1048576)
def OpenSpec.upto (s : _root_.Go.ChangeSpec) : _root_.Go.OpenSpec := { _root_.Go.OpenSpec.ofChange s with cond := some uptoSmall }

/-- 'laws.FnExactIsValidChange', WHERE WHAT IT READS IS OF BULK AT MOST 1048576: true; the input reads as it did. -/
def fnExactIsValidChangeUptoRow : OpenClaim := { program := "ytmjcfkaiheajaaa", sum := "59542ef343ad480c1711ff31568575047c19d6dab0fd2a6c9373d77cc9acfcf9", func := "loop.example/g01927/laws.FnExactIsValidChange", spec := "fnExactIsValidChange", unfollowed := true, recurses := true, apart := false, narrowed := true }
def FnExactIsValidChangeUptoSaid : Prop := fnExactIsValidChangeUptoRow.holds Try.pinned (OpenSpec.upto fnExactIsValidChangeSpec)

/-- 'laws.FnExactApplyChange', WHERE WHAT IT READS IS OF BULK AT MOST 1048576: true; the input reads as it did. -/
def fnExactApplyChangeUptoRow : OpenClaim := { program := "ytmjcfkaiheajaaa", sum := "59542ef343ad480c1711ff31568575047c19d6dab0fd2a6c9373d77cc9acfcf9", func := "loop.example/g01927/laws.FnExactApplyChange", spec := "fnExactApplyChange", unfollowed := true, recurses := true, apart := false, narrowed := true }
def FnExactApplyChangeUptoSaid : Prop := fnExactApplyChangeUptoRow.holds Try.pinned (OpenSpec.upto fnExactApplyChangeSpec)

/-- 'laws.FnExactApplyChanges', WHERE WHAT IT READS IS OF BULK AT MOST 1048576: true; the input reads as it did. -/
def fnExactApplyChangesUptoRow : OpenClaim := { program := "ytmjcfkaiheajaaa", sum := "59542ef343ad480c1711ff31568575047c19d6dab0fd2a6c9373d77cc9acfcf9", func := "loop.example/g01927/laws.FnExactApplyChanges", spec := "fnExactApplyChanges", unfollowed := true, recurses := true, apart := false, narrowed := true }
def FnExactApplyChangesUptoSaid : Prop := fnExactApplyChangesUptoRow.holds Try.pinned (OpenSpec.upto fnExactApplyChangesSpec)

/-- 'laws.FnExactFormatChange', WHERE WHAT IT READS IS OF BULK AT MOST 1048576: true; the input reads as it did. -/
def fnExactFormatChangeUptoRow : OpenClaim := { program := "ytmjcfkaiheajaaa", sum := "59542ef343ad480c1711ff31568575047c19d6dab0fd2a6c9373d77cc9acfcf9", func := "loop.example/g01927/laws.FnExactFormatChange", spec := "fnExactFormatChange", unfollowed := true, recurses := true, apart := false, narrowed := true }
def FnExactFormatChangeUptoSaid : Prop := fnExactFormatChangeUptoRow.holds Try.pinned (OpenSpec.upto fnExactFormatChangeSpec)

/-- 'laws.FnExactChangedBlocks', WHERE WHAT IT READS IS OF BULK AT MOST 1048576: true; the input reads as it did. -/
def fnExactChangedBlocksUptoRow : OpenClaim := { program := "ytmjcfkaiheajaaa", sum := "59542ef343ad480c1711ff31568575047c19d6dab0fd2a6c9373d77cc9acfcf9", func := "loop.example/g01927/laws.FnExactChangedBlocks", spec := "fnExactChangedBlocks", unfollowed := true, recurses := true, apart := false, narrowed := true }
def FnExactChangedBlocksUptoSaid : Prop := fnExactChangedBlocksUptoRow.holds Try.pinned (OpenSpec.upto fnExactChangedBlocksSpec)

/-- 'laws.FnExactIsValidBlock', WHERE WHAT IT READS IS OF BULK AT MOST 1048576: true; the input reads as it did. -/
def fnExactIsValidBlockUptoRow : OpenClaim := { program := "ytmjcfkaiheajaaa", sum := "59542ef343ad480c1711ff31568575047c19d6dab0fd2a6c9373d77cc9acfcf9", func := "loop.example/g01927/laws.FnExactIsValidBlock", spec := "fnExactIsValidBlock", unfollowed := true, recurses := true, apart := false, narrowed := true }
def FnExactIsValidBlockUptoSaid : Prop := fnExactIsValidBlockUptoRow.holds Try.pinned (OpenSpec.upto fnExactIsValidBlockSpec)

/-- 'laws.FnExactAddRow', WHERE WHAT IT READS IS OF BULK AT MOST 1048576: true; the input reads as it did. -/
def fnExactAddRowUptoRow : OpenClaim := { program := "ytmjcfkaiheajaaa", sum := "59542ef343ad480c1711ff31568575047c19d6dab0fd2a6c9373d77cc9acfcf9", func := "loop.example/g01927/laws.FnExactAddRow", spec := "fnExactAddRow", unfollowed := true, recurses := true, apart := false, narrowed := true }
def FnExactAddRowUptoSaid : Prop := fnExactAddRowUptoRow.holds Try.pinned (OpenSpec.upto fnExactAddRowSpec)

/-- 'laws.FnExactRemoveRow', WHERE WHAT IT READS IS OF BULK AT MOST 1048576: true; the input reads as it did. -/
def fnExactRemoveRowUptoRow : OpenClaim := { program := "ytmjcfkaiheajaaa", sum := "59542ef343ad480c1711ff31568575047c19d6dab0fd2a6c9373d77cc9acfcf9", func := "loop.example/g01927/laws.FnExactRemoveRow", spec := "fnExactRemoveRow", unfollowed := true, recurses := true, apart := false, narrowed := true }
def FnExactRemoveRowUptoSaid : Prop := fnExactRemoveRowUptoRow.holds Try.pinned (OpenSpec.upto fnExactRemoveRowSpec)

/-- 'laws.FnExactIsValidTable', WHERE WHAT IT READS IS OF BULK AT MOST 1048576: true; the input reads as it did. -/
def fnExactIsValidTableUptoRow : OpenClaim := { program := "ytmjcfkaiheajaaa", sum := "59542ef343ad480c1711ff31568575047c19d6dab0fd2a6c9373d77cc9acfcf9", func := "loop.example/g01927/laws.FnExactIsValidTable", spec := "fnExactIsValidTable", unfollowed := true, recurses := true, apart := false, narrowed := true }
def FnExactIsValidTableUptoSaid : Prop := fnExactIsValidTableUptoRow.holds Try.pinned (OpenSpec.upto fnExactIsValidTableSpec)

end Rows
end Go.Proofs.Ytmjcfkaiheajaaa
