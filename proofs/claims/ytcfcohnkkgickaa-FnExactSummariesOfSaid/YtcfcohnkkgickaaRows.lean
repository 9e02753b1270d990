/-
  No cell of these rows narrows 'for every input' (looked for: loops, veiled, ifaces, maps, wideKeys, modest, calm, conditions, laid).
  DERIVED. THE GIVEN ROWS OF THIS SEAT. 10 by the template 'for every input the law returns true; each argument reads behind the call as it read before'; 0 by the template 'total and deterministic' (their statements: YtcfcohnkkgickaaTotals.lean).
  GIVEN WITH THE SEED: the statements are not yours to turn. If you find one false, say at which input.
  Laid BY PROGRAM, IN A SANDBOX (cutbox-rows.mjs): the forced cells as the released guide's own fill.sh prints them over the translation 8d0a2e58386bd3b4… (all of the seat's roots in one cut). By AI agents, Wed Nov 11 2026. No macro, syntax, notation, axiom, sorry.
-/
import Derived.Test.YtcfcohnkkgickaaChecked
import GoSem.Claim
import GoSem.ClaimJoined
import GoSem.ClaimMapViews
import Derived.JoinedTies
import Derived.KernelRfl
namespace Go.Proofs.Ytcfcohnkkgickaa
/- THE CELL 'sum', in the pinned program and in every row, IS THE sha256 OF THE DUMP (.gsa) THAT YtcfcohnkkgickaaProg.lean LOADS. Nothing in Lean hashes anything: it is a label: what it is worth is what the hold of that sum in a sandbox is worth. -/
noncomputable def Try.pinned : Pinned := { name := "ytcfcohnkkgickaa", sum := "8d0a2e58386bd3b44a6b3b232e8326481b3c9764f07a79b50365c4022ce86669", checked := Try.checked }
namespace Rows
def none {H : Type} : Left H := { results := [], args := [] }

/-- 'laws.FnExactApplyChange': WHATEVER THE INPUT: true; the input reads as it did. -/
def fnExactApplyChangeSpec : ChangeSpec := { name := "fnExactApplyChange", fn := fun _ => fun
  | [d1, d2] => { results := [.lit (.bool true)], args := [d1, d2] }
  | _ => none }
def fnExactApplyChangeRow : OpenClaim := { program := "ytcfcohnkkgickaa", sum := "8d0a2e58386bd3b44a6b3b232e8326481b3c9764f07a79b50365c4022ce86669", func := "loop.example/g01927/laws.FnExactApplyChange", spec := "fnExactApplyChange", unfollowed := true, recurses := true, apart := false }
def FnExactApplyChangeSaid : Prop := fnExactApplyChangeRow.holds Try.pinned (OpenSpec.ofChange fnExactApplyChangeSpec)

/-- ITS FALSE NEIGHBOUR: 'it returns false'. Refute it at one input. -/
def fnExactApplyChangeWrong : ChangeSpec := { name := "fnExactApplyChange", fn := fun _ => fun
  | [d1, d2] => { results := [.lit (.bool false)], args := [d1, d2] }
  | _ => none }
def FnExactApplyChangeWrongFalsely : Prop := fnExactApplyChangeRow.holds Try.pinned (OpenSpec.ofChange fnExactApplyChangeWrong)

/-- 'laws.FnExactApplyChanges': WHATEVER THE INPUT: true; the input reads as it did. -/
def fnExactApplyChangesSpec : ChangeSpec := { name := "fnExactApplyChanges", fn := fun _ => fun
  | [d1, d2] => { results := [.lit (.bool true)], args := [d1, d2] }
  | _ => none }
def fnExactApplyChangesRow : OpenClaim := { program := "ytcfcohnkkgickaa", sum := "8d0a2e58386bd3b44a6b3b232e8326481b3c9764f07a79b50365c4022ce86669", func := "loop.example/g01927/laws.FnExactApplyChanges", spec := "fnExactApplyChanges", unfollowed := true, recurses := true, apart := false }
def FnExactApplyChangesSaid : Prop := fnExactApplyChangesRow.holds Try.pinned (OpenSpec.ofChange fnExactApplyChangesSpec)

/-- ITS FALSE NEIGHBOUR: 'it returns false'. Refute it at one input. -/
def fnExactApplyChangesWrong : ChangeSpec := { name := "fnExactApplyChanges", fn := fun _ => fun
  | [d1, d2] => { results := [.lit (.bool false)], args := [d1, d2] }
  | _ => none }
def FnExactApplyChangesWrongFalsely : Prop := fnExactApplyChangesRow.holds Try.pinned (OpenSpec.ofChange fnExactApplyChangesWrong)

/-- 'laws.FnHistograms': WHATEVER THE INPUT: true; the input reads as it did. -/
def fnHistogramsSpec : ChangeSpec := { name := "fnHistograms", fn := fun _ => fun
  | [d] => { results := [.lit (.bool true)], args := [d] }
  | _ => none }
def fnHistogramsRow : OpenClaim := { program := "ytcfcohnkkgickaa", sum := "8d0a2e58386bd3b44a6b3b232e8326481b3c9764f07a79b50365c4022ce86669", func := "loop.example/g01927/laws.FnHistograms", spec := "fnHistograms", unfollowed := true, recurses := true, apart := false }
def FnHistogramsSaid : Prop := fnHistogramsRow.holds Try.pinned (OpenSpec.ofChange fnHistogramsSpec)

/-- ITS FALSE NEIGHBOUR: 'it returns false'. Refute it at one input. -/
def fnHistogramsWrong : ChangeSpec := { name := "fnHistograms", fn := fun _ => fun
  | [d] => { results := [.lit (.bool false)], args := [d] }
  | _ => none }
def FnHistogramsWrongFalsely : Prop := fnHistogramsRow.holds Try.pinned (OpenSpec.ofChange fnHistogramsWrong)

/-- 'laws.FnExactSummarize': WHATEVER THE INPUT: true; the input reads as it did. -/
def fnExactSummarizeSpec : ChangeSpec := { name := "fnExactSummarize", fn := fun _ => fun
  | [d] => { results := [.lit (.bool true)], args := [d] }
  | _ => none }
def fnExactSummarizeRow : OpenClaim := { program := "ytcfcohnkkgickaa", sum := "8d0a2e58386bd3b44a6b3b232e8326481b3c9764f07a79b50365c4022ce86669", func := "loop.example/g01927/laws.FnExactSummarize", spec := "fnExactSummarize", unfollowed := true, recurses := true, apart := false }
def FnExactSummarizeSaid : Prop := fnExactSummarizeRow.holds Try.pinned (OpenSpec.ofChange fnExactSummarizeSpec)

/-- ITS FALSE NEIGHBOUR: 'it returns false'. Refute it at one input. -/
def fnExactSummarizeWrong : ChangeSpec := { name := "fnExactSummarize", fn := fun _ => fun
  | [d] => { results := [.lit (.bool false)], args := [d] }
  | _ => none }
def FnExactSummarizeWrongFalsely : Prop := fnExactSummarizeRow.holds Try.pinned (OpenSpec.ofChange fnExactSummarizeWrong)

/-- 'laws.FnExactIsSummary': WHATEVER THE INPUT: true; the input reads as it did. -/
def fnExactIsSummarySpec : ChangeSpec := { name := "fnExactIsSummary", fn := fun _ => fun
  | [d] => { results := [.lit (.bool true)], args := [d] }
  | _ => none }
def fnExactIsSummaryRow : OpenClaim := { program := "ytcfcohnkkgickaa", sum := "8d0a2e58386bd3b44a6b3b232e8326481b3c9764f07a79b50365c4022ce86669", func := "loop.example/g01927/laws.FnExactIsSummary", spec := "fnExactIsSummary", apart := false }
def FnExactIsSummarySaid : Prop := fnExactIsSummaryRow.holds Try.pinned (OpenSpec.ofChange fnExactIsSummarySpec)

/-- ITS FALSE NEIGHBOUR: 'it returns false'. Refute it at one input. -/
def fnExactIsSummaryWrong : ChangeSpec := { name := "fnExactIsSummary", fn := fun _ => fun
  | [d] => { results := [.lit (.bool false)], args := [d] }
  | _ => none }
def FnExactIsSummaryWrongFalsely : Prop := fnExactIsSummaryRow.holds Try.pinned (OpenSpec.ofChange fnExactIsSummaryWrong)

/-- 'laws.FnExactValuesIn': WHATEVER THE INPUT: true; the input reads as it did. -/
def fnExactValuesInSpec : ChangeSpec := { name := "fnExactValuesIn", fn := fun _ => fun
  | [d] => { results := [.lit (.bool true)], args := [d] }
  | _ => none }
def fnExactValuesInRow : OpenClaim := { program := "ytcfcohnkkgickaa", sum := "8d0a2e58386bd3b44a6b3b232e8326481b3c9764f07a79b50365c4022ce86669", func := "loop.example/g01927/laws.FnExactValuesIn", spec := "fnExactValuesIn", apart := false }
def FnExactValuesInSaid : Prop := fnExactValuesInRow.holds Try.pinned (OpenSpec.ofChange fnExactValuesInSpec)

/-- ITS FALSE NEIGHBOUR: 'it returns false'. Refute it at one input. -/
def fnExactValuesInWrong : ChangeSpec := { name := "fnExactValuesIn", fn := fun _ => fun
  | [d] => { results := [.lit (.bool false)], args := [d] }
  | _ => none }
def FnExactValuesInWrongFalsely : Prop := fnExactValuesInRow.holds Try.pinned (OpenSpec.ofChange fnExactValuesInWrong)

/-- 'laws.FnExactMergeSummaries': WHATEVER THE INPUT: true; the input reads as it did. -/
def fnExactMergeSummariesSpec : ChangeSpec := { name := "fnExactMergeSummaries", fn := fun _ => fun
  | [d1, d2] => { results := [.lit (.bool true)], args := [d1, d2] }
  | _ => none }
def fnExactMergeSummariesRow : OpenClaim := { program := "ytcfcohnkkgickaa", sum := "8d0a2e58386bd3b44a6b3b232e8326481b3c9764f07a79b50365c4022ce86669", func := "loop.example/g01927/laws.FnExactMergeSummaries", spec := "fnExactMergeSummaries", apart := false }
def FnExactMergeSummariesSaid : Prop := fnExactMergeSummariesRow.holds Try.pinned (OpenSpec.ofChange fnExactMergeSummariesSpec)

/-- ITS FALSE NEIGHBOUR: 'it returns false'. Refute it at one input. -/
def fnExactMergeSummariesWrong : ChangeSpec := { name := "fnExactMergeSummaries", fn := fun _ => fun
  | [d1, d2] => { results := [.lit (.bool false)], args := [d1, d2] }
  | _ => none }
def FnExactMergeSummariesWrongFalsely : Prop := fnExactMergeSummariesRow.holds Try.pinned (OpenSpec.ofChange fnExactMergeSummariesWrong)

/-- 'laws.FnExactSummariesOf': WHATEVER THE INPUT: true; the input reads as it did. -/
def fnExactSummariesOfSpec : ChangeSpec := { name := "fnExactSummariesOf", fn := fun _ => fun
  | [d] => { results := [.lit (.bool true)], args := [d] }
  | _ => none }
def fnExactSummariesOfRow : OpenClaim := { program := "ytcfcohnkkgickaa", sum := "8d0a2e58386bd3b44a6b3b232e8326481b3c9764f07a79b50365c4022ce86669", func := "loop.example/g01927/laws.FnExactSummariesOf", spec := "fnExactSummariesOf", unfollowed := true, recurses := true, apart := false }
def FnExactSummariesOfSaid : Prop := fnExactSummariesOfRow.holds Try.pinned (OpenSpec.ofChange fnExactSummariesOfSpec)

/-- ITS FALSE NEIGHBOUR: 'it returns false'. Refute it at one input. -/
def fnExactSummariesOfWrong : ChangeSpec := { name := "fnExactSummariesOf", fn := fun _ => fun
  | [d] => { results := [.lit (.bool false)], args := [d] }
  | _ => none }
def FnExactSummariesOfWrongFalsely : Prop := fnExactSummariesOfRow.holds Try.pinned (OpenSpec.ofChange fnExactSummariesOfWrong)

/-- 'laws.FnExactTotalSummary': WHATEVER THE INPUT: true; the input reads as it did. -/
def fnExactTotalSummarySpec : ChangeSpec := { name := "fnExactTotalSummary", fn := fun _ => fun
  | [d] => { results := [.lit (.bool true)], args := [d] }
  | _ => none }
def fnExactTotalSummaryRow : OpenClaim := { program := "ytcfcohnkkgickaa", sum := "8d0a2e58386bd3b44a6b3b232e8326481b3c9764f07a79b50365c4022ce86669", func := "loop.example/g01927/laws.FnExactTotalSummary", spec := "fnExactTotalSummary", unfollowed := true, recurses := true, apart := false }
def FnExactTotalSummarySaid : Prop := fnExactTotalSummaryRow.holds Try.pinned (OpenSpec.ofChange fnExactTotalSummarySpec)

/-- ITS FALSE NEIGHBOUR: 'it returns false'. Refute it at one input. -/
def fnExactTotalSummaryWrong : ChangeSpec := { name := "fnExactTotalSummary", fn := fun _ => fun
  | [d] => { results := [.lit (.bool false)], args := [d] }
  | _ => none }
def FnExactTotalSummaryWrongFalsely : Prop := fnExactTotalSummaryRow.holds Try.pinned (OpenSpec.ofChange fnExactTotalSummaryWrong)

/-- 'laws.FnExactEqualSummaries': WHATEVER THE INPUT: true; the input reads as it did. -/
def fnExactEqualSummariesSpec : ChangeSpec := { name := "fnExactEqualSummaries", fn := fun _ => fun
  | [d1, d2] => { results := [.lit (.bool true)], args := [d1, d2] }
  | _ => none }
def fnExactEqualSummariesRow : OpenClaim := { program := "ytcfcohnkkgickaa", sum := "8d0a2e58386bd3b44a6b3b232e8326481b3c9764f07a79b50365c4022ce86669", func := "loop.example/g01927/laws.FnExactEqualSummaries", spec := "fnExactEqualSummaries", apart := false }
def FnExactEqualSummariesSaid : Prop := fnExactEqualSummariesRow.holds Try.pinned (OpenSpec.ofChange fnExactEqualSummariesSpec)

/-- ITS FALSE NEIGHBOUR: 'it returns false'. Refute it at one input. -/
def fnExactEqualSummariesWrong : ChangeSpec := { name := "fnExactEqualSummaries", fn := fun _ => fun
  | [d1, d2] => { results := [.lit (.bool false)], args := [d1, d2] }
  | _ => none }
def FnExactEqualSummariesWrongFalsely : Prop := fnExactEqualSummariesRow.holds Try.pinned (OpenSpec.ofChange fnExactEqualSummariesWrong)

/- THE SECOND FORM. 'bulk': how many values and letters a reading holds, each counted each time it is reached (what is shared counts as often as it is met; a slice's spare places count too). A statement '..UptoSaid' is the law's where the arguments, and the package variables that the reading takes, are together of bulk at most 1048576: NARROWER than '..Said'. Prove '..Said' where nothing that the law and all that it calls make is longer than what came in: it says more and counts as full. Else prove '..UptoSaid'. A law counts once. -/
mutual
def uptoBulk {H : Type} : DataW H → Nat
  | .lit (.string bytes) => bytes.length + 1
  | .lit _ => 1
  | .nil => 1
  | .ptr d => uptoBulk d + 1
  | .slice elems spare => uptoBulkAll elems + uptoBulkAll spare + 1
  | .agg parts => uptoBulkAll parts + 1
  | .iface _ d => uptoBulk d + 1
  | .map entries => uptoBulkEntries entries + 1
  | .held _ => 1
def uptoBulkAll {H : Type} : List (DataW H) → Nat
  | [] => 0
  | d :: r => uptoBulk d + uptoBulkAll r
def uptoBulkEntries {H : Type} : List (Lit × DataW H) → Nat
  | [] => 0
  | x :: r => uptoBulkEntry x + uptoBulkEntries r
def uptoBulkEntry {H : Type} : Lit × DataW H → Nat
  | (.string bytes, d) => bytes.length + uptoBulk d + 1
  | (_, d) => uptoBulk d + 1
 end
def uptoSmall : (H : Type) → List (DataW H) → Bool := fun _ ds => decide (uptoBulkAll ds ≤ 1048576)
def OpenSpec.upto (s : _root_.Go.ChangeSpec) : _root_.Go.OpenSpec := { _root_.Go.OpenSpec.ofChange s with cond := some uptoSmall }

/-- 'laws.FnExactApplyChange', WHERE WHAT IT READS IS OF BULK AT MOST 1048576: true; the input reads as it did. -/
def fnExactApplyChangeUptoRow : OpenClaim := { program := "ytcfcohnkkgickaa", sum := "8d0a2e58386bd3b44a6b3b232e8326481b3c9764f07a79b50365c4022ce86669", func := "loop.example/g01927/laws.FnExactApplyChange", spec := "fnExactApplyChange", unfollowed := true, recurses := true, apart := false, narrowed := true }
def FnExactApplyChangeUptoSaid : Prop := fnExactApplyChangeUptoRow.holds Try.pinned (OpenSpec.upto fnExactApplyChangeSpec)

/-- 'laws.FnExactApplyChanges', WHERE WHAT IT READS IS OF BULK AT MOST 1048576: true; the input reads as it did. -/
def fnExactApplyChangesUptoRow : OpenClaim := { program := "ytcfcohnkkgickaa", sum := "8d0a2e58386bd3b44a6b3b232e8326481b3c9764f07a79b50365c4022ce86669", func := "loop.example/g01927/laws.FnExactApplyChanges", spec := "fnExactApplyChanges", unfollowed := true, recurses := true, apart := false, narrowed := true }
def FnExactApplyChangesUptoSaid : Prop := fnExactApplyChangesUptoRow.holds Try.pinned (OpenSpec.upto fnExactApplyChangesSpec)

/-- 'laws.FnHistograms', WHERE WHAT IT READS IS OF BULK AT MOST 1048576: true; the input reads as it did. -/
def fnHistogramsUptoRow : OpenClaim := { program := "ytcfcohnkkgickaa", sum := "8d0a2e58386bd3b44a6b3b232e8326481b3c9764f07a79b50365c4022ce86669", func := "loop.example/g01927/laws.FnHistograms", spec := "fnHistograms", unfollowed := true, recurses := true, apart := false, narrowed := true }
def FnHistogramsUptoSaid : Prop := fnHistogramsUptoRow.holds Try.pinned (OpenSpec.upto fnHistogramsSpec)

/-- 'laws.FnExactSummarize', WHERE WHAT IT READS IS OF BULK AT MOST 1048576: true; the input reads as it did. -/
def fnExactSummarizeUptoRow : OpenClaim := { program := "ytcfcohnkkgickaa", sum := "8d0a2e58386bd3b44a6b3b232e8326481b3c9764f07a79b50365c4022ce86669", func := "loop.example/g01927/laws.FnExactSummarize", spec := "fnExactSummarize", unfollowed := true, recurses := true, apart := false, narrowed := true }
def FnExactSummarizeUptoSaid : Prop := fnExactSummarizeUptoRow.holds Try.pinned (OpenSpec.upto fnExactSummarizeSpec)

/-- 'laws.FnExactIsSummary', WHERE WHAT IT READS IS OF BULK AT MOST 1048576: true; the input reads as it did. -/
def fnExactIsSummaryUptoRow : OpenClaim := { program := "ytcfcohnkkgickaa", sum := "8d0a2e58386bd3b44a6b3b232e8326481b3c9764f07a79b50365c4022ce86669", func := "loop.example/g01927/laws.FnExactIsSummary", spec := "fnExactIsSummary", apart := false, narrowed := true }
def FnExactIsSummaryUptoSaid : Prop := fnExactIsSummaryUptoRow.holds Try.pinned (OpenSpec.upto fnExactIsSummarySpec)

/-- 'laws.FnExactValuesIn', WHERE WHAT IT READS IS OF BULK AT MOST 1048576: true; the input reads as it did. -/
def fnExactValuesInUptoRow : OpenClaim := { program := "ytcfcohnkkgickaa", sum := "8d0a2e58386bd3b44a6b3b232e8326481b3c9764f07a79b50365c4022ce86669", func := "loop.example/g01927/laws.FnExactValuesIn", spec := "fnExactValuesIn", apart := false, narrowed := true }
def FnExactValuesInUptoSaid : Prop := fnExactValuesInUptoRow.holds Try.pinned (OpenSpec.upto fnExactValuesInSpec)

/-- 'laws.FnExactMergeSummaries', WHERE WHAT IT READS IS OF BULK AT MOST 1048576: true; the input reads as it did. -/
def fnExactMergeSummariesUptoRow : OpenClaim := { program := "ytcfcohnkkgickaa", sum := "8d0a2e58386bd3b44a6b3b232e8326481b3c9764f07a79b50365c4022ce86669", func := "loop.example/g01927/laws.FnExactMergeSummaries", spec := "fnExactMergeSummaries", apart := false, narrowed := true }
def FnExactMergeSummariesUptoSaid : Prop := fnExactMergeSummariesUptoRow.holds Try.pinned (OpenSpec.upto fnExactMergeSummariesSpec)

/-- 'laws.FnExactSummariesOf', WHERE WHAT IT READS IS OF BULK AT MOST 1048576: true; the input reads as it did. -/
def fnExactSummariesOfUptoRow : OpenClaim := { program := "ytcfcohnkkgickaa", sum := "8d0a2e58386bd3b44a6b3b232e8326481b3c9764f07a79b50365c4022ce86669", func := "loop.example/g01927/laws.FnExactSummariesOf", spec := "fnExactSummariesOf", unfollowed := true, recurses := true, apart := false, narrowed := true }
def FnExactSummariesOfUptoSaid : Prop := fnExactSummariesOfUptoRow.holds Try.pinned (OpenSpec.upto fnExactSummariesOfSpec)

/-- 'laws.FnExactTotalSummary', WHERE WHAT IT READS IS OF BULK AT MOST 1048576: true; the input reads as it did. -/
def fnExactTotalSummaryUptoRow : OpenClaim := { program := "ytcfcohnkkgickaa", sum := "8d0a2e58386bd3b44a6b3b232e8326481b3c9764f07a79b50365c4022ce86669", func := "loop.example/g01927/laws.FnExactTotalSummary", spec := "fnExactTotalSummary", unfollowed := true, recurses := true, apart := false, narrowed := true }
def FnExactTotalSummaryUptoSaid : Prop := fnExactTotalSummaryUptoRow.holds Try.pinned (OpenSpec.upto fnExactTotalSummarySpec)

/-- 'laws.FnExactEqualSummaries', WHERE WHAT IT READS IS OF BULK AT MOST 1048576: true; the input reads as it did. -/
def fnExactEqualSummariesUptoRow : OpenClaim := { program := "ytcfcohnkkgickaa", sum := "8d0a2e58386bd3b44a6b3b232e8326481b3c9764f07a79b50365c4022ce86669", func := "loop.example/g01927/laws.FnExactEqualSummaries", spec := "fnExactEqualSummaries", apart := false, narrowed := true }
def FnExactEqualSummariesUptoSaid : Prop := fnExactEqualSummariesUptoRow.holds Try.pinned (OpenSpec.upto fnExactEqualSummariesSpec)

end Rows
end Go.Proofs.Ytcfcohnkkgickaa
