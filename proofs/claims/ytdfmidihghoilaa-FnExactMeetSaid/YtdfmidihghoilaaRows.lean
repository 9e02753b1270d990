/-
  No cell of these rows narrows 'for every input' (looked for: loops, veiled, ifaces, maps, wideKeys, modest, calm, conditions, laid).
  DERIVED. THE GIVEN ROWS OF THIS SEAT. 8 by the template 'for every input the law returns true; each argument reads behind the call as it read before'; 0 by the template 'total and deterministic' (their statements: YtdfmidihghoilaaTotals.lean).
  GIVEN WITH THE SEED: the statements are not yours to turn. If you find one false, say at which input.
  Laid BY PROGRAM, IN A SANDBOX (cutbox-rows.mjs): the forced cells as the released guide's own fill.sh prints them over the translation 7a9c02e804c2d17d… (all of the seat's roots in one cut). By AI agents, Wed Nov 11 2026. No macro, syntax, notation, axiom, sorry.
-/
import Derived.Test.YtdfmidihghoilaaChecked
import GoSem.Claim
import GoSem.ClaimJoined
import GoSem.ClaimMapViews
import Derived.JoinedTies
import Derived.KernelRfl
namespace Go.Proofs.Ytdfmidihghoilaa
/- THE CELL 'sum', in the pinned program and in every row, IS THE sha256 OF THE DUMP (.gsa) THAT YtdfmidihghoilaaProg.lean LOADS. Nothing in Lean hashes anything: it is a label: what it is worth is what the hold of that sum in a sandbox is worth. -/
noncomputable def Try.pinned : Pinned := { name := "ytdfmidihghoilaa", sum := "7a9c02e804c2d17d71319cb3455bdee6e8e814fb9e48cc75bd742de2bddeb5fd", checked := Try.checked }
namespace Rows
def none {H : Type} : Left H := { results := [], args := [] }

/-- 'laws.FnExactIsInterval': WHATEVER THE INPUT: true; the input reads as it did. -/
def fnExactIsIntervalSpec : ChangeSpec := { name := "fnExactIsInterval", fn := fun _ => fun
  | [d] => { results := [.lit (.bool true)], args := [d] }
  | _ => none }
def fnExactIsIntervalRow : OpenClaim := { program := "ytdfmidihghoilaa", sum := "7a9c02e804c2d17d71319cb3455bdee6e8e814fb9e48cc75bd742de2bddeb5fd", func := "loop.example/g01927/laws.FnExactIsInterval", spec := "fnExactIsInterval", apart := false }
def FnExactIsIntervalSaid : Prop := fnExactIsIntervalRow.holds Try.pinned (OpenSpec.ofChange fnExactIsIntervalSpec)

/-- ITS FALSE NEIGHBOUR: 'it returns false'. Refute it at one input. -/
def fnExactIsIntervalWrong : ChangeSpec := { name := "fnExactIsInterval", fn := fun _ => fun
  | [d] => { results := [.lit (.bool false)], args := [d] }
  | _ => none }
def FnExactIsIntervalWrongFalsely : Prop := fnExactIsIntervalRow.holds Try.pinned (OpenSpec.ofChange fnExactIsIntervalWrong)

/-- 'laws.FnExactExactly': WHATEVER THE INPUT: true; the input reads as it did. -/
def fnExactExactlySpec : ChangeSpec := { name := "fnExactExactly", fn := fun _ => fun
  | [d] => { results := [.lit (.bool true)], args := [d] }
  | _ => none }
def fnExactExactlyRow : OpenClaim := { program := "ytdfmidihghoilaa", sum := "7a9c02e804c2d17d71319cb3455bdee6e8e814fb9e48cc75bd742de2bddeb5fd", func := "loop.example/g01927/laws.FnExactExactly", spec := "fnExactExactly", apart := false }
def FnExactExactlySaid : Prop := fnExactExactlyRow.holds Try.pinned (OpenSpec.ofChange fnExactExactlySpec)

/-- ITS FALSE NEIGHBOUR: 'it returns false'. Refute it at one input. -/
def fnExactExactlyWrong : ChangeSpec := { name := "fnExactExactly", fn := fun _ => fun
  | [d] => { results := [.lit (.bool false)], args := [d] }
  | _ => none }
def FnExactExactlyWrongFalsely : Prop := fnExactExactlyRow.holds Try.pinned (OpenSpec.ofChange fnExactExactlyWrong)

/-- 'laws.FnExactContains': WHATEVER THE INPUT: true; the input reads as it did. -/
def fnExactContainsSpec : ChangeSpec := { name := "fnExactContains", fn := fun _ => fun
  | [d1, d2] => { results := [.lit (.bool true)], args := [d1, d2] }
  | _ => none }
def fnExactContainsRow : OpenClaim := { program := "ytdfmidihghoilaa", sum := "7a9c02e804c2d17d71319cb3455bdee6e8e814fb9e48cc75bd742de2bddeb5fd", func := "loop.example/g01927/laws.FnExactContains", spec := "fnExactContains", apart := false }
def FnExactContainsSaid : Prop := fnExactContainsRow.holds Try.pinned (OpenSpec.ofChange fnExactContainsSpec)

/-- ITS FALSE NEIGHBOUR: 'it returns false'. Refute it at one input. -/
def fnExactContainsWrong : ChangeSpec := { name := "fnExactContains", fn := fun _ => fun
  | [d1, d2] => { results := [.lit (.bool false)], args := [d1, d2] }
  | _ => none }
def FnExactContainsWrongFalsely : Prop := fnExactContainsRow.holds Try.pinned (OpenSpec.ofChange fnExactContainsWrong)

/-- 'laws.FnExactLiesWithin': WHATEVER THE INPUT: true; the input reads as it did. -/
def fnExactLiesWithinSpec : ChangeSpec := { name := "fnExactLiesWithin", fn := fun _ => fun
  | [d1, d2] => { results := [.lit (.bool true)], args := [d1, d2] }
  | _ => none }
def fnExactLiesWithinRow : OpenClaim := { program := "ytdfmidihghoilaa", sum := "7a9c02e804c2d17d71319cb3455bdee6e8e814fb9e48cc75bd742de2bddeb5fd", func := "loop.example/g01927/laws.FnExactLiesWithin", spec := "fnExactLiesWithin", apart := false }
def FnExactLiesWithinSaid : Prop := fnExactLiesWithinRow.holds Try.pinned (OpenSpec.ofChange fnExactLiesWithinSpec)

/-- ITS FALSE NEIGHBOUR: 'it returns false'. Refute it at one input. -/
def fnExactLiesWithinWrong : ChangeSpec := { name := "fnExactLiesWithin", fn := fun _ => fun
  | [d1, d2] => { results := [.lit (.bool false)], args := [d1, d2] }
  | _ => none }
def FnExactLiesWithinWrongFalsely : Prop := fnExactLiesWithinRow.holds Try.pinned (OpenSpec.ofChange fnExactLiesWithinWrong)

/-- 'laws.FnExactWidthOf': WHATEVER THE INPUT: true; the input reads as it did. -/
def fnExactWidthOfSpec : ChangeSpec := { name := "fnExactWidthOf", fn := fun _ => fun
  | [d] => { results := [.lit (.bool true)], args := [d] }
  | _ => none }
def fnExactWidthOfRow : OpenClaim := { program := "ytdfmidihghoilaa", sum := "7a9c02e804c2d17d71319cb3455bdee6e8e814fb9e48cc75bd742de2bddeb5fd", func := "loop.example/g01927/laws.FnExactWidthOf", spec := "fnExactWidthOf", apart := false }
def FnExactWidthOfSaid : Prop := fnExactWidthOfRow.holds Try.pinned (OpenSpec.ofChange fnExactWidthOfSpec)

/-- ITS FALSE NEIGHBOUR: 'it returns false'. Refute it at one input. -/
def fnExactWidthOfWrong : ChangeSpec := { name := "fnExactWidthOf", fn := fun _ => fun
  | [d] => { results := [.lit (.bool false)], args := [d] }
  | _ => none }
def FnExactWidthOfWrongFalsely : Prop := fnExactWidthOfRow.holds Try.pinned (OpenSpec.ofChange fnExactWidthOfWrong)

/-- 'laws.FnExactIsExact': WHATEVER THE INPUT: true; the input reads as it did. -/
def fnExactIsExactSpec : ChangeSpec := { name := "fnExactIsExact", fn := fun _ => fun
  | [d] => { results := [.lit (.bool true)], args := [d] }
  | _ => none }
def fnExactIsExactRow : OpenClaim := { program := "ytdfmidihghoilaa", sum := "7a9c02e804c2d17d71319cb3455bdee6e8e814fb9e48cc75bd742de2bddeb5fd", func := "loop.example/g01927/laws.FnExactIsExact", spec := "fnExactIsExact", apart := false }
def FnExactIsExactSaid : Prop := fnExactIsExactRow.holds Try.pinned (OpenSpec.ofChange fnExactIsExactSpec)

/-- ITS FALSE NEIGHBOUR: 'it returns false'. Refute it at one input. -/
def fnExactIsExactWrong : ChangeSpec := { name := "fnExactIsExact", fn := fun _ => fun
  | [d] => { results := [.lit (.bool false)], args := [d] }
  | _ => none }
def FnExactIsExactWrongFalsely : Prop := fnExactIsExactRow.holds Try.pinned (OpenSpec.ofChange fnExactIsExactWrong)

/-- 'laws.FnExactMeet': WHATEVER THE INPUT: true; the input reads as it did. -/
def fnExactMeetSpec : ChangeSpec := { name := "fnExactMeet", fn := fun _ => fun
  | [d1, d2] => { results := [.lit (.bool true)], args := [d1, d2] }
  | _ => none }
def fnExactMeetRow : OpenClaim := { program := "ytdfmidihghoilaa", sum := "7a9c02e804c2d17d71319cb3455bdee6e8e814fb9e48cc75bd742de2bddeb5fd", func := "loop.example/g01927/laws.FnExactMeet", spec := "fnExactMeet", apart := false }
def FnExactMeetSaid : Prop := fnExactMeetRow.holds Try.pinned (OpenSpec.ofChange fnExactMeetSpec)

/-- ITS FALSE NEIGHBOUR: 'it returns false'. Refute it at one input. -/
def fnExactMeetWrong : ChangeSpec := { name := "fnExactMeet", fn := fun _ => fun
  | [d1, d2] => { results := [.lit (.bool false)], args := [d1, d2] }
  | _ => none }
def FnExactMeetWrongFalsely : Prop := fnExactMeetRow.holds Try.pinned (OpenSpec.ofChange fnExactMeetWrong)

/-- 'laws.FnExactCompareIntervals': WHATEVER THE INPUT: true; the input reads as it did. -/
def fnExactCompareIntervalsSpec : ChangeSpec := { name := "fnExactCompareIntervals", fn := fun _ => fun
  | [d1, d2] => { results := [.lit (.bool true)], args := [d1, d2] }
  | _ => none }
def fnExactCompareIntervalsRow : OpenClaim := { program := "ytdfmidihghoilaa", sum := "7a9c02e804c2d17d71319cb3455bdee6e8e814fb9e48cc75bd742de2bddeb5fd", func := "loop.example/g01927/laws.FnExactCompareIntervals", spec := "fnExactCompareIntervals", apart := false }
def FnExactCompareIntervalsSaid : Prop := fnExactCompareIntervalsRow.holds Try.pinned (OpenSpec.ofChange fnExactCompareIntervalsSpec)

/-- ITS FALSE NEIGHBOUR: 'it returns false'. Refute it at one input. -/
def fnExactCompareIntervalsWrong : ChangeSpec := { name := "fnExactCompareIntervals", fn := fun _ => fun
  | [d1, d2] => { results := [.lit (.bool false)], args := [d1, d2] }
  | _ => none }
def FnExactCompareIntervalsWrongFalsely : Prop := fnExactCompareIntervalsRow.holds Try.pinned (OpenSpec.ofChange fnExactCompareIntervalsWrong)

/- THE SECOND FORM. 'bulk': how many values and letters a reading holds, each counted each time it is reached (what is shared counts as often as it is met; a slice's spare places count too). A statement '..UptoSaid' is the law's where the arguments, and the package variables that the reading takes, are together of bulk at most 1048576: NARROWER than '..Said'. Prove '..Said' where nothing that the law and all that it calls make is longer than what came in: it says more and counts as full. Else prove '..UptoSaid'. A law counts once. -/
mutual
def uptoBulk {H : Type} : DataW H → Nat
  | .lit (.string bytes) => bytes.length + 1
  | .lit _ => 1
  | .nil => 1
  | .ptr d => uptoBulk d + 1
  | .slice elems spare => uptoBulkAll elems + uptoBulkAll spare + 1
  | .agg parts => uptoBulkAll parts + 1
  | .iface _ d => uptoBulk d + 1
  | .map entries => uptoBulkEntries entries + 1
  | .held _ => 1
def uptoBulkAll {H : Type} : List (DataW H) → Nat
  | [] => 0
  | d :: r => uptoBulk d + uptoBulkAll r
def uptoBulkEntries {H : Type} : List (Lit × DataW H) → Nat
  | [] => 0
  | x :: r => uptoBulkEntry x + uptoBulkEntries r
def uptoBulkEntry {H : Type} : Lit × DataW H → Nat
  | (.string bytes, d) => bytes.length + uptoBulk d + 1
  | (_, d) => uptoBulk d + 1
 end
def uptoSmall : (H : Type) → List (DataW H) → Bool := fun _ ds => decide (uptoBulkAll ds ≤ 1048576)
def OpenSpec.upto (s : _root_.Go.ChangeSpec) : _root_.Go.OpenSpec := { _root_.Go.OpenSpec.ofChange s with cond := some uptoSmall }

/-- 'laws.FnExactIsInterval', WHERE WHAT IT READS IS OF BULK AT MOST 1048576: true; the input reads as it did. -/
def fnExactIsIntervalUptoRow : OpenClaim := { program := "ytdfmidihghoilaa", sum := "7a9c02e804c2d17d71319cb3455bdee6e8e814fb9e48cc75bd742de2bddeb5fd", func := "loop.example/g01927/laws.FnExactIsInterval", spec := "fnExactIsInterval", apart := false, narrowed := true }
def FnExactIsIntervalUptoSaid : Prop := fnExactIsIntervalUptoRow.holds Try.pinned (OpenSpec.upto fnExactIsIntervalSpec)

/-- 'laws.FnExactExactly', WHERE WHAT IT READS IS OF BULK AT MOST 1048576: true; the input reads as it did. -/
def fnExactExactlyUptoRow : OpenClaim := { program := "ytdfmidihghoilaa", sum := "7a9c02e804c2d17d71319cb3455bdee6e8e814fb9e48cc75bd742de2bddeb5fd", func := "loop.example/g01927/laws.FnExactExactly", spec := "fnExactExactly", apart := false, narrowed := true }
def FnExactExactlyUptoSaid : Prop := fnExactExactlyUptoRow.holds Try.pinned (OpenSpec.upto fnExactExactlySpec)

/-- 'laws.FnExactContains', WHERE WHAT IT READS IS OF BULK AT MOST 1048576: true; the input reads as it did. -/
def fnExactContainsUptoRow : OpenClaim := { program := "ytdfmidihghoilaa", sum := "7a9c02e804c2d17d71319cb3455bdee6e8e814fb9e48cc75bd742de2bddeb5fd", func := "loop.example/g01927/laws.FnExactContains", spec := "fnExactContains", apart := false, narrowed := true }
def FnExactContainsUptoSaid : Prop := fnExactContainsUptoRow.holds Try.pinned (OpenSpec.upto fnExactContainsSpec)

/-- 'laws.FnExactLiesWithin', WHERE WHAT IT READS IS OF BULK AT MOST 1048576: true; the input reads as it did. -/
def fnExactLiesWithinUptoRow : OpenClaim := { program := "ytdfmidihghoilaa", sum := "7a9c02e804c2d17d71319cb3455bdee6e8e814fb9e48cc75bd742de2bddeb5fd", func := "loop.example/g01927/laws.FnExactLiesWithin", spec := "fnExactLiesWithin", apart := false, narrowed := true }
def FnExactLiesWithinUptoSaid : Prop := fnExactLiesWithinUptoRow.holds Try.pinned (OpenSpec.upto fnExactLiesWithinSpec)

/-- 'laws.FnExactWidthOf', WHERE WHAT IT READS IS OF BULK AT MOST 1048576: true; the input reads as it did. -/
def fnExactWidthOfUptoRow : OpenClaim := { program := "ytdfmidihghoilaa", sum := "7a9c02e804c2d17d71319cb3455bdee6e8e814fb9e48cc75bd742de2bddeb5fd", func := "loop.example/g01927/laws.FnExactWidthOf", spec := "fnExactWidthOf", apart := false, narrowed := true }
def FnExactWidthOfUptoSaid : Prop := fnExactWidthOfUptoRow.holds Try.pinned (OpenSpec.upto fnExactWidthOfSpec)

/-- 'laws.FnExactIsExact', WHERE WHAT IT READS IS OF BULK AT MOST 1048576: true; the input reads as it did. -/
def fnExactIsExactUptoRow : OpenClaim := { program := "ytdfmidihghoilaa", sum := "7a9c02e804c2d17d71319cb3455bdee6e8e814fb9e48cc75bd742de2bddeb5fd", func := "loop.example/g01927/laws.FnExactIsExact", spec := "fnExactIsExact", apart := false, narrowed := true }
def FnExactIsExactUptoSaid : Prop := fnExactIsExactUptoRow.holds Try.pinned (OpenSpec.upto fnExactIsExactSpec)

/-- 'laws.FnExactMeet', WHERE WHAT IT READS IS OF BULK AT MOST 1048576: true; the input reads as it did. -/
def fnExactMeetUptoRow : OpenClaim := { program := "ytdfmidihghoilaa", sum := "7a9c02e804c2d17d71319cb3455bdee6e8e814fb9e48cc75bd742de2bddeb5fd", func := "loop.example/g01927/laws.FnExactMeet", spec := "fnExactMeet", apart := false, narrowed := true }
def FnExactMeetUptoSaid : Prop := fnExactMeetUptoRow.holds Try.pinned (OpenSpec.upto fnExactMeetSpec)

/-- 'laws.FnExactCompareIntervals', WHERE WHAT IT READS IS OF BULK AT MOST 1048576: true; the input reads as it did. -/
def fnExactCompareIntervalsUptoRow : OpenClaim := { program := "ytdfmidihghoilaa", sum := "7a9c02e804c2d17d71319cb3455bdee6e8e814fb9e48cc75bd742de2bddeb5fd", func := "loop.example/g01927/laws.FnExactCompareIntervals", spec := "fnExactCompareIntervals", apart := false, narrowed := true }
def FnExactCompareIntervalsUptoSaid : Prop := fnExactCompareIntervalsUptoRow.holds Try.pinned (OpenSpec.upto fnExactCompareIntervalsSpec)

end Rows
end Go.Proofs.Ytdfmidihghoilaa
