/-
  DERIVED. GIVEN WITH THE SEED: THE CARDS: each row of YtdfmidihghoilaaDoorRows.lean that lists a variable, with what it lists TIED to the program's text (the seventh form; the later family's looks); each row that meets fmt, with fmt's text TOLD by the authors' own Lean function (tested against real Go, not proved from fmt's source: count such statements apart). THE CARD IS WHAT COUNTS. Prove the row's statement (the work); the ties are given (YtdfmidihghoilaaDoorTie.lean); close each card by the builder's one call (the guide's Derived/Test/ToyasCard.lean, 'card_holds'). Laid BY PROGRAM, IN A SANDBOX (cutbox-door.mjs). By AI agents, Wed Nov 11 2026. No macro, syntax, notation, axiom, sorry.
-/
import Derived.Test.YtdfmidihghoilaaDoorRows
import GoSem.ClaimSeven
namespace Go.Proofs.YtdfmidihghoilaaDoor
namespace Rows

/-- THE TIED CARD OF 'laws.FnExactFormatInterval'. -/
def fnExactFormatIntervalCard : Claim7 := { stood := { row := fnExactFormatIntervalRow, standIns := [], harness := (true, "ef94622faadfec7e144121d78ed7c28384a801c832c62cd1086d80b0c98d418d"), looks := false }, kinds := [], alts := [], laidByText := true, laidKinds := [.data, .data, .data], laidTests := true, laidLooks := .later }
def FnExactFormatIntervalCardSaid : Prop := Claim7.holds Tryd.pinned (.plain (OpenSpec.ofChange fnExactFormatIntervalSpec)) fnExactFormatIntervalCard

/-- THE TIED CARD OF 'laws.FnExactParseInterval'. -/
def fnExactParseIntervalCard : Claim7 := { stood := { row := fnExactParseIntervalRow, standIns := [], harness := (true, "ef94622faadfec7e144121d78ed7c28384a801c832c62cd1086d80b0c98d418d"), looks := false }, kinds := [], alts := [], laidByText := true, laidKinds := [.data, .data, .data], laidTests := true, laidLooks := .later }
def FnExactParseIntervalCardSaid : Prop := Claim7.holds Tryd.pinned (.plain (OpenSpec.ofChange fnExactParseIntervalSpec)) fnExactParseIntervalCard

/-- THE TIED CARD OF 'laws.FnIntervals'. -/
def fnIntervalsCard : Claim7 := { stood := { row := fnIntervalsRow, standIns := [], harness := (true, "ef94622faadfec7e144121d78ed7c28384a801c832c62cd1086d80b0c98d418d"), looks := false }, kinds := [], alts := [], laidByText := true, laidKinds := [.data, .data, .data], laidTests := true, laidLooks := .later }
def FnIntervalsCardSaid : Prop := Claim7.holds Tryd.pinned (.plain (OpenSpec.ofChange fnIntervalsSpec)) fnIntervalsCard

/-- THE SECOND FORM's CARD OF 'laws.FnExactFormatInterval'. -/
def fnExactFormatIntervalUptoCard : Claim7 := { stood := { row := fnExactFormatIntervalUptoRow, standIns := [], harness := (true, "ef94622faadfec7e144121d78ed7c28384a801c832c62cd1086d80b0c98d418d"), looks := false }, kinds := [], alts := [], laidByText := true, laidKinds := [.data, .data, .data], laidTests := true, laidLooks := .later }
def FnExactFormatIntervalUptoCardSaid : Prop := Claim7.holds Tryd.pinned (.plain (OpenSpec.upto fnExactFormatIntervalSpec)) fnExactFormatIntervalUptoCard

/-- THE SECOND FORM's CARD OF 'laws.FnExactParseInterval'. -/
def fnExactParseIntervalUptoCard : Claim7 := { stood := { row := fnExactParseIntervalUptoRow, standIns := [], harness := (true, "ef94622faadfec7e144121d78ed7c28384a801c832c62cd1086d80b0c98d418d"), looks := false }, kinds := [], alts := [], laidByText := true, laidKinds := [.data, .data, .data], laidTests := true, laidLooks := .later }
def FnExactParseIntervalUptoCardSaid : Prop := Claim7.holds Tryd.pinned (.plain (OpenSpec.upto fnExactParseIntervalSpec)) fnExactParseIntervalUptoCard

/-- THE SECOND FORM's CARD OF 'laws.FnIntervals'. -/
def fnIntervalsUptoCard : Claim7 := { stood := { row := fnIntervalsUptoRow, standIns := [], harness := (true, "ef94622faadfec7e144121d78ed7c28384a801c832c62cd1086d80b0c98d418d"), looks := false }, kinds := [], alts := [], laidByText := true, laidKinds := [.data, .data, .data], laidTests := true, laidLooks := .later }
def FnIntervalsUptoCardSaid : Prop := Claim7.holds Tryd.pinned (.plain (OpenSpec.upto fnIntervalsSpec)) fnIntervalsUptoCard
end Rows
end Go.Proofs.YtdfmidihghoilaaDoor
