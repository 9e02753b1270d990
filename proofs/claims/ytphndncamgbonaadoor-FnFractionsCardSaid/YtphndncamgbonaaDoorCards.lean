/-
  DERIVED. GIVEN WITH THE SEED: THE CARDS: each row of YtphndncamgbonaaDoorRows.lean that lists a variable, with what it lists TIED to the program's text (the seventh form; the later family's looks); each row that meets fmt, with fmt's text TOLD by the authors' own Lean function (tested against real Go, not proved from fmt's source: count such statements apart). THE CARD IS WHAT COUNTS. Prove the row's statement (the work); the ties are given (YtphndncamgbonaaDoorTie.lean); close each card by the builder's one call (the guide's Derived/Test/ToyasCard.lean, 'card_holds'). Laid BY PROGRAM, IN A SANDBOX (cutbox-door.mjs). By AI agents, Wed Nov 11 2026. No macro, syntax, notation, axiom, sorry.
-/
import Derived.Test.YtphndncamgbonaaDoorRows
import GoSem.ClaimSeven
namespace Go.Proofs.YtphndncamgbonaaDoor
namespace Rows

/-- THE TIED CARD OF 'laws.FnExactFormatFrac'. -/
def fnExactFormatFracCard : Claim7 := { stood := { row := fnExactFormatFracRow, standIns := [], harness := (true, "07421b6332c7164a3407c69c4419e2f5cf8c8833873a875e9e9e45e647b01768"), looks := false }, kinds := [], alts := [], laidByText := true, laidKinds := [.data, .data, .data], laidTests := true, laidLooks := .later }
def FnExactFormatFracCardSaid : Prop := Claim7.holds Tryd.pinned (.plain (OpenSpec.ofChange fnExactFormatFracSpec)) fnExactFormatFracCard

/-- THE TIED CARD OF 'laws.FnExactParseFrac'. -/
def fnExactParseFracCard : Claim7 := { stood := { row := fnExactParseFracRow, standIns := [], harness := (true, "07421b6332c7164a3407c69c4419e2f5cf8c8833873a875e9e9e45e647b01768"), looks := false }, kinds := [], alts := [], laidByText := true, laidKinds := [.data, .data, .data], laidTests := true, laidLooks := .later }
def FnExactParseFracCardSaid : Prop := Claim7.holds Tryd.pinned (.plain (OpenSpec.ofChange fnExactParseFracSpec)) fnExactParseFracCard

/-- THE TIED CARD OF 'laws.FnExactDecimalDown'. -/
def fnExactDecimalDownCard : Claim7 := { stood := { row := fnExactDecimalDownRow, standIns := [], harness := (true, "07421b6332c7164a3407c69c4419e2f5cf8c8833873a875e9e9e45e647b01768"), looks := false }, kinds := [], alts := [], laidByText := true, laidKinds := [.data, .data, .data], laidTests := true, laidLooks := .later }
def FnExactDecimalDownCardSaid : Prop := Claim7.holds Tryd.pinned (.plain (OpenSpec.ofChange fnExactDecimalDownSpec)) fnExactDecimalDownCard

/-- THE TIED CARD OF 'laws.FnExactDecimalUp'. -/
def fnExactDecimalUpCard : Claim7 := { stood := { row := fnExactDecimalUpRow, standIns := [], harness := (true, "07421b6332c7164a3407c69c4419e2f5cf8c8833873a875e9e9e45e647b01768"), looks := false }, kinds := [], alts := [], laidByText := true, laidKinds := [.data, .data, .data], laidTests := true, laidLooks := .later }
def FnExactDecimalUpCardSaid : Prop := Claim7.holds Tryd.pinned (.plain (OpenSpec.ofChange fnExactDecimalUpSpec)) fnExactDecimalUpCard

/-- THE TIED CARD OF 'laws.FnFractions'. -/
def fnFractionsCard : Claim7 := { stood := { row := fnFractionsRow, standIns := [], harness := (true, "07421b6332c7164a3407c69c4419e2f5cf8c8833873a875e9e9e45e647b01768"), looks := false }, kinds := [], alts := [], laidByText := true, laidKinds := [.data, .data, .data], laidTests := true, laidLooks := .later }
def FnFractionsCardSaid : Prop := Claim7.holds Tryd.pinned (.plain (OpenSpec.ofChange fnFractionsSpec)) fnFractionsCard

/-- THE TIED CARD OF 'laws.FnDecimals'. -/
def fnDecimalsCard : Claim7 := { stood := { row := fnDecimalsRow, standIns := [], harness := (true, "07421b6332c7164a3407c69c4419e2f5cf8c8833873a875e9e9e45e647b01768"), looks := false }, kinds := [], alts := [], laidByText := true, laidKinds := [.data, .data, .data], laidTests := true, laidLooks := .later }
def FnDecimalsCardSaid : Prop := Claim7.holds Tryd.pinned (.plain (OpenSpec.ofChange fnDecimalsSpec)) fnDecimalsCard

/-- THE SECOND FORM's CARD OF 'laws.FnExactFormatFrac'. -/
def fnExactFormatFracUptoCard : Claim7 := { stood := { row := fnExactFormatFracUptoRow, standIns := [], harness := (true, "07421b6332c7164a3407c69c4419e2f5cf8c8833873a875e9e9e45e647b01768"), looks := false }, kinds := [], alts := [], laidByText := true, laidKinds := [.data, .data, .data], laidTests := true, laidLooks := .later }
def FnExactFormatFracUptoCardSaid : Prop := Claim7.holds Tryd.pinned (.plain (OpenSpec.upto fnExactFormatFracSpec)) fnExactFormatFracUptoCard

/-- THE SECOND FORM's CARD OF 'laws.FnExactParseFrac'. -/
def fnExactParseFracUptoCard : Claim7 := { stood := { row := fnExactParseFracUptoRow, standIns := [], harness := (true, "07421b6332c7164a3407c69c4419e2f5cf8c8833873a875e9e9e45e647b01768"), looks := false }, kinds := [], alts := [], laidByText := true, laidKinds := [.data, .data, .data], laidTests := true, laidLooks := .later }
def FnExactParseFracUptoCardSaid : Prop := Claim7.holds Tryd.pinned (.plain (OpenSpec.upto fnExactParseFracSpec)) fnExactParseFracUptoCard

/-- THE SECOND FORM's CARD OF 'laws.FnExactDecimalDown'. -/
def fnExactDecimalDownUptoCard : Claim7 := { stood := { row := fnExactDecimalDownUptoRow, standIns := [], harness := (true, "07421b6332c7164a3407c69c4419e2f5cf8c8833873a875e9e9e45e647b01768"), looks := false }, kinds := [], alts := [], laidByText := true, laidKinds := [.data, .data, .data], laidTests := true, laidLooks := .later }
def FnExactDecimalDownUptoCardSaid : Prop := Claim7.holds Tryd.pinned (.plain (OpenSpec.upto fnExactDecimalDownSpec)) fnExactDecimalDownUptoCard

/-- THE SECOND FORM's CARD OF 'laws.FnExactDecimalUp'. -/
def fnExactDecimalUpUptoCard : Claim7 := { stood := { row := fnExactDecimalUpUptoRow, standIns := [], harness := (true, "07421b6332c7164a3407c69c4419e2f5cf8c8833873a875e9e9e45e647b01768"), looks := false }, kinds := [], alts := [], laidByText := true, laidKinds := [.data, .data, .data], laidTests := true, laidLooks := .later }
def FnExactDecimalUpUptoCardSaid : Prop := Claim7.holds Tryd.pinned (.plain (OpenSpec.upto fnExactDecimalUpSpec)) fnExactDecimalUpUptoCard

/-- THE SECOND FORM's CARD OF 'laws.FnFractions'. -/
def fnFractionsUptoCard : Claim7 := { stood := { row := fnFractionsUptoRow, standIns := [], harness := (true, "07421b6332c7164a3407c69c4419e2f5cf8c8833873a875e9e9e45e647b01768"), looks := false }, kinds := [], alts := [], laidByText := true, laidKinds := [.data, .data, .data], laidTests := true, laidLooks := .later }
def FnFractionsUptoCardSaid : Prop := Claim7.holds Tryd.pinned (.plain (OpenSpec.upto fnFractionsSpec)) fnFractionsUptoCard

/-- THE SECOND FORM's CARD OF 'laws.FnDecimals'. -/
def fnDecimalsUptoCard : Claim7 := { stood := { row := fnDecimalsUptoRow, standIns := [], harness := (true, "07421b6332c7164a3407c69c4419e2f5cf8c8833873a875e9e9e45e647b01768"), looks := false }, kinds := [], alts := [], laidByText := true, laidKinds := [.data, .data, .data], laidTests := true, laidLooks := .later }
def FnDecimalsUptoCardSaid : Prop := Claim7.holds Tryd.pinned (.plain (OpenSpec.upto fnDecimalsSpec)) fnDecimalsUptoCard
end Rows
end Go.Proofs.YtphndncamgbonaaDoor
