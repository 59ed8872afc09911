/-
  DERIVED. GIVEN WITH THE SEED: THE CARDS: each row of YtlncenochfmpaaaDoorRows.lean that lists a variable, with what it lists TIED to the program's text (the seventh form; the later family's looks); each row that meets fmt, with fmt's text TOLD by the authors' own Lean function (tested against real Go, not proved from fmt's source: count such statements apart). THE CARD IS WHAT COUNTS. Prove the row's statement (the work); the ties are given (YtlncenochfmpaaaDoorTie.lean); close each card by the builder's one call (the guide's Derived/Test/ToyasCard.lean, 'card_holds'). Laid BY PROGRAM, IN A SANDBOX (cutbox-door.mjs). By AI agents, Wed Nov 11 2026. No macro, syntax, notation, axiom, sorry.
-/
import Derived.Test.YtlncenochfmpaaaDoorRows
import GoSem.ClaimSeven
namespace Go.Proofs.YtlncenochfmpaaaDoor
namespace Rows

/-- THE TIED CARD OF 'laws.FnExactDyadicOf'. -/
def fnExactDyadicOfCard : Claim7 := { stood := { row := fnExactDyadicOfRow, standIns := [], harness := (true, "05b3c6088588d9bdb862f6bee5f1317182e23f8bd930614ff854484be8ef9bf5"), looks := true }, kinds := [], alts := [], laidByText := true, laidKinds := [.data], laidTests := true, laidLooks := .later }
def FnExactDyadicOfCardSaid : Prop := Claim7.holds Tryd.pinned (.plain (OpenSpec.ofChange fnExactDyadicOfSpec)) fnExactDyadicOfCard

/-- THE TIED CARD OF 'laws.FnExactRoundDyadic'. -/
def fnExactRoundDyadicCard : Claim7 := { stood := { row := fnExactRoundDyadicRow, standIns := [], harness := (true, "05b3c6088588d9bdb862f6bee5f1317182e23f8bd930614ff854484be8ef9bf5"), looks := true }, kinds := [], alts := [], laidByText := true, laidKinds := [.data], laidTests := true, laidLooks := .later }
def FnExactRoundDyadicCardSaid : Prop := Claim7.holds Tryd.pinned (.plain (OpenSpec.ofChange fnExactRoundDyadicSpec)) fnExactRoundDyadicCard

/-- THE TIED CARD OF 'laws.FnExactEnclosingFloats'. -/
def fnExactEnclosingFloatsCard : Claim7 := { stood := { row := fnExactEnclosingFloatsRow, standIns := [], harness := (true, "05b3c6088588d9bdb862f6bee5f1317182e23f8bd930614ff854484be8ef9bf5"), looks := true }, kinds := [], alts := [], laidByText := true, laidKinds := [.data], laidTests := true, laidLooks := .later }
def FnExactEnclosingFloatsCardSaid : Prop := Claim7.holds Tryd.pinned (.plain (OpenSpec.ofChange fnExactEnclosingFloatsSpec)) fnExactEnclosingFloatsCard

/-- THE TIED CARD OF 'laws.FnExactQuotientBelow'. -/
def fnExactQuotientBelowCard : Claim7 := { stood := { row := fnExactQuotientBelowRow, standIns := [], harness := (true, "05b3c6088588d9bdb862f6bee5f1317182e23f8bd930614ff854484be8ef9bf5"), looks := true }, kinds := [], alts := [], laidByText := true, laidKinds := [.data], laidTests := true, laidLooks := .later }
def FnExactQuotientBelowCardSaid : Prop := Claim7.holds Tryd.pinned (.plain (OpenSpec.ofChange fnExactQuotientBelowSpec)) fnExactQuotientBelowCard

/-- THE TIED CARD OF 'laws.FnExactRootAbove'. -/
def fnExactRootAboveCard : Claim7 := { stood := { row := fnExactRootAboveRow, standIns := [], harness := (true, "05b3c6088588d9bdb862f6bee5f1317182e23f8bd930614ff854484be8ef9bf5"), looks := true }, kinds := [], alts := [], laidByText := true, laidKinds := [.data], laidTests := true, laidLooks := .later }
def FnExactRootAboveCardSaid : Prop := Claim7.holds Tryd.pinned (.plain (OpenSpec.ofChange fnExactRootAboveSpec)) fnExactRootAboveCard

/-- THE TIED CARD OF 'laws.FnExactRootBelow'. -/
def fnExactRootBelowCard : Claim7 := { stood := { row := fnExactRootBelowRow, standIns := [], harness := (true, "05b3c6088588d9bdb862f6bee5f1317182e23f8bd930614ff854484be8ef9bf5"), looks := true }, kinds := [], alts := [], laidByText := true, laidKinds := [.data], laidTests := true, laidLooks := .later }
def FnExactRootBelowCardSaid : Prop := Claim7.holds Tryd.pinned (.plain (OpenSpec.ofChange fnExactRootBelowSpec)) fnExactRootBelowCard

/-- THE TIED CARD OF 'laws.FnExactAddIn'. -/
def fnExactAddInCard : Claim7 := { stood := { row := fnExactAddInRow, standIns := [], harness := (true, "05b3c6088588d9bdb862f6bee5f1317182e23f8bd930614ff854484be8ef9bf5"), looks := true }, kinds := [], alts := [], laidByText := true, laidKinds := [.data], laidTests := true, laidLooks := .later }
def FnExactAddInCardSaid : Prop := Claim7.holds Tryd.pinned (.plain (OpenSpec.ofChange fnExactAddInSpec)) fnExactAddInCard

/-- THE TIED CARD OF 'laws.FnExactSubtractIn'. -/
def fnExactSubtractInCard : Claim7 := { stood := { row := fnExactSubtractInRow, standIns := [], harness := (true, "05b3c6088588d9bdb862f6bee5f1317182e23f8bd930614ff854484be8ef9bf5"), looks := true }, kinds := [], alts := [], laidByText := true, laidKinds := [.data], laidTests := true, laidLooks := .later }
def FnExactSubtractInCardSaid : Prop := Claim7.holds Tryd.pinned (.plain (OpenSpec.ofChange fnExactSubtractInSpec)) fnExactSubtractInCard

/-- THE TIED CARD OF 'laws.FnExactMultiplyIn'. -/
def fnExactMultiplyInCard : Claim7 := { stood := { row := fnExactMultiplyInRow, standIns := [], harness := (true, "05b3c6088588d9bdb862f6bee5f1317182e23f8bd930614ff854484be8ef9bf5"), looks := true }, kinds := [], alts := [], laidByText := true, laidKinds := [.data], laidTests := true, laidLooks := .later }
def FnExactMultiplyInCardSaid : Prop := Claim7.holds Tryd.pinned (.plain (OpenSpec.ofChange fnExactMultiplyInSpec)) fnExactMultiplyInCard

/-- THE TIED CARD OF 'laws.FnExactNarrowIn'. -/
def fnExactNarrowInCard : Claim7 := { stood := { row := fnExactNarrowInRow, standIns := [], harness := (true, "05b3c6088588d9bdb862f6bee5f1317182e23f8bd930614ff854484be8ef9bf5"), looks := true }, kinds := [], alts := [], laidByText := true, laidKinds := [.data], laidTests := true, laidLooks := .later }
def FnExactNarrowInCardSaid : Prop := Claim7.holds Tryd.pinned (.plain (OpenSpec.ofChange fnExactNarrowInSpec)) fnExactNarrowInCard

/-- THE TIED CARD OF 'laws.FnExactIsExactSum'. -/
def fnExactIsExactSumCard : Claim7 := { stood := { row := fnExactIsExactSumRow, standIns := [], harness := (true, "05b3c6088588d9bdb862f6bee5f1317182e23f8bd930614ff854484be8ef9bf5"), looks := true }, kinds := [], alts := [], laidByText := true, laidKinds := [.data], laidTests := true, laidLooks := .later }
def FnExactIsExactSumCardSaid : Prop := Claim7.holds Tryd.pinned (.plain (OpenSpec.ofChange fnExactIsExactSumSpec)) fnExactIsExactSumCard

/-- THE SECOND FORM's CARD OF 'laws.FnExactDyadicOf'. -/
def fnExactDyadicOfUptoCard : Claim7 := { stood := { row := fnExactDyadicOfUptoRow, standIns := [], harness := (true, "05b3c6088588d9bdb862f6bee5f1317182e23f8bd930614ff854484be8ef9bf5"), looks := true }, kinds := [], alts := [], laidByText := true, laidKinds := [.data], laidTests := true, laidLooks := .later }
def FnExactDyadicOfUptoCardSaid : Prop := Claim7.holds Tryd.pinned (.plain (OpenSpec.upto fnExactDyadicOfSpec)) fnExactDyadicOfUptoCard

/-- THE SECOND FORM's CARD OF 'laws.FnExactRoundDyadic'. -/
def fnExactRoundDyadicUptoCard : Claim7 := { stood := { row := fnExactRoundDyadicUptoRow, standIns := [], harness := (true, "05b3c6088588d9bdb862f6bee5f1317182e23f8bd930614ff854484be8ef9bf5"), looks := true }, kinds := [], alts := [], laidByText := true, laidKinds := [.data], laidTests := true, laidLooks := .later }
def FnExactRoundDyadicUptoCardSaid : Prop := Claim7.holds Tryd.pinned (.plain (OpenSpec.upto fnExactRoundDyadicSpec)) fnExactRoundDyadicUptoCard

/-- THE SECOND FORM's CARD OF 'laws.FnExactEnclosingFloats'. -/
def fnExactEnclosingFloatsUptoCard : Claim7 := { stood := { row := fnExactEnclosingFloatsUptoRow, standIns := [], harness := (true, "05b3c6088588d9bdb862f6bee5f1317182e23f8bd930614ff854484be8ef9bf5"), looks := true }, kinds := [], alts := [], laidByText := true, laidKinds := [.data], laidTests := true, laidLooks := .later }
def FnExactEnclosingFloatsUptoCardSaid : Prop := Claim7.holds Tryd.pinned (.plain (OpenSpec.upto fnExactEnclosingFloatsSpec)) fnExactEnclosingFloatsUptoCard

/-- THE SECOND FORM's CARD OF 'laws.FnExactQuotientBelow'. -/
def fnExactQuotientBelowUptoCard : Claim7 := { stood := { row := fnExactQuotientBelowUptoRow, standIns := [], harness := (true, "05b3c6088588d9bdb862f6bee5f1317182e23f8bd930614ff854484be8ef9bf5"), looks := true }, kinds := [], alts := [], laidByText := true, laidKinds := [.data], laidTests := true, laidLooks := .later }
def FnExactQuotientBelowUptoCardSaid : Prop := Claim7.holds Tryd.pinned (.plain (OpenSpec.upto fnExactQuotientBelowSpec)) fnExactQuotientBelowUptoCard

/-- THE SECOND FORM's CARD OF 'laws.FnExactRootAbove'. -/
def fnExactRootAboveUptoCard : Claim7 := { stood := { row := fnExactRootAboveUptoRow, standIns := [], harness := (true, "05b3c6088588d9bdb862f6bee5f1317182e23f8bd930614ff854484be8ef9bf5"), looks := true }, kinds := [], alts := [], laidByText := true, laidKinds := [.data], laidTests := true, laidLooks := .later }
def FnExactRootAboveUptoCardSaid : Prop := Claim7.holds Tryd.pinned (.plain (OpenSpec.upto fnExactRootAboveSpec)) fnExactRootAboveUptoCard

/-- THE SECOND FORM's CARD OF 'laws.FnExactRootBelow'. -/
def fnExactRootBelowUptoCard : Claim7 := { stood := { row := fnExactRootBelowUptoRow, standIns := [], harness := (true, "05b3c6088588d9bdb862f6bee5f1317182e23f8bd930614ff854484be8ef9bf5"), looks := true }, kinds := [], alts := [], laidByText := true, laidKinds := [.data], laidTests := true, laidLooks := .later }
def FnExactRootBelowUptoCardSaid : Prop := Claim7.holds Tryd.pinned (.plain (OpenSpec.upto fnExactRootBelowSpec)) fnExactRootBelowUptoCard

/-- THE SECOND FORM's CARD OF 'laws.FnExactAddIn'. -/
def fnExactAddInUptoCard : Claim7 := { stood := { row := fnExactAddInUptoRow, standIns := [], harness := (true, "05b3c6088588d9bdb862f6bee5f1317182e23f8bd930614ff854484be8ef9bf5"), looks := true }, kinds := [], alts := [], laidByText := true, laidKinds := [.data], laidTests := true, laidLooks := .later }
def FnExactAddInUptoCardSaid : Prop := Claim7.holds Tryd.pinned (.plain (OpenSpec.upto fnExactAddInSpec)) fnExactAddInUptoCard

/-- THE SECOND FORM's CARD OF 'laws.FnExactSubtractIn'. -/
def fnExactSubtractInUptoCard : Claim7 := { stood := { row := fnExactSubtractInUptoRow, standIns := [], harness := (true, "05b3c6088588d9bdb862f6bee5f1317182e23f8bd930614ff854484be8ef9bf5"), looks := true }, kinds := [], alts := [], laidByText := true, laidKinds := [.data], laidTests := true, laidLooks := .later }
def FnExactSubtractInUptoCardSaid : Prop := Claim7.holds Tryd.pinned (.plain (OpenSpec.upto fnExactSubtractInSpec)) fnExactSubtractInUptoCard

/-- THE SECOND FORM's CARD OF 'laws.FnExactMultiplyIn'. -/
def fnExactMultiplyInUptoCard : Claim7 := { stood := { row := fnExactMultiplyInUptoRow, standIns := [], harness := (true, "05b3c6088588d9bdb862f6bee5f1317182e23f8bd930614ff854484be8ef9bf5"), looks := true }, kinds := [], alts := [], laidByText := true, laidKinds := [.data], laidTests := true, laidLooks := .later }
def FnExactMultiplyInUptoCardSaid : Prop := Claim7.holds Tryd.pinned (.plain (OpenSpec.upto fnExactMultiplyInSpec)) fnExactMultiplyInUptoCard

/-- THE SECOND FORM's CARD OF 'laws.FnExactNarrowIn'. -/
def fnExactNarrowInUptoCard : Claim7 := { stood := { row := fnExactNarrowInUptoRow, standIns := [], harness := (true, "05b3c6088588d9bdb862f6bee5f1317182e23f8bd930614ff854484be8ef9bf5"), looks := true }, kinds := [], alts := [], laidByText := true, laidKinds := [.data], laidTests := true, laidLooks := .later }
def FnExactNarrowInUptoCardSaid : Prop := Claim7.holds Tryd.pinned (.plain (OpenSpec.upto fnExactNarrowInSpec)) fnExactNarrowInUptoCard

/-- THE SECOND FORM's CARD OF 'laws.FnExactIsExactSum'. -/
def fnExactIsExactSumUptoCard : Claim7 := { stood := { row := fnExactIsExactSumUptoRow, standIns := [], harness := (true, "05b3c6088588d9bdb862f6bee5f1317182e23f8bd930614ff854484be8ef9bf5"), looks := true }, kinds := [], alts := [], laidByText := true, laidKinds := [.data], laidTests := true, laidLooks := .later }
def FnExactIsExactSumUptoCardSaid : Prop := Claim7.holds Tryd.pinned (.plain (OpenSpec.upto fnExactIsExactSumSpec)) fnExactIsExactSumUptoCard
end Rows
end Go.Proofs.YtlncenochfmpaaaDoor
