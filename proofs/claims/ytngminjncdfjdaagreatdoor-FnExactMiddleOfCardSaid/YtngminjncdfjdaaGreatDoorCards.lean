/-
  DERIVED. GIVEN WITH THE SEED: THE CARDS: each row of YtngminjncdfjdaaGreatDoorRows.lean that lists a variable, with what it lists TIED to the program's text (the seventh form; the later family's looks); each row that meets fmt, with fmt's text TOLD by the authors' own Lean function (tested against real Go, not proved from fmt's source: count such statements apart). THE CARD IS WHAT COUNTS. Prove the row's statement (the work); the ties are given (YtngminjncdfjdaaGreatDoorTie.lean); close each card by the builder's one call (the guide's Derived/Test/ToyasCard.lean, 'card_holds'). Laid BY PROGRAM, IN A SANDBOX (cutbox-door.mjs). By AI agents, Wed Nov 11 2026. No macro, syntax, notation, axiom, sorry.
-/
import Derived.Test.YtngminjncdfjdaaGreatDoorRows
import GoSem.ClaimSeven
namespace Go.Proofs.YtngminjncdfjdaaGreatDoor
namespace Rows

/-- THE TIED CARD OF 'laws.FnExactAddIntervals'. -/
def fnExactAddIntervalsCard : Claim7 := { stood := { row := fnExactAddIntervalsRow, standIns := [], harness := (true, "9c5f579a7c6aec9eddff474351764758cefedaba57148a21084d9c4075cecb48"), looks := true }, kinds := [], alts := [], laidByText := true, laidKinds := [.data], laidTests := true, laidLooks := .later }
def FnExactAddIntervalsCardSaid : Prop := Claim7.holds Tryz.pinned (.plain (OpenSpec.ofChange fnExactAddIntervalsSpec)) fnExactAddIntervalsCard

/-- THE TIED CARD OF 'laws.FnExactSubtractIntervals'. -/
def fnExactSubtractIntervalsCard : Claim7 := { stood := { row := fnExactSubtractIntervalsRow, standIns := [], harness := (true, "9c5f579a7c6aec9eddff474351764758cefedaba57148a21084d9c4075cecb48"), looks := true }, kinds := [], alts := [], laidByText := true, laidKinds := [.data], laidTests := true, laidLooks := .later }
def FnExactSubtractIntervalsCardSaid : Prop := Claim7.holds Tryz.pinned (.plain (OpenSpec.ofChange fnExactSubtractIntervalsSpec)) fnExactSubtractIntervalsCard

/-- THE TIED CARD OF 'laws.FnExactWidthOf'. -/
def fnExactWidthOfCard : Claim7 := { stood := { row := fnExactWidthOfRow, standIns := [], harness := (true, "9c5f579a7c6aec9eddff474351764758cefedaba57148a21084d9c4075cecb48"), looks := true }, kinds := [], alts := [], laidByText := true, laidKinds := [.data], laidTests := true, laidLooks := .later }
def FnExactWidthOfCardSaid : Prop := Claim7.holds Tryz.pinned (.plain (OpenSpec.ofChange fnExactWidthOfSpec)) fnExactWidthOfCard

/-- THE TIED CARD OF 'laws.FnExactMiddleOf'. -/
def fnExactMiddleOfCard : Claim7 := { stood := { row := fnExactMiddleOfRow, standIns := [], harness := (true, "9c5f579a7c6aec9eddff474351764758cefedaba57148a21084d9c4075cecb48"), looks := true }, kinds := [], alts := [], laidByText := true, laidKinds := [.data], laidTests := true, laidLooks := .later }
def FnExactMiddleOfCardSaid : Prop := Claim7.holds Tryz.pinned (.plain (OpenSpec.ofChange fnExactMiddleOfSpec)) fnExactMiddleOfCard

/-- THE TIED CARD OF 'laws.FnExactHalvesOf'. -/
def fnExactHalvesOfCard : Claim7 := { stood := { row := fnExactHalvesOfRow, standIns := [], harness := (true, "9c5f579a7c6aec9eddff474351764758cefedaba57148a21084d9c4075cecb48"), looks := true }, kinds := [], alts := [], laidByText := true, laidKinds := [.data], laidTests := true, laidLooks := .later }
def FnExactHalvesOfCardSaid : Prop := Claim7.holds Tryz.pinned (.plain (OpenSpec.ofChange fnExactHalvesOfSpec)) fnExactHalvesOfCard

/-- THE SECOND FORM's CARD OF 'laws.FnExactAddIntervals'. -/
def fnExactAddIntervalsUptoCard : Claim7 := { stood := { row := fnExactAddIntervalsUptoRow, standIns := [], harness := (true, "9c5f579a7c6aec9eddff474351764758cefedaba57148a21084d9c4075cecb48"), looks := true }, kinds := [], alts := [], laidByText := true, laidKinds := [.data], laidTests := true, laidLooks := .later }
def FnExactAddIntervalsUptoCardSaid : Prop := Claim7.holds Tryz.pinned (.plain (OpenSpec.upto fnExactAddIntervalsSpec)) fnExactAddIntervalsUptoCard

/-- THE SECOND FORM's CARD OF 'laws.FnExactSubtractIntervals'. -/
def fnExactSubtractIntervalsUptoCard : Claim7 := { stood := { row := fnExactSubtractIntervalsUptoRow, standIns := [], harness := (true, "9c5f579a7c6aec9eddff474351764758cefedaba57148a21084d9c4075cecb48"), looks := true }, kinds := [], alts := [], laidByText := true, laidKinds := [.data], laidTests := true, laidLooks := .later }
def FnExactSubtractIntervalsUptoCardSaid : Prop := Claim7.holds Tryz.pinned (.plain (OpenSpec.upto fnExactSubtractIntervalsSpec)) fnExactSubtractIntervalsUptoCard

/-- THE SECOND FORM's CARD OF 'laws.FnExactWidthOf'. -/
def fnExactWidthOfUptoCard : Claim7 := { stood := { row := fnExactWidthOfUptoRow, standIns := [], harness := (true, "9c5f579a7c6aec9eddff474351764758cefedaba57148a21084d9c4075cecb48"), looks := true }, kinds := [], alts := [], laidByText := true, laidKinds := [.data], laidTests := true, laidLooks := .later }
def FnExactWidthOfUptoCardSaid : Prop := Claim7.holds Tryz.pinned (.plain (OpenSpec.upto fnExactWidthOfSpec)) fnExactWidthOfUptoCard

/-- THE SECOND FORM's CARD OF 'laws.FnExactMiddleOf'. -/
def fnExactMiddleOfUptoCard : Claim7 := { stood := { row := fnExactMiddleOfUptoRow, standIns := [], harness := (true, "9c5f579a7c6aec9eddff474351764758cefedaba57148a21084d9c4075cecb48"), looks := true }, kinds := [], alts := [], laidByText := true, laidKinds := [.data], laidTests := true, laidLooks := .later }
def FnExactMiddleOfUptoCardSaid : Prop := Claim7.holds Tryz.pinned (.plain (OpenSpec.upto fnExactMiddleOfSpec)) fnExactMiddleOfUptoCard

/-- THE SECOND FORM's CARD OF 'laws.FnExactHalvesOf'. -/
def fnExactHalvesOfUptoCard : Claim7 := { stood := { row := fnExactHalvesOfUptoRow, standIns := [], harness := (true, "9c5f579a7c6aec9eddff474351764758cefedaba57148a21084d9c4075cecb48"), looks := true }, kinds := [], alts := [], laidByText := true, laidKinds := [.data], laidTests := true, laidLooks := .later }
def FnExactHalvesOfUptoCardSaid : Prop := Claim7.holds Tryz.pinned (.plain (OpenSpec.upto fnExactHalvesOfSpec)) fnExactHalvesOfUptoCard
end Rows
end Go.Proofs.YtngminjncdfjdaaGreatDoor
