/-
  DERIVED. GIVEN WITH THE SEED: THE CARDS: each row of YtcjamfoiilgfoaaGreatDoorRows.lean that lists a variable, with what it lists TIED to the program's text (the seventh form; the later family's looks); each row that meets fmt, with fmt's text TOLD by the authors' own Lean function (tested against real Go, not proved from fmt's source: count such statements apart). THE CARD IS WHAT COUNTS. Prove the row's statement (the work); the ties are given (YtcjamfoiilgfoaaGreatDoorTie.lean); close each card by the builder's one call (the guide's Derived/Test/ToyasCard.lean, 'card_holds'). Laid BY PROGRAM, IN A SANDBOX (cutbox-door.mjs). By AI agents, Wed Nov 11 2026. No macro, syntax, notation, axiom, sorry.
-/
import Derived.Test.YtcjamfoiilgfoaaGreatDoorRows
import GoSem.ClaimSeven
namespace Go.Proofs.YtcjamfoiilgfoaaGreatDoor
namespace Rows

/-- THE TIED CARD OF 'laws.FnExactErrorOfRounding'. -/
def fnExactErrorOfRoundingCard : Claim7 := { stood := { row := fnExactErrorOfRoundingRow, standIns := [], harness := (true, "6e727386e29769653065724f4e45658b33ea3a89257ea71be0abddf81791e203"), looks := true }, kinds := [], alts := [], laidByText := true, laidKinds := [.data], laidTests := true, laidLooks := .later }
def FnExactErrorOfRoundingCardSaid : Prop := Claim7.holds Tryz.pinned (.plain (OpenSpec.ofChange fnExactErrorOfRoundingSpec)) fnExactErrorOfRoundingCard

/-- THE TIED CARD OF 'laws.FnExactDivideIn'. -/
def fnExactDivideInCard : Claim7 := { stood := { row := fnExactDivideInRow, standIns := [], harness := (true, "6e727386e29769653065724f4e45658b33ea3a89257ea71be0abddf81791e203"), looks := true }, kinds := [], alts := [], laidByText := true, laidKinds := [.data], laidTests := true, laidLooks := .later }
def FnExactDivideInCardSaid : Prop := Claim7.holds Tryz.pinned (.plain (OpenSpec.ofChange fnExactDivideInSpec)) fnExactDivideInCard

/-- THE TIED CARD OF 'laws.FnExactRootIn'. -/
def fnExactRootInCard : Claim7 := { stood := { row := fnExactRootInRow, standIns := [], harness := (true, "6e727386e29769653065724f4e45658b33ea3a89257ea71be0abddf81791e203"), looks := true }, kinds := [], alts := [], laidByText := true, laidKinds := [.data], laidTests := true, laidLooks := .later }
def FnExactRootInCardSaid : Prop := Claim7.holds Tryz.pinned (.plain (OpenSpec.ofChange fnExactRootInSpec)) fnExactRootInCard

/-- THE TIED CARD OF 'laws.FnExactFusedIn'. -/
def fnExactFusedInCard : Claim7 := { stood := { row := fnExactFusedInRow, standIns := [], harness := (true, "6e727386e29769653065724f4e45658b33ea3a89257ea71be0abddf81791e203"), looks := true }, kinds := [], alts := [], laidByText := true, laidKinds := [.data], laidTests := true, laidLooks := .later }
def FnExactFusedInCardSaid : Prop := Claim7.holds Tryz.pinned (.plain (OpenSpec.ofChange fnExactFusedInSpec)) fnExactFusedInCard

/-- THE TIED CARD OF 'laws.FnExactSpreadOf'. -/
def fnExactSpreadOfCard : Claim7 := { stood := { row := fnExactSpreadOfRow, standIns := [], harness := (true, "6e727386e29769653065724f4e45658b33ea3a89257ea71be0abddf81791e203"), looks := true }, kinds := [], alts := [], laidByText := true, laidKinds := [.data], laidTests := true, laidLooks := .later }
def FnExactSpreadOfCardSaid : Prop := Claim7.holds Tryz.pinned (.plain (OpenSpec.ofChange fnExactSpreadOfSpec)) fnExactSpreadOfCard

/-- THE SECOND FORM's CARD OF 'laws.FnExactErrorOfRounding'. -/
def fnExactErrorOfRoundingUptoCard : Claim7 := { stood := { row := fnExactErrorOfRoundingUptoRow, standIns := [], harness := (true, "6e727386e29769653065724f4e45658b33ea3a89257ea71be0abddf81791e203"), looks := true }, kinds := [], alts := [], laidByText := true, laidKinds := [.data], laidTests := true, laidLooks := .later }
def FnExactErrorOfRoundingUptoCardSaid : Prop := Claim7.holds Tryz.pinned (.plain (OpenSpec.upto fnExactErrorOfRoundingSpec)) fnExactErrorOfRoundingUptoCard

/-- THE SECOND FORM's CARD OF 'laws.FnExactDivideIn'. -/
def fnExactDivideInUptoCard : Claim7 := { stood := { row := fnExactDivideInUptoRow, standIns := [], harness := (true, "6e727386e29769653065724f4e45658b33ea3a89257ea71be0abddf81791e203"), looks := true }, kinds := [], alts := [], laidByText := true, laidKinds := [.data], laidTests := true, laidLooks := .later }
def FnExactDivideInUptoCardSaid : Prop := Claim7.holds Tryz.pinned (.plain (OpenSpec.upto fnExactDivideInSpec)) fnExactDivideInUptoCard

/-- THE SECOND FORM's CARD OF 'laws.FnExactRootIn'. -/
def fnExactRootInUptoCard : Claim7 := { stood := { row := fnExactRootInUptoRow, standIns := [], harness := (true, "6e727386e29769653065724f4e45658b33ea3a89257ea71be0abddf81791e203"), looks := true }, kinds := [], alts := [], laidByText := true, laidKinds := [.data], laidTests := true, laidLooks := .later }
def FnExactRootInUptoCardSaid : Prop := Claim7.holds Tryz.pinned (.plain (OpenSpec.upto fnExactRootInSpec)) fnExactRootInUptoCard

/-- THE SECOND FORM's CARD OF 'laws.FnExactFusedIn'. -/
def fnExactFusedInUptoCard : Claim7 := { stood := { row := fnExactFusedInUptoRow, standIns := [], harness := (true, "6e727386e29769653065724f4e45658b33ea3a89257ea71be0abddf81791e203"), looks := true }, kinds := [], alts := [], laidByText := true, laidKinds := [.data], laidTests := true, laidLooks := .later }
def FnExactFusedInUptoCardSaid : Prop := Claim7.holds Tryz.pinned (.plain (OpenSpec.upto fnExactFusedInSpec)) fnExactFusedInUptoCard

/-- THE SECOND FORM's CARD OF 'laws.FnExactSpreadOf'. -/
def fnExactSpreadOfUptoCard : Claim7 := { stood := { row := fnExactSpreadOfUptoRow, standIns := [], harness := (true, "6e727386e29769653065724f4e45658b33ea3a89257ea71be0abddf81791e203"), looks := true }, kinds := [], alts := [], laidByText := true, laidKinds := [.data], laidTests := true, laidLooks := .later }
def FnExactSpreadOfUptoCardSaid : Prop := Claim7.holds Tryz.pinned (.plain (OpenSpec.upto fnExactSpreadOfSpec)) fnExactSpreadOfUptoCard
end Rows
end Go.Proofs.YtcjamfoiilgfoaaGreatDoor
