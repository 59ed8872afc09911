/-
  DERIVED. GIVEN WITH THE SEED: THE CARDS: each row of YtnecnbonnidijaaDoorRows.lean that lists a variable, with what it lists TIED to the program's text (the seventh form; the later family's looks); each row that meets fmt, with fmt's text TOLD by the authors' own Lean function (tested against real Go, not proved from fmt's source: count such statements apart). THE CARD IS WHAT COUNTS. Prove the row's statement (the work); the ties are given (YtnecnbonnidijaaDoorTie.lean); close each card by the builder's one call (the guide's Derived/Test/ToyasCard.lean, 'card_holds'). Laid BY PROGRAM, IN A SANDBOX (cutbox-door.mjs). By AI agents, Wed Nov 11 2026. No macro, syntax, notation, axiom, sorry.
-/
import Derived.Test.YtnecnbonnidijaaDoorRows
import GoSem.ClaimSeven
namespace Go.Proofs.YtnecnbonnidijaaDoor
namespace Rows

/-- THE TIED CARD OF 'laws.FnExactQuotientBelow'. -/
def fnExactQuotientBelowCard : Claim7 := { stood := { row := fnExactQuotientBelowRow, standIns := [], harness := (true, "ef298af8e9429d058a3b92795f2aa35ea7919098cf63857fd1bcb0290a91013f"), looks := true }, kinds := [], alts := [], laidByText := true, laidKinds := [.data], laidTests := true, laidLooks := .later }
def FnExactQuotientBelowCardSaid : Prop := Claim7.holds Tryd.pinned (.plain (OpenSpec.ofChange fnExactQuotientBelowSpec)) fnExactQuotientBelowCard

/-- THE TIED CARD OF 'laws.FnExactRootAbove'. -/
def fnExactRootAboveCard : Claim7 := { stood := { row := fnExactRootAboveRow, standIns := [], harness := (true, "ef298af8e9429d058a3b92795f2aa35ea7919098cf63857fd1bcb0290a91013f"), looks := true }, kinds := [], alts := [], laidByText := true, laidKinds := [.data], laidTests := true, laidLooks := .later }
def FnExactRootAboveCardSaid : Prop := Claim7.holds Tryd.pinned (.plain (OpenSpec.ofChange fnExactRootAboveSpec)) fnExactRootAboveCard

/-- THE TIED CARD OF 'laws.FnExactNarrowIn'. -/
def fnExactNarrowInCard : Claim7 := { stood := { row := fnExactNarrowInRow, standIns := [], harness := (true, "ef298af8e9429d058a3b92795f2aa35ea7919098cf63857fd1bcb0290a91013f"), looks := true }, kinds := [], alts := [], laidByText := true, laidKinds := [.data], laidTests := true, laidLooks := .later }
def FnExactNarrowInCardSaid : Prop := Claim7.holds Tryd.pinned (.plain (OpenSpec.ofChange fnExactNarrowInSpec)) fnExactNarrowInCard

/-- THE TIED CARD OF 'laws.FnExactValueOfPair'. -/
def fnExactValueOfPairCard : Claim7 := { stood := { row := fnExactValueOfPairRow, standIns := [], harness := (true, "ef298af8e9429d058a3b92795f2aa35ea7919098cf63857fd1bcb0290a91013f"), looks := true }, kinds := [], alts := [], laidByText := true, laidKinds := [.data], laidTests := true, laidLooks := .later }
def FnExactValueOfPairCardSaid : Prop := Claim7.holds Tryd.pinned (.plain (OpenSpec.ofChange fnExactValueOfPairSpec)) fnExactValueOfPairCard

/-- THE TIED CARD OF 'laws.FnExactErrorOfPair'. -/
def fnExactErrorOfPairCard : Claim7 := { stood := { row := fnExactErrorOfPairRow, standIns := [], harness := (true, "ef298af8e9429d058a3b92795f2aa35ea7919098cf63857fd1bcb0290a91013f"), looks := true }, kinds := [], alts := [], laidByText := true, laidKinds := [.data], laidTests := true, laidLooks := .later }
def FnExactErrorOfPairCardSaid : Prop := Claim7.holds Tryd.pinned (.plain (OpenSpec.ofChange fnExactErrorOfPairSpec)) fnExactErrorOfPairCard

/-- THE TIED CARD OF 'laws.FnExactValueOfExpansion'. -/
def fnExactValueOfExpansionCard : Claim7 := { stood := { row := fnExactValueOfExpansionRow, standIns := [], harness := (true, "ef298af8e9429d058a3b92795f2aa35ea7919098cf63857fd1bcb0290a91013f"), looks := true }, kinds := [], alts := [], laidByText := true, laidKinds := [.data], laidTests := true, laidLooks := .later }
def FnExactValueOfExpansionCardSaid : Prop := Claim7.holds Tryd.pinned (.plain (OpenSpec.ofChange fnExactValueOfExpansionSpec)) fnExactValueOfExpansionCard

/-- THE TIED CARD OF 'laws.FnExactCompressExpansion'. -/
def fnExactCompressExpansionCard : Claim7 := { stood := { row := fnExactCompressExpansionRow, standIns := [], harness := (true, "ef298af8e9429d058a3b92795f2aa35ea7919098cf63857fd1bcb0290a91013f"), looks := true }, kinds := [], alts := [], laidByText := true, laidKinds := [.data], laidTests := true, laidLooks := .later }
def FnExactCompressExpansionCardSaid : Prop := Claim7.holds Tryd.pinned (.plain (OpenSpec.ofChange fnExactCompressExpansionSpec)) fnExactCompressExpansionCard

/-- THE TIED CARD OF 'laws.FnExactSignOfExpansion'. -/
def fnExactSignOfExpansionCard : Claim7 := { stood := { row := fnExactSignOfExpansionRow, standIns := [], harness := (true, "ef298af8e9429d058a3b92795f2aa35ea7919098cf63857fd1bcb0290a91013f"), looks := true }, kinds := [], alts := [], laidByText := true, laidKinds := [.data], laidTests := true, laidLooks := .later }
def FnExactSignOfExpansionCardSaid : Prop := Claim7.holds Tryd.pinned (.plain (OpenSpec.ofChange fnExactSignOfExpansionSpec)) fnExactSignOfExpansionCard

/-- THE TIED CARD OF 'laws.FnExactRoundExpansion'. -/
def fnExactRoundExpansionCard : Claim7 := { stood := { row := fnExactRoundExpansionRow, standIns := [], harness := (true, "ef298af8e9429d058a3b92795f2aa35ea7919098cf63857fd1bcb0290a91013f"), looks := true }, kinds := [], alts := [], laidByText := true, laidKinds := [.data], laidTests := true, laidLooks := .later }
def FnExactRoundExpansionCardSaid : Prop := Claim7.holds Tryd.pinned (.plain (OpenSpec.ofChange fnExactRoundExpansionSpec)) fnExactRoundExpansionCard

/-- THE SECOND FORM's CARD OF 'laws.FnExactQuotientBelow'. -/
def fnExactQuotientBelowUptoCard : Claim7 := { stood := { row := fnExactQuotientBelowUptoRow, standIns := [], harness := (true, "ef298af8e9429d058a3b92795f2aa35ea7919098cf63857fd1bcb0290a91013f"), looks := true }, kinds := [], alts := [], laidByText := true, laidKinds := [.data], laidTests := true, laidLooks := .later }
def FnExactQuotientBelowUptoCardSaid : Prop := Claim7.holds Tryd.pinned (.plain (OpenSpec.upto fnExactQuotientBelowSpec)) fnExactQuotientBelowUptoCard

/-- THE SECOND FORM's CARD OF 'laws.FnExactRootAbove'. -/
def fnExactRootAboveUptoCard : Claim7 := { stood := { row := fnExactRootAboveUptoRow, standIns := [], harness := (true, "ef298af8e9429d058a3b92795f2aa35ea7919098cf63857fd1bcb0290a91013f"), looks := true }, kinds := [], alts := [], laidByText := true, laidKinds := [.data], laidTests := true, laidLooks := .later }
def FnExactRootAboveUptoCardSaid : Prop := Claim7.holds Tryd.pinned (.plain (OpenSpec.upto fnExactRootAboveSpec)) fnExactRootAboveUptoCard

/-- THE SECOND FORM's CARD OF 'laws.FnExactNarrowIn'. -/
def fnExactNarrowInUptoCard : Claim7 := { stood := { row := fnExactNarrowInUptoRow, standIns := [], harness := (true, "ef298af8e9429d058a3b92795f2aa35ea7919098cf63857fd1bcb0290a91013f"), looks := true }, kinds := [], alts := [], laidByText := true, laidKinds := [.data], laidTests := true, laidLooks := .later }
def FnExactNarrowInUptoCardSaid : Prop := Claim7.holds Tryd.pinned (.plain (OpenSpec.upto fnExactNarrowInSpec)) fnExactNarrowInUptoCard

/-- THE SECOND FORM's CARD OF 'laws.FnExactValueOfPair'. -/
def fnExactValueOfPairUptoCard : Claim7 := { stood := { row := fnExactValueOfPairUptoRow, standIns := [], harness := (true, "ef298af8e9429d058a3b92795f2aa35ea7919098cf63857fd1bcb0290a91013f"), looks := true }, kinds := [], alts := [], laidByText := true, laidKinds := [.data], laidTests := true, laidLooks := .later }
def FnExactValueOfPairUptoCardSaid : Prop := Claim7.holds Tryd.pinned (.plain (OpenSpec.upto fnExactValueOfPairSpec)) fnExactValueOfPairUptoCard

/-- THE SECOND FORM's CARD OF 'laws.FnExactErrorOfPair'. -/
def fnExactErrorOfPairUptoCard : Claim7 := { stood := { row := fnExactErrorOfPairUptoRow, standIns := [], harness := (true, "ef298af8e9429d058a3b92795f2aa35ea7919098cf63857fd1bcb0290a91013f"), looks := true }, kinds := [], alts := [], laidByText := true, laidKinds := [.data], laidTests := true, laidLooks := .later }
def FnExactErrorOfPairUptoCardSaid : Prop := Claim7.holds Tryd.pinned (.plain (OpenSpec.upto fnExactErrorOfPairSpec)) fnExactErrorOfPairUptoCard

/-- THE SECOND FORM's CARD OF 'laws.FnExactValueOfExpansion'. -/
def fnExactValueOfExpansionUptoCard : Claim7 := { stood := { row := fnExactValueOfExpansionUptoRow, standIns := [], harness := (true, "ef298af8e9429d058a3b92795f2aa35ea7919098cf63857fd1bcb0290a91013f"), looks := true }, kinds := [], alts := [], laidByText := true, laidKinds := [.data], laidTests := true, laidLooks := .later }
def FnExactValueOfExpansionUptoCardSaid : Prop := Claim7.holds Tryd.pinned (.plain (OpenSpec.upto fnExactValueOfExpansionSpec)) fnExactValueOfExpansionUptoCard

/-- THE SECOND FORM's CARD OF 'laws.FnExactCompressExpansion'. -/
def fnExactCompressExpansionUptoCard : Claim7 := { stood := { row := fnExactCompressExpansionUptoRow, standIns := [], harness := (true, "ef298af8e9429d058a3b92795f2aa35ea7919098cf63857fd1bcb0290a91013f"), looks := true }, kinds := [], alts := [], laidByText := true, laidKinds := [.data], laidTests := true, laidLooks := .later }
def FnExactCompressExpansionUptoCardSaid : Prop := Claim7.holds Tryd.pinned (.plain (OpenSpec.upto fnExactCompressExpansionSpec)) fnExactCompressExpansionUptoCard

/-- THE SECOND FORM's CARD OF 'laws.FnExactSignOfExpansion'. -/
def fnExactSignOfExpansionUptoCard : Claim7 := { stood := { row := fnExactSignOfExpansionUptoRow, standIns := [], harness := (true, "ef298af8e9429d058a3b92795f2aa35ea7919098cf63857fd1bcb0290a91013f"), looks := true }, kinds := [], alts := [], laidByText := true, laidKinds := [.data], laidTests := true, laidLooks := .later }
def FnExactSignOfExpansionUptoCardSaid : Prop := Claim7.holds Tryd.pinned (.plain (OpenSpec.upto fnExactSignOfExpansionSpec)) fnExactSignOfExpansionUptoCard

/-- THE SECOND FORM's CARD OF 'laws.FnExactRoundExpansion'. -/
def fnExactRoundExpansionUptoCard : Claim7 := { stood := { row := fnExactRoundExpansionUptoRow, standIns := [], harness := (true, "ef298af8e9429d058a3b92795f2aa35ea7919098cf63857fd1bcb0290a91013f"), looks := true }, kinds := [], alts := [], laidByText := true, laidKinds := [.data], laidTests := true, laidLooks := .later }
def FnExactRoundExpansionUptoCardSaid : Prop := Claim7.holds Tryd.pinned (.plain (OpenSpec.upto fnExactRoundExpansionSpec)) fnExactRoundExpansionUptoCard
end Rows
end Go.Proofs.YtnecnbonnidijaaDoor
