/-
  DERIVED. GIVEN WITH THE SEED: THE CARDS: each row of YtcjamfoiilgfoaaDoorRows.lean that lists a variable, with what it lists TIED to the program's text (the seventh form; the later family's looks); each row that meets fmt, with fmt's text TOLD by the authors' own Lean function (tested against real Go, not proved from fmt's source: count such statements apart). THE CARD IS WHAT COUNTS. Prove the row's statement (the work); the ties are given (YtcjamfoiilgfoaaDoorTie.lean); close each card by the builder's one call (the guide's Derived/Test/ToyasCard.lean, 'card_holds'). Laid BY PROGRAM, IN A SANDBOX (cutbox-door.mjs). By AI agents, Wed Nov 11 2026. No macro, syntax, notation, axiom, sorry.
-/
import Derived.Test.YtcjamfoiilgfoaaDoorRows
import GoSem.ClaimSeven
namespace Go.Proofs.YtcjamfoiilgfoaaDoor
namespace Rows

/-- THE TIED CARD OF 'laws.FnExactQuotientBelow'. -/
def fnExactQuotientBelowCard : Claim7 := { stood := { row := fnExactQuotientBelowRow, standIns := [], harness := (true, "ca271cd0ee6b5d9bd4509027b5cd78bb0f31b435ef35ffebc46391d9d62708e4"), looks := true }, kinds := [], alts := [], laidByText := true, laidKinds := [.data], laidTests := true, laidLooks := .later }
def FnExactQuotientBelowCardSaid : Prop := Claim7.holds Tryd.pinned (.plain (OpenSpec.ofChange fnExactQuotientBelowSpec)) fnExactQuotientBelowCard

/-- THE TIED CARD OF 'laws.FnExactRootAbove'. -/
def fnExactRootAboveCard : Claim7 := { stood := { row := fnExactRootAboveRow, standIns := [], harness := (true, "ca271cd0ee6b5d9bd4509027b5cd78bb0f31b435ef35ffebc46391d9d62708e4"), looks := true }, kinds := [], alts := [], laidByText := true, laidKinds := [.data], laidTests := true, laidLooks := .later }
def FnExactRootAboveCardSaid : Prop := Claim7.holds Tryd.pinned (.plain (OpenSpec.ofChange fnExactRootAboveSpec)) fnExactRootAboveCard

/-- THE TIED CARD OF 'laws.FnExactRootBelow'. -/
def fnExactRootBelowCard : Claim7 := { stood := { row := fnExactRootBelowRow, standIns := [], harness := (true, "ca271cd0ee6b5d9bd4509027b5cd78bb0f31b435ef35ffebc46391d9d62708e4"), looks := true }, kinds := [], alts := [], laidByText := true, laidKinds := [.data], laidTests := true, laidLooks := .later }
def FnExactRootBelowCardSaid : Prop := Claim7.holds Tryd.pinned (.plain (OpenSpec.ofChange fnExactRootBelowSpec)) fnExactRootBelowCard

/-- THE TIED CARD OF 'laws.FnExactNarrowIn'. -/
def fnExactNarrowInCard : Claim7 := { stood := { row := fnExactNarrowInRow, standIns := [], harness := (true, "ca271cd0ee6b5d9bd4509027b5cd78bb0f31b435ef35ffebc46391d9d62708e4"), looks := true }, kinds := [], alts := [], laidByText := true, laidKinds := [.data], laidTests := true, laidLooks := .later }
def FnExactNarrowInCardSaid : Prop := Claim7.holds Tryd.pinned (.plain (OpenSpec.ofChange fnExactNarrowInSpec)) fnExactNarrowInCard

/-- THE SECOND FORM's CARD OF 'laws.FnExactQuotientBelow'. -/
def fnExactQuotientBelowUptoCard : Claim7 := { stood := { row := fnExactQuotientBelowUptoRow, standIns := [], harness := (true, "ca271cd0ee6b5d9bd4509027b5cd78bb0f31b435ef35ffebc46391d9d62708e4"), looks := true }, kinds := [], alts := [], laidByText := true, laidKinds := [.data], laidTests := true, laidLooks := .later }
def FnExactQuotientBelowUptoCardSaid : Prop := Claim7.holds Tryd.pinned (.plain (OpenSpec.upto fnExactQuotientBelowSpec)) fnExactQuotientBelowUptoCard

/-- THE SECOND FORM's CARD OF 'laws.FnExactRootAbove'. -/
def fnExactRootAboveUptoCard : Claim7 := { stood := { row := fnExactRootAboveUptoRow, standIns := [], harness := (true, "ca271cd0ee6b5d9bd4509027b5cd78bb0f31b435ef35ffebc46391d9d62708e4"), looks := true }, kinds := [], alts := [], laidByText := true, laidKinds := [.data], laidTests := true, laidLooks := .later }
def FnExactRootAboveUptoCardSaid : Prop := Claim7.holds Tryd.pinned (.plain (OpenSpec.upto fnExactRootAboveSpec)) fnExactRootAboveUptoCard

/-- THE SECOND FORM's CARD OF 'laws.FnExactRootBelow'. -/
def fnExactRootBelowUptoCard : Claim7 := { stood := { row := fnExactRootBelowUptoRow, standIns := [], harness := (true, "ca271cd0ee6b5d9bd4509027b5cd78bb0f31b435ef35ffebc46391d9d62708e4"), looks := true }, kinds := [], alts := [], laidByText := true, laidKinds := [.data], laidTests := true, laidLooks := .later }
def FnExactRootBelowUptoCardSaid : Prop := Claim7.holds Tryd.pinned (.plain (OpenSpec.upto fnExactRootBelowSpec)) fnExactRootBelowUptoCard

/-- THE SECOND FORM's CARD OF 'laws.FnExactNarrowIn'. -/
def fnExactNarrowInUptoCard : Claim7 := { stood := { row := fnExactNarrowInUptoRow, standIns := [], harness := (true, "ca271cd0ee6b5d9bd4509027b5cd78bb0f31b435ef35ffebc46391d9d62708e4"), looks := true }, kinds := [], alts := [], laidByText := true, laidKinds := [.data], laidTests := true, laidLooks := .later }
def FnExactNarrowInUptoCardSaid : Prop := Claim7.holds Tryd.pinned (.plain (OpenSpec.upto fnExactNarrowInSpec)) fnExactNarrowInUptoCard
end Rows
end Go.Proofs.YtcjamfoiilgfoaaDoor
