/-
  DERIVED. GIVEN WITH THE SEED: THE CARDS: each row of YtnnoobdcdfcdaaaDoorRows.lean that lists a variable, with what it lists TIED to the program's text (the seventh form; the later family's looks); each row that meets fmt, with fmt's text TOLD by the authors' own Lean function (tested against real Go, not proved from fmt's source: count such statements apart). THE CARD IS WHAT COUNTS. Prove the row's statement (the work); the ties are given (YtnnoobdcdfcdaaaDoorTie.lean); close each card by the builder's one call (the guide's Derived/Test/ToyasCard.lean, 'card_holds'). Laid BY PROGRAM, IN A SANDBOX (cutbox-door.mjs). By AI agents, Wed Nov 11 2026. No macro, syntax, notation, axiom, sorry.
-/
import Derived.Test.YtnnoobdcdfcdaaaDoorRows
import GoSem.ClaimSeven
namespace Go.Proofs.YtnnoobdcdfcdaaaDoor
namespace Rows

/-- THE TIED CARD OF 'laws.FnExactShiftWhole'. -/
def fnExactShiftWholeCard : Claim7 := { stood := { row := fnExactShiftWholeRow, standIns := [], harness := (true, "f4715c903039be3a5efe5089864a7fe52f6670a1cce19b85ed8fd99584a76721"), looks := false }, kinds := [], alts := [], laidByText := true, laidKinds := [.data], laidTests := true, laidLooks := .later }
def FnExactShiftWholeCardSaid : Prop := Claim7.holds Tryd.pinned (.plain (OpenSpec.ofChange fnExactShiftWholeSpec)) fnExactShiftWholeCard

/-- THE TIED CARD OF 'laws.FnExactMakeDyadic'. -/
def fnExactMakeDyadicCard : Claim7 := { stood := { row := fnExactMakeDyadicRow, standIns := [], harness := (true, "f4715c903039be3a5efe5089864a7fe52f6670a1cce19b85ed8fd99584a76721"), looks := false }, kinds := [], alts := [], laidByText := true, laidKinds := [.data], laidTests := true, laidLooks := .later }
def FnExactMakeDyadicCardSaid : Prop := Claim7.holds Tryd.pinned (.plain (OpenSpec.ofChange fnExactMakeDyadicSpec)) fnExactMakeDyadicCard

/-- THE TIED CARD OF 'laws.FnExactAddDyadics'. -/
def fnExactAddDyadicsCard : Claim7 := { stood := { row := fnExactAddDyadicsRow, standIns := [], harness := (true, "f4715c903039be3a5efe5089864a7fe52f6670a1cce19b85ed8fd99584a76721"), looks := false }, kinds := [], alts := [], laidByText := true, laidKinds := [.data], laidTests := true, laidLooks := .later }
def FnExactAddDyadicsCardSaid : Prop := Claim7.holds Tryd.pinned (.plain (OpenSpec.ofChange fnExactAddDyadicsSpec)) fnExactAddDyadicsCard

/-- THE TIED CARD OF 'laws.FnExactSubtractDyadics'. -/
def fnExactSubtractDyadicsCard : Claim7 := { stood := { row := fnExactSubtractDyadicsRow, standIns := [], harness := (true, "f4715c903039be3a5efe5089864a7fe52f6670a1cce19b85ed8fd99584a76721"), looks := false }, kinds := [], alts := [], laidByText := true, laidKinds := [.data], laidTests := true, laidLooks := .later }
def FnExactSubtractDyadicsCardSaid : Prop := Claim7.holds Tryd.pinned (.plain (OpenSpec.ofChange fnExactSubtractDyadicsSpec)) fnExactSubtractDyadicsCard

/-- THE TIED CARD OF 'laws.FnExactMultiplyDyadics'. -/
def fnExactMultiplyDyadicsCard : Claim7 := { stood := { row := fnExactMultiplyDyadicsRow, standIns := [], harness := (true, "f4715c903039be3a5efe5089864a7fe52f6670a1cce19b85ed8fd99584a76721"), looks := false }, kinds := [], alts := [], laidByText := true, laidKinds := [.data], laidTests := true, laidLooks := .later }
def FnExactMultiplyDyadicsCardSaid : Prop := Claim7.holds Tryd.pinned (.plain (OpenSpec.ofChange fnExactMultiplyDyadicsSpec)) fnExactMultiplyDyadicsCard

/-- THE TIED CARD OF 'laws.FnExactCompareDyadics'. -/
def fnExactCompareDyadicsCard : Claim7 := { stood := { row := fnExactCompareDyadicsRow, standIns := [], harness := (true, "f4715c903039be3a5efe5089864a7fe52f6670a1cce19b85ed8fd99584a76721"), looks := false }, kinds := [], alts := [], laidByText := true, laidKinds := [.data], laidTests := true, laidLooks := .later }
def FnExactCompareDyadicsCardSaid : Prop := Claim7.holds Tryd.pinned (.plain (OpenSpec.ofChange fnExactCompareDyadicsSpec)) fnExactCompareDyadicsCard

/-- THE TIED CARD OF 'laws.FnExactScaleDyadic'. -/
def fnExactScaleDyadicCard : Claim7 := { stood := { row := fnExactScaleDyadicRow, standIns := [], harness := (true, "f4715c903039be3a5efe5089864a7fe52f6670a1cce19b85ed8fd99584a76721"), looks := false }, kinds := [], alts := [], laidByText := true, laidKinds := [.data], laidTests := true, laidLooks := .later }
def FnExactScaleDyadicCardSaid : Prop := Claim7.holds Tryd.pinned (.plain (OpenSpec.ofChange fnExactScaleDyadicSpec)) fnExactScaleDyadicCard

/-- THE TIED CARD OF 'laws.FnExactFloorDyadic'. -/
def fnExactFloorDyadicCard : Claim7 := { stood := { row := fnExactFloorDyadicRow, standIns := [], harness := (true, "f4715c903039be3a5efe5089864a7fe52f6670a1cce19b85ed8fd99584a76721"), looks := false }, kinds := [], alts := [], laidByText := true, laidKinds := [.data], laidTests := true, laidLooks := .later }
def FnExactFloorDyadicCardSaid : Prop := Claim7.holds Tryd.pinned (.plain (OpenSpec.ofChange fnExactFloorDyadicSpec)) fnExactFloorDyadicCard

/-- THE TIED CARD OF 'laws.FnExactCeilDyadic'. -/
def fnExactCeilDyadicCard : Claim7 := { stood := { row := fnExactCeilDyadicRow, standIns := [], harness := (true, "f4715c903039be3a5efe5089864a7fe52f6670a1cce19b85ed8fd99584a76721"), looks := false }, kinds := [], alts := [], laidByText := true, laidKinds := [.data], laidTests := true, laidLooks := .later }
def FnExactCeilDyadicCardSaid : Prop := Claim7.holds Tryd.pinned (.plain (OpenSpec.ofChange fnExactCeilDyadicSpec)) fnExactCeilDyadicCard

/-- THE TIED CARD OF 'laws.FnExactQuotientBelow'. -/
def fnExactQuotientBelowCard : Claim7 := { stood := { row := fnExactQuotientBelowRow, standIns := [], harness := (true, "f4715c903039be3a5efe5089864a7fe52f6670a1cce19b85ed8fd99584a76721"), looks := false }, kinds := [], alts := [], laidByText := true, laidKinds := [.data], laidTests := true, laidLooks := .later }
def FnExactQuotientBelowCardSaid : Prop := Claim7.holds Tryd.pinned (.plain (OpenSpec.ofChange fnExactQuotientBelowSpec)) fnExactQuotientBelowCard

/-- THE TIED CARD OF 'laws.FnExactRootBelow'. -/
def fnExactRootBelowCard : Claim7 := { stood := { row := fnExactRootBelowRow, standIns := [], harness := (true, "f4715c903039be3a5efe5089864a7fe52f6670a1cce19b85ed8fd99584a76721"), looks := false }, kinds := [], alts := [], laidByText := true, laidKinds := [.data], laidTests := true, laidLooks := .later }
def FnExactRootBelowCardSaid : Prop := Claim7.holds Tryd.pinned (.plain (OpenSpec.ofChange fnExactRootBelowSpec)) fnExactRootBelowCard

/-- THE TIED CARD OF 'laws.FnExactRootAbove'. -/
def fnExactRootAboveCard : Claim7 := { stood := { row := fnExactRootAboveRow, standIns := [], harness := (true, "f4715c903039be3a5efe5089864a7fe52f6670a1cce19b85ed8fd99584a76721"), looks := false }, kinds := [], alts := [], laidByText := true, laidKinds := [.data], laidTests := true, laidLooks := .later }
def FnExactRootAboveCardSaid : Prop := Claim7.holds Tryd.pinned (.plain (OpenSpec.ofChange fnExactRootAboveSpec)) fnExactRootAboveCard

/-- THE SECOND FORM's CARD OF 'laws.FnExactShiftWhole'. -/
def fnExactShiftWholeUptoCard : Claim7 := { stood := { row := fnExactShiftWholeUptoRow, standIns := [], harness := (true, "f4715c903039be3a5efe5089864a7fe52f6670a1cce19b85ed8fd99584a76721"), looks := false }, kinds := [], alts := [], laidByText := true, laidKinds := [.data], laidTests := true, laidLooks := .later }
def FnExactShiftWholeUptoCardSaid : Prop := Claim7.holds Tryd.pinned (.plain (OpenSpec.upto fnExactShiftWholeSpec)) fnExactShiftWholeUptoCard

/-- THE SECOND FORM's CARD OF 'laws.FnExactMakeDyadic'. -/
def fnExactMakeDyadicUptoCard : Claim7 := { stood := { row := fnExactMakeDyadicUptoRow, standIns := [], harness := (true, "f4715c903039be3a5efe5089864a7fe52f6670a1cce19b85ed8fd99584a76721"), looks := false }, kinds := [], alts := [], laidByText := true, laidKinds := [.data], laidTests := true, laidLooks := .later }
def FnExactMakeDyadicUptoCardSaid : Prop := Claim7.holds Tryd.pinned (.plain (OpenSpec.upto fnExactMakeDyadicSpec)) fnExactMakeDyadicUptoCard

/-- THE SECOND FORM's CARD OF 'laws.FnExactAddDyadics'. -/
def fnExactAddDyadicsUptoCard : Claim7 := { stood := { row := fnExactAddDyadicsUptoRow, standIns := [], harness := (true, "f4715c903039be3a5efe5089864a7fe52f6670a1cce19b85ed8fd99584a76721"), looks := false }, kinds := [], alts := [], laidByText := true, laidKinds := [.data], laidTests := true, laidLooks := .later }
def FnExactAddDyadicsUptoCardSaid : Prop := Claim7.holds Tryd.pinned (.plain (OpenSpec.upto fnExactAddDyadicsSpec)) fnExactAddDyadicsUptoCard

/-- THE SECOND FORM's CARD OF 'laws.FnExactSubtractDyadics'. -/
def fnExactSubtractDyadicsUptoCard : Claim7 := { stood := { row := fnExactSubtractDyadicsUptoRow, standIns := [], harness := (true, "f4715c903039be3a5efe5089864a7fe52f6670a1cce19b85ed8fd99584a76721"), looks := false }, kinds := [], alts := [], laidByText := true, laidKinds := [.data], laidTests := true, laidLooks := .later }
def FnExactSubtractDyadicsUptoCardSaid : Prop := Claim7.holds Tryd.pinned (.plain (OpenSpec.upto fnExactSubtractDyadicsSpec)) fnExactSubtractDyadicsUptoCard

/-- THE SECOND FORM's CARD OF 'laws.FnExactMultiplyDyadics'. -/
def fnExactMultiplyDyadicsUptoCard : Claim7 := { stood := { row := fnExactMultiplyDyadicsUptoRow, standIns := [], harness := (true, "f4715c903039be3a5efe5089864a7fe52f6670a1cce19b85ed8fd99584a76721"), looks := false }, kinds := [], alts := [], laidByText := true, laidKinds := [.data], laidTests := true, laidLooks := .later }
def FnExactMultiplyDyadicsUptoCardSaid : Prop := Claim7.holds Tryd.pinned (.plain (OpenSpec.upto fnExactMultiplyDyadicsSpec)) fnExactMultiplyDyadicsUptoCard

/-- THE SECOND FORM's CARD OF 'laws.FnExactCompareDyadics'. -/
def fnExactCompareDyadicsUptoCard : Claim7 := { stood := { row := fnExactCompareDyadicsUptoRow, standIns := [], harness := (true, "f4715c903039be3a5efe5089864a7fe52f6670a1cce19b85ed8fd99584a76721"), looks := false }, kinds := [], alts := [], laidByText := true, laidKinds := [.data], laidTests := true, laidLooks := .later }
def FnExactCompareDyadicsUptoCardSaid : Prop := Claim7.holds Tryd.pinned (.plain (OpenSpec.upto fnExactCompareDyadicsSpec)) fnExactCompareDyadicsUptoCard

/-- THE SECOND FORM's CARD OF 'laws.FnExactScaleDyadic'. -/
def fnExactScaleDyadicUptoCard : Claim7 := { stood := { row := fnExactScaleDyadicUptoRow, standIns := [], harness := (true, "f4715c903039be3a5efe5089864a7fe52f6670a1cce19b85ed8fd99584a76721"), looks := false }, kinds := [], alts := [], laidByText := true, laidKinds := [.data], laidTests := true, laidLooks := .later }
def FnExactScaleDyadicUptoCardSaid : Prop := Claim7.holds Tryd.pinned (.plain (OpenSpec.upto fnExactScaleDyadicSpec)) fnExactScaleDyadicUptoCard

/-- THE SECOND FORM's CARD OF 'laws.FnExactFloorDyadic'. -/
def fnExactFloorDyadicUptoCard : Claim7 := { stood := { row := fnExactFloorDyadicUptoRow, standIns := [], harness := (true, "f4715c903039be3a5efe5089864a7fe52f6670a1cce19b85ed8fd99584a76721"), looks := false }, kinds := [], alts := [], laidByText := true, laidKinds := [.data], laidTests := true, laidLooks := .later }
def FnExactFloorDyadicUptoCardSaid : Prop := Claim7.holds Tryd.pinned (.plain (OpenSpec.upto fnExactFloorDyadicSpec)) fnExactFloorDyadicUptoCard

/-- THE SECOND FORM's CARD OF 'laws.FnExactCeilDyadic'. -/
def fnExactCeilDyadicUptoCard : Claim7 := { stood := { row := fnExactCeilDyadicUptoRow, standIns := [], harness := (true, "f4715c903039be3a5efe5089864a7fe52f6670a1cce19b85ed8fd99584a76721"), looks := false }, kinds := [], alts := [], laidByText := true, laidKinds := [.data], laidTests := true, laidLooks := .later }
def FnExactCeilDyadicUptoCardSaid : Prop := Claim7.holds Tryd.pinned (.plain (OpenSpec.upto fnExactCeilDyadicSpec)) fnExactCeilDyadicUptoCard

/-- THE SECOND FORM's CARD OF 'laws.FnExactQuotientBelow'. -/
def fnExactQuotientBelowUptoCard : Claim7 := { stood := { row := fnExactQuotientBelowUptoRow, standIns := [], harness := (true, "f4715c903039be3a5efe5089864a7fe52f6670a1cce19b85ed8fd99584a76721"), looks := false }, kinds := [], alts := [], laidByText := true, laidKinds := [.data], laidTests := true, laidLooks := .later }
def FnExactQuotientBelowUptoCardSaid : Prop := Claim7.holds Tryd.pinned (.plain (OpenSpec.upto fnExactQuotientBelowSpec)) fnExactQuotientBelowUptoCard

/-- THE SECOND FORM's CARD OF 'laws.FnExactRootBelow'. -/
def fnExactRootBelowUptoCard : Claim7 := { stood := { row := fnExactRootBelowUptoRow, standIns := [], harness := (true, "f4715c903039be3a5efe5089864a7fe52f6670a1cce19b85ed8fd99584a76721"), looks := false }, kinds := [], alts := [], laidByText := true, laidKinds := [.data], laidTests := true, laidLooks := .later }
def FnExactRootBelowUptoCardSaid : Prop := Claim7.holds Tryd.pinned (.plain (OpenSpec.upto fnExactRootBelowSpec)) fnExactRootBelowUptoCard

/-- THE SECOND FORM's CARD OF 'laws.FnExactRootAbove'. -/
def fnExactRootAboveUptoCard : Claim7 := { stood := { row := fnExactRootAboveUptoRow, standIns := [], harness := (true, "f4715c903039be3a5efe5089864a7fe52f6670a1cce19b85ed8fd99584a76721"), looks := false }, kinds := [], alts := [], laidByText := true, laidKinds := [.data], laidTests := true, laidLooks := .later }
def FnExactRootAboveUptoCardSaid : Prop := Claim7.holds Tryd.pinned (.plain (OpenSpec.upto fnExactRootAboveSpec)) fnExactRootAboveUptoCard
end Rows
end Go.Proofs.YtnnoobdcdfcdaaaDoor
