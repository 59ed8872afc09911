/-
  NARROWER THAN 'FOR EVERY INPUT', by the rows' own cells (each row's printed sentence says how): FnExactShiftWhole: laid · FnExactMakeDyadic: laid · FnExactAddDyadics: laid · FnExactSubtractDyadics: laid · FnExactMultiplyDyadics: laid · FnExactCompareDyadics: laid · FnExactScaleDyadic: laid · FnExactFloorDyadic: laid · FnExactCeilDyadic: laid · FnExactQuotientBelow: laid · FnExactRootBelow: laid · FnExactRootAbove: laid.
  DERIVED. THE GIVEN ROWS OF THIS SEAT. 12 by the template 'for every input the law returns true; each argument reads behind the call as it read before'; 0 by the template 'total and deterministic' (their statements: YtnnoobdcdfcdaaaDoorTotals.lean).
  GIVEN WITH THE SEED: the statements are not yours to turn. If you find one false, say at which input.
  Laid BY PROGRAM, IN A SANDBOX (cutbox-rows.mjs): the forced cells as the released guide's own fill.sh prints them over the translation 8a9f0a70a4b25540… (all of the seat's roots in one cut). By AI agents, Wed Nov 11 2026. No macro, syntax, notation, axiom, sorry.
-/
import Derived.Test.YtnnoobdcdfcdaaaDoorChecked
import GoSem.Claim
import GoSem.ClaimJoined
import GoSem.ClaimMapViews
import Derived.JoinedTies
import Derived.KernelRfl
namespace Go.Proofs.YtnnoobdcdfcdaaaDoor
/- THE CELL 'sum', in the pinned program and in every row, IS THE sha256 OF THE DUMP (.gsa) THAT YtnnoobdcdfcdaaaDoorProg.lean LOADS. Nothing in Lean hashes anything: it is a label: what it is worth is what the hold of that sum in a sandbox is worth. -/
noncomputable def Tryd.pinned : Pinned := { name := "ytnnoobdcdfcdaaadoor", sum := "8a9f0a70a4b25540e99cb705f9b3a62a8ee2416ecb690c3db439e5e548c49052", checked := Tryd.checked }
namespace Rows
def none {H : Type} : Left H := { results := [], args := [] }

/- WHAT THE LISTED PACKAGE-LEVEL VARIABLES READ AS WHEN THE CALL BEGINS. Each datum BY PROGRAM (the guide's laid-datum.mjs) off the statement by which the dump's own 'gosem.cut.vars' lays the variable. In a bare row this is a premise. The card (YtnnoobdcdfcdaaaDoorCards.lean) ties it to the program's text. -/
def laid_math_bits_deBruijn64tab {H : Type} : DataW H := .agg [.lit (.int .u8 0), .lit (.int .u8 1), .lit (.int .u8 56), .lit (.int .u8 2), .lit (.int .u8 57), .lit (.int .u8 49), .lit (.int .u8 28), .lit (.int .u8 3), .lit (.int .u8 61), .lit (.int .u8 58), .lit (.int .u8 42), .lit (.int .u8 50), .lit (.int .u8 38), .lit (.int .u8 29), .lit (.int .u8 17), .lit (.int .u8 4), .lit (.int .u8 62), .lit (.int .u8 47), .lit (.int .u8 59), .lit (.int .u8 36), .lit (.int .u8 45), .lit (.int .u8 43), .lit (.int .u8 51), .lit (.int .u8 22), .lit (.int .u8 53), .lit (.int .u8 39), .lit (.int .u8 33), .lit (.int .u8 30), .lit (.int .u8 24), .lit (.int .u8 18), .lit (.int .u8 12), .lit (.int .u8 5), .lit (.int .u8 63), .lit (.int .u8 55), .lit (.int .u8 48), .lit (.int .u8 27), .lit (.int .u8 60), .lit (.int .u8 41), .lit (.int .u8 37), .lit (.int .u8 16), .lit (.int .u8 46), .lit (.int .u8 35), .lit (.int .u8 44), .lit (.int .u8 21), .lit (.int .u8 52), .lit (.int .u8 32), .lit (.int .u8 23), .lit (.int .u8 11), .lit (.int .u8 54), .lit (.int .u8 26), .lit (.int .u8 40), .lit (.int .u8 15), .lit (.int .u8 34), .lit (.int .u8 20), .lit (.int .u8 31), .lit (.int .u8 10), .lit (.int .u8 25), .lit (.int .u8 14), .lit (.int .u8 19), .lit (.int .u8 9), .lit (.int .u8 13), .lit (.int .u8 8), .lit (.int .u8 7), .lit (.int .u8 6)]

/-- 'laws.FnExactShiftWhole': WHATEVER THE INPUT: true; the input reads as it did. -/
def fnExactShiftWholeSpec : ChangeSpec := { name := "fnExactShiftWhole", fn := fun _ => fun
  | [d1, d2] => { results := [.lit (.bool true)], args := [d1, d2] }
  | _ => none }
def fnExactShiftWholeRow : OpenClaim := { program := "ytnnoobdcdfcdaaadoor", sum := "8a9f0a70a4b25540e99cb705f9b3a62a8ee2416ecb690c3db439e5e548c49052", func := "loop.example/g01172/laws.FnExactShiftWhole", spec := "fnExactShiftWhole", named := ["math/bits.deBruijn64tab"], apart := false, laid := [("math/bits.deBruijn64tab", laid_math_bits_deBruijn64tab)] }
def FnExactShiftWholeSaid : Prop := fnExactShiftWholeRow.holds Tryd.pinned (OpenSpec.ofChange fnExactShiftWholeSpec)

/-- ITS FALSE NEIGHBOUR: 'it returns false'. Refute it at one input. -/
def fnExactShiftWholeWrong : ChangeSpec := { name := "fnExactShiftWhole", fn := fun _ => fun
  | [d1, d2] => { results := [.lit (.bool false)], args := [d1, d2] }
  | _ => none }
def FnExactShiftWholeWrongFalsely : Prop := fnExactShiftWholeRow.holds Tryd.pinned (OpenSpec.ofChange fnExactShiftWholeWrong)

/-- 'laws.FnExactMakeDyadic': WHATEVER THE INPUT: true; the input reads as it did. -/
def fnExactMakeDyadicSpec : ChangeSpec := { name := "fnExactMakeDyadic", fn := fun _ => fun
  | [d1, d2] => { results := [.lit (.bool true)], args := [d1, d2] }
  | _ => none }
def fnExactMakeDyadicRow : OpenClaim := { program := "ytnnoobdcdfcdaaadoor", sum := "8a9f0a70a4b25540e99cb705f9b3a62a8ee2416ecb690c3db439e5e548c49052", func := "loop.example/g01172/laws.FnExactMakeDyadic", spec := "fnExactMakeDyadic", named := ["math/bits.deBruijn64tab"], apart := false, laid := [("math/bits.deBruijn64tab", laid_math_bits_deBruijn64tab)] }
def FnExactMakeDyadicSaid : Prop := fnExactMakeDyadicRow.holds Tryd.pinned (OpenSpec.ofChange fnExactMakeDyadicSpec)

/-- ITS FALSE NEIGHBOUR: 'it returns false'. Refute it at one input. -/
def fnExactMakeDyadicWrong : ChangeSpec := { name := "fnExactMakeDyadic", fn := fun _ => fun
  | [d1, d2] => { results := [.lit (.bool false)], args := [d1, d2] }
  | _ => none }
def FnExactMakeDyadicWrongFalsely : Prop := fnExactMakeDyadicRow.holds Tryd.pinned (OpenSpec.ofChange fnExactMakeDyadicWrong)

/-- 'laws.FnExactAddDyadics': WHATEVER THE INPUT: true; the input reads as it did. -/
def fnExactAddDyadicsSpec : ChangeSpec := { name := "fnExactAddDyadics", fn := fun _ => fun
  | [d1, d2] => { results := [.lit (.bool true)], args := [d1, d2] }
  | _ => none }
def fnExactAddDyadicsRow : OpenClaim := { program := "ytnnoobdcdfcdaaadoor", sum := "8a9f0a70a4b25540e99cb705f9b3a62a8ee2416ecb690c3db439e5e548c49052", func := "loop.example/g01172/laws.FnExactAddDyadics", spec := "fnExactAddDyadics", named := ["math/bits.deBruijn64tab"], apart := false, laid := [("math/bits.deBruijn64tab", laid_math_bits_deBruijn64tab)] }
def FnExactAddDyadicsSaid : Prop := fnExactAddDyadicsRow.holds Tryd.pinned (OpenSpec.ofChange fnExactAddDyadicsSpec)

/-- ITS FALSE NEIGHBOUR: 'it returns false'. Refute it at one input. -/
def fnExactAddDyadicsWrong : ChangeSpec := { name := "fnExactAddDyadics", fn := fun _ => fun
  | [d1, d2] => { results := [.lit (.bool false)], args := [d1, d2] }
  | _ => none }
def FnExactAddDyadicsWrongFalsely : Prop := fnExactAddDyadicsRow.holds Tryd.pinned (OpenSpec.ofChange fnExactAddDyadicsWrong)

/-- 'laws.FnExactSubtractDyadics': WHATEVER THE INPUT: true; the input reads as it did. -/
def fnExactSubtractDyadicsSpec : ChangeSpec := { name := "fnExactSubtractDyadics", fn := fun _ => fun
  | [d1, d2] => { results := [.lit (.bool true)], args := [d1, d2] }
  | _ => none }
def fnExactSubtractDyadicsRow : OpenClaim := { program := "ytnnoobdcdfcdaaadoor", sum := "8a9f0a70a4b25540e99cb705f9b3a62a8ee2416ecb690c3db439e5e548c49052", func := "loop.example/g01172/laws.FnExactSubtractDyadics", spec := "fnExactSubtractDyadics", named := ["math/bits.deBruijn64tab"], apart := false, laid := [("math/bits.deBruijn64tab", laid_math_bits_deBruijn64tab)] }
def FnExactSubtractDyadicsSaid : Prop := fnExactSubtractDyadicsRow.holds Tryd.pinned (OpenSpec.ofChange fnExactSubtractDyadicsSpec)

/-- ITS FALSE NEIGHBOUR: 'it returns false'. Refute it at one input. -/
def fnExactSubtractDyadicsWrong : ChangeSpec := { name := "fnExactSubtractDyadics", fn := fun _ => fun
  | [d1, d2] => { results := [.lit (.bool false)], args := [d1, d2] }
  | _ => none }
def FnExactSubtractDyadicsWrongFalsely : Prop := fnExactSubtractDyadicsRow.holds Tryd.pinned (OpenSpec.ofChange fnExactSubtractDyadicsWrong)

/-- 'laws.FnExactMultiplyDyadics': WHATEVER THE INPUT: true; the input reads as it did. -/
def fnExactMultiplyDyadicsSpec : ChangeSpec := { name := "fnExactMultiplyDyadics", fn := fun _ => fun
  | [d1, d2] => { results := [.lit (.bool true)], args := [d1, d2] }
  | _ => none }
def fnExactMultiplyDyadicsRow : OpenClaim := { program := "ytnnoobdcdfcdaaadoor", sum := "8a9f0a70a4b25540e99cb705f9b3a62a8ee2416ecb690c3db439e5e548c49052", func := "loop.example/g01172/laws.FnExactMultiplyDyadics", spec := "fnExactMultiplyDyadics", named := ["math/bits.deBruijn64tab"], apart := false, laid := [("math/bits.deBruijn64tab", laid_math_bits_deBruijn64tab)] }
def FnExactMultiplyDyadicsSaid : Prop := fnExactMultiplyDyadicsRow.holds Tryd.pinned (OpenSpec.ofChange fnExactMultiplyDyadicsSpec)

/-- ITS FALSE NEIGHBOUR: 'it returns false'. Refute it at one input. -/
def fnExactMultiplyDyadicsWrong : ChangeSpec := { name := "fnExactMultiplyDyadics", fn := fun _ => fun
  | [d1, d2] => { results := [.lit (.bool false)], args := [d1, d2] }
  | _ => none }
def FnExactMultiplyDyadicsWrongFalsely : Prop := fnExactMultiplyDyadicsRow.holds Tryd.pinned (OpenSpec.ofChange fnExactMultiplyDyadicsWrong)

/-- 'laws.FnExactCompareDyadics': WHATEVER THE INPUT: true; the input reads as it did. -/
def fnExactCompareDyadicsSpec : ChangeSpec := { name := "fnExactCompareDyadics", fn := fun _ => fun
  | [d1, d2] => { results := [.lit (.bool true)], args := [d1, d2] }
  | _ => none }
def fnExactCompareDyadicsRow : OpenClaim := { program := "ytnnoobdcdfcdaaadoor", sum := "8a9f0a70a4b25540e99cb705f9b3a62a8ee2416ecb690c3db439e5e548c49052", func := "loop.example/g01172/laws.FnExactCompareDyadics", spec := "fnExactCompareDyadics", named := ["math/bits.deBruijn64tab"], apart := false, laid := [("math/bits.deBruijn64tab", laid_math_bits_deBruijn64tab)] }
def FnExactCompareDyadicsSaid : Prop := fnExactCompareDyadicsRow.holds Tryd.pinned (OpenSpec.ofChange fnExactCompareDyadicsSpec)

/-- ITS FALSE NEIGHBOUR: 'it returns false'. Refute it at one input. -/
def fnExactCompareDyadicsWrong : ChangeSpec := { name := "fnExactCompareDyadics", fn := fun _ => fun
  | [d1, d2] => { results := [.lit (.bool false)], args := [d1, d2] }
  | _ => none }
def FnExactCompareDyadicsWrongFalsely : Prop := fnExactCompareDyadicsRow.holds Tryd.pinned (OpenSpec.ofChange fnExactCompareDyadicsWrong)

/-- 'laws.FnExactScaleDyadic': WHATEVER THE INPUT: true; the input reads as it did. -/
def fnExactScaleDyadicSpec : ChangeSpec := { name := "fnExactScaleDyadic", fn := fun _ => fun
  | [d1, d2] => { results := [.lit (.bool true)], args := [d1, d2] }
  | _ => none }
def fnExactScaleDyadicRow : OpenClaim := { program := "ytnnoobdcdfcdaaadoor", sum := "8a9f0a70a4b25540e99cb705f9b3a62a8ee2416ecb690c3db439e5e548c49052", func := "loop.example/g01172/laws.FnExactScaleDyadic", spec := "fnExactScaleDyadic", named := ["math/bits.deBruijn64tab"], apart := false, laid := [("math/bits.deBruijn64tab", laid_math_bits_deBruijn64tab)] }
def FnExactScaleDyadicSaid : Prop := fnExactScaleDyadicRow.holds Tryd.pinned (OpenSpec.ofChange fnExactScaleDyadicSpec)

/-- ITS FALSE NEIGHBOUR: 'it returns false'. Refute it at one input. -/
def fnExactScaleDyadicWrong : ChangeSpec := { name := "fnExactScaleDyadic", fn := fun _ => fun
  | [d1, d2] => { results := [.lit (.bool false)], args := [d1, d2] }
  | _ => none }
def FnExactScaleDyadicWrongFalsely : Prop := fnExactScaleDyadicRow.holds Tryd.pinned (OpenSpec.ofChange fnExactScaleDyadicWrong)

/-- 'laws.FnExactFloorDyadic': WHATEVER THE INPUT: true; the input reads as it did. -/
def fnExactFloorDyadicSpec : ChangeSpec := { name := "fnExactFloorDyadic", fn := fun _ => fun
  | [d1, d2] => { results := [.lit (.bool true)], args := [d1, d2] }
  | _ => none }
def fnExactFloorDyadicRow : OpenClaim := { program := "ytnnoobdcdfcdaaadoor", sum := "8a9f0a70a4b25540e99cb705f9b3a62a8ee2416ecb690c3db439e5e548c49052", func := "loop.example/g01172/laws.FnExactFloorDyadic", spec := "fnExactFloorDyadic", named := ["math/bits.deBruijn64tab"], apart := false, laid := [("math/bits.deBruijn64tab", laid_math_bits_deBruijn64tab)] }
def FnExactFloorDyadicSaid : Prop := fnExactFloorDyadicRow.holds Tryd.pinned (OpenSpec.ofChange fnExactFloorDyadicSpec)

/-- ITS FALSE NEIGHBOUR: 'it returns false'. Refute it at one input. -/
def fnExactFloorDyadicWrong : ChangeSpec := { name := "fnExactFloorDyadic", fn := fun _ => fun
  | [d1, d2] => { results := [.lit (.bool false)], args := [d1, d2] }
  | _ => none }
def FnExactFloorDyadicWrongFalsely : Prop := fnExactFloorDyadicRow.holds Tryd.pinned (OpenSpec.ofChange fnExactFloorDyadicWrong)

/-- 'laws.FnExactCeilDyadic': WHATEVER THE INPUT: true; the input reads as it did. -/
def fnExactCeilDyadicSpec : ChangeSpec := { name := "fnExactCeilDyadic", fn := fun _ => fun
  | [d1, d2] => { results := [.lit (.bool true)], args := [d1, d2] }
  | _ => none }
def fnExactCeilDyadicRow : OpenClaim := { program := "ytnnoobdcdfcdaaadoor", sum := "8a9f0a70a4b25540e99cb705f9b3a62a8ee2416ecb690c3db439e5e548c49052", func := "loop.example/g01172/laws.FnExactCeilDyadic", spec := "fnExactCeilDyadic", named := ["math/bits.deBruijn64tab"], apart := false, laid := [("math/bits.deBruijn64tab", laid_math_bits_deBruijn64tab)] }
def FnExactCeilDyadicSaid : Prop := fnExactCeilDyadicRow.holds Tryd.pinned (OpenSpec.ofChange fnExactCeilDyadicSpec)

/-- ITS FALSE NEIGHBOUR: 'it returns false'. Refute it at one input. -/
def fnExactCeilDyadicWrong : ChangeSpec := { name := "fnExactCeilDyadic", fn := fun _ => fun
  | [d1, d2] => { results := [.lit (.bool false)], args := [d1, d2] }
  | _ => none }
def FnExactCeilDyadicWrongFalsely : Prop := fnExactCeilDyadicRow.holds Tryd.pinned (OpenSpec.ofChange fnExactCeilDyadicWrong)

/-- 'laws.FnExactQuotientBelow': WHATEVER THE INPUT: true; the input reads as it did. -/
def fnExactQuotientBelowSpec : ChangeSpec := { name := "fnExactQuotientBelow", fn := fun _ => fun
  | [d1, d2, d3] => { results := [.lit (.bool true)], args := [d1, d2, d3] }
  | _ => none }
def fnExactQuotientBelowRow : OpenClaim := { program := "ytnnoobdcdfcdaaadoor", sum := "8a9f0a70a4b25540e99cb705f9b3a62a8ee2416ecb690c3db439e5e548c49052", func := "loop.example/g01172/laws.FnExactQuotientBelow", spec := "fnExactQuotientBelow", named := ["math/bits.deBruijn64tab"], apart := false, laid := [("math/bits.deBruijn64tab", laid_math_bits_deBruijn64tab)] }
def FnExactQuotientBelowSaid : Prop := fnExactQuotientBelowRow.holds Tryd.pinned (OpenSpec.ofChange fnExactQuotientBelowSpec)

/-- ITS FALSE NEIGHBOUR: 'it returns false'. Refute it at one input. -/
def fnExactQuotientBelowWrong : ChangeSpec := { name := "fnExactQuotientBelow", fn := fun _ => fun
  | [d1, d2, d3] => { results := [.lit (.bool false)], args := [d1, d2, d3] }
  | _ => none }
def FnExactQuotientBelowWrongFalsely : Prop := fnExactQuotientBelowRow.holds Tryd.pinned (OpenSpec.ofChange fnExactQuotientBelowWrong)

/-- 'laws.FnExactRootBelow': WHATEVER THE INPUT: true; the input reads as it did. -/
def fnExactRootBelowSpec : ChangeSpec := { name := "fnExactRootBelow", fn := fun _ => fun
  | [d1, d2] => { results := [.lit (.bool true)], args := [d1, d2] }
  | _ => none }
def fnExactRootBelowRow : OpenClaim := { program := "ytnnoobdcdfcdaaadoor", sum := "8a9f0a70a4b25540e99cb705f9b3a62a8ee2416ecb690c3db439e5e548c49052", func := "loop.example/g01172/laws.FnExactRootBelow", spec := "fnExactRootBelow", named := ["math/bits.deBruijn64tab"], apart := false, laid := [("math/bits.deBruijn64tab", laid_math_bits_deBruijn64tab)] }
def FnExactRootBelowSaid : Prop := fnExactRootBelowRow.holds Tryd.pinned (OpenSpec.ofChange fnExactRootBelowSpec)

/-- ITS FALSE NEIGHBOUR: 'it returns false'. Refute it at one input. -/
def fnExactRootBelowWrong : ChangeSpec := { name := "fnExactRootBelow", fn := fun _ => fun
  | [d1, d2] => { results := [.lit (.bool false)], args := [d1, d2] }
  | _ => none }
def FnExactRootBelowWrongFalsely : Prop := fnExactRootBelowRow.holds Tryd.pinned (OpenSpec.ofChange fnExactRootBelowWrong)

/-- 'laws.FnExactRootAbove': WHATEVER THE INPUT: true; the input reads as it did. -/
def fnExactRootAboveSpec : ChangeSpec := { name := "fnExactRootAbove", fn := fun _ => fun
  | [d1, d2] => { results := [.lit (.bool true)], args := [d1, d2] }
  | _ => none }
def fnExactRootAboveRow : OpenClaim := { program := "ytnnoobdcdfcdaaadoor", sum := "8a9f0a70a4b25540e99cb705f9b3a62a8ee2416ecb690c3db439e5e548c49052", func := "loop.example/g01172/laws.FnExactRootAbove", spec := "fnExactRootAbove", named := ["math/bits.deBruijn64tab"], apart := false, laid := [("math/bits.deBruijn64tab", laid_math_bits_deBruijn64tab)] }
def FnExactRootAboveSaid : Prop := fnExactRootAboveRow.holds Tryd.pinned (OpenSpec.ofChange fnExactRootAboveSpec)

/-- ITS FALSE NEIGHBOUR: 'it returns false'. Refute it at one input. -/
def fnExactRootAboveWrong : ChangeSpec := { name := "fnExactRootAbove", fn := fun _ => fun
  | [d1, d2] => { results := [.lit (.bool false)], args := [d1, d2] }
  | _ => none }
def FnExactRootAboveWrongFalsely : Prop := fnExactRootAboveRow.holds Tryd.pinned (OpenSpec.ofChange fnExactRootAboveWrong)

/- THE SECOND FORM. 'bulk': how many values and letters a reading holds, each counted each time it is reached (what is shared counts as often as it is met; a slice's spare places count too). A statement '..UptoSaid' is the law's where the arguments, and the package variables that the reading takes, are together of bulk at most 1048576: NARROWER than '..Said'. Prove '..Said' where nothing that the law and all that it calls make is longer than what came in: it says more and counts as full. Else prove '..UptoSaid'. A law counts once. -/
mutual
def uptoBulk {H : Type} : DataW H → Nat
  | .lit (.string bytes) => bytes.length + 1
  | .lit _ => 1
  | .nil => 1
  | .ptr d => uptoBulk d + 1
  | .slice elems spare => uptoBulkAll elems + uptoBulkAll spare + 1
  | .agg parts => uptoBulkAll parts + 1
  | .iface _ d => uptoBulk d + 1
  | .map entries => uptoBulkEntries entries + 1
  | .held _ => 1
def uptoBulkAll {H : Type} : List (DataW H) → Nat
  | [] => 0
  | d :: r => uptoBulk d + uptoBulkAll r
def uptoBulkEntries {H : Type} : List (Lit × DataW H) → Nat
  | [] => 0
  | x :: r => uptoBulkEntry x + uptoBulkEntries r
def uptoBulkEntry {H : Type} : Lit × DataW H → Nat
  | (.string bytes, d) => bytes.length + uptoBulk d + 1
  | (_, d) => uptoBulk d + 1
 end
def uptoSmall : (H : Type) → List (DataW H) → Bool := fun _ ds => decide (uptoBulkAll ds ≤ 1048576)
def OpenSpec.upto (s : _root_.Go.ChangeSpec) : _root_.Go.OpenSpec := { _root_.Go.OpenSpec.ofChange s with cond := some uptoSmall }

/-- 'laws.FnExactShiftWhole', WHERE WHAT IT READS IS OF BULK AT MOST 1048576: true; the input reads as it did. -/
def fnExactShiftWholeUptoRow : OpenClaim := { program := "ytnnoobdcdfcdaaadoor", sum := "8a9f0a70a4b25540e99cb705f9b3a62a8ee2416ecb690c3db439e5e548c49052", func := "loop.example/g01172/laws.FnExactShiftWhole", spec := "fnExactShiftWhole", named := ["math/bits.deBruijn64tab"], apart := false, laid := [("math/bits.deBruijn64tab", laid_math_bits_deBruijn64tab)], narrowed := true }
def FnExactShiftWholeUptoSaid : Prop := fnExactShiftWholeUptoRow.holds Tryd.pinned (OpenSpec.upto fnExactShiftWholeSpec)

/-- 'laws.FnExactMakeDyadic', WHERE WHAT IT READS IS OF BULK AT MOST 1048576: true; the input reads as it did. -/
def fnExactMakeDyadicUptoRow : OpenClaim := { program := "ytnnoobdcdfcdaaadoor", sum := "8a9f0a70a4b25540e99cb705f9b3a62a8ee2416ecb690c3db439e5e548c49052", func := "loop.example/g01172/laws.FnExactMakeDyadic", spec := "fnExactMakeDyadic", named := ["math/bits.deBruijn64tab"], apart := false, laid := [("math/bits.deBruijn64tab", laid_math_bits_deBruijn64tab)], narrowed := true }
def FnExactMakeDyadicUptoSaid : Prop := fnExactMakeDyadicUptoRow.holds Tryd.pinned (OpenSpec.upto fnExactMakeDyadicSpec)

/-- 'laws.FnExactAddDyadics', WHERE WHAT IT READS IS OF BULK AT MOST 1048576: true; the input reads as it did. -/
def fnExactAddDyadicsUptoRow : OpenClaim := { program := "ytnnoobdcdfcdaaadoor", sum := "8a9f0a70a4b25540e99cb705f9b3a62a8ee2416ecb690c3db439e5e548c49052", func := "loop.example/g01172/laws.FnExactAddDyadics", spec := "fnExactAddDyadics", named := ["math/bits.deBruijn64tab"], apart := false, laid := [("math/bits.deBruijn64tab", laid_math_bits_deBruijn64tab)], narrowed := true }
def FnExactAddDyadicsUptoSaid : Prop := fnExactAddDyadicsUptoRow.holds Tryd.pinned (OpenSpec.upto fnExactAddDyadicsSpec)

/-- 'laws.FnExactSubtractDyadics', WHERE WHAT IT READS IS OF BULK AT MOST 1048576: true; the input reads as it did. -/
def fnExactSubtractDyadicsUptoRow : OpenClaim := { program := "ytnnoobdcdfcdaaadoor", sum := "8a9f0a70a4b25540e99cb705f9b3a62a8ee2416ecb690c3db439e5e548c49052", func := "loop.example/g01172/laws.FnExactSubtractDyadics", spec := "fnExactSubtractDyadics", named := ["math/bits.deBruijn64tab"], apart := false, laid := [("math/bits.deBruijn64tab", laid_math_bits_deBruijn64tab)], narrowed := true }
def FnExactSubtractDyadicsUptoSaid : Prop := fnExactSubtractDyadicsUptoRow.holds Tryd.pinned (OpenSpec.upto fnExactSubtractDyadicsSpec)

/-- 'laws.FnExactMultiplyDyadics', WHERE WHAT IT READS IS OF BULK AT MOST 1048576: true; the input reads as it did. -/
def fnExactMultiplyDyadicsUptoRow : OpenClaim := { program := "ytnnoobdcdfcdaaadoor", sum := "8a9f0a70a4b25540e99cb705f9b3a62a8ee2416ecb690c3db439e5e548c49052", func := "loop.example/g01172/laws.FnExactMultiplyDyadics", spec := "fnExactMultiplyDyadics", named := ["math/bits.deBruijn64tab"], apart := false, laid := [("math/bits.deBruijn64tab", laid_math_bits_deBruijn64tab)], narrowed := true }
def FnExactMultiplyDyadicsUptoSaid : Prop := fnExactMultiplyDyadicsUptoRow.holds Tryd.pinned (OpenSpec.upto fnExactMultiplyDyadicsSpec)

/-- 'laws.FnExactCompareDyadics', WHERE WHAT IT READS IS OF BULK AT MOST 1048576: true; the input reads as it did. -/
def fnExactCompareDyadicsUptoRow : OpenClaim := { program := "ytnnoobdcdfcdaaadoor", sum := "8a9f0a70a4b25540e99cb705f9b3a62a8ee2416ecb690c3db439e5e548c49052", func := "loop.example/g01172/laws.FnExactCompareDyadics", spec := "fnExactCompareDyadics", named := ["math/bits.deBruijn64tab"], apart := false, laid := [("math/bits.deBruijn64tab", laid_math_bits_deBruijn64tab)], narrowed := true }
def FnExactCompareDyadicsUptoSaid : Prop := fnExactCompareDyadicsUptoRow.holds Tryd.pinned (OpenSpec.upto fnExactCompareDyadicsSpec)

/-- 'laws.FnExactScaleDyadic', WHERE WHAT IT READS IS OF BULK AT MOST 1048576: true; the input reads as it did. -/
def fnExactScaleDyadicUptoRow : OpenClaim := { program := "ytnnoobdcdfcdaaadoor", sum := "8a9f0a70a4b25540e99cb705f9b3a62a8ee2416ecb690c3db439e5e548c49052", func := "loop.example/g01172/laws.FnExactScaleDyadic", spec := "fnExactScaleDyadic", named := ["math/bits.deBruijn64tab"], apart := false, laid := [("math/bits.deBruijn64tab", laid_math_bits_deBruijn64tab)], narrowed := true }
def FnExactScaleDyadicUptoSaid : Prop := fnExactScaleDyadicUptoRow.holds Tryd.pinned (OpenSpec.upto fnExactScaleDyadicSpec)

/-- 'laws.FnExactFloorDyadic', WHERE WHAT IT READS IS OF BULK AT MOST 1048576: true; the input reads as it did. -/
def fnExactFloorDyadicUptoRow : OpenClaim := { program := "ytnnoobdcdfcdaaadoor", sum := "8a9f0a70a4b25540e99cb705f9b3a62a8ee2416ecb690c3db439e5e548c49052", func := "loop.example/g01172/laws.FnExactFloorDyadic", spec := "fnExactFloorDyadic", named := ["math/bits.deBruijn64tab"], apart := false, laid := [("math/bits.deBruijn64tab", laid_math_bits_deBruijn64tab)], narrowed := true }
def FnExactFloorDyadicUptoSaid : Prop := fnExactFloorDyadicUptoRow.holds Tryd.pinned (OpenSpec.upto fnExactFloorDyadicSpec)

/-- 'laws.FnExactCeilDyadic', WHERE WHAT IT READS IS OF BULK AT MOST 1048576: true; the input reads as it did. -/
def fnExactCeilDyadicUptoRow : OpenClaim := { program := "ytnnoobdcdfcdaaadoor", sum := "8a9f0a70a4b25540e99cb705f9b3a62a8ee2416ecb690c3db439e5e548c49052", func := "loop.example/g01172/laws.FnExactCeilDyadic", spec := "fnExactCeilDyadic", named := ["math/bits.deBruijn64tab"], apart := false, laid := [("math/bits.deBruijn64tab", laid_math_bits_deBruijn64tab)], narrowed := true }
def FnExactCeilDyadicUptoSaid : Prop := fnExactCeilDyadicUptoRow.holds Tryd.pinned (OpenSpec.upto fnExactCeilDyadicSpec)

/-- 'laws.FnExactQuotientBelow', WHERE WHAT IT READS IS OF BULK AT MOST 1048576: true; the input reads as it did. -/
def fnExactQuotientBelowUptoRow : OpenClaim := { program := "ytnnoobdcdfcdaaadoor", sum := "8a9f0a70a4b25540e99cb705f9b3a62a8ee2416ecb690c3db439e5e548c49052", func := "loop.example/g01172/laws.FnExactQuotientBelow", spec := "fnExactQuotientBelow", named := ["math/bits.deBruijn64tab"], apart := false, laid := [("math/bits.deBruijn64tab", laid_math_bits_deBruijn64tab)], narrowed := true }
def FnExactQuotientBelowUptoSaid : Prop := fnExactQuotientBelowUptoRow.holds Tryd.pinned (OpenSpec.upto fnExactQuotientBelowSpec)

/-- 'laws.FnExactRootBelow', WHERE WHAT IT READS IS OF BULK AT MOST 1048576: true; the input reads as it did. -/
def fnExactRootBelowUptoRow : OpenClaim := { program := "ytnnoobdcdfcdaaadoor", sum := "8a9f0a70a4b25540e99cb705f9b3a62a8ee2416ecb690c3db439e5e548c49052", func := "loop.example/g01172/laws.FnExactRootBelow", spec := "fnExactRootBelow", named := ["math/bits.deBruijn64tab"], apart := false, laid := [("math/bits.deBruijn64tab", laid_math_bits_deBruijn64tab)], narrowed := true }
def FnExactRootBelowUptoSaid : Prop := fnExactRootBelowUptoRow.holds Tryd.pinned (OpenSpec.upto fnExactRootBelowSpec)

/-- 'laws.FnExactRootAbove', WHERE WHAT IT READS IS OF BULK AT MOST 1048576: true; the input reads as it did. -/
def fnExactRootAboveUptoRow : OpenClaim := { program := "ytnnoobdcdfcdaaadoor", sum := "8a9f0a70a4b25540e99cb705f9b3a62a8ee2416ecb690c3db439e5e548c49052", func := "loop.example/g01172/laws.FnExactRootAbove", spec := "fnExactRootAbove", named := ["math/bits.deBruijn64tab"], apart := false, laid := [("math/bits.deBruijn64tab", laid_math_bits_deBruijn64tab)], narrowed := true }
def FnExactRootAboveUptoSaid : Prop := fnExactRootAboveUptoRow.holds Tryd.pinned (OpenSpec.upto fnExactRootAboveSpec)

end Rows
end Go.Proofs.YtnnoobdcdfcdaaaDoor
