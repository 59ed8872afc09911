/-
  NARROWER THAN 'FOR EVERY INPUT', by the rows' own cells (each row's printed sentence says how): FnExactDyadicOf: laid · FnExactRoundDyadic: laid · FnExactEnclosingFloats: laid · FnExactQuotientBelow: laid · FnExactRootAbove: laid · FnExactRootBelow: laid · FnExactAddIn: laid · FnExactSubtractIn: laid · FnExactMultiplyIn: laid · FnExactNarrowIn: laid · FnExactIsExactSum: laid.
  DERIVED. THE GIVEN ROWS OF THIS SEAT. 11 by the template 'for every input the law returns true; each argument reads behind the call as it read before'; 0 by the template 'total and deterministic' (their statements: YtlncenochfmpaaaDoorTotals.lean).
  GIVEN WITH THE SEED: the statements are not yours to turn. If you find one false, say at which input.
  Laid BY PROGRAM, IN A SANDBOX (cutbox-rows.mjs): the forced cells as the released guide's own fill.sh prints them over the translation 0a52cddd172ccf3b… (all of the seat's roots in one cut). By AI agents, Wed Nov 11 2026. No macro, syntax, notation, axiom, sorry.
-/
import Derived.Test.YtlncenochfmpaaaDoorChecked
import GoSem.Claim
import GoSem.ClaimJoined
import GoSem.ClaimMapViews
import Derived.JoinedTies
import Derived.KernelRfl
namespace Go.Proofs.YtlncenochfmpaaaDoor
/- THE CELL 'sum', in the pinned program and in every row, IS THE sha256 OF THE DUMP (.gsa) THAT YtlncenochfmpaaaDoorProg.lean LOADS. Nothing in Lean hashes anything: it is a label: what it is worth is what the hold of that sum in a sandbox is worth. -/
noncomputable def Tryd.pinned : Pinned := { name := "ytlncenochfmpaaadoor", sum := "0a52cddd172ccf3baed9f00b2f733974fcc0d672d57df6f5d130d6c4d4efd250", checked := Tryd.checked }
namespace Rows
def none {H : Type} : Left H := { results := [], args := [] }

/- WHAT THE LISTED PACKAGE-LEVEL VARIABLES READ AS WHEN THE CALL BEGINS. Each datum BY PROGRAM (the guide's laid-datum.mjs) off the statement by which the dump's own 'gosem.cut.vars' lays the variable. In a bare row this is a premise. The card (YtlncenochfmpaaaDoorCards.lean) ties it to the program's text. -/
def laid_math_bits_deBruijn64tab {H : Type} : DataW H := .agg [.lit (.int .u8 0), .lit (.int .u8 1), .lit (.int .u8 56), .lit (.int .u8 2), .lit (.int .u8 57), .lit (.int .u8 49), .lit (.int .u8 28), .lit (.int .u8 3), .lit (.int .u8 61), .lit (.int .u8 58), .lit (.int .u8 42), .lit (.int .u8 50), .lit (.int .u8 38), .lit (.int .u8 29), .lit (.int .u8 17), .lit (.int .u8 4), .lit (.int .u8 62), .lit (.int .u8 47), .lit (.int .u8 59), .lit (.int .u8 36), .lit (.int .u8 45), .lit (.int .u8 43), .lit (.int .u8 51), .lit (.int .u8 22), .lit (.int .u8 53), .lit (.int .u8 39), .lit (.int .u8 33), .lit (.int .u8 30), .lit (.int .u8 24), .lit (.int .u8 18), .lit (.int .u8 12), .lit (.int .u8 5), .lit (.int .u8 63), .lit (.int .u8 55), .lit (.int .u8 48), .lit (.int .u8 27), .lit (.int .u8 60), .lit (.int .u8 41), .lit (.int .u8 37), .lit (.int .u8 16), .lit (.int .u8 46), .lit (.int .u8 35), .lit (.int .u8 44), .lit (.int .u8 21), .lit (.int .u8 52), .lit (.int .u8 32), .lit (.int .u8 23), .lit (.int .u8 11), .lit (.int .u8 54), .lit (.int .u8 26), .lit (.int .u8 40), .lit (.int .u8 15), .lit (.int .u8 34), .lit (.int .u8 20), .lit (.int .u8 31), .lit (.int .u8 10), .lit (.int .u8 25), .lit (.int .u8 14), .lit (.int .u8 19), .lit (.int .u8 9), .lit (.int .u8 13), .lit (.int .u8 8), .lit (.int .u8 7), .lit (.int .u8 6)]

/-- 'laws.FnExactDyadicOf': WHATEVER THE INPUT: true; the input reads as it did. -/
def fnExactDyadicOfSpec : ChangeSpec := { name := "fnExactDyadicOf", fn := fun _ => fun
  | [d] => { results := [.lit (.bool true)], args := [d] }
  | _ => none }
def fnExactDyadicOfRow : OpenClaim := { program := "ytlncenochfmpaaadoor", sum := "0a52cddd172ccf3baed9f00b2f733974fcc0d672d57df6f5d130d6c4d4efd250", func := "loop.example/g01172/laws.FnExactDyadicOf", spec := "fnExactDyadicOf", inPlace := ["math.Float32bits"], named := ["math/bits.deBruijn64tab"], apart := false, laid := [("math/bits.deBruijn64tab", laid_math_bits_deBruijn64tab)] }
def FnExactDyadicOfSaid : Prop := fnExactDyadicOfRow.holds Tryd.pinned (OpenSpec.ofChange fnExactDyadicOfSpec)

/-- ITS FALSE NEIGHBOUR: 'it returns false'. Refute it at one input. -/
def fnExactDyadicOfWrong : ChangeSpec := { name := "fnExactDyadicOf", fn := fun _ => fun
  | [d] => { results := [.lit (.bool false)], args := [d] }
  | _ => none }
def FnExactDyadicOfWrongFalsely : Prop := fnExactDyadicOfRow.holds Tryd.pinned (OpenSpec.ofChange fnExactDyadicOfWrong)

/-- 'laws.FnExactRoundDyadic': WHATEVER THE INPUT: true; the input reads as it did. -/
def fnExactRoundDyadicSpec : ChangeSpec := { name := "fnExactRoundDyadic", fn := fun _ => fun
  | [d1, d2] => { results := [.lit (.bool true)], args := [d1, d2] }
  | _ => none }
def fnExactRoundDyadicRow : OpenClaim := { program := "ytlncenochfmpaaadoor", sum := "0a52cddd172ccf3baed9f00b2f733974fcc0d672d57df6f5d130d6c4d4efd250", func := "loop.example/g01172/laws.FnExactRoundDyadic", spec := "fnExactRoundDyadic", inPlace := ["math.Float64frombits", "math.Float64bits"], unfollowed := true, recurses := true, named := ["math/bits.deBruijn64tab"], apart := false, laid := [("math/bits.deBruijn64tab", laid_math_bits_deBruijn64tab)] }
def FnExactRoundDyadicSaid : Prop := fnExactRoundDyadicRow.holds Tryd.pinned (OpenSpec.ofChange fnExactRoundDyadicSpec)

/-- ITS FALSE NEIGHBOUR: 'it returns false'. Refute it at one input. -/
def fnExactRoundDyadicWrong : ChangeSpec := { name := "fnExactRoundDyadic", fn := fun _ => fun
  | [d1, d2] => { results := [.lit (.bool false)], args := [d1, d2] }
  | _ => none }
def FnExactRoundDyadicWrongFalsely : Prop := fnExactRoundDyadicRow.holds Tryd.pinned (OpenSpec.ofChange fnExactRoundDyadicWrong)

/-- 'laws.FnExactEnclosingFloats': WHATEVER THE INPUT: true; the input reads as it did. -/
def fnExactEnclosingFloatsSpec : ChangeSpec := { name := "fnExactEnclosingFloats", fn := fun _ => fun
  | [d] => { results := [.lit (.bool true)], args := [d] }
  | _ => none }
def fnExactEnclosingFloatsRow : OpenClaim := { program := "ytlncenochfmpaaadoor", sum := "0a52cddd172ccf3baed9f00b2f733974fcc0d672d57df6f5d130d6c4d4efd250", func := "loop.example/g01172/laws.FnExactEnclosingFloats", spec := "fnExactEnclosingFloats", inPlace := ["math.Float64frombits", "math.Float64bits"], unfollowed := true, recurses := true, named := ["math/bits.deBruijn64tab"], apart := false, laid := [("math/bits.deBruijn64tab", laid_math_bits_deBruijn64tab)] }
def FnExactEnclosingFloatsSaid : Prop := fnExactEnclosingFloatsRow.holds Tryd.pinned (OpenSpec.ofChange fnExactEnclosingFloatsSpec)

/-- ITS FALSE NEIGHBOUR: 'it returns false'. Refute it at one input. -/
def fnExactEnclosingFloatsWrong : ChangeSpec := { name := "fnExactEnclosingFloats", fn := fun _ => fun
  | [d] => { results := [.lit (.bool false)], args := [d] }
  | _ => none }
def FnExactEnclosingFloatsWrongFalsely : Prop := fnExactEnclosingFloatsRow.holds Tryd.pinned (OpenSpec.ofChange fnExactEnclosingFloatsWrong)

/-- 'laws.FnExactQuotientBelow': WHATEVER THE INPUT: true; the input reads as it did. -/
def fnExactQuotientBelowSpec : ChangeSpec := { name := "fnExactQuotientBelow", fn := fun _ => fun
  | [d1, d2, d3] => { results := [.lit (.bool true)], args := [d1, d2, d3] }
  | _ => none }
def fnExactQuotientBelowRow : OpenClaim := { program := "ytlncenochfmpaaadoor", sum := "0a52cddd172ccf3baed9f00b2f733974fcc0d672d57df6f5d130d6c4d4efd250", func := "loop.example/g01172/laws.FnExactQuotientBelow", spec := "fnExactQuotientBelow", named := ["math/bits.deBruijn64tab"], apart := false, laid := [("math/bits.deBruijn64tab", laid_math_bits_deBruijn64tab)] }
def FnExactQuotientBelowSaid : Prop := fnExactQuotientBelowRow.holds Tryd.pinned (OpenSpec.ofChange fnExactQuotientBelowSpec)

/-- ITS FALSE NEIGHBOUR: 'it returns false'. Refute it at one input. -/
def fnExactQuotientBelowWrong : ChangeSpec := { name := "fnExactQuotientBelow", fn := fun _ => fun
  | [d1, d2, d3] => { results := [.lit (.bool false)], args := [d1, d2, d3] }
  | _ => none }
def FnExactQuotientBelowWrongFalsely : Prop := fnExactQuotientBelowRow.holds Tryd.pinned (OpenSpec.ofChange fnExactQuotientBelowWrong)

/-- 'laws.FnExactRootAbove': WHATEVER THE INPUT: true; the input reads as it did. -/
def fnExactRootAboveSpec : ChangeSpec := { name := "fnExactRootAbove", fn := fun _ => fun
  | [d1, d2] => { results := [.lit (.bool true)], args := [d1, d2] }
  | _ => none }
def fnExactRootAboveRow : OpenClaim := { program := "ytlncenochfmpaaadoor", sum := "0a52cddd172ccf3baed9f00b2f733974fcc0d672d57df6f5d130d6c4d4efd250", func := "loop.example/g01172/laws.FnExactRootAbove", spec := "fnExactRootAbove", named := ["math/bits.deBruijn64tab"], apart := false, laid := [("math/bits.deBruijn64tab", laid_math_bits_deBruijn64tab)] }
def FnExactRootAboveSaid : Prop := fnExactRootAboveRow.holds Tryd.pinned (OpenSpec.ofChange fnExactRootAboveSpec)

/-- ITS FALSE NEIGHBOUR: 'it returns false'. Refute it at one input. -/
def fnExactRootAboveWrong : ChangeSpec := { name := "fnExactRootAbove", fn := fun _ => fun
  | [d1, d2] => { results := [.lit (.bool false)], args := [d1, d2] }
  | _ => none }
def FnExactRootAboveWrongFalsely : Prop := fnExactRootAboveRow.holds Tryd.pinned (OpenSpec.ofChange fnExactRootAboveWrong)

/-- 'laws.FnExactRootBelow': WHATEVER THE INPUT: true; the input reads as it did. -/
def fnExactRootBelowSpec : ChangeSpec := { name := "fnExactRootBelow", fn := fun _ => fun
  | [d1, d2] => { results := [.lit (.bool true)], args := [d1, d2] }
  | _ => none }
def fnExactRootBelowRow : OpenClaim := { program := "ytlncenochfmpaaadoor", sum := "0a52cddd172ccf3baed9f00b2f733974fcc0d672d57df6f5d130d6c4d4efd250", func := "loop.example/g01172/laws.FnExactRootBelow", spec := "fnExactRootBelow", named := ["math/bits.deBruijn64tab"], apart := false, laid := [("math/bits.deBruijn64tab", laid_math_bits_deBruijn64tab)] }
def FnExactRootBelowSaid : Prop := fnExactRootBelowRow.holds Tryd.pinned (OpenSpec.ofChange fnExactRootBelowSpec)

/-- ITS FALSE NEIGHBOUR: 'it returns false'. Refute it at one input. -/
def fnExactRootBelowWrong : ChangeSpec := { name := "fnExactRootBelow", fn := fun _ => fun
  | [d1, d2] => { results := [.lit (.bool false)], args := [d1, d2] }
  | _ => none }
def FnExactRootBelowWrongFalsely : Prop := fnExactRootBelowRow.holds Tryd.pinned (OpenSpec.ofChange fnExactRootBelowWrong)

/-- 'laws.FnExactAddIn': WHATEVER THE INPUT: true; the input reads as it did. -/
def fnExactAddInSpec : ChangeSpec := { name := "fnExactAddIn", fn := fun _ => fun
  | [d1, d2, d3] => { results := [.lit (.bool true)], args := [d1, d2, d3] }
  | _ => none }
def fnExactAddInRow : OpenClaim := { program := "ytlncenochfmpaaadoor", sum := "0a52cddd172ccf3baed9f00b2f733974fcc0d672d57df6f5d130d6c4d4efd250", func := "loop.example/g01172/laws.FnExactAddIn", spec := "fnExactAddIn", inPlace := ["math.Float32bits", "math.Float64bits", "math.Float64frombits"], unfollowed := true, recurses := true, named := ["math/bits.deBruijn64tab"], apart := false, laid := [("math/bits.deBruijn64tab", laid_math_bits_deBruijn64tab)] }
def FnExactAddInSaid : Prop := fnExactAddInRow.holds Tryd.pinned (OpenSpec.ofChange fnExactAddInSpec)

/-- ITS FALSE NEIGHBOUR: 'it returns false'. Refute it at one input. -/
def fnExactAddInWrong : ChangeSpec := { name := "fnExactAddIn", fn := fun _ => fun
  | [d1, d2, d3] => { results := [.lit (.bool false)], args := [d1, d2, d3] }
  | _ => none }
def FnExactAddInWrongFalsely : Prop := fnExactAddInRow.holds Tryd.pinned (OpenSpec.ofChange fnExactAddInWrong)

/-- 'laws.FnExactSubtractIn': WHATEVER THE INPUT: true; the input reads as it did. -/
def fnExactSubtractInSpec : ChangeSpec := { name := "fnExactSubtractIn", fn := fun _ => fun
  | [d1, d2, d3] => { results := [.lit (.bool true)], args := [d1, d2, d3] }
  | _ => none }
def fnExactSubtractInRow : OpenClaim := { program := "ytlncenochfmpaaadoor", sum := "0a52cddd172ccf3baed9f00b2f733974fcc0d672d57df6f5d130d6c4d4efd250", func := "loop.example/g01172/laws.FnExactSubtractIn", spec := "fnExactSubtractIn", inPlace := ["math.Float32bits", "math.Float64bits", "math.Float64frombits"], unfollowed := true, recurses := true, named := ["math/bits.deBruijn64tab"], apart := false, laid := [("math/bits.deBruijn64tab", laid_math_bits_deBruijn64tab)] }
def FnExactSubtractInSaid : Prop := fnExactSubtractInRow.holds Tryd.pinned (OpenSpec.ofChange fnExactSubtractInSpec)

/-- ITS FALSE NEIGHBOUR: 'it returns false'. Refute it at one input. -/
def fnExactSubtractInWrong : ChangeSpec := { name := "fnExactSubtractIn", fn := fun _ => fun
  | [d1, d2, d3] => { results := [.lit (.bool false)], args := [d1, d2, d3] }
  | _ => none }
def FnExactSubtractInWrongFalsely : Prop := fnExactSubtractInRow.holds Tryd.pinned (OpenSpec.ofChange fnExactSubtractInWrong)

/-- 'laws.FnExactMultiplyIn': WHATEVER THE INPUT: true; the input reads as it did. -/
def fnExactMultiplyInSpec : ChangeSpec := { name := "fnExactMultiplyIn", fn := fun _ => fun
  | [d1, d2, d3] => { results := [.lit (.bool true)], args := [d1, d2, d3] }
  | _ => none }
def fnExactMultiplyInRow : OpenClaim := { program := "ytlncenochfmpaaadoor", sum := "0a52cddd172ccf3baed9f00b2f733974fcc0d672d57df6f5d130d6c4d4efd250", func := "loop.example/g01172/laws.FnExactMultiplyIn", spec := "fnExactMultiplyIn", inPlace := ["math.Float32bits", "math.Float64bits", "math.Float64frombits"], unfollowed := true, recurses := true, named := ["math/bits.deBruijn64tab"], apart := false, laid := [("math/bits.deBruijn64tab", laid_math_bits_deBruijn64tab)] }
def FnExactMultiplyInSaid : Prop := fnExactMultiplyInRow.holds Tryd.pinned (OpenSpec.ofChange fnExactMultiplyInSpec)

/-- ITS FALSE NEIGHBOUR: 'it returns false'. Refute it at one input. -/
def fnExactMultiplyInWrong : ChangeSpec := { name := "fnExactMultiplyIn", fn := fun _ => fun
  | [d1, d2, d3] => { results := [.lit (.bool false)], args := [d1, d2, d3] }
  | _ => none }
def FnExactMultiplyInWrongFalsely : Prop := fnExactMultiplyInRow.holds Tryd.pinned (OpenSpec.ofChange fnExactMultiplyInWrong)

/-- 'laws.FnExactNarrowIn': WHATEVER THE INPUT: true; the input reads as it did. -/
def fnExactNarrowInSpec : ChangeSpec := { name := "fnExactNarrowIn", fn := fun _ => fun
  | [d1, d2] => { results := [.lit (.bool true)], args := [d1, d2] }
  | _ => none }
def fnExactNarrowInRow : OpenClaim := { program := "ytlncenochfmpaaadoor", sum := "0a52cddd172ccf3baed9f00b2f733974fcc0d672d57df6f5d130d6c4d4efd250", func := "loop.example/g01172/laws.FnExactNarrowIn", spec := "fnExactNarrowIn", inPlace := ["math.Float64bits", "math.Float64frombits"], unfollowed := true, recurses := true, named := ["math/bits.deBruijn64tab"], apart := false, laid := [("math/bits.deBruijn64tab", laid_math_bits_deBruijn64tab)] }
def FnExactNarrowInSaid : Prop := fnExactNarrowInRow.holds Tryd.pinned (OpenSpec.ofChange fnExactNarrowInSpec)

/-- ITS FALSE NEIGHBOUR: 'it returns false'. Refute it at one input. -/
def fnExactNarrowInWrong : ChangeSpec := { name := "fnExactNarrowIn", fn := fun _ => fun
  | [d1, d2] => { results := [.lit (.bool false)], args := [d1, d2] }
  | _ => none }
def FnExactNarrowInWrongFalsely : Prop := fnExactNarrowInRow.holds Tryd.pinned (OpenSpec.ofChange fnExactNarrowInWrong)

/-- 'laws.FnExactIsExactSum': WHATEVER THE INPUT: true; the input reads as it did. -/
def fnExactIsExactSumSpec : ChangeSpec := { name := "fnExactIsExactSum", fn := fun _ => fun
  | [d1, d2] => { results := [.lit (.bool true)], args := [d1, d2] }
  | _ => none }
def fnExactIsExactSumRow : OpenClaim := { program := "ytlncenochfmpaaadoor", sum := "0a52cddd172ccf3baed9f00b2f733974fcc0d672d57df6f5d130d6c4d4efd250", func := "loop.example/g01172/laws.FnExactIsExactSum", spec := "fnExactIsExactSum", inPlace := ["math.Float32bits", "math.Float64bits", "math.Float64frombits"], unfollowed := true, recurses := true, named := ["math/bits.deBruijn64tab"], apart := false, laid := [("math/bits.deBruijn64tab", laid_math_bits_deBruijn64tab)] }
def FnExactIsExactSumSaid : Prop := fnExactIsExactSumRow.holds Tryd.pinned (OpenSpec.ofChange fnExactIsExactSumSpec)

/-- ITS FALSE NEIGHBOUR: 'it returns false'. Refute it at one input. -/
def fnExactIsExactSumWrong : ChangeSpec := { name := "fnExactIsExactSum", fn := fun _ => fun
  | [d1, d2] => { results := [.lit (.bool false)], args := [d1, d2] }
  | _ => none }
def FnExactIsExactSumWrongFalsely : Prop := fnExactIsExactSumRow.holds Tryd.pinned (OpenSpec.ofChange fnExactIsExactSumWrong)

/- THE SECOND FORM. 'bulk': how many values and letters a reading holds, each counted each time it is reached (what is shared counts as often as it is met; a slice's spare places count too). A statement '..UptoSaid' is the law's where the arguments, and the package variables that the reading takes, are together of bulk at most 1048576: NARROWER than '..Said'. Prove '..Said' where nothing that the law and all that it calls make is longer than what came in: it says more and counts as full. Else prove '..UptoSaid'. A law counts once. -/
mutual
def uptoBulk {H : Type} : DataW H → Nat
  | .lit (.string bytes) => bytes.length + 1
  | .lit _ => 1
  | .nil => 1
  | .ptr d => uptoBulk d + 1
  | .slice elems spare => uptoBulkAll elems + uptoBulkAll spare + 1
  | .agg parts => uptoBulkAll parts + 1
  | .iface _ d => uptoBulk d + 1
  | .map entries => uptoBulkEntries entries + 1
  | .held _ => 1
def uptoBulkAll {H : Type} : List (DataW H) → Nat
  | [] => 0
  | d :: r => uptoBulk d + uptoBulkAll r
def uptoBulkEntries {H : Type} : List (Lit × DataW H) → Nat
  | [] => 0
  | x :: r => uptoBulkEntry x + uptoBulkEntries r
def uptoBulkEntry {H : Type} : Lit × DataW H → Nat
  | (.string bytes, d) => bytes.length + uptoBulk d + 1
  | (_, d) => uptoBulk d + 1
 end
def uptoSmall : (H : Type) → List (DataW H) → Bool := fun _ ds => decide (uptoBulkAll ds ≤ 1048576)
def OpenSpec.upto (s : _root_.Go.ChangeSpec) : _root_.Go.OpenSpec := { _root_.Go.OpenSpec.ofChange s with cond := some uptoSmall }

/-- 'laws.FnExactDyadicOf', WHERE WHAT IT READS IS OF BULK AT MOST 1048576: true; the input reads as it did. -/
def fnExactDyadicOfUptoRow : OpenClaim := { program := "ytlncenochfmpaaadoor", sum := "0a52cddd172ccf3baed9f00b2f733974fcc0d672d57df6f5d130d6c4d4efd250", func := "loop.example/g01172/laws.FnExactDyadicOf", spec := "fnExactDyadicOf", inPlace := ["math.Float32bits"], named := ["math/bits.deBruijn64tab"], apart := false, laid := [("math/bits.deBruijn64tab", laid_math_bits_deBruijn64tab)], narrowed := true }
def FnExactDyadicOfUptoSaid : Prop := fnExactDyadicOfUptoRow.holds Tryd.pinned (OpenSpec.upto fnExactDyadicOfSpec)

/-- 'laws.FnExactRoundDyadic', WHERE WHAT IT READS IS OF BULK AT MOST 1048576: true; the input reads as it did. -/
def fnExactRoundDyadicUptoRow : OpenClaim := { program := "ytlncenochfmpaaadoor", sum := "0a52cddd172ccf3baed9f00b2f733974fcc0d672d57df6f5d130d6c4d4efd250", func := "loop.example/g01172/laws.FnExactRoundDyadic", spec := "fnExactRoundDyadic", inPlace := ["math.Float64frombits", "math.Float64bits"], unfollowed := true, recurses := true, named := ["math/bits.deBruijn64tab"], apart := false, laid := [("math/bits.deBruijn64tab", laid_math_bits_deBruijn64tab)], narrowed := true }
def FnExactRoundDyadicUptoSaid : Prop := fnExactRoundDyadicUptoRow.holds Tryd.pinned (OpenSpec.upto fnExactRoundDyadicSpec)

/-- 'laws.FnExactEnclosingFloats', WHERE WHAT IT READS IS OF BULK AT MOST 1048576: true; the input reads as it did. -/
def fnExactEnclosingFloatsUptoRow : OpenClaim := { program := "ytlncenochfmpaaadoor", sum := "0a52cddd172ccf3baed9f00b2f733974fcc0d672d57df6f5d130d6c4d4efd250", func := "loop.example/g01172/laws.FnExactEnclosingFloats", spec := "fnExactEnclosingFloats", inPlace := ["math.Float64frombits", "math.Float64bits"], unfollowed := true, recurses := true, named := ["math/bits.deBruijn64tab"], apart := false, laid := [("math/bits.deBruijn64tab", laid_math_bits_deBruijn64tab)], narrowed := true }
def FnExactEnclosingFloatsUptoSaid : Prop := fnExactEnclosingFloatsUptoRow.holds Tryd.pinned (OpenSpec.upto fnExactEnclosingFloatsSpec)

/-- 'laws.FnExactQuotientBelow', WHERE WHAT IT READS IS OF BULK AT MOST 1048576: true; the input reads as it did. -/
def fnExactQuotientBelowUptoRow : OpenClaim := { program := "ytlncenochfmpaaadoor", sum := "0a52cddd172ccf3baed9f00b2f733974fcc0d672d57df6f5d130d6c4d4efd250", func := "loop.example/g01172/laws.FnExactQuotientBelow", spec := "fnExactQuotientBelow", named := ["math/bits.deBruijn64tab"], apart := false, laid := [("math/bits.deBruijn64tab", laid_math_bits_deBruijn64tab)], narrowed := true }
def FnExactQuotientBelowUptoSaid : Prop := fnExactQuotientBelowUptoRow.holds Tryd.pinned (OpenSpec.upto fnExactQuotientBelowSpec)

/-- 'laws.FnExactRootAbove', WHERE WHAT IT READS IS OF BULK AT MOST 1048576: true; the input reads as it did. -/
def fnExactRootAboveUptoRow : OpenClaim := { program := "ytlncenochfmpaaadoor", sum := "0a52cddd172ccf3baed9f00b2f733974fcc0d672d57df6f5d130d6c4d4efd250", func := "loop.example/g01172/laws.FnExactRootAbove", spec := "fnExactRootAbove", named := ["math/bits.deBruijn64tab"], apart := false, laid := [("math/bits.deBruijn64tab", laid_math_bits_deBruijn64tab)], narrowed := true }
def FnExactRootAboveUptoSaid : Prop := fnExactRootAboveUptoRow.holds Tryd.pinned (OpenSpec.upto fnExactRootAboveSpec)

/-- 'laws.FnExactRootBelow', WHERE WHAT IT READS IS OF BULK AT MOST 1048576: true; the input reads as it did. -/
def fnExactRootBelowUptoRow : OpenClaim := { program := "ytlncenochfmpaaadoor", sum := "0a52cddd172ccf3baed9f00b2f733974fcc0d672d57df6f5d130d6c4d4efd250", func := "loop.example/g01172/laws.FnExactRootBelow", spec := "fnExactRootBelow", named := ["math/bits.deBruijn64tab"], apart := false, laid := [("math/bits.deBruijn64tab", laid_math_bits_deBruijn64tab)], narrowed := true }
def FnExactRootBelowUptoSaid : Prop := fnExactRootBelowUptoRow.holds Tryd.pinned (OpenSpec.upto fnExactRootBelowSpec)

/-- 'laws.FnExactAddIn', WHERE WHAT IT READS IS OF BULK AT MOST 1048576: true; the input reads as it did. -/
def fnExactAddInUptoRow : OpenClaim := { program := "ytlncenochfmpaaadoor", sum := "0a52cddd172ccf3baed9f00b2f733974fcc0d672d57df6f5d130d6c4d4efd250", func := "loop.example/g01172/laws.FnExactAddIn", spec := "fnExactAddIn", inPlace := ["math.Float32bits", "math.Float64bits", "math.Float64frombits"], unfollowed := true, recurses := true, named := ["math/bits.deBruijn64tab"], apart := false, laid := [("math/bits.deBruijn64tab", laid_math_bits_deBruijn64tab)], narrowed := true }
def FnExactAddInUptoSaid : Prop := fnExactAddInUptoRow.holds Tryd.pinned (OpenSpec.upto fnExactAddInSpec)

/-- 'laws.FnExactSubtractIn', WHERE WHAT IT READS IS OF BULK AT MOST 1048576: true; the input reads as it did. -/
def fnExactSubtractInUptoRow : OpenClaim := { program := "ytlncenochfmpaaadoor", sum := "0a52cddd172ccf3baed9f00b2f733974fcc0d672d57df6f5d130d6c4d4efd250", func := "loop.example/g01172/laws.FnExactSubtractIn", spec := "fnExactSubtractIn", inPlace := ["math.Float32bits", "math.Float64bits", "math.Float64frombits"], unfollowed := true, recurses := true, named := ["math/bits.deBruijn64tab"], apart := false, laid := [("math/bits.deBruijn64tab", laid_math_bits_deBruijn64tab)], narrowed := true }
def FnExactSubtractInUptoSaid : Prop := fnExactSubtractInUptoRow.holds Tryd.pinned (OpenSpec.upto fnExactSubtractInSpec)

/-- 'laws.FnExactMultiplyIn', WHERE WHAT IT READS IS OF BULK AT MOST 1048576: true; the input reads as it did. -/
def fnExactMultiplyInUptoRow : OpenClaim := { program := "ytlncenochfmpaaadoor", sum := "0a52cddd172ccf3baed9f00b2f733974fcc0d672d57df6f5d130d6c4d4efd250", func := "loop.example/g01172/laws.FnExactMultiplyIn", spec := "fnExactMultiplyIn", inPlace := ["math.Float32bits", "math.Float64bits", "math.Float64frombits"], unfollowed := true, recurses := true, named := ["math/bits.deBruijn64tab"], apart := false, laid := [("math/bits.deBruijn64tab", laid_math_bits_deBruijn64tab)], narrowed := true }
def FnExactMultiplyInUptoSaid : Prop := fnExactMultiplyInUptoRow.holds Tryd.pinned (OpenSpec.upto fnExactMultiplyInSpec)

/-- 'laws.FnExactNarrowIn', WHERE WHAT IT READS IS OF BULK AT MOST 1048576: true; the input reads as it did. -/
def fnExactNarrowInUptoRow : OpenClaim := { program := "ytlncenochfmpaaadoor", sum := "0a52cddd172ccf3baed9f00b2f733974fcc0d672d57df6f5d130d6c4d4efd250", func := "loop.example/g01172/laws.FnExactNarrowIn", spec := "fnExactNarrowIn", inPlace := ["math.Float64bits", "math.Float64frombits"], unfollowed := true, recurses := true, named := ["math/bits.deBruijn64tab"], apart := false, laid := [("math/bits.deBruijn64tab", laid_math_bits_deBruijn64tab)], narrowed := true }
def FnExactNarrowInUptoSaid : Prop := fnExactNarrowInUptoRow.holds Tryd.pinned (OpenSpec.upto fnExactNarrowInSpec)

/-- 'laws.FnExactIsExactSum', WHERE WHAT IT READS IS OF BULK AT MOST 1048576: true; the input reads as it did. -/
def fnExactIsExactSumUptoRow : OpenClaim := { program := "ytlncenochfmpaaadoor", sum := "0a52cddd172ccf3baed9f00b2f733974fcc0d672d57df6f5d130d6c4d4efd250", func := "loop.example/g01172/laws.FnExactIsExactSum", spec := "fnExactIsExactSum", inPlace := ["math.Float32bits", "math.Float64bits", "math.Float64frombits"], unfollowed := true, recurses := true, named := ["math/bits.deBruijn64tab"], apart := false, laid := [("math/bits.deBruijn64tab", laid_math_bits_deBruijn64tab)], narrowed := true }
def FnExactIsExactSumUptoSaid : Prop := fnExactIsExactSumUptoRow.holds Tryd.pinned (OpenSpec.upto fnExactIsExactSumSpec)

end Rows
end Go.Proofs.YtlncenochfmpaaaDoor
