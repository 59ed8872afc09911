/-
  NARROWER THAN 'FOR EVERY INPUT', by the rows' own cells (each row's printed sentence says how): FnExactQuotientBelow: laid · FnExactRootAbove: laid · FnExactNarrowIn: laid · FnExactValueOfPair: laid · FnExactErrorOfPair: laid · FnExactValueOfExpansion: laid · FnExactCompressExpansion: laid · FnExactSignOfExpansion: laid · FnExactRoundExpansion: laid.
  DERIVED. THE GIVEN ROWS OF THIS SEAT. 9 by the template 'for every input the law returns true; each argument reads behind the call as it read before'; 0 by the template 'total and deterministic' (their statements: YtnecnbonnidijaaDoorTotals.lean).
  GIVEN WITH THE SEED: the statements are not yours to turn. If you find one false, say at which input.
  Laid BY PROGRAM, IN A SANDBOX (cutbox-rows.mjs): the forced cells as the released guide's own fill.sh prints them over the translation 6b697fcee19ecd03… (all of the seat's roots in one cut). By AI agents, Wed Nov 11 2026. No macro, syntax, notation, axiom, sorry.
-/
import Derived.Test.YtnecnbonnidijaaDoorChecked
import GoSem.Claim
import GoSem.ClaimJoined
import GoSem.ClaimMapViews
import Derived.JoinedTies
import Derived.KernelRfl
namespace Go.Proofs.YtnecnbonnidijaaDoor
/- THE CELL 'sum', in the pinned program and in every row, IS THE sha256 OF THE DUMP (.gsa) THAT YtnecnbonnidijaaDoorProg.lean LOADS. Nothing in Lean hashes anything: it is a label: what it is worth is what the hold of that sum in a sandbox is worth. -/
noncomputable def Tryd.pinned : Pinned := { name := "ytnecnbonnidijaadoor", sum := "6b697fcee19ecd037346b5a23a9b0f6cd5965d23eba5b975786d175cb9a5d70b", checked := Tryd.checked }
namespace Rows
def none {H : Type} : Left H := { results := [], args := [] }

/- WHAT THE LISTED PACKAGE-LEVEL VARIABLES READ AS WHEN THE CALL BEGINS. Each datum BY PROGRAM (the guide's laid-datum.mjs) off the statement by which the dump's own 'gosem.cut.vars' lays the variable. In a bare row this is a premise. The card (YtnecnbonnidijaaDoorCards.lean) ties it to the program's text. -/
def laid_math_bits_deBruijn64tab {H : Type} : DataW H := .agg [.lit (.int .u8 0), .lit (.int .u8 1), .lit (.int .u8 56), .lit (.int .u8 2), .lit (.int .u8 57), .lit (.int .u8 49), .lit (.int .u8 28), .lit (.int .u8 3), .lit (.int .u8 61), .lit (.int .u8 58), .lit (.int .u8 42), .lit (.int .u8 50), .lit (.int .u8 38), .lit (.int .u8 29), .lit (.int .u8 17), .lit (.int .u8 4), .lit (.int .u8 62), .lit (.int .u8 47), .lit (.int .u8 59), .lit (.int .u8 36), .lit (.int .u8 45), .lit (.int .u8 43), .lit (.int .u8 51), .lit (.int .u8 22), .lit (.int .u8 53), .lit (.int .u8 39), .lit (.int .u8 33), .lit (.int .u8 30), .lit (.int .u8 24), .lit (.int .u8 18), .lit (.int .u8 12), .lit (.int .u8 5), .lit (.int .u8 63), .lit (.int .u8 55), .lit (.int .u8 48), .lit (.int .u8 27), .lit (.int .u8 60), .lit (.int .u8 41), .lit (.int .u8 37), .lit (.int .u8 16), .lit (.int .u8 46), .lit (.int .u8 35), .lit (.int .u8 44), .lit (.int .u8 21), .lit (.int .u8 52), .lit (.int .u8 32), .lit (.int .u8 23), .lit (.int .u8 11), .lit (.int .u8 54), .lit (.int .u8 26), .lit (.int .u8 40), .lit (.int .u8 15), .lit (.int .u8 34), .lit (.int .u8 20), .lit (.int .u8 31), .lit (.int .u8 10), .lit (.int .u8 25), .lit (.int .u8 14), .lit (.int .u8 19), .lit (.int .u8 9), .lit (.int .u8 13), .lit (.int .u8 8), .lit (.int .u8 7), .lit (.int .u8 6)]

/-- 'laws.FnExactQuotientBelow': WHATEVER THE INPUT: true; the input reads as it did. -/
def fnExactQuotientBelowSpec : ChangeSpec := { name := "fnExactQuotientBelow", fn := fun _ => fun
  | [d1, d2, d3] => { results := [.lit (.bool true)], args := [d1, d2, d3] }
  | _ => none }
def fnExactQuotientBelowRow : OpenClaim := { program := "ytnecnbonnidijaadoor", sum := "6b697fcee19ecd037346b5a23a9b0f6cd5965d23eba5b975786d175cb9a5d70b", func := "loop.example/g01172/laws.FnExactQuotientBelow", spec := "fnExactQuotientBelow", named := ["math/bits.deBruijn64tab"], apart := false, laid := [("math/bits.deBruijn64tab", laid_math_bits_deBruijn64tab)] }
def FnExactQuotientBelowSaid : Prop := fnExactQuotientBelowRow.holds Tryd.pinned (OpenSpec.ofChange fnExactQuotientBelowSpec)

/-- ITS FALSE NEIGHBOUR: 'it returns false'. Refute it at one input. -/
def fnExactQuotientBelowWrong : ChangeSpec := { name := "fnExactQuotientBelow", fn := fun _ => fun
  | [d1, d2, d3] => { results := [.lit (.bool false)], args := [d1, d2, d3] }
  | _ => none }
def FnExactQuotientBelowWrongFalsely : Prop := fnExactQuotientBelowRow.holds Tryd.pinned (OpenSpec.ofChange fnExactQuotientBelowWrong)

/-- 'laws.FnExactRootAbove': WHATEVER THE INPUT: true; the input reads as it did. -/
def fnExactRootAboveSpec : ChangeSpec := { name := "fnExactRootAbove", fn := fun _ => fun
  | [d1, d2] => { results := [.lit (.bool true)], args := [d1, d2] }
  | _ => none }
def fnExactRootAboveRow : OpenClaim := { program := "ytnecnbonnidijaadoor", sum := "6b697fcee19ecd037346b5a23a9b0f6cd5965d23eba5b975786d175cb9a5d70b", func := "loop.example/g01172/laws.FnExactRootAbove", spec := "fnExactRootAbove", named := ["math/bits.deBruijn64tab"], apart := false, laid := [("math/bits.deBruijn64tab", laid_math_bits_deBruijn64tab)] }
def FnExactRootAboveSaid : Prop := fnExactRootAboveRow.holds Tryd.pinned (OpenSpec.ofChange fnExactRootAboveSpec)

/-- ITS FALSE NEIGHBOUR: 'it returns false'. Refute it at one input. -/
def fnExactRootAboveWrong : ChangeSpec := { name := "fnExactRootAbove", fn := fun _ => fun
  | [d1, d2] => { results := [.lit (.bool false)], args := [d1, d2] }
  | _ => none }
def FnExactRootAboveWrongFalsely : Prop := fnExactRootAboveRow.holds Tryd.pinned (OpenSpec.ofChange fnExactRootAboveWrong)

/-- 'laws.FnExactNarrowIn': WHATEVER THE INPUT: true; the input reads as it did. -/
def fnExactNarrowInSpec : ChangeSpec := { name := "fnExactNarrowIn", fn := fun _ => fun
  | [d1, d2] => { results := [.lit (.bool true)], args := [d1, d2] }
  | _ => none }
def fnExactNarrowInRow : OpenClaim := { program := "ytnecnbonnidijaadoor", sum := "6b697fcee19ecd037346b5a23a9b0f6cd5965d23eba5b975786d175cb9a5d70b", func := "loop.example/g01172/laws.FnExactNarrowIn", spec := "fnExactNarrowIn", inPlace := ["math.Float64bits", "math.Float64frombits"], unfollowed := true, recurses := true, named := ["math/bits.deBruijn64tab"], apart := false, laid := [("math/bits.deBruijn64tab", laid_math_bits_deBruijn64tab)] }
def FnExactNarrowInSaid : Prop := fnExactNarrowInRow.holds Tryd.pinned (OpenSpec.ofChange fnExactNarrowInSpec)

/-- ITS FALSE NEIGHBOUR: 'it returns false'. Refute it at one input. -/
def fnExactNarrowInWrong : ChangeSpec := { name := "fnExactNarrowIn", fn := fun _ => fun
  | [d1, d2] => { results := [.lit (.bool false)], args := [d1, d2] }
  | _ => none }
def FnExactNarrowInWrongFalsely : Prop := fnExactNarrowInRow.holds Tryd.pinned (OpenSpec.ofChange fnExactNarrowInWrong)

/-- 'laws.FnExactValueOfPair': WHATEVER THE INPUT: true; the input reads as it did. -/
def fnExactValueOfPairSpec : ChangeSpec := { name := "fnExactValueOfPair", fn := fun _ => fun
  | [d] => { results := [.lit (.bool true)], args := [d] }
  | _ => none }
def fnExactValueOfPairRow : OpenClaim := { program := "ytnecnbonnidijaadoor", sum := "6b697fcee19ecd037346b5a23a9b0f6cd5965d23eba5b975786d175cb9a5d70b", func := "loop.example/g01172/laws.FnExactValueOfPair", spec := "fnExactValueOfPair", inPlace := ["math.Float32bits"], named := ["math/bits.deBruijn64tab"], apart := false, laid := [("math/bits.deBruijn64tab", laid_math_bits_deBruijn64tab)] }
def FnExactValueOfPairSaid : Prop := fnExactValueOfPairRow.holds Tryd.pinned (OpenSpec.ofChange fnExactValueOfPairSpec)

/-- ITS FALSE NEIGHBOUR: 'it returns false'. Refute it at one input. -/
def fnExactValueOfPairWrong : ChangeSpec := { name := "fnExactValueOfPair", fn := fun _ => fun
  | [d] => { results := [.lit (.bool false)], args := [d] }
  | _ => none }
def FnExactValueOfPairWrongFalsely : Prop := fnExactValueOfPairRow.holds Tryd.pinned (OpenSpec.ofChange fnExactValueOfPairWrong)

/-- 'laws.FnExactErrorOfPair': WHATEVER THE INPUT: true; the input reads as it did. -/
def fnExactErrorOfPairSpec : ChangeSpec := { name := "fnExactErrorOfPair", fn := fun _ => fun
  | [d1, d2] => { results := [.lit (.bool true)], args := [d1, d2] }
  | _ => none }
def fnExactErrorOfPairRow : OpenClaim := { program := "ytnecnbonnidijaadoor", sum := "6b697fcee19ecd037346b5a23a9b0f6cd5965d23eba5b975786d175cb9a5d70b", func := "loop.example/g01172/laws.FnExactErrorOfPair", spec := "fnExactErrorOfPair", inPlace := ["math.Float32bits"], named := ["math/bits.deBruijn64tab"], apart := false, laid := [("math/bits.deBruijn64tab", laid_math_bits_deBruijn64tab)] }
def FnExactErrorOfPairSaid : Prop := fnExactErrorOfPairRow.holds Tryd.pinned (OpenSpec.ofChange fnExactErrorOfPairSpec)

/-- ITS FALSE NEIGHBOUR: 'it returns false'. Refute it at one input. -/
def fnExactErrorOfPairWrong : ChangeSpec := { name := "fnExactErrorOfPair", fn := fun _ => fun
  | [d1, d2] => { results := [.lit (.bool false)], args := [d1, d2] }
  | _ => none }
def FnExactErrorOfPairWrongFalsely : Prop := fnExactErrorOfPairRow.holds Tryd.pinned (OpenSpec.ofChange fnExactErrorOfPairWrong)

/-- 'laws.FnExactValueOfExpansion': WHATEVER THE INPUT: true; the input reads as it did. -/
def fnExactValueOfExpansionSpec : ChangeSpec := { name := "fnExactValueOfExpansion", fn := fun _ => fun
  | [d] => { results := [.lit (.bool true)], args := [d] }
  | _ => none }
def fnExactValueOfExpansionRow : OpenClaim := { program := "ytnecnbonnidijaadoor", sum := "6b697fcee19ecd037346b5a23a9b0f6cd5965d23eba5b975786d175cb9a5d70b", func := "loop.example/g01172/laws.FnExactValueOfExpansion", spec := "fnExactValueOfExpansion", inPlace := ["math.Float32bits"], named := ["math/bits.deBruijn64tab"], apart := false, laid := [("math/bits.deBruijn64tab", laid_math_bits_deBruijn64tab)] }
def FnExactValueOfExpansionSaid : Prop := fnExactValueOfExpansionRow.holds Tryd.pinned (OpenSpec.ofChange fnExactValueOfExpansionSpec)

/-- ITS FALSE NEIGHBOUR: 'it returns false'. Refute it at one input. -/
def fnExactValueOfExpansionWrong : ChangeSpec := { name := "fnExactValueOfExpansion", fn := fun _ => fun
  | [d] => { results := [.lit (.bool false)], args := [d] }
  | _ => none }
def FnExactValueOfExpansionWrongFalsely : Prop := fnExactValueOfExpansionRow.holds Tryd.pinned (OpenSpec.ofChange fnExactValueOfExpansionWrong)

/-- 'laws.FnExactCompressExpansion': WHATEVER THE INPUT: true; the input reads as it did. -/
def fnExactCompressExpansionSpec : ChangeSpec := { name := "fnExactCompressExpansion", fn := fun _ => fun
  | [d] => { results := [.lit (.bool true)], args := [d] }
  | _ => none }
def fnExactCompressExpansionRow : OpenClaim := { program := "ytnecnbonnidijaadoor", sum := "6b697fcee19ecd037346b5a23a9b0f6cd5965d23eba5b975786d175cb9a5d70b", func := "loop.example/g01172/laws.FnExactCompressExpansion", spec := "fnExactCompressExpansion", inPlace := ["math.Float32bits", "math.Float64frombits", "math.Float64bits"], unfollowed := true, recurses := true, named := ["math/bits.deBruijn64tab"], apart := false, laid := [("math/bits.deBruijn64tab", laid_math_bits_deBruijn64tab)] }
def FnExactCompressExpansionSaid : Prop := fnExactCompressExpansionRow.holds Tryd.pinned (OpenSpec.ofChange fnExactCompressExpansionSpec)

/-- ITS FALSE NEIGHBOUR: 'it returns false'. Refute it at one input. -/
def fnExactCompressExpansionWrong : ChangeSpec := { name := "fnExactCompressExpansion", fn := fun _ => fun
  | [d] => { results := [.lit (.bool false)], args := [d] }
  | _ => none }
def FnExactCompressExpansionWrongFalsely : Prop := fnExactCompressExpansionRow.holds Tryd.pinned (OpenSpec.ofChange fnExactCompressExpansionWrong)

/-- 'laws.FnExactSignOfExpansion': WHATEVER THE INPUT: true; the input reads as it did. -/
def fnExactSignOfExpansionSpec : ChangeSpec := { name := "fnExactSignOfExpansion", fn := fun _ => fun
  | [d] => { results := [.lit (.bool true)], args := [d] }
  | _ => none }
def fnExactSignOfExpansionRow : OpenClaim := { program := "ytnecnbonnidijaadoor", sum := "6b697fcee19ecd037346b5a23a9b0f6cd5965d23eba5b975786d175cb9a5d70b", func := "loop.example/g01172/laws.FnExactSignOfExpansion", spec := "fnExactSignOfExpansion", inPlace := ["math.Float32bits"], named := ["math/bits.deBruijn64tab"], apart := false, laid := [("math/bits.deBruijn64tab", laid_math_bits_deBruijn64tab)] }
def FnExactSignOfExpansionSaid : Prop := fnExactSignOfExpansionRow.holds Tryd.pinned (OpenSpec.ofChange fnExactSignOfExpansionSpec)

/-- ITS FALSE NEIGHBOUR: 'it returns false'. Refute it at one input. -/
def fnExactSignOfExpansionWrong : ChangeSpec := { name := "fnExactSignOfExpansion", fn := fun _ => fun
  | [d] => { results := [.lit (.bool false)], args := [d] }
  | _ => none }
def FnExactSignOfExpansionWrongFalsely : Prop := fnExactSignOfExpansionRow.holds Tryd.pinned (OpenSpec.ofChange fnExactSignOfExpansionWrong)

/-- 'laws.FnExactRoundExpansion': WHATEVER THE INPUT: true; the input reads as it did. -/
def fnExactRoundExpansionSpec : ChangeSpec := { name := "fnExactRoundExpansion", fn := fun _ => fun
  | [d1, d2] => { results := [.lit (.bool true)], args := [d1, d2] }
  | _ => none }
def fnExactRoundExpansionRow : OpenClaim := { program := "ytnecnbonnidijaadoor", sum := "6b697fcee19ecd037346b5a23a9b0f6cd5965d23eba5b975786d175cb9a5d70b", func := "loop.example/g01172/laws.FnExactRoundExpansion", spec := "fnExactRoundExpansion", inPlace := ["math.Float32bits", "math.Float64frombits", "math.Float64bits"], unfollowed := true, recurses := true, named := ["math/bits.deBruijn64tab"], apart := false, laid := [("math/bits.deBruijn64tab", laid_math_bits_deBruijn64tab)] }
def FnExactRoundExpansionSaid : Prop := fnExactRoundExpansionRow.holds Tryd.pinned (OpenSpec.ofChange fnExactRoundExpansionSpec)

/-- ITS FALSE NEIGHBOUR: 'it returns false'. Refute it at one input. -/
def fnExactRoundExpansionWrong : ChangeSpec := { name := "fnExactRoundExpansion", fn := fun _ => fun
  | [d1, d2] => { results := [.lit (.bool false)], args := [d1, d2] }
  | _ => none }
def FnExactRoundExpansionWrongFalsely : Prop := fnExactRoundExpansionRow.holds Tryd.pinned (OpenSpec.ofChange fnExactRoundExpansionWrong)

/- THE SECOND FORM. 'bulk': how many values and letters a reading holds, each counted each time it is reached (what is shared counts as often as it is met; a slice's spare places count too). A statement '..UptoSaid' is the law's where the arguments, and the package variables that the reading takes, are together of bulk at most 1048576: NARROWER than '..Said'. Prove '..Said' where nothing that the law and all that it calls make is longer than what came in: it says more and counts as full. Else prove '..UptoSaid'. A law counts once. -/
mutual
def uptoBulk {H : Type} : DataW H → Nat
  | .lit (.string bytes) => bytes.length + 1
  | .lit _ => 1
  | .nil => 1
  | .ptr d => uptoBulk d + 1
  | .slice elems spare => uptoBulkAll elems + uptoBulkAll spare + 1
  | .agg parts => uptoBulkAll parts + 1
  | .iface _ d => uptoBulk d + 1
  | .map entries => uptoBulkEntries entries + 1
  | .held _ => 1
def uptoBulkAll {H : Type} : List (DataW H) → Nat
  | [] => 0
  | d :: r => uptoBulk d + uptoBulkAll r
def uptoBulkEntries {H : Type} : List (Lit × DataW H) → Nat
  | [] => 0
  | x :: r => uptoBulkEntry x + uptoBulkEntries r
def uptoBulkEntry {H : Type} : Lit × DataW H → Nat
  | (.string bytes, d) => bytes.length + uptoBulk d + 1
  | (_, d) => uptoBulk d + 1
 end
def uptoSmall : (H : Type) → List (DataW H) → Bool := fun _ ds => decide (uptoBulkAll ds ≤ 1048576)
def OpenSpec.upto (s : _root_.Go.ChangeSpec) : _root_.Go.OpenSpec := { _root_.Go.OpenSpec.ofChange s with cond := some uptoSmall }

/-- 'laws.FnExactQuotientBelow', WHERE WHAT IT READS IS OF BULK AT MOST 1048576: true; the input reads as it did. -/
def fnExactQuotientBelowUptoRow : OpenClaim := { program := "ytnecnbonnidijaadoor", sum := "6b697fcee19ecd037346b5a23a9b0f6cd5965d23eba5b975786d175cb9a5d70b", func := "loop.example/g01172/laws.FnExactQuotientBelow", spec := "fnExactQuotientBelow", named := ["math/bits.deBruijn64tab"], apart := false, laid := [("math/bits.deBruijn64tab", laid_math_bits_deBruijn64tab)], narrowed := true }
def FnExactQuotientBelowUptoSaid : Prop := fnExactQuotientBelowUptoRow.holds Tryd.pinned (OpenSpec.upto fnExactQuotientBelowSpec)

/-- 'laws.FnExactRootAbove', WHERE WHAT IT READS IS OF BULK AT MOST 1048576: true; the input reads as it did. -/
def fnExactRootAboveUptoRow : OpenClaim := { program := "ytnecnbonnidijaadoor", sum := "6b697fcee19ecd037346b5a23a9b0f6cd5965d23eba5b975786d175cb9a5d70b", func := "loop.example/g01172/laws.FnExactRootAbove", spec := "fnExactRootAbove", named := ["math/bits.deBruijn64tab"], apart := false, laid := [("math/bits.deBruijn64tab", laid_math_bits_deBruijn64tab)], narrowed := true }
def FnExactRootAboveUptoSaid : Prop := fnExactRootAboveUptoRow.holds Tryd.pinned (OpenSpec.upto fnExactRootAboveSpec)

/-- 'laws.FnExactNarrowIn', WHERE WHAT IT READS IS OF BULK AT MOST 1048576: true; the input reads as it did. -/
def fnExactNarrowInUptoRow : OpenClaim := { program := "ytnecnbonnidijaadoor", sum := "6b697fcee19ecd037346b5a23a9b0f6cd5965d23eba5b975786d175cb9a5d70b", func := "loop.example/g01172/laws.FnExactNarrowIn", spec := "fnExactNarrowIn", inPlace := ["math.Float64bits", "math.Float64frombits"], unfollowed := true, recurses := true, named := ["math/bits.deBruijn64tab"], apart := false, laid := [("math/bits.deBruijn64tab", laid_math_bits_deBruijn64tab)], narrowed := true }
def FnExactNarrowInUptoSaid : Prop := fnExactNarrowInUptoRow.holds Tryd.pinned (OpenSpec.upto fnExactNarrowInSpec)

/-- 'laws.FnExactValueOfPair', WHERE WHAT IT READS IS OF BULK AT MOST 1048576: true; the input reads as it did. -/
def fnExactValueOfPairUptoRow : OpenClaim := { program := "ytnecnbonnidijaadoor", sum := "6b697fcee19ecd037346b5a23a9b0f6cd5965d23eba5b975786d175cb9a5d70b", func := "loop.example/g01172/laws.FnExactValueOfPair", spec := "fnExactValueOfPair", inPlace := ["math.Float32bits"], named := ["math/bits.deBruijn64tab"], apart := false, laid := [("math/bits.deBruijn64tab", laid_math_bits_deBruijn64tab)], narrowed := true }
def FnExactValueOfPairUptoSaid : Prop := fnExactValueOfPairUptoRow.holds Tryd.pinned (OpenSpec.upto fnExactValueOfPairSpec)

/-- 'laws.FnExactErrorOfPair', WHERE WHAT IT READS IS OF BULK AT MOST 1048576: true; the input reads as it did. -/
def fnExactErrorOfPairUptoRow : OpenClaim := { program := "ytnecnbonnidijaadoor", sum := "6b697fcee19ecd037346b5a23a9b0f6cd5965d23eba5b975786d175cb9a5d70b", func := "loop.example/g01172/laws.FnExactErrorOfPair", spec := "fnExactErrorOfPair", inPlace := ["math.Float32bits"], named := ["math/bits.deBruijn64tab"], apart := false, laid := [("math/bits.deBruijn64tab", laid_math_bits_deBruijn64tab)], narrowed := true }
def FnExactErrorOfPairUptoSaid : Prop := fnExactErrorOfPairUptoRow.holds Tryd.pinned (OpenSpec.upto fnExactErrorOfPairSpec)

/-- 'laws.FnExactValueOfExpansion', WHERE WHAT IT READS IS OF BULK AT MOST 1048576: true; the input reads as it did. -/
def fnExactValueOfExpansionUptoRow : OpenClaim := { program := "ytnecnbonnidijaadoor", sum := "6b697fcee19ecd037346b5a23a9b0f6cd5965d23eba5b975786d175cb9a5d70b", func := "loop.example/g01172/laws.FnExactValueOfExpansion", spec := "fnExactValueOfExpansion", inPlace := ["math.Float32bits"], named := ["math/bits.deBruijn64tab"], apart := false, laid := [("math/bits.deBruijn64tab", laid_math_bits_deBruijn64tab)], narrowed := true }
def FnExactValueOfExpansionUptoSaid : Prop := fnExactValueOfExpansionUptoRow.holds Tryd.pinned (OpenSpec.upto fnExactValueOfExpansionSpec)

/-- 'laws.FnExactCompressExpansion', WHERE WHAT IT READS IS OF BULK AT MOST 1048576: true; the input reads as it did. -/
def fnExactCompressExpansionUptoRow : OpenClaim := { program := "ytnecnbonnidijaadoor", sum := "6b697fcee19ecd037346b5a23a9b0f6cd5965d23eba5b975786d175cb9a5d70b", func := "loop.example/g01172/laws.FnExactCompressExpansion", spec := "fnExactCompressExpansion", inPlace := ["math.Float32bits", "math.Float64frombits", "math.Float64bits"], unfollowed := true, recurses := true, named := ["math/bits.deBruijn64tab"], apart := false, laid := [("math/bits.deBruijn64tab", laid_math_bits_deBruijn64tab)], narrowed := true }
def FnExactCompressExpansionUptoSaid : Prop := fnExactCompressExpansionUptoRow.holds Tryd.pinned (OpenSpec.upto fnExactCompressExpansionSpec)

/-- 'laws.FnExactSignOfExpansion', WHERE WHAT IT READS IS OF BULK AT MOST 1048576: true; the input reads as it did. -/
def fnExactSignOfExpansionUptoRow : OpenClaim := { program := "ytnecnbonnidijaadoor", sum := "6b697fcee19ecd037346b5a23a9b0f6cd5965d23eba5b975786d175cb9a5d70b", func := "loop.example/g01172/laws.FnExactSignOfExpansion", spec := "fnExactSignOfExpansion", inPlace := ["math.Float32bits"], named := ["math/bits.deBruijn64tab"], apart := false, laid := [("math/bits.deBruijn64tab", laid_math_bits_deBruijn64tab)], narrowed := true }
def FnExactSignOfExpansionUptoSaid : Prop := fnExactSignOfExpansionUptoRow.holds Tryd.pinned (OpenSpec.upto fnExactSignOfExpansionSpec)

/-- 'laws.FnExactRoundExpansion', WHERE WHAT IT READS IS OF BULK AT MOST 1048576: true; the input reads as it did. -/
def fnExactRoundExpansionUptoRow : OpenClaim := { program := "ytnecnbonnidijaadoor", sum := "6b697fcee19ecd037346b5a23a9b0f6cd5965d23eba5b975786d175cb9a5d70b", func := "loop.example/g01172/laws.FnExactRoundExpansion", spec := "fnExactRoundExpansion", inPlace := ["math.Float32bits", "math.Float64frombits", "math.Float64bits"], unfollowed := true, recurses := true, named := ["math/bits.deBruijn64tab"], apart := false, laid := [("math/bits.deBruijn64tab", laid_math_bits_deBruijn64tab)], narrowed := true }
def FnExactRoundExpansionUptoSaid : Prop := fnExactRoundExpansionUptoRow.holds Tryd.pinned (OpenSpec.upto fnExactRoundExpansionSpec)

end Rows
end Go.Proofs.YtnecnbonnidijaaDoor
