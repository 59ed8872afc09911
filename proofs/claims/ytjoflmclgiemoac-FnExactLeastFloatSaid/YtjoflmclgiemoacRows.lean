/-
  No cell of these rows narrows 'for every input' (looked for: loops, veiled, ifaces, maps, wideKeys, modest, calm, conditions, laid).
  DERIVED. THE GIVEN ROWS OF THIS SEAT. 5 by the template 'for every input the law returns true; each argument reads behind the call as it read before'; 0 by the template 'total and deterministic' (their statements: YtjoflmclgiemoacTotals.lean).
  GIVEN WITH THE SEED: the statements are not yours to turn. If you find one false, say at which input.
  Laid BY PROGRAM, IN A SANDBOX (cutbox-rows.mjs): the forced cells as the released guide's own fill.sh prints them over the translation 7816835fb1971ec1… (all of the seat's roots in one cut). By AI agents, Wed Nov 11 2026. No macro, syntax, notation, axiom, sorry.
-/
import Derived.Test.YtjoflmclgiemoacChecked
import GoSem.Claim
import GoSem.ClaimJoined
import GoSem.ClaimMapViews
import Derived.JoinedTies
import Derived.KernelRfl
namespace Go.Proofs.Ytjoflmclgiemoac
/- THE CELL 'sum', in the pinned program and in every row, IS THE sha256 OF THE DUMP (.gsa) THAT YtjoflmclgiemoacProg.lean LOADS. Nothing in Lean hashes anything: it is a label: what it is worth is what the hold of that sum in a sandbox is worth. -/
noncomputable def Try.pinned : Pinned := { name := "ytjoflmclgiemoac", sum := "7816835fb1971ec1ed2b5e83cf0a2c03e6c0f2cb5a8068e1c9598d550c2f5160", checked := Try.checked }
namespace Rows
def none {H : Type} : Left H := { results := [], args := [] }

/-- 'laws.FnExactTotalLess': WHATEVER THE INPUT: true; the input reads as it did. -/
def fnExactTotalLessSpec : ChangeSpec := { name := "fnExactTotalLess", fn := fun _ => fun
  | [d1, d2] => { results := [.lit (.bool true)], args := [d1, d2] }
  | _ => none }
def fnExactTotalLessRow : OpenClaim := { program := "ytjoflmclgiemoac", sum := "7816835fb1971ec1ed2b5e83cf0a2c03e6c0f2cb5a8068e1c9598d550c2f5160", func := "loop.example/g01172/laws.FnExactTotalLess", spec := "fnExactTotalLess", inPlace := ["math.Float32bits"], plainKeys := false, apart := false }
def FnExactTotalLessSaid : Prop := fnExactTotalLessRow.holds Try.pinned (OpenSpec.ofChange fnExactTotalLessSpec)

/-- ITS FALSE NEIGHBOUR: 'it returns false'. Refute it at one input. -/
def fnExactTotalLessWrong : ChangeSpec := { name := "fnExactTotalLess", fn := fun _ => fun
  | [d1, d2] => { results := [.lit (.bool false)], args := [d1, d2] }
  | _ => none }
def FnExactTotalLessWrongFalsely : Prop := fnExactTotalLessRow.holds Try.pinned (OpenSpec.ofChange fnExactTotalLessWrong)

/-- 'laws.FnExactScaleFloat': WHATEVER THE INPUT: true; the input reads as it did. -/
def fnExactScaleFloatSpec : ChangeSpec := { name := "fnExactScaleFloat", fn := fun _ => fun
  | [d1, d2] => { results := [.lit (.bool true)], args := [d1, d2] }
  | _ => none }
def fnExactScaleFloatRow : OpenClaim := { program := "ytjoflmclgiemoac", sum := "7816835fb1971ec1ed2b5e83cf0a2c03e6c0f2cb5a8068e1c9598d550c2f5160", func := "loop.example/g01172/laws.FnExactScaleFloat", spec := "fnExactScaleFloat", inPlace := ["math.Float32bits", "math.Float64bits", "math.Float64frombits"], plainKeys := false, apart := false }
def FnExactScaleFloatSaid : Prop := fnExactScaleFloatRow.holds Try.pinned (OpenSpec.ofChange fnExactScaleFloatSpec)

/-- ITS FALSE NEIGHBOUR: 'it returns false'. Refute it at one input. -/
def fnExactScaleFloatWrong : ChangeSpec := { name := "fnExactScaleFloat", fn := fun _ => fun
  | [d1, d2] => { results := [.lit (.bool false)], args := [d1, d2] }
  | _ => none }
def FnExactScaleFloatWrongFalsely : Prop := fnExactScaleFloatRow.holds Try.pinned (OpenSpec.ofChange fnExactScaleFloatWrong)

/-- 'laws.FnExactIsWholeFloat': WHATEVER THE INPUT: true; the input reads as it did. -/
def fnExactIsWholeFloatSpec : ChangeSpec := { name := "fnExactIsWholeFloat", fn := fun _ => fun
  | [d] => { results := [.lit (.bool true)], args := [d] }
  | _ => none }
def fnExactIsWholeFloatRow : OpenClaim := { program := "ytjoflmclgiemoac", sum := "7816835fb1971ec1ed2b5e83cf0a2c03e6c0f2cb5a8068e1c9598d550c2f5160", func := "loop.example/g01172/laws.FnExactIsWholeFloat", spec := "fnExactIsWholeFloat", inPlace := ["math.Float32bits", "math.archTrunc", "math.Float64bits", "math.Float64frombits"], plainKeys := false, apart := false }
def FnExactIsWholeFloatSaid : Prop := fnExactIsWholeFloatRow.holds Try.pinned (OpenSpec.ofChange fnExactIsWholeFloatSpec)

/-- ITS FALSE NEIGHBOUR: 'it returns false'. Refute it at one input. -/
def fnExactIsWholeFloatWrong : ChangeSpec := { name := "fnExactIsWholeFloat", fn := fun _ => fun
  | [d] => { results := [.lit (.bool false)], args := [d] }
  | _ => none }
def FnExactIsWholeFloatWrongFalsely : Prop := fnExactIsWholeFloatRow.holds Try.pinned (OpenSpec.ofChange fnExactIsWholeFloatWrong)

/-- 'laws.FnExactSortFloats': WHATEVER THE INPUT: true; the input reads as it did. -/
def fnExactSortFloatsSpec : ChangeSpec := { name := "fnExactSortFloats", fn := fun _ => fun
  | [d] => { results := [.lit (.bool true)], args := [d] }
  | _ => none }
def fnExactSortFloatsRow : OpenClaim := { program := "ytjoflmclgiemoac", sum := "7816835fb1971ec1ed2b5e83cf0a2c03e6c0f2cb5a8068e1c9598d550c2f5160", func := "loop.example/g01172/laws.FnExactSortFloats", spec := "fnExactSortFloats", inPlace := ["math.Float32bits"], unfollowed := true, recurses := true, plainKeys := false, apart := false }
def FnExactSortFloatsSaid : Prop := fnExactSortFloatsRow.holds Try.pinned (OpenSpec.ofChange fnExactSortFloatsSpec)

/-- ITS FALSE NEIGHBOUR: 'it returns false'. Refute it at one input. -/
def fnExactSortFloatsWrong : ChangeSpec := { name := "fnExactSortFloats", fn := fun _ => fun
  | [d] => { results := [.lit (.bool false)], args := [d] }
  | _ => none }
def FnExactSortFloatsWrongFalsely : Prop := fnExactSortFloatsRow.holds Try.pinned (OpenSpec.ofChange fnExactSortFloatsWrong)

/-- 'laws.FnExactLeastFloat': WHATEVER THE INPUT: true; the input reads as it did. -/
def fnExactLeastFloatSpec : ChangeSpec := { name := "fnExactLeastFloat", fn := fun _ => fun
  | [d] => { results := [.lit (.bool true)], args := [d] }
  | _ => none }
def fnExactLeastFloatRow : OpenClaim := { program := "ytjoflmclgiemoac", sum := "7816835fb1971ec1ed2b5e83cf0a2c03e6c0f2cb5a8068e1c9598d550c2f5160", func := "loop.example/g01172/laws.FnExactLeastFloat", spec := "fnExactLeastFloat", inPlace := ["math.Float32bits"], plainKeys := false, apart := false }
def FnExactLeastFloatSaid : Prop := fnExactLeastFloatRow.holds Try.pinned (OpenSpec.ofChange fnExactLeastFloatSpec)

/-- ITS FALSE NEIGHBOUR: 'it returns false'. Refute it at one input. -/
def fnExactLeastFloatWrong : ChangeSpec := { name := "fnExactLeastFloat", fn := fun _ => fun
  | [d] => { results := [.lit (.bool false)], args := [d] }
  | _ => none }
def FnExactLeastFloatWrongFalsely : Prop := fnExactLeastFloatRow.holds Try.pinned (OpenSpec.ofChange fnExactLeastFloatWrong)

/- THE SECOND FORM. 'bulk': how many values and letters a reading holds, each counted each time it is reached (what is shared counts as often as it is met; a slice's spare places count too). A statement '..UptoSaid' is the law's where the arguments, and the package variables that the reading takes, are together of bulk at most 1048576: NARROWER than '..Said'. Prove '..Said' where nothing that the law and all that it calls make is longer than what came in: it says more and counts as full. Else prove '..UptoSaid'. A law counts once. -/
mutual
def uptoBulk {H : Type} : DataW H → Nat
  | .lit (.string bytes) => bytes.length + 1
  | .lit _ => 1
  | .nil => 1
  | .ptr d => uptoBulk d + 1
  | .slice elems spare => uptoBulkAll elems + uptoBulkAll spare + 1
  | .agg parts => uptoBulkAll parts + 1
  | .iface _ d => uptoBulk d + 1
  | .map entries => uptoBulkEntries entries + 1
  | .held _ => 1
def uptoBulkAll {H : Type} : List (DataW H) → Nat
  | [] => 0
  | d :: r => uptoBulk d + uptoBulkAll r
def uptoBulkEntries {H : Type} : List (Lit × DataW H) → Nat
  | [] => 0
  | x :: r => uptoBulkEntry x + uptoBulkEntries r
def uptoBulkEntry {H : Type} : Lit × DataW H → Nat
  | (.string bytes, d) => bytes.length + uptoBulk d + 1
  | (_, d) => uptoBulk d + 1
 end
def uptoSmall : (H : Type) → List (DataW H) → Bool := fun _ ds => decide (uptoBulkAll ds ≤ 1048576)
def OpenSpec.upto (s : _root_.Go.ChangeSpec) : _root_.Go.OpenSpec := { _root_.Go.OpenSpec.ofChange s with cond := some uptoSmall }

/-- 'laws.FnExactTotalLess', WHERE WHAT IT READS IS OF BULK AT MOST 1048576: true; the input reads as it did. -/
def fnExactTotalLessUptoRow : OpenClaim := { program := "ytjoflmclgiemoac", sum := "7816835fb1971ec1ed2b5e83cf0a2c03e6c0f2cb5a8068e1c9598d550c2f5160", func := "loop.example/g01172/laws.FnExactTotalLess", spec := "fnExactTotalLess", inPlace := ["math.Float32bits"], plainKeys := false, apart := false, narrowed := true }
def FnExactTotalLessUptoSaid : Prop := fnExactTotalLessUptoRow.holds Try.pinned (OpenSpec.upto fnExactTotalLessSpec)

/-- 'laws.FnExactScaleFloat', WHERE WHAT IT READS IS OF BULK AT MOST 1048576: true; the input reads as it did. -/
def fnExactScaleFloatUptoRow : OpenClaim := { program := "ytjoflmclgiemoac", sum := "7816835fb1971ec1ed2b5e83cf0a2c03e6c0f2cb5a8068e1c9598d550c2f5160", func := "loop.example/g01172/laws.FnExactScaleFloat", spec := "fnExactScaleFloat", inPlace := ["math.Float32bits", "math.Float64bits", "math.Float64frombits"], plainKeys := false, apart := false, narrowed := true }
def FnExactScaleFloatUptoSaid : Prop := fnExactScaleFloatUptoRow.holds Try.pinned (OpenSpec.upto fnExactScaleFloatSpec)

/-- 'laws.FnExactIsWholeFloat', WHERE WHAT IT READS IS OF BULK AT MOST 1048576: true; the input reads as it did. -/
def fnExactIsWholeFloatUptoRow : OpenClaim := { program := "ytjoflmclgiemoac", sum := "7816835fb1971ec1ed2b5e83cf0a2c03e6c0f2cb5a8068e1c9598d550c2f5160", func := "loop.example/g01172/laws.FnExactIsWholeFloat", spec := "fnExactIsWholeFloat", inPlace := ["math.Float32bits", "math.archTrunc", "math.Float64bits", "math.Float64frombits"], plainKeys := false, apart := false, narrowed := true }
def FnExactIsWholeFloatUptoSaid : Prop := fnExactIsWholeFloatUptoRow.holds Try.pinned (OpenSpec.upto fnExactIsWholeFloatSpec)

/-- 'laws.FnExactSortFloats', WHERE WHAT IT READS IS OF BULK AT MOST 1048576: true; the input reads as it did. -/
def fnExactSortFloatsUptoRow : OpenClaim := { program := "ytjoflmclgiemoac", sum := "7816835fb1971ec1ed2b5e83cf0a2c03e6c0f2cb5a8068e1c9598d550c2f5160", func := "loop.example/g01172/laws.FnExactSortFloats", spec := "fnExactSortFloats", inPlace := ["math.Float32bits"], unfollowed := true, recurses := true, plainKeys := false, apart := false, narrowed := true }
def FnExactSortFloatsUptoSaid : Prop := fnExactSortFloatsUptoRow.holds Try.pinned (OpenSpec.upto fnExactSortFloatsSpec)

/-- 'laws.FnExactLeastFloat', WHERE WHAT IT READS IS OF BULK AT MOST 1048576: true; the input reads as it did. -/
def fnExactLeastFloatUptoRow : OpenClaim := { program := "ytjoflmclgiemoac", sum := "7816835fb1971ec1ed2b5e83cf0a2c03e6c0f2cb5a8068e1c9598d550c2f5160", func := "loop.example/g01172/laws.FnExactLeastFloat", spec := "fnExactLeastFloat", inPlace := ["math.Float32bits"], plainKeys := false, apart := false, narrowed := true }
def FnExactLeastFloatUptoSaid : Prop := fnExactLeastFloatUptoRow.holds Try.pinned (OpenSpec.upto fnExactLeastFloatSpec)

end Rows
end Go.Proofs.Ytjoflmclgiemoac
