/-
  No cell of these rows narrows 'for every input' (looked for: loops, veiled, ifaces, maps, wideKeys, modest, calm, conditions, laid).
  DERIVED. THE GIVEN ROWS OF THIS SEAT. 8 by the template 'for every input the law returns true; each argument reads behind the call as it read before'; 0 by the template 'total and deterministic' (their statements: YtnecnbonnidijaaTotals.lean).
  GIVEN WITH THE SEED: the statements are not yours to turn. If you find one false, say at which input.
  Laid BY PROGRAM, IN A SANDBOX (cutbox-rows.mjs): the forced cells as the released guide's own fill.sh prints them over the translation 21844adfde99f230… (all of the seat's roots in one cut). By AI agents, Wed Nov 11 2026. No macro, syntax, notation, axiom, sorry.
-/
import Derived.Test.YtnecnbonnidijaaChecked
import GoSem.Claim
import GoSem.ClaimJoined
import GoSem.ClaimMapViews
import Derived.JoinedTies
import Derived.KernelRfl
namespace Go.Proofs.Ytnecnbonnidijaa
/- THE CELL 'sum', in the pinned program and in every row, IS THE sha256 OF THE DUMP (.gsa) THAT YtnecnbonnidijaaProg.lean LOADS. Nothing in Lean hashes anything: it is a label: what it is worth is what the hold of that sum in a sandbox is worth. -/
noncomputable def Try.pinned : Pinned := { name := "ytnecnbonnidijaa", sum := "21844adfde99f23076938bbb92ce1008c764686a945a3f03b07e405eaf926e00", checked := Try.checked }
namespace Rows
def none {H : Type} : Left H := { results := [], args := [] }

/-- 'laws.FnExactDivideWholes': WHATEVER THE INPUT: true; the input reads as it did. -/
def fnExactDivideWholesSpec : ChangeSpec := { name := "fnExactDivideWholes", fn := fun _ => fun
  | [d1, d2] => { results := [.lit (.bool true)], args := [d1, d2] }
  | _ => none }
def fnExactDivideWholesRow : OpenClaim := { program := "ytnecnbonnidijaa", sum := "21844adfde99f23076938bbb92ce1008c764686a945a3f03b07e405eaf926e00", func := "loop.example/g01172/laws.FnExactDivideWholes", spec := "fnExactDivideWholes", apart := false }
def FnExactDivideWholesSaid : Prop := fnExactDivideWholesRow.holds Try.pinned (OpenSpec.ofChange fnExactDivideWholesSpec)

/-- ITS FALSE NEIGHBOUR: 'it returns false'. Refute it at one input. -/
def fnExactDivideWholesWrong : ChangeSpec := { name := "fnExactDivideWholes", fn := fun _ => fun
  | [d1, d2] => { results := [.lit (.bool false)], args := [d1, d2] }
  | _ => none }
def FnExactDivideWholesWrongFalsely : Prop := fnExactDivideWholesRow.holds Try.pinned (OpenSpec.ofChange fnExactDivideWholesWrong)

/-- 'laws.FnExactIsPair': WHATEVER THE INPUT: true; the input reads as it did. -/
def fnExactIsPairSpec : ChangeSpec := { name := "fnExactIsPair", fn := fun _ => fun
  | [d] => { results := [.lit (.bool true)], args := [d] }
  | _ => none }
def fnExactIsPairRow : OpenClaim := { program := "ytnecnbonnidijaa", sum := "21844adfde99f23076938bbb92ce1008c764686a945a3f03b07e405eaf926e00", func := "loop.example/g01172/laws.FnExactIsPair", spec := "fnExactIsPair", inPlace := ["math.Float32bits"], apart := false }
def FnExactIsPairSaid : Prop := fnExactIsPairRow.holds Try.pinned (OpenSpec.ofChange fnExactIsPairSpec)

/-- ITS FALSE NEIGHBOUR: 'it returns false'. Refute it at one input. -/
def fnExactIsPairWrong : ChangeSpec := { name := "fnExactIsPair", fn := fun _ => fun
  | [d] => { results := [.lit (.bool false)], args := [d] }
  | _ => none }
def FnExactIsPairWrongFalsely : Prop := fnExactIsPairRow.holds Try.pinned (OpenSpec.ofChange fnExactIsPairWrong)

/-- 'laws.FnExactExactSum': WHATEVER THE INPUT: true; the input reads as it did. -/
def fnExactExactSumSpec : ChangeSpec := { name := "fnExactExactSum", fn := fun _ => fun
  | [d1, d2] => { results := [.lit (.bool true)], args := [d1, d2] }
  | _ => none }
def fnExactExactSumRow : OpenClaim := { program := "ytnecnbonnidijaa", sum := "21844adfde99f23076938bbb92ce1008c764686a945a3f03b07e405eaf926e00", func := "loop.example/g01172/laws.FnExactExactSum", spec := "fnExactExactSum", inPlace := ["math.Float32bits", "math.Float64bits", "math.Float64frombits"], recurses := true, apart := false }
def FnExactExactSumSaid : Prop := fnExactExactSumRow.holds Try.pinned (OpenSpec.ofChange fnExactExactSumSpec)

/-- ITS FALSE NEIGHBOUR: 'it returns false'. Refute it at one input. -/
def fnExactExactSumWrong : ChangeSpec := { name := "fnExactExactSum", fn := fun _ => fun
  | [d1, d2] => { results := [.lit (.bool false)], args := [d1, d2] }
  | _ => none }
def FnExactExactSumWrongFalsely : Prop := fnExactExactSumRow.holds Try.pinned (OpenSpec.ofChange fnExactExactSumWrong)

/-- 'laws.FnExactExactProduct': WHATEVER THE INPUT: true; the input reads as it did. -/
def fnExactExactProductSpec : ChangeSpec := { name := "fnExactExactProduct", fn := fun _ => fun
  | [d1, d2] => { results := [.lit (.bool true)], args := [d1, d2] }
  | _ => none }
def fnExactExactProductRow : OpenClaim := { program := "ytnecnbonnidijaa", sum := "21844adfde99f23076938bbb92ce1008c764686a945a3f03b07e405eaf926e00", func := "loop.example/g01172/laws.FnExactExactProduct", spec := "fnExactExactProduct", inPlace := ["math.Float32bits"], recurses := true, apart := false }
def FnExactExactProductSaid : Prop := fnExactExactProductRow.holds Try.pinned (OpenSpec.ofChange fnExactExactProductSpec)

/-- ITS FALSE NEIGHBOUR: 'it returns false'. Refute it at one input. -/
def fnExactExactProductWrong : ChangeSpec := { name := "fnExactExactProduct", fn := fun _ => fun
  | [d1, d2] => { results := [.lit (.bool false)], args := [d1, d2] }
  | _ => none }
def FnExactExactProductWrongFalsely : Prop := fnExactExactProductRow.holds Try.pinned (OpenSpec.ofChange fnExactExactProductWrong)

/-- 'laws.FnExactAddPairs': WHATEVER THE INPUT: true; the input reads as it did. -/
def fnExactAddPairsSpec : ChangeSpec := { name := "fnExactAddPairs", fn := fun _ => fun
  | [d1, d2] => { results := [.lit (.bool true)], args := [d1, d2] }
  | _ => none }
def fnExactAddPairsRow : OpenClaim := { program := "ytnecnbonnidijaa", sum := "21844adfde99f23076938bbb92ce1008c764686a945a3f03b07e405eaf926e00", func := "loop.example/g01172/laws.FnExactAddPairs", spec := "fnExactAddPairs", inPlace := ["math.Float32bits", "math.Float64bits", "math.Float64frombits"], recurses := true, apart := false }
def FnExactAddPairsSaid : Prop := fnExactAddPairsRow.holds Try.pinned (OpenSpec.ofChange fnExactAddPairsSpec)

/-- ITS FALSE NEIGHBOUR: 'it returns false'. Refute it at one input. -/
def fnExactAddPairsWrong : ChangeSpec := { name := "fnExactAddPairs", fn := fun _ => fun
  | [d1, d2] => { results := [.lit (.bool false)], args := [d1, d2] }
  | _ => none }
def FnExactAddPairsWrongFalsely : Prop := fnExactAddPairsRow.holds Try.pinned (OpenSpec.ofChange fnExactAddPairsWrong)

/-- 'laws.FnExactMultiplyPairs': WHATEVER THE INPUT: true; the input reads as it did. -/
def fnExactMultiplyPairsSpec : ChangeSpec := { name := "fnExactMultiplyPairs", fn := fun _ => fun
  | [d1, d2] => { results := [.lit (.bool true)], args := [d1, d2] }
  | _ => none }
def fnExactMultiplyPairsRow : OpenClaim := { program := "ytnecnbonnidijaa", sum := "21844adfde99f23076938bbb92ce1008c764686a945a3f03b07e405eaf926e00", func := "loop.example/g01172/laws.FnExactMultiplyPairs", spec := "fnExactMultiplyPairs", inPlace := ["math.Float32bits"], recurses := true, apart := false }
def FnExactMultiplyPairsSaid : Prop := fnExactMultiplyPairsRow.holds Try.pinned (OpenSpec.ofChange fnExactMultiplyPairsSpec)

/-- ITS FALSE NEIGHBOUR: 'it returns false'. Refute it at one input. -/
def fnExactMultiplyPairsWrong : ChangeSpec := { name := "fnExactMultiplyPairs", fn := fun _ => fun
  | [d1, d2] => { results := [.lit (.bool false)], args := [d1, d2] }
  | _ => none }
def FnExactMultiplyPairsWrongFalsely : Prop := fnExactMultiplyPairsRow.holds Try.pinned (OpenSpec.ofChange fnExactMultiplyPairsWrong)

/-- 'laws.FnExactDividePairs': WHATEVER THE INPUT: true; the input reads as it did. -/
def fnExactDividePairsSpec : ChangeSpec := { name := "fnExactDividePairs", fn := fun _ => fun
  | [d1, d2] => { results := [.lit (.bool true)], args := [d1, d2] }
  | _ => none }
def fnExactDividePairsRow : OpenClaim := { program := "ytnecnbonnidijaa", sum := "21844adfde99f23076938bbb92ce1008c764686a945a3f03b07e405eaf926e00", func := "loop.example/g01172/laws.FnExactDividePairs", spec := "fnExactDividePairs", inPlace := ["math.Float32bits", "math.Float64bits", "math.Float64frombits"], recurses := true, apart := false }
def FnExactDividePairsSaid : Prop := fnExactDividePairsRow.holds Try.pinned (OpenSpec.ofChange fnExactDividePairsSpec)

/-- ITS FALSE NEIGHBOUR: 'it returns false'. Refute it at one input. -/
def fnExactDividePairsWrong : ChangeSpec := { name := "fnExactDividePairs", fn := fun _ => fun
  | [d1, d2] => { results := [.lit (.bool false)], args := [d1, d2] }
  | _ => none }
def FnExactDividePairsWrongFalsely : Prop := fnExactDividePairsRow.holds Try.pinned (OpenSpec.ofChange fnExactDividePairsWrong)

/-- 'laws.FnExactGrowExpansion': WHATEVER THE INPUT: true; the input reads as it did. -/
def fnExactGrowExpansionSpec : ChangeSpec := { name := "fnExactGrowExpansion", fn := fun _ => fun
  | [d1, d2] => { results := [.lit (.bool true)], args := [d1, d2] }
  | _ => none }
def fnExactGrowExpansionRow : OpenClaim := { program := "ytnecnbonnidijaa", sum := "21844adfde99f23076938bbb92ce1008c764686a945a3f03b07e405eaf926e00", func := "loop.example/g01172/laws.FnExactGrowExpansion", spec := "fnExactGrowExpansion", inPlace := ["math.Float32bits", "math.Float64bits", "math.Float64frombits"], recurses := true, apart := false }
def FnExactGrowExpansionSaid : Prop := fnExactGrowExpansionRow.holds Try.pinned (OpenSpec.ofChange fnExactGrowExpansionSpec)

/-- ITS FALSE NEIGHBOUR: 'it returns false'. Refute it at one input. -/
def fnExactGrowExpansionWrong : ChangeSpec := { name := "fnExactGrowExpansion", fn := fun _ => fun
  | [d1, d2] => { results := [.lit (.bool false)], args := [d1, d2] }
  | _ => none }
def FnExactGrowExpansionWrongFalsely : Prop := fnExactGrowExpansionRow.holds Try.pinned (OpenSpec.ofChange fnExactGrowExpansionWrong)

/- THE SECOND FORM. 'bulk': how many values and letters a reading holds, each counted each time it is reached (what is shared counts as often as it is met; a slice's spare places count too). A statement '..UptoSaid' is the law's where the arguments, and the package variables that the reading takes, are together of bulk at most 1048576: NARROWER than '..Said'. Prove '..Said' where nothing that the law and all that it calls make is longer than what came in: it says more and counts as full. Else prove '..UptoSaid'. A law counts once. -/
mutual
def uptoBulk {H : Type} : DataW H → Nat
  | .lit (.string bytes) => bytes.length + 1
  | .lit _ => 1
  | .nil => 1
  | .ptr d => uptoBulk d + 1
  | .slice elems spare => uptoBulkAll elems + uptoBulkAll spare + 1
  | .agg parts => uptoBulkAll parts + 1
  | .iface _ d => uptoBulk d + 1
  | .map entries => uptoBulkEntries entries + 1
  | .held _ => 1
def uptoBulkAll {H : Type} : List (DataW H) → Nat
  | [] => 0
  | d :: r => uptoBulk d + uptoBulkAll r
def uptoBulkEntries {H : Type} : List (Lit × DataW H) → Nat
  | [] => 0
  | x :: r => uptoBulkEntry x + uptoBulkEntries r
def uptoBulkEntry {H : Type} : Lit × DataW H → Nat
  | (.string bytes, d) => bytes.length + uptoBulk d + 1
  | (_, d) => uptoBulk d + 1
 end
def uptoSmall : (H : Type) → List (DataW H) → Bool := fun _ ds => decide (uptoBulkAll ds ≤ 1048576)
def OpenSpec.upto (s : _root_.Go.ChangeSpec) : _root_.Go.OpenSpec := { _root_.Go.OpenSpec.ofChange s with cond := some uptoSmall }

/-- 'laws.FnExactDivideWholes', WHERE WHAT IT READS IS OF BULK AT MOST 1048576: true; the input reads as it did. -/
def fnExactDivideWholesUptoRow : OpenClaim := { program := "ytnecnbonnidijaa", sum := "21844adfde99f23076938bbb92ce1008c764686a945a3f03b07e405eaf926e00", func := "loop.example/g01172/laws.FnExactDivideWholes", spec := "fnExactDivideWholes", apart := false, narrowed := true }
def FnExactDivideWholesUptoSaid : Prop := fnExactDivideWholesUptoRow.holds Try.pinned (OpenSpec.upto fnExactDivideWholesSpec)

/-- 'laws.FnExactIsPair', WHERE WHAT IT READS IS OF BULK AT MOST 1048576: true; the input reads as it did. -/
def fnExactIsPairUptoRow : OpenClaim := { program := "ytnecnbonnidijaa", sum := "21844adfde99f23076938bbb92ce1008c764686a945a3f03b07e405eaf926e00", func := "loop.example/g01172/laws.FnExactIsPair", spec := "fnExactIsPair", inPlace := ["math.Float32bits"], apart := false, narrowed := true }
def FnExactIsPairUptoSaid : Prop := fnExactIsPairUptoRow.holds Try.pinned (OpenSpec.upto fnExactIsPairSpec)

/-- 'laws.FnExactExactSum', WHERE WHAT IT READS IS OF BULK AT MOST 1048576: true; the input reads as it did. -/
def fnExactExactSumUptoRow : OpenClaim := { program := "ytnecnbonnidijaa", sum := "21844adfde99f23076938bbb92ce1008c764686a945a3f03b07e405eaf926e00", func := "loop.example/g01172/laws.FnExactExactSum", spec := "fnExactExactSum", inPlace := ["math.Float32bits", "math.Float64bits", "math.Float64frombits"], recurses := true, apart := false, narrowed := true }
def FnExactExactSumUptoSaid : Prop := fnExactExactSumUptoRow.holds Try.pinned (OpenSpec.upto fnExactExactSumSpec)

/-- 'laws.FnExactExactProduct', WHERE WHAT IT READS IS OF BULK AT MOST 1048576: true; the input reads as it did. -/
def fnExactExactProductUptoRow : OpenClaim := { program := "ytnecnbonnidijaa", sum := "21844adfde99f23076938bbb92ce1008c764686a945a3f03b07e405eaf926e00", func := "loop.example/g01172/laws.FnExactExactProduct", spec := "fnExactExactProduct", inPlace := ["math.Float32bits"], recurses := true, apart := false, narrowed := true }
def FnExactExactProductUptoSaid : Prop := fnExactExactProductUptoRow.holds Try.pinned (OpenSpec.upto fnExactExactProductSpec)

/-- 'laws.FnExactAddPairs', WHERE WHAT IT READS IS OF BULK AT MOST 1048576: true; the input reads as it did. -/
def fnExactAddPairsUptoRow : OpenClaim := { program := "ytnecnbonnidijaa", sum := "21844adfde99f23076938bbb92ce1008c764686a945a3f03b07e405eaf926e00", func := "loop.example/g01172/laws.FnExactAddPairs", spec := "fnExactAddPairs", inPlace := ["math.Float32bits", "math.Float64bits", "math.Float64frombits"], recurses := true, apart := false, narrowed := true }
def FnExactAddPairsUptoSaid : Prop := fnExactAddPairsUptoRow.holds Try.pinned (OpenSpec.upto fnExactAddPairsSpec)

/-- 'laws.FnExactMultiplyPairs', WHERE WHAT IT READS IS OF BULK AT MOST 1048576: true; the input reads as it did. -/
def fnExactMultiplyPairsUptoRow : OpenClaim := { program := "ytnecnbonnidijaa", sum := "21844adfde99f23076938bbb92ce1008c764686a945a3f03b07e405eaf926e00", func := "loop.example/g01172/laws.FnExactMultiplyPairs", spec := "fnExactMultiplyPairs", inPlace := ["math.Float32bits"], recurses := true, apart := false, narrowed := true }
def FnExactMultiplyPairsUptoSaid : Prop := fnExactMultiplyPairsUptoRow.holds Try.pinned (OpenSpec.upto fnExactMultiplyPairsSpec)

/-- 'laws.FnExactDividePairs', WHERE WHAT IT READS IS OF BULK AT MOST 1048576: true; the input reads as it did. -/
def fnExactDividePairsUptoRow : OpenClaim := { program := "ytnecnbonnidijaa", sum := "21844adfde99f23076938bbb92ce1008c764686a945a3f03b07e405eaf926e00", func := "loop.example/g01172/laws.FnExactDividePairs", spec := "fnExactDividePairs", inPlace := ["math.Float32bits", "math.Float64bits", "math.Float64frombits"], recurses := true, apart := false, narrowed := true }
def FnExactDividePairsUptoSaid : Prop := fnExactDividePairsUptoRow.holds Try.pinned (OpenSpec.upto fnExactDividePairsSpec)

/-- 'laws.FnExactGrowExpansion', WHERE WHAT IT READS IS OF BULK AT MOST 1048576: true; the input reads as it did. -/
def fnExactGrowExpansionUptoRow : OpenClaim := { program := "ytnecnbonnidijaa", sum := "21844adfde99f23076938bbb92ce1008c764686a945a3f03b07e405eaf926e00", func := "loop.example/g01172/laws.FnExactGrowExpansion", spec := "fnExactGrowExpansion", inPlace := ["math.Float32bits", "math.Float64bits", "math.Float64frombits"], recurses := true, apart := false, narrowed := true }
def FnExactGrowExpansionUptoSaid : Prop := fnExactGrowExpansionUptoRow.holds Try.pinned (OpenSpec.upto fnExactGrowExpansionSpec)

end Rows
end Go.Proofs.Ytnecnbonnidijaa
