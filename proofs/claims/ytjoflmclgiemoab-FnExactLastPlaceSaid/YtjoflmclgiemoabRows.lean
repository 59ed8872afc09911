/-
  No cell of these rows narrows 'for every input' (looked for: loops, veiled, ifaces, maps, wideKeys, modest, calm, conditions, laid).
  DERIVED. THE GIVEN ROWS OF THIS SEAT. 6 by the template 'for every input the law returns true; each argument reads behind the call as it read before'; 0 by the template 'total and deterministic' (their statements: YtjoflmclgiemoabTotals.lean).
  GIVEN WITH THE SEED: the statements are not yours to turn. If you find one false, say at which input.
  Laid BY PROGRAM, IN A SANDBOX (cutbox-rows.mjs): the forced cells as the released guide's own fill.sh prints them over the translation 8b4f466adebc4742… (all of the seat's roots in one cut). By AI agents, Wed Nov 11 2026. No macro, syntax, notation, axiom, sorry.
-/
import Derived.Test.YtjoflmclgiemoabChecked
import GoSem.Claim
import GoSem.ClaimJoined
import GoSem.ClaimMapViews
import Derived.JoinedTies
import Derived.KernelRfl
namespace Go.Proofs.Ytjoflmclgiemoab
/- THE CELL 'sum', in the pinned program and in every row, IS THE sha256 OF THE DUMP (.gsa) THAT YtjoflmclgiemoabProg.lean LOADS. Nothing in Lean hashes anything: it is a label: what it is worth is what the hold of that sum in a sandbox is worth. -/
noncomputable def Try.pinned : Pinned := { name := "ytjoflmclgiemoab", sum := "8b4f466adebc4742099036474ff65ab9cd17751e21388fc2b2ad4312c55ff57a", checked := Try.checked }
namespace Rows
def none {H : Type} : Left H := { results := [], args := [] }

/-- 'laws.FnExactFloatAtPlace': WHATEVER THE INPUT: true; the input reads as it did. -/
def fnExactFloatAtPlaceSpec : ChangeSpec := { name := "fnExactFloatAtPlace", fn := fun _ => fun
  | [d] => { results := [.lit (.bool true)], args := [d] }
  | _ => none }
def fnExactFloatAtPlaceRow : OpenClaim := { program := "ytjoflmclgiemoab", sum := "8b4f466adebc4742099036474ff65ab9cd17751e21388fc2b2ad4312c55ff57a", func := "loop.example/g01172/laws.FnExactFloatAtPlace", spec := "fnExactFloatAtPlace", inPlace := ["math.Float32frombits"], recurses := true, apart := false }
def FnExactFloatAtPlaceSaid : Prop := fnExactFloatAtPlaceRow.holds Try.pinned (OpenSpec.ofChange fnExactFloatAtPlaceSpec)

/-- ITS FALSE NEIGHBOUR: 'it returns false'. Refute it at one input. -/
def fnExactFloatAtPlaceWrong : ChangeSpec := { name := "fnExactFloatAtPlace", fn := fun _ => fun
  | [d] => { results := [.lit (.bool false)], args := [d] }
  | _ => none }
def FnExactFloatAtPlaceWrongFalsely : Prop := fnExactFloatAtPlaceRow.holds Try.pinned (OpenSpec.ofChange fnExactFloatAtPlaceWrong)

/-- 'laws.FnExactNextUp': WHATEVER THE INPUT: true; the input reads as it did. -/
def fnExactNextUpSpec : ChangeSpec := { name := "fnExactNextUp", fn := fun _ => fun
  | [d] => { results := [.lit (.bool true)], args := [d] }
  | _ => none }
def fnExactNextUpRow : OpenClaim := { program := "ytjoflmclgiemoab", sum := "8b4f466adebc4742099036474ff65ab9cd17751e21388fc2b2ad4312c55ff57a", func := "loop.example/g01172/laws.FnExactNextUp", spec := "fnExactNextUp", inPlace := ["math.Float32bits", "math.Float32frombits"], recurses := true, apart := false }
def FnExactNextUpSaid : Prop := fnExactNextUpRow.holds Try.pinned (OpenSpec.ofChange fnExactNextUpSpec)

/-- ITS FALSE NEIGHBOUR: 'it returns false'. Refute it at one input. -/
def fnExactNextUpWrong : ChangeSpec := { name := "fnExactNextUp", fn := fun _ => fun
  | [d] => { results := [.lit (.bool false)], args := [d] }
  | _ => none }
def FnExactNextUpWrongFalsely : Prop := fnExactNextUpRow.holds Try.pinned (OpenSpec.ofChange fnExactNextUpWrong)

/-- 'laws.FnExactNextDown': WHATEVER THE INPUT: true; the input reads as it did. -/
def fnExactNextDownSpec : ChangeSpec := { name := "fnExactNextDown", fn := fun _ => fun
  | [d] => { results := [.lit (.bool true)], args := [d] }
  | _ => none }
def fnExactNextDownRow : OpenClaim := { program := "ytjoflmclgiemoab", sum := "8b4f466adebc4742099036474ff65ab9cd17751e21388fc2b2ad4312c55ff57a", func := "loop.example/g01172/laws.FnExactNextDown", spec := "fnExactNextDown", inPlace := ["math.Float32bits", "math.Float32frombits"], recurses := true, apart := false }
def FnExactNextDownSaid : Prop := fnExactNextDownRow.holds Try.pinned (OpenSpec.ofChange fnExactNextDownSpec)

/-- ITS FALSE NEIGHBOUR: 'it returns false'. Refute it at one input. -/
def fnExactNextDownWrong : ChangeSpec := { name := "fnExactNextDown", fn := fun _ => fun
  | [d] => { results := [.lit (.bool false)], args := [d] }
  | _ => none }
def FnExactNextDownWrongFalsely : Prop := fnExactNextDownRow.holds Try.pinned (OpenSpec.ofChange fnExactNextDownWrong)

/-- 'laws.FnExactPlacesBetween': WHATEVER THE INPUT: true; the input reads as it did. -/
def fnExactPlacesBetweenSpec : ChangeSpec := { name := "fnExactPlacesBetween", fn := fun _ => fun
  | [d1, d2] => { results := [.lit (.bool true)], args := [d1, d2] }
  | _ => none }
def fnExactPlacesBetweenRow : OpenClaim := { program := "ytjoflmclgiemoab", sum := "8b4f466adebc4742099036474ff65ab9cd17751e21388fc2b2ad4312c55ff57a", func := "loop.example/g01172/laws.FnExactPlacesBetween", spec := "fnExactPlacesBetween", inPlace := ["math.Float32bits"], apart := false }
def FnExactPlacesBetweenSaid : Prop := fnExactPlacesBetweenRow.holds Try.pinned (OpenSpec.ofChange fnExactPlacesBetweenSpec)

/-- ITS FALSE NEIGHBOUR: 'it returns false'. Refute it at one input. -/
def fnExactPlacesBetweenWrong : ChangeSpec := { name := "fnExactPlacesBetween", fn := fun _ => fun
  | [d1, d2] => { results := [.lit (.bool false)], args := [d1, d2] }
  | _ => none }
def FnExactPlacesBetweenWrongFalsely : Prop := fnExactPlacesBetweenRow.holds Try.pinned (OpenSpec.ofChange fnExactPlacesBetweenWrong)

/-- 'laws.FnExactLastPlace': WHATEVER THE INPUT: true; the input reads as it did. -/
def fnExactLastPlaceSpec : ChangeSpec := { name := "fnExactLastPlace", fn := fun _ => fun
  | [d] => { results := [.lit (.bool true)], args := [d] }
  | _ => none }
def fnExactLastPlaceRow : OpenClaim := { program := "ytjoflmclgiemoab", sum := "8b4f466adebc4742099036474ff65ab9cd17751e21388fc2b2ad4312c55ff57a", func := "loop.example/g01172/laws.FnExactLastPlace", spec := "fnExactLastPlace", inPlace := ["math.Float32bits", "math.Float64bits", "math.Float64frombits"], apart := false }
def FnExactLastPlaceSaid : Prop := fnExactLastPlaceRow.holds Try.pinned (OpenSpec.ofChange fnExactLastPlaceSpec)

/-- ITS FALSE NEIGHBOUR: 'it returns false'. Refute it at one input. -/
def fnExactLastPlaceWrong : ChangeSpec := { name := "fnExactLastPlace", fn := fun _ => fun
  | [d] => { results := [.lit (.bool false)], args := [d] }
  | _ => none }
def FnExactLastPlaceWrongFalsely : Prop := fnExactLastPlaceRow.holds Try.pinned (OpenSpec.ofChange fnExactLastPlaceWrong)

/-- 'laws.FnExactCompareFloats': WHATEVER THE INPUT: true; the input reads as it did. -/
def fnExactCompareFloatsSpec : ChangeSpec := { name := "fnExactCompareFloats", fn := fun _ => fun
  | [d1, d2] => { results := [.lit (.bool true)], args := [d1, d2] }
  | _ => none }
def fnExactCompareFloatsRow : OpenClaim := { program := "ytjoflmclgiemoab", sum := "8b4f466adebc4742099036474ff65ab9cd17751e21388fc2b2ad4312c55ff57a", func := "loop.example/g01172/laws.FnExactCompareFloats", spec := "fnExactCompareFloats", apart := false }
def FnExactCompareFloatsSaid : Prop := fnExactCompareFloatsRow.holds Try.pinned (OpenSpec.ofChange fnExactCompareFloatsSpec)

/-- ITS FALSE NEIGHBOUR: 'it returns false'. Refute it at one input. -/
def fnExactCompareFloatsWrong : ChangeSpec := { name := "fnExactCompareFloats", fn := fun _ => fun
  | [d1, d2] => { results := [.lit (.bool false)], args := [d1, d2] }
  | _ => none }
def FnExactCompareFloatsWrongFalsely : Prop := fnExactCompareFloatsRow.holds Try.pinned (OpenSpec.ofChange fnExactCompareFloatsWrong)

/- THE SECOND FORM. 'bulk': how many values and letters a reading holds, each counted each time it is reached (what is shared counts as often as it is met; a slice's spare places count too). A statement '..UptoSaid' is the law's where the arguments, and the package variables that the reading takes, are together of bulk at most 1048576: NARROWER than '..Said'. Prove '..Said' where nothing that the law and all that it calls make is longer than what came in: it says more and counts as full. Else prove '..UptoSaid'. A law counts once. -/
mutual
def uptoBulk {H : Type} : DataW H → Nat
  | .lit (.string bytes) => bytes.length + 1
  | .lit _ => 1
  | .nil => 1
  | .ptr d => uptoBulk d + 1
  | .slice elems spare => uptoBulkAll elems + uptoBulkAll spare + 1
  | .agg parts => uptoBulkAll parts + 1
  | .iface _ d => uptoBulk d + 1
  | .map entries => uptoBulkEntries entries + 1
  | .held _ => 1
def uptoBulkAll {H : Type} : List (DataW H) → Nat
  | [] => 0
  | d :: r => uptoBulk d + uptoBulkAll r
def uptoBulkEntries {H : Type} : List (Lit × DataW H) → Nat
  | [] => 0
  | x :: r => uptoBulkEntry x + uptoBulkEntries r
def uptoBulkEntry {H : Type} : Lit × DataW H → Nat
  | (.string bytes, d) => bytes.length + uptoBulk d + 1
  | (_, d) => uptoBulk d + 1
 end
def uptoSmall : (H : Type) → List (DataW H) → Bool := fun _ ds => decide (uptoBulkAll ds ≤ 1048576)
def OpenSpec.upto (s : _root_.Go.ChangeSpec) : _root_.Go.OpenSpec := { _root_.Go.OpenSpec.ofChange s with cond := some uptoSmall }

/-- 'laws.FnExactFloatAtPlace', WHERE WHAT IT READS IS OF BULK AT MOST 1048576: true; the input reads as it did. -/
def fnExactFloatAtPlaceUptoRow : OpenClaim := { program := "ytjoflmclgiemoab", sum := "8b4f466adebc4742099036474ff65ab9cd17751e21388fc2b2ad4312c55ff57a", func := "loop.example/g01172/laws.FnExactFloatAtPlace", spec := "fnExactFloatAtPlace", inPlace := ["math.Float32frombits"], recurses := true, apart := false, narrowed := true }
def FnExactFloatAtPlaceUptoSaid : Prop := fnExactFloatAtPlaceUptoRow.holds Try.pinned (OpenSpec.upto fnExactFloatAtPlaceSpec)

/-- 'laws.FnExactNextUp', WHERE WHAT IT READS IS OF BULK AT MOST 1048576: true; the input reads as it did. -/
def fnExactNextUpUptoRow : OpenClaim := { program := "ytjoflmclgiemoab", sum := "8b4f466adebc4742099036474ff65ab9cd17751e21388fc2b2ad4312c55ff57a", func := "loop.example/g01172/laws.FnExactNextUp", spec := "fnExactNextUp", inPlace := ["math.Float32bits", "math.Float32frombits"], recurses := true, apart := false, narrowed := true }
def FnExactNextUpUptoSaid : Prop := fnExactNextUpUptoRow.holds Try.pinned (OpenSpec.upto fnExactNextUpSpec)

/-- 'laws.FnExactNextDown', WHERE WHAT IT READS IS OF BULK AT MOST 1048576: true; the input reads as it did. -/
def fnExactNextDownUptoRow : OpenClaim := { program := "ytjoflmclgiemoab", sum := "8b4f466adebc4742099036474ff65ab9cd17751e21388fc2b2ad4312c55ff57a", func := "loop.example/g01172/laws.FnExactNextDown", spec := "fnExactNextDown", inPlace := ["math.Float32bits", "math.Float32frombits"], recurses := true, apart := false, narrowed := true }
def FnExactNextDownUptoSaid : Prop := fnExactNextDownUptoRow.holds Try.pinned (OpenSpec.upto fnExactNextDownSpec)

/-- 'laws.FnExactPlacesBetween', WHERE WHAT IT READS IS OF BULK AT MOST 1048576: true; the input reads as it did. -/
def fnExactPlacesBetweenUptoRow : OpenClaim := { program := "ytjoflmclgiemoab", sum := "8b4f466adebc4742099036474ff65ab9cd17751e21388fc2b2ad4312c55ff57a", func := "loop.example/g01172/laws.FnExactPlacesBetween", spec := "fnExactPlacesBetween", inPlace := ["math.Float32bits"], apart := false, narrowed := true }
def FnExactPlacesBetweenUptoSaid : Prop := fnExactPlacesBetweenUptoRow.holds Try.pinned (OpenSpec.upto fnExactPlacesBetweenSpec)

/-- 'laws.FnExactLastPlace', WHERE WHAT IT READS IS OF BULK AT MOST 1048576: true; the input reads as it did. -/
def fnExactLastPlaceUptoRow : OpenClaim := { program := "ytjoflmclgiemoab", sum := "8b4f466adebc4742099036474ff65ab9cd17751e21388fc2b2ad4312c55ff57a", func := "loop.example/g01172/laws.FnExactLastPlace", spec := "fnExactLastPlace", inPlace := ["math.Float32bits", "math.Float64bits", "math.Float64frombits"], apart := false, narrowed := true }
def FnExactLastPlaceUptoSaid : Prop := fnExactLastPlaceUptoRow.holds Try.pinned (OpenSpec.upto fnExactLastPlaceSpec)

/-- 'laws.FnExactCompareFloats', WHERE WHAT IT READS IS OF BULK AT MOST 1048576: true; the input reads as it did. -/
def fnExactCompareFloatsUptoRow : OpenClaim := { program := "ytjoflmclgiemoab", sum := "8b4f466adebc4742099036474ff65ab9cd17751e21388fc2b2ad4312c55ff57a", func := "loop.example/g01172/laws.FnExactCompareFloats", spec := "fnExactCompareFloats", apart := false, narrowed := true }
def FnExactCompareFloatsUptoSaid : Prop := fnExactCompareFloatsUptoRow.holds Try.pinned (OpenSpec.upto fnExactCompareFloatsSpec)

end Rows
end Go.Proofs.Ytjoflmclgiemoab
