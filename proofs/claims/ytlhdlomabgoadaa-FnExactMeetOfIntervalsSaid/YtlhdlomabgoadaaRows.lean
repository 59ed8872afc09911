/-
  No cell of these rows narrows 'for every input' (looked for: loops, veiled, ifaces, maps, wideKeys, modest, calm, conditions, laid).
  DERIVED. THE GIVEN ROWS OF THIS SEAT. 10 by the template 'for every input the law returns true; each argument reads behind the call as it read before'; 0 by the template 'total and deterministic' (their statements: YtlhdlomabgoadaaTotals.lean).
  GIVEN WITH THE SEED: the statements are not yours to turn. If you find one false, say at which input.
  Laid BY PROGRAM, IN A SANDBOX (cutbox-rows.mjs): the forced cells as the released guide's own fill.sh prints them over the translation 310c0b0cfd74752b… (all of the seat's roots in one cut). By AI agents, Wed Nov 11 2026. No macro, syntax, notation, axiom, sorry.
-/
import Derived.Test.YtlhdlomabgoadaaChecked
import GoSem.Claim
import GoSem.ClaimJoined
import GoSem.ClaimMapViews
import Derived.JoinedTies
import Derived.KernelRfl
namespace Go.Proofs.Ytlhdlomabgoadaa
/- THE CELL 'sum', in the pinned program and in every row, IS THE sha256 OF THE DUMP (.gsa) THAT YtlhdlomabgoadaaProg.lean LOADS. Nothing in Lean hashes anything: it is a label: what it is worth is what the hold of that sum in a sandbox is worth. -/
noncomputable def Try.pinned : Pinned := { name := "ytlhdlomabgoadaa", sum := "310c0b0cfd74752bf6bed8c3f246cccac802442353057fa521613d303a4357a0", checked := Try.checked }
namespace Rows
def none {H : Type} : Left H := { results := [], args := [] }

/-- 'laws.FnExactIsInterval': WHATEVER THE INPUT: true; the input reads as it did. -/
def fnExactIsIntervalSpec : ChangeSpec := { name := "fnExactIsInterval", fn := fun _ => fun
  | [d] => { results := [.lit (.bool true)], args := [d] }
  | _ => none }
def fnExactIsIntervalRow : OpenClaim := { program := "ytlhdlomabgoadaa", sum := "310c0b0cfd74752bf6bed8c3f246cccac802442353057fa521613d303a4357a0", func := "loop.example/g01172/laws.FnExactIsInterval", spec := "fnExactIsInterval", inPlace := ["math.Float32bits", "math.Float64frombits"], apart := false }
def FnExactIsIntervalSaid : Prop := fnExactIsIntervalRow.holds Try.pinned (OpenSpec.ofChange fnExactIsIntervalSpec)

/-- ITS FALSE NEIGHBOUR: 'it returns false'. Refute it at one input. -/
def fnExactIsIntervalWrong : ChangeSpec := { name := "fnExactIsInterval", fn := fun _ => fun
  | [d] => { results := [.lit (.bool false)], args := [d] }
  | _ => none }
def FnExactIsIntervalWrongFalsely : Prop := fnExactIsIntervalRow.holds Try.pinned (OpenSpec.ofChange fnExactIsIntervalWrong)

/-- 'laws.FnExactIntervalOf': WHATEVER THE INPUT: true; the input reads as it did. -/
def fnExactIntervalOfSpec : ChangeSpec := { name := "fnExactIntervalOf", fn := fun _ => fun
  | [d1, d2] => { results := [.lit (.bool true)], args := [d1, d2] }
  | _ => none }
def fnExactIntervalOfRow : OpenClaim := { program := "ytlhdlomabgoadaa", sum := "310c0b0cfd74752bf6bed8c3f246cccac802442353057fa521613d303a4357a0", func := "loop.example/g01172/laws.FnExactIntervalOf", spec := "fnExactIntervalOf", inPlace := ["math.Float32bits", "math.Float64frombits"], apart := false }
def FnExactIntervalOfSaid : Prop := fnExactIntervalOfRow.holds Try.pinned (OpenSpec.ofChange fnExactIntervalOfSpec)

/-- ITS FALSE NEIGHBOUR: 'it returns false'. Refute it at one input. -/
def fnExactIntervalOfWrong : ChangeSpec := { name := "fnExactIntervalOf", fn := fun _ => fun
  | [d1, d2] => { results := [.lit (.bool false)], args := [d1, d2] }
  | _ => none }
def FnExactIntervalOfWrongFalsely : Prop := fnExactIntervalOfRow.holds Try.pinned (OpenSpec.ofChange fnExactIntervalOfWrong)

/-- 'laws.FnExactAbsoluteInterval': WHATEVER THE INPUT: true; the input reads as it did. -/
def fnExactAbsoluteIntervalSpec : ChangeSpec := { name := "fnExactAbsoluteInterval", fn := fun _ => fun
  | [d] => { results := [.lit (.bool true)], args := [d] }
  | _ => none }
def fnExactAbsoluteIntervalRow : OpenClaim := { program := "ytlhdlomabgoadaa", sum := "310c0b0cfd74752bf6bed8c3f246cccac802442353057fa521613d303a4357a0", func := "loop.example/g01172/laws.FnExactAbsoluteInterval", spec := "fnExactAbsoluteInterval", inPlace := ["math.Float32bits", "math.Float64frombits"], unfollowed := true, recurses := true, apart := false }
def FnExactAbsoluteIntervalSaid : Prop := fnExactAbsoluteIntervalRow.holds Try.pinned (OpenSpec.ofChange fnExactAbsoluteIntervalSpec)

/-- ITS FALSE NEIGHBOUR: 'it returns false'. Refute it at one input. -/
def fnExactAbsoluteIntervalWrong : ChangeSpec := { name := "fnExactAbsoluteInterval", fn := fun _ => fun
  | [d] => { results := [.lit (.bool false)], args := [d] }
  | _ => none }
def FnExactAbsoluteIntervalWrongFalsely : Prop := fnExactAbsoluteIntervalRow.holds Try.pinned (OpenSpec.ofChange fnExactAbsoluteIntervalWrong)

/-- 'laws.FnExactNegateInterval': WHATEVER THE INPUT: true; the input reads as it did. -/
def fnExactNegateIntervalSpec : ChangeSpec := { name := "fnExactNegateInterval", fn := fun _ => fun
  | [d] => { results := [.lit (.bool true)], args := [d] }
  | _ => none }
def fnExactNegateIntervalRow : OpenClaim := { program := "ytlhdlomabgoadaa", sum := "310c0b0cfd74752bf6bed8c3f246cccac802442353057fa521613d303a4357a0", func := "loop.example/g01172/laws.FnExactNegateInterval", spec := "fnExactNegateInterval", inPlace := ["math.Float32bits", "math.Float64frombits"], unfollowed := true, recurses := true, apart := false }
def FnExactNegateIntervalSaid : Prop := fnExactNegateIntervalRow.holds Try.pinned (OpenSpec.ofChange fnExactNegateIntervalSpec)

/-- ITS FALSE NEIGHBOUR: 'it returns false'. Refute it at one input. -/
def fnExactNegateIntervalWrong : ChangeSpec := { name := "fnExactNegateInterval", fn := fun _ => fun
  | [d] => { results := [.lit (.bool false)], args := [d] }
  | _ => none }
def FnExactNegateIntervalWrongFalsely : Prop := fnExactNegateIntervalRow.holds Try.pinned (OpenSpec.ofChange fnExactNegateIntervalWrong)

/-- 'laws.FnExactHullOfIntervals': WHATEVER THE INPUT: true; the input reads as it did. -/
def fnExactHullOfIntervalsSpec : ChangeSpec := { name := "fnExactHullOfIntervals", fn := fun _ => fun
  | [d1, d2] => { results := [.lit (.bool true)], args := [d1, d2] }
  | _ => none }
def fnExactHullOfIntervalsRow : OpenClaim := { program := "ytlhdlomabgoadaa", sum := "310c0b0cfd74752bf6bed8c3f246cccac802442353057fa521613d303a4357a0", func := "loop.example/g01172/laws.FnExactHullOfIntervals", spec := "fnExactHullOfIntervals", inPlace := ["math.Float32bits", "math.Float64frombits"], unfollowed := true, recurses := true, apart := false }
def FnExactHullOfIntervalsSaid : Prop := fnExactHullOfIntervalsRow.holds Try.pinned (OpenSpec.ofChange fnExactHullOfIntervalsSpec)

/-- ITS FALSE NEIGHBOUR: 'it returns false'. Refute it at one input. -/
def fnExactHullOfIntervalsWrong : ChangeSpec := { name := "fnExactHullOfIntervals", fn := fun _ => fun
  | [d1, d2] => { results := [.lit (.bool false)], args := [d1, d2] }
  | _ => none }
def FnExactHullOfIntervalsWrongFalsely : Prop := fnExactHullOfIntervalsRow.holds Try.pinned (OpenSpec.ofChange fnExactHullOfIntervalsWrong)

/-- 'laws.FnExactMeetOfIntervals': WHATEVER THE INPUT: true; the input reads as it did. -/
def fnExactMeetOfIntervalsSpec : ChangeSpec := { name := "fnExactMeetOfIntervals", fn := fun _ => fun
  | [d1, d2] => { results := [.lit (.bool true)], args := [d1, d2] }
  | _ => none }
def fnExactMeetOfIntervalsRow : OpenClaim := { program := "ytlhdlomabgoadaa", sum := "310c0b0cfd74752bf6bed8c3f246cccac802442353057fa521613d303a4357a0", func := "loop.example/g01172/laws.FnExactMeetOfIntervals", spec := "fnExactMeetOfIntervals", inPlace := ["math.Float32bits", "math.Float64frombits"], apart := false }
def FnExactMeetOfIntervalsSaid : Prop := fnExactMeetOfIntervalsRow.holds Try.pinned (OpenSpec.ofChange fnExactMeetOfIntervalsSpec)

/-- ITS FALSE NEIGHBOUR: 'it returns false'. Refute it at one input. -/
def fnExactMeetOfIntervalsWrong : ChangeSpec := { name := "fnExactMeetOfIntervals", fn := fun _ => fun
  | [d1, d2] => { results := [.lit (.bool false)], args := [d1, d2] }
  | _ => none }
def FnExactMeetOfIntervalsWrongFalsely : Prop := fnExactMeetOfIntervalsRow.holds Try.pinned (OpenSpec.ofChange fnExactMeetOfIntervalsWrong)

/-- 'laws.FnExactIsPartOf': WHATEVER THE INPUT: true; the input reads as it did. -/
def fnExactIsPartOfSpec : ChangeSpec := { name := "fnExactIsPartOf", fn := fun _ => fun
  | [d1, d2] => { results := [.lit (.bool true)], args := [d1, d2] }
  | _ => none }
def fnExactIsPartOfRow : OpenClaim := { program := "ytlhdlomabgoadaa", sum := "310c0b0cfd74752bf6bed8c3f246cccac802442353057fa521613d303a4357a0", func := "loop.example/g01172/laws.FnExactIsPartOf", spec := "fnExactIsPartOf", inPlace := ["math.Float32bits", "math.Float64frombits"], unfollowed := true, recurses := true, apart := false }
def FnExactIsPartOfSaid : Prop := fnExactIsPartOfRow.holds Try.pinned (OpenSpec.ofChange fnExactIsPartOfSpec)

/-- ITS FALSE NEIGHBOUR: 'it returns false'. Refute it at one input. -/
def fnExactIsPartOfWrong : ChangeSpec := { name := "fnExactIsPartOf", fn := fun _ => fun
  | [d1, d2] => { results := [.lit (.bool false)], args := [d1, d2] }
  | _ => none }
def FnExactIsPartOfWrongFalsely : Prop := fnExactIsPartOfRow.holds Try.pinned (OpenSpec.ofChange fnExactIsPartOfWrong)

/-- 'laws.FnExactHasFloat': WHATEVER THE INPUT: true; the input reads as it did. -/
def fnExactHasFloatSpec : ChangeSpec := { name := "fnExactHasFloat", fn := fun _ => fun
  | [d1, d2] => { results := [.lit (.bool true)], args := [d1, d2] }
  | _ => none }
def fnExactHasFloatRow : OpenClaim := { program := "ytlhdlomabgoadaa", sum := "310c0b0cfd74752bf6bed8c3f246cccac802442353057fa521613d303a4357a0", func := "loop.example/g01172/laws.FnExactHasFloat", spec := "fnExactHasFloat", inPlace := ["math.Float32bits", "math.Float64frombits"], apart := false }
def FnExactHasFloatSaid : Prop := fnExactHasFloatRow.holds Try.pinned (OpenSpec.ofChange fnExactHasFloatSpec)

/-- ITS FALSE NEIGHBOUR: 'it returns false'. Refute it at one input. -/
def fnExactHasFloatWrong : ChangeSpec := { name := "fnExactHasFloat", fn := fun _ => fun
  | [d1, d2] => { results := [.lit (.bool false)], args := [d1, d2] }
  | _ => none }
def FnExactHasFloatWrongFalsely : Prop := fnExactHasFloatRow.holds Try.pinned (OpenSpec.ofChange fnExactHasFloatWrong)

/-- 'laws.FnExactOrderOfIntervals': WHATEVER THE INPUT: true; the input reads as it did. -/
def fnExactOrderOfIntervalsSpec : ChangeSpec := { name := "fnExactOrderOfIntervals", fn := fun _ => fun
  | [d1, d2] => { results := [.lit (.bool true)], args := [d1, d2] }
  | _ => none }
def fnExactOrderOfIntervalsRow : OpenClaim := { program := "ytlhdlomabgoadaa", sum := "310c0b0cfd74752bf6bed8c3f246cccac802442353057fa521613d303a4357a0", func := "loop.example/g01172/laws.FnExactOrderOfIntervals", spec := "fnExactOrderOfIntervals", inPlace := ["math.Float32bits", "math.Float64frombits"], apart := false }
def FnExactOrderOfIntervalsSaid : Prop := fnExactOrderOfIntervalsRow.holds Try.pinned (OpenSpec.ofChange fnExactOrderOfIntervalsSpec)

/-- ITS FALSE NEIGHBOUR: 'it returns false'. Refute it at one input. -/
def fnExactOrderOfIntervalsWrong : ChangeSpec := { name := "fnExactOrderOfIntervals", fn := fun _ => fun
  | [d1, d2] => { results := [.lit (.bool false)], args := [d1, d2] }
  | _ => none }
def FnExactOrderOfIntervalsWrongFalsely : Prop := fnExactOrderOfIntervalsRow.holds Try.pinned (OpenSpec.ofChange fnExactOrderOfIntervalsWrong)

/-- 'laws.FnExactWidenInterval': WHATEVER THE INPUT: true; the input reads as it did. -/
def fnExactWidenIntervalSpec : ChangeSpec := { name := "fnExactWidenInterval", fn := fun _ => fun
  | [d] => { results := [.lit (.bool true)], args := [d] }
  | _ => none }
def fnExactWidenIntervalRow : OpenClaim := { program := "ytlhdlomabgoadaa", sum := "310c0b0cfd74752bf6bed8c3f246cccac802442353057fa521613d303a4357a0", func := "loop.example/g01172/laws.FnExactWidenInterval", spec := "fnExactWidenInterval", inPlace := ["math.Float32bits", "math.Float64frombits", "math.Float32frombits"], unfollowed := true, recurses := true, apart := false }
def FnExactWidenIntervalSaid : Prop := fnExactWidenIntervalRow.holds Try.pinned (OpenSpec.ofChange fnExactWidenIntervalSpec)

/-- ITS FALSE NEIGHBOUR: 'it returns false'. Refute it at one input. -/
def fnExactWidenIntervalWrong : ChangeSpec := { name := "fnExactWidenInterval", fn := fun _ => fun
  | [d] => { results := [.lit (.bool false)], args := [d] }
  | _ => none }
def FnExactWidenIntervalWrongFalsely : Prop := fnExactWidenIntervalRow.holds Try.pinned (OpenSpec.ofChange fnExactWidenIntervalWrong)

/- THE SECOND FORM. 'bulk': how many values and letters a reading holds, each counted each time it is reached (what is shared counts as often as it is met; a slice's spare places count too). A statement '..UptoSaid' is the law's where the arguments, and the package variables that the reading takes, are together of bulk at most 1048576: NARROWER than '..Said'. Prove '..Said' where nothing that the law and all that it calls make is longer than what came in: it says more and counts as full. Else prove '..UptoSaid'. A law counts once. -/
mutual
def uptoBulk {H : Type} : DataW H → Nat
  | .lit (.string bytes) => bytes.length + 1
  | .lit _ => 1
  | .nil => 1
  | .ptr d => uptoBulk d + 1
  | .slice elems spare => uptoBulkAll elems + uptoBulkAll spare + 1
  | .agg parts => uptoBulkAll parts + 1
  | .iface _ d => uptoBulk d + 1
  | .map entries => uptoBulkEntries entries + 1
  | .held _ => 1
def uptoBulkAll {H : Type} : List (DataW H) → Nat
  | [] => 0
  | d :: r => uptoBulk d + uptoBulkAll r
def uptoBulkEntries {H : Type} : List (Lit × DataW H) → Nat
  | [] => 0
  | x :: r => uptoBulkEntry x + uptoBulkEntries r
def uptoBulkEntry {H : Type} : Lit × DataW H → Nat
  | (.string bytes, d) => bytes.length + uptoBulk d + 1
  | (_, d) => uptoBulk d + 1
 end
def uptoSmall : (H : Type) → List (DataW H) → Bool := fun _ ds => decide (uptoBulkAll ds ≤ 1048576)
def OpenSpec.upto (s : _root_.Go.ChangeSpec) : _root_.Go.OpenSpec := { _root_.Go.OpenSpec.ofChange s with cond := some uptoSmall }

/-- 'laws.FnExactIsInterval', WHERE WHAT IT READS IS OF BULK AT MOST 1048576: true; the input reads as it did. -/
def fnExactIsIntervalUptoRow : OpenClaim := { program := "ytlhdlomabgoadaa", sum := "310c0b0cfd74752bf6bed8c3f246cccac802442353057fa521613d303a4357a0", func := "loop.example/g01172/laws.FnExactIsInterval", spec := "fnExactIsInterval", inPlace := ["math.Float32bits", "math.Float64frombits"], apart := false, narrowed := true }
def FnExactIsIntervalUptoSaid : Prop := fnExactIsIntervalUptoRow.holds Try.pinned (OpenSpec.upto fnExactIsIntervalSpec)

/-- 'laws.FnExactIntervalOf', WHERE WHAT IT READS IS OF BULK AT MOST 1048576: true; the input reads as it did. -/
def fnExactIntervalOfUptoRow : OpenClaim := { program := "ytlhdlomabgoadaa", sum := "310c0b0cfd74752bf6bed8c3f246cccac802442353057fa521613d303a4357a0", func := "loop.example/g01172/laws.FnExactIntervalOf", spec := "fnExactIntervalOf", inPlace := ["math.Float32bits", "math.Float64frombits"], apart := false, narrowed := true }
def FnExactIntervalOfUptoSaid : Prop := fnExactIntervalOfUptoRow.holds Try.pinned (OpenSpec.upto fnExactIntervalOfSpec)

/-- 'laws.FnExactAbsoluteInterval', WHERE WHAT IT READS IS OF BULK AT MOST 1048576: true; the input reads as it did. -/
def fnExactAbsoluteIntervalUptoRow : OpenClaim := { program := "ytlhdlomabgoadaa", sum := "310c0b0cfd74752bf6bed8c3f246cccac802442353057fa521613d303a4357a0", func := "loop.example/g01172/laws.FnExactAbsoluteInterval", spec := "fnExactAbsoluteInterval", inPlace := ["math.Float32bits", "math.Float64frombits"], unfollowed := true, recurses := true, apart := false, narrowed := true }
def FnExactAbsoluteIntervalUptoSaid : Prop := fnExactAbsoluteIntervalUptoRow.holds Try.pinned (OpenSpec.upto fnExactAbsoluteIntervalSpec)

/-- 'laws.FnExactNegateInterval', WHERE WHAT IT READS IS OF BULK AT MOST 1048576: true; the input reads as it did. -/
def fnExactNegateIntervalUptoRow : OpenClaim := { program := "ytlhdlomabgoadaa", sum := "310c0b0cfd74752bf6bed8c3f246cccac802442353057fa521613d303a4357a0", func := "loop.example/g01172/laws.FnExactNegateInterval", spec := "fnExactNegateInterval", inPlace := ["math.Float32bits", "math.Float64frombits"], unfollowed := true, recurses := true, apart := false, narrowed := true }
def FnExactNegateIntervalUptoSaid : Prop := fnExactNegateIntervalUptoRow.holds Try.pinned (OpenSpec.upto fnExactNegateIntervalSpec)

/-- 'laws.FnExactHullOfIntervals', WHERE WHAT IT READS IS OF BULK AT MOST 1048576: true; the input reads as it did. -/
def fnExactHullOfIntervalsUptoRow : OpenClaim := { program := "ytlhdlomabgoadaa", sum := "310c0b0cfd74752bf6bed8c3f246cccac802442353057fa521613d303a4357a0", func := "loop.example/g01172/laws.FnExactHullOfIntervals", spec := "fnExactHullOfIntervals", inPlace := ["math.Float32bits", "math.Float64frombits"], unfollowed := true, recurses := true, apart := false, narrowed := true }
def FnExactHullOfIntervalsUptoSaid : Prop := fnExactHullOfIntervalsUptoRow.holds Try.pinned (OpenSpec.upto fnExactHullOfIntervalsSpec)

/-- 'laws.FnExactMeetOfIntervals', WHERE WHAT IT READS IS OF BULK AT MOST 1048576: true; the input reads as it did. -/
def fnExactMeetOfIntervalsUptoRow : OpenClaim := { program := "ytlhdlomabgoadaa", sum := "310c0b0cfd74752bf6bed8c3f246cccac802442353057fa521613d303a4357a0", func := "loop.example/g01172/laws.FnExactMeetOfIntervals", spec := "fnExactMeetOfIntervals", inPlace := ["math.Float32bits", "math.Float64frombits"], apart := false, narrowed := true }
def FnExactMeetOfIntervalsUptoSaid : Prop := fnExactMeetOfIntervalsUptoRow.holds Try.pinned (OpenSpec.upto fnExactMeetOfIntervalsSpec)

/-- 'laws.FnExactIsPartOf', WHERE WHAT IT READS IS OF BULK AT MOST 1048576: true; the input reads as it did. -/
def fnExactIsPartOfUptoRow : OpenClaim := { program := "ytlhdlomabgoadaa", sum := "310c0b0cfd74752bf6bed8c3f246cccac802442353057fa521613d303a4357a0", func := "loop.example/g01172/laws.FnExactIsPartOf", spec := "fnExactIsPartOf", inPlace := ["math.Float32bits", "math.Float64frombits"], unfollowed := true, recurses := true, apart := false, narrowed := true }
def FnExactIsPartOfUptoSaid : Prop := fnExactIsPartOfUptoRow.holds Try.pinned (OpenSpec.upto fnExactIsPartOfSpec)

/-- 'laws.FnExactHasFloat', WHERE WHAT IT READS IS OF BULK AT MOST 1048576: true; the input reads as it did. -/
def fnExactHasFloatUptoRow : OpenClaim := { program := "ytlhdlomabgoadaa", sum := "310c0b0cfd74752bf6bed8c3f246cccac802442353057fa521613d303a4357a0", func := "loop.example/g01172/laws.FnExactHasFloat", spec := "fnExactHasFloat", inPlace := ["math.Float32bits", "math.Float64frombits"], apart := false, narrowed := true }
def FnExactHasFloatUptoSaid : Prop := fnExactHasFloatUptoRow.holds Try.pinned (OpenSpec.upto fnExactHasFloatSpec)

/-- 'laws.FnExactOrderOfIntervals', WHERE WHAT IT READS IS OF BULK AT MOST 1048576: true; the input reads as it did. -/
def fnExactOrderOfIntervalsUptoRow : OpenClaim := { program := "ytlhdlomabgoadaa", sum := "310c0b0cfd74752bf6bed8c3f246cccac802442353057fa521613d303a4357a0", func := "loop.example/g01172/laws.FnExactOrderOfIntervals", spec := "fnExactOrderOfIntervals", inPlace := ["math.Float32bits", "math.Float64frombits"], apart := false, narrowed := true }
def FnExactOrderOfIntervalsUptoSaid : Prop := fnExactOrderOfIntervalsUptoRow.holds Try.pinned (OpenSpec.upto fnExactOrderOfIntervalsSpec)

/-- 'laws.FnExactWidenInterval', WHERE WHAT IT READS IS OF BULK AT MOST 1048576: true; the input reads as it did. -/
def fnExactWidenIntervalUptoRow : OpenClaim := { program := "ytlhdlomabgoadaa", sum := "310c0b0cfd74752bf6bed8c3f246cccac802442353057fa521613d303a4357a0", func := "loop.example/g01172/laws.FnExactWidenInterval", spec := "fnExactWidenInterval", inPlace := ["math.Float32bits", "math.Float64frombits", "math.Float32frombits"], unfollowed := true, recurses := true, apart := false, narrowed := true }
def FnExactWidenIntervalUptoSaid : Prop := fnExactWidenIntervalUptoRow.holds Try.pinned (OpenSpec.upto fnExactWidenIntervalSpec)

end Rows
end Go.Proofs.Ytlhdlomabgoadaa
