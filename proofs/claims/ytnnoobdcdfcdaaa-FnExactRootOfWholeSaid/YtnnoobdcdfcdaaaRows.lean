/-
  No cell of these rows narrows 'for every input' (looked for: loops, veiled, ifaces, maps, wideKeys, modest, calm, conditions, laid).
  DERIVED. THE GIVEN ROWS OF THIS SEAT. 4 by the template 'for every input the law returns true; each argument reads behind the call as it read before'; 0 by the template 'total and deterministic' (their statements: YtnnoobdcdfcdaaaTotals.lean).
  GIVEN WITH THE SEED: the statements are not yours to turn. If you find one false, say at which input.
  Laid BY PROGRAM, IN A SANDBOX (cutbox-rows.mjs): the forced cells as the released guide's own fill.sh prints them over the translation 28808197d5866a3b… (all of the seat's roots in one cut). By AI agents, Wed Nov 11 2026. No macro, syntax, notation, axiom, sorry.
-/
import Derived.Test.YtnnoobdcdfcdaaaChecked
import GoSem.Claim
import GoSem.ClaimJoined
import GoSem.ClaimMapViews
import Derived.JoinedTies
import Derived.KernelRfl
namespace Go.Proofs.Ytnnoobdcdfcdaaa
/- THE CELL 'sum', in the pinned program and in every row, IS THE sha256 OF THE DUMP (.gsa) THAT YtnnoobdcdfcdaaaProg.lean LOADS. Nothing in Lean hashes anything: it is a label: what it is worth is what the hold of that sum in a sandbox is worth. -/
noncomputable def Try.pinned : Pinned := { name := "ytnnoobdcdfcdaaa", sum := "28808197d5866a3b5a813b91471aaced0a5d1bf9df61007fae583c280d92a844", checked := Try.checked }
namespace Rows
def none {H : Type} : Left H := { results := [], args := [] }

/-- 'laws.FnExactDivideWholes': WHATEVER THE INPUT: true; the input reads as it did. -/
def fnExactDivideWholesSpec : ChangeSpec := { name := "fnExactDivideWholes", fn := fun _ => fun
  | [d1, d2] => { results := [.lit (.bool true)], args := [d1, d2] }
  | _ => none }
def fnExactDivideWholesRow : OpenClaim := { program := "ytnnoobdcdfcdaaa", sum := "28808197d5866a3b5a813b91471aaced0a5d1bf9df61007fae583c280d92a844", func := "loop.example/g01172/laws.FnExactDivideWholes", spec := "fnExactDivideWholes", apart := false }
def FnExactDivideWholesSaid : Prop := fnExactDivideWholesRow.holds Try.pinned (OpenSpec.ofChange fnExactDivideWholesSpec)

/-- ITS FALSE NEIGHBOUR: 'it returns false'. Refute it at one input. -/
def fnExactDivideWholesWrong : ChangeSpec := { name := "fnExactDivideWholes", fn := fun _ => fun
  | [d1, d2] => { results := [.lit (.bool false)], args := [d1, d2] }
  | _ => none }
def FnExactDivideWholesWrongFalsely : Prop := fnExactDivideWholesRow.holds Try.pinned (OpenSpec.ofChange fnExactDivideWholesWrong)

/-- 'laws.FnExactRootOfWhole': WHATEVER THE INPUT: true; the input reads as it did. -/
def fnExactRootOfWholeSpec : ChangeSpec := { name := "fnExactRootOfWhole", fn := fun _ => fun
  | [d] => { results := [.lit (.bool true)], args := [d] }
  | _ => none }
def fnExactRootOfWholeRow : OpenClaim := { program := "ytnnoobdcdfcdaaa", sum := "28808197d5866a3b5a813b91471aaced0a5d1bf9df61007fae583c280d92a844", func := "loop.example/g01172/laws.FnExactRootOfWhole", spec := "fnExactRootOfWhole", apart := false }
def FnExactRootOfWholeSaid : Prop := fnExactRootOfWholeRow.holds Try.pinned (OpenSpec.ofChange fnExactRootOfWholeSpec)

/-- ITS FALSE NEIGHBOUR: 'it returns false'. Refute it at one input. -/
def fnExactRootOfWholeWrong : ChangeSpec := { name := "fnExactRootOfWhole", fn := fun _ => fun
  | [d] => { results := [.lit (.bool false)], args := [d] }
  | _ => none }
def FnExactRootOfWholeWrongFalsely : Prop := fnExactRootOfWholeRow.holds Try.pinned (OpenSpec.ofChange fnExactRootOfWholeWrong)

/-- 'laws.FnWholes': WHATEVER THE INPUT: true; the input reads as it did. -/
def fnWholesSpec : ChangeSpec := { name := "fnWholes", fn := fun _ => fun
  | [d] => { results := [.lit (.bool true)], args := [d] }
  | _ => none }
def fnWholesRow : OpenClaim := { program := "ytnnoobdcdfcdaaa", sum := "28808197d5866a3b5a813b91471aaced0a5d1bf9df61007fae583c280d92a844", func := "loop.example/g01172/laws.FnWholes", spec := "fnWholes", apart := false }
def FnWholesSaid : Prop := fnWholesRow.holds Try.pinned (OpenSpec.ofChange fnWholesSpec)

/-- ITS FALSE NEIGHBOUR: 'it returns false'. Refute it at one input. -/
def fnWholesWrong : ChangeSpec := { name := "fnWholes", fn := fun _ => fun
  | [d] => { results := [.lit (.bool false)], args := [d] }
  | _ => none }
def FnWholesWrongFalsely : Prop := fnWholesRow.holds Try.pinned (OpenSpec.ofChange fnWholesWrong)

/-- 'laws.FnExactIsDyadic': WHATEVER THE INPUT: true; the input reads as it did. -/
def fnExactIsDyadicSpec : ChangeSpec := { name := "fnExactIsDyadic", fn := fun _ => fun
  | [d] => { results := [.lit (.bool true)], args := [d] }
  | _ => none }
def fnExactIsDyadicRow : OpenClaim := { program := "ytnnoobdcdfcdaaa", sum := "28808197d5866a3b5a813b91471aaced0a5d1bf9df61007fae583c280d92a844", func := "loop.example/g01172/laws.FnExactIsDyadic", spec := "fnExactIsDyadic", apart := false }
def FnExactIsDyadicSaid : Prop := fnExactIsDyadicRow.holds Try.pinned (OpenSpec.ofChange fnExactIsDyadicSpec)

/-- ITS FALSE NEIGHBOUR: 'it returns false'. Refute it at one input. -/
def fnExactIsDyadicWrong : ChangeSpec := { name := "fnExactIsDyadic", fn := fun _ => fun
  | [d] => { results := [.lit (.bool false)], args := [d] }
  | _ => none }
def FnExactIsDyadicWrongFalsely : Prop := fnExactIsDyadicRow.holds Try.pinned (OpenSpec.ofChange fnExactIsDyadicWrong)

/- THE SECOND FORM. 'bulk': how many values and letters a reading holds, each counted each time it is reached (what is shared counts as often as it is met; a slice's spare places count too). A statement '..UptoSaid' is the law's where the arguments, and the package variables that the reading takes, are together of bulk at most 1048576: NARROWER than '..Said'. Prove '..Said' where nothing that the law and all that it calls make is longer than what came in: it says more and counts as full. Else prove '..UptoSaid'. A law counts once. -/
mutual
def uptoBulk {H : Type} : DataW H → Nat
  | .lit (.string bytes) => bytes.length + 1
  | .lit _ => 1
  | .nil => 1
  | .ptr d => uptoBulk d + 1
  | .slice elems spare => uptoBulkAll elems + uptoBulkAll spare + 1
  | .agg parts => uptoBulkAll parts + 1
  | .iface _ d => uptoBulk d + 1
  | .map entries => uptoBulkEntries entries + 1
  | .held _ => 1
def uptoBulkAll {H : Type} : List (DataW H) → Nat
  | [] => 0
  | d :: r => uptoBulk d + uptoBulkAll r
def uptoBulkEntries {H : Type} : List (Lit × DataW H) → Nat
  | [] => 0
  | x :: r => uptoBulkEntry x + uptoBulkEntries r
def uptoBulkEntry {H : Type} : Lit × DataW H → Nat
  | (.string bytes, d) => bytes.length + uptoBulk d + 1
  | (_, d) => uptoBulk d + 1
 end
def uptoSmall : (H : Type) → List (DataW H) → Bool := fun _ ds => decide (uptoBulkAll ds ≤ 1048576)
def OpenSpec.upto (s : _root_.Go.ChangeSpec) : _root_.Go.OpenSpec := { _root_.Go.OpenSpec.ofChange s with cond := some uptoSmall }

/-- 'laws.FnExactDivideWholes', WHERE WHAT IT READS IS OF BULK AT MOST 1048576: true; the input reads as it did. -/
def fnExactDivideWholesUptoRow : OpenClaim := { program := "ytnnoobdcdfcdaaa", sum := "28808197d5866a3b5a813b91471aaced0a5d1bf9df61007fae583c280d92a844", func := "loop.example/g01172/laws.FnExactDivideWholes", spec := "fnExactDivideWholes", apart := false, narrowed := true }
def FnExactDivideWholesUptoSaid : Prop := fnExactDivideWholesUptoRow.holds Try.pinned (OpenSpec.upto fnExactDivideWholesSpec)

/-- 'laws.FnExactRootOfWhole', WHERE WHAT IT READS IS OF BULK AT MOST 1048576: true; the input reads as it did. -/
def fnExactRootOfWholeUptoRow : OpenClaim := { program := "ytnnoobdcdfcdaaa", sum := "28808197d5866a3b5a813b91471aaced0a5d1bf9df61007fae583c280d92a844", func := "loop.example/g01172/laws.FnExactRootOfWhole", spec := "fnExactRootOfWhole", apart := false, narrowed := true }
def FnExactRootOfWholeUptoSaid : Prop := fnExactRootOfWholeUptoRow.holds Try.pinned (OpenSpec.upto fnExactRootOfWholeSpec)

/-- 'laws.FnWholes', WHERE WHAT IT READS IS OF BULK AT MOST 1048576: true; the input reads as it did. -/
def fnWholesUptoRow : OpenClaim := { program := "ytnnoobdcdfcdaaa", sum := "28808197d5866a3b5a813b91471aaced0a5d1bf9df61007fae583c280d92a844", func := "loop.example/g01172/laws.FnWholes", spec := "fnWholes", apart := false, narrowed := true }
def FnWholesUptoSaid : Prop := fnWholesUptoRow.holds Try.pinned (OpenSpec.upto fnWholesSpec)

/-- 'laws.FnExactIsDyadic', WHERE WHAT IT READS IS OF BULK AT MOST 1048576: true; the input reads as it did. -/
def fnExactIsDyadicUptoRow : OpenClaim := { program := "ytnnoobdcdfcdaaa", sum := "28808197d5866a3b5a813b91471aaced0a5d1bf9df61007fae583c280d92a844", func := "loop.example/g01172/laws.FnExactIsDyadic", spec := "fnExactIsDyadic", apart := false, narrowed := true }
def FnExactIsDyadicUptoSaid : Prop := fnExactIsDyadicUptoRow.holds Try.pinned (OpenSpec.upto fnExactIsDyadicSpec)

end Rows
end Go.Proofs.Ytnnoobdcdfcdaaa
