/- Texts of this seat, joined: Hc Hf Hg Hh Hi Hj Hk Hl Hm Hn Ho Dl Cd -/
import Derived.Test.YtnecnbonnidijaaGI4
import Derived.Deep.AppendLies
import Derived.Test.YtnecnbonnidijaaGI1
import Derived.Test.YtnecnbonnidijaaGI3
/- Exact numbers, limited, of the program. -/
namespace Go.Proofs.Ytnecnbonnidijaa
set_option maxRecDepth 100000
open Go.RowKit
set_option linter.unusedSimpArgs false
set_option linter.unusedVariables false

/-- the number fits -/
def okN (z E : Int) : Prop := (limbs (nz z).natAbs).length ≤ 100 ∧ -3000 ≤ nx z E ∧ nx z E ≤ 3000
open Classical in
noncomputable def fdZ (z E : Int) : Int := if okN z E then nz z else 0
open Classical in
noncomputable def fdX (z E : Int) : Int := if okN z E then nx z E else 0
open Classical in
noncomputable def fdE (z E : Int) : Int := if okN z E then 0 else 3
end Go.Proofs.Ytnecnbonnidijaa
/- Bits, shifts up, of the model. -/
namespace Go.Proofs.Ytnecnbonnidijaa
set_option maxRecDepth 100000
open Go.RowKit
set_option linter.unusedSimpArgs false
set_option linter.unusedVariables false

/-- a bit -/
def bt (v k : Nat) : Nat := v / 2 ^ k % 2
end Go.Proofs.Ytnecnbonnidijaa
/- Cuts of a whole number, of the model. -/
namespace Go.Proofs.Ytnecnbonnidijaa
set_option maxRecDepth 100000
open Go.RowKit
set_option linter.unusedSimpArgs false
set_option linter.unusedVariables false

/-- the absolute value without its last bits, with the sign -/
def cutZ (z : Int) (k : Nat) : Int := z.sign * ((z.natAbs / 2 ^ k : Nat) : Int)
end Go.Proofs.Ytnecnbonnidijaa
/- What an exact number is, of the program and of the model. -/
namespace Go.Proofs.Ytnecnbonnidijaa
set_option maxRecDepth 100000
open Go.RowKit
set_option linter.unusedSimpArgs false
set_option linter.unusedVariables false

open Classical in
/-- a sign, limbs and an exponent that are an exact number -/
noncomputable def isD (S : Int) (xs : List Int) (E : Int) : Bool := decide (∃ z, isZ z S xs ∧ okD z E)
end Go.Proofs.Ytnecnbonnidijaa
/- The model's numbers without their last twos, limited; ranges; shifts. -/
namespace Go.Proofs.Ytnecnbonnidijaa
set_option maxRecDepth 100000
open Go.RowKit
set_option linter.unusedSimpArgs false
set_option linter.unusedVariables false

end Go.Proofs.Ytnecnbonnidijaa
/- ShiftWhole and MakeDyadic, of the program and of the model. -/
namespace Go.Proofs.Ytnecnbonnidijaa
set_option maxRecDepth 100000
open Go.RowKit
set_option linter.unusedSimpArgs false
set_option linter.unusedVariables false

/-- what ShiftWhole gives -/
noncomputable def shRZ (S : Int) (xs : List Int) (k : Int) : Int := if isW S xs = true then if -5000 ≤ k ∧ k ≤ 5000 then fitZ (shZ (S * magW S xs) k) else 0 else 0
noncomputable def shRE (S : Int) (xs : List Int) (k : Int) : Int := if isW S xs = true then if -5000 ≤ k ∧ k ≤ 5000 then fitE (shZ (S * magW S xs) k) else 2 else 1
/-- what MakeDyadic gives -/
noncomputable def mkRZ (S : Int) (xs : List Int) (k : Int) : Int := if isW S xs = true then if -6000 ≤ k ∧ k ≤ 6000 then fdZ (S * magW S xs) k else 0 else 0
noncomputable def mkRX (S : Int) (xs : List Int) (k : Int) : Int := if isW S xs = true then if -6000 ≤ k ∧ k ≤ 6000 then fdX (S * magW S xs) k else 0 else 0
noncomputable def mkRE (S : Int) (xs : List Int) (k : Int) : Int := if isW S xs = true then if -6000 ≤ k ∧ k ≤ 6000 then fdE (S * magW S xs) k else 2 else 1
end Go.Proofs.Ytnecnbonnidijaa
/- Opposites, ranges, floors of exact numbers, of the model. -/
namespace Go.Proofs.Ytnecnbonnidijaa
set_option maxRecDepth 100000
open Go.RowKit
set_option linter.unusedSimpArgs false
set_option linter.unusedVariables false

/-- the code of an exact number and an integer in a range -/
noncomputable def rgE (S : Int) (xs : List Int) (E k lo hi : Int) : Int := if isD S xs E = true then if lo ≤ k ∧ k ≤ hi then 0 else 2 else 1
end Go.Proofs.Ytnecnbonnidijaa
/- Both numbers, products of exact numbers, of the model. -/
namespace Go.Proofs.Ytnecnbonnidijaa
set_option maxRecDepth 100000
open Go.RowKit
set_option linter.unusedSimpArgs false
set_option linter.unusedVariables false

/-- both are exact numbers -/
noncomputable def bD (S : Int) (xs : List Int) (E S' : Int) (xs' : List Int) (E' : Int) : Bool := isD S xs E && isD S' xs' E'
noncomputable def bDE (S : Int) (xs : List Int) (E S' : Int) (xs' : List Int) (E' : Int) : Int := if bD S xs E S' xs' E' = true then 0 else 1
end Go.Proofs.Ytnecnbonnidijaa
/- Sums, differences, comparing of exact numbers, of the model. -/
namespace Go.Proofs.Ytnecnbonnidijaa
set_option maxRecDepth 100000
open Go.RowKit
set_option linter.unusedSimpArgs false
set_option linter.unusedVariables false

end Go.Proofs.Ytnecnbonnidijaa
