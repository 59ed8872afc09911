/- Texts of this seat, joined: Km Kn -/
import Derived.Test.YtnecnbonnidijaaDoorGQ7
import Derived.Test.YtnecnbonnidijaaDoorGQ6
/- RoundDyadic and EnclosingFloats, of the program and of the model. -/
namespace Go.Proofs.YtnecnbonnidijaaDoor
set_option maxRecDepth 100000
open Go.RowKit
set_option linter.unusedSimpArgs false
set_option linter.unusedVariables false
attribute [local go_sem ↓] Go.wp_at_zero Go.wp_at_succ

/-- what RoundDyadic gives -/
noncomputable def rdRF (S : Int) (xs : List Int) (E k : Int) : Nat := if isD S xs E = true then if 0 ≤ k ∧ k ≤ 4 then rdF (S * magW S xs) E k else 0 else 0
noncomputable def rdRL (S : Int) (xs : List Int) (E k : Int) : Int := if isD S xs E = true then if 0 ≤ k ∧ k ≤ 4 then rdL (S * magW S xs) E k else 0 else 0
noncomputable def rdRE (S : Int) (xs : List Int) (E k : Int) : Int := if isD S xs E = true then if 0 ≤ k ∧ k ≤ 4 then 0 else 2 else 1
/-- what EnclosingFloats gives -/
noncomputable def enRF (S : Int) (xs : List Int) (E k : Int) : Nat := if isD S xs E = true then rdF (S * magW S xs) E k else 0
noncomputable def enRE (S : Int) (xs : List Int) (E : Int) : Int := if isD S xs E = true then 0 else 1
end Go.Proofs.YtnecnbonnidijaaDoor
/- The exact number of a float, of the program and of the model. -/
namespace Go.Proofs.YtnecnbonnidijaaDoor
set_option maxRecDepth 100000
open Go.RowKit
set_option linter.unusedSimpArgs false
set_option linter.unusedVariables false
attribute [local go_sem ↓] Go.wp_at_zero Go.wp_at_succ

/-- the exact number of a float -/
def ofM (b : Nat) : Int := smant32 b
def ofP (b : Nat) : Int := -149 + expo (b % 2147483648)
def ofZ (b : Nat) : Int := if fin32 b = true then nz (ofM b) else 0
def ofX (b : Nat) : Int := if fin32 b = true then nx (ofM b) (ofP b) else 0
def ofE (b : Nat) : Int := if fin32 b = true then 0 else 1
end Go.Proofs.YtnecnbonnidijaaDoor
