/- MultiplyWholes, of the program and of the model. -/
import Derived.Test.YtnnoobdcdfcdaaaDoorMu
namespace Go.Proofs.YtnnoobdcdfcdaaaDoor
set_option maxRecDepth 100000
open Go.RowKit
set_option linter.unusedSimpArgs false
set_option linter.unusedVariables false

theorem mul_len {s s' : Int} {a b n n' : Nat} (hs : Sg s a) (hs' : Sg s' b) (hn : (limbs a).length = n) (hn' : (limbs b).length = n') : (limbs (s * (a : Int) * (s' * b)).natAbs).length ≤ n + n' := by
  refine limbs_len_le.2 (Nat.lt_of_le_of_lt ?_ (prod_lt hn hn'))
  rw [← (sign_prod hs hs').2.2, Int.natAbs_mul, Int.natAbs_natCast]
  have h := (sign_prod hs hs').2.1
  have h2 : (s * s').natAbs ≤ 1 := by omega
  have := Nat.mul_le_mul_right (a * b) h2
  omega

end Go.Proofs.YtnnoobdcdfcdaaaDoor
