/- Texts of this seat, joined: Tf Pe Pf -/
import Derived.Test.YtnecnbonnidijaaGE2
import Derived.Test.YtnecnbonnidijaaGE1
import Derived.Test.YtnecnbonnidijaaGE10
import Derived.Test.YtnecnbonnidijaaGE8
import Derived.Test.YtnecnbonnidijaaGE4
import Derived.Test.YtnecnbonnidijaaGE6
/- The walk of the laws' toFloat32S: a copy in memory of its own. -/
namespace Go.Proofs.Ytnecnbonnidijaa
set_option maxRecDepth 100000
open Go.RowKit

end Go.Proofs.Ytnecnbonnidijaa
/- Exact sums of floats, of the program and of the model. -/
namespace Go.Proofs.Ytnecnbonnidijaa
set_option maxRecDepth 100000
open Go.RowKit
set_option linter.unusedSimpArgs false
set_option linter.unusedVariables false

def uS (l : List Nat) : Int := (l.map uI).sum
theorem uI_bound {b : Nat} (hf : fin32 b = true) : (uI b).natAbs ≤ 16777216 * 2 ^ 253 := by
  rw [uI_abs]
  have h1 := mant_lt (b % 2147483648)
  have h2 := expo_le (b % 2147483648) (of_decide_eq_true hf)
  exact Nat.mul_le_mul (by omega) (Nat.pow_le_pow_right (by omega) h2)
theorem lim_280 : 8 * (16777216 * 2 ^ 253) < Bs ^ 12 := by
  rw [Bs_pow]
  decide +kernel
theorem u_len {U : Int} (h : U.natAbs ≤ 8 * (16777216 * 2 ^ 253)) : (limbs U.natAbs).length ≤ 12 := by
  rw [limbs_len_le]
  exact Nat.lt_of_le_of_lt h lim_280
theorem nx_u {U : Int} (hU : U.natAbs ≤ 8 * (16777216 * 2 ^ 253)) : -149 ≤ nx U (-149) ∧ nx U (-149) ≤ 139 := by
  have h := u_len hU
  by_cases h0 : U = 0
  · rw [h0, nx_zero]; omega
  · rw [nx_ne h0]
    have := tz_le (v := U.natAbs) rfl
    omega

end Go.Proofs.Ytnecnbonnidijaa
/- Values of pairs and exact sums of floats, of the model. -/
namespace Go.Proofs.Ytnecnbonnidijaa
set_option maxRecDepth 100000
open Go.RowKit
set_option linter.unusedSimpArgs false
set_option linter.unusedVariables false

theorem sum_vn {a b : Int} : nz (sumZ (nz a) (nx a (-149)) (nz b) (nx b (-149))) = nz (a + b) ∧ nx (sumZ (nz a) (nx a (-149)) (nz b) (nx b (-149))) (min (nx a (-149)) (nx b (-149))) = nx (a + b) (-149) := by
  have g1 := nx_ge (B := -149) (z := a) (e := -149) (Int.le_refl _) (by omega)
  have g2 := nx_ge (B := -149) (z := b) (e := -149) (Int.le_refl _) (by omega)
  refine nzx_same (B := -149) (by omega) (Int.le_refl _) ?_
  rw [uV_sum g1 g2, uV_nz (Int.le_refl _), uV_nz (Int.le_refl _), uV_one, uV_one, uV_one]
theorem f_vn (b : Nat) : fz b = nz (uI b) ∧ fe b = nx (uI b) (-149) := by
  have e : uI b = uV (-149) (ofM b) (ofP b) := by
    rw [uI_ofM]
    unfold uV ofP
    rw [show (-149 + (expo (b % 2147483648) : Int) - -149).toNat = expo (b % 2147483648) by omega, Int.mul_comm]
  rw [e, nz_uV, nx_uV (ofP_ge b)]
  exact ⟨rfl, rfl⟩

end Go.Proofs.Ytnecnbonnidijaa
