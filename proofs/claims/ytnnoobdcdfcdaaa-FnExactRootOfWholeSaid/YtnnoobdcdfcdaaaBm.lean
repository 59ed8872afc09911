/- Plain facts on the low 24 bits of integers of 64 bits. -/
import Derived.WalkKit
import Derived.Laws.BitsAllLaws
namespace Go.Proofs.Ytnnoobdcdfcdaaa
set_option maxRecDepth 100000
open Go.RowKit

theorem ofInt_toNat64 (z : Int) : ((BitVec.ofInt 64 z).toNat : Int) = z % 18446744073709551616 := by
  rw [BitVec.toNat_ofInt]
  have := Int.emod_nonneg z (show (18446744073709551616 : Int) ≠ 0 by decide)
  omega
theorem mask24 : (BitVec.ofInt 64 16777215).toNat = 2 ^ 24 - 1 := by decide
theorem wrapI_small {n : Int} (h0 : 0 ≤ n) (h : n < 9223372036854775808) : IntKind.i64.wrap n = n := by
  unfold IntKind.wrap
  simp only [show IntKind.i64.bits = 64 from rfl]
  have e : n % (2 ^ 64 : Int) = n := by omega
  rw [e, if_neg]
  simp
  omega
theorem wrapU_small {n : Int} (h0 : 0 ≤ n) (h : n < 9223372036854775808) : IntKind.u64.wrap n = n := by
  unfold IntKind.wrap
  simp only [show IntKind.u64.bits = 64 from rfl]
  have e : n % (2 ^ 64 : Int) = n := by omega
  rw [e, if_neg]
  simp [IntKind.signed]

theorem and24_i64 (z : Int) : bits .and .i64 z 16777215 = z % 16777216 := by
  show IntKind.i64.wrap ((BitVec.ofInt 64 z &&& BitVec.ofInt 64 16777215).toNat : Int) = _
  have h := ofInt_toNat64 z
  rw [BitVec.toNat_and, mask24, Nat.and_two_pow_sub_one_eq_mod]
  rw [wrapI_small (by omega) (by omega)]
  omega
theorem and24_u64 (z : Int) : bits .and .u64 z 16777215 = z % 16777216 := by
  show IntKind.u64.wrap ((BitVec.ofInt 64 z &&& BitVec.ofInt 64 16777215).toNat : Int) = _
  have h := ofInt_toNat64 z
  rw [BitVec.toNat_and, mask24, Nat.and_two_pow_sub_one_eq_mod]
  rw [wrapU_small (by omega) (by omega)]
  omega
theorem wrap64_small {n : Int} (h0 : -9223372036854775808 ≤ n) (h : n ≤ 9223372036854775807) : wrap64 n = n := by unfold wrap64; omega
end Go.Proofs.Ytnnoobdcdfcdaaa
