/- Plain facts on the bit operations of int64 at numbers that are not negative. -/
import Derived.WalkKit
import Derived.Laws.BitsAllLaws
namespace Go.Proofs.Ytlhdlomabgoadaa

theorem ofInt_nat64 (a : Nat) (ha : a < 18446744073709551616) : (BitVec.ofInt 64 (a : Int)).toNat = a := by
  rw [BitVec.ofInt_natCast, BitVec.toNat_ofNat]; exact Nat.mod_eq_of_lt (by omega)
theorem wrap_i64_nat (n : Nat) (h : n < 9223372036854775808) : IntKind.i64.wrap (n : Int) = n := by
  unfold IntKind.wrap
  simp only [show IntKind.i64.bits = 64 from rfl]
  have e : (n : Int) % (2 ^ 64 : Int) = n := by omega
  rw [e, if_neg]
  simp
  omega

theorem and_i64_nat (a b : Nat) (ha : a < 9223372036854775808) (hb : b < 9223372036854775808) : bits .and .i64 (a : Int) (b : Int) = ((a &&& b : Nat) : Int) := by
  have hx : a &&& b < 2 ^ 63 := Nat.and_lt_two_pow _ (by omega)
  show IntKind.i64.wrap ((BitVec.ofInt 64 (a : Int) &&& BitVec.ofInt 64 (b : Int)).toNat : Int) = _
  rw [BitVec.toNat_and, ofInt_nat64 a (by omega), ofInt_nat64 b (by omega), wrap_i64_nat _ (by omega)]

theorem and_low23 (a : Nat) (ha : a < 9223372036854775808) : bits .and .i64 (a : Int) 8388607 = ((a % 8388608 : Nat) : Int) := by
  have := and_i64_nat a 8388607 ha (by omega)
  rw [show (8388607 : Nat) = 2 ^ 23 - 1 by decide, Nat.and_two_pow_sub_one_eq_mod] at this
  exact this
theorem and_low31 (a : Nat) (ha : a < 9223372036854775808) : bits .and .i64 (a : Int) 2147483647 = ((a % 2147483648 : Nat) : Int) := by
  have := and_i64_nat a 2147483647 ha (by omega)
  rw [show (2147483647 : Nat) = 2 ^ 31 - 1 by decide, Nat.and_two_pow_sub_one_eq_mod] at this
  exact this

theorem andNot_i64_nat (a b : Nat) (ha : a < 9223372036854775808) (hb : b < 9223372036854775808) : bits .andNot .i64 (a : Int) (b : Int) = ((a &&& (18446744073709551615 - b) : Nat) : Int) := by
  have hx : a &&& (18446744073709551615 - b) ≤ a := Nat.and_le_left
  show IntKind.i64.wrap ((BitVec.ofInt 64 (a : Int) &&& ~~~BitVec.ofInt 64 (b : Int)).toNat : Int) = _
  rw [BitVec.toNat_and, BitVec.toNat_not, ofInt_nat64 a (by omega), ofInt_nat64 b (by omega)]
  have e : 2 ^ 64 - 1 - b = 18446744073709551615 - b := by omega
  rw [e, wrap_i64_nat _ (by omega)]

theorem andNot31 (a : Nat) (ha : a < 4294967296) : bits .andNot .i64 (a : Int) 2147483648 = ((a % 2147483648 : Nat) : Int) := by
  have := andNot_i64_nat a 2147483648 (by omega) (by omega)
  rw [show ((2147483648 : Nat) : Int) = 2147483648 from rfl] at this
  rw [this]
  congr 1
  apply Nat.eq_of_testBit_eq
  intro i
  rw [show (18446744073709551615 - 2147483648 : Nat) = 2 ^ 64 - (2 ^ 31 + 1) by decide, show (2147483648 : Nat) = 2 ^ 31 by decide,
    Nat.testBit_and, Nat.testBit_two_pow_sub_succ (by decide), Nat.testBit_mod_two_pow, Nat.testBit_two_pow]
  by_cases h31 : i < 31
  · have h1 : i < 64 := by omega
    have h2 : ¬ 31 = i := by omega
    simp [h31, h1, h2]
  · by_cases e : i = 31
    · subst e; simp
    · have : a.testBit i = false := by
        apply Nat.testBit_lt_two_pow
        exact Nat.lt_of_lt_of_le ha (show 2 ^ 32 ≤ 2 ^ i from Nat.pow_le_pow_right (by omega) (by omega))
      simp [this]
end Go.Proofs.Ytlhdlomabgoadaa
