/- Shifts of a whole number, of the program. -/
import Derived.Test.YtnnoobdcdfcdaaaDy
import Derived.Test.YtnnoobdcdfcdaaaSd
import Derived.Test.YtnnoobdcdfcdaaaWp
namespace Go.Proofs.Ytnnoobdcdfcdaaa
set_option maxRecDepth 100000
open Go.RowKit
set_option linter.unusedSimpArgs false
set_option linter.unusedVariables false

theorem sgn_or {S z : Int} (hS : S = z.sign) {v : Nat} (h : z = 0 → v = 0) : S = 1 ∨ S = -1 ∨ v = 0 := by
  subst hS
  rcases Int.lt_trichotomy z 0 with h1 | h1 | h1
  · exact .inr (.inl (Int.sign_eq_neg_one_of_neg h1))
  · exact .inr (.inr (h h1))
  · exact .inl (Int.sign_eq_one_of_pos h1)
theorem shl_len {v n : Nat} (hn : (limbs v).length = n) (m : Nat) : (limbs (2 ^ m * v)).length ≤ n + m / 24 + 1 := by
  rw [limbs_len_le]
  have h1 := limbs_len_le.1 (show (limbs v).length ≤ n by omega)
  have h2 : 2 ^ m ≤ Bs ^ (m / 24 + 1) := by rw [Bs_pow]; exact Nat.pow_le_pow_right (by omega) (by omega)
  have e : Bs ^ (n + m / 24 + 1) = Bs ^ (m / 24 + 1) * Bs ^ n := by rw [← Nat.pow_add]; congr 1; omega
  rw [e]
  exact Nat.mul_lt_mul_of_le_of_lt h2 h1 (Bs_pow_pos _)
theorem sh_up {z S : Int} (hS : S = z.sign) (m : Nat) : S * ((2 ^ m * z.natAbs : Nat) : Int) = shZ z m := by
  rw [shZ_up (by omega), Int.toNat_natCast, Int.natCast_mul, Int.mul_left_comm, hS, Int.sign_mul_natAbs, pow_cast]
theorem shZ_nat {z : Int} {m : Nat} (hm : 0 < m) : shZ z (-(m : Int)) = z / (2 : Int) ^ m := by
  rw [shZ_down (by omega)]
  congr 2
  omega
theorem sh_down_nonneg {z S : Int} (hS : S = z.sign) (h0 : ¬ S < 0) {m : Nat} (hm : 0 < m) : S * ((z.natAbs / 2 ^ m : Nat) : Int) = shZ z (-(m : Int)) := by
  rw [shZ_nat hm]
  subst hS
  rcases Int.lt_trichotomy z 0 with h1 | h1 | h1
  · rw [Int.sign_eq_neg_one_of_neg h1] at h0; omega
  · subst h1; simp
  · rw [Int.sign_eq_one_of_pos h1, Int.one_mul, ← shr_pos]
    congr 1
    omega
theorem sgn_m1 {z S : Int} (hS : S = z.sign) (h : S < 0) : S = -1 := by
  subst hS
  rcases Int.lt_trichotomy z 0 with h1 | h1 | h1
  · exact Int.sign_eq_neg_one_of_neg h1
  · subst h1; simp at h
  · rw [Int.sign_eq_one_of_pos h1] at h; omega
theorem neg_of {z : Int} (h : z < 0) : z = -(z.natAbs : Int) := by omega
theorem sign_neg_iff {z S : Int} (hS : S = z.sign) : S < 0 ↔ z < 0 := by
  subst hS
  rcases Int.lt_trichotomy z 0 with h1 | h1 | h1
  · rw [Int.sign_eq_neg_one_of_neg h1]; omega
  · subst h1; simp
  · rw [Int.sign_eq_one_of_pos h1]; omega
theorem sh_down_exact {z S : Int} (hS : S = z.sign) (h0 : S < 0) {m : Nat} (hm : 0 < m) (ht : ¬ tz z.natAbs < m) : S * ((z.natAbs / 2 ^ m : Nat) : Int) = shZ z (-(m : Int)) := by
  have hz := (sign_neg_iff hS).1 h0
  have h1 := (tz_dvd (v := z.natAbs) (k := m) (by omega)).1 (by omega)
  rw [shZ_nat hm, hS, Int.sign_eq_neg_one_of_neg hz]
  conv => rhs; rw [neg_of hz]
  rw [shr_neg, if_pos h1]
  omega
theorem sh_down_more {z S : Int} (hS : S = z.sign) (h0 : S < 0) {m : Nat} (hm : 0 < m) (ht : tz z.natAbs < m) : S * ((z.natAbs / 2 ^ m + 1 : Nat) : Int) = shZ z (-(m : Int)) := by
  have hz := (sign_neg_iff hS).1 h0
  have h1 := (tz_lt_dvd (v := z.natAbs) (k := m) (by omega)).1 ht
  rw [shZ_nat hm, hS, Int.sign_eq_neg_one_of_neg hz]
  conv => rhs; rw [neg_of hz]
  rw [shr_neg, if_neg h1]
  omega
theorem limbs_1 : limbs 1 = [1] := by rw [limbs_pos (by omega)]; rw [Bs_eq, show 1 / 16777216 = 0 from rfl, limbs_zero]
theorem rd_one (w : World) (t : TypeId) : Rd (w.alloc (.cells #[.int .i64 1] t)) (w.alloc (.cells #[.int .i64 1] t)).heap.size (some ⟨w.heap.size, 0, none⟩) (vs (limbs 1)) := by
  rw [limbs_1]
  intro k u hu
  have hk : k < 1 := by simpa [vs, li, vi] using (List.getElem?_eq_some_iff.1 hu).1
  obtain rfl : k = 0 := by omega
  refine ⟨_, rfl, by simp, ?_⟩
  rw [add_zero_off]
  simp [vs, li, vi] at hu
  subst hu
  simp

end Go.Proofs.Ytnnoobdcdfcdaaa
