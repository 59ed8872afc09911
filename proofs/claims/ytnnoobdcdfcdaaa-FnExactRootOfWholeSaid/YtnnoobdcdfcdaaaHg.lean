/- Cuts of a whole number, of the model. -/
import Derived.Test.YtnnoobdcdfcdaaaHf
namespace Go.Proofs.Ytnnoobdcdfcdaaa
set_option maxRecDepth 100000
open Go.RowKit
set_option linter.unusedSimpArgs false
set_option linter.unusedVariables false

/-- the absolute value without its last bits, with the sign -/
def cutZ (z : Int) (k : Nat) : Int := z.sign * ((z.natAbs / 2 ^ k : Nat) : Int)
theorem cutZ_nz (z : Int) : cutZ z (tz z.natAbs) = nz z := rfl
theorem cut_div {x Y q : Nat} (hx : x < Bs) (hq : q ≤ 23) : (x + Bs * Y) / 2 ^ q = x / 2 ^ q + 2 ^ (24 - q) * Y ∧ ((x + Bs * Y) / 2 ^ q) / Bs = Y / 2 ^ q := by
  have e : Bs * Y = 2 ^ q * (2 ^ (24 - q) * Y) := by
    rw [← Nat.mul_assoc, ← Nat.pow_add]
    have : q + (24 - q) = 24 := by omega
    rw [this]; rfl
  refine ⟨by rw [e, Nat.add_mul_div_left _ _ (Nat.two_pow_pos q)], ?_⟩
  rw [Nat.div_div_eq_div_mul, Nat.mul_comm (2 ^ q) Bs, ← Nat.div_div_eq_div_mul, Nat.add_mul_div_left _ _ (by rw [Bs_eq]; omega), Nat.div_eq_of_lt hx, Nat.zero_add]
theorem cut_mod {x x' Y q : Nat} (hx : x < Bs) (hq : q ≤ 23) : ((x + Bs * (x' + Bs * Y)) / 2 ^ q) % Bs = (x / 2 ^ q + x' * 2 ^ (24 - q)) % Bs := by
  rw [(cut_div hx hq).1, Nat.mul_add, Nat.mul_comm (2 ^ (24 - q)) x', Nat.mul_left_comm, ← Nat.add_assoc, Nat.add_mul_mod_self_left]
theorem cut_last {x q : Nat} (hx : x < Bs) (hq : q ≤ 23) : ((x + Bs * 0) / 2 ^ q) % Bs = x / 2 ^ q := by
  rw [Nat.mul_zero, Nat.add_zero]
  exact Nat.mod_eq_of_lt (Nat.lt_of_le_of_lt (Nat.div_le_self _ _) hx)
/-- a digit more -/
theorem cut_step {xs ys : List Nat} {m j q d R : Nat} (hx : m + j < xs.length) (hl : ys.length = j) (hlim : Lim xs) (hq : q ≤ 23) (hv : V ys + Bs ^ j * (V (xs.drop (m + j)) / 2 ^ q) = R) (hd : d = (xs[m + j] + Bs * V (xs.drop (m + j + 1))) / 2 ^ q % Bs) :
    V (ys ++ [d]) + Bs ^ (j + 1) * (V (xs.drop (m + (j + 1))) / 2 ^ q) = R := by
  rw [V_drop hx] at hv
  have h2 := (cut_div (Y := V (xs.drop (m + j + 1))) (hlim.getElem hx) hq).2
  generalize (xs[m + j] + Bs * V (xs.drop (m + j + 1))) / 2 ^ q = X at *
  have e : V [d] = d := by simp [V]
  rw [V_append, hl, e, ← Nat.add_assoc m j 1, ← h2, Nat.pow_succ, Nat.mul_assoc, Nat.add_assoc, ← Nat.mul_add, hd, Nat.mod_add_div]
  exact hv
theorem cut_end {v n m q k j : Nat} {ys : List Nat} (hn : (limbs v).length = n) (hk : k = 24 * m + q) (hj : n ≤ m + j) (hv : V ys + Bs ^ j * (V ((limbs v).drop (m + j)) / 2 ^ q) = V ((limbs v).drop m) / 2 ^ q) : V ys = v / 2 ^ k := by
  rw [List.drop_of_length_le (by omega)] at hv
  have e : V ys = V ((limbs v).drop m) / 2 ^ q := by rw [← hv]; simp [V]
  rw [e]
  rcases Nat.lt_or_ge n m with h | h
  · rw [List.drop_of_length_le (by omega)]
    have h1 := limbs_len_le.1 (show (limbs v).length ≤ n by omega)
    rw [Bs_pow] at h1
    have h2 : 2 ^ (24 * n) ≤ 2 ^ k := Nat.pow_le_pow_right (by omega) (by omega)
    rw [Nat.div_eq_of_lt (Nat.lt_of_lt_of_le h1 h2)]
    simp [V]
  · rw [V_drop_div (Lim_limbs v) (by omega), V_limbs, hk, Nat.pow_add, ← Nat.div_div_eq_div_mul, Bs_pow]
theorem cut_nums {x x' q : Nat} (hx : x < Bs) (hx' : x' < Bs) (hq : q ≤ 23) : ∃ y1 d : Nat, (x : Int) / 2 ^ q = (y1 : Nat) ∧ (0 : Int) ≤ y1 ∧ (y1 : Int) ≤ 16777215 ∧ d = (x / 2 ^ q + x' * 2 ^ (24 - q)) % Bs ∧ d < Bs ∧ (wrap64 ((y1 : Int) + wrap64 ((x' : Int) * 2 ^ (24 - q)))).tmod 16777216 = (d : Nat) := by
  have hsw := shl_wrap24 x' (24 - q) (by omega) hx'
  have h23 : 2 ^ (24 - q) ≤ 2 ^ 24 := Nat.pow_le_pow_right (by omega) (by omega)
  have h1 : x' * 2 ^ (24 - q) ≤ 16777215 * 2 ^ 24 := Nat.mul_le_mul (by rw [Bs_eq] at hx'; omega) h23
  have h3 : x / 2 ^ q ≤ x := Nat.div_le_self _ _
  have h4 : (x : Int) / 2 ^ q = ((x / 2 ^ q : Nat) : Int) := by rw [pow_cast, Int.natCast_ediv]
  rw [hsw]
  clear hsw
  obtain ⟨y1, hy1⟩ : ∃ y1, y1 = x / 2 ^ q := ⟨_, rfl⟩
  obtain ⟨y2, hy2⟩ : ∃ y2, y2 = x' * 2 ^ (24 - q) := ⟨_, rfl⟩
  rw [← hy1] at h3 h4 ⊢
  rw [← hy2] at h1 ⊢
  have h24 : (2 : Nat) ^ 24 = 16777216 := by decide
  rw [h24] at h1
  rw [Bs_eq] at hx ⊢
  clear h23 hy1 hy2 hx'
  refine ⟨y1, (y1 + y2) % 16777216, h4, by omega, by omega, rfl, by omega, ?_⟩
  rw [wrap64_small (by omega) (by omega), Int.tmod_eq_emod_of_nonneg (by omega)]
  omega
theorem shr_small {x q : Nat} (hx : x < Bs) : ∃ y1 : Nat, y1 = x / 2 ^ q ∧ (x : Int) / 2 ^ q = (y1 : Nat) ∧ (0 : Int) ≤ y1 ∧ (y1 : Int) ≤ 16777215 := by
  have h3 : x / 2 ^ q ≤ x := Nat.div_le_self _ _
  rw [Bs_eq] at hx
  have h4 : (x : Int) / 2 ^ q = ((x / 2 ^ q : Nat) : Int) := by rw [pow_cast, Int.natCast_ediv]
  obtain ⟨y1, hy1⟩ : ∃ y1, y1 = x / 2 ^ q := ⟨_, rfl⟩
  rw [← hy1] at h3 h4 ⊢
  exact ⟨y1, rfl, h4, by omega, by omega⟩

end Go.Proofs.Ytnnoobdcdfcdaaa
