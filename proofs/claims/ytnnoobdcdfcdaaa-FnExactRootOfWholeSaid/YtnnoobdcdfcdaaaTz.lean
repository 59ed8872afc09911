/- Twos: how many of the last bits of a number are 0; numbers times powers of two: plain mathematics. -/
import Derived.Test.YtnnoobdcdfcdaaaNz
namespace Go.Proofs.Ytnnoobdcdfcdaaa

/-- how many of the last bits are 0; of 0 it is 0 -/
def tz (v : Nat) : Nat := if _h : v = 0 ∨ v % 2 = 1 then 0 else tz (v / 2) + 1
termination_by v
decreasing_by omega

theorem tz_zero : tz 0 = 0 := by rw [tz]; simp
theorem tz_odd {v : Nat} (h : v % 2 = 1) : tz v = 0 := by rw [tz]; simp [h]
theorem tz_even {v : Nat} (h0 : v ≠ 0) (h : v % 2 = 0) : tz v = tz (v / 2) + 1 := by
  rw [tz, dif_neg (by omega)]

/-- the odd part -/
def od (v : Nat) : Nat := v / 2 ^ tz v
theorem od_zero : od 0 = 0 := by unfold od; simp
theorem od_odd {v : Nat} (h : v % 2 = 1) : od v = v := by unfold od; rw [tz_odd h]; simp

theorem tz_spec {v : Nat} (h : v ≠ 0) : v = 2 ^ tz v * od v ∧ od v % 2 = 1 := by
  unfold od
  induction v using Nat.strongRecOn with
  | ind v ih =>
    by_cases h1 : v % 2 = 1
    · rw [tz_odd h1]; simp [h1]
    · have h2 : v % 2 = 0 := by omega
      rw [tz_even h h2]
      obtain ⟨g1, g2⟩ := ih (v / 2) (by omega) (by omega)
      have e : v / 2 ^ (tz (v / 2) + 1) = v / 2 / 2 ^ tz (v / 2) := by rw [Nat.pow_succ, Nat.mul_comm, Nat.div_div_eq_div_mul]
      rw [e]
      refine ⟨?_, g2⟩
      have h3 : v = 2 * (v / 2) := by omega
      have h4 : 2 ^ (tz (v / 2) + 1) * (v / 2 / 2 ^ tz (v / 2)) = 2 * (2 ^ tz (v / 2) * (v / 2 / 2 ^ tz (v / 2))) := by
        rw [Nat.pow_succ, Nat.mul_comm (2 ^ tz (v / 2)) 2, Nat.mul_assoc]
      rw [h4, ← g1]
      exact h3
theorem od_pos {v : Nat} (h : v ≠ 0) : od v ≠ 0 := fun e => by have := (tz_spec h).2; rw [e] at this; simp at this

theorem tz_mul {v : Nat} (h : v ≠ 0) (k : Nat) : tz (2 ^ k * v) = k + tz v := by
  induction k with
  | zero => simp
  | succ k ih =>
    have e : 2 ^ (k + 1) * v = 2 * (2 ^ k * v) := by rw [Nat.pow_succ, Nat.mul_comm (2 ^ k) 2, Nat.mul_assoc]
    have h2 : 2 ^ k * v ≠ 0 := Nat.mul_ne_zero (by have := Nat.two_pow_pos k; omega) h
    rw [e, tz_even (by omega) (by omega), Nat.mul_div_cancel_left _ (by omega), ih]
    omega
theorem od_mul {v : Nat} (h : v ≠ 0) (k : Nat) : od (2 ^ k * v) = od v := by
  unfold od
  rw [tz_mul h, Nat.pow_add, Nat.mul_div_mul_left _ _ (Nat.two_pow_pos k)]
theorem tz_unique {k q : Nat} (h : q % 2 = 1) : tz (2 ^ k * q) = k := by rw [tz_mul (by omega), tz_odd h]; rfl
theorem od_unique {k q : Nat} (h : q % 2 = 1) : od (2 ^ k * q) = q := by rw [od_mul (by omega), od_odd h]

/-- the bits before it are 0, it is 1 -/
theorem bit_below {v k : Nat} (h : k < tz v) : v / 2 ^ k % 2 = 0 := by
  have hv : v ≠ 0 := fun e => by rw [e, tz_zero] at h; omega
  have h1 := (tz_spec hv).1
  have e : tz v = k + ((tz v - k - 1) + 1) := by omega
  rw [h1]
  rw [e, Nat.pow_add, Nat.mul_assoc, Nat.mul_div_cancel_left _ (Nat.two_pow_pos k), Nat.pow_succ, Nat.mul_comm (2 ^ _) 2, Nat.mul_assoc]
  omega
theorem bit_at {v : Nat} (h : v ≠ 0) : v / 2 ^ tz v % 2 = 1 := (tz_spec h).2
theorem tz_of_bit {v k : Nat} (h : k ≤ tz v) (hb : v / 2 ^ k % 2 ≠ 0) : tz v = k := by
  rcases Nat.lt_or_ge k (tz v) with h1 | h1
  · exact absurd (bit_below h1) hb
  · omega
theorem tz_dvd {v k : Nat} (hv : v ≠ 0) : k ≤ tz v ↔ v % 2 ^ k = 0 := by
  constructor
  · intro h
    rw [(tz_spec hv).1]
    have e : tz v = k + (tz v - k) := by omega
    rw [e, Nat.pow_add, Nat.mul_assoc]
    exact Nat.mul_mod_right _ _
  · intro h
    have h1 : v = 2 ^ k * (v / 2 ^ k) := by have := Nat.div_add_mod v (2 ^ k); omega
    have h2 : v / 2 ^ k ≠ 0 := fun e => by rw [e] at h1; omega
    rw [h1, tz_mul h2]
    omega
theorem tz_lt_dvd {v k : Nat} (hv : v ≠ 0) : tz v < k ↔ v % 2 ^ k ≠ 0 := by
  have := tz_dvd (k := k) hv
  omega

/-- limbs that are 0 come first -/
theorem tz_limbs {xs : List Nat} {i : Nat} (hi : i < xs.length) (h0 : ∀ j (h : j < xs.length), j < i → xs[j] = 0) (hx : xs[i] ≠ 0) (hb : xs[i] < Bs) : tz (V xs) = 24 * i + tz xs[i] := by
  have h1 : V (xs.take i) = 0 := V_zeros fun x hx => by
    obtain ⟨j, hj, rfl⟩ := List.getElem_of_mem hx
    rw [List.getElem_take]
    rw [List.length_take] at hj
    exact h0 j (by omega) (by omega)
  have hB : Bs ^ i = 2 ^ (24 * i) := by rw [Nat.pow_mul]; rfl
  rw [V_take_drop xs i (by omega), h1, Nat.zero_add, V_drop hi, hB]
  obtain ⟨g1, g2⟩ := tz_spec hx
  generalize xs[i] = x at *
  generalize V (xs.drop (i + 1)) = r at *
  have hne : x + Bs * r ≠ 0 := by omega
  rw [tz_mul hne]
  congr 1
  by_cases hs : tz x < 24
  · have e : x + Bs * r = 2 ^ tz x * (od x + 2 * (2 ^ (23 - tz x) * r)) := by
      have e2 : Bs * r = 2 ^ tz x * (2 * (2 ^ (23 - tz x) * r)) := by
        have e3 : Bs = 2 ^ tz x * (2 * 2 ^ (23 - tz x)) := by
          rw [← Nat.pow_succ', ← Nat.pow_add]
          have : tz x + (23 - tz x).succ = 24 := by omega
          rw [this]; rfl
        conv => lhs; rw [e3]
        simp only [Nat.mul_assoc]
      rw [e2, Nat.mul_add, ← g1]
    rw [e]
    exact tz_unique (by omega)
  · exfalso
    have h24 : 2 ^ 24 ≤ 2 ^ tz x := Nat.pow_le_pow_right (by omega) (by omega)
    have h3 : 2 ^ tz x * 1 ≤ 2 ^ tz x * od x := Nat.mul_le_mul_left _ (by omega)
    rw [Bs_eq] at hb
    omega

/-- no more twos than bits -/
theorem tz_le {v n : Nat} (hn : (limbs v).length = n) : tz v ≤ 24 * n := by
  by_cases h : v = 0
  · subst h; rw [tz_zero]; omega
  · have h1 := limbs_len_le.1 (show (limbs v).length ≤ n by omega)
    have hB : Bs ^ n = 2 ^ (24 * n) := by rw [Nat.pow_mul]; rfl
    rw [hB] at h1
    rcases Nat.lt_or_ge (24 * n) (tz v) with h2 | h2
    · exfalso
      have h3 := (tz_spec h).1
      have h4 : 2 ^ (24 * n) ≤ 2 ^ tz v := Nat.pow_le_pow_right (by omega) (by omega)
      have h5 : 2 ^ tz v * 1 ≤ 2 ^ tz v * od v := Nat.mul_le_mul_left _ (by have := od_pos h; omega)
      omega
    · exact h2

/-! numbers times powers of two -/
/-- the number without its last twos, and the exponent that it has then -/
def nz (z : Int) : Int := z.sign * od z.natAbs
def nx (z e : Int) : Int := if z = 0 then 0 else e + tz z.natAbs

theorem nz_zero : nz 0 = 0 := by unfold nz; simp
theorem nx_zero (e : Int) : nx 0 e = 0 := if_pos rfl
theorem nx_ne {z e : Int} (h : z ≠ 0) : nx z e = e + tz z.natAbs := if_neg h
theorem nz_facts (z : Int) : (nz z).sign = z.sign ∧ (nz z).natAbs = od z.natAbs := by
  unfold nz
  rcases Int.lt_trichotomy z 0 with h | h | h
  · have h1 := od_pos (v := z.natAbs) (by omega)
    rw [Int.sign_eq_neg_one_of_neg h]
    exact ⟨Int.sign_eq_neg_one_of_neg (by omega), by omega⟩
  · subst h; simp [od_zero]
  · have h1 := od_pos (v := z.natAbs) (by omega)
    rw [Int.sign_eq_one_of_pos h]
    exact ⟨Int.sign_eq_one_of_pos (by omega), by omega⟩
theorem nz_eq_zero {z : Int} : nz z = 0 ↔ z = 0 := by
  constructor
  · intro h
    have := (nz_facts z).1
    rw [h] at this
    simp at this
    exact Int.sign_eq_zero_iff_zero.1 this.symm
  · rintro rfl; exact nz_zero
theorem nz_odd {z : Int} (h : z ≠ 0) : (nz z).natAbs % 2 = 1 := by
  rw [(nz_facts z).2]
  exact (tz_spec (v := z.natAbs) (by omega)).2
theorem sign_pow_mul (k : Nat) (z : Int) : ((2 : Int) ^ k * z).sign = z.sign := by
  have h : (0 : Int) < 2 ^ k := Int.pow_pos (by omega)
  rw [Int.sign_mul, Int.sign_eq_one_of_pos h, Int.one_mul]
theorem abs_pow_mul (k : Nat) (z : Int) : ((2 : Int) ^ k * z).natAbs = 2 ^ k * z.natAbs := by
  rw [Int.natAbs_mul, Int.natAbs_pow]; rfl
theorem pow_mul_ne {k : Nat} {z : Int} (h : z ≠ 0) : (2 : Int) ^ k * z ≠ 0 := Int.mul_ne_zero (by have : (0 : Int) < 2 ^ k := Int.pow_pos (by omega); omega) h
theorem nz_shl (k : Nat) (z : Int) : nz ((2 : Int) ^ k * z) = nz z := by
  by_cases h : z = 0
  · subst h; simp
  · unfold nz
    rw [sign_pow_mul, abs_pow_mul, od_mul (by omega)]
theorem nx_shl (k : Nat) (z e : Int) : nx ((2 : Int) ^ k * z) e = nx z (e + k) := by
  by_cases h : z = 0
  · subst h; simp [nx_zero]
  · rw [nx_ne h, nx_ne (pow_mul_ne h), abs_pow_mul, tz_mul (by omega)]
    omega
theorem nz_neg (z : Int) : nz (-z) = -nz z := by unfold nz; rw [Int.sign_neg, Int.natAbs_neg, Int.neg_mul]
theorem nx_neg (z e : Int) : nx (-z) e = nx z e := by
  by_cases h : z = 0
  · subst h; simp
  · rw [nx_ne h, nx_ne (by omega), Int.natAbs_neg]

/-- an exact number: its value is z times two to the e -/
def okD (z e : Int) : Prop := (limbs z.natAbs).length ≤ 100 ∧ -3000 ≤ e ∧ e ≤ 3000 ∧ (z = 0 → e = 0) ∧ (z ≠ 0 → z.natAbs % 2 = 1)
theorem okD.nz_ {z e : Int} (h : okD z e) : nz z = z := by
  by_cases h0 : z = 0
  · subst h0; exact nz_zero
  · unfold nz
    rw [od_odd (h.2.2.2.2 h0)]
    rcases Int.lt_trichotomy z 0 with h | h | h
    · rw [Int.sign_eq_neg_one_of_neg h]; omega
    · exact absurd h h0
    · rw [Int.sign_eq_one_of_pos h]; omega
theorem okD.nx_ {z e : Int} (h : okD z e) : nx z e = e := by
  by_cases h0 : z = 0
  · subst h0; rw [nx_zero, h.2.2.2.1 rfl]
  · rw [nx_ne h0, tz_odd (h.2.2.2.2 h0)]; omega

/-- both sides of a sum at the lesser exponent -/
def sumZ (z e z' e' : Int) : Int := (2 : Int) ^ (e - min e e').toNat * z + (2 : Int) ^ (e' - min e e').toNat * z'
theorem sumZ_ge {z e z' e' : Int} (h : e' ≤ e) : sumZ z e z' e' = (2 : Int) ^ (e - e').toNat * z + z' := by
  unfold sumZ
  rw [Int.min_eq_right h, Int.sub_self]
  simp
theorem sumZ_le {z e z' e' : Int} (h : e ≤ e') : sumZ z e z' e' = z + (2 : Int) ^ (e' - e).toNat * z' := by
  unfold sumZ
  rw [Int.min_eq_left h, Int.sub_self]
  simp
theorem sumZ_comm (z e z' e' : Int) : sumZ z e z' e' = sumZ z' e' z e := by
  unfold sumZ
  rw [Int.min_comm, Int.add_comm]
/-- a sum with 0, whatever the exponent of 0 -/
theorem sum_zero_left {e z' e' : Int} : nz (sumZ 0 e z' e') = nz z' ∧ nx (sumZ 0 e z' e') (min e e') = nx z' e' := by
  have h : sumZ 0 e z' e' = (2 : Int) ^ (e' - min e e').toNat * z' := by unfold sumZ; simp
  rw [h, nz_shl, nx_shl]
  refine ⟨rfl, ?_⟩
  congr 1
  have := Int.min_le_right e e'
  omega
theorem sum_zero_right {z e e' : Int} : nz (sumZ z e 0 e') = nz z ∧ nx (sumZ z e 0 e') (min e e') = nx z e := by
  rw [sumZ_comm, Int.min_comm]
  exact sum_zero_left

/-- the number that is not greater, shifted -/
def shZ (z s : Int) : Int := if 0 ≤ s then (2 : Int) ^ s.toNat * z else z / (2 : Int) ^ (-s).toNat
theorem shZ_up {z s : Int} (h : 0 ≤ s) : shZ z s = (2 : Int) ^ s.toNat * z := if_pos h
theorem shZ_down {z s : Int} (h : s < 0) : shZ z s = z / (2 : Int) ^ (-s).toNat := if_neg (by omega)
theorem pow_cast (k : Nat) : (2 : Int) ^ k = ((2 ^ k : Nat) : Int) := by rw [Int.natCast_pow]; rfl
theorem shr_pos (v k : Nat) : (v : Int) / (2 : Int) ^ k = ((v / 2 ^ k : Nat) : Int) := by rw [pow_cast, Int.natCast_ediv]
theorem shr_neg (v k : Nat) : -(v : Int) / (2 : Int) ^ k = -(((v / 2 ^ k + if v % 2 ^ k = 0 then 0 else 1 : Nat)) : Int) := by
  rw [pow_cast]
  have hp := Nat.two_pow_pos k
  generalize 2 ^ k = m at *
  have h1 := Nat.div_add_mod v m
  have h2 := Nat.mod_lt v hp
  generalize hq : v / m = q at *
  generalize hr : v % m = r at *
  by_cases h0 : r = 0
  · rw [if_pos h0]
    subst h0
    have e : -(v : Int) = (m : Int) * (-(q : Int)) := by rw [← h1]; simp [Int.mul_neg]
    rw [e, Int.mul_ediv_cancel_left _ (by omega)]
    simp
  · rw [if_neg h0]
    have e : -(v : Int) = ((m : Int) - r) + (m : Int) * (-((q : Int) + 1)) := by
      rw [← h1]; simp [Int.mul_neg, Int.mul_add]; omega
    rw [e, Int.add_mul_ediv_left _ _ (by omega), Int.ediv_eq_zero_of_lt (by omega) (by omega)]
    simp
end Go.Proofs.Ytnnoobdcdfcdaaa
