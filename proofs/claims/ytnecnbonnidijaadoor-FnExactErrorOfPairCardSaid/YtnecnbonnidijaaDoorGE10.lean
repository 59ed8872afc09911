/- Texts of this seat, joined: Va Pa Pb Pc Pd Pi -/
import Derived.Test.YtnecnbonnidijaaDoorGE2
import Derived.Test.YtnecnbonnidijaaDoorGE9
import Derived.Laws.StructEq
import Derived.Test.YtnecnbonnidijaaDoorGE1
/- Exact numbers in units of a power of two: plain mathematics. -/
namespace Go.Proofs.YtnecnbonnidijaaDoor
set_option maxRecDepth 100000
open Go.RowKit
set_option linter.unusedSimpArgs false
set_option linter.unusedVariables false

/-- z times 2^e in units of 2^B -/
def uV (B z e : Int) : Int := (2 : Int) ^ (e - B).toNat * z
theorem uV_zero (B e : Int) : uV B 0 e = 0 := by unfold uV; rw [Int.mul_zero]
theorem uV_one {B z : Int} : uV B z B = z := by unfold uV; rw [Int.sub_self]; simp
theorem uV_nz {B z e : Int} (h : B ≤ e) : uV B (nz z) (nx z e) = uV B z e := by
  by_cases h0 : z = 0
  · subst h0; rw [nz_zero, uV_zero, uV_zero]
  · unfold uV
    rw [nx_ne h0]
    conv => rhs; rw [nz_pow z]
    rw [← Int.mul_assoc, ← Int.pow_add, show (e - B).toNat + tz z.natAbs = (e + (tz z.natAbs : Int) - B).toNat by omega]
theorem uV_sum {B z e z' e' : Int} (h : B ≤ e) (h' : B ≤ e') : uV B (sumZ z e z' e') (min e e') = uV B z e + uV B z' e' := by
  unfold uV sumZ
  rw [Int.mul_add, ← Int.mul_assoc, ← Int.mul_assoc, ← Int.pow_add, ← Int.pow_add, show (min e e' - B).toNat + (e - min e e').toNat = (e - B).toNat by omega, show (min e e' - B).toNat + (e' - min e e').toNat = (e' - B).toNat by omega]
theorem nz_uV (B z e : Int) : nz (uV B z e) = nz z := nz_shl _ z
theorem nx_uV {B z e : Int} (h : B ≤ e) : nx (uV B z e) B = nx z e := by
  unfold uV
  rw [nx_shl, show B + ((e - B).toNat : Int) = e by omega]
/-- two writings of one number have one normal form -/
theorem nzx_same {B z e z' e' : Int} (h : B ≤ e) (h' : B ≤ e') (g : uV B z e = uV B z' e') : nz z = nz z' ∧ nx z e = nx z' e' := by
  rw [← nz_uV B z e, ← nz_uV B z' e', ← nx_uV h, ← nx_uV h', g]; exact ⟨rfl, rfl⟩
theorem nx_ge {B z e : Int} (h : B ≤ e) (hB : B ≤ 0) : B ≤ nx z e := by
  by_cases h0 : z = 0
  · subst h0; rw [nx_zero]; exact hB
  · rw [nx_ne h0]; omega
/-- multiples of a step less than the number are few -/
theorem uV_abs (B z e : Int) : (uV B z e).natAbs = 2 ^ (e - B).toNat * z.natAbs := by
  unfold uV; rw [Int.natAbs_mul, pow_cast, Int.natAbs_natCast]
theorem uV_le (B z e : Int) : z.natAbs ≤ (uV B z e).natAbs := by
  rw [uV_abs]
  exact Nat.le_mul_of_pos_left _ (Nat.two_pow_pos _)
end Go.Proofs.YtnecnbonnidijaaDoor
/- Rounding to the nearest float, as the float's own operations do it, is rounding in the first of the five modes: plain mathematics. -/
namespace Go.Proofs.YtnecnbonnidijaaDoor
set_option maxRecDepth 100000
open Go.RowKit
set_option linter.unusedSimpArgs false
set_option linter.unusedVariables false
open Ieee

theorem blen_log {v : Nat} (h : v ≠ 0) : blen v = v.log2 + 1 := by unfold blen; rw [if_neg h]
theorem rM_even (S : Int) {v : Nat} (hv : v ≠ 0) (l : Nat) : rM 0 S v (l : Int) = evenCut v l := by
  cases l with
  | zero =>
    rw [evenCut_zero]
    have h1 : rB v ((0 : Nat) : Int) = false := by unfold rB; exact decide_eq_false (by omega)
    unfold rM
    rw [h1, if_neg (by simp)]
    unfold rT
    rw [if_pos (by omega)]
    simp
  | succ k =>
    have hl : (((k + 1 : Nat) : Int)).toNat = k + 1 := by omega
    have h1 : ¬ (((k + 1 : Nat) : Int) ≤ 0) := by omega
    have hH := Nat.two_pow_pos k
    have h2H : 2 ^ (k + 1) = 2 * 2 ^ k := by rw [Nat.pow_succ, Nat.mul_comm]
    have hT : rT v ((k + 1 : Nat) : Int) = v / 2 ^ (k + 1) := by unfold rT; rw [if_neg h1, hl]
    have hr : v % 2 ^ (k + 1) = v % 2 ^ k + 2 ^ k * (v / 2 ^ k % 2) := Nat.mod_pow_succ
    have hrk : v % 2 ^ k < 2 ^ k := Nat.mod_lt _ hH
    unfold rM evenCut
    rw [hT, hr]
    by_cases ht : v / 2 ^ k % 2 = 1
    · by_cases hz : tz v = k
      · have h0 : v % 2 ^ k = 0 := (tz_dvd hv).1 (by omega)
        have hB : rB v ((k + 1 : Nat) : Int) = true := by unfold rB; rw [hl]; exact decide_eq_true ⟨by omega, by omega⟩
        have hh : rH v ((k + 1 : Nat) : Int) = 0 := by unfold rH; rw [hl, Nat.add_sub_cancel, if_pos ht, if_pos hz]
        have e1 : decide (2 ^ (k + 1) < 2 * (v % 2 ^ k + 2 ^ k * (v / 2 ^ k % 2))) = false := decide_eq_false (by rw [ht, h0, h2H]; omega)
        have e2 : (2 ^ (k + 1) == 2 * (v % 2 ^ k + 2 ^ k * (v / 2 ^ k % 2))) = true := by rw [beq_iff_eq, ht, h0, h2H]; omega
        rw [e1, e2, hB, hh]
        unfold away
        cases v / 2 ^ (k + 1) % 2 == 1 <;> simp
      · have hlt : tz v < k := by
          rcases Nat.lt_or_ge (tz v) k with h | h
          · exact h
          · exact absurd (tz_of_bit h (by omega)) hz
        have h0 : v % 2 ^ k ≠ 0 := fun e => by have := (tz_dvd hv).2 e; omega
        have hB : rB v ((k + 1 : Nat) : Int) = true := by unfold rB; rw [hl]; exact decide_eq_true ⟨by omega, by omega⟩
        have hh : rH v ((k + 1 : Nat) : Int) = 1 := by unfold rH; rw [hl, Nat.add_sub_cancel, if_pos ht, if_neg hz]
        have e1 : decide (2 ^ (k + 1) < 2 * (v % 2 ^ k + 2 ^ k * (v / 2 ^ k % 2))) = true := decide_eq_true (by rw [ht, h2H]; omega)
        rw [e1, hB, hh]
        unfold away
        simp
    · have ht0 : v / 2 ^ k % 2 = 0 := by omega
      have hh : rH v ((k + 1 : Nat) : Int) = -1 := by unfold rH; rw [hl, Nat.add_sub_cancel, if_neg ht]
      have e1 : decide (2 ^ (k + 1) < 2 * (v % 2 ^ k + 2 ^ k * (v / 2 ^ k % 2))) = false := decide_eq_false (by rw [ht0, h2H]; omega)
      have e2 : (2 ^ (k + 1) == 2 * (v % 2 ^ k + 2 ^ k * (v / 2 ^ k % 2))) = false := by rw [beq_eq_false_iff_ne, ht0, h2H]; omega
      rw [e1, e2, hh]
      unfold away
      simp
theorem rM_up (S : Int) (v : Nat) {l : Int} (h : l ≤ 0) (mode : Int) : rM mode S v l = v * 2 ^ (-l).toNat := by
  have h1 : rB v l = false := by unfold rB; exact decide_eq_false (by omega)
  unfold rM
  rw [h1, if_neg (by simp)]
  unfold rT
  rw [if_pos h]
theorem rT_ge {v : Nat} (h : v ≠ 0) {E : Int} (hq : rQ v E ≠ -149) : 8388608 ≤ rT v (rQ v E - E) := by
  have : 24 ≤ blen (rT v (rQ v E - E)) := by
    unfold rT
    by_cases h1 : rQ v E - E ≤ 0
    · rw [if_pos h1, Nat.mul_comm, blen_shl h]; unfold rQ at h1 hq ⊢; omega
    · rw [if_neg h1, blen_shr]; unfold rQ at h1 hq ⊢; omega
  have h2 : ¬ blen (rT v (rQ v E - E)) ≤ 23 := by omega
  rw [blen_lt] at h2
  omega
/-- the word of so many steps -/
def wrd (s : Bool) (M : Nat) (q : Int) : Nat := Ieee.single.word s (min ((q + 149).toNat * 8388608 + M) 2139095040)
theorem wrd_s32 (s : Bool) {M : Nat} {q : Int} (hM : M ≤ 16777216) (hq : -149 ≤ q) (hor : q = -149 ∨ 8388608 ≤ M) : s32 s M q = wrd s M q := by
  unfold wrd
  obtain ⟨k, hk⟩ : ∃ k : Nat, q = -149 + (k : Int) := ⟨(q + 149).toNat, by omega⟩
  subst hk
  rw [show ((-149 + (k : Int)) + 149).toNat = k by omega]
  by_cases h : M = 16777216
  · subst h
    rw [s32_same s (repr_top _)]
    have e : ∀ m, m = 8388608 → Ieee.single.nearest s m (-149 + (k : Int) + 1) = Ieee.single.word s (min (k * 8388608 + 16777216) 2139095040) := by
      intro m hm
      have := nearest_canon' Ieee.single s (m := m) (k := k + 1) (by rw [single_binade, hm]; decide) (.inr (by rw [single_binade, hm]; decide))
      rw [single_binade, single_least, single_inf] at this
      rw [show -149 + (k : Int) + 1 = -149 + ((k + 1 : Nat) : Int) by omega, this, show (k + 1) * 8388608 + m = k * 8388608 + 16777216 by omega]
    exact e _ rfl
  · have := nearest_canon' Ieee.single s (m := M) (k := k) (by rw [single_binade]; omega) (by rw [single_binade]; rcases hor with h1 | h1; exact .inl (by omega); exact .inr h1)
    rw [single_binade, single_least, single_inf] at this
    exact this
theorem near_wrd (s : Bool) {v : Nat} (hv : v ≠ 0) (E : Int) (S : Int) : s32 s v E = wrd s (rM 0 S v (rQ v E - E)) (rQ v E) := by
  have hl := blen_log hv
  unfold s32 Format.nearest
  rw [if_neg hv]
  have e1 : max (E + (v.log2 : Int) - (Ieee.single.fractionBits : Int)) Ieee.single.leastPlace = rQ v E := by
    rw [single_least, show Ieee.single.fractionBits = 23 from rfl]; unfold rQ; rw [hl]; omega
  simp only [e1, cut_even, single_binade, single_inf]
  unfold wrd
  rw [single_least, show rQ v E - -149 = rQ v E + 149 by omega]
  congr 3
  by_cases h : rQ v E - E ≤ 0
  · rw [rM_up S v h, show (rQ v E - E).toNat = 0 by omega, evenCut_zero, Nat.shiftLeft_eq, show (-(rQ v E - E)).toNat = (E - rQ v E).toNat by congr 1; omega]
  · obtain ⟨l, hl⟩ : ∃ l : Nat, rQ v E - E = l := ⟨(rQ v E - E).toNat, by omega⟩
    rw [hl, rM_even S hv, show (E - rQ v E).toNat = 0 by omega, Nat.shiftLeft_zero]
    rfl
theorem rM_facts {v : Nat} (hv : v ≠ 0) (mode S E : Int) : rM mode S v (rQ v E - E) ≤ 16777216 ∧ -149 ≤ rQ v E ∧ (rQ v E = -149 ∨ 8388608 ≤ rM mode S v (rQ v E - E)) := by
  refine ⟨rM_le hv mode S E, by unfold rQ; omega, ?_⟩
  by_cases h : rQ v E = -149
  · exact .inl h
  · exact .inr (Nat.le_trans (rT_ge hv h) (rM_ge mode S v _))
theorem blen_24 {M : Nat} (h1 : 8388608 ≤ M) (h2 : M < 16777216) : blen M = 24 := blen_eq (k := 23) h1 h2
/-- the nearest float in hardware is the one in mode 0 -/
theorem near_rd {z : Int} (hz : z ≠ 0) (E : Int) : s32 (decide (z < 0)) z.natAbs E = rdF z E 0 := by
  have hv : z.natAbs ≠ 0 := by omega
  rw [near_wrd _ hv E z.sign]
  obtain ⟨f1, f2, f3⟩ := rM_facts hv 0 z.sign E
  unfold rdF
  rw [if_neg hz]
  by_cases ho : rO 0 z E = true
  · have ha : away 0 z.sign false 1 = true := by unfold away; simp
    rw [if_pos ho, if_pos ha]
    unfold rO at ho
    have ho := of_decide_eq_true ho
    have hmin : min ((rQ z.natAbs E + 149).toNat * 8388608 + rM 0 z.sign z.natAbs (rQ z.natAbs E - E)) 2139095040 = 2139095040 := by
      obtain ⟨M, hM⟩ : ∃ M, M = rM 0 z.sign z.natAbs (rQ z.natAbs E - E) := ⟨_, rfl⟩
      rw [← hM] at f1 f3 ho ⊢
      rcases f3 with f3 | f3
      · have := blen_mono f1; rw [blen_top] at this; omega
      · by_cases h : M = 16777216
        · subst h; rw [blen_top] at ho; omega
        · rw [blen_24 f3 (by omega)] at ho; omega
    unfold wrd
    rw [hmin]
    by_cases hn : z < 0
    · rw [if_pos hn, decide_eq_true hn]; rfl
    · rw [if_neg hn, decide_eq_false hn]; rfl
  · rw [if_neg ho, wrd_s32 _ f1 f2 f3]
end Go.Proofs.YtnecnbonnidijaaDoor
/- What the nearest float loses of a sum is a float, and quick sums find it: plain mathematics, in whole units. -/
namespace Go.Proofs.YtnecnbonnidijaaDoor
set_option maxRecDepth 100000
open Go.RowKit
set_option linter.unusedSimpArgs false
set_option linter.unusedVariables false
open Ieee

/-- the value nearest to v -/
def rn (v : Nat) : Nat := evenCut v (blen v - 24) * 2 ^ (blen v - 24)
/-- it is the value of a float, if it is not too great -/
def FN (v : Nat) : Prop := ∃ m k : Nat, m < 16777216 ∧ v = m * 2 ^ k
theorem FN.zero : FN 0 := ⟨0, 0, by decide, rfl⟩
/-- the same of a number with a sign -/
def rnI (z : Int) : Int := if z < 0 then -((rn z.natAbs : Nat) : Int) else ((rn z.natAbs : Nat) : Int)
end Go.Proofs.YtnecnbonnidijaaDoor
/- The language's own sums, differences and products of finite floats are the exact ones, rounded to the nearest. -/
namespace Go.Proofs.YtnecnbonnidijaaDoor
set_option maxRecDepth 100000
open Go.RowKit
set_option linter.unusedSimpArgs false
set_option linter.unusedVariables false
open Ieee

/-- a finite float in units of 2^-149 -/
def uI (b : Nat) : Int := fz b * (2 : Int) ^ (fe b + 149).toNat
theorem ofM_fz (b : Nat) : ofM b = (2 : Int) ^ tz (ofM b).natAbs * fz b := nz_pow (ofM b)
theorem fe_tz (b : Nat) (h : ofM b ≠ 0) : fe b = ofP b + (tz (ofM b).natAbs : Int) := nx_ne h
theorem fz_zero (b : Nat) : fz b = 0 ↔ ofM b = 0 := nz_eq_zero
theorem ofP_ge (b : Nat) : -149 ≤ ofP b := by unfold ofP; omega
theorem uI_ofM (b : Nat) : uI b = ofM b * (2 : Int) ^ expo (b % 2147483648) := by
  unfold uI
  by_cases h0 : ofM b = 0
  · rw [(fz_zero b).2 h0, h0]; simp
  · have h1 := fe_tz b h0
    have h2 := ofM_fz b
    have h3 : ofP b = -149 + expo (b % 2147483648) := rfl
    conv => rhs; rw [h2]
    rw [show (fe b + 149).toNat = expo (b % 2147483648) + tz (ofM b).natAbs by omega, Int.pow_add]
    rw [Int.mul_comm ((2 : Int) ^ tz _) (fz b), Int.mul_assoc, Int.mul_comm ((2 : Int) ^ tz _)]
theorem uI_abs (b : Nat) : (uI b).natAbs = mant (b % 2147483648) * 2 ^ expo (b % 2147483648) := by
  rw [uI_ofM, Int.natAbs_mul, ofM_abs, pow_cast, Int.natAbs_natCast]
theorem sum_units {z e z' e' : Int} (h : -149 ≤ e) (h' : -149 ≤ e') : (2 : Int) ^ (min e e' + 149).toNat * sumZ z e z' e' = z * (2 : Int) ^ (e + 149).toNat + z' * (2 : Int) ^ (e' + 149).toNat := by
  unfold sumZ
  rw [Int.mul_add, ← Int.mul_assoc, ← Int.mul_assoc, ← Int.pow_add, ← Int.pow_add, show (min e e' + 149).toNat + (e - min e e').toNat = (e + 149).toNat by omega, show (min e e' + 149).toNat + (e' - min e e').toNat = (e' + 149).toNat by omega, Int.mul_comm z, Int.mul_comm z']
theorem rd_units {z e z' e' : Int} (h : -149 ≤ e) (h' : -149 ≤ e') (mode : Int) : rdF (sumZ z e z' e') (min e e') mode = rdF (z * (2 : Int) ^ (e + 149).toNat + z' * (2 : Int) ^ (e' + 149).toNat) (-149) mode := by
  have h1 := (rd_shl (min e e' + 149).toNat (sumZ z e z' e') (-149) mode).1
  rw [show (-149 : Int) + ((min e e' + 149).toNat : Nat) = min e e' by omega, sum_units h h'] at h1
  exact h1.symm
theorem sum_zero_units {z e z' e' : Int} (h : -149 ≤ e) (h' : -149 ≤ e') : sumZ z e z' e' = 0 ↔ z * (2 : Int) ^ (e + 149).toNat + z' * (2 : Int) ^ (e' + 149).toNat = 0 := by
  rw [← sum_units h h']
  have hp := Int.pow_pos (n := (2 : Int)) (m := (min e e' + 149).toNat) (by omega)
  constructor
  · intro e; rw [e, Int.mul_zero]
  · intro e
    rcases Int.mul_eq_zero.1 e with h1 | h1
    · omega
    · exact h1
theorem ofM_if (b : Nat) : ofM b = if 2147483648 ≤ b then -(mant (b % 2147483648) : Int) else (mant (b % 2147483648) : Int) := by
  unfold ofM smant32 place32
  have h0 := mant_zero (b % 2147483648)
  by_cases h : 2147483648 ≤ b
  · simp only [h, decide_true, if_true]
    by_cases h1 : -((b % 2147483648 : Nat) : Int) < 0
    · rw [if_pos h1]
    · rw [if_neg h1, h0.2 (by omega)]; rfl
  · simp only [h, decide_false, Bool.false_eq_true, if_false]
    rw [if_neg (by omega)]
theorem signed_of (b : Nat) (k : Nat) : signed (decide (2147483648 ≤ b)) (mant (b % 2147483648)) k = (2 : Int) ^ k * ofM b := by
  rw [signed_eq, ofM_if]
  by_cases h : 2147483648 ≤ b
  · rw [decide_eq_true h, if_pos rfl, if_pos h, Int.mul_comm ((2 : Int) ^ k), Int.neg_mul, Int.one_mul, Int.neg_mul]
  · rw [decide_eq_false h, if_neg (by simp), if_neg h, Int.one_mul, Int.mul_comm]
theorem word_zero (s : Bool) : Ieee.single.word s 0 = mzF s := by cases s <;> rfl
theorem sgs_zero (x y : Nat) : zF (sgS (sgn x) (sgn y)) 0 = mzF (neg32 x && neg32 y) := by
  unfold zF sgS sgn mzF
  cases neg32 x <;> cases neg32 y <;> simp
theorem ad_zero (x y : Nat) (hf1 : fin32 x = true) (hf2 : fin32 y = true) : adZ x y = 0 ↔ uI x + uI y = 0 := by
  unfold adZ uI
  exact sum_zero_units (fe_small hf1).1 (fe_small hf2).1
/-- the sum, in units -/
theorem ad_units (x y : Nat) (hf1 : fin32 x = true) (hf2 : fin32 y = true) : adF x y 0 = if uI x + uI y = 0 then mzF (neg32 x && neg32 y) else rdF (uI x + uI y) (-149) 0 := by
  unfold adF xF
  by_cases h : adZ x y = 0
  · rw [if_pos h, if_pos ((ad_zero x y hf1 hf2).1 h), sgs_zero]
  · rw [if_neg h, if_neg (fun e => h ((ad_zero x y hf1 hf2).2 e))]
    unfold adZ
    rw [rd_units (fe_small hf1).1 (fe_small hf2).1]
    rfl
theorem hw_add (x y : Nat) (hx : x < 4294967296) (hy : y < 4294967296) (hf1 : fin32 x = true) (hf2 : fin32 y = true) : floatBits .add .f32 x y = some (adF x y 0) := by
  have g1 : x % 2147483648 < 2139095040 := of_decide_eq_true hf1
  have g2 : y % 2147483648 < 2139095040 := of_decide_eq_true hf2
  rw [ad_units x y hf1 hf2]
  show Ieee.single.add x y = _
  unfold Format.add
  rw [read32 x hx g1, read32 y hy g2]
  unfold Datum.sum
  simp only
  rw [signed_of x, signed_of y]
  obtain ⟨T, hT⟩ : ∃ T, T = sumZ (ofM x) (ofP x) (ofM y) (ofP y) := ⟨_, rfl⟩
  have e1 : (2 : Int) ^ (-149 + (expo (x % 2147483648) : Int) - min (-149 + (expo (x % 2147483648) : Int)) (-149 + (expo (y % 2147483648) : Int))).toNat * ofM x + (2 : Int) ^ (-149 + (expo (y % 2147483648) : Int) - min (-149 + (expo (x % 2147483648) : Int)) (-149 + (expo (y % 2147483648) : Int))).toNat * ofM y = T := by rw [hT]; rfl
  rw [e1]
  have k1 : (ofP x + 149).toNat = expo (x % 2147483648) := by unfold ofP; omega
  have k2 : (ofP y + 149).toNat = expo (y % 2147483648) := by unfold ofP; omega
  have hz : T = 0 ↔ uI x + uI y = 0 := by rw [hT, sum_zero_units (ofP_ge x) (ofP_ge y), uI_ofM, uI_ofM, k1, k2]
  rw [Option.map_some]
  congr 1
  show Ieee.single.nearest _ _ _ = _
  by_cases h0 : T = 0
  · rw [if_pos h0, if_pos (hz.1 h0), h0]
    show Ieee.single.nearest _ 0 _ = _
    unfold Format.nearest
    rw [if_pos rfl, word_zero]
    rfl
  · rw [if_neg h0, if_neg (fun e => h0 (hz.2 e))]
    show s32 _ _ _ = _
    rw [near_rd h0, hT]
    show rdF _ (min (ofP x) (ofP y)) 0 = _
    rw [rd_units (ofP_ge x) (ofP_ge y), uI_ofM, uI_ofM, k1, k2]
end Go.Proofs.YtnecnbonnidijaaDoor
/- What a pair is, of the program and of the model. -/
namespace Go.Proofs.YtnecnbonnidijaaDoor
set_option maxRecDepth 100000
open Go.RowKit
set_option linter.unusedSimpArgs false
set_option linter.unusedVariables false

theorem ret_boolE {a b : Bool} (h : a = b) : Ending.returned (.bool a) = .returned (.bool b) := by rw [h]
set_option maxHeartbeats 1000000 in
theorem implAllFin_any (l : List Nat) (A : Option Addr) (n c B : Nat) (w : World) (hr : Rd w B A (fs l)) (hn : l.length = n) (hm : (n : Int) ≤ 100) (hl : ∀ f ∈ l, f < 4294967296) :
    Calls Tryd.prog 132 #[.slice A n c] w fun e w' => e = .returned (.bool (l.all fin32)) ∧ w = w' := by
  have Hn := Lib.hid hn
  have Hr := Lib.hid hr
  have Hl := Lib.hid hl
  clear hr hn hl
  go_enter Tryd.func132, Tryd.ntmps132
  go_wp2_with fail
  go_loop [7] (fun i => ∃ k : Nat, k ≤ n ∧ i = .int .i64 k ∧ (l.take k).all fin32 = true) (fun i => n - (intOf i).toNat)
  case atStart => exact ⟨0, Nat.zero_le _, rfl, rfl⟩
  case round =>
    obtain ⟨k, hk, rfl, hall⟩ := hrel
    have Hall := Lib.hid hall
    clear hall
    by_cases hlt : k < n
    · have hkx : k < l.length := by rw [Hn.out]; exact hlt
      obtain ⟨q, hq, _⟩ := Hr.out.some_ (by rw [fs_len]; omega)
      subst hq
      have hcx := Hr.out.cell (k := k) (by rw [fs_len]; exact hkx)
      rw [fs_get hkx] at hcx
      have Hfb := Lib.hid (Hl.out _ (List.getElem_mem hkx))
      by_cases hf : fin32 l[k] = true
      · have Hnx := Lib.hid (all_take hkx Hall.out hf)
        generalize l[k] = x at *
        have Hf := Lib.hid hf
        clear hf hkx
        go_wp2_with fail
        refine (implFinite_any x _ Hfb.out).mono ?_
        rintro e w9 ⟨rfl, rfl⟩
        rw [Hf.out]
        go_wp2_with fail
        go_round
        case rel => exact ⟨k + 1, by omega, by go_num, Hnx.out⟩
        case measure => simp [intOf]; omega
      · have hf2 : fin32 l[k] = false := by simpa using hf
        have Hnx := Lib.hid (not_all hkx hf2)
        generalize l[k] = x at *
        have Hf := Lib.hid hf2
        clear hf hf2 hkx
        go_wp2_with fail
        refine (implFinite_any x _ Hfb.out).mono ?_
        rintro e w9 ⟨rfl, rfl⟩
        rw [Hf.out]
        go_wp2_with fail
        go_ret
        exact ⟨ret_boolE Hnx.out.symm, rfl⟩
    · have hin : k = n := by omega
      have Hal : Hid (l.all fin32 = true) := Lib.hid (by have h := Hall.out; rwa [List.take_of_length_le (by rw [Hn.out]; omega)] at h)
      subst hin
      go_wp2_with fail
      go_ret
      exact ⟨ret_boolE Hal.out.symm, rfl⟩

theorem run_equalIn_f32 {P : Program} (d : Nat) (t : TypeId) (a b : Nat) (w : World) (h : P.underlying t = some (.float .f32)) : (Op.equalIn (d + 1) t (.float .f32 a) (.float .f32 b)).run P w = .ok (FloatKind.f32.format.order a b == some .eq) w := by
  simp [Op.equalIn, run_underlying h]
  rfl
theorem pair_fields : ∃ f g : Field, (Tryd.prog.fieldsOf 48).toList = [f, g] ∧ f.name ≠ "_" ∧ g.name ≠ "_" ∧ f.type = 40 ∧ g.type = 40 ∧ f.offset = 0 ∧ g.offset = 1 :=
  ⟨_, _, rfl, by decide, by decide, rfl, rfl, rfl, rfl⟩
/-- two pairs compared -/
theorem run_pair_eql (a b c d : Nat) (w : World) : (binOp .eql 48 (.agg #[.float .f32 a, .float .f32 b]) (.agg #[.float .f32 c, .float .f32 d])).run Tryd.prog w = .ok (.bool ((FloatKind.f32.format.order a c == some .eq) && (FloatKind.f32.format.order b d == some .eq))) w := by
  rw [run_eql_struct, run_equalIn_agg w 9999 48 _ _ (by kernel_rfl) (by kernel_rfl)]
  obtain ⟨f, g, h, n1, n2, t1, t2, o1, o2⟩ := pair_fields
  rw [h]
  have hu : Tryd.prog.underlying 40 = some (.float .f32) := Tryd.underlying40
  have hp : ∀ (x y : Nat) (w : World), (part 40 #[.float .f32 x, .float .f32 y] 0).run Tryd.prog w = .ok (.float .f32 x) w := fun x y w => by go_simp
  have hq : ∀ (x y : Nat) (w : World), (part 40 #[.float .f32 x, .float .f32 y] 1).run Tryd.prog w = .ok (.float .f32 y) w := fun x y w => by go_simp
  have e1 := fun w => run_equalIn_f32 (P := Tryd.prog) 9998 40 a c w hu
  have e2 := fun w => run_equalIn_f32 (P := Tryd.prog) 9998 40 b d w hu
  generalize (FloatKind.f32.format.order a c == some .eq) = p at *
  generalize (FloatKind.f32.format.order b d == some .eq) = q at *
  simp only [Op.eqFields, n1, n2, t1, t2, o1, o2, ne_eq, not_false_eq_true, if_true, Sem.run_bind, hp, hq, Result.andThen_ok, e1]
  cases p <;> simp [Sem.run_pure, hp, hq, e2]
  cases q <;> simp
/-- a box of two floats -/
def PB (w : World) (b h l : Nat) : Prop := (w.cell? ⟨b, 0, none⟩ = some (.float .f32 h) ∧ w.cell? ⟨b, 1, none⟩ = some (.float .f32 l)) ∧ b < w.heap.size
theorem PB.next {w w' : World} {b h l : Nat} (x : PB w b h l) (hb : Below w.heap.size w w') : PB w' b h l :=
  ⟨⟨(hb.cell (p := ⟨b, 0, none⟩) x.2).trans x.1.1, (hb.cell (p := ⟨b, 1, none⟩) x.2).trans x.1.2⟩, Nat.lt_of_lt_of_le x.2 hb.size⟩
theorem PB.drew {w : World} {b h l : Nat} (x : PB w b h l) : PB w.drew b h l := x
theorem PB.keep {w : World} {b h l : Nat} (x : PB w b h l) {p : Addr} (hp : p.block ≠ b) (u : Value) : PB (w.setCell p u) b h l := by
  have hk : ∀ o, (w.setCell p u).cell? ⟨b, o, none⟩ = w.cell? ⟨b, o, none⟩ := fun o => World.cell?_of_block (a := ⟨b, o, none⟩) (Below.heap_setCell _ _ _ _ (fun e => hp e.symm))
  exact ⟨⟨(hk 0).trans x.1.1, (hk 1).trans x.1.2⟩, by have := x.2; simpa using this⟩
theorem PB.new (w : World) (h l : Nat) (T : TypeId) : PB (w.alloc (.cells #[.float .f32 h, .float .f32 l] T)) w.heap.size h l := ⟨by constructor <;> simp, by simp⟩
/-- a pair -/
def isP (h l : Nat) : Bool := fin32 h && fin32 l && (FloatKind.f32.format.order (adF h l 0) h == some .eq)
theorem isP_fin {h l : Nat} (hp : isP h l = true) : fin32 h = true ∧ fin32 l = true := by
  unfold isP at hp
  simp only [Bool.and_eq_true] at hp
  exact hp.1
theorem isP_not {h l : Nat} (hf : ¬ (fin32 h = true ∧ fin32 l = true)) : isP h l = false := by
  unfold isP
  cases h1 : fin32 h <;> cases h2 : fin32 l <;> simp_all
theorem Kt_ok (h l : Nat) : adF h l 0 < 4294967296 ∧ nan32 (adF h l 0) = false := xF_ok _ _ _ _
theorem order32_comm (a b : Nat) (ha : a < 4294967296) (hb : b < 4294967296) (na : nan32 a = false) (nb : nan32 b = false) : (FloatKind.f32.format.order a b == some .eq) = (FloatKind.f32.format.order b a == some .eq) := by
  rw [eq32 a b ha hb na nb, eq32 b a hb ha nb na]
  rw [decide_eq_decide]
  exact ⟨Eq.symm, Eq.symm⟩
theorem two_lt {h l : Nat} (x : h < 4294967296 ∧ l < 4294967296) : ∀ f ∈ [h, l], f < 4294967296 := by
  intro f hf
  simp only [List.mem_cons, List.not_mem_nil, or_false] at hf
  rcases hf with rfl | rfl
  · exact x.1
  · exact x.2
set_option maxHeartbeats 1000000 in
theorem implIsPair_any (h l : Nat) (w : World) (hh : h < 4294967296) (hl : l < 4294967296) :
    Calls Tryd.prog 75 #[.agg #[.float .f32 h, .float .f32 l]] w fun e w' => e = .returned (.bool (isP h l)) ∧ Below w.heap.size w w' := by
  have Hhl := Lib.hid (And.intro hh hl)
  obtain ⟨w1, hw1⟩ : ∃ w1, w1 = w.alloc (.cells #[.float .f32 h, .float .f32 l] 48) := ⟨_, rfl⟩
  obtain ⟨w2, hw2⟩ : ∃ w2, w2 = w1.alloc (.cells #[.float .f32 h, .float .f32 l] 40) := ⟨_, rfl⟩
  have hr2 : Rd w2 w2.heap.size (some ⟨w.heap.size + 1, 0, none⟩) (fs [h, l]) := by
    have e : w1.heap.size = w.heap.size + 1 := by rw [hw1]; simp
    rw [hw2, ← e]; exact rd_two _ _ _ _
  have hb2 : Below w.heap.size w w2 := by rw [hw2, hw1]; exact belNext (belAlloc1 _ _) (belAlloc1 _ _)
  have hc0 : w2.cell? ⟨w.heap.size, 0, none⟩ = some (.float .f32 h) ∧ w2.cell? ⟨w.heap.size, 1, none⟩ = some (.float .f32 l) := by rw [hw2, hw1]; constructor <;> simp
  obtain ⟨hc0, hc1⟩ := hc0
  have Hr2 := Lib.hid hr2
  have Hb2 := Lib.hid hb2
  have Hw := Lib.hid (And.intro hw1 hw2)
  clear hr2 hb2 hw1 hw2 hh hl
  by_cases hf : fin32 h = true ∧ fin32 l = true
  · have Hf := Lib.hid hf
    have ha := hw_add h l Hhl.out.1 Hhl.out.2 hf.1 hf.2
    have Hres : Hid (isP h l = ((FloatKind.f32.format.order h (adF h l 0) == some .eq) && (FloatKind.f32.format.order l l == some .eq))) := Lib.hid (by
      have ho := Kt_ok h l
      unfold isP
      rw [hf.1, hf.2, self32 l Hhl.out.2, fin_nan hf.2, order32_comm _ _ ho.1 Hhl.out.1 ho.2 (fin_nan hf.1)]
      simp)
    have Hall : Hid ([h, l].all fin32 = true) := Lib.hid (by simp [hf.1, hf.2])
    obtain ⟨s, hs⟩ : ∃ s, s = adF h l 0 := ⟨_, rfl⟩
    rw [← hs] at ha Hres
    have hop : ∀ t w, (binOp .add t (.float .f32 h) (.float .f32 l)).run Tryd.prog w = .ok (.float .f32 s) w := fun t w => run_float_arith w .add t .f32 _ _ _ ha
    have he : ∀ w, (binOp .eql 48 (.agg #[.float .f32 h, .float .f32 l]) (.agg #[.float .f32 s, .float .f32 l])).run Tryd.prog w = .ok (.bool (isP h l)) w := fun w => by rw [Hres.out]; exact run_pair_eql h l s l w
    clear hs hf
    go_enter Tryd.func75, Tryd.ntmps75
    go_wp2_with fail
    rw [← Hw.out.1, ← Hw.out.2]
    refine (implAllFin_any [h, l] _ 2 2 _ w2 Hr2.out rfl (by omega) (two_lt Hhl.out)).mono ?_
    rintro e w9 ⟨rfl, rfl⟩
    rw [Hall.out]
    go_wp2_with fail
    go_ret
    exact ⟨rfl, Hb2.out⟩
  · have Hres : Hid (isP h l = false) := Lib.hid (isP_not hf)
    have Hall : Hid ([h, l].all fin32 = false) := Lib.hid (by
      cases h1 : fin32 h <;> cases h2 : fin32 l <;> simp_all)
    clear hf
    go_enter Tryd.func75, Tryd.ntmps75
    go_wp2_with fail
    rw [← Hw.out.1, ← Hw.out.2]
    refine (implAllFin_any [h, l] _ 2 2 _ w2 Hr2.out rfl (by omega) (two_lt Hhl.out)).mono ?_
    rintro e w9 ⟨rfl, rfl⟩
    rw [Hall.out]
    go_wp2_with fail
    go_ret
    exact ⟨ret_boolE Hres.out.symm, Hb2.out⟩
set_option maxHeartbeats 1000000 in
theorem specIsPair_any (h l : Nat) (w : World) (hh : h < 4294967296) (hl : l < 4294967296) :
    Calls Tryd.prog 73 #[.agg #[.float .f32 h, .float .f32 l]] w fun e w' => e = .returned (.bool (isP h l)) ∧ Below w.heap.size w w' := by
  have Hhl := Lib.hid (And.intro hh hl)
  obtain ⟨w1, hw1⟩ : ∃ w1, w1 = w.alloc (.cells #[.float .f32 h, .float .f32 l] 48) := ⟨_, rfl⟩
  have hb1 : Below w.heap.size w w1 := by rw [hw1]; exact belAlloc1 _ _
  have hP1 : PB w1 w.heap.size h l := by rw [hw1]; exact PB.new _ _ _ _
  have Hb1 := Lib.hid hb1
  have P1 := Lib.hid hP1
  have Hw := Lib.hid hw1
  clear hb1 hw1 hh hl hP1
  obtain ⟨⟨hc0, hc1⟩, hc2⟩ := P1.out
  go_enter Tryd.func73, Tryd.ntmps73
  go_wp2_with fail
  rw [← Hw.out]
  refine (finB_any h _ Hhl.out.1).mono ?_
  rintro e w2 ⟨rfl, hb⟩
  have Hb2 := Lib.hid (belNext Hb1.out hb)
  have P2 := Lib.hid (P1.out.next hb)
  clear hb hc0 hc1 hc2
  obtain ⟨⟨hc0, hc1⟩, hc2⟩ := P2.out
  by_cases h1 : fin32 h = true
  · have H1 := Lib.hid h1
    rw [h1]
    clear h1
    go_wp2_with fail
    refine (finB_any l _ Hhl.out.2).mono ?_
    rintro e w3 ⟨rfl, hb⟩
    have Hb3 := Lib.hid (belNext Hb2.out hb)
    have P3 := Lib.hid (P2.out.next hb)
    clear hb hc0 hc1 hc2
    obtain ⟨⟨hc0, hc1⟩, hc2⟩ := P3.out
    by_cases h2 : fin32 l = true
    · have ha := hw_add h l Hhl.out.1 Hhl.out.2 H1.out h2
      have Hres : Hid (isP h l = (FloatKind.f32.format.order (adF h l 0) h == some .eq)) := Lib.hid (by unfold isP; rw [H1.out, h2]; rfl)
      obtain ⟨s, hs⟩ : ∃ s, s = adF h l 0 := ⟨_, rfl⟩
      rw [← hs] at ha Hres
      have hop : ∀ t w, (binOp .add t (.float .f32 h) (.float .f32 l)).run Tryd.prog w = .ok (.float .f32 s) w := fun t w => run_float_arith w .add t .f32 _ _ _ ha
      rw [h2]
      clear hs h2
      go_wp2_with fail
      go_ret
      exact ⟨ret_boolE Hres.out.symm, Hb3.out⟩
    · have h3 : fin32 l = false := by simpa using h2
      have Hres : Hid (isP h l = false) := Lib.hid (isP_not (fun h => h2 h.2))
      rw [h3]
      clear h2 h3
      go_wp2_with fail
      go_ret
      exact ⟨ret_boolE Hres.out.symm, Hb3.out⟩
  · have h3 : fin32 h = false := by simpa using h1
    have Hres : Hid (isP h l = false) := Lib.hid (isP_not (fun h => h1 h.1))
    rw [h3]
    clear h1 h3
    go_wp2_with fail
    go_ret
    exact ⟨ret_boolE Hres.out.symm, Hb2.out⟩
end Go.Proofs.YtnecnbonnidijaaDoor
/- A pair of the laws: what came in, and as the program takes it. -/
namespace Go.Proofs.YtnecnbonnidijaaDoor
set_option maxRecDepth 100000
open Go.RowKit
set_option linter.unusedSimpArgs false
set_option linter.unusedVariables false

theorem PB.grown {w w' : World} {b h l lo hi : Nat} {row : Option Nat} (x : PB w b h l) (hg : w.grownBy w' row) (hr : ∀ g, row = some g → lo ≤ g ∧ g < hi) (hne : b < lo ∨ hi ≤ b) : PB w' b h l := by
  have hb : w'.heap[b]? = w.heap[b]? := hg.block b x.2 (fun e => by have := hr b e.symm; omega)
  exact ⟨⟨(World.cell?_of_block (a := ⟨b, 0, none⟩) hb).trans x.1.1, (World.cell?_of_block (a := ⟨b, 1, none⟩) hb).trans x.1.2⟩, Nat.lt_of_lt_of_le x.2 hg.size⟩
set_option maxHeartbeats 1000000 in
theorem toPair_any (h l : Nat) (w : World) : Calls Tryd.prog 25 #[.agg #[.float .f32 h, .float .f32 l]] w fun e w' => e = .returned (.agg #[.float .f32 h, .float .f32 l]) ∧ Below w.heap.size w w' := by
  have hst := store_float Tryd.prog
  go_enter Tryd.func25, Tryd.ntmps25
  go_wp2_with fail
  refine bodyPost_ret (v := .agg #[.float .f32 h, .float .f32 l]) (by simp [results, Tryd.results25, go_sem]) rfl ⟨rfl, ?_⟩
  repeat (first | exact Below.refl _ _ | refine Below.alloc ?_ (by first | (simp; done) | (simp; omega)) _ | refine Below.setCell ?_ (by first | (simp; done) | (simp; omega)) _)
section
open Go.ChangeShapes Go.WideShapes Go.ChangeAt Go.Deep
variable {H : Type} {enc : TypeId × Value → H}
/-- a pair of the laws that came in -/
theorem open_pair {W : World} {base : Nat} {v : Value} {d : DataW H} {p : List MemPlace} (hval : Value.okWide Tryd.prog W .any base 46 v)
    (h : DataW.Trod enc Tryd.prog W 0 (fun _ => true) true 46 v d p) :
    ∃ (x y : Nat), v = .agg #[.float .f32 x, .float .f32 y] ∧ x < 4294967296 ∧ y < 4294967296 := by
  obtain ⟨v0, v1, y0, y1, m, rfl, _, _, h0, h1⟩ := Go.Joins.open_agg2 Tryd.underlying46 (by kernel_rfl) (by kernel_rfl) hval h
  obtain ⟨x, rfl, hx⟩ := trod_float Tryd.underlying40 h0
  obtain ⟨y, rfl, hy⟩ := trod_float Tryd.underlying40 h1
  simp only [Lit.wf, decide_eq_true_eq] at hx hy
  exact ⟨x, y, rfl, hx, hy⟩
end
end Go.Proofs.YtnecnbonnidijaaDoor
