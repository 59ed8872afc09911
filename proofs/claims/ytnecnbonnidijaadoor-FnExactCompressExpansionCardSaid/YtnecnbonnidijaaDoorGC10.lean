/- Texts of this seat, joined: Va Pa Pb Pc Pd Pi -/
import Derived.Test.YtnecnbonnidijaaDoorGC2
import Derived.Test.YtnecnbonnidijaaDoorGC9
import Derived.Laws.StructEq
/- Exact numbers in units of a power of two: plain mathematics. -/
namespace Go.Proofs.YtnecnbonnidijaaDoor
set_option maxRecDepth 100000
open Go.RowKit
set_option linter.unusedSimpArgs false
set_option linter.unusedVariables false

/-- z times 2^e in units of 2^B -/
def uV (B z e : Int) : Int := (2 : Int) ^ (e - B).toNat * z
theorem uV_zero (B e : Int) : uV B 0 e = 0 := by unfold uV; rw [Int.mul_zero]
theorem uV_one {B z : Int} : uV B z B = z := by unfold uV; rw [Int.sub_self]; simp
theorem uV_nz {B z e : Int} (h : B ≤ e) : uV B (nz z) (nx z e) = uV B z e := by
  by_cases h0 : z = 0
  · subst h0; rw [nz_zero, uV_zero, uV_zero]
  · unfold uV
    rw [nx_ne h0]
    conv => rhs; rw [nz_pow z]
    rw [← Int.mul_assoc, ← Int.pow_add, show (e - B).toNat + tz z.natAbs = (e + (tz z.natAbs : Int) - B).toNat by omega]
theorem uV_sum {B z e z' e' : Int} (h : B ≤ e) (h' : B ≤ e') : uV B (sumZ z e z' e') (min e e') = uV B z e + uV B z' e' := by
  unfold uV sumZ
  rw [Int.mul_add, ← Int.mul_assoc, ← Int.mul_assoc, ← Int.pow_add, ← Int.pow_add, show (min e e' - B).toNat + (e - min e e').toNat = (e - B).toNat by omega, show (min e e' - B).toNat + (e' - min e e').toNat = (e' - B).toNat by omega]
theorem uV_neg (B z e : Int) : uV B (-z) e = -uV B z e := by unfold uV; rw [Int.mul_neg]
theorem nz_uV (B z e : Int) : nz (uV B z e) = nz z := nz_shl _ z
theorem nx_uV {B z e : Int} (h : B ≤ e) : nx (uV B z e) B = nx z e := by
  unfold uV
  rw [nx_shl, show B + ((e - B).toNat : Int) = e by omega]
theorem sign_uV (B z e : Int) : (uV B z e).sign = z.sign := sign_pow_mul _ z
theorem rd_uV {B z e : Int} (h : B ≤ e) (mode : Int) : rdF (uV B z e) B mode = rdF z e mode ∧ rdL (uV B z e) B mode = rdL z e mode := by
  have h1 := rd_shl (e - B).toNat z B mode
  rw [show B + ((e - B).toNat : Int) = e by omega] at h1
  exact h1
/-- two writings of one number have one normal form -/
theorem nzx_same {B z e z' e' : Int} (h : B ≤ e) (h' : B ≤ e') (g : uV B z e = uV B z' e') : nz z = nz z' ∧ nx z e = nx z' e' := by
  rw [← nz_uV B z e, ← nz_uV B z' e', ← nx_uV h, ← nx_uV h', g]; exact ⟨rfl, rfl⟩
theorem nx_ge {B z e : Int} (h : B ≤ e) (hB : B ≤ 0) : B ≤ nx z e := by
  by_cases h0 : z = 0
  · subst h0; rw [nx_zero]; exact hB
  · rw [nx_ne h0]; omega
/-- multiples of a step less than the number are few -/
theorem uV_abs (B z e : Int) : (uV B z e).natAbs = 2 ^ (e - B).toNat * z.natAbs := by
  unfold uV; rw [Int.natAbs_mul, pow_cast, Int.natAbs_natCast]
theorem uV_le (B z e : Int) : z.natAbs ≤ (uV B z e).natAbs := by
  rw [uV_abs]
  exact Nat.le_mul_of_pos_left _ (Nat.two_pow_pos _)
end Go.Proofs.YtnecnbonnidijaaDoor
/- Rounding to the nearest float, as the float's own operations do it, is rounding in the first of the five modes: plain mathematics. -/
namespace Go.Proofs.YtnecnbonnidijaaDoor
set_option maxRecDepth 100000
open Go.RowKit
set_option linter.unusedSimpArgs false
set_option linter.unusedVariables false
open Ieee

theorem blen_log {v : Nat} (h : v ≠ 0) : blen v = v.log2 + 1 := by unfold blen; rw [if_neg h]
theorem rM_even (S : Int) {v : Nat} (hv : v ≠ 0) (l : Nat) : rM 0 S v (l : Int) = evenCut v l := by
  cases l with
  | zero =>
    rw [evenCut_zero]
    have h1 : rB v ((0 : Nat) : Int) = false := by unfold rB; exact decide_eq_false (by omega)
    unfold rM
    rw [h1, if_neg (by simp)]
    unfold rT
    rw [if_pos (by omega)]
    simp
  | succ k =>
    have hl : (((k + 1 : Nat) : Int)).toNat = k + 1 := by omega
    have h1 : ¬ (((k + 1 : Nat) : Int) ≤ 0) := by omega
    have hH := Nat.two_pow_pos k
    have h2H : 2 ^ (k + 1) = 2 * 2 ^ k := by rw [Nat.pow_succ, Nat.mul_comm]
    have hT : rT v ((k + 1 : Nat) : Int) = v / 2 ^ (k + 1) := by unfold rT; rw [if_neg h1, hl]
    have hr : v % 2 ^ (k + 1) = v % 2 ^ k + 2 ^ k * (v / 2 ^ k % 2) := Nat.mod_pow_succ
    have hrk : v % 2 ^ k < 2 ^ k := Nat.mod_lt _ hH
    unfold rM evenCut
    rw [hT, hr]
    by_cases ht : v / 2 ^ k % 2 = 1
    · by_cases hz : tz v = k
      · have h0 : v % 2 ^ k = 0 := (tz_dvd hv).1 (by omega)
        have hB : rB v ((k + 1 : Nat) : Int) = true := by unfold rB; rw [hl]; exact decide_eq_true ⟨by omega, by omega⟩
        have hh : rH v ((k + 1 : Nat) : Int) = 0 := by unfold rH; rw [hl, Nat.add_sub_cancel, if_pos ht, if_pos hz]
        have e1 : decide (2 ^ (k + 1) < 2 * (v % 2 ^ k + 2 ^ k * (v / 2 ^ k % 2))) = false := decide_eq_false (by rw [ht, h0, h2H]; omega)
        have e2 : (2 ^ (k + 1) == 2 * (v % 2 ^ k + 2 ^ k * (v / 2 ^ k % 2))) = true := by rw [beq_iff_eq, ht, h0, h2H]; omega
        rw [e1, e2, hB, hh]
        unfold away
        cases v / 2 ^ (k + 1) % 2 == 1 <;> simp
      · have hlt : tz v < k := by
          rcases Nat.lt_or_ge (tz v) k with h | h
          · exact h
          · exact absurd (tz_of_bit h (by omega)) hz
        have h0 : v % 2 ^ k ≠ 0 := fun e => by have := (tz_dvd hv).2 e; omega
        have hB : rB v ((k + 1 : Nat) : Int) = true := by unfold rB; rw [hl]; exact decide_eq_true ⟨by omega, by omega⟩
        have hh : rH v ((k + 1 : Nat) : Int) = 1 := by unfold rH; rw [hl, Nat.add_sub_cancel, if_pos ht, if_neg hz]
        have e1 : decide (2 ^ (k + 1) < 2 * (v % 2 ^ k + 2 ^ k * (v / 2 ^ k % 2))) = true := decide_eq_true (by rw [ht, h2H]; omega)
        rw [e1, hB, hh]
        unfold away
        simp
    · have ht0 : v / 2 ^ k % 2 = 0 := by omega
      have hh : rH v ((k + 1 : Nat) : Int) = -1 := by unfold rH; rw [hl, Nat.add_sub_cancel, if_neg ht]
      have e1 : decide (2 ^ (k + 1) < 2 * (v % 2 ^ k + 2 ^ k * (v / 2 ^ k % 2))) = false := decide_eq_false (by rw [ht0, h2H]; omega)
      have e2 : (2 ^ (k + 1) == 2 * (v % 2 ^ k + 2 ^ k * (v / 2 ^ k % 2))) = false := by rw [beq_eq_false_iff_ne, ht0, h2H]; omega
      rw [e1, e2, hh]
      unfold away
      simp
theorem rM_up (S : Int) (v : Nat) {l : Int} (h : l ≤ 0) (mode : Int) : rM mode S v l = v * 2 ^ (-l).toNat := by
  have h1 : rB v l = false := by unfold rB; exact decide_eq_false (by omega)
  unfold rM
  rw [h1, if_neg (by simp)]
  unfold rT
  rw [if_pos h]
theorem rT_ge {v : Nat} (h : v ≠ 0) {E : Int} (hq : rQ v E ≠ -149) : 8388608 ≤ rT v (rQ v E - E) := by
  have : 24 ≤ blen (rT v (rQ v E - E)) := by
    unfold rT
    by_cases h1 : rQ v E - E ≤ 0
    · rw [if_pos h1, Nat.mul_comm, blen_shl h]; unfold rQ at h1 hq ⊢; omega
    · rw [if_neg h1, blen_shr]; unfold rQ at h1 hq ⊢; omega
  have h2 : ¬ blen (rT v (rQ v E - E)) ≤ 23 := by omega
  rw [blen_lt] at h2
  omega
/-- the word of so many steps -/
def wrd (s : Bool) (M : Nat) (q : Int) : Nat := Ieee.single.word s (min ((q + 149).toNat * 8388608 + M) 2139095040)
theorem wrd_s32 (s : Bool) {M : Nat} {q : Int} (hM : M ≤ 16777216) (hq : -149 ≤ q) (hor : q = -149 ∨ 8388608 ≤ M) : s32 s M q = wrd s M q := by
  unfold wrd
  obtain ⟨k, hk⟩ : ∃ k : Nat, q = -149 + (k : Int) := ⟨(q + 149).toNat, by omega⟩
  subst hk
  rw [show ((-149 + (k : Int)) + 149).toNat = k by omega]
  by_cases h : M = 16777216
  · subst h
    rw [s32_same s (repr_top _)]
    have e : ∀ m, m = 8388608 → Ieee.single.nearest s m (-149 + (k : Int) + 1) = Ieee.single.word s (min (k * 8388608 + 16777216) 2139095040) := by
      intro m hm
      have := nearest_canon' Ieee.single s (m := m) (k := k + 1) (by rw [single_binade, hm]; decide) (.inr (by rw [single_binade, hm]; decide))
      rw [single_binade, single_least, single_inf] at this
      rw [show -149 + (k : Int) + 1 = -149 + ((k + 1 : Nat) : Int) by omega, this, show (k + 1) * 8388608 + m = k * 8388608 + 16777216 by omega]
    exact e _ rfl
  · have := nearest_canon' Ieee.single s (m := M) (k := k) (by rw [single_binade]; omega) (by rw [single_binade]; rcases hor with h1 | h1; exact .inl (by omega); exact .inr h1)
    rw [single_binade, single_least, single_inf] at this
    exact this
theorem near_wrd (s : Bool) {v : Nat} (hv : v ≠ 0) (E : Int) (S : Int) : s32 s v E = wrd s (rM 0 S v (rQ v E - E)) (rQ v E) := by
  have hl := blen_log hv
  unfold s32 Format.nearest
  rw [if_neg hv]
  have e1 : max (E + (v.log2 : Int) - (Ieee.single.fractionBits : Int)) Ieee.single.leastPlace = rQ v E := by
    rw [single_least, show Ieee.single.fractionBits = 23 from rfl]; unfold rQ; rw [hl]; omega
  simp only [e1, cut_even, single_binade, single_inf]
  unfold wrd
  rw [single_least, show rQ v E - -149 = rQ v E + 149 by omega]
  congr 3
  by_cases h : rQ v E - E ≤ 0
  · rw [rM_up S v h, show (rQ v E - E).toNat = 0 by omega, evenCut_zero, Nat.shiftLeft_eq, show (-(rQ v E - E)).toNat = (E - rQ v E).toNat by congr 1; omega]
  · obtain ⟨l, hl⟩ : ∃ l : Nat, rQ v E - E = l := ⟨(rQ v E - E).toNat, by omega⟩
    rw [hl, rM_even S hv, show (E - rQ v E).toNat = 0 by omega, Nat.shiftLeft_zero]
    rfl
theorem rM_facts {v : Nat} (hv : v ≠ 0) (mode S E : Int) : rM mode S v (rQ v E - E) ≤ 16777216 ∧ -149 ≤ rQ v E ∧ (rQ v E = -149 ∨ 8388608 ≤ rM mode S v (rQ v E - E)) := by
  refine ⟨rM_le hv mode S E, by unfold rQ; omega, ?_⟩
  by_cases h : rQ v E = -149
  · exact .inl h
  · exact .inr (Nat.le_trans (rT_ge hv h) (rM_ge mode S v _))
theorem blen_24 {M : Nat} (h1 : 8388608 ≤ M) (h2 : M < 16777216) : blen M = 24 := blen_eq (k := 23) h1 h2
/-- the nearest float in hardware is the one in mode 0 -/
theorem near_rd {z : Int} (hz : z ≠ 0) (E : Int) : s32 (decide (z < 0)) z.natAbs E = rdF z E 0 := by
  have hv : z.natAbs ≠ 0 := by omega
  rw [near_wrd _ hv E z.sign]
  obtain ⟨f1, f2, f3⟩ := rM_facts hv 0 z.sign E
  unfold rdF
  rw [if_neg hz]
  by_cases ho : rO 0 z E = true
  · have ha : away 0 z.sign false 1 = true := by unfold away; simp
    rw [if_pos ho, if_pos ha]
    unfold rO at ho
    have ho := of_decide_eq_true ho
    have hmin : min ((rQ z.natAbs E + 149).toNat * 8388608 + rM 0 z.sign z.natAbs (rQ z.natAbs E - E)) 2139095040 = 2139095040 := by
      obtain ⟨M, hM⟩ : ∃ M, M = rM 0 z.sign z.natAbs (rQ z.natAbs E - E) := ⟨_, rfl⟩
      rw [← hM] at f1 f3 ho ⊢
      rcases f3 with f3 | f3
      · have := blen_mono f1; rw [blen_top] at this; omega
      · by_cases h : M = 16777216
        · subst h; rw [blen_top] at ho; omega
        · rw [blen_24 f3 (by omega)] at ho; omega
    unfold wrd
    rw [hmin]
    by_cases hn : z < 0
    · rw [if_pos hn, decide_eq_true hn]; rfl
    · rw [if_neg hn, decide_eq_false hn]; rfl
  · rw [if_neg ho, wrd_s32 _ f1 f2 f3]
theorem rd_wrd {z : Int} (hz : z ≠ 0) (E : Int) : rdF z E 0 = wrd (decide (z < 0)) (rM 0 z.sign z.natAbs (rQ z.natAbs E - E)) (rQ z.natAbs E) := by
  rw [← near_rd hz, near_wrd _ (by omega) E z.sign]
end Go.Proofs.YtnecnbonnidijaaDoor
/- What the nearest float loses of a sum is a float, and quick sums find it: plain mathematics, in whole units. -/
namespace Go.Proofs.YtnecnbonnidijaaDoor
set_option maxRecDepth 100000
open Go.RowKit
set_option linter.unusedSimpArgs false
set_option linter.unusedVariables false
open Ieee

theorem evenCut_half (v l : Nat) : 2 * (evenCut v l * 2 ^ l) ≤ 2 * v + 2 ^ l ∧ 2 * v ≤ 2 * (evenCut v l * 2 ^ l) + 2 ^ l := by
  have hd := Nat.div_add_mod v (2 ^ l)
  have hr := Nat.mod_lt v (Nat.two_pow_pos l)
  unfold evenCut
  generalize 2 ^ l = P at *
  generalize v / P = d at *
  generalize v % P = r at *
  have e1 : (d + 1) * P = P * d + P := by rw [Nat.add_mul, Nat.mul_comm d P, Nat.one_mul]
  have e0 : (d + 0) * P = P * d := by rw [Nat.add_zero, Nat.mul_comm d P]
  by_cases h1 : P < 2 * r
  · rw [decide_eq_true h1, Bool.true_or, Bool.toNat_true, e1]; omega
  · rw [decide_eq_false h1, Bool.false_or]
    by_cases h2 : P = 2 * r
    · have hb : (P == 2 * r) = true := by rw [beq_iff_eq]; exact h2
      rw [hb, Bool.true_and]
      cases (d % 2 == 1)
      · rw [Bool.toNat_false, e0]; omega
      · rw [Bool.toNat_true, e1]; omega
    · have hb : (P == 2 * r) = false := by rw [beq_eq_false_iff_ne]; exact h2
      rw [hb, Bool.false_and, Bool.toNat_false, e0]; omega
/-- the value nearest to v -/
def rn (v : Nat) : Nat := evenCut v (blen v - 24) * 2 ^ (blen v - 24)
/-- it is the value of a float, if it is not too great -/
def FN (v : Nat) : Prop := ∃ m k : Nat, m < 16777216 ∧ v = m * 2 ^ k
theorem FN.zero : FN 0 := ⟨0, 0, by decide, rfl⟩
theorem rn_mult {v j : Nat} : ((v : Int) - rn v).natAbs ≤ ((v : Int) - ((j * 2 ^ (blen v - 24) : Nat) : Int)).natAbs := by
  have h := evenCut_half v (blen v - 24)
  unfold rn
  generalize evenCut v (blen v - 24) = R at *
  generalize 2 ^ (blen v - 24) = P at *
  rcases Nat.lt_trichotomy j R with h1 | h1 | h1
  · have h2 := Nat.mul_le_mul_right P (show j + 1 ≤ R from h1)
    rw [Nat.add_mul, Nat.one_mul] at h2
    omega
  · rw [h1]; exact Nat.le_refl _
  · have h2 := Nat.mul_le_mul_right P (show R + 1 ≤ j from h1)
    rw [Nat.add_mul, Nat.one_mul] at h2
    omega
theorem rn_near (v : Nat) {f : Nat} (hf : FN f) : ((v : Int) - rn v).natAbs ≤ ((v : Int) - f).natAbs := by
  obtain ⟨m, k, hm, rfl⟩ := hf
  rcases Nat.lt_or_ge k (blen v - 24) with h | h
  · have hv : v ≠ 0 := fun e => by rw [e, blen_zero] at h; omega
    have h1 := (blen_bounds hv).2.1
    have h2 : 2 ^ (blen v - 1) = 8388608 * 2 ^ (blen v - 24) := by
      rw [show blen v - 1 = 23 + (blen v - 24) by omega, Nat.pow_add]
    have h3 : m * 2 ^ k ≤ 8388608 * 2 ^ (blen v - 24) := by
      have h4 : blen v - 24 = k + 1 + (blen v - 24 - k - 1) := by omega
      have h5 : 2 ^ (k + 1) ≤ 2 ^ (blen v - 24) := Nat.pow_le_pow_right (by omega) (by omega)
      rw [Nat.pow_succ] at h5
      have h6 := Nat.mul_le_mul_right (2 ^ k) (show m ≤ 16777216 by omega)
      omega
    have h7 := rn_mult (v := v) (j := 8388608)
    omega
  · have h1 := rn_mult (v := v) (j := m * 2 ^ (k - (blen v - 24)))
    rw [Nat.mul_assoc, ← Nat.pow_add, show k - (blen v - 24) + (blen v - 24) = k by omega] at h1
    exact h1
/-- the same of a number with a sign -/
def rnI (z : Int) : Int := if z < 0 then -((rn z.natAbs : Nat) : Int) else ((rn z.natAbs : Nat) : Int)
theorem rnI_near (z : Int) {f : Int} (hf : FN f.natAbs) : (z - rnI z).natAbs ≤ (z - f).natAbs := by
  have h1 := rn_near z.natAbs hf
  have h2 := rn_near z.natAbs FN.zero
  unfold rnI
  by_cases h : z < 0
  · rw [if_pos h]; omega
  · rw [if_neg h]; omega
theorem rnI_exact {z : Int} (hf : FN z.natAbs) : rnI z = z := by
  have := rnI_near z hf
  omega
end Go.Proofs.YtnecnbonnidijaaDoor
/- The language's own sums, differences and products of finite floats are the exact ones, rounded to the nearest. -/
namespace Go.Proofs.YtnecnbonnidijaaDoor
set_option maxRecDepth 100000
open Go.RowKit
set_option linter.unusedSimpArgs false
set_option linter.unusedVariables false
open Ieee

/-- a finite float in units of 2^-149 -/
def uI (b : Nat) : Int := fz b * (2 : Int) ^ (fe b + 149).toNat
theorem ofM_fz (b : Nat) : ofM b = (2 : Int) ^ tz (ofM b).natAbs * fz b := nz_pow (ofM b)
theorem fe_tz (b : Nat) (h : ofM b ≠ 0) : fe b = ofP b + (tz (ofM b).natAbs : Int) := nx_ne h
theorem fz_zero (b : Nat) : fz b = 0 ↔ ofM b = 0 := nz_eq_zero
theorem ofP_ge (b : Nat) : -149 ≤ ofP b := by unfold ofP; omega
theorem uI_ofM (b : Nat) : uI b = ofM b * (2 : Int) ^ expo (b % 2147483648) := by
  unfold uI
  by_cases h0 : ofM b = 0
  · rw [(fz_zero b).2 h0, h0]; simp
  · have h1 := fe_tz b h0
    have h2 := ofM_fz b
    have h3 : ofP b = -149 + expo (b % 2147483648) := rfl
    conv => rhs; rw [h2]
    rw [show (fe b + 149).toNat = expo (b % 2147483648) + tz (ofM b).natAbs by omega, Int.pow_add]
    rw [Int.mul_comm ((2 : Int) ^ tz _) (fz b), Int.mul_assoc, Int.mul_comm ((2 : Int) ^ tz _)]
theorem uI_abs (b : Nat) : (uI b).natAbs = mant (b % 2147483648) * 2 ^ expo (b % 2147483648) := by
  rw [uI_ofM, Int.natAbs_mul, ofM_abs, pow_cast, Int.natAbs_natCast]
theorem uI_zero {b : Nat} : uI b = 0 ↔ b % 2147483648 = 0 := by
  have h := uI_abs b
  have h2 := mant_zero (b % 2147483648)
  have h3 := Nat.two_pow_pos (expo (b % 2147483648))
  constructor
  · intro e
    rw [e] at h
    rcases Nat.mul_eq_zero.1 h.symm with h4 | h4
    · exact h2.1 h4
    · omega
  · intro e
    rw [h2.2 e, Nat.zero_mul] at h
    omega
theorem ofM_if (b : Nat) : ofM b = if 2147483648 ≤ b then -(mant (b % 2147483648) : Int) else (mant (b % 2147483648) : Int) := by
  unfold ofM smant32 place32
  have h0 := mant_zero (b % 2147483648)
  by_cases h : 2147483648 ≤ b
  · simp only [h, decide_true, if_true]
    by_cases h1 : -((b % 2147483648 : Nat) : Int) < 0
    · rw [if_pos h1]
    · rw [if_neg h1, h0.2 (by omega)]; rfl
  · simp only [h, decide_false, Bool.false_eq_true, if_false]
    rw [if_neg (by omega)]
end Go.Proofs.YtnecnbonnidijaaDoor
/- What a pair is, of the program and of the model. -/
namespace Go.Proofs.YtnecnbonnidijaaDoor
set_option maxRecDepth 100000
open Go.RowKit
set_option linter.unusedSimpArgs false
set_option linter.unusedVariables false

theorem ret_boolE {a b : Bool} (h : a = b) : Ending.returned (.bool a) = .returned (.bool b) := by rw [h]
set_option maxHeartbeats 1000000 in
theorem implAllFin_any (l : List Nat) (A : Option Addr) (n c B : Nat) (w : World) (hr : Rd w B A (fs l)) (hn : l.length = n) (hm : (n : Int) ≤ 100) (hl : ∀ f ∈ l, f < 4294967296) :
    Calls Tryd.prog 132 #[.slice A n c] w fun e w' => e = .returned (.bool (l.all fin32)) ∧ w = w' := by
  have Hn := Lib.hid hn
  have Hr := Lib.hid hr
  have Hl := Lib.hid hl
  clear hr hn hl
  go_enter Tryd.func132, Tryd.ntmps132
  go_wp2_with fail
  go_loop [7] (fun i => ∃ k : Nat, k ≤ n ∧ i = .int .i64 k ∧ (l.take k).all fin32 = true) (fun i => n - (intOf i).toNat)
  case atStart => exact ⟨0, Nat.zero_le _, rfl, rfl⟩
  case round =>
    obtain ⟨k, hk, rfl, hall⟩ := hrel
    have Hall := Lib.hid hall
    clear hall
    by_cases hlt : k < n
    · have hkx : k < l.length := by rw [Hn.out]; exact hlt
      obtain ⟨q, hq, _⟩ := Hr.out.some_ (by rw [fs_len]; omega)
      subst hq
      have hcx := Hr.out.cell (k := k) (by rw [fs_len]; exact hkx)
      rw [fs_get hkx] at hcx
      have Hfb := Lib.hid (Hl.out _ (List.getElem_mem hkx))
      by_cases hf : fin32 l[k] = true
      · have Hnx := Lib.hid (all_take hkx Hall.out hf)
        generalize l[k] = x at *
        have Hf := Lib.hid hf
        clear hf hkx
        go_wp2_with fail
        refine (implFinite_any x _ Hfb.out).mono ?_
        rintro e w9 ⟨rfl, rfl⟩
        rw [Hf.out]
        go_wp2_with fail
        go_round
        case rel => exact ⟨k + 1, by omega, by go_num, Hnx.out⟩
        case measure => simp [intOf]; omega
      · have hf2 : fin32 l[k] = false := by simpa using hf
        have Hnx := Lib.hid (not_all hkx hf2)
        generalize l[k] = x at *
        have Hf := Lib.hid hf2
        clear hf hf2 hkx
        go_wp2_with fail
        refine (implFinite_any x _ Hfb.out).mono ?_
        rintro e w9 ⟨rfl, rfl⟩
        rw [Hf.out]
        go_wp2_with fail
        go_ret
        exact ⟨ret_boolE Hnx.out.symm, rfl⟩
    · have hin : k = n := by omega
      have Hal : Hid (l.all fin32 = true) := Lib.hid (by have h := Hall.out; rwa [List.take_of_length_le (by rw [Hn.out]; omega)] at h)
      subst hin
      go_wp2_with fail
      go_ret
      exact ⟨ret_boolE Hal.out.symm, rfl⟩

/-- a box of two floats -/
def PB (w : World) (b h l : Nat) : Prop := (w.cell? ⟨b, 0, none⟩ = some (.float .f32 h) ∧ w.cell? ⟨b, 1, none⟩ = some (.float .f32 l)) ∧ b < w.heap.size
theorem PB.next {w w' : World} {b h l : Nat} (x : PB w b h l) (hb : Below w.heap.size w w') : PB w' b h l :=
  ⟨⟨(hb.cell (p := ⟨b, 0, none⟩) x.2).trans x.1.1, (hb.cell (p := ⟨b, 1, none⟩) x.2).trans x.1.2⟩, Nat.lt_of_lt_of_le x.2 hb.size⟩
theorem PB.drew {w : World} {b h l : Nat} (x : PB w b h l) : PB w.drew b h l := x
theorem PB.keep {w : World} {b h l : Nat} (x : PB w b h l) {p : Addr} (hp : p.block ≠ b) (u : Value) : PB (w.setCell p u) b h l := by
  have hk : ∀ o, (w.setCell p u).cell? ⟨b, o, none⟩ = w.cell? ⟨b, o, none⟩ := fun o => World.cell?_of_block (a := ⟨b, o, none⟩) (Below.heap_setCell _ _ _ _ (fun e => hp e.symm))
  exact ⟨⟨(hk 0).trans x.1.1, (hk 1).trans x.1.2⟩, by have := x.2; simpa using this⟩
theorem PB.new (w : World) (h l : Nat) (T : TypeId) : PB (w.alloc (.cells #[.float .f32 h, .float .f32 l] T)) w.heap.size h l := ⟨by constructor <;> simp, by simp⟩
/-- a pair -/
def isP (h l : Nat) : Bool := fin32 h && fin32 l && (FloatKind.f32.format.order (adF h l 0) h == some .eq)
end Go.Proofs.YtnecnbonnidijaaDoor
