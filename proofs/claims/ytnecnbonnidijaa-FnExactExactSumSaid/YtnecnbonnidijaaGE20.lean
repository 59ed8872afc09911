/- Texts of this seat, joined: Pj Pk Po Pn Pp -/
import Derived.Test.YtnecnbonnidijaaGE10
import Derived.Test.YtnecnbonnidijaaGE9
import Derived.Test.YtnecnbonnidijaaGE19
import Derived.Deep.RegionHeld3
import Derived.Test.YtnecnbonnidijaaGE2
import Derived.Test.YtnecnbonnidijaaGE7
import Derived.Test.YtnecnbonnidijaaGE6
/- Sums of floats in units of 2^-149: the word of the nearest float, what it is worth, and quick sums of words. -/
namespace Go.Proofs.Ytnecnbonnidijaa
set_option maxRecDepth 100000
open Go.RowKit
set_option linter.unusedSimpArgs false
set_option linter.unusedVariables false
open Ieee

theorem rQ_units (v : Nat) : rQ v (-149) = ((blen v - 24 : Nat) : Int) - 149 := by unfold rQ; omega
/-- the rung of the nearest float -/
def rg (v : Nat) : Nat := (blen v - 24) * 8388608 + evenCut v (blen v - 24)
theorem rd_word {z : Int} (hz : z ≠ 0) : rdF z (-149) 0 = Ieee.single.word (decide (z < 0)) (min (rg z.natAbs) 2139095040) ∧ evenCut z.natAbs (blen z.natAbs - 24) ≤ 16777216 ∧ (blen z.natAbs - 24 = 0 ∨ 8388608 ≤ evenCut z.natAbs (blen z.natAbs - 24)) := by
  have hv : z.natAbs ≠ 0 := by omega
  obtain ⟨f1, f2, f3⟩ := rM_facts hv 0 z.sign (-149)
  rw [rd_wrd hz]
  unfold wrd rg
  rw [rQ_units] at f1 f2 f3 ⊢
  rw [show ((blen z.natAbs - 24 : Nat) : Int) - 149 - -149 = ((blen z.natAbs - 24 : Nat) : Int) by omega, rM_even z.sign hv] at f1 f3 ⊢
  rw [show (((blen z.natAbs - 24 : Nat) : Int) - 149 + 149).toNat = blen z.natAbs - 24 by omega]
  refine ⟨rfl, f1, ?_⟩
  rcases f3 with f3 | f3
  · exact .inl (by omega)
  · exact .inr f3
theorem word_parts (s : Bool) (r : Nat) (hr : r ≤ 2139095040) : Ieee.single.word s r < 4294967296 ∧ Ieee.single.word s r % 2147483648 = r ∧ (2147483648 ≤ Ieee.single.word s r ↔ s = true) := by
  unfold Format.word
  rw [single_sign]
  cases s
  · simp; omega
  · simp; omega
theorem rung_worth {M l : Nat} (h1 : M ≤ 16777216) (h2 : l = 0 ∨ 8388608 ≤ M) : mant (l * 8388608 + M) * 2 ^ expo (l * 8388608 + M) = M * 2 ^ l := by
  by_cases h : M = 16777216
  · subst h
    have e1 : mant (l * 8388608 + 16777216) = 8388608 := by unfold mant; rw [if_neg (by omega)]; omega
    have e2 : expo (l * 8388608 + 16777216) = l + 1 := by unfold expo; rw [if_neg (by omega)]; omega
    rw [e1, e2, Nat.pow_succ]; omega
  · by_cases h3 : 8388608 ≤ M
    · have e1 : mant (l * 8388608 + M) = M := by unfold mant; rw [if_neg (by omega)]; omega
      have e2 : expo (l * 8388608 + M) = l := by unfold expo; rw [if_neg (by omega)]; omega
      rw [e1, e2]
    · have hl : l = 0 := by omega
      subst hl
      have e1 : mant (0 * 8388608 + M) = M := by unfold mant; rw [if_pos (by omega)]; omega
      have e2 : expo (0 * 8388608 + M) = 0 := by unfold expo; rw [if_pos (by omega)]
      rw [e1, e2]
/-- the nearest float, in units: its worth is the nearest number, or it is infinite -/
theorem near_units (z : Int) : rdF z (-149) 0 < 4294967296 ∧ nan32 (rdF z (-149) 0) = false ∧ (fin32 (rdF z (-149) 0) = true → uI (rdF z (-149) 0) = rnI z) ∧ (fin32 (rdF z (-149) 0) = false → 2139095040 ≤ rg z.natAbs ∧ rdF z (-149) 0 = Ieee.single.word (decide (z < 0)) 2139095040) := by
  by_cases hz : z = 0
  · subst hz
    have e : rdF 0 (-149) 0 = 0 := by unfold rdF; rw [if_pos rfl]
    rw [e]
    refine ⟨by decide, by decide, fun _ => ?_, fun h => by revert h; decide⟩
    rw [uI_zero.2 rfl, rnI_exact (z := 0) FN.zero]
  · obtain ⟨e, h1, h2⟩ := rd_word hz
    obtain ⟨w1, w2, w3⟩ := word_parts (decide (z < 0)) (min (rg z.natAbs) 2139095040) (by omega)
    rw [e]
    refine ⟨w1, by unfold nan32; rw [w2]; exact decide_eq_false (by omega), fun hf => ?_, fun hf => ?_⟩
    · have hr : rg z.natAbs < 2139095040 := by
        unfold fin32 at hf; rw [w2] at hf; have := of_decide_eq_true hf; omega
      rw [Nat.min_eq_left (by omega)] at w1 w2 w3 ⊢
      have ha := uI_abs (Ieee.single.word (decide (z < 0)) (rg z.natAbs))
      rw [w2] at ha
      unfold rg at ha
      rw [rung_worth h1 h2] at ha
      have hs := uI_ofM (Ieee.single.word (decide (z < 0)) (rg z.natAbs))
      rw [ofM_if] at hs
      have hp := Int.pow_pos (n := (2 : Int)) (m := expo (Ieee.single.word (decide (z < 0)) (rg z.natAbs) % 2147483648)) (by omega)
      have hm : (0 : Int) ≤ (mant (Ieee.single.word (decide (z < 0)) (rg z.natAbs) % 2147483648) : Int) * (2 : Int) ^ expo (Ieee.single.word (decide (z < 0)) (rg z.natAbs) % 2147483648) := Int.mul_nonneg (by omega) (by omega)
      unfold rg at hs hm w3 ⊢
      unfold rnI rn
      by_cases hn : z < 0
      · rw [if_pos (w3.2 (decide_eq_true hn)), Int.neg_mul] at hs
        rw [if_pos hn]
        omega
      · rw [if_neg (fun h => hn (of_decide_eq_true (w3.1 h)))] at hs
        rw [if_neg hn]
        omega
    · have hr : 2139095040 ≤ rg z.natAbs := by
        unfold fin32 at hf; rw [w2] at hf; have := of_decide_eq_false hf; omega
      rw [Nat.min_eq_right hr]
      exact ⟨hr, rfl⟩
theorem max_units {b : Nat} (hf : fin32 b = true) : (uI b).natAbs ≤ 16777215 * 2 ^ 253 := by
  rw [uI_abs]
  have h1 := mant_lt (b % 2147483648)
  have h2 := expo_le (b % 2147483648) (of_decide_eq_true hf)
  exact Nat.mul_le_mul (by omega) (Nat.pow_le_pow_right (by omega) h2)
theorem pow_277 {n : Nat} (h : 277 ≤ n) : 16777216 * 2 ^ 253 ≤ 2 ^ n := by
  obtain ⟨k, rfl⟩ : ∃ k, n = 253 + (24 + k) := ⟨n - 277, by omega⟩
  rw [Nat.pow_add, Nat.pow_add, Nat.mul_comm]
  have := Nat.two_pow_pos k
  exact Nat.mul_le_mul_left _ (by omega)
theorem rg_fin {v : Nat} (hf : FN v) (hm : v ≤ 16777215 * 2 ^ 253) : rg v < 2139095040 := by
  have he := rn_exact hf
  unfold rn at he
  unfold rg
  by_cases h0 : v = 0
  · subst h0; rw [blen_zero]; decide
  obtain ⟨b1, b2, b3⟩ := blen_bounds h0
  obtain ⟨l, hl⟩ : ∃ l, l = blen v - 24 := ⟨_, rfl⟩
  rw [← hl] at he ⊢
  have hl2 : l ≤ 253 := by
    apply Decidable.byContradiction
    intro hc
    have h1 := pow_277 (n := blen v - 1) (by omega)
    have h2 := Nat.two_pow_pos 253
    have h3 := Nat.le_trans h1 (Nat.le_trans b2 hm)
    generalize 2 ^ 253 = P at h2 h3
    omega
  have hM : evenCut v l < 16777216 := by
    have h1 : 2 ^ blen v ≤ 2 ^ (24 + l) := Nat.pow_le_pow_right (by omega) (by omega)
    rw [Nat.pow_add] at h1
    have h3 : evenCut v l * 2 ^ l < 16777216 * 2 ^ l := by rw [he]; omega
    exact Nat.lt_of_mul_lt_mul_right h3
  omega
/-- a number that a float is worth is found -/
theorem near_exact {z : Int} (hf : FN z.natAbs) (hm : z.natAbs ≤ 16777215 * 2 ^ 253) : fin32 (rdF z (-149) 0) = true ∧ uI (rdF z (-149) 0) = z := by
  obtain ⟨_, _, h1, h2⟩ := near_units z
  have hr := rg_fin hf hm
  by_cases hfi : fin32 (rdF z (-149) 0) = true
  · exact ⟨hfi, by rw [h1 hfi, rnI_exact hf]⟩
  · exact absurd (h2 (by simpa using hfi)).1 (by omega)
theorem ad_facts (x y : Nat) (hf1 : fin32 x = true) (hf2 : fin32 y = true) : adF x y 0 < 4294967296 ∧ nan32 (adF x y 0) = false ∧ (fin32 (adF x y 0) = true → uI (adF x y 0) = rnI (uI x + uI y)) := by
  rw [ad_units x y hf1 hf2]
  by_cases h : uI x + uI y = 0
  · rw [if_pos h, h, rnI_exact (z := 0) FN.zero]
    refine ⟨by unfold mzF; split <;> decide, by unfold mzF; split <;> decide, fun _ => ?_⟩
    rw [uI_zero]; unfold mzF; split <;> decide
  · rw [if_neg h]
    obtain ⟨h1, h2, h3, _⟩ := near_units (uI x + uI y)
    exact ⟨h1, h2, h3⟩
theorem ad_exact {x y : Nat} (hf1 : fin32 x = true) (hf2 : fin32 y = true) (hn : FN (uI x + uI y).natAbs) (hm : (uI x + uI y).natAbs ≤ 16777215 * 2 ^ 253) : fin32 (adF x y 0) = true ∧ uI (adF x y 0) = uI x + uI y := by
  rw [ad_units x y hf1 hf2]
  by_cases h : uI x + uI y = 0
  · rw [if_pos h, h]
    refine ⟨by unfold mzF; split <;> decide, ?_⟩
    rw [uI_zero]; unfold mzF; split <;> decide
  · rw [if_neg h]; exact near_exact hn hm
theorem ad_comm (x y : Nat) (hf1 : fin32 x = true) (hf2 : fin32 y = true) : adF y x 0 = adF x y 0 := by
  rw [ad_units x y hf1 hf2, ad_units y x hf2 hf1, Int.add_comm, Bool.and_comm]
/-- a float without -0 -/
def wm (b : Nat) : Nat := if b % 2147483648 = 0 then 0 else b
/-- what is beyond the nearest float, as a float -/
def lowF (e : Int) : Nat := rdF e (-149) 0
theorem ad_wm {x y : Nat} (hf1 : fin32 x = true) (hf2 : fin32 y = true) (hn : FN (uI x + uI y).natAbs) (hm : (uI x + uI y).natAbs ≤ 16777215 * 2 ^ 253) : wm (adF x y 0) = lowF (uI x + uI y) := by
  obtain ⟨h1, h2⟩ := ad_exact hf1 hf2 hn hm
  unfold wm lowF
  by_cases h : uI x + uI y = 0
  · have h3 : adF x y 0 % 2147483648 = 0 := by rw [← uI_zero, h2, h]
    rw [if_pos h3, h]
    unfold rdF; rw [if_pos rfl]
  · have h3 : ¬ adF x y 0 % 2147483648 = 0 := fun e => h (by rw [← h2, uI_zero.2 e])
    rw [if_neg h3, ad_units x y hf1 hf2, if_neg h]
theorem expo_mono {a b : Nat} (h : mant a * 2 ^ expo a ≤ mant b * 2 ^ expo b) : expo a ≤ expo b := by
  rcases Nat.lt_or_ge b a with h1 | h1
  · have := mag_lt h1; omega
  · unfold expo
    split
    · omega
    · rw [if_neg (by omega)]
      have := Nat.div_le_div_right (c := 8388608) h1
      omega
/-- the quick sum of finite floats, the greater one ahead, whose sum is finite -/
theorem quick_words {a b : Nat} (ha : fin32 a = true) (hb : fin32 b = true) (hab : (uI b).natAbs ≤ (uI a).natAbs) (hla : a < 4294967296) (hf : fin32 (adF a b 0) = true) :
    ∃ g, g = adF (adF a b 0) (tn a) 0 ∧ fin32 g = true ∧ g < 4294967296 ∧ wm (adF b (tn g) 0) = lowF (uI a + uI b - uI (adF a b 0)) ∧ (uI a + uI b - uI (adF a b 0)).natAbs ≤ (uI b).natAbs ∧ FN (uI a + uI b - uI (adF a b 0)).natAbs ∧ adF b (tn g) 0 < 4294967296 ∧ nan32 (adF b (tn g) 0) = false := by
  obtain ⟨s1, s2, s3⟩ := ad_facts a b ha hb
  have hs := s3 hf
  have hk : expo (b % 2147483648) ≤ expo (a % 2147483648) := by
    rw [uI_abs, uI_abs] at hab
    exact expo_mono hab
  obtain ⟨d1, d2, d3, d4⟩ := dekker (a := uI a) (b := uI b) (uI_abs a) (mant_lt _) (uI_abs b) (mant_lt _) hk hab
  rw [← hs] at d1 d2 d3 d4
  obtain ⟨t1, t2, _⟩ := tn_facts hla ha
  have ut := uI_tn hla ha
  have m1 := max_units ha
  have m2 := max_units hb
  have m3 := max_units hf
  have eg : uI (adF a b 0) + uI (tn a) = uI (adF a b 0) - uI a := by rw [ut]; omega
  obtain ⟨g1, g2⟩ := ad_exact hf t2 (by rw [eg]; exact d1) (by rw [eg]; omega)
  obtain ⟨g3, g4, _⟩ := ad_facts (adF a b 0) (tn a) hf t2
  obtain ⟨g, hg⟩ : ∃ g, g = adF (adF a b 0) (tn a) 0 := ⟨_, rfl⟩
  rw [← hg] at g1 g2 g3 g4
  obtain ⟨q1, q2, _⟩ := tn_facts g3 g1
  have uq := uI_tn g3 g1
  have el : uI b + uI (tn g) = uI b - (uI (adF a b 0) - uI a) := by rw [uq, g2, eg]; omega
  have ee : uI b - (uI (adF a b 0) - uI a) = uI a + uI b - uI (adF a b 0) := by omega
  rw [ee] at d2 d4 el
  have hwm := ad_wm hb q2 (by rw [el]; exact d2) (by rw [el]; omega)
  rw [el] at hwm
  obtain ⟨l1, l2, _⟩ := ad_facts b (tn g) hb q2
  exact ⟨g, hg, g1, g3, hwm, d4, d2, l1, l2⟩
/-- a sum's float and what is beyond it are a pair -/
theorem low_pair {x y : Nat} (hx : fin32 x = true) (hy : fin32 y = true) (hf : fin32 (adF x y 0) = true) (h1 : FN (uI x + uI y - uI (adF x y 0)).natAbs) (h2 : (uI x + uI y - uI (adF x y 0)).natAbs ≤ 16777215 * 2 ^ 253) : isP (adF x y 0) (lowF (uI x + uI y - uI (adF x y 0))) = true := by
  obtain ⟨l1, l2⟩ := near_exact h1 h2
  obtain ⟨s1, s2, s3⟩ := ad_facts x y hx hy
  obtain ⟨n1, n2, _, _⟩ := near_units (uI x + uI y - uI (adF x y 0))
  unfold lowF
  obtain ⟨L, hL⟩ : ∃ L, L = rdF (uI x + uI y - uI (adF x y 0)) (-149) 0 := ⟨_, rfl⟩
  rw [← hL] at l1 l2 n1 n2 ⊢
  unfold isP
  rw [hf, l1]
  have hu : uI (adF x y 0) + uI L = uI x + uI y := by rw [l2]; omega
  have a1 := ad_units (adF x y 0) L hf l1
  rw [hu] at a1
  obtain ⟨t1, t2, _⟩ := ad_facts (adF x y 0) L hf l1
  simp only [Bool.true_and]
  rw [eq32 _ _ t1 s1 t2 s2]
  apply decide_eq_true
  by_cases h : uI x + uI y = 0
  · rw [if_pos h] at a1
    have a2 := ad_units x y hx hy
    rw [if_pos h] at a2
    rw [a1, a2]
    unfold mzF place32
    split <;> split <;> decide
  · rw [if_neg h] at a1
    rw [a1, ad_units x y hx hy, if_neg h]
end Go.Proofs.Ytnecnbonnidijaa
/- Quick sums and exact sums of floats, of the program. -/
namespace Go.Proofs.Ytnecnbonnidijaa
set_option maxRecDepth 100000
open Go.RowKit
set_option linter.unusedSimpArgs false
set_option linter.unusedVariables false
attribute [local go_sem ↓] Go.wp_at_zero Go.wp_at_succ

theorem abs_word (r : Nat) (h : r < 9223372036854775808) : bits .andNot .u64 (r : Int) 9223372036854775808 = (r : Int) ∧ bits .andNot .u64 ((9223372036854775808 + r : Nat) : Int) 9223372036854775808 = (r : Int) := by
  have h1 := andNot_u64_nat r 9223372036854775808 (by omega) (by omega)
  have h2 := andNot_u64_nat (9223372036854775808 + r) 9223372036854775808 (by omega) (by omega)
  rw [show ((9223372036854775808 : Nat) : Int) = 9223372036854775808 from rfl, show (18446744073709551615 - 9223372036854775808 : Nat) = 2 ^ 63 - 1 by decide, Nat.and_two_pow_sub_one_eq_mod] at h1 h2
  rw [h1, h2]
  exact ⟨by omega, by omega⟩
theorem abs64_any (s : Bool) (m : Nat) (q : Int) (w : World) : Calls Try.prog 86 #[.float .f64 (d64 s m q)] w fun e w' => e = .returned (.float .f64 (d64 false m q)) ∧ w = w' := by
  obtain ⟨r, h1, h2, h3⟩ := near64_words m q
  have hr := run_ffrom64 r
  obtain ⟨a1, a2⟩ := abs_word r (by omega)
  rw [h2]
  cases s
  · rw [h2]
    have hx := run_fbits64 r
    clear h1 h2 h3 a2
    go_enter Try.func86, Try.ntmps86
    go_wp2_with fail
    go_ret
    exact ⟨rfl, rfl⟩
  · rw [h3]
    have hx := run_fbits64 (9223372036854775808 + r)
    obtain ⟨X, hX⟩ : ∃ X, X = 9223372036854775808 + r := ⟨_, rfl⟩
    rw [← hX] at hx a2 ⊢
    clear h1 h2 h3 a1 hX
    go_enter Try.func86, Try.ntmps86
    go_wp2_with fail
    go_ret
    exact ⟨rfl, rfl⟩
theorem eqz32 (b : Nat) (hb : b < 4294967296) : (FloatKind.f32.format.order b 0 == some .eq) = decide (b % 2147483648 = 0) := by
  by_cases hn : nan32 b = true
  · rw [nan32_cmp b 0 .eq (.inl hn)]
    unfold nan32 at hn
    have := of_decide_eq_true hn
    exact (decide_eq_false (by omega)).symm
  · rw [eq_zero32 b hb (by simpa using hn), decide_eq_decide]
    rcases place_cases b with ⟨h1, h2⟩ | ⟨h1, h2⟩ <;> omega
theorem wm_any (b : Nat) (w : World) (hb : b < 4294967296) : Calls Try.prog 87 #[.float .f32 b] w fun e w' => e = .returned (.float .f32 (wm b)) ∧ w = w' := by
  have h := eqz32 b hb
  by_cases h0 : b % 2147483648 = 0
  · have Hw : Hid (wm b = 0) := Lib.hid (by unfold wm; rw [if_pos h0])
    have hd : decide (b % 2147483648 = 0) = true := decide_eq_true h0
    rw [hd] at h
    clear h0 hd
    go_enter Try.func87, Try.ntmps87
    go_wp2_with fail
    go_ret
    exact ⟨by rw [Hw.out]; rfl, rfl⟩
  · have Hw : Hid (wm b = b) := Lib.hid (by unfold wm; rw [if_neg h0])
    have hd : decide (b % 2147483648 = 0) = false := decide_eq_false h0
    rw [hd] at h
    clear h0 hd
    go_enter Try.func87, Try.ntmps87
    go_wp2_with fail
    go_ret
    exact ⟨by rw [Hw.out]; rfl, rfl⟩
open Ieee in
theorem inf_gap {H a : Nat} (hH : H < 4294967296) (hi : H % 2147483648 = 2139095040) (ha : a < 4294967296) (hf : fin32 a = true) : floatBits .sub .f32 H a = some H := by
  show Ieee.single.sub H a = _
  unfold Format.sub
  rw [read32_inf H hH hi, read32 a ha (of_decide_eq_true hf)]
  show some (Ieee.single.word (decide (2147483648 ≤ H)) Ieee.single.infRung) = _
  rw [single_inf]
  unfold Format.word
  rw [single_sign]
  by_cases h : 2147483648 ≤ H
  · rw [decide_eq_true h, if_pos rfl]; congr 1; omega
  · rw [decide_eq_false h, if_neg (by simp)]; congr 1; omega
open Ieee in
theorem inf_low {H b : Nat} (hH : H < 4294967296) (hi : H % 2147483648 = 2139095040) (hb : b < 4294967296) (hf : fin32 b = true) : ∃ L, floatBits .sub .f32 b H = some L ∧ L < 4294967296 := by
  have h : ∃ L, Ieee.single.sub b H = some L := by
    unfold Format.sub
    rw [read32_inf H hH hi, read32 b hb (of_decide_eq_true hf)]
    exact ⟨_, rfl⟩
  obtain ⟨L, h⟩ := h
  exact ⟨L, h, Ieee.Format.sub_lt _ h⟩
theorem not_fin_inf {b : Nat} (hn : nan32 b = false) (hf : fin32 b = false) : b % 2147483648 = 2139095040 := by
  unfold nan32 at hn; unfold fin32 at hf
  have h1 := of_decide_eq_false hn
  have h2 := of_decide_eq_false hf
  omega
set_option maxHeartbeats 1000000 in
theorem quick_any (a b : Nat) (w : World) (ha : a < 4294967296) (hb : b < 4294967296) (hfa : fin32 a = true) (hfb : fin32 b = true) (hab : (uI b).natAbs ≤ (uI a).natAbs) :
    Calls Try.prog 65 #[.float .f32 a, .float .f32 b] w fun e w' => ∃ L, e = .returned (.agg #[.float .f32 (adF a b 0), .float .f32 L]) ∧ L < 4294967296 ∧ (fin32 (adF a b 0) = true → wm L = lowF (uI a + uI b - uI (adF a b 0))) ∧ Below w.heap.size w w' := by
  have hst := store_float Try.prog
  have h1 := hw_add a b ha hb hfa hfb
  obtain ⟨s1, s2, s3⟩ := ad_facts a b hfa hfb
  by_cases hf : fin32 (adF a b 0) = true
  · obtain ⟨g, hg, g1, g2, g3, _, _, g4, _⟩ := quick_words hfa hfb hab ha hf
    have h2 := hw_sub (adF a b 0) a s1 ha hf hfa
    have h3 := hw_sub b g hb g2 hfb g1
    rw [← hg] at h2
    have HL : Hid (adF b (tn g) 0 < 4294967296 ∧ (fin32 (adF a b 0) = true → wm (adF b (tn g) 0) = lowF (uI a + uI b - uI (adF a b 0)))) := Lib.hid ⟨g4, fun _ => g3⟩
    obtain ⟨L, hL⟩ : ∃ L, L = adF b (tn g) 0 := ⟨_, rfl⟩
    obtain ⟨H, hH⟩ : ∃ H, H = adF a b 0 := ⟨_, rfl⟩
    rw [← hL] at h3 HL
    rw [← hH] at h1 h2 HL ⊢
    have hop1 : ∀ t w, (binOp .add t (.float .f32 a) (.float .f32 b)).run Try.prog w = .ok (.float .f32 H) w := fun t w => run_float_arith w .add t .f32 _ _ _ h1
    have hop2 : ∀ t w, (binOp .sub t (.float .f32 H) (.float .f32 a)).run Try.prog w = .ok (.float .f32 g) w := fun t w => run_float_arith w .sub t .f32 _ _ _ h2
    have hop3 : ∀ t w, (binOp .sub t (.float .f32 b) (.float .f32 g)).run Try.prog w = .ok (.float .f32 L) w := fun t w => run_float_arith w .sub t .f32 _ _ _ h3
    clear h1 h2 h3 hL hH hg g1 g2 g3 g4 s1 s2 s3 hf hab hfa hfb ha hb
    go_enter Try.func65, Try.ntmps65
    go_wp2_with fail
    refine bodyPost_ret (v := .agg #[.float .f32 H, .float .f32 L]) (by simp [results, Try.results65, go_sem]) rfl ⟨L, rfl, HL.out.1, HL.out.2, ?_⟩
    repeat (first | exact Below.refl _ _ | refine Below.alloc ?_ (by first | (simp; done) | (simp; omega)) _ | refine Below.setCell ?_ (by first | (simp; done) | (simp; omega)) _)
  · have hi := not_fin_inf s2 (by simpa using hf)
    have h2 := inf_gap s1 hi ha hfa
    obtain ⟨L, h3, h4⟩ := inf_low s1 hi hb hfb
    have HL : Hid (L < 4294967296 ∧ (fin32 (adF a b 0) = true → wm L = lowF (uI a + uI b - uI (adF a b 0)))) := Lib.hid ⟨h4, fun h => absurd h hf⟩
    obtain ⟨H, hH⟩ : ∃ H, H = adF a b 0 := ⟨_, rfl⟩
    rw [← hH] at h1 h2 h3 HL ⊢
    have hop1 : ∀ t w, (binOp .add t (.float .f32 a) (.float .f32 b)).run Try.prog w = .ok (.float .f32 H) w := fun t w => run_float_arith w .add t .f32 _ _ _ h1
    have hop2 : ∀ t w, (binOp .sub t (.float .f32 H) (.float .f32 a)).run Try.prog w = .ok (.float .f32 H) w := fun t w => run_float_arith w .sub t .f32 _ _ _ h2
    have hop3 : ∀ t w, (binOp .sub t (.float .f32 b) (.float .f32 H)).run Try.prog w = .ok (.float .f32 L) w := fun t w => run_float_arith w .sub t .f32 _ _ _ h3
    clear h1 h2 h3 h4 hi hH s1 s2 s3 hf hab hfa hfb ha hb
    go_enter Try.func65, Try.ntmps65
    go_wp2_with fail
    refine bodyPost_ret (v := .agg #[.float .f32 H, .float .f32 L]) (by simp [results, Try.results65, go_sem]) rfl ⟨L, rfl, HL.out.1, HL.out.2, ?_⟩
    repeat (first | exact Below.refl _ _ | refine Below.alloc ?_ (by first | (simp; done) | (simp; omega)) _ | refine Below.setCell ?_ (by first | (simp; done) | (simp; omega)) _)
/-- a pair's box for a result -/
def PRes (w : World) (b : Nat) : Prop := (w.cell? ⟨b, 0, none⟩ = some (.float .f32 0) ∧ w.cell? ⟨b, 1, none⟩ = some (.float .f32 0) ∧ w.frozen? ⟨b, 0, none⟩ = false ∧ w.frozen? ⟨b, 1, none⟩ = false) ∧ b < w.heap.size
theorem PRes.next {w w' : World} {b : Nat} (h : PRes w b) (hb : Below w.heap.size w w') : PRes w' b :=
  ⟨⟨(hb.cell (p := ⟨b, 0, none⟩) h.2).trans h.1.1, (hb.cell (p := ⟨b, 1, none⟩) h.2).trans h.1.2.1, (hb.frozen (p := ⟨b, 0, none⟩) h.2).trans h.1.2.2.1, (hb.frozen (p := ⟨b, 1, none⟩) h.2).trans h.1.2.2.2⟩, Nat.lt_of_lt_of_le h.2 hb.size⟩
theorem PRes.drew {w : World} {b : Nat} (h : PRes w b) : PRes w.drew b := h
theorem PRes.new (w : World) (t : TypeId) : PRes (w.alloc (.cells #[.float .f32 0, .float .f32 0] t)) w.heap.size := by
  refine ⟨⟨?_, ?_, ?_, ?_⟩, ?_⟩
  · simp
  · simp
  · go_simp
  · go_simp
  · simp
theorem lt_units (x y : Nat) (hx : x < 4294967296) (hy : y < 4294967296) (hf1 : fin32 x = true) (hf2 : fin32 y = true) : (FloatKind.f64.format.order (d64 false (mant (x % 2147483648)) (-149 + expo (x % 2147483648))) (d64 false (mant (y % 2147483648)) (-149 + expo (y % 2147483648))) == some .lt) = decide ((uI x).natAbs < (uI y).natAbs) := by
  have a1 := mant_lt (x % 2147483648)
  have a2 := mant_lt (y % 2147483648)
  have b1 := expo_le (x % 2147483648) (of_decide_eq_true hf1)
  have b2 := expo_le (y % 2147483648) (of_decide_eq_true hf2)
  show (Ieee.double.order _ _ == some .lt) = _
  rw [order64 false false (by omega) (by omega) (by omega) (by omega) (by omega) (by omega)]
  rw [uI_abs, uI_abs]
  show (some (compare (Ieee.signed false _ _) (Ieee.signed false _ _)) == some .lt) = _
  rw [signed_eq, signed_eq]
  simp only [Bool.false_eq_true, if_false, Int.one_mul]
  rw [cmp_lt, decide_eq_decide]
  obtain ⟨e, he⟩ : ∃ e, e = expo (x % 2147483648) := ⟨_, rfl⟩
  obtain ⟨f, hf⟩ : ∃ f, f = expo (y % 2147483648) := ⟨_, rfl⟩
  rw [← he, ← hf]
  obtain ⟨k, hk⟩ : ∃ k : Nat, k = min e f := ⟨_, rfl⟩
  have e1 : (-149 + (e : Int) - min (-149 + (e : Int)) (-149 + (f : Int))).toNat = e - k := by omega
  have e2 : (-149 + (f : Int) - min (-149 + (e : Int)) (-149 + (f : Int))).toNat = f - k := by omega
  rw [e1, e2]
  have e3 : e = (e - k) + k := by omega
  have e4 : f = (f - k) + k := by omega
  have c1 : mant (x % 2147483648) * 2 ^ e = mant (x % 2147483648) * 2 ^ (e - k) * 2 ^ k := by rw [Nat.mul_assoc, ← Nat.pow_add, ← e3]
  have c2 : mant (y % 2147483648) * 2 ^ f = mant (y % 2147483648) * 2 ^ (f - k) * 2 ^ k := by rw [Nat.mul_assoc, ← Nat.pow_add, ← e4]
  rw [c1, c2, Nat.mul_lt_mul_right (Nat.two_pow_pos k), pow_cast, pow_cast, ← Int.natCast_mul, ← Int.natCast_mul]
  omega
set_option maxHeartbeats 2000000 in
theorem exSum_any (x y : Nat) (w : World) (hx : x < 4294967296) (hy : y < 4294967296) (hf1 : fin32 x = true) (hf2 : fin32 y = true) :
    Calls Try.prog 52 #[.float .f32 x, .float .f32 y] w fun e w' => ∃ L, e = .returned (.agg #[.float .f32 (adF x y 0), .float .f32 L]) ∧ L < 4294967296 ∧ (fin32 (adF x y 0) = true → L = lowF (uI x + uI y - uI (adF x y 0))) ∧ Below w.heap.size w w' := by
  have hst := store_float Try.prog
  have Hq1 : Hid ((uI y).natAbs ≤ (uI x).natAbs → ∀ w, Calls Try.prog 65 #[.float .f32 x, .float .f32 y] w fun e w' => ∃ L, e = .returned (.agg #[.float .f32 (adF x y 0), .float .f32 L]) ∧ L < 4294967296 ∧ (fin32 (adF x y 0) = true → wm L = lowF (uI x + uI y - uI (adF x y 0))) ∧ Below w.heap.size w w') := Lib.hid (fun h w => quick_any x y w hx hy hf1 hf2 h)
  have Hq2 : Hid ((uI x).natAbs ≤ (uI y).natAbs → ∀ w, Calls Try.prog 65 #[.float .f32 y, .float .f32 x] w fun e w' => ∃ L, e = .returned (.agg #[.float .f32 (adF x y 0), .float .f32 L]) ∧ L < 4294967296 ∧ (fin32 (adF x y 0) = true → wm L = lowF (uI x + uI y - uI (adF x y 0))) ∧ Below w.heap.size w w') := Lib.hid (fun h w => by
    have h2 := quick_any y x w hy hx hf2 hf1 h
    rw [ad_comm x y hf1 hf2, Int.add_comm (uI y) (uI x)] at h2
    exact h2)
  obtain ⟨H, hH⟩ : ∃ H, H = adF x y 0 := ⟨_, rfl⟩
  rw [← hH] at Hq1 Hq2 ⊢
  clear hH
  have hc1 := conv_3264 x hx hf1
  have hc2 := conv_3264 y hy hf2
  have hlt := lt_units x y hx hy hf1 hf2
  obtain ⟨w1, hw1⟩ : ∃ w1, w1 = w.alloc (.cells #[.float .f32 0, .float .f32 0] 37) := ⟨_, rfl⟩
  have Rs1 : Hid (PRes w1 w.heap.size) := Lib.hid (by rw [hw1]; exact PRes.new _ _)
  have Bel1 : Hid (Below w.heap.size w w1) := Lib.hid (by rw [hw1]; exact belAlloc1 _ _)
  have Hlt : Hid (w.heap.size < w1.heap.size) := Lib.hid Rs1.out.2
  have Hw := Lib.hid hw1
  obtain ⟨X, hX⟩ : ∃ X, X = d64 false (mant (x % 2147483648)) (-149 + expo (x % 2147483648)) := ⟨_, rfl⟩
  obtain ⟨Y, hY⟩ : ∃ Y, Y = d64 false (mant (y % 2147483648)) (-149 + expo (y % 2147483648)) := ⟨_, rfl⟩
  have hax : ∀ w, Calls Try.prog 86 #[.float .f64 (d64 (neg32 x) (mant (x % 2147483648)) (-149 + expo (x % 2147483648)))] w fun e w' => e = .returned (.float .f64 X) ∧ w = w' := fun w => by rw [hX]; exact abs64_any _ _ _ w
  have hay : ∀ w, Calls Try.prog 86 #[.float .f64 (d64 (neg32 y) (mant (y % 2147483648)) (-149 + expo (y % 2147483648)))] w fun e w' => e = .returned (.float .f64 Y) ∧ w = w' := fun w => by rw [hY]; exact abs64_any _ _ _ w
  rw [← hX, ← hY] at hlt
  obtain ⟨X0, hX0⟩ : ∃ X0, X0 = d64 (neg32 x) (mant (x % 2147483648)) (-149 + expo (x % 2147483648)) := ⟨_, rfl⟩
  obtain ⟨Y0, hY0⟩ : ∃ Y0, Y0 = d64 (neg32 y) (mant (y % 2147483648)) (-149 + expo (y % 2147483648)) := ⟨_, rfl⟩
  rw [← hX0] at hc1 hax
  rw [← hY0] at hc2 hay
  have hcv1 : ∀ w, (convert 33 71 (.float .f32 x)).run Try.prog w = .ok (.float .f64 X0) w := fun w => run_convert_float_float w _ _ .f32 .f64 _ _ (by kernel_rfl) Try.underlying71 hc1
  have hcv2 : ∀ w, (convert 33 71 (.float .f32 y)).run Try.prog w = .ok (.float .f64 Y0) w := fun w => run_convert_float_float w _ _ .f32 .f64 _ _ (by kernel_rfl) Try.underlying71 hc2
  have Hax := Lib.hid hax
  have Hay := Lib.hid hay
  clear hx hy hf1 hf2 hw1 hX hY hX0 hY0 hax hay
  go_enter Try.func52, Try.ntmps52
  go_wp2_with fail
  rw [← Hw.out]
  refine (Hax.out _).mono ?_
  rintro e w9 ⟨rfl, rfl⟩
  go_wp2_with fail
  refine (Hay.out _).mono ?_
  rintro e w9 ⟨rfl, rfl⟩
  by_cases hsw : (uI x).natAbs < (uI y).natAbs
  · rw [decide_eq_true hsw] at hlt
    have Hsw : Hid ((uI x).natAbs ≤ (uI y).natAbs) := Lib.hid (by omega)
    clear hsw
    go_wp2_with fail
    refine (Hq2.out Hsw.out _).mono ?_
    rintro e w2 ⟨L0, rfl, hL1, hL2, hb⟩
    have HL := Lib.hid (And.intro hL1 hL2)
    clear hL1 hL2
    have Sz2 := Lib.hid (Below.size hb)
    have Bel2 := Lib.hid (belNext Bel1.out hb)
    have Rs2 := Lib.hid (Rs1.out.next hb)
    clear hb Bel1 Rs1 hlt hc1 hc2
    go_upto_region 4 with fail
    obtain ⟨w3, hw3⟩ : ∃ w3, w3 = w2.alloc (.cells #[.float .f32 H, .float .f32 L0] 37) := ⟨_, rfl⟩
    rw [← hw3]
    have hb : Below w2.heap.size w2 w3 := by rw [hw3]; exact belAlloc1 _ _
    have Pp3 : Hid (PB w3 w2.heap.size H L0) := Lib.hid (by rw [hw3]; exact PB.new _ _ _ _)
    have Sz3 := Lib.hid (Below.size hb)
    have Bel3 := Lib.hid (belNext Bel2.out hb)
    have Rs3 := Lib.hid (Rs2.out.next hb)
    clear hw3 hb Bel2 Rs2
    refine wp_region_held_drew (S := fun w' => (w'.cell? ⟨w2.heap.size, 0, none⟩ = some (.float .f32 H) ∧ w'.cell? ⟨w2.heap.size, 1, none⟩ = some (.float .f32 L0))) (by kernel_rfl) Pp3.out.1 (fun hHeld => ?_)
    refine wpAnyH_take (i := 0) (v := ?_) rfl (by kernel_rfl) (by kernel_rfl) (by kernel_rfl) (fun _ _ _ h => h) (Or.inl ⟨by rfl, ?_⟩) (by assumption) ?_
    rotate_left
    · (intro w hSw; (try dsimp only at hSw); go_simp; (try with_reducible rfl))
    try simp only [Act.put, List.setIfInBounds_toArray, List.set_cons_zero, List.set_cons_succ, List.getElem_toArray, List.getElem_cons_succ, List.getElem_cons_zero]
    refine wpAnyH_take (i := 1) (v := ?_) rfl (by kernel_rfl) (by kernel_rfl) (by kernel_rfl) (fun _ _ _ h => h) (Or.inl ⟨by rfl, ?_⟩) (by assumption) ?_
    rotate_left
    · (intro w hSw; (try dsimp only at hSw); go_simp; (try with_reducible rfl))
    try simp only [Act.put, List.setIfInBounds_toArray, List.set_cons_zero, List.set_cons_succ, List.getElem_toArray, List.getElem_cons_succ, List.getElem_cons_zero]
    refine wpAnyH_take (i := 2) (v := ?_) rfl (by kernel_rfl) (by kernel_rfl) (by kernel_rfl) (fun _ _ _ h => h) (Or.inl ⟨by rfl, ?_⟩) (by assumption) ?_
    rotate_left
    · (intro w hSw; (try dsimp only at hSw); go_simp; (try with_reducible rfl))
    try simp only [Act.put, List.setIfInBounds_toArray, List.set_cons_zero, List.set_cons_succ, List.getElem_toArray, List.getElem_cons_succ, List.getElem_cons_zero]
    refine wpAnyH_take (i := 3) (v := ?_) rfl (by kernel_rfl) (by kernel_rfl) (by kernel_rfl) (fun _ _ _ h => h) (Or.inl ⟨by rfl, ?_⟩) (by assumption) ?_
    rotate_left
    · (intro w hSw; (try dsimp only at hSw); go_simp; (try with_reducible rfl))
    try simp only [Act.put, List.setIfInBounds_toArray, List.set_cons_zero, List.set_cons_succ, List.getElem_toArray, List.getElem_cons_succ, List.getElem_cons_zero]
    refine wpAnyH_ready (rs := [4]) (by kernel_rfl) (by simp) ?_
    refine AllReadyH.cons rfl (fun K hK => ?_) AllReadyH.nil
    go_simp
    refine (wm_any L0 w3.drew HL.out.1).mono ?_
    rintro e w9 ⟨rfl, rfl⟩
    refine hK.out _ _ hHeld (fun hHeld => ?_)
    clear hK K
    try simp only [Act.put, List.setIfInBounds_toArray, List.set_cons_zero, List.set_cons_succ, List.getElem_toArray, List.getElem_cons_succ, List.getElem_cons_zero]
    obtain ⟨L1, hL1⟩ : ∃ L1, L1 = wm L0 := ⟨_, rfl⟩
    rw [← hL1]
    have HL1 : Hid (L1 < 4294967296 ∧ (fin32 H = true → L1 = lowF (uI x + uI y - uI H))) := Lib.hid ⟨by rw [hL1]; unfold wm; split; decide; exact HL.out.1, fun h => by rw [hL1]; exact HL.out.2 h⟩
    clear hL1
    refine wpAnyH_take (i := 5) (v := ?_) rfl (by kernel_rfl) (by kernel_rfl) (by kernel_rfl) (fun _ _ _ h => h) (Or.inl ⟨by rfl, ?_⟩) (by assumption) ?_
    rotate_left
    · (intro w hSw; (try dsimp only at hSw); go_simp; (try with_reducible rfl))
    try simp only [Act.put, List.setIfInBounds_toArray, List.set_cons_zero, List.set_cons_succ, List.getElem_toArray, List.getElem_cons_succ, List.getElem_cons_zero]
    refine wpAnyH_ready (rs := [6]) (by kernel_rfl) (by simp) ?_
    refine AllReadyH.cons rfl (fun K hK => ?_) AllReadyH.nil
    go_simp
    obtain ⟨⟨r0, r1, r2, r3⟩, r4⟩ := Rs3.out
    have hsz2 := Sz2.out
    have hsz3 := Sz3.out
    have hlt0 := Hlt.out
    go_simp
    refine hK.out _ _ ((Pp3.out.keep (by have zz0 := Hlt.out; have zz1 := Sz2.out; have zz2 := Sz3.out; first | omega | (simp; done) | (simp; omega)) _).keep (by have zz0 := Hlt.out; have zz1 := Sz2.out; have zz2 := Sz3.out; first | omega | (simp; done) | (simp; omega)) _).1 (fun hHeld => ?_)
    clear hK K hHeld
    try simp only [Act.put, List.setIfInBounds_toArray, List.set_cons_zero, List.set_cons_succ, List.getElem_toArray, List.getElem_cons_succ, List.getElem_cons_zero]
    refine wpAnyH_done (by kernel_rfl) ?_ _
    go_wp2_with fail
    refine bodyPost_ret (v := .agg #[.float .f32 H, .float .f32 L1]) (by simp [results, Try.results52, go_sem, r0, r1]) rfl ⟨L1, rfl, HL1.out.1, HL1.out.2, ?_⟩
    exact ((Bel3.out.drew.setCell (by have zz0 := Hlt.out; have zz1 := Sz2.out; have zz2 := Sz3.out; first | omega | (simp; done) | (simp; omega)) _).setCell (by have zz0 := Hlt.out; have zz1 := Sz2.out; have zz2 := Sz3.out; first | omega | (simp; done) | (simp; omega)) _)
  · rw [decide_eq_false hsw] at hlt
    have Hsw : Hid ((uI y).natAbs ≤ (uI x).natAbs) := Lib.hid (by omega)
    clear hsw
    go_wp2_with fail
    refine (Hq1.out Hsw.out _).mono ?_
    rintro e w2 ⟨L0, rfl, hL1, hL2, hb⟩
    have HL := Lib.hid (And.intro hL1 hL2)
    clear hL1 hL2
    have Sz2 := Lib.hid (Below.size hb)
    have Bel2 := Lib.hid (belNext Bel1.out hb)
    have Rs2 := Lib.hid (Rs1.out.next hb)
    clear hb Bel1 Rs1 hlt hc1 hc2
    go_upto_region 4 with fail
    obtain ⟨w3, hw3⟩ : ∃ w3, w3 = w2.alloc (.cells #[.float .f32 H, .float .f32 L0] 37) := ⟨_, rfl⟩
    rw [← hw3]
    have hb : Below w2.heap.size w2 w3 := by rw [hw3]; exact belAlloc1 _ _
    have Pp3 : Hid (PB w3 w2.heap.size H L0) := Lib.hid (by rw [hw3]; exact PB.new _ _ _ _)
    have Sz3 := Lib.hid (Below.size hb)
    have Bel3 := Lib.hid (belNext Bel2.out hb)
    have Rs3 := Lib.hid (Rs2.out.next hb)
    clear hw3 hb Bel2 Rs2
    refine wp_region_held_drew (S := fun w' => (w'.cell? ⟨w2.heap.size, 0, none⟩ = some (.float .f32 H) ∧ w'.cell? ⟨w2.heap.size, 1, none⟩ = some (.float .f32 L0))) (by kernel_rfl) Pp3.out.1 (fun hHeld => ?_)
    refine wpAnyH_take (i := 0) (v := ?_) rfl (by kernel_rfl) (by kernel_rfl) (by kernel_rfl) (fun _ _ _ h => h) (Or.inl ⟨by rfl, ?_⟩) (by assumption) ?_
    rotate_left
    · (intro w hSw; (try dsimp only at hSw); go_simp; (try with_reducible rfl))
    try simp only [Act.put, List.setIfInBounds_toArray, List.set_cons_zero, List.set_cons_succ, List.getElem_toArray, List.getElem_cons_succ, List.getElem_cons_zero]
    refine wpAnyH_take (i := 1) (v := ?_) rfl (by kernel_rfl) (by kernel_rfl) (by kernel_rfl) (fun _ _ _ h => h) (Or.inl ⟨by rfl, ?_⟩) (by assumption) ?_
    rotate_left
    · (intro w hSw; (try dsimp only at hSw); go_simp; (try with_reducible rfl))
    try simp only [Act.put, List.setIfInBounds_toArray, List.set_cons_zero, List.set_cons_succ, List.getElem_toArray, List.getElem_cons_succ, List.getElem_cons_zero]
    refine wpAnyH_take (i := 2) (v := ?_) rfl (by kernel_rfl) (by kernel_rfl) (by kernel_rfl) (fun _ _ _ h => h) (Or.inl ⟨by rfl, ?_⟩) (by assumption) ?_
    rotate_left
    · (intro w hSw; (try dsimp only at hSw); go_simp; (try with_reducible rfl))
    try simp only [Act.put, List.setIfInBounds_toArray, List.set_cons_zero, List.set_cons_succ, List.getElem_toArray, List.getElem_cons_succ, List.getElem_cons_zero]
    refine wpAnyH_take (i := 3) (v := ?_) rfl (by kernel_rfl) (by kernel_rfl) (by kernel_rfl) (fun _ _ _ h => h) (Or.inl ⟨by rfl, ?_⟩) (by assumption) ?_
    rotate_left
    · (intro w hSw; (try dsimp only at hSw); go_simp; (try with_reducible rfl))
    try simp only [Act.put, List.setIfInBounds_toArray, List.set_cons_zero, List.set_cons_succ, List.getElem_toArray, List.getElem_cons_succ, List.getElem_cons_zero]
    refine wpAnyH_ready (rs := [4]) (by kernel_rfl) (by simp) ?_
    refine AllReadyH.cons rfl (fun K hK => ?_) AllReadyH.nil
    go_simp
    refine (wm_any L0 w3.drew HL.out.1).mono ?_
    rintro e w9 ⟨rfl, rfl⟩
    refine hK.out _ _ hHeld (fun hHeld => ?_)
    clear hK K
    try simp only [Act.put, List.setIfInBounds_toArray, List.set_cons_zero, List.set_cons_succ, List.getElem_toArray, List.getElem_cons_succ, List.getElem_cons_zero]
    obtain ⟨L1, hL1⟩ : ∃ L1, L1 = wm L0 := ⟨_, rfl⟩
    rw [← hL1]
    have HL1 : Hid (L1 < 4294967296 ∧ (fin32 H = true → L1 = lowF (uI x + uI y - uI H))) := Lib.hid ⟨by rw [hL1]; unfold wm; split; decide; exact HL.out.1, fun h => by rw [hL1]; exact HL.out.2 h⟩
    clear hL1
    refine wpAnyH_take (i := 5) (v := ?_) rfl (by kernel_rfl) (by kernel_rfl) (by kernel_rfl) (fun _ _ _ h => h) (Or.inl ⟨by rfl, ?_⟩) (by assumption) ?_
    rotate_left
    · (intro w hSw; (try dsimp only at hSw); go_simp; (try with_reducible rfl))
    try simp only [Act.put, List.setIfInBounds_toArray, List.set_cons_zero, List.set_cons_succ, List.getElem_toArray, List.getElem_cons_succ, List.getElem_cons_zero]
    refine wpAnyH_ready (rs := [6]) (by kernel_rfl) (by simp) ?_
    refine AllReadyH.cons rfl (fun K hK => ?_) AllReadyH.nil
    go_simp
    obtain ⟨⟨r0, r1, r2, r3⟩, r4⟩ := Rs3.out
    have hsz2 := Sz2.out
    have hsz3 := Sz3.out
    have hlt0 := Hlt.out
    go_simp
    refine hK.out _ _ ((Pp3.out.keep (by have zz0 := Hlt.out; have zz1 := Sz2.out; have zz2 := Sz3.out; first | omega | (simp; done) | (simp; omega)) _).keep (by have zz0 := Hlt.out; have zz1 := Sz2.out; have zz2 := Sz3.out; first | omega | (simp; done) | (simp; omega)) _).1 (fun hHeld => ?_)
    clear hK K hHeld
    try simp only [Act.put, List.setIfInBounds_toArray, List.set_cons_zero, List.set_cons_succ, List.getElem_toArray, List.getElem_cons_succ, List.getElem_cons_zero]
    refine wpAnyH_done (by kernel_rfl) ?_ _
    go_wp2_with fail
    refine bodyPost_ret (v := .agg #[.float .f32 H, .float .f32 L1]) (by simp [results, Try.results52, go_sem, r0, r1]) rfl ⟨L1, rfl, HL1.out.1, HL1.out.2, ?_⟩
    exact ((Bel3.out.drew.setCell (by have zz0 := Hlt.out; have zz1 := Sz2.out; have zz2 := Sz3.out; first | omega | (simp; done) | (simp; omega)) _).setCell (by have zz0 := Hlt.out; have zz1 := Sz2.out; have zz2 := Sz3.out; first | omega | (simp; done) | (simp; omega)) _)
end Go.Proofs.Ytnecnbonnidijaa
/- The laws' eqPair: it says yes of one pair of floats that are numbers. -/
namespace Go.Proofs.Ytnecnbonnidijaa
set_option maxRecDepth 100000
open Go.RowKit
set_option linter.unusedSimpArgs false
set_option linter.unusedVariables false

set_option maxHeartbeats 1000000 in
theorem eqP_yes (h l : Nat) (w : World) (hh : h < 4294967296 ∧ nan32 h = false) (hl : l < 4294967296 ∧ nan32 l = false) :
    Calls Try.prog 23 #[.agg #[.float .f32 h, .float .f32 l], .agg #[.float .f32 h, .float .f32 l]] w fun e w' => e = .returned (.bool true) ∧ Below w.heap.size w w' := by
  obtain ⟨c, hc, hcv⟩ := conv_yes h hh.1 hh.2
  obtain ⟨d, hd, hdv⟩ := conv_yes l hl.1 hl.2
  have Hcd := Lib.hid (And.intro hc hd)
  obtain ⟨w1, hw1⟩ : ∃ w1, w1 = (w.alloc (.cells #[.float .f32 h, .float .f32 l] 37)).alloc (.cells #[.float .f32 h, .float .f32 l] 37) := ⟨_, rfl⟩
  have P1 : Hid (PB w1 w.heap.size h l) := Lib.hid (by rw [hw1]; exact (PB.new _ _ _ _).next (belAlloc1 _ _))
  have P2 : Hid (PB w1 (w.heap.size + 1) h l) := Lib.hid (by rw [hw1]; have h := PB.new (w.alloc (.cells #[.float .f32 h, .float .f32 l] 37)) h l 37; simpa using h)
  have Bel1 : Hid (Below w.heap.size w w1) := Lib.hid (by rw [hw1]; exact belNext (belAlloc1 _ _) (belAlloc1 _ _))
  have Hw := Lib.hid hw1
  clear hh hl hw1 hc hd
  obtain ⟨⟨p0, p1⟩, p2⟩ := P1.out
  obtain ⟨⟨q0, q1⟩, q2⟩ := P2.out
  go_enter Try.func23, Try.ntmps23
  go_wp2_with fail
  rw [← Hw.out]
  refine (same_yes c _ Hcd.out.1).mono ?_
  rintro e w9 ⟨rfl, rfl⟩
  go_wp2_with fail
  refine (same_yes d _ Hcd.out.2).mono ?_
  rintro e w9 ⟨rfl, rfl⟩
  go_wp2_with fail
  go_ret
  exact ⟨rfl, Bel1.out⟩
end Go.Proofs.Ytnecnbonnidijaa
/- Exact sums of floats, of the program and of the model. -/
namespace Go.Proofs.Ytnecnbonnidijaa
set_option maxRecDepth 100000
open Go.RowKit
set_option linter.unusedSimpArgs false
set_option linter.unusedVariables false

attribute [local go_sem ↓] Go.wp_at_zero Go.wp_at_succ
def chH (h l : Nat) : Nat := if isP h l = true then h else 0
def chL (h l : Nat) : Nat := if isP h l = true then l else 0
def chE (h l : Nat) : Int := if isP h l = true then 0 else 3
theorem ret_pr {h h' l l' : Nat} {c c' : Int} (e1 : h = h') (e2 : l = l') (e3 : c = c') : Ending.returned (.tuple #[.agg #[.float .f32 h, .float .f32 l], .int .i64 c]) = .returned (.tuple #[.agg #[.float .f32 h', .float .f32 l'], .int .i64 c']) := by rw [e1, e2, e3]
set_option maxHeartbeats 1000000 in
theorem checked_any (h l : Nat) (w : World) (hh : h < 4294967296) (hl : l < 4294967296) :
    Calls Try.prog 53 #[.agg #[.float .f32 h, .float .f32 l]] w fun e w' => e = .returned (.tuple #[.agg #[.float .f32 (chH h l), .float .f32 (chL h l)], .int .i64 (chE h l)]) ∧ Below w.heap.size w w' := by
  have hst := store_float Try.prog
  have Hhl := Lib.hid (And.intro hh hl)
  obtain ⟨w1, hw1⟩ : ∃ w1, w1 = (w.alloc (.cells #[.float .f32 h, .float .f32 l] 37)).alloc (.cells #[.float .f32 0, .float .f32 0] 37) := ⟨_, rfl⟩
  have Pp1 : Hid (PB w1 w.heap.size h l) := Lib.hid (by rw [hw1]; exact (PB.new _ _ _ _).next (belAlloc1 _ _))
  have Rr1 : Hid (PRes w1 (w.heap.size + 1)) := Lib.hid (by rw [hw1]; have h := PRes.new (w.alloc (.cells #[.float .f32 h, .float .f32 l] 37)) 37; simpa using h)
  have Bel1 : Hid (Below w.heap.size w w1) := Lib.hid (by rw [hw1]; exact belNext (belAlloc1 _ _) (belAlloc1 _ _))
  have Hw := Lib.hid hw1
  clear hh hl hw1
  obtain ⟨⟨p0, p1⟩, p2⟩ := Pp1.out
  go_enter Try.func53, Try.ntmps53
  go_wp2_with fail
  rw [← Hw.out]
  refine (implIsPair_any h l _ Hhl.out.1 Hhl.out.2).mono ?_
  rintro e w2 ⟨rfl, hb⟩
  have Bel2 := Lib.hid (belNext Bel1.out hb)
  have Pp2 := Lib.hid (Pp1.out.next hb)
  have Rr2 := Lib.hid (Rr1.out.next hb)
  clear hb p0 p1 p2
  obtain ⟨⟨p0, p1⟩, p2⟩ := Pp2.out
  obtain ⟨⟨r0, r1, r2, r3⟩, r4⟩ := Rr2.out
  by_cases hp : isP h l = true
  · have Hres : Hid (chH h l = h ∧ chL h l = l ∧ chE h l = 0) := Lib.hid ⟨if_pos hp, if_pos hp, if_pos hp⟩
    rw [hp]
    clear hp
    go_wp2_with fail
    refine bodyPost_ret (v := .tuple #[.agg #[.float .f32 h, .float .f32 l], .int .i64 0]) (by simp [results, Try.results53, go_sem, r0, r1]) rfl ⟨ret_pr Hres.out.1.symm Hres.out.2.1.symm Hres.out.2.2.symm, ?_⟩
    exact (Bel2.out.setCell (by simp) _).setCell (by simp) _
  · have hp2 : isP h l = false := by simpa using hp
    have Hres : Hid (chH h l = 0 ∧ chL h l = 0 ∧ chE h l = 3) := Lib.hid ⟨if_neg hp, if_neg hp, if_neg hp⟩
    rw [hp2]
    clear hp hp2
    go_wp2_with fail
    refine bodyPost_ret (v := .tuple #[.agg #[.float .f32 0, .float .f32 0], .int .i64 3]) (by simp [results, Try.results53, go_sem, r0, r1]) rfl ⟨ret_pr Hres.out.1.symm Hres.out.2.1.symm Hres.out.2.2.symm, ?_⟩
    exact (Bel2.out.setCell (by simp) _).setCell (by simp) _
/-- what is beyond a finite sum -/
theorem sum_low {x y : Nat} (hx : x < 4294967296) (hy : y < 4294967296) (h1 : fin32 x = true) (h2 : fin32 y = true) (hf : fin32 (adF x y 0) = true) : FN (uI x + uI y - uI (adF x y 0)).natAbs ∧ (uI x + uI y - uI (adF x y 0)).natAbs ≤ 16777215 * 2 ^ 253 := by
  rcases Nat.le_total (uI y).natAbs (uI x).natAbs with h | h
  · obtain ⟨_, _, _, _, _, g1, g2, _⟩ := quick_words h1 h2 h hx hf
    exact ⟨g2, Nat.le_trans g1 (max_units h2)⟩
  · obtain ⟨_, _, _, _, _, g1, g2, _⟩ := quick_words h2 h1 h hy (by rw [ad_comm x y h1 h2]; exact hf)
    rw [ad_comm x y h1 h2, Int.add_comm (uI y) (uI x)] at g1 g2
    exact ⟨g2, Nat.le_trans g1 (max_units h1)⟩
def esH (x y : Nat) : Nat := if fin32 x = true ∧ fin32 y = true ∧ fin32 (adF x y 0) = true then adF x y 0 else 0
def esL (x y : Nat) : Nat := if fin32 x = true ∧ fin32 y = true ∧ fin32 (adF x y 0) = true then lowF (uI x + uI y - uI (adF x y 0)) else 0
def esE (x y : Nat) : Int := if fin32 x = true ∧ fin32 y = true then if fin32 (adF x y 0) = true then 0 else 3 else 1
theorem es_yes {x y : Nat} (h1 : fin32 x = true) (h2 : fin32 y = true) (h3 : fin32 (adF x y 0) = true) : esH x y = adF x y 0 ∧ esL x y = lowF (uI x + uI y - uI (adF x y 0)) ∧ esE x y = 0 := by
  unfold esH esL esE; rw [if_pos ⟨h1, h2, h3⟩, if_pos ⟨h1, h2, h3⟩, if_pos ⟨h1, h2⟩, if_pos h3]; exact ⟨rfl, rfl, rfl⟩
theorem es_inf {x y : Nat} (h1 : fin32 x = true) (h2 : fin32 y = true) (h3 : fin32 (adF x y 0) = false) : esH x y = 0 ∧ esL x y = 0 ∧ esE x y = 3 := by
  unfold esH esL esE; rw [h3, if_neg (by simp), if_neg (by simp), if_pos ⟨h1, h2⟩]; exact ⟨rfl, rfl, rfl⟩
theorem es_no {x y : Nat} (h : ¬ (fin32 x = true ∧ fin32 y = true)) : esH x y = 0 ∧ esL x y = 0 ∧ esE x y = 1 := by
  unfold esH esL esE; rw [if_neg (fun g => h ⟨g.1, g.2.1⟩), if_neg (fun g => h ⟨g.1, g.2.1⟩), if_neg h]; exact ⟨rfl, rfl, rfl⟩
theorem lowF_ok (e : Int) : lowF e < 4294967296 ∧ nan32 (lowF e) = false := ⟨(near_units e).1, (near_units e).2.1⟩
theorem es_ok {x y : Nat} : (esH x y < 4294967296 ∧ nan32 (esH x y) = false) ∧ (esL x y < 4294967296 ∧ nan32 (esL x y) = false) := by
  by_cases h : fin32 x = true ∧ fin32 y = true
  · by_cases h3 : fin32 (adF x y 0) = true
    · rw [(es_yes h.1 h.2 h3).1, (es_yes h.1 h.2 h3).2.1]
      exact ⟨Kt_ok x y, lowF_ok _⟩
    · rw [(es_inf h.1 h.2 (by simpa using h3)).1, (es_inf h.1 h.2 (by simpa using h3)).2.1]; exact ⟨⟨by decide, by decide⟩, by decide, by decide⟩
  · rw [(es_no h).1, (es_no h).2.1]; exact ⟨⟨by decide, by decide⟩, by decide, by decide⟩
def ERES (H L : Nat) (E : Int) : Ending := .returned (.tuple #[.agg #[.float .f32 H, .float .f32 L], .int .i64 E])
set_option maxHeartbeats 2000000 in
theorem implExSumW_any (x y : Nat) (w : World) (hx : x < 4294967296) (hy : y < 4294967296) :
    Calls Try.prog 22 #[.float .f32 x, .float .f32 y] w fun e w' => e = .returned (.tuple #[.agg #[.float .f32 (esH x y), .float .f32 (esL x y)], .int .i64 (esE x y)]) ∧ Below w.heap.size w w' := by
  have hst := store_float Try.prog
  have Hb := Lib.hid (And.intro hx hy)
  obtain ⟨w1, hw1⟩ : ∃ w1, w1 = (w.alloc (.cells #[.float .f32 0, .float .f32 0] 37)).alloc (.cells #[.float .f32 x, .float .f32 y] 33) := ⟨_, rfl⟩
  have Rr1 : Hid (PRes w1 w.heap.size) := Lib.hid (by rw [hw1]; exact (PRes.new _ _).next (belAlloc1 _ _))
  have Hr1 : Hid (Rd w1 w1.heap.size (some ⟨w.heap.size + 1, 0, none⟩) (fs [x, y])) := Lib.hid (by
    have e : (w.alloc (.cells #[.float .f32 0, .float .f32 0] 37)).heap.size = w.heap.size + 1 := by simp
    rw [hw1, ← e]; exact rd_two _ _ _ _)
  have Bel1 : Hid (Below w.heap.size w w1) := Lib.hid (by rw [hw1]; exact belNext (belAlloc1 _ _) (belAlloc1 _ _))
  have Hw := Lib.hid hw1
  clear hx hy hw1
  go_enter Try.func22, Try.ntmps22
  go_wp2_with fail
  rw [← Hw.out]
  refine (implAllFin_any [x, y] _ 2 2 _ w1 Hr1.out rfl (by omega) (two_lt Hb.out)).mono ?_
  rintro e w9 ⟨rfl, rfl⟩
  obtain ⟨⟨r0, r1, r2, r3⟩, r4⟩ := Rr1.out
  by_cases hf : fin32 x = true ∧ fin32 y = true
  · have Hall : Hid ([x, y].all fin32 = true) := Lib.hid (by simp [hf.1, hf.2])
    have Hf := Lib.hid hf
    rw [Hall.out]
    clear hf
    go_wp2_with fail
    refine (exSum_any x y _ Hb.out.1 Hb.out.2 Hf.out.1 Hf.out.2).mono ?_
    rintro e w2 ⟨L, rfl, hL1, hL2, hb⟩
    have Bel2 := Lib.hid (belNext Bel1.out hb)
    have Rr2 := Lib.hid (Rr1.out.next hb)
    have HL := Lib.hid (And.intro hL1 hL2)
    clear hb hL1 hL2 r0 r1 r2 r3 r4
    go_wp2_with fail
    refine (checked_any _ L _ (Kt_ok x y).1 HL.out.1).mono ?_
    rintro e w3 ⟨rfl, hb⟩
    have Bel3 := Lib.hid (belNext Bel2.out hb)
    have Rr3 := Lib.hid (Rr2.out.next hb)
    have Hes : Hid (chH (adF x y 0) L = esH x y ∧ chL (adF x y 0) L = esL x y ∧ chE (adF x y 0) L = esE x y) := Lib.hid (by
      by_cases h3 : fin32 (adF x y 0) = true
      · have hs := sum_low Hb.out.1 Hb.out.2 Hf.out.1 Hf.out.2 h3
        have hp := low_pair Hf.out.1 Hf.out.2 h3 hs.1 hs.2
        rw [← HL.out.2 h3] at hp
        have he := es_yes Hf.out.1 Hf.out.2 h3
        rw [he.1, he.2.1, he.2.2, ← HL.out.2 h3]
        exact ⟨if_pos hp, if_pos hp, if_pos hp⟩
      · have hp := isP_not (h := adF x y 0) (l := L) (fun h => h3 h.1)
        have he := es_inf Hf.out.1 Hf.out.2 (by simpa using h3)
        rw [he.1, he.2.1, he.2.2]
        unfold chH chL chE
        rw [hp]
        exact ⟨rfl, rfl, rfl⟩)
    rw [Hes.out.1, Hes.out.2.1, Hes.out.2.2]
    clear hb
    obtain ⟨⟨r0, r1, r2, r3⟩, r4⟩ := Rr3.out
    obtain ⟨H9, hH9⟩ : ∃ H9, H9 = esH x y := ⟨_, rfl⟩
    obtain ⟨L9, hL9⟩ : ∃ L9, L9 = esL x y := ⟨_, rfl⟩
    obtain ⟨E9, hE9⟩ : ∃ E9, E9 = esE x y := ⟨_, rfl⟩
    rw [← hH9, ← hL9, ← hE9]
    have H9_ := Lib.hid (And.intro hH9 (And.intro hL9 hE9))
    clear hH9 hL9 hE9
    go_wp2_with fail
    refine bodyPost_ret (v := .tuple #[.agg #[.float .f32 H9, .float .f32 L9], .int .i64 E9]) (by simp [results, Try.results22, go_sem, r0, r1]) rfl ⟨ret_pr H9_.out.1 H9_.out.2.1 H9_.out.2.2, ?_⟩
    exact (Bel3.out.setCell (by simp) _).setCell (by simp) _
  · have Hall : Hid ([x, y].all fin32 = false) := Lib.hid (by
      cases h1 : fin32 x <;> cases h2 : fin32 y <;> simp_all)
    have Hres := Lib.hid (es_no hf)
    rw [Hall.out]
    clear hf
    go_wp2_with fail
    refine bodyPost_ret (v := .tuple #[.agg #[.float .f32 0, .float .f32 0], .int .i64 1]) (by simp [results, Try.results22, go_sem, r0, r1]) rfl ⟨ret_pr Hres.out.1.symm Hres.out.2.1.symm Hres.out.2.2.symm, ?_⟩
    exact (Bel1.out.setCell (by simp) _).setCell (by simp) _
theorem rdF_lt (z E : Int) : rdF z E 0 < 4294967296 := by
  by_cases hz : z = 0
  · subst hz; unfold rdF; rw [if_pos rfl]; decide
  · rw [rd_wrd hz]
    exact (word_parts (decide (z < 0)) _ (by omega)).1
theorem sub_vn {a b : Int} : nz (sumZ (nz a) (nx a (-149)) (-(nz b)) (nx b (-149))) = nz (a - b) ∧ nx (sumZ (nz a) (nx a (-149)) (-(nz b)) (nx b (-149))) (min (nx a (-149)) (nx b (-149))) = nx (a - b) (-149) := by
  have g1 := nx_ge (B := -149) (z := a) (e := -149) (Int.le_refl _) (by omega)
  have g2 := nx_ge (B := -149) (z := b) (e := -149) (Int.le_refl _) (by omega)
  refine nzx_same (B := -149) (by omega) (Int.le_refl _) ?_
  rw [uV_sum g1 g2, uV_neg, uV_nz (Int.le_refl _), uV_nz (Int.le_refl _), uV_one, uV_one, uV_one, Int.sub_eq_add_neg]
theorem wm_low (U : Int) : wm (lowF U) = lowF U := by
  unfold wm
  by_cases h0 : lowF U % 2147483648 = 0
  · rw [if_pos h0]
    by_cases hU : U = 0
    · subst hU; unfold lowF rdF; rw [if_pos rfl]
    · exfalso
      obtain ⟨e, h1, h2⟩ := rd_word hU
      obtain ⟨w1, w2, w3⟩ := word_parts (decide (U < 0)) (min (rg U.natAbs) 2139095040) (by omega)
      unfold lowF at h0
      rw [e, w2] at h0
      have hr : rg U.natAbs = 0 := by omega
      unfold rg at hr
      have hl : blen U.natAbs - 24 = 0 := by omega
      rw [hl, evenCut_zero] at hr
      omega
  · rw [if_neg h0]
set_option maxHeartbeats 1000000 in
theorem specNear_any (z S E : Int) (A : Option Addr) (n c : Nat) (w : World) (hz : ZV w z S A n c) (hodd : z ≠ 0 → z.natAbs % 2 = 1) (hm : (n : Int) ≤ 200) (h1 : -15000 ≤ E) (h2 : E ≤ 15000) :
    Calls Try.prog 82 #[.agg #[.int .i64 S, .slice A n c, .int .i64 E]] w fun e w' => e = .returned (.float .f32 (wm (rdF z E 0))) ∧ Below w.heap.size w w' := by
  have HH := Lib.hid (And.intro hodd (And.intro hm (And.intro h1 h2)))
  obtain ⟨w1, hw1⟩ : ∃ w1, w1 = w.alloc (.cells #[.int .i64 S, .slice A n c, .int .i64 E] 95) := ⟨_, rfl⟩
  have Bx1 : Hid (DBox w1 w.heap.size S A n c E) := Lib.hid (by rw [hw1]; exact DBox.new _ _ _ _ _ _ _)
  have Bel1 : Hid (Below w.heap.size w w1) := Lib.hid (by rw [hw1]; exact belAlloc1 _ _)
  have Zv1 := Lib.hid (hz.next Bel1.out)
  have Hw := Lib.hid hw1
  have hF := rdF_lt z E
  obtain ⟨F, hFe⟩ : ∃ F, F = rdF z E 0 := ⟨_, rfl⟩
  rw [← hFe] at hF ⊢
  have HF := Lib.hid (And.intro hFe hF)
  have he := eqz32 F hF
  clear hz hodd hm h1 h2 hw1 hF hFe
  obtain ⟨⟨b0, b1, b2⟩, b3⟩ := Bx1.out
  by_cases h0 : F % 2147483648 = 0
  · rw [decide_eq_true h0] at he
    have Hwm : Hid (wm F = 0) := Lib.hid (by unfold wm; rw [if_pos h0])
    clear h0
    go_enter Try.func82, Try.ntmps82
    go_wp2_with fail
    rw [← Hw.out]
    refine (specRound_any z S E 0 A n c _ Zv1.out HH.out.1 HH.out.2.1 HH.out.2.2.1 HH.out.2.2.2 (by omega) (by omega)).mono ?_
    rintro e w2 ⟨rfl, hb⟩
    have Bel2 := Lib.hid (belNext Bel1.out hb)
    rw [← HF.out.1]
    obtain ⟨L, hL⟩ : ∃ L, L = rdL z E 0 := ⟨_, rfl⟩
    rw [← hL]
    clear hb hL b0 b1 b2 b3
    go_wp2_with fail
    go_ret
    exact ⟨by rw [Hwm.out]; rfl, Bel2.out⟩
  · rw [decide_eq_false h0] at he
    have Hwm : Hid (wm F = F) := Lib.hid (by unfold wm; rw [if_neg h0])
    clear h0
    go_enter Try.func82, Try.ntmps82
    go_wp2_with fail
    rw [← Hw.out]
    refine (specRound_any z S E 0 A n c _ Zv1.out HH.out.1 HH.out.2.1 HH.out.2.2.1 HH.out.2.2.2 (by omega) (by omega)).mono ?_
    rintro e w2 ⟨rfl, hb⟩
    have Bel2 := Lib.hid (belNext Bel1.out hb)
    rw [← HF.out.1]
    obtain ⟨L, hL⟩ : ∃ L, L = rdL z E 0 := ⟨_, rfl⟩
    rw [← hL]
    clear hb hL b0 b1 b2 b3
    go_wp2_with fail
    go_ret
    exact ⟨by rw [Hwm.out]; rfl, Bel2.out⟩

theorem two_sm {h l : Nat} (h1 : fin32 h = true) (h2 : fin32 l = true) : (uI h + uI l).natAbs ≤ 8 * (16777216 * 2 ^ 253) := by
  have a1 := uI_bound h1
  have a2 := uI_bound h2
  have a3 : 2 * (16777216 * 2 ^ 253) ≤ 8 * (16777216 * 2 ^ 253) := Nat.mul_le_mul_right _ (by omega)
  generalize 16777216 * 2 ^ 253 = P at *
  omega
theorem max_sm {v : Nat} (h : v ≤ 16777215 * 2 ^ 253) : v ≤ 8 * (16777216 * 2 ^ 253) := by
  refine Nat.le_trans h ?_
  rw [← Nat.mul_assoc]
  exact Nat.mul_le_mul_right _ (by omega)
theorem nz_odd3 {z : Int} (h : z ≠ 0) : (nz z).natAbs % 2 = 1 := by
  rw [(nz_facts z).2]; exact (tz_spec (v := z.natAbs) (by omega)).2
set_option maxHeartbeats 2000000 in
theorem specSum5_any (x y : Nat) (w : World) (hx : x < 4294967296) (hy : y < 4294967296) (hf1 : fin32 x = true) (hf2 : fin32 y = true) :
    Calls Try.prog 51 #[.float .f32 x, .float .f32 y] w fun e w' => e = .returned (.tuple #[.agg #[.float .f32 (esH x y), .float .f32 (esL x y)], .bool (fin32 (adF x y 0))]) ∧ Below w.heap.size w w' := by
  have hst := store_float Try.prog
  have Hb := Lib.hid (And.intro hx hy)
  have Hf := Lib.hid (And.intro hf1 hf2)
  have h1 := hw_add x y hx hy hf1 hf2
  obtain ⟨w1, hw1⟩ : ∃ w1, w1 = w.alloc (.cells #[.float .f32 0, .float .f32 0] 37) := ⟨_, rfl⟩
  have Rr1 : Hid (PRes w1 w.heap.size) := Lib.hid (by rw [hw1]; exact PRes.new _ _)
  have Bel1 : Hid (Below w.heap.size w w1) := Lib.hid (by rw [hw1]; exact belAlloc1 _ _)
  have Hw := Lib.hid hw1
  have hk := Kt_ok x y
  have Hsl : Hid (fin32 (adF x y 0) = true → FN (uI x + uI y - uI (adF x y 0)).natAbs ∧ (uI x + uI y - uI (adF x y 0)).natAbs ≤ 16777215 * 2 ^ 253) := Lib.hid (sum_low hx hy hf1 hf2)
  have Hyes : Hid (fin32 (adF x y 0) = true → esH x y = adF x y 0 ∧ esL x y = lowF (uI x + uI y - uI (adF x y 0)) ∧ esE x y = 0) := Lib.hid (es_yes hf1 hf2)
  have Hno : Hid (fin32 (adF x y 0) = false → esH x y = 0 ∧ esL x y = 0 ∧ esE x y = 3) := Lib.hid (es_inf hf1 hf2)
  obtain ⟨H, hH⟩ : ∃ H, H = adF x y 0 := ⟨_, rfl⟩
  rw [← hH] at h1 hk Hsl Hyes Hno ⊢
  have hop : ∀ t w, (binOp .add t (.float .f32 x) (.float .f32 y)).run Try.prog w = .ok (.float .f32 H) w := fun t w => run_float_arith w .add t .f32 _ _ _ h1
  have Hk := Lib.hid hk
  obtain ⟨H8, hH8⟩ : ∃ H8, H8 = esH x y := ⟨_, rfl⟩
  obtain ⟨L8, hL8⟩ : ∃ L8, L8 = esL x y := ⟨_, rfl⟩
  rw [← hH8, ← hL8]
  have H8_ := Lib.hid (And.intro hH8 hL8)
  clear hx hy hf1 hf2 hw1 hk hH h1 hH8 hL8
  go_enter Try.func51, Try.ntmps51
  go_wp2_with fail
  rw [← Hw.out]
  refine (finB_any H _ Hk.out.1).mono ?_
  rintro e w2 ⟨rfl, hb⟩
  have Bel2 := Lib.hid (belNext Bel1.out hb)
  have Rr2 := Lib.hid (Rr1.out.next hb)
  clear hb
  by_cases hf : fin32 H = true
  · have Hfin := Lib.hid hf
    have Hres := Lib.hid (Hyes.out hf)
    have Hse := Lib.hid (Hsl.out hf)
    rw [hf]
    clear hf
    have hX := nx_u (two_sm Hf.out.1 Hf.out.2)
    have hfx := fe_small Hf.out.1
    have hfy := fe_small Hf.out.2
    have hfh := fe_small Hfin.out
    obtain ⟨X1, hX1⟩ : ∃ X1, X1 = fe x := ⟨_, rfl⟩
    obtain ⟨X2, hX2⟩ : ∃ X2, X2 = fe y := ⟨_, rfl⟩
    obtain ⟨X3, hX3⟩ : ∃ X3, X3 = nx (uI x + uI y) (-149) := ⟨_, rfl⟩
    obtain ⟨X4, hX4⟩ : ∃ X4, X4 = fe H := ⟨_, rfl⟩
    rw [← hX1] at hfx
    rw [← hX2] at hfy
    rw [← hX3] at hX
    rw [← hX4] at hfh
    have HX := Lib.hid (And.intro hX1 (And.intro hX2 (And.intro hX3 hX4)))
    clear hX1 hX2 hX3 hX4
    go_wp2_with fail
    refine (specOfD_any x _ Hb.out.1 Hf.out.1).mono ?_
    rintro e w3 ⟨S2, A2, n2, c2, rfl, hzo, hb⟩
    rw [show nx (ofM x) (ofP x) = X1 from HX.out.1.symm]
    have Za3 : Hid (ZO w3 w2.heap.size w3.heap.size (fz x) S2 A2 n2 c2) := Lib.hid hzo
    have Hn2 : Hid ((n2 : Int) ≤ 1) := Lib.hid (fz_len Hf.out.1 hzo.2.1)
    clear hzo
    have Sz3 := Lib.hid (Below.size hb)
    have Bel3 := Lib.hid (belNext Bel2.out hb)
    have Rr3 := Lib.hid (Rr2.out.next hb)
    clear hb Bel2 Rr2
    go_wp2_with fail
    refine (specOfD_any y _ Hb.out.2 Hf.out.2).mono ?_
    rintro e w4 ⟨S3, A3, n3, c3, rfl, hzo, hb⟩
    rw [show nx (ofM y) (ofP y) = X2 from HX.out.2.1.symm]
    have Zb4 : Hid (ZO w4 w3.heap.size w4.heap.size (fz y) S3 A3 n3 c3) := Lib.hid hzo
    have Hn3 : Hid ((n3 : Int) ≤ 1) := Lib.hid (fz_len Hf.out.2 hzo.2.1)
    clear hzo
    have Sz4 := Lib.hid (Below.size hb)
    have Bel4 := Lib.hid (belNext Bel3.out hb)
    have Rr4 := Lib.hid (Rr3.out.next hb)
    have Za4 := Lib.hid (Za3.out.next hb)
    clear hb Bel3 Rr3 Za3
    go_wp2_with fail
    refine (specAddD_any (fz x) S2 X1 (fz y) S3 X2 A2 A3 n2 c2 n3 c3 _ Za4.out.zv Zb4.out.zv (by have := Hn2.out; omega) (by have := Hn3.out; omega) (by omega) (by omega) (by omega) (by omega)).mono ?_
    rintro e w5 ⟨S4, A4, n4, c4, rfl, hzo, hb⟩
    have hvn := sum_vn (a := uI x) (b := uI y)
    rw [← (f_vn x).1, ← (f_vn x).2, ← (f_vn y).1, ← (f_vn y).2, ← HX.out.1, ← HX.out.2.1] at hvn
    rw [hvn.1] at hzo
    rw [hvn.2, ← HX.out.2.2.1]
    have Zc5 := Lib.hid hzo
    have Hn4 : Hid ((n4 : Int) ≤ 12) := Lib.hid (by have h1 := u_len (two_sm Hf.out.1 Hf.out.2); have h2 := limbs_len_mono (nz_le (uI x + uI y)); have e := hzo.2.1; omega)
    clear hzo hvn
    have Sz5 := Lib.hid (Below.size hb)
    have Bel5 := Lib.hid (belNext Bel4.out hb)
    have Rr5 := Lib.hid (Rr4.out.next hb)
    have Za5 := Lib.hid (Za4.out.next hb)
    have Zb5 := Lib.hid (Zb4.out.next hb)
    clear hb Bel4 Rr4 Za4 Zb4
    go_wp2_with fail
    refine (specOfD_any H _ Hk.out.1 Hfin.out).mono ?_
    rintro e w6 ⟨S5, A5, n5, c5, rfl, hzo, hb⟩
    rw [show nx (ofM H) (ofP H) = X4 from HX.out.2.2.2.symm]
    have Zd6 : Hid (ZO w6 w5.heap.size w6.heap.size (fz H) S5 A5 n5 c5) := Lib.hid hzo
    have Hn5 : Hid ((n5 : Int) ≤ 1) := Lib.hid (fz_len Hfin.out hzo.2.1)
    clear hzo
    have Sz6 := Lib.hid (Below.size hb)
    have Bel6 := Lib.hid (belNext Bel5.out hb)
    have Rr6 := Lib.hid (Rr5.out.next hb)
    have Zc6 := Lib.hid (Zc5.out.next hb)
    clear hb Bel5 Rr5 Zc5
    go_wp2_with fail
    refine (specSubD_any (nz (uI x + uI y)) S4 X3 (fz H) S5 X4 A4 A5 n4 c4 n5 c5 _ Zc6.out.zv Zd6.out.zv (by have := Hn4.out; omega) (by have := Hn5.out; omega) (by omega) (by omega) (by omega) (by omega)).mono ?_
    rintro e w7 ⟨S6, A6, n6, c6, rfl, hzo, hb⟩
    have hvn := sub_vn (a := uI x + uI y) (b := uI H)
    rw [← (f_vn H).1, ← (f_vn H).2, ← HX.out.2.2.1, ← HX.out.2.2.2] at hvn
    rw [hvn.1] at hzo
    rw [hvn.2]
    have hsm : (uI x + uI y - uI H).natAbs ≤ 8 * (16777216 * 2 ^ 253) := max_sm Hse.out.2
    have Zf7 := Lib.hid hzo
    have Hn6 : Hid ((n6 : Int) ≤ 12) := Lib.hid (by have h1 := u_len hsm; have h2 := limbs_len_mono (nz_le (uI x + uI y - uI H)); have e := hzo.2.1; omega)
    have hx5 := nx_u hsm
    obtain ⟨X5, hX5⟩ : ∃ X5, X5 = nx (uI x + uI y - uI H) (-149) := ⟨_, rfl⟩
    rw [← hX5] at hx5 ⊢
    have HX5 := Lib.hid hX5
    clear hzo hvn hX5 hsm
    have Sz7 := Lib.hid (Below.size hb)
    have Bel7 := Lib.hid (belNext Bel6.out hb)
    have Rr7 := Lib.hid (Rr6.out.next hb)
    have Zc7 := Lib.hid (Zc6.out.next hb)
    have Zd7 := Lib.hid (Zd6.out.next hb)
    clear hb Bel6 Rr6 Zc6 Zd6
    go_wp2_with fail
    refine (specNear_any (nz (uI x + uI y - uI H)) S6 X5 A6 n6 c6 _ Zf7.out.zv (fun h => nz_odd3 (fun e => h (by rw [e, nz_zero]))) (by have := Hn6.out; omega) (by omega) (by omega)).mono ?_
    rintro e w8 ⟨rfl, hb⟩
    have hrd := (rd_norm (uI x + uI y - uI H) (-149) 0).1
    rw [← HX5.out] at hrd
    rw [hrd, show rdF (uI x + uI y - uI H) (-149) 0 = lowF (uI x + uI y - uI H) from rfl, wm_low, ← Hres.out.2.1, ← H8_.out.2]
    clear hrd
    have Sz8 := Lib.hid (Below.size hb)
    have Bel8 := Lib.hid (belNext Bel7.out hb)
    have Rr8 := Lib.hid (Rr7.out.next hb)
    have Zf8 := Lib.hid (Zf7.out.next hb)
    clear hb Bel7 Rr7 Zf7
    obtain ⟨⟨r0, r1, r2, r3⟩, r4⟩ := Rr8.out
    go_wp2_with fail
    refine bodyPost_ret (v := .tuple #[.agg #[.float .f32 H, .float .f32 L8], .bool true]) (by simp [results, Try.results51, go_sem, r0, r1]) rfl ⟨by rw [H8_.out.1, Hres.out.1, Hfin.out], ?_⟩
    exact (Bel8.out.setCell (by simp) _).setCell (by simp) _
  · have hf2 : fin32 H = false := by simpa using hf
    have Hres := Lib.hid (Hno.out hf2)
    have Hf2 := Lib.hid hf2
    rw [hf2]
    clear hf hf2
    obtain ⟨⟨r0, r1, r2, r3⟩, r4⟩ := Rr2.out
    go_wp2_with fail
    refine bodyPost_ret (v := .tuple #[.agg #[.float .f32 0, .float .f32 0], .bool false]) (by simp [results, Try.results51, go_sem, r0, r1]) rfl ⟨by rw [H8_.out.1, H8_.out.2, Hres.out.1, Hres.out.2.1, Hf2.out], ?_⟩
    exact (Bel2.out.setCell (by simp) _).setCell (by simp) _
set_option maxHeartbeats 2000000 in
theorem specExSumW_any (x y : Nat) (w : World) (hx : x < 4294967296) (hy : y < 4294967296) :
    Calls Try.prog 21 #[.float .f32 x, .float .f32 y] w fun e w' => e = .returned (.tuple #[.agg #[.float .f32 (esH x y), .float .f32 (esL x y)], .int .i64 (esE x y)]) ∧ Below w.heap.size w w' := by
  have hst := store_float Try.prog
  have Hb := Lib.hid (And.intro hx hy)
  obtain ⟨w1, hw1⟩ : ∃ w1, w1 = w.alloc (.cells #[.float .f32 0, .float .f32 0] 37) := ⟨_, rfl⟩
  have Rr1 : Hid (PRes w1 w.heap.size) := Lib.hid (by rw [hw1]; exact PRes.new _ _)
  have Bel1 : Hid (Below w.heap.size w w1) := Lib.hid (by rw [hw1]; exact belAlloc1 _ _)
  have Hw := Lib.hid hw1
  clear hx hy hw1
  go_enter Try.func21, Try.ntmps21
  go_wp2_with fail
  rw [← Hw.out]
  refine (finB_any x _ Hb.out.1).mono ?_
  rintro e w2 ⟨rfl, hb⟩
  have Bel2 := Lib.hid (belNext Bel1.out hb)
  have Rr2 := Lib.hid (Rr1.out.next hb)
  clear hb
  by_cases h1 : fin32 x = true
  · have H1 := Lib.hid h1
    rw [h1]
    clear h1
    go_wp2_with fail
    refine (finB_any y _ Hb.out.2).mono ?_
    rintro e w3 ⟨rfl, hb⟩
    have Bel3 := Lib.hid (belNext Bel2.out hb)
    have Rr3 := Lib.hid (Rr2.out.next hb)
    clear hb
    by_cases h2 : fin32 y = true
    · have H2 := Lib.hid h2
      rw [h2]
      clear h2
      go_wp2_with fail
      refine (specSum5_any x y _ Hb.out.1 Hb.out.2 H1.out H2.out).mono ?_
      rintro e w4 ⟨rfl, hb⟩
      have Bel4 := Lib.hid (belNext Bel3.out hb)
      have Rr4 := Lib.hid (Rr3.out.next hb)
      obtain ⟨H9, hH9⟩ : ∃ H9, H9 = esH x y := ⟨_, rfl⟩
      obtain ⟨L9, hL9⟩ : ∃ L9, L9 = esL x y := ⟨_, rfl⟩
      rw [← hH9, ← hL9]
      have H9_ := Lib.hid (And.intro hH9 hL9)
      clear hb hH9 hL9
      go_upto_region 4 with fail
      obtain ⟨w5, hw5⟩ : ∃ w5, w5 = w4.alloc (.cells #[.float .f32 H9, .float .f32 L9] 37) := ⟨_, rfl⟩
      rw [← hw5]
      have hb : Below w4.heap.size w4 w5 := by rw [hw5]; exact belAlloc1 _ _
      have Pp5 : Hid (PB w5 w4.heap.size H9 L9) := Lib.hid (by rw [hw5]; exact PB.new _ _ _ _)
      have Bel5 := Lib.hid (belNext Bel4.out hb)
      have Rr5 := Lib.hid (Rr4.out.next hb)
      clear hw5 hb
      obtain ⟨⟨r0, r1, r2, r3⟩, r4⟩ := Rr5.out
      obtain ⟨⟨p0, p1⟩, p2⟩ := Pp5.out
      by_cases h3 : fin32 (adF x y 0) = true
      · have Hres := Lib.hid (es_yes H1.out H2.out h3)
        rw [h3]
        clear h3
        go_wp2_with fail
        refine bodyPost_ret (v := .tuple #[.agg #[.float .f32 H9, .float .f32 L9], .int .i64 0]) (by simp [results, Try.results21, go_sem, r0, r1]) rfl ⟨ret_pr H9_.out.1 H9_.out.2 Hres.out.2.2.symm, ?_⟩
        exact (Bel5.out.setCell (by simp) _).setCell (by simp) _
      · have h4 : fin32 (adF x y 0) = false := by simpa using h3
        have Hres := Lib.hid (es_inf H1.out H2.out h4)
        rw [h4]
        clear h3 h4
        go_wp2_with fail
        refine bodyPost_ret (v := .tuple #[.agg #[.float .f32 0, .float .f32 0], .int .i64 3]) (by simp [results, Try.results21, go_sem, r0, r1]) rfl ⟨ret_pr Hres.out.1.symm Hres.out.2.1.symm Hres.out.2.2.symm, ?_⟩
        exact (Bel5.out.setCell (by simp) _).setCell (by simp) _
    · have h4 : fin32 y = false := by simpa using h2
      have Hres := Lib.hid (es_no (x := x) (y := y) (fun h => h2 h.2))
      rw [h4]
      clear h2 h4
      obtain ⟨⟨r0, r1, r2, r3⟩, r4⟩ := Rr3.out
      go_wp2_with fail
      refine bodyPost_ret (v := .tuple #[.agg #[.float .f32 0, .float .f32 0], .int .i64 1]) (by simp [results, Try.results21, go_sem, r0, r1]) rfl ⟨ret_pr Hres.out.1.symm Hres.out.2.1.symm Hres.out.2.2.symm, ?_⟩
      exact (Bel3.out.setCell (by simp) _).setCell (by simp) _
  · have h4 : fin32 x = false := by simpa using h1
    have Hres := Lib.hid (es_no (x := x) (y := y) (fun h => h1 h.1))
    rw [h4]
    clear h1 h4
    obtain ⟨⟨r0, r1, r2, r3⟩, r4⟩ := Rr2.out
    go_wp2_with fail
    refine bodyPost_ret (v := .tuple #[.agg #[.float .f32 0, .float .f32 0], .int .i64 1]) (by simp [results, Try.results21, go_sem, r0, r1]) rfl ⟨ret_pr Hres.out.1.symm Hres.out.2.1.symm Hres.out.2.2.symm, ?_⟩
    exact (Bel2.out.setCell (by simp) _).setCell (by simp) _
end Go.Proofs.Ytnecnbonnidijaa
