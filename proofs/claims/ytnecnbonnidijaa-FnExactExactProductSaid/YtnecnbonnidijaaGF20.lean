/- Texts of this seat, joined: Pj Pk Po Pn Pp Pq Pr Ps -/
import Derived.Test.YtnecnbonnidijaaGF10
import Derived.Test.YtnecnbonnidijaaGF9
import Derived.Test.YtnecnbonnidijaaGF19
import Derived.Deep.RegionHeld3
import Derived.Test.YtnecnbonnidijaaGF2
import Derived.Test.YtnecnbonnidijaaGF7
import Derived.Test.YtnecnbonnidijaaGF6
/- Sums of floats in units of 2^-149: the word of the nearest float, what it is worth, and quick sums of words. -/
namespace Go.Proofs.Ytnecnbonnidijaa
set_option maxRecDepth 100000
open Go.RowKit
set_option linter.unusedSimpArgs false
set_option linter.unusedVariables false
open Ieee

/-- the rung of the nearest float -/
def rg (v : Nat) : Nat := (blen v - 24) * 8388608 + evenCut v (blen v - 24)
theorem word_parts (s : Bool) (r : Nat) (hr : r ≤ 2139095040) : Ieee.single.word s r < 4294967296 ∧ Ieee.single.word s r % 2147483648 = r ∧ (2147483648 ≤ Ieee.single.word s r ↔ s = true) := by
  unfold Format.word
  rw [single_sign]
  cases s
  · simp; omega
  · simp; omega
theorem rung_worth {M l : Nat} (h1 : M ≤ 16777216) (h2 : l = 0 ∨ 8388608 ≤ M) : mant (l * 8388608 + M) * 2 ^ expo (l * 8388608 + M) = M * 2 ^ l := by
  by_cases h : M = 16777216
  · subst h
    have e1 : mant (l * 8388608 + 16777216) = 8388608 := by unfold mant; rw [if_neg (by omega)]; omega
    have e2 : expo (l * 8388608 + 16777216) = l + 1 := by unfold expo; rw [if_neg (by omega)]; omega
    rw [e1, e2, Nat.pow_succ]; omega
  · by_cases h3 : 8388608 ≤ M
    · have e1 : mant (l * 8388608 + M) = M := by unfold mant; rw [if_neg (by omega)]; omega
      have e2 : expo (l * 8388608 + M) = l := by unfold expo; rw [if_neg (by omega)]; omega
      rw [e1, e2]
    · have hl : l = 0 := by omega
      subst hl
      have e1 : mant (0 * 8388608 + M) = M := by unfold mant; rw [if_pos (by omega)]; omega
      have e2 : expo (0 * 8388608 + M) = 0 := by unfold expo; rw [if_pos (by omega)]
      rw [e1, e2]
/-- a float without -0 -/
def wm (b : Nat) : Nat := if b % 2147483648 = 0 then 0 else b
/-- what is beyond the nearest float, as a float -/
def lowF (e : Int) : Nat := rdF e (-149) 0
end Go.Proofs.Ytnecnbonnidijaa
/- Quick sums and exact sums of floats, of the program. -/
namespace Go.Proofs.Ytnecnbonnidijaa
set_option maxRecDepth 100000
open Go.RowKit
set_option linter.unusedSimpArgs false
set_option linter.unusedVariables false
attribute [local go_sem ↓] Go.wp_at_zero Go.wp_at_succ

theorem eqz32 (b : Nat) (hb : b < 4294967296) : (FloatKind.f32.format.order b 0 == some .eq) = decide (b % 2147483648 = 0) := by
  by_cases hn : nan32 b = true
  · rw [nan32_cmp b 0 .eq (.inl hn)]
    unfold nan32 at hn
    have := of_decide_eq_true hn
    exact (decide_eq_false (by omega)).symm
  · rw [eq_zero32 b hb (by simpa using hn), decide_eq_decide]
    rcases place_cases b with ⟨h1, h2⟩ | ⟨h1, h2⟩ <;> omega
theorem wm_any (b : Nat) (w : World) (hb : b < 4294967296) : Calls Try.prog 87 #[.float .f32 b] w fun e w' => e = .returned (.float .f32 (wm b)) ∧ w = w' := by
  have h := eqz32 b hb
  by_cases h0 : b % 2147483648 = 0
  · have Hw : Hid (wm b = 0) := Lib.hid (by unfold wm; rw [if_pos h0])
    have hd : decide (b % 2147483648 = 0) = true := decide_eq_true h0
    rw [hd] at h
    clear h0 hd
    go_enter Try.func87, Try.ntmps87
    go_wp2_with fail
    go_ret
    exact ⟨by rw [Hw.out]; rfl, rfl⟩
  · have Hw : Hid (wm b = b) := Lib.hid (by unfold wm; rw [if_neg h0])
    have hd : decide (b % 2147483648 = 0) = false := decide_eq_false h0
    rw [hd] at h
    clear h0 hd
    go_enter Try.func87, Try.ntmps87
    go_wp2_with fail
    go_ret
    exact ⟨by rw [Hw.out]; rfl, rfl⟩
theorem not_fin_inf {b : Nat} (hn : nan32 b = false) (hf : fin32 b = false) : b % 2147483648 = 2139095040 := by
  unfold nan32 at hn; unfold fin32 at hf
  have h1 := of_decide_eq_false hn
  have h2 := of_decide_eq_false hf
  omega
/-- a pair's box for a result -/
def PRes (w : World) (b : Nat) : Prop := (w.cell? ⟨b, 0, none⟩ = some (.float .f32 0) ∧ w.cell? ⟨b, 1, none⟩ = some (.float .f32 0) ∧ w.frozen? ⟨b, 0, none⟩ = false ∧ w.frozen? ⟨b, 1, none⟩ = false) ∧ b < w.heap.size
theorem PRes.next {w w' : World} {b : Nat} (h : PRes w b) (hb : Below w.heap.size w w') : PRes w' b :=
  ⟨⟨(hb.cell (p := ⟨b, 0, none⟩) h.2).trans h.1.1, (hb.cell (p := ⟨b, 1, none⟩) h.2).trans h.1.2.1, (hb.frozen (p := ⟨b, 0, none⟩) h.2).trans h.1.2.2.1, (hb.frozen (p := ⟨b, 1, none⟩) h.2).trans h.1.2.2.2⟩, Nat.lt_of_lt_of_le h.2 hb.size⟩
theorem PRes.drew {w : World} {b : Nat} (h : PRes w b) : PRes w.drew b := h
theorem PRes.new (w : World) (t : TypeId) : PRes (w.alloc (.cells #[.float .f32 0, .float .f32 0] t)) w.heap.size := by
  refine ⟨⟨?_, ?_, ?_, ?_⟩, ?_⟩
  · simp
  · simp
  · go_simp
  · go_simp
  · simp
end Go.Proofs.Ytnecnbonnidijaa
/- The laws' eqPair: it says yes of one pair of floats that are numbers. -/
namespace Go.Proofs.Ytnecnbonnidijaa
set_option maxRecDepth 100000
open Go.RowKit
set_option linter.unusedSimpArgs false
set_option linter.unusedVariables false

set_option maxHeartbeats 1000000 in
theorem eqP_yes (h l : Nat) (w : World) (hh : h < 4294967296 ∧ nan32 h = false) (hl : l < 4294967296 ∧ nan32 l = false) :
    Calls Try.prog 23 #[.agg #[.float .f32 h, .float .f32 l], .agg #[.float .f32 h, .float .f32 l]] w fun e w' => e = .returned (.bool true) ∧ Below w.heap.size w w' := by
  obtain ⟨c, hc, hcv⟩ := conv_yes h hh.1 hh.2
  obtain ⟨d, hd, hdv⟩ := conv_yes l hl.1 hl.2
  have Hcd := Lib.hid (And.intro hc hd)
  obtain ⟨w1, hw1⟩ : ∃ w1, w1 = (w.alloc (.cells #[.float .f32 h, .float .f32 l] 37)).alloc (.cells #[.float .f32 h, .float .f32 l] 37) := ⟨_, rfl⟩
  have P1 : Hid (PB w1 w.heap.size h l) := Lib.hid (by rw [hw1]; exact (PB.new _ _ _ _).next (belAlloc1 _ _))
  have P2 : Hid (PB w1 (w.heap.size + 1) h l) := Lib.hid (by rw [hw1]; have h := PB.new (w.alloc (.cells #[.float .f32 h, .float .f32 l] 37)) h l 37; simpa using h)
  have Bel1 : Hid (Below w.heap.size w w1) := Lib.hid (by rw [hw1]; exact belNext (belAlloc1 _ _) (belAlloc1 _ _))
  have Hw := Lib.hid hw1
  clear hh hl hw1 hc hd
  obtain ⟨⟨p0, p1⟩, p2⟩ := P1.out
  obtain ⟨⟨q0, q1⟩, q2⟩ := P2.out
  go_enter Try.func23, Try.ntmps23
  go_wp2_with fail
  rw [← Hw.out]
  refine (same_yes c _ Hcd.out.1).mono ?_
  rintro e w9 ⟨rfl, rfl⟩
  go_wp2_with fail
  refine (same_yes d _ Hcd.out.2).mono ?_
  rintro e w9 ⟨rfl, rfl⟩
  go_wp2_with fail
  go_ret
  exact ⟨rfl, Bel1.out⟩
end Go.Proofs.Ytnecnbonnidijaa
/- Exact sums of floats, of the program and of the model. -/
namespace Go.Proofs.Ytnecnbonnidijaa
set_option maxRecDepth 100000
open Go.RowKit
set_option linter.unusedSimpArgs false
set_option linter.unusedVariables false

attribute [local go_sem ↓] Go.wp_at_zero Go.wp_at_succ
def chH (h l : Nat) : Nat := if isP h l = true then h else 0
def chL (h l : Nat) : Nat := if isP h l = true then l else 0
def chE (h l : Nat) : Int := if isP h l = true then 0 else 3
theorem ret_pr {h h' l l' : Nat} {c c' : Int} (e1 : h = h') (e2 : l = l') (e3 : c = c') : Ending.returned (.tuple #[.agg #[.float .f32 h, .float .f32 l], .int .i64 c]) = .returned (.tuple #[.agg #[.float .f32 h', .float .f32 l'], .int .i64 c']) := by rw [e1, e2, e3]
def esH (x y : Nat) : Nat := if fin32 x = true ∧ fin32 y = true ∧ fin32 (adF x y 0) = true then adF x y 0 else 0
def esL (x y : Nat) : Nat := if fin32 x = true ∧ fin32 y = true ∧ fin32 (adF x y 0) = true then lowF (uI x + uI y - uI (adF x y 0)) else 0
def esE (x y : Nat) : Int := if fin32 x = true ∧ fin32 y = true then if fin32 (adF x y 0) = true then 0 else 3 else 1
def ERES (H L : Nat) (E : Int) : Ending := .returned (.tuple #[.agg #[.float .f32 H, .float .f32 L], .int .i64 E])
theorem rdF_lt (z E : Int) : rdF z E 0 < 4294967296 := by
  by_cases hz : z = 0
  · subst hz; unfold rdF; rw [if_pos rfl]; decide
  · rw [rd_wrd hz]
    exact (word_parts (decide (z < 0)) _ (by omega)).1
set_option maxHeartbeats 1000000 in
theorem specNear_any (z S E : Int) (A : Option Addr) (n c : Nat) (w : World) (hz : ZV w z S A n c) (hodd : z ≠ 0 → z.natAbs % 2 = 1) (hm : (n : Int) ≤ 200) (h1 : -15000 ≤ E) (h2 : E ≤ 15000) :
    Calls Try.prog 82 #[.agg #[.int .i64 S, .slice A n c, .int .i64 E]] w fun e w' => e = .returned (.float .f32 (wm (rdF z E 0))) ∧ Below w.heap.size w w' := by
  have HH := Lib.hid (And.intro hodd (And.intro hm (And.intro h1 h2)))
  obtain ⟨w1, hw1⟩ : ∃ w1, w1 = w.alloc (.cells #[.int .i64 S, .slice A n c, .int .i64 E] 95) := ⟨_, rfl⟩
  have Bx1 : Hid (DBox w1 w.heap.size S A n c E) := Lib.hid (by rw [hw1]; exact DBox.new _ _ _ _ _ _ _)
  have Bel1 : Hid (Below w.heap.size w w1) := Lib.hid (by rw [hw1]; exact belAlloc1 _ _)
  have Zv1 := Lib.hid (hz.next Bel1.out)
  have Hw := Lib.hid hw1
  have hF := rdF_lt z E
  obtain ⟨F, hFe⟩ : ∃ F, F = rdF z E 0 := ⟨_, rfl⟩
  rw [← hFe] at hF ⊢
  have HF := Lib.hid (And.intro hFe hF)
  have he := eqz32 F hF
  clear hz hodd hm h1 h2 hw1 hF hFe
  obtain ⟨⟨b0, b1, b2⟩, b3⟩ := Bx1.out
  by_cases h0 : F % 2147483648 = 0
  · rw [decide_eq_true h0] at he
    have Hwm : Hid (wm F = 0) := Lib.hid (by unfold wm; rw [if_pos h0])
    clear h0
    go_enter Try.func82, Try.ntmps82
    go_wp2_with fail
    rw [← Hw.out]
    refine (specRound_any z S E 0 A n c _ Zv1.out HH.out.1 HH.out.2.1 HH.out.2.2.1 HH.out.2.2.2 (by omega) (by omega)).mono ?_
    rintro e w2 ⟨rfl, hb⟩
    have Bel2 := Lib.hid (belNext Bel1.out hb)
    rw [← HF.out.1]
    obtain ⟨L, hL⟩ : ∃ L, L = rdL z E 0 := ⟨_, rfl⟩
    rw [← hL]
    clear hb hL b0 b1 b2 b3
    go_wp2_with fail
    go_ret
    exact ⟨by rw [Hwm.out]; rfl, Bel2.out⟩
  · rw [decide_eq_false h0] at he
    have Hwm : Hid (wm F = F) := Lib.hid (by unfold wm; rw [if_neg h0])
    clear h0
    go_enter Try.func82, Try.ntmps82
    go_wp2_with fail
    rw [← Hw.out]
    refine (specRound_any z S E 0 A n c _ Zv1.out HH.out.1 HH.out.2.1 HH.out.2.2.1 HH.out.2.2.2 (by omega) (by omega)).mono ?_
    rintro e w2 ⟨rfl, hb⟩
    have Bel2 := Lib.hid (belNext Bel1.out hb)
    rw [← HF.out.1]
    obtain ⟨L, hL⟩ : ∃ L, L = rdL z E 0 := ⟨_, rfl⟩
    rw [← hL]
    clear hb hL b0 b1 b2 b3
    go_wp2_with fail
    go_ret
    exact ⟨by rw [Hwm.out]; rfl, Bel2.out⟩

theorem nz_odd3 {z : Int} (h : z ≠ 0) : (nz z).natAbs % 2 = 1 := by
  rw [(nz_facts z).2]; exact (tz_spec (v := z.natAbs) (by omega)).2
end Go.Proofs.Ytnecnbonnidijaa
/- Products of floats and what is beyond the nearest float, in doubles: plain mathematics. -/
namespace Go.Proofs.Ytnecnbonnidijaa
set_option maxRecDepth 100000
open Go.RowKit
set_option linter.unusedSimpArgs false
set_option linter.unusedVariables false
open Ieee

theorem cut_mult {v l j : Nat} : ((v : Int) - ((evenCut v l * 2 ^ l : Nat) : Int)).natAbs ≤ ((v : Int) - ((j * 2 ^ l : Nat) : Int)).natAbs := by
  have h := evenCut_half v l
  generalize evenCut v l = R at *
  generalize 2 ^ l = P at *
  rcases Nat.lt_trichotomy j R with h1 | h1 | h1
  · have h2 := Nat.mul_le_mul_right P (show j + 1 ≤ R from h1)
    rw [Nat.add_mul, Nat.one_mul] at h2
    omega
  · rw [h1]; exact Nat.le_refl _
  · have h2 := Nat.mul_le_mul_right P (show R + 1 ≤ j from h1)
    rw [Nat.add_mul, Nat.one_mul] at h2
    omega
/-- how many bits are cut, where units are 2^-1074 -/
def lB (v : Nat) : Nat := max (blen v - 24) 925
theorem rQ_B (v : Nat) : rQ v (-1074) = (lB v : Int) - 1074 := by unfold rQ lB; omega
def rnB (v : Nat) : Nat := evenCut v (lB v) * 2 ^ lB v
def rnBI (z : Int) : Int := if z < 0 then -((rnB z.natAbs : Nat) : Int) else ((rnB z.natAbs : Nat) : Int)
theorem rnB_near0 (v : Nat) : ((v : Int) - rnB v).natAbs ≤ v := by
  have h := cut_mult (v := v) (l := lB v) (j := 0)
  unfold rnB
  rw [Nat.zero_mul] at h
  omega
theorem rnB_half (v : Nat) : 2 * ((v : Int) - rnB v).natAbs ≤ 2 ^ lB v := by
  have h := evenCut_half v (lB v)
  unfold rnB
  omega
theorem rnB_dvd {v D : Nat} (h : 2 ^ D ∣ v) : 2 ^ D ∣ ((v : Int) - rnB v).natAbs := by
  rcases Nat.le_or_ge D (lB v) with h1 | h1
  · have h2 : 2 ^ D ∣ rnB v := Nat.dvd_trans (Nat.pow_dvd_pow 2 h1) (Nat.dvd_mul_left _ _)
    exact dvd_dif (a := (v : Int)) (b := (rnB v : Int)) (by simpa using h) (by simpa using h2)
  · obtain ⟨c, hc⟩ := h
    have h2 := cut_mult (v := v) (l := lB v) (j := c * 2 ^ (D - lB v))
    rw [Nat.mul_assoc, ← Nat.pow_add, show D - lB v + lB v = D by omega, Nat.mul_comm c, ← hc] at h2
    have h3 : ((v : Int) - rnB v).natAbs = 0 := by unfold rnB; omega
    rw [h3]
    exact Nat.dvd_zero _
theorem rd_wordB {z : Int} (hz : z ≠ 0) : rdF z (-1074) 0 = Ieee.single.word (decide (z < 0)) (min ((lB z.natAbs - 925) * 8388608 + evenCut z.natAbs (lB z.natAbs)) 2139095040) ∧ evenCut z.natAbs (lB z.natAbs) ≤ 16777216 ∧ (lB z.natAbs - 925 = 0 ∨ 8388608 ≤ evenCut z.natAbs (lB z.natAbs)) := by
  have hv : z.natAbs ≠ 0 := by omega
  obtain ⟨f1, f2, f3⟩ := rM_facts hv 0 z.sign (-1074)
  rw [rd_wrd hz]
  unfold wrd
  rw [rQ_B] at f1 f2 f3 ⊢
  rw [show (lB z.natAbs : Int) - 1074 - -1074 = ((lB z.natAbs : Nat) : Int) by omega, rM_even z.sign hv] at f1 f3 ⊢
  rw [show ((lB z.natAbs : Int) - 1074 + 149).toNat = lB z.natAbs - 925 by omega]
  refine ⟨rfl, f1, ?_⟩
  rcases f3 with f3 | f3
  · exact .inl (by omega)
  · exact .inr f3
theorem lB_ge (v : Nat) : 925 ≤ lB v := by unfold lB; omega
def e925 : Nat := 925
/-- the worth of the nearest float in units of 2^-1074 -/
theorem near_B (z : Int) : rdF z (-1074) 0 < 4294967296 ∧ nan32 (rdF z (-1074) 0) = false ∧ (fin32 (rdF z (-1074) 0) = true → (2 : Int) ^ e925 * uI (rdF z (-1074) 0) = rnBI z ∧ lB z.natAbs ≤ 1179) := by
  by_cases hz : z = 0
  · subst hz
    have e : rdF 0 (-1074) 0 = 0 := by unfold rdF; rw [if_pos rfl]
    rw [e, uI_zero.2 rfl]
    refine ⟨by decide, by decide, fun _ => ⟨?_, by unfold lB; rw [Int.natAbs_zero, blen_zero]; decide⟩⟩
    have h := rnB_near0 0
    have h0 : rnB 0 = 0 := by omega
    unfold rnBI
    rw [Int.natAbs_zero, h0, Int.mul_zero, if_neg (by omega)]
    rfl
  · obtain ⟨e, h1, h2⟩ := rd_wordB hz
    obtain ⟨r, hr⟩ : ∃ r, r = (lB z.natAbs - 925) * 8388608 + evenCut z.natAbs (lB z.natAbs) := ⟨_, rfl⟩
    rw [← hr] at e
    obtain ⟨w1, w2, w3⟩ := word_parts (decide (z < 0)) (min r 2139095040) (by omega)
    rw [e]
    refine ⟨w1, by unfold nan32; rw [w2]; exact decide_eq_false (by omega), fun hf => ?_⟩
    have hrf : r < 2139095040 := by
      unfold fin32 at hf; rw [w2] at hf; have := of_decide_eq_true hf; omega
    rw [Nat.min_eq_left (by omega)] at w1 w2 w3 ⊢
    refine ⟨?_, by omega⟩
    have ha := uI_abs (Ieee.single.word (decide (z < 0)) r)
    rw [w2, hr, rung_worth h1 h2] at ha
    have hs := uI_ofM (Ieee.single.word (decide (z < 0)) r)
    rw [ofM_if] at hs
    have hp := Int.pow_pos (n := (2 : Int)) (m := expo (Ieee.single.word (decide (z < 0)) r % 2147483648)) (by omega)
    have hm : (0 : Int) ≤ (mant (Ieee.single.word (decide (z < 0)) r % 2147483648) : Int) * (2 : Int) ^ expo (Ieee.single.word (decide (z < 0)) r % 2147483648) := Int.mul_nonneg (by omega) (by omega)
    have hrn : rnB z.natAbs = 2 ^ e925 * (evenCut z.natAbs (lB z.natAbs) * 2 ^ (lB z.natAbs - 925)) := by
      unfold rnB
      have := lB_ge z.natAbs
      conv => lhs; rw [show lB z.natAbs = (lB z.natAbs - 925) + e925 by unfold e925; omega, Nat.pow_add, ← Nat.mul_assoc, Nat.mul_comm]
      rw [show lB z.natAbs - 925 + e925 = lB z.natAbs by unfold e925; omega]
    rw [← hr] at ha
    rw [← ha] at hrn
    unfold rnBI
    rw [hrn, Int.natCast_mul, ← pow_cast]
    obtain ⟨P, hP⟩ : ∃ P : Int, P = (2 : Int) ^ e925 := ⟨_, rfl⟩
    rw [← hP]
    by_cases hn : z < 0
    · rw [if_pos (w3.2 (decide_eq_true hn)), Int.neg_mul] at hs
      rw [if_pos hn, ← Int.mul_neg]
      congr 1
      omega
    · rw [if_neg (fun h => hn (of_decide_eq_true (w3.1 h)))] at hs
      rw [if_neg hn]
      congr 1
      omega
/-- what is beyond it, in units of 2^-1074 -/
theorem rest_facts (z : Int) : (z - rnBI z).natAbs ≤ z.natAbs ∧ 2 * (z - rnBI z).natAbs ≤ 2 ^ lB z.natAbs ∧ ∀ D, 2 ^ D ∣ z.natAbs → 2 ^ D ∣ (z - rnBI z).natAbs := by
  have h1 := rnB_near0 z.natAbs
  have h2 := rnB_half z.natAbs
  have e : (z - rnBI z).natAbs = ((z.natAbs : Int) - rnB z.natAbs).natAbs := by
    unfold rnBI
    by_cases h : z < 0
    · rw [if_pos h]; omega
    · rw [if_neg h]; omega
  rw [e]
  exact ⟨h1, h2, fun D hD => rnB_dvd hD⟩
theorem rest_fin {T : Int} {l : Nat} (hl : l ≤ 1179) (h : 2 * T.natAbs ≤ 2 ^ l) : fin32 (rdF T (-1074) 0) = true := by
  by_cases hT : T = 0
  · subst hT; unfold rdF; rw [if_pos rfl]; decide
  · obtain ⟨e, h1, h2⟩ := rd_wordB hT
    have hb : blen T.natAbs ≤ l := by rw [blen_lt]; have := Nat.two_pow_pos l; omega
    have hlt : lB T.natAbs ≤ 1155 := by unfold lB; omega
    have hr : (lB T.natAbs - 925) * 8388608 + evenCut T.natAbs (lB T.natAbs) < 2139095040 := by omega
    rw [Nat.min_eq_left (by omega)] at e
    obtain ⟨w1, w2, w3⟩ := word_parts (decide (T < 0)) _ (Nat.le_of_lt hr)
    rw [e]
    unfold fin32
    rw [w2]
    exact decide_eq_true hr
/-- a product of doubles that is a double -/
theorem mul64 (s t : Bool) {m n : Nat} {p q : Int} (h1 : m < 9007199254740992) (h2 : -1074 ≤ p) (h3 : p ≤ 971) (g1 : n < 9007199254740992) (g2 : -1074 ≤ q) (g3 : q ≤ 971) :
    floatBits .mul .f64 (d64 s m p) (d64 t n q) = some (d64 (s ^^ t) (m * n) (p + q)) := by
  obtain ⟨m', p', e1, hs1, _⟩ := read64 s h1 h2 h3
  obtain ⟨n', q', e2, hs2, _⟩ := read64 t g1 g2 g3
  show Ieee.double.mul _ _ = _
  unfold Format.mul
  rw [e1, e2]
  show some (Format.nearest _ _ _ _) = _
  congr 1
  exact nearest_same _ _ (hs1.mul hs2)
/-- a difference of doubles, in units of 2^-1074 -/
theorem sub64 (s t : Bool) {m n : Nat} {p q : Int} (h1 : m < 9007199254740992) (h2 : -1074 ≤ p) (h3 : p ≤ 971) (g1 : n < 9007199254740992) (g2 : -1074 ≤ q) (g3 : q ≤ 971) :
    ∃ σ : Bool, floatBits .sub .f64 (d64 s m p) (d64 t n q) = some (d64 σ (signed s m (p - -1074).toNat - signed t n (q - -1074).toNat).natAbs (-1074)) ∧
      (signed s m (p - -1074).toNat - signed t n (q - -1074).toNat ≠ 0 → σ = decide (signed s m (p - -1074).toNat - signed t n (q - -1074).toNat < 0)) := by
  obtain ⟨m', p', e1, hs1, _⟩ := read64 s h1 h2 h3
  obtain ⟨n', q', e2, hs2, _⟩ := read64 t g1 g2 g3
  obtain ⟨T, hT⟩ : ∃ T, T = signed s m (p - -1074).toNat - signed t n (q - -1074).toNat := ⟨_, rfl⟩
  rw [← hT]
  obtain ⟨base, hbase⟩ : ∃ base, base = min p' q' := ⟨_, rfl⟩
  obtain ⟨b, hb⟩ : ∃ b, b = min base (-1074) := ⟨_, rfl⟩
  obtain ⟨tot, htot⟩ : ∃ tot, tot = signed s m' (p' - base).toNat + signed (!t) n' (q' - base).toNat := ⟨_, rfl⟩
  have hneg : ∀ (u : Bool) (k j : Nat), signed (!u) k j = -signed u k j := by
    intro u k j; rw [signed_eq, signed_eq]; cases u <;> simp
  have hsc : tot * 2 ^ (base - b).toNat = T * 2 ^ (-1074 - b).toNat := by
    rw [htot, hneg, hT, Int.add_mul, Int.sub_mul, Int.neg_mul, ← signed_add, ← signed_add, ← signed_add, ← signed_add]
    rw [show (p' - base).toNat + (base - b).toNat = (p' - b).toNat by omega, show (q' - base).toNat + (base - b).toNat = (q' - b).toNat by omega,
      show (p - -1074).toNat + (-1074 - b).toNat = (p - b).toNat by omega, show (q - -1074).toNat + (-1074 - b).toNat = (q - b).toNat by omega,
      signed_same s hs1 b (by omega) (by omega), signed_same t hs2 b (by omega) (by omega)]
    omega
  have hp1 := Int.pow_pos (n := (2 : Int)) (m := (base - b).toNat) (by omega)
  have hp2 := Int.pow_pos (n := (2 : Int)) (m := (-1074 - b).toNat) (by omega)
  have hz : tot = 0 ↔ T = 0 := by
    constructor
    · intro h; rw [h, Int.zero_mul] at hsc
      rcases Int.mul_eq_zero.1 hsc.symm with h | h
      · exact h
      · omega
    · intro h; rw [h, Int.zero_mul] at hsc
      rcases Int.mul_eq_zero.1 hsc with h | h
      · exact h
      · omega
  have hsg : tot < 0 ↔ T < 0 := by
    constructor
    · intro h
      have h4 := Int.mul_neg_of_neg_of_pos h hp1
      rw [hsc] at h4
      exact Int.not_le.1 (fun h5 => by have := Int.mul_nonneg h5 (Int.le_of_lt hp2); omega)
    · intro h
      have h4 := Int.mul_neg_of_neg_of_pos h hp2
      rw [← hsc] at h4
      exact Int.not_le.1 (fun h5 => by have := Int.mul_nonneg h5 (Int.le_of_lt hp1); omega)
  refine ⟨if tot = 0 then s && (!t) else decide (tot < 0), ?_, fun h => ?_⟩
  · show Ieee.double.sub _ _ = _
    unfold Format.sub
    rw [e1, e2]
    unfold Datum.opposite Datum.sum
    simp only
    rw [← hbase, ← htot]
    show some (Format.nearest _ _ _ _) = _
    congr 1
    refine nearest_same _ _ ⟨(base - b).toNat, (-1074 - b).toNat, ?_, by omega⟩
    have h5 := congrArg Int.natAbs hsc
    rw [Int.natAbs_mul, Int.natAbs_mul, pow_cast, pow_cast, Int.natAbs_natCast, Int.natAbs_natCast] at h5
    exact h5
  · rw [if_neg (fun e => h (hz.1 e)), decide_eq_decide]
    exact hsg
end Go.Proofs.Ytnecnbonnidijaa
/- Short products of floats: what the program finds in doubles, in units of 2^-1074. -/
namespace Go.Proofs.Ytnecnbonnidijaa
set_option maxRecDepth 100000
open Go.RowKit
set_option linter.unusedSimpArgs false
set_option linter.unusedVariables false
open Ieee

/-- the exact product, in units of 2^-1074 -/
def prZ (x y : Nat) : Int := uV (-1074) (fz x * fz y) (fe x + fe y)
theorem prZ_of (x y : Nat) : prZ x y = (2 : Int) ^ (ofP x + ofP y - -1074).toNat * (ofM x * ofM y) := by
  unfold prZ uV
  by_cases hx : ofM x = 0
  · rw [(fz_zero x).2 hx, hx]; simp
  · by_cases hy : ofM y = 0
    · rw [(fz_zero y).2 hy, hy]; simp
    · have h1 := ofP_ge x
      have h2 := ofP_ge y
      rw [fe_tz x hx, fe_tz y hy]
      conv => rhs; rw [ofM_fz x, ofM_fz y]
      rw [show (ofP x + (tz (ofM x).natAbs : Int) + (ofP y + (tz (ofM y).natAbs : Int)) - -1074).toNat = (ofP x + ofP y - -1074).toNat + tz (ofM x).natAbs + tz (ofM y).natAbs by omega, Int.pow_add, Int.pow_add]
      rw [Int.mul_assoc, Int.mul_assoc]
      congr 1
      rw [Int.mul_assoc]
      congr 1
      rw [Int.mul_left_comm (fz x)]
theorem e925_uI {b : Nat} (hf : fin32 b = true) : (2 : Int) ^ e925 * uI b = uV (-1074) (fz b) (fe b) := by
  have h := (fe_small hf).1
  unfold uI uV
  rw [show (fe b - -1074).toNat = e925 + (fe b + 149).toNat by unfold e925; omega, Int.pow_add, Int.mul_comm (fz b), Int.mul_assoc]
theorem e925_signed {b : Nat} (hb : b < 4294967296) : signed (decide (2147483648 ≤ b)) (mant (b % 2147483648)) (ofP b - -1074).toNat = (2 : Int) ^ e925 * uI b := by
  rw [signed_of, uI_ofM]
  have h := ofP_ge b
  rw [show (ofP b - -1074).toNat = e925 + expo (b % 2147483648) by unfold e925 ofP; omega, Int.pow_add, Int.mul_assoc, Int.mul_comm (ofM b)]
theorem pr_signed {x y : Nat} : signed (decide (2147483648 ≤ x) ^^ decide (2147483648 ≤ y)) (mant (x % 2147483648) * mant (y % 2147483648)) (ofP x + ofP y - -1074).toNat = prZ x y := by
  rw [prZ_of, signed_eq, ofM_if, ofM_if, Int.natCast_mul]
  generalize (2 : Int) ^ (ofP x + ofP y - -1074).toNat = P
  by_cases h1 : 2147483648 ≤ x <;> by_cases h2 : 2147483648 ≤ y
  · rw [decide_eq_true h1, decide_eq_true h2, if_pos h1, if_pos h2, Int.neg_mul_neg]
    simp [Int.mul_comm]
  · rw [decide_eq_true h1, decide_eq_false h2, if_pos h1, if_neg h2, Int.neg_mul]
    simp [Int.mul_comm, Int.mul_neg]
  · rw [decide_eq_false h1, decide_eq_true h2, if_neg h1, if_pos h2, Int.mul_neg]
    simp [Int.mul_comm, Int.mul_neg]
  · rw [decide_eq_false h1, decide_eq_false h2, if_neg h1, if_neg h2]
    simp [Int.mul_comm]
theorem mu_facts (x y : Nat) (hf1 : fin32 x = true) (hf2 : fin32 y = true) : muF x y 0 < 4294967296 ∧ nan32 (muF x y 0) = false ∧ (fin32 (muF x y 0) = true → (2 : Int) ^ e925 * uI (muF x y 0) = rnBI (prZ x y) ∧ lB (prZ x y).natAbs ≤ 1179) := by
  by_cases h : fz x * fz y = 0
  · rw [(mu_eq 0 h).1]
    have hz : prZ x y = 0 := by unfold prZ; rw [h, uV_zero]
    obtain ⟨_, _, g⟩ := near_B 0
    have e : rdF 0 (-1074) 0 = 0 := by unfold rdF; rw [if_pos rfl]
    rw [e] at g
    have g2 := g (by decide)
    rw [uI_zero.2 rfl] at g2
    rw [hz]
    refine ⟨by unfold mzF; split <;> decide, by unfold mzF; split <;> decide, fun _ => ?_⟩
    rw [show uI (mzF (neg32 x != neg32 y)) = 0 from uI_zero.2 (by unfold mzF; split <;> decide)]
    exact g2
  · rw [(mu_ne 0 h).1]
    have hr : rdF (fz x * fz y) (fe x + fe y) 0 = rdF (prZ x y) (-1074) 0 := ((rd_uV (by have := (fe_small hf1).1; have := (fe_small hf2).1; omega) 0).1).symm
    rw [hr]
    exact near_B _
/-- what is beyond the product's float -/
def prT (x y : Nat) : Int := prZ x y - (2 : Int) ^ e925 * uI (muF x y 0)
def lowP (T : Int) : Nat := wm (rdF T (-1074) 0)
theorem uI_wm (b : Nat) : uI (wm b) = uI b := by
  unfold wm
  by_cases h : b % 2147483648 = 0
  · rw [if_pos h, uI_zero.2 h, uI_zero.2 rfl]
  · rw [if_neg h]
theorem wm_ok {b : Nat} (h : b < 4294967296 ∧ nan32 b = false) : wm b < 4294967296 ∧ nan32 (wm b) = false := by
  unfold wm
  split
  · exact ⟨by decide, by decide⟩
  · exact h
theorem wm_fin {b : Nat} (h : fin32 b = true) : fin32 (wm b) = true := by
  unfold wm
  split
  · decide
  · exact h
theorem prT_facts {x y : Nat} (hx : x < 4294967296) (hy : y < 4294967296) (hf1 : fin32 x = true) (hf2 : fin32 y = true) (hf : fin32 (muF x y 0) = true) :
    fin32 (rdF (prT x y) (-1074) 0) = true ∧ ∃ t, t < 281474976710656 ∧ (prT x y).natAbs = t * 2 ^ (ofP x + ofP y - -1074).toNat := by
  obtain ⟨_, _, h3⟩ := mu_facts x y hf1 hf2
  obtain ⟨h4, h5⟩ := h3 hf
  obtain ⟨r1, r2, r3⟩ := rest_facts (prZ x y)
  unfold prT
  rw [h4]
  refine ⟨rest_fin h5 r2, ?_⟩
  have hz : (prZ x y).natAbs = 2 ^ (ofP x + ofP y - -1074).toNat * (mant (x % 2147483648) * mant (y % 2147483648)) := by
    rw [prZ_of, Int.natAbs_mul, Int.natAbs_mul, ofM_abs, ofM_abs, pow_cast, Int.natAbs_natCast]
  obtain ⟨t, ht⟩ := r3 _ (by rw [hz]; exact Nat.dvd_mul_right _ _)
  refine ⟨t, ?_, by rw [ht, Nat.mul_comm]⟩
  rw [ht, hz] at r1
  have h6 := Nat.le_of_mul_le_mul_left r1 (Nat.two_pow_pos _)
  have h7 := Nat.mul_lt_mul'' (mant_lt (x % 2147483648)) (mant_lt (y % 2147483648))
  omega
theorem s32_zero (σ : Bool) (p : Int) : s32 σ 0 p = mzF σ := by
  unfold s32 Format.nearest
  rw [if_pos rfl, word_zero]
/-- what the program finds in doubles, of a finite product -/
theorem pr_doubles {x y : Nat} (hx : x < 4294967296) (hy : y < 4294967296) (hf1 : fin32 x = true) (hf2 : fin32 y = true) (hf : fin32 (muF x y 0) = true) :
    ∃ X Y P D R L E, floatToFloatBits .f32 x .f64 = some X ∧ floatToFloatBits .f32 y .f64 = some Y ∧ floatBits .mul .f64 X Y = some P ∧ floatToFloatBits .f32 (muF x y 0) .f64 = some D ∧ floatBits .sub .f64 P D = some R ∧
      floatToFloatBits .f64 R .f32 = some L ∧ L < 4294967296 ∧ wm L = lowP (prT x y) ∧ floatToFloatBits .f32 L .f64 = some E ∧ (FloatKind.f64.format.order E R == some .eq) = decide ((2 : Int) ^ e925 * uI (lowP (prT x y)) = prT x y) := by
  obtain ⟨hH, hn, _⟩ := mu_facts x y hf1 hf2
  have a1 := mant_lt (x % 2147483648)
  have a2 := mant_lt (y % 2147483648)
  have a3 := mant_lt (muF x y 0 % 2147483648)
  have b1 := expo_le (x % 2147483648) (of_decide_eq_true hf1)
  have b2 := expo_le (y % 2147483648) (of_decide_eq_true hf2)
  have b3 := expo_le (muF x y 0 % 2147483648) (of_decide_eq_true hf)
  have hmm : mant (x % 2147483648) * mant (y % 2147483648) < 281474976710656 := Nat.lt_of_lt_of_le (Nat.mul_lt_mul'' a1 a2) (by decide)
  have p1 : ofP x = -149 + (expo (x % 2147483648) : Int) := rfl
  have p2 : ofP y = -149 + (expo (y % 2147483648) : Int) := rfl
  have p3 : ofP (muF x y 0) = -149 + (expo (muF x y 0 % 2147483648) : Int) := rfl
  have c1 := conv_3264 x hx hf1
  have c2 := conv_3264 y hy hf2
  have c3 := conv_3264 (muF x y 0) hH hf
  rw [← p1] at c1
  rw [← p2] at c2
  rw [← p3] at c3
  have m1 := mul64 (neg32 x) (neg32 y) (m := mant (x % 2147483648)) (n := mant (y % 2147483648)) (p := ofP x) (q := ofP y) (by omega) (by omega) (by omega) (by omega) (by omega) (by omega)
  obtain ⟨σ, s1, s2⟩ := sub64 (neg32 x ^^ neg32 y) (neg32 (muF x y 0)) (m := mant (x % 2147483648) * mant (y % 2147483648)) (n := mant (muF x y 0 % 2147483648)) (p := ofP x + ofP y) (q := ofP (muF x y 0)) (by omega) (by omega) (by omega) (by omega) (by omega) (by omega)
  have hT : signed (neg32 x ^^ neg32 y) (mant (x % 2147483648) * mant (y % 2147483648)) (ofP x + ofP y - -1074).toNat - signed (neg32 (muF x y 0)) (mant (muF x y 0 % 2147483648)) (ofP (muF x y 0) - -1074).toNat = prT x y := by
    unfold prT neg32
    rw [pr_signed, e925_signed hH]
  rw [hT] at s1 s2
  obtain ⟨f1, t, t1, t2⟩ := prT_facts hx hy hf1 hf2 hf
  obtain ⟨T, hTT⟩ : ∃ T, T = prT x y := ⟨_, rfl⟩
  rw [← hTT] at s1 s2 f1 t2 ⊢
  have hsv : SameVal T.natAbs (-1074) t (ofP x + ofP y) := by
    rw [t2]
    exact SameVal.shl' t (-1074) (ofP x + ofP y) _ (by omega)
  have hR : d64 σ T.natAbs (-1074) = d64 σ t (ofP x + ofP y) := d64_same σ hsv
  have hL : s32 σ t (ofP x + ofP y) = s32 σ T.natAbs (-1074) := (s32_same σ hsv).symm
  -- the float of it
  have hLw : s32 σ T.natAbs (-1074) < 4294967296 ∧ fin32 (s32 σ T.natAbs (-1074)) = true ∧ wm (s32 σ T.natAbs (-1074)) = lowP T ∧ uI (s32 σ T.natAbs (-1074)) = uI (lowP T) := by
    by_cases h0 : T = 0
    · rw [h0, Int.natAbs_zero, s32_zero]
      have e : lowP 0 = 0 := by unfold lowP rdF; rw [if_pos rfl]; rfl
      rw [e, show uI 0 = 0 from uI_zero.2 rfl]
      refine ⟨by unfold mzF; split <;> decide, by unfold mzF; split <;> decide, by unfold wm mzF; split <;> rfl, uI_zero.2 (by unfold mzF; split <;> decide)⟩
    · rw [s2 h0, near_rd h0]
      refine ⟨(near_B T).1, f1, rfl, ?_⟩
      unfold lowP; rw [uI_wm]
  obtain ⟨l1, l2, l3, l4⟩ := hLw
  obtain ⟨L, hLL⟩ : ∃ L, L = s32 σ T.natAbs (-1074) := ⟨_, rfl⟩
  rw [← hLL] at hL l1 l2 l3 l4
  have v1 := conv_6432' σ (m := t) (p := ofP x + ofP y) (by omega) (by omega) (by omega) (by rw [hL, read32 L l1 (of_decide_eq_true l2)]; rfl)
  rw [hL] at v1
  have c4 := conv_3264 L l1 l2
  have p4 : ofP L = -149 + (expo (L % 2147483648) : Int) := rfl
  have a4 := mant_lt (L % 2147483648)
  have b4 := expo_le (L % 2147483648) (of_decide_eq_true l2)
  rw [← p4] at c4
  have hsT : signed σ t (ofP x + ofP y - -1074).toNat = T := by
    rw [signed_eq]
    by_cases h0 : T = 0
    · rw [h0] at t2
      have ht0 : t = 0 := by
        rcases Nat.mul_eq_zero.1 t2.symm with h | h
        · exact h
        · have := Nat.two_pow_pos (ofP x + ofP y - -1074).toNat; omega
      rw [ht0, h0]; simp
    · have t3 : ((t : Int) * (2 : Int) ^ (ofP x + ofP y - -1074).toNat) = (T.natAbs : Int) := by rw [t2, Int.natCast_mul, ← pow_cast]
      rw [t3, s2 h0]
      by_cases hn : T < 0
      · rw [decide_eq_true hn, if_pos rfl]; omega
      · rw [decide_eq_false hn, if_neg (by simp)]; omega
  refine ⟨_, _, _, _, d64 σ t (ofP x + ofP y), L, _, c1, c2, m1, c3, by rw [← hR]; exact s1, v1, l1, l3, c4, ?_⟩
  show (Ieee.double.order _ _ == some .eq) = _
  rw [order64 (neg32 L) σ (by omega) (by omega) (by omega) (by omega) (by omega) (by omega), order_num _ _ _ _ _ _ (-1074) (by omega) (by omega), hsT]
  unfold neg32
  rw [e925_signed l1, cmp_eq, l4]
end Go.Proofs.Ytnecnbonnidijaa
/- Exact products of floats, of the program and of the model. -/
namespace Go.Proofs.Ytnecnbonnidijaa
set_option maxRecDepth 100000
open Go.RowKit
set_option linter.unusedSimpArgs false
set_option linter.unusedVariables false

attribute [local go_sem ↓] Go.wp_at_zero Go.wp_at_succ
open Ieee in
theorem inf_sub64 (s : Bool) {m : Nat} {p : Int} (h1 : m < 9007199254740992) (h2 : -1074 ≤ p) (h3 : p ≤ 971) : floatBits .sub .f64 (d64 s m p) 9218868437227405312 = some 18442240474082181120 ∧ floatBits .sub .f64 (d64 s m p) 18442240474082181120 = some 9218868437227405312 := by
  obtain ⟨m', p', e, _⟩ := read64 s h1 h2 h3
  have r1 : Ieee.double.read 9218868437227405312 = .infinity false := by decide +kernel
  have r2 : Ieee.double.read 18442240474082181120 = .infinity true := by decide +kernel
  constructor
  · show Ieee.double.sub _ _ = _
    unfold Format.sub
    rw [e, r1]
    show some (Ieee.double.word true Ieee.double.infRung) = _
    decide +kernel
  · show Ieee.double.sub _ _ = _
    unfold Format.sub
    rw [e, r2]
    show some (Ieee.double.word false Ieee.double.infRung) = _
    decide +kernel
theorem inf_convs : floatToFloatBits .f32 2139095040 .f64 = some 9218868437227405312 ∧ floatToFloatBits .f32 4286578688 .f64 = some 18442240474082181120 ∧ floatToFloatBits .f64 9218868437227405312 .f32 = some 2139095040 ∧ floatToFloatBits .f64 18442240474082181120 .f32 = some 4286578688 := by
  refine ⟨?_, ?_, ?_, ?_⟩ <;> decide +kernel
/-- .. and of one that is infinite -/
theorem pr_doubles_inf {x y : Nat} (hx : x < 4294967296) (hy : y < 4294967296) (hf1 : fin32 x = true) (hf2 : fin32 y = true) (hf : fin32 (muF x y 0) = false) :
    ∃ X Y P D R L E, floatToFloatBits .f32 x .f64 = some X ∧ floatToFloatBits .f32 y .f64 = some Y ∧ floatBits .mul .f64 X Y = some P ∧ floatToFloatBits .f32 (muF x y 0) .f64 = some D ∧ floatBits .sub .f64 P D = some R ∧
      floatToFloatBits .f64 R .f32 = some L ∧ L < 4294967296 ∧ floatToFloatBits .f32 L .f64 = some E := by
  obtain ⟨hH, hn, _⟩ := mu_facts x y hf1 hf2
  have a1 := mant_lt (x % 2147483648)
  have a2 := mant_lt (y % 2147483648)
  have b1 := expo_le (x % 2147483648) (of_decide_eq_true hf1)
  have b2 := expo_le (y % 2147483648) (of_decide_eq_true hf2)
  have hmm : mant (x % 2147483648) * mant (y % 2147483648) < 281474976710656 := Nat.lt_of_lt_of_le (Nat.mul_lt_mul'' a1 a2) (by decide)
  have c1 := conv_3264 x hx hf1
  have c2 := conv_3264 y hy hf2
  have m1 := mul64 (neg32 x) (neg32 y) (m := mant (x % 2147483648)) (n := mant (y % 2147483648)) (p := -149 + (expo (x % 2147483648) : Int)) (q := -149 + (expo (y % 2147483648) : Int)) (by omega) (by omega) (by omega) (by omega) (by omega) (by omega)
  obtain ⟨i1, i2⟩ := inf_sub64 (neg32 x ^^ neg32 y) (m := mant (x % 2147483648) * mant (y % 2147483648)) (p := -149 + (expo (x % 2147483648) : Int) + (-149 + (expo (y % 2147483648) : Int))) (by omega) (by omega) (by omega)
  obtain ⟨v1, v2, v3, v4⟩ := inf_convs
  have hi := not_fin_inf hn hf
  rcases (show muF x y 0 = 2139095040 ∨ muF x y 0 = 4286578688 by omega) with h | h
  · rw [h]; exact ⟨_, _, _, _, _, _, _, c1, c2, m1, v1, i1, v4, by decide, v2⟩
  · rw [h]; exact ⟨_, _, _, _, _, _, _, c1, c2, m1, v2, i2, v3, by decide, v1⟩
def exP (x y : Nat) : Bool := decide ((2 : Int) ^ e925 * uI (lowP (prT x y)) = prT x y)
set_option maxHeartbeats 2000000 in
theorem short_any (x y : Nat) (w : World) (hx : x < 4294967296) (hy : y < 4294967296) (hf1 : fin32 x = true) (hf2 : fin32 y = true) :
    Calls Try.prog 56 #[.float .f32 x, .float .f32 y] w fun e w' => ∃ L b, e = .returned (.tuple #[.agg #[.float .f32 (muF x y 0), .float .f32 L], .bool b]) ∧ L < 4294967296 ∧ (fin32 (muF x y 0) = true → L = lowP (prT x y) ∧ b = exP x y) ∧ Below w.heap.size w w' := by
  have hst := store_float Try.prog
  have h1 := hw_mul x y hx hy hf1 hf2
  have key : ∃ X Y P D R L E b, floatToFloatBits .f32 x .f64 = some X ∧ floatToFloatBits .f32 y .f64 = some Y ∧ floatBits .mul .f64 X Y = some P ∧ floatToFloatBits .f32 (muF x y 0) .f64 = some D ∧ floatBits .sub .f64 P D = some R ∧
      floatToFloatBits .f64 R .f32 = some L ∧ L < 4294967296 ∧ floatToFloatBits .f32 L .f64 = some E ∧ (FloatKind.f64.format.order E R == some .eq) = b ∧ (fin32 (muF x y 0) = true → wm L = lowP (prT x y) ∧ b = exP x y) := by
    by_cases hf : fin32 (muF x y 0) = true
    · obtain ⟨X, Y, P, D, R, L, E, k1, k2, k3, k4, k5, k6, k7, k8, k9, k10⟩ := pr_doubles hx hy hf1 hf2 hf
      exact ⟨X, Y, P, D, R, L, E, _, k1, k2, k3, k4, k5, k6, k7, k9, rfl, fun _ => ⟨k8, k10⟩⟩
    · obtain ⟨X, Y, P, D, R, L, E, k1, k2, k3, k4, k5, k6, k7, k9⟩ := pr_doubles_inf hx hy hf1 hf2 (by simpa using hf)
      exact ⟨X, Y, P, D, R, L, E, _, k1, k2, k3, k4, k5, k6, k7, k9, rfl, fun h => absurd h hf⟩
  obtain ⟨X, Y, P, D, R, L, E, b, k1, k2, k3, k4, k5, k6, k7, k8, k9, k10⟩ := key
  obtain ⟨H, hH⟩ : ∃ H, H = muF x y 0 := ⟨_, rfl⟩
  rw [← hH] at h1 k4 k10 ⊢
  have hop1 : ∀ t w, (binOp .mul t (.float .f32 x) (.float .f32 y)).run Try.prog w = .ok (.float .f32 H) w := fun t w => run_float_arith w .mul t .f32 _ _ _ h1
  have hop2 : ∀ t w, (binOp .mul t (.float .f64 X) (.float .f64 Y)).run Try.prog w = .ok (.float .f64 P) w := fun t w => run_float_arith w .mul t .f64 _ _ _ k3
  have hop3 : ∀ t w, (binOp .sub t (.float .f64 P) (.float .f64 D)).run Try.prog w = .ok (.float .f64 R) w := fun t w => run_float_arith w .sub t .f64 _ _ _ k5
  have hcv1 : ∀ w, (convert 33 71 (.float .f32 x)).run Try.prog w = .ok (.float .f64 X) w := fun w => run_convert_float_float w _ _ .f32 .f64 _ _ (by kernel_rfl) Try.underlying71 k1
  have hcv2 : ∀ w, (convert 33 71 (.float .f32 y)).run Try.prog w = .ok (.float .f64 Y) w := fun w => run_convert_float_float w _ _ .f32 .f64 _ _ (by kernel_rfl) Try.underlying71 k2
  have hcv3 : ∀ w, (convert 33 71 (.float .f32 H)).run Try.prog w = .ok (.float .f64 D) w := fun w => run_convert_float_float w _ _ .f32 .f64 _ _ (by kernel_rfl) Try.underlying71 k4
  have hcv4 : ∀ w, (convert 71 33 (.float .f64 R)).run Try.prog w = .ok (.float .f32 L) w := fun w => run_convert_float_float w _ _ .f64 .f32 _ _ (by kernel_rfl) Try.underlying33 k6
  have hcv5 : ∀ w, (convert 33 71 (.float .f32 L)).run Try.prog w = .ok (.float .f64 E) w := fun w => run_convert_float_float w _ _ .f32 .f64 _ _ (by kernel_rfl) Try.underlying71 k8
  have Hwm : Hid (∀ w, Calls Try.prog 87 #[.float .f32 L] w fun e w' => e = .returned (.float .f32 (wm L)) ∧ w = w') := Lib.hid (fun w => wm_any L w k7)
  have HL : Hid (wm L < 4294967296 ∧ (fin32 H = true → wm L = lowP (prT x y) ∧ b = exP x y)) := Lib.hid ⟨by unfold wm; split; decide; exact k7, k10⟩
  obtain ⟨L1, hL1⟩ : ∃ L1, L1 = wm L := ⟨_, rfl⟩
  rw [← hL1] at Hwm HL
  obtain ⟨w1, hw1⟩ : ∃ w1, w1 = w.alloc (.cells #[.float .f32 0, .float .f32 0] 37) := ⟨_, rfl⟩
  have Rr1 : Hid (PRes w1 w.heap.size) := Lib.hid (by rw [hw1]; exact PRes.new _ _)
  have Bel1 : Hid (Below w.heap.size w w1) := Lib.hid (by rw [hw1]; exact belAlloc1 _ _)
  have Hw := Lib.hid hw1
  clear h1 k1 k2 k3 k4 k5 k6 k7 k8 k10 hH hx hy hf1 hf2 hL1 hw1
  obtain ⟨⟨r0, r1, r2, r3⟩, r4⟩ := Rr1.out
  go_enter Try.func56, Try.ntmps56
  go_wp2_with fail
  rw [← Hw.out]
  refine (Hwm.out _).mono ?_
  rintro e w9 ⟨rfl, rfl⟩
  go_wp2_with fail
  refine bodyPost_ret (v := .tuple #[.agg #[.float .f32 H, .float .f32 L1], .bool b]) (by simp [results, Try.results56, go_sem, r0, r1]) rfl ⟨L1, b, rfl, HL.out.1, HL.out.2, ?_⟩
  exact (Bel1.out.setCell (by simp) _).setCell (by simp) _
def epH (x y : Nat) : Nat := if fin32 x = true ∧ fin32 y = true ∧ fin32 (muF x y 0) = true ∧ exP x y = true then muF x y 0 else 0
def epL (x y : Nat) : Nat := if fin32 x = true ∧ fin32 y = true ∧ fin32 (muF x y 0) = true ∧ exP x y = true then lowP (prT x y) else 0
def epE (x y : Nat) : Int := if fin32 x = true ∧ fin32 y = true then if fin32 (muF x y 0) = true then if exP x y = true then 0 else 5 else 3 else 1
theorem ep_yes {x y : Nat} (h1 : fin32 x = true) (h2 : fin32 y = true) (h3 : fin32 (muF x y 0) = true) (h4 : exP x y = true) : epH x y = muF x y 0 ∧ epL x y = lowP (prT x y) ∧ epE x y = 0 := by
  unfold epH epL epE; rw [if_pos ⟨h1, h2, h3, h4⟩, if_pos ⟨h1, h2, h3, h4⟩, if_pos ⟨h1, h2⟩, if_pos h3, if_pos h4]; exact ⟨rfl, rfl, rfl⟩
theorem ep_state {x y : Nat} (h1 : fin32 x = true) (h2 : fin32 y = true) (h3 : fin32 (muF x y 0) = true) (h4 : exP x y = false) : epH x y = 0 ∧ epL x y = 0 ∧ epE x y = 5 := by
  unfold epH epL epE; rw [h4, if_neg (by simp), if_neg (by simp), if_pos ⟨h1, h2⟩, if_pos h3, if_neg (by simp)]; exact ⟨rfl, rfl, rfl⟩
theorem ep_inf {x y : Nat} (h1 : fin32 x = true) (h2 : fin32 y = true) (h3 : fin32 (muF x y 0) = false) : epH x y = 0 ∧ epL x y = 0 ∧ epE x y = 3 := by
  unfold epH epL epE; rw [h3, if_neg (by simp), if_neg (by simp), if_pos ⟨h1, h2⟩, if_neg (by simp)]; exact ⟨rfl, rfl, rfl⟩
theorem ep_no {x y : Nat} (h : ¬ (fin32 x = true ∧ fin32 y = true)) : epH x y = 0 ∧ epL x y = 0 ∧ epE x y = 1 := by
  unfold epH epL epE; rw [if_neg (fun g => h ⟨g.1, g.2.1⟩), if_neg (fun g => h ⟨g.1, g.2.1⟩), if_neg h]; exact ⟨rfl, rfl, rfl⟩
theorem lowP_ok (T : Int) : lowP T < 4294967296 ∧ nan32 (lowP T) = false := wm_ok ⟨(near_B T).1, (near_B T).2.1⟩
theorem ep_ok {x y : Nat} : (epH x y < 4294967296 ∧ nan32 (epH x y) = false) ∧ (epL x y < 4294967296 ∧ nan32 (epL x y) = false) := by
  by_cases h : fin32 x = true ∧ fin32 y = true ∧ fin32 (muF x y 0) = true ∧ exP x y = true
  · rw [(ep_yes h.1 h.2.1 h.2.2.1 h.2.2.2).1, (ep_yes h.1 h.2.1 h.2.2.1 h.2.2.2).2.1]
    exact ⟨⟨(mu_facts x y h.1 h.2.1).1, (mu_facts x y h.1 h.2.1).2.1⟩, lowP_ok _⟩
  · unfold epH epL; rw [if_neg h, if_neg h]; exact ⟨⟨by decide, by decide⟩, by decide, by decide⟩
set_option maxHeartbeats 2000000 in
theorem implExProdW_any (x y : Nat) (w : World) (hx : x < 4294967296) (hy : y < 4294967296) :
    Calls Try.prog 25 #[.float .f32 x, .float .f32 y] w fun e w' => e = .returned (.tuple #[.agg #[.float .f32 (epH x y), .float .f32 (epL x y)], .int .i64 (epE x y)]) ∧ Below w.heap.size w w' := by
  have hst := store_float Try.prog
  have Hb := Lib.hid (And.intro hx hy)
  obtain ⟨w1, hw1⟩ : ∃ w1, w1 = (w.alloc (.cells #[.float .f32 0, .float .f32 0] 37)).alloc (.cells #[.float .f32 x, .float .f32 y] 33) := ⟨_, rfl⟩
  have Rr1 : Hid (PRes w1 w.heap.size) := Lib.hid (by rw [hw1]; exact (PRes.new _ _).next (belAlloc1 _ _))
  have Hr1 : Hid (Rd w1 w1.heap.size (some ⟨w.heap.size + 1, 0, none⟩) (fs [x, y])) := Lib.hid (by
    have e : (w.alloc (.cells #[.float .f32 0, .float .f32 0] 37)).heap.size = w.heap.size + 1 := by simp
    rw [hw1, ← e]; exact rd_two _ _ _ _)
  have Bel1 : Hid (Below w.heap.size w w1) := Lib.hid (by rw [hw1]; exact belNext (belAlloc1 _ _) (belAlloc1 _ _))
  have Hw := Lib.hid hw1
  clear hx hy hw1
  go_enter Try.func25, Try.ntmps25
  go_wp2_with fail
  rw [← Hw.out]
  refine (implAllFin_any [x, y] _ 2 2 _ w1 Hr1.out rfl (by omega) (two_lt Hb.out)).mono ?_
  rintro e w9 ⟨rfl, rfl⟩
  obtain ⟨⟨r0, r1, r2, r3⟩, r4⟩ := Rr1.out
  by_cases hf : fin32 x = true ∧ fin32 y = true
  · have Hall : Hid ([x, y].all fin32 = true) := Lib.hid (by simp [hf.1, hf.2])
    have Hf := Lib.hid hf
    rw [Hall.out]
    clear hf
    go_wp2_with fail
    refine (short_any x y _ Hb.out.1 Hb.out.2 Hf.out.1 Hf.out.2).mono ?_
    rintro e w2 ⟨L, b, rfl, hL1, hL2, hb⟩
    have Bel2 := Lib.hid (belNext Bel1.out hb)
    have Rr2 := Lib.hid (Rr1.out.next hb)
    have HL := Lib.hid (And.intro hL1 hL2)
    clear hb hL1 hL2 r0 r1 r2 r3 r4
    go_upto_region 4 with fail
    obtain ⟨w3, hw3⟩ : ∃ w3, w3 = w2.alloc (.cells #[.float .f32 (muF x y 0), .float .f32 L] 37) := ⟨_, rfl⟩
    rw [← hw3]
    have hb : Below w2.heap.size w2 w3 := by rw [hw3]; exact belAlloc1 _ _
    have Pp3 : Hid (PB w3 w2.heap.size (muF x y 0) L) := Lib.hid (by rw [hw3]; exact PB.new _ _ _ _)
    have Bel3 := Lib.hid (belNext Bel2.out hb)
    have Rr3 := Lib.hid (Rr2.out.next hb)
    clear hw3 hb
    obtain ⟨⟨p0, p1⟩, p2⟩ := Pp3.out
    obtain ⟨⟨r0, r1, r2, r3⟩, r4⟩ := Rr3.out
    go_wp2_with fail
    refine (implFinite_any (muF x y 0) _ (mu_facts x y Hf.out.1 Hf.out.2).1).mono ?_
    rintro e w9 ⟨rfl, rfl⟩
    by_cases h3 : fin32 (muF x y 0) = true
    · have hL := HL.out.2 h3
      by_cases h4 : exP x y = true
      · have Hres := Lib.hid (ep_yes Hf.out.1 Hf.out.2 h3 h4)
        have HLe := Lib.hid hL.1
        have hb4 : b = true := hL.2.trans h4
        rw [h3, hb4]
        clear h3 h4 hL hb4
        obtain ⟨H, hH⟩ : ∃ H, H = muF x y 0 := ⟨_, rfl⟩
        rw [← hH] at p0 ⊢
        have HH := Lib.hid hH
        clear hH
        go_wp2_with fail
        refine bodyPost_ret (v := .tuple #[.agg #[.float .f32 H, .float .f32 L], .int .i64 0]) (by simp [results, Try.results25, go_sem, r0, r1]) rfl ⟨ret_pr (by rw [Hres.out.1, HH.out]) (by rw [Hres.out.2.1, HLe.out]) Hres.out.2.2.symm, ?_⟩
        exact (Bel3.out.setCell (by simp) _).setCell (by simp) _
      · have h5 : exP x y = false := by simpa using h4
        have Hres := Lib.hid (ep_state Hf.out.1 Hf.out.2 h3 h5)
        have hb4 : b = false := hL.2.trans h5
        rw [h3, hb4]
        clear h3 h4 h5 hL hb4
        go_wp2_with fail
        refine bodyPost_ret (v := .tuple #[.agg #[.float .f32 0, .float .f32 0], .int .i64 5]) (by simp [results, Try.results25, go_sem, r0, r1]) rfl ⟨ret_pr Hres.out.1.symm Hres.out.2.1.symm Hres.out.2.2.symm, ?_⟩
        exact (Bel3.out.setCell (by simp) _).setCell (by simp) _
    · have h5 : fin32 (muF x y 0) = false := by simpa using h3
      have Hres := Lib.hid (ep_inf Hf.out.1 Hf.out.2 h5)
      rw [h5]
      clear h3 h5
      go_wp2_with fail
      refine bodyPost_ret (v := .tuple #[.agg #[.float .f32 0, .float .f32 0], .int .i64 3]) (by simp [results, Try.results25, go_sem, r0, r1]) rfl ⟨ret_pr Hres.out.1.symm Hres.out.2.1.symm Hres.out.2.2.symm, ?_⟩
      exact (Bel3.out.setCell (by simp) _).setCell (by simp) _
  · have Hall : Hid ([x, y].all fin32 = false) := Lib.hid (by
      cases h1 : fin32 x <;> cases h2 : fin32 y <;> simp_all)
    have Hres := Lib.hid (ep_no hf)
    rw [Hall.out]
    clear hf
    go_wp2_with fail
    refine bodyPost_ret (v := .tuple #[.agg #[.float .f32 0, .float .f32 0], .int .i64 1]) (by simp [results, Try.results25, go_sem, r0, r1]) rfl ⟨ret_pr Hres.out.1.symm Hres.out.2.1.symm Hres.out.2.2.symm, ?_⟩
    exact (Bel1.out.setCell (by simp) _).setCell (by simp) _
end Go.Proofs.Ytnecnbonnidijaa
/- Exact products of floats, of the model. -/
namespace Go.Proofs.Ytnecnbonnidijaa
set_option maxRecDepth 100000
open Go.RowKit
set_option linter.unusedSimpArgs false
set_option linter.unusedVariables false

attribute [local go_sem ↓] Go.wp_at_zero Go.wp_at_succ
theorem T_len {T : Int} {t D : Nat} (ht : t < 281474976710656) (hT : T.natAbs = t * 2 ^ D) (hD : D ≤ 1282) : (limbs T.natAbs).length ≤ 60 := by
  obtain ⟨m, hm⟩ : ∃ m, m = 60 := ⟨_, rfl⟩
  rw [← hm, limbs_len_le, Bs_pow, hT]
  have h1 : t * 2 ^ D < 2 ^ 48 * 2 ^ D := Nat.mul_lt_mul_of_pos_right (by omega) (Nat.two_pow_pos D)
  rw [← Nat.pow_add] at h1
  exact Nat.lt_of_lt_of_le h1 (Nat.pow_le_pow_right (by omega) (by omega))
theorem rest_vn {x y H : Nat} (h1 : fin32 x = true) (h2 : fin32 y = true) (h3 : fin32 H = true) (hT : prT x y = prZ x y - (2 : Int) ^ e925 * uI H) : nz (sumZ (nz (fz x * fz y)) (nx (fz x * fz y) (fe x + fe y)) (-(fz H)) (fe H)) = nz (prT x y) ∧ nx (sumZ (nz (fz x * fz y)) (nx (fz x * fz y) (fe x + fe y)) (-(fz H)) (fe H)) (min (nx (fz x * fz y) (fe x + fe y)) (fe H)) = nx (prT x y) (-1074) := by
  have a1 := (fe_small h1).1
  have a2 := (fe_small h2).1
  have a3 := (fe_small h3).1
  have g1 := nx_ge (B := -1074) (z := fz x * fz y) (e := fe x + fe y) (by omega) (by omega)
  refine nzx_same (B := -1074) (by omega) (Int.le_refl _) ?_
  rw [uV_sum g1 (by omega), uV_nz (by omega), uV_neg, uV_one, ← e925_uI h3, hT, ← Int.sub_eq_add_neg]
  rfl
theorem cmp_vn {L : Nat} {T : Int} (h : fin32 L = true) : ((sumZ (fz L) (fe L) (-(nz T)) (nx T (-1074))).sign == 0) = decide ((2 : Int) ^ e925 * uI L = T) := by
  have a1 := (fe_small h).1
  have g := nx_ge (B := -1074) (z := T) (e := -1074) (Int.le_refl _) (by omega)
  have hs := sign_uV (-1074) (sumZ (fz L) (fe L) (-(nz T)) (nx T (-1074))) (min (fe L) (nx T (-1074)))
  rw [uV_sum (by omega) g, uV_neg, uV_nz (Int.le_refl _), uV_one, ← e925_uI h] at hs
  rw [← hs, Bool.eq_iff_iff, beq_iff_eq, decide_eq_true_eq, Int.sign_eq_zero_iff_zero]
  omega
def spH (x y : Nat) : Nat := if fin32 (muF x y 0) = true then muF x y 0 else 0
def spL (x y : Nat) : Nat := if fin32 (muF x y 0) = true then lowP (prT x y) else 0
def spX (x y : Nat) : Bool := if fin32 (muF x y 0) = true then exP x y else false
set_option maxHeartbeats 4000000 in
theorem specProd5_any (x y : Nat) (w : World) (hx : x < 4294967296) (hy : y < 4294967296) (hf1 : fin32 x = true) (hf2 : fin32 y = true) :
    Calls Try.prog 55 #[.float .f32 x, .float .f32 y] w fun e w' => e = .returned (.tuple #[.agg #[.float .f32 (spH x y), .float .f32 (spL x y)], .bool (spX x y), .bool (fin32 (muF x y 0))]) ∧ Below w.heap.size w w' := by
  have hst := store_float Try.prog
  have Hb := Lib.hid (And.intro hx hy)
  have Hf := Lib.hid (And.intro hf1 hf2)
  have h1 := hw_mul x y hx hy hf1 hf2
  obtain ⟨w1, hw1⟩ : ∃ w1, w1 = w.alloc (.cells #[.float .f32 0, .float .f32 0] 37) := ⟨_, rfl⟩
  have Rr1 : Hid (PRes w1 w.heap.size) := Lib.hid (by rw [hw1]; exact PRes.new _ _)
  have Bel1 : Hid (Below w.heap.size w w1) := Lib.hid (by rw [hw1]; exact belAlloc1 _ _)
  have Hlt : Hid (w.heap.size < w1.heap.size) := Lib.hid Rr1.out.2
  have Hw := Lib.hid hw1
  have hk := mu_facts x y hf1 hf2
  have Hpt : Hid (fin32 (muF x y 0) = true → fin32 (rdF (prT x y) (-1074) 0) = true ∧ ∃ t, t < 281474976710656 ∧ (prT x y).natAbs = t * 2 ^ (ofP x + ofP y - -1074).toNat) := Lib.hid (prT_facts hx hy hf1 hf2)
  have Hsp : Hid (∀ b, fin32 (muF x y 0) = b → spH x y = (if b = true then muF x y 0 else 0) ∧ spL x y = (if b = true then lowP (prT x y) else 0) ∧ spX x y = (if b = true then exP x y else false)) := Lib.hid (fun b hb => by unfold spH spL spX; rw [hb]; exact ⟨rfl, rfl, rfl⟩)
  have HT : Hid (prT x y = prZ x y - (2 : Int) ^ e925 * uI (muF x y 0)) := Lib.hid rfl
  obtain ⟨H, hH⟩ : ∃ H, H = muF x y 0 := ⟨_, rfl⟩
  rw [← hH] at h1 hk Hpt Hsp HT ⊢
  have hop : ∀ t w, (binOp .mul t (.float .f32 x) (.float .f32 y)).run Try.prog w = .ok (.float .f32 H) w := fun t w => run_float_arith w .mul t .f32 _ _ _ h1
  have Hk := Lib.hid (And.intro hk.1 hk.2.1)
  obtain ⟨H8, hH8⟩ : ∃ H8, H8 = spH x y := ⟨_, rfl⟩
  obtain ⟨L8, hL8⟩ : ∃ L8, L8 = spL x y := ⟨_, rfl⟩
  obtain ⟨X8, hX8⟩ : ∃ X8, X8 = spX x y := ⟨_, rfl⟩
  rw [← hH8, ← hL8, ← hX8]
  have H8_ := Lib.hid (And.intro hH8 (And.intro hL8 hX8))
  clear hx hy hf1 hf2 hw1 hk hH h1 hH8 hL8 hX8
  go_enter Try.func55, Try.ntmps55
  go_wp2_with fail
  rw [← Hw.out]
  refine (finB_any H _ Hk.out.1).mono ?_
  rintro e w2 ⟨rfl, hb⟩
  have Bel2 := Lib.hid (belNext Bel1.out hb)
  have Rr2 := Lib.hid (Rr1.out.next hb)
  have Sz2 := Lib.hid (Below.size hb)
  clear hb Bel1 Rr1
  by_cases hf : fin32 H = true
  · have Hfin := Lib.hid hf
    have Hres := Lib.hid (Hsp.out true hf)
    obtain ⟨hrf, t, ht1, ht2⟩ := Hpt.out hf
    have hlen := T_len ht1 ht2 (by
      have := expo_le (x % 2147483648) (of_decide_eq_true Hf.out.1)
      have := expo_le (y % 2147483648) (of_decide_eq_true Hf.out.2)
      unfold ofP; omega)
    have Hrf := Lib.hid hrf
    have Hln := Lib.hid hlen
    rw [hf]
    clear hf hrf ht1 ht2 hlen
    obtain ⟨T, hT⟩ : ∃ T, T = prT x y := ⟨_, rfl⟩
    have HTT := Lib.hid hT
    rw [← hT] at Hrf Hln Hres
    clear hT
    have hfx := fe_small Hf.out.1
    have hfy := fe_small Hf.out.2
    have hfh := fe_small Hfin.out
    obtain ⟨X1, hX1⟩ : ∃ X1, X1 = fe x := ⟨_, rfl⟩
    obtain ⟨X2, hX2⟩ : ∃ X2, X2 = fe y := ⟨_, rfl⟩
    obtain ⟨X4, hX4⟩ : ∃ X4, X4 = fe H := ⟨_, rfl⟩
    rw [← hX1] at hfx
    rw [← hX2] at hfy
    rw [← hX4] at hfh
    have HX := Lib.hid (And.intro hX1 (And.intro hX2 hX4))
    clear hX1 hX2 hX4
    go_wp2_with fail
    refine (specOfD_any x _ Hb.out.1 Hf.out.1).mono ?_
    rintro e w3 ⟨S2, A2, n2, c2, rfl, hzo, hb⟩
    rw [show nx (ofM x) (ofP x) = X1 from HX.out.1.symm]
    have Za3 : Hid (ZO w3 w2.heap.size w3.heap.size (fz x) S2 A2 n2 c2) := Lib.hid hzo
    have Hn2 : Hid ((n2 : Int) ≤ 1) := Lib.hid (fz_len Hf.out.1 hzo.2.1)
    clear hzo
    have Sz3 := Lib.hid (Below.size hb)
    have Bel3 := Lib.hid (belNext Bel2.out hb)
    have Rr3 := Lib.hid (Rr2.out.next hb)
    clear hb Bel2 Rr2
    go_wp2_with fail
    refine (specOfD_any y _ Hb.out.2 Hf.out.2).mono ?_
    rintro e w4 ⟨S3, A3, n3, c3, rfl, hzo, hb⟩
    rw [show nx (ofM y) (ofP y) = X2 from HX.out.2.1.symm]
    have Zb4 : Hid (ZO w4 w3.heap.size w4.heap.size (fz y) S3 A3 n3 c3) := Lib.hid hzo
    have Hn3 : Hid ((n3 : Int) ≤ 1) := Lib.hid (fz_len Hf.out.2 hzo.2.1)
    clear hzo
    have Sz4 := Lib.hid (Below.size hb)
    have Bel4 := Lib.hid (belNext Bel3.out hb)
    have Rr4 := Lib.hid (Rr3.out.next hb)
    have Za4 := Lib.hid (Za3.out.next hb)
    clear hb Bel3 Rr3 Za3
    go_wp2_with fail
    refine (specMulD_any (fz x) S2 X1 (fz y) S3 X2 A2 A3 n2 c2 n3 c3 _ Za4.out.zv Zb4.out.zv (by have := Hn2.out; omega) (by have := Hn3.out; omega) (by omega) (by omega) (by omega) (by omega)).mono ?_
    rintro e w5 ⟨S4, A4, n4, c4, rfl, hzo, hb⟩
    have Zc5 := Lib.hid hzo
    have Hn4 : Hid ((n4 : Int) ≤ 2) := Lib.hid (by
      have h1 := mul_small (fz_small Hf.out.1) (fz_small Hf.out.2) rfl
      have h2 := limbs_len_mono (nz_le (fz x * fz y))
      have e := hzo.2.1
      omega)
    have hx3 : -400 ≤ nx (fz x * fz y) (X1 + X2) ∧ nx (fz x * fz y) (X1 + X2) ≤ 400 := by
      by_cases h0 : fz x * fz y = 0
      · rw [h0, nx_zero]; omega
      · rw [nx_ne h0]
        have h1 := mul_small (fz_small Hf.out.1) (fz_small Hf.out.2) rfl
        have h2 := tz_le (v := (fz x * fz y).natAbs) rfl
        omega
    obtain ⟨X3, hX3⟩ : ∃ X3, X3 = nx (fz x * fz y) (X1 + X2) := ⟨_, rfl⟩
    rw [← hX3] at hx3 ⊢
    have HX3 : Hid (X3 = nx (fz x * fz y) (fe x + fe y)) := Lib.hid (by rw [hX3, HX.out.1, HX.out.2.1])
    clear hzo hX3
    have Sz5 := Lib.hid (Below.size hb)
    have Bel5 := Lib.hid (belNext Bel4.out hb)
    have Rr5 := Lib.hid (Rr4.out.next hb)
    have Za5 := Lib.hid (Za4.out.next hb)
    have Zb5 := Lib.hid (Zb4.out.next hb)
    clear hb Bel4 Rr4 Za4 Zb4
    go_wp2_with fail
    refine (specOfD_any H _ Hk.out.1 Hfin.out).mono ?_
    rintro e w6 ⟨S5, A5, n5, c5, rfl, hzo, hb⟩
    rw [show nx (ofM H) (ofP H) = X4 from HX.out.2.2.symm]
    have Zd6 : Hid (ZO w6 w5.heap.size w6.heap.size (fz H) S5 A5 n5 c5) := Lib.hid hzo
    have Hn5 : Hid ((n5 : Int) ≤ 1) := Lib.hid (fz_len Hfin.out hzo.2.1)
    clear hzo
    have Sz6 := Lib.hid (Below.size hb)
    have Bel6 := Lib.hid (belNext Bel5.out hb)
    have Rr6 := Lib.hid (Rr5.out.next hb)
    have Zc6 := Lib.hid (Zc5.out.next hb)
    clear hb Bel5 Rr5 Zc5
    go_wp2_with fail
    refine (specSubD_any (nz (fz x * fz y)) S4 X3 (fz H) S5 X4 A4 A5 n4 c4 n5 c5 _ Zc6.out.zv Zd6.out.zv (by have := Hn4.out; omega) (by have := Hn5.out; omega) (by omega) (by omega) (by omega) (by omega)).mono ?_
    rintro e w7 ⟨S6, A6, n6, c6, rfl, hzo, hb⟩
    have hvn := rest_vn Hf.out.1 Hf.out.2 Hfin.out HT.out
    rw [← HX3.out, ← HX.out.2.2, ← HTT.out] at hvn
    rw [hvn.1] at hzo
    rw [hvn.2]
    have Zf7 := Lib.hid hzo
    have Hn6 : Hid ((n6 : Int) ≤ 60) := Lib.hid (by have h1 := Hln.out; have h2 := limbs_len_mono (nz_le T); have e := hzo.2.1; omega)
    have hx5 : -1074 ≤ nx T (-1074) ∧ nx T (-1074) ≤ 1000 := by
      by_cases h0 : T = 0
      · rw [h0, nx_zero]; omega
      · rw [nx_ne h0]; have h1 := Hln.out; have h2 := tz_le (v := T.natAbs) rfl; omega
    obtain ⟨X5, hX5⟩ : ∃ X5, X5 = nx T (-1074) := ⟨_, rfl⟩
    rw [← hX5] at hx5 ⊢
    have HX5 := Lib.hid hX5
    clear hzo hvn hX5
    have Sz7 := Lib.hid (Below.size hb)
    have Bel7 := Lib.hid (belNext Bel6.out hb)
    have Rr7 := Lib.hid (Rr6.out.next hb)
    have Zc7 := Lib.hid (Zc6.out.next hb)
    have Zd7 := Lib.hid (Zd6.out.next hb)
    clear hb Bel6 Rr6 Zc6 Zd6
    go_upto_region 5 with fail
    obtain ⟨w8, hw8⟩ : ∃ w8, w8 = w7.alloc (.cells #[.int .i64 S6, .slice A6 n6 c6, .int .i64 X5] 95) := ⟨_, rfl⟩
    rw [← hw8]
    obtain ⟨f, hf⟩ : ∃ f, f = w7.heap.size := ⟨_, rfl⟩
    have hb : Below w7.heap.size w7 w8 := by rw [hw8]; exact belAlloc1 _ _
    have Bx8 : Hid (DBox w8 f S6 A6 n6 c6 X5) := Lib.hid (by rw [hw8, hf]; exact DBox.new _ _ _ _ _ _ _)
    have Hff : Hid (w7.heap.size ≤ f) := Lib.hid (by omega)
    have Hf2 : Hid (f < w8.heap.size) := Lib.hid Bx8.out.2
    rw [← hf]
    clear hw8 hf
    have Sz8 := Lib.hid (Below.size hb)
    have Bel8 := Lib.hid (belNext Bel7.out hb)
    have Rr8 := Lib.hid (Rr7.out.next hb)
    have Zf8 := Lib.hid (Zf7.out.next hb)
    clear hb Bel7 Rr7 Zf7
    obtain ⟨⟨hBx0, hBx1, hBx2⟩, hBx3⟩ := Bx8.out
    go_wp2_with fail
    refine (specNear_any (nz T) S6 X5 A6 n6 c6 _ Zf8.out.zv (fun h => nz_odd3 (fun e => h (by rw [e, nz_zero]))) (by have := Hn6.out; omega) (by omega) (by omega)).mono ?_
    rintro e w9 ⟨rfl, hb⟩
    have hrd := (rd_norm T (-1074) 0).1
    rw [← HX5.out] at hrd
    rw [hrd, show wm (rdF T (-1074) 0) = lowP T from rfl]
    have Hlo : Hid (lowP T < 4294967296 ∧ fin32 (lowP T) = true) := Lib.hid ⟨(lowP_ok T).1, wm_fin Hrf.out⟩
    have Hex : Hid (((sumZ (fz (lowP T)) (fe (lowP T)) (-(nz T)) X5).sign == 0) = exP x y) := Lib.hid (by rw [HX5.out, cmp_vn (show fin32 (lowP T) = true from wm_fin Hrf.out)]; unfold exP; rw [← HTT.out])
    obtain ⟨L, hL⟩ : ∃ L, L = lowP T := ⟨_, rfl⟩
    rw [← hL] at Hlo Hex ⊢
    have HL := Lib.hid hL
    have hfl := fe_small Hlo.out.2
    obtain ⟨X6, hX6⟩ : ∃ X6, X6 = fe L := ⟨_, rfl⟩
    rw [← hX6] at hfl Hex
    have HX6 := Lib.hid hX6
    clear hrd hL hX6
    have Sz9 := Lib.hid (Below.size hb)
    have Bel9 := Lib.hid (belNext Bel8.out hb)
    have Rr9 := Lib.hid (Rr8.out.next hb)
    have Zf9 := Lib.hid (Zf8.out.next hb)
    have Bx9 := Lib.hid (Bx8.out.next hb)
    clear hb Bel8 Rr8 Zf8 Bx8 hBx0 hBx1 hBx2 hBx3
    obtain ⟨⟨hBx0, hBx1, hBx2⟩, hBx3⟩ := Bx9.out
    go_upto_region 6 with fail
    refine wp_region_held_drew (S := fun w' => (w'.cell? ⟨f, 0, none⟩ = some (.int .i64 S6) ∧ w'.cell? ⟨f, 1, none⟩ = some (.slice A6 n6 c6) ∧ w'.cell? ⟨f, 2, none⟩ = some (.int .i64 X5))) (by kernel_rfl) Bx9.out.1 (fun hHeld => ?_)
    clear hBx0 hBx1 hBx2 hBx3
    refine wpAnyH_take (i := 0) (v := ?_) rfl (by kernel_rfl) (by kernel_rfl) (by kernel_rfl) (fun _ _ _ h => h) (Or.inl ⟨by rfl, ?_⟩) (by assumption) ?_
    rotate_left
    · (intro w hSw; (try dsimp only at hSw); go_simp; (try with_reducible rfl))
    try simp only [Act.put, List.setIfInBounds_toArray, List.set_cons_zero, List.set_cons_succ, List.getElem_toArray, List.getElem_cons_succ, List.getElem_cons_zero]
    refine wpAnyH_take (i := 1) (v := ?_) rfl (by kernel_rfl) (by kernel_rfl) (by kernel_rfl) (fun _ _ _ h => h) (Or.inl ⟨by rfl, ?_⟩) (by assumption) ?_
    rotate_left
    · (intro w hSw; (try dsimp only at hSw); go_simp; (try with_reducible rfl))
    try simp only [Act.put, List.setIfInBounds_toArray, List.set_cons_zero, List.set_cons_succ, List.getElem_toArray, List.getElem_cons_succ, List.getElem_cons_zero]
    refine wpAnyH_take (i := 2) (v := ?_) rfl (by kernel_rfl) (by kernel_rfl) (by kernel_rfl) (fun _ _ _ h => h) (Or.inl ⟨by rfl, ?_⟩) (by assumption) ?_
    rotate_left
    · (intro w hSw; (try dsimp only at hSw); go_simp; (try with_reducible rfl))
    try simp only [Act.put, List.setIfInBounds_toArray, List.set_cons_zero, List.set_cons_succ, List.getElem_toArray, List.getElem_cons_succ, List.getElem_cons_zero]
    refine wpAnyH_take (i := 3) (v := ?_) rfl (by kernel_rfl) (by kernel_rfl) (by kernel_rfl) (fun _ _ _ h => h) (Or.inl ⟨by rfl, ?_⟩) (by assumption) ?_
    rotate_left
    · (intro w hSw; (try dsimp only at hSw); go_simp; (try with_reducible rfl))
    try simp only [Act.put, List.setIfInBounds_toArray, List.set_cons_zero, List.set_cons_succ, List.getElem_toArray, List.getElem_cons_succ, List.getElem_cons_zero]
    refine wpAnyH_take (i := 5) (v := ?_) rfl (by kernel_rfl) (by kernel_rfl) (by kernel_rfl) (fun _ _ _ h => h) (Or.inl ⟨by rfl, ?_⟩) (by assumption) ?_
    rotate_left
    · (intro w hSw; (try dsimp only at hSw); go_simp; (try with_reducible rfl))
    try simp only [Act.put, List.setIfInBounds_toArray, List.set_cons_zero, List.set_cons_succ, List.getElem_toArray, List.getElem_cons_succ, List.getElem_cons_zero]
    refine wpAnyH_ready (rs := [4]) (by kernel_rfl) (by simp) ?_
    refine AllReadyH.cons rfl (fun K hK => ?_) AllReadyH.nil
    go_simp
    refine (specOfD_any L w9.drew Hlo.out.1 Hlo.out.2).mono ?_
    rintro e w10 ⟨S7, A7, n7, c7, rfl, hzo, hb0⟩
    have hb : Below w9.heap.size w9 w10 := belDrew hb0
    rw [show nx (ofM L) (ofP L) = X6 from HX6.out.symm]
    have Zg10 : Hid (ZO w10 w9.heap.size w10.heap.size (fz L) S7 A7 n7 c7) := Lib.hid hzo
    have Hn7 : Hid ((n7 : Int) ≤ 1) := Lib.hid (fz_len Hlo.out.2 hzo.2.1)
    clear hzo
    refine hK.out _ _ ((Bx9.out.next hb).1) (fun hHeld => ?_)
    clear hK K hb0
    have Sz10 := Lib.hid (Below.size hb)
    have Bel10 := Lib.hid (belNext Bel9.out hb)
    have Rr10 := Lib.hid (Rr9.out.next hb)
    have Zf10 := Lib.hid (Zf9.out.next hb)
    have Bx10 := Lib.hid (Bx9.out.next hb)
    clear hb Bel9 Rr9 Zf9 Bx9
    try simp only [Act.put, List.setIfInBounds_toArray, List.set_cons_zero, List.set_cons_succ, List.getElem_toArray, List.getElem_cons_succ, List.getElem_cons_zero]
    refine wpAnyH_ready (rs := [6]) (by kernel_rfl) (by simp) ?_
    refine AllReadyH.cons rfl (fun K hK => ?_) AllReadyH.nil
    go_simp
    refine (specCmpD_any (fz L) S7 X6 (nz T) S6 X5 A7 A6 n7 c7 n6 c6 w10 Zg10.out.zv Zf10.out.zv (by have := Hn7.out; omega) (by have := Hn6.out; omega) (by omega) (by omega) (by omega) (by omega)).mono ?_
    rintro e w11 ⟨rfl, hb0⟩
    have hb : Below w10.heap.size w10 w11 := hb0
    obtain ⟨tt, htt⟩ : ∃ tt, tt = (sumZ (fz L) X6 (-(nz T)) X5).sign := ⟨_, rfl⟩
    rw [← htt]
    have Htt : Hid ((tt == 0) = exP x y) := Lib.hid (by rw [htt]; exact Hex.out)
    clear htt
    refine hK.out _ _ ((Bx10.out.next hb).1) (fun hHeld => ?_)
    clear hK K hb0
    have Sz11 := Lib.hid (Below.size hb)
    have Bel11 := Lib.hid (belNext Bel10.out hb)
    have Rr11 := Lib.hid (Rr10.out.next hb)
    have Zf11 := Lib.hid (Zf10.out.next hb)
    have Bx11 := Lib.hid (Bx10.out.next hb)
    have Zg11 := Lib.hid (Zg10.out.next hb)
    clear hb Bel10 Rr10 Zf10 Bx10 Zg10
    try simp only [Act.put, List.setIfInBounds_toArray, List.set_cons_zero, List.set_cons_succ, List.getElem_toArray, List.getElem_cons_succ, List.getElem_cons_zero]
    refine wpAnyH_take (i := 7) (v := ?_) rfl (by kernel_rfl) (by kernel_rfl) (by kernel_rfl) (fun _ _ _ h => h) (Or.inl ⟨by rfl, ?_⟩) (by assumption) ?_
    rotate_left
    · (intro w hSw; (try dsimp only at hSw); go_simp; (try with_reducible rfl))
    try simp only [Act.put, List.setIfInBounds_toArray, List.set_cons_zero, List.set_cons_succ, List.getElem_toArray, List.getElem_cons_succ, List.getElem_cons_zero]
    obtain ⟨⟨r0, r1, r2, r3⟩, r4⟩ := Rr11.out
    refine wpAnyH_ready (rs := [8]) (by kernel_rfl) (by simp) ?_
    refine AllReadyH.cons rfl (fun K hK => ?_) AllReadyH.nil
    go_simp
    refine hK.out _ _ ((Bx11.out.keep (by have zz0 := Hlt.out; have zz1 := Hlt.out; have zz2 := Sz2.out; have zz3 := Sz3.out; have zz4 := Sz4.out; have zz5 := Sz5.out; have zz6 := Sz6.out; have zz7 := Sz7.out; have zz8 := Sz8.out; have zz9 := Hff.out; have zz10 := Hf2.out; have zz11 := Sz9.out; have zz12 := Sz10.out; have zz13 := Sz11.out; first | omega | (simp; done) | (simp; omega)) _).keep (by have zz0 := Hlt.out; have zz1 := Hlt.out; have zz2 := Sz2.out; have zz3 := Sz3.out; have zz4 := Sz4.out; have zz5 := Sz5.out; have zz6 := Sz6.out; have zz7 := Sz7.out; have zz8 := Sz8.out; have zz9 := Hff.out; have zz10 := Hf2.out; have zz11 := Sz9.out; have zz12 := Sz10.out; have zz13 := Sz11.out; first | omega | (simp; done) | (simp; omega)) _).1 (fun hHeld => ?_)
    clear hK K
    try simp only [Act.put, List.setIfInBounds_toArray, List.set_cons_zero, List.set_cons_succ, List.getElem_toArray, List.getElem_cons_succ, List.getElem_cons_zero]
    refine wpAnyH_ready (rs := [9]) (by kernel_rfl) (by simp) ?_
    refine AllReadyH.cons rfl (fun K hK => ?_) AllReadyH.nil
    go_simp
    refine hK.out _ _ hHeld (fun hHeld => ?_)
    clear hK K
    try simp only [Act.put, List.setIfInBounds_toArray, List.set_cons_zero, List.set_cons_succ, List.getElem_toArray, List.getElem_cons_succ, List.getElem_cons_zero]
    refine wpAnyH_ready (rs := [10]) (by kernel_rfl) (by simp) ?_
    refine AllReadyH.cons rfl (fun K hK => ?_) AllReadyH.nil
    go_simp
    refine hK.out _ _ hHeld (fun hHeld => ?_)
    clear hK K hHeld
    try simp only [Act.put, List.setIfInBounds_toArray, List.set_cons_zero, List.set_cons_succ, List.getElem_toArray, List.getElem_cons_succ, List.getElem_cons_zero]
    refine wpAnyH_done (by kernel_rfl) ?_ _
    rw [Htt.out]
    go_wp2_with fail
    refine bodyPost_ret (v := .tuple #[.agg #[.float .f32 H, .float .f32 L], .bool (exP x y), .bool true]) (by simp [results, Try.results55, go_sem, r0, r1]) rfl ⟨by rw [H8_.out.1, H8_.out.2.1, H8_.out.2.2, Hres.out.1, Hres.out.2.1, Hres.out.2.2, Hfin.out, HL.out]; rfl, ?_⟩
    exact (Bel11.out.setCell (by have zz0 := Hlt.out; have zz1 := Hlt.out; have zz2 := Sz2.out; have zz3 := Sz3.out; have zz4 := Sz4.out; have zz5 := Sz5.out; have zz6 := Sz6.out; have zz7 := Sz7.out; have zz8 := Sz8.out; have zz9 := Hff.out; have zz10 := Hf2.out; have zz11 := Sz9.out; have zz12 := Sz10.out; have zz13 := Sz11.out; first | omega | (simp; done) | (simp; omega)) _).setCell (by have zz0 := Hlt.out; have zz1 := Hlt.out; have zz2 := Sz2.out; have zz3 := Sz3.out; have zz4 := Sz4.out; have zz5 := Sz5.out; have zz6 := Sz6.out; have zz7 := Sz7.out; have zz8 := Sz8.out; have zz9 := Hff.out; have zz10 := Hf2.out; have zz11 := Sz9.out; have zz12 := Sz10.out; have zz13 := Sz11.out; first | omega | (simp; done) | (simp; omega)) _
  · have hf2 : fin32 H = false := by simpa using hf
    have Hres := Lib.hid (Hsp.out false hf2)
    have Hf2 := Lib.hid hf2
    rw [hf2]
    clear hf hf2
    obtain ⟨⟨r0, r1, r2, r3⟩, r4⟩ := Rr2.out
    go_wp2_with fail
    refine bodyPost_ret (v := .tuple #[.agg #[.float .f32 0, .float .f32 0], .bool false, .bool false]) (by simp [results, Try.results55, go_sem, r0, r1]) rfl ⟨by rw [H8_.out.1, H8_.out.2.1, H8_.out.2.2, Hres.out.1, Hres.out.2.1, Hres.out.2.2, Hf2.out]; rfl, ?_⟩
    exact (Bel2.out.setCell (by simp) _).setCell (by simp) _
set_option maxHeartbeats 2000000 in
theorem specExProdW_any (x y : Nat) (w : World) (hx : x < 4294967296) (hy : y < 4294967296) :
    Calls Try.prog 24 #[.float .f32 x, .float .f32 y] w fun e w' => e = .returned (.tuple #[.agg #[.float .f32 (epH x y), .float .f32 (epL x y)], .int .i64 (epE x y)]) ∧ Below w.heap.size w w' := by
  have hst := store_float Try.prog
  have Hb := Lib.hid (And.intro hx hy)
  obtain ⟨w1, hw1⟩ : ∃ w1, w1 = w.alloc (.cells #[.float .f32 0, .float .f32 0] 37) := ⟨_, rfl⟩
  have Rr1 : Hid (PRes w1 w.heap.size) := Lib.hid (by rw [hw1]; exact PRes.new _ _)
  have Bel1 : Hid (Below w.heap.size w w1) := Lib.hid (by rw [hw1]; exact belAlloc1 _ _)
  have Hw := Lib.hid hw1
  clear hx hy hw1
  go_enter Try.func24, Try.ntmps24
  go_wp2_with fail
  rw [← Hw.out]
  refine (finB_any x _ Hb.out.1).mono ?_
  rintro e w2 ⟨rfl, hb⟩
  have Bel2 := Lib.hid (belNext Bel1.out hb)
  have Rr2 := Lib.hid (Rr1.out.next hb)
  clear hb
  by_cases h1 : fin32 x = true
  · have H1 := Lib.hid h1
    rw [h1]
    clear h1
    go_wp2_with fail
    refine (finB_any y _ Hb.out.2).mono ?_
    rintro e w3 ⟨rfl, hb⟩
    have Bel3 := Lib.hid (belNext Bel2.out hb)
    have Rr3 := Lib.hid (Rr2.out.next hb)
    clear hb
    by_cases h2 : fin32 y = true
    · have H2 := Lib.hid h2
      rw [h2]
      clear h2
      go_wp2_with fail
      refine (specProd5_any x y _ Hb.out.1 Hb.out.2 H1.out H2.out).mono ?_
      rintro e w4 ⟨rfl, hb⟩
      have Bel4 := Lib.hid (belNext Bel3.out hb)
      have Rr4 := Lib.hid (Rr3.out.next hb)
      obtain ⟨H9, hH9⟩ : ∃ H9, H9 = spH x y := ⟨_, rfl⟩
      obtain ⟨L9, hL9⟩ : ∃ L9, L9 = spL x y := ⟨_, rfl⟩
      have H9_ := Lib.hid (And.intro hH9 hL9)
      by_cases h3 : fin32 (muF x y 0) = true
      · have hsx : spX x y = exP x y := if_pos h3
        have Hsh : Hid (spH x y = muF x y 0 ∧ spL x y = lowP (prT x y)) := Lib.hid ⟨if_pos h3, if_pos h3⟩
        have H3 := Lib.hid h3
        rw [← hH9, ← hL9, hsx, h3]
        clear hb hH9 hL9 h3 hsx
        by_cases h4 : exP x y = true
        · have Hres := Lib.hid (ep_yes H1.out H2.out H3.out h4)
          rw [h4]
          clear h4
          go_upto_region 4 with fail
          obtain ⟨w5, hw5⟩ : ∃ w5, w5 = w4.alloc (.cells #[.float .f32 H9, .float .f32 L9] 37) := ⟨_, rfl⟩
          rw [← hw5]
          have hb : Below w4.heap.size w4 w5 := by rw [hw5]; exact belAlloc1 _ _
          have Pp5 : Hid (PB w5 w4.heap.size H9 L9) := Lib.hid (by rw [hw5]; exact PB.new _ _ _ _)
          have Bel5 := Lib.hid (belNext Bel4.out hb)
          have Rr5 := Lib.hid (Rr4.out.next hb)
          clear hw5 hb
          obtain ⟨⟨r0, r1, r2, r3⟩, r4⟩ := Rr5.out
          obtain ⟨⟨p0, p1⟩, p2⟩ := Pp5.out
          go_wp2_with fail
          refine bodyPost_ret (v := .tuple #[.agg #[.float .f32 H9, .float .f32 L9], .int .i64 0]) (by simp [results, Try.results24, go_sem, r0, r1]) rfl ⟨ret_pr (by rw [H9_.out.1, Hres.out.1, Hsh.out.1]) (by rw [H9_.out.2, Hres.out.2.1, Hsh.out.2]) Hres.out.2.2.symm, ?_⟩
          exact (Bel5.out.setCell (by simp) _).setCell (by simp) _
        · have h5 : exP x y = false := by simpa using h4
          have Hres := Lib.hid (ep_state H1.out H2.out H3.out h5)
          rw [h5]
          clear h4 h5
          go_upto_region 4 with fail
          obtain ⟨w5, hw5⟩ : ∃ w5, w5 = w4.alloc (.cells #[.float .f32 H9, .float .f32 L9] 37) := ⟨_, rfl⟩
          rw [← hw5]
          have hb : Below w4.heap.size w4 w5 := by rw [hw5]; exact belAlloc1 _ _
          have Pp5 : Hid (PB w5 w4.heap.size H9 L9) := Lib.hid (by rw [hw5]; exact PB.new _ _ _ _)
          have Bel5 := Lib.hid (belNext Bel4.out hb)
          have Rr5 := Lib.hid (Rr4.out.next hb)
          clear hw5 hb
          obtain ⟨⟨r0, r1, r2, r3⟩, r4⟩ := Rr5.out
          obtain ⟨⟨p0, p1⟩, p2⟩ := Pp5.out
          go_wp2_with fail
          refine bodyPost_ret (v := .tuple #[.agg #[.float .f32 0, .float .f32 0], .int .i64 5]) (by simp [results, Try.results24, go_sem, r0, r1]) rfl ⟨ret_pr Hres.out.1.symm Hres.out.2.1.symm Hres.out.2.2.symm, ?_⟩
          exact (Bel5.out.setCell (by simp) _).setCell (by simp) _
      · have h4 : fin32 (muF x y 0) = false := by simpa using h3
        have Hres := Lib.hid (ep_inf H1.out H2.out h4)
        have hsx : spX x y = false := if_neg h3
        rw [← hH9, ← hL9, hsx, h4]
        clear hb hH9 hL9 h3 h4 hsx
        go_upto_region 4 with fail
        obtain ⟨w5, hw5⟩ : ∃ w5, w5 = w4.alloc (.cells #[.float .f32 H9, .float .f32 L9] 37) := ⟨_, rfl⟩
        rw [← hw5]
        have hb : Below w4.heap.size w4 w5 := by rw [hw5]; exact belAlloc1 _ _
        have Pp5 : Hid (PB w5 w4.heap.size H9 L9) := Lib.hid (by rw [hw5]; exact PB.new _ _ _ _)
        have Bel5 := Lib.hid (belNext Bel4.out hb)
        have Rr5 := Lib.hid (Rr4.out.next hb)
        clear hw5 hb
        obtain ⟨⟨r0, r1, r2, r3⟩, r4⟩ := Rr5.out
        obtain ⟨⟨p0, p1⟩, p2⟩ := Pp5.out
        go_wp2_with fail
        refine bodyPost_ret (v := .tuple #[.agg #[.float .f32 0, .float .f32 0], .int .i64 3]) (by simp [results, Try.results24, go_sem, r0, r1]) rfl ⟨ret_pr Hres.out.1.symm Hres.out.2.1.symm Hres.out.2.2.symm, ?_⟩
        exact (Bel5.out.setCell (by simp) _).setCell (by simp) _
    · have h4 : fin32 y = false := by simpa using h2
      have Hres := Lib.hid (ep_no (x := x) (y := y) (fun h => h2 h.2))
      rw [h4]
      clear h2 h4
      obtain ⟨⟨r0, r1, r2, r3⟩, r4⟩ := Rr3.out
      go_wp2_with fail
      refine bodyPost_ret (v := .tuple #[.agg #[.float .f32 0, .float .f32 0], .int .i64 1]) (by simp [results, Try.results24, go_sem, r0, r1]) rfl ⟨ret_pr Hres.out.1.symm Hres.out.2.1.symm Hres.out.2.2.symm, ?_⟩
      exact (Bel3.out.setCell (by simp) _).setCell (by simp) _
  · have h4 : fin32 x = false := by simpa using h1
    have Hres := Lib.hid (ep_no (x := x) (y := y) (fun h => h1 h.1))
    rw [h4]
    clear h1 h4
    obtain ⟨⟨r0, r1, r2, r3⟩, r4⟩ := Rr2.out
    go_wp2_with fail
    refine bodyPost_ret (v := .tuple #[.agg #[.float .f32 0, .float .f32 0], .int .i64 1]) (by simp [results, Try.results24, go_sem, r0, r1]) rfl ⟨ret_pr Hres.out.1.symm Hres.out.2.1.symm Hres.out.2.2.symm, ?_⟩
    exact (Bel2.out.setCell (by simp) _).setCell (by simp) _
end Go.Proofs.Ytnecnbonnidijaa
