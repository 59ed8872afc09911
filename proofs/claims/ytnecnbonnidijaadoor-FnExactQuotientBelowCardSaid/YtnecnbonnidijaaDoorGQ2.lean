/- Texts of this seat, joined: Fl Fm Wa Wb Wc Bi Ia Ib Sf At Fo Fp Ka Kb Kc Kd -/
import Derived.Laws.FloatArith
import Derived.WalkKit
import Derived.WalkLawsBesides
import Derived.KernelRfl
import Derived.Test.YtnecnbonnidijaaDoorChecked
import Derived.Tactics
import Derived.Tactics2
import Derived.StillTactics
import Derived.LoopTactic
import Derived.Lib.Hide
import Derived.Outline
import Derived.Laws.BitsAllLaws
import Derived.Laws.Externs
import Derived.Test.YtnecnbonnidijaaDoorGQ1
import Derived.Laws.Bits64b
import Derived.Laws.BitsAll
import Derived.Deep.DrawnRows
/- Plain facts on binary floats as the model has them: rounding depends on the value alone; words of numbers that a format has are read back; doubling and halving are exact. -/
namespace Go.Proofs.YtnecnbonnidijaaDoor
open Ieee

/-- two pairs tell one number -/
def SameVal (m : Nat) (p : Int) (n : Nat) (q : Int) : Prop := ∃ a b : Nat, m * 2 ^ a = n * 2 ^ b ∧ p - a = q - b

theorem SameVal.refl (m p) : SameVal m p m p := ⟨0, 0, rfl, rfl⟩
theorem SameVal.symm {m p n q} (h : SameVal m p n q) : SameVal n q m p := by
  obtain ⟨a, b, h1, h2⟩ := h; exact ⟨b, a, h1.symm, h2.symm⟩
theorem SameVal.trans {m p n q r s} (h : SameVal m p n q) (g : SameVal n q r s) : SameVal m p r s := by
  obtain ⟨a, b, h1, h2⟩ := h
  obtain ⟨c, d, g1, g2⟩ := g
  refine ⟨a + c, d + b, ?_, by omega⟩
  rw [Nat.pow_add, ← Nat.mul_assoc, h1, Nat.mul_assoc, Nat.mul_comm (2 ^ b), ← Nat.mul_assoc, g1, Nat.mul_assoc, ← Nat.pow_add]
theorem SameVal.shl (m : Nat) (p : Int) (k : Nat) : SameVal (m * 2 ^ k) p m (p + k) := ⟨0, k, by simp, by omega⟩
theorem SameVal.shl' (m : Nat) (p q : Int) (k : Nat) (h : q = p + k) : SameVal (m * 2 ^ k) p m q := by subst h; exact SameVal.shl m p k
theorem SameVal.add {m p n q} (k : Int) (h : SameVal m p n q) : SameVal m (p + k) n (q + k) := by
  obtain ⟨a, b, h1, h2⟩ := h; exact ⟨a, b, h1, by omega⟩
theorem log2_shl (m k : Nat) (h : m ≠ 0) : (m * 2 ^ k).log2 = m.log2 + k := by
  have h0 : m * 2 ^ k ≠ 0 := Nat.mul_ne_zero h (Nat.pos_iff_ne_zero.1 (Nat.two_pow_pos k))
  rw [Nat.log2_eq_iff h0]
  have h1 := Nat.log2_self_le h
  have h2 := @Nat.lt_log2_self m
  constructor
  · rw [Nat.pow_add]; exact Nat.mul_le_mul_right _ h1
  · rw [show m.log2 + k + 1 = m.log2 + 1 + k by omega, Nat.pow_add (n := k)]
    exact Nat.mul_lt_mul_of_pos_right h2 (Nat.two_pow_pos k)

/-- rounding to even of n over 2^d, without the cut of great drops -/
def evenCut (n d : Nat) : Nat := n / 2 ^ d + (decide (2 ^ d < 2 * (n % 2 ^ d)) || (2 ^ d == 2 * (n % 2 ^ d) && n / 2 ^ d % 2 == 1)).toNat

theorem evenCut_great (n d : Nat) (h : n.log2 + 2 ≤ d) : evenCut n d = 0 := by
  have h1 := @Nat.lt_log2_self n
  have h2 : 2 ^ (n.log2 + 2) ≤ 2 ^ d := Nat.pow_le_pow_right (by omega) h
  have h3 : 2 ^ (n.log2 + 2) = 2 * 2 ^ (n.log2 + 1) := by rw [Nat.pow_succ, Nat.mul_comm]
  have h4 : n % 2 ^ d = n := Nat.mod_eq_of_lt (by omega)
  have h5 : n / 2 ^ d = 0 := Nat.div_eq_of_lt (by omega)
  unfold evenCut
  rw [h4, h5]
  have h6 : decide (2 ^ d < 2 * n) = false := by simp; omega
  have h7 : (2 ^ d == 2 * n) = false := by simp; omega
  simp [h6, h7]

theorem cut_even (neg : Bool) (n d : Nat) : Toward.even.cut neg n d = evenCut n d := by
  unfold Toward.cut
  simp only [Nat.one_shiftLeft]
  by_cases h : d ≤ n.log2 + 2
  · rw [Nat.min_eq_left h]; rfl
  · rw [Nat.min_eq_right (by omega), evenCut_great n d (by omega)]
    exact evenCut_great n (n.log2 + 2) (Nat.le_refl _)

theorem evenCut_shl (n d k : Nat) : evenCut (n * 2 ^ k) (d + k) = evenCut n d := by
  have hk := Nat.two_pow_pos k
  unfold evenCut
  rw [Nat.pow_add, Nat.mul_div_mul_right _ _ hk, Nat.mul_mod_mul_right]
  have e1 : decide (2 ^ d * 2 ^ k < 2 * (n % 2 ^ d * 2 ^ k)) = decide (2 ^ d < 2 * (n % 2 ^ d)) := by
    rw [← Nat.mul_assoc]
    simp only [decide_eq_decide]
    exact Nat.mul_lt_mul_right hk
  have e2 : (2 ^ d * 2 ^ k == 2 * (n % 2 ^ d * 2 ^ k)) = (2 ^ d == 2 * (n % 2 ^ d)) := by
    rw [← Nat.mul_assoc, Bool.eq_iff_iff]
    simp only [beq_iff_eq]
    exact Nat.mul_left_inj (by omega)
  rw [e1, e2]

theorem evenCut_zero (n : Nat) : evenCut n 0 = n := by
  unfold evenCut
  simp [Nat.mod_one]

theorem nearest_shl (f : Format) (neg : Bool) (m k : Nat) (p : Int) : f.nearest neg (m * 2 ^ k) p = f.nearest neg m (p + k) := by
  by_cases h : m = 0
  · subst h; simp [Format.nearest]
  have h0 : m * 2 ^ k ≠ 0 := Nat.mul_ne_zero h (Nat.pos_iff_ne_zero.1 (Nat.two_pow_pos k))
  unfold Format.nearest
  rw [if_neg h0, if_neg h]
  simp only [log2_shl m k h, cut_even]
  have e : p + ((m.log2 + k : Nat) : Int) - (f.fractionBits : Int) = p + k + m.log2 - f.fractionBits := by omega
  rw [e]
  generalize max (p + k + (m.log2 : Int) - f.fractionBits) f.leastPlace = last
  have e2 : evenCut ((m * 2 ^ k) <<< (p - last).toNat) (last - p).toNat = evenCut (m <<< (p + k - last).toNat) (last - (p + k)).toNat := by
    simp only [Nat.shiftLeft_eq]
    by_cases h1 : last ≤ p
    · have a1 : (last - p).toNat = 0 := by omega
      have a2 : (last - (p + k)).toNat = 0 := by omega
      have a3 : (p + k - last).toNat = (p - last).toNat + k := by omega
      rw [a1, a2, a3, Nat.pow_add, Nat.mul_assoc, Nat.mul_comm (2 ^ k)]
    · by_cases h2 : last ≤ p + k
      · obtain ⟨j, hj⟩ : ∃ j : Nat, (last - p).toNat = j := ⟨_, rfl⟩
        have a0 : (p - last).toNat = 0 := by omega
        have a2 : (last - (p + k)).toNat = 0 := by omega
        have a3 : (p + k - last).toNat = k - j := by omega
        have a4 : k = (k - j) + j := by omega
        rw [a0, a2, a3, hj]
        have : m * 2 ^ k * 2 ^ 0 = m * 2 ^ (k - j) * 2 ^ j := by
          rw [Nat.pow_zero, Nat.mul_one, Nat.mul_assoc, ← Nat.pow_add, ← a4]
        rw [this]
        have := evenCut_shl (m * 2 ^ (k - j)) 0 j
        rwa [Nat.zero_add] at this
      · have a0 : (p - last).toNat = 0 := by omega
        have a1 : (p + k - last).toNat = 0 := by omega
        have a3 : (last - p).toNat = (last - (p + k)).toNat + k := by omega
        rw [a0, a1, a3, Nat.pow_zero, Nat.mul_one, Nat.mul_one]
        exact evenCut_shl _ _ _
  rw [e2]

theorem nearest_same (f : Format) (neg : Bool) {m n : Nat} {p q : Int} (h : SameVal m p n q) : f.nearest neg m p = f.nearest neg n q := by
  obtain ⟨a, b, h1, h2⟩ := h
  have e1 := nearest_shl f neg m a (p - a)
  have e2 := nearest_shl f neg n b (q - b)
  rw [show p - (a : Int) + a = p by omega] at e1
  rw [show q - (b : Int) + b = q by omega] at e2
  rw [← e1, ← e2, h1, h2]

/-- the canonical form of a number of the format -/
structure Canon (f : Format) (m : Nat) (k : Nat) : Prop where
  lt : m < 2 * f.binade
  or : k = 0 ∨ f.binade ≤ m
  fin : k * f.binade + m < f.infRung

theorem binade_pos (f : Format) : 0 < f.binade := Nat.two_pow_pos _

theorem log2_binade (f : Format) {m : Nat} (h1 : f.binade ≤ m) (h2 : m < 2 * f.binade) : m.log2 = f.fractionBits := by
  have h0 : m ≠ 0 := by have := binade_pos f; omega
  rw [Nat.log2_eq_iff h0]
  unfold Format.binade at h1 h2
  rw [Nat.pow_succ]; omega

theorem nearest_canon' (f : Format) (neg : Bool) {m k : Nat} (lt : m < 2 * f.binade) (hor : k = 0 ∨ f.binade ≤ m) : f.nearest neg m (f.leastPlace + k) = f.word neg (min (k * f.binade + m) f.infRung) := by
  by_cases h0 : m = 0
  · subst h0
    have hb := binade_pos f
    have : k = 0 := by omega
    subst this
    simp [Format.nearest]
  unfold Format.nearest
  rw [if_neg h0]
  have hl : max (f.leastPlace + k + (m.log2 : Int) - f.fractionBits) f.leastPlace = f.leastPlace + k := by
    by_cases h : f.binade ≤ m
    · rw [log2_binade f h lt]; omega
    · have hk : k = 0 := by omega
      have : m.log2 < f.fractionBits := by
        rw [Nat.log2_lt h0]; unfold Format.binade at h; omega
      omega
  simp only [hl, cut_even]
  have a1 : (f.leastPlace + (k : Int) - (f.leastPlace + k)).toNat = 0 := by omega
  have a2 : (f.leastPlace + (k : Int) - f.leastPlace).toNat = k := by omega
  rw [a1, a2, Nat.shiftLeft_zero, evenCut_zero]

theorem Canon.nearest {f : Format} (neg : Bool) {m k : Nat} (h : Canon f m k) : f.nearest neg m (f.leastPlace + k) = f.word neg (k * f.binade + m) := by
  rw [nearest_canon' f neg h.lt h.or, Nat.min_eq_left (Nat.le_of_lt h.fin)]

theorem read_word_fin (f : Format) (neg : Bool) {m k : Nat} (h : Canon f m k) : f.read (f.word neg (k * f.binade + m)) = .number neg m (f.leastPlace + k) := by
  have hw := f.infRung_lt
  have hb := binade_pos f
  have hf := h.fin
  have hlt := h.lt
  have hor := h.or
  generalize hr : k * f.binade + m = r at hf
  have hrw : r < f.signWeight := by omega
  have e1 : (f.word neg r / f.signWeight % 2 == 1) = neg := by
    unfold Format.word
    cases neg
    · simp [Nat.div_eq_of_lt hrw]
    · simp only [if_true]
      rw [Nat.add_div_left _ (by omega), Nat.div_eq_of_lt hrw]; rfl
  have e2 : f.word neg r % f.signWeight = r := by
    unfold Format.word
    cases neg
    · simp [Nat.mod_eq_of_lt hrw]
    · simp [Nat.mod_eq_of_lt hrw]
  unfold Format.read
  simp only [e1, e2]
  by_cases h1 : r < f.binade
  · have hk : k = 0 := by
      rcases hor with h2 | h2
      · exact h2
      · omega
    subst hk
    rw [if_pos h1]
    simp at hr
    subst hr
    simp
  · rw [if_neg h1, if_pos hf]
    rcases Nat.lt_or_ge m f.binade with h2 | h2
    · have hk : k = 0 := by omega
      subst hk; omega
    · have e3 : r = (k + 1) * f.binade + (m - f.binade) := by rw [Nat.add_mul, ← hr]; omega
      have e4 : r % f.binade = m - f.binade := by
        rw [e3, Nat.mul_comm, Nat.mul_add_mod, Nat.mod_eq_of_lt (by omega)]
      have e5 : r / f.binade = k + 1 := by
        rw [e3, Nat.mul_comm, Nat.mul_add_div hb, Nat.div_eq_of_lt (by omega)]
      rw [e4, e5]
      congr 1
      omega

/-- a number that the format has: m 2^p -/
structure Repr (f : Format) (m : Nat) (p : Int) : Prop where
  lt : m < 2 * f.binade
  ge : f.leastPlace ≤ p
  fin : (p - f.leastPlace).toNat * f.binade + 2 * f.binade ≤ f.infRung

theorem Repr.canon {f : Format} {m : Nat} {p : Int} (h : Repr f m p) : ∃ m' k, Canon f m' k ∧ SameVal m' (f.leastPlace + k) m p := by
  have hb := binade_pos f
  have hlt := h.lt
  have hge := h.ge
  have hf := h.fin
  by_cases h0 : m = 0
  · subst h0
    refine ⟨0, 0, ⟨by omega, .inl rfl, by omega⟩, ⟨0, (p - f.leastPlace).toNat, by simp, by omega⟩⟩
  · by_cases h1 : f.binade ≤ m
    · refine ⟨m, (p - f.leastPlace).toNat, ⟨hlt, .inr h1, by omega⟩, ⟨0, 0, rfl, by omega⟩⟩
    · have hl : m.log2 < f.fractionBits := by
        rw [Nat.log2_lt h0]; unfold Format.binade at h1; omega
      have l1 := Nat.log2_self_le h0
      have l2 := @Nat.lt_log2_self m
      obtain ⟨a, ha⟩ : ∃ a, a = min (f.fractionBits - m.log2) (p - f.leastPlace).toNat := ⟨_, rfl⟩
      have up : m * 2 ^ a < 2 * f.binade := by
        have : m * 2 ^ a < 2 ^ (m.log2 + 1) * 2 ^ a := Nat.mul_lt_mul_of_pos_right l2 (Nat.two_pow_pos a)
        rw [← Nat.pow_add] at this
        have g : 2 ^ (m.log2 + 1 + a) ≤ 2 ^ (f.fractionBits + 1) := Nat.pow_le_pow_right (by omega) (by omega)
        unfold Format.binade
        rw [Nat.pow_succ] at g
        omega
      refine ⟨m * 2 ^ a, (p - f.leastPlace).toNat - a, ⟨up, ?_, ?_⟩, ?_⟩
      · by_cases h3 : a = (p - f.leastPlace).toNat
        · left; omega
        · right
          have h4 : a = f.fractionBits - m.log2 := by omega
          have : 2 ^ m.log2 * 2 ^ a ≤ m * 2 ^ a := Nat.mul_le_mul_right _ l1
          rw [← Nat.pow_add, show m.log2 + a = f.fractionBits by omega] at this
          exact this
      · have : ((p - f.leastPlace).toNat - a) * f.binade ≤ (p - f.leastPlace).toNat * f.binade := Nat.mul_le_mul_right _ (by omega)
        omega
      · exact SameVal.shl' _ _ _ _ (by omega)

/-- what the word of a number that the format has is read as -/
theorem Repr.read {f : Format} {m : Nat} {p : Int} (neg : Bool) (h : Repr f m p) : ∃ m' p', f.read (f.nearest neg m p) = .number neg m' p' ∧ SameVal m' p' m p ∧ m' < 2 * f.binade := by
  obtain ⟨m', k, hc, hs⟩ := h.canon
  refine ⟨m', f.leastPlace + k, ?_, hs, hc.lt⟩
  rw [← nearest_same f neg hs, hc.nearest]
  exact read_word_fin f neg hc


/-! ### order, whole numbers, double and single -/

theorem signed_eq (s : Bool) (m u : Nat) : signed s m u = (if s then -1 else 1) * ((m : Int) * 2 ^ u) := by
  unfold signed
  rw [Nat.shiftLeft_eq]
  cases s <;> simp [Int.natCast_mul]

theorem signed_add (s : Bool) (m u v : Nat) : signed s m (u + v) = signed s m u * 2 ^ v := by
  rw [signed_eq, signed_eq, Int.pow_add]
  rw [Int.mul_assoc, Int.mul_assoc]

theorem compare_scale (a b : Int) (k : Nat) : compare (a * 2 ^ k) (b * 2 ^ k) = compare a b := by
  have h : (0 : Int) < 2 ^ k := Int.pow_pos (by omega)
  rcases Int.lt_trichotomy a b with h1 | h1 | h1
  · have h2 : a * 2 ^ k < b * 2 ^ k := Int.mul_lt_mul_of_pos_right h1 h
    rw [Int.compare_eq_lt.2 h1, Int.compare_eq_lt.2 h2]
  · subst h1; simp
  · have h2 : b * 2 ^ k < a * 2 ^ k := Int.mul_lt_mul_of_pos_right h1 h
    rw [Int.compare_eq_gt.2 h1, Int.compare_eq_gt.2 h2]

theorem order_num (s t : Bool) (m n : Nat) (i j L : Int) (hi : L ≤ i) (hj : L ≤ j) :
    (Datum.number s m i).order (.number t n j) = some (compare (signed s m (i - L).toNat) (signed t n (j - L).toNat)) := by
  unfold Datum.order
  simp only [Option.some.injEq]
  have e1 : (i - L).toNat = (i - min i j).toNat + (min i j - L).toNat := by omega
  have e2 : (j - L).toNat = (j - min i j).toNat + (min i j - L).toNat := by omega
  rw [e1, e2, signed_add, signed_add, compare_scale]

/-- the word of a double -/
def d64 (s : Bool) (m : Nat) (p : Int) : Nat := Ieee.double.nearest s m p
/-- the word of a single -/
def s32 (s : Bool) (m : Nat) (p : Int) : Nat := Ieee.single.nearest s m p

theorem double_binade : Ieee.double.binade = 4503599627370496 := by decide
theorem double_least : Ieee.double.leastPlace = -1074 := by decide
theorem double_inf : Ieee.double.infRung = 9218868437227405312 := by decide
/-- the mantissa and the exponent (from -149 on) of a rung of a single -/
def mant (r : Nat) : Nat := if r < 8388608 then r else 8388608 + r % 8388608
def expo (r : Nat) : Nat := if r < 8388608 then 0 else r / 8388608 - 1

/-- not a number -/
def nan32 (b : Nat) : Bool := decide (2139095040 < b % 2147483648)
def fin32 (b : Nat) : Bool := decide (b % 2147483648 < 2139095040)
def neg32 (b : Nat) : Bool := decide (2147483648 ≤ b)

/-- the place of a float that is not NaN -/
def place32 (b : Nat) : Int := if decide (2147483648 ≤ b) = true then -((b % 2147483648 : Nat) : Int) else ((b % 2147483648 : Nat) : Int)

end Go.Proofs.YtnecnbonnidijaaDoor
/- Plain facts on floats of 32 bits: comparing is comparing places; what x - x, -x, x * -1 and conversions give. -/
namespace Go.Proofs.YtnecnbonnidijaaDoor
open Ieee

/-- the NaN that the tape gives -/
def nanOf (w : World) (x y : Nat) : Nat := (Question.nanBits .f32 x y).cut (w.tape w.drawn (.nanBits .f32 x y))
end Go.Proofs.YtnecnbonnidijaaDoor
/- The walks of spec.l01Twos: doubling and halving of doubles that stay exact. -/
namespace Go.Proofs.YtnecnbonnidijaaDoor
set_option maxRecDepth 100000
open Go.RowKit

end Go.Proofs.YtnecnbonnidijaaDoor
/- The walks of chapter 1's small functions: the model's (NaN, finite, absolute value, parts, place, sign, bits). -/
namespace Go.Proofs.YtnecnbonnidijaaDoor
set_option maxRecDepth 100000
open Go.RowKit

end Go.Proofs.YtnecnbonnidijaaDoor
/- The walks of spec.l01Parts, l01Place, BitsOf. -/
namespace Go.Proofs.YtnecnbonnidijaaDoor
set_option maxRecDepth 100000
open Go.RowKit

/-- the bits that are told -/
def bits32 (b : Nat) : Nat := if nan32 b = true then 2143289344 else b

end Go.Proofs.YtnecnbonnidijaaDoor
/- Plain facts on the bit operations of int64 at numbers that are not negative. -/
namespace Go.Proofs.YtnecnbonnidijaaDoor

theorem ofInt_nat64 (a : Nat) (ha : a < 18446744073709551616) : (BitVec.ofInt 64 (a : Int)).toNat = a := by
  rw [BitVec.ofInt_natCast, BitVec.toNat_ofNat]; exact Nat.mod_eq_of_lt (by omega)
theorem wrap_i64_nat (n : Nat) (h : n < 9223372036854775808) : IntKind.i64.wrap (n : Int) = n := by
  unfold IntKind.wrap
  simp only [show IntKind.i64.bits = 64 from rfl]
  have e : (n : Int) % (2 ^ 64 : Int) = n := by omega
  rw [e, if_neg]
  simp
  omega

theorem and_i64_nat (a b : Nat) (ha : a < 9223372036854775808) (hb : b < 9223372036854775808) : bits .and .i64 (a : Int) (b : Int) = ((a &&& b : Nat) : Int) := by
  have hx : a &&& b < 2 ^ 63 := Nat.and_lt_two_pow _ (by omega)
  show IntKind.i64.wrap ((BitVec.ofInt 64 (a : Int) &&& BitVec.ofInt 64 (b : Int)).toNat : Int) = _
  rw [BitVec.toNat_and, ofInt_nat64 a (by omega), ofInt_nat64 b (by omega), wrap_i64_nat _ (by omega)]

end Go.Proofs.YtnecnbonnidijaaDoor
/- The walks of the program's own functions of chapter 1 that tell bits, classes and places. -/
namespace Go.Proofs.YtnecnbonnidijaaDoor
set_option maxRecDepth 100000
open Go.RowKit

/-- the class of a float -/
def class32 (b : Nat) : Int :=
  if b % 2147483648 = 0 then 0 else if b % 2147483648 < 8388608 then 1 else if b % 2147483648 < 2139095040 then 2 else if b % 2147483648 = 2139095040 then 3 else 4

end Go.Proofs.YtnecnbonnidijaaDoor
/- More walks of chapter 1: PartsOf and PlaceOf of the program, ClassOf, PartsOf and PlaceOf of the model. -/
namespace Go.Proofs.YtnecnbonnidijaaDoor
set_option maxRecDepth 100000
open Go.RowKit

/-- the mantissa with its sign -/
def smant32 (b : Nat) : Int := if place32 b < 0 then -(mant (b % 2147483648) : Int) else (mant (b % 2147483648) : Int)

end Go.Proofs.YtnecnbonnidijaaDoor
/- Doubles made of singles, and the walk of the laws' own sameFloat: it says yes of one word twice, and of two NaN. -/
namespace Go.Proofs.YtnecnbonnidijaaDoor
set_option maxRecDepth 100000
open Go.RowKit
open Ieee

def nan64 (c : Nat) : Bool := (Ieee.double.read c).isNaN
def zero64 (c : Nat) : Bool := (Ieee.double.read c).isZero

def nanConvOf (w : World) (b : Nat) : Nat := (Question.nanConv .f64 b).cut (w.tape w.drawn (.nanConv .f64 b))
end Go.Proofs.YtnecnbonnidijaaDoor
/- The walks of the model's float at a place, its huge float, its turned float; of FloatOfBits and FloatAtPlace of the model and of the program. -/
namespace Go.Proofs.YtnecnbonnidijaaDoor
set_option maxRecDepth 100000
open Go.RowKit

/-- the float at a place -/
def at32 (n : Int) : Nat := if n < 0 then n.natAbs + 2147483648 else n.natAbs

end Go.Proofs.YtnecnbonnidijaaDoor
/- The walks of FloatOfBits and FloatAtPlace, of the model and of the program; and of the laws' own sameFloat. -/
namespace Go.Proofs.YtnecnbonnidijaaDoor
set_option maxRecDepth 100000
open Go.RowKit

end Go.Proofs.YtnecnbonnidijaaDoor
/- The walks of the model's FloatOfBits. -/
namespace Go.Proofs.YtnecnbonnidijaaDoor
set_option maxRecDepth 100000
open Go.RowKit

end Go.Proofs.YtnecnbonnidijaaDoor
/- Rounding to a float: plain mathematics. -/
namespace Go.Proofs.YtnecnbonnidijaaDoor
set_option maxRecDepth 100000
open Go.RowKit
open Ieee

/-- the exponent of the step -/
def rQ (v : Nat) (E : Int) : Int := max ((blen v : Int) + E - 24) (-149)
/-- whole steps towards 0, where l bits are lost -/
def rT (v : Nat) (l : Int) : Nat := if l ≤ 0 then v * 2 ^ (-l).toNat else v / 2 ^ l.toNat
/-- something is lost -/
def rB (v : Nat) (l : Int) : Bool := decide (0 < l ∧ tz v < l.toNat)
/-- less than, just, or more than half of a step -/
def rH (v : Nat) (l : Int) : Int := if v / 2 ^ (l.toNat - 1) % 2 = 1 then (if tz v = l.toNat - 1 then 0 else 1) else -1
/-- what is lost leads away from 0 -/
def away (mode S : Int) (odd : Bool) (h : Int) : Bool :=
  if mode = 0 then (decide (0 < h) || (decide (h = 0) && odd)) else if mode = 1 then decide (S < 0) else if mode = 2 then decide (0 < S) else if mode = 3 then false else true
/-- the steps that are taken -/
def rM (mode S : Int) (v : Nat) (l : Int) : Nat := if rB v l = true ∧ away mode S (rT v l % 2 == 1) (rH v l) = true then rT v l + 1 else rT v l
/-- the number overflows -/
def rO (mode z E : Int) : Bool := decide ((128 : Int) < (blen (rM mode z.sign z.natAbs (rQ z.natAbs E - E)) : Int) + rQ z.natAbs E)
/-- the float -/
def rdF (z E mode : Int) : Nat :=
  if z = 0 then 0 else if rO mode z E = true then (if away mode z.sign false 1 = true then (if z < 0 then 4286578688 else 2139095040) else (if z < 0 then 4286578687 else 2139095039))
  else s32 (decide (z < 0)) (rM mode z.sign z.natAbs (rQ z.natAbs E - E)) (rQ z.natAbs E)
/-- the flags -/
def rdL (z E mode : Int) : Int :=
  if z = 0 then 0 else if rO mode z E = true then 5 else if rB z.natAbs (rQ z.natAbs E - E) = true then (if (blen z.natAbs : Int) + E ≤ -126 then 3 else 1) else 0

end Go.Proofs.YtnecnbonnidijaaDoor
/- Doubles that are normal and positive, and the walk of math.Ldexp at whole numbers: it makes the number times the power of two. -/
namespace Go.Proofs.YtnecnbonnidijaaDoor
set_option maxRecDepth 100000
open Go.RowKit
open Ieee
set_option linter.unusedSimpArgs false
set_option linter.unusedVariables false

/-- a normal double that is positive: its exponent's field and its fraction -/
structure Nd (X E F : Nat) : Prop where
  eq : X = E * 4503599627370496 + F
  lo : 1 ≤ E
  hi : E ≤ 2046
  fr : F < 4503599627370496
theorem Nd.canon {X E F : Nat} (h : Nd X E F) : Canon Ieee.double (4503599627370496 + F) (E - 1) := by
  have h1 := h.lo; have h2 := h.hi; have h3 := h.fr
  exact ⟨by rw [double_binade]; omega, .inr (by rw [double_binade]; omega), by rw [double_binade, double_inf]; omega⟩
theorem Nd.word {X E F : Nat} (h : Nd X E F) : Ieee.double.word false ((E - 1) * Ieee.double.binade + (4503599627370496 + F)) = X := by
  have h1 := h.lo; have h2 := h.hi; have h3 := h.fr
  unfold Format.word
  rw [if_neg (by decide), double_binade, h.eq]
  omega
theorem Nd.read {X E F : Nat} (h : Nd X E F) : Ieee.double.read X = .number false (4503599627370496 + F) (-1074 + ((E - 1 : Nat) : Int)) := by
  have := read_word_fin Ieee.double false h.canon
  rwa [h.word, double_least] at this
theorem Nd.nearest {X E F : Nat} (h : Nd X E F) : d64 false (4503599627370496 + F) (-1074 + ((E - 1 : Nat) : Int)) = X := by
  have := h.canon.nearest false
  rw [h.word, double_least] at this
  exact this
theorem Nd.order {X E F X' E' F' : Nat} (h : Nd X E F) (h' : Nd X' E' F') : FloatKind.f64.format.order X X' = some (compare (((4503599627370496 + F) * 2 ^ (E - 1) : Nat) : Int) (((4503599627370496 + F') * 2 ^ (E' - 1) : Nat) : Int)) := by
  show (Ieee.double.read X).order (Ieee.double.read X') = _
  rw [h.read, h'.read, order_num false false _ _ _ _ (-1074) (by omega) (by omega), signed_eq, signed_eq]
  rw [show (-1074 + ((E - 1 : Nat) : Int) - -1074).toNat = E - 1 by omega, show (-1074 + ((E' - 1 : Nat) : Int) - -1074).toNat = E' - 1 by omega]
  simp only [Bool.false_eq_true, if_false, Int.one_mul, Int.natCast_mul, Int.natCast_pow]; rfl
theorem Nd.lt {X E F : Nat} (h : Nd X E F) : X < 9218868437227405312 := by
  have h1 := h.lo; have h2 := h.hi; have h3 := h.fr; rw [h.eq]; omega

theorem Nd.field {X E F : Nat} (h : Nd X E F) : (X : Int) / 4503599627370496 = (E : Int) ∧ bits .and .i64 (E : Int) 2047 = (E : Int) := by
  have h1 := h.lo; have h2 := h.hi; have h3 := h.fr; have h4 := h.eq
  refine ⟨by omega, ?_⟩
  have := and_i64_nat E 2047 (by omega) (by omega)
  rw [show ((2047 : Nat) : Int) = 2047 from rfl, show (2047 : Nat) = 2 ^ 11 - 1 by decide, Nat.and_two_pow_sub_one_eq_mod] at this
  rw [this, Nat.mod_eq_of_lt (by omega)]
end Go.Proofs.YtnecnbonnidijaaDoor
/- The walk of math.Ldexp at whole numbers: it makes the number times the power of two. -/
namespace Go.Proofs.YtnecnbonnidijaaDoor
set_option maxRecDepth 100000
open Go.RowKit
open Ieee
set_option linter.unusedSimpArgs false
set_option linter.unusedVariables false

end Go.Proofs.YtnecnbonnidijaaDoor
/- Boxes of the rounding's own structures, and the small functions about an excess, of the program. -/
namespace Go.Proofs.YtnecnbonnidijaaDoor
set_option maxRecDepth 100000
open Go.RowKit
set_option linter.unusedSimpArgs false
set_option linter.unusedVariables false
attribute [local go_sem ↓] Go.wp_at_zero Go.wp_at_succ

/-- a format's box -/
def FBox (w : World) (b : Nat) (p l m : Int) : Prop := (w.cell? ⟨b, 0, none⟩ = some (.int .i64 p) ∧ w.cell? ⟨b, 1, none⟩ = some (.int .i64 l) ∧ w.cell? ⟨b, 2, none⟩ = some (.int .i64 m)) ∧ b < w.heap.size
/-- an excess's box -/
def EBox (w : World) (b : Nat) (S : Int) (o t : Bool) (h : Int) : Prop := (w.cell? ⟨b, 0, none⟩ = some (.int .i64 S) ∧ w.cell? ⟨b, 1, none⟩ = some (.bool o) ∧ w.cell? ⟨b, 2, none⟩ = some (.bool t) ∧ w.cell? ⟨b, 3, none⟩ = some (.int .i64 h)) ∧ b < w.heap.size
/-- nothing of it is frozen -/
def Fr4 (w : World) (b : Nat) : Prop := (w.frozen? ⟨b, 0, none⟩ = false ∧ w.frozen? ⟨b, 1, none⟩ = false ∧ w.frozen? ⟨b, 2, none⟩ = false ∧ w.frozen? ⟨b, 3, none⟩ = false) ∧ b < w.heap.size
section
variable {w w' : World} {b : Nat} {p l m S h : Int} {o t : Bool}
theorem FBox.next (x : FBox w b p l m) (hb : Below w.heap.size w w') : FBox w' b p l m :=
  ⟨⟨(hb.cell (p := ⟨b, 0, none⟩) x.2).trans x.1.1, (hb.cell (p := ⟨b, 1, none⟩) x.2).trans x.1.2.1, (hb.cell (p := ⟨b, 2, none⟩) x.2).trans x.1.2.2⟩, Nat.lt_of_lt_of_le x.2 hb.size⟩
theorem EBox.next (x : EBox w b S o t h) (hb : Below w.heap.size w w') : EBox w' b S o t h :=
  ⟨⟨(hb.cell (p := ⟨b, 0, none⟩) x.2).trans x.1.1, (hb.cell (p := ⟨b, 1, none⟩) x.2).trans x.1.2.1, (hb.cell (p := ⟨b, 2, none⟩) x.2).trans x.1.2.2.1, (hb.cell (p := ⟨b, 3, none⟩) x.2).trans x.1.2.2.2⟩, Nat.lt_of_lt_of_le x.2 hb.size⟩
theorem Fr4.next (x : Fr4 w b) (hb : Below w.heap.size w w') : Fr4 w' b :=
  ⟨⟨(hb.frozen (p := ⟨b, 0, none⟩) x.2).trans x.1.1, (hb.frozen (p := ⟨b, 1, none⟩) x.2).trans x.1.2.1, (hb.frozen (p := ⟨b, 2, none⟩) x.2).trans x.1.2.2.1, (hb.frozen (p := ⟨b, 3, none⟩) x.2).trans x.1.2.2.2⟩, Nat.lt_of_lt_of_le x.2 hb.size⟩
theorem FBox.drew (x : FBox w b p l m) : FBox w.drew b p l m := x
theorem EBox.drew (x : EBox w b S o t h) : EBox w.drew b S o t h := x
theorem Fr4.drew (x : Fr4 w b) : Fr4 w.drew b := x
theorem FBox.keep (x : FBox w b p l m) {q : Addr} (hq : q.block ≠ b) (u : Value) : FBox (w.setCell q u) b p l m := by
  have hk : ∀ o, (w.setCell q u).cell? ⟨b, o, none⟩ = w.cell? ⟨b, o, none⟩ := fun o => World.cell?_of_block (a := ⟨b, o, none⟩) (Below.heap_setCell _ _ _ _ (fun e => hq e.symm))
  exact ⟨⟨(hk 0).trans x.1.1, (hk 1).trans x.1.2.1, (hk 2).trans x.1.2.2⟩, by have := x.2; simpa using this⟩
theorem EBox.keep (x : EBox w b S o t h) {q : Addr} (hq : q.block ≠ b) (u : Value) : EBox (w.setCell q u) b S o t h := by
  have hk : ∀ o, (w.setCell q u).cell? ⟨b, o, none⟩ = w.cell? ⟨b, o, none⟩ := fun o => World.cell?_of_block (a := ⟨b, o, none⟩) (Below.heap_setCell _ _ _ _ (fun e => hq e.symm))
  exact ⟨⟨(hk 0).trans x.1.1, (hk 1).trans x.1.2.1, (hk 2).trans x.1.2.2.1, (hk 3).trans x.1.2.2.2⟩, by have := x.2; simpa using this⟩
theorem EBox.new (w : World) (S : Int) (o t : Bool) (h : Int) (T : TypeId) : EBox (w.alloc (.cells #[.int .i64 S, .bool o, .bool t, .int .i64 h] T)) w.heap.size S o t h := by
  refine ⟨⟨?_, ?_, ?_, ?_⟩, ?_⟩
  · go_simp
  · go_simp
  · go_simp
  · go_simp
  · simp
theorem Fr4.new (w : World) (S : Int) (o t : Bool) (h : Int) (T : TypeId) : Fr4 (w.alloc (.cells #[.int .i64 S, .bool o, .bool t, .int .i64 h] T)) w.heap.size := by
  refine ⟨⟨?_, ?_, ?_, ?_⟩, ?_⟩
  · go_simp
  · go_simp
  · go_simp
  · go_simp
  · simp
theorem FBox.new (w : World) (p l m : Int) (T : TypeId) : FBox (w.alloc (.cells #[.int .i64 p, .int .i64 l, .int .i64 m] T)) w.heap.size p l m := by
  refine ⟨⟨?_, ?_, ?_⟩, ?_⟩
  · go_simp
  · go_simp
  · go_simp
  · simp
end

end Go.Proofs.YtnecnbonnidijaaDoor
