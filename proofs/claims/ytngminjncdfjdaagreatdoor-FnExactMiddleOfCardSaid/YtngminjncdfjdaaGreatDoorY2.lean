/- Texts of this seat, joined: Fl Fm Wa Wb Wc Bi Ia Ib Sf At Fo Fp Ka Kb Kc Kd -/
import Derived.Laws.FloatArith
import Derived.WalkKit
import Derived.WalkLawsBesides
import Derived.KernelRfl
import Derived.Test.YtngminjncdfjdaaGreatDoorChecked
import Derived.Tactics
import Derived.Tactics2
import Derived.StillTactics
import Derived.LoopTactic
import Derived.Lib.Hide
import Derived.Outline
import Derived.Laws.BitsAllLaws
import Derived.Laws.Externs
import Derived.Test.YtngminjncdfjdaaGreatDoorY1
import Derived.Laws.Bits64b
import Derived.Laws.BitsAll
import Derived.Deep.DrawnRows
/- Plain facts on binary floats as the model has them: rounding depends on the value alone; words of numbers that a format has are read back; doubling and halving are exact. -/
namespace Go.Proofs.YtngminjncdfjdaaGreatDoor
open Ieee

/-- two pairs tell one number -/
def SameVal (m : Nat) (p : Int) (n : Nat) (q : Int) : Prop := ∃ a b : Nat, m * 2 ^ a = n * 2 ^ b ∧ p - a = q - b

theorem SameVal.refl (m p) : SameVal m p m p := ⟨0, 0, rfl, rfl⟩
theorem SameVal.symm {m p n q} (h : SameVal m p n q) : SameVal n q m p := by
  obtain ⟨a, b, h1, h2⟩ := h; exact ⟨b, a, h1.symm, h2.symm⟩
theorem SameVal.trans {m p n q r s} (h : SameVal m p n q) (g : SameVal n q r s) : SameVal m p r s := by
  obtain ⟨a, b, h1, h2⟩ := h
  obtain ⟨c, d, g1, g2⟩ := g
  refine ⟨a + c, d + b, ?_, by omega⟩
  rw [Nat.pow_add, ← Nat.mul_assoc, h1, Nat.mul_assoc, Nat.mul_comm (2 ^ b), ← Nat.mul_assoc, g1, Nat.mul_assoc, ← Nat.pow_add]
theorem SameVal.shl (m : Nat) (p : Int) (k : Nat) : SameVal (m * 2 ^ k) p m (p + k) := ⟨0, k, by simp, by omega⟩
theorem SameVal.shl' (m : Nat) (p q : Int) (k : Nat) (h : q = p + k) : SameVal (m * 2 ^ k) p m q := by subst h; exact SameVal.shl m p k
theorem SameVal.add {m p n q} (k : Int) (h : SameVal m p n q) : SameVal m (p + k) n (q + k) := by
  obtain ⟨a, b, h1, h2⟩ := h; exact ⟨a, b, h1, by omega⟩
theorem SameVal.mul {m p n q r s t u} (h : SameVal m p n q) (g : SameVal r s t u) : SameVal (m * r) (p + s) (n * t) (q + u) := by
  obtain ⟨a, b, h1, h2⟩ := h
  obtain ⟨c, d, g1, g2⟩ := g
  refine ⟨a + c, b + d, ?_, by omega⟩
  rw [Nat.pow_add, Nat.pow_add, Nat.mul_mul_mul_comm, h1, g1, Nat.mul_mul_mul_comm]
theorem log2_shl (m k : Nat) (h : m ≠ 0) : (m * 2 ^ k).log2 = m.log2 + k := by
  have h0 : m * 2 ^ k ≠ 0 := Nat.mul_ne_zero h (Nat.pos_iff_ne_zero.1 (Nat.two_pow_pos k))
  rw [Nat.log2_eq_iff h0]
  have h1 := Nat.log2_self_le h
  have h2 := @Nat.lt_log2_self m
  constructor
  · rw [Nat.pow_add]; exact Nat.mul_le_mul_right _ h1
  · rw [show m.log2 + k + 1 = m.log2 + 1 + k by omega, Nat.pow_add (n := k)]
    exact Nat.mul_lt_mul_of_pos_right h2 (Nat.two_pow_pos k)

/-- rounding to even of n over 2^d, without the cut of great drops -/
def evenCut (n d : Nat) : Nat := n / 2 ^ d + (decide (2 ^ d < 2 * (n % 2 ^ d)) || (2 ^ d == 2 * (n % 2 ^ d) && n / 2 ^ d % 2 == 1)).toNat

theorem evenCut_great (n d : Nat) (h : n.log2 + 2 ≤ d) : evenCut n d = 0 := by
  have h1 := @Nat.lt_log2_self n
  have h2 : 2 ^ (n.log2 + 2) ≤ 2 ^ d := Nat.pow_le_pow_right (by omega) h
  have h3 : 2 ^ (n.log2 + 2) = 2 * 2 ^ (n.log2 + 1) := by rw [Nat.pow_succ, Nat.mul_comm]
  have h4 : n % 2 ^ d = n := Nat.mod_eq_of_lt (by omega)
  have h5 : n / 2 ^ d = 0 := Nat.div_eq_of_lt (by omega)
  unfold evenCut
  rw [h4, h5]
  have h6 : decide (2 ^ d < 2 * n) = false := by simp; omega
  have h7 : (2 ^ d == 2 * n) = false := by simp; omega
  simp [h6, h7]

theorem cut_even (neg : Bool) (n d : Nat) : Toward.even.cut neg n d = evenCut n d := by
  unfold Toward.cut
  simp only [Nat.one_shiftLeft]
  by_cases h : d ≤ n.log2 + 2
  · rw [Nat.min_eq_left h]; rfl
  · rw [Nat.min_eq_right (by omega), evenCut_great n d (by omega)]
    exact evenCut_great n (n.log2 + 2) (Nat.le_refl _)

theorem evenCut_shl (n d k : Nat) : evenCut (n * 2 ^ k) (d + k) = evenCut n d := by
  have hk := Nat.two_pow_pos k
  unfold evenCut
  rw [Nat.pow_add, Nat.mul_div_mul_right _ _ hk, Nat.mul_mod_mul_right]
  have e1 : decide (2 ^ d * 2 ^ k < 2 * (n % 2 ^ d * 2 ^ k)) = decide (2 ^ d < 2 * (n % 2 ^ d)) := by
    rw [← Nat.mul_assoc]
    simp only [decide_eq_decide]
    exact Nat.mul_lt_mul_right hk
  have e2 : (2 ^ d * 2 ^ k == 2 * (n % 2 ^ d * 2 ^ k)) = (2 ^ d == 2 * (n % 2 ^ d)) := by
    rw [← Nat.mul_assoc, Bool.eq_iff_iff]
    simp only [beq_iff_eq]
    exact Nat.mul_left_inj (by omega)
  rw [e1, e2]

theorem evenCut_zero (n : Nat) : evenCut n 0 = n := by
  unfold evenCut
  simp [Nat.mod_one]

theorem nearest_shl (f : Format) (neg : Bool) (m k : Nat) (p : Int) : f.nearest neg (m * 2 ^ k) p = f.nearest neg m (p + k) := by
  by_cases h : m = 0
  · subst h; simp [Format.nearest]
  have h0 : m * 2 ^ k ≠ 0 := Nat.mul_ne_zero h (Nat.pos_iff_ne_zero.1 (Nat.two_pow_pos k))
  unfold Format.nearest
  rw [if_neg h0, if_neg h]
  simp only [log2_shl m k h, cut_even]
  have e : p + ((m.log2 + k : Nat) : Int) - (f.fractionBits : Int) = p + k + m.log2 - f.fractionBits := by omega
  rw [e]
  generalize max (p + k + (m.log2 : Int) - f.fractionBits) f.leastPlace = last
  have e2 : evenCut ((m * 2 ^ k) <<< (p - last).toNat) (last - p).toNat = evenCut (m <<< (p + k - last).toNat) (last - (p + k)).toNat := by
    simp only [Nat.shiftLeft_eq]
    by_cases h1 : last ≤ p
    · have a1 : (last - p).toNat = 0 := by omega
      have a2 : (last - (p + k)).toNat = 0 := by omega
      have a3 : (p + k - last).toNat = (p - last).toNat + k := by omega
      rw [a1, a2, a3, Nat.pow_add, Nat.mul_assoc, Nat.mul_comm (2 ^ k)]
    · by_cases h2 : last ≤ p + k
      · obtain ⟨j, hj⟩ : ∃ j : Nat, (last - p).toNat = j := ⟨_, rfl⟩
        have a0 : (p - last).toNat = 0 := by omega
        have a2 : (last - (p + k)).toNat = 0 := by omega
        have a3 : (p + k - last).toNat = k - j := by omega
        have a4 : k = (k - j) + j := by omega
        rw [a0, a2, a3, hj]
        have : m * 2 ^ k * 2 ^ 0 = m * 2 ^ (k - j) * 2 ^ j := by
          rw [Nat.pow_zero, Nat.mul_one, Nat.mul_assoc, ← Nat.pow_add, ← a4]
        rw [this]
        have := evenCut_shl (m * 2 ^ (k - j)) 0 j
        rwa [Nat.zero_add] at this
      · have a0 : (p - last).toNat = 0 := by omega
        have a1 : (p + k - last).toNat = 0 := by omega
        have a3 : (last - p).toNat = (last - (p + k)).toNat + k := by omega
        rw [a0, a1, a3, Nat.pow_zero, Nat.mul_one, Nat.mul_one]
        exact evenCut_shl _ _ _
  rw [e2]

theorem nearest_same (f : Format) (neg : Bool) {m n : Nat} {p q : Int} (h : SameVal m p n q) : f.nearest neg m p = f.nearest neg n q := by
  obtain ⟨a, b, h1, h2⟩ := h
  have e1 := nearest_shl f neg m a (p - a)
  have e2 := nearest_shl f neg n b (q - b)
  rw [show p - (a : Int) + a = p by omega] at e1
  rw [show q - (b : Int) + b = q by omega] at e2
  rw [← e1, ← e2, h1, h2]

/-- the canonical form of a number of the format -/
structure Canon (f : Format) (m : Nat) (k : Nat) : Prop where
  lt : m < 2 * f.binade
  or : k = 0 ∨ f.binade ≤ m
  fin : k * f.binade + m < f.infRung

theorem binade_pos (f : Format) : 0 < f.binade := Nat.two_pow_pos _

theorem log2_binade (f : Format) {m : Nat} (h1 : f.binade ≤ m) (h2 : m < 2 * f.binade) : m.log2 = f.fractionBits := by
  have h0 : m ≠ 0 := by have := binade_pos f; omega
  rw [Nat.log2_eq_iff h0]
  unfold Format.binade at h1 h2
  rw [Nat.pow_succ]; omega

theorem nearest_canon' (f : Format) (neg : Bool) {m k : Nat} (lt : m < 2 * f.binade) (hor : k = 0 ∨ f.binade ≤ m) : f.nearest neg m (f.leastPlace + k) = f.word neg (min (k * f.binade + m) f.infRung) := by
  by_cases h0 : m = 0
  · subst h0
    have hb := binade_pos f
    have : k = 0 := by omega
    subst this
    simp [Format.nearest]
  unfold Format.nearest
  rw [if_neg h0]
  have hl : max (f.leastPlace + k + (m.log2 : Int) - f.fractionBits) f.leastPlace = f.leastPlace + k := by
    by_cases h : f.binade ≤ m
    · rw [log2_binade f h lt]; omega
    · have hk : k = 0 := by omega
      have : m.log2 < f.fractionBits := by
        rw [Nat.log2_lt h0]; unfold Format.binade at h; omega
      omega
  simp only [hl, cut_even]
  have a1 : (f.leastPlace + (k : Int) - (f.leastPlace + k)).toNat = 0 := by omega
  have a2 : (f.leastPlace + (k : Int) - f.leastPlace).toNat = k := by omega
  rw [a1, a2, Nat.shiftLeft_zero, evenCut_zero]

theorem Canon.nearest {f : Format} (neg : Bool) {m k : Nat} (h : Canon f m k) : f.nearest neg m (f.leastPlace + k) = f.word neg (k * f.binade + m) := by
  rw [nearest_canon' f neg h.lt h.or, Nat.min_eq_left (Nat.le_of_lt h.fin)]

theorem read_word_fin (f : Format) (neg : Bool) {m k : Nat} (h : Canon f m k) : f.read (f.word neg (k * f.binade + m)) = .number neg m (f.leastPlace + k) := by
  have hw := f.infRung_lt
  have hb := binade_pos f
  have hf := h.fin
  have hlt := h.lt
  have hor := h.or
  generalize hr : k * f.binade + m = r at hf
  have hrw : r < f.signWeight := by omega
  have e1 : (f.word neg r / f.signWeight % 2 == 1) = neg := by
    unfold Format.word
    cases neg
    · simp [Nat.div_eq_of_lt hrw]
    · simp only [if_true]
      rw [Nat.add_div_left _ (by omega), Nat.div_eq_of_lt hrw]; rfl
  have e2 : f.word neg r % f.signWeight = r := by
    unfold Format.word
    cases neg
    · simp [Nat.mod_eq_of_lt hrw]
    · simp [Nat.mod_eq_of_lt hrw]
  unfold Format.read
  simp only [e1, e2]
  by_cases h1 : r < f.binade
  · have hk : k = 0 := by
      rcases hor with h2 | h2
      · exact h2
      · omega
    subst hk
    rw [if_pos h1]
    simp at hr
    subst hr
    simp
  · rw [if_neg h1, if_pos hf]
    rcases Nat.lt_or_ge m f.binade with h2 | h2
    · have hk : k = 0 := by omega
      subst hk; omega
    · have e3 : r = (k + 1) * f.binade + (m - f.binade) := by rw [Nat.add_mul, ← hr]; omega
      have e4 : r % f.binade = m - f.binade := by
        rw [e3, Nat.mul_comm, Nat.mul_add_mod, Nat.mod_eq_of_lt (by omega)]
      have e5 : r / f.binade = k + 1 := by
        rw [e3, Nat.mul_comm, Nat.mul_add_div hb, Nat.div_eq_of_lt (by omega)]
      rw [e4, e5]
      congr 1
      omega

/-- a number that the format has: m 2^p -/
structure Repr (f : Format) (m : Nat) (p : Int) : Prop where
  lt : m < 2 * f.binade
  ge : f.leastPlace ≤ p
  fin : (p - f.leastPlace).toNat * f.binade + 2 * f.binade ≤ f.infRung

theorem Repr.canon {f : Format} {m : Nat} {p : Int} (h : Repr f m p) : ∃ m' k, Canon f m' k ∧ SameVal m' (f.leastPlace + k) m p := by
  have hb := binade_pos f
  have hlt := h.lt
  have hge := h.ge
  have hf := h.fin
  by_cases h0 : m = 0
  · subst h0
    refine ⟨0, 0, ⟨by omega, .inl rfl, by omega⟩, ⟨0, (p - f.leastPlace).toNat, by simp, by omega⟩⟩
  · by_cases h1 : f.binade ≤ m
    · refine ⟨m, (p - f.leastPlace).toNat, ⟨hlt, .inr h1, by omega⟩, ⟨0, 0, rfl, by omega⟩⟩
    · have hl : m.log2 < f.fractionBits := by
        rw [Nat.log2_lt h0]; unfold Format.binade at h1; omega
      have l1 := Nat.log2_self_le h0
      have l2 := @Nat.lt_log2_self m
      obtain ⟨a, ha⟩ : ∃ a, a = min (f.fractionBits - m.log2) (p - f.leastPlace).toNat := ⟨_, rfl⟩
      have up : m * 2 ^ a < 2 * f.binade := by
        have : m * 2 ^ a < 2 ^ (m.log2 + 1) * 2 ^ a := Nat.mul_lt_mul_of_pos_right l2 (Nat.two_pow_pos a)
        rw [← Nat.pow_add] at this
        have g : 2 ^ (m.log2 + 1 + a) ≤ 2 ^ (f.fractionBits + 1) := Nat.pow_le_pow_right (by omega) (by omega)
        unfold Format.binade
        rw [Nat.pow_succ] at g
        omega
      refine ⟨m * 2 ^ a, (p - f.leastPlace).toNat - a, ⟨up, ?_, ?_⟩, ?_⟩
      · by_cases h3 : a = (p - f.leastPlace).toNat
        · left; omega
        · right
          have h4 : a = f.fractionBits - m.log2 := by omega
          have : 2 ^ m.log2 * 2 ^ a ≤ m * 2 ^ a := Nat.mul_le_mul_right _ l1
          rw [← Nat.pow_add, show m.log2 + a = f.fractionBits by omega] at this
          exact this
      · have : ((p - f.leastPlace).toNat - a) * f.binade ≤ (p - f.leastPlace).toNat * f.binade := Nat.mul_le_mul_right _ (by omega)
        omega
      · exact SameVal.shl' _ _ _ _ (by omega)

/-- what the word of a number that the format has is read as -/
theorem Repr.read {f : Format} {m : Nat} {p : Int} (neg : Bool) (h : Repr f m p) : ∃ m' p', f.read (f.nearest neg m p) = .number neg m' p' ∧ SameVal m' p' m p ∧ m' < 2 * f.binade := by
  obtain ⟨m', k, hc, hs⟩ := h.canon
  refine ⟨m', f.leastPlace + k, ?_, hs, hc.lt⟩
  rw [← nearest_same f neg hs, hc.nearest]
  exact read_word_fin f neg hc


/-! ### order, whole numbers, double and single -/

theorem signed_eq (s : Bool) (m u : Nat) : signed s m u = (if s then -1 else 1) * ((m : Int) * 2 ^ u) := by
  unfold signed
  rw [Nat.shiftLeft_eq]
  cases s <;> simp [Int.natCast_mul]

theorem signed_add (s : Bool) (m u v : Nat) : signed s m (u + v) = signed s m u * 2 ^ v := by
  rw [signed_eq, signed_eq, Int.pow_add]
  rw [Int.mul_assoc, Int.mul_assoc]

theorem signed_shl (s : Bool) (m k u : Nat) : signed s (m * 2 ^ k) u = signed s m (k + u) := by
  rw [signed_eq, signed_eq, Int.pow_add]
  simp [Int.natCast_mul, Int.mul_assoc]

theorem compare_scale (a b : Int) (k : Nat) : compare (a * 2 ^ k) (b * 2 ^ k) = compare a b := by
  have h : (0 : Int) < 2 ^ k := Int.pow_pos (by omega)
  rcases Int.lt_trichotomy a b with h1 | h1 | h1
  · have h2 : a * 2 ^ k < b * 2 ^ k := Int.mul_lt_mul_of_pos_right h1 h
    rw [Int.compare_eq_lt.2 h1, Int.compare_eq_lt.2 h2]
  · subst h1; simp
  · have h2 : b * 2 ^ k < a * 2 ^ k := Int.mul_lt_mul_of_pos_right h1 h
    rw [Int.compare_eq_gt.2 h1, Int.compare_eq_gt.2 h2]

theorem order_num (s t : Bool) (m n : Nat) (i j L : Int) (hi : L ≤ i) (hj : L ≤ j) :
    (Datum.number s m i).order (.number t n j) = some (compare (signed s m (i - L).toNat) (signed t n (j - L).toNat)) := by
  unfold Datum.order
  simp only [Option.some.injEq]
  have e1 : (i - L).toNat = (i - min i j).toNat + (min i j - L).toNat := by omega
  have e2 : (j - L).toNat = (j - min i j).toNat + (min i j - L).toNat := by omega
  rw [e1, e2, signed_add, signed_add, compare_scale]

theorem signed_same {m n : Nat} {p q : Int} (s : Bool) (h : SameVal m p n q) (L : Int) (h1 : L ≤ p) (h2 : L ≤ q) : signed s m (p - L).toNat = signed s n (q - L).toNat := by
  obtain ⟨a, b, e1, e2⟩ := h
  have pos : (0 : Int) < 2 ^ (a + b) := Int.pow_pos (by omega)
  have g : signed s m (p - L).toNat * 2 ^ (a + b) = signed s n (q - L).toNat * 2 ^ (a + b) := by
    rw [← signed_add, ← signed_add]
    have x1 := signed_shl s m a ((p - L).toNat + b)
    have x2 := signed_shl s n b ((q - L).toNat + a)
    rw [show a + ((p - L).toNat + b) = (p - L).toNat + (a + b) by omega] at x1
    rw [show b + ((q - L).toNat + a) = (q - L).toNat + (a + b) by omega] at x2
    rw [← x1, ← x2, e1]
    congr 1
    omega
  exact Int.eq_of_mul_eq_mul_right (by omega) g

theorem order_same {m n m' n' : Nat} {p q p' q' : Int} (s t : Bool) (h : SameVal m p m' p') (g : SameVal n q n' q') :
    (Datum.number s m p).order (.number t n q) = (Datum.number s m' p').order (.number t n' q') := by
  obtain ⟨L, hL⟩ : ∃ L : Int, L = min (min p p') (min q q') := ⟨_, rfl⟩
  rw [order_num s t m n p q L (by omega) (by omega), order_num s t m' n' p' q' L (by omega) (by omega),
    signed_same s h L (by omega) (by omega), signed_same t g L (by omega) (by omega)]

theorem cut_zero_whole (s : Bool) (M d : Nat) : Toward.zero.cut s (M * 2 ^ d) d = M := by
  unfold Toward.cut
  simp only [Nat.one_shiftLeft, Bool.toNat_false, Nat.add_zero]
  by_cases h : d ≤ (M * 2 ^ d).log2 + 2
  · rw [Nat.min_eq_left h, Nat.mul_div_cancel _ (Nat.two_pow_pos d)]
  · by_cases h0 : M = 0
    · subst h0; simp
    · rw [log2_shl M d h0] at h; omega

theorem toInt_same (s : Bool) {m M : Nat} {p : Int} (h : SameVal m p M 0) : (Datum.number s m p).toInt .zero = some (if s then -(M : Int) else M) := by
  unfold Datum.toInt Datum.integral
  simp only
  have key : Toward.zero.cut s (m <<< p.toNat) (-p).toNat = M := by
    obtain ⟨a, b, e1, e2⟩ := h
    rw [Nat.shiftLeft_eq]
    have e3 : m * 2 ^ p.toNat = M * 2 ^ (-p).toNat := by
      by_cases hp : 0 ≤ p
      · have x : b + p.toNat = a := by omega
        have y : (-p).toNat = 0 := by omega
        rw [← x, Nat.pow_add, Nat.mul_comm (2 ^ b), ← Nat.mul_assoc] at e1
        have z := Nat.eq_of_mul_eq_mul_right (Nat.two_pow_pos b) e1
        rw [y, z, Nat.pow_zero, Nat.mul_one]
      · have x : b = a + (-p).toNat := by omega
        have y : p.toNat = 0 := by omega
        rw [x, Nat.pow_add, Nat.mul_comm (2 ^ a), ← Nat.mul_assoc] at e1
        have z := Nat.eq_of_mul_eq_mul_right (Nat.two_pow_pos a) e1
        rw [y, z, Nat.pow_zero, Nat.mul_one]
    rw [e3, cut_zero_whole]
  rw [key]
  simp [signed]

/-- the word of a double -/
def d64 (s : Bool) (m : Nat) (p : Int) : Nat := Ieee.double.nearest s m p
/-- the word of a single -/
def s32 (s : Bool) (m : Nat) (p : Int) : Nat := Ieee.single.nearest s m p

theorem double_binade : Ieee.double.binade = 4503599627370496 := by decide
theorem double_least : Ieee.double.leastPlace = -1074 := by decide
theorem double_inf : Ieee.double.infRung = 9218868437227405312 := by decide
theorem single_binade : Ieee.single.binade = 8388608 := by decide
theorem single_least : Ieee.single.leastPlace = -149 := by decide
theorem single_inf : Ieee.single.infRung = 2139095040 := by decide
theorem single_sign : Ieee.single.signWeight = 2147483648 := by decide

theorem repr64 {m : Nat} {p : Int} (h1 : m < 9007199254740992) (h2 : -1074 ≤ p) (h3 : p ≤ 971) : Repr Ieee.double m p :=
  ⟨by rw [double_binade]; omega, by rw [double_least]; omega, by rw [double_least, double_binade, double_inf]; omega⟩
theorem repr32 {m : Nat} {p : Int} (h1 : m < 16777216) (h2 : -149 ≤ p) (h3 : p ≤ 104) : Repr Ieee.single m p :=
  ⟨by rw [single_binade]; omega, by rw [single_least]; omega, by rw [single_least, single_binade, single_inf]; omega⟩

theorem d64_same (s : Bool) {m n : Nat} {p q : Int} (h : SameVal m p n q) : d64 s m p = d64 s n q := nearest_same _ s h
theorem s32_same (s : Bool) {m n : Nat} {p q : Int} (h : SameVal m p n q) : s32 s m p = s32 s n q := nearest_same _ s h

theorem read64 (s : Bool) {m : Nat} {p : Int} (h1 : m < 9007199254740992) (h2 : -1074 ≤ p) (h3 : p ≤ 971) :
    ∃ m' p', Ieee.double.read (d64 s m p) = .number s m' p' ∧ SameVal m' p' m p ∧ m' < 9007199254740992 := by
  have := (repr64 h1 h2 h3).read s
  rw [double_binade] at this
  exact this

theorem read_two64 : Ieee.double.read 4611686018427387904 = .number false 4503599627370496 (-51) := by decide +kernel

theorem mul_two (s : Bool) {m : Nat} {p : Int} (h1 : m < 9007199254740992) (h2 : -1074 ≤ p) (h3 : p ≤ 971) :
    floatBits .mul .f64 (d64 s m p) 4611686018427387904 = some (d64 s m (p + 1)) := by
  obtain ⟨m', p', e, hs, _⟩ := read64 s h1 h2 h3
  show Ieee.double.mul _ _ = _
  unfold Format.mul
  rw [e, read_two64]
  show some (Format.nearest _ _ _ _) = _
  congr 1
  rw [Bool.xor_false]
  refine nearest_same _ s ?_
  have k1 : SameVal 4503599627370496 (-51) 1 1 := ⟨0, 52, by decide, by omega⟩
  have := hs.mul k1
  rwa [Nat.mul_one] at this

theorem div_two (s : Bool) {m : Nat} {p : Int} (h1 : m < 9007199254740992) (h2 : -1074 ≤ p) (h3 : p ≤ 971) :
    floatBits .quo .f64 (d64 s m p) 4611686018427387904 = some (d64 s m (p - 1)) := by
  obtain ⟨m', p', e, hs, hlt⟩ := read64 s h1 h2 h3
  show Ieee.double.div _ _ = _
  unfold Format.div
  rw [e, read_two64]
  unfold Datum.quotient
  have l52 : Nat.log2 4503599627370496 = 52 := by decide
  simp only [l52]
  rw [if_neg (by decide)]
  show some (Format.nearest _ _ _ _) = _
  congr 1
  rw [Bool.xor_false]
  refine nearest_same _ s ?_
  have hl : m'.log2 ≤ 52 := by
    by_cases h0 : m' = 0
    · subst h0; decide
    · have := (Nat.log2_lt h0 (k := 53)).2 hlt; omega
  have f52 : Ieee.double.fractionBits = 52 := rfl
  rw [f52]
  have hk : m' <<< (52 + 2 + 52 - m'.log2) = (m' * 2 ^ (54 - m'.log2)) * 4503599627370496 := by
    rw [Nat.shiftLeft_eq, show 52 + 2 + 52 - m'.log2 = (54 - m'.log2) + 52 by omega, Nat.pow_add, ← Nat.mul_assoc]
  rw [hk, Nat.mul_div_cancel _ (by decide), Nat.mul_mod_left]
  have : SameVal (2 * (m' * 2 ^ (54 - m'.log2)) + (0 != 0 : Bool).toNat) (p' - -51 - ((52 + 2 + 52 - m'.log2 : Nat) : Int) - 1) m' (p' - 1) := by
    refine ⟨0, 55 - m'.log2, ?_, by omega⟩
    rw [show 55 - m'.log2 = 54 - m'.log2 + 1 by omega, Nat.pow_succ]
    simp [Nat.mul_comm, Nat.mul_left_comm]
  exact this.trans (by have := hs.add (-1); exact this)

/-- the mantissa and the exponent (from -149 on) of a rung of a single -/
def mant (r : Nat) : Nat := if r < 8388608 then r else 8388608 + r % 8388608
def expo (r : Nat) : Nat := if r < 8388608 then 0 else r / 8388608 - 1

theorem mant_lt (r : Nat) : mant r < 16777216 := by unfold mant; split <;> omega
theorem expo_le (r : Nat) (h : r < 2139095040) : expo r ≤ 253 := by unfold expo; split <;> omega
theorem expo_mant (r : Nat) : expo r * 8388608 + mant r = r := by unfold expo mant; split <;> omega
theorem mant_or (r : Nat) : expo r = 0 ∨ 8388608 ≤ mant r := by unfold expo mant; split <;> omega
theorem mant_zero (r : Nat) : mant r = 0 ↔ r = 0 := by unfold mant; split <;> omega
theorem canon32 (r : Nat) (h : r < 2139095040) : Canon Ieee.single (mant r) (expo r) :=
  ⟨by rw [single_binade]; have := mant_lt r; omega, by rw [single_binade]; exact mant_or r, by rw [single_binade, single_inf, expo_mant]; exact h⟩

theorem word32 (b : Nat) (hb : b < 4294967296) : Ieee.single.word (decide (2147483648 ≤ b)) (b % 2147483648) = b := by
  unfold Format.word
  rw [single_sign]
  by_cases h : 2147483648 ≤ b
  · simp [h]; omega
  · simp [h]; omega

theorem s32_rung (s : Bool) (r : Nat) (h : r < 2139095040) : s32 s (mant r) (-149 + expo r) = Ieee.single.word s r := by
  have := (canon32 r h).nearest s
  rw [single_binade, expo_mant, single_least] at this
  exact this

theorem read32 (b : Nat) (hb : b < 4294967296) (h : b % 2147483648 < 2139095040) :
    Ieee.single.read b = .number (decide (2147483648 ≤ b)) (mant (b % 2147483648)) (-149 + expo (b % 2147483648)) := by
  have := read_word_fin Ieee.single (decide (2147483648 ≤ b)) (canon32 _ h)
  rw [single_binade, expo_mant, single_least, word32 b hb] at this
  exact this

theorem read32_inf (b : Nat) (hb : b < 4294967296) (h : b % 2147483648 = 2139095040) : Ieee.single.read b = .infinity (decide (2147483648 ≤ b)) := by
  unfold Format.read
  simp only [single_sign, single_binade, single_inf]
  rw [h]
  have : (b / 2147483648 % 2 == 1) = decide (2147483648 ≤ b) := by
    rw [Bool.eq_iff_iff]; simp; omega
  simp [this]

theorem read32_nan (b : Nat) (h : 2139095040 < b % 2147483648) : ∃ s t, Ieee.single.read b = .nan s t := by
  refine ⟨b / 2147483648 % 2 == 1, b % 2147483648 - 2139095040, ?_⟩
  unfold Format.read
  simp only [single_sign, single_binade, single_inf]
  rw [if_neg (by omega), if_neg (by omega), if_neg (by omega)]

/-- not a number -/
def nan32 (b : Nat) : Bool := decide (2139095040 < b % 2147483648)
def fin32 (b : Nat) : Bool := decide (b % 2147483648 < 2139095040)
def neg32 (b : Nat) : Bool := decide (2147483648 ≤ b)

/-- the place of a float that is not NaN -/
def place32 (b : Nat) : Int := if decide (2147483648 ≤ b) = true then -((b % 2147483648 : Nat) : Int) else ((b % 2147483648 : Nat) : Int)

end Go.Proofs.YtngminjncdfjdaaGreatDoor
/- Plain facts on floats of 32 bits: comparing is comparing places; what x - x, -x, x * -1 and conversions give. -/
namespace Go.Proofs.YtngminjncdfjdaaGreatDoor
open Ieee

theorem mag_lt {r r' : Nat} (h : r < r') : mant r * 2 ^ expo r < mant r' * 2 ^ expo r' := by
  have l1 := mant_lt r
  have o1 := mant_or r
  have o2 := mant_or r'
  have e1 := expo_mant r
  have e2 := expo_mant r'
  rcases Nat.lt_trichotomy (expo r) (expo r') with h1 | h1 | h1
  · have a : mant r * 2 ^ expo r < 16777216 * 2 ^ expo r := Nat.mul_lt_mul_of_pos_right l1 (Nat.two_pow_pos _)
    have b : 2 ^ (expo r + 1) ≤ 2 ^ expo r' := Nat.pow_le_pow_right (by omega) h1
    have c : 8388608 * 2 ^ expo r' ≤ mant r' * 2 ^ expo r' := Nat.mul_le_mul_right _ (by omega)
    rw [Nat.pow_succ] at b
    omega
  · rw [← h1] at e2 ⊢
    exact Nat.mul_lt_mul_of_pos_right (by omega) (Nat.two_pow_pos _)
  · exfalso
    have := mant_lt r'
    have : expo r' * 8388608 + 8388608 ≤ expo r * 8388608 := by omega
    omega

theorem mag_cmp (r r' : Nat) : compare ((mant r : Int) * 2 ^ expo r) ((mant r' : Int) * 2 ^ expo r') = compare (r : Int) (r' : Int) := by
  rcases Nat.lt_trichotomy r r' with h | h | h
  · have := mag_lt h
    rw [Int.compare_eq_lt.2 (by omega : (r : Int) < r'), Int.compare_eq_lt.2]
    exact_mod_cast this
  · subst h; simp
  · have := mag_lt h
    rw [Int.compare_eq_gt.2 (by omega : (r' : Int) < r), Int.compare_eq_gt.2]
    exact_mod_cast this

/-- the magnitude of a rung in units of the least float, with its sign -/
theorem order_rungs (s t : Bool) (r r' : Nat) :
    (Datum.number s (mant r) (-149 + expo r)).order (.number t (mant r') (-149 + expo r')) = some (compare (if s then -(r : Int) else r) (if t then -(r' : Int) else r')) := by
  rw [order_num s t _ _ _ _ (-149) (by omega) (by omega)]
  congr 1
  rw [show ((-149 + (expo r : Int)) - -149).toNat = expo r by omega, show ((-149 + (expo r' : Int)) - -149).toNat = expo r' by omega]
  rw [signed_eq, signed_eq]
  have c := mag_cmp r r'
  have c' := mag_cmp r' r
  have z : (0 : Int) ≤ (mant r : Int) * 2 ^ expo r := Int.mul_nonneg (by omega) (Int.le_of_lt (Int.pow_pos (by omega)))
  have z' : (0 : Int) ≤ (mant r' : Int) * 2 ^ expo r' := Int.mul_nonneg (by omega) (Int.le_of_lt (Int.pow_pos (by omega)))
  have q : (mant r : Int) * 2 ^ expo r = 0 ↔ r = 0 := by
    rw [← mant_zero r]
    have : (2 : Int) ^ expo r ≠ 0 := Int.ne_of_gt (Int.pow_pos (by omega))
    rw [Int.mul_eq_zero]; omega
  have q' : (mant r' : Int) * 2 ^ expo r' = 0 ↔ r' = 0 := by
    rw [← mant_zero r']
    have : (2 : Int) ^ expo r' ≠ 0 := Int.ne_of_gt (Int.pow_pos (by omega))
    rw [Int.mul_eq_zero]; omega
  generalize (mant r : Int) * 2 ^ expo r = M at *
  generalize (mant r' : Int) * 2 ^ expo r' = M' at *
  cases s <;> cases t <;> simp
  · exact c
  · by_cases h : r = 0 ∧ r' = 0
    · obtain ⟨rfl, rfl⟩ := h
      have : M = 0 := q.2 rfl
      have : M' = 0 := q'.2 rfl
      subst_vars; rfl
    · rw [Int.compare_eq_gt.2 (by omega), Int.compare_eq_gt.2 (by omega)]
  · by_cases h : r = 0 ∧ r' = 0
    · obtain ⟨rfl, rfl⟩ := h
      have : M = 0 := q.2 rfl
      have : M' = 0 := q'.2 rfl
      subst_vars; rfl
    · rw [Int.compare_eq_lt.2 (by omega), Int.compare_eq_lt.2 (by omega)]
  · rcases Int.lt_trichotomy M M' with h | h | h
    · rw [Int.compare_eq_lt.2 h] at c
      have := Int.compare_eq_lt.1 c.symm
      rw [Int.compare_eq_gt.2 (by omega), Int.compare_eq_gt.2 (by omega)]
    · rw [Int.compare_eq_eq.2 h] at c
      have := Int.compare_eq_eq.1 c.symm
      rw [Int.compare_eq_eq.2 (by omega), Int.compare_eq_eq.2 (by omega)]
    · rw [Int.compare_eq_gt.2 h] at c
      have := Int.compare_eq_gt.1 c.symm
      rw [Int.compare_eq_lt.2 (by omega), Int.compare_eq_lt.2 (by omega)]

/-- COMPARING FLOATS IS COMPARING THEIR PLACES -/
theorem order32 (b c : Nat) (hb : b < 4294967296) (hc : c < 4294967296) (nb : nan32 b = false) (nc : nan32 c = false) : Ieee.single.order b c = some (compare (place32 b) (place32 c)) := by
  unfold nan32 at nb nc
  simp at nb nc
  have pb : place32 b = if decide (2147483648 ≤ b) = true then -((b % 2147483648 : Nat) : Int) else ((b % 2147483648 : Nat) : Int) := rfl
  have pc : place32 c = if decide (2147483648 ≤ c) = true then -((c % 2147483648 : Nat) : Int) else ((c % 2147483648 : Nat) : Int) := rfl
  unfold Format.order
  rcases Nat.lt_or_eq_of_le nb with h1 | h1 <;> rcases Nat.lt_or_eq_of_le nc with h2 | h2
  · rw [read32 b hb h1, read32 c hc h2, order_rungs, ← pb, ← pc]
  · rw [read32 b hb h1, read32_inf c hc h2, pb, pc, h2]
    unfold Datum.order
    simp only [Option.some.injEq]
    by_cases x : 2147483648 ≤ c
    · rw [decide_eq_true x]
      simp only [if_true]
      rw [Int.compare_eq_gt.2]
      split <;> omega
    · rw [decide_eq_false x]
      simp only [Bool.false_eq_true, if_false]
      rw [Int.compare_eq_lt.2]
      split <;> omega
  · rw [read32_inf b hb h1, read32 c hc h2, pb, pc, h1]
    unfold Datum.order
    simp only [Option.some.injEq]
    by_cases x : 2147483648 ≤ b
    · rw [decide_eq_true x]
      simp only [if_true]
      rw [Int.compare_eq_lt.2]
      split <;> omega
    · rw [decide_eq_false x]
      simp only [Bool.false_eq_true, if_false]
      rw [Int.compare_eq_gt.2]
      split <;> omega
  · rw [read32_inf b hb h1, read32_inf c hc h2, pb, pc, h1, h2]
    unfold Datum.order
    simp only [Option.some.injEq]
    by_cases x : 2147483648 ≤ b <;> by_cases y : 2147483648 ≤ c <;> simp [x, y] <;> decide

theorem order32_nan (b c : Nat) (h : nan32 b = true ∨ nan32 c = true) : Ieee.single.order b c = none := by
  unfold Format.order
  rcases h with h | h
  · obtain ⟨s, t, e⟩ := read32_nan b (by simpa [nan32] using h)
    rw [e]; rfl
  · obtain ⟨s, t, e⟩ := read32_nan c (by simpa [nan32] using h)
    rw [e]; cases Ieee.single.read b <;> rfl

theorem cmp_lt (a b : Int) : (some (compare a b) == some Ordering.lt) = decide (a < b) := by
  rcases Int.lt_trichotomy a b with h | h | h
  · rw [Int.compare_eq_lt.2 h]; simp [h]
  · subst h; simp
  · rw [Int.compare_eq_gt.2 h]
    have : ¬ a < b := by omega
    simp [this]
theorem cmp_gt (a b : Int) : (some (compare a b) == some Ordering.gt) = decide (b < a) := by
  rcases Int.lt_trichotomy a b with h | h | h
  · rw [Int.compare_eq_lt.2 h]
    have : ¬ b < a := by omega
    simp [this]
  · subst h; simp
  · rw [Int.compare_eq_gt.2 h]; simp [h]
theorem cmp_eq (a b : Int) : (some (compare a b) == some Ordering.eq) = decide (a = b) := by
  rcases Int.lt_trichotomy a b with h | h | h
  · rw [Int.compare_eq_lt.2 h]
    have : ¬ a = b := by omega
    simp [this]
  · subst h; simp
  · rw [Int.compare_eq_gt.2 h]
    have : ¬ a = b := by omega
    simp [this]

/-- in the walk's spelling -/
theorem lt32 (b c : Nat) (hb : b < 4294967296) (hc : c < 4294967296) (nb : nan32 b = false) (nc : nan32 c = false) : (FloatKind.f32.format.order b c == some .lt) = decide (place32 b < place32 c) := by
  show (Ieee.single.order b c == some .lt) = _
  rw [order32 b c hb hc nb nc, cmp_lt]
theorem gt32 (b c : Nat) (hb : b < 4294967296) (hc : c < 4294967296) (nb : nan32 b = false) (nc : nan32 c = false) : (FloatKind.f32.format.order b c == some .gt) = decide (place32 c < place32 b) := by
  show (Ieee.single.order b c == some .gt) = _
  rw [order32 b c hb hc nb nc, cmp_gt]
theorem eq32 (b c : Nat) (hb : b < 4294967296) (hc : c < 4294967296) (nb : nan32 b = false) (nc : nan32 c = false) : (FloatKind.f32.format.order b c == some .eq) = decide (place32 b = place32 c) := by
  show (Ieee.single.order b c == some .eq) = _
  rw [order32 b c hb hc nb nc, cmp_eq]
theorem nan32_cmp (b c : Nat) (o : Ordering) (h : nan32 b = true ∨ nan32 c = true) : (FloatKind.f32.format.order b c == some o) = false := by
  show (Ieee.single.order b c == some o) = _
  rw [order32_nan b c h]; rfl
theorem self32 (b : Nat) (hb : b < 4294967296) : (FloatKind.f32.format.order b b == some .eq) = !nan32 b := by
  by_cases h : nan32 b = true
  · rw [nan32_cmp b b _ (.inl h), h]; rfl
  · have h' : nan32 b = false := by simpa using h
    rw [eq32 b b hb hb h' h', h']; simp
theorem ne32 (b : Nat) (hb : b < 4294967296) : (FloatKind.f32.format.order b b != some .eq) = nan32 b := by
  unfold bne; rw [self32 b hb, Bool.not_not]

theorem negFloat32 (b : Nat) (hb : b < 4294967296) : Op.negFloat .f32 b = if 2147483648 ≤ b then b - 2147483648 else b + 2147483648 := by
  show b ^^^ 2 ^ 31 = _
  have e1 := @Nat.xor_mod_two_pow b (2 ^ 31) 31
  have e2 := @Nat.xor_div_two_pow b (2 ^ 31) 31
  have e3 := Nat.div_add_mod (b ^^^ 2 ^ 31) (2 ^ 31)
  rw [e1, e2, Nat.mod_self, Nat.xor_zero, Nat.div_self (by decide)] at e3
  split
  · rename_i h
    have : b / 2 ^ 31 = 1 := by omega
    rw [this, show (1 ^^^ 1 : Nat) = 0 from rfl] at e3
    omega
  · rename_i h
    have : b / 2 ^ 31 = 0 := by omega
    rw [this, show (0 ^^^ 1 : Nat) = 1 from rfl] at e3
    omega

/-- the NaN that the tape gives -/
def nanOf (w : World) (x y : Nat) : Nat := (Question.nanBits .f32 x y).cut (w.tape w.drawn (.nanBits .f32 x y))
theorem nanOf_nan (w : World) (x y : Nat) : nan32 (nanOf w x y) = true := by
  unfold nanOf Question.cut nan32
  simp only [decide_eq_true_eq]
  have : (w.tape w.drawn (Question.nanBits .f32 x y) / 2) % (2 ^ 23 - 1) < 2 ^ 23 - 1 := Nat.mod_lt _ (by decide)
  generalize (w.tape w.drawn (Question.nanBits .f32 x y) / 2) % (2 ^ 23 - 1) = u at *
  generalize w.tape w.drawn (Question.nanBits .f32 x y) = v at *
  rcases Nat.mod_two_eq_zero_or_one v with h | h <;> rw [h] <;> omega
theorem run_nan32 {P : Program} (w : World) (op : BinOp) (hop : op = .add ∨ op = .sub ∨ op = .mul ∨ op = .quo) (t : TypeId) (x y : Nat) (h : floatBits op .f32 x y = none) :
    (binOp op t (.float .f32 x) (.float .f32 y)).run P w = .ok (.float .f32 (nanOf w x y)) w.drew := by
  unfold floatBits at h
  rcases hop with rfl | rfl | rfl | rfl <;> simp only at h <;> simp [binOp, Op.floatArith, h, Question.forced, nanOf]

theorem fin_nan {b : Nat} (h : fin32 b = true) : nan32 b = false := by
  unfold fin32 at h; unfold nan32; simp at h ⊢; omega

theorem sub_self_fin (b : Nat) (hb : b < 4294967296) (h : fin32 b = true) : floatBits .sub .f32 b b = some 0 := by
  show Ieee.single.sub b b = _
  unfold Format.sub
  rw [read32 b hb (by simpa [fin32] using h)]
  unfold Datum.opposite Datum.sum
  simp only
  rw [signed_eq, signed_eq]
  have : ∀ s : Bool, (if s = true then (-1 : Int) else 1) * (mant (b % 2147483648) * 2 ^ (-149 + (expo (b % 2147483648) : Int) - min (-149 + (expo (b % 2147483648) : Int)) (-149 + (expo (b % 2147483648) : Int))).toNat) + (if (!s) = true then (-1 : Int) else 1) * (mant (b % 2147483648) * 2 ^ (-149 + (expo (b % 2147483648) : Int) - min (-149 + (expo (b % 2147483648) : Int)) (-149 + (expo (b % 2147483648) : Int))).toNat) = 0 := by
    intro s; cases s <;> simp <;> omega
  rw [this]
  simp only [if_true, Bool.and_not_self, Int.natAbs_zero, Option.map_some]
  rfl
theorem sub_self_not (b : Nat) (hb : b < 4294967296) (h : fin32 b = false) : floatBits .sub .f32 b b = none := by
  show Ieee.single.sub b b = _
  unfold Format.sub
  by_cases hn : nan32 b = true
  · obtain ⟨s, t, e⟩ := read32_nan b (by simpa [nan32] using hn)
    rw [e]; rfl
  · have h1 : b % 2147483648 = 2139095040 := by unfold fin32 at h; unfold nan32 at hn; simp at h hn; omega
    rw [read32_inf b hb h1]
    cases decide (2147483648 ≤ b) <;> rfl

theorem fin_d64 (s : Bool) {m : Nat} {p : Int} (h1 : m < 9007199254740992) (h2 : -1074 ≤ p) (h3 : p ≤ 971) : (Ieee.double.read (d64 s m p)).isInfinity = false := by
  obtain ⟨m', p', e, _⟩ := read64 s h1 h2 h3
  rw [e]; rfl

theorem conv_3264 (b : Nat) (hb : b < 4294967296) (h : fin32 b = true) : floatToFloatBits .f32 b .f64 = some (d64 (neg32 b) (mant (b % 2147483648)) (-149 + expo (b % 2147483648))) := by
  have hf : b % 2147483648 < 2139095040 := by simpa [fin32] using h
  unfold floatToFloatBits
  rw [if_neg (by decide)]
  have e : FloatKind.f32.decode b = _ := read32 b hb hf
  rw [e]
  simp only
  have l1 := mant_lt (b % 2147483648)
  have l2 := expo_le _ hf
  have := fin_d64 (decide (2147483648 ≤ b)) (m := mant (b % 2147483648)) (p := -149 + expo (b % 2147483648)) (by omega) (by omega) (by omega)
  rw [if_neg]
  · rfl
  · show ¬ (Ieee.double.read (d64 (decide (2147483648 ≤ b)) (mant (b % 2147483648)) (-149 + expo (b % 2147483648)))).isInfinity = true
    rw [this]; decide

theorem conv_6432' (s : Bool) {m : Nat} {p : Int} (h1 : m < 9007199254740992) (h2 : -1074 ≤ p) (h3 : p ≤ 971) (hi : (Ieee.single.read (s32 s m p)).isInfinity = false) :
    floatToFloatBits .f64 (d64 s m p) .f32 = some (s32 s m p) := by
  obtain ⟨m', p', e, hs, _⟩ := read64 s h1 h2 h3
  unfold floatToFloatBits
  rw [if_neg (by decide)]
  have e' : FloatKind.f64.decode (d64 s m p) = _ := e
  rw [e']
  simp only
  have x : FloatKind.f32.encode (Datum.number s m' p') = s32 s m p := s32_same s hs
  rw [x, if_neg]
  show ¬ (Ieee.single.read (s32 s m p)).isInfinity = true
  rw [hi]; decide

theorem conv_6432 (s : Bool) {m : Nat} {p : Int} (h1 : m < 16777216) (h2 : -149 ≤ p) (h3 : p ≤ 104) : floatToFloatBits .f64 (d64 s m p) .f32 = some (s32 s m p) := by
  refine conv_6432' s (by omega) (by omega) (by omega) ?_
  obtain ⟨m', p', e, _⟩ := (repr32 h1 h2 h3).read s
  unfold s32
  rw [e]; rfl

theorem int_64 (s : Bool) {m M : Nat} {p : Int} (h1 : m < 9007199254740992) (h2 : -1074 ≤ p) (h3 : p ≤ 971) (hs : SameVal m p M 0) (hM : M < 4611686018427387904) :
    floatToIntVal .f64 (d64 s m p) .i64 = some (if s then -(M : Int) else M) := by
  obtain ⟨m', p', e, hs', _⟩ := read64 s h1 h2 h3
  unfold floatToIntVal
  have e' : FloatKind.f64.decode (d64 s m p) = _ := e
  rw [e', toInt_same s (hs'.trans hs)]
  simp only
  rw [if_pos]
  constructor
  · show (-9223372036854775808 : Int) ≤ _
    split <;> omega
  · show _ ≤ (9223372036854775807 : Int)
    split <;> omega

theorem order64 (s t : Bool) {m n : Nat} {p q : Int} (h1 : m < 9007199254740992) (h2 : -1074 ≤ p) (h3 : p ≤ 971) (g1 : n < 9007199254740992) (g2 : -1074 ≤ q) (g3 : q ≤ 971) :
    Ieee.double.order (d64 s m p) (d64 t n q) = (Datum.number s m p).order (.number t n q) := by
  obtain ⟨m', p', e, hs, _⟩ := read64 s h1 h2 h3
  obtain ⟨n', q', e', hs', _⟩ := read64 t g1 g2 g3
  unfold Format.order
  rw [e, e', order_same s t hs hs']

theorem k24 : (4715268809856909312 : Nat) = d64 false 16777216 0 := by decide +kernel
/-- y >= 1<<24 in the loop of l01Parts -/
theorem ge24 (m q : Nat) (h1 : m < 16777216) (h3 : q ≤ 900) (ho : q = 0 ∨ 8388608 ≤ m) :
    (FloatKind.f64.format.order (d64 false m q) 4715268809856909312 == some .gt || FloatKind.f64.format.order (d64 false m q) 4715268809856909312 == some .eq) = decide (0 < q) := by
  show (Ieee.double.order (d64 false m q) 4715268809856909312 == some .gt || Ieee.double.order (d64 false m q) 4715268809856909312 == some .eq) = _
  rw [k24, order64 false false (by omega) (by omega) (by omega) (by decide) (by decide) (by decide), order_num _ _ _ _ _ _ 0 (by omega) (by decide), signed_eq, signed_eq]
  simp only [Bool.false_eq_true, if_false, Int.one_mul, Int.sub_zero, Int.toNat_natCast]
  rw [cmp_gt, cmp_eq]
  rw [← Bool.decide_or, decide_eq_decide]
  have key : ((m : Int) * 2 ^ q) = ((m * 2 ^ q : Nat) : Int) := by rw [Int.natCast_mul, Int.natCast_pow]; rfl
  rw [key, Int.toNat_zero, Int.pow_zero, Int.mul_one]
  have iff : 16777216 ≤ m * 2 ^ q ↔ 0 < q := by
    rcases Nat.eq_zero_or_pos q with h | h
    · subst h; rw [Nat.pow_zero]; omega
    · have a : 2 ^ 1 ≤ 2 ^ q := Nat.pow_le_pow_right (by omega) h
      have b : 8388608 * 2 ^ 1 ≤ m * 2 ^ q := Nat.mul_le_mul (by omega) a
      exact ⟨fun _ => h, fun _ => b⟩
  rw [← iff]
  generalize m * 2 ^ q = M
  have e : ((16777216 : Nat) : Int) = 16777216 := rfl
  rw [e]
  omega

theorem ge24_0 (m : Nat) (h1 : m < 16777216) :
    (FloatKind.f64.format.order (d64 false m 0) 4715268809856909312 == some .gt || FloatKind.f64.format.order (d64 false m 0) 4715268809856909312 == some .eq) = false :=
  ge24 m 0 h1 (by decide) (.inl rfl)

theorem mul_neg1 (b : Nat) (hb : b < 4294967296) (h : fin32 b = true) : floatBits .mul .f32 b 3212836864 = some (if 2147483648 ≤ b then b - 2147483648 else b + 2147483648) := by
  have hf : b % 2147483648 < 2139095040 := by simpa [fin32] using h
  show Ieee.single.mul b 3212836864 = _
  unfold Format.mul
  rw [read32 b hb hf, show Ieee.single.read 3212836864 = .number true 8388608 (-23) by decide +kernel]
  show some (Format.nearest _ _ _ _) = _
  congr 1
  have k1 : SameVal 8388608 (-23) 1 0 := ⟨0, 23, by decide, by omega⟩
  have := (SameVal.refl (mant (b % 2147483648)) (-149 + expo (b % 2147483648))).mul k1
  rw [Nat.mul_one, Int.add_zero] at this
  rw [nearest_same _ _ this]
  have := s32_rung (decide (2147483648 ≤ b) ^^ true) _ hf
  unfold s32 at this
  rw [this]
  unfold Format.word
  rw [single_sign]
  by_cases h : 2147483648 ≤ b
  · simp [h]; omega
  · simp [h]; omega
theorem mul_neg1_inf (b : Nat) (hb : b < 4294967296) (h : b % 2147483648 = 2139095040) : floatBits .mul .f32 b 3212836864 = some (if 2147483648 ≤ b then b - 2147483648 else b + 2147483648) := by
  have : b = 2139095040 ∨ b = 4286578688 := by omega
  rcases this with rfl | rfl <;> decide +kernel
theorem huge_mul : floatBits .mul .f32 2137108966 1092616192 = some 2139095040 := by decide +kernel
theorem one_over_zero : floatBits .quo .f32 1065353216 0 = some 2139095040 := by decide +kernel
theorem one_over_minus_zero : floatBits .quo .f32 1065353216 2147483648 = some 4286578688 := by decide +kernel

theorem int_to_64 (n : Nat) : floatOfInt .f64 (n : Int) = d64 false n 0 := by
  unfold floatOfInt FloatKind.nearest d64
  show Format.nearest _ _ _ _ = _
  have : decide ((n : Int) < 0) = false := by simp
  rw [this, Int.natAbs_natCast]
  rfl
end Go.Proofs.YtngminjncdfjdaaGreatDoor
/- The walks of spec.l01Twos: doubling and halving of doubles that stay exact. -/
namespace Go.Proofs.YtngminjncdfjdaaGreatDoor
set_option maxRecDepth 100000
open Go.RowKit

set_option maxHeartbeats 400000 in
theorem twos_up (s : Bool) (m : Nat) (p : Int) (k : Nat) (w : World) (h1 : m < 9007199254740992) (h2 : -1074 ≤ p) (h3 : p + k ≤ 971) :
    Calls Tryz.prog 81 #[.float .f64 (d64 s m p), .int .i64 k] w fun e w' => e = .returned (.float .f64 (d64 s m (p + k))) ∧ w = w' := by
  go_enter Tryz.func81, Tryz.ntmps81
  go_wp2
  go_loop [0, 1] (fun x i => ∃ j : Nat, j ≤ k ∧ i = .int .i64 j ∧ x = .float .f64 (d64 s m (p + ((k - j : Nat) : Int)))) (fun _ i => (intOf i).toNat)
  case atStart => exact ⟨k, Nat.le_refl _, rfl, by simp⟩
  case round =>
    obtain ⟨j, hj, rfl, rfl⟩ := hrel
    by_cases h0 : 0 < j
    · have hm := mul_two s h1 (p := p + ((k - j : Nat) : Int)) (by omega) (by omega)
      have hop : ∀ t w, (binOp .mul t (.float .f64 (d64 s m (p + ((k - j : Nat) : Int)))) (.float .f64 4611686018427387904)).run Tryz.prog w = .ok (.float .f64 (d64 s m (p + ((k - j : Nat) : Int) + 1))) w := fun t w => run_float_arith w .mul t .f64 _ _ _ hm
      clear hm
      go_wp2
      go_round
      case rel => exact ⟨j - 1, by omega, by go_num, by congr 2; omega⟩
      case measure => simp [intOf]; omega
    · have : j = 0 := by omega
      subst this
      go_wp2
      go_loop [0, 1] (fun x i => i = .int .i64 0 ∧ x = .float .f64 (d64 s m (p + k))) (fun _ _ => 0)
      case atStart => exact ⟨rfl, rfl⟩
      case round =>
        obtain ⟨rfl, rfl⟩ := hrel
        go_wp2
        go_ret
        exact ⟨rfl, rfl⟩

set_option maxHeartbeats 400000 in
theorem twos_down (s : Bool) (m : Nat) (p : Int) (k : Nat) (w : World) (h1 : m < 9007199254740992) (h2 : -1074 ≤ p - k) (h3 : p ≤ 971) :
    Calls Tryz.prog 81 #[.float .f64 (d64 s m p), .int .i64 (-(k : Int))] w fun e w' => e = .returned (.float .f64 (d64 s m (p - k))) ∧ w = w' := by
  go_enter Tryz.func81, Tryz.ntmps81
  go_wp2
  go_loop [0, 1] (fun x i => i = .int .i64 (-(k : Int)) ∧ x = .float .f64 (d64 s m p)) (fun _ _ => 0)
  case atStart => exact ⟨rfl, rfl⟩
  case round =>
    obtain ⟨rfl, rfl⟩ := hrel
    go_wp2
    go_loop [0, 1] (fun x i => ∃ j : Nat, j ≤ k ∧ i = .int .i64 (-(j : Int)) ∧ x = .float .f64 (d64 s m (p - ((k - j : Nat) : Int)))) (fun _ i => (- intOf i).toNat)
    case atStart => exact ⟨k, Nat.le_refl _, rfl, by simp⟩
    case round =>
      obtain ⟨j, hj, rfl, rfl⟩ := hrel
      by_cases h0 : 0 < j
      · have hm := div_two s h1 (p := p - ((k - j : Nat) : Int)) (by omega) (by omega)
        have hop : ∀ t w, (binOp .quo t (.float .f64 (d64 s m (p - ((k - j : Nat) : Int)))) (.float .f64 4611686018427387904)).run Tryz.prog w = .ok (.float .f64 (d64 s m (p - ((k - j : Nat) : Int) - 1))) w := fun t w => run_float_arith w .quo t .f64 _ _ _ hm
        clear hm
        go_wp2
        go_round
        case rel => exact ⟨j - 1, by omega, by go_num, by congr 2; omega⟩
        case measure => simp [intOf]; omega
      · have : j = 0 := by omega
        subst this
        go_wp2
        go_ret
        exact ⟨rfl, rfl⟩
end Go.Proofs.YtngminjncdfjdaaGreatDoor
/- The walks of chapter 1's small functions: the model's (NaN, finite, absolute value, parts, place, sign, bits). -/
namespace Go.Proofs.YtngminjncdfjdaaGreatDoor
set_option maxRecDepth 100000
open Go.RowKit

theorem nan_any (b : Nat) (w : World) (hb : b < 4294967296) : Calls Tryz.prog 67 #[.float .f32 b] w fun e w' => e = .returned (.bool (nan32 b)) ∧ w = w' := by
  have h := ne32 b hb
  go_enter Tryz.func67, Tryz.ntmps67
  go_wp2
  go_ret
  exact ⟨rfl, rfl⟩

theorem fin_yes (b : Nat) (w : World) (hb : b < 4294967296) (hf : fin32 b = true) : Calls Tryz.prog 39 #[.float .f32 b] w fun e w' => e = .returned (.bool true) ∧ w = w' := by
  have hm := sub_self_fin b hb hf
  have hop : ∀ t w, (binOp .sub t (.float .f32 b) (.float .f32 b)).run Tryz.prog w = .ok (.float .f32 0) w := fun t w => run_float_arith w .sub t .f32 _ _ _ hm
  have hz : (FloatKind.f32.format.order 0 0 == some .eq) = true := by rw [self32 0 (by decide)]; rfl
  clear hm
  go_enter Tryz.func39, Tryz.ntmps39
  go_wp2
  go_ret
  exact ⟨rfl, rfl⟩

theorem fin_no (b : Nat) (w : World) (hb : b < 4294967296) (hf : fin32 b = false) : Calls Tryz.prog 39 #[.float .f32 b] w fun e w' => e = .returned (.bool false) ∧ w' = w.drew := by
  have hm := sub_self_not b hb hf
  have hop : ∀ t w, (binOp .sub t (.float .f32 b) (.float .f32 b)).run Tryz.prog w = .ok (.float .f32 (nanOf w b b)) w.drew := fun t w => run_nan32 w .sub (.inr (.inl rfl)) t _ _ hm
  have hz : ∀ w, (FloatKind.f32.format.order (nanOf w b b) 0 == some .eq) = false := fun w => nan32_cmp _ _ _ (.inl (nanOf_nan w b b))
  clear hm
  go_enter Tryz.func39, Tryz.ntmps39
  go_wp2
  go_ret
  exact ⟨rfl, rfl⟩

theorem place32_zero : place32 0 = 0 := by decide
theorem nan32_zero : nan32 0 = false := by decide

theorem abs_fin (b : Nat) (w : World) (hb : b < 4294967296) (hn : nan32 b = false) : Calls Tryz.prog 90 #[.float .f32 b] w fun e w' => e = .returned (.float .f32 (b % 2147483648)) ∧ w = w' := by
  have hl := lt32 b 0 hb (by decide) hn nan32_zero
  have he := eq32 b 0 hb (by decide) hn nan32_zero
  have hneg := negFloat32 b hb
  have hop : Op.unary .neg (.float .f32 b) = pure (.float .f32 (Op.negFloat .f32 b)) := rfl
  rw [place32_zero] at hl he
  by_cases h1 : place32 b < 0
  · rw [decide_eq_true h1] at hl
    have hb2 : Op.negFloat .f32 b = b % 2147483648 := by
      rw [hneg]; unfold place32 at h1; split at h1
      · rename_i h; simp at h; rw [if_pos h]; omega
      · omega
    rw [hb2] at hop
    clear hneg he hb2
    go_enter Tryz.func90, Tryz.ntmps90
    go_wp2
    go_ret
    exact ⟨rfl, rfl⟩
  · rw [decide_eq_false h1] at hl
    by_cases h2 : place32 b = 0
    · rw [decide_eq_true h2] at he
      have hb2 : b % 2147483648 = 0 := by
        unfold place32 at h2; split at h2 <;> omega
      rw [hb2]
      clear hneg hb2 hop h2
      go_enter Tryz.func90, Tryz.ntmps90
      go_wp2
      go_ret
      exact ⟨rfl, rfl⟩
    · rw [decide_eq_false h2] at he
      have hb2 : b % 2147483648 = b := by
        unfold place32 at h1 h2; split at h1
        · rename_i h; simp at h; rw [if_pos (by simpa using h)] at h2; omega
        · rename_i h; simp at h; omega
      rw [hb2]
      clear hneg hb2 hop h2
      go_enter Tryz.func90, Tryz.ntmps90
      go_wp2
      go_ret
      exact ⟨rfl, rfl⟩

theorem minus_any (b : Nat) (w : World) (hb : b < 4294967296) (hn : nan32 b = false) : Calls Tryz.prog 68 #[.float .f32 b] w fun e w' => e = .returned (.bool (neg32 b)) ∧ w = w' := by
  have hl := lt32 b 0 hb (by decide) hn nan32_zero
  have he := eq32 b 0 hb (by decide) hn nan32_zero
  rw [place32_zero] at hl he
  by_cases h1 : place32 b < 0
  · rw [decide_eq_true h1] at hl
    have hb2 : neg32 b = true := by
      unfold place32 at h1; unfold neg32; split at h1
      · assumption
      · omega
    rw [hb2]
    clear he hb2
    go_enter Tryz.func68, Tryz.ntmps68
    go_wp2
    go_ret
    exact ⟨rfl, rfl⟩
  · rw [decide_eq_false h1] at hl
    by_cases h2 : place32 b = 0
    · rw [decide_eq_true h2] at he
      have hb2 : b = 0 ∨ b = 2147483648 := by
        unfold place32 at h2; split at h2 <;> omega
      rcases hb2 with rfl | rfl
      · have hm := one_over_zero
        have hop : ∀ t w, (binOp .quo t (.float .f32 1065353216) (.float .f32 0)).run Tryz.prog w = .ok (.float .f32 2139095040) w := fun t w => run_float_arith w .quo t .f32 _ _ _ hm
        have hz := lt32 2139095040 0 (by decide) (by decide) (by decide) (by decide)
        rw [place32_zero, decide_eq_false (by decide)] at hz
        clear hm h1 h2
        rw [show neg32 0 = false by decide]
        go_enter Tryz.func68, Tryz.ntmps68
        go_wp2
        go_ret
        exact ⟨rfl, rfl⟩
      · have hm := one_over_minus_zero
        have hop : ∀ t w, (binOp .quo t (.float .f32 1065353216) (.float .f32 2147483648)).run Tryz.prog w = .ok (.float .f32 4286578688) w := fun t w => run_float_arith w .quo t .f32 _ _ _ hm
        have hz := lt32 4286578688 0 (by decide) (by decide) (by decide) (by decide)
        rw [place32_zero, decide_eq_true (by decide)] at hz
        clear hm h1 h2
        rw [show neg32 2147483648 = true by decide]
        go_enter Tryz.func68, Tryz.ntmps68
        go_wp2
        go_ret
        exact ⟨rfl, rfl⟩
    · rw [decide_eq_false h2] at he
      have hb2 : neg32 b = false := by
        unfold place32 at h1 h2; unfold neg32; split at h1
        · rename_i h; rw [if_pos h] at h2; omega
        · rename_i h; simpa using h
      rw [hb2]
      clear hb2 h2
      go_enter Tryz.func68, Tryz.ntmps68
      go_wp2
      go_ret
      exact ⟨rfl, rfl⟩
end Go.Proofs.YtngminjncdfjdaaGreatDoor
/- The walks of spec.l01Parts, l01Place, BitsOf. -/
namespace Go.Proofs.YtngminjncdfjdaaGreatDoor
set_option maxRecDepth 100000
open Go.RowKit

set_option maxHeartbeats 400000 in
theorem parts_fin (b : Nat) (w : World) (hb : b < 4294967296) (hf : fin32 b = true) :
    Calls Tryz.prog 65 #[.float .f32 b] w fun e w' => e = .returned (.tuple #[.int .i64 (mant (b % 2147483648)), .int .i64 (-149 + expo (b % 2147483648))]) ∧ w = w' := by
  obtain ⟨r, hr⟩ : ∃ r, r = b % 2147483648 := ⟨_, rfl⟩
  have hr2 : r < 2139095040 := by rw [hr]; simpa [fin32] using hf
  have hc := conv_3264 r (by omega) (by unfold fin32; simp; omega)
  rw [show neg32 r = false by unfold neg32; simp; omega, show r % 2147483648 = r by omega] at hc
  have hcv : ∀ w, (convert 22 34 (.float .f32 r)).run Tryz.prog w = .ok (.float .f64 (d64 false (mant r) (-149 + expo r))) w := fun w => run_convert_float_float w _ _ _ _ _ _ (by kernel_rfl) (by kernel_rfl) hc
  have l1 := mant_lt r
  have l2 := expo_le r hr2
  have l3 := mant_or r
  clear hc
  rw [← hr]
  go_enter Tryz.func65, Tryz.ntmps65
  go_wp2_with fail
  refine (abs_fin b _ hb (fin_nan hf)).mono ?_
  rintro e w' ⟨rfl, rfl⟩
  rw [← hr]
  clear hr
  go_wp2_with fail
  refine (twos_up false (mant r) (-149 + expo r) 149 _ (by omega) (by omega) (by omega)).mono ?_
  rintro e w' ⟨rfl, rfl⟩
  go_wp2_with fail
  go_loop [4, 5] (fun e y => ∃ q : Nat, q ≤ expo r ∧ e = .int .i64 (-149 + ((expo r - q : Nat) : Int)) ∧ y = .float .f64 (d64 false (mant r) q)) (fun e _ => (200 - intOf e).toNat)
  case atStart => exact ⟨expo r, Nat.le_refl _, by simp, by congr 2; omega⟩
  case round =>
    obtain ⟨q, hq, rfl, rfl⟩ := hrel
    have hge := ge24 (mant r) q l1 (by omega) (by omega)
    by_cases h0 : 0 < q
    · rw [decide_eq_true h0] at hge
      have hm := div_two false (m := mant r) (by omega) (p := q) (by omega) (by omega)
      have hop : ∀ t w, (binOp .quo t (.float .f64 (d64 false (mant r) q)) (.float .f64 4611686018427387904)).run Tryz.prog w = .ok (.float .f64 (d64 false (mant r) ((q : Int) - 1))) w := fun t w => run_float_arith w .quo t .f64 _ _ _ hm
      clear hm
      go_wp2
      go_round
      case rel => exact ⟨q - 1, by omega, by go_num, by congr 2; omega⟩
      case measure => simp [intOf]; omega
    · have hq0 : q = 0 := by omega
      subst hq0
      clear hge
      have hge := ge24_0 (mant r) l1
      have hi := int_64 false (m := mant r) (M := mant r) (p := 0) (by omega) (by omega) (by omega) (SameVal.refl _ _) (by omega)
      have hcv : ∀ w, (convert 34 2 (.float .f64 (d64 false (mant r) 0))).run Tryz.prog w = .ok (.int .i64 (mant r)) w := fun w => run_convert_float_int w _ _ _ _ _ _ (by kernel_rfl) (by kernel_rfl) hi
      clear hi
      go_wp2
      go_ret2
      exact ⟨rfl, rfl⟩

/-- the bits that are told -/
def bits32 (b : Nat) : Nat := if nan32 b = true then 2143289344 else b

end Go.Proofs.YtngminjncdfjdaaGreatDoor
/- Plain facts on the bit operations of int64 at numbers that are not negative. -/
namespace Go.Proofs.YtngminjncdfjdaaGreatDoor

theorem ofInt_nat64 (a : Nat) (ha : a < 18446744073709551616) : (BitVec.ofInt 64 (a : Int)).toNat = a := by
  rw [BitVec.ofInt_natCast, BitVec.toNat_ofNat]; exact Nat.mod_eq_of_lt (by omega)
theorem wrap_i64_nat (n : Nat) (h : n < 9223372036854775808) : IntKind.i64.wrap (n : Int) = n := by
  unfold IntKind.wrap
  simp only [show IntKind.i64.bits = 64 from rfl]
  have e : (n : Int) % (2 ^ 64 : Int) = n := by omega
  rw [e, if_neg]
  simp
  omega

theorem and_i64_nat (a b : Nat) (ha : a < 9223372036854775808) (hb : b < 9223372036854775808) : bits .and .i64 (a : Int) (b : Int) = ((a &&& b : Nat) : Int) := by
  have hx : a &&& b < 2 ^ 63 := Nat.and_lt_two_pow _ (by omega)
  show IntKind.i64.wrap ((BitVec.ofInt 64 (a : Int) &&& BitVec.ofInt 64 (b : Int)).toNat : Int) = _
  rw [BitVec.toNat_and, ofInt_nat64 a (by omega), ofInt_nat64 b (by omega), wrap_i64_nat _ (by omega)]

theorem and_low23 (a : Nat) (ha : a < 9223372036854775808) : bits .and .i64 (a : Int) 8388607 = ((a % 8388608 : Nat) : Int) := by
  have := and_i64_nat a 8388607 ha (by omega)
  rw [show (8388607 : Nat) = 2 ^ 23 - 1 by decide, Nat.and_two_pow_sub_one_eq_mod] at this
  exact this
theorem andNot_i64_nat (a b : Nat) (ha : a < 9223372036854775808) (hb : b < 9223372036854775808) : bits .andNot .i64 (a : Int) (b : Int) = ((a &&& (18446744073709551615 - b) : Nat) : Int) := by
  have hx : a &&& (18446744073709551615 - b) ≤ a := Nat.and_le_left
  show IntKind.i64.wrap ((BitVec.ofInt 64 (a : Int) &&& ~~~BitVec.ofInt 64 (b : Int)).toNat : Int) = _
  rw [BitVec.toNat_and, BitVec.toNat_not, ofInt_nat64 a (by omega), ofInt_nat64 b (by omega)]
  have e : 2 ^ 64 - 1 - b = 18446744073709551615 - b := by omega
  rw [e, wrap_i64_nat _ (by omega)]

theorem andNot31 (a : Nat) (ha : a < 4294967296) : bits .andNot .i64 (a : Int) 2147483648 = ((a % 2147483648 : Nat) : Int) := by
  have := andNot_i64_nat a 2147483648 (by omega) (by omega)
  rw [show ((2147483648 : Nat) : Int) = 2147483648 from rfl] at this
  rw [this]
  congr 1
  apply Nat.eq_of_testBit_eq
  intro i
  rw [show (18446744073709551615 - 2147483648 : Nat) = 2 ^ 64 - (2 ^ 31 + 1) by decide, show (2147483648 : Nat) = 2 ^ 31 by decide,
    Nat.testBit_and, Nat.testBit_two_pow_sub_succ (by decide), Nat.testBit_mod_two_pow, Nat.testBit_two_pow]
  by_cases h31 : i < 31
  · have h1 : i < 64 := by omega
    have h2 : ¬ 31 = i := by omega
    simp [h31, h1, h2]
  · by_cases e : i = 31
    · subst e; simp
    · have : a.testBit i = false := by
        apply Nat.testBit_lt_two_pow
        exact Nat.lt_of_lt_of_le ha (show 2 ^ 32 ≤ 2 ^ i from Nat.pow_le_pow_right (by omega) (by omega))
      simp [this]
end Go.Proofs.YtngminjncdfjdaaGreatDoor
/- The walks of the program's own functions of chapter 1 that tell bits, classes and places. -/
namespace Go.Proofs.YtngminjncdfjdaaGreatDoor
set_option maxRecDepth 100000
open Go.RowKit

theorem run_bits (b : Nat) (w : World) : (callFunc 92 #[.float .f32 b]).run Tryz.prog w = .ok (.value (.int .u32 b)) w := by
  rw [run_callFunc_extern Tryz.func92 (by kernel_rfl) (by kernel_rfl) (by kernel_rfl) (e := Extern.MathFloatBits.float32bits) (by kernel_rfl)]; rfl

theorem implBits_any (b : Nat) (w : World) (hb : b < 4294967296) :
    Calls Tryz.prog 70 #[.float .f32 b] w fun e w' => e = .returned (.int .i64 (bits32 b)) ∧ w = w' := by
  have h := ne32 b hb
  by_cases hn : nan32 b = true
  · unfold bits32
    rw [if_pos hn]
    rw [hn] at h
    go_enter Tryz.func70, Tryz.ntmps70
    go_wp2
    go_ret
    exact ⟨rfl, rfl⟩
  · have hn : nan32 b = false := by simpa using hn
    unfold bits32
    rw [if_neg (by rw [hn]; decide)]
    rw [hn] at h
    have hx := run_bits b
    go_enter Tryz.func70, Tryz.ntmps70
    go_wp2
    go_ret
    exact ⟨rfl, rfl⟩

theorem bits32_lt (b : Nat) (hb : b < 4294967296) : bits32 b < 4294967296 := by unfold bits32; split <;> omega
theorem bits32_not {b : Nat} (hn : nan32 b = false) : bits32 b = b := by unfold bits32; rw [if_neg (by rw [hn]; decide)]

theorem implUnsigned_any (b : Nat) (w : World) (hb : b < 4294967296) :
    Calls Tryz.prog 72 #[.float .f32 b] w fun e w' => e = .returned (.int .i64 ((bits32 b % 2147483648 : Nat) : Int)) ∧ w = w' := by
  have h := andNot31 (bits32 b) (bits32_lt b hb)
  go_enter Tryz.func72, Tryz.ntmps72
  go_wp2_with fail
  refine (implBits_any b _ hb).mono ?_
  rintro e w' ⟨rfl, rfl⟩
  go_wp2
  go_ret
  exact ⟨rfl, rfl⟩

theorem implFinite_any (b : Nat) (w : World) (hb : b < 4294967296) :
    Calls Tryz.prog 52 #[.float .f32 b] w fun e w' => e = .returned (.bool (fin32 b)) ∧ w = w' := by
  have h : decide (((bits32 b % 2147483648 : Nat) : Int) < 2139095040) = fin32 b := by
    unfold fin32 bits32 nan32
    rw [decide_eq_decide]
    split
    · rename_i h; simp at h; omega
    · omega
  obtain ⟨n, hn⟩ : ∃ n : Int, n = ((bits32 b % 2147483648 : Nat) : Int) := ⟨_, rfl⟩
  rw [← h, ← hn]
  have H := Lib.hid hn
  clear h hn
  go_enter Tryz.func52, Tryz.ntmps52
  go_wp2_with fail
  refine (implUnsigned_any b _ hb).mono ?_
  rintro e w' ⟨rfl, rfl⟩
  rw [← H.out]
  go_wp2
  go_ret
  exact ⟨rfl, rfl⟩

/-- the class of a float -/
def class32 (b : Nat) : Int :=
  if b % 2147483648 = 0 then 0 else if b % 2147483648 < 8388608 then 1 else if b % 2147483648 < 2139095040 then 2 else if b % 2147483648 = 2139095040 then 3 else 4

end Go.Proofs.YtngminjncdfjdaaGreatDoor
/- More walks of chapter 1: PartsOf and PlaceOf of the program, ClassOf, PartsOf and PlaceOf of the model. -/
namespace Go.Proofs.YtngminjncdfjdaaGreatDoor
set_option maxRecDepth 100000
open Go.RowKit

theorem ret3_int {k1 k2 : IntKind} {a b c d : Int} {x : Value} (h : a = b) (g : c = d) : Ending.returned (.tuple #[.int k1 a, .int k2 c, x]) = .returned (.tuple #[.int k1 b, .int k2 d, x]) := by rw [h, g]
theorem lt_zero32 (b : Nat) (hb : b < 4294967296) (hn : nan32 b = false) : (FloatKind.f32.format.order b 0 == some .lt) = decide (place32 b < 0) := by
  have := lt32 b 0 hb (by decide) hn nan32_zero
  rwa [place32_zero] at this
theorem eq_zero32 (b : Nat) (hb : b < 4294967296) (hn : nan32 b = false) : (FloatKind.f32.format.order b 0 == some .eq) = decide (place32 b = 0) := by
  have := eq32 b 0 hb (by decide) hn nan32_zero
  rwa [place32_zero] at this
theorem place_cases (b : Nat) : (place32 b < 0 ∧ place32 b = -((b % 2147483648 : Nat) : Int)) ∨ (¬ place32 b < 0 ∧ place32 b = ((b % 2147483648 : Nat) : Int)) := by
  unfold place32
  split
  · by_cases h : b % 2147483648 = 0
    · right; rw [h]; decide
    · left; omega
  · right; omega

/-- the mantissa with its sign -/
def smant32 (b : Nat) : Int := if place32 b < 0 then -(mant (b % 2147483648) : Int) else (mant (b % 2147483648) : Int)

theorem implParts_no (b : Nat) (w : World) (hb : b < 4294967296) (hf : fin32 b = false) :
    Calls Tryz.prog 95 #[.float .f32 b] w fun e w' => e = .returned (.tuple #[.int .i64 0, .int .i64 0, .int .i64 1]) ∧ w = w' := by
  go_enter Tryz.func95, Tryz.ntmps95
  go_wp2_with fail
  refine (implFinite_any b _ hb).mono ?_
  rintro e w' ⟨rfl, rfl⟩
  rw [hf]
  go_wp2
  go_ret3
  exact ⟨rfl, rfl⟩

theorem implParts_yes (b : Nat) (w : World) (hb : b < 4294967296) (hf : fin32 b = true) :
    Calls Tryz.prog 95 #[.float .f32 b] w fun e w' => e = .returned (.tuple #[.int .i64 (smant32 b), .int .i64 (-149 + expo (b % 2147483648)), .int .i64 0]) ∧ w = w' := by
  have hn := fin_nan hf
  have hl := lt_zero32 b hb hn
  have hbits := Lib.hid (bits32_not hn)
  obtain ⟨n, hnn⟩ : ∃ n : Int, n = ((b % 2147483648 : Nat) : Int) := ⟨_, rfl⟩
  have n0 : 0 ≤ n := by omega
  have n1 : n < 2139095040 := by
    have : b % 2147483648 < 2139095040 := by simpa [fin32] using hf
    omega
  have hm : (mant (b % 2147483648) : Int) = if n < 8388608 then n else 8388608 + n % 8388608 := by
    rw [hnn]; unfold mant
    split
    · rename_i h; rw [if_pos (by omega)]
    · rename_i h; rw [if_neg (by omega)]; omega
  have he : (expo (b % 2147483648) : Int) = if n < 8388608 then 0 else n / 8388608 - 1 := by
    rw [hnn]; unfold expo
    split
    · rename_i h; rw [if_pos (by omega)]; rfl
    · rename_i h; rw [if_neg (by omega)]; omega
  have H := Lib.hid hnn
  clear hnn
  obtain ⟨E, hE⟩ : ∃ E : Int, E = if n / 8388608 = 0 then 1 else n / 8388608 := ⟨_, rfl⟩
  obtain ⟨M, hM⟩ : ∃ M : Int, M = if n / 8388608 = 0 then n % 8388608 else n % 8388608 + 8388608 := ⟨_, rfl⟩
  have Hm : Hid ((mant (b % 2147483648) : Int) = M) := Lib.hid (by rw [hm, hM]; split <;> split <;> omega)
  have He : Hid (-149 + (expo (b % 2147483648) : Int) = E - 150) := Lib.hid (by rw [he, hE]; split <;> split <;> omega)
  clear hm he
  by_cases hs : n / 8388608 = 0
  case' pos => rw [if_pos hs] at hE hM
  case' neg => rw [if_neg hs] at hE hM
  all_goals
    have HE := Lib.hid hE
    have HM := Lib.hid hM
    clear hE hM
    rcases place_cases b with ⟨h1, hx⟩ | ⟨h1, hx⟩
    all_goals clear hx
    case' inl =>
      rw [decide_eq_true h1] at hl
      have Hs : Hid (smant32 b = -M) := Lib.hid (by unfold smant32; rw [if_pos h1, Hm.out])
    case' inr =>
      rw [decide_eq_false h1] at hl
      have Hs : Hid (smant32 b = M) := Lib.hid (by unfold smant32; rw [if_neg h1, Hm.out])
    all_goals
      clear h1
      go_enter Tryz.func95, Tryz.ntmps95
      go_wp2_with fail
      refine (implFinite_any b _ hb).mono ?_
      rintro e w' ⟨rfl, rfl⟩
      rw [hf]
      go_wp2_with fail
      refine (implUnsigned_any b _ hb).mono ?_
      rintro e w' ⟨rfl, rfl⟩
      rw [hbits.out, ← H.out]
      go_wp2_with fail
      refine (implUnsigned_any b _ hb).mono ?_
      rintro e w' ⟨rfl, rfl⟩
      rw [hbits.out, ← H.out]
      go_wp2_with fail
      go_ret3
      exact ⟨ret3_int (by rw [Hs.out, HM.out]) (by rw [He.out, HE.out]; try rfl), rfl⟩

end Go.Proofs.YtngminjncdfjdaaGreatDoor
/- Doubles made of singles, and the walk of the laws' own sameFloat: it says yes of one word twice, and of two NaN. -/
namespace Go.Proofs.YtngminjncdfjdaaGreatDoor
set_option maxRecDepth 100000
open Go.RowKit
open Ieee

def nan64 (c : Nat) : Bool := (Ieee.double.read c).isNaN
def zero64 (c : Nat) : Bool := (Ieee.double.read c).isZero

theorem order_self_datum (d : Datum) (h : d.isNaN = false) : d.order d = some .eq := by
  cases d with
  | number s m p => unfold Datum.order; simp
  | infinity s => unfold Datum.order; simp
  | nan s t => cases h

theorem self64 (c : Nat) (h : nan64 c = false) : (FloatKind.f64.format.order c c == some .eq) = true := by
  show ((Ieee.double.read c).order (Ieee.double.read c) == some .eq) = true
  rw [order_self_datum _ h]; rfl
theorem number_zero (s t : Bool) (m : Nat) (p q : Int) : ((Datum.number s m p).order (.number t 0 q) == some .eq) = decide (m = 0) := by
  rw [order_num s t m 0 p q (min p q) (by omega) (by omega), cmp_eq, decide_eq_decide, signed_eq, signed_eq]
  have : (0 : Int) < 2 ^ (p - min p q).toNat := Int.pow_pos (by omega)
  constructor
  · intro h
    simp only [Int.natCast_zero, Int.zero_mul, Int.mul_zero] at h
    have h2 : (m : Int) * 2 ^ (p - min p q).toNat = 0 := by
      cases s <;> simp at h ⊢ <;> omega
    rcases Int.mul_eq_zero.1 h2 with h3 | h3 <;> omega
  · intro h; subst h; simp

theorem eq_zero64 (c : Nat) (h : nan64 c = false) : (FloatKind.f64.format.order c 0 == some .eq) = zero64 c := by
  show ((Ieee.double.read c).order (Ieee.double.read 0) == some .eq) = (Ieee.double.read c).isZero
  unfold nan64 at h
  rw [show Ieee.double.read 0 = .number false 0 (-1074) by decide +kernel]
  cases hc : Ieee.double.read c with
  | number s m p =>
    rw [number_zero]
    cases m with
    | zero => rfl
    | succ m => simp [Datum.isZero]
  | infinity s => cases s <;> rfl
  | nan s t => rw [hc] at h; cases h

theorem one_over64 (c : Nat) (h : zero64 c = true) : ∃ d, floatBits .quo .f64 4607182418800017408 c = some d := by
  unfold zero64 at h
  cases hc : Ieee.double.read c with
  | number s m p =>
    rw [hc] at h
    cases m with
    | zero =>
      refine ⟨Ieee.double.write (.infinity (false ^^ s)), ?_⟩
      show Ieee.double.div 4607182418800017408 c = some (Ieee.double.write (.infinity (false ^^ s)))
      unfold Format.div
      rw [hc, show Ieee.double.read 4607182418800017408 = .number false 4503599627370496 (-52) by decide +kernel]
      unfold Datum.quotient
      simp
    | succ m => simp [Datum.isZero] at h
  | infinity s => rw [hc] at h; cases h
  | nan s t => rw [hc] at h; cases h

theorem same_yes (c : Nat) (w : World) (h : nan64 c = false) :
    Calls Tryz.prog 16 #[.float .f64 c, .float .f64 c] w fun e w' => e = .returned (.bool true) ∧ w = w' := by
  have hs := self64 c h
  have hs2 : (FloatKind.f64.format.order c c != some .eq) = false := by unfold bne; rw [hs]; rfl
  have hz := eq_zero64 c h
  by_cases h0 : zero64 c = true
  · obtain ⟨d, hd⟩ := one_over64 c h0
    have hop : ∀ t w, (binOp .quo t (.float .f64 4607182418800017408) (.float .f64 c)).run Tryz.prog w = .ok (.float .f64 d) w := fun t w => run_float_arith w .quo t .f64 _ _ _ hd
    rw [h0] at hz
    clear hd h0
    go_enter Tryz.func16, Tryz.ntmps16
    go_wp2
    go_ret
    exact ⟨rfl, rfl⟩
  · have h0 : zero64 c = false := by simpa using h0
    rw [h0] at hz
    go_enter Tryz.func16, Tryz.ntmps16
    go_wp2
    go_ret
    exact ⟨rfl, rfl⟩

/-- what a single that is not NaN is as a double -/
theorem conv_yes (b : Nat) (hb : b < 4294967296) (hn : nan32 b = false) :
    ∃ c, nan64 c = false ∧ ∀ w, (convert 22 34 (.float .f32 b)).run Tryz.prog w = .ok (.float .f64 c) w := by
  by_cases hf : fin32 b = true
  · have hf' : b % 2147483648 < 2139095040 := by simpa [fin32] using hf
    have l1 := mant_lt (b % 2147483648)
    have l2 := expo_le _ hf'
    refine ⟨d64 (neg32 b) (mant (b % 2147483648)) (-149 + expo (b % 2147483648)), ?_, fun w => run_convert_float_float w _ _ _ _ _ _ (by kernel_rfl) (by kernel_rfl) (conv_3264 b hb hf)⟩
    obtain ⟨m', p', e, _⟩ := read64 (neg32 b) (m := mant (b % 2147483648)) (p := -149 + expo (b % 2147483648)) (by omega) (by omega) (by omega)
    unfold nan64; rw [e]; rfl
  · have hi : b = 2139095040 ∨ b = 4286578688 := by
      unfold fin32 at hf; unfold nan32 at hn; simp at hf hn; omega
    rcases hi with rfl | rfl
    · exact ⟨9218868437227405312, by decide +kernel, fun w => run_convert_float_float w _ _ _ _ _ _ (by kernel_rfl) (by kernel_rfl) (by decide +kernel)⟩
    · exact ⟨18442240474082181120, by decide +kernel, fun w => run_convert_float_float w _ _ _ _ _ _ (by kernel_rfl) (by kernel_rfl) (by decide +kernel)⟩

def nanConvOf (w : World) (b : Nat) : Nat := (Question.nanConv .f64 b).cut (w.tape w.drawn (.nanConv .f64 b))
end Go.Proofs.YtngminjncdfjdaaGreatDoor
/- The walks of the model's float at a place, its huge float, its turned float; of FloatOfBits and FloatAtPlace of the model and of the program. -/
namespace Go.Proofs.YtngminjncdfjdaaGreatDoor
set_option maxRecDepth 100000
open Go.RowKit

theorem huge_any (w : World) : Calls Tryz.prog 38 #[] w fun e w' => e = .returned (.float .f32 2139095040) ∧ w = w' := by
  have hop : ∀ t w, (binOp .mul t (.float .f32 2137108966) (.float .f32 1092616192)).run Tryz.prog w = .ok (.float .f32 2139095040) w := fun t w => run_float_arith w .mul t .f32 _ _ _ huge_mul
  go_enter Tryz.func38, Tryz.ntmps38
  go_wp2
  go_ret
  exact ⟨rfl, rfl⟩

theorem ret_float {k : FloatKind} {a b : Nat} (h : a = b) : Ending.returned (.float k a) = .returned (.float k b) := by rw [h]

theorem word_false (f : Nat) (h : f < 2139095040) : s32 false (mant f) (-149 + expo f) = f := by
  have := s32_rung false f h
  rw [this]; rfl

set_option maxHeartbeats 400000 in
theorem at_nat (n : Nat) (w : World) (hn : n ≤ 2139095040) : Calls Tryz.prog 109 #[.int .i64 n] w fun e w' => e = .returned (.float .f32 n) ∧ w = w' := by
  have ha := and_low23 n (by omega)
  obtain ⟨e, he⟩ : ∃ e : Nat, e = n / 8388608 := ⟨_, rfl⟩
  obtain ⟨f, hf⟩ : ∃ f : Nat, f = n % 8388608 := ⟨_, rfl⟩
  have hdiv : (n : Int) / 8388608 = e := by omega
  rw [← hf] at ha
  by_cases h1 : e = 255
  · have hn' : n = 2139095040 := by omega
    have Hn := Lib.hid hn'
    have d1 : ((e : Int) == 255) = true := by simp; omega
    clear hn' he hf h1 hn
    go_enter Tryz.func109, Tryz.ntmps109
    go_wp2_with fail
    refine (huge_any _).mono ?_
    rintro e w' ⟨rfl, rfl⟩
    go_wp2_with fail
    go_ret
    exact ⟨ret_float Hn.out.symm, rfl⟩
  · have d1 : ((e : Int) == 255) = false := by simp; omega
    by_cases h2 : e = 0
    · have hn' : n = f := by omega
      have d2 : ((e : Int) == 0) = true := by simp; omega
      have Hn : Hid (s32 false f (-149) = n) := Lib.hid (by
        have := word_false f (by omega)
        rw [show mant f = f by unfold mant; rw [if_pos (by omega)], show expo f = 0 by unfold expo; rw [if_pos (by omega)]] at this
        rw [hn']; exact this)
      have hc := conv_6432 false (m := f) (p := -149) (by omega) (by omega) (by omega)
      have hcv : ∀ w, (convert 34 22 (.float .f64 (d64 false f (-149)))).run Tryz.prog w = .ok (.float .f32 (s32 false f (-149))) w := fun w => run_convert_float_float w _ _ _ _ _ _ (by kernel_rfl) (by kernel_rfl) hc
      have fl : f < 9007199254740992 := by omega
      have H3 := Lib.hid hcv
      have H4 := Lib.hid (int_to_64 f)
      have H5 := Lib.hid fl
      clear hcv hc hn' he hf h1 h2 hn fl
      go_enter Tryz.func109, Tryz.ntmps109
      go_wp2_with fail
      rw [H4.out]
      refine (twos_down false f 0 149 _ H5.out (by omega) (by omega)).mono ?_
      rintro e w' ⟨rfl, rfl⟩
      have h3 := H3.out
      go_wp2_with fail
      go_ret
      exact ⟨ret_float Hn.out, rfl⟩
    · have d2 : ((e : Int) == 0) = false := by simp; omega
      have H4 : Hid (floatOfInt .f64 ((f : Int) + 8388608) = d64 false (f + 8388608) 0) := Lib.hid (int_to_64 (f + 8388608))
      have el : (e : Int) ≤ 254 := by omega
      have el1 : 1 ≤ (e : Int) := by omega
      have fl : (f : Int) ≤ 8388607 := by omega
      have fl' : Hid (f + 8388608 < 9007199254740992) := Lib.hid (by omega)
      have Hn : Hid (s32 false (f + 8388608) ((e : Int) - 150) = n) := Lib.hid (by
        have := word_false n (by omega)
        rw [show mant n = f + 8388608 by unfold mant; rw [if_neg (by omega)]; omega, show expo n = e - 1 by unfold expo; rw [if_neg (by omega)]; omega] at this
        rw [show (e : Int) - 150 = -149 + ((e - 1 : Nat) : Int) by omega]
        exact this)
      have hc := conv_6432 false (m := f + 8388608) (p := (e : Int) - 150) (by omega) (by omega) (by omega)
      have hcv : ∀ w, (convert 34 22 (.float .f64 (d64 false (f + 8388608) ((e : Int) - 150)))).run Tryz.prog w = .ok (.float .f32 (s32 false (f + 8388608) ((e : Int) - 150))) w := fun w => run_convert_float_float w _ _ _ _ _ _ (by kernel_rfl) (by kernel_rfl) hc
      have H3 := Lib.hid hcv
      clear hcv hc he hf h1 h2 hn
      by_cases h5 : 150 ≤ e
      · obtain ⟨k, hk⟩ : ∃ k : Nat, k = e - 150 := ⟨_, rfl⟩
        have H6 : Hid ((e : Int) - 150 = (k : Int)) := Lib.hid (by omega)
        have H7 : Hid ((e : Int) - 150 = 0 + (k : Int)) := Lib.hid (by omega)
        have H8 : Hid ((0 : Int) + (k : Int) ≤ 971) := Lib.hid (by omega)
        clear hk h5
        go_enter Tryz.func109, Tryz.ntmps109
        go_wp2_with fail
        rw [H4.out, H6.out]
        refine (twos_up false (f + 8388608) 0 k _ fl'.out (by decide) H8.out).mono ?_
        rintro e w' ⟨rfl, rfl⟩
        rw [← H7.out]
        have h3 := H3.out
        go_wp2_with fail
        go_ret
        exact ⟨ret_float Hn.out, rfl⟩
      · obtain ⟨k, hk⟩ : ∃ k : Nat, k = 150 - e := ⟨_, rfl⟩
        have H6 : Hid ((e : Int) - 150 = -(k : Int)) := Lib.hid (by omega)
        have H7 : Hid ((e : Int) - 150 = 0 - (k : Int)) := Lib.hid (by omega)
        have H8 : Hid (-1074 ≤ (0 : Int) - (k : Int)) := Lib.hid (by omega)
        clear hk h5
        go_enter Tryz.func109, Tryz.ntmps109
        go_wp2_with fail
        rw [H4.out, H6.out]
        refine (twos_down false (f + 8388608) 0 k _ fl'.out H8.out (by decide)).mono ?_
        rintro e w' ⟨rfl, rfl⟩
        rw [← H7.out]
        have h3 := H3.out
        go_wp2_with fail
        go_ret
        exact ⟨ret_float Hn.out, rfl⟩

/-- the float at a place -/
def at32 (n : Int) : Nat := if n < 0 then n.natAbs + 2147483648 else n.natAbs

end Go.Proofs.YtngminjncdfjdaaGreatDoor
/- The walks of FloatOfBits and FloatAtPlace, of the model and of the program; and of the laws' own sameFloat. -/
namespace Go.Proofs.YtngminjncdfjdaaGreatDoor
set_option maxRecDepth 100000
open Go.RowKit

end Go.Proofs.YtngminjncdfjdaaGreatDoor
/- The walks of the model's FloatOfBits. -/
namespace Go.Proofs.YtngminjncdfjdaaGreatDoor
set_option maxRecDepth 100000
open Go.RowKit

theorem turned_yes (b : Nat) (w : World) (hb : b < 4294967296) (hn : nan32 b = false) : Calls Tryz.prog 82 #[.float .f32 b] w fun e w' => e = .returned (.float .f32 (if 2147483648 ≤ b then b - 2147483648 else b + 2147483648)) ∧ w = w' := by
  have hm : floatBits .mul .f32 b 3212836864 = some (if 2147483648 ≤ b then b - 2147483648 else b + 2147483648) := by
    by_cases hf : fin32 b = true
    · exact mul_neg1 b hb hf
    · refine mul_neg1_inf b hb ?_
      unfold fin32 at hf; unfold nan32 at hn; simp at hf hn; omega
  generalize (if 2147483648 ≤ b then b - 2147483648 else b + 2147483648) = c at *
  have hop : ∀ t w, (binOp .mul t (.float .f32 b) (.float .f32 3212836864)).run Tryz.prog w = .ok (.float .f32 c) w := fun t w => run_float_arith w .mul t .f32 _ _ _ hm
  clear hm
  go_enter Tryz.func82, Tryz.ntmps82
  go_wp2
  go_ret
  exact ⟨rfl, rfl⟩

end Go.Proofs.YtngminjncdfjdaaGreatDoor
/- Rounding to a float: plain mathematics. -/
namespace Go.Proofs.YtngminjncdfjdaaGreatDoor
set_option maxRecDepth 100000
open Go.RowKit
open Ieee

theorem blen_shl {v : Nat} (h : v ≠ 0) (k : Nat) : blen (2 ^ k * v) = k + blen v := by
  obtain ⟨h1, h2, h3⟩ := blen_bounds h
  have e := blen_eq (v := 2 ^ k * v) (k := k + (blen v - 1)) (by rw [Nat.pow_add]; exact Nat.mul_le_mul_left _ h2) (by
    rw [show k + (blen v - 1) + 1 = k + blen v by omega, Nat.pow_add]; exact Nat.mul_lt_mul_of_pos_left h3 (Nat.two_pow_pos k))
  omega
theorem blen_shr (v k : Nat) : blen (v / 2 ^ k) = blen v - k := by
  by_cases h0 : v / 2 ^ k = 0
  · rw [h0, blen_zero]
    have := (Nat.div_eq_zero_iff_lt (Nat.two_pow_pos k)).1 h0
    have := blen_lt.2 this
    omega
  · have hv : v ≠ 0 := fun e => h0 (by rw [e]; simp)
    obtain ⟨h1, h2, h3⟩ := blen_bounds hv
    have hk : k < blen v := by
      apply Decidable.byContradiction; intro hc
      have := blen_lt.1 (Nat.le_of_not_lt hc)
      exact h0 (Nat.div_eq_of_lt this)
    have e := blen_eq (v := v / 2 ^ k) (k := blen v - 1 - k) (by
        rw [Nat.le_div_iff_mul_le (Nat.two_pow_pos k), ← Nat.pow_add]; rwa [show blen v - 1 - k + k = blen v - 1 by omega]) (by
        rw [Nat.div_lt_iff_lt_mul (Nat.two_pow_pos k), ← Nat.pow_add]; rwa [show blen v - 1 - k + 1 + k = blen v by omega])
    omega

/-- the exponent of the step -/
def rQ (v : Nat) (E : Int) : Int := max ((blen v : Int) + E - 24) (-149)
/-- whole steps towards 0, where l bits are lost -/
def rT (v : Nat) (l : Int) : Nat := if l ≤ 0 then v * 2 ^ (-l).toNat else v / 2 ^ l.toNat
/-- something is lost -/
def rB (v : Nat) (l : Int) : Bool := decide (0 < l ∧ tz v < l.toNat)
/-- less than, just, or more than half of a step -/
def rH (v : Nat) (l : Int) : Int := if v / 2 ^ (l.toNat - 1) % 2 = 1 then (if tz v = l.toNat - 1 then 0 else 1) else -1
/-- what is lost leads away from 0 -/
def away (mode S : Int) (odd : Bool) (h : Int) : Bool :=
  if mode = 0 then (decide (0 < h) || (decide (h = 0) && odd)) else if mode = 1 then decide (S < 0) else if mode = 2 then decide (0 < S) else if mode = 3 then false else true
/-- the steps that are taken -/
def rM (mode S : Int) (v : Nat) (l : Int) : Nat := if rB v l = true ∧ away mode S (rT v l % 2 == 1) (rH v l) = true then rT v l + 1 else rT v l
/-- the number overflows -/
def rO (mode z E : Int) : Bool := decide ((128 : Int) < (blen (rM mode z.sign z.natAbs (rQ z.natAbs E - E)) : Int) + rQ z.natAbs E)
/-- the float -/
def rdF (z E mode : Int) : Nat :=
  if z = 0 then 0 else if rO mode z E = true then (if away mode z.sign false 1 = true then (if z < 0 then 4286578688 else 2139095040) else (if z < 0 then 4286578687 else 2139095039))
  else s32 (decide (z < 0)) (rM mode z.sign z.natAbs (rQ z.natAbs E - E)) (rQ z.natAbs E)
/-- the flags -/
def rdL (z E mode : Int) : Int :=
  if z = 0 then 0 else if rO mode z E = true then 5 else if rB z.natAbs (rQ z.natAbs E - E) = true then (if (blen z.natAbs : Int) + E ≤ -126 then 3 else 1) else 0

theorem rQ_shl {v : Nat} (h : v ≠ 0) (k : Nat) (E : Int) : rQ (2 ^ k * v) E = rQ v (E + k) := by
  unfold rQ; rw [blen_shl h]; congr 1; omega
theorem rT_shl (v k : Nat) (l : Int) : rT (2 ^ k * v) (l + k) = rT v l := by
  unfold rT
  by_cases h1 : l + k ≤ 0
  · rw [if_pos h1, if_pos (by omega), show (-l).toNat = k + (-(l + k)).toNat by omega, Nat.pow_add, Nat.mul_comm (2 ^ k) v, Nat.mul_assoc]
  · rw [if_neg h1]
    by_cases h2 : l ≤ 0
    · rw [if_pos h2, show k = (l + k).toNat + (-l).toNat by omega, Nat.pow_add, Nat.mul_assoc, show (l + ((l + k).toNat + (-l).toNat : Nat)).toNat = (l + k).toNat by omega, Nat.mul_div_cancel_left _ (Nat.two_pow_pos _), Nat.mul_comm]
    · rw [if_neg h2, show (l + k).toNat = k + l.toNat by omega, Nat.pow_add, Nat.mul_div_mul_left _ _ (Nat.two_pow_pos k)]
theorem rB_shl {v : Nat} (h : v ≠ 0) (k : Nat) (l : Int) : rB (2 ^ k * v) (l + k) = rB v l := by
  unfold rB; rw [tz_mul h]; congr 1; apply propext; constructor <;> intro hh <;> omega
theorem rH_shl {v : Nat} (h : v ≠ 0) (k : Nat) {l : Int} (hl : 0 < l) : rH (2 ^ k * v) (l + k) = rH v l := by
  unfold rH
  rw [show (l + k).toNat - 1 = k + (l.toNat - 1) by omega, Nat.pow_add, Nat.mul_div_mul_left _ _ (Nat.two_pow_pos k), tz_mul h]
  have e : (k + tz v = k + (l.toNat - 1)) = (tz v = l.toNat - 1) := by apply propext; constructor <;> intro hh <;> omega
  simp only [e]
theorem rM_shl {v : Nat} (h : v ≠ 0) (k : Nat) (mode S l : Int) : rM mode S (2 ^ k * v) (l + k) = rM mode S v l := by
  unfold rM
  rw [rT_shl, rB_shl h]
  by_cases hb : rB v l = true
  · have hl : 0 < l := by unfold rB at hb; simp at hb; exact hb.1
    rw [rH_shl h k hl]
  · rw [if_neg (fun hh => hb hh.1), if_neg (fun hh => hb hh.1)]
theorem rd_shl (k : Nat) (z E mode : Int) : rdF ((2 : Int) ^ k * z) E mode = rdF z (E + k) mode ∧ rdL ((2 : Int) ^ k * z) E mode = rdL z (E + k) mode := by
  by_cases hz : z = 0
  · subst hz; rw [Int.mul_zero]; unfold rdF rdL; rw [if_pos rfl, if_pos rfl, if_pos rfl, if_pos rfl]; exact ⟨rfl, rfl⟩
  · have hz' : (2 : Int) ^ k * z ≠ 0 := pow_mul_ne hz
    have hv : z.natAbs ≠ 0 := by omega
    have hn : ((2 : Int) ^ k * z < 0) = (z < 0) := by
      have := sign_pow_mul k z
      apply propext; rw [← Int.sign_eq_neg_one_iff_neg, ← Int.sign_eq_neg_one_iff_neg, this]
    have el : rQ z.natAbs (E + k) - E = (rQ z.natAbs (E + k) - (E + k)) + k := by omega
    have eo : rO mode ((2 : Int) ^ k * z) E = rO mode z (E + k) := by
      unfold rO
      rw [sign_pow_mul, abs_pow_mul, rQ_shl hv, el, rM_shl hv]
    unfold rdF rdL
    rw [if_neg hz, if_neg hz', if_neg hz, if_neg hz', eo, sign_pow_mul, abs_pow_mul, rQ_shl hv, el, rM_shl hv, rB_shl hv, blen_shl hv]
    simp only [hn]
    refine ⟨trivial, ?_⟩
    have e3 : (((k + blen z.natAbs : Nat) : Int) + E ≤ -126) = ((blen z.natAbs : Int) + (E + k) ≤ -126) := by apply propext; constructor <;> intro hh <;> omega
    simp only [e3]
theorem nz_pow (z : Int) : z = (2 : Int) ^ tz z.natAbs * nz z := by
  by_cases hz : z = 0
  · subst hz; rw [nz_zero, Int.mul_zero]
  · have hv : z.natAbs ≠ 0 := by omega
    have h := (tz_spec hv).1
    unfold nz
    rw [Int.mul_left_comm, pow_cast, ← Int.natCast_mul, ← h, Int.sign_mul_natAbs]
theorem rd_norm (z E mode : Int) : rdF (nz z) (nx z E) mode = rdF z E mode ∧ rdL (nz z) (nx z E) mode = rdL z E mode := by
  by_cases hz : z = 0
  · subst hz; rw [nz_zero]; unfold rdF rdL; rw [if_pos rfl, if_pos rfl, if_pos rfl, if_pos rfl]; exact ⟨rfl, rfl⟩
  · have h := rd_shl (tz z.natAbs) (nz z) E mode
    rw [← nz_pow] at h
    rw [nx_ne hz]
    exact ⟨h.1.symm, h.2.symm⟩

theorem rT_lt {v : Nat} (h : v ≠ 0) (E : Int) : rT v (rQ v E - E) < 16777216 := by
  have : blen (rT v (rQ v E - E)) ≤ 24 := by
    unfold rT
    by_cases h1 : rQ v E - E ≤ 0
    · rw [if_pos h1, Nat.mul_comm, blen_shl h]; unfold rQ at h1 ⊢; omega
    · rw [if_neg h1, blen_shr]; unfold rQ at h1 ⊢; omega
  have := blen_lt.1 this
  omega
theorem rM_le {v : Nat} (h : v ≠ 0) (mode S E : Int) : rM mode S v (rQ v E - E) ≤ 16777216 := by
  have := rT_lt h E
  unfold rM; split <;> omega
theorem rM_ge (mode S : Int) (v : Nat) (l : Int) : rT v l ≤ rM mode S v l := by unfold rM; split <;> omega
theorem blen_mono {a b : Nat} (h : a ≤ b) : blen a ≤ blen b := by
  have h1 : b < 2 ^ blen b := blen_lt.1 (Nat.le_refl _)
  exact blen_lt.2 (Nat.lt_of_le_of_lt h h1)
theorem rQ_le {v : Nat} (h : v ≠ 0) (mode S E : Int) (ho : (blen (rM mode S v (rQ v E - E)) : Int) + rQ v E ≤ 128) : -149 ≤ rQ v E ∧ rQ v E ≤ 104 := by
  refine ⟨by unfold rQ; omega, ?_⟩
  by_cases hq : rQ v E = -149
  · omega
  · have : 24 ≤ blen (rT v (rQ v E - E)) := by
      unfold rT
      by_cases h1 : rQ v E - E ≤ 0
      · rw [if_pos h1, Nat.mul_comm, blen_shl h]; unfold rQ at h1 hq ⊢; omega
      · rw [if_neg h1, blen_shr]; unfold rQ at h1 hq ⊢; omega
    have := blen_mono (rM_ge mode S v (rQ v E - E))
    omega
theorem repr_top (q : Int) : SameVal 16777216 q 8388608 (q + 1) := ⟨0, 1, by decide, by omega⟩
theorem blen_top : blen 16777216 = 25 := by decide +kernel
theorem conv_r (s : Bool) {m : Nat} {q : Int} (h1 : m ≤ 16777216) (h2 : -149 ≤ q) (h3 : q ≤ 104) (ho : (blen m : Int) + q ≤ 128) : floatToFloatBits .f64 (d64 s m q) .f32 = some (s32 s m q) := by
  by_cases h : m = 16777216
  · subst h
    rw [blen_top] at ho
    rw [d64_same s (repr_top q), s32_same s (repr_top q)]
    exact conv_6432 s (by decide) (by omega) (by omega)
  · exact conv_6432 s (by omega) h2 h3
/-- at an odd number, as the model tells it -/
theorem rB_odd {v : Nat} (h : v % 2 = 1) (l : Int) : rB v l = decide (0 < l) := by
  unfold rB; rw [tz_odd h]; congr 1; apply propext; constructor <;> intro hh <;> omega
theorem rH_odd {v : Nat} (h : v % 2 = 1) (l : Int) : rH v l = if v / 2 ^ (l.toNat - 1) % 2 = 1 then (if 0 = l.toNat - 1 then 0 else 1) else -1 := by
  unfold rH; rw [tz_odd h]

end Go.Proofs.YtngminjncdfjdaaGreatDoor
/- Doubles that are normal and positive, and the walk of math.Ldexp at whole numbers: it makes the number times the power of two. -/
namespace Go.Proofs.YtngminjncdfjdaaGreatDoor
set_option maxRecDepth 100000
open Go.RowKit
open Ieee
set_option linter.unusedSimpArgs false
set_option linter.unusedVariables false

/-- a normal double that is positive: its exponent's field and its fraction -/
structure Nd (X E F : Nat) : Prop where
  eq : X = E * 4503599627370496 + F
  lo : 1 ≤ E
  hi : E ≤ 2046
  fr : F < 4503599627370496
theorem Nd.canon {X E F : Nat} (h : Nd X E F) : Canon Ieee.double (4503599627370496 + F) (E - 1) := by
  have h1 := h.lo; have h2 := h.hi; have h3 := h.fr
  exact ⟨by rw [double_binade]; omega, .inr (by rw [double_binade]; omega), by rw [double_binade, double_inf]; omega⟩
theorem Nd.word {X E F : Nat} (h : Nd X E F) : Ieee.double.word false ((E - 1) * Ieee.double.binade + (4503599627370496 + F)) = X := by
  have h1 := h.lo; have h2 := h.hi; have h3 := h.fr
  unfold Format.word
  rw [if_neg (by decide), double_binade, h.eq]
  omega
theorem Nd.read {X E F : Nat} (h : Nd X E F) : Ieee.double.read X = .number false (4503599627370496 + F) (-1074 + ((E - 1 : Nat) : Int)) := by
  have := read_word_fin Ieee.double false h.canon
  rwa [h.word, double_least] at this
theorem Nd.nearest {X E F : Nat} (h : Nd X E F) : d64 false (4503599627370496 + F) (-1074 + ((E - 1 : Nat) : Int)) = X := by
  have := h.canon.nearest false
  rw [h.word, double_least] at this
  exact this
/-- a whole number, and times a power of two -/
theorem nd_of {n : Nat} (h0 : n ≠ 0) (hn : n < 9007199254740992) {q : Int} (h1 : -900 ≤ q) (h2 : q ≤ 900) : ∃ E F, Nd (d64 false n q) E F ∧ (E : Int) = (blen n : Int) + q + 1022 := by
  obtain ⟨b1, b2, b3⟩ := blen_bounds h0
  have b4 : blen n ≤ 53 := blen_lt.2 hn
  obtain ⟨M, hM⟩ : ∃ M, M = n * 2 ^ (53 - blen n) := ⟨_, rfl⟩
  have m1 : 4503599627370496 ≤ M := by
    have := Nat.mul_le_mul_right (2 ^ (53 - blen n)) b2
    rw [← Nat.pow_add, show blen n - 1 + (53 - blen n) = 52 by omega] at this
    omega
  have m2 : M < 9007199254740992 := by
    have := Nat.mul_lt_mul_of_pos_right b3 (Nat.two_pow_pos (53 - blen n))
    rw [← Nat.pow_add, show blen n + (53 - blen n) = 53 by omega] at this
    omega
  obtain ⟨E, hE⟩ : ∃ E : Nat, (E : Int) = (blen n : Int) + q + 1022 := ⟨((blen n : Int) + q + 1022).toNat, by omega⟩
  obtain ⟨X, hX⟩ : ∃ X, X = E * 4503599627370496 + (M - 4503599627370496) := ⟨_, rfl⟩
  have hd : Nd X E (M - 4503599627370496) := ⟨hX, by omega, by omega, by omega⟩
  have hs : SameVal n q M (q - ((53 - blen n : Nat) : Int)) := ⟨53 - blen n, 0, by rw [hM, Nat.pow_zero, Nat.mul_one], by omega⟩
  have := hd.nearest
  rw [show 4503599627370496 + (M - 4503599627370496) = M by omega, show (-1074 + ((E - 1 : Nat) : Int)) = q - ((53 - blen n : Nat) : Int) by omega, ← d64_same false hs] at this
  exact ⟨E, _, by rw [this]; exact hd, hE⟩
/-- the same fraction at both powers -/
theorem nd_both {n : Nat} (h0 : n ≠ 0) (hn : n < 9007199254740992) {q : Int} (h1 : -900 ≤ q) (h2 : q ≤ 900) : ∃ E E' F, Nd (d64 false n 0) E F ∧ Nd (d64 false n q) E' F ∧ (E' : Int) = E + q ∧ (E : Int) = (blen n : Int) + 1022 ∧ blen n ≤ 53 := by
  obtain ⟨b1, b2, b3⟩ := blen_bounds h0
  have b4 : blen n ≤ 53 := blen_lt.2 hn
  obtain ⟨E, F, e1, e2⟩ := nd_of h0 hn (q := 0) (by omega) (by omega)
  obtain ⟨E', hE'⟩ : ∃ E' : Nat, (E' : Int) = E + q := ⟨((E : Int) + q).toNat, by omega⟩
  have hr := e1.nearest
  have f := e1.fr
  obtain ⟨X, hX⟩ : ∃ X, X = E' * 4503599627370496 + F := ⟨_, rfl⟩
  have hd : Nd X E' F := ⟨hX, by omega, by omega, f⟩
  refine ⟨E, E', F, e1, ?_, hE', by omega, b4⟩
  have hx := hd.nearest
  have : d64 false n q = X := by
    obtain ⟨m', p', hr', hs', _⟩ := read64 false (m := n) (p := 0) hn (by omega) (by omega)
    have hrd := e1.read
    rw [hr'] at hrd
    injection hrd with _ e3 e4
    subst e3 e4
    have hs2 := hs'.symm.add q
    rw [Int.zero_add] at hs2
    rw [d64_same false hs2, ← hx]
    congr 1
    have := e1.lo
    have := hd.lo
    omega
  rw [this]; exact hd

theorem mag64_lt {E E' F F' : Nat} (f : F < 4503599627370496) (h : E < E') : (4503599627370496 + F) * 2 ^ E < (4503599627370496 + F') * 2 ^ E' := by
  have h1 : (4503599627370496 + F) * 2 ^ E < 9007199254740992 * 2 ^ E := Nat.mul_lt_mul_of_pos_right (by omega) (Nat.two_pow_pos E)
  have h2 : 4503599627370496 * 2 ^ (E + 1) ≤ 4503599627370496 * 2 ^ E' := Nat.mul_le_mul_left _ (Nat.pow_le_pow_right (by omega) h)
  have h3 : 4503599627370496 * 2 ^ E' ≤ (4503599627370496 + F') * 2 ^ E' := Nat.mul_le_mul_right _ (by omega)
  rw [Nat.pow_succ] at h2
  omega
theorem Nd.order {X E F X' E' F' : Nat} (h : Nd X E F) (h' : Nd X' E' F') : FloatKind.f64.format.order X X' = some (compare (((4503599627370496 + F) * 2 ^ (E - 1) : Nat) : Int) (((4503599627370496 + F') * 2 ^ (E' - 1) : Nat) : Int)) := by
  show (Ieee.double.read X).order (Ieee.double.read X') = _
  rw [h.read, h'.read, order_num false false _ _ _ _ (-1074) (by omega) (by omega), signed_eq, signed_eq]
  rw [show (-1074 + ((E - 1 : Nat) : Int) - -1074).toNat = E - 1 by omega, show (-1074 + ((E' - 1 : Nat) : Int) - -1074).toNat = E' - 1 by omega]
  simp only [Bool.false_eq_true, if_false, Int.one_mul, Int.natCast_mul, Int.natCast_pow]; rfl
theorem nd_max : Nd 9218868437227405311 2046 4503599627370495 := ⟨by decide, by decide, by decide, by decide⟩
theorem nd_least : Nd 4503599627370496 1 0 := ⟨by decide, by decide, by decide, by decide⟩
theorem nd_one : Nd 4607182418800017408 1023 0 := ⟨by decide, by decide, by decide, by decide⟩
theorem Nd.not_inf {X E F : Nat} (h : Nd X E F) : (FloatKind.f64.format.order X 9218868437227405311 == some .gt) = false := by
  rw [h.order nd_max, cmp_gt, decide_eq_false_iff_not]
  intro hh
  have hh := Int.ofNat_lt.1 hh
  have f := h.fr
  have e := h.hi
  have l := h.lo
  by_cases he : E = 2046
  · rw [he] at hh
    generalize 2 ^ (2046 - 1) = P at hh
    have : (4503599627370496 + F) * P ≤ (4503599627370496 + 4503599627370495) * P := Nat.mul_le_mul_right _ (by omega)
    omega
  · have := mag64_lt (E := E - 1) (E' := 2046 - 1) (F' := 4503599627370495) f (by omega)
    exact absurd hh (Nat.lt_asymm this)
theorem Nd.not_sub {X E F : Nat} (h : Nd X E F) : (FloatKind.f64.format.order X 4503599627370496 == some .lt) = false := by
  rw [h.order nd_least, cmp_lt, decide_eq_false_iff_not]
  intro hh
  have hh := Int.ofNat_lt.1 hh
  have l := h.lo
  have : (4503599627370496 + 0) * 2 ^ (1 - 1) ≤ (4503599627370496 + F) * 2 ^ (E - 1) := Nat.mul_le_mul (by omega) (Nat.pow_le_pow_right (by omega) (by omega))
  omega
theorem Nd.nan {X E F : Nat} (h : Nd X E F) : nan64 X = false := by unfold nan64; rw [h.read]; rfl
theorem Nd.ne {X E F : Nat} (h : Nd X E F) : (FloatKind.f64.format.order X X != some .eq) = false := by
  unfold bne; rw [self64 X h.nan]; rfl
theorem Nd.not_zero {X E F : Nat} (h : Nd X E F) : (FloatKind.f64.format.order X 0 == some .eq) = false := by
  rw [eq_zero64 X h.nan]; unfold zero64; rw [h.read]
  simp [Datum.isZero]
theorem Nd.lt {X E F : Nat} (h : Nd X E F) : X < 9218868437227405312 := by
  have h1 := h.lo; have h2 := h.hi; have h3 := h.fr; rw [h.eq]; omega

theorem andNot_u64_nat (a b : Nat) (ha : a < 18446744073709551616) (hb : b < 18446744073709551616) : bits .andNot .u64 (a : Int) (b : Int) = ((a &&& (18446744073709551615 - b) : Nat) : Int) := by
  have hx : a &&& (18446744073709551615 - b) ≤ a := Nat.and_le_left
  show IntKind.u64.wrap ((BitVec.ofInt 64 (a : Int) &&& ~~~BitVec.ofInt 64 (b : Int)).toNat : Int) = _
  rw [BitVec.toNat_and, BitVec.toNat_not, ofInt_nat64 a (by omega), ofInt_nat64 b (by omega)]
  have e : 2 ^ 64 - 1 - b = 18446744073709551615 - b := by omega
  rw [e]
  unfold IntKind.wrap
  simp only [show IntKind.u64.bits = 64 from rfl]
  have e : ((a &&& (18446744073709551615 - b) : Nat) : Int) % (2 ^ 64 : Int) = ((a &&& (18446744073709551615 - b) : Nat) : Int) := by omega
  rw [e]; simp [IntKind.signed]
theorem Nd.abs {X E F : Nat} (h : Nd X E F) : bits .andNot .u64 (X : Int) 9223372036854775808 = (X : Int) := by
  have hl := h.lt
  have := andNot_u64_nat X 9223372036854775808 (by omega) (by omega)
  rw [show ((9223372036854775808 : Nat) : Int) = 9223372036854775808 from rfl, show (18446744073709551615 - 9223372036854775808 : Nat) = 2 ^ 63 - 1 by decide, Nat.and_two_pow_sub_one_eq_mod] at this
  rw [this, Nat.mod_eq_of_lt (by omega)]
theorem Nd.field {X E F : Nat} (h : Nd X E F) : (X : Int) / 4503599627370496 = (E : Int) ∧ bits .and .i64 (E : Int) 2047 = (E : Int) := by
  have h1 := h.lo; have h2 := h.hi; have h3 := h.fr; have h4 := h.eq
  refine ⟨by omega, ?_⟩
  have := and_i64_nat E 2047 (by omega) (by omega)
  rw [show ((2047 : Nat) : Int) = 2047 from rfl, show (2047 : Nat) = 2 ^ 11 - 1 by decide, Nat.and_two_pow_sub_one_eq_mod] at this
  rw [this, Nat.mod_eq_of_lt (by omega)]
theorem Nd.cleared {X E F : Nat} (h : Nd X E F) : bits .andNot .u64 (X : Int) 9218868437227405312 = (F : Int) := by
  have hl := h.lt
  have h3 := h.fr; have h4 := h.eq
  have := andNot_u64_nat X 9218868437227405312 (by omega) (by omega)
  rw [show ((9218868437227405312 : Nat) : Int) = 9218868437227405312 from rfl] at this
  rw [this]
  congr 1
  have e2 : X % 2 ^ 52 = F := by omega
  rw [← e2]
  apply Nat.eq_of_testBit_eq
  intro i
  rw [Nat.testBit_and, Nat.testBit_mod_two_pow]
  have e3 : (18446744073709551615 - 9218868437227405312 : Nat) = 2 ^ 63 + (2 ^ 52 - 1) := by decide
  by_cases h52 : i < 52
  · have : (18446744073709551615 - 9218868437227405312 : Nat).testBit i = true := by
      rw [e3, Nat.add_comm, Nat.testBit_eq_decide_div_mod_eq]
      have hp : (2 : Nat) ^ 63 = 2 ^ i * (2 * 2 ^ (62 - i)) := by rw [← Nat.pow_succ', ← Nat.pow_add]; congr 1; omega
      rw [hp, Nat.add_mul_div_left _ _ (Nat.two_pow_pos i), Nat.add_mul_mod_self_left, ← Nat.testBit_eq_decide_div_mod_eq, Nat.testBit_two_pow_sub_one]
      simpa using h52
    rw [this]; simp [h52]
  · by_cases h63 : i < 63
    · have : (18446744073709551615 - 9218868437227405312 : Nat).testBit i = false := by
        rw [e3, Nat.testBit_eq_decide_div_mod_eq]
        have hp : (2 : Nat) ^ 63 = 2 ^ i * (2 * 2 ^ (62 - i)) := by rw [← Nat.pow_succ', ← Nat.pow_add]; congr 1; omega
        have hlt : 2 ^ 52 - 1 < 2 ^ i := Nat.lt_of_lt_of_le (show 2 ^ 52 - 1 < 2 ^ 52 by decide) (Nat.pow_le_pow_right (by omega) (by omega))
        rw [hp, Nat.add_comm, Nat.add_mul_div_left _ _ (Nat.two_pow_pos i), Nat.div_eq_of_lt hlt, Nat.zero_add, Nat.mul_mod_right]; rfl
      rw [this]; simp [h52]
    · have : X.testBit i = false := Nat.testBit_lt_two_pow (Nat.lt_of_lt_of_le hl (Nat.le_trans (by decide) (Nat.pow_le_pow_right (by omega) (Nat.le_of_not_lt h63))))
      rw [this]; simp [h52]
theorem nd_or {E F : Nat} (f : F < 4503599627370496) (e : E ≤ 2046) : bits .or .u64 (F : Int) ((E : Int) * 4503599627370496) = ((E * 4503599627370496 + F : Nat) : Int) := by
  have := bits_or_u64_nat F (E * 4503599627370496) (by omega) (by omega)
  rw [Int.natCast_mul, show ((4503599627370496 : Nat) : Int) = 4503599627370496 from rfl] at this
  rw [this, Nat.or_comm, show (4503599627370496 : Nat) = 2 ^ 52 by decide, Nat.mul_comm, Nat.two_pow_add_eq_or_of_lt (i := 52) (by omega)]

theorem mul_nd {X E F : Nat} (h : Nd X E F) : floatBits .mul .f64 4607182418800017408 X = some X := by
  show Ieee.double.mul _ _ = _
  unfold Format.mul
  rw [nd_one.read, h.read]
  show some (Format.nearest _ _ _ _) = _
  congr 1
  rw [← h.nearest]
  unfold d64
  refine nearest_same _ _ ⟨0, 52, ?_, ?_⟩ 
  · rw [Nat.pow_zero, Nat.mul_one, Nat.add_zero, Nat.mul_comm]
  · omega
end Go.Proofs.YtngminjncdfjdaaGreatDoor
/- The walk of math.Ldexp at whole numbers: it makes the number times the power of two. -/
namespace Go.Proofs.YtngminjncdfjdaaGreatDoor
set_option maxRecDepth 100000
open Go.RowKit
open Ieee
set_option linter.unusedSimpArgs false
set_option linter.unusedVariables false

theorem run_fbits64 (b : Nat) (w : World) : (callFunc 94 #[.float .f64 b]).run Tryz.prog w = .ok (.value (.int .u64 b)) w := by
  rw [run_callFunc_extern Tryz.func94 (by kernel_rfl) (by kernel_rfl) (by kernel_rfl) (e := Extern.MathFloatBits.float64bits) (by kernel_rfl)]; rfl
theorem run_ffrom64 (n : Nat) (w : World) : (callFunc 93 #[.int .u64 n]).run Tryz.prog w = .ok (.value (.float .f64 n)) w := by
  rw [run_callFunc_extern Tryz.func93 (by kernel_rfl) (by kernel_rfl) (by kernel_rfl) (e := Extern.MathFloatBits.float64frombits) (by kernel_rfl)]; rfl

theorem abs_nd {X E F : Nat} (h : Nd X E F) (w : World) : Calls Tryz.prog 141 #[.float .f64 X] w fun e w' => e = .returned (.float .f64 X) ∧ w = w' := by
  have h1 := run_fbits64 X
  have h2 := run_ffrom64 X
  have h3 := h.abs
  go_enter Tryz.func141, Tryz.ntmps141
  go_wp2_with fail
  go_ret
  exact ⟨rfl, rfl⟩
theorem isInf_nd {X E F : Nat} (hd : Nd X E F) (w : World) : Calls Tryz.prog 137 #[.float .f64 X, .int .i64 0] w fun e w' => e = .returned (.bool false) ∧ w = w' := by
  have h := hd.not_inf
  have Hd := Lib.hid hd
  clear hd
  go_enter Tryz.func137, Tryz.ntmps137
  go_wp2_with fail
  refine (abs_nd Hd.out _).mono ?_
  rintro e w' ⟨rfl, rfl⟩
  go_wp2_with fail
  go_ret
  exact ⟨rfl, rfl⟩
theorem isNaN_nd {X E F : Nat} (hd : Nd X E F) (w : World) : Calls Tryz.prog 138 #[.float .f64 X] w fun e w' => e = .returned (.bool false) ∧ w = w' := by
  have h := hd.ne
  clear hd
  go_enter Tryz.func138, Tryz.ntmps138
  go_wp2_with fail
  go_ret
  exact ⟨rfl, rfl⟩
theorem normalize_nd {X E F : Nat} (hd : Nd X E F) (w : World) : Calls Tryz.prog 139 #[.float .f64 X] w fun e w' => e = .returned (.tuple #[.float .f64 X, .int .i64 0]) ∧ w = w' := by
  have h := hd.not_sub
  have Hd := Lib.hid hd
  clear hd
  go_enter Tryz.func139, Tryz.ntmps139
  go_wp2_with fail
  refine (abs_nd Hd.out _).mono ?_
  rintro e w' ⟨rfl, rfl⟩
  go_wp2_with fail
  go_ret2
  exact ⟨rfl, rfl⟩

set_option maxHeartbeats 800000 in
theorem ldexp_nd {X E F X' E' : Nat} (q : Int) (w : World) (hd : Nd X E F) (hd' : Nd X' E' F) (he : (E' : Int) = E + q) (h1 : -900 ≤ q) (h2 : q ≤ 900) :
    Calls Tryz.prog 131 #[.float .f64 X, .int .i64 q] w fun r w' => r = .returned (.float .f64 X') ∧ w = w' := by
  have g0 := hd.not_zero
  have gb := run_fbits64 X
  have g1 := hd.cleared
  obtain ⟨g2, g2'⟩ := hd.field
  have e1 : (1 : Int) ≤ E := by have := hd.lo; omega
  have e2 : (E : Int) ≤ 2046 := by have := hd.hi; omega
  have e3 : (1 : Int) ≤ E + q := by have := hd'.lo; omega
  have e4 : (E : Int) + q ≤ 2046 := by have := hd'.hi; omega
  have x1 : (0 : Int) ≤ X := by omega
  have x2 : (X : Int) ≤ 9218868437227405311 := by have := hd.lt; omega
  have g3 : bits .or .u64 (F : Int) ((q + (E - 1023) + 1023) * 4503599627370496) = (X' : Int) := by
    have := nd_or hd.fr hd'.hi
    rw [he] at this
    rw [show q + (E - 1023 : Int) + 1023 = E + q by omega, this, hd'.eq]
  have hx := run_ffrom64 X'
  have hm := mul_nd hd'
  have hop : ∀ t w, (binOp .mul t (.float .f64 4607182418800017408) (.float .f64 X')).run Tryz.prog w = .ok (.float .f64 X') w := fun t w => run_float_arith w .mul t .f64 _ _ _ hm
  have Hd := Lib.hid hd
  clear hm hd hd' he
  go_enter Tryz.func131, Tryz.ntmps131
  go_wp2_with fail
  refine (isInf_nd Hd.out _).mono ?_
  rintro e w' ⟨rfl, rfl⟩
  go_wp2_with fail
  refine (isNaN_nd Hd.out _).mono ?_
  rintro e w' ⟨rfl, rfl⟩
  go_wp2_with fail
  refine (normalize_nd Hd.out _).mono ?_
  rintro e w' ⟨rfl, rfl⟩
  go_wp2_with fail
  go_ret
  exact ⟨rfl, rfl⟩

theorem ldexp_zero (q : Int) (w : World) : Calls Tryz.prog 131 #[.float .f64 0, .int .i64 q] w fun r w' => r = .returned (.float .f64 0) ∧ w = w' := by
  have g0 : (FloatKind.f64.format.order 0 0 == some .eq) = true := by decide +kernel
  go_enter Tryz.func131, Tryz.ntmps131
  go_wp2_with fail
  go_ret
  exact ⟨rfl, rfl⟩
theorem d64_zero (q : Int) : d64 false 0 q = 0 := by unfold d64 Format.nearest; simp [Format.word]; try rfl
theorem Ldexp_any (n : Nat) (q : Int) (w : World) (hn : n < 9007199254740992) (h1 : -900 ≤ q) (h2 : q ≤ 900) :
    Calls Tryz.prog 106 #[.float .f64 (d64 false n 0), .int .i64 q] w fun r w' => r = .returned (.float .f64 (d64 false n q)) ∧ w = w' := by
  by_cases h0 : n = 0
  · subst h0
    rw [d64_zero, d64_zero]
    go_enter Tryz.func106, Tryz.ntmps106
    go_wp2_with fail
    refine (ldexp_zero _ _).mono ?_
    rintro e w' ⟨rfl, rfl⟩
    go_wp2_with fail
    go_ret
    exact ⟨rfl, rfl⟩
  · obtain ⟨E, E', F, d1, d2, he, _, _⟩ := nd_both h0 hn h1 h2
    have Hd := Lib.hid d1
    have Hd' := Lib.hid d2
    have He := Lib.hid he
    clear d1 d2 he
    go_enter Tryz.func106, Tryz.ntmps106
    go_wp2_with fail
    refine (ldexp_nd q _ Hd.out Hd'.out He.out h1 h2).mono ?_
    rintro e w' ⟨rfl, rfl⟩
    go_wp2_with fail
    go_ret
    exact ⟨rfl, rfl⟩
end Go.Proofs.YtngminjncdfjdaaGreatDoor
/- Boxes of the rounding's own structures, and the small functions about an excess, of the program. -/
namespace Go.Proofs.YtngminjncdfjdaaGreatDoor
set_option maxRecDepth 100000
open Go.RowKit
set_option linter.unusedSimpArgs false
set_option linter.unusedVariables false
attribute [local go_sem ↓] Go.wp_at_zero Go.wp_at_succ

/-- a format's box -/
def FBox (w : World) (b : Nat) (p l m : Int) : Prop := (w.cell? ⟨b, 0, none⟩ = some (.int .i64 p) ∧ w.cell? ⟨b, 1, none⟩ = some (.int .i64 l) ∧ w.cell? ⟨b, 2, none⟩ = some (.int .i64 m)) ∧ b < w.heap.size
/-- an excess's box -/
def EBox (w : World) (b : Nat) (S : Int) (o t : Bool) (h : Int) : Prop := (w.cell? ⟨b, 0, none⟩ = some (.int .i64 S) ∧ w.cell? ⟨b, 1, none⟩ = some (.bool o) ∧ w.cell? ⟨b, 2, none⟩ = some (.bool t) ∧ w.cell? ⟨b, 3, none⟩ = some (.int .i64 h)) ∧ b < w.heap.size
/-- nothing of it is frozen -/
def Fr4 (w : World) (b : Nat) : Prop := (w.frozen? ⟨b, 0, none⟩ = false ∧ w.frozen? ⟨b, 1, none⟩ = false ∧ w.frozen? ⟨b, 2, none⟩ = false ∧ w.frozen? ⟨b, 3, none⟩ = false) ∧ b < w.heap.size
section
variable {w w' : World} {b : Nat} {p l m S h : Int} {o t : Bool}
theorem FBox.next (x : FBox w b p l m) (hb : Below w.heap.size w w') : FBox w' b p l m :=
  ⟨⟨(hb.cell (p := ⟨b, 0, none⟩) x.2).trans x.1.1, (hb.cell (p := ⟨b, 1, none⟩) x.2).trans x.1.2.1, (hb.cell (p := ⟨b, 2, none⟩) x.2).trans x.1.2.2⟩, Nat.lt_of_lt_of_le x.2 hb.size⟩
theorem EBox.next (x : EBox w b S o t h) (hb : Below w.heap.size w w') : EBox w' b S o t h :=
  ⟨⟨(hb.cell (p := ⟨b, 0, none⟩) x.2).trans x.1.1, (hb.cell (p := ⟨b, 1, none⟩) x.2).trans x.1.2.1, (hb.cell (p := ⟨b, 2, none⟩) x.2).trans x.1.2.2.1, (hb.cell (p := ⟨b, 3, none⟩) x.2).trans x.1.2.2.2⟩, Nat.lt_of_lt_of_le x.2 hb.size⟩
theorem Fr4.next (x : Fr4 w b) (hb : Below w.heap.size w w') : Fr4 w' b :=
  ⟨⟨(hb.frozen (p := ⟨b, 0, none⟩) x.2).trans x.1.1, (hb.frozen (p := ⟨b, 1, none⟩) x.2).trans x.1.2.1, (hb.frozen (p := ⟨b, 2, none⟩) x.2).trans x.1.2.2.1, (hb.frozen (p := ⟨b, 3, none⟩) x.2).trans x.1.2.2.2⟩, Nat.lt_of_lt_of_le x.2 hb.size⟩
theorem FBox.drew (x : FBox w b p l m) : FBox w.drew b p l m := x
theorem EBox.drew (x : EBox w b S o t h) : EBox w.drew b S o t h := x
theorem Fr4.drew (x : Fr4 w b) : Fr4 w.drew b := x
theorem FBox.keep (x : FBox w b p l m) {q : Addr} (hq : q.block ≠ b) (u : Value) : FBox (w.setCell q u) b p l m := by
  have hk : ∀ o, (w.setCell q u).cell? ⟨b, o, none⟩ = w.cell? ⟨b, o, none⟩ := fun o => World.cell?_of_block (a := ⟨b, o, none⟩) (Below.heap_setCell _ _ _ _ (fun e => hq e.symm))
  exact ⟨⟨(hk 0).trans x.1.1, (hk 1).trans x.1.2.1, (hk 2).trans x.1.2.2⟩, by have := x.2; simpa using this⟩
theorem EBox.keep (x : EBox w b S o t h) {q : Addr} (hq : q.block ≠ b) (u : Value) : EBox (w.setCell q u) b S o t h := by
  have hk : ∀ o, (w.setCell q u).cell? ⟨b, o, none⟩ = w.cell? ⟨b, o, none⟩ := fun o => World.cell?_of_block (a := ⟨b, o, none⟩) (Below.heap_setCell _ _ _ _ (fun e => hq e.symm))
  exact ⟨⟨(hk 0).trans x.1.1, (hk 1).trans x.1.2.1, (hk 2).trans x.1.2.2.1, (hk 3).trans x.1.2.2.2⟩, by have := x.2; simpa using this⟩
theorem EBox.new (w : World) (S : Int) (o t : Bool) (h : Int) (T : TypeId) : EBox (w.alloc (.cells #[.int .i64 S, .bool o, .bool t, .int .i64 h] T)) w.heap.size S o t h := by
  refine ⟨⟨?_, ?_, ?_, ?_⟩, ?_⟩
  · go_simp
  · go_simp
  · go_simp
  · go_simp
  · simp
theorem Fr4.new (w : World) (S : Int) (o t : Bool) (h : Int) (T : TypeId) : Fr4 (w.alloc (.cells #[.int .i64 S, .bool o, .bool t, .int .i64 h] T)) w.heap.size := by
  refine ⟨⟨?_, ?_, ?_, ?_⟩, ?_⟩
  · go_simp
  · go_simp
  · go_simp
  · go_simp
  · simp
theorem FBox.new (w : World) (p l m : Int) (T : TypeId) : FBox (w.alloc (.cells #[.int .i64 p, .int .i64 l, .int .i64 m] T)) w.heap.size p l m := by
  refine ⟨⟨?_, ?_, ?_⟩, ?_⟩
  · go_simp
  · go_simp
  · go_simp
  · simp
end

theorem exDown_any (S : Int) (o t : Bool) (h : Int) (w : World) : Calls Tryz.prog 126 #[.agg #[.int .i64 S, .bool o, .bool t, .int .i64 h]] w fun e w' => e = .returned (.bool (decide (S < 0))) ∧ Below w.heap.size w w' := by
  go_enter Tryz.func126, Tryz.ntmps126
  go_wp2_with fail
  go_ret
  exact ⟨rfl, belAlloc1 _ _⟩
theorem exUp_any (S : Int) (o t : Bool) (h : Int) (w : World) : Calls Tryz.prog 127 #[.agg #[.int .i64 S, .bool o, .bool t, .int .i64 h]] w fun e w' => e = .returned (.bool (decide (0 < S))) ∧ Below w.heap.size w w' := by
  go_enter Tryz.func127, Tryz.ntmps127
  go_wp2_with fail
  go_ret
  exact ⟨rfl, belAlloc1 _ _⟩
theorem exZero_any (S : Int) (o t : Bool) (h : Int) (w : World) : Calls Tryz.prog 128 #[.agg #[.int .i64 S, .bool o, .bool t, .int .i64 h]] w fun e w' => e = .returned (.bool false) ∧ Below w.heap.size w w' := by
  go_enter Tryz.func128, Tryz.ntmps128
  go_wp2_with fail
  go_ret
  exact ⟨rfl, by first | exact belAlloc1 _ _ | exact Below.refl _ _⟩
theorem exOut_any (S : Int) (o t : Bool) (h : Int) (w : World) : Calls Tryz.prog 129 #[.agg #[.int .i64 S, .bool o, .bool t, .int .i64 h]] w fun e w' => e = .returned (.bool true) ∧ Below w.heap.size w w' := by
  go_enter Tryz.func129, Tryz.ntmps129
  go_wp2_with fail
  go_ret
  exact ⟨rfl, by first | exact belAlloc1 _ _ | exact Below.refl _ _⟩
theorem exNear_any (S : Int) (o t : Bool) (h : Int) (w : World) : Calls Tryz.prog 125 #[.agg #[.int .i64 S, .bool o, .bool t, .int .i64 h]] w fun e w' => e = .returned (.bool (decide (0 < h) || (decide (h = 0) && o))) ∧ Below w.heap.size w w' := by
  by_cases h1 : 0 < h
  · have h2 : decide (0 < h) = true := decide_eq_true h1
    rw [h2]
    go_enter Tryz.func125, Tryz.ntmps125
    go_wp2_with fail
    go_ret
    exact ⟨rfl, belAlloc1 _ _⟩
  · have h2 : decide (0 < h) = false := decide_eq_false h1
    rw [h2]
    by_cases h3 : h = 0
    · subst h3
      go_enter Tryz.func125, Tryz.ntmps125
      go_wp2_with fail
      go_ret
      exact ⟨by cases o <;> rfl, belAlloc1 _ _⟩
    · have h4 : decide (h = 0) = false := decide_eq_false h3
      have h5 : (h == 0) = false := beq_false_of_ne h3
      rw [h4]
      go_enter Tryz.func125, Tryz.ntmps125
      go_wp2_with fail
      go_ret
      exact ⟨rfl, belAlloc1 _ _⟩
theorem assert32 (w : World) (v : Value) : (Instr.typeAssert (.iface 22 v) 20 22 true).run Tryz.prog w = .ok (.tuple #[v, .bool true]) w := by kernel_rfl
theorem fmt32_any (w : World) : Calls Tryz.prog 101 #[] w fun e w' => e = .returned (.agg #[.int .i64 24, .int .i64 (-149), .int .i64 128]) ∧ Below w.heap.size w w' := by
  have ha := assert32
  go_enter Tryz.func101, Tryz.ntmps101
  go_wp2_with fail
  exact bodyPost_ret (v := .agg #[.int .i64 24, .int .i64 (-149), .int .i64 128]) (by simp [results, Tryz.results101, go_sem]) rfl ⟨rfl, by repeat (first | exact Below.refl _ _ | refine Below.alloc ?_ (by first | (simp; done) | (simp; omega)) _ | refine Below.setCell ?_ (by first | (simp; done) | (simp; omega)) _)⟩

theorem store_func (P : Program) (w : World) (a : Addr) (m : Mode) (f : Fn) (x : Array Value) (y : Array Value) : (store a (.func f x y) m).run P w = stored P w a (.func f x y) m := run_store P w a _ m rfl
set_option maxHeartbeats 400000 in
theorem leads0 (S : Int) (o t : Bool) (h : Int) (w : World) : Calls Tryz.prog 104 #[.agg #[.int .i64 S, .bool o, .bool t, .int .i64 h], .int .i64 0] w fun e w' => e = .returned (.bool (away 0 S o h)) ∧ Below w.heap.size w w' := by
  have hsf := store_func Tryz.prog
  obtain ⟨w1, hw1⟩ : ∃ w1, w1 = (w.alloc (.cells #[.int .i64 S, .bool o, .bool t, .int .i64 h] 109)).alloc (.cells #[.func (.func 125) #[] #[], .func (.func 126) #[] #[], .func (.func 127) #[] #[], .func (.func 128) #[] #[], .func (.func 129) #[] #[]] 127) := ⟨_, rfl⟩
  have Bx1 : Hid (EBox w1 w.heap.size S o t h) := Lib.hid (by rw [hw1]; exact (EBox.new _ _ _ _ _ _).next (belAlloc1 _ _))
  have hf : w1.cell? ⟨w.heap.size + 1, 0, none⟩ = some (.func (.func 125) #[] #[]) := by rw [hw1]; go_simp
  have Bel1 : Hid (Below w.heap.size w w1) := Lib.hid (by rw [hw1]; exact belNext (belAlloc1 _ _) (belAlloc1 _ _))
  have Hw := Lib.hid hw1
  clear hw1
  go_enter Tryz.func104, Tryz.ntmps104
  go_wp2_with fail
  rw [← Hw.out]
  obtain ⟨⟨hBx0, hBx1, hBx2, hBx3⟩, hBx4⟩ := Bx1.out
  refine wp_region_held_drew (S := fun w' => w'.cell? ⟨w.heap.size + 1, 0, none⟩ = some (.func (.func 125) #[] #[]) ∧ (w'.cell? ⟨w.heap.size, 0, none⟩ = some (.int .i64 S) ∧ w'.cell? ⟨w.heap.size, 1, none⟩ = some (.bool o) ∧ w'.cell? ⟨w.heap.size, 2, none⟩ = some (.bool t) ∧ w'.cell? ⟨w.heap.size, 3, none⟩ = some (.int .i64 h))) (by kernel_rfl) ⟨hf, Bx1.out.1⟩ (fun hHeld => ?_)
  clear hBx0 hBx1 hBx2 hBx3 hBx4
  clear hf
  refine wpAnyH_take (i := 0) (v := ?_) rfl (by kernel_rfl) (by kernel_rfl) (by kernel_rfl) (fun _ _ _ h => h) (Or.inl ⟨by rfl, ?_⟩) (by assumption) ?_
  rotate_left
  · (intro w hSw; (try dsimp only at hSw); go_simp; (try with_reducible rfl))
  try simp only [Act.put, List.setIfInBounds_toArray, List.set_cons_zero, List.set_cons_succ]
  refine wpAnyH_take (i := 1) (v := ?_) rfl (by kernel_rfl) (by kernel_rfl) (by kernel_rfl) (fun _ _ _ h => h) (Or.inl ⟨by rfl, ?_⟩) (by assumption) ?_
  rotate_left
  · (intro w hSw; (try dsimp only at hSw); go_simp; (try with_reducible rfl))
  try simp only [Act.put, List.setIfInBounds_toArray, List.set_cons_zero, List.set_cons_succ]
  refine wpAnyH_take (i := 2) (v := ?_) rfl (by kernel_rfl) (by kernel_rfl) (by kernel_rfl) (fun _ _ _ h => h) (Or.inl ⟨by rfl, ?_⟩) (by assumption) ?_
  rotate_left
  · (intro w hSw; (try dsimp only at hSw); go_simp; (try with_reducible rfl))
  try simp only [Act.put, List.setIfInBounds_toArray, List.set_cons_zero, List.set_cons_succ]
  refine wpAnyH_take (i := 3) (v := ?_) rfl (by kernel_rfl) (by kernel_rfl) (by kernel_rfl) (fun _ _ _ h => h) (Or.inl ⟨by rfl, ?_⟩) (by assumption) ?_
  rotate_left
  · (intro w hSw; (try dsimp only at hSw); go_simp; (try with_reducible rfl))
  try simp only [Act.put, List.setIfInBounds_toArray, List.set_cons_zero, List.set_cons_succ]
  refine wpAnyH_ready (rs := [4]) (by kernel_rfl) (by simp) ?_
  refine AllReadyH.cons rfl (fun K hK => ?_) AllReadyH.nil
  go_simp
  refine (exNear_any S o t h w1.drew).mono ?_
  rintro e w2 ⟨rfl, hb0⟩
  have hb : Below w1.heap.size w1 w2 := belDrew hb0
  have hH2 := hHeld
  refine hK.out _ _ ⟨(hb.cell (p := ⟨w.heap.size + 1, 0, none⟩) (by have := Hw.out; rw [this]; simp)).trans hH2.1, (Bx1.out.next hb).1⟩ (fun hHeld => ?_)
  clear hK K hb0 hH2
  have Bel2 := Lib.hid (belNext Bel1.out hb)
  clear hb Bel1 Bx1
  try simp only [Act.put, List.setIfInBounds_toArray, List.set_cons_zero, List.set_cons_succ]
  refine wpAnyH_ready (rs := [5]) (by kernel_rfl) (by simp) ?_
  refine AllReadyH.cons rfl (fun K hK => ?_) AllReadyH.nil
  go_simp
  refine hK.out _ _ hHeld (fun hHeld => ?_)
  clear hK K
  try simp only [Act.put, List.setIfInBounds_toArray, List.set_cons_zero, List.set_cons_succ]
  clear hHeld
  refine wpAnyH_done (by kernel_rfl) ?_ _
  go_wp2_with fail
  go_ret
  exact ⟨rfl, Bel2.out⟩
set_option maxHeartbeats 400000 in
theorem leads1 (S : Int) (o t : Bool) (h : Int) (w : World) : Calls Tryz.prog 104 #[.agg #[.int .i64 S, .bool o, .bool t, .int .i64 h], .int .i64 1] w fun e w' => e = .returned (.bool (away 1 S o h)) ∧ Below w.heap.size w w' := by
  have hsf := store_func Tryz.prog
  obtain ⟨w1, hw1⟩ : ∃ w1, w1 = (w.alloc (.cells #[.int .i64 S, .bool o, .bool t, .int .i64 h] 109)).alloc (.cells #[.func (.func 125) #[] #[], .func (.func 126) #[] #[], .func (.func 127) #[] #[], .func (.func 128) #[] #[], .func (.func 129) #[] #[]] 127) := ⟨_, rfl⟩
  have Bx1 : Hid (EBox w1 w.heap.size S o t h) := Lib.hid (by rw [hw1]; exact (EBox.new _ _ _ _ _ _).next (belAlloc1 _ _))
  have hf : w1.cell? ⟨w.heap.size + 1, 1, none⟩ = some (.func (.func 126) #[] #[]) := by rw [hw1]; go_simp
  have Bel1 : Hid (Below w.heap.size w w1) := Lib.hid (by rw [hw1]; exact belNext (belAlloc1 _ _) (belAlloc1 _ _))
  have Hw := Lib.hid hw1
  clear hw1
  go_enter Tryz.func104, Tryz.ntmps104
  go_wp2_with fail
  rw [← Hw.out]
  obtain ⟨⟨hBx0, hBx1, hBx2, hBx3⟩, hBx4⟩ := Bx1.out
  refine wp_region_held_drew (S := fun w' => w'.cell? ⟨w.heap.size + 1, 1, none⟩ = some (.func (.func 126) #[] #[]) ∧ (w'.cell? ⟨w.heap.size, 0, none⟩ = some (.int .i64 S) ∧ w'.cell? ⟨w.heap.size, 1, none⟩ = some (.bool o) ∧ w'.cell? ⟨w.heap.size, 2, none⟩ = some (.bool t) ∧ w'.cell? ⟨w.heap.size, 3, none⟩ = some (.int .i64 h))) (by kernel_rfl) ⟨hf, Bx1.out.1⟩ (fun hHeld => ?_)
  clear hBx0 hBx1 hBx2 hBx3 hBx4
  clear hf
  refine wpAnyH_take (i := 0) (v := ?_) rfl (by kernel_rfl) (by kernel_rfl) (by kernel_rfl) (fun _ _ _ h => h) (Or.inl ⟨by rfl, ?_⟩) (by assumption) ?_
  rotate_left
  · (intro w hSw; (try dsimp only at hSw); go_simp; (try with_reducible rfl))
  try simp only [Act.put, List.setIfInBounds_toArray, List.set_cons_zero, List.set_cons_succ]
  refine wpAnyH_take (i := 1) (v := ?_) rfl (by kernel_rfl) (by kernel_rfl) (by kernel_rfl) (fun _ _ _ h => h) (Or.inl ⟨by rfl, ?_⟩) (by assumption) ?_
  rotate_left
  · (intro w hSw; (try dsimp only at hSw); go_simp; (try with_reducible rfl))
  try simp only [Act.put, List.setIfInBounds_toArray, List.set_cons_zero, List.set_cons_succ]
  refine wpAnyH_take (i := 2) (v := ?_) rfl (by kernel_rfl) (by kernel_rfl) (by kernel_rfl) (fun _ _ _ h => h) (Or.inl ⟨by rfl, ?_⟩) (by assumption) ?_
  rotate_left
  · (intro w hSw; (try dsimp only at hSw); go_simp; (try with_reducible rfl))
  try simp only [Act.put, List.setIfInBounds_toArray, List.set_cons_zero, List.set_cons_succ]
  refine wpAnyH_take (i := 3) (v := ?_) rfl (by kernel_rfl) (by kernel_rfl) (by kernel_rfl) (fun _ _ _ h => h) (Or.inl ⟨by rfl, ?_⟩) (by assumption) ?_
  rotate_left
  · (intro w hSw; (try dsimp only at hSw); go_simp; (try with_reducible rfl))
  try simp only [Act.put, List.setIfInBounds_toArray, List.set_cons_zero, List.set_cons_succ]
  refine wpAnyH_ready (rs := [4]) (by kernel_rfl) (by simp) ?_
  refine AllReadyH.cons rfl (fun K hK => ?_) AllReadyH.nil
  go_simp
  refine (exDown_any S o t h w1.drew).mono ?_
  rintro e w2 ⟨rfl, hb0⟩
  have hb : Below w1.heap.size w1 w2 := belDrew hb0
  have hH2 := hHeld
  refine hK.out _ _ ⟨(hb.cell (p := ⟨w.heap.size + 1, 1, none⟩) (by have := Hw.out; rw [this]; simp)).trans hH2.1, (Bx1.out.next hb).1⟩ (fun hHeld => ?_)
  clear hK K hb0 hH2
  have Bel2 := Lib.hid (belNext Bel1.out hb)
  clear hb Bel1 Bx1
  try simp only [Act.put, List.setIfInBounds_toArray, List.set_cons_zero, List.set_cons_succ]
  refine wpAnyH_ready (rs := [5]) (by kernel_rfl) (by simp) ?_
  refine AllReadyH.cons rfl (fun K hK => ?_) AllReadyH.nil
  go_simp
  refine hK.out _ _ hHeld (fun hHeld => ?_)
  clear hK K
  try simp only [Act.put, List.setIfInBounds_toArray, List.set_cons_zero, List.set_cons_succ]
  clear hHeld
  refine wpAnyH_done (by kernel_rfl) ?_ _
  go_wp2_with fail
  go_ret
  exact ⟨rfl, Bel2.out⟩
set_option maxHeartbeats 400000 in
theorem leads2 (S : Int) (o t : Bool) (h : Int) (w : World) : Calls Tryz.prog 104 #[.agg #[.int .i64 S, .bool o, .bool t, .int .i64 h], .int .i64 2] w fun e w' => e = .returned (.bool (away 2 S o h)) ∧ Below w.heap.size w w' := by
  have hsf := store_func Tryz.prog
  obtain ⟨w1, hw1⟩ : ∃ w1, w1 = (w.alloc (.cells #[.int .i64 S, .bool o, .bool t, .int .i64 h] 109)).alloc (.cells #[.func (.func 125) #[] #[], .func (.func 126) #[] #[], .func (.func 127) #[] #[], .func (.func 128) #[] #[], .func (.func 129) #[] #[]] 127) := ⟨_, rfl⟩
  have Bx1 : Hid (EBox w1 w.heap.size S o t h) := Lib.hid (by rw [hw1]; exact (EBox.new _ _ _ _ _ _).next (belAlloc1 _ _))
  have hf : w1.cell? ⟨w.heap.size + 1, 2, none⟩ = some (.func (.func 127) #[] #[]) := by rw [hw1]; go_simp
  have Bel1 : Hid (Below w.heap.size w w1) := Lib.hid (by rw [hw1]; exact belNext (belAlloc1 _ _) (belAlloc1 _ _))
  have Hw := Lib.hid hw1
  clear hw1
  go_enter Tryz.func104, Tryz.ntmps104
  go_wp2_with fail
  rw [← Hw.out]
  obtain ⟨⟨hBx0, hBx1, hBx2, hBx3⟩, hBx4⟩ := Bx1.out
  refine wp_region_held_drew (S := fun w' => w'.cell? ⟨w.heap.size + 1, 2, none⟩ = some (.func (.func 127) #[] #[]) ∧ (w'.cell? ⟨w.heap.size, 0, none⟩ = some (.int .i64 S) ∧ w'.cell? ⟨w.heap.size, 1, none⟩ = some (.bool o) ∧ w'.cell? ⟨w.heap.size, 2, none⟩ = some (.bool t) ∧ w'.cell? ⟨w.heap.size, 3, none⟩ = some (.int .i64 h))) (by kernel_rfl) ⟨hf, Bx1.out.1⟩ (fun hHeld => ?_)
  clear hBx0 hBx1 hBx2 hBx3 hBx4
  clear hf
  refine wpAnyH_take (i := 0) (v := ?_) rfl (by kernel_rfl) (by kernel_rfl) (by kernel_rfl) (fun _ _ _ h => h) (Or.inl ⟨by rfl, ?_⟩) (by assumption) ?_
  rotate_left
  · (intro w hSw; (try dsimp only at hSw); go_simp; (try with_reducible rfl))
  try simp only [Act.put, List.setIfInBounds_toArray, List.set_cons_zero, List.set_cons_succ]
  refine wpAnyH_take (i := 1) (v := ?_) rfl (by kernel_rfl) (by kernel_rfl) (by kernel_rfl) (fun _ _ _ h => h) (Or.inl ⟨by rfl, ?_⟩) (by assumption) ?_
  rotate_left
  · (intro w hSw; (try dsimp only at hSw); go_simp; (try with_reducible rfl))
  try simp only [Act.put, List.setIfInBounds_toArray, List.set_cons_zero, List.set_cons_succ]
  refine wpAnyH_take (i := 2) (v := ?_) rfl (by kernel_rfl) (by kernel_rfl) (by kernel_rfl) (fun _ _ _ h => h) (Or.inl ⟨by rfl, ?_⟩) (by assumption) ?_
  rotate_left
  · (intro w hSw; (try dsimp only at hSw); go_simp; (try with_reducible rfl))
  try simp only [Act.put, List.setIfInBounds_toArray, List.set_cons_zero, List.set_cons_succ]
  refine wpAnyH_take (i := 3) (v := ?_) rfl (by kernel_rfl) (by kernel_rfl) (by kernel_rfl) (fun _ _ _ h => h) (Or.inl ⟨by rfl, ?_⟩) (by assumption) ?_
  rotate_left
  · (intro w hSw; (try dsimp only at hSw); go_simp; (try with_reducible rfl))
  try simp only [Act.put, List.setIfInBounds_toArray, List.set_cons_zero, List.set_cons_succ]
  refine wpAnyH_ready (rs := [4]) (by kernel_rfl) (by simp) ?_
  refine AllReadyH.cons rfl (fun K hK => ?_) AllReadyH.nil
  go_simp
  refine (exUp_any S o t h w1.drew).mono ?_
  rintro e w2 ⟨rfl, hb0⟩
  have hb : Below w1.heap.size w1 w2 := belDrew hb0
  have hH2 := hHeld
  refine hK.out _ _ ⟨(hb.cell (p := ⟨w.heap.size + 1, 2, none⟩) (by have := Hw.out; rw [this]; simp)).trans hH2.1, (Bx1.out.next hb).1⟩ (fun hHeld => ?_)
  clear hK K hb0 hH2
  have Bel2 := Lib.hid (belNext Bel1.out hb)
  clear hb Bel1 Bx1
  try simp only [Act.put, List.setIfInBounds_toArray, List.set_cons_zero, List.set_cons_succ]
  refine wpAnyH_ready (rs := [5]) (by kernel_rfl) (by simp) ?_
  refine AllReadyH.cons rfl (fun K hK => ?_) AllReadyH.nil
  go_simp
  refine hK.out _ _ hHeld (fun hHeld => ?_)
  clear hK K
  try simp only [Act.put, List.setIfInBounds_toArray, List.set_cons_zero, List.set_cons_succ]
  clear hHeld
  refine wpAnyH_done (by kernel_rfl) ?_ _
  go_wp2_with fail
  go_ret
  exact ⟨rfl, Bel2.out⟩
set_option maxHeartbeats 400000 in
theorem leads3 (S : Int) (o t : Bool) (h : Int) (w : World) : Calls Tryz.prog 104 #[.agg #[.int .i64 S, .bool o, .bool t, .int .i64 h], .int .i64 3] w fun e w' => e = .returned (.bool (away 3 S o h)) ∧ Below w.heap.size w w' := by
  have hsf := store_func Tryz.prog
  obtain ⟨w1, hw1⟩ : ∃ w1, w1 = (w.alloc (.cells #[.int .i64 S, .bool o, .bool t, .int .i64 h] 109)).alloc (.cells #[.func (.func 125) #[] #[], .func (.func 126) #[] #[], .func (.func 127) #[] #[], .func (.func 128) #[] #[], .func (.func 129) #[] #[]] 127) := ⟨_, rfl⟩
  have Bx1 : Hid (EBox w1 w.heap.size S o t h) := Lib.hid (by rw [hw1]; exact (EBox.new _ _ _ _ _ _).next (belAlloc1 _ _))
  have hf : w1.cell? ⟨w.heap.size + 1, 3, none⟩ = some (.func (.func 128) #[] #[]) := by rw [hw1]; go_simp
  have Bel1 : Hid (Below w.heap.size w w1) := Lib.hid (by rw [hw1]; exact belNext (belAlloc1 _ _) (belAlloc1 _ _))
  have Hw := Lib.hid hw1
  clear hw1
  go_enter Tryz.func104, Tryz.ntmps104
  go_wp2_with fail
  rw [← Hw.out]
  obtain ⟨⟨hBx0, hBx1, hBx2, hBx3⟩, hBx4⟩ := Bx1.out
  refine wp_region_held_drew (S := fun w' => w'.cell? ⟨w.heap.size + 1, 3, none⟩ = some (.func (.func 128) #[] #[]) ∧ (w'.cell? ⟨w.heap.size, 0, none⟩ = some (.int .i64 S) ∧ w'.cell? ⟨w.heap.size, 1, none⟩ = some (.bool o) ∧ w'.cell? ⟨w.heap.size, 2, none⟩ = some (.bool t) ∧ w'.cell? ⟨w.heap.size, 3, none⟩ = some (.int .i64 h))) (by kernel_rfl) ⟨hf, Bx1.out.1⟩ (fun hHeld => ?_)
  clear hBx0 hBx1 hBx2 hBx3 hBx4
  clear hf
  refine wpAnyH_take (i := 0) (v := ?_) rfl (by kernel_rfl) (by kernel_rfl) (by kernel_rfl) (fun _ _ _ h => h) (Or.inl ⟨by rfl, ?_⟩) (by assumption) ?_
  rotate_left
  · (intro w hSw; (try dsimp only at hSw); go_simp; (try with_reducible rfl))
  try simp only [Act.put, List.setIfInBounds_toArray, List.set_cons_zero, List.set_cons_succ]
  refine wpAnyH_take (i := 1) (v := ?_) rfl (by kernel_rfl) (by kernel_rfl) (by kernel_rfl) (fun _ _ _ h => h) (Or.inl ⟨by rfl, ?_⟩) (by assumption) ?_
  rotate_left
  · (intro w hSw; (try dsimp only at hSw); go_simp; (try with_reducible rfl))
  try simp only [Act.put, List.setIfInBounds_toArray, List.set_cons_zero, List.set_cons_succ]
  refine wpAnyH_take (i := 2) (v := ?_) rfl (by kernel_rfl) (by kernel_rfl) (by kernel_rfl) (fun _ _ _ h => h) (Or.inl ⟨by rfl, ?_⟩) (by assumption) ?_
  rotate_left
  · (intro w hSw; (try dsimp only at hSw); go_simp; (try with_reducible rfl))
  try simp only [Act.put, List.setIfInBounds_toArray, List.set_cons_zero, List.set_cons_succ]
  refine wpAnyH_take (i := 3) (v := ?_) rfl (by kernel_rfl) (by kernel_rfl) (by kernel_rfl) (fun _ _ _ h => h) (Or.inl ⟨by rfl, ?_⟩) (by assumption) ?_
  rotate_left
  · (intro w hSw; (try dsimp only at hSw); go_simp; (try with_reducible rfl))
  try simp only [Act.put, List.setIfInBounds_toArray, List.set_cons_zero, List.set_cons_succ]
  refine wpAnyH_ready (rs := [4]) (by kernel_rfl) (by simp) ?_
  refine AllReadyH.cons rfl (fun K hK => ?_) AllReadyH.nil
  go_simp
  refine (exZero_any S o t h w1.drew).mono ?_
  rintro e w2 ⟨rfl, hb0⟩
  have hb : Below w1.heap.size w1 w2 := belDrew hb0
  have hH2 := hHeld
  refine hK.out _ _ ⟨(hb.cell (p := ⟨w.heap.size + 1, 3, none⟩) (by have := Hw.out; rw [this]; simp)).trans hH2.1, (Bx1.out.next hb).1⟩ (fun hHeld => ?_)
  clear hK K hb0 hH2
  have Bel2 := Lib.hid (belNext Bel1.out hb)
  clear hb Bel1 Bx1
  try simp only [Act.put, List.setIfInBounds_toArray, List.set_cons_zero, List.set_cons_succ]
  refine wpAnyH_ready (rs := [5]) (by kernel_rfl) (by simp) ?_
  refine AllReadyH.cons rfl (fun K hK => ?_) AllReadyH.nil
  go_simp
  refine hK.out _ _ hHeld (fun hHeld => ?_)
  clear hK K
  try simp only [Act.put, List.setIfInBounds_toArray, List.set_cons_zero, List.set_cons_succ]
  clear hHeld
  refine wpAnyH_done (by kernel_rfl) ?_ _
  go_wp2_with fail
  go_ret
  exact ⟨rfl, Bel2.out⟩
set_option maxHeartbeats 400000 in
theorem leads4 (S : Int) (o t : Bool) (h : Int) (w : World) : Calls Tryz.prog 104 #[.agg #[.int .i64 S, .bool o, .bool t, .int .i64 h], .int .i64 4] w fun e w' => e = .returned (.bool (away 4 S o h)) ∧ Below w.heap.size w w' := by
  have hsf := store_func Tryz.prog
  obtain ⟨w1, hw1⟩ : ∃ w1, w1 = (w.alloc (.cells #[.int .i64 S, .bool o, .bool t, .int .i64 h] 109)).alloc (.cells #[.func (.func 125) #[] #[], .func (.func 126) #[] #[], .func (.func 127) #[] #[], .func (.func 128) #[] #[], .func (.func 129) #[] #[]] 127) := ⟨_, rfl⟩
  have Bx1 : Hid (EBox w1 w.heap.size S o t h) := Lib.hid (by rw [hw1]; exact (EBox.new _ _ _ _ _ _).next (belAlloc1 _ _))
  have hf : w1.cell? ⟨w.heap.size + 1, 4, none⟩ = some (.func (.func 129) #[] #[]) := by rw [hw1]; go_simp
  have Bel1 : Hid (Below w.heap.size w w1) := Lib.hid (by rw [hw1]; exact belNext (belAlloc1 _ _) (belAlloc1 _ _))
  have Hw := Lib.hid hw1
  clear hw1
  go_enter Tryz.func104, Tryz.ntmps104
  go_wp2_with fail
  rw [← Hw.out]
  obtain ⟨⟨hBx0, hBx1, hBx2, hBx3⟩, hBx4⟩ := Bx1.out
  refine wp_region_held_drew (S := fun w' => w'.cell? ⟨w.heap.size + 1, 4, none⟩ = some (.func (.func 129) #[] #[]) ∧ (w'.cell? ⟨w.heap.size, 0, none⟩ = some (.int .i64 S) ∧ w'.cell? ⟨w.heap.size, 1, none⟩ = some (.bool o) ∧ w'.cell? ⟨w.heap.size, 2, none⟩ = some (.bool t) ∧ w'.cell? ⟨w.heap.size, 3, none⟩ = some (.int .i64 h))) (by kernel_rfl) ⟨hf, Bx1.out.1⟩ (fun hHeld => ?_)
  clear hBx0 hBx1 hBx2 hBx3 hBx4
  clear hf
  refine wpAnyH_take (i := 0) (v := ?_) rfl (by kernel_rfl) (by kernel_rfl) (by kernel_rfl) (fun _ _ _ h => h) (Or.inl ⟨by rfl, ?_⟩) (by assumption) ?_
  rotate_left
  · (intro w hSw; (try dsimp only at hSw); go_simp; (try with_reducible rfl))
  try simp only [Act.put, List.setIfInBounds_toArray, List.set_cons_zero, List.set_cons_succ]
  refine wpAnyH_take (i := 1) (v := ?_) rfl (by kernel_rfl) (by kernel_rfl) (by kernel_rfl) (fun _ _ _ h => h) (Or.inl ⟨by rfl, ?_⟩) (by assumption) ?_
  rotate_left
  · (intro w hSw; (try dsimp only at hSw); go_simp; (try with_reducible rfl))
  try simp only [Act.put, List.setIfInBounds_toArray, List.set_cons_zero, List.set_cons_succ]
  refine wpAnyH_take (i := 2) (v := ?_) rfl (by kernel_rfl) (by kernel_rfl) (by kernel_rfl) (fun _ _ _ h => h) (Or.inl ⟨by rfl, ?_⟩) (by assumption) ?_
  rotate_left
  · (intro w hSw; (try dsimp only at hSw); go_simp; (try with_reducible rfl))
  try simp only [Act.put, List.setIfInBounds_toArray, List.set_cons_zero, List.set_cons_succ]
  refine wpAnyH_take (i := 3) (v := ?_) rfl (by kernel_rfl) (by kernel_rfl) (by kernel_rfl) (fun _ _ _ h => h) (Or.inl ⟨by rfl, ?_⟩) (by assumption) ?_
  rotate_left
  · (intro w hSw; (try dsimp only at hSw); go_simp; (try with_reducible rfl))
  try simp only [Act.put, List.setIfInBounds_toArray, List.set_cons_zero, List.set_cons_succ]
  refine wpAnyH_ready (rs := [4]) (by kernel_rfl) (by simp) ?_
  refine AllReadyH.cons rfl (fun K hK => ?_) AllReadyH.nil
  go_simp
  refine (exOut_any S o t h w1.drew).mono ?_
  rintro e w2 ⟨rfl, hb0⟩
  have hb : Below w1.heap.size w1 w2 := belDrew hb0
  have hH2 := hHeld
  refine hK.out _ _ ⟨(hb.cell (p := ⟨w.heap.size + 1, 4, none⟩) (by have := Hw.out; rw [this]; simp)).trans hH2.1, (Bx1.out.next hb).1⟩ (fun hHeld => ?_)
  clear hK K hb0 hH2
  have Bel2 := Lib.hid (belNext Bel1.out hb)
  clear hb Bel1 Bx1
  try simp only [Act.put, List.setIfInBounds_toArray, List.set_cons_zero, List.set_cons_succ]
  refine wpAnyH_ready (rs := [5]) (by kernel_rfl) (by simp) ?_
  refine AllReadyH.cons rfl (fun K hK => ?_) AllReadyH.nil
  go_simp
  refine hK.out _ _ hHeld (fun hHeld => ?_)
  clear hK K
  try simp only [Act.put, List.setIfInBounds_toArray, List.set_cons_zero, List.set_cons_succ]
  clear hHeld
  refine wpAnyH_done (by kernel_rfl) ?_ _
  go_wp2_with fail
  go_ret
  exact ⟨rfl, Bel2.out⟩
theorem leads_any (mode S : Int) (o t : Bool) (h : Int) (w : World) (h1 : 0 ≤ mode) (h2 : mode ≤ 4) : Calls Tryz.prog 104 #[.agg #[.int .i64 S, .bool o, .bool t, .int .i64 h], .int .i64 mode] w fun e w' => e = .returned (.bool (away mode S o h)) ∧ Below w.heap.size w w' := by
  rcases (show mode = 0 ∨ mode = 1 ∨ mode = 2 ∨ mode = 3 ∨ mode = 4 by omega) with rfl | rfl | rfl | rfl | rfl
  · exact leads0 S o t h w
  · exact leads1 S o t h w
  · exact leads2 S o t h w
  · exact leads3 S o t h w
  · exact leads4 S o t h w
end Go.Proofs.YtngminjncdfjdaaGreatDoor
