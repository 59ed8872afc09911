/- Plain facts on binary floats as the model has them: rounding depends on the value alone; words of numbers that a format has are read back; doubling and halving are exact. -/
import Derived.Laws.FloatArith
namespace Go.Proofs.Ytlhdlomabgoadaa
open Ieee

/-- two pairs tell one number -/
def SameVal (m : Nat) (p : Int) (n : Nat) (q : Int) : Prop := ∃ a b : Nat, m * 2 ^ a = n * 2 ^ b ∧ p - a = q - b

theorem SameVal.refl (m p) : SameVal m p m p := ⟨0, 0, rfl, rfl⟩
theorem SameVal.symm {m p n q} (h : SameVal m p n q) : SameVal n q m p := by
  obtain ⟨a, b, h1, h2⟩ := h; exact ⟨b, a, h1.symm, h2.symm⟩
theorem SameVal.trans {m p n q r s} (h : SameVal m p n q) (g : SameVal n q r s) : SameVal m p r s := by
  obtain ⟨a, b, h1, h2⟩ := h
  obtain ⟨c, d, g1, g2⟩ := g
  refine ⟨a + c, d + b, ?_, by omega⟩
  rw [Nat.pow_add, ← Nat.mul_assoc, h1, Nat.mul_assoc, Nat.mul_comm (2 ^ b), ← Nat.mul_assoc, g1, Nat.mul_assoc, ← Nat.pow_add]
theorem SameVal.shl (m : Nat) (p : Int) (k : Nat) : SameVal (m * 2 ^ k) p m (p + k) := ⟨0, k, by simp, by omega⟩
theorem SameVal.shl' (m : Nat) (p q : Int) (k : Nat) (h : q = p + k) : SameVal (m * 2 ^ k) p m q := by subst h; exact SameVal.shl m p k
theorem SameVal.add {m p n q} (k : Int) (h : SameVal m p n q) : SameVal m (p + k) n (q + k) := by
  obtain ⟨a, b, h1, h2⟩ := h; exact ⟨a, b, h1, by omega⟩
theorem SameVal.mul {m p n q r s t u} (h : SameVal m p n q) (g : SameVal r s t u) : SameVal (m * r) (p + s) (n * t) (q + u) := by
  obtain ⟨a, b, h1, h2⟩ := h
  obtain ⟨c, d, g1, g2⟩ := g
  refine ⟨a + c, b + d, ?_, by omega⟩
  rw [Nat.pow_add, Nat.pow_add, Nat.mul_mul_mul_comm, h1, g1, Nat.mul_mul_mul_comm]
theorem SameVal.zero_iff {m p n q} (h : SameVal m p n q) : m = 0 ↔ n = 0 := by
  obtain ⟨a, b, h1, _⟩ := h
  have := Nat.two_pow_pos a
  have := Nat.two_pow_pos b
  constructor
  · intro h; subst h; rw [Nat.zero_mul] at h1; rcases Nat.mul_eq_zero.1 h1.symm with h1 | h1 <;> omega
  · intro h; subst h; rw [Nat.zero_mul] at h1; rcases Nat.mul_eq_zero.1 h1 with h1 | h1 <;> omega

theorem log2_shl (m k : Nat) (h : m ≠ 0) : (m * 2 ^ k).log2 = m.log2 + k := by
  have h0 : m * 2 ^ k ≠ 0 := Nat.mul_ne_zero h (Nat.pos_iff_ne_zero.1 (Nat.two_pow_pos k))
  rw [Nat.log2_eq_iff h0]
  have h1 := Nat.log2_self_le h
  have h2 := @Nat.lt_log2_self m
  constructor
  · rw [Nat.pow_add]; exact Nat.mul_le_mul_right _ h1
  · rw [show m.log2 + k + 1 = m.log2 + 1 + k by omega, Nat.pow_add (n := k)]
    exact Nat.mul_lt_mul_of_pos_right h2 (Nat.two_pow_pos k)

/-- rounding to even of n over 2^d, without the cut of great drops -/
def evenCut (n d : Nat) : Nat := n / 2 ^ d + (decide (2 ^ d < 2 * (n % 2 ^ d)) || (2 ^ d == 2 * (n % 2 ^ d) && n / 2 ^ d % 2 == 1)).toNat

theorem evenCut_great (n d : Nat) (h : n.log2 + 2 ≤ d) : evenCut n d = 0 := by
  have h1 := @Nat.lt_log2_self n
  have h2 : 2 ^ (n.log2 + 2) ≤ 2 ^ d := Nat.pow_le_pow_right (by omega) h
  have h3 : 2 ^ (n.log2 + 2) = 2 * 2 ^ (n.log2 + 1) := by rw [Nat.pow_succ, Nat.mul_comm]
  have h4 : n % 2 ^ d = n := Nat.mod_eq_of_lt (by omega)
  have h5 : n / 2 ^ d = 0 := Nat.div_eq_of_lt (by omega)
  unfold evenCut
  rw [h4, h5]
  have h6 : decide (2 ^ d < 2 * n) = false := by simp; omega
  have h7 : (2 ^ d == 2 * n) = false := by simp; omega
  simp [h6, h7]

theorem cut_even (neg : Bool) (n d : Nat) : Toward.even.cut neg n d = evenCut n d := by
  unfold Toward.cut
  simp only [Nat.one_shiftLeft]
  by_cases h : d ≤ n.log2 + 2
  · rw [Nat.min_eq_left h]; rfl
  · rw [Nat.min_eq_right (by omega), evenCut_great n d (by omega)]
    exact evenCut_great n (n.log2 + 2) (Nat.le_refl _)

theorem evenCut_shl (n d k : Nat) : evenCut (n * 2 ^ k) (d + k) = evenCut n d := by
  have hk := Nat.two_pow_pos k
  unfold evenCut
  rw [Nat.pow_add, Nat.mul_div_mul_right _ _ hk, Nat.mul_mod_mul_right]
  have e1 : decide (2 ^ d * 2 ^ k < 2 * (n % 2 ^ d * 2 ^ k)) = decide (2 ^ d < 2 * (n % 2 ^ d)) := by
    rw [← Nat.mul_assoc]
    simp only [decide_eq_decide]
    exact Nat.mul_lt_mul_right hk
  have e2 : (2 ^ d * 2 ^ k == 2 * (n % 2 ^ d * 2 ^ k)) = (2 ^ d == 2 * (n % 2 ^ d)) := by
    rw [← Nat.mul_assoc, Bool.eq_iff_iff]
    simp only [beq_iff_eq]
    exact Nat.mul_left_inj (by omega)
  rw [e1, e2]

theorem evenCut_zero (n : Nat) : evenCut n 0 = n := by
  unfold evenCut
  simp [Nat.mod_one]

theorem nearest_shl (f : Format) (neg : Bool) (m k : Nat) (p : Int) : f.nearest neg (m * 2 ^ k) p = f.nearest neg m (p + k) := by
  by_cases h : m = 0
  · subst h; simp [Format.nearest]
  have h0 : m * 2 ^ k ≠ 0 := Nat.mul_ne_zero h (Nat.pos_iff_ne_zero.1 (Nat.two_pow_pos k))
  unfold Format.nearest
  rw [if_neg h0, if_neg h]
  simp only [log2_shl m k h, cut_even]
  have e : p + ((m.log2 + k : Nat) : Int) - (f.fractionBits : Int) = p + k + m.log2 - f.fractionBits := by omega
  rw [e]
  generalize max (p + k + (m.log2 : Int) - f.fractionBits) f.leastPlace = last
  have e2 : evenCut ((m * 2 ^ k) <<< (p - last).toNat) (last - p).toNat = evenCut (m <<< (p + k - last).toNat) (last - (p + k)).toNat := by
    simp only [Nat.shiftLeft_eq]
    by_cases h1 : last ≤ p
    · have a1 : (last - p).toNat = 0 := by omega
      have a2 : (last - (p + k)).toNat = 0 := by omega
      have a3 : (p + k - last).toNat = (p - last).toNat + k := by omega
      rw [a1, a2, a3, Nat.pow_add, Nat.mul_assoc, Nat.mul_comm (2 ^ k)]
    · by_cases h2 : last ≤ p + k
      · obtain ⟨j, hj⟩ : ∃ j : Nat, (last - p).toNat = j := ⟨_, rfl⟩
        have a0 : (p - last).toNat = 0 := by omega
        have a2 : (last - (p + k)).toNat = 0 := by omega
        have a3 : (p + k - last).toNat = k - j := by omega
        have a4 : k = (k - j) + j := by omega
        rw [a0, a2, a3, hj]
        have : m * 2 ^ k * 2 ^ 0 = m * 2 ^ (k - j) * 2 ^ j := by
          rw [Nat.pow_zero, Nat.mul_one, Nat.mul_assoc, ← Nat.pow_add, ← a4]
        rw [this]
        have := evenCut_shl (m * 2 ^ (k - j)) 0 j
        rwa [Nat.zero_add] at this
      · have a0 : (p - last).toNat = 0 := by omega
        have a1 : (p + k - last).toNat = 0 := by omega
        have a3 : (last - p).toNat = (last - (p + k)).toNat + k := by omega
        rw [a0, a1, a3, Nat.pow_zero, Nat.mul_one, Nat.mul_one]
        exact evenCut_shl _ _ _
  rw [e2]

theorem nearest_same (f : Format) (neg : Bool) {m n : Nat} {p q : Int} (h : SameVal m p n q) : f.nearest neg m p = f.nearest neg n q := by
  obtain ⟨a, b, h1, h2⟩ := h
  have e1 := nearest_shl f neg m a (p - a)
  have e2 := nearest_shl f neg n b (q - b)
  rw [show p - (a : Int) + a = p by omega] at e1
  rw [show q - (b : Int) + b = q by omega] at e2
  rw [← e1, ← e2, h1, h2]

/-- the canonical form of a number of the format -/
structure Canon (f : Format) (m : Nat) (k : Nat) : Prop where
  lt : m < 2 * f.binade
  or : k = 0 ∨ f.binade ≤ m
  fin : k * f.binade + m < f.infRung

theorem binade_pos (f : Format) : 0 < f.binade := Nat.two_pow_pos _

theorem log2_binade (f : Format) {m : Nat} (h1 : f.binade ≤ m) (h2 : m < 2 * f.binade) : m.log2 = f.fractionBits := by
  have h0 : m ≠ 0 := by have := binade_pos f; omega
  rw [Nat.log2_eq_iff h0]
  unfold Format.binade at h1 h2
  rw [Nat.pow_succ]; omega

theorem nearest_canon' (f : Format) (neg : Bool) {m k : Nat} (lt : m < 2 * f.binade) (hor : k = 0 ∨ f.binade ≤ m) : f.nearest neg m (f.leastPlace + k) = f.word neg (min (k * f.binade + m) f.infRung) := by
  by_cases h0 : m = 0
  · subst h0
    have hb := binade_pos f
    have : k = 0 := by omega
    subst this
    simp [Format.nearest]
  unfold Format.nearest
  rw [if_neg h0]
  have hl : max (f.leastPlace + k + (m.log2 : Int) - f.fractionBits) f.leastPlace = f.leastPlace + k := by
    by_cases h : f.binade ≤ m
    · rw [log2_binade f h lt]; omega
    · have hk : k = 0 := by omega
      have : m.log2 < f.fractionBits := by
        rw [Nat.log2_lt h0]; unfold Format.binade at h; omega
      omega
  simp only [hl, cut_even]
  have a1 : (f.leastPlace + (k : Int) - (f.leastPlace + k)).toNat = 0 := by omega
  have a2 : (f.leastPlace + (k : Int) - f.leastPlace).toNat = k := by omega
  rw [a1, a2, Nat.shiftLeft_zero, evenCut_zero]

theorem Canon.nearest {f : Format} (neg : Bool) {m k : Nat} (h : Canon f m k) : f.nearest neg m (f.leastPlace + k) = f.word neg (k * f.binade + m) := by
  rw [nearest_canon' f neg h.lt h.or, Nat.min_eq_left (Nat.le_of_lt h.fin)]

theorem infRung_lt' (f : Format) : f.infRung < f.signWeight := f.infRung_lt

theorem read_word_fin (f : Format) (neg : Bool) {m k : Nat} (h : Canon f m k) : f.read (f.word neg (k * f.binade + m)) = .number neg m (f.leastPlace + k) := by
  have hw := f.infRung_lt
  have hb := binade_pos f
  have hf := h.fin
  have hlt := h.lt
  have hor := h.or
  generalize hr : k * f.binade + m = r at hf
  have hrw : r < f.signWeight := by omega
  have e1 : (f.word neg r / f.signWeight % 2 == 1) = neg := by
    unfold Format.word
    cases neg
    · simp [Nat.div_eq_of_lt hrw]
    · simp only [if_true]
      rw [Nat.add_div_left _ (by omega), Nat.div_eq_of_lt hrw]; rfl
  have e2 : f.word neg r % f.signWeight = r := by
    unfold Format.word
    cases neg
    · simp [Nat.mod_eq_of_lt hrw]
    · simp [Nat.mod_eq_of_lt hrw]
  unfold Format.read
  simp only [e1, e2]
  by_cases h1 : r < f.binade
  · have hk : k = 0 := by
      rcases hor with h2 | h2
      · exact h2
      · omega
    subst hk
    rw [if_pos h1]
    simp at hr
    subst hr
    simp
  · rw [if_neg h1, if_pos hf]
    rcases Nat.lt_or_ge m f.binade with h2 | h2
    · have hk : k = 0 := by omega
      subst hk; omega
    · have e3 : r = (k + 1) * f.binade + (m - f.binade) := by rw [Nat.add_mul, ← hr]; omega
      have e4 : r % f.binade = m - f.binade := by
        rw [e3, Nat.mul_comm, Nat.mul_add_mod, Nat.mod_eq_of_lt (by omega)]
      have e5 : r / f.binade = k + 1 := by
        rw [e3, Nat.mul_comm, Nat.mul_add_div hb, Nat.div_eq_of_lt (by omega)]
      rw [e4, e5]
      congr 1
      omega

/-- a number that the format has: m 2^p -/
structure Repr (f : Format) (m : Nat) (p : Int) : Prop where
  lt : m < 2 * f.binade
  ge : f.leastPlace ≤ p
  fin : (p - f.leastPlace).toNat * f.binade + 2 * f.binade ≤ f.infRung

theorem Repr.canon {f : Format} {m : Nat} {p : Int} (h : Repr f m p) : ∃ m' k, Canon f m' k ∧ SameVal m' (f.leastPlace + k) m p := by
  have hb := binade_pos f
  have hlt := h.lt
  have hge := h.ge
  have hf := h.fin
  by_cases h0 : m = 0
  · subst h0
    refine ⟨0, 0, ⟨by omega, .inl rfl, by omega⟩, ⟨0, (p - f.leastPlace).toNat, by simp, by omega⟩⟩
  · by_cases h1 : f.binade ≤ m
    · refine ⟨m, (p - f.leastPlace).toNat, ⟨hlt, .inr h1, by omega⟩, ⟨0, 0, rfl, by omega⟩⟩
    · have hl : m.log2 < f.fractionBits := by
        rw [Nat.log2_lt h0]; unfold Format.binade at h1; omega
      have l1 := Nat.log2_self_le h0
      have l2 := @Nat.lt_log2_self m
      obtain ⟨a, ha⟩ : ∃ a, a = min (f.fractionBits - m.log2) (p - f.leastPlace).toNat := ⟨_, rfl⟩
      have up : m * 2 ^ a < 2 * f.binade := by
        have : m * 2 ^ a < 2 ^ (m.log2 + 1) * 2 ^ a := Nat.mul_lt_mul_of_pos_right l2 (Nat.two_pow_pos a)
        rw [← Nat.pow_add] at this
        have g : 2 ^ (m.log2 + 1 + a) ≤ 2 ^ (f.fractionBits + 1) := Nat.pow_le_pow_right (by omega) (by omega)
        unfold Format.binade
        rw [Nat.pow_succ] at g
        omega
      refine ⟨m * 2 ^ a, (p - f.leastPlace).toNat - a, ⟨up, ?_, ?_⟩, ?_⟩
      · by_cases h3 : a = (p - f.leastPlace).toNat
        · left; omega
        · right
          have h4 : a = f.fractionBits - m.log2 := by omega
          have : 2 ^ m.log2 * 2 ^ a ≤ m * 2 ^ a := Nat.mul_le_mul_right _ l1
          rw [← Nat.pow_add, show m.log2 + a = f.fractionBits by omega] at this
          exact this
      · have : ((p - f.leastPlace).toNat - a) * f.binade ≤ (p - f.leastPlace).toNat * f.binade := Nat.mul_le_mul_right _ (by omega)
        omega
      · exact SameVal.shl' _ _ _ _ (by omega)

/-- what the word of a number that the format has is read as -/
theorem Repr.read {f : Format} {m : Nat} {p : Int} (neg : Bool) (h : Repr f m p) : ∃ m' p', f.read (f.nearest neg m p) = .number neg m' p' ∧ SameVal m' p' m p ∧ m' < 2 * f.binade := by
  obtain ⟨m', k, hc, hs⟩ := h.canon
  refine ⟨m', f.leastPlace + k, ?_, hs, hc.lt⟩
  rw [← nearest_same f neg hs, hc.nearest]
  exact read_word_fin f neg hc


/-! ### order, whole numbers, double and single -/

theorem signed_eq (s : Bool) (m u : Nat) : signed s m u = (if s then -1 else 1) * ((m : Int) * 2 ^ u) := by
  unfold signed
  rw [Nat.shiftLeft_eq]
  cases s <;> simp [Int.natCast_mul]

theorem signed_add (s : Bool) (m u v : Nat) : signed s m (u + v) = signed s m u * 2 ^ v := by
  rw [signed_eq, signed_eq, Int.pow_add]
  rw [Int.mul_assoc, Int.mul_assoc]

theorem signed_shl (s : Bool) (m k u : Nat) : signed s (m * 2 ^ k) u = signed s m (k + u) := by
  rw [signed_eq, signed_eq, Int.pow_add]
  simp [Int.natCast_mul, Int.mul_assoc]

theorem compare_scale (a b : Int) (k : Nat) : compare (a * 2 ^ k) (b * 2 ^ k) = compare a b := by
  have h : (0 : Int) < 2 ^ k := Int.pow_pos (by omega)
  rcases Int.lt_trichotomy a b with h1 | h1 | h1
  · have h2 : a * 2 ^ k < b * 2 ^ k := Int.mul_lt_mul_of_pos_right h1 h
    rw [Int.compare_eq_lt.2 h1, Int.compare_eq_lt.2 h2]
  · subst h1; simp
  · have h2 : b * 2 ^ k < a * 2 ^ k := Int.mul_lt_mul_of_pos_right h1 h
    rw [Int.compare_eq_gt.2 h1, Int.compare_eq_gt.2 h2]

theorem order_num (s t : Bool) (m n : Nat) (i j L : Int) (hi : L ≤ i) (hj : L ≤ j) :
    (Datum.number s m i).order (.number t n j) = some (compare (signed s m (i - L).toNat) (signed t n (j - L).toNat)) := by
  unfold Datum.order
  simp only [Option.some.injEq]
  have e1 : (i - L).toNat = (i - min i j).toNat + (min i j - L).toNat := by omega
  have e2 : (j - L).toNat = (j - min i j).toNat + (min i j - L).toNat := by omega
  rw [e1, e2, signed_add, signed_add, compare_scale]

theorem signed_same {m n : Nat} {p q : Int} (s : Bool) (h : SameVal m p n q) (L : Int) (h1 : L ≤ p) (h2 : L ≤ q) : signed s m (p - L).toNat = signed s n (q - L).toNat := by
  obtain ⟨a, b, e1, e2⟩ := h
  have pos : (0 : Int) < 2 ^ (a + b) := Int.pow_pos (by omega)
  have g : signed s m (p - L).toNat * 2 ^ (a + b) = signed s n (q - L).toNat * 2 ^ (a + b) := by
    rw [← signed_add, ← signed_add]
    have x1 := signed_shl s m a ((p - L).toNat + b)
    have x2 := signed_shl s n b ((q - L).toNat + a)
    rw [show a + ((p - L).toNat + b) = (p - L).toNat + (a + b) by omega] at x1
    rw [show b + ((q - L).toNat + a) = (q - L).toNat + (a + b) by omega] at x2
    rw [← x1, ← x2, e1]
    congr 1
    omega
  exact Int.eq_of_mul_eq_mul_right (by omega) g

theorem order_same {m n m' n' : Nat} {p q p' q' : Int} (s t : Bool) (h : SameVal m p m' p') (g : SameVal n q n' q') :
    (Datum.number s m p).order (.number t n q) = (Datum.number s m' p').order (.number t n' q') := by
  obtain ⟨L, hL⟩ : ∃ L : Int, L = min (min p p') (min q q') := ⟨_, rfl⟩
  rw [order_num s t m n p q L (by omega) (by omega), order_num s t m' n' p' q' L (by omega) (by omega),
    signed_same s h L (by omega) (by omega), signed_same t g L (by omega) (by omega)]

theorem cut_zero_whole (s : Bool) (M d : Nat) : Toward.zero.cut s (M * 2 ^ d) d = M := by
  unfold Toward.cut
  simp only [Nat.one_shiftLeft, Bool.toNat_false, Nat.add_zero]
  by_cases h : d ≤ (M * 2 ^ d).log2 + 2
  · rw [Nat.min_eq_left h, Nat.mul_div_cancel _ (Nat.two_pow_pos d)]
  · by_cases h0 : M = 0
    · subst h0; simp
    · rw [log2_shl M d h0] at h; omega

theorem toInt_same (s : Bool) {m M : Nat} {p : Int} (h : SameVal m p M 0) : (Datum.number s m p).toInt .zero = some (if s then -(M : Int) else M) := by
  unfold Datum.toInt Datum.integral
  simp only
  have key : Toward.zero.cut s (m <<< p.toNat) (-p).toNat = M := by
    obtain ⟨a, b, e1, e2⟩ := h
    rw [Nat.shiftLeft_eq]
    have e3 : m * 2 ^ p.toNat = M * 2 ^ (-p).toNat := by
      by_cases hp : 0 ≤ p
      · have x : b + p.toNat = a := by omega
        have y : (-p).toNat = 0 := by omega
        rw [← x, Nat.pow_add, Nat.mul_comm (2 ^ b), ← Nat.mul_assoc] at e1
        have z := Nat.eq_of_mul_eq_mul_right (Nat.two_pow_pos b) e1
        rw [y, z, Nat.pow_zero, Nat.mul_one]
      · have x : b = a + (-p).toNat := by omega
        have y : p.toNat = 0 := by omega
        rw [x, Nat.pow_add, Nat.mul_comm (2 ^ a), ← Nat.mul_assoc] at e1
        have z := Nat.eq_of_mul_eq_mul_right (Nat.two_pow_pos a) e1
        rw [y, z, Nat.pow_zero, Nat.mul_one]
    rw [e3, cut_zero_whole]
  rw [key]
  simp [signed]

/-- the word of a double -/
def d64 (s : Bool) (m : Nat) (p : Int) : Nat := Ieee.double.nearest s m p
/-- the word of a single -/
def s32 (s : Bool) (m : Nat) (p : Int) : Nat := Ieee.single.nearest s m p

theorem double_binade : Ieee.double.binade = 4503599627370496 := by decide
theorem double_least : Ieee.double.leastPlace = -1074 := by decide
theorem double_inf : Ieee.double.infRung = 9218868437227405312 := by decide
theorem single_binade : Ieee.single.binade = 8388608 := by decide
theorem single_least : Ieee.single.leastPlace = -149 := by decide
theorem single_inf : Ieee.single.infRung = 2139095040 := by decide
theorem single_sign : Ieee.single.signWeight = 2147483648 := by decide

theorem repr64 {m : Nat} {p : Int} (h1 : m < 9007199254740992) (h2 : -1074 ≤ p) (h3 : p ≤ 971) : Repr Ieee.double m p :=
  ⟨by rw [double_binade]; omega, by rw [double_least]; omega, by rw [double_least, double_binade, double_inf]; omega⟩
theorem repr32 {m : Nat} {p : Int} (h1 : m < 16777216) (h2 : -149 ≤ p) (h3 : p ≤ 104) : Repr Ieee.single m p :=
  ⟨by rw [single_binade]; omega, by rw [single_least]; omega, by rw [single_least, single_binade, single_inf]; omega⟩

theorem d64_same (s : Bool) {m n : Nat} {p q : Int} (h : SameVal m p n q) : d64 s m p = d64 s n q := nearest_same _ s h
theorem s32_same (s : Bool) {m n : Nat} {p q : Int} (h : SameVal m p n q) : s32 s m p = s32 s n q := nearest_same _ s h

theorem read64 (s : Bool) {m : Nat} {p : Int} (h1 : m < 9007199254740992) (h2 : -1074 ≤ p) (h3 : p ≤ 971) :
    ∃ m' p', Ieee.double.read (d64 s m p) = .number s m' p' ∧ SameVal m' p' m p ∧ m' < 9007199254740992 := by
  have := (repr64 h1 h2 h3).read s
  rw [double_binade] at this
  exact this

theorem read_two64 : Ieee.double.read 4611686018427387904 = .number false 4503599627370496 (-51) := by decide +kernel

theorem mul_two (s : Bool) {m : Nat} {p : Int} (h1 : m < 9007199254740992) (h2 : -1074 ≤ p) (h3 : p ≤ 971) :
    floatBits .mul .f64 (d64 s m p) 4611686018427387904 = some (d64 s m (p + 1)) := by
  obtain ⟨m', p', e, hs, _⟩ := read64 s h1 h2 h3
  show Ieee.double.mul _ _ = _
  unfold Format.mul
  rw [e, read_two64]
  show some (Format.nearest _ _ _ _) = _
  congr 1
  rw [Bool.xor_false]
  refine nearest_same _ s ?_
  have k1 : SameVal 4503599627370496 (-51) 1 1 := ⟨0, 52, by decide, by omega⟩
  have := hs.mul k1
  rwa [Nat.mul_one] at this

theorem div_two (s : Bool) {m : Nat} {p : Int} (h1 : m < 9007199254740992) (h2 : -1074 ≤ p) (h3 : p ≤ 971) :
    floatBits .quo .f64 (d64 s m p) 4611686018427387904 = some (d64 s m (p - 1)) := by
  obtain ⟨m', p', e, hs, hlt⟩ := read64 s h1 h2 h3
  show Ieee.double.div _ _ = _
  unfold Format.div
  rw [e, read_two64]
  unfold Datum.quotient
  have l52 : Nat.log2 4503599627370496 = 52 := by decide
  simp only [l52]
  rw [if_neg (by decide)]
  show some (Format.nearest _ _ _ _) = _
  congr 1
  rw [Bool.xor_false]
  refine nearest_same _ s ?_
  have hl : m'.log2 ≤ 52 := by
    by_cases h0 : m' = 0
    · subst h0; decide
    · have := (Nat.log2_lt h0 (k := 53)).2 hlt; omega
  have f52 : Ieee.double.fractionBits = 52 := rfl
  rw [f52]
  have hk : m' <<< (52 + 2 + 52 - m'.log2) = (m' * 2 ^ (54 - m'.log2)) * 4503599627370496 := by
    rw [Nat.shiftLeft_eq, show 52 + 2 + 52 - m'.log2 = (54 - m'.log2) + 52 by omega, Nat.pow_add, ← Nat.mul_assoc]
  rw [hk, Nat.mul_div_cancel _ (by decide), Nat.mul_mod_left]
  have : SameVal (2 * (m' * 2 ^ (54 - m'.log2)) + (0 != 0 : Bool).toNat) (p' - -51 - ((52 + 2 + 52 - m'.log2 : Nat) : Int) - 1) m' (p' - 1) := by
    refine ⟨0, 55 - m'.log2, ?_, by omega⟩
    rw [show 55 - m'.log2 = 54 - m'.log2 + 1 by omega, Nat.pow_succ]
    simp [Nat.mul_comm, Nat.mul_left_comm]
  exact this.trans (by have := hs.add (-1); exact this)

/-- the mantissa and the exponent (from -149 on) of a rung of a single -/
def mant (r : Nat) : Nat := if r < 8388608 then r else 8388608 + r % 8388608
def expo (r : Nat) : Nat := if r < 8388608 then 0 else r / 8388608 - 1

theorem mant_lt (r : Nat) : mant r < 16777216 := by unfold mant; split <;> omega
theorem expo_le (r : Nat) (h : r < 2139095040) : expo r ≤ 253 := by unfold expo; split <;> omega
theorem expo_mant (r : Nat) : expo r * 8388608 + mant r = r := by unfold expo mant; split <;> omega
theorem mant_or (r : Nat) : expo r = 0 ∨ 8388608 ≤ mant r := by unfold expo mant; split <;> omega
theorem mant_zero (r : Nat) : mant r = 0 ↔ r = 0 := by unfold mant; split <;> omega
theorem canon32 (r : Nat) (h : r < 2139095040) : Canon Ieee.single (mant r) (expo r) :=
  ⟨by rw [single_binade]; have := mant_lt r; omega, by rw [single_binade]; exact mant_or r, by rw [single_binade, single_inf, expo_mant]; exact h⟩

theorem word32 (b : Nat) (hb : b < 4294967296) : Ieee.single.word (decide (2147483648 ≤ b)) (b % 2147483648) = b := by
  unfold Format.word
  rw [single_sign]
  by_cases h : 2147483648 ≤ b
  · simp [h]; omega
  · simp [h]; omega

theorem s32_rung (s : Bool) (r : Nat) (h : r < 2139095040) : s32 s (mant r) (-149 + expo r) = Ieee.single.word s r := by
  have := (canon32 r h).nearest s
  rw [single_binade, expo_mant, single_least] at this
  exact this

theorem s32_word (b : Nat) (hb : b < 4294967296) (h : b % 2147483648 < 2139095040) : s32 (decide (2147483648 ≤ b)) (mant (b % 2147483648)) (-149 + expo (b % 2147483648)) = b := by
  rw [s32_rung _ _ h, word32 b hb]

theorem read32 (b : Nat) (hb : b < 4294967296) (h : b % 2147483648 < 2139095040) :
    Ieee.single.read b = .number (decide (2147483648 ≤ b)) (mant (b % 2147483648)) (-149 + expo (b % 2147483648)) := by
  have := read_word_fin Ieee.single (decide (2147483648 ≤ b)) (canon32 _ h)
  rw [single_binade, expo_mant, single_least, word32 b hb] at this
  exact this

theorem read32_inf (b : Nat) (hb : b < 4294967296) (h : b % 2147483648 = 2139095040) : Ieee.single.read b = .infinity (decide (2147483648 ≤ b)) := by
  unfold Format.read
  simp only [single_sign, single_binade, single_inf]
  rw [h]
  have : (b / 2147483648 % 2 == 1) = decide (2147483648 ≤ b) := by
    rw [Bool.eq_iff_iff]; simp; omega
  simp [this]

theorem read32_nan (b : Nat) (h : 2139095040 < b % 2147483648) : ∃ s t, Ieee.single.read b = .nan s t := by
  refine ⟨b / 2147483648 % 2 == 1, b % 2147483648 - 2139095040, ?_⟩
  unfold Format.read
  simp only [single_sign, single_binade, single_inf]
  rw [if_neg (by omega), if_neg (by omega), if_neg (by omega)]

/-- not a number -/
def nan32 (b : Nat) : Bool := decide (2139095040 < b % 2147483648)
def fin32 (b : Nat) : Bool := decide (b % 2147483648 < 2139095040)
def neg32 (b : Nat) : Bool := decide (2147483648 ≤ b)

/-- the place of a float that is not NaN -/
def place32 (b : Nat) : Int := if decide (2147483648 ≤ b) = true then -((b % 2147483648 : Nat) : Int) else ((b % 2147483648 : Nat) : Int)

end Go.Proofs.Ytlhdlomabgoadaa
