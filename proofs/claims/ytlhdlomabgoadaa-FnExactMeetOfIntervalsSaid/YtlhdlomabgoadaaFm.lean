/- Plain facts on floats of 32 bits: comparing is comparing places; what x - x, -x, x * -1 and conversions give. -/
import Derived.Test.YtlhdlomabgoadaaFl
import Derived.WalkKit
import Derived.WalkLawsBesides
import Derived.KernelRfl
namespace Go.Proofs.Ytlhdlomabgoadaa
open Ieee

theorem mag_lt {r r' : Nat} (h : r < r') : mant r * 2 ^ expo r < mant r' * 2 ^ expo r' := by
  have l1 := mant_lt r
  have o1 := mant_or r
  have o2 := mant_or r'
  have e1 := expo_mant r
  have e2 := expo_mant r'
  rcases Nat.lt_trichotomy (expo r) (expo r') with h1 | h1 | h1
  · have a : mant r * 2 ^ expo r < 16777216 * 2 ^ expo r := Nat.mul_lt_mul_of_pos_right l1 (Nat.two_pow_pos _)
    have b : 2 ^ (expo r + 1) ≤ 2 ^ expo r' := Nat.pow_le_pow_right (by omega) h1
    have c : 8388608 * 2 ^ expo r' ≤ mant r' * 2 ^ expo r' := Nat.mul_le_mul_right _ (by omega)
    rw [Nat.pow_succ] at b
    omega
  · rw [← h1] at e2 ⊢
    exact Nat.mul_lt_mul_of_pos_right (by omega) (Nat.two_pow_pos _)
  · exfalso
    have := mant_lt r'
    have : expo r' * 8388608 + 8388608 ≤ expo r * 8388608 := by omega
    omega

theorem mag_cmp (r r' : Nat) : compare ((mant r : Int) * 2 ^ expo r) ((mant r' : Int) * 2 ^ expo r') = compare (r : Int) (r' : Int) := by
  rcases Nat.lt_trichotomy r r' with h | h | h
  · have := mag_lt h
    rw [Int.compare_eq_lt.2 (by omega : (r : Int) < r'), Int.compare_eq_lt.2]
    exact_mod_cast this
  · subst h; simp
  · have := mag_lt h
    rw [Int.compare_eq_gt.2 (by omega : (r' : Int) < r), Int.compare_eq_gt.2]
    exact_mod_cast this

/-- the magnitude of a rung in units of the least float, with its sign -/
theorem order_rungs (s t : Bool) (r r' : Nat) :
    (Datum.number s (mant r) (-149 + expo r)).order (.number t (mant r') (-149 + expo r')) = some (compare (if s then -(r : Int) else r) (if t then -(r' : Int) else r')) := by
  rw [order_num s t _ _ _ _ (-149) (by omega) (by omega)]
  congr 1
  rw [show ((-149 + (expo r : Int)) - -149).toNat = expo r by omega, show ((-149 + (expo r' : Int)) - -149).toNat = expo r' by omega]
  rw [signed_eq, signed_eq]
  have c := mag_cmp r r'
  have c' := mag_cmp r' r
  have z : (0 : Int) ≤ (mant r : Int) * 2 ^ expo r := Int.mul_nonneg (by omega) (Int.le_of_lt (Int.pow_pos (by omega)))
  have z' : (0 : Int) ≤ (mant r' : Int) * 2 ^ expo r' := Int.mul_nonneg (by omega) (Int.le_of_lt (Int.pow_pos (by omega)))
  have q : (mant r : Int) * 2 ^ expo r = 0 ↔ r = 0 := by
    rw [← mant_zero r]
    have : (2 : Int) ^ expo r ≠ 0 := Int.ne_of_gt (Int.pow_pos (by omega))
    rw [Int.mul_eq_zero]; omega
  have q' : (mant r' : Int) * 2 ^ expo r' = 0 ↔ r' = 0 := by
    rw [← mant_zero r']
    have : (2 : Int) ^ expo r' ≠ 0 := Int.ne_of_gt (Int.pow_pos (by omega))
    rw [Int.mul_eq_zero]; omega
  generalize (mant r : Int) * 2 ^ expo r = M at *
  generalize (mant r' : Int) * 2 ^ expo r' = M' at *
  cases s <;> cases t <;> simp
  · exact c
  · by_cases h : r = 0 ∧ r' = 0
    · obtain ⟨rfl, rfl⟩ := h
      have : M = 0 := q.2 rfl
      have : M' = 0 := q'.2 rfl
      subst_vars; rfl
    · rw [Int.compare_eq_gt.2 (by omega), Int.compare_eq_gt.2 (by omega)]
  · by_cases h : r = 0 ∧ r' = 0
    · obtain ⟨rfl, rfl⟩ := h
      have : M = 0 := q.2 rfl
      have : M' = 0 := q'.2 rfl
      subst_vars; rfl
    · rw [Int.compare_eq_lt.2 (by omega), Int.compare_eq_lt.2 (by omega)]
  · rcases Int.lt_trichotomy M M' with h | h | h
    · rw [Int.compare_eq_lt.2 h] at c
      have := Int.compare_eq_lt.1 c.symm
      rw [Int.compare_eq_gt.2 (by omega), Int.compare_eq_gt.2 (by omega)]
    · rw [Int.compare_eq_eq.2 h] at c
      have := Int.compare_eq_eq.1 c.symm
      rw [Int.compare_eq_eq.2 (by omega), Int.compare_eq_eq.2 (by omega)]
    · rw [Int.compare_eq_gt.2 h] at c
      have := Int.compare_eq_gt.1 c.symm
      rw [Int.compare_eq_lt.2 (by omega), Int.compare_eq_lt.2 (by omega)]

/-- COMPARING FLOATS IS COMPARING THEIR PLACES -/
theorem order32 (b c : Nat) (hb : b < 4294967296) (hc : c < 4294967296) (nb : nan32 b = false) (nc : nan32 c = false) : Ieee.single.order b c = some (compare (place32 b) (place32 c)) := by
  unfold nan32 at nb nc
  simp at nb nc
  have pb : place32 b = if decide (2147483648 ≤ b) = true then -((b % 2147483648 : Nat) : Int) else ((b % 2147483648 : Nat) : Int) := rfl
  have pc : place32 c = if decide (2147483648 ≤ c) = true then -((c % 2147483648 : Nat) : Int) else ((c % 2147483648 : Nat) : Int) := rfl
  unfold Format.order
  rcases Nat.lt_or_eq_of_le nb with h1 | h1 <;> rcases Nat.lt_or_eq_of_le nc with h2 | h2
  · rw [read32 b hb h1, read32 c hc h2, order_rungs, ← pb, ← pc]
  · rw [read32 b hb h1, read32_inf c hc h2, pb, pc, h2]
    unfold Datum.order
    simp only [Option.some.injEq]
    by_cases x : 2147483648 ≤ c
    · rw [decide_eq_true x]
      simp only [if_true]
      rw [Int.compare_eq_gt.2]
      split <;> omega
    · rw [decide_eq_false x]
      simp only [Bool.false_eq_true, if_false]
      rw [Int.compare_eq_lt.2]
      split <;> omega
  · rw [read32_inf b hb h1, read32 c hc h2, pb, pc, h1]
    unfold Datum.order
    simp only [Option.some.injEq]
    by_cases x : 2147483648 ≤ b
    · rw [decide_eq_true x]
      simp only [if_true]
      rw [Int.compare_eq_lt.2]
      split <;> omega
    · rw [decide_eq_false x]
      simp only [Bool.false_eq_true, if_false]
      rw [Int.compare_eq_gt.2]
      split <;> omega
  · rw [read32_inf b hb h1, read32_inf c hc h2, pb, pc, h1, h2]
    unfold Datum.order
    simp only [Option.some.injEq]
    by_cases x : 2147483648 ≤ b <;> by_cases y : 2147483648 ≤ c <;> simp [x, y] <;> decide

theorem order32_nan (b c : Nat) (h : nan32 b = true ∨ nan32 c = true) : Ieee.single.order b c = none := by
  unfold Format.order
  rcases h with h | h
  · obtain ⟨s, t, e⟩ := read32_nan b (by simpa [nan32] using h)
    rw [e]; rfl
  · obtain ⟨s, t, e⟩ := read32_nan c (by simpa [nan32] using h)
    rw [e]; cases Ieee.single.read b <;> rfl

theorem cmp_lt (a b : Int) : (some (compare a b) == some Ordering.lt) = decide (a < b) := by
  rcases Int.lt_trichotomy a b with h | h | h
  · rw [Int.compare_eq_lt.2 h]; simp [h]
  · subst h; simp
  · rw [Int.compare_eq_gt.2 h]
    have : ¬ a < b := by omega
    simp [this]
theorem cmp_gt (a b : Int) : (some (compare a b) == some Ordering.gt) = decide (b < a) := by
  rcases Int.lt_trichotomy a b with h | h | h
  · rw [Int.compare_eq_lt.2 h]
    have : ¬ b < a := by omega
    simp [this]
  · subst h; simp
  · rw [Int.compare_eq_gt.2 h]; simp [h]
theorem cmp_eq (a b : Int) : (some (compare a b) == some Ordering.eq) = decide (a = b) := by
  rcases Int.lt_trichotomy a b with h | h | h
  · rw [Int.compare_eq_lt.2 h]
    have : ¬ a = b := by omega
    simp [this]
  · subst h; simp
  · rw [Int.compare_eq_gt.2 h]
    have : ¬ a = b := by omega
    simp [this]

/-- in the walk's spelling -/
theorem lt32 (b c : Nat) (hb : b < 4294967296) (hc : c < 4294967296) (nb : nan32 b = false) (nc : nan32 c = false) : (FloatKind.f32.format.order b c == some .lt) = decide (place32 b < place32 c) := by
  show (Ieee.single.order b c == some .lt) = _
  rw [order32 b c hb hc nb nc, cmp_lt]
theorem gt32 (b c : Nat) (hb : b < 4294967296) (hc : c < 4294967296) (nb : nan32 b = false) (nc : nan32 c = false) : (FloatKind.f32.format.order b c == some .gt) = decide (place32 c < place32 b) := by
  show (Ieee.single.order b c == some .gt) = _
  rw [order32 b c hb hc nb nc, cmp_gt]
theorem eq32 (b c : Nat) (hb : b < 4294967296) (hc : c < 4294967296) (nb : nan32 b = false) (nc : nan32 c = false) : (FloatKind.f32.format.order b c == some .eq) = decide (place32 b = place32 c) := by
  show (Ieee.single.order b c == some .eq) = _
  rw [order32 b c hb hc nb nc, cmp_eq]
theorem nan32_cmp (b c : Nat) (o : Ordering) (h : nan32 b = true ∨ nan32 c = true) : (FloatKind.f32.format.order b c == some o) = false := by
  show (Ieee.single.order b c == some o) = _
  rw [order32_nan b c h]; rfl
theorem self32 (b : Nat) (hb : b < 4294967296) : (FloatKind.f32.format.order b b == some .eq) = !nan32 b := by
  by_cases h : nan32 b = true
  · rw [nan32_cmp b b _ (.inl h), h]; rfl
  · have h' : nan32 b = false := by simpa using h
    rw [eq32 b b hb hb h' h', h']; simp
theorem ne32 (b : Nat) (hb : b < 4294967296) : (FloatKind.f32.format.order b b != some .eq) = nan32 b := by
  unfold bne; rw [self32 b hb, Bool.not_not]

theorem negFloat32 (b : Nat) (hb : b < 4294967296) : Op.negFloat .f32 b = if 2147483648 ≤ b then b - 2147483648 else b + 2147483648 := by
  show b ^^^ 2 ^ 31 = _
  have e1 := @Nat.xor_mod_two_pow b (2 ^ 31) 31
  have e2 := @Nat.xor_div_two_pow b (2 ^ 31) 31
  have e3 := Nat.div_add_mod (b ^^^ 2 ^ 31) (2 ^ 31)
  rw [e1, e2, Nat.mod_self, Nat.xor_zero, Nat.div_self (by decide)] at e3
  split
  · rename_i h
    have : b / 2 ^ 31 = 1 := by omega
    rw [this, show (1 ^^^ 1 : Nat) = 0 from rfl] at e3
    omega
  · rename_i h
    have : b / 2 ^ 31 = 0 := by omega
    rw [this, show (0 ^^^ 1 : Nat) = 1 from rfl] at e3
    omega

/-- the NaN that the tape gives -/
def nanOf (w : World) (x y : Nat) : Nat := (Question.nanBits .f32 x y).cut (w.tape w.drawn (.nanBits .f32 x y))
theorem nanOf_nan (w : World) (x y : Nat) : nan32 (nanOf w x y) = true := by
  unfold nanOf Question.cut nan32
  simp only [decide_eq_true_eq]
  have : (w.tape w.drawn (Question.nanBits .f32 x y) / 2) % (2 ^ 23 - 1) < 2 ^ 23 - 1 := Nat.mod_lt _ (by decide)
  generalize (w.tape w.drawn (Question.nanBits .f32 x y) / 2) % (2 ^ 23 - 1) = u at *
  generalize w.tape w.drawn (Question.nanBits .f32 x y) = v at *
  rcases Nat.mod_two_eq_zero_or_one v with h | h <;> rw [h] <;> omega
theorem nanOf_lt (w : World) (x y : Nat) : nanOf w x y < 4294967296 := by
  unfold nanOf Question.cut
  simp only
  have : (w.tape w.drawn (Question.nanBits .f32 x y) / 2) % (2 ^ 23 - 1) < 2 ^ 23 - 1 := Nat.mod_lt _ (by decide)
  omega

theorem run_nan32 {P : Program} (w : World) (op : BinOp) (hop : op = .add ∨ op = .sub ∨ op = .mul ∨ op = .quo) (t : TypeId) (x y : Nat) (h : floatBits op .f32 x y = none) :
    (binOp op t (.float .f32 x) (.float .f32 y)).run P w = .ok (.float .f32 (nanOf w x y)) w.drew := by
  unfold floatBits at h
  rcases hop with rfl | rfl | rfl | rfl <;> simp only at h <;> simp [binOp, Op.floatArith, h, Question.forced, nanOf]

theorem fin_nan {b : Nat} (h : fin32 b = true) : nan32 b = false := by
  unfold fin32 at h; unfold nan32; simp at h ⊢; omega

theorem sub_self_fin (b : Nat) (hb : b < 4294967296) (h : fin32 b = true) : floatBits .sub .f32 b b = some 0 := by
  show Ieee.single.sub b b = _
  unfold Format.sub
  rw [read32 b hb (by simpa [fin32] using h)]
  unfold Datum.opposite Datum.sum
  simp only
  rw [signed_eq, signed_eq]
  have : ∀ s : Bool, (if s = true then (-1 : Int) else 1) * (mant (b % 2147483648) * 2 ^ (-149 + (expo (b % 2147483648) : Int) - min (-149 + (expo (b % 2147483648) : Int)) (-149 + (expo (b % 2147483648) : Int))).toNat) + (if (!s) = true then (-1 : Int) else 1) * (mant (b % 2147483648) * 2 ^ (-149 + (expo (b % 2147483648) : Int) - min (-149 + (expo (b % 2147483648) : Int)) (-149 + (expo (b % 2147483648) : Int))).toNat) = 0 := by
    intro s; cases s <;> simp <;> omega
  rw [this]
  simp only [if_true, Bool.and_not_self, Int.natAbs_zero, Option.map_some]
  rfl
theorem sub_self_not (b : Nat) (hb : b < 4294967296) (h : fin32 b = false) : floatBits .sub .f32 b b = none := by
  show Ieee.single.sub b b = _
  unfold Format.sub
  by_cases hn : nan32 b = true
  · obtain ⟨s, t, e⟩ := read32_nan b (by simpa [nan32] using hn)
    rw [e]; rfl
  · have h1 : b % 2147483648 = 2139095040 := by unfold fin32 at h; unfold nan32 at hn; simp at h hn; omega
    rw [read32_inf b hb h1]
    cases decide (2147483648 ≤ b) <;> rfl

theorem fin_d64 (s : Bool) {m : Nat} {p : Int} (h1 : m < 9007199254740992) (h2 : -1074 ≤ p) (h3 : p ≤ 971) : (Ieee.double.read (d64 s m p)).isInfinity = false := by
  obtain ⟨m', p', e, _⟩ := read64 s h1 h2 h3
  rw [e]; rfl

theorem conv_3264 (b : Nat) (hb : b < 4294967296) (h : fin32 b = true) : floatToFloatBits .f32 b .f64 = some (d64 (neg32 b) (mant (b % 2147483648)) (-149 + expo (b % 2147483648))) := by
  have hf : b % 2147483648 < 2139095040 := by simpa [fin32] using h
  unfold floatToFloatBits
  rw [if_neg (by decide)]
  have e : FloatKind.f32.decode b = _ := read32 b hb hf
  rw [e]
  simp only
  have l1 := mant_lt (b % 2147483648)
  have l2 := expo_le _ hf
  have := fin_d64 (decide (2147483648 ≤ b)) (m := mant (b % 2147483648)) (p := -149 + expo (b % 2147483648)) (by omega) (by omega) (by omega)
  rw [if_neg]
  · rfl
  · show ¬ (Ieee.double.read (d64 (decide (2147483648 ≤ b)) (mant (b % 2147483648)) (-149 + expo (b % 2147483648)))).isInfinity = true
    rw [this]; decide

theorem conv_6432' (s : Bool) {m : Nat} {p : Int} (h1 : m < 9007199254740992) (h2 : -1074 ≤ p) (h3 : p ≤ 971) (hi : (Ieee.single.read (s32 s m p)).isInfinity = false) :
    floatToFloatBits .f64 (d64 s m p) .f32 = some (s32 s m p) := by
  obtain ⟨m', p', e, hs, _⟩ := read64 s h1 h2 h3
  unfold floatToFloatBits
  rw [if_neg (by decide)]
  have e' : FloatKind.f64.decode (d64 s m p) = _ := e
  rw [e']
  simp only
  have x : FloatKind.f32.encode (Datum.number s m' p') = s32 s m p := s32_same s hs
  rw [x, if_neg]
  show ¬ (Ieee.single.read (s32 s m p)).isInfinity = true
  rw [hi]; decide

theorem conv_6432 (s : Bool) {m : Nat} {p : Int} (h1 : m < 16777216) (h2 : -149 ≤ p) (h3 : p ≤ 104) : floatToFloatBits .f64 (d64 s m p) .f32 = some (s32 s m p) := by
  refine conv_6432' s (by omega) (by omega) (by omega) ?_
  obtain ⟨m', p', e, _⟩ := (repr32 h1 h2 h3).read s
  unfold s32
  rw [e]; rfl

theorem int_64 (s : Bool) {m M : Nat} {p : Int} (h1 : m < 9007199254740992) (h2 : -1074 ≤ p) (h3 : p ≤ 971) (hs : SameVal m p M 0) (hM : M < 4611686018427387904) :
    floatToIntVal .f64 (d64 s m p) .i64 = some (if s then -(M : Int) else M) := by
  obtain ⟨m', p', e, hs', _⟩ := read64 s h1 h2 h3
  unfold floatToIntVal
  have e' : FloatKind.f64.decode (d64 s m p) = _ := e
  rw [e', toInt_same s (hs'.trans hs)]
  simp only
  rw [if_pos]
  constructor
  · show (-9223372036854775808 : Int) ≤ _
    split <;> omega
  · show _ ≤ (9223372036854775807 : Int)
    split <;> omega

theorem order64 (s t : Bool) {m n : Nat} {p q : Int} (h1 : m < 9007199254740992) (h2 : -1074 ≤ p) (h3 : p ≤ 971) (g1 : n < 9007199254740992) (g2 : -1074 ≤ q) (g3 : q ≤ 971) :
    Ieee.double.order (d64 s m p) (d64 t n q) = (Datum.number s m p).order (.number t n q) := by
  obtain ⟨m', p', e, hs, _⟩ := read64 s h1 h2 h3
  obtain ⟨n', q', e', hs', _⟩ := read64 t g1 g2 g3
  unfold Format.order
  rw [e, e', order_same s t hs hs']

theorem k24 : (4715268809856909312 : Nat) = d64 false 16777216 0 := by decide +kernel
/-- y >= 1<<24 in the loop of l01Parts -/
theorem ge24 (m q : Nat) (h1 : m < 16777216) (h3 : q ≤ 900) (ho : q = 0 ∨ 8388608 ≤ m) :
    (FloatKind.f64.format.order (d64 false m q) 4715268809856909312 == some .gt || FloatKind.f64.format.order (d64 false m q) 4715268809856909312 == some .eq) = decide (0 < q) := by
  show (Ieee.double.order (d64 false m q) 4715268809856909312 == some .gt || Ieee.double.order (d64 false m q) 4715268809856909312 == some .eq) = _
  rw [k24, order64 false false (by omega) (by omega) (by omega) (by decide) (by decide) (by decide), order_num _ _ _ _ _ _ 0 (by omega) (by decide), signed_eq, signed_eq]
  simp only [Bool.false_eq_true, if_false, Int.one_mul, Int.sub_zero, Int.toNat_natCast]
  rw [cmp_gt, cmp_eq]
  rw [← Bool.decide_or, decide_eq_decide]
  have key : ((m : Int) * 2 ^ q) = ((m * 2 ^ q : Nat) : Int) := by rw [Int.natCast_mul, Int.natCast_pow]; rfl
  rw [key, Int.toNat_zero, Int.pow_zero, Int.mul_one]
  have iff : 16777216 ≤ m * 2 ^ q ↔ 0 < q := by
    rcases Nat.eq_zero_or_pos q with h | h
    · subst h; rw [Nat.pow_zero]; omega
    · have a : 2 ^ 1 ≤ 2 ^ q := Nat.pow_le_pow_right (by omega) h
      have b : 8388608 * 2 ^ 1 ≤ m * 2 ^ q := Nat.mul_le_mul (by omega) a
      exact ⟨fun _ => h, fun _ => b⟩
  rw [← iff]
  generalize m * 2 ^ q = M
  have e : ((16777216 : Nat) : Int) = 16777216 := rfl
  rw [e]
  omega

theorem ge24_0 (m : Nat) (h1 : m < 16777216) :
    (FloatKind.f64.format.order (d64 false m 0) 4715268809856909312 == some .gt || FloatKind.f64.format.order (d64 false m 0) 4715268809856909312 == some .eq) = false :=
  ge24 m 0 h1 (by decide) (.inl rfl)

theorem mul_neg1 (b : Nat) (hb : b < 4294967296) (h : fin32 b = true) : floatBits .mul .f32 b 3212836864 = some (if 2147483648 ≤ b then b - 2147483648 else b + 2147483648) := by
  have hf : b % 2147483648 < 2139095040 := by simpa [fin32] using h
  show Ieee.single.mul b 3212836864 = _
  unfold Format.mul
  rw [read32 b hb hf, show Ieee.single.read 3212836864 = .number true 8388608 (-23) by decide +kernel]
  show some (Format.nearest _ _ _ _) = _
  congr 1
  have k1 : SameVal 8388608 (-23) 1 0 := ⟨0, 23, by decide, by omega⟩
  have := (SameVal.refl (mant (b % 2147483648)) (-149 + expo (b % 2147483648))).mul k1
  rw [Nat.mul_one, Int.add_zero] at this
  rw [nearest_same _ _ this]
  have := s32_rung (decide (2147483648 ≤ b) ^^ true) _ hf
  unfold s32 at this
  rw [this]
  unfold Format.word
  rw [single_sign]
  by_cases h : 2147483648 ≤ b
  · simp [h]; omega
  · simp [h]; omega
theorem mul_neg1_inf (b : Nat) (hb : b < 4294967296) (h : b % 2147483648 = 2139095040) : floatBits .mul .f32 b 3212836864 = some (if 2147483648 ≤ b then b - 2147483648 else b + 2147483648) := by
  have : b = 2139095040 ∨ b = 4286578688 := by omega
  rcases this with rfl | rfl <;> decide +kernel
theorem mul_neg1_nan (b : Nat) (h : nan32 b = true) : floatBits .mul .f32 b 3212836864 = none := by
  show Ieee.single.mul b 3212836864 = _
  unfold Format.mul
  obtain ⟨s, t, e⟩ := read32_nan b (by simpa [nan32] using h)
  rw [e]; rfl
theorem huge_mul : floatBits .mul .f32 2137108966 1092616192 = some 2139095040 := by decide +kernel
theorem huge_sub : floatBits .sub .f32 2139095040 2139095040 = none := by decide +kernel
theorem one_over_zero : floatBits .quo .f32 1065353216 0 = some 2139095040 := by decide +kernel
theorem one_over_minus_zero : floatBits .quo .f32 1065353216 2147483648 = some 4286578688 := by decide +kernel

theorem int_to_64 (n : Nat) : floatOfInt .f64 (n : Int) = d64 false n 0 := by
  unfold floatOfInt FloatKind.nearest d64
  show Format.nearest _ _ _ _ = _
  have : decide ((n : Int) < 0) = false := by simp
  rw [this, Int.natAbs_natCast]
  rfl
end Go.Proofs.Ytlhdlomabgoadaa
