/- Facts for FnBits: what both sides say at any argument, and how places and neighbours stand to each other. -/
import Derived.Test.YtjoflmclgiemoaaDc
import Derived.Test.YtjoflmclgiemoaaTl
import Derived.Test.YtjoflmclgiemoaaCo
namespace Go.Proofs.Ytjoflmclgiemoaa
open Go.RowKit

theorem place_at (p : Int) (h1 : -2139095040 ≤ p) (h2 : p ≤ 2139095040) : place32 (at32 p) = p := by
  unfold at32 place32
  by_cases h : p < 0
  · rw [if_pos h, if_pos (by simp)]; omega
  · rw [if_neg h, if_neg (by simp; omega)]; omega

/-- FloatOfBits, of the program and of the model, at any integer -/
theorem fob_cases (m : Int) :
    ((∀ w, Calls Try.prog 12 #[.int .i64 m] w fun e w' => e = .returned (.tuple #[.float .f32 0, .int .i64 2]) ∧ w = w') ∧
      (∀ w, Calls Try.prog 18 #[.int .i64 m] w fun e w' => e = .returned (.tuple #[.float .f32 0, .int .i64 2]) ∧ w = w')) ∨
    ((∀ w, Calls Try.prog 12 #[.int .i64 m] w fun e w' => e = .returned (.tuple #[.float .f32 2143289344, .int .i64 0]) ∧ w = w') ∧
      (∀ w, Calls Try.prog 18 #[.int .i64 m] w fun e w' => ∃ z, e = .returned (.tuple #[.float .f32 z, .int .i64 0]) ∧ nan32 z = true ∧ w' = w.drew)) ∨
    (∃ z, z < 4294967296 ∧ nan32 z = false ∧ (bits32 z : Int) = m ∧ (∀ w, Calls Try.prog 12 #[.int .i64 m] w fun e w' => e = .returned (.tuple #[.float .f32 z, .int .i64 0]) ∧ w = w') ∧
      (∀ w, Calls Try.prog 18 #[.int .i64 m] w fun e w' => e = .returned (.tuple #[.float .f32 z, .int .i64 0]) ∧ w = w')) := by
  by_cases h : m < 0 ∨ 4294967295 < m
  · exact .inl ⟨fun w => implFob_no m w h, fun w => specFob_no m w h⟩
  · obtain ⟨n, rfl⟩ := Int.eq_ofNat_of_zero_le (by omega : 0 ≤ m)
    have hn : n < 4294967296 := by omega
    by_cases hr : nan32 n = true
    · exact .inr (.inl ⟨fun w => implFob_nan n w hn hr, fun w => (specFob_nan n w hn hr).mono fun e w' ⟨h1, h2⟩ => ⟨_, h1, nanOf_nan _ _ _, h2⟩⟩)
    · have hr : nan32 n = false := by simpa using hr
      exact .inr (.inr ⟨n, hn, hr, by rw [bits32_not hr], fun w => implFob_yes n w hn hr, fun w => specFob_yes n w hn hr⟩)

/-- FloatAtPlace at any integer -/
theorem fap_same (k : Int) : ∃ (c : Int) (z : Nat), z < 4294967296 ∧ nan32 z = false ∧
    (∀ w, Calls Try.prog 21 #[.int .i64 k] w fun e w' => e = .returned (.tuple #[.float .f32 z, .int .i64 c]) ∧ w = w') ∧
    (∀ w, Calls Try.prog 25 #[.int .i64 k] w fun e w' => e = .returned (.tuple #[.float .f32 z, .int .i64 c]) ∧ w = w') := by
  by_cases h : k < -2139095040 ∨ 2139095040 < k
  · exact ⟨2, 0, by decide, by decide, fun w => implAt_no k w h, fun w => specAt_no k w h⟩
  · exact ⟨0, at32 k, at32_lt _ (by omega) (by omega), at32_nan _ (by omega) (by omega), fun w => implAt_yes k w (by omega) (by omega), fun w => specAt_yes k w (by omega) (by omega)⟩

/-- CompareFloats at any floats -/
theorem cmp_both (a b : Nat) (ha : a < 4294967296) (hb : b < 4294967296) :
    ((∀ w, Calls Try.prog 27 #[.float .f32 a, .float .f32 b] w fun e w' => e = .returned (.tuple #[.int .i64 0, .int .i64 1]) ∧ w = w') ∧
      (∀ w, Calls Try.prog 28 #[.float .f32 a, .float .f32 b] w fun e w' => e = .returned (.tuple #[.int .i64 0, .int .i64 1]) ∧ w = w')) ∨
    (nan32 a = false ∧ nan32 b = false ∧ ∃ o : Int, (o = -1 ∧ decide (place32 a < place32 b) = true ∧ decide (place32 b < place32 a) = false ∨ o = 1 ∧ decide (place32 a < place32 b) = false ∧ decide (place32 b < place32 a) = true ∨ o = 0 ∧ decide (place32 a < place32 b) = false ∧ decide (place32 b < place32 a) = false) ∧
      (∀ w, Calls Try.prog 27 #[.float .f32 a, .float .f32 b] w fun e w' => e = .returned (.tuple #[.int .i64 o, .int .i64 0]) ∧ w = w') ∧
      (∀ w, Calls Try.prog 28 #[.float .f32 a, .float .f32 b] w fun e w' => e = .returned (.tuple #[.int .i64 o, .int .i64 0]) ∧ w = w')) := by
  by_cases h : nan32 a = true ∨ nan32 b = true
  · exact .inl ⟨fun w => implCmp_no a b w ha hb h, fun w => specCmp_no a b w ha hb h⟩
  · have h1 : nan32 a = false := by cases hx : nan32 a <;> simp_all
    have h2 : nan32 b = false := by cases hx : nan32 b <;> simp_all
    refine .inr ⟨h1, h2, cmp32 a b, ?_, fun w => implCmp_yes a b w ha hb h1 h2, fun w => specCmp_yes a b w ha hb h1 h2⟩
    unfold cmp32
    rcases Int.lt_trichotomy (place32 a) (place32 b) with h | h | h
    · left; rw [if_pos h]; exact ⟨rfl, decide_eq_true h, decide_eq_false (by omega)⟩
    · right; right; rw [if_neg (by omega), if_neg (by omega)]; exact ⟨rfl, decide_eq_false (by omega), decide_eq_false (by omega)⟩
    · right; left; rw [if_neg (by omega), if_pos h]; exact ⟨rfl, decide_eq_false (by omega), decide_eq_true h⟩

theorem below_like {B : Nat} {w w2 W : World} (h : Below B w w2) (h1 : W.heap = w2.heap) (h2 : W.os = w2.os) (h3 : W.tape = w2.tape) (h4 : W.output = w2.output) : Below B w W :=
  ⟨h2.trans h.os, h3.trans h.tape, h4.trans h.output, by rw [h1]; exact h.size, fun k hk => by rw [h1]; exact h.block k hk⟩

theorem below_more {w w2 W w3 : World} (h : Below w.heap.size w w2) (hb : Below W.heap.size W w3) (h1 : W.heap = w2.heap) (h2 : W.os = w2.os) (h3 : W.tape = w2.tape) (h4 : W.output = w2.output) : Below w.heap.size w w3 :=
  (below_like h h1 h2 h3 h4).trans (hb.mono (by rw [h1]; exact h.size))

theorem neigh_of (b : Nat) (hb : b < 4294967296) (hn : nan32 b = false) :
    (FloatKind.f32.format.order (at32 (place32 b)) b != some .eq) = false ∧ (FloatKind.f32.format.order (at32 (beside b 1)) b == some .lt) = false ∧ (FloatKind.f32.format.order (at32 (beside b (-1))) b == some .gt) = false ∧
    at32 (beside b 1) < 4294967296 ∧ nan32 (at32 (beside b 1)) = false ∧ place32 (at32 (beside b 1)) = beside b 1 ∧
    (((FloatKind.f32.format.order (at32 (beside b 1)) b == some .gt) = true ∧ beside b 1 = place32 b + 1 ∧ (FloatKind.f32.format.order (at32 (beside (at32 (beside b 1)) (-1))) b != some .eq) = false) ∨
     ((FloatKind.f32.format.order (at32 (beside b 1)) b == some .gt) = false ∧ beside b 1 = place32 b)) := by
  obtain ⟨l1, l2⟩ := place_bounds b hn
  obtain ⟨u1, u2⟩ := beside_bounds b 1
  obtain ⟨d1, d2⟩ := beside_bounds b (-1)
  have eu := place_at _ u1 u2
  have ed := place_at _ d1 d2
  have ek := place_at _ l1 l2
  have lu := at32_lt _ u1 u2
  have nu := at32_nan _ u1 u2
  have hu : beside b 1 = if 2139095040 < place32 b + 1 then 2139095040 else place32 b + 1 := by unfold beside; split; rfl; rw [if_neg (by omega)]
  have hd : beside b (-1) ≤ place32 b := by unfold beside; split; omega; split <;> omega
  refine ⟨?_, ?_, ?_, lu, nu, eu, ?_⟩
  · unfold bne; rw [eq32 _ _ (at32_lt _ l1 l2) hb (at32_nan _ l1 l2) hn, ek, decide_eq_true rfl]; rfl
  · rw [lt32 _ _ lu hb nu hn, eu, decide_eq_false]; rw [hu]; split <;> omega
  · rw [gt32 _ _ (at32_lt _ d1 d2) hb (at32_nan _ d1 d2) hn, ed, decide_eq_false]; omega
  · by_cases h : 2139095040 < place32 b + 1
    · right
      rw [if_pos h] at hu
      refine ⟨?_, by omega⟩
      rw [gt32 _ _ lu hb nu hn, eu, decide_eq_false]; omega
    · left
      rw [if_neg h] at hu
      refine ⟨?_, hu, ?_⟩
      · rw [gt32 _ _ lu hb nu hn, eu, decide_eq_true]; omega
      · obtain ⟨v1, v2⟩ := beside_bounds (at32 (beside b 1)) (-1)
        have e2 : beside (at32 (beside b 1)) (-1) = place32 b := by unfold beside at *; rw [eu]; split <;> (try split) <;> omega
        unfold bne
        rw [eq32 _ _ (at32_lt _ v1 v2) hb (at32_nan _ v1 v2) hn, place_at _ v1 v2, e2, decide_eq_true rfl]; rfl

theorem less_same (a b : Nat) : ∃ t s : Bool, t = decide (rank32 a < rank32 b) ∧ s = decide (rank32 b < rank32 a) ∧ (t && s) = false := by
  refine ⟨_, _, rfl, rfl, ?_⟩
  by_cases h : rank32 a < rank32 b
  · rw [decide_eq_false (p := rank32 b < rank32 a) (by omega), Bool.and_false]
  · rw [decide_eq_false h, Bool.false_and]
end Go.Proofs.Ytjoflmclgiemoaa
