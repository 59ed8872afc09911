/- The walk of math.Ldexp at the fraction 1: it makes the power of two. -/
import Derived.Test.YtjoflmclgiemoabSf
import Derived.Laws.Externs
import Derived.Laws.BitsAll
namespace Go.Proofs.Ytjoflmclgiemoab
open Go.RowKit
open Ieee

theorem run_bits64 (b : Nat) (w : World) : (callFunc 50 #[.float .f64 b]).run Try.prog w = .ok (.value (.int .u64 b)) w := by
  rw [run_callFunc_extern Try.func50 (by kernel_rfl) (by kernel_rfl) (by kernel_rfl) (e := Extern.MathFloatBits.float64bits) (by kernel_rfl)]; rfl
theorem run_frombits64 (n : Nat) (w : World) : (callFunc 53 #[.int .u64 n]).run Try.prog w = .ok (.value (.float .f64 n)) w := by
  rw [run_callFunc_extern Try.func53 (by kernel_rfl) (by kernel_rfl) (by kernel_rfl) (e := Extern.MathFloatBits.float64frombits) (by kernel_rfl)]; rfl

theorem d64_one (e : Int) (h1 : -149 ≤ e) (h2 : e ≤ 104) : d64 false 1 e = (e + 1023).toNat * 4503599627370496 := by
  have hs : SameVal 1 e 4503599627370496 (e - 52) := ⟨52, 0, by decide, by omega⟩
  rw [d64_same false hs]
  have hc : Canon Ieee.double 4503599627370496 (e + 1022).toNat := ⟨by rw [double_binade]; omega, .inr (by rw [double_binade]; omega), by rw [double_binade, double_inf]; omega⟩
  have := hc.nearest false
  rw [double_least, double_binade] at this
  unfold d64
  rw [show e - 52 = -1074 + (((e + 1022).toNat : Nat) : Int) by omega, this]
  unfold Format.word
  rw [if_neg (by decide)]
  omega

theorem one_is : (4607182418800017408 : Nat) = d64 false 1 0 := by decide +kernel
theorem mul_one64 (e : Int) (h1 : -149 ≤ e) (h2 : e ≤ 104) : floatBits .mul .f64 4607182418800017408 (d64 false 1 e) = some (d64 false 1 e) := by
  rw [one_is]
  obtain ⟨m, p, e1, hs, _⟩ := read64 false (m := 1) (p := 0) (by decide) (by decide) (by decide)
  obtain ⟨m', p', e2, hs', _⟩ := read64 false (m := 1) (p := e) (by decide) (by omega) (by omega)
  show Ieee.double.mul _ _ = _
  unfold Format.mul
  rw [e1, e2]
  show some (Format.nearest _ _ _ _) = _
  congr 1
  refine nearest_same _ _ ?_
  have := hs.mul hs'
  rwa [Nat.mul_one, Int.zero_add] at this

theorem abs_one (w : World) : Calls Try.prog 54 #[.float .f64 4607182418800017408] w fun e w' => e = .returned (.float .f64 4607182418800017408) ∧ w = w' := by
  have h1 := run_bits64 4607182418800017408
  have h2 := run_frombits64 4607182418800017408
  have h3 : bits .andNot .u64 4607182418800017408 9223372036854775808 = 4607182418800017408 := by decide +kernel
  rw [show ((4607182418800017408 : Nat) : Int) = 4607182418800017408 from rfl] at h1 h2
  go_enter Try.func54, Try.ntmps54
  go_wp2_with fail
  go_ret
  exact ⟨rfl, rfl⟩

theorem isInf_one (w : World) : Calls Try.prog 47 #[.float .f64 4607182418800017408, .int .i64 0] w fun e w' => e = .returned (.bool false) ∧ w = w' := by
  have h : (FloatKind.f64.format.order 4607182418800017408 9218868437227405311 == some .gt) = false := by decide +kernel
  go_enter Try.func47, Try.ntmps47
  go_wp2_with fail
  refine (abs_one _).mono ?_
  rintro e w' ⟨rfl, rfl⟩
  go_wp2_with fail
  go_ret
  exact ⟨rfl, rfl⟩

theorem isNaN_one (w : World) : Calls Try.prog 48 #[.float .f64 4607182418800017408] w fun e w' => e = .returned (.bool false) ∧ w = w' := by
  have h : (FloatKind.f64.format.order 4607182418800017408 4607182418800017408 != some .eq) = false := by decide +kernel
  go_enter Try.func48, Try.ntmps48
  go_wp2_with fail
  go_ret
  exact ⟨rfl, rfl⟩

theorem normalize_one (w : World) : Calls Try.prog 49 #[.float .f64 4607182418800017408] w fun e w' => e = .returned (.tuple #[.float .f64 4607182418800017408, .int .i64 0]) ∧ w = w' := by
  have h : (FloatKind.f64.format.order 4607182418800017408 4503599627370496 == some .lt) = false := by decide +kernel
  go_enter Try.func49, Try.ntmps49
  go_wp2_with fail
  refine (abs_one _).mono ?_
  rintro e w' ⟨rfl, rfl⟩
  go_wp2_with fail
  go_ret2
  exact ⟨rfl, rfl⟩

set_option maxHeartbeats 400000 in
theorem ldexp_one (e : Int) (w : World) (h1 : -149 ≤ e) (h2 : e ≤ 104) :
    Calls Try.prog 45 #[.float .f64 4607182418800017408, .int .i64 e] w fun r w' => r = .returned (.float .f64 (d64 false 1 e)) ∧ w = w' := by
  have g0 : (FloatKind.f64.format.order 4607182418800017408 0 == some .eq) = false := by decide +kernel
  have gb := run_bits64 4607182418800017408
  rw [show ((4607182418800017408 : Nat) : Int) = 4607182418800017408 from rfl] at gb
  have g1 : bits .andNot .u64 4607182418800017408 9218868437227405312 = 0 := by decide +kernel
  have g2 : bits .and .i64 1023 2047 = 1023 := by decide +kernel
  have g3 : bits .or .u64 0 ((e + 1023) * 4503599627370496) = ((d64 false 1 e : Nat) : Int) := by
    have := bits_or_u64_nat 0 ((e + 1023).toNat * 4503599627370496) (by decide) (by omega)
    rw [Nat.zero_or] at this
    rw [d64_one e h1 h2, ← this]
    congr 1
    omega
  have hx := run_frombits64 (d64 false 1 e)
  have hm := mul_one64 e h1 h2
  have hop : ∀ t w, (binOp .mul t (.float .f64 4607182418800017408) (.float .f64 (d64 false 1 e))).run Try.prog w = .ok (.float .f64 (d64 false 1 e)) w := fun t w => run_float_arith w .mul t .f64 _ _ _ hm
  clear hm
  go_enter Try.func45, Try.ntmps45
  go_wp2_with fail
  refine (isInf_one _).mono ?_
  rintro e w' ⟨rfl, rfl⟩
  go_wp2_with fail
  refine (isNaN_one _).mono ?_
  rintro e w' ⟨rfl, rfl⟩
  go_wp2_with fail
  refine (normalize_one _).mono ?_
  rintro e w' ⟨rfl, rfl⟩
  go_wp2_with fail
  go_ret
  exact ⟨rfl, rfl⟩

theorem ldexpOne_any (e : Int) (w : World) (h1 : -149 ≤ e) (h2 : e ≤ 104) :
    Calls Try.prog 41 #[.float .f64 4607182418800017408, .int .i64 e] w fun r w' => r = .returned (.float .f64 (d64 false 1 e)) ∧ w = w' := by
  go_enter Try.func41, Try.ntmps41
  go_wp2_with fail
  refine (ldexp_one e _ h1 h2).mono ?_
  rintro e w' ⟨rfl, rfl⟩
  go_wp2_with fail
  go_ret
  exact ⟨rfl, rfl⟩

theorem pow_word (e : Int) (h1 : -149 ≤ e) (h2 : e ≤ 104) : s32 false 1 e < 4294967296 ∧ fin32 (s32 false 1 e) = true := by
  have lt := Ieee.single.nearest_lt false 1 e
  have hlt : s32 false 1 e < 4294967296 := lt
  refine ⟨hlt, ?_⟩
  obtain ⟨m', p', h, _⟩ := (repr32 (m := 1) (p := e) (by decide) h1 h2).read false
  have h' : Ieee.single.read (s32 false 1 e) = .number false m' p' := h
  cases hf : fin32 (s32 false 1 e)
  · exfalso
    by_cases hn : nan32 (s32 false 1 e) = true
    · obtain ⟨s, t, x⟩ := read32_nan _ (by simpa [nan32] using hn)
      rw [h'] at x; cases x
    · have hi : s32 false 1 e % 2147483648 = 2139095040 := by unfold fin32 at hf; unfold nan32 at hn; simp at hf hn; omega
      have x := read32_inf _ hlt hi
      rw [h'] at x; cases x
  · rfl

theorem one32_64 : floatToFloatBits .f32 1065353216 .f64 = some 4607182418800017408 := by decide +kernel
theorem scaleOne_any (e : Int) (w : World) (h1 : -149 ≤ e) (h2 : e ≤ 104) :
    Calls Try.prog 35 #[.float .f32 1065353216, .int .i64 e] w fun r w' => r = .returned (.tuple #[.float .f32 (s32 false 1 e), .int .i64 0]) ∧ w = w' := by
  have hc1 : ∀ w, (convert 22 26 (.float .f32 1065353216)).run Try.prog w = .ok (.float .f64 4607182418800017408) w := fun w => run_convert_float_float w _ _ _ _ _ _ (by kernel_rfl) (by kernel_rfl) one32_64
  have hc2 : ∀ w, (convert 26 22 (.float .f64 (d64 false 1 e))).run Try.prog w = .ok (.float .f32 (s32 false 1 e)) w := fun w => run_convert_float_float w _ _ _ _ _ _ (by kernel_rfl) (by kernel_rfl) (conv_6432 false (by decide) h1 h2)
  have hp := Lib.hid (pow_word e h1 h2)
  go_enter Try.func35, Try.ntmps35
  go_wp2_with fail
  refine (implFinite_any 1065353216 _ (by decide)).mono ?_
  rintro e w' ⟨rfl, rfl⟩
  rw [show fin32 1065353216 = true by decide]
  go_wp2_with fail
  refine (ldexpOne_any _ _ h1 h2).mono ?_
  rintro e w' ⟨rfl, rfl⟩
  go_wp2_with fail
  refine (implFinite_any _ _ hp.out.1).mono ?_
  rintro e w' ⟨rfl, rfl⟩
  rw [hp.out.2]
  go_wp2_with fail
  go_ret2
  exact ⟨rfl, rfl⟩

theorem implLast_no (b : Nat) (w : World) (hb : b < 4294967296) (hf : fin32 b = false) :
    Calls Try.prog 19 #[.float .f32 b] w fun r w' => r = .returned (.tuple #[.float .f32 0, .int .i64 1]) ∧ w = w' := by
  go_enter Try.func19, Try.ntmps19
  go_wp2_with fail
  refine (implParts_no b _ hb hf).mono ?_
  rintro e w' ⟨rfl, rfl⟩
  go_wp2_with fail
  go_ret2
  exact ⟨rfl, rfl⟩
theorem specLast_no (b : Nat) (w : World) (hb : b < 4294967296) (hf : fin32 b = false) :
    Calls Try.prog 18 #[.float .f32 b] w fun r w' => r = .returned (.tuple #[.float .f32 0, .int .i64 1]) ∧ ∃ n, w' = w.drewN n := by
  go_enter Try.func18, Try.ntmps18
  go_wp2_with fail
  refine (fin_no b _ hb hf).mono ?_
  rintro e w' ⟨rfl, rfl⟩
  go_wp2_with fail
  go_ret2
  exact ⟨rfl, 1, rfl⟩
theorem implLast_yes (b : Nat) (w : World) (hb : b < 4294967296) (hf : fin32 b = true) :
    Calls Try.prog 19 #[.float .f32 b] w fun r w' => r = .returned (.tuple #[.float .f32 (s32 false 1 (-149 + expo (b % 2147483648))), .int .i64 0]) ∧ w = w' := by
  have l := expo_le (b % 2147483648) (by simpa [fin32] using hf)
  obtain ⟨x, hx⟩ : ∃ x : Int, x = -149 + expo (b % 2147483648) := ⟨_, rfl⟩
  have x1 : -149 ≤ x := by omega
  have x2 : x ≤ 104 := by omega
  rw [← hx]
  have H := Lib.hid hx
  clear hx l
  go_enter Try.func19, Try.ntmps19
  go_wp2_with fail
  refine (implParts_yes b _ hb hf).mono ?_
  rintro e w' ⟨rfl, rfl⟩
  rw [← H.out]
  go_wp2_with fail
  refine (scaleOne_any x _ x1 x2).mono ?_
  rintro e w' ⟨rfl, rfl⟩
  go_wp2_with fail
  go_ret2
  exact ⟨rfl, rfl⟩
theorem specLast_yes (b : Nat) (w : World) (hb : b < 4294967296) (hf : fin32 b = true) :
    Calls Try.prog 18 #[.float .f32 b] w fun r w' => r = .returned (.tuple #[.float .f32 (s32 false 1 (-149 + expo (b % 2147483648))), .int .i64 0]) ∧ w = w' := by
  have l := expo_le (b % 2147483648) (by simpa [fin32] using hf)
  obtain ⟨x, hx⟩ : ∃ x : Int, x = -149 + expo (b % 2147483648) := ⟨_, rfl⟩
  have x1 : -149 ≤ x := by omega
  have x2 : x ≤ 104 := by omega
  rw [← hx]
  have H := Lib.hid hx
  have hc2 : ∀ w, (convert 26 22 (.float .f64 (d64 false 1 x))).run Try.prog w = .ok (.float .f32 (s32 false 1 x)) w := fun w => run_convert_float_float w _ _ _ _ _ _ (by kernel_rfl) (by kernel_rfl) (conv_6432 false (by decide) x1 x2)
  clear hx l
  by_cases h : 0 ≤ x
  · obtain ⟨k, rfl⟩ := Int.eq_ofNat_of_zero_le h
    have H0 : Hid (d64 false 1 (0 + (k : Int)) = d64 false 1 k) := Lib.hid (by rw [Int.zero_add])
    have H1 : Hid ((0 : Int) + k ≤ 971) := Lib.hid (by omega)
    go_enter Try.func18, Try.ntmps18
    go_wp2_with fail
    refine (fin_yes b _ hb hf).mono ?_
    rintro e w' ⟨rfl, rfl⟩
    go_wp2_with fail
    refine (parts_fin b _ hb hf).mono ?_
    rintro e w' ⟨rfl, rfl⟩
    rw [← H.out]
    go_wp2_with fail
    rw [one_is]
    refine (twos_up false 1 0 k _ (by decide) (by decide) H1.out).mono ?_
    rintro e w' ⟨rfl, rfl⟩
    rw [H0.out]
    go_wp2_with fail
    go_ret2
    exact ⟨rfl, rfl⟩
  · obtain ⟨k, hk⟩ : ∃ k : Nat, k = (-x).toNat := ⟨_, rfl⟩
    have H0 : Hid (d64 false 1 (0 - (k : Int)) = d64 false 1 x) := Lib.hid (by congr 1; omega)
    have H1 : Hid (-1074 ≤ (0 : Int) - k) := Lib.hid (by omega)
    have H2 : Hid (x = -(k : Int)) := Lib.hid (by omega)
    clear hk
    go_enter Try.func18, Try.ntmps18
    go_wp2_with fail
    refine (fin_yes b _ hb hf).mono ?_
    rintro e w' ⟨rfl, rfl⟩
    go_wp2_with fail
    refine (parts_fin b _ hb hf).mono ?_
    rintro e w' ⟨rfl, rfl⟩
    rw [← H.out]
    go_wp2_with fail
    rw [one_is, show (#[Value.float .f64 (d64 false 1 0), Value.int .i64 x] : Array Value) = #[.float .f64 (d64 false 1 0), .int .i64 (-(k : Int))] by rw [← H2.out]]
    refine (twos_down false 1 0 k _ (by decide) H1.out (by decide)).mono ?_
    rintro e w' ⟨rfl, rfl⟩
    rw [H0.out]
    go_wp2_with fail
    go_ret2
    exact ⟨rfl, rfl⟩
end Go.Proofs.Ytjoflmclgiemoab
