/- The walks of the model's float at a place, its huge float, its turned float; of FloatOfBits and FloatAtPlace of the model and of the program. -/
import Derived.Test.YtlhdlomabgoadaaIb
namespace Go.Proofs.Ytlhdlomabgoadaa
set_option maxRecDepth 100000
open Go.RowKit

theorem huge_any (w : World) : Calls Try.prog 60 #[] w fun e w' => e = .returned (.float .f32 2139095040) ∧ w = w' := by
  have hop : ∀ t w, (binOp .mul t (.float .f32 2137108966) (.float .f32 1092616192)).run Try.prog w = .ok (.float .f32 2139095040) w := fun t w => run_float_arith w .mul t .f32 _ _ _ huge_mul
  go_enter Try.func60, Try.ntmps60
  go_wp2
  go_ret
  exact ⟨rfl, rfl⟩

theorem ret_float {k : FloatKind} {a b : Nat} (h : a = b) : Ending.returned (.float k a) = .returned (.float k b) := by rw [h]

theorem word_false (f : Nat) (h : f < 2139095040) : s32 false (mant f) (-149 + expo f) = f := by
  have := s32_rung false f h
  rw [this]; rfl

set_option maxHeartbeats 400000 in
theorem at_nat (n : Nat) (w : World) (hn : n ≤ 2139095040) : Calls Try.prog 66 #[.int .i64 n] w fun e w' => e = .returned (.float .f32 n) ∧ w = w' := by
  have ha := and_low23 n (by omega)
  obtain ⟨e, he⟩ : ∃ e : Nat, e = n / 8388608 := ⟨_, rfl⟩
  obtain ⟨f, hf⟩ : ∃ f : Nat, f = n % 8388608 := ⟨_, rfl⟩
  have hdiv : (n : Int) / 8388608 = e := by omega
  rw [← hf] at ha
  by_cases h1 : e = 255
  · have hn' : n = 2139095040 := by omega
    have Hn := Lib.hid hn'
    have d1 : ((e : Int) == 255) = true := by simp; omega
    clear hn' he hf h1 hn
    go_enter Try.func66, Try.ntmps66
    go_wp2_with fail
    refine (huge_any _).mono ?_
    rintro e w' ⟨rfl, rfl⟩
    go_wp2_with fail
    go_ret
    exact ⟨ret_float Hn.out.symm, rfl⟩
  · have d1 : ((e : Int) == 255) = false := by simp; omega
    by_cases h2 : e = 0
    · have hn' : n = f := by omega
      have d2 : ((e : Int) == 0) = true := by simp; omega
      have Hn : Hid (s32 false f (-149) = n) := Lib.hid (by
        have := word_false f (by omega)
        rw [show mant f = f by unfold mant; rw [if_pos (by omega)], show expo f = 0 by unfold expo; rw [if_pos (by omega)]] at this
        rw [hn']; exact this)
      have hc := conv_6432 false (m := f) (p := -149) (by omega) (by omega) (by omega)
      have hcv : ∀ w, (convert 47 22 (.float .f64 (d64 false f (-149)))).run Try.prog w = .ok (.float .f32 (s32 false f (-149))) w := fun w => run_convert_float_float w _ _ _ _ _ _ (by kernel_rfl) (by kernel_rfl) hc
      have fl : f < 9007199254740992 := by omega
      have H3 := Lib.hid hcv
      have H4 := Lib.hid (int_to_64 f)
      have H5 := Lib.hid fl
      clear hcv hc hn' he hf h1 h2 hn fl
      go_enter Try.func66, Try.ntmps66
      go_wp2_with fail
      rw [H4.out]
      refine (twos_down false f 0 149 _ H5.out (by omega) (by omega)).mono ?_
      rintro e w' ⟨rfl, rfl⟩
      have h3 := H3.out
      go_wp2_with fail
      go_ret
      exact ⟨ret_float Hn.out, rfl⟩
    · have d2 : ((e : Int) == 0) = false := by simp; omega
      have H4 : Hid (floatOfInt .f64 ((f : Int) + 8388608) = d64 false (f + 8388608) 0) := Lib.hid (int_to_64 (f + 8388608))
      have el : (e : Int) ≤ 254 := by omega
      have el1 : 1 ≤ (e : Int) := by omega
      have fl : (f : Int) ≤ 8388607 := by omega
      have fl' : Hid (f + 8388608 < 9007199254740992) := Lib.hid (by omega)
      have Hn : Hid (s32 false (f + 8388608) ((e : Int) - 150) = n) := Lib.hid (by
        have := word_false n (by omega)
        rw [show mant n = f + 8388608 by unfold mant; rw [if_neg (by omega)]; omega, show expo n = e - 1 by unfold expo; rw [if_neg (by omega)]; omega] at this
        rw [show (e : Int) - 150 = -149 + ((e - 1 : Nat) : Int) by omega]
        exact this)
      have hc := conv_6432 false (m := f + 8388608) (p := (e : Int) - 150) (by omega) (by omega) (by omega)
      have hcv : ∀ w, (convert 47 22 (.float .f64 (d64 false (f + 8388608) ((e : Int) - 150)))).run Try.prog w = .ok (.float .f32 (s32 false (f + 8388608) ((e : Int) - 150))) w := fun w => run_convert_float_float w _ _ _ _ _ _ (by kernel_rfl) (by kernel_rfl) hc
      have H3 := Lib.hid hcv
      clear hcv hc he hf h1 h2 hn
      by_cases h5 : 150 ≤ e
      · obtain ⟨k, hk⟩ : ∃ k : Nat, k = e - 150 := ⟨_, rfl⟩
        have H6 : Hid ((e : Int) - 150 = (k : Int)) := Lib.hid (by omega)
        have H7 : Hid ((e : Int) - 150 = 0 + (k : Int)) := Lib.hid (by omega)
        have H8 : Hid ((0 : Int) + (k : Int) ≤ 971) := Lib.hid (by omega)
        clear hk h5
        go_enter Try.func66, Try.ntmps66
        go_wp2_with fail
        rw [H4.out, H6.out]
        refine (twos_up false (f + 8388608) 0 k _ fl'.out (by decide) H8.out).mono ?_
        rintro e w' ⟨rfl, rfl⟩
        rw [← H7.out]
        have h3 := H3.out
        go_wp2_with fail
        go_ret
        exact ⟨ret_float Hn.out, rfl⟩
      · obtain ⟨k, hk⟩ : ∃ k : Nat, k = 150 - e := ⟨_, rfl⟩
        have H6 : Hid ((e : Int) - 150 = -(k : Int)) := Lib.hid (by omega)
        have H7 : Hid ((e : Int) - 150 = 0 - (k : Int)) := Lib.hid (by omega)
        have H8 : Hid (-1074 ≤ (0 : Int) - (k : Int)) := Lib.hid (by omega)
        clear hk h5
        go_enter Try.func66, Try.ntmps66
        go_wp2_with fail
        rw [H4.out, H6.out]
        refine (twos_down false (f + 8388608) 0 k _ fl'.out H8.out (by decide)).mono ?_
        rintro e w' ⟨rfl, rfl⟩
        rw [← H7.out]
        have h3 := H3.out
        go_wp2_with fail
        go_ret
        exact ⟨ret_float Hn.out, rfl⟩

/-- the float at a place -/
def at32 (n : Int) : Nat := if n < 0 then n.natAbs + 2147483648 else n.natAbs

theorem at_any (n : Int) (w : World) (h1 : -2139095040 ≤ n) (h2 : n ≤ 2139095040) : Calls Try.prog 66 #[.int .i64 n] w fun e w' => e = .returned (.float .f32 (at32 n)) ∧ w = w' := by
  by_cases h : n < 0
  · obtain ⟨m, hm⟩ : ∃ m : Nat, m = n.natAbs := ⟨_, rfl⟩
    have H1 : Hid (-n = (m : Int)) := Lib.hid (by omega)
    have H2 : Hid (m ≤ 2139095040) := Lib.hid (by omega)
    have H3 : Hid (Op.negFloat .f32 m = at32 n) := Lib.hid (by
      rw [negFloat32 m (by omega), if_neg (by omega)]; unfold at32; rw [if_pos h, hm])
    have hop : Op.unary .neg (.float .f32 m) = pure (.float .f32 (Op.negFloat .f32 m)) := rfl
    clear hm
    go_enter Try.func66, Try.ntmps66
    go_wp2_with fail
    rw [H1.out]
    refine (at_nat m _ H2.out).mono ?_
    rintro e w' ⟨rfl, rfl⟩
    go_wp2_with fail
    go_ret
    exact ⟨ret_float H3.out, rfl⟩
  · obtain ⟨m, rfl⟩ := Int.eq_ofNat_of_zero_le (by omega : 0 ≤ n)
    refine (at_nat m w (by omega)).mono fun e w' ⟨h3, h4⟩ => ⟨?_, h4⟩
    rw [h3]
    unfold at32
    rw [if_neg h]
    rfl

end Go.Proofs.Ytlhdlomabgoadaa
