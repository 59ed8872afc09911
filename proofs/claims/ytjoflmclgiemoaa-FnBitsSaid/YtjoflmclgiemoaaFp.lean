/- The walks of the model's FloatOfBits. -/
import Derived.Test.YtjoflmclgiemoaaFo
namespace Go.Proofs.Ytjoflmclgiemoaa
open Go.RowKit

theorem specFob_no (n : Int) (w : World) (h : n < 0 ∨ 4294967295 < n) : Calls Try.prog 18 #[.int .i64 n] w fun e w' => e = .returned (.tuple #[.float .f32 0, .int .i64 2]) ∧ w = w' := by
  go_enter Try.func18, Try.ntmps18
  go_wp2_with fail
  refine (in_no n 0 4294967295 _ h).mono ?_
  rintro e w' ⟨rfl, rfl⟩
  go_wp2_with fail
  go_ret2
  exact ⟨rfl, rfl⟩

theorem specFob_nan (n : Nat) (w : World) (hn : n < 4294967296) (hr : nan32 n = true) : Calls Try.prog 18 #[.int .i64 n] w fun e w' => e = .returned (.tuple #[.float .f32 (nanOf w 2139095040 2139095040), .int .i64 0]) ∧ w' = w.drew := by
  have h1 : (n : Int) ≤ 4294967295 := by omega
  have ha := and_low31 n (by omega)
  obtain ⟨r, hrr⟩ : ∃ r : Int, r = ((n % 2147483648 : Nat) : Int) := ⟨_, rfl⟩
  have h2 : 2139095041 ≤ r := by unfold nan32 at hr; simp at hr; omega
  rw [← hrr] at ha
  have hop : ∀ t w, (binOp .sub t (.float .f32 2139095040) (.float .f32 2139095040)).run Try.prog w = .ok (.float .f32 (nanOf w 2139095040 2139095040)) w.drew := fun t w => run_nan32 w .sub (.inr (.inl rfl)) t _ _ huge_sub
  clear hrr hn hr
  go_enter Try.func18, Try.ntmps18
  go_wp2_with fail
  refine (in_yes n 0 4294967295 _ (by omega) h1).mono ?_
  rintro e w' ⟨rfl, rfl⟩
  go_wp2_with fail
  refine (huge_any _).mono ?_
  rintro e w' ⟨rfl, rfl⟩
  go_wp2_with fail
  refine (huge_any _).mono ?_
  rintro e w' ⟨rfl, rfl⟩
  go_wp2_with fail
  go_ret2
  exact ⟨rfl, rfl⟩

theorem turned_yes (b : Nat) (w : World) (hb : b < 4294967296) (hn : nan32 b = false) : Calls Try.prog 49 #[.float .f32 b] w fun e w' => e = .returned (.float .f32 (if 2147483648 ≤ b then b - 2147483648 else b + 2147483648)) ∧ w = w' := by
  have hm : floatBits .mul .f32 b 3212836864 = some (if 2147483648 ≤ b then b - 2147483648 else b + 2147483648) := by
    by_cases hf : fin32 b = true
    · exact mul_neg1 b hb hf
    · refine mul_neg1_inf b hb ?_
      unfold fin32 at hf; unfold nan32 at hn; simp at hf hn; omega
  generalize (if 2147483648 ≤ b then b - 2147483648 else b + 2147483648) = c at *
  have hop : ∀ t w, (binOp .mul t (.float .f32 b) (.float .f32 3212836864)).run Try.prog w = .ok (.float .f32 c) w := fun t w => run_float_arith w .mul t .f32 _ _ _ hm
  clear hm
  go_enter Try.func49, Try.ntmps49
  go_wp2
  go_ret
  exact ⟨rfl, rfl⟩

theorem specFob_yes (n : Nat) (w : World) (hn : n < 4294967296) (hr : nan32 n = false) : Calls Try.prog 18 #[.int .i64 n] w fun e w' => e = .returned (.tuple #[.float .f32 n, .int .i64 0]) ∧ w = w' := by
  have h1 : (n : Int) ≤ 4294967295 := by omega
  have ha := and_low31 n (by omega)
  obtain ⟨r, hrr⟩ : ∃ r : Nat, r = n % 2147483648 := ⟨_, rfl⟩
  have h2 : r ≤ 2139095040 := by unfold nan32 at hr; simp at hr; omega
  have h2' : (r : Int) ≤ 2139095040 := by omega
  have H2 := Lib.hid h2
  rw [← hrr] at ha
  by_cases h3 : 2147483648 ≤ n
  · have h3' : 2147483648 ≤ (n : Int) := by omega
    have H4 : Hid ((if 2147483648 ≤ r then r - 2147483648 else r + 2147483648) = n) := Lib.hid (by rw [if_neg (by omega)]; omega)
    have H5 : Hid (r < 4294967296) := Lib.hid (by omega)
    have H6 : Hid (nan32 r = false) := Lib.hid (by unfold nan32; simp; omega)
    clear hrr hn hr h3 h2
    go_enter Try.func18, Try.ntmps18
    go_wp2_with fail
    refine (in_yes n 0 4294967295 _ (by omega) h1).mono ?_
    rintro e w' ⟨rfl, rfl⟩
    go_wp2_with fail
    refine (at_nat r _ H2.out).mono ?_
    rintro e w' ⟨rfl, rfl⟩
    go_wp2_with fail
    refine (turned_yes r _ H5.out H6.out).mono ?_
    rintro e w' ⟨rfl, rfl⟩
    rw [H4.out]
    go_wp2_with fail
    go_ret2
    exact ⟨rfl, rfl⟩
  · have hd : decide ((2147483648 : Int) ≤ (n : Int)) = false := by rw [decide_eq_false]; omega
    have H4 : Hid (r = n) := Lib.hid (by omega)
    clear hrr hn hr h3 h2
    go_enter Try.func18, Try.ntmps18
    go_wp2_with fail
    refine (in_yes n 0 4294967295 _ (by omega) h1).mono ?_
    rintro e w' ⟨rfl, rfl⟩
    go_wp2_with fail
    refine (at_nat r _ H2.out).mono ?_
    rintro e w' ⟨rfl, rfl⟩
    go_wp2_with fail
    go_ret2
    exact ⟨ret2_float H4.out, rfl⟩
end Go.Proofs.Ytjoflmclgiemoaa
