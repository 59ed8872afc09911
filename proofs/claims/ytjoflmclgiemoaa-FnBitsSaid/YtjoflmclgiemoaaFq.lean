/- The walks of FloatAtPlace, of the model and of the program. -/
import Derived.Test.YtjoflmclgiemoaaFo
namespace Go.Proofs.Ytjoflmclgiemoaa
open Go.RowKit

theorem specAt_no (n : Int) (w : World) (h : n < -2139095040 ∨ 2139095040 < n) : Calls Try.prog 25 #[.int .i64 n] w fun e w' => e = .returned (.tuple #[.float .f32 0, .int .i64 2]) ∧ w = w' := by
  go_enter Try.func25, Try.ntmps25
  go_wp2_with fail
  refine (in_no n (-2139095040) 2139095040 _ h).mono ?_
  rintro e w' ⟨rfl, rfl⟩
  go_wp2_with fail
  go_ret2
  exact ⟨rfl, rfl⟩

theorem specAt_yes (n : Int) (w : World) (h1 : -2139095040 ≤ n) (h2 : n ≤ 2139095040) : Calls Try.prog 25 #[.int .i64 n] w fun e w' => e = .returned (.tuple #[.float .f32 (at32 n), .int .i64 0]) ∧ w = w' := by
  go_enter Try.func25, Try.ntmps25
  go_wp2_with fail
  refine (in_yes n (-2139095040) 2139095040 _ h1 h2).mono ?_
  rintro e w' ⟨rfl, rfl⟩
  go_wp2_with fail
  refine (at_any n _ h1 h2).mono ?_
  rintro e w' ⟨rfl, rfl⟩
  go_wp2_with fail
  go_ret2
  exact ⟨rfl, rfl⟩

theorem implAt_no (n : Int) (w : World) (h : n < -2139095040 ∨ 2139095040 < n) : Calls Try.prog 21 #[.int .i64 n] w fun e w' => e = .returned (.tuple #[.float .f32 0, .int .i64 2]) ∧ w = w' := by
  by_cases h1 : n < -2139095040
  · clear h
    go_enter Try.func21, Try.ntmps21
    go_wp2_with fail
    go_ret2
    exact ⟨rfl, rfl⟩
  · have h2 : 2139095040 < n := by omega
    clear h
    go_enter Try.func21, Try.ntmps21
    go_wp2_with fail
    go_ret2
    exact ⟨rfl, rfl⟩

theorem implAt_yes (n : Int) (w : World) (h1 : -2139095040 ≤ n) (h2 : n ≤ 2139095040) : Calls Try.prog 21 #[.int .i64 n] w fun e w' => e = .returned (.tuple #[.float .f32 (at32 n), .int .i64 0]) ∧ w = w' := by
  by_cases h : n < 0
  · have H1 : Hid (2147483648 - n = ((at32 n : Nat) : Int)) := Lib.hid (by unfold at32; rw [if_pos h]; omega)
    have H2 : Hid (at32 n < 4294967296) := Lib.hid (by unfold at32; rw [if_pos h]; omega)
    have H3 : Hid (nan32 (at32 n) = false) := Lib.hid (by unfold at32 nan32; rw [if_pos h]; simp; omega)
    go_enter Try.func21, Try.ntmps21
    go_wp2_with fail
    rw [H1.out]
    refine (implFob_yes (at32 n) _ H2.out H3.out).mono ?_
    rintro e w' ⟨rfl, rfl⟩
    go_wp2_with fail
    go_ret2
    exact ⟨rfl, rfl⟩
  · have H1 : Hid (n = ((at32 n : Nat) : Int)) := Lib.hid (by unfold at32; rw [if_neg h]; omega)
    have H2 : Hid (at32 n < 4294967296) := Lib.hid (by unfold at32; rw [if_neg h]; omega)
    have H3 : Hid (nan32 (at32 n) = false) := Lib.hid (by unfold at32 nan32; rw [if_neg h]; simp; omega)
    go_enter Try.func21, Try.ntmps21
    go_wp2_with fail
    rw [show (#[Value.int .i64 n] : Array Value) = #[.int .i64 ((at32 n : Nat) : Int)] by rw [← H1.out]]
    refine (implFob_yes (at32 n) _ H2.out H3.out).mono ?_
    rintro e w' ⟨rfl, rfl⟩
    go_wp2_with fail
    go_ret2
    exact ⟨rfl, rfl⟩
end Go.Proofs.Ytjoflmclgiemoaa
