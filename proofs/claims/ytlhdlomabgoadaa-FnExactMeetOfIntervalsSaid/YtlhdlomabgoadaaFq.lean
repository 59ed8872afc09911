/- The walks of FloatAtPlace, of the model and of the program. -/
import Derived.Test.YtlhdlomabgoadaaFo
namespace Go.Proofs.Ytlhdlomabgoadaa
set_option maxRecDepth 100000
open Go.RowKit

theorem implAt_no (n : Int) (w : World) (h : n < -2139095040 ∨ 2139095040 < n) : Calls Try.prog 78 #[.int .i64 n] w fun e w' => e = .returned (.tuple #[.float .f32 0, .int .i64 2]) ∧ w = w' := by
  by_cases h1 : n < -2139095040
  · clear h
    go_enter Try.func78, Try.ntmps78
    go_wp2_with fail
    go_ret2
    exact ⟨rfl, rfl⟩
  · have h2 : 2139095040 < n := by omega
    clear h
    go_enter Try.func78, Try.ntmps78
    go_wp2_with fail
    go_ret2
    exact ⟨rfl, rfl⟩

theorem implAt_yes (n : Int) (w : World) (h1 : -2139095040 ≤ n) (h2 : n ≤ 2139095040) : Calls Try.prog 78 #[.int .i64 n] w fun e w' => e = .returned (.tuple #[.float .f32 (at32 n), .int .i64 0]) ∧ w = w' := by
  by_cases h : n < 0
  · have H1 : Hid (2147483648 - n = ((at32 n : Nat) : Int)) := Lib.hid (by unfold at32; rw [if_pos h]; omega)
    have H2 : Hid (at32 n < 4294967296) := Lib.hid (by unfold at32; rw [if_pos h]; omega)
    have H3 : Hid (nan32 (at32 n) = false) := Lib.hid (by unfold at32 nan32; rw [if_pos h]; simp; omega)
    go_enter Try.func78, Try.ntmps78
    go_wp2_with fail
    rw [H1.out]
    refine (implFob_yes (at32 n) _ H2.out H3.out).mono ?_
    rintro e w' ⟨rfl, rfl⟩
    go_wp2_with fail
    go_ret2
    exact ⟨rfl, rfl⟩
  · have H1 : Hid (n = ((at32 n : Nat) : Int)) := Lib.hid (by unfold at32; rw [if_neg h]; omega)
    have H2 : Hid (at32 n < 4294967296) := Lib.hid (by unfold at32; rw [if_neg h]; omega)
    have H3 : Hid (nan32 (at32 n) = false) := Lib.hid (by unfold at32 nan32; rw [if_neg h]; simp; omega)
    go_enter Try.func78, Try.ntmps78
    go_wp2_with fail
    rw [show (#[Value.int .i64 n] : Array Value) = #[.int .i64 ((at32 n : Nat) : Int)] by rw [← H1.out]]
    refine (implFob_yes (at32 n) _ H2.out H3.out).mono ?_
    rintro e w' ⟨rfl, rfl⟩
    go_wp2_with fail
    go_ret2
    exact ⟨rfl, rfl⟩
end Go.Proofs.Ytlhdlomabgoadaa
