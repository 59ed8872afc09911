/- The walks of FloatOfBits and FloatAtPlace, of the model and of the program; and of the laws' own sameFloat. -/
import Derived.Test.YtlhdlomabgoadaaAt
namespace Go.Proofs.Ytlhdlomabgoadaa
set_option maxRecDepth 100000
open Go.RowKit

theorem ret2_float {k : FloatKind} {a b : Nat} {x : Value} (h : a = b) : Ending.returned (.tuple #[.float k a, x]) = .returned (.tuple #[.float k b, x]) := by rw [h]

theorem implFob_no (n : Int) (w : World) (h : n < 0 ∨ 4294967295 < n) : Calls Try.prog 79 #[.int .i64 n] w fun e w' => e = .returned (.tuple #[.float .f32 0, .int .i64 2]) ∧ w = w' := by
  by_cases h1 : n < 0
  · clear h
    go_enter Try.func79, Try.ntmps79
    go_wp2
    go_ret2
    exact ⟨rfl, rfl⟩
  · have h2 : 4294967296 ≤ n := by omega
    have h3 : 0 ≤ n := by omega
    clear h h1
    go_enter Try.func79, Try.ntmps79
    go_wp2
    go_ret2
    exact ⟨rfl, rfl⟩

theorem implFob_nan (n : Nat) (w : World) (hn : n < 4294967296) (hr : nan32 n = true) : Calls Try.prog 79 #[.int .i64 n] w fun e w' => e = .returned (.tuple #[.float .f32 2143289344, .int .i64 0]) ∧ w = w' := by
  have h1 : (n : Int) ≤ 4294967295 := by omega
  have ha := andNot31 n hn
  obtain ⟨r, hrr⟩ : ∃ r : Int, r = ((n % 2147483648 : Nat) : Int) := ⟨_, rfl⟩
  have h2 : 2139095041 ≤ r := by unfold nan32 at hr; simp at hr; omega
  rw [← hrr] at ha
  have hx := run_frombits 2143289344
  rw [show ((2143289344 : Nat) : Int) = 2143289344 from rfl] at hx
  clear hrr hn hr
  go_enter Try.func79, Try.ntmps79
  go_wp2
  go_ret2
  exact ⟨rfl, rfl⟩

theorem implFob_yes (n : Nat) (w : World) (hn : n < 4294967296) (hr : nan32 n = false) : Calls Try.prog 79 #[.int .i64 n] w fun e w' => e = .returned (.tuple #[.float .f32 n, .int .i64 0]) ∧ w = w' := by
  have h1 : (n : Int) ≤ 4294967295 := by omega
  have ha := andNot31 n hn
  obtain ⟨r, hrr⟩ : ∃ r : Int, r = ((n % 2147483648 : Nat) : Int) := ⟨_, rfl⟩
  have h2 : r ≤ 2139095040 := by unfold nan32 at hr; simp at hr; omega
  rw [← hrr] at ha
  have hx := run_frombits n
  clear hrr hn hr
  go_enter Try.func79, Try.ntmps79
  go_wp2
  go_ret2
  exact ⟨rfl, rfl⟩
end Go.Proofs.Ytlhdlomabgoadaa
