/- The walks of the program's own functions of chapter 1 that tell bits, classes and places. -/
import Derived.Test.YtjoflmclgiemoaaWc
import Derived.Laws.Externs
namespace Go.Proofs.Ytjoflmclgiemoaa
open Go.RowKit

theorem run_bits (b : Nat) (w : World) : (callFunc 36 #[.float .f32 b]).run Try.prog w = .ok (.value (.int .u32 b)) w := by
  rw [run_callFunc_extern Try.func36 (by kernel_rfl) (by kernel_rfl) (by kernel_rfl) (e := Extern.MathFloatBits.float32bits) (by kernel_rfl)]; rfl
theorem run_frombits (n : Nat) (w : World) : (callFunc 37 #[.int .u32 n]).run Try.prog w = .ok (.value (.float .f32 n)) w := by
  rw [run_callFunc_extern Try.func37 (by kernel_rfl) (by kernel_rfl) (by kernel_rfl) (e := Extern.MathFloatBits.float32frombits) (by kernel_rfl)]; rfl

theorem implBits_any (b : Nat) (w : World) (hb : b < 4294967296) :
    Calls Try.prog 11 #[.float .f32 b] w fun e w' => e = .returned (.int .i64 (bits32 b)) ∧ w = w' := by
  have h := ne32 b hb
  by_cases hn : nan32 b = true
  · unfold bits32
    rw [if_pos hn]
    rw [hn] at h
    go_enter Try.func11, Try.ntmps11
    go_wp2
    go_ret
    exact ⟨rfl, rfl⟩
  · have hn : nan32 b = false := by simpa using hn
    unfold bits32
    rw [if_neg (by rw [hn]; decide)]
    rw [hn] at h
    have hx := run_bits b
    go_enter Try.func11, Try.ntmps11
    go_wp2
    go_ret
    exact ⟨rfl, rfl⟩
end Go.Proofs.Ytjoflmclgiemoaa
