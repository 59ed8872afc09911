/- The walks of the program's own functions of chapter 1 that tell bits, classes and places. -/
import Derived.Test.YtlhdlomabgoadaaWc
import Derived.Test.YtlhdlomabgoadaaBi
import Derived.Laws.Externs
namespace Go.Proofs.Ytlhdlomabgoadaa
set_option maxRecDepth 100000
open Go.RowKit

theorem run_bits (b : Nat) (w : World) : (callFunc 71 #[.float .f32 b]).run Try.prog w = .ok (.value (.int .u32 b)) w := by
  rw [run_callFunc_extern Try.func71 (by kernel_rfl) (by kernel_rfl) (by kernel_rfl) (e := Extern.MathFloatBits.float32bits) (by kernel_rfl)]; rfl
theorem run_frombits (n : Nat) (w : World) : (callFunc 80 #[.int .u32 n]).run Try.prog w = .ok (.value (.float .f32 n)) w := by
  rw [run_callFunc_extern Try.func80 (by kernel_rfl) (by kernel_rfl) (by kernel_rfl) (e := Extern.MathFloatBits.float32frombits) (by kernel_rfl)]; rfl

theorem implBits_any (b : Nat) (w : World) (hb : b < 4294967296) :
    Calls Try.prog 61 #[.float .f32 b] w fun e w' => e = .returned (.int .i64 (bits32 b)) ∧ w = w' := by
  have h := ne32 b hb
  by_cases hn : nan32 b = true
  · unfold bits32
    rw [if_pos hn]
    rw [hn] at h
    go_enter Try.func61, Try.ntmps61
    go_wp2
    go_ret
    exact ⟨rfl, rfl⟩
  · have hn : nan32 b = false := by simpa using hn
    unfold bits32
    rw [if_neg (by rw [hn]; decide)]
    rw [hn] at h
    have hx := run_bits b
    go_enter Try.func61, Try.ntmps61
    go_wp2
    go_ret
    exact ⟨rfl, rfl⟩

theorem bits32_lt (b : Nat) (hb : b < 4294967296) : bits32 b < 4294967296 := by unfold bits32; split <;> omega
theorem bits32_not {b : Nat} (hn : nan32 b = false) : bits32 b = b := by unfold bits32; rw [if_neg (by rw [hn]; decide)]

theorem implUnsigned_any (b : Nat) (w : World) (hb : b < 4294967296) :
    Calls Try.prog 64 #[.float .f32 b] w fun e w' => e = .returned (.int .i64 ((bits32 b % 2147483648 : Nat) : Int)) ∧ w = w' := by
  have h := andNot31 (bits32 b) (bits32_lt b hb)
  go_enter Try.func64, Try.ntmps64
  go_wp2_with fail
  refine (implBits_any b _ hb).mono ?_
  rintro e w' ⟨rfl, rfl⟩
  go_wp2
  go_ret
  exact ⟨rfl, rfl⟩

theorem implFinite_any (b : Nat) (w : World) (hb : b < 4294967296) :
    Calls Try.prog 55 #[.float .f32 b] w fun e w' => e = .returned (.bool (fin32 b)) ∧ w = w' := by
  have h : decide (((bits32 b % 2147483648 : Nat) : Int) < 2139095040) = fin32 b := by
    unfold fin32 bits32 nan32
    rw [decide_eq_decide]
    split
    · rename_i h; simp at h; omega
    · omega
  obtain ⟨n, hn⟩ : ∃ n : Int, n = ((bits32 b % 2147483648 : Nat) : Int) := ⟨_, rfl⟩
  rw [← h, ← hn]
  have H := Lib.hid hn
  clear h hn
  go_enter Try.func55, Try.ntmps55
  go_wp2_with fail
  refine (implUnsigned_any b _ hb).mono ?_
  rintro e w' ⟨rfl, rfl⟩
  rw [← H.out]
  go_wp2
  go_ret
  exact ⟨rfl, rfl⟩

/-- the class of a float -/
def class32 (b : Nat) : Int :=
  if b % 2147483648 = 0 then 0 else if b % 2147483648 < 8388608 then 1 else if b % 2147483648 < 2139095040 then 2 else if b % 2147483648 = 2139095040 then 3 else 4

end Go.Proofs.Ytlhdlomabgoadaa
