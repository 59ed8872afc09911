/- The walks of the program's own functions of chapter 1 that tell bits, classes and places. -/
import Derived.Test.YtjoflmclgiemoaaWc
import Derived.Test.YtjoflmclgiemoaaBi
import Derived.Laws.Externs
namespace Go.Proofs.Ytjoflmclgiemoaa
open Go.RowKit

theorem run_bits (b : Nat) (w : World) : (callFunc 36 #[.float .f32 b]).run Try.prog w = .ok (.value (.int .u32 b)) w := by
  rw [run_callFunc_extern Try.func36 (by kernel_rfl) (by kernel_rfl) (by kernel_rfl) (e := Extern.MathFloatBits.float32bits) (by kernel_rfl)]; rfl
theorem run_frombits (n : Nat) (w : World) : (callFunc 37 #[.int .u32 n]).run Try.prog w = .ok (.value (.float .f32 n)) w := by
  rw [run_callFunc_extern Try.func37 (by kernel_rfl) (by kernel_rfl) (by kernel_rfl) (e := Extern.MathFloatBits.float32frombits) (by kernel_rfl)]; rfl

theorem implBits_any (b : Nat) (w : World) (hb : b < 4294967296) :
    Calls Try.prog 11 #[.float .f32 b] w fun e w' => e = .returned (.int .i64 (bits32 b)) ∧ w = w' := by
  have h := ne32 b hb
  by_cases hn : nan32 b = true
  · unfold bits32
    rw [if_pos hn]
    rw [hn] at h
    go_enter Try.func11, Try.ntmps11
    go_wp2
    go_ret
    exact ⟨rfl, rfl⟩
  · have hn : nan32 b = false := by simpa using hn
    unfold bits32
    rw [if_neg (by rw [hn]; decide)]
    rw [hn] at h
    have hx := run_bits b
    go_enter Try.func11, Try.ntmps11
    go_wp2
    go_ret
    exact ⟨rfl, rfl⟩

theorem bits32_lt (b : Nat) (hb : b < 4294967296) : bits32 b < 4294967296 := by unfold bits32; split <;> omega
theorem bits32_not {b : Nat} (hn : nan32 b = false) : bits32 b = b := by unfold bits32; rw [if_neg (by rw [hn]; decide)]

theorem implUnsigned_any (b : Nat) (w : World) (hb : b < 4294967296) :
    Calls Try.prog 41 #[.float .f32 b] w fun e w' => e = .returned (.int .i64 ((bits32 b % 2147483648 : Nat) : Int)) ∧ w = w' := by
  have h := andNot31 (bits32 b) (bits32_lt b hb)
  go_enter Try.func41, Try.ntmps41
  go_wp2_with fail
  refine (implBits_any b _ hb).mono ?_
  rintro e w' ⟨rfl, rfl⟩
  go_wp2
  go_ret
  exact ⟨rfl, rfl⟩

theorem implFinite_any (b : Nat) (w : World) (hb : b < 4294967296) :
    Calls Try.prog 55 #[.float .f32 b] w fun e w' => e = .returned (.bool (fin32 b)) ∧ w = w' := by
  have h : decide (((bits32 b % 2147483648 : Nat) : Int) < 2139095040) = fin32 b := by
    unfold fin32 bits32 nan32
    rw [decide_eq_decide]
    split
    · rename_i h; simp at h; omega
    · omega
  obtain ⟨n, hn⟩ : ∃ n : Int, n = ((bits32 b % 2147483648 : Nat) : Int) := ⟨_, rfl⟩
  rw [← h, ← hn]
  have H := Lib.hid hn
  clear h hn
  go_enter Try.func55, Try.ntmps55
  go_wp2_with fail
  refine (implUnsigned_any b _ hb).mono ?_
  rintro e w' ⟨rfl, rfl⟩
  rw [← H.out]
  go_wp2
  go_ret
  exact ⟨rfl, rfl⟩

/-- the class of a float -/
def class32 (b : Nat) : Int :=
  if b % 2147483648 = 0 then 0 else if b % 2147483648 < 8388608 then 1 else if b % 2147483648 < 2139095040 then 2 else if b % 2147483648 = 2139095040 then 3 else 4

theorem implClass_any (b : Nat) (w : World) (hb : b < 4294967296) :
    Calls Try.prog 15 #[.float .f32 b] w fun e w' => e = .returned (.int .i64 (class32 b)) ∧ w = w' := by
  obtain ⟨n, hn⟩ : ∃ n : Int, n = ((bits32 b % 2147483648 : Nat) : Int) := ⟨_, rfl⟩
  have hc : class32 b = if n = 0 then 0 else if n < 8388608 then 1 else if n < 2139095040 then 2 else if n = 2139095040 then 3 else 4 := by
    rw [hn]
    by_cases h : nan32 b = true
    · unfold class32 bits32
      rw [if_pos h]
      unfold nan32 at h
      simp at h
      rw [if_neg (by omega), if_neg (by omega), if_neg (by omega), if_neg (by omega)]
      decide
    · have h : nan32 b = false := by simpa using h
      rw [bits32_not h]
      unfold class32
      generalize b % 2147483648 = r
      have e1 : ((r : Int) = 0) ↔ r = 0 := by omega
      have e2 : ((r : Int) < 8388608) ↔ r < 8388608 := by omega
      have e3 : ((r : Int) < 2139095040) ↔ r < 2139095040 := by omega
      have e4 : ((r : Int) = 2139095040) ↔ r = 2139095040 := by omega
      simp only [e1, e2, e3, e4]
  have H := Lib.hid hn
  clear hn
  by_cases h1 : n = 0
  · rw [hc, if_pos h1]
    have H1 := Lib.hid h1
    clear h1 hc
    go_enter Try.func15, Try.ntmps15
    go_wp2_with fail
    refine (implUnsigned_any b _ hb).mono ?_
    rintro e w' ⟨rfl, rfl⟩
    rw [← H.out, H1.out]
    go_wp2
    go_ret
    exact ⟨rfl, rfl⟩
  · rw [hc, if_neg h1]
    have d1 : (n == 0) = false := by simpa using h1
    by_cases h2 : n < 8388608
    · rw [if_pos h2]
      clear hc
      go_enter Try.func15, Try.ntmps15
      go_wp2_with fail
      refine (implUnsigned_any b _ hb).mono ?_
      rintro e w' ⟨rfl, rfl⟩
      rw [← H.out]
      go_wp2
      go_ret
      exact ⟨rfl, rfl⟩
    · rw [if_neg h2]
      by_cases h3 : n < 2139095040
      · rw [if_pos h3]
        clear hc
        go_enter Try.func15, Try.ntmps15
        go_wp2_with fail
        refine (implUnsigned_any b _ hb).mono ?_
        rintro e w' ⟨rfl, rfl⟩
        rw [← H.out]
        go_wp2
        go_ret
        exact ⟨rfl, rfl⟩
      · rw [if_neg h3]
        by_cases h4 : n = 2139095040
        · rw [if_pos h4]
          have d4 : (n == 2139095040) = true := by simpa using h4
          clear hc h4
          go_enter Try.func15, Try.ntmps15
          go_wp2_with fail
          refine (implUnsigned_any b _ hb).mono ?_
          rintro e w' ⟨rfl, rfl⟩
          rw [← H.out]
          go_wp2
          go_ret
          exact ⟨rfl, rfl⟩
        · rw [if_neg h4]
          have d4 : (n == 2139095040) = false := by simpa using h4
          clear hc
          go_enter Try.func15, Try.ntmps15
          go_wp2_with fail
          refine (implUnsigned_any b _ hb).mono ?_
          rintro e w' ⟨rfl, rfl⟩
          rw [← H.out]
          go_wp2
          go_ret
          exact ⟨rfl, rfl⟩
end Go.Proofs.Ytjoflmclgiemoaa
