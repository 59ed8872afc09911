/- More walks of chapter 1: PartsOf and PlaceOf of the program, ClassOf, PartsOf and PlaceOf of the model. -/
import Derived.Test.YtlhdlomabgoadaaIa
namespace Go.Proofs.Ytlhdlomabgoadaa
set_option maxRecDepth 100000
open Go.RowKit

theorem grown_drewN (w : World) (n : Nat) : Grown w (w.drewN n) := by
  induction n with
  | zero => exact Grown.refl _
  | succ n ih => exact ih.drew

theorem ret3_int {k1 k2 : IntKind} {a b c d : Int} {x : Value} (h : a = b) (g : c = d) : Ending.returned (.tuple #[.int k1 a, .int k2 c, x]) = .returned (.tuple #[.int k1 b, .int k2 d, x]) := by rw [h, g]
theorem ret2_int {k1 : IntKind} {a b : Int} {x : Value} (h : a = b) : Ending.returned (.tuple #[.int k1 a, x]) = .returned (.tuple #[.int k1 b, x]) := by rw [h]

theorem lt_zero32 (b : Nat) (hb : b < 4294967296) (hn : nan32 b = false) : (FloatKind.f32.format.order b 0 == some .lt) = decide (place32 b < 0) := by
  have := lt32 b 0 hb (by decide) hn nan32_zero
  rwa [place32_zero] at this
theorem eq_zero32 (b : Nat) (hb : b < 4294967296) (hn : nan32 b = false) : (FloatKind.f32.format.order b 0 == some .eq) = decide (place32 b = 0) := by
  have := eq32 b 0 hb (by decide) hn nan32_zero
  rwa [place32_zero] at this
theorem place_cases (b : Nat) : (place32 b < 0 ∧ place32 b = -((b % 2147483648 : Nat) : Int)) ∨ (¬ place32 b < 0 ∧ place32 b = ((b % 2147483648 : Nat) : Int)) := by
  unfold place32
  split
  · by_cases h : b % 2147483648 = 0
    · right; rw [h]; decide
    · left; omega
  · right; omega

/-- the mantissa with its sign -/
def smant32 (b : Nat) : Int := if place32 b < 0 then -(mant (b % 2147483648) : Int) else (mant (b % 2147483648) : Int)

theorem implPlace_no (b : Nat) (w : World) (hb : b < 4294967296) (hn : nan32 b = true) :
    Calls Try.prog 77 #[.float .f32 b] w fun e w' => e = .returned (.tuple #[.int .i64 0, .int .i64 1]) ∧ w = w' := by
  have h := ne32 b hb
  rw [hn] at h
  go_enter Try.func77, Try.ntmps77
  go_wp2
  go_ret2
  exact ⟨rfl, rfl⟩

theorem implPlace_yes (b : Nat) (w : World) (hb : b < 4294967296) (hn : nan32 b = false) :
    Calls Try.prog 77 #[.float .f32 b] w fun e w' => e = .returned (.tuple #[.int .i64 (place32 b), .int .i64 0]) ∧ w = w' := by
  have h := ne32 b hb
  rw [hn] at h
  have hl := lt_zero32 b hb hn
  have hbits := Lib.hid (bits32_not hn)
  obtain ⟨n, hnn⟩ : ∃ n : Int, n = ((b % 2147483648 : Nat) : Int) := ⟨_, rfl⟩
  have n0 : 0 ≤ n := by omega
  have n1 : n < 2147483648 := by omega
  rcases place_cases b with ⟨h1, hx⟩ | ⟨h1, hx⟩
  case' inl => rw [decide_eq_true h1] at hl
  case' inr => rw [decide_eq_false h1] at hl
  all_goals
    rw [← hnn] at hx
    have H := Lib.hid hnn
    have Hx := Lib.hid hx
    clear h1 hx hnn
    go_enter Try.func77, Try.ntmps77
    go_wp2_with fail
    refine (implUnsigned_any b _ hb).mono ?_
    rintro e w' ⟨rfl, rfl⟩
    rw [hbits.out, ← H.out]
    go_wp2_with fail
    go_ret2
    exact ⟨ret2_int (by rw [Hx.out]), rfl⟩

end Go.Proofs.Ytlhdlomabgoadaa
