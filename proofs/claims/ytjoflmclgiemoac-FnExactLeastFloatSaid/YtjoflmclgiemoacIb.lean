/- More walks of chapter 1: PartsOf and PlaceOf of the program, ClassOf, PartsOf and PlaceOf of the model. -/
import Derived.Test.YtjoflmclgiemoacIa
namespace Go.Proofs.Ytjoflmclgiemoac
open Go.RowKit

theorem grown_drewN (w : World) (n : Nat) : Grown w (w.drewN n) := by
  induction n with
  | zero => exact Grown.refl _
  | succ n ih => exact ih.drew

theorem ret3_int {k1 k2 : IntKind} {a b c d : Int} {x : Value} (h : a = b) (g : c = d) : Ending.returned (.tuple #[.int k1 a, .int k2 c, x]) = .returned (.tuple #[.int k1 b, .int k2 d, x]) := by rw [h, g]
theorem ret2_int {k1 : IntKind} {a b : Int} {x : Value} (h : a = b) : Ending.returned (.tuple #[.int k1 a, x]) = .returned (.tuple #[.int k1 b, x]) := by rw [h]

theorem lt_zero32 (b : Nat) (hb : b < 4294967296) (hn : nan32 b = false) : (FloatKind.f32.format.order b 0 == some .lt) = decide (place32 b < 0) := by
  have := lt32 b 0 hb (by decide) hn nan32_zero
  rwa [place32_zero] at this
theorem eq_zero32 (b : Nat) (hb : b < 4294967296) (hn : nan32 b = false) : (FloatKind.f32.format.order b 0 == some .eq) = decide (place32 b = 0) := by
  have := eq32 b 0 hb (by decide) hn nan32_zero
  rwa [place32_zero] at this
theorem place_cases (b : Nat) : (place32 b < 0 ∧ place32 b = -((b % 2147483648 : Nat) : Int)) ∨ (¬ place32 b < 0 ∧ place32 b = ((b % 2147483648 : Nat) : Int)) := by
  unfold place32
  split
  · by_cases h : b % 2147483648 = 0
    · right; rw [h]; decide
    · left; omega
  · right; omega

/-- the mantissa with its sign -/
def smant32 (b : Nat) : Int := if place32 b < 0 then -(mant (b % 2147483648) : Int) else (mant (b % 2147483648) : Int)

end Go.Proofs.Ytjoflmclgiemoac
