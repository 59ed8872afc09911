/- The walks of spec.l01Parts, l01Place, BitsOf. -/
import Derived.Test.YtjoflmclgiemoacWb
namespace Go.Proofs.Ytjoflmclgiemoac
open Go.RowKit

set_option maxHeartbeats 400000 in
theorem parts_fin (b : Nat) (w : World) (hb : b < 4294967296) (hf : fin32 b = true) :
    Calls Try.prog 30 #[.float .f32 b] w fun e w' => e = .returned (.tuple #[.int .i64 (mant (b % 2147483648)), .int .i64 (-149 + expo (b % 2147483648))]) ∧ w = w' := by
  obtain ⟨r, hr⟩ : ∃ r, r = b % 2147483648 := ⟨_, rfl⟩
  have hr2 : r < 2139095040 := by rw [hr]; simpa [fin32] using hf
  have hc := conv_3264 r (by omega) (by unfold fin32; simp; omega)
  rw [show neg32 r = false by unfold neg32; simp; omega, show r % 2147483648 = r by omega] at hc
  have hcv : ∀ w, (convert 22 27 (.float .f32 r)).run Try.prog w = .ok (.float .f64 (d64 false (mant r) (-149 + expo r))) w := fun w => run_convert_float_float w _ _ _ _ _ _ (by kernel_rfl) (by kernel_rfl) hc
  have l1 := mant_lt r
  have l2 := expo_le r hr2
  have l3 := mant_or r
  clear hc
  rw [← hr]
  go_enter Try.func30, Try.ntmps30
  go_wp2_with fail
  refine (abs_fin b _ hb (fin_nan hf)).mono ?_
  rintro e w' ⟨rfl, rfl⟩
  rw [← hr]
  clear hr
  go_wp2_with fail
  refine (twos_up false (mant r) (-149 + expo r) 149 _ (by omega) (by omega) (by omega)).mono ?_
  rintro e w' ⟨rfl, rfl⟩
  go_wp2_with fail
  go_loop [4, 5] (fun e y => ∃ q : Nat, q ≤ expo r ∧ e = .int .i64 (-149 + ((expo r - q : Nat) : Int)) ∧ y = .float .f64 (d64 false (mant r) q)) (fun e _ => (200 - intOf e).toNat)
  case atStart => exact ⟨expo r, Nat.le_refl _, by simp, by congr 2; omega⟩
  case round =>
    obtain ⟨q, hq, rfl, rfl⟩ := hrel
    have hge := ge24 (mant r) q l1 (by omega) (by omega)
    by_cases h0 : 0 < q
    · rw [decide_eq_true h0] at hge
      have hm := div_two false (m := mant r) (by omega) (p := q) (by omega) (by omega)
      have hop : ∀ t w, (binOp .quo t (.float .f64 (d64 false (mant r) q)) (.float .f64 4611686018427387904)).run Try.prog w = .ok (.float .f64 (d64 false (mant r) ((q : Int) - 1))) w := fun t w => run_float_arith w .quo t .f64 _ _ _ hm
      clear hm
      go_wp2
      go_round
      case rel => exact ⟨q - 1, by omega, by go_num, by congr 2; omega⟩
      case measure => simp [intOf]; omega
    · have hq0 : q = 0 := by omega
      subst hq0
      clear hge
      have hge := ge24_0 (mant r) l1
      have hi := int_64 false (m := mant r) (M := mant r) (p := 0) (by omega) (by omega) (by omega) (SameVal.refl _ _) (by omega)
      have hcv : ∀ w, (convert 27 2 (.float .f64 (d64 false (mant r) 0))).run Try.prog w = .ok (.int .i64 (mant r)) w := fun w => run_convert_float_int w _ _ _ _ _ _ (by kernel_rfl) (by kernel_rfl) hi
      clear hi
      go_wp2
      go_ret2
      exact ⟨rfl, rfl⟩

theorem ret_int {k : IntKind} {a b : Int} (h : a = b) : Ending.returned (.int k a) = .returned (.int k b) := by rw [h]

/-- the bits that are told -/
def bits32 (b : Nat) : Nat := if nan32 b = true then 2143289344 else b

end Go.Proofs.Ytjoflmclgiemoac
