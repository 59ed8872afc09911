/- The walks of spec.l01Parts, l01Place, BitsOf. -/
import Derived.Test.YtlhdlomabgoadaaWb
namespace Go.Proofs.Ytlhdlomabgoadaa
set_option maxRecDepth 100000
open Go.RowKit

set_option maxHeartbeats 400000 in
theorem parts_fin (b : Nat) (w : World) (hb : b < 4294967296) (hf : fin32 b = true) :
    Calls Try.prog 73 #[.float .f32 b] w fun e w' => e = .returned (.tuple #[.int .i64 (mant (b % 2147483648)), .int .i64 (-149 + expo (b % 2147483648))]) ∧ w = w' := by
  obtain ⟨r, hr⟩ : ∃ r, r = b % 2147483648 := ⟨_, rfl⟩
  have hr2 : r < 2139095040 := by rw [hr]; simpa [fin32] using hf
  have hc := conv_3264 r (by omega) (by unfold fin32; simp; omega)
  rw [show neg32 r = false by unfold neg32; simp; omega, show r % 2147483648 = r by omega] at hc
  have hcv : ∀ w, (convert 22 47 (.float .f32 r)).run Try.prog w = .ok (.float .f64 (d64 false (mant r) (-149 + expo r))) w := fun w => run_convert_float_float w _ _ _ _ _ _ (by kernel_rfl) (by kernel_rfl) hc
  have l1 := mant_lt r
  have l2 := expo_le r hr2
  have l3 := mant_or r
  clear hc
  rw [← hr]
  go_enter Try.func73, Try.ntmps73
  go_wp2_with fail
  refine (abs_fin b _ hb (fin_nan hf)).mono ?_
  rintro e w' ⟨rfl, rfl⟩
  rw [← hr]
  clear hr
  go_wp2_with fail
  refine (twos_up false (mant r) (-149 + expo r) 149 _ (by omega) (by omega) (by omega)).mono ?_
  rintro e w' ⟨rfl, rfl⟩
  go_wp2_with fail
  go_loop [4, 5] (fun e y => ∃ q : Nat, q ≤ expo r ∧ e = .int .i64 (-149 + ((expo r - q : Nat) : Int)) ∧ y = .float .f64 (d64 false (mant r) q)) (fun e _ => (200 - intOf e).toNat)
  case atStart => exact ⟨expo r, Nat.le_refl _, by simp, by congr 2; omega⟩
  case round =>
    obtain ⟨q, hq, rfl, rfl⟩ := hrel
    have hge := ge24 (mant r) q l1 (by omega) (by omega)
    by_cases h0 : 0 < q
    · rw [decide_eq_true h0] at hge
      have hm := div_two false (m := mant r) (by omega) (p := q) (by omega) (by omega)
      have hop : ∀ t w, (binOp .quo t (.float .f64 (d64 false (mant r) q)) (.float .f64 4611686018427387904)).run Try.prog w = .ok (.float .f64 (d64 false (mant r) ((q : Int) - 1))) w := fun t w => run_float_arith w .quo t .f64 _ _ _ hm
      clear hm
      go_wp2
      go_round
      case rel => exact ⟨q - 1, by omega, by go_num, by congr 2; omega⟩
      case measure => simp [intOf]; omega
    · have hq0 : q = 0 := by omega
      subst hq0
      clear hge
      have hge := ge24_0 (mant r) l1
      have hi := int_64 false (m := mant r) (M := mant r) (p := 0) (by omega) (by omega) (by omega) (SameVal.refl _ _) (by omega)
      have hcv : ∀ w, (convert 47 2 (.float .f64 (d64 false (mant r) 0))).run Try.prog w = .ok (.int .i64 (mant r)) w := fun w => run_convert_float_int w _ _ _ _ _ _ (by kernel_rfl) (by kernel_rfl) hi
      clear hi
      go_wp2
      go_ret2
      exact ⟨rfl, rfl⟩

theorem place_inf (b : Nat) (w : World) (hb : b < 4294967296) (hi : b % 2147483648 = 2139095040) :
    Calls Try.prog 65 #[.float .f32 b] w fun e w' => e = .returned (.int .i64 (place32 b)) ∧ w' = w.drew := by
  have hn : nan32 b = false := by unfold nan32; simp; omega
  have hl := lt32 b 0 hb (by decide) hn nan32_zero
  have hff : fin32 b = false := by unfold fin32; simp; omega
  rw [place32_zero] at hl
  by_cases h1 : place32 b < 0
  · rw [decide_eq_true h1] at hl
    have hp : place32 b = -2139095040 := by
      unfold place32 at h1 ⊢; split at h1
      · rename_i h; rw [if_pos h]; omega
      · omega
    rw [hp]
    clear hp h1
    go_enter Try.func65, Try.ntmps65
    go_wp2_with fail
    refine (fin_no b _ hb hff).mono ?_
    rintro e w' ⟨rfl, rfl⟩
    go_wp2
    go_ret
    exact ⟨rfl, rfl⟩
  · rw [decide_eq_false h1] at hl
    have hp : place32 b = 2139095040 := by
      unfold place32 at h1 ⊢; split at h1
      · omega
      · rename_i h; rw [if_neg h]; omega
    rw [hp]
    clear hp h1
    go_enter Try.func65, Try.ntmps65
    go_wp2_with fail
    refine (fin_no b _ hb hff).mono ?_
    rintro e w' ⟨rfl, rfl⟩
    go_wp2
    go_ret
    exact ⟨rfl, rfl⟩

theorem ret_intF {k : IntKind} {a b : Int} (h : a = b) : Ending.returned (.int k a) = .returned (.int k b) := by rw [h]

theorem place_fin (b : Nat) (w : World) (hb : b < 4294967296) (hf : fin32 b = true) :
    Calls Try.prog 65 #[.float .f32 b] w fun e w' => e = .returned (.int .i64 (place32 b)) ∧ w = w' := by
  have hn := fin_nan hf
  have hl := lt32 b 0 hb (by decide) hn nan32_zero
  rw [place32_zero] at hl
  obtain ⟨r, hr⟩ : ∃ r, r = b % 2147483648 := ⟨_, rfl⟩
  have hr2 : r < 2139095040 := by rw [hr]; simpa [fin32] using hf
  have l1 := mant_lt r
  have l2 := expo_le r hr2
  have l3 := mant_or r
  have H4 := Lib.hid (expo_mant r)
  have l1' : (mant r : Int) ≤ 16777215 := by omega
  by_cases h1 : place32 b < 0
  case' pos =>
    rw [decide_eq_true h1] at hl
    have hp : place32 b = -(r : Int) := by
      unfold place32 at h1 ⊢; split at h1
      · rename_i h; rw [if_pos h, hr]
      · omega
    rw [hp]
  case' neg =>
    rw [decide_eq_false h1] at hl
    have hp : place32 b = (r : Int) := by
      unfold place32 at h1 ⊢; split at h1
      · rename_i h; rw [if_pos h, ← hr]; omega
      · rename_i h; rw [if_neg h, ← hr]
    rw [hp]
  all_goals
    clear hp h1
    by_cases h2 : 8388608 ≤ mant r
    case' pos =>
      have H2 := Lib.hid h2
      have hd : decide ((8388608 : Int) ≤ (mant r : Int)) = true := by simp; omega
    case' neg =>
      have H2 : Hid (expo r = 0) := Lib.hid (by omega)
      have hd : decide ((8388608 : Int) ≤ (mant r : Int)) = false := by simp; omega
    all_goals
      clear h2 l3 l1 hr2
      go_enter Try.func65, Try.ntmps65
      go_wp2_with fail
      refine (fin_yes b _ hb hf).mono ?_
      rintro e w' ⟨rfl, rfl⟩
      go_wp2_with fail
      refine (parts_fin b _ hb hf).mono ?_
      rintro e w' ⟨rfl, rfl⟩
      rw [← hr]
      clear hr
      go_wp2
      go_ret
      exact ⟨ret_intF (by have := H4.out; have := H2.out; omega), rfl⟩

/-- the place, drawing or not -/
theorem place_any (b : Nat) (w : World) (hb : b < 4294967296) (hn : nan32 b = false) :
    Calls Try.prog 65 #[.float .f32 b] w fun e w' => e = .returned (.int .i64 (place32 b)) ∧ ∃ n, w' = w.drewN n := by
  by_cases hf : fin32 b = true
  · exact (place_fin b w hb hf).mono fun e w' ⟨h1, h2⟩ => ⟨h1, 0, h2.symm⟩
  · have hi : b % 2147483648 = 2139095040 := by unfold fin32 at hf; unfold nan32 at hn; simp at hf hn; omega
    exact (place_inf b w hb hi).mono fun e w' ⟨h1, h2⟩ => ⟨h1, 1, h2⟩

/-- the bits that are told -/
def bits32 (b : Nat) : Nat := if nan32 b = true then 2143289344 else b

end Go.Proofs.Ytlhdlomabgoadaa
