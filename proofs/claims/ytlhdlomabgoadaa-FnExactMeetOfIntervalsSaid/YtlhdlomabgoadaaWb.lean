/- The walks of chapter 1's small functions: the model's (NaN, finite, absolute value, parts, place, sign, bits). -/
import Derived.Test.YtlhdlomabgoadaaWa
import Derived.Test.YtlhdlomabgoadaaFm
namespace Go.Proofs.Ytlhdlomabgoadaa
set_option maxRecDepth 100000
open Go.RowKit

theorem nan_any (b : Nat) (w : World) (hb : b < 4294967296) : Calls Try.prog 69 #[.float .f32 b] w fun e w' => e = .returned (.bool (nan32 b)) ∧ w = w' := by
  have h := ne32 b hb
  go_enter Try.func69, Try.ntmps69
  go_wp2
  go_ret
  exact ⟨rfl, rfl⟩

theorem fin_yes (b : Nat) (w : World) (hb : b < 4294967296) (hf : fin32 b = true) : Calls Try.prog 53 #[.float .f32 b] w fun e w' => e = .returned (.bool true) ∧ w = w' := by
  have hm := sub_self_fin b hb hf
  have hop : ∀ t w, (binOp .sub t (.float .f32 b) (.float .f32 b)).run Try.prog w = .ok (.float .f32 0) w := fun t w => run_float_arith w .sub t .f32 _ _ _ hm
  have hz : (FloatKind.f32.format.order 0 0 == some .eq) = true := by rw [self32 0 (by decide)]; rfl
  clear hm
  go_enter Try.func53, Try.ntmps53
  go_wp2
  go_ret
  exact ⟨rfl, rfl⟩

theorem fin_no (b : Nat) (w : World) (hb : b < 4294967296) (hf : fin32 b = false) : Calls Try.prog 53 #[.float .f32 b] w fun e w' => e = .returned (.bool false) ∧ w' = w.drew := by
  have hm := sub_self_not b hb hf
  have hop : ∀ t w, (binOp .sub t (.float .f32 b) (.float .f32 b)).run Try.prog w = .ok (.float .f32 (nanOf w b b)) w.drew := fun t w => run_nan32 w .sub (.inr (.inl rfl)) t _ _ hm
  have hz : ∀ w, (FloatKind.f32.format.order (nanOf w b b) 0 == some .eq) = false := fun w => nan32_cmp _ _ _ (.inl (nanOf_nan w b b))
  clear hm
  go_enter Try.func53, Try.ntmps53
  go_wp2
  go_ret
  exact ⟨rfl, rfl⟩

theorem place32_zero : place32 0 = 0 := by decide
theorem nan32_zero : nan32 0 = false := by decide

theorem abs_fin (b : Nat) (w : World) (hb : b < 4294967296) (hn : nan32 b = false) : Calls Try.prog 76 #[.float .f32 b] w fun e w' => e = .returned (.float .f32 (b % 2147483648)) ∧ w = w' := by
  have hl := lt32 b 0 hb (by decide) hn nan32_zero
  have he := eq32 b 0 hb (by decide) hn nan32_zero
  have hneg := negFloat32 b hb
  have hop : Op.unary .neg (.float .f32 b) = pure (.float .f32 (Op.negFloat .f32 b)) := rfl
  rw [place32_zero] at hl he
  by_cases h1 : place32 b < 0
  · rw [decide_eq_true h1] at hl
    have hb2 : Op.negFloat .f32 b = b % 2147483648 := by
      rw [hneg]; unfold place32 at h1; split at h1
      · rename_i h; simp at h; rw [if_pos h]; omega
      · omega
    rw [hb2] at hop
    clear hneg he hb2
    go_enter Try.func76, Try.ntmps76
    go_wp2
    go_ret
    exact ⟨rfl, rfl⟩
  · rw [decide_eq_false h1] at hl
    by_cases h2 : place32 b = 0
    · rw [decide_eq_true h2] at he
      have hb2 : b % 2147483648 = 0 := by
        unfold place32 at h2; split at h2 <;> omega
      rw [hb2]
      clear hneg hb2 hop h2
      go_enter Try.func76, Try.ntmps76
      go_wp2
      go_ret
      exact ⟨rfl, rfl⟩
    · rw [decide_eq_false h2] at he
      have hb2 : b % 2147483648 = b := by
        unfold place32 at h1 h2; split at h1
        · rename_i h; simp at h; rw [if_pos (by simpa using h)] at h2; omega
        · rename_i h; simp at h; omega
      rw [hb2]
      clear hneg hb2 hop h2
      go_enter Try.func76, Try.ntmps76
      go_wp2
      go_ret
      exact ⟨rfl, rfl⟩

theorem minus_any (b : Nat) (w : World) (hb : b < 4294967296) (hn : nan32 b = false) : Calls Try.prog 70 #[.float .f32 b] w fun e w' => e = .returned (.bool (neg32 b)) ∧ w = w' := by
  have hl := lt32 b 0 hb (by decide) hn nan32_zero
  have he := eq32 b 0 hb (by decide) hn nan32_zero
  rw [place32_zero] at hl he
  by_cases h1 : place32 b < 0
  · rw [decide_eq_true h1] at hl
    have hb2 : neg32 b = true := by
      unfold place32 at h1; unfold neg32; split at h1
      · assumption
      · omega
    rw [hb2]
    clear he hb2
    go_enter Try.func70, Try.ntmps70
    go_wp2
    go_ret
    exact ⟨rfl, rfl⟩
  · rw [decide_eq_false h1] at hl
    by_cases h2 : place32 b = 0
    · rw [decide_eq_true h2] at he
      have hb2 : b = 0 ∨ b = 2147483648 := by
        unfold place32 at h2; split at h2 <;> omega
      rcases hb2 with rfl | rfl
      · have hm := one_over_zero
        have hop : ∀ t w, (binOp .quo t (.float .f32 1065353216) (.float .f32 0)).run Try.prog w = .ok (.float .f32 2139095040) w := fun t w => run_float_arith w .quo t .f32 _ _ _ hm
        have hz := lt32 2139095040 0 (by decide) (by decide) (by decide) (by decide)
        rw [place32_zero, decide_eq_false (by decide)] at hz
        clear hm h1 h2
        rw [show neg32 0 = false by decide]
        go_enter Try.func70, Try.ntmps70
        go_wp2
        go_ret
        exact ⟨rfl, rfl⟩
      · have hm := one_over_minus_zero
        have hop : ∀ t w, (binOp .quo t (.float .f32 1065353216) (.float .f32 2147483648)).run Try.prog w = .ok (.float .f32 4286578688) w := fun t w => run_float_arith w .quo t .f32 _ _ _ hm
        have hz := lt32 4286578688 0 (by decide) (by decide) (by decide) (by decide)
        rw [place32_zero, decide_eq_true (by decide)] at hz
        clear hm h1 h2
        rw [show neg32 2147483648 = true by decide]
        go_enter Try.func70, Try.ntmps70
        go_wp2
        go_ret
        exact ⟨rfl, rfl⟩
    · rw [decide_eq_false h2] at he
      have hb2 : neg32 b = false := by
        unfold place32 at h1 h2; unfold neg32; split at h1
        · rename_i h; rw [if_pos h] at h2; omega
        · rename_i h; simpa using h
      rw [hb2]
      clear hb2 h2
      go_enter Try.func70, Try.ntmps70
      go_wp2
      go_ret
      exact ⟨rfl, rfl⟩
end Go.Proofs.Ytlhdlomabgoadaa
