/- Two floats drawn; the laws' float5. -/
import Derived.Test.YtjoflmclgiemoaaDb
namespace Go.Proofs.Ytjoflmclgiemoaa
open Go.RowKit

theorem turned_nan (b : Nat) (w : World) (hn : nan32 b = true) : Calls Try.prog 49 #[.float .f32 b] w fun e w' => ∃ d, e = .returned (.float .f32 d) ∧ d < 4294967296 ∧ w' = w.drew := by
  have hop : ∀ t w, (binOp .mul t (.float .f32 b) (.float .f32 3212836864)).run Try.prog w = .ok (.float .f32 (nanOf w b 3212836864)) w.drew := fun t w => run_nan32 w .mul (.inr (.inr (.inl rfl))) t _ _ (mul_neg1_nan b hn)
  go_enter Try.func49, Try.ntmps49
  go_wp2_with fail
  go_ret
  exact ⟨_, rfl, nanOf_lt _ _ _, rfl⟩
theorem turned_any (b : Nat) (w : World) (hb : b < 4294967296) : Calls Try.prog 49 #[.float .f32 b] w fun e w' => ∃ d, e = .returned (.float .f32 d) ∧ d < 4294967296 ∧ ∃ q, w' = w.drewN q := by
  by_cases hn : nan32 b = true
  · exact (turned_nan b w hn).mono fun e w' ⟨d, h1, h2, h3⟩ => ⟨d, h1, h2, 1, h3⟩
  · exact (turned_yes b w hb (by simpa using hn)).mono fun e w' ⟨h1, h2⟩ => ⟨_, h1, by split <;> omega, 0, h2.symm⟩

/-- two floats have been drawn -/
def Drawn2 (w : World) (e : Ending) (w' : World) : Prop :=
  ∃ b d, e = .returned (.tuple #[.float .f32 b, .float .f32 d]) ∧ b < 4294967296 ∧ d < 4294967296 ∧ Below w.heap.size w w'

set_option maxHeartbeats 1000000 in
theorem two_any (A : Option Addr) (n c : Nat) (bs : List Nat) (w : World) (h : Code1 w A n bs) :
    Calls Try.prog 51 #[.slice A n c] w fun e w' => Drawn2 w e w' := by
  have H := Lib.hid h
  clear h
  go_enter Try.func51, Try.ntmps51
  go_wp2_with fail
  refine (from_any A n c bs _ H.out.rd H.out.len H.out.lt H.out.le).mono ?_
  rintro e w1 ⟨g, rfl, hs, hb⟩
  have Hs := Lib.hid hs
  have Hb := Lib.hid hb
  clear hs hb
  go_wp2_with fail
  refine (spoil_any g _ n c A bs _ Hs.out).mono ?_
  rintro e w2 ⟨b, rfl, hbl, hs', hg⟩
  have Hs2 := Lib.hid hs'
  have Hb2 := Lib.hid (below_src Hb.out hg Hs.out.lt.1)
  have Hbl := Lib.hid hbl
  clear hs' hg hbl
  go_wp2_with fail
  refine (next_any g _ n c A bs 6 _ Hs2.out).mono ?_
  rintro e w3 ⟨r, rfl, r0, r1, hs', hg⟩
  have hr6 : r < 6 := r1 (by decide)
  have Hs3 := Lib.hid hs'
  have Hb3 := Lib.hid (below_src Hb2.out hg Hs.out.lt.1)
  clear hs' hg r1
  have hr : r = 0 ∨ r = 1 ∨ r = 2 ∨ (3 ≤ r ∧ (r == 0) = false ∧ (r == 1) = false ∧ (r == 2) = false) := by
    rcases (by omega : r = 0 ∨ r = 1 ∨ r = 2 ∨ 3 ≤ r) with h | h | h | h
    · exact .inl h
    · exact .inr (.inl h)
    · exact .inr (.inr (.inl h))
    · exact .inr (.inr (.inr ⟨h, by simp; omega, by simp; omega, by simp; omega⟩))
  clear r0 hr6
  rcases hr with rfl | rfl | rfl | ⟨_, q0, q1, q2⟩
  · go_wp2_with fail
    go_ret2
    exact ⟨b, b, rfl, Hbl.out, Hbl.out, Hb3.out⟩
  · go_wp2_with fail
    refine (turned_any b _ Hbl.out).mono ?_
    rintro e w4 ⟨d, rfl, hd, q, rfl⟩
    have Hd := Lib.hid hd
    clear hd
    go_wp2_with fail
    go_ret2
    exact ⟨b, d, rfl, Hbl.out, Hd.out, below_drewN Hb3.out q⟩
  · go_wp2_with fail
    refine (nan_any b _ Hbl.out).mono ?_
    rintro e w4 ⟨rfl, rfl⟩
    cases hnan : nan32 b
    · go_wp2_with fail
      refine (next_any g _ n c A bs 7 _ Hs3.out).mono ?_
      rintro e w5 ⟨s, rfl, s0, s1, hs', hg⟩
      have hs7 : s ≤ 6 := by have := s1 (by decide); omega
      have Hb4 := Lib.hid (below_src Hb3.out hg Hs.out.lt.1)
      clear hs' hg s1
      go_wp2_with fail
      refine (step_any b (s - 3) _ Hbl.out hnan (by omega) (by omega)).mono ?_
      rintro e w6 ⟨rfl, q, rfl⟩
      go_wp2_with fail
      go_ret2
      exact ⟨b, _, rfl, Hbl.out, at32_lt _ (beside_bounds b _).1 (beside_bounds b _).2, below_drewN Hb4.out q⟩
    · go_wp2_with fail
      refine (spoil_any g _ n c A bs _ Hs3.out).mono ?_
      rintro e w5 ⟨d, rfl, hd, hs', hg⟩
      have Hd := Lib.hid hd
      have Hb4 := Lib.hid (below_src Hb3.out hg Hs.out.lt.1)
      clear hs' hg hd
      go_wp2_with fail
      go_ret2
      exact ⟨b, d, rfl, Hbl.out, Hd.out, Hb4.out⟩
  · go_wp2_with fail
    refine (spoil_any g _ n c A bs _ Hs3.out).mono ?_
    rintro e w5 ⟨d, rfl, hd, hs', hg⟩
    have Hd := Lib.hid hd
    have Hb4 := Lib.hid (below_src Hb3.out hg Hs.out.lt.1)
    clear hs' hg hd
    go_wp2_with fail
    go_ret2
    exact ⟨b, d, rfl, Hbl.out, Hd.out, Hb4.out⟩

theorem drawCmp_any (A : Option Addr) (n c : Nat) (bs : List Nat) (w : World) (h : Code1 w A n bs) :
    Calls Try.prog 26 #[.slice A n c] w fun e w' => Drawn2 w e w' := by
  have H := Lib.hid h
  clear h
  go_enter Try.func26, Try.ntmps26
  go_wp2_with fail
  refine (two_any A n c bs _ H.out).mono ?_
  rintro e w1 ⟨b, d, rfl, hb, hd, hbw⟩
  have Hb := Lib.hid hb
  have Hd := Lib.hid hd
  have Hw := Lib.hid hbw
  clear hb hd hbw
  go_wp2_with fail
  go_ret2
  exact ⟨b, d, rfl, Hb.out, Hd.out, Hw.out⟩

theorem order_self32 (b : Nat) (hb : b < 4294967296) (h : nan32 b = false) : (FloatKind.f32.format.order b b == some .eq) = true := by
  rw [self32 b hb, h]; rfl
theorem f5_yes (b : Nat) (w : World) (hb : b < 4294967296) (hn : nan32 b = false) :
    Calls Try.prog 14 #[.float .f32 b, .float .f32 b] w fun e w' => e = .returned (.bool true) ∧ w = w' := by
  have h1 := order_self32 b hb hn
  have h2 : (FloatKind.f32.format.order b b != some .eq) = false := by unfold bne; rw [h1]; rfl
  have hz := eq_zero32 b hb hn
  by_cases h0 : place32 b = 0
  · rw [decide_eq_true h0] at hz
    have hz2 : (FloatKind.f32.format.order b 0 != some .eq) = false := by unfold bne; rw [hz]; rfl
    have hb0 : b = 0 ∨ b = 2147483648 := by unfold place32 at h0; split at h0 <;> omega
    rcases hb0 with rfl | rfl
    · have hop : ∀ t w, (binOp .quo t (.float .f32 1065353216) (.float .f32 0)).run Try.prog w = .ok (.float .f32 2139095040) w := fun t w => run_float_arith w .quo t .f32 _ _ _ one_over_zero
      have h3 := order_self32 2139095040 (by decide) (by decide)
      clear h0
      go_enter Try.func14, Try.ntmps14
      go_wp2_with fail
      go_ret
      exact ⟨rfl, rfl⟩
    · have hop : ∀ t w, (binOp .quo t (.float .f32 1065353216) (.float .f32 2147483648)).run Try.prog w = .ok (.float .f32 4286578688) w := fun t w => run_float_arith w .quo t .f32 _ _ _ one_over_minus_zero
      have h3 := order_self32 4286578688 (by decide) (by decide)
      clear h0
      go_enter Try.func14, Try.ntmps14
      go_wp2_with fail
      go_ret
      exact ⟨rfl, rfl⟩
  · rw [decide_eq_false h0] at hz
    have hz2 : (FloatKind.f32.format.order b 0 != some .eq) = true := by unfold bne; rw [hz]; rfl
    clear h0
    go_enter Try.func14, Try.ntmps14
    go_wp2_with fail
    go_ret
    exact ⟨rfl, rfl⟩
theorem f5_nan (b d : Nat) (w : World) (hb : nan32 b = true) (hd : nan32 d = true) :
    Calls Try.prog 14 #[.float .f32 b, .float .f32 d] w fun e w' => e = .returned (.bool true) ∧ w = w' := by
  have h1 := nan32_cmp b b .eq (.inl hb)
  have h2 : (FloatKind.f32.format.order b b != some .eq) = true := by unfold bne; rw [h1]; rfl
  have h3 := nan32_cmp d d .eq (.inl hd)
  have h4 : (FloatKind.f32.format.order d d != some .eq) = true := by unfold bne; rw [h3]; rfl
  go_enter Try.func14, Try.ntmps14
  go_wp2_with fail
  go_ret
  exact ⟨rfl, rfl⟩
end Go.Proofs.Ytjoflmclgiemoaa
