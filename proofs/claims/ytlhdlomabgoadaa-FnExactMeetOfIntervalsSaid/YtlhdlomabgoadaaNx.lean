/- The walks of the neighbours: the model's step and the program's. -/
import Derived.Test.YtlhdlomabgoadaaFq
namespace Go.Proofs.Ytlhdlomabgoadaa
set_option maxRecDepth 100000
open Go.RowKit

theorem place_bounds (b : Nat) (hn : nan32 b = false) : -2139095040 ≤ place32 b ∧ place32 b ≤ 2139095040 := by
  unfold nan32 at hn; simp at hn
  unfold place32; split <;> omega

/-- the place beside a float's -/
def beside (b : Nat) (s : Int) : Int := if 2139095040 < place32 b + s then 2139095040 else if place32 b + s < -2139095040 then -2139095040 else place32 b + s

theorem beside_bounds (b : Nat) (s : Int) : -2139095040 ≤ beside b s ∧ beside b s ≤ 2139095040 := by
  unfold beside; split
  · omega
  · split <;> omega

theorem step_any (b : Nat) (s : Int) (w : World) (hb : b < 4294967296) (hn : nan32 b = false) (h1 : -1000 ≤ s) (h2 : s ≤ 1000) :
    Calls Try.prog 57 #[.float .f32 b, .int .i64 s] w fun e w' => e = .returned (.float .f32 (at32 (beside b s))) ∧ ∃ n, w' = w.drewN n := by
  obtain ⟨l1, l2⟩ := place_bounds b hn
  obtain ⟨g1, g2⟩ := beside_bounds b s
  obtain ⟨q, hq⟩ : ∃ q, q = beside b s := ⟨_, rfl⟩
  rw [← hq] at g1 g2 ⊢
  unfold beside at hq
  by_cases c1 : 2139095040 < place32 b + s
  case' pos => rw [if_pos c1] at hq
  case' neg =>
    rw [if_neg c1] at hq
    by_cases c2 : place32 b + s < -2139095040
    case' pos => rw [if_pos c2] at hq
    case' neg => rw [if_neg c2] at hq
  all_goals
    have H := Lib.hid hq
    clear hq
    go_enter Try.func57, Try.ntmps57
    go_wp2_with fail
    refine (place_any b _ hb hn).mono ?_
    rintro e w' ⟨rfl, nd, rfl⟩
    go_wp2_with fail
    rw [← H.out]
    refine (at_any q _ g1 g2).mono ?_
    rintro e w' ⟨rfl, rfl⟩
    go_wp2_with fail
    go_ret
    exact ⟨rfl, nd, rfl⟩

theorem neigh_no (b : Nat) (s : Int) (w : World) (hb : b < 4294967296) (hn : nan32 b = true) :
    Calls Try.prog 75 #[.float .f32 b, .int .i64 s] w fun e w' => e = .returned (.tuple #[.float .f32 0, .int .i64 1]) ∧ w = w' := by
  go_enter Try.func75, Try.ntmps75
  go_wp2_with fail
  refine (implPlace_no b _ hb hn).mono ?_
  rintro e w' ⟨rfl, rfl⟩
  go_wp2_with fail
  go_ret2
  exact ⟨rfl, rfl⟩

theorem neigh_yes (b : Nat) (s : Int) (w : World) (hb : b < 4294967296) (hn : nan32 b = false) (h1 : -1 ≤ s) (h2 : s ≤ 1) :
    Calls Try.prog 75 #[.float .f32 b, .int .i64 s] w fun e w' => e = .returned (.tuple #[.float .f32 (at32 (beside b s)), .int .i64 0]) ∧ w = w' := by
  obtain ⟨l1, l2⟩ := place_bounds b hn
  obtain ⟨g1, g2⟩ := beside_bounds b s
  obtain ⟨q, hq⟩ : ∃ q, q = beside b s := ⟨_, rfl⟩
  rw [← hq] at g1 g2 ⊢
  unfold beside at hq
  by_cases c1 : 2139095040 < place32 b + s
  case' pos => rw [if_pos c1] at hq
  case' neg =>
    rw [if_neg c1] at hq
    by_cases c2 : place32 b + s ≤ -2139095040
    case' pos => replace hq : q = -2139095040 := by (split at hq <;> omega)
    case' neg => rw [if_neg (by omega)] at hq
  all_goals
    have H := Lib.hid hq
    clear hq
    go_enter Try.func75, Try.ntmps75
    go_wp2_with fail
    refine (implPlace_yes b _ hb hn).mono ?_
    rintro e w' ⟨rfl, rfl⟩
    go_wp2_with fail
    rw [← H.out]
    refine (implAt_yes q _ g1 g2).mono ?_
    rintro e w' ⟨rfl, rfl⟩
    go_wp2_with fail
    go_ret2
    exact ⟨rfl, rfl⟩

theorem implUp_no (b : Nat) (w : World) (hb : b < 4294967296) (hn : nan32 b = true) :
    Calls Try.prog 68 #[.float .f32 b] w fun e w' => e = .returned (.tuple #[.float .f32 0, .int .i64 1]) ∧ w = w' := by
  go_enter Try.func68, Try.ntmps68
  go_wp2_with fail
  refine (neigh_no b 1 _ hb hn).mono ?_
  rintro e w' ⟨rfl, rfl⟩
  go_wp2_with fail
  go_ret2
  exact ⟨rfl, rfl⟩
theorem implUp_yes (b : Nat) (w : World) (hb : b < 4294967296) (hn : nan32 b = false) :
    Calls Try.prog 68 #[.float .f32 b] w fun e w' => e = .returned (.tuple #[.float .f32 (at32 (beside b 1)), .int .i64 0]) ∧ w = w' := by
  go_enter Try.func68, Try.ntmps68
  go_wp2_with fail
  refine (neigh_yes b 1 _ hb hn (by decide) (by decide)).mono ?_
  rintro e w' ⟨rfl, rfl⟩
  go_wp2_with fail
  go_ret2
  exact ⟨rfl, rfl⟩
theorem implDown_no (b : Nat) (w : World) (hb : b < 4294967296) (hn : nan32 b = true) :
    Calls Try.prog 67 #[.float .f32 b] w fun e w' => e = .returned (.tuple #[.float .f32 0, .int .i64 1]) ∧ w = w' := by
  go_enter Try.func67, Try.ntmps67
  go_wp2_with fail
  refine (neigh_no b (-1) _ hb hn).mono ?_
  rintro e w' ⟨rfl, rfl⟩
  go_wp2_with fail
  go_ret2
  exact ⟨rfl, rfl⟩
theorem implDown_yes (b : Nat) (w : World) (hb : b < 4294967296) (hn : nan32 b = false) :
    Calls Try.prog 67 #[.float .f32 b] w fun e w' => e = .returned (.tuple #[.float .f32 (at32 (beside b (-1))), .int .i64 0]) ∧ w = w' := by
  go_enter Try.func67, Try.ntmps67
  go_wp2_with fail
  refine (neigh_yes b (-1) _ hb hn (by decide) (by decide)).mono ?_
  rintro e w' ⟨rfl, rfl⟩
  go_wp2_with fail
  go_ret2
  exact ⟨rfl, rfl⟩

theorem at32_lt (n : Int) (h1 : -2139095040 ≤ n) (h2 : n ≤ 2139095040) : at32 n < 4294967296 := by unfold at32; split <;> omega
theorem at32_nan (n : Int) (h1 : -2139095040 ≤ n) (h2 : n ≤ 2139095040) : nan32 (at32 n) = false := by unfold at32 nan32; split <;> simp <;> omega
end Go.Proofs.Ytlhdlomabgoadaa
