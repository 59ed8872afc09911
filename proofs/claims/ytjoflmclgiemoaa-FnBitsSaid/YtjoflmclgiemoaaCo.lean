/- The walks of PlacesBetween and CompareFloats, of the model and of the program. -/
import Derived.Test.YtjoflmclgiemoaaIb
namespace Go.Proofs.Ytjoflmclgiemoaa
open Go.RowKit

theorem place_fin_bounds (b : Nat) (hf : fin32 b = true) : -2139095039 ≤ place32 b ∧ place32 b ≤ 2139095039 := by
  unfold fin32 at hf; simp at hf
  unfold place32; split <;> omega

/-- the distance of places -/
def gap32 (b c : Nat) : Int := if place32 b < place32 c then place32 c - place32 b else place32 b - place32 c

/-- -1, 0 or 1 -/
def cmp32 (b c : Nat) : Int := if place32 b < place32 c then -1 else if place32 c < place32 b then 1 else 0

theorem specCmp_no (b c : Nat) (w : World) (hb : b < 4294967296) (hc : c < 4294967296) (h : nan32 b = true ∨ nan32 c = true) :
    Calls Try.prog 28 #[.float .f32 b, .float .f32 c] w fun e w' => e = .returned (.tuple #[.int .i64 0, .int .i64 1]) ∧ w = w' := by
  by_cases h1 : nan32 b = true
  · clear h
    go_enter Try.func28, Try.ntmps28
    go_wp2_with fail
    refine (nan_any b _ hb).mono ?_
    rintro e w' ⟨rfl, rfl⟩
    rw [h1]
    go_wp2_with fail
    go_ret2
    exact ⟨rfl, rfl⟩
  · have h2 : nan32 c = true := by
      rcases h with h | h
      · exact absurd h h1
      · exact h
    have h1 : nan32 b = false := by simpa using h1
    clear h
    go_enter Try.func28, Try.ntmps28
    go_wp2_with fail
    refine (nan_any b _ hb).mono ?_
    rintro e w' ⟨rfl, rfl⟩
    rw [h1]
    go_wp2_with fail
    refine (nan_any c _ hc).mono ?_
    rintro e w' ⟨rfl, rfl⟩
    rw [h2]
    go_wp2_with fail
    go_ret2
    exact ⟨rfl, rfl⟩

theorem cmp_cases (b c : Nat) (hb : b < 4294967296) (hc : c < 4294967296) (h1 : nan32 b = false) (h2 : nan32 c = false) :
    (cmp32 b c = -1 ∧ (FloatKind.f32.format.order b c == some .lt) = true ∧ (FloatKind.f32.format.order b c == some .gt) = false) ∨
    (cmp32 b c = 1 ∧ (FloatKind.f32.format.order b c == some .lt) = false ∧ (FloatKind.f32.format.order b c == some .gt) = true) ∨
    (cmp32 b c = 0 ∧ (FloatKind.f32.format.order b c == some .lt) = false ∧ (FloatKind.f32.format.order b c == some .gt) = false) := by
  rw [lt32 b c hb hc h1 h2, gt32 b c hb hc h1 h2]
  unfold cmp32
  rcases Int.lt_trichotomy (place32 b) (place32 c) with h | h | h
  · left; rw [if_pos h]; simp; omega
  · right; right; rw [if_neg (by omega), if_neg (by omega)]; simp; omega
  · right; left; rw [if_neg (by omega), if_pos h]; simp; omega

theorem specCmp_yes (b c : Nat) (w : World) (hb : b < 4294967296) (hc : c < 4294967296) (h1 : nan32 b = false) (h2 : nan32 c = false) :
    Calls Try.prog 28 #[.float .f32 b, .float .f32 c] w fun e w' => e = .returned (.tuple #[.int .i64 (cmp32 b c), .int .i64 0]) ∧ w = w' := by
  rcases cmp_cases b c hb hc h1 h2 with ⟨h, g1, g2⟩ | ⟨h, g1, g2⟩ | ⟨h, g1, g2⟩
  all_goals
    rw [h]
    clear h
    go_enter Try.func28, Try.ntmps28
    go_wp2_with fail
    refine (nan_any b _ hb).mono ?_
    rintro e w' ⟨rfl, rfl⟩
    rw [h1]
    go_wp2_with fail
    refine (nan_any c _ hc).mono ?_
    rintro e w' ⟨rfl, rfl⟩
    rw [h2]
    go_wp2_with fail
    go_ret2
    exact ⟨rfl, rfl⟩

theorem cmpNaN_any (b : Nat) (w : World) (hb : b < 4294967296) : Calls Try.prog 61 #[.float .f32 b] w fun e w' => e = .returned (.bool (nan32 b)) ∧ w = w' := by
  have h := ne32 b hb
  go_enter Try.func61, Try.ntmps61
  go_wp2
  go_ret
  exact ⟨rfl, rfl⟩

theorem cmpCompare_yes (b c : Nat) (w : World) (hb : b < 4294967296) (hc : c < 4294967296) (h1 : nan32 b = false) (h2 : nan32 c = false) :
    Calls Try.prog 52 #[.float .f32 b, .float .f32 c] w fun e w' => e = .returned (.int .i64 (cmp32 b c)) ∧ w = w' := by
  rcases cmp_cases b c hb hc h1 h2 with ⟨h, g1, g2⟩ | ⟨h, g1, g2⟩ | ⟨h, g1, g2⟩
  all_goals
    rw [h]
    clear h
    go_enter Try.func52, Try.ntmps52
    go_wp2_with fail
    refine (cmpNaN_any b _ hb).mono ?_
    rintro e w' ⟨rfl, rfl⟩
    rw [h1]
    go_wp2_with fail
    refine (cmpNaN_any c _ hc).mono ?_
    rintro e w' ⟨rfl, rfl⟩
    rw [h2]
    go_wp2_with fail
    go_ret
    exact ⟨rfl, rfl⟩

theorem implCmp_no (b c : Nat) (w : World) (hb : b < 4294967296) (hc : c < 4294967296) (h : nan32 b = true ∨ nan32 c = true) :
    Calls Try.prog 27 #[.float .f32 b, .float .f32 c] w fun e w' => e = .returned (.tuple #[.int .i64 0, .int .i64 1]) ∧ w = w' := by
  have g1 := ne32 b hb
  have g2 := ne32 c hc
  by_cases h1 : nan32 b = true
  · rw [h1] at g1
    clear h
    go_enter Try.func27, Try.ntmps27
    go_wp2_with fail
    go_ret2
    exact ⟨rfl, rfl⟩
  · have h2 : nan32 c = true := by
      rcases h with h | h
      · exact absurd h h1
      · exact h
    have h1 : nan32 b = false := by simpa using h1
    rw [h1] at g1
    rw [h2] at g2
    clear h
    go_enter Try.func27, Try.ntmps27
    go_wp2_with fail
    go_ret2
    exact ⟨rfl, rfl⟩

theorem implCmp_yes (b c : Nat) (w : World) (hb : b < 4294967296) (hc : c < 4294967296) (h1 : nan32 b = false) (h2 : nan32 c = false) :
    Calls Try.prog 27 #[.float .f32 b, .float .f32 c] w fun e w' => e = .returned (.tuple #[.int .i64 (cmp32 b c), .int .i64 0]) ∧ w = w' := by
  have g1 := ne32 b hb
  have g2 := ne32 c hc
  rw [h1] at g1
  rw [h2] at g2
  go_enter Try.func27, Try.ntmps27
  go_wp2_with fail
  refine (cmpCompare_yes b c _ hb hc h1 h2).mono ?_
  rintro e w' ⟨rfl, rfl⟩
  go_wp2_with fail
  go_ret2
  exact ⟨rfl, rfl⟩
end Go.Proofs.Ytjoflmclgiemoaa
