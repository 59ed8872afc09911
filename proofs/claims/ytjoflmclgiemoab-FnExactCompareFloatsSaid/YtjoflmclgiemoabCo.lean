/- The walks of PlacesBetween and CompareFloats, of the model and of the program. -/
import Derived.Test.YtjoflmclgiemoabIb
namespace Go.Proofs.Ytjoflmclgiemoab
open Go.RowKit

theorem place_fin_bounds (b : Nat) (hf : fin32 b = true) : -2139095039 ≤ place32 b ∧ place32 b ≤ 2139095039 := by
  unfold fin32 at hf; simp at hf
  unfold place32; split <;> omega

/-- the distance of places -/
def gap32 (b c : Nat) : Int := if place32 b < place32 c then place32 c - place32 b else place32 b - place32 c

theorem specGap_no (b c : Nat) (w : World) (hb : b < 4294967296) (hc : c < 4294967296) (h : fin32 b = false ∨ fin32 c = false) :
    Calls Try.prog 16 #[.float .f32 b, .float .f32 c] w fun e w' => e = .returned (.tuple #[.int .i64 0, .int .i64 1]) ∧ ∃ n, w' = w.drewN n := by
  by_cases h1 : fin32 b = true
  · have h2 : fin32 c = false := by rcases h with h | h; · rw [h1] at h; cases h
                                    · exact h
    clear h
    go_enter Try.func16, Try.ntmps16
    go_wp2_with fail
    refine (fin_yes b _ hb h1).mono ?_
    rintro e w' ⟨rfl, rfl⟩
    go_wp2_with fail
    refine (fin_no c _ hc h2).mono ?_
    rintro e w' ⟨rfl, rfl⟩
    go_wp2_with fail
    go_ret2
    exact ⟨rfl, 1, rfl⟩
  · have h1 : fin32 b = false := by simpa using h1
    clear h
    go_enter Try.func16, Try.ntmps16
    go_wp2_with fail
    refine (fin_no b _ hb h1).mono ?_
    rintro e w' ⟨rfl, rfl⟩
    go_wp2_with fail
    go_ret2
    exact ⟨rfl, 1, rfl⟩

theorem specGap_yes (b c : Nat) (w : World) (hb : b < 4294967296) (hc : c < 4294967296) (h1 : fin32 b = true) (h2 : fin32 c = true) :
    Calls Try.prog 16 #[.float .f32 b, .float .f32 c] w fun e w' => e = .returned (.tuple #[.int .i64 (gap32 b c), .int .i64 0]) ∧ w = w' := by
  obtain ⟨l1, l2⟩ := place_fin_bounds b h1
  obtain ⟨l3, l4⟩ := place_fin_bounds c h2
  obtain ⟨q, hq⟩ : ∃ q, q = gap32 b c := ⟨_, rfl⟩
  rw [← hq]
  unfold gap32 at hq
  by_cases h : place32 b < place32 c
  case' pos => rw [if_pos h] at hq
  case' neg => rw [if_neg h] at hq
  all_goals
    have H := Lib.hid hq
    clear hq
    go_enter Try.func16, Try.ntmps16
    go_wp2_with fail
    refine (fin_yes b _ hb h1).mono ?_
    rintro e w' ⟨rfl, rfl⟩
    go_wp2_with fail
    refine (fin_yes c _ hc h2).mono ?_
    rintro e w' ⟨rfl, rfl⟩
    go_wp2_with fail
    refine (place_fin b _ hb h1).mono ?_
    rintro e w' ⟨rfl, rfl⟩
    go_wp2_with fail
    refine (place_fin c _ hc h2).mono ?_
    rintro e w' ⟨rfl, rfl⟩
    go_wp2_with fail
    go_ret2
    exact ⟨ret2_int (by have := H.out; omega), rfl⟩

theorem implGap_no (b c : Nat) (w : World) (hb : b < 4294967296) (hc : c < 4294967296) (h : fin32 b = false ∨ fin32 c = false) :
    Calls Try.prog 17 #[.float .f32 b, .float .f32 c] w fun e w' => e = .returned (.tuple #[.int .i64 0, .int .i64 1]) ∧ w = w' := by
  by_cases h1 : fin32 b = true
  · have h2 : fin32 c = false := by
      rcases h with h | h
      · rw [h1] at h; cases h
      · exact h
    clear h
    go_enter Try.func17, Try.ntmps17
    go_wp2_with fail
    refine (implFinite_any b _ hb).mono ?_
    rintro e w' ⟨rfl, rfl⟩
    rw [h1]
    go_wp2_with fail
    refine (implFinite_any c _ hc).mono ?_
    rintro e w' ⟨rfl, rfl⟩
    rw [h2]
    go_wp2_with fail
    go_ret2
    exact ⟨rfl, rfl⟩
  · have h1 : fin32 b = false := by simpa using h1
    clear h
    go_enter Try.func17, Try.ntmps17
    go_wp2_with fail
    refine (implFinite_any b _ hb).mono ?_
    rintro e w' ⟨rfl, rfl⟩
    rw [h1]
    go_wp2_with fail
    go_ret2
    exact ⟨rfl, rfl⟩

theorem implGap_yes (b c : Nat) (w : World) (hb : b < 4294967296) (hc : c < 4294967296) (h1 : fin32 b = true) (h2 : fin32 c = true) :
    Calls Try.prog 17 #[.float .f32 b, .float .f32 c] w fun e w' => e = .returned (.tuple #[.int .i64 (gap32 b c), .int .i64 0]) ∧ w = w' := by
  obtain ⟨l1, l2⟩ := place_fin_bounds b h1
  obtain ⟨l3, l4⟩ := place_fin_bounds c h2
  obtain ⟨q, hq⟩ : ∃ q, q = gap32 b c := ⟨_, rfl⟩
  rw [← hq]
  unfold gap32 at hq
  by_cases h : place32 b < place32 c
  case' pos => rw [if_pos h] at hq
  case' neg => rw [if_neg h] at hq
  all_goals
    have H := Lib.hid hq
    clear hq
    go_enter Try.func17, Try.ntmps17
    go_wp2_with fail
    refine (implFinite_any b _ hb).mono ?_
    rintro e w' ⟨rfl, rfl⟩
    rw [h1]
    go_wp2_with fail
    refine (implFinite_any c _ hc).mono ?_
    rintro e w' ⟨rfl, rfl⟩
    rw [h2]
    go_wp2_with fail
    refine (implPlace_yes b _ hb (fin_nan h1)).mono ?_
    rintro e w' ⟨rfl, rfl⟩
    go_wp2_with fail
    refine (implPlace_yes c _ hc (fin_nan h2)).mono ?_
    rintro e w' ⟨rfl, rfl⟩
    go_wp2_with fail
    go_ret2
    exact ⟨ret2_int (by rw [H.out]), rfl⟩

/-- -1, 0 or 1 -/
def cmp32 (b c : Nat) : Int := if place32 b < place32 c then -1 else if place32 c < place32 b then 1 else 0

theorem specCmp_no (b c : Nat) (w : World) (hb : b < 4294967296) (hc : c < 4294967296) (h : nan32 b = true ∨ nan32 c = true) :
    Calls Try.prog 20 #[.float .f32 b, .float .f32 c] w fun e w' => e = .returned (.tuple #[.int .i64 0, .int .i64 1]) ∧ w = w' := by
  by_cases h1 : nan32 b = true
  · clear h
    go_enter Try.func20, Try.ntmps20
    go_wp2_with fail
    refine (nan_any b _ hb).mono ?_
    rintro e w' ⟨rfl, rfl⟩
    rw [h1]
    go_wp2_with fail
    go_ret2
    exact ⟨rfl, rfl⟩
  · have h2 : nan32 c = true := by
      rcases h with h | h
      · exact absurd h h1
      · exact h
    have h1 : nan32 b = false := by simpa using h1
    clear h
    go_enter Try.func20, Try.ntmps20
    go_wp2_with fail
    refine (nan_any b _ hb).mono ?_
    rintro e w' ⟨rfl, rfl⟩
    rw [h1]
    go_wp2_with fail
    refine (nan_any c _ hc).mono ?_
    rintro e w' ⟨rfl, rfl⟩
    rw [h2]
    go_wp2_with fail
    go_ret2
    exact ⟨rfl, rfl⟩

theorem cmp_cases (b c : Nat) (hb : b < 4294967296) (hc : c < 4294967296) (h1 : nan32 b = false) (h2 : nan32 c = false) :
    (cmp32 b c = -1 ∧ (FloatKind.f32.format.order b c == some .lt) = true ∧ (FloatKind.f32.format.order b c == some .gt) = false) ∨
    (cmp32 b c = 1 ∧ (FloatKind.f32.format.order b c == some .lt) = false ∧ (FloatKind.f32.format.order b c == some .gt) = true) ∨
    (cmp32 b c = 0 ∧ (FloatKind.f32.format.order b c == some .lt) = false ∧ (FloatKind.f32.format.order b c == some .gt) = false) := by
  rw [lt32 b c hb hc h1 h2, gt32 b c hb hc h1 h2]
  unfold cmp32
  rcases Int.lt_trichotomy (place32 b) (place32 c) with h | h | h
  · left; rw [if_pos h]; simp; omega
  · right; right; rw [if_neg (by omega), if_neg (by omega)]; simp; omega
  · right; left; rw [if_neg (by omega), if_pos h]; simp; omega

theorem specCmp_yes (b c : Nat) (w : World) (hb : b < 4294967296) (hc : c < 4294967296) (h1 : nan32 b = false) (h2 : nan32 c = false) :
    Calls Try.prog 20 #[.float .f32 b, .float .f32 c] w fun e w' => e = .returned (.tuple #[.int .i64 (cmp32 b c), .int .i64 0]) ∧ w = w' := by
  rcases cmp_cases b c hb hc h1 h2 with ⟨h, g1, g2⟩ | ⟨h, g1, g2⟩ | ⟨h, g1, g2⟩
  all_goals
    rw [h]
    clear h
    go_enter Try.func20, Try.ntmps20
    go_wp2_with fail
    refine (nan_any b _ hb).mono ?_
    rintro e w' ⟨rfl, rfl⟩
    rw [h1]
    go_wp2_with fail
    refine (nan_any c _ hc).mono ?_
    rintro e w' ⟨rfl, rfl⟩
    rw [h2]
    go_wp2_with fail
    go_ret2
    exact ⟨rfl, rfl⟩

theorem cmpNaN_any (b : Nat) (w : World) (hb : b < 4294967296) : Calls Try.prog 42 #[.float .f32 b] w fun e w' => e = .returned (.bool (nan32 b)) ∧ w = w' := by
  have h := ne32 b hb
  go_enter Try.func42, Try.ntmps42
  go_wp2
  go_ret
  exact ⟨rfl, rfl⟩

theorem cmpCompare_yes (b c : Nat) (w : World) (hb : b < 4294967296) (hc : c < 4294967296) (h1 : nan32 b = false) (h2 : nan32 c = false) :
    Calls Try.prog 36 #[.float .f32 b, .float .f32 c] w fun e w' => e = .returned (.int .i64 (cmp32 b c)) ∧ w = w' := by
  rcases cmp_cases b c hb hc h1 h2 with ⟨h, g1, g2⟩ | ⟨h, g1, g2⟩ | ⟨h, g1, g2⟩
  all_goals
    rw [h]
    clear h
    go_enter Try.func36, Try.ntmps36
    go_wp2_with fail
    refine (cmpNaN_any b _ hb).mono ?_
    rintro e w' ⟨rfl, rfl⟩
    rw [h1]
    go_wp2_with fail
    refine (cmpNaN_any c _ hc).mono ?_
    rintro e w' ⟨rfl, rfl⟩
    rw [h2]
    go_wp2_with fail
    go_ret
    exact ⟨rfl, rfl⟩

theorem implCmp_no (b c : Nat) (w : World) (hb : b < 4294967296) (hc : c < 4294967296) (h : nan32 b = true ∨ nan32 c = true) :
    Calls Try.prog 21 #[.float .f32 b, .float .f32 c] w fun e w' => e = .returned (.tuple #[.int .i64 0, .int .i64 1]) ∧ w = w' := by
  have g1 := ne32 b hb
  have g2 := ne32 c hc
  by_cases h1 : nan32 b = true
  · rw [h1] at g1
    clear h
    go_enter Try.func21, Try.ntmps21
    go_wp2_with fail
    go_ret2
    exact ⟨rfl, rfl⟩
  · have h2 : nan32 c = true := by
      rcases h with h | h
      · exact absurd h h1
      · exact h
    have h1 : nan32 b = false := by simpa using h1
    rw [h1] at g1
    rw [h2] at g2
    clear h
    go_enter Try.func21, Try.ntmps21
    go_wp2_with fail
    go_ret2
    exact ⟨rfl, rfl⟩

theorem implCmp_yes (b c : Nat) (w : World) (hb : b < 4294967296) (hc : c < 4294967296) (h1 : nan32 b = false) (h2 : nan32 c = false) :
    Calls Try.prog 21 #[.float .f32 b, .float .f32 c] w fun e w' => e = .returned (.tuple #[.int .i64 (cmp32 b c), .int .i64 0]) ∧ w = w' := by
  have g1 := ne32 b hb
  have g2 := ne32 c hc
  rw [h1] at g1
  rw [h2] at g2
  go_enter Try.func21, Try.ntmps21
  go_wp2_with fail
  refine (cmpCompare_yes b c _ hb hc h1 h2).mono ?_
  rintro e w' ⟨rfl, rfl⟩
  go_wp2_with fail
  go_ret2
  exact ⟨rfl, rfl⟩
end Go.Proofs.Ytjoflmclgiemoab
