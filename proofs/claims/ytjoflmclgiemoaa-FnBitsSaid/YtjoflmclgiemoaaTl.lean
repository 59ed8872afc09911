/- The walks of the total order: the model's l01Ahead and TotalLess, the program's rankOf and TotalLess. -/
import Derived.Test.YtjoflmclgiemoaaIb
namespace Go.Proofs.Ytjoflmclgiemoaa
open Go.RowKit

/-- the rank along the total order -/
def rank32 (b : Nat) : Int := if 2147483648 ≤ bits32 b then 2147483647 - (bits32 b : Int) else (bits32 b : Int)

theorem rank_any (b : Nat) (w : World) (hb : b < 4294967296) : Calls Try.prog 53 #[.float .f32 b] w fun e w' => e = .returned (.int .i64 (rank32 b)) ∧ w = w' := by
  obtain ⟨n, hn⟩ : ∃ n : Int, n = (bits32 b : Int) := ⟨_, rfl⟩
  have l0 : 0 ≤ n := by omega
  have l1 : n ≤ 4294967295 := by have := bits32_lt b hb; omega
  by_cases h : 2147483648 ≤ n
  case' pos =>
    have H : Hid (rank32 b = 2147483647 - n) := Lib.hid (by unfold rank32; rw [if_pos (by omega), hn])
    have hd : decide ((2147483648 : Int) ≤ n) = true := decide_eq_true h
  case' neg =>
    have H : Hid (rank32 b = n) := Lib.hid (by unfold rank32; rw [if_neg (by omega), hn])
    have hd : decide ((2147483648 : Int) ≤ n) = false := decide_eq_false h
  all_goals
    have Hn := Lib.hid hn
    clear hn h
    go_enter Try.func53, Try.ntmps53
    go_wp2_with fail
    refine (implBits_any b _ hb).mono ?_
    rintro e w' ⟨rfl, rfl⟩
    rw [← Hn.out]
    go_wp2_with fail
    go_ret
    exact ⟨ret_int (by have := H.out; omega), rfl⟩

theorem implLess_any (b c : Nat) (w : World) (hb : b < 4294967296) (hc : c < 4294967296) :
    Calls Try.prog 29 #[.float .f32 b, .float .f32 c] w fun e w' => e = .returned (.bool (decide (rank32 b < rank32 c))) ∧ w = w' := by
  go_enter Try.func29, Try.ntmps29
  go_wp2_with fail
  refine (rank_any b _ hb).mono ?_
  rintro e w' ⟨rfl, rfl⟩
  go_wp2_with fail
  refine (rank_any c _ hc).mono ?_
  rintro e w' ⟨rfl, rfl⟩
  go_wp2_with fail
  go_ret
  exact ⟨rfl, rfl⟩

theorem rank_nan (b : Nat) (h : nan32 b = true) : rank32 b = 2143289344 := by
  unfold rank32 bits32; rw [if_pos h]; decide
theorem rank_not (b : Nat) (hb : b < 4294967296) (h : nan32 b = false) : rank32 b = (if 2147483648 ≤ b then place32 b - 1 else place32 b) ∧ rank32 b ≤ 2139095040 := by
  unfold rank32
  rw [bits32_not h]
  unfold nan32 at h; simp at h
  unfold place32
  by_cases h1 : 2147483648 ≤ b
  · rw [if_pos h1, if_pos h1, if_pos (by simpa using h1)]; omega
  · rw [if_neg h1, if_neg h1, if_neg (by simpa using h1)]; omega
theorem rank_zero (b : Nat) (hb : b < 4294967296) (h : nan32 b = false) (h0 : place32 b = 0) : rank32 b = if neg32 b = true then -1 else 0 := by
  rw [(rank_not b hb h).1, h0]
  unfold neg32
  by_cases h1 : 2147483648 ≤ b
  · simp [h1]
  · simp [h1]

theorem ahead_any (b c : Nat) (w : World) (hb : b < 4294967296) (hc : c < 4294967296) :
    Calls Try.prog 54 #[.float .f32 b, .float .f32 c] w fun e w' => e = .returned (.bool (decide (rank32 b < rank32 c))) ∧ w = w' := by
  by_cases h1 : nan32 b = true
  · have hr : decide (rank32 b < rank32 c) = false := by
      rw [decide_eq_false]
      rw [rank_nan b h1]
      by_cases h2 : nan32 c = true
      · rw [rank_nan c h2]; omega
      · have := (rank_not c hc (by simpa using h2)).2; omega
    rw [hr]
    clear hr
    go_enter Try.func54, Try.ntmps54
    go_wp2_with fail
    refine (nan_any b _ hb).mono ?_
    rintro e w' ⟨rfl, rfl⟩
    rw [h1]
    go_wp2_with fail
    go_ret
    exact ⟨rfl, rfl⟩
  have h1 : nan32 b = false := by simpa using h1
  by_cases h2 : nan32 c = true
  · have hr : decide (rank32 b < rank32 c) = true := by
      rw [decide_eq_true]
      rw [rank_nan c h2]
      have := (rank_not b hb h1).2; omega
    rw [hr]
    clear hr
    go_enter Try.func54, Try.ntmps54
    go_wp2_with fail
    refine (nan_any b _ hb).mono ?_
    rintro e w' ⟨rfl, rfl⟩
    rw [h1]
    go_wp2_with fail
    refine (nan_any c _ hc).mono ?_
    rintro e w' ⟨rfl, rfl⟩
    rw [h2]
    go_wp2_with fail
    go_ret
    exact ⟨rfl, rfl⟩
  have h2 : nan32 c = false := by simpa using h2
  have z1 := eq_zero32 b hb h1
  have z2 := eq_zero32 c hc h2
  by_cases h3 : place32 b = 0 ∧ place32 c = 0
  · rw [decide_eq_true h3.1] at z1
    rw [decide_eq_true h3.2] at z2
    have r1 := rank_zero b hb h1 h3.1
    have r2 := rank_zero c hc h2 h3.2
    have hr : decide (rank32 b < rank32 c) = (neg32 b && !neg32 c) := by
      rw [r1, r2]; cases neg32 b <;> cases neg32 c <;> decide
    rw [hr]
    clear hr r1 r2 h3
    cases hx : neg32 b
    · go_enter Try.func54, Try.ntmps54
      go_wp2_with fail
      refine (nan_any b _ hb).mono ?_
      rintro e w' ⟨rfl, rfl⟩
      rw [h1]
      go_wp2_with fail
      refine (nan_any c _ hc).mono ?_
      rintro e w' ⟨rfl, rfl⟩
      rw [h2]
      go_wp2_with fail
      refine (minus_any b _ hb h1).mono ?_
      rintro e w' ⟨rfl, rfl⟩
      rw [hx]
      go_wp2_with fail
      go_ret
      exact ⟨rfl, rfl⟩
    · go_enter Try.func54, Try.ntmps54
      go_wp2_with fail
      refine (nan_any b _ hb).mono ?_
      rintro e w' ⟨rfl, rfl⟩
      rw [h1]
      go_wp2_with fail
      refine (nan_any c _ hc).mono ?_
      rintro e w' ⟨rfl, rfl⟩
      rw [h2]
      go_wp2_with fail
      refine (minus_any b _ hb h1).mono ?_
      rintro e w' ⟨rfl, rfl⟩
      rw [hx]
      go_wp2_with fail
      refine (minus_any c _ hc h2).mono ?_
      rintro e w' ⟨rfl, rfl⟩
      go_wp2_with fail
      go_ret
      exact ⟨rfl, rfl⟩
  · have hl := lt32 b c hb hc h1 h2
    have hr : decide (rank32 b < rank32 c) = decide (place32 b < place32 c) := by
      rw [(rank_not b hb h1).1, (rank_not c hc h2).1, decide_eq_decide]
      have p1 : 2147483648 ≤ b → place32 b ≤ 0 := by intro h; unfold place32; rw [if_pos (by simpa using h)]; omega
      have p2 : ¬ 2147483648 ≤ b → 0 ≤ place32 b := by intro h; unfold place32; rw [if_neg (by simpa using h)]; omega
      have q1 : 2147483648 ≤ c → place32 c ≤ 0 := by intro h; unfold place32; rw [if_pos (by simpa using h)]; omega
      have q2 : ¬ 2147483648 ≤ c → 0 ≤ place32 c := by intro h; unfold place32; rw [if_neg (by simpa using h)]; omega
      by_cases s1 : 2147483648 ≤ b <;> by_cases s2 : 2147483648 ≤ c <;> simp only [s1, s2, if_true, if_false] <;> simp only [s1, s2, not_true, not_false_eq_true, true_implies, false_implies] at p1 p2 q1 q2 <;> omega
    rw [hr, ← hl]
    clear hr
    by_cases h4 : place32 b = 0
    · have h5 : ¬ place32 c = 0 := fun h => h3 ⟨h4, h⟩
      rw [decide_eq_true h4] at z1
      rw [decide_eq_false h5] at z2
      clear h3 h4 h5 hl
      go_enter Try.func54, Try.ntmps54
      go_wp2_with fail
      refine (nan_any b _ hb).mono ?_
      rintro e w' ⟨rfl, rfl⟩
      rw [h1]
      go_wp2_with fail
      refine (nan_any c _ hc).mono ?_
      rintro e w' ⟨rfl, rfl⟩
      rw [h2]
      go_wp2_with fail
      go_ret
      exact ⟨rfl, rfl⟩
    · rw [decide_eq_false h4] at z1
      clear h3 h4 hl z2
      go_enter Try.func54, Try.ntmps54
      go_wp2_with fail
      refine (nan_any b _ hb).mono ?_
      rintro e w' ⟨rfl, rfl⟩
      rw [h1]
      go_wp2_with fail
      refine (nan_any c _ hc).mono ?_
      rintro e w' ⟨rfl, rfl⟩
      rw [h2]
      go_wp2_with fail
      go_ret
      exact ⟨rfl, rfl⟩

theorem specLess_any (b c : Nat) (w : World) (hb : b < 4294967296) (hc : c < 4294967296) :
    Calls Try.prog 30 #[.float .f32 b, .float .f32 c] w fun e w' => e = .returned (.bool (decide (rank32 b < rank32 c))) ∧ w = w' := by
  go_enter Try.func30, Try.ntmps30
  go_wp2_with fail
  refine (ahead_any b c _ hb hc).mono ?_
  rintro e w' ⟨rfl, rfl⟩
  go_wp2_with fail
  go_ret
  exact ⟨rfl, rfl⟩
end Go.Proofs.Ytjoflmclgiemoaa
