/- More walks of chapter 1: PartsOf and PlaceOf of the program, ClassOf, PartsOf and PlaceOf of the model. -/
import Derived.Test.YtjoflmclgiemoaaIa
namespace Go.Proofs.Ytjoflmclgiemoaa
open Go.RowKit

theorem grown_drewN (w : World) (n : Nat) : Grown w (w.drewN n) := by
  induction n with
  | zero => exact Grown.refl _
  | succ n ih => exact ih.drew

theorem ret3_int {k1 k2 : IntKind} {a b c d : Int} {x : Value} (h : a = b) (g : c = d) : Ending.returned (.tuple #[.int k1 a, .int k2 c, x]) = .returned (.tuple #[.int k1 b, .int k2 d, x]) := by rw [h, g]
theorem ret2_int {k1 : IntKind} {a b : Int} {x : Value} (h : a = b) : Ending.returned (.tuple #[.int k1 a, x]) = .returned (.tuple #[.int k1 b, x]) := by rw [h]

theorem lt_zero32 (b : Nat) (hb : b < 4294967296) (hn : nan32 b = false) : (FloatKind.f32.format.order b 0 == some .lt) = decide (place32 b < 0) := by
  have := lt32 b 0 hb (by decide) hn nan32_zero
  rwa [place32_zero] at this
theorem eq_zero32 (b : Nat) (hb : b < 4294967296) (hn : nan32 b = false) : (FloatKind.f32.format.order b 0 == some .eq) = decide (place32 b = 0) := by
  have := eq32 b 0 hb (by decide) hn nan32_zero
  rwa [place32_zero] at this
theorem place_cases (b : Nat) : (place32 b < 0 ∧ place32 b = -((b % 2147483648 : Nat) : Int)) ∨ (¬ place32 b < 0 ∧ place32 b = ((b % 2147483648 : Nat) : Int)) := by
  unfold place32
  split
  · by_cases h : b % 2147483648 = 0
    · right; rw [h]; decide
    · left; omega
  · right; omega

/-- the mantissa with its sign -/
def smant32 (b : Nat) : Int := if place32 b < 0 then -(mant (b % 2147483648) : Int) else (mant (b % 2147483648) : Int)

theorem implParts_no (b : Nat) (w : World) (hb : b < 4294967296) (hf : fin32 b = false) :
    Calls Try.prog 33 #[.float .f32 b] w fun e w' => e = .returned (.tuple #[.int .i64 0, .int .i64 0, .int .i64 1]) ∧ w = w' := by
  go_enter Try.func33, Try.ntmps33
  go_wp2_with fail
  refine (implFinite_any b _ hb).mono ?_
  rintro e w' ⟨rfl, rfl⟩
  rw [hf]
  go_wp2
  go_ret3
  exact ⟨rfl, rfl⟩

theorem implParts_yes (b : Nat) (w : World) (hb : b < 4294967296) (hf : fin32 b = true) :
    Calls Try.prog 33 #[.float .f32 b] w fun e w' => e = .returned (.tuple #[.int .i64 (smant32 b), .int .i64 (-149 + expo (b % 2147483648)), .int .i64 0]) ∧ w = w' := by
  have hn := fin_nan hf
  have hl := lt_zero32 b hb hn
  have hbits := Lib.hid (bits32_not hn)
  obtain ⟨n, hnn⟩ : ∃ n : Int, n = ((b % 2147483648 : Nat) : Int) := ⟨_, rfl⟩
  have n0 : 0 ≤ n := by omega
  have n1 : n < 2139095040 := by
    have : b % 2147483648 < 2139095040 := by simpa [fin32] using hf
    omega
  have hm : (mant (b % 2147483648) : Int) = if n < 8388608 then n else 8388608 + n % 8388608 := by
    rw [hnn]; unfold mant
    split
    · rename_i h; rw [if_pos (by omega)]
    · rename_i h; rw [if_neg (by omega)]; omega
  have he : (expo (b % 2147483648) : Int) = if n < 8388608 then 0 else n / 8388608 - 1 := by
    rw [hnn]; unfold expo
    split
    · rename_i h; rw [if_pos (by omega)]; rfl
    · rename_i h; rw [if_neg (by omega)]; omega
  have H := Lib.hid hnn
  clear hnn
  obtain ⟨E, hE⟩ : ∃ E : Int, E = if n / 8388608 = 0 then 1 else n / 8388608 := ⟨_, rfl⟩
  obtain ⟨M, hM⟩ : ∃ M : Int, M = if n / 8388608 = 0 then n % 8388608 else n % 8388608 + 8388608 := ⟨_, rfl⟩
  have Hm : Hid ((mant (b % 2147483648) : Int) = M) := Lib.hid (by rw [hm, hM]; split <;> split <;> omega)
  have He : Hid (-149 + (expo (b % 2147483648) : Int) = E - 150) := Lib.hid (by rw [he, hE]; split <;> split <;> omega)
  clear hm he
  by_cases hs : n / 8388608 = 0
  case' pos => rw [if_pos hs] at hE hM
  case' neg => rw [if_neg hs] at hE hM
  all_goals
    have HE := Lib.hid hE
    have HM := Lib.hid hM
    clear hE hM
    rcases place_cases b with ⟨h1, hx⟩ | ⟨h1, hx⟩
    all_goals clear hx
    case' inl =>
      rw [decide_eq_true h1] at hl
      have Hs : Hid (smant32 b = -M) := Lib.hid (by unfold smant32; rw [if_pos h1, Hm.out])
    case' inr =>
      rw [decide_eq_false h1] at hl
      have Hs : Hid (smant32 b = M) := Lib.hid (by unfold smant32; rw [if_neg h1, Hm.out])
    all_goals
      clear h1
      go_enter Try.func33, Try.ntmps33
      go_wp2_with fail
      refine (implFinite_any b _ hb).mono ?_
      rintro e w' ⟨rfl, rfl⟩
      rw [hf]
      go_wp2_with fail
      refine (implUnsigned_any b _ hb).mono ?_
      rintro e w' ⟨rfl, rfl⟩
      rw [hbits.out, ← H.out]
      go_wp2_with fail
      refine (implUnsigned_any b _ hb).mono ?_
      rintro e w' ⟨rfl, rfl⟩
      rw [hbits.out, ← H.out]
      go_wp2_with fail
      go_ret3
      exact ⟨ret3_int (by rw [Hs.out, HM.out]) (by rw [He.out, HE.out]; try rfl), rfl⟩

theorem implPlace_no (b : Nat) (w : World) (hb : b < 4294967296) (hn : nan32 b = true) :
    Calls Try.prog 19 #[.float .f32 b] w fun e w' => e = .returned (.tuple #[.int .i64 0, .int .i64 1]) ∧ w = w' := by
  have h := ne32 b hb
  rw [hn] at h
  go_enter Try.func19, Try.ntmps19
  go_wp2
  go_ret2
  exact ⟨rfl, rfl⟩

theorem implPlace_yes (b : Nat) (w : World) (hb : b < 4294967296) (hn : nan32 b = false) :
    Calls Try.prog 19 #[.float .f32 b] w fun e w' => e = .returned (.tuple #[.int .i64 (place32 b), .int .i64 0]) ∧ w = w' := by
  have h := ne32 b hb
  rw [hn] at h
  have hl := lt_zero32 b hb hn
  have hbits := Lib.hid (bits32_not hn)
  obtain ⟨n, hnn⟩ : ∃ n : Int, n = ((b % 2147483648 : Nat) : Int) := ⟨_, rfl⟩
  have n0 : 0 ≤ n := by omega
  have n1 : n < 2147483648 := by omega
  rcases place_cases b with ⟨h1, hx⟩ | ⟨h1, hx⟩
  case' inl => rw [decide_eq_true h1] at hl
  case' inr => rw [decide_eq_false h1] at hl
  all_goals
    rw [← hnn] at hx
    have H := Lib.hid hnn
    have Hx := Lib.hid hx
    clear h1 hx hnn
    go_enter Try.func19, Try.ntmps19
    go_wp2_with fail
    refine (implUnsigned_any b _ hb).mono ?_
    rintro e w' ⟨rfl, rfl⟩
    rw [hbits.out, ← H.out]
    go_wp2_with fail
    go_ret2
    exact ⟨ret2_int (by rw [Hx.out]), rfl⟩

theorem specPlace_no (b : Nat) (w : World) (hb : b < 4294967296) (hn : nan32 b = true) :
    Calls Try.prog 20 #[.float .f32 b] w fun e w' => e = .returned (.tuple #[.int .i64 0, .int .i64 1]) ∧ w = w' := by
  go_enter Try.func20, Try.ntmps20
  go_wp2_with fail
  refine (nan_any b _ hb).mono ?_
  rintro e w' ⟨rfl, rfl⟩
  rw [hn]
  go_wp2
  go_ret2
  exact ⟨rfl, rfl⟩

theorem specPlace_yes (b : Nat) (w : World) (hb : b < 4294967296) (hn : nan32 b = false) :
    Calls Try.prog 20 #[.float .f32 b] w fun e w' => e = .returned (.tuple #[.int .i64 (place32 b), .int .i64 0]) ∧ ∃ n, w' = w.drewN n := by
  go_enter Try.func20, Try.ntmps20
  go_wp2_with fail
  refine (nan_any b _ hb).mono ?_
  rintro e w' ⟨rfl, rfl⟩
  rw [hn]
  go_wp2_with fail
  refine (place_any b _ hb hn).mono ?_
  rintro e w' ⟨rfl, nd, rfl⟩
  go_wp2
  go_ret2
  exact ⟨rfl, nd, rfl⟩

theorem specParts_no (b : Nat) (w : World) (hb : b < 4294967296) (hf : fin32 b = false) :
    Calls Try.prog 32 #[.float .f32 b] w fun e w' => e = .returned (.tuple #[.int .i64 0, .int .i64 0, .int .i64 1]) ∧ ∃ n, w' = w.drewN n := by
  go_enter Try.func32, Try.ntmps32
  go_wp2_with fail
  refine (fin_no b _ hb hf).mono ?_
  rintro e w' ⟨rfl, rfl⟩
  go_wp2
  go_ret3
  exact ⟨rfl, 1, rfl⟩

theorem specParts_yes (b : Nat) (w : World) (hb : b < 4294967296) (hf : fin32 b = true) :
    Calls Try.prog 32 #[.float .f32 b] w fun e w' => e = .returned (.tuple #[.int .i64 (smant32 b), .int .i64 (-149 + expo (b % 2147483648)), .int .i64 0]) ∧ w = w' := by
  have hn := fin_nan hf
  have hl := lt_zero32 b hb hn
  have l1 : (mant (b % 2147483648) : Int) ≤ 16777215 := by have := mant_lt (b % 2147483648); omega
  rcases place_cases b with ⟨h1, hx⟩ | ⟨h1, hx⟩
  all_goals clear hx
  case' inl =>
    rw [decide_eq_true h1] at hl
    have Hs : Hid (smant32 b = -(mant (b % 2147483648) : Int)) := Lib.hid (by unfold smant32; rw [if_pos h1])
  case' inr =>
    rw [decide_eq_false h1] at hl
    have Hs : Hid (smant32 b = (mant (b % 2147483648) : Int)) := Lib.hid (by unfold smant32; rw [if_neg h1])
  all_goals
    clear h1
    go_enter Try.func32, Try.ntmps32
    go_wp2_with fail
    refine (fin_yes b _ hb hf).mono ?_
    rintro e w' ⟨rfl, rfl⟩
    go_wp2_with fail
    refine (parts_fin b _ hb hf).mono ?_
    rintro e w' ⟨rfl, rfl⟩
    go_wp2
    go_ret3
    exact ⟨ret3_int (by rw [Hs.out]) rfl, rfl⟩

theorem specClass_any (b : Nat) (w : World) (hb : b < 4294967296) :
    Calls Try.prog 16 #[.float .f32 b] w fun e w' => e = .returned (.int .i64 (class32 b)) ∧ ∃ n, w' = w.drewN n := by
  by_cases hn : nan32 b = true
  · have hc : class32 b = 4 := by
      unfold nan32 at hn; simp at hn
      unfold class32
      rw [if_neg (by omega), if_neg (by omega), if_neg (by omega), if_neg (by omega)]
    rw [hc]
    clear hc
    go_enter Try.func16, Try.ntmps16
    go_wp2_with fail
    refine (nan_any b _ hb).mono ?_
    rintro e w' ⟨rfl, rfl⟩
    rw [hn]
    go_wp2
    go_ret
    exact ⟨rfl, 0, rfl⟩
  have hn : nan32 b = false := by simpa using hn
  by_cases hf : fin32 b = true
  · have hz := eq_zero32 b hb hn
    have hf' : b % 2147483648 < 2139095040 := by simpa [fin32] using hf
    by_cases h0 : place32 b = 0
    · rw [decide_eq_true h0] at hz
      have hc : class32 b = 0 := by
        unfold class32; rw [if_pos (by rcases place_cases b with ⟨_, h⟩ | ⟨_, h⟩ <;> omega)]
      rw [hc]
      clear hc h0 hf'
      go_enter Try.func16, Try.ntmps16
      go_wp2_with fail
      refine (nan_any b _ hb).mono ?_
      rintro e w' ⟨rfl, rfl⟩
      rw [hn]
      go_wp2_with fail
      refine (fin_yes b _ hb hf).mono ?_
      rintro e w' ⟨rfl, rfl⟩
      go_wp2
      go_ret
      exact ⟨rfl, 0, rfl⟩
    · rw [decide_eq_false h0] at hz
      have hr : b % 2147483648 ≠ 0 := by rcases place_cases b with ⟨_, h⟩ | ⟨_, h⟩ <;> omega
      by_cases h2 : b % 2147483648 < 8388608
      case' pos =>
        have hc : class32 b = 1 := by unfold class32; rw [if_neg hr, if_pos h2]
        have hd : decide ((mant (b % 2147483648) : Int) < 8388608) = true := by unfold mant; rw [if_pos h2, decide_eq_true]; omega
      case' neg =>
        have hc : class32 b = 2 := by unfold class32; rw [if_neg hr, if_neg h2, if_pos hf']
        have hd : decide ((mant (b % 2147483648) : Int) < 8388608) = false := by unfold mant; rw [if_neg h2, decide_eq_false]; omega
      all_goals
        rw [hc]
        clear hc h0 hf' h2 hr
        go_enter Try.func16, Try.ntmps16
        go_wp2_with fail
        refine (nan_any b _ hb).mono ?_
        rintro e w' ⟨rfl, rfl⟩
        rw [hn]
        go_wp2_with fail
        refine (fin_yes b _ hb hf).mono ?_
        rintro e w' ⟨rfl, rfl⟩
        go_wp2_with fail
        refine (parts_fin b _ hb hf).mono ?_
        rintro e w' ⟨rfl, rfl⟩
        go_wp2
        go_ret
        exact ⟨rfl, 0, rfl⟩
  · have hf : fin32 b = false := by simpa using hf
    have hc : class32 b = 3 := by
      unfold nan32 at hn; unfold fin32 at hf; simp at hn hf
      unfold class32
      rw [if_neg (by omega), if_neg (by omega), if_neg (by omega), if_pos (by omega)]
    rw [hc]
    clear hc
    go_enter Try.func16, Try.ntmps16
    go_wp2_with fail
    refine (nan_any b _ hb).mono ?_
    rintro e w' ⟨rfl, rfl⟩
    rw [hn]
    go_wp2_with fail
    refine (fin_no b _ hb hf).mono ?_
    rintro e w' ⟨rfl, rfl⟩
    go_wp2
    go_ret
    exact ⟨rfl, 1, rfl⟩
end Go.Proofs.Ytjoflmclgiemoaa
