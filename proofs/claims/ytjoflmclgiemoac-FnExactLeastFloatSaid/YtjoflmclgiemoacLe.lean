/- The walks of LeastFloat, of the model and of the program. -/
import Derived.Test.YtjoflmclgiemoacSo
namespace Go.Proofs.Ytjoflmclgiemoac
open Go.RowKit

/-- what LeastFloat returns -/
def LeastIs (xs : List Nat) (e : Ending) : Prop :=
  ((xs.length = 0 ∨ 200 < xs.length) ∧ e = .returned (.tuple #[.float .f32 0, .int .i64 2])) ∨
  (¬ (xs.length = 0 ∨ 200 < xs.length) ∧ (∃ x ∈ xs, nan32 x = true) ∧ e = .returned (.tuple #[.float .f32 0, .int .i64 1])) ∨
  (¬ (xs.length = 0 ∨ 200 < xs.length) ∧ (∀ x ∈ xs, nan32 x = false) ∧ ∃ m, m ∈ xs ∧ (∀ x ∈ xs, rank32 m ≤ rank32 x) ∧ e = .returned (.tuple #[.float .f32 m, .int .i64 0]))

theorem nan_of_take {xs : List Nat} {k : Nat} (hk : k < xs.length) (h : ∀ x ∈ xs.take k, nan32 x = false) (h2 : nan32 xs[k] = false) : ∀ x ∈ xs.take (k + 1), nan32 x = false := by
  intro x hx
  rw [List.take_succ_eq_append_getElem hk] at hx
  rcases List.mem_append.1 hx with h1 | h1
  · exact h x h1
  · simp at h1; rw [h1]; exact h2

set_option maxHeartbeats 1000000 in
theorem specLeast_any (A : Option Addr) (n c : Nat) (xs : List Nat) (w : World) (hr : Rd w w.heap.size A (xs.map (Value.float .f32))) (hn : xs.length = n) (hm : n ≤ 1048576) (hb : ∀ x ∈ xs, x < 4294967296) :
    Calls Try.prog 21 #[.slice A n c] w fun e w' => LeastIs xs e ∧ Below w.heap.size w w' := by
  have Hn := Lib.hid hn
  have Hb := Lib.hid hb
  by_cases hbad : n = 0 ∨ 200 < n
  · have H1 : Hid (LeastIs xs (.returned (.tuple #[.float .f32 0, .int .i64 2]))) := Lib.hid (.inl ⟨by rw [hn]; exact hbad, rfl⟩)
    clear hr hn hb
    rcases hbad with h0 | h0
    · subst h0
      go_enter Try.func21, Try.ntmps21
      go_wp2_with fail
      go_ret2
      exact ⟨H1.out, Below.refl _ _⟩
    · have h00 : 1 ≤ n := by omega
      go_enter Try.func21, Try.ntmps21
      go_wp2_with fail
      go_ret2
      exact ⟨H1.out, Below.refl _ _⟩
  · have h1 : 1 ≤ n := by omega
    have h2 : n ≤ 200 := by omega
    have Hbad := Lib.hid hbad
    clear hbad hn hb
    go_enter Try.func21, Try.ntmps21
    go_wp2_with fail
    go_loop [4] (fun i => ∃ k : Nat, k ≤ n ∧ i = .int .i64 k ∧ ∀ x ∈ xs.take k, nan32 x = false) (fun i => n - (intOf i).toNat)
    case atStart => exact ⟨0, Nat.zero_le _, rfl, by simp⟩
    case round =>
      obtain ⟨k, hk, rfl, hpre⟩ := hrel
      by_cases hlt : k < n
      · have hkx : k < xs.length := by rw [Hn.out]; exact hlt
        obtain ⟨a, ha, _⟩ := hr.some_ (by simp; omega)
        subst ha
        have hc1 := hr.cell (k := k) (by simpa using hkx)
        rw [List.getElem_map] at hc1
        have hx := Hb.out _ (List.getElem_mem hkx)
        have Hpre := Lib.hid hpre
        clear hpre hr
        by_cases hnan : nan32 xs[k] = true
        · have H1 : Hid (LeastIs xs (.returned (.tuple #[.float .f32 0, .int .i64 1]))) := Lib.hid (.inr (.inl ⟨by rw [Hn.out]; exact Hbad.out, ⟨_, List.getElem_mem hkx, hnan⟩, rfl⟩))
          generalize xs[k] = x at *
          go_wp2_with fail
          refine (nan_any x _ hx).mono ?_
          rintro e w' ⟨rfl, rfl⟩
          rw [hnan]
          go_wp2_with fail
          go_ret2
          exact ⟨H1.out, Below.refl _ _⟩
        · have hnan : nan32 xs[k] = false := by simpa using hnan
          have Hnext := Lib.hid (nan_of_take hkx Hpre.out hnan)
          generalize xs[k] = x at *
          go_wp2_with fail
          refine (nan_any x _ hx).mono ?_
          rintro e w' ⟨rfl, rfl⟩
          rw [hnan]
          go_wp2_with fail
          go_round
          case rel => exact ⟨k + 1, by omega, by go_num, Hnext.out⟩
          case measure => simp [intOf]; omega
      · have hall : ∀ x ∈ xs, nan32 x = false := by
          rwa [List.take_of_length_le (by have := Hn.out; omega)] at hpre
        obtain ⟨a, ha, _⟩ := hr.some_ (by simp; have := Hn.out; omega)
        subst ha
        have Hr := Lib.hid hr
        have Hall := Lib.hid hall
        clear hpre hr hall
        go_wp2_with fail
        refine (sort_any a n c xs _ Hr.out Hn.out hm Hb.out).mono ?_
        rintro e w' ⟨v, ys, rfl, hown, hperm, hsort, hbw⟩
        have hyl : ys.length = n := hperm.length_eq.trans Hn.out
        obtain ⟨g, cap, hv, _⟩ := World.ownsRow.form hown (by omega)
        rw [hyl] at hv
        subst hv
        have hc := hown.cell hyl (k := 0) (by omega)
        have hmem : ys.getD 0 0 ∈ xs := by
          have h : ys.getD 0 0 = ys[0]'(by omega) := by simp [List.getD_eq_getElem?_getD, List.getElem?_eq_getElem (show 0 < ys.length by omega)]
          rw [h]; exact hperm.mem_iff.1 (List.getElem_mem _)
        have hmin : ∀ x ∈ xs, rank32 (ys.getD 0 0) ≤ rank32 x := by
          intro x hx
          obtain ⟨p, hp, hpx⟩ := List.getElem_of_mem (hperm.mem_iff.2 hx)
          have e : x = ys.getD p 0 := by simp [List.getD_eq_getElem?_getD, List.getElem?_eq_getElem hp, hpx]
          rcases Nat.eq_zero_or_pos p with h0 | h0
          · subst h0; rw [e]; exact Int.le_refl _
          · rw [e]; exact hsort 0 p h0 (by omega)
        have H1 : Hid (LeastIs xs (.returned (.tuple #[.float .f32 (ys.getD 0 0), .int .i64 0]))) := Lib.hid (.inr (.inr ⟨by rw [Hn.out]; exact Hbad.out, Hall.out, _, hmem, hmin, rfl⟩))
        have Hbw := Lib.hid hbw
        clear hown hperm hsort hbw hmem hmin hyl
        generalize ys.getD 0 0 = m at *
        go_wp2_with fail
        go_ret2
        exact ⟨H1.out, Hbw.out⟩

set_option maxHeartbeats 1000000 in
theorem implLeast_any (A : Option Addr) (n c B : Nat) (xs : List Nat) (w : World) (hr : Rd w B A (xs.map (Value.float .f32))) (hn : xs.length = n) (hm : n ≤ 1048576) (hb : ∀ x ∈ xs, x < 4294967296) :
    Calls Try.prog 22 #[.slice A n c] w fun e w' => LeastIs xs e ∧ w = w' := by
  have Hn := Lib.hid hn
  have Hb := Lib.hid hb
  by_cases hbad : n = 0 ∨ 200 < n
  · have H1 : Hid (LeastIs xs (.returned (.tuple #[.float .f32 0, .int .i64 2]))) := Lib.hid (.inl ⟨by rw [hn]; exact hbad, rfl⟩)
    clear hr hn hb
    rcases hbad with h0 | h0
    · subst h0
      go_enter Try.func22, Try.ntmps22
      go_wp2_with fail
      go_ret2
      exact ⟨H1.out, rfl⟩
    · have h00 : ((n : Int) == 0) = false := by simp; omega
      go_enter Try.func22, Try.ntmps22
      go_wp2_with fail
      go_ret2
      exact ⟨H1.out, rfl⟩
  · have h1 : 1 ≤ n := by omega
    have h00 : ((n : Int) == 0) = false := by simp; omega
    have h2 : n ≤ 200 := by omega
    have Hbad := Lib.hid hbad
    obtain ⟨a, ha, _⟩ := hr.some_ (by simp; omega)
    subst ha
    have hc0 := hr.cell (k := 0) (by simp; omega)
    rw [List.getElem_map] at hc0
    have hadd : a.add 0 = a := rfl
    rw [hadd] at hc0
    have hm0 : Hid (xs[0]'(by omega) ∈ xs) := Lib.hid (List.getElem_mem _)
    generalize xs[0]'(by omega) = m0 at *
    clear hbad hn hb hadd
    go_enter Try.func22, Try.ntmps22
    go_wp2_with fail
    go_loop [4, 6, 20] (fun l _ i => ∃ (k m : Nat), k ≤ n ∧ i = .int .i64 k ∧ l = .float .f32 m ∧ m ∈ xs ∧ (∀ x ∈ xs.take k, nan32 x = false ∧ rank32 m ≤ rank32 x)) (fun _ _ i => n - (intOf i).toNat)
    case atStart => exact ⟨0, m0, Nat.zero_le _, rfl, rfl, hm0.out, by simp⟩
    case round =>
      clear hc0 hm0
      obtain ⟨k, m, hk, rfl, rfl, hmem, hpre⟩ := hrel
      have Hmem := Lib.hid hmem
      by_cases hlt : k < n
      · have hkx : k < xs.length := by rw [Hn.out]; exact hlt
        have hc1 := hr.cell (k := k) (by simpa using hkx)
        rw [List.getElem_map] at hc1
        have hx := Hb.out _ (List.getElem_mem hkx)
        have hmlt := Hb.out _ hmem
        have Hxm : Hid (xs[k] ∈ xs) := Lib.hid (List.getElem_mem hkx)
        have hself := ne32 xs[k] hx
        have Hpre := Lib.hid hpre
        have Hr := Lib.hid hr
        have Hx := Lib.hid hx
        have Hml := Lib.hid hmlt
        clear hpre hr hmem hx hmlt
        by_cases hnan : nan32 xs[k] = true
        · have H1 : Hid (LeastIs xs (.returned (.tuple #[.float .f32 0, .int .i64 1]))) := Lib.hid (.inr (.inl ⟨by rw [Hn.out]; exact Hbad.out, ⟨_, List.getElem_mem hkx, hnan⟩, rfl⟩))
          rw [hnan] at hself
          generalize xs[k] = x at *
          go_wp2_with fail
          go_ret2
          exact ⟨H1.out, rfl⟩
        · have hnan : nan32 xs[k] = false := by simpa using hnan
          rw [hnan] at hself
          have Hnx : Hid (∀ x ∈ xs.take (k + 1), x = xs[k] ∨ x ∈ xs.take k) := Lib.hid (by
            intro x hx
            rw [List.take_succ_eq_append_getElem hkx] at hx
            rcases List.mem_append.1 hx with h1 | h1
            · exact .inr h1
            · simp at h1; exact .inl h1)
          have Hnan := Lib.hid hnan
          clear hnan
          generalize xs[k] = x at *
          by_cases hless : rank32 x < rank32 m
          · have hd : decide (rank32 x < rank32 m) = true := decide_eq_true hless
            have Hless := Lib.hid hless
            clear hless
            go_wp2_with fail
            refine (implLess_any x m _ Hx.out Hml.out).mono ?_
            rintro e w' ⟨rfl, rfl⟩
            rw [hd]
            go_wp2_with fail
            go_round
            case rel =>
              refine ⟨k + 1, x, by omega, by go_num, rfl, Hxm.out, fun z hz => ?_⟩
              have hl := Hless.out
              rcases Hnx.out z hz with rfl | hz
              · exact ⟨Hnan.out, Int.le_refl _⟩
              · have := Hpre.out z hz; exact ⟨this.1, by omega⟩
            case measure => simp [intOf]; omega
          · have hd : decide (rank32 x < rank32 m) = false := decide_eq_false hless
            have Hless := Lib.hid hless
            clear hless
            go_wp2_with fail
            refine (implLess_any x m _ Hx.out Hml.out).mono ?_
            rintro e w' ⟨rfl, rfl⟩
            rw [hd]
            go_wp2_with fail
            go_round
            case rel =>
              refine ⟨k + 1, m, by omega, by go_num, rfl, Hmem.out, fun z hz => ?_⟩
              have hl := Hless.out
              rcases Hnx.out z hz with rfl | hz
              · exact ⟨Hnan.out, by omega⟩
              · exact Hpre.out z hz
            case measure => simp [intOf]; omega
      · have hall : Hid (LeastIs xs (.returned (.tuple #[.float .f32 m, .int .i64 0]))) := Lib.hid (by
          rw [List.take_of_length_le (by have := Hn.out; omega)] at hpre
          exact .inr (.inr ⟨by rw [Hn.out]; exact Hbad.out, fun x hx => (hpre x hx).1, m, hmem, fun x hx => (hpre x hx).2, rfl⟩))
        clear hpre hr hmem
        go_wp2_with fail
        go_ret2
        exact ⟨hall.out, rfl⟩
end Go.Proofs.Ytjoflmclgiemoac
