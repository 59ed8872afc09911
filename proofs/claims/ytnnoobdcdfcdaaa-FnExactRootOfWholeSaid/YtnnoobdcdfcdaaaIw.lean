/- The walks of IsWhole, of the program and of the model. -/
import Derived.Test.YtnnoobdcdfcdaaaProg
import Derived.Test.YtnnoobdcdfcdaaaRi
namespace Go.Proofs.Ytnnoobdcdfcdaaa
set_option maxRecDepth 100000
open Go.RowKit
set_option linter.unusedSimpArgs false
set_option linter.unusedVariables false

theorem ret_bool {a b : Bool} (h : a = b) : Ending.returned (.bool a) = .returned (.bool b) := by rw [h]
theorem ret_int {k : IntKind} {a b : Int} (h : a = b) : Ending.returned (.int k a) = .returned (.int k b) := by rw [h]

theorem tooLarge_any (s : Int) (A : Option Addr) (n c : Nat) (w : World) :
    Calls Try.prog 52 #[.agg #[.int .i64 s, .slice A n c]] w fun e w' => e = .returned (.bool (decide ((100 : Int) < n))) ∧ Below w.heap.size w w' := by
  go_enter Try.func52, Try.ntmps52
  go_wp2_with fail
  go_ret
  exact ⟨rfl, (Below.refl _ _).alloc (Nat.le_refl _) _⟩

theorem in_any (x lo hi : Int) (w : World) : Calls Try.prog 82 #[.int .i64 x, .int .i64 lo, .int .i64 hi] w fun e w' => e = .returned (.bool (decide (lo ≤ x ∧ x ≤ hi))) ∧ w = w' := by
  by_cases h1 : lo ≤ x
  · by_cases h2 : x ≤ hi
    · have hd : decide (lo ≤ x ∧ x ≤ hi) = true := decide_eq_true ⟨h1, h2⟩
      rw [hd]
      clear hd
      go_enter Try.func82, Try.ntmps82
      go_wp2_with fail
      go_ret
      exact ⟨rfl, rfl⟩
    · have hd : decide (lo ≤ x ∧ x ≤ hi) = false := decide_eq_false (fun h => h2 h.2)
      rw [hd]
      clear hd
      go_enter Try.func82, Try.ntmps82
      go_wp2_with fail
      go_ret
      exact ⟨rfl, rfl⟩
  · have hd : decide (lo ≤ x ∧ x ≤ hi) = false := decide_eq_false (fun h => h1 h.1)
    rw [hd]
    clear hd
    go_enter Try.func82, Try.ntmps82
    go_wp2_with fail
    go_ret
    exact ⟨rfl, rfl⟩

theorem okW_get {s : Int} {xs : List Int} (h : okW s xs) {k : Nat} (hk : k < xs.length) : 0 ≤ xs[k] ∧ xs[k] ≤ 16777215 := h.2.2.2.2.1 _ (List.getElem_mem hk)
theorem okW_last {s : Int} {xs : List Int} {n : Nat} (h : okW s xs) (hn : xs.length = n) (h1 : n - 1 < xs.length) : xs[n - 1] ≠ 0 := by
  have hne : xs ≠ [] := fun e => by subst e; simp at h1
  have := h.2.2.2.2.2 hne
  rw [List.getLast_eq_getElem] at this
  subst hn
  exact this
theorem okW_mk {s : Int} {xs : List Int} {n : Nat} (hn : xs.length = n) (h1 : -1 ≤ s) (h2 : s ≤ 1) (h3 : s = 0 ↔ n = 0) (h4 : n ≤ 100) (h5 : ∀ x ∈ xs.take n, 0 ≤ x ∧ x ≤ 16777215) (h6 : ∀ h : n - 1 < xs.length, xs[n - 1] ≠ 0) : okW s xs := by
  subst hn
  rw [List.take_length] at h5
  refine ⟨h1, h2, by rw [h3, List.length_eq_zero_iff], h4, h5, fun hne => ?_⟩
  rw [List.getLast_eq_getElem]
  exact h6 (by have := List.length_pos_iff.2 hne; omega)
theorem in_take {xs : List Int} {k : Nat} (hk : k < xs.length) (h : ∀ x ∈ xs.take k, 0 ≤ x ∧ x ≤ 16777215) (h2 : 0 ≤ xs[k] ∧ xs[k] ≤ 16777215) : ∀ x ∈ xs.take (k + 1), 0 ≤ x ∧ x ≤ 16777215 := by
  intro x hx
  rw [List.take_succ_eq_append_getElem hk] at hx
  rcases List.mem_append.1 hx with h1 | h1
  · exact h x h1
  · simp at h1; rw [h1]; exact h2

set_option maxHeartbeats 1000000 in
theorem implIsW_any (s : Int) (A : Option Addr) (n c : Nat) (xs : List Int) (w : World) (hr : Rd w w.heap.size A (vi xs)) (hn : xs.length = n) (hm : n ≤ 1048580) :
    Calls Try.prog 19 #[.agg #[.int .i64 s, .slice A n c]] w fun e w' => e = .returned (.bool (isW s xs)) ∧ Below w.heap.size w w' := by
  by_cases hbad : s < -1 ∨ 1 < s ∨ (s = 0 ∧ n ≠ 0) ∨ (s ≠ 0 ∧ n = 0)
  · have hno : isW s xs = false := isW_false (by
      rintro ⟨h1, h2, h3, _⟩
      rw [← List.length_eq_zero_iff, hn] at h3
      omega)
    rw [hno]
    clear hno hr hn
    rcases hbad with h1 | h1 | ⟨h1, h2⟩ | ⟨h1, h2⟩
    · go_enter Try.func19, Try.ntmps19
      go_wp2_with fail
      go_ret
      exact ⟨rfl, (Below.refl _ _).alloc (Nat.le_refl _) _⟩
    · have h2 : ¬ s < -1 := by omega
      go_enter Try.func19, Try.ntmps19
      go_wp2_with fail
      go_ret
      exact ⟨rfl, (Below.refl _ _).alloc (Nat.le_refl _) _⟩
    · subst h1
      have h3 : ((n : Int) == 0) = false := by simp; omega
      go_enter Try.func19, Try.ntmps19
      go_wp2_with fail
      go_ret
      exact ⟨rfl, (Below.refl _ _).alloc (Nat.le_refl _) _⟩
    · subst h2
      by_cases h4 : s < -1
      · go_enter Try.func19, Try.ntmps19
        go_wp2_with fail
        go_ret
        exact ⟨rfl, (Below.refl _ _).alloc (Nat.le_refl _) _⟩
      by_cases h5 : 1 < s
      · go_enter Try.func19, Try.ntmps19
        go_wp2_with fail
        go_ret
        exact ⟨rfl, (Below.refl _ _).alloc (Nat.le_refl _) _⟩
      have h3 : (s == 0) = false := by simp; omega
      go_enter Try.func19, Try.ntmps19
      go_wp2_with fail
      go_ret
      exact ⟨rfl, (Below.refl _ _).alloc (Nat.le_refl _) _⟩
  · have h1 : -1 ≤ s := by omega
    have h2 : s ≤ 1 := by omega
    have h3 : (s == 0) = ((n : Int) == 0) := by
      by_cases e : s = 0
      · have : n = 0 := by omega
        subst e this; rfl
      · have e2 : n ≠ 0 := by omega
        have e1 : (s == 0) = false := by simpa using e
        have e3 : ((n : Int) == 0) = false := by simpa using e2
        rw [e1, e3]
    have Hs : Hid (s = 0 ↔ n = 0) := Lib.hid (by omega)
    clear hbad
    by_cases hbig : 100 < n
    · have hno : isW s xs = false := isW_false (by
        rintro ⟨_, _, _, h4, _⟩
        omega)
      rw [hno]
      clear hno hr hn
      have hd : decide ((100 : Int) < (n : Int)) = true := decide_eq_true (by omega)
      go_enter Try.func19, Try.ntmps19
      go_wp2_with fail
      refine (tooLarge_any _ _ _ _ _).mono ?_
      rintro e w1 ⟨rfl, hb⟩
      rw [hd]
      go_wp2_with fail
      go_ret
      exact ⟨rfl, ((Below.refl _ _).alloc (Nat.le_refl _) _).trans (hb.mono (by simp))⟩
    · have hd : decide ((100 : Int) < (n : Int)) = false := decide_eq_false (by omega)
      have hn100 : n ≤ 100 := by omega
      have Hn := Lib.hid hn
      have Hr := Lib.hid hr
      clear hn hr hbig hm
      go_enter Try.func19, Try.ntmps19
      go_wp2_with fail
      refine (tooLarge_any _ _ _ _ _).mono ?_
      rintro e w1 ⟨rfl, hb⟩
      rw [hd]
      obtain ⟨hc, hf⟩ := bcell hb
      have hz : w.heap.size + 1 ≤ w1.heap.size := by have := hb.size; simpa using this
      have hbw : Below w.heap.size w w1 := ((Below.refl _ _).alloc (Nat.le_refl _) _).trans (hb.mono (by simp))
      have Hbw := Lib.hid hbw
      have hr1 := Hr.out.below hbw
      clear hb hbw hd
      go_wp2_with fail
      go_loop [2, 4, 30] (fun _ _ i => ∃ k : Nat, k ≤ n ∧ i = .int .i64 k ∧ ∀ x ∈ xs.take k, 0 ≤ x ∧ x ≤ 16777215) (fun _ _ i => n - (intOf i).toNat)
      case atStart => exact ⟨0, Nat.zero_le _, rfl, by simp⟩
      case round =>
        obtain ⟨k, hk, rfl, hpre⟩ := hrel
        have Hpre := Lib.hid hpre
        clear hpre
        by_cases hlt : k < n
        · have hkx : k < xs.length := by rw [Hn.out]; exact hlt
          obtain ⟨a, ha, _⟩ := hr1.some_ (by rw [vi_len]; omega)
          subst ha
          have hcx := hr1.cell (k := k) (by rw [vi_len]; exact hkx)
          rw [vi_get hkx] at hcx
          by_cases hx : 0 ≤ xs[k] ∧ xs[k] ≤ 16777215
          · have Hnext := Lib.hid (in_take hkx Hpre.out hx)
            obtain ⟨hx1, hx2⟩ := hx
            generalize xs[k] = x at *
            clear hr1
            go_wp2_with fail
            go_round
            case rel => exact ⟨k + 1, by omega, by go_num, Hnext.out⟩
            case measure => simp [intOf]; omega
          · have hno : isW s xs = false := isW_false (fun h => hx (okW_get h hkx))
            have Hno := Lib.hid hno
            have hx2 : ¬ (0 ≤ xs[k] ∧ xs[k] ≤ 16777215) := hx
            generalize xs[k] = x at *
            clear hr1 hno hx
            by_cases hx0 : 0 ≤ x
            · have hx3 : ¬ x ≤ 16777215 := fun h => hx2 ⟨hx0, h⟩
              clear hx2
              go_wp2_with fail
              go_ret
              exact ⟨ret_bool Hno.out.symm, Hbw.out⟩
            · clear hx2
              go_wp2_with fail
              go_ret
              exact ⟨ret_bool Hno.out.symm, Hbw.out⟩
        · have hkn : k = n := by omega
          subst hkn
          by_cases h0 : k = 0
          · have hs0 : s = 0 := Hs.out.2 h0
            have hyes : isW s xs = true := isW_true (okW_mk Hn.out h1 h2 Hs.out hn100 Hpre.out (fun h => absurd h (by have := Hn.out; omega)))
            have Hno := Lib.hid hyes
            clear hyes hr1
            subst hs0 h0
            go_wp2_with fail
            go_ret
            exact ⟨ret_bool Hno.out.symm, Hbw.out⟩
          · have hk1 : k - 1 < xs.length := by have := Hn.out; omega
            obtain ⟨a, ha, _⟩ := hr1.some_ (by rw [vi_len]; omega)
            subst ha
            have hcx := hr1.cell (k := k - 1) (by rw [vi_len]; exact hk1)
            rw [vi_get hk1] at hcx
            have hs0 : ((k : Int) == 0) = false := by simp; omega
            by_cases hx : xs[k - 1] = 0
            · have hno : isW s xs = false := isW_false (fun h => okW_last h Hn.out hk1 hx)
              have Hno := Lib.hid hno
              rw [hx] at hcx
              clear hr1 hno hx
              go_wp2_with fail
              go_ret
              exact ⟨ret_bool Hno.out.symm, Hbw.out⟩
            · have hyes : isW s xs = true := isW_true (okW_mk Hn.out h1 h2 Hs.out hn100 Hpre.out (fun _ => hx))
              have Hno := Lib.hid hyes
              have hx2 : (xs[k - 1] != 0) = true := by simpa using hx
              generalize xs[k - 1] = x at *
              clear hr1 hyes hx
              go_wp2_with fail
              go_ret
              exact ⟨ret_bool Hno.out.symm, Hbw.out⟩
end Go.Proofs.Ytnnoobdcdfcdaaa
