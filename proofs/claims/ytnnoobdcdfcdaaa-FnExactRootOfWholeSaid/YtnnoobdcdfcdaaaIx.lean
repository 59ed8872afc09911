/- The walk of the model's IsWhole. -/
import Derived.Test.YtnnoobdcdfcdaaaIw
namespace Go.Proofs.Ytnnoobdcdfcdaaa
set_option maxRecDepth 100000
open Go.RowKit
set_option linter.unusedSimpArgs false
set_option linter.unusedVariables false

theorem okW_mk2 {s : Int} {xs : List Int} {n : Nat} (hn : xs.length = n) (h0 : n ≠ 0) (hs : s = 1 ∨ s = -1) (h4 : n ≤ 100) (h5 : ∀ x ∈ xs.take n, 0 ≤ x ∧ x ≤ 16777215) (h6 : ∀ h : n - 1 < xs.length, xs[n - 1] ≠ 0) : okW s xs :=
  okW_mk hn (by omega) (by omega) (by omega) h4 h5 h6

set_option maxHeartbeats 1000000 in
theorem specIs_any (s : Int) (A : Option Addr) (n c : Nat) (xs : List Int) (w : World) (hr : Rd w w.heap.size A (vi xs)) (hn : xs.length = n) (hm : n ≤ 1048580) :
    Calls Try.prog 47 #[.agg #[.int .i64 s, .slice A n c]] w fun e w' => e = .returned (.bool (isW s xs)) ∧ Below w.heap.size w w' := by
  have Hn := Lib.hid hn
  have Hr := Lib.hid hr
  have Hm := Lib.hid hm
  clear hn hr
  go_enter Try.func47, Try.ntmps47
  go_wp2_with fail
  obtain ⟨w1, hw1⟩ : ∃ w1, w1 = w.alloc (.cells #[.int .i64 s, .slice A n c] 26) := ⟨_, rfl⟩
  have hbw : Below w.heap.size w w1 := by rw [hw1]; exact (Below.refl _ _).alloc (Nat.le_refl _) _
  have hr1 := Hr.out.below hbw
  have hs0 : w1.cell? ⟨w.heap.size, 0, none⟩ = some (.int .i64 s) := by rw [hw1]; simp
  have hs1 : w1.cell? ⟨w.heap.size, 1, none⟩ = some (.slice A n c) := by rw [hw1]; simp
  rw [← hw1]
  have Hbw := Lib.hid hbw
  clear hw1 hbw
  go_loop [2, 4] (fun _ i => ∃ k : Nat, k ≤ n ∧ i = .int .i64 k ∧ ∀ x ∈ xs.take k, 0 ≤ x ∧ x ≤ 16777215) (fun _ i => n - (intOf i).toNat)
  case atStart => exact ⟨0, Nat.zero_le _, rfl, by simp⟩
  case round =>
    obtain ⟨k, hk, rfl, hpre⟩ := hrel
    have Hpre := Lib.hid hpre
    clear hpre
    by_cases hlt : k < n
    · have hkx : k < xs.length := by rw [Hn.out]; exact hlt
      obtain ⟨a, ha, _⟩ := hr1.some_ (by rw [vi_len]; omega)
      subst ha
      have hcx := hr1.cell (k := k) (by rw [vi_len]; exact hkx)
      rw [vi_get hkx] at hcx
      by_cases hx : 0 ≤ xs[k] ∧ xs[k] ≤ 16777215
      · have Hnext := Lib.hid (in_take hkx Hpre.out hx)
        have hd : decide (0 ≤ xs[k] ∧ xs[k] ≤ 16777215) = true := decide_eq_true hx
        generalize xs[k] = x at *
        clear hr1 hx
        go_wp2_with fail
        refine (in_any _ _ _ _).mono ?_
        rintro e w' ⟨rfl, rfl⟩
        rw [hd]
        clear hd
        go_wp2_with fail
        go_round
        case rel => exact ⟨k + 1, by omega, by go_num, Hnext.out⟩
        case measure => simp [intOf]; omega
      · have hno : isW s xs = false := isW_false (fun h => hx (okW_get h hkx))
        have Hno := Lib.hid hno
        have hd : decide (0 ≤ xs[k] ∧ xs[k] ≤ 16777215) = false := decide_eq_false hx
        generalize xs[k] = x at *
        clear hr1 hno hx
        go_wp2_with fail
        refine (in_any _ _ _ _).mono ?_
        rintro e w' ⟨rfl, rfl⟩
        rw [hd]
        clear hd
        go_wp2_with fail
        go_ret
        exact ⟨ret_bool Hno.out.symm, Hbw.out⟩
    · have hkn : k = n := by omega
      subst hkn
      by_cases h0 : k = 0
      · subst h0
        by_cases hs : s = 0
        · have Hyes := Lib.hid (isW_true (okW_mk Hn.out (by omega) (by omega) (by omega) (by omega) Hpre.out (fun h => absurd h (by have := Hn.out; omega))) : isW s xs = true)
          subst hs
          clear hr1
          go_wp2_with fail
          go_ret
          exact ⟨ret_bool Hyes.out.symm, Hbw.out⟩
        · have Hno := Lib.hid (isW_false (fun h => hs (h.2.2.1.2 (List.eq_nil_of_length_eq_zero Hn.out))) : isW s xs = false)
          have hs2 : (s == 0) = false := by simpa using hs
          clear hr1 hs
          go_wp2_with fail
          go_ret
          exact ⟨ret_bool Hno.out.symm, Hbw.out⟩
      · have hk0 : ((k : Int) == 0) = false := by simp; omega
        have hk1 : k - 1 < xs.length := by have := Hn.out; omega
        obtain ⟨a, ha, _⟩ := hr1.some_ (by rw [vi_len]; omega)
        subst ha
        have hcx := hr1.cell (k := k - 1) (by rw [vi_len]; exact hk1)
        rw [vi_get hk1] at hcx
        have hkpos : 1 ≤ k := by omega
        by_cases hbig : 101 ≤ k
        · have Hno := Lib.hid (isW_false (fun h => by have := h.2.2.2.1; have := Hn.out; omega) : isW s xs = false)
          clear hr1 hcx
          go_wp2_with fail
          go_ret
          exact ⟨ret_bool Hno.out.symm, Hbw.out⟩
        · have hk100 : k ≤ 100 := by omega
          by_cases hx : xs[k - 1] = 0
          · have Hno := Lib.hid (isW_false (fun h => okW_last h Hn.out hk1 hx) : isW s xs = false)
            rw [hx] at hcx
            clear hr1 hx
            go_wp2_with fail
            go_ret
            exact ⟨ret_bool Hno.out.symm, Hbw.out⟩
          · have hx2 : (xs[k - 1] != 0) = true := by simpa using hx
            by_cases h1 : s = 1
            · have Hyes := Lib.hid (isW_true (okW_mk2 Hn.out h0 (.inl h1) hk100 Hpre.out (fun _ => hx)) : isW s xs = true)
              generalize xs[k - 1] = x at *
              clear hr1 hx
              subst h1
              go_wp2_with fail
              go_ret
              exact ⟨ret_bool Hyes.out.symm, Hbw.out⟩
            · by_cases h2 : s = -1
              · have Hyes := Lib.hid (isW_true (okW_mk2 Hn.out h0 (.inr h2) hk100 Hpre.out (fun _ => hx)) : isW s xs = true)
                generalize xs[k - 1] = x at *
                clear hr1 hx
                subst h2
                go_wp2_with fail
                go_ret
                exact ⟨ret_bool Hyes.out.symm, Hbw.out⟩
              · have Hno := Lib.hid (isW_false (fun h => by
                  have h3 : s ≠ 0 := fun e => h0 (by rw [← Hn.out, h.2.2.1.1 e]; rfl)
                  have := h.1; have := h.2.1; omega) : isW s xs = false)
                have h3 : (s == 1) = false := by simpa using h1
                have h4 : (s == -1) = false := by simpa using h2
                generalize xs[k - 1] = x at *
                clear hr1 hx
                go_wp2_with fail
                go_ret
                exact ⟨ret_bool Hno.out.symm, Hbw.out⟩

theorem specIsW_any (s : Int) (A : Option Addr) (n c : Nat) (xs : List Int) (w : World) (hr : Rd w w.heap.size A (vi xs)) (hn : xs.length = n) (hm : n ≤ 1048580) :
    Calls Try.prog 20 #[.agg #[.int .i64 s, .slice A n c]] w fun e w' => e = .returned (.bool (isW s xs)) ∧ Below w.heap.size w w' := by
  have hr1 := Lib.hid (hr.below ((Below.refl _ _).alloc (Nat.le_refl _) (.cells #[.int .i64 s, .slice A n c] 26)))
  go_enter Try.func20, Try.ntmps20
  go_wp2_with fail
  refine (specIs_any s A n c xs _ (hr1.out.up (by simp)) hn hm).mono ?_
  rintro e w1 ⟨rfl, hb⟩
  go_wp2_with fail
  go_ret
  exact ⟨rfl, ((Below.refl _ _).alloc (Nat.le_refl _) _).trans (hb.mono (by simp))⟩
end Go.Proofs.Ytnnoobdcdfcdaaa
