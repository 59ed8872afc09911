/- Quotients of limbs, of the program. -/
import Derived.Test.YtnnoobdcdfcdaaaDe
namespace Go.Proofs.Ytnnoobdcdfcdaaa
set_option maxRecDepth 100000
open Go.RowKit
set_option linter.unusedSimpArgs false
set_option linter.unusedVariables false

theorem natDiv_any (a b : Nat) (A A' : Option Addr) (n n' c c' B B' : Nat) (w : World) (hr : Rd w B A (vs (limbs a))) (hr' : Rd w B' A' (vs (limbs b))) (hB : B ≤ w.heap.size) (hB' : B' ≤ w.heap.size) (hn : (limbs a).length = n) (hn' : (limbs b).length = n') (hm : (n : Int) ≤ 90000) (hm' : (n' : Int) ≤ 90000) (hb : 0 < b) :
    Calls Try.prog 42 #[.slice A n c, .slice A' n' c'] w fun e w' => ∃ A2 A3 c2 c3 mid, e = .returned (.tuple #[.slice A2 (limbs (a / b)).length c2, .slice A3 (limbs (a % b)).length c3]) ∧ (limbs (a / b)).length ≤ c2 ∧ (limbs (a % b)).length ≤ c3 ∧ w.heap.size ≤ mid ∧ mid ≤ w'.heap.size ∧ Ow w' w.heap.size mid A2 (vs (limbs (a / b))) ∧ Ow w' mid w'.heap.size A3 (vs (limbs (a % b))) ∧ Below w.heap.size w w' := by
  have h0 : n' ≠ 0 := fun e => by rw [e] at hn'; have := limbs_len_zero.1 hn'; omega
  rcases Nat.lt_or_ge a b with h | h
  · refine (natDivL_any a b A A' n n' c c' B B' w hr hr' hB hB' hn hn' (by omega) (by omega) h).mono ?_
    rintro e w' ⟨A3, c3, rfl, h1, h2, h3⟩
    rw [Nat.div_eq_of_lt h, Nat.mod_eq_of_lt h, limbs_zero, hn]
    exact ⟨none, A3, 0, c3, w.heap.size, rfl, Nat.le_refl _, h2, Nat.le_refl _, h3.size, .inl rfl, h1, h3⟩
  · by_cases h1 : n' = 1
    · subst h1
      refine (natDivO_any a b A A' n 1 c c' B B' w hr hr' hB hB' hn hn' (by omega) h).mono ?_
      rintro e w' ⟨A2, A3, mid, rfl, h2, h3, h4, h5, h6⟩
      exact ⟨A2, A3, _, _, mid, rfl, Nat.le_refl _, Nat.le_refl _, h2, h3, h4, h5, h6⟩
    · refine (natDivG_any a b A A' n n' c c' B B' w hr hr' hB hB' hn hn' hm (by omega) h).mono ?_
      rintro e w' ⟨A2, A3, mid, rfl, h2, h3, h4, h5, h6⟩
      exact ⟨A2, A3, _, _, mid, rfl, Nat.le_refl _, Nat.le_refl _, h2, h3, h4, h5, h6⟩
end Go.Proofs.Ytnnoobdcdfcdaaa
