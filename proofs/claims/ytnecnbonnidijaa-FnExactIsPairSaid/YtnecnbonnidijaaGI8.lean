/- Texts of this seat, joined: Km Kn -/
import Derived.Test.YtnecnbonnidijaaGI7
import Derived.Test.YtnecnbonnidijaaGI6
/- RoundDyadic and EnclosingFloats, of the program and of the model. -/
namespace Go.Proofs.Ytnecnbonnidijaa
set_option maxRecDepth 100000
open Go.RowKit
set_option linter.unusedSimpArgs false
set_option linter.unusedVariables false
attribute [local go_sem ↓] Go.wp_at_zero Go.wp_at_succ

/-- what RoundDyadic gives -/
noncomputable def rdRF (S : Int) (xs : List Int) (E k : Int) : Nat := if isD S xs E = true then if 0 ≤ k ∧ k ≤ 4 then rdF (S * magW S xs) E k else 0 else 0
noncomputable def rdRL (S : Int) (xs : List Int) (E k : Int) : Int := if isD S xs E = true then if 0 ≤ k ∧ k ≤ 4 then rdL (S * magW S xs) E k else 0 else 0
noncomputable def rdRE (S : Int) (xs : List Int) (E k : Int) : Int := if isD S xs E = true then if 0 ≤ k ∧ k ≤ 4 then 0 else 2 else 1
/-- what EnclosingFloats gives -/
noncomputable def enRF (S : Int) (xs : List Int) (E k : Int) : Nat := if isD S xs E = true then rdF (S * magW S xs) E k else 0
noncomputable def enRE (S : Int) (xs : List Int) (E : Int) : Int := if isD S xs E = true then 0 else 1
theorem rdF_ok (z E mode : Int) : rdF z E mode < 4294967296 ∧ nan32 (rdF z E mode) = false := by
  unfold rdF
  by_cases h0 : z = 0
  · rw [if_pos h0]; decide
  · rw [if_neg h0]
    by_cases ho : rO mode z E = true
    · rw [if_pos ho]; split <;> split <;> decide
    · rw [if_neg ho]
      obtain ⟨r, h1, h2, h3⟩ := near32_words (rM mode z.sign z.natAbs (rQ z.natAbs E - E)) (rQ z.natAbs E)
      by_cases hn : z < 0
      · rw [decide_eq_true hn, h3]; unfold nan32; exact ⟨by omega, decide_eq_false (by omega)⟩
      · rw [decide_eq_false hn, h2]; unfold nan32; exact ⟨by omega, decide_eq_false (by omega)⟩
end Go.Proofs.Ytnecnbonnidijaa
/- The exact number of a float, of the program and of the model. -/
namespace Go.Proofs.Ytnecnbonnidijaa
set_option maxRecDepth 100000
open Go.RowKit
set_option linter.unusedSimpArgs false
set_option linter.unusedVariables false
attribute [local go_sem ↓] Go.wp_at_zero Go.wp_at_succ

/-- the exact number of a float -/
def ofM (b : Nat) : Int := smant32 b
def ofP (b : Nat) : Int := -149 + expo (b % 2147483648)
def ofZ (b : Nat) : Int := if fin32 b = true then nz (ofM b) else 0
def ofX (b : Nat) : Int := if fin32 b = true then nx (ofM b) (ofP b) else 0
def ofE (b : Nat) : Int := if fin32 b = true then 0 else 1
theorem ofM_abs (b : Nat) : (ofM b).natAbs = mant (b % 2147483648) := by unfold ofM smant32; split <;> omega
theorem of_bounds {b : Nat} (hf : fin32 b = true) : -16777215 ≤ ofM b ∧ ofM b ≤ 16777215 ∧ -149 ≤ ofP b ∧ ofP b ≤ 104 := by
  have h1 := mant_lt (b % 2147483648)
  have h2 := ofM_abs b
  have h3 := expo_le (b % 2147483648) (by simpa [fin32] using hf)
  unfold ofP
  omega
end Go.Proofs.Ytnecnbonnidijaa
