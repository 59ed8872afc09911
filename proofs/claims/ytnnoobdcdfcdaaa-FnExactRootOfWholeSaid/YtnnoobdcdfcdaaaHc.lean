/- Exact numbers, limited, of the program. -/
import Derived.Test.YtnnoobdcdfcdaaaHb
namespace Go.Proofs.Ytnnoobdcdfcdaaa
set_option maxRecDepth 100000
open Go.RowKit
set_option linter.unusedSimpArgs false
set_option linter.unusedVariables false

/-- the number fits -/
def okN (z E : Int) : Prop := (limbs (nz z).natAbs).length ≤ 100 ∧ -3000 ≤ nx z E ∧ nx z E ≤ 3000
open Classical in
noncomputable def fdZ (z E : Int) : Int := if okN z E then nz z else 0
open Classical in
noncomputable def fdX (z E : Int) : Int := if okN z E then nx z E else 0
open Classical in
noncomputable def fdE (z E : Int) : Int := if okN z E then 0 else 3
open Classical in
theorem fd_yes {z E : Int} (h : okN z E) : fdZ z E = nz z ∧ fdX z E = nx z E ∧ fdE z E = 0 := ⟨if_pos h, if_pos h, if_pos h⟩
open Classical in
theorem fd_no {z E : Int} (h : ¬ okN z E) : fdZ z E = 0 ∧ fdX z E = 0 ∧ fdE z E = 3 := ⟨if_neg h, if_neg h, if_neg h⟩
theorem fd_len (z E : Int) : (limbs (fdZ z E).natAbs).length ≤ 100 := by
  by_cases h : okN z E
  · rw [(fd_yes h).1]; exact h.1
  · rw [(fd_no h).1]; simp [limbs_zero]
theorem fd_shl (k : Nat) (z e : Int) : fdZ ((2 : Int) ^ k * z) e = fdZ z (e + k) ∧ fdX ((2 : Int) ^ k * z) e = fdX z (e + k) ∧ fdE ((2 : Int) ^ k * z) e = fdE z (e + k) := by
  unfold fdZ fdX fdE okN
  rw [nz_shl, nx_shl]
  exact ⟨rfl, rfl, rfl⟩
theorem fd_same {z e z' e' : Int} (h : nz z = nz z') (h' : nx z e = nx z' e') : fdZ z e = fdZ z' e' ∧ fdX z e = fdX z' e' ∧ fdE z e = fdE z' e' := by
  unfold fdZ fdX fdE okN
  rw [h, h']
  exact ⟨rfl, rfl, rfl⟩

set_option maxHeartbeats 400000 in
theorem beyond_yes (x l : Int) (w : World) (h : x < -l ∨ l < x) (h1 : 0 ≤ l) (h2 : l ≤ 1000000) : Calls Try.prog 70 #[.int .i64 x, .int .i64 l] w fun e w' => e = .returned (.bool true) ∧ w = w' := by
  by_cases h3 : x < -l
  · have h4 : decide (x < -l) = true := decide_eq_true h3
    go_enter Try.func70, Try.ntmps70
    go_wp2_with fail
    go_ret
    exact ⟨rfl, rfl⟩
  · have h4 : decide (x < -l) = false := decide_eq_false h3
    have h5 : decide (l < x) = true := decide_eq_true (by omega)
    go_enter Try.func70, Try.ntmps70
    go_wp2_with fail
    go_ret
    exact ⟨rfl, rfl⟩
theorem beyond_no (x l : Int) (w : World) (h : -l ≤ x) (h' : x ≤ l) (h1 : 0 ≤ l) (h2 : l ≤ 1000000) : Calls Try.prog 70 #[.int .i64 x, .int .i64 l] w fun e w' => e = .returned (.bool false) ∧ w = w' := by
  have h4 : decide (x < -l) = false := decide_eq_false (by omega)
  have h5 : decide (l < x) = false := decide_eq_false (by omega)
  go_enter Try.func70, Try.ntmps70
  go_wp2_with fail
  go_ret
  exact ⟨rfl, rfl⟩

end Go.Proofs.Ytnnoobdcdfcdaaa
