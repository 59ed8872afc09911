/- Texts of this seat, joined: Rq Rt Ru Rv -/
import Derived.Test.YtnecnbonnidijaaDoorGQ7
import Derived.Test.YtnecnbonnidijaaDoorGQ6
import Derived.Test.YtnecnbonnidijaaDoorGQ15
/- RootOfWhole, of the program and of the model. -/
namespace Go.Proofs.YtnecnbonnidijaaDoor
set_option maxRecDepth 100000
open Go.RowKit
set_option linter.unusedSimpArgs false
set_option linter.unusedVariables false

theorem rt_mag {z S : Int} {xs : List Int} (hz : isZ z S xs) : magW S xs = z.natAbs := by
  obtain ⟨v, h1, h2, _⟩ := okW_limbs (isW_true (okW_iff.2 ⟨z, hz⟩))
  have h3 : limbs z.natAbs = limbs v := by
    have := congrArg nats (hz.2.1.symm.trans h1)
    rwa [nats_li, nats_li] at this
  rw [h2, ← limbs_inj h3]
/-- what RootOfWhole gives -/
noncomputable def rtRZ (S : Int) (xs : List Int) : Int := if isW S xs = true then if 0 ≤ S then (rt (magW S xs) : Int) else 0 else 0
noncomputable def rtRE (S : Int) (xs : List Int) : Int := if isW S xs = true then if 0 ≤ S then 0 else 5 else 1
end Go.Proofs.YtnecnbonnidijaaDoor
/- RootBelow, of the program and of the model. -/
namespace Go.Proofs.YtnecnbonnidijaaDoor
set_option maxRecDepth 100000
open Go.RowKit
set_option linter.unusedSimpArgs false
set_option linter.unusedVariables false

/-- the arguments of a root are in their ranges -/
def rbC (S : Int) (xs : List Int) (E k : Int) : Prop := 0 ≤ k ∧ k ≤ 200 ∧ 0 ≤ S ∧ (blen (magW S xs) : Int) + E ≤ 400
noncomputable instance (S : Int) (xs : List Int) (E k : Int) : Decidable (rbC S xs E k) := by unfold rbC; infer_instance
/-- the root of the steps -/
noncomputable def rbR (z E k : Int) : Int := ((rt (shZ z (E + 2 * k)).natAbs : Nat) : Int)
noncomputable def rbZ (S : Int) (xs : List Int) (E k : Int) : Int := if isD S xs E = true then if rbC S xs E k then nz (rbR (S * magW S xs) E k) else 0 else 0
noncomputable def rbX (S : Int) (xs : List Int) (E k : Int) : Int := if isD S xs E = true then if rbC S xs E k then nx (rbR (S * magW S xs) E k) (-k) else 0 else 0
noncomputable def rbE (S : Int) (xs : List Int) (E k : Int) : Int := if isD S xs E = true then if rbC S xs E k then 0 else 2 else 1
set_option maxHeartbeats 400000 in
theorem outside_yes (x l : Int) (w : World) (h : x < 0 ∨ l < x) : Calls Tryd.prog 49 #[.int .i64 x, .int .i64 l] w fun e w' => e = .returned (.bool true) ∧ w = w' := by
  by_cases h3 : x < 0
  · have h4 : decide (x < 0) = true := decide_eq_true h3
    go_enter Tryd.func49, Tryd.ntmps49
    go_wp2_with fail
    go_ret
    exact ⟨rfl, rfl⟩
  · have h4 : decide (x < 0) = false := decide_eq_false h3
    have h5 : decide (l < x) = true := decide_eq_true (by omega)
    go_enter Tryd.func49, Tryd.ntmps49
    go_wp2_with fail
    go_ret
    exact ⟨rfl, rfl⟩
set_option maxHeartbeats 400000 in
theorem outside_no (x l : Int) (w : World) (h : 0 ≤ x) (h' : x ≤ l) : Calls Tryd.prog 49 #[.int .i64 x, .int .i64 l] w fun e w' => e = .returned (.bool false) ∧ w = w' := by
  have h4 : decide (x < 0) = false := decide_eq_false (by omega)
  have h5 : decide (l < x) = false := decide_eq_false (by omega)
  go_enter Tryd.func49, Tryd.ntmps49
  go_wp2_with fail
  go_ret
  exact ⟨rfl, rfl⟩

end Go.Proofs.YtnecnbonnidijaaDoor
