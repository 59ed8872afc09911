/- FnExactIsWholeFloat returns true at every float of 32 bits: the program's IsWholeFloat says what the model says. No conditions. -/
import Derived.Test.YtjoflmclgiemoacRows
import Derived.Test.YtjoflmclgiemoacTr
import Derived.ProofKit
import Derived.OpenShut
namespace Go.Proofs.Ytjoflmclgiemoac.fnExactIsWholeFloat
open Go.ChangeShapes Go.WideShapes Go.ChangeAt Go.RowKit
set_option linter.unusedVariables false

theorem own : ownKnob Try.prog.godebug = none := by kernel_rfl

theorem walk (a0 : Nat) (w0 : (Lit.float .f32 a0).wf = true) (w : World) :
    Calls Try.prog 5 #[.float .f32 a0] w fun e w' => e = .returned (.bool true) ∧ Grown w w' := by
  have hb : a0 < 4294967296 := by simpa [Lit.wf] using w0
  clear w0
  by_cases hf : fin32 a0 = true
  · have l1 := mant_lt (a0 % 2147483648)
    have l2 := expo_le (a0 % 2147483648) (by simpa [fin32] using hf)
    obtain ⟨t, ht, hs⟩ : ∃ t, Tells t (mant (a0 % 2147483648)) (-149 + expo (a0 % 2147483648)) ∧ (FloatKind.f64.format.order (d64 (neg32 a0) (mant (a0 % 2147483648)) (-149 + expo (a0 % 2147483648))) (truncOf (d64 (neg32 a0) (mant (a0 % 2147483648)) (-149 + expo (a0 % 2147483648)))) == some .eq) = t := by
      by_cases hw : IsW (mant (a0 % 2147483648)) (-149 + expo (a0 % 2147483648))
      · refine ⟨true, ⟨fun _ => hw, fun h => (by cases h)⟩, ?_⟩
        rw [trunc_same (neg32 a0) (by omega) (by omega) (by omega) hw]
        obtain ⟨m', p', e, _⟩ := read64 (neg32 a0) (m := mant (a0 % 2147483648)) (p := -149 + expo (a0 % 2147483648)) (by omega) (by omega) (by omega)
        show ((Ieee.double.read _).order (Ieee.double.read _) == some .eq) = true
        rw [e]
        unfold Ieee.Datum.order
        simp
      · exact ⟨false, ⟨fun h => (by cases h), fun _ => hw⟩, trunc_other (neg32 a0) (by omega) (by omega) (by omega) hw⟩
    clear l1 l2
    go_enter Try.func5, Try.ntmps5
    go_wp2_with fail
    refine (specWhole_fin a0 t _ hb hf ht).mono ?_
    rintro e w' ⟨rfl, rfl⟩
    go_wp2_with fail
    refine (implWhole_fin a0 t _ hb hf hs).mono ?_
    rintro e w' ⟨rfl, rfl⟩
    go_wp2_with fail
    go_ret
    exact ⟨rfl, Grown.refl _⟩
  · have hf : fin32 a0 = false := by simpa using hf
    go_enter Try.func5, Try.ntmps5
    go_wp2_with fail
    refine (specWhole_no a0 _ hb hf).mono ?_
    rintro e w' ⟨rfl, nd, rfl⟩
    go_wp2_with fail
    refine (implWhole_no a0 _ hb hf).mono ?_
    rintro e w' ⟨rfl, rfl⟩
    go_wp2_with fail
    go_ret
    exact ⟨rfl, grown_drewN _ _⟩

/-! the step from the walk to the given statement -/
set_option maxRecDepth 100000 in
theorem lifted (os : Os) (started : os.Started) (H : Type) (enc : TypeId × Value → H) :
    ReturnsInHanded {} Try.checked os 5 .any (Rows.fnExactIsWholeFloatSpec.pre6 enc Try.prog Try.f5 Rows.fnExactIsWholeFloatRow.domain false) (Rows.fnExactIsWholeFloatSpec.post enc Try.prog Try.f5 false true false false) := by
  refine returnsInHanded_of_change (C := Try.checked) own started (by kernel_rfl) Try.func5
    (ChangeSpec.witness6 (enc := enc) (C := Try.checked) false ⟨#[], #[.float .f32 0], []⟩ 8 (by kernel_rfl) (by kernel_rfl) (by kernel_rfl) (by kernel_rfl)) ?_
  intro W base args ds gs before hval0 hW hcnd _
  have hval : ∀ (j : Nat) t v, Try.f5.params[j]? = some t → args[j]? = some v → Value.okWide Try.prog W .any base t v := hval0
  have hW' := hW
  obtain ⟨p, q, hA0, hV, rfl, hfz, hnd⟩ := hW
  have hA : DataW.TrodAll enc Try.prog W 0 (fun _ => true) true Try.f5.params.toList args.toList ds p := hA0
  rw [Try.params5] at hA hval
  obtain ⟨v0, vs0, d0, ds0, p0, q0, hargs, rfl, rfl, h0, r0⟩ := trodAll_cons hA
  obtain ⟨rfl, rfl, rfl⟩ := trodAll_nil r0
  obtain rfl : args = #[v0] := by cases args; simp_all
  obtain ⟨rfl, rfl⟩ := trodVars_none hV
  obtain ⟨a0, rfl, rfl, rfl, w0⟩ := open_float Try.underlying22 (hval 0 22 v0 rfl rfl) h0
  clear hA0 hval0
  simp only [List.append_nil] at hW'
  refine (walk a0 w0 W).mono fun e W' ⟨he, hg⟩ => ?_
  subst he
  exact ⟨_, rfl, post_of_same (pa := []) (pv := []) hW' (fun _ _ _ => (trodAll_cons_mk (shut_bool Try.underlying4 _) trodAll_mk0)) (fun sp _ => (trodAll_cons_mk (shut_float Try.underlying22 w0) trodAll_mk0)) (fun _ _ => rfl) rfl
    (hg.frame _) hg.2.1 (ok_one (by kernel_rfl) rfl (okWide_bool_mk Try.underlying4 _))⟩

theorem proved : Rows.FnExactIsWholeFloatSaid :=
  OpenClaim.holds_of_wide 5 Try.f5 rfl rfl rfl rfl rfl rfl rfl ⟨rfl, rfl, rfl, rfl, rfl⟩ rfl rfl rfl rfl rfl (by kernel_rfl) Try.func5 (by kernel_rfl)
    (of_decide_eq_true (by kernel_rfl)) (by unfold Func.isWrapper; first | (rw [if_pos (by decide +kernel)]; kernel_rfl) | (rw [if_neg (by decide +kernel)]; exact ⟨rfl, rfl⟩))
    (fun os started H enc _ => lifted os started H enc)
#print axioms proved
end Go.Proofs.Ytjoflmclgiemoac.fnExactIsWholeFloat
