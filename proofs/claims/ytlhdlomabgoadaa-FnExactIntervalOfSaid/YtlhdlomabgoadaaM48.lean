/- FnExactIntervalOf returns true at every two floats of 32 bits: the program's IntervalOf gives the interval and the code that the model gives. No conditions. -/
import Derived.Test.YtlhdlomabgoadaaRows
import Derived.Test.YtlhdlomabgoadaaIt
import Derived.Test.YtlhdlomabgoadaaLw
import Derived.ProofKit
import Derived.OpenShut
namespace Go.Proofs.Ytlhdlomabgoadaa.fnExactIntervalOf
set_option maxRecDepth 100000
open Go.ChangeShapes Go.WideShapes Go.ChangeAt Go.RowKit
set_option linter.unusedVariables false
set_option linter.unusedSimpArgs false

theorem own : ownKnob Try.prog.godebug = none := by kernel_rfl

set_option maxHeartbeats 4000000 in
set_option maxRecDepth 100000 in
theorem walk (x0 x1 : Nat) (w : World) (w0 : (Lit.float .f32 x0).wf = true) (w1 : (Lit.float .f32 x1).wf = true) :
    Calls Try.prog 4 #[.float .f32 x0, .float .f32 x1] w fun e w' => e = .returned (.bool true) ∧ Below w.heap.size w w' := by
  have Hx0 : Hid (x0 < 4294967296) := Lib.hid (by simpa [Lit.wf] using w0)
  have Hx1 : Hid (x1 < 4294967296) := Lib.hid (by simpa [Lit.wf] using w1)
  clear w0 w1
  have hst := store_float Try.prog
  obtain ⟨H9, hH9⟩ : ∃ H9, H9 = ivL x0 x1 := ⟨_, rfl⟩
  obtain ⟨L9, hL9⟩ : ∃ L9, L9 = ivH x0 x1 := ⟨_, rfl⟩
  obtain ⟨E9, hE9⟩ : ∃ E9, E9 = ivE x0 x1 := ⟨_, rfl⟩
  have HR := Lib.hid (And.intro hH9 (And.intro hL9 hE9))
  have HO : Hid ((H9 < 4294967296 ∧ nan32 H9 = false) ∧ (L9 < 4294967296 ∧ nan32 L9 = false)) := Lib.hid (by rw [hH9, hL9]; exact ivw_ok Hx0.out Hx1.out)
  have HS : Hid (∀ w, Calls Try.prog 16 #[.float .f32 x0, .float .f32 x1] w fun e w' => e = .returned (.tuple #[.agg #[.float .f32 H9, .float .f32 L9], .int .i64 E9]) ∧ Below w.heap.size w w') := Lib.hid (fun w => by rw [hH9, hL9, hE9]; exact specIvOfW_any x0 x1 w Hx0.out Hx1.out)
  have HI : Hid (∀ w, Calls Try.prog 17 #[.float .f32 x0, .float .f32 x1] w fun e w' => e = .returned (.tuple #[.agg #[.float .f32 H9, .float .f32 L9], .int .i64 E9]) ∧ Below w.heap.size w w') := Lib.hid (fun w => by rw [hH9, hL9, hE9]; exact implIvOfW_any x0 x1 w Hx0.out Hx1.out)
  clear hH9 hL9 hE9
  go_enter Try.func4, Try.ntmps4
  have Bel_0 : Hid (Below w.heap.size w w) := Lib.hid (Below.refl _ _)
  go_wp2_with fail
  refine (HS.out _).mono ?_
  rintro e w1 ⟨rfl, hb⟩
  have Bel_1 := Lib.hid (belNext Bel_0.out hb)
  clear hb Bel_0 
  go_upto_region 2 with fail
  obtain ⟨w2, hw⟩ : ∃ w2, w2 = w1.alloc (.cells #[.float .f32 H9, .float .f32 L9] 26) := ⟨_, rfl⟩
  rw [← hw]
  have hb : Below w1.heap.size w1 w2 := by rw [hw]; exact belAlloc1 _ _
  have Ps_2 : Hid (IB w2 w1.heap.size H9 L9) := Lib.hid (by rw [hw]; exact IB.new _ _ _ _)
  clear hw
  have Bel_2 := Lib.hid (belNext Bel_1.out hb)
  clear hb Bel_1 
  obtain ⟨⟨psh0, psh1⟩, psh2⟩ := Ps_2.out
  go_wp2_with fail
  refine (HI.out _).mono ?_
  rintro e w3 ⟨rfl, hb⟩
  clear psh0 psh1 psh2
  have Bel_3 := Lib.hid (belNext Bel_2.out hb)
  have Ps_3 := Lib.hid (Ps_2.out.next hb)
  clear hb Bel_2 Ps_2
  obtain ⟨⟨psh0, psh1⟩, psh2⟩ := Ps_3.out
  go_upto_region 3 with fail
  obtain ⟨w4, hw⟩ : ∃ w4, w4 = w3.alloc (.cells #[.float .f32 H9, .float .f32 L9] 26) := ⟨_, rfl⟩
  rw [← hw]
  have hb : Below w3.heap.size w3 w4 := by rw [hw]; exact belAlloc1 _ _
  have Pi_4 : Hid (IB w4 w3.heap.size H9 L9) := Lib.hid (by rw [hw]; exact IB.new _ _ _ _)
  clear hw
  clear psh0 psh1 psh2
  have Bel_4 := Lib.hid (belNext Bel_3.out hb)
  have Ps_4 := Lib.hid (Ps_3.out.next hb)
  clear hb Bel_3 Ps_3
  obtain ⟨⟨psh0, psh1⟩, psh2⟩ := Ps_4.out
  obtain ⟨⟨pih0, pih1⟩, pih2⟩ := Pi_4.out
  go_wp2_with fail
  refine (eqIv_yes H9 L9 _ HO.out.1 HO.out.2).mono ?_
  rintro e w5 ⟨rfl, hb⟩
  clear psh0 psh1 psh2 pih0 pih1 pih2
  have Bel_5 := Lib.hid (belNext Bel_4.out hb)
  clear hb
  go_wp2_with fail
  go_ret
  exact ⟨rfl, Bel_5.out⟩

/-! the step from the walk to the given statement -/
set_option maxRecDepth 100000 in
theorem lifted (os : Os) (started : os.Started) (H : Type) (enc : TypeId × Value → H) :
    ReturnsInHanded {} Try.checked os 4 .any (Rows.fnExactIntervalOfSpec.pre6 enc Try.prog Try.f4 Rows.fnExactIntervalOfRow.domain false) (Rows.fnExactIntervalOfSpec.post enc Try.prog Try.f4 false true false false) := by
  refine returnsInHanded_of_change (C := Try.checked) own started (by kernel_rfl) Try.func4
    (ChangeSpec.witness6 (enc := enc) (C := Try.checked) false ⟨#[], #[.float .f32 0, .float .f32 0], []⟩ 8 (by kernel_rfl) (by kernel_rfl) (by kernel_rfl) (by kernel_rfl)) ?_
  intro W base args ds gs before hval0 hW hcnd _
  have hval : ∀ (j : Nat) t v, Try.f4.params[j]? = some t → args[j]? = some v → Value.okWide Try.prog W .any base t v := hval0
  have hW' := hW
  obtain ⟨p, q, hA0, hV, rfl, hfz, hnd⟩ := hW
  have hA : DataW.TrodAll enc Try.prog W 0 (fun _ => true) true Try.f4.params.toList args.toList ds p := hA0
  rw [Try.params4] at hA hval
  obtain ⟨v0, vs0, d0, ds0, p0, q0, hargs, rfl, rfl, h0, r0⟩ := trodAll_cons hA
  obtain ⟨v1, vs1, d1, ds1, p1, q1, hargs1, rfl, rfl, h1, r1⟩ := trodAll_cons r0
  obtain ⟨rfl, rfl, rfl⟩ := trodAll_nil r1
  obtain rfl : args = #[v0, v1] := by cases args; simp_all
  obtain ⟨rfl, rfl⟩ := trodVars_none hV
  obtain ⟨a0, rfl, rfl, rfl, w0⟩ := open_float Try.underlying22 (hval 0 22 v0 rfl rfl) h0
  obtain ⟨a1, rfl, rfl, rfl, w1⟩ := open_float Try.underlying22 (hval 1 22 v1 rfl rfl) h1
  clear hA0 hval0
  simp only [List.append_nil] at hW'
  refine (walk a0 a1 W w0 w1).mono fun e W' ⟨he, hg⟩ => ?_
  subst he
  exact ⟨_, rfl, law_end (pa := _) hW' (by simp) rfl (fun _ _ _ => (trodAll_cons_mk (shut_bool Try.underlying4 _) trodAll_mk0)) (fun sp hsp => (trodAll_cons_mk (shut_float Try.underlying22 w0) (trodAll_cons_mk (shut_float Try.underlying22 w1) trodAll_mk0))) rfl
    hg (ok_one (by kernel_rfl) rfl (okWide_bool_mk Try.underlying4 _))⟩

theorem proved : Rows.FnExactIntervalOfSaid :=
  OpenClaim.holds_of_wide 4 Try.f4 rfl rfl rfl rfl rfl rfl rfl ⟨rfl, rfl, rfl, rfl, rfl⟩ rfl rfl rfl rfl rfl (by kernel_rfl) Try.func4 (by kernel_rfl)
    (of_decide_eq_true (by kernel_rfl)) (by unfold Func.isWrapper; first | (rw [if_pos (by decide +kernel)]; kernel_rfl) | (rw [if_neg (by decide +kernel)]; exact ⟨rfl, rfl⟩))
    (fun os started H enc _ => lifted os started H enc)
#print axioms proved
end Go.Proofs.Ytlhdlomabgoadaa.fnExactIntervalOf
