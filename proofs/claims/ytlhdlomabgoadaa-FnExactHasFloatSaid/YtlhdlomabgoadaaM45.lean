/- FnExactHasFloat returns true at every interval of the laws and every float: the program's HasFloat gives the answer and the code that the model gives. No conditions. -/
import Derived.Test.YtlhdlomabgoadaaRows
import Derived.Test.YtlhdlomabgoadaaIt
import Derived.Test.YtlhdlomabgoadaaLw
import Derived.ProofKit
import Derived.OpenShut
namespace Go.Proofs.Ytlhdlomabgoadaa.fnExactHasFloat
set_option maxRecDepth 100000
open Go.ChangeShapes Go.WideShapes Go.ChangeAt Go.RowKit
set_option linter.unusedVariables false
set_option linter.unusedSimpArgs false

theorem own : ownKnob Try.prog.godebug = none := by kernel_rfl

set_option maxHeartbeats 2000000 in
theorem walk (x0 y0 x1 : Nat) (w : World) (wx0 : x0 < 4294967296) (wy0 : y0 < 4294967296) (w1 : (Lit.float .f32 x1).wf = true) :
    Calls Try.prog 10 #[.agg #[.float .f32 x0, .float .f32 y0], .float .f32 x1] w fun e w' => e = .returned (.bool true) ∧ Below w.heap.size w w' := by
  have wx1 : x1 < 4294967296 := by simpa [Lit.wf] using w1
  obtain ⟨b9, hb9⟩ : ∃ v, v = haB x0 y0 x1 := ⟨_, rfl⟩
  obtain ⟨e9, he9⟩ : ∃ v, v = haE x0 y0 x1 := ⟨_, rfl⟩
  have HS : Hid (∀ w, Calls Try.prog 29 #[.agg #[.float .f32 x0, .float .f32 y0], .float .f32 x1] w fun e w' => e = .returned (.tuple #[.bool b9, .int .i64 e9]) ∧ Below w.heap.size w w') := Lib.hid (fun w => by rw [hb9, he9]; exact specHasW_any x0 y0 x1 w wx0 wy0 wx1)
  have HI : Hid (∀ w, Calls Try.prog 30 #[.agg #[.float .f32 x0, .float .f32 y0], .float .f32 x1] w fun e w' => e = .returned (.tuple #[.bool b9, .int .i64 e9]) ∧ Below w.heap.size w w') := Lib.hid (fun w => by rw [hb9, he9]; exact implHasW_any x0 y0 x1 w wx0 wy0 wx1)
  clear hb9 he9 wx0 wy0 wx1 w1
  obtain ⟨w1, hw1, hp0, hB_⟩ := ib_1 w x0 y0 24
  have P0_1 := Lib.hid hp0
  have hst := store_float Try.prog
  have B1 := Lib.hid hB_
  have Hw := Lib.hid hw1
  clear hw1 hp0 hB_
  obtain ⟨⟨c00, c01⟩, c02⟩ := P0_1.out
  go_enter Try.func10, Try.ntmps10
  go_wp2_with fail
  rw [← Hw.out]
  refine (toIv_any x0 y0 _).mono ?_
  rintro e w2 ⟨rfl, hb⟩
  have B2 := Lib.hid (belNext B1.out hb)
  have P0_2 := Lib.hid (P0_1.out.next hb)
  clear hb c00 c01 c02
  obtain ⟨⟨c00, c01⟩, c02⟩ := P0_2.out
  go_wp2_with fail
  refine (HS.out _).mono ?_
  rintro e w3 ⟨rfl, hb⟩
  have B3 := Lib.hid (belNext B2.out hb)
  have P0_3 := Lib.hid (P0_2.out.next hb)
  clear hb c00 c01 c02
  obtain ⟨⟨c00, c01⟩, c02⟩ := P0_3.out
  go_wp2_with fail
  refine (toIv_any x0 y0 _).mono ?_
  rintro e w4 ⟨rfl, hb⟩
  have B4 := Lib.hid (belNext B3.out hb)
  have P0_4 := Lib.hid (P0_3.out.next hb)
  clear hb c00 c01 c02
  obtain ⟨⟨c00, c01⟩, c02⟩ := P0_4.out
  go_wp2_with fail
  refine (HI.out _).mono ?_
  rintro e w5 ⟨rfl, hb⟩
  have B5 := Lib.hid (belNext B4.out hb)
  have P0_5 := Lib.hid (P0_4.out.next hb)
  clear hb c00 c01 c02
  obtain ⟨⟨c00, c01⟩, c02⟩ := P0_5.out
  cases b9
  · go_wp2_with fail
    go_ret
    exact ⟨rfl, B5.out⟩
  · go_wp2_with fail
    go_ret
    exact ⟨rfl, B5.out⟩

/-! the step from the walk to the given statement -/
set_option maxRecDepth 100000 in
theorem lifted (os : Os) (started : os.Started) (H : Type) (enc : TypeId × Value → H) :
    ReturnsInHanded {} Try.checked os 10 .any (Rows.fnExactHasFloatSpec.pre6 enc Try.prog Try.f10 Rows.fnExactHasFloatRow.domain false) (Rows.fnExactHasFloatSpec.post enc Try.prog Try.f10 false true false false) := by
  refine returnsInHanded_of_change (C := Try.checked) own started (by kernel_rfl) Try.func10
    (ChangeSpec.witness6 (enc := enc) (C := Try.checked) false ⟨#[], #[.agg #[.float .f32 0, .float .f32 0], .float .f32 0], []⟩ 8 (by kernel_rfl) (by kernel_rfl) (by kernel_rfl) (by kernel_rfl)) ?_
  intro W base args ds gs before hval0 hW hcnd _
  have hval : ∀ (j : Nat) t v, Try.f10.params[j]? = some t → args[j]? = some v → Value.okWide Try.prog W .any base t v := hval0
  have hW' := hW
  obtain ⟨p, q, hA0, hV, rfl, hfz, hnd⟩ := hW
  have hA : DataW.TrodAll enc Try.prog W 0 (fun _ => true) true Try.f10.params.toList args.toList ds p := hA0
  rw [Try.params10] at hA hval
  obtain ⟨v0, vs0, d0, ds0, p0, q0, hargs, rfl, rfl, h0, r0⟩ := trodAll_cons hA
  obtain ⟨v1, vs1, d1, ds1, p1, q1, hargs1, rfl, rfl, h1, r1⟩ := trodAll_cons r0
  obtain ⟨rfl, rfl, rfl⟩ := trodAll_nil r1
  obtain rfl : args = #[v0, v1] := by cases args; simp_all
  obtain ⟨rfl, rfl⟩ := trodVars_none hV
  have hc0 := h0
  obtain ⟨x0, y0, rfl, wx0, wy0⟩ := open_iv (hval 0 24 v0 rfl rfl) h0
  obtain ⟨a1, rfl, rfl, rfl, w1⟩ := open_float Try.underlying22 (hval 1 22 v1 rfl rfl) h1
  clear hA0 hval0
  simp only [List.append_nil] at hW'
  refine (walk x0 y0 a1 W wx0 wy0 w1).mono fun e W' ⟨he, hg⟩ => ?_
  subst he
  exact ⟨_, rfl, law_end (pa := _) hW' (by simp) rfl (fun _ _ _ => (trodAll_cons_mk (shut_bool Try.underlying4 _) trodAll_mk0)) (fun sp hsp => (trodAll_cons_mk (carryB (by kernel_rfl) (of_decide_eq_true (by kernel_rfl)) hg hc0 (fun x hx => hW'.lt x (by simp [hx])) (fun x hx => hsp x (by simp [hx]))) (trodAll_cons_mk (shut_float Try.underlying22 w1) trodAll_mk0))) rfl
    hg (ok_one (by kernel_rfl) rfl (okWide_bool_mk Try.underlying4 _))⟩

theorem proved : Rows.FnExactHasFloatSaid :=
  OpenClaim.holds_of_wide 10 Try.f10 rfl rfl rfl rfl rfl rfl rfl ⟨rfl, rfl, rfl, rfl, rfl⟩ rfl rfl rfl rfl rfl (by kernel_rfl) Try.func10 (by kernel_rfl)
    (of_decide_eq_true (by kernel_rfl)) (by unfold Func.isWrapper; first | (rw [if_pos (by decide +kernel)]; kernel_rfl) | (rw [if_neg (by decide +kernel)]; exact ⟨rfl, rfl⟩))
    (fun os started H enc _ => lifted os started H enc)
#print axioms proved
end Go.Proofs.Ytlhdlomabgoadaa.fnExactHasFloat
