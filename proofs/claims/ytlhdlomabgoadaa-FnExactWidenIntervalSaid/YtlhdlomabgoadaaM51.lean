/- FnExactWidenInterval returns true at every interval of the laws: the program's WidenInterval gives the interval and the code that the model gives. No conditions. -/
import Derived.Test.YtlhdlomabgoadaaRows
import Derived.Test.YtlhdlomabgoadaaIt
import Derived.Test.YtlhdlomabgoadaaLw
import Derived.ProofKit
import Derived.OpenShut
namespace Go.Proofs.Ytlhdlomabgoadaa.fnExactWidenInterval
set_option maxRecDepth 100000
open Go.ChangeShapes Go.WideShapes Go.ChangeAt Go.RowKit
set_option linter.unusedVariables false
set_option linter.unusedSimpArgs false

theorem own : ownKnob Try.prog.godebug = none := by kernel_rfl

set_option maxHeartbeats 4000000 in
theorem walk (x0 y0 : Nat) (w : World) (wx0 : x0 < 4294967296) (wy0 : y0 < 4294967296) :
    Calls Try.prog 12 #[.agg #[.float .f32 x0, .float .f32 y0]] w fun e w' => e = .returned (.bool true) ∧ Below w.heap.size w w' := by
  have hok := wi_ok wx0 wy0
  obtain ⟨l9, hl9⟩ : ∃ v, v = wiLw x0 y0 := ⟨_, rfl⟩
  obtain ⟨h9, hh9⟩ : ∃ v, v = wiHw x0 y0 := ⟨_, rfl⟩
  obtain ⟨e9, he9⟩ : ∃ v, v = cI (isI x0 y0) := ⟨_, rfl⟩
  rw [← hl9, ← hh9] at hok
  have HO := Lib.hid hok
  have HS : Hid (∀ w, Calls Try.prog 33 #[.agg #[.float .f32 x0, .float .f32 y0]] w fun e w' => e = .returned (.tuple #[.agg #[.float .f32 l9, .float .f32 h9], .int .i64 e9]) ∧ Below w.heap.size w w') := Lib.hid (fun w => by rw [hl9, hh9, he9]; exact specWidW_any x0 y0 w wx0 wy0)
  have HI : Hid (∀ w, Calls Try.prog 34 #[.agg #[.float .f32 x0, .float .f32 y0]] w fun e w' => e = .returned (.tuple #[.agg #[.float .f32 l9, .float .f32 h9], .int .i64 e9]) ∧ Below w.heap.size w w') := Lib.hid (fun w => by rw [hl9, hh9, he9]; exact implWidW_any x0 y0 w wx0 wy0)
  clear hok hl9 hh9 he9 wx0 wy0
  obtain ⟨w1, hw1, hp0, hB_⟩ := ib_1 w x0 y0 24
  have P0_1 := Lib.hid hp0
  have hst := store_float Try.prog
  have B1 := Lib.hid hB_
  have Hw := Lib.hid hw1
  clear hw1 hp0 hB_
  obtain ⟨⟨c00, c01⟩, c02⟩ := P0_1.out
  go_enter Try.func12, Try.ntmps12
  go_wp2_with fail
  rw [← Hw.out]
  refine (toIv_any x0 y0 _).mono ?_
  rintro e w2 ⟨rfl, hb⟩
  have B2 := Lib.hid (belNext B1.out hb)
  have P0_2 := Lib.hid (P0_1.out.next hb)
  clear hb c00 c01 c02
  obtain ⟨⟨c00, c01⟩, c02⟩ := P0_2.out
  go_wp2_with fail
  refine (HS.out _).mono ?_
  rintro e w3 ⟨rfl, hb⟩
  have B3 := Lib.hid (belNext B2.out hb)
  have P0_3 := Lib.hid (P0_2.out.next hb)
  clear hb c00 c01 c02
  obtain ⟨⟨c00, c01⟩, c02⟩ := P0_3.out
  go_upto_region 2 with fail
  obtain ⟨w4, hw⟩ : ∃ w4, w4 = w3.alloc (.cells #[.float .f32 l9, .float .f32 h9] 26) := ⟨_, rfl⟩
  rw [← hw]
  have hb : Below w3.heap.size w3 w4 := by rw [hw]; exact belAlloc1 _ _
  have P1_4 : Hid (IB w4 w3.heap.size l9 h9) := Lib.hid (by rw [hw]; exact IB.new _ _ _ _)
  clear hw
  have B4 := Lib.hid (belNext B3.out hb)
  have P0_4 := Lib.hid (P0_3.out.next hb)
  clear hb c00 c01 c02
  obtain ⟨⟨c00, c01⟩, c02⟩ := P0_4.out
  obtain ⟨⟨c10, c11⟩, c12⟩ := P1_4.out
  go_wp2_with fail
  refine (toIv_any x0 y0 _).mono ?_
  rintro e w5 ⟨rfl, hb⟩
  have B5 := Lib.hid (belNext B4.out hb)
  have P0_5 := Lib.hid (P0_4.out.next hb)
  have P1_5 := Lib.hid (P1_4.out.next hb)
  clear hb c00 c01 c02 c10 c11 c12
  obtain ⟨⟨c00, c01⟩, c02⟩ := P0_5.out
  obtain ⟨⟨c10, c11⟩, c12⟩ := P1_5.out
  go_wp2_with fail
  refine (HI.out _).mono ?_
  rintro e w6 ⟨rfl, hb⟩
  have B6 := Lib.hid (belNext B5.out hb)
  have P0_6 := Lib.hid (P0_5.out.next hb)
  have P1_6 := Lib.hid (P1_5.out.next hb)
  clear hb c00 c01 c02 c10 c11 c12
  obtain ⟨⟨c00, c01⟩, c02⟩ := P0_6.out
  obtain ⟨⟨c10, c11⟩, c12⟩ := P1_6.out
  go_upto_region 3 with fail
  obtain ⟨w7, hw⟩ : ∃ w7, w7 = w6.alloc (.cells #[.float .f32 l9, .float .f32 h9] 26) := ⟨_, rfl⟩
  rw [← hw]
  have hb : Below w6.heap.size w6 w7 := by rw [hw]; exact belAlloc1 _ _
  have P2_7 : Hid (IB w7 w6.heap.size l9 h9) := Lib.hid (by rw [hw]; exact IB.new _ _ _ _)
  clear hw
  have B7 := Lib.hid (belNext B6.out hb)
  have P0_7 := Lib.hid (P0_6.out.next hb)
  have P1_7 := Lib.hid (P1_6.out.next hb)
  clear hb c00 c01 c02 c10 c11 c12
  obtain ⟨⟨c00, c01⟩, c02⟩ := P0_7.out
  obtain ⟨⟨c10, c11⟩, c12⟩ := P1_7.out
  obtain ⟨⟨c20, c21⟩, c22⟩ := P2_7.out
  go_wp2_with fail
  refine (eqIv_yes l9 h9 _ HO.out.1 HO.out.2).mono ?_
  rintro e w8 ⟨rfl, hb⟩
  have B8 := Lib.hid (belNext B7.out hb)
  clear hb c00 c01 c02 c10 c11 c12 c20 c21 c22
  go_wp2_with fail
  go_ret
  exact ⟨rfl, B8.out⟩

/-! the step from the walk to the given statement -/
set_option maxRecDepth 100000 in
theorem lifted (os : Os) (started : os.Started) (H : Type) (enc : TypeId × Value → H) :
    ReturnsInHanded {} Try.checked os 12 .any (Rows.fnExactWidenIntervalSpec.pre6 enc Try.prog Try.f12 Rows.fnExactWidenIntervalRow.domain false) (Rows.fnExactWidenIntervalSpec.post enc Try.prog Try.f12 false true false false) := by
  refine returnsInHanded_of_change (C := Try.checked) own started (by kernel_rfl) Try.func12
    (ChangeSpec.witness6 (enc := enc) (C := Try.checked) false ⟨#[], #[.agg #[.float .f32 0, .float .f32 0]], []⟩ 8 (by kernel_rfl) (by kernel_rfl) (by kernel_rfl) (by kernel_rfl)) ?_
  intro W base args ds gs before hval0 hW hcnd _
  have hval : ∀ (j : Nat) t v, Try.f12.params[j]? = some t → args[j]? = some v → Value.okWide Try.prog W .any base t v := hval0
  have hW' := hW
  obtain ⟨p, q, hA0, hV, rfl, hfz, hnd⟩ := hW
  have hA : DataW.TrodAll enc Try.prog W 0 (fun _ => true) true Try.f12.params.toList args.toList ds p := hA0
  rw [Try.params12] at hA hval
  obtain ⟨v0, vs0, d0, ds0, p0, q0, hargs, rfl, rfl, h0, r0⟩ := trodAll_cons hA
  obtain ⟨rfl, rfl, rfl⟩ := trodAll_nil r0
  obtain rfl : args = #[v0] := by cases args; simp_all
  obtain ⟨rfl, rfl⟩ := trodVars_none hV
  have hc0 := h0
  obtain ⟨x0, y0, rfl, wx0, wy0⟩ := open_iv (hval 0 24 v0 rfl rfl) h0
  clear hA0 hval0
  simp only [List.append_nil] at hW'
  refine (walk x0 y0 W wx0 wy0).mono fun e W' ⟨he, hg⟩ => ?_
  subst he
  exact ⟨_, rfl, law_end (pa := _) hW' (by simp) rfl (fun _ _ _ => (trodAll_cons_mk (shut_bool Try.underlying4 _) trodAll_mk0)) (fun sp hsp => (trodAll_cons_mk (carryB (by kernel_rfl) (of_decide_eq_true (by kernel_rfl)) hg hc0 (fun x hx => hW'.lt x (by simp [hx])) (fun x hx => hsp x (by simp [hx]))) trodAll_mk0)) rfl
    hg (ok_one (by kernel_rfl) rfl (okWide_bool_mk Try.underlying4 _))⟩

theorem proved : Rows.FnExactWidenIntervalSaid :=
  OpenClaim.holds_of_wide 12 Try.f12 rfl rfl rfl rfl rfl rfl rfl ⟨rfl, rfl, rfl, rfl, rfl⟩ rfl rfl rfl rfl rfl (by kernel_rfl) Try.func12 (by kernel_rfl)
    (of_decide_eq_true (by kernel_rfl)) (by unfold Func.isWrapper; first | (rw [if_pos (by decide +kernel)]; kernel_rfl) | (rw [if_neg (by decide +kernel)]; exact ⟨rfl, rfl⟩))
    (fun os started H enc _ => lifted os started H enc)
#print axioms proved
end Go.Proofs.Ytlhdlomabgoadaa.fnExactWidenInterval
