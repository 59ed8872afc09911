/- FnExactIsPair returns true at every pair of the laws: the program's IsPair tells what the model tells. No conditions. -/
import Derived.Test.YtnecnbonnidijaaRows
import Derived.Test.YtnecnbonnidijaaGI10
import Derived.Test.YtnecnbonnidijaaGI1
import Derived.ProofKit
import Derived.OpenShut
namespace Go.Proofs.Ytnecnbonnidijaa.fnExactIsPair
set_option maxRecDepth 100000
open Go.ChangeShapes Go.WideShapes Go.ChangeAt Go.RowKit
set_option linter.unusedVariables false
set_option linter.unusedSimpArgs false

theorem own : ownKnob Try.prog.godebug = none := by kernel_rfl

theorem specW_any (h l : Nat) (w : World) (hh : h < 4294967296) (hl : l < 4294967296) :
    Calls Try.prog 18 #[.agg #[.float .f32 h, .float .f32 l]] w fun e w' => e = .returned (.bool (isP h l)) ∧ Below w.heap.size w w' := by
  have Hhl := Lib.hid (And.intro hh hl)
  obtain ⟨w1, hw1⟩ : ∃ w1, w1 = w.alloc (.cells #[.float .f32 h, .float .f32 l] 37) := ⟨_, rfl⟩
  have hb1 : Below w.heap.size w w1 := by rw [hw1]; exact belAlloc1 _ _
  have hP1 : PB w1 w.heap.size h l := by rw [hw1]; exact PB.new _ _ _ _
  have Hb1 := Lib.hid hb1
  have Hw := Lib.hid hw1
  clear hb1 hw1 hh hl
  obtain ⟨⟨hc0, hc1⟩, hc2⟩ := hP1
  go_enter Try.func18, Try.ntmps18
  go_wp2_with fail
  try rw [← Hw.out]
  refine (specIsPair_any h l _ Hhl.out.1 Hhl.out.2).mono ?_
  rintro e w2 ⟨rfl, hb⟩
  have Hb2 := Lib.hid (belNext Hb1.out hb)
  clear hb hc0 hc1 hc2
  go_wp2_with fail
  go_ret
  exact ⟨rfl, Hb2.out⟩
set_option maxHeartbeats 1000000 in
theorem walk (x0 y0 : Nat) (w : World) (wx0 : x0 < 4294967296) (wy0 : y0 < 4294967296) :
    Calls Try.prog 4 #[.agg #[.float .f32 x0, .float .f32 y0]] w fun e w' => e = .returned (.bool true) ∧ Below w.heap.size w w' := by
  have Hxy := Lib.hid (And.intro wx0 wy0)
  obtain ⟨w1, hw1⟩ : ∃ w1, w1 = w.alloc (.cells #[.float .f32 x0, .float .f32 y0] 35) := ⟨_, rfl⟩
  have hb1 : Below w.heap.size w w1 := by rw [hw1]; exact belAlloc1 _ _
  have P1 : Hid (PB w1 w.heap.size x0 y0) := Lib.hid (by rw [hw1]; exact PB.new _ _ _ _)
  have Hb1 := Lib.hid hb1
  have Hw := Lib.hid hw1
  clear hb1 hw1 wx0 wy0
  obtain ⟨b, hb0⟩ : ∃ b, b = isP x0 y0 := ⟨_, rfl⟩
  have HB := Lib.hid hb0
  clear hb0
  obtain ⟨⟨hc0, hc1⟩, hc2⟩ := P1.out
  go_enter Try.func4, Try.ntmps4
  go_wp2_with fail
  rw [← Hw.out]
  refine (toPair_any x0 y0 _).mono ?_
  rintro e w2 ⟨rfl, hb⟩
  have Hb2 := Lib.hid (belNext Hb1.out hb)
  have P2 := Lib.hid (P1.out.next hb)
  clear hb hc0 hc1 hc2
  obtain ⟨⟨hc0, hc1⟩, hc2⟩ := P2.out
  go_wp2_with fail
  refine (specW_any x0 y0 _ Hxy.out.1 Hxy.out.2).mono ?_
  rintro e w3 ⟨rfl, hb⟩
  rw [← HB.out]
  have Hb3 := Lib.hid (belNext Hb2.out hb)
  have P3 := Lib.hid (P2.out.next hb)
  clear hb hc0 hc1 hc2
  obtain ⟨⟨hc0, hc1⟩, hc2⟩ := P3.out
  go_wp2_with fail
  refine (toPair_any x0 y0 _).mono ?_
  rintro e w4 ⟨rfl, hb⟩
  have Hb4 := Lib.hid (belNext Hb3.out hb)
  clear hb hc0 hc1 hc2
  go_wp2_with fail
  refine (implIsPair_any x0 y0 _ Hxy.out.1 Hxy.out.2).mono ?_
  rintro e w5 ⟨rfl, hb⟩
  rw [← HB.out]
  have Hb5 := Lib.hid (belNext Hb4.out hb)
  clear hb
  cases b
  · go_wp2_with fail
    go_ret
    exact ⟨rfl, Hb5.out⟩
  · go_wp2_with fail
    go_ret
    exact ⟨rfl, Hb5.out⟩

/-! the step from the walk to the given statement -/
set_option maxRecDepth 100000 in
theorem lifted (os : Os) (started : os.Started) (H : Type) (enc : TypeId × Value → H) :
    ReturnsInHanded {} Try.checked os 4 .any (Rows.fnExactIsPairSpec.pre6 enc Try.prog Try.f4 Rows.fnExactIsPairRow.domain false) (Rows.fnExactIsPairSpec.post enc Try.prog Try.f4 false true false false) := by
  refine returnsInHanded_of_change (C := Try.checked) own started (by kernel_rfl) Try.func4
    (ChangeSpec.witness6 (enc := enc) (C := Try.checked) false ⟨#[], #[.agg #[.float .f32 0, .float .f32 0]], []⟩ 8 (by kernel_rfl) (by kernel_rfl) (by kernel_rfl) (by kernel_rfl)) ?_
  intro W base args ds gs before hval0 hW hcnd _
  have hval : ∀ (j : Nat) t v, Try.f4.params[j]? = some t → args[j]? = some v → Value.okWide Try.prog W .any base t v := hval0
  have hW' := hW
  obtain ⟨p, q, hA0, hV, rfl, hfz, hnd⟩ := hW
  have hA : DataW.TrodAll enc Try.prog W 0 (fun _ => true) true Try.f4.params.toList args.toList ds p := hA0
  rw [Try.params4] at hA hval
  obtain ⟨v0, vs0, d0, ds0, p0, q0, hargs, rfl, rfl, h0, r0⟩ := trodAll_cons hA
  obtain ⟨rfl, rfl, rfl⟩ := trodAll_nil r0
  obtain rfl : args = #[v0] := by cases args; simp_all
  obtain ⟨rfl, rfl⟩ := trodVars_none hV
  have hc0 := h0
  obtain ⟨x0, y0, rfl, wx0, wy0⟩ := open_pair (hval 0 35 v0 rfl rfl) h0
  clear hA0 hval0
  simp only [List.append_nil] at hW'
  refine (walk x0 y0 W wx0 wy0).mono fun e W' ⟨he, hg⟩ => ?_
  subst he
  exact ⟨_, rfl, law_end (pa := _) hW' (by simp) rfl (fun _ _ _ => (trodAll_cons_mk (shut_bool Try.underlying4 _) trodAll_mk0)) (fun sp hsp => (trodAll_cons_mk (carryB (by kernel_rfl) (of_decide_eq_true (by kernel_rfl)) hg hc0 (fun x hx => hW'.lt x (by simp [hx])) (fun x hx => hsp x (by simp [hx]))) trodAll_mk0)) rfl
    hg (ok_one (by kernel_rfl) rfl (okWide_bool_mk Try.underlying4 _))⟩

theorem proved : Rows.FnExactIsPairSaid :=
  OpenClaim.holds_of_wide 4 Try.f4 rfl rfl rfl rfl rfl rfl rfl ⟨rfl, rfl, rfl, rfl, rfl⟩ rfl rfl rfl rfl rfl (by kernel_rfl) Try.func4 (by kernel_rfl)
    (of_decide_eq_true (by kernel_rfl)) (by unfold Func.isWrapper; first | (rw [if_pos (by decide +kernel)]; kernel_rfl) | (rw [if_neg (by decide +kernel)]; exact ⟨rfl, rfl⟩))
    (fun os started H enc _ => lifted os started H enc)
#print axioms proved
end Go.Proofs.Ytnecnbonnidijaa.fnExactIsPair
