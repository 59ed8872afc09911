/- FnExactOrderOfIntervals returns true at every two intervals of the laws: the program's OrderOfIntervals gives the order and the code that the model gives. No conditions. -/
import Derived.Test.YtlhdlomabgoadaaRows
import Derived.Test.YtlhdlomabgoadaaIt
import Derived.Test.YtlhdlomabgoadaaLw
import Derived.ProofKit
import Derived.OpenShut
namespace Go.Proofs.Ytlhdlomabgoadaa.fnExactOrderOfIntervals
set_option maxRecDepth 100000
open Go.ChangeShapes Go.WideShapes Go.ChangeAt Go.RowKit
set_option linter.unusedVariables false
set_option linter.unusedSimpArgs false

theorem own : ownKnob Try.prog.godebug = none := by kernel_rfl

set_option maxHeartbeats 2000000 in
theorem walk (x0 y0 x1 y1 : Nat) (w : World) (wx0 : x0 < 4294967296) (wy0 : y0 < 4294967296) (wx1 : x1 < 4294967296) (wy1 : y1 < 4294967296) :
    Calls Try.prog 11 #[.agg #[.float .f32 x0, .float .f32 y0], .agg #[.float .f32 x1, .float .f32 y1]] w fun e w' => e = .returned (.bool true) ∧ Below w.heap.size w w' := by
  obtain ⟨o9, ho9⟩ : ∃ v, v = orI x0 y0 x1 y1 := ⟨_, rfl⟩
  obtain ⟨e9, he9⟩ : ∃ v, v = cI (bI x0 y0 x1 y1) := ⟨_, rfl⟩
  have HS : Hid (∀ w, Calls Try.prog 31 #[.agg #[.float .f32 x0, .float .f32 y0], .agg #[.float .f32 x1, .float .f32 y1]] w fun e w' => e = .returned (.tuple #[.int .i64 o9, .int .i64 e9]) ∧ Below w.heap.size w w') := Lib.hid (fun w => by rw [ho9, he9]; exact specOrderW_any x0 y0 x1 y1 w wx0 wy0 wx1 wy1)
  have HI : Hid (∀ w, Calls Try.prog 32 #[.agg #[.float .f32 x0, .float .f32 y0], .agg #[.float .f32 x1, .float .f32 y1]] w fun e w' => e = .returned (.tuple #[.int .i64 o9, .int .i64 e9]) ∧ Below w.heap.size w w') := Lib.hid (fun w => by rw [ho9, he9]; exact implOrderW_any x0 y0 x1 y1 w wx0 wy0 wx1 wy1)
  clear ho9 he9 wx0 wy0 wx1 wy1
  obtain ⟨w1, hw1, hp0, hp1, hB_⟩ := ib_2 w x0 y0 x1 y1 24
  have P0_1 := Lib.hid hp0
  have P1_1 := Lib.hid hp1
  have hst := store_float Try.prog
  have B1 := Lib.hid hB_
  have Hw := Lib.hid hw1
  clear hw1 hp0 hp1 hB_
  obtain ⟨⟨c00, c01⟩, c02⟩ := P0_1.out
  obtain ⟨⟨c10, c11⟩, c12⟩ := P1_1.out
  go_enter Try.func11, Try.ntmps11
  go_wp2_with fail
  rw [← Hw.out]
  refine wp_region_held_drew (S := fun w' => (w'.cell? ⟨w.heap.size, 0, none⟩ = some (.float .f32 x0) ∧ w'.cell? ⟨w.heap.size, 1, none⟩ = some (.float .f32 y0)) ∧ (w'.cell? ⟨w.heap.size + 1, 0, none⟩ = some (.float .f32 x1) ∧ w'.cell? ⟨w.heap.size + 1, 1, none⟩ = some (.float .f32 y1))) (by kernel_rfl) ⟨P0_1.out.1, P1_1.out.1⟩ (fun hHeld => ?_)
  clear c00 c01 c02 c10 c11 c12
  refine wpAnyH_take (i := 0) (v := ?_) rfl (by kernel_rfl) (by kernel_rfl) (by kernel_rfl) (fun _ _ _ h => h) (Or.inl ⟨by rfl, ?_⟩) (by assumption) ?_
  rotate_left
  · (intro w hSw; (try dsimp only at hSw); go_simp; (try with_reducible rfl))
  try simp only [Act.put, List.setIfInBounds_toArray, List.set_cons_zero, List.set_cons_succ, List.getElem_toArray, List.getElem_cons_succ, List.getElem_cons_zero]
  refine wpAnyH_take (i := 2) (v := ?_) rfl (by kernel_rfl) (by kernel_rfl) (by kernel_rfl) (fun _ _ _ h => h) (Or.inl ⟨by rfl, ?_⟩) (by assumption) ?_
  rotate_left
  · (intro w hSw; (try dsimp only at hSw); go_simp; (try with_reducible rfl))
  try simp only [Act.put, List.setIfInBounds_toArray, List.set_cons_zero, List.set_cons_succ, List.getElem_toArray, List.getElem_cons_succ, List.getElem_cons_zero]
  refine wpAnyH_ready (rs := [1]) (by kernel_rfl) (by simp) ?_
  refine AllReadyH.cons rfl (fun K hK => ?_) AllReadyH.nil
  go_simp
  refine (toIv_any x0 y0 w1.drew).mono ?_
  rintro e w2 ⟨rfl, hb0⟩
  have hb : Below w1.heap.size w1 w2 := belDrew hb0
  refine hK.out _ _ ⟨(P0_1.out.next hb).1, (P1_1.out.next hb).1⟩ (fun hHeld => ?_)
  clear hK K hb0
  have B2 := Lib.hid (belNext B1.out hb)
  have P0_2 := Lib.hid (P0_1.out.next hb)
  have P1_2 := Lib.hid (P1_1.out.next hb)
  clear hb
  try simp only [Act.put, List.setIfInBounds_toArray, List.set_cons_zero, List.set_cons_succ, List.getElem_toArray, List.getElem_cons_succ, List.getElem_cons_zero]
  refine wpAnyH_ready (rs := [3]) (by kernel_rfl) (by simp) ?_
  refine AllReadyH.cons rfl (fun K hK => ?_) AllReadyH.nil
  go_simp
  refine (toIv_any x1 y1 w2).mono ?_
  rintro e w3 ⟨rfl, hb0⟩
  have hb : Below w2.heap.size w2 w3 := hb0
  refine hK.out _ _ ⟨(P0_2.out.next hb).1, (P1_2.out.next hb).1⟩ (fun hHeld => ?_)
  clear hK K hb0
  have B3 := Lib.hid (belNext B2.out hb)
  have P0_3 := Lib.hid (P0_2.out.next hb)
  have P1_3 := Lib.hid (P1_2.out.next hb)
  clear hb
  try simp only [Act.put, List.setIfInBounds_toArray, List.set_cons_zero, List.set_cons_succ, List.getElem_toArray, List.getElem_cons_succ, List.getElem_cons_zero]
  refine wpAnyH_ready (rs := [4]) (by kernel_rfl) (by simp) ?_
  refine AllReadyH.cons rfl (fun K hK => ?_) AllReadyH.nil
  go_simp
  refine (HS.out w3).mono ?_
  rintro e w4 ⟨rfl, hb0⟩
  have hb : Below w3.heap.size w3 w4 := hb0
  refine hK.out _ _ ⟨(P0_3.out.next hb).1, (P1_3.out.next hb).1⟩ (fun hHeld => ?_)
  clear hK K hb0
  have B4 := Lib.hid (belNext B3.out hb)
  have P0_4 := Lib.hid (P0_3.out.next hb)
  have P1_4 := Lib.hid (P1_3.out.next hb)
  clear hb
  try simp only [Act.put, List.setIfInBounds_toArray, List.set_cons_zero, List.set_cons_succ, List.getElem_toArray, List.getElem_cons_succ, List.getElem_cons_zero]
  refine wpAnyH_take (i := 5) (v := ?_) rfl (by kernel_rfl) (by kernel_rfl) (by kernel_rfl) (fun _ _ _ h => h) (Or.inl ⟨by rfl, ?_⟩) (by assumption) ?_
  rotate_left
  · (intro w hSw; (try dsimp only at hSw); go_simp; (try with_reducible rfl))
  try simp only [Act.put, List.setIfInBounds_toArray, List.set_cons_zero, List.set_cons_succ, List.getElem_toArray, List.getElem_cons_succ, List.getElem_cons_zero]
  refine wpAnyH_take (i := 6) (v := ?_) rfl (by kernel_rfl) (by kernel_rfl) (by kernel_rfl) (fun _ _ _ h => h) (Or.inl ⟨by rfl, ?_⟩) (by assumption) ?_
  rotate_left
  · (intro w hSw; (try dsimp only at hSw); go_simp; (try with_reducible rfl))
  try simp only [Act.put, List.setIfInBounds_toArray, List.set_cons_zero, List.set_cons_succ, List.getElem_toArray, List.getElem_cons_succ, List.getElem_cons_zero]
  refine wpAnyH_take (i := 7) (v := ?_) rfl (by kernel_rfl) (by kernel_rfl) (by kernel_rfl) (fun _ _ _ h => h) (Or.inl ⟨by rfl, ?_⟩) (by assumption) ?_
  rotate_left
  · (intro w hSw; (try dsimp only at hSw); go_simp; (try with_reducible rfl))
  try simp only [Act.put, List.setIfInBounds_toArray, List.set_cons_zero, List.set_cons_succ, List.getElem_toArray, List.getElem_cons_succ, List.getElem_cons_zero]
  refine wpAnyH_ready (rs := [8]) (by kernel_rfl) (by simp) ?_
  refine AllReadyH.cons rfl (fun K hK => ?_) AllReadyH.nil
  go_simp
  refine hK.out _ _ hHeld (fun hHeld => ?_)
  clear hK K
  try simp only [Act.put, List.setIfInBounds_toArray, List.set_cons_zero, List.set_cons_succ, List.getElem_toArray, List.getElem_cons_succ, List.getElem_cons_zero]
  refine wpAnyH_ready (rs := [9]) (by kernel_rfl) (by simp) ?_
  refine AllReadyH.cons rfl (fun K hK => ?_) AllReadyH.nil
  go_simp
  refine hK.out _ _ hHeld (fun hHeld => ?_)
  clear hK K
  try simp only [Act.put, List.setIfInBounds_toArray, List.set_cons_zero, List.set_cons_succ, List.getElem_toArray, List.getElem_cons_succ, List.getElem_cons_zero]
  clear hHeld
  refine wpAnyH_done (by kernel_rfl) ?_ _
  obtain ⟨⟨c00, c01⟩, c02⟩ := P0_4.out
  obtain ⟨⟨c10, c11⟩, c12⟩ := P1_4.out
  go_wp2_with fail
  refine wp_region_held_drew (S := fun w' => (w'.cell? ⟨w.heap.size, 0, none⟩ = some (.float .f32 x0) ∧ w'.cell? ⟨w.heap.size, 1, none⟩ = some (.float .f32 y0)) ∧ (w'.cell? ⟨w.heap.size + 1, 0, none⟩ = some (.float .f32 x1) ∧ w'.cell? ⟨w.heap.size + 1, 1, none⟩ = some (.float .f32 y1))) (by kernel_rfl) ⟨P0_4.out.1, P1_4.out.1⟩ (fun hHeld => ?_)
  clear c00 c01 c02 c10 c11 c12
  refine wpAnyH_take (i := 0) (v := ?_) rfl (by kernel_rfl) (by kernel_rfl) (by kernel_rfl) (fun _ _ _ h => h) (Or.inl ⟨by rfl, ?_⟩) (by assumption) ?_
  rotate_left
  · (intro w hSw; (try dsimp only at hSw); go_simp; (try with_reducible rfl))
  try simp only [Act.put, List.setIfInBounds_toArray, List.set_cons_zero, List.set_cons_succ, List.getElem_toArray, List.getElem_cons_succ, List.getElem_cons_zero]
  refine wpAnyH_take (i := 2) (v := ?_) rfl (by kernel_rfl) (by kernel_rfl) (by kernel_rfl) (fun _ _ _ h => h) (Or.inl ⟨by rfl, ?_⟩) (by assumption) ?_
  rotate_left
  · (intro w hSw; (try dsimp only at hSw); go_simp; (try with_reducible rfl))
  try simp only [Act.put, List.setIfInBounds_toArray, List.set_cons_zero, List.set_cons_succ, List.getElem_toArray, List.getElem_cons_succ, List.getElem_cons_zero]
  refine wpAnyH_ready (rs := [1]) (by kernel_rfl) (by simp) ?_
  refine AllReadyH.cons rfl (fun K hK => ?_) AllReadyH.nil
  go_simp
  refine (toIv_any x0 y0 w4.drew).mono ?_
  rintro e w5 ⟨rfl, hb0⟩
  have hb : Below w4.heap.size w4 w5 := belDrew hb0
  refine hK.out _ _ ⟨(P0_4.out.next hb).1, (P1_4.out.next hb).1⟩ (fun hHeld => ?_)
  clear hK K hb0
  have B5 := Lib.hid (belNext B4.out hb)
  have P0_5 := Lib.hid (P0_4.out.next hb)
  have P1_5 := Lib.hid (P1_4.out.next hb)
  clear hb
  try simp only [Act.put, List.setIfInBounds_toArray, List.set_cons_zero, List.set_cons_succ, List.getElem_toArray, List.getElem_cons_succ, List.getElem_cons_zero]
  refine wpAnyH_ready (rs := [3]) (by kernel_rfl) (by simp) ?_
  refine AllReadyH.cons rfl (fun K hK => ?_) AllReadyH.nil
  go_simp
  refine (toIv_any x1 y1 w5).mono ?_
  rintro e w6 ⟨rfl, hb0⟩
  have hb : Below w5.heap.size w5 w6 := hb0
  refine hK.out _ _ ⟨(P0_5.out.next hb).1, (P1_5.out.next hb).1⟩ (fun hHeld => ?_)
  clear hK K hb0
  have B6 := Lib.hid (belNext B5.out hb)
  have P0_6 := Lib.hid (P0_5.out.next hb)
  have P1_6 := Lib.hid (P1_5.out.next hb)
  clear hb
  try simp only [Act.put, List.setIfInBounds_toArray, List.set_cons_zero, List.set_cons_succ, List.getElem_toArray, List.getElem_cons_succ, List.getElem_cons_zero]
  refine wpAnyH_ready (rs := [4]) (by kernel_rfl) (by simp) ?_
  refine AllReadyH.cons rfl (fun K hK => ?_) AllReadyH.nil
  go_simp
  refine (HI.out w6).mono ?_
  rintro e w7 ⟨rfl, hb0⟩
  have hb : Below w6.heap.size w6 w7 := hb0
  refine hK.out _ _ ⟨(P0_6.out.next hb).1, (P1_6.out.next hb).1⟩ (fun hHeld => ?_)
  clear hK K hb0
  have B7 := Lib.hid (belNext B6.out hb)
  have P0_7 := Lib.hid (P0_6.out.next hb)
  have P1_7 := Lib.hid (P1_6.out.next hb)
  clear hb
  try simp only [Act.put, List.setIfInBounds_toArray, List.set_cons_zero, List.set_cons_succ, List.getElem_toArray, List.getElem_cons_succ, List.getElem_cons_zero]
  refine wpAnyH_take (i := 5) (v := ?_) rfl (by kernel_rfl) (by kernel_rfl) (by kernel_rfl) (fun _ _ _ h => h) (Or.inl ⟨by rfl, ?_⟩) (by assumption) ?_
  rotate_left
  · (intro w hSw; (try dsimp only at hSw); go_simp; (try with_reducible rfl))
  try simp only [Act.put, List.setIfInBounds_toArray, List.set_cons_zero, List.set_cons_succ, List.getElem_toArray, List.getElem_cons_succ, List.getElem_cons_zero]
  refine wpAnyH_take (i := 6) (v := ?_) rfl (by kernel_rfl) (by kernel_rfl) (by kernel_rfl) (fun _ _ _ h => h) (Or.inl ⟨by rfl, ?_⟩) (by assumption) ?_
  rotate_left
  · (intro w hSw; (try dsimp only at hSw); go_simp; (try with_reducible rfl))
  try simp only [Act.put, List.setIfInBounds_toArray, List.set_cons_zero, List.set_cons_succ, List.getElem_toArray, List.getElem_cons_succ, List.getElem_cons_zero]
  refine wpAnyH_take (i := 7) (v := ?_) rfl (by kernel_rfl) (by kernel_rfl) (by kernel_rfl) (fun _ _ _ h => h) (Or.inl ⟨by rfl, ?_⟩) (by assumption) ?_
  rotate_left
  · (intro w hSw; (try dsimp only at hSw); go_simp; (try with_reducible rfl))
  try simp only [Act.put, List.setIfInBounds_toArray, List.set_cons_zero, List.set_cons_succ, List.getElem_toArray, List.getElem_cons_succ, List.getElem_cons_zero]
  refine wpAnyH_ready (rs := [8]) (by kernel_rfl) (by simp) ?_
  refine AllReadyH.cons rfl (fun K hK => ?_) AllReadyH.nil
  go_simp
  refine hK.out _ _ hHeld (fun hHeld => ?_)
  clear hK K
  try simp only [Act.put, List.setIfInBounds_toArray, List.set_cons_zero, List.set_cons_succ, List.getElem_toArray, List.getElem_cons_succ, List.getElem_cons_zero]
  refine wpAnyH_ready (rs := [9]) (by kernel_rfl) (by simp) ?_
  refine AllReadyH.cons rfl (fun K hK => ?_) AllReadyH.nil
  go_simp
  refine hK.out _ _ hHeld (fun hHeld => ?_)
  clear hK K
  try simp only [Act.put, List.setIfInBounds_toArray, List.set_cons_zero, List.set_cons_succ, List.getElem_toArray, List.getElem_cons_succ, List.getElem_cons_zero]
  clear hHeld
  refine wpAnyH_done (by kernel_rfl) ?_ _
  obtain ⟨⟨c00, c01⟩, c02⟩ := P0_7.out
  obtain ⟨⟨c10, c11⟩, c12⟩ := P1_7.out
  go_wp2_with fail
  go_ret
  exact ⟨rfl, B7.out⟩

/-! the step from the walk to the given statement -/
set_option maxRecDepth 100000 in
theorem lifted (os : Os) (started : os.Started) (H : Type) (enc : TypeId × Value → H) :
    ReturnsInHanded {} Try.checked os 11 .any (Rows.fnExactOrderOfIntervalsSpec.pre6 enc Try.prog Try.f11 Rows.fnExactOrderOfIntervalsRow.domain false) (Rows.fnExactOrderOfIntervalsSpec.post enc Try.prog Try.f11 false true false false) := by
  refine returnsInHanded_of_change (C := Try.checked) own started (by kernel_rfl) Try.func11
    (ChangeSpec.witness6 (enc := enc) (C := Try.checked) false ⟨#[], #[.agg #[.float .f32 0, .float .f32 0], .agg #[.float .f32 0, .float .f32 0]], []⟩ 8 (by kernel_rfl) (by kernel_rfl) (by kernel_rfl) (by kernel_rfl)) ?_
  intro W base args ds gs before hval0 hW hcnd _
  have hval : ∀ (j : Nat) t v, Try.f11.params[j]? = some t → args[j]? = some v → Value.okWide Try.prog W .any base t v := hval0
  have hW' := hW
  obtain ⟨p, q, hA0, hV, rfl, hfz, hnd⟩ := hW
  have hA : DataW.TrodAll enc Try.prog W 0 (fun _ => true) true Try.f11.params.toList args.toList ds p := hA0
  rw [Try.params11] at hA hval
  obtain ⟨v0, vs0, d0, ds0, p0, q0, hargs, rfl, rfl, h0, r0⟩ := trodAll_cons hA
  obtain ⟨v1, vs1, d1, ds1, p1, q1, hargs1, rfl, rfl, h1, r1⟩ := trodAll_cons r0
  obtain ⟨rfl, rfl, rfl⟩ := trodAll_nil r1
  obtain rfl : args = #[v0, v1] := by cases args; simp_all
  obtain ⟨rfl, rfl⟩ := trodVars_none hV
  have hc0 := h0
  obtain ⟨x0, y0, rfl, wx0, wy0⟩ := open_iv (hval 0 24 v0 rfl rfl) h0
  have hc1 := h1
  obtain ⟨x1, y1, rfl, wx1, wy1⟩ := open_iv (hval 1 24 v1 rfl rfl) h1
  clear hA0 hval0
  simp only [List.append_nil] at hW'
  refine (walk x0 y0 x1 y1 W wx0 wy0 wx1 wy1).mono fun e W' ⟨he, hg⟩ => ?_
  subst he
  exact ⟨_, rfl, law_end (pa := _) hW' (by simp) rfl (fun _ _ _ => (trodAll_cons_mk (shut_bool Try.underlying4 _) trodAll_mk0)) (fun sp hsp => (trodAll_cons_mk (carryB (by kernel_rfl) (of_decide_eq_true (by kernel_rfl)) hg hc0 (fun x hx => hW'.lt x (by simp [hx])) (fun x hx => hsp x (by simp [hx]))) (trodAll_cons_mk (carryB (by kernel_rfl) (of_decide_eq_true (by kernel_rfl)) hg hc1 (fun x hx => hW'.lt x (by simp [hx])) (fun x hx => hsp x (by simp [hx]))) trodAll_mk0))) rfl
    hg (ok_one (by kernel_rfl) rfl (okWide_bool_mk Try.underlying4 _))⟩

theorem proved : Rows.FnExactOrderOfIntervalsSaid :=
  OpenClaim.holds_of_wide 11 Try.f11 rfl rfl rfl rfl rfl rfl rfl ⟨rfl, rfl, rfl, rfl, rfl⟩ rfl rfl rfl rfl rfl (by kernel_rfl) Try.func11 (by kernel_rfl)
    (of_decide_eq_true (by kernel_rfl)) (by unfold Func.isWrapper; first | (rw [if_pos (by decide +kernel)]; kernel_rfl) | (rw [if_neg (by decide +kernel)]; exact ⟨rfl, rfl⟩))
    (fun os started H enc _ => lifted os started H enc)
#print axioms proved
end Go.Proofs.Ytlhdlomabgoadaa.fnExactOrderOfIntervals
