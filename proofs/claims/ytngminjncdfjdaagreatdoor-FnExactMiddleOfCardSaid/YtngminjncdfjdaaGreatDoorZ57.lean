/- FnExactMiddleOf returns true at every interval of the laws: the program's MiddleOf gives the float and the code that the model gives. Condition: the table math/bits.deBruijn64tab is as Go's library lays it (tied to the text). -/
import Derived.Test.YtngminjncdfjdaaGreatDoorRows
import Derived.Test.YtngminjncdfjdaaGreatDoorV26
import Derived.Test.YtngminjncdfjdaaGreatDoorY6
import Derived.Test.YtngminjncdfjdaaGreatDoorV4
import Derived.Test.YtngminjncdfjdaaGreatDoorY1
import Derived.Test.YtngminjncdfjdaaGreatDoorTie
import Derived.Test.YtngminjncdfjdaaGreatDoorCards
import Derived.SevenTiedAt
import Derived.ProofKit
import Derived.OpenShut
import Derived.Deep.RegionHeld3
namespace Go.Proofs.YtngminjncdfjdaaGreatDoor.fnExactMiddleOf
set_option maxRecDepth 100000
open Go Go.ChangeShapes Go.WideShapes Go.ChangeAt Go.RowKit
set_option linter.unusedVariables false
set_option linter.unusedSimpArgs false

theorem own : ownKnob Tryz.prog.godebug = none := by kernel_rfl

set_option maxHeartbeats 4000000 in
set_option maxRecDepth 100000 in
theorem walk (x0 y0 : Nat) (w : World) (wx0 : x0 < 4294967296) (wy0 : y0 < 4294967296) (hT : TabZ w) :
    Calls Tryz.prog 6 #[.agg #[.float .f32 x0, .float .f32 y0]] w fun e w' => e = .returned (.bool true) ∧ Below w.heap.size w w' := by
  have HT := Lib.hid hT
  have hok := mdW_ok x0 y0
  obtain ⟨f9, hf9⟩ : ∃ v, v = mdW x0 y0 := ⟨_, rfl⟩
  obtain ⟨e9, he9⟩ : ∃ v, v = mdC x0 y0 := ⟨_, rfl⟩
  rw [← hf9] at hok
  have HS : Hid (∀ w, Calls Tryz.prog 17 #[.agg #[.float .f32 x0, .float .f32 y0]] w fun e w' => e = .returned (.tuple #[.float .f32 f9, .int .i64 e9]) ∧ Below w.heap.size w w') := Lib.hid (fun w => by rw [hf9, he9]; exact specMiddleW_any x0 y0 w wx0 wy0)
  have HI : Hid (∀ w, TabZ w → Calls Tryz.prog 18 #[.agg #[.float .f32 x0, .float .f32 y0]] w fun e w' => e = .returned (.tuple #[.float .f32 f9, .int .i64 e9]) ∧ Below w.heap.size w w') := Lib.hid (fun w t => by rw [hf9, he9]; exact implMiddleW_any x0 y0 w wx0 wy0 t)
  obtain ⟨cF, hcF, hvF⟩ := conv_yes f9 hok.1 hok.2
  have HcF := Lib.hid hcF
  clear hT hok hf9 he9 wx0 wy0 hcF
  obtain ⟨w1, hw1, hp0, hB_⟩ := ib_1 w x0 y0 24
  have P0_1 := Lib.hid hp0
  have hst := store_float Tryz.prog
  have B1 := Lib.hid hB_
  have Hw := Lib.hid hw1
  clear hw1 hp0 hB_
  obtain ⟨⟨c00, c01⟩, c02⟩ := P0_1.out
  go_enter Tryz.func6, Tryz.ntmps6
  go_wp2_with fail
  rw [← Hw.out]
  refine (toIv_any x0 y0 _).mono ?_
  rintro e w2 ⟨rfl, hb⟩
  have B2 := Lib.hid (belNext B1.out hb)
  have P0_2 := Lib.hid (P0_1.out.next hb)
  clear hb c00 c01 c02
  obtain ⟨⟨c00, c01⟩, c02⟩ := P0_2.out
  go_wp2_with fail
  refine (HS.out _).mono ?_
  rintro e w3 ⟨rfl, hb⟩
  have B3 := Lib.hid (belNext B2.out hb)
  have P0_3 := Lib.hid (P0_2.out.next hb)
  clear hb c00 c01 c02
  obtain ⟨⟨c00, c01⟩, c02⟩ := P0_3.out
  go_wp2_with fail
  refine (toIv_any x0 y0 _).mono ?_
  rintro e w4 ⟨rfl, hb⟩
  have B4 := Lib.hid (belNext B3.out hb)
  have P0_4 := Lib.hid (P0_3.out.next hb)
  clear hb c00 c01 c02
  obtain ⟨⟨c00, c01⟩, c02⟩ := P0_4.out
  go_wp2_with fail
  refine (HI.out _ (HT.out.next B4.out)).mono ?_
  rintro e w5 ⟨rfl, hb⟩
  have B5 := Lib.hid (belNext B4.out hb)
  have P0_5 := Lib.hid (P0_4.out.next hb)
  clear hb c00 c01 c02
  obtain ⟨⟨c00, c01⟩, c02⟩ := P0_5.out
  go_wp2_with fail
  refine (same_yes cF _ HcF.out).mono ?_
  rintro e w9 ⟨rfl, rfl⟩
  go_wp2_with fail
  go_ret
  exact ⟨rfl, B5.out⟩

/-! the step from the walk to the given statement -/
set_option maxRecDepth 100000 in
theorem lifted (os : Os) (started : os.Started) (H : Type) (enc : TypeId × Value → H) :
    ReturnsInHanded {} Tryz.checked os 6 .any (fun w args => (Rows.fnExactMiddleOfSpec.pre enc Tryz.prog Tryz.f6 [] false w args ∧ laidMetH Tryz.prog laidL w) ∧ sizedMet enc Tryz.prog Tryz.f6 (OpenSpec.ofChange Rows.fnExactMiddleOfSpec) false w args) (Rows.fnExactMiddleOfSpec.post enc Tryz.prog Tryz.f6 false true false false) := by
  refine returnsInHanded_of_change_and (C := Tryz.checked) (X := fun w _ => laidMetH Tryz.prog laidL w) (fun _ _ _ hh h => h.of_heap hh) own started (by kernel_rfl) Tryz.func6
    (ChangeSpec.witness_shaped (enc := enc) (C := Tryz.checked) (os := os) (X := fun w _ => laidMetH Tryz.prog laidL w) false (World.doorLaid Tryz.prog 14 os) #[.agg #[.float .f32 0, .float .f32 0]] 8 rfl (World.shaped_of_RefB (by kernel_rfl) (by kernel_rfl)) (by kernel_rfl) (by kernel_rfl) (by kernel_rfl) (door_met os _)) ?_
  intro W base args ds gs before hval0 hW _ _ hL _
  have hval : ∀ (j : Nat) t v, Tryz.f6.params[j]? = some t → args[j]? = some v → Value.okWide Tryz.prog W .any base t v := hval0
  have hW' := hW
  obtain ⟨p, q, hA0, hV, rfl, hfz, hnd⟩ := hW
  have hA : DataW.TrodAll enc Tryz.prog W 0 (fun _ => true) true Tryz.f6.params.toList args.toList ds p := hA0
  rw [Tryz.params6] at hA hval
  obtain ⟨v0, vs0, d0, ds0, p0, q0, hargs, rfl, rfl, h0, r0⟩ := trodAll_cons hA
  obtain ⟨rfl, rfl, rfl⟩ := trodAll_nil r0
  obtain rfl : args = #[v0] := by cases args; simp_all
  obtain ⟨rfl, rfl⟩ := trodVars_none hV
  have hc0 := h0
  obtain ⟨x0, y0, rfl, wx0, wy0⟩ := open_iv (hval 0 24 v0 rfl rfl) h0
  clear hA0 hval0
  simp only [List.append_nil] at hW'
  refine (walk x0 y0 W wx0 wy0 (tabz_of_laid hL)).mono fun e W' ⟨he, hg⟩ => ?_
  subst he
  exact ⟨_, rfl, law_end (pa := _) hW' (by simp) rfl (fun _ _ _ => (trodAll_cons_mk (shut_bool Tryz.underlying4 _) trodAll_mk0)) (fun sp hsp => (trodAll_cons_mk (carryB (by kernel_rfl) (of_decide_eq_true (by kernel_rfl)) hg hc0 (fun x hx => hW'.lt x (by simp [hx])) (fun x hx => hsp x (by simp [hx]))) trodAll_mk0)) rfl
    hg (ok_one (by kernel_rfl) rfl (okWide_bool_mk Tryz.underlying4 _))⟩

theorem row_proved : Rows.FnExactMiddleOfSaid :=
  OpenClaim.holds_of_wide 6 Tryz.f6 rfl rfl rfl rfl rfl rfl rfl ⟨rfl, rfl, rfl, rfl, rfl⟩ rfl rfl rfl rfl rfl (by kernel_rfl) Tryz.func6 (by kernel_rfl)
    (of_decide_eq_true (by kernel_rfl)) (by unfold Func.isWrapper; first | (rw [if_pos (by decide +kernel)]; kernel_rfl) | (rw [if_neg (by decide +kernel)]; exact ⟨rfl, rfl⟩))
    (fun os started H enc _ => lifted os started H enc)

theorem proved : Rows.FnExactMiddleOfCardSaid :=
  Claim7.holds_tied_plain_at .later [] [.data] true (true, "9c5f579a7c6aec9eddff474351764758cefedaba57148a21084d9c4075cecb48") true
    row_proved (fun _ h => by cases h) (by kernel_rfl) (fun _ h => by cases h) fnExactMiddleOf_row_tie rfl ⟨rfl, rfl⟩ (by kernel_rfl) rfl
    (fun f fn hf hfn => by
      obtain rfl : f = 6 := Option.some.inj ((show Tryz.prog.funcNamed "loop.example/g01172/laws.FnExactMiddleOf" = some 6 by kernel_rfl).symm.trans hf) |>.symm
      obtain rfl : fn = Tryz.f6 := (Option.some.inj (Tryz.func6.symm.trans hfn)).symm
      exact ⟨by kernel_rfl, fun j t ht => by
        rw [Tryz.params6] at ht
        have hm : t ∈ [24] := by simpa using Array.mem_of_getElem? ht
        have hall : ([24].all fun u => !Tryz.prog.wantsStandIn u) = true := by kernel_rfl
        exact (show Tryz.prog.wantsStandIn t = false by simpa using List.all_eq_true.1 hall t hm)⟩)
    (by kernel_rfl)
#print axioms proved
end Go.Proofs.YtngminjncdfjdaaGreatDoor.fnExactMiddleOf
