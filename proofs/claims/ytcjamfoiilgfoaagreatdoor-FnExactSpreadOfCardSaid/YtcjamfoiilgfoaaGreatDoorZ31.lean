/- FnExactSpreadOf returns true at every two floats of 32 bits and every int64: the program's SpreadOf gives the two floats and the code that the model gives. Condition: the table math/bits.deBruijn64tab is as Go's library lays it (tied to the text). -/
import Derived.Test.YtcjamfoiilgfoaaGreatDoorRows
import Derived.Test.YtcjamfoiilgfoaaGreatDoorG13
import Derived.Test.YtcjamfoiilgfoaaGreatDoorG6
import Derived.Test.YtcjamfoiilgfoaaGreatDoorTie
import Derived.Test.YtcjamfoiilgfoaaGreatDoorCards
import Derived.SevenTiedAt
import Derived.ProofKit
import Derived.OpenShut
import Derived.Deep.RegionHeld3
namespace Go.Proofs.YtcjamfoiilgfoaaGreatDoor.fnExactSpreadOf
set_option maxRecDepth 100000
open Go Go.ChangeShapes Go.WideShapes Go.ChangeAt Go.RowKit
set_option linter.unusedVariables false
set_option linter.unusedSimpArgs false

theorem own : ownKnob Tryz.prog.godebug = none := by kernel_rfl

set_option maxHeartbeats 4000000 in
set_option maxRecDepth 100000 in
theorem walk (x y : Nat) (k : Int) (w : World) (hx : (Lit.float .f32 x).wf = true) (hy : (Lit.float .f32 y).wf = true) (hk : (Lit.int .i64 k).wf = true) (hT : TabZ w) :
    Calls Tryz.prog 7 #[.float .f32 x, .float .f32 y, .int .i64 k] w fun e w' => e = .returned (.bool true) ∧ Below w.heap.size w w' := by
  have Hxy : Hid (x < 4294967296 ∧ y < 4294967296) := Lib.hid ⟨by simpa [Lit.wf] using hx, by simpa [Lit.wf] using hy⟩
  have HT := Lib.hid hT
  obtain ⟨F, hF⟩ : ∃ F, F = spF x y k 1 := ⟨_, rfl⟩
  obtain ⟨G, hG⟩ : ∃ G, G = spF x y k 2 := ⟨_, rfl⟩
  obtain ⟨CD, hCD⟩ : ∃ CD, CD = spC x y k := ⟨_, rfl⟩
  have hok : F < 4294967296 ∧ nan32 F = false := by rw [hF]; exact spF_ok _ _ _ _
  have hok2 : G < 4294967296 ∧ nan32 G = false := by rw [hG]; exact spF_ok _ _ _ _
  have HF := Lib.hid hF
  have HG := Lib.hid hG
  have HCD := Lib.hid hCD
  obtain ⟨cF, hcF, hvF⟩ := conv_yes F hok.1 hok.2
  obtain ⟨cG, hcG, hvG⟩ := conv_yes G hok2.1 hok2.2
  have HcF := Lib.hid hcF
  have HcG := Lib.hid hcG
  clear hx hy hk hT hF hG hCD hok hok2 hcF hcG
  go_enter Tryz.func7, Tryz.ntmps7
  go_wp2_with fail
  obtain ⟨w0, hw0⟩ : ∃ w0, w0 = w := ⟨_, rfl⟩
  have Bel0 : Hid (Below w.heap.size w w0) := Lib.hid (by rw [hw0]; exact Below.refl _ _)
  rw [← hw0]
  clear hw0
  refine (specSpread_any k x y _ Hxy.out.1 Hxy.out.2).mono ?_
  rintro e w1 ⟨rfl, hb⟩
  rw [← HF.out, ← HG.out, ← HCD.out]
  have Sz1 := Lib.hid (Below.size hb)
  have Bel1 := Lib.hid (belNext Bel0.out hb)
  clear hb Bel0
  go_wp2_with fail
  refine (implSpread_any k x y _ Hxy.out.1 Hxy.out.2 (HT.out.next Bel1.out)).mono ?_
  rintro e w2 ⟨rfl, hb⟩
  rw [← HF.out, ← HG.out, ← HCD.out]
  have Sz2 := Lib.hid (Below.size hb)
  have Bel2 := Lib.hid (belNext Bel1.out hb)
  clear hb Bel1
  go_wp2_with fail
  refine (same_yes cF _ HcF.out).mono ?_
  rintro e w9 ⟨rfl, rfl⟩
  go_wp2_with fail
  refine (same_yes cG _ HcG.out).mono ?_
  rintro e w9 ⟨rfl, rfl⟩
  go_wp2_with fail
  go_ret
  exact ⟨rfl, Bel2.out⟩

/-! the step from the walk to the given statement -/
set_option maxRecDepth 100000 in
theorem lifted (os : Os) (started : os.Started) (H : Type) (enc : TypeId × Value → H) :
    ReturnsInHanded {} Tryz.checked os 7 .any (fun w args => (Rows.fnExactSpreadOfSpec.pre enc Tryz.prog Tryz.f7 [] false w args ∧ laidMetH Tryz.prog laidL w) ∧ sizedMet enc Tryz.prog Tryz.f7 (OpenSpec.ofChange Rows.fnExactSpreadOfSpec) false w args) (Rows.fnExactSpreadOfSpec.post enc Tryz.prog Tryz.f7 false true false false) := by
  refine returnsInHanded_of_change_and (C := Tryz.checked) (X := fun w _ => laidMetH Tryz.prog laidL w) (fun _ _ _ hh h => h.of_heap hh) own started (by kernel_rfl) Tryz.func7
    (ChangeSpec.witness_shaped (enc := enc) (C := Tryz.checked) (os := os) (X := fun w _ => laidMetH Tryz.prog laidL w) false (World.doorLaid Tryz.prog 14 os) #[.float .f32 0, .float .f32 0, .int .i64 0] 8 rfl (World.shaped_of_RefB (by kernel_rfl) (by kernel_rfl)) (by kernel_rfl) (by kernel_rfl) (by kernel_rfl) (door_met os _)) ?_
  intro W base args ds gs before hval0 hW _ _ hL _
  have hval : ∀ (j : Nat) t v, Tryz.f7.params[j]? = some t → args[j]? = some v → Value.okWide Tryz.prog W .any base t v := hval0
  have hW' := hW
  obtain ⟨p, q, hA0, hV, rfl, hfz, hnd⟩ := hW
  have hA : DataW.TrodAll enc Tryz.prog W 0 (fun _ => true) true Tryz.f7.params.toList args.toList ds p := hA0
  rw [Tryz.params7] at hA hval
  obtain ⟨v0, vs0, d0, ds0, p0, q0, hargs, rfl, rfl, h0, r0⟩ := trodAll_cons hA
  obtain ⟨v1, vs1, d1, ds1, p1, q1, hargs1, rfl, rfl, h1, r1⟩ := trodAll_cons r0
  obtain ⟨v2, vs2, d2, ds2, p2, q2, hargs2, rfl, rfl, h2, r2⟩ := trodAll_cons r1
  obtain ⟨rfl, rfl, rfl⟩ := trodAll_nil r2
  obtain rfl : args = #[v0, v1, v2] := by cases args; simp_all
  obtain ⟨rfl, rfl⟩ := trodVars_none hV
  obtain ⟨a0, rfl, rfl, rfl, w0⟩ := open_float Tryz.underlying37 (hval 0 37 v0 rfl rfl) h0
  obtain ⟨a1, rfl, rfl, rfl, w1⟩ := open_float Tryz.underlying37 (hval 1 37 v1 rfl rfl) h1
  obtain ⟨a2, rfl, rfl, rfl, w2⟩ := open_int Tryz.underlying2 (hval 2 2 v2 rfl rfl) h2
  clear hA0 hval0
  simp only [List.append_nil] at hW'
  refine (walk a0 a1 a2 W w0 w1 w2 (tabz_of_laid hL)).mono fun e W' ⟨he, hg⟩ => ?_
  subst he
  exact ⟨_, rfl, law_end (pa := _) hW' (by simp) rfl (fun _ _ _ => (trodAll_cons_mk (shut_bool Tryz.underlying4 _) trodAll_mk0)) (fun sp hsp => (trodAll_cons_mk (shut_float Tryz.underlying37 w0) (trodAll_cons_mk (shut_float Tryz.underlying37 w1) (trodAll_cons_mk (shut_int Tryz.underlying2 w2) trodAll_mk0)))) rfl
    hg (ok_one (by kernel_rfl) rfl (okWide_bool_mk Tryz.underlying4 _))⟩

theorem row_proved : Rows.FnExactSpreadOfSaid :=
  OpenClaim.holds_of_wide 7 Tryz.f7 rfl rfl rfl rfl rfl rfl rfl ⟨rfl, rfl, rfl, rfl, rfl⟩ rfl rfl rfl rfl rfl (by kernel_rfl) Tryz.func7 (by kernel_rfl)
    (of_decide_eq_true (by kernel_rfl)) (by unfold Func.isWrapper; first | (rw [if_pos (by decide +kernel)]; kernel_rfl) | (rw [if_neg (by decide +kernel)]; exact ⟨rfl, rfl⟩))
    (fun os started H enc _ => lifted os started H enc)

theorem proved : Rows.FnExactSpreadOfCardSaid :=
  Claim7.holds_tied_plain_at .later [] [.data] true (true, "6e727386e29769653065724f4e45658b33ea3a89257ea71be0abddf81791e203") true
    row_proved (fun _ h => by cases h) (by kernel_rfl) (fun _ h => by cases h) fnExactSpreadOf_row_tie rfl ⟨rfl, rfl⟩ (by kernel_rfl) rfl
    (fun f fn hf hfn => by
      obtain rfl : f = 7 := Option.some.inj ((show Tryz.prog.funcNamed "loop.example/g01172/laws.FnExactSpreadOf" = some 7 by kernel_rfl).symm.trans hf) |>.symm
      obtain rfl : fn = Tryz.f7 := (Option.some.inj (Tryz.func7.symm.trans hfn)).symm
      exact ⟨by kernel_rfl, fun j t ht => by
        rw [Tryz.params7] at ht
        have hm : t ∈ [37, 37, 2] := by simpa using Array.mem_of_getElem? ht
        have hall : ([37, 37, 2].all fun u => !Tryz.prog.wantsStandIn u) = true := by kernel_rfl
        exact (show Tryz.prog.wantsStandIn t = false by simpa using List.all_eq_true.1 hall t hm)⟩)
    (by kernel_rfl)
#print axioms proved
end Go.Proofs.YtcjamfoiilgfoaaGreatDoor.fnExactSpreadOf
