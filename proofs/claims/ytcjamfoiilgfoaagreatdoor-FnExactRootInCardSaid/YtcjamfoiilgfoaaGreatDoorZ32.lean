/- FnExactRootIn returns true at every float of 32 bits and every int64: the program's RootIn gives the float, the flags and the code that the model gives. Condition: the table math/bits.deBruijn64tab is as Go's library lays it (tied to the text). -/
import Derived.Test.YtcjamfoiilgfoaaGreatDoorRows
import Derived.Test.YtcjamfoiilgfoaaGreatDoorGR13
import Derived.Test.YtcjamfoiilgfoaaGreatDoorGR6
import Derived.Test.YtcjamfoiilgfoaaGreatDoorTie
import Derived.Test.YtcjamfoiilgfoaaGreatDoorCards
import Derived.SevenTiedAt
import Derived.ProofKit
import Derived.OpenShut
import Derived.Deep.RegionHeld3
namespace Go.Proofs.YtcjamfoiilgfoaaGreatDoor.fnExactRootIn
set_option maxRecDepth 100000
open Go Go.ChangeShapes Go.WideShapes Go.ChangeAt Go.RowKit
set_option linter.unusedVariables false
set_option linter.unusedSimpArgs false

theorem own : ownKnob Tryz.prog.godebug = none := by kernel_rfl

set_option maxHeartbeats 4000000 in
set_option maxRecDepth 100000 in
theorem walk (x : Nat) (k : Int) (w : World) (hx : (Lit.float .f32 x).wf = true) (hk : (Lit.int .i64 k).wf = true) (hT : TabZ w) :
    Calls Tryz.prog 5 #[.float .f32 x, .int .i64 k] w fun e w' => e = .returned (.bool true) ∧ Below w.heap.size w w' := by
  have Hx : Hid (x < 4294967296) := Lib.hid (by simpa [Lit.wf] using hx)
  have HT := Lib.hid hT
  obtain ⟨F, hF⟩ : ∃ F, F = rtF x k := ⟨_, rfl⟩
  obtain ⟨G, hG⟩ : ∃ G, G = rtL x k := ⟨_, rfl⟩
  obtain ⟨CD, hCD⟩ : ∃ CD, CD = rtC x k := ⟨_, rfl⟩
  have hok : F < 4294967296 ∧ nan32 F = false := by
    rw [hF]; unfold rtF; split
    · exact xF_ok _ _ _ _
    · decide
  have HF := Lib.hid hF
  have HG := Lib.hid hG
  have HCD := Lib.hid hCD
  obtain ⟨cF, hcF, hvF⟩ := conv_yes F hok.1 hok.2
  have HcF := Lib.hid hcF
  clear hx hk hT hF hG hCD hok hcF
  go_enter Tryz.func5, Tryz.ntmps5
  go_wp2_with fail
  obtain ⟨w0, hw0⟩ : ∃ w0, w0 = w := ⟨_, rfl⟩
  have Bel0 : Hid (Below w.heap.size w w0) := Lib.hid (by rw [hw0]; exact Below.refl _ _)
  rw [← hw0]
  clear hw0
  refine (specRootIn_any x k _ Hx.out).mono ?_
  rintro e w1 ⟨rfl, hb⟩
  rw [← HF.out, ← HG.out, ← HCD.out]
  have Sz1 := Lib.hid (Below.size hb)
  have Bel1 := Lib.hid (belNext Bel0.out hb)
  clear hb Bel0
  go_wp2_with fail
  refine (implRootIn_any x k _ Hx.out (HT.out.next Bel1.out)).mono ?_
  rintro e w2 ⟨rfl, hb⟩
  rw [← HF.out, ← HG.out, ← HCD.out]
  have Sz2 := Lib.hid (Below.size hb)
  have Bel2 := Lib.hid (belNext Bel1.out hb)
  clear hb Bel1
  go_wp2_with fail
  refine (same_yes cF _ HcF.out).mono ?_
  rintro e w9 ⟨rfl, rfl⟩
  go_wp2_with fail
  go_ret
  exact ⟨rfl, Bel2.out⟩

/-! the step from the walk to the given statement -/
set_option maxRecDepth 100000 in
theorem lifted (os : Os) (started : os.Started) (H : Type) (enc : TypeId × Value → H) :
    ReturnsInHanded {} Tryz.checked os 5 .any (fun w args => (Rows.fnExactRootInSpec.pre enc Tryz.prog Tryz.f5 [] false w args ∧ laidMetH Tryz.prog laidL w) ∧ sizedMet enc Tryz.prog Tryz.f5 (OpenSpec.ofChange Rows.fnExactRootInSpec) false w args) (Rows.fnExactRootInSpec.post enc Tryz.prog Tryz.f5 false true false false) := by
  refine returnsInHanded_of_change_and (C := Tryz.checked) (X := fun w _ => laidMetH Tryz.prog laidL w) (fun _ _ _ hh h => h.of_heap hh) own started (by kernel_rfl) Tryz.func5
    (ChangeSpec.witness_shaped (enc := enc) (C := Tryz.checked) (os := os) (X := fun w _ => laidMetH Tryz.prog laidL w) false (World.doorLaid Tryz.prog 14 os) #[.float .f32 0, .int .i64 0] 8 rfl (World.shaped_of_RefB (by kernel_rfl) (by kernel_rfl)) (by kernel_rfl) (by kernel_rfl) (by kernel_rfl) (door_met os _)) ?_
  intro W base args ds gs before hval0 hW _ _ hL _
  have hval : ∀ (j : Nat) t v, Tryz.f5.params[j]? = some t → args[j]? = some v → Value.okWide Tryz.prog W .any base t v := hval0
  have hW' := hW
  obtain ⟨p, q, hA0, hV, rfl, hfz, hnd⟩ := hW
  have hA : DataW.TrodAll enc Tryz.prog W 0 (fun _ => true) true Tryz.f5.params.toList args.toList ds p := hA0
  rw [Tryz.params5] at hA hval
  obtain ⟨v0, vs0, d0, ds0, p0, q0, hargs, rfl, rfl, h0, r0⟩ := trodAll_cons hA
  obtain ⟨v1, vs1, d1, ds1, p1, q1, hargs1, rfl, rfl, h1, r1⟩ := trodAll_cons r0
  obtain ⟨rfl, rfl, rfl⟩ := trodAll_nil r1
  obtain rfl : args = #[v0, v1] := by cases args; simp_all
  obtain ⟨rfl, rfl⟩ := trodVars_none hV
  obtain ⟨a0, rfl, rfl, rfl, w0⟩ := open_float Tryz.underlying37 (hval 0 37 v0 rfl rfl) h0
  obtain ⟨a1, rfl, rfl, rfl, w1⟩ := open_int Tryz.underlying2 (hval 1 2 v1 rfl rfl) h1
  clear hA0 hval0
  simp only [List.append_nil] at hW'
  refine (walk a0 a1 W w0 w1 (tabz_of_laid hL)).mono fun e W' ⟨he, hg⟩ => ?_
  subst he
  exact ⟨_, rfl, law_end (pa := _) hW' (by simp) rfl (fun _ _ _ => (trodAll_cons_mk (shut_bool Tryz.underlying4 _) trodAll_mk0)) (fun sp hsp => (trodAll_cons_mk (shut_float Tryz.underlying37 w0) (trodAll_cons_mk (shut_int Tryz.underlying2 w1) trodAll_mk0))) rfl
    hg (ok_one (by kernel_rfl) rfl (okWide_bool_mk Tryz.underlying4 _))⟩

theorem row_proved : Rows.FnExactRootInSaid :=
  OpenClaim.holds_of_wide 5 Tryz.f5 rfl rfl rfl rfl rfl rfl rfl ⟨rfl, rfl, rfl, rfl, rfl⟩ rfl rfl rfl rfl rfl (by kernel_rfl) Tryz.func5 (by kernel_rfl)
    (of_decide_eq_true (by kernel_rfl)) (by unfold Func.isWrapper; first | (rw [if_pos (by decide +kernel)]; kernel_rfl) | (rw [if_neg (by decide +kernel)]; exact ⟨rfl, rfl⟩))
    (fun os started H enc _ => lifted os started H enc)

theorem proved : Rows.FnExactRootInCardSaid :=
  Claim7.holds_tied_plain_at .later [] [.data] true (true, "6e727386e29769653065724f4e45658b33ea3a89257ea71be0abddf81791e203") true
    row_proved (fun _ h => by cases h) (by kernel_rfl) (fun _ h => by cases h) fnExactRootIn_row_tie rfl ⟨rfl, rfl⟩ (by kernel_rfl) rfl
    (fun f fn hf hfn => by
      obtain rfl : f = 5 := Option.some.inj ((show Tryz.prog.funcNamed "loop.example/g01172/laws.FnExactRootIn" = some 5 by kernel_rfl).symm.trans hf) |>.symm
      obtain rfl : fn = Tryz.f5 := (Option.some.inj (Tryz.func5.symm.trans hfn)).symm
      exact ⟨by kernel_rfl, fun j t ht => by
        rw [Tryz.params5] at ht
        have hm : t ∈ [37, 2] := by simpa using Array.mem_of_getElem? ht
        have hall : ([37, 2].all fun u => !Tryz.prog.wantsStandIn u) = true := by kernel_rfl
        exact (show Tryz.prog.wantsStandIn t = false by simpa using List.all_eq_true.1 hall t hm)⟩)
    (by kernel_rfl)
#print axioms proved
end Go.Proofs.YtcjamfoiilgfoaaGreatDoor.fnExactRootIn
