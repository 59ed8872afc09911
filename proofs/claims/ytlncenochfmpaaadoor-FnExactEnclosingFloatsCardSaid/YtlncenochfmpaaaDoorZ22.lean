/- FnExactEnclosingFloats returns true at every exact number of the laws: the program's EnclosingFloats gives the two floats and the code that the model gives, and changes no argument. Condition: the table math/bits.deBruijn64tab is as Go's library lays it (tied to the text). -/
import Derived.Test.YtlncenochfmpaaaDoorRows
import Derived.Test.YtlncenochfmpaaaDoorG1
import Derived.Test.YtlncenochfmpaaaDoorG8
import Derived.Test.YtlncenochfmpaaaDoorG6
import Derived.Test.YtlncenochfmpaaaDoorTie
import Derived.Test.YtlncenochfmpaaaDoorCards
import Derived.SevenTiedAt
import Derived.ProofKit
import Derived.OpenShut
import Derived.Deep.RegionHeld3
namespace Go.Proofs.YtlncenochfmpaaaDoor.fnExactEnclosingFloats
set_option maxRecDepth 100000
open Go Go.ChangeShapes Go.WideShapes Go.ChangeAt Go.RowKit
set_option linter.unusedVariables false
set_option linter.unusedSimpArgs false

theorem own : ownKnob Tryd.prog.godebug = none := by kernel_rfl

set_option maxHeartbeats 16000000 in
set_option maxRecDepth 100000 in
theorem walk (s0 : Int) (A0 : Option Addr) (n0 c0 : Nat) (xs0 : List Int) (E0 : Int) (w : World) (hr0 : Rd w w.heap.size A0 (vi xs0)) (hl0 : xs0.length = n0 ∧ (n0 : Int) ≤ 9223372036854775807) (hx0 : ∀ x ∈ xs0, -9223372036854775808 ≤ x ∧ x ≤ 9223372036854775807) (hT : TabZ w) :
    Calls Tryd.prog 5 #[.agg #[.int .i64 s0, .slice A0 n0 c0, .int .i64 E0]] w fun e w' => e = .returned (.bool true) ∧ Below w.heap.size w w' := by
  have Hn0 := Lib.hid hl0.1
  have Hm0 := Lib.hid hl0.2
  have Hr0 := Lib.hid hr0
  have HT := Lib.hid hT
  have Hbig0 : Hid ((1048576 : Int) < n0 ∨ ((n0 : Int) ≤ 1048576 ∧ n0 ≤ 1048576 ∧ n0 ≤ 1048580)) := Lib.hid (by have := hl0; omega)
  clear hr0 hl0 hx0 hT
  obtain ⟨F, hF⟩ : ∃ F, F = enRF s0 xs0 E0 1 := ⟨_, rfl⟩
  obtain ⟨G, hG⟩ : ∃ G, G = enRF s0 xs0 E0 2 := ⟨_, rfl⟩
  obtain ⟨CD, hCD⟩ : ∃ CD, CD = enRE s0 xs0 E0 := ⟨_, rfl⟩
  have hok : F < 4294967296 ∧ nan32 F = false := by rw [hF]; exact enRF_ok _ _ _ _
  have hok2 : G < 4294967296 ∧ nan32 G = false := by rw [hG]; exact enRF_ok _ _ _ _
  have HF := Lib.hid hF
  have HG := Lib.hid hG
  have HCD := Lib.hid hCD
  obtain ⟨cF, hcF, hvF⟩ := conv_yes F hok.1 hok.2
  have HcF := Lib.hid hcF
  clear hcF
  obtain ⟨cG, hcG, hvG⟩ := conv_yes G hok2.1 hok2.2
  have HcG := Lib.hid hcG
  clear hcG
  clear hF hG hCD hok hok2
  go_enter Tryd.func5, Tryd.ntmps5
  go_wp2_with fail
  obtain ⟨w0, hw0⟩ : ∃ w0, w0 = w.alloc (.cells #[.int .i64 s0, .slice A0 n0 c0, .int .i64 E0] 35) := ⟨_, rfl⟩
  rw [← hw0]
  have Bel_0 : Hid (Below w.heap.size w w0) := Lib.hid (by rw [hw0]; exact belAlloc1 _ _)
  have Bx0_0 : Hid (DBox w0 w.heap.size s0 A0 n0 c0 E0) := Lib.hid (by rw [hw0]; exact DBox.new _ _ _ _ _ _ _)
  have Ra0_0 : Hid (Rt w0 w.heap.size A0 (vi xs0)) := Lib.hid ⟨Hr0.out.below Bel_0.out, Bel_0.out.size⟩
  clear hw0 Hr0
  rcases Hbig0.out with hbig | ⟨hle1, hle2, hle3⟩
  · clear Hbig0
    have Hb0 := Lib.hid hbig
    clear hbig
    obtain ⟨⟨hx01, hx02, hx03⟩, hx04⟩ := Bx0_0.out
    refine (szD_no s0 A0 n0 c0 E0 _ _ Hb0.out (by decide) (by decide) Hm0.out).mono ?_
    rintro e w1 ⟨rfl, hb⟩
    have Bel_1 := Lib.hid (belNext Bel_0.out hb)
    have Bx0_1 := Lib.hid (Bx0_0.out.next hb)
    have Ra0_1 := Lib.hid (Ra0_0.out.next hb)
    clear hb Bel_0 Bx0_0 Ra0_0 hx01 hx02 hx03 hx04
    go_wp2_with fail
    go_ret
    exact ⟨rfl, Bel_1.out⟩
  · clear Hbig0
    have Hl0 := Lib.hid hle1
    have Hle0 := Lib.hid hle2
    have Hk0 := Lib.hid hle3
    clear hle2 hle3
    have Hs0 : Hid ((n0 : Int) ≤ 1048576) := Lib.hid Hl0.out
    obtain ⟨⟨hx01, hx02, hx03⟩, hx04⟩ := Bx0_0.out
    refine (szD_yes s0 A0 n0 c0 E0 _ _ Hs0.out (by decide)).mono ?_
    rintro e w1 ⟨rfl, hb⟩
    have Bel_1 := Lib.hid (belNext Bel_0.out hb)
    have Bx0_1 := Lib.hid (Bx0_0.out.next hb)
    have Ra0_1 := Lib.hid (Ra0_0.out.next hb)
    clear hb Bel_0 Bx0_0 Ra0_0 hx01 hx02 hx03 hx04
    obtain ⟨⟨hx01, hx02, hx03⟩, hx04⟩ := Bx0_1.out
    go_wp2_with fail
    refine (toD2_any s0 A0 n0 c0 E0 xs0 _ _ Ra0_1.out.1 Ra0_1.out.2 Hn0.out Hle0.out).mono ?_
    rintro e w2 ⟨Ba, da, rfl, ho, hb, hcp⟩
    have Own := Lib.hid (Ot.new ho)
    have Cpa := Lib.hid hcp
    clear ho hcp
    have Bel_2 := Lib.hid (belNext Bel_1.out hb)
    have Bx0_2 := Lib.hid (Bx0_1.out.next hb)
    have Ra0_2 := Lib.hid (Ra0_1.out.next hb)
    clear hb Bel_1 Bx0_1 Ra0_1 hx01 hx02 hx03 hx04
    obtain ⟨⟨hx01, hx02, hx03⟩, hx04⟩ := Bx0_2.out
    have Owa_2 := Own
    clear Own
    go_wp2_with fail
    refine (specEncW_any s0 Ba n0 da xs0 E0 _ Owa_2.out.rt.all Hn0.out Hk0.out Cpa.out).mono ?_
    rintro e w3 ⟨rfl, hb⟩
    rw [← HF.out, ← HG.out, ← HCD.out]
    have Bel_3 := Lib.hid (belNext Bel_2.out hb)
    have Bx0_3 := Lib.hid (Bx0_2.out.next hb)
    have Ra0_3 := Lib.hid (Ra0_2.out.next hb)
    have Owa_3 := Lib.hid (Owa_2.out.next hb)
    clear hb Bel_2 Bx0_2 Ra0_2 Owa_2 hx01 hx02 hx03 hx04
    obtain ⟨⟨hx01, hx02, hx03⟩, hx04⟩ := Bx0_3.out
    go_wp2_with fail
    clear Owa_3
    refine (toD2_any s0 A0 n0 c0 E0 xs0 _ _ Ra0_3.out.1 Ra0_3.out.2 Hn0.out Hle0.out).mono ?_
    rintro e w4 ⟨Bx, dx, rfl, ho, hb, hcp⟩
    have Own := Lib.hid (Ot.new ho)
    have Cpx := Lib.hid hcp
    clear ho hcp
    have Bel_4 := Lib.hid (belNext Bel_3.out hb)
    have Bx0_4 := Lib.hid (Bx0_3.out.next hb)
    have Ra0_4 := Lib.hid (Ra0_3.out.next hb)
    clear hb Bel_3 Bx0_3 Ra0_3 hx01 hx02 hx03 hx04
    obtain ⟨⟨hx01, hx02, hx03⟩, hx04⟩ := Bx0_4.out
    have Owx_4 := Own
    clear Own
    go_wp2_with fail
    obtain ⟨w5, hw⟩ : ∃ w5, w5 = w4.alloc (.cells #[.int .i64 s0, .slice Bx n0 dx, .int .i64 E0] 27) := ⟨_, rfl⟩
    rw [← hw]
    have hb : Below w4.heap.size w4 w5 := by rw [hw]; exact belAlloc1 _ _
    have Bnew : Hid (DBox w5 w4.heap.size s0 Bx n0 dx E0) := Lib.hid (by rw [hw]; exact DBox.new _ _ _ _ _ _ _)
    clear hw
    have Bel_5 := Lib.hid (belNext Bel_4.out hb)
    have Bx0_5 := Lib.hid (Bx0_4.out.next hb)
    have Ra0_5 := Lib.hid (Ra0_4.out.next hb)
    have Owx_5 := Lib.hid (Owx_4.out.next hb)
    clear hb Bel_4 Bx0_4 Ra0_4 Owx_4 hx01 hx02 hx03 hx04
    have Bxx_5 := Bnew
    clear Bnew
    obtain ⟨⟨hx01, hx02, hx03⟩, hx04⟩ := Bx0_5.out
    obtain ⟨⟨hxx1, hxx2, hxx3⟩, hxx4⟩ := Bxx_5.out
    refine (implEncW_any s0 Bx n0 dx xs0 E0 _ Owx_5.out.rt.all Hn0.out Hk0.out Cpx.out (HT.out.next Bel_5.out)).mono ?_
    rintro e w6 ⟨rfl, hb⟩
    rw [← HF.out, ← HG.out, ← HCD.out]
    have Bel_6 := Lib.hid (belNext Bel_5.out hb)
    have Bx0_6 := Lib.hid (Bx0_5.out.next hb)
    have Bxx_6 := Lib.hid (Bxx_5.out.next hb)
    have Ra0_6 := Lib.hid (Ra0_5.out.next hb)
    have Owx_6 := Lib.hid (Owx_5.out.next hb)
    clear hb Bel_5 Bx0_5 Bxx_5 Ra0_5 Owx_5 hx01 hx02 hx03 hx04 hxx1 hxx2 hxx3 hxx4
    obtain ⟨⟨hx01, hx02, hx03⟩, hx04⟩ := Bx0_6.out
    obtain ⟨⟨hxx1, hxx2, hxx3⟩, hxx4⟩ := Bxx_6.out
    go_wp2_with fail
    refine (same_yes cF _ HcF.out).mono ?_
    rintro e w9 ⟨rfl, rfl⟩
    go_wp2_with fail
    refine (same_yes cG _ HcG.out).mono ?_
    rintro e w9 ⟨rfl, rfl⟩
    go_wp2_with fail
    refine wp_region_held_drew (S := fun w' => (w'.cell? ⟨w.heap.size, 0, none⟩ = some (.int .i64 s0) ∧ w'.cell? ⟨w.heap.size, 1, none⟩ = some (.slice A0 n0 c0) ∧ w'.cell? ⟨w.heap.size, 2, none⟩ = some (.int .i64 E0)) ∧ (w'.cell? ⟨w4.heap.size, 0, none⟩ = some (.int .i64 s0) ∧ w'.cell? ⟨w4.heap.size, 1, none⟩ = some (.slice Bx n0 dx) ∧ w'.cell? ⟨w4.heap.size, 2, none⟩ = some (.int .i64 E0))) (by kernel_rfl) ⟨Bx0_6.out.1, Bxx_6.out.1⟩ (fun hHeld => ?_)
    clear hx01 hx02 hx03 hx04 hxx1 hxx2 hxx3 hxx4
    refine wpAnyH_take (i := 0) (v := ?_) rfl (by kernel_rfl) (by kernel_rfl) (by kernel_rfl) (fun _ _ _ h => h) (Or.inl ⟨by rfl, ?_⟩) (by assumption) ?_
    rotate_left
    · (intro w hSw; (try dsimp only at hSw); go_simp; (try with_reducible rfl))
    try simp only [Act.put, List.setIfInBounds_toArray, List.set_cons_zero, List.set_cons_succ]
    refine wpAnyH_take (i := 1) (v := ?_) rfl (by kernel_rfl) (by kernel_rfl) (by kernel_rfl) (fun _ _ _ h => h) (Or.inl ⟨by rfl, ?_⟩) (by assumption) ?_
    rotate_left
    · (intro w hSw; (try dsimp only at hSw); go_simp; (try with_reducible rfl))
    try simp only [Act.put, List.setIfInBounds_toArray, List.set_cons_zero, List.set_cons_succ]
    refine wpAnyH_ready (rs := [2]) (by kernel_rfl) (by simp) ?_
    refine AllReadyH.cons rfl (fun K hK => ?_) AllReadyH.nil
    go_simp
    refine (toD_any s0 A0 n0 c0 E0 xs0 w6.drew _ Ra0_6.out.1 Ra0_6.out.2 Hn0.out Hle0.out).mono ?_
    rintro e w7 ⟨Bh, dh, rfl, ho, hb0⟩
    have hb : Below w6.heap.size w6 w7 := belDrew hb0
    refine hK.out _ _ ⟨(Bx0_6.out.next hb).1, (Bxx_6.out.next hb).1⟩ (fun hHeld => ?_)
    have Own := Lib.hid (Ot.new ho)
    clear ho
    clear hK K hb0
    have Bel_7 := Lib.hid (belNext Bel_6.out hb)
    have Bx0_7 := Lib.hid (Bx0_6.out.next hb)
    have Bxx_7 := Lib.hid (Bxx_6.out.next hb)
    have Ra0_7 := Lib.hid (Ra0_6.out.next hb)
    have Owx_7 := Lib.hid (Owx_6.out.next hb)
    clear hb Bel_6 Bx0_6 Bxx_6 Ra0_6 Owx_6
    try simp only [Act.put, List.setIfInBounds_toArray, List.set_cons_zero, List.set_cons_succ]
    refine wpAnyH_ready (rs := [3]) (by kernel_rfl) (by simp) ?_
    refine AllReadyH.cons rfl (fun K hK => ?_) AllReadyH.nil
    go_simp
    refine (eqD_yes s0 Bx Bh n0 dx dh _ _ E0 xs0 _ Owx_7.out.rt.1 Own.out.rt.1 Owx_7.out.rt.2 Own.out.rt.2 Hn0.out Hle0.out).mono ?_
    rintro e w8 ⟨rfl, hb0⟩
    have hb : Below w7.heap.size w7 w8 := hb0
    refine hK.out _ _ ⟨(Bx0_7.out.next hb).1, (Bxx_7.out.next hb).1⟩ (fun hHeld => ?_)
    clear Own
    clear hK K hb0
    have Bel_8 := Lib.hid (belNext Bel_7.out hb)
    have Bx0_8 := Lib.hid (Bx0_7.out.next hb)
    have Bxx_8 := Lib.hid (Bxx_7.out.next hb)
    have Ra0_8 := Lib.hid (Ra0_7.out.next hb)
    have Owx_8 := Lib.hid (Owx_7.out.next hb)
    clear hb Bel_7 Bx0_7 Bxx_7 Ra0_7 Owx_7
    try simp only [Act.put, List.setIfInBounds_toArray, List.set_cons_zero, List.set_cons_succ]
    refine wpAnyH_ready (rs := [4]) (by kernel_rfl) (by simp) ?_
    refine AllReadyH.cons rfl (fun K hK => ?_) AllReadyH.nil
    go_simp
    refine hK.out _ _ hHeld (fun hHeld => ?_)
    clear hK K
    try simp only [Act.put, List.setIfInBounds_toArray, List.set_cons_zero, List.set_cons_succ]
    refine wpAnyH_done (by kernel_rfl) ?_ _
    clear hHeld
    obtain ⟨⟨hx01, hx02, hx03⟩, hx04⟩ := Bx0_8.out
    obtain ⟨⟨hxx1, hxx2, hxx3⟩, hxx4⟩ := Bxx_8.out
    go_wp2_with fail
    go_ret
    exact ⟨rfl, Bel_8.out⟩

/-! the step from the walk to the given statement -/
set_option maxRecDepth 100000 in
theorem lifted (os : Os) (started : os.Started) (H : Type) (enc : TypeId × Value → H) :
    ReturnsInHanded {} Tryd.checked os 5 .any (fun w args => (Rows.fnExactEnclosingFloatsSpec.pre enc Tryd.prog Tryd.f5 [] false w args ∧ laidMetH Tryd.prog laidL w) ∧ sizedMet enc Tryd.prog Tryd.f5 (OpenSpec.ofChange Rows.fnExactEnclosingFloatsSpec) false w args) (Rows.fnExactEnclosingFloatsSpec.post enc Tryd.prog Tryd.f5 false true false false) := by
  refine returnsInHanded_of_change_and (C := Tryd.checked) (X := fun w _ => laidMetH Tryd.prog laidL w) (fun _ _ _ hh h => h.of_heap hh) own started (by kernel_rfl) Tryd.func5
    (ChangeSpec.witness_shaped (enc := enc) (C := Tryd.checked) (os := os) (X := fun w _ => laidMetH Tryd.prog laidL w) false (World.doorLaid Tryd.prog 14 os) #[.agg #[.int .i64 0, .slice none 0 0, .int .i64 0]] 8 rfl (World.shaped_of_RefB (by kernel_rfl) (by kernel_rfl)) (by kernel_rfl) (by kernel_rfl) (by kernel_rfl) (door_met os _)) ?_
  intro W base args ds gs before hval0 hW _ _ hL _
  have hval : ∀ (j : Nat) t v, Tryd.f5.params[j]? = some t → args[j]? = some v → Value.okWide Tryd.prog W .any base t v := hval0
  have hW' := hW
  obtain ⟨p, q, hA0, hV, rfl, hfz, hnd⟩ := hW
  have hA : DataW.TrodAll enc Tryd.prog W 0 (fun _ => true) true Tryd.f5.params.toList args.toList ds p := hA0
  rw [Tryd.params5] at hA hval
  obtain ⟨v0, vs0, d0, ds0, p0, q0, hargs, rfl, rfl, h0, r0⟩ := trodAll_cons hA
  obtain ⟨rfl, rfl, rfl⟩ := trodAll_nil r0
  obtain rfl : args = #[v0] := by cases args; simp_all
  obtain ⟨rfl, rfl⟩ := trodVars_none hV
  have hc0 := h0
  obtain ⟨s0, A0, n0, c0, xs0, E0, rfl, hr0, hl0, hx0⟩ := open_dyadic (hval 0 35 v0 rfl rfl) h0
  clear hA0 hval0
  simp only [List.append_nil] at hW'
  refine (walk s0 A0 n0 c0 xs0 E0 W hr0 hl0 hx0 (tabz_of_laid hL)).mono fun e W' ⟨he, hg⟩ => ?_
  subst he
  exact ⟨_, rfl, law_end (pa := _) hW' (by simp) rfl (fun _ _ _ => (trodAll_cons_mk (shut_bool Tryd.underlying4 _) trodAll_mk0)) (fun sp hsp => (trodAll_cons_mk (carryB (by kernel_rfl) (of_decide_eq_true (by kernel_rfl)) hg hc0 (fun x hx => hW'.lt x (by simp [hx])) (fun x hx => hsp x (by simp [hx]))) trodAll_mk0)) rfl
    hg (ok_one (by kernel_rfl) rfl (okWide_bool_mk Tryd.underlying4 _))⟩

theorem row_proved : Rows.FnExactEnclosingFloatsSaid :=
  OpenClaim.holds_of_wide 5 Tryd.f5 rfl rfl rfl rfl rfl rfl rfl ⟨rfl, rfl, rfl, rfl, rfl⟩ rfl rfl rfl rfl rfl (by kernel_rfl) Tryd.func5 (by kernel_rfl)
    (of_decide_eq_true (by kernel_rfl)) (by unfold Func.isWrapper; first | (rw [if_pos (by decide +kernel)]; kernel_rfl) | (rw [if_neg (by decide +kernel)]; exact ⟨rfl, rfl⟩))
    (fun os started H enc _ => lifted os started H enc)

theorem proved : Rows.FnExactEnclosingFloatsCardSaid :=
  Claim7.holds_tied_plain_at .later [] [.data] true (true, "05b3c6088588d9bdb862f6bee5f1317182e23f8bd930614ff854484be8ef9bf5") true
    row_proved (fun _ h => by cases h) (by kernel_rfl) (fun _ h => by cases h) fnExactEnclosingFloats_row_tie rfl ⟨rfl, rfl⟩ (by kernel_rfl) rfl
    (fun f fn hf hfn => by
      obtain rfl : f = 5 := Option.some.inj ((show Tryd.prog.funcNamed "loop.example/g01172/laws.FnExactEnclosingFloats" = some 5 by kernel_rfl).symm.trans hf) |>.symm
      obtain rfl : fn = Tryd.f5 := (Option.some.inj (Tryd.func5.symm.trans hfn)).symm
      exact ⟨by kernel_rfl, fun j t ht => by
        rw [Tryd.params5] at ht
        have hm : t ∈ [35] := by simpa using Array.mem_of_getElem? ht
        have hall : ([35].all fun u => !Tryd.prog.wantsStandIn u) = true := by kernel_rfl
        exact (show Tryd.prog.wantsStandIn t = false by simpa using List.all_eq_true.1 hall t hm)⟩)
    (by kernel_rfl)
#print axioms proved
end Go.Proofs.YtlncenochfmpaaaDoor.fnExactEnclosingFloats
