/- FnExactRoundExpansion returns true at every slice of floats of 32 bits and every int64: the program's RoundExpansion gives the float, the flags and the code that the model gives, and changes no argument. Condition: the table math/bits.deBruijn64tab is as Go's library lays it (tied to the text). -/
import Derived.Test.YtnecnbonnidijaaDoorRows
import Derived.Test.YtnecnbonnidijaaDoorGA19
import Derived.Test.YtnecnbonnidijaaDoorGA1
import Derived.Test.YtnecnbonnidijaaDoorGA6
import Derived.Test.YtnecnbonnidijaaDoorTie
import Derived.Test.YtnecnbonnidijaaDoorCards
import Derived.SevenTiedAt
import Derived.ProofKit
import Derived.OpenShut
import Derived.Deep.RegionHeld3
namespace Go.Proofs.YtnecnbonnidijaaDoor.fnExactRoundExpansion
set_option maxRecDepth 100000
open Go Go.ChangeShapes Go.WideShapes Go.ChangeAt Go.RowKit
set_option linter.unusedVariables false
set_option linter.unusedSimpArgs false

theorem own : ownKnob Tryd.prog.godebug = none := by kernel_rfl

theorem fl_all (xs : List Nat) : ∀ u ∈ xs.map (Value.float .f32), ∃ b, u = .float .f32 b := by
  intro u hu; obtain ⟨x, _, rfl⟩ := List.mem_map.1 hu; exact ⟨x, rfl⟩
set_option maxHeartbeats 2000000 in
set_option maxRecDepth 100000 in
theorem walk (A : Option Addr) (n c : Nat) (xs : List Nat) (k : Int) (w : World) (hr : Rd w w.heap.size A (xs.map (Value.float .f32))) (hn : xs.length = n) (hb : ∀ x ∈ xs, x < 4294967296) (hk : (Lit.int .i64 k).wf = true) (hT : TabZ w) :
    Calls Tryd.prog 11 #[.slice A n c, .int .i64 k] w fun e w' => e = .returned (.bool true) ∧ Below w.heap.size w w' := by
  have Hn := Lib.hid hn
  have Hb := Lib.hid hb
  have Hr := Lib.hid hr
  have HT := Lib.hid hT
  obtain ⟨F9, hF9⟩ : ∃ F9, F9 = rxF xs k := ⟨_, rfl⟩
  obtain ⟨L9, hL9⟩ : ∃ L9, L9 = rxL xs k := ⟨_, rfl⟩
  obtain ⟨E9, hE9⟩ : ∃ E9, E9 = rxE xs k := ⟨_, rfl⟩
  have HF := Lib.hid (And.intro hF9 (And.intro hL9 hE9))
  have HFk : Hid (F9 < 4294967296 ∧ nan32 F9 = false) := Lib.hid (by rw [hF9]; exact rx_ok xs k)
  clear hF9 hL9 hE9 hk
  clear hn hb hr hT
  by_cases hbig : 1048576 < n
  · go_enter Tryd.func11, Tryd.ntmps11
    go_wp2_with fail
    go_ret
    exact ⟨rfl, Below.refl _ _⟩
  · have hm : n ≤ 1048576 := by omega
    have Hm : Hid (n ≤ 1048580) := Lib.hid (by omega)
    go_enter Tryd.func11, Tryd.ntmps11
    go_wp2_with fail
    refine (toF_any A n c _ _ Hr.out (by rw [List.length_map]; exact Hn.out) (fl_all xs) hm).mono ?_
    rintro e w0 ⟨v0, rfl, own0, bel0⟩
    obtain ⟨A0, c0, rfl⟩ := own_form own0
    have R0 := Lib.hid (Rd.own own0)
    have Bel0 := Lib.hid bel0
    clear own0 bel0
    go_wp2_with fail
    refine (specRxW_any xs A0 n c0 k _ R0.out Hn.out Hm.out Hb.out).mono ?_
    rintro e w1 ⟨rfl, hb⟩
    rw [← HF.out.1, ← HF.out.2.1, ← HF.out.2.2]
    have Bel := Lib.hid (belNext Bel0.out hb)
    clear hb Bel0 R0
    go_wp2_with fail
    refine (toF_any A n c _ _ ((Hr.out.below Bel.out).up Bel.out.size) (by rw [List.length_map]; exact Hn.out) (fl_all xs) hm).mono ?_
    rintro e w2 ⟨v1, rfl, own1, bel2⟩
    obtain ⟨A1, c1, rfl⟩ := own_form own1
    have R1 := Lib.hid (Rd.own own1)
    have Bel2 := Lib.hid (belNext Bel.out bel2)
    clear own1 bel2 Bel
    go_wp2_with fail
    refine (implRxW_any xs A1 n c1 k _ R1.out Hn.out Hm.out Hb.out (HT.out.next Bel2.out)).mono ?_
    rintro e w3 ⟨rfl, hb⟩
    rw [← HF.out.1, ← HF.out.2.1, ← HF.out.2.2]
    have R1' := Lib.hid ((R1.out.below hb).up hb.size)
    have Bel3 := Lib.hid (belNext Bel2.out hb)
    clear hb R1 Bel2
    obtain ⟨d, hd, hcv⟩ := conv_yes F9 HFk.out.1 HFk.out.2
    have Hd := Lib.hid hd
    clear hd
    go_wp2_with fail
    refine (same_yes d _ Hd.out).mono ?_
    rintro e w' ⟨rfl, rfl⟩
    go_wp2_with fail
    refine (toF_any A n c _ _ ((Hr.out.below Bel3.out).up Bel3.out.size) (by rw [List.length_map]; exact Hn.out) (fl_all xs) hm).mono ?_
    rintro e w4 ⟨v2, rfl, own2, bel3⟩
    obtain ⟨A2, c2, rfl⟩ := own_form own2
    have R2 := Lib.hid (Rd.own own2)
    have R1'' := Lib.hid ((R1'.out.below bel3).up bel3.size)
    have Bel4 := Lib.hid (belNext Bel3.out bel3)
    clear own2 bel3 Bel3 R1'
    go_wp2_with fail
    refine (eqF_yes A1 A2 n c1 c2 _ xs xs _ R1''.out R2.out Hn.out Hn.out (fun k h h' => ⟨Hb.out _ (List.getElem_mem h), Hb.out _ (List.getElem_mem h), .inl rfl⟩) hm).mono ?_
    rintro e w' ⟨rfl, q, rfl⟩
    go_wp2_with fail
    go_ret
    exact ⟨rfl, below_drewN Bel4.out _⟩

/-! the step from the walk to the given statement -/
set_option maxRecDepth 100000 in
theorem lifted (os : Os) (started : os.Started) (H : Type) (enc : TypeId × Value → H) :
    ReturnsInHanded {} Tryd.checked os 11 .any (fun w args => (Rows.fnExactRoundExpansionSpec.pre enc Tryd.prog Tryd.f11 [] false w args ∧ laidMetH Tryd.prog laidL w) ∧ sizedMet enc Tryd.prog Tryd.f11 (OpenSpec.ofChange Rows.fnExactRoundExpansionSpec) false w args) (Rows.fnExactRoundExpansionSpec.post enc Tryd.prog Tryd.f11 false true false false) := by
  refine returnsInHanded_of_change_and (C := Tryd.checked) (X := fun w _ => laidMetH Tryd.prog laidL w) (fun _ _ _ hh h => h.of_heap hh) own started (by kernel_rfl) Tryd.func11
    (ChangeSpec.witness_shaped (enc := enc) (C := Tryd.checked) (os := os) (X := fun w _ => laidMetH Tryd.prog laidL w) false (World.doorLaid Tryd.prog 14 os) #[.slice none 0 0, .int .i64 0] 8 rfl (World.shaped_of_RefB (by kernel_rfl) (by kernel_rfl)) (by kernel_rfl) (by kernel_rfl) (by kernel_rfl) (door_met os _)) ?_
  intro W base args ds gs before hval0 hW _ _ hL _
  have hval : ∀ (j : Nat) t v, Tryd.f11.params[j]? = some t → args[j]? = some v → Value.okWide Tryd.prog W .any base t v := hval0
  have hW' := hW
  obtain ⟨p, q, hA0, hV, rfl, hfz, hnd⟩ := hW
  have hA : DataW.TrodAll enc Tryd.prog W 0 (fun _ => true) true Tryd.f11.params.toList args.toList ds p := hA0
  rw [Tryd.params11] at hA hval
  obtain ⟨v0, vs0, d0, ds0, p0, q0, hargs, rfl, rfl, h0, r0⟩ := trodAll_cons hA
  obtain ⟨v1, vs1, d1, ds1, p1, q1, hargs1, rfl, rfl, h1, r1⟩ := trodAll_cons r0
  obtain ⟨rfl, rfl, rfl⟩ := trodAll_nil r1
  obtain rfl : args = #[v0, v1] := by cases args; simp_all
  obtain ⟨rfl, rfl⟩ := trodVars_none hV
  have hc0 := h0
  obtain ⟨A0, n0, c0, xs0, rfl, hr0, hl0, hx0⟩ := open_floats (hval 0 53 v0 rfl rfl) h0
  obtain ⟨a1, rfl, rfl, rfl, w1⟩ := open_int Tryd.underlying2 (hval 1 2 v1 rfl rfl) h1
  clear hA0 hval0
  simp only [List.append_nil] at hW'
  refine (walk A0 n0 c0 xs0 a1 W hr0 hl0 hx0 w1 (tabz_of_laid hL)).mono fun e W' ⟨he, hg⟩ => ?_
  subst he
  exact ⟨_, rfl, law_end (pa := _) hW' (by simp) rfl (fun _ _ _ => (trodAll_cons_mk (shut_bool Tryd.underlying4 _) trodAll_mk0)) (fun sp hsp => (trodAll_cons_mk (carryB (by kernel_rfl) (of_decide_eq_true (by kernel_rfl)) hg hc0 (fun x hx => hW'.lt x (by simp [hx])) (fun x hx => hsp x (by simp [hx]))) (trodAll_cons_mk (shut_int Tryd.underlying2 w1) trodAll_mk0))) rfl
    hg (ok_one (by kernel_rfl) rfl (okWide_bool_mk Tryd.underlying4 _))⟩

theorem row_proved : Rows.FnExactRoundExpansionSaid :=
  OpenClaim.holds_of_wide 11 Tryd.f11 rfl rfl rfl rfl rfl rfl rfl ⟨rfl, rfl, rfl, rfl, rfl⟩ rfl rfl rfl rfl rfl (by kernel_rfl) Tryd.func11 (by kernel_rfl)
    (of_decide_eq_true (by kernel_rfl)) (by unfold Func.isWrapper; first | (rw [if_pos (by decide +kernel)]; kernel_rfl) | (rw [if_neg (by decide +kernel)]; exact ⟨rfl, rfl⟩))
    (fun os started H enc _ => lifted os started H enc)

theorem proved : Rows.FnExactRoundExpansionCardSaid :=
  Claim7.holds_tied_plain_at .later [] [.data] true (true, "ef298af8e9429d058a3b92795f2aa35ea7919098cf63857fd1bcb0290a91013f") true
    row_proved (fun _ h => by cases h) (by kernel_rfl) (fun _ h => by cases h) fnExactRoundExpansion_row_tie rfl ⟨rfl, rfl⟩ (by kernel_rfl) rfl
    (fun f fn hf hfn => by
      obtain rfl : f = 11 := Option.some.inj ((show Tryd.prog.funcNamed "loop.example/g01172/laws.FnExactRoundExpansion" = some 11 by kernel_rfl).symm.trans hf) |>.symm
      obtain rfl : fn = Tryd.f11 := (Option.some.inj (Tryd.func11.symm.trans hfn)).symm
      exact ⟨by kernel_rfl, fun j t ht => by
        rw [Tryd.params11] at ht
        have hm : t ∈ [53, 2] := by simpa using Array.mem_of_getElem? ht
        have hall : ([53, 2].all fun u => !Tryd.prog.wantsStandIn u) = true := by kernel_rfl
        exact (show Tryd.prog.wantsStandIn t = false by simpa using List.all_eq_true.1 hall t hm)⟩)
    (by kernel_rfl)
#print axioms proved
end Go.Proofs.YtnecnbonnidijaaDoor.fnExactRoundExpansion
