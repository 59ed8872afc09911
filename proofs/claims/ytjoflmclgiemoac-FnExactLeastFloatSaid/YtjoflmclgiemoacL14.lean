/- FnExactLeastFloat returns true at every slice of floats of 32 bits: the program's LeastFloat gives the float and the code that the model gives, and changes no argument. No conditions. -/
import Derived.Test.YtjoflmclgiemoacRows
import Derived.Test.YtjoflmclgiemoacLe
import Derived.Test.YtjoflmclgiemoacEf
import Derived.Test.YtjoflmclgiemoacLw
import Derived.ProofKit
import Derived.OpenShut
namespace Go.Proofs.Ytjoflmclgiemoac.fnExactLeastFloat
open Go.ChangeShapes Go.WideShapes Go.ChangeAt Go.RowKit
set_option linter.unusedVariables false

theorem own : ownKnob Try.prog.godebug = none := by kernel_rfl

theorem rank_inj (b c : Nat) (hb : b < 4294967296) (hc : c < 4294967296) (h1 : nan32 b = false) (h2 : nan32 c = false) (h : rank32 b = rank32 c) : b = c := by
  unfold rank32 at h
  rw [bits32_not h1, bits32_not h2] at h
  split at h <;> split at h <;> omega

theorem least_form (xs : List Nat) (e : Ending) (hb : ∀ x ∈ xs, x < 4294967296) (h : LeastIs xs e) :
    ∃ b k, e = .returned (.tuple #[.float .f32 b, .int .i64 k]) ∧ b < 4294967296 ∧ nan32 b = false ∧ ∀ e', LeastIs xs e' → e' = e := by
  rcases h with ⟨h1, h2⟩ | ⟨h1, ⟨x, hx, hxn⟩, h2⟩ | ⟨h1, hall, m, hm, hmin, h2⟩
  · refine ⟨0, 2, h2, by decide, by decide, fun e' he => ?_⟩
    rcases he with ⟨_, g2⟩ | ⟨g1, _⟩ | ⟨g1, _⟩
    · rw [g2, h2]
    · exact absurd h1 g1
    · exact absurd h1 g1
  · refine ⟨0, 1, h2, by decide, by decide, fun e' he => ?_⟩
    rcases he with ⟨g1, _⟩ | ⟨_, _, g2⟩ | ⟨_, g, _⟩
    · exact absurd g1 h1
    · rw [g2, h2]
    · rw [g x hx] at hxn; cases hxn
  · refine ⟨m, 0, h2, hb m hm, hall m hm, fun e' he => ?_⟩
    rcases he with ⟨g1, _⟩ | ⟨_, ⟨x, hx, hxn⟩, _⟩ | ⟨_, _, m', hm', hmin', g2⟩
    · exact absurd g1 h1
    · rw [hall x hx] at hxn; cases hxn
    · have : m' = m := rank_inj _ _ (hb _ hm') (hb _ hm) (hall _ hm') (hall _ hm) (by have := hmin m' hm'; have := hmin' m hm; omega)
      rw [g2, h2, this]

set_option maxHeartbeats 1000000 in
theorem walk (A : Option Addr) (n c : Nat) (xs : List Nat) (w : World) (hr : Rd w w.heap.size A (xs.map (Value.float .f32))) (hn : xs.length = n) (hb : ∀ x ∈ xs, x < 4294967296) :
    Calls Try.prog 7 #[.slice A n c] w fun e w' => e = .returned (.bool true) ∧ Below w.heap.size w w' := by
  have Hn := Lib.hid hn
  have Hb := Lib.hid hb
  have Hr := Lib.hid hr
  clear hn hb hr
  by_cases hbig : 1048576 < n
  · go_enter Try.func7, Try.ntmps7
    go_wp2_with fail
    go_ret
    exact ⟨rfl, Below.refl _ _⟩
  · have hm : n ≤ 1048576 := by omega
    go_enter Try.func7, Try.ntmps7
    go_wp2_with fail
    refine (toF_any A n c _ _ Hr.out (by rw [List.length_map]; exact Hn.out) (by intro u hu; obtain ⟨x, _, rfl⟩ := List.mem_map.1 hu; exact ⟨x, rfl⟩) hm).mono ?_
    rintro e w0 ⟨v0, rfl, own0, bel0⟩
    obtain ⟨A0, c0, rfl⟩ := own_form own0
    have R0 := Lib.hid (Rd.own own0)
    have Bel0 := Lib.hid bel0
    clear own0 bel0
    go_wp2_with fail
    refine (specLeast_any A0 n c0 xs _ R0.out Hn.out hm Hb.out).mono ?_
    rintro e w1 ⟨hl, bel1⟩
    obtain ⟨b, k, rfl, hbl, hbn, hall⟩ := least_form xs e Hb.out hl
    have Bel1 := Lib.hid (bel1.mono Bel0.out.size)
    have Bel := Lib.hid (Bel0.out.trans Bel1.out)
    have Hall := Lib.hid hall
    have Hbl := Lib.hid hbl
    have Hbn := Lib.hid hbn
    clear hl bel1 hall hbl hbn Bel0 Bel1
    go_wp2_with fail
    refine (toF_any A n c _ _ ((Hr.out.below Bel.out).up Bel.out.size) (by rw [List.length_map]; exact Hn.out) (by intro u hu; obtain ⟨x, _, rfl⟩ := List.mem_map.1 hu; exact ⟨x, rfl⟩) hm).mono ?_
    rintro e w2 ⟨v1, rfl, own1, bel2⟩
    obtain ⟨A1, c1, rfl⟩ := own_form own1
    have R1 := Lib.hid (Rd.own own1)
    have Bel2 := Lib.hid (Bel.out.trans (bel2.mono Bel.out.size))
    clear own1 bel2 Bel
    go_wp2_with fail
    refine (implLeast_any A1 n c1 _ xs _ R1.out Hn.out hm Hb.out).mono ?_
    rintro e w' ⟨hl, rfl⟩
    rw [Hall.out e hl]
    clear hl
    obtain ⟨d, hd, hcv⟩ := conv_yes b Hbl.out Hbn.out
    have Hd := Lib.hid hd
    clear hd
    go_wp2_with fail
    refine (same_yes d _ Hd.out).mono ?_
    rintro e w' ⟨rfl, rfl⟩
    go_wp2_with fail
    refine (toF_any A n c _ _ ((Hr.out.below Bel2.out).up Bel2.out.size) (by rw [List.length_map]; exact Hn.out) (by intro u hu; obtain ⟨x, _, rfl⟩ := List.mem_map.1 hu; exact ⟨x, rfl⟩) hm).mono ?_
    rintro e w3 ⟨v2, rfl, own2, bel3⟩
    obtain ⟨A2, c2, rfl⟩ := own_form own2
    have R2 := Lib.hid (Rd.own own2)
    have R1' := Lib.hid ((R1.out.below bel3).up bel3.size)
    have Bel3 := Lib.hid (Bel2.out.trans (bel3.mono Bel2.out.size))
    clear own2 bel3 Bel2
    go_wp2_with fail
    refine (eqF_yes A1 A2 n c1 c2 _ xs xs _ R1'.out R2.out Hn.out Hn.out (fun k h h' => ⟨Hb.out _ (List.getElem_mem h), Hb.out _ (List.getElem_mem h), .inl rfl⟩) hm).mono ?_
    rintro e w' ⟨rfl, q, rfl⟩
    go_wp2_with fail
    go_ret
    exact ⟨rfl, below_drewN Bel3.out _⟩

/-! the step from the walk to the given statement -/
set_option maxRecDepth 100000 in
theorem lifted (os : Os) (started : os.Started) (H : Type) (enc : TypeId × Value → H) :
    ReturnsInHanded {} Try.checked os 7 .any (Rows.fnExactLeastFloatSpec.pre6 enc Try.prog Try.f7 Rows.fnExactLeastFloatRow.domain false) (Rows.fnExactLeastFloatSpec.post enc Try.prog Try.f7 false true false false) := by
  refine returnsInHanded_of_change (C := Try.checked) own started (by kernel_rfl) Try.func7
    (ChangeSpec.witness6 (enc := enc) (C := Try.checked) false ⟨#[], #[.slice none 0 0], []⟩ 8 (by kernel_rfl) (by kernel_rfl) (by kernel_rfl) (by kernel_rfl)) ?_
  intro W base args ds gs before hval0 hW hcnd _
  have hval : ∀ (j : Nat) t v, Try.f7.params[j]? = some t → args[j]? = some v → Value.okWide Try.prog W .any base t v := hval0
  have hW' := hW
  obtain ⟨p, q, hA0, hV, rfl, hfz, hnd⟩ := hW
  have hA : DataW.TrodAll enc Try.prog W 0 (fun _ => true) true Try.f7.params.toList args.toList ds p := hA0
  rw [Try.params7] at hA hval
  obtain ⟨v0, vs0, d0, ds0, p0, q0, hargs, rfl, rfl, h0, r0⟩ := trodAll_cons hA
  obtain ⟨rfl, rfl, rfl⟩ := trodAll_nil r0
  obtain rfl : args = #[v0] := by cases args; simp_all
  obtain ⟨rfl, rfl⟩ := trodVars_none hV
  have hc0 := h0
  obtain ⟨A0, n0, c0, xs0, rfl, hr0, hl0, hx0⟩ := open_floats (hval 0 32 v0 rfl rfl) h0
  clear hA0 hval0
  simp only [List.append_nil] at hW'
  refine (walk A0 n0 c0 xs0 W hr0 hl0 hx0).mono fun e W' ⟨he, hg⟩ => ?_
  subst he
  exact ⟨_, rfl, law_end (pa := _) hW' (by simp) rfl (fun _ _ _ => (trodAll_cons_mk (shut_bool Try.underlying4 _) trodAll_mk0)) (fun sp hsp => (trodAll_cons_mk (carryB (by kernel_rfl) (of_decide_eq_true (by kernel_rfl)) hg hc0 (fun x hx => hW'.lt x (by simp [hx])) (fun x hx => hsp x (by simp [hx]))) trodAll_mk0)) rfl
    hg (ok_one (by kernel_rfl) rfl (okWide_bool_mk Try.underlying4 _))⟩

theorem proved : Rows.FnExactLeastFloatSaid :=
  OpenClaim.holds_of_wide 7 Try.f7 rfl rfl rfl rfl rfl rfl rfl ⟨rfl, rfl, rfl, rfl, rfl⟩ rfl rfl rfl rfl rfl (by kernel_rfl) Try.func7 (by kernel_rfl)
    (of_decide_eq_true (by kernel_rfl)) (by unfold Func.isWrapper; first | (rw [if_pos (by decide +kernel)]; kernel_rfl) | (rw [if_neg (by decide +kernel)]; exact ⟨rfl, rfl⟩))
    (fun os started H enc _ => lifted os started H enc)
#print axioms proved
end Go.Proofs.Ytjoflmclgiemoac.fnExactLeastFloat
