/- FnExactIsWhole returns true at every whole number of the laws: the program's IsWhole gives the answer that the model gives, and changes no argument. No conditions. -/
import Derived.Test.YtmabnnnpjpnhcaaRows
import Derived.Test.YtmabnnnpjpnhcaaLx
import Derived.ProofKit
import Derived.OpenShut
import Derived.Deep.RegionHeld3
namespace Go.Proofs.Ytmabnnnpjpnhcaa.fnExactIsWhole
open Go.ChangeShapes Go.WideShapes Go.ChangeAt Go.RowKit
set_option linter.unusedVariables false
set_option linter.unusedSimpArgs false

theorem own : ownKnob Try.prog.godebug = none := by kernel_rfl

set_option maxHeartbeats 1000000 in
theorem walk (s : Int) (A : Option Addr) (n c : Nat) (xs : List Int) (w : World) (hr : Rd w w.heap.size A (vi xs)) (hl : xs.length = n ∧ (n : Int) ≤ 9223372036854775807) (hx : ∀ x ∈ xs, -9223372036854775808 ≤ x ∧ x ≤ 9223372036854775807) :
    Calls Try.prog 3 #[.agg #[.int .i64 s, .slice A n c]] w fun e w' => e = .returned (.bool true) ∧ Below w.heap.size w w' := by
  have Hn := Lib.hid hl.1
  have Hm := Lib.hid hl.2
  have Hr := Lib.hid hr
  clear hl hr hx
  have Hbig : Hid ((1048576 : Int) < n ∨ ((n : Int) ≤ 1048576 ∧ n ≤ 1048576 ∧ n ≤ 1048580)) := Lib.hid (by omega)
  go_enter Try.func3, Try.ntmps3
  go_wp2_with fail
  obtain ⟨w0, hw0⟩ : ∃ w0, w0 = w.alloc (.cells #[.int .i64 s, .slice A n c] 24) := ⟨_, rfl⟩
  rw [← hw0]
  have Bel0 : Hid (Below w.heap.size w w0) := Lib.hid (by rw [hw0]; exact belAlloc1 _ _)
  have Bx0 : Hid (Box w0 w.heap.size s A n c) := Lib.hid (by rw [hw0]; exact Box.new _ _ _ _ _ _)
  have Ra0 : Hid (Rt w0 w.heap.size A (vi xs)) := Lib.hid ⟨Hr.out.below Bel0.out, Bel0.out.size⟩
  clear hw0 Hr
  rcases Hbig.out with hbig | ⟨hle1, hle2, hle3⟩
  · clear Hbig
    have Hbig := Lib.hid hbig
    clear hbig
    obtain ⟨⟨hx1, hx2⟩, _⟩ := Bx0.out
    refine (szW_no s A n c _ _ Hbig.out (by decide) (by decide) Hm.out).mono ?_
    rintro e w1 ⟨rfl, hb1⟩
    have Bel1 := Lib.hid (belNext Bel0.out hb1)
    clear hb1
    go_wp2_with fail
    go_ret
    exact ⟨rfl, Bel1.out⟩
  · clear Hbig
    have H1 := Lib.hid hle1
    have H2 := Lib.hid hle2
    have H3 := Lib.hid hle3
    clear hle2 hle3
    refine (szW_yes s A n c _ _ H1.out (by decide)).mono ?_
    rintro e w1 ⟨rfl, hb⟩
    have Bel1 := Lib.hid (belNext Bel0.out hb)
    have Bx1 := Lib.hid (Bx0.out.next hb)
    have Ra1 := Lib.hid (Ra0.out.next hb)
    clear hb Bel0 Bx0 Ra0
    obtain ⟨⟨hx1, hx2⟩, _⟩ := Bx1.out
    go_wp2_with fail
    refine (toW_any s A n c xs _ _ Ra1.out.1 Ra1.out.2 Hn.out H2.out).mono ?_
    rintro e w2 ⟨A2, c2, rfl, ho, hb⟩
    have Bel2 := Lib.hid (belNext Bel1.out hb)
    have Bx2 := Lib.hid (Bx1.out.next hb)
    have Ra2 := Lib.hid (Ra1.out.next hb)
    have O2 := Lib.hid (Ot.new ho)
    clear ho hb Bel1 Bx1 Ra1 hx1 hx2
    obtain ⟨⟨hx1, hx2⟩, _⟩ := Bx2.out
    go_wp2_with fail
    refine (specIsW_any s A2 n c2 xs _ O2.out.rt.all Hn.out H3.out).mono ?_
    rintro e w3 ⟨rfl, hb⟩
    have Bel3 := Lib.hid (belNext Bel2.out hb)
    have Bx3 := Lib.hid (Bx2.out.next hb)
    have Ra3 := Lib.hid (Ra2.out.next hb)
    clear hb Bel2 Bx2 Ra2 hx1 hx2 O2
    obtain ⟨⟨hx1, hx2⟩, _⟩ := Bx3.out
    go_wp2_with fail
    refine (toW_any s A n c xs _ _ Ra3.out.1 Ra3.out.2 Hn.out H2.out).mono ?_
    rintro e w4 ⟨A4, c4, rfl, ho, hb⟩
    have Bel4 := Lib.hid (belNext Bel3.out hb)
    have Bx4 := Lib.hid (Bx3.out.next hb)
    have Ra4 := Lib.hid (Ra3.out.next hb)
    have O4 := Lib.hid (Ot.new ho)
    clear ho hb Bel3 Bx3 Ra3 hx1 hx2
    obtain ⟨⟨hx1, hx2⟩, _⟩ := Bx4.out
    go_wp2_with fail
    obtain ⟨w5, hw5⟩ : ∃ w5, w5 = w4.alloc (.cells #[.int .i64 s, .slice A4 n c4] 27) := ⟨_, rfl⟩
    rw [← hw5]
    have hb : Below w4.heap.size w4 w5 := by rw [hw5]; exact belAlloc1 _ _
    have By5 : Hid (Box w5 w4.heap.size s A4 n c4) := Lib.hid (by rw [hw5]; exact Box.new _ _ _ _ _ _)
    have Bel5 := Lib.hid (belNext Bel4.out hb)
    have Bx5 := Lib.hid (Bx4.out.next hb)
    have Ra5 := Lib.hid (Ra4.out.next hb)
    have O5 := Lib.hid (O4.out.next hb)
    clear hb hw5 Bel4 Bx4 Ra4 O4 hx1 hx2
    refine (implIsW_any s A4 n c4 xs _ O5.out.rt.all Hn.out H3.out).mono ?_
    rintro e w6 ⟨rfl, hb⟩
    have Bel6 := Lib.hid (belNext Bel5.out hb)
    have Bx6 := Lib.hid (Bx5.out.next hb)
    have By6 := Lib.hid (By5.out.next hb)
    have Ra6 := Lib.hid (Ra5.out.next hb)
    have O6 := Lib.hid (O5.out.next hb)
    clear hb Bel5 Bx5 By5 Ra5 O5
    obtain ⟨⟨hx1, hx2⟩, _⟩ := Bx6.out
    obtain ⟨⟨hy1, hy2⟩, _⟩ := By6.out
    go_wp2_with fail
    refine wp_region_held_drew (S := fun w' => (w'.cell? ⟨w.heap.size, 0, none⟩ = some (.int .i64 s) ∧ w'.cell? ⟨w.heap.size, 1, none⟩ = some (.slice A n c)) ∧ (w'.cell? ⟨w4.heap.size, 0, none⟩ = some (.int .i64 s) ∧ w'.cell? ⟨w4.heap.size, 1, none⟩ = some (.slice A4 n c4))) (by kernel_rfl) ⟨⟨hx1, hx2⟩, hy1, hy2⟩ (fun hHeld => ?_)
    clear hx1 hx2 hy1 hy2
    refine wpAnyH_take (i := 0) (v := ?_) rfl (by kernel_rfl) (by kernel_rfl) (by kernel_rfl) (fun _ _ _ h => h) (Or.inl ⟨by rfl, ?_⟩) (by assumption) ?_
    rotate_left
    · (intro w hSw; (try dsimp only at hSw); go_simp; (try with_reducible rfl))
    try simp only [Act.put, List.setIfInBounds_toArray, List.set_cons_zero, List.set_cons_succ]
    refine wpAnyH_take (i := 1) (v := ?_) rfl (by kernel_rfl) (by kernel_rfl) (by kernel_rfl) (fun _ _ _ h => h) (Or.inl ⟨by rfl, ?_⟩) (by assumption) ?_
    rotate_left
    · (intro w hSw; (try dsimp only at hSw); go_simp; (try with_reducible rfl))
    try simp only [Act.put, List.setIfInBounds_toArray, List.set_cons_zero, List.set_cons_succ]
    refine wpAnyH_ready (rs := [2]) (by kernel_rfl) (by simp) ?_
    refine AllReadyH.cons rfl (fun K hK => ?_) AllReadyH.nil
    go_simp
    refine (toW_any s A n c xs w6.drew w.heap.size Ra6.out.1 Ra6.out.2 Hn.out H2.out).mono ?_
    rintro e w7 ⟨A7, c7, rfl, ho7, hb7'⟩
    have hb7 := belDrew hb7'
    have O7 := Lib.hid (Ot.new ho7)
    have O67 := Lib.hid (O6.out.next hb7)
    have Bel7 := Lib.hid (belNext Bel6.out hb7)
    refine hK.out _ _ ⟨(Bx6.out.next hb7).1, (By6.out.next hb7).1⟩ (fun hHeld => ?_)
    have Bx7 := Lib.hid (Bx6.out.next hb7)
    have By7 := Lib.hid (By6.out.next hb7)
    clear hK K hb7 hb7' ho7
    try simp only [Act.put, List.setIfInBounds_toArray, List.set_cons_zero, List.set_cons_succ]
    refine wpAnyH_ready (rs := [3]) (by kernel_rfl) (by simp) ?_
    refine AllReadyH.cons rfl (fun K hK => ?_) AllReadyH.nil
    go_simp
    refine (eqW_yes s A4 A7 n c4 c7 w7.heap.size w7.heap.size xs _ O67.out.rt.all O7.out.rt.all (Nat.le_refl _) (Nat.le_refl _) Hn.out H2.out).mono ?_
    rintro e w8 ⟨rfl, hb8⟩
    have Bel8 := Lib.hid (belNext Bel7.out hb8)
    refine hK.out _ _ ⟨(Bx7.out.next hb8).1, (By7.out.next hb8).1⟩ (fun hHeld => ?_)
    clear hK K hb8
    try simp only [Act.put, List.setIfInBounds_toArray, List.set_cons_zero, List.set_cons_succ]
    refine wpAnyH_ready (rs := [4]) (by kernel_rfl) (by simp) ?_
    refine AllReadyH.cons rfl (fun K hK => ?_) AllReadyH.nil
    go_simp
    refine hK.out _ _ hHeld (fun hHeld => ?_)
    clear hK K
    try simp only [Act.put, List.setIfInBounds_toArray, List.set_cons_zero, List.set_cons_succ]
    refine wpAnyH_done (by kernel_rfl) ?_ _
    clear hHeld
    go_wp2_with fail
    go_ret
    exact ⟨rfl, Bel8.out⟩

/-! the step from the walk to the given statement -/
set_option maxRecDepth 100000 in
theorem lifted (os : Os) (started : os.Started) (H : Type) (enc : TypeId × Value → H) :
    ReturnsInHanded {} Try.checked os 3 .any (Rows.fnExactIsWholeSpec.pre6 enc Try.prog Try.f3 Rows.fnExactIsWholeRow.domain false) (Rows.fnExactIsWholeSpec.post enc Try.prog Try.f3 false true false false) := by
  refine returnsInHanded_of_change (C := Try.checked) own started (by kernel_rfl) Try.func3
    (ChangeSpec.witness6 (enc := enc) (C := Try.checked) false ⟨#[], #[.agg #[.int .i64 0, .slice none 0 0]], []⟩ 8 (by kernel_rfl) (by kernel_rfl) (by kernel_rfl) (by kernel_rfl)) ?_
  intro W base args ds gs before hval0 hW hcnd _
  have hval : ∀ (j : Nat) t v, Try.f3.params[j]? = some t → args[j]? = some v → Value.okWide Try.prog W .any base t v := hval0
  have hW' := hW
  obtain ⟨p, q, hA0, hV, rfl, hfz, hnd⟩ := hW
  have hA : DataW.TrodAll enc Try.prog W 0 (fun _ => true) true Try.f3.params.toList args.toList ds p := hA0
  rw [Try.params3] at hA hval
  obtain ⟨v0, vs0, d0, ds0, p0, q0, hargs, rfl, rfl, h0, r0⟩ := trodAll_cons hA
  obtain ⟨rfl, rfl, rfl⟩ := trodAll_nil r0
  obtain rfl : args = #[v0] := by cases args; simp_all
  obtain ⟨rfl, rfl⟩ := trodVars_none hV
  have hc0 := h0
  obtain ⟨s0, A0, n0, c0, xs0, rfl, hr0, hl0, hx0⟩ := open_whole (hval 0 24 v0 rfl rfl) h0
  clear hA0 hval0
  simp only [List.append_nil] at hW'
  refine (walk s0 A0 n0 c0 xs0 W hr0 hl0 hx0).mono fun e W' ⟨he, hg⟩ => ?_
  subst he
  exact ⟨_, rfl, law_end (pa := _) hW' (by simp) rfl (fun _ _ _ => (trodAll_cons_mk (shut_bool Try.underlying4 _) trodAll_mk0)) (fun sp hsp => (trodAll_cons_mk (carryB (by kernel_rfl) (of_decide_eq_true (by kernel_rfl)) hg hc0 (fun x hx => hW'.lt x (by simp [hx])) (fun x hx => hsp x (by simp [hx]))) trodAll_mk0)) rfl
    hg (ok_one (by kernel_rfl) rfl (okWide_bool_mk Try.underlying4 _))⟩

theorem proved : Rows.FnExactIsWholeSaid :=
  OpenClaim.holds_of_wide 3 Try.f3 rfl rfl rfl rfl rfl rfl rfl ⟨rfl, rfl, rfl, rfl, rfl⟩ rfl rfl rfl rfl rfl (by kernel_rfl) Try.func3 (by kernel_rfl)
    (of_decide_eq_true (by kernel_rfl)) (by unfold Func.isWrapper; first | (rw [if_pos (by decide +kernel)]; kernel_rfl) | (rw [if_neg (by decide +kernel)]; exact ⟨rfl, rfl⟩))
    (fun os started H enc _ => lifted os started H enc)
#print axioms proved
end Go.Proofs.Ytmabnnnpjpnhcaa.fnExactIsWhole
