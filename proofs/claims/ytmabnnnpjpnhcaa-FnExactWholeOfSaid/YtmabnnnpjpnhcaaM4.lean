/- FnExactWholeOf returns true at every int64: the program's WholeOf gives the whole number and the code that the model gives, in memory of its own. No conditions. -/
import Derived.Test.YtmabnnnpjpnhcaaRows
import Derived.Test.YtmabnnnpjpnhcaaLx
import Derived.Test.YtmabnnnpjpnhcaaBy
import Derived.Test.YtmabnnnpjpnhcaaWp
import Derived.ProofKit
import Derived.OpenShut
namespace Go.Proofs.Ytmabnnnpjpnhcaa.fnExactWholeOf
open Go.ChangeShapes Go.WideShapes Go.ChangeAt Go.RowKit
set_option linter.unusedVariables false
set_option linter.unusedSimpArgs false

theorem own : ownKnob Try.prog.godebug = none := by kernel_rfl

set_option maxHeartbeats 4000000 in
theorem walk (z : Int) (w : World) (hz : (Lit.int .i64 z).wf = true) :
    Calls Try.prog 6 #[.int .i64 z] w fun e w' => e = .returned (.bool true) ∧ Below w.heap.size w w' := by
  have hzr : -9223372036854775808 ≤ z ∧ z ≤ 9223372036854775807 := by
    simp only [Lit.wf, Bool.and_eq_true, decide_eq_true_eq] at hz
    exact hz
  have Hz1 := Lib.hid hzr.1
  have Hz2 := Lib.hid hzr.2
  obtain ⟨S, hS⟩ : ∃ S, S = (z).sign := ⟨_, rfl⟩
  obtain ⟨N, hN⟩ : ∃ N, N = (limbs (z).natAbs).length := ⟨_, rfl⟩
  obtain ⟨XS, hX⟩ : ∃ XS, XS = li (limbs (z).natAbs) := ⟨_, rfl⟩
  have HS := Lib.hid hS
  have HN := Lib.hid hN
  have HX := Lib.hid hX
  have HXN : Hid (XS.length = N) := Lib.hid (by rw [hX, hN, li_len])
  have HN1 : Hid (N ≤ 1048576) := Lib.hid (by rw [hN]; have h := limbs_len_le (v := z.natAbs) (n := 3); rw [Bs_eq] at h; have := h.2 (by omega); omega)
  have HN2 : Hid (N ≤ 4194304) := Lib.hid (by have := HN1.out; omega)
  clear hS hN hX
  clear hz hzr
  go_enter Try.func6, Try.ntmps6
  go_wp2_with fail
  obtain ⟨w0, hw0⟩ : ∃ w0, w0 = w := ⟨_, rfl⟩
  have Bel_0 : Hid (Below w.heap.size w w0) := Lib.hid (by rw [hw0]; exact Below.refl _ _)
  have Sz_0 : Hid (w.heap.size = w0.heap.size) := Lib.hid (by rw [hw0])
  rw [← hw0]
  clear hw0
  refine (specOfW_any z _ Hz1.out Hz2.out).mono ?_
  rintro e w1 ⟨val, rfl, hv, hb⟩
  obtain ⟨Be, de, rfl, ho⟩ := resForm hv HS.out HN.out HX.out
  have Own := Lib.hid (Ot.new ho)
  clear hv ho
  have Bel_1 := Lib.hid (belNext Bel_0.out hb)
  have Sz_1 : Hid (w0.heap.size ≤ w1.heap.size) := Lib.hid hb.size
  clear hb Bel_0
  have Owe_1 := Own
  clear Own
  go_wp2_with fail
  obtain ⟨w2, hw⟩ : ∃ w2, w2 = w1.alloc (.cells #[.int .i64 S, .slice Be N de] 27) := ⟨_, rfl⟩
  rw [← hw]
  have hb : Below w1.heap.size w1 w2 := by rw [hw]; exact belAlloc1 _ _
  have Bnew : Hid (Box w2 w1.heap.size S Be N de) := Lib.hid (by rw [hw]; exact Box.new _ _ _ _ _ _)
  have Sb_2 : Hid (w1.heap.size + 1 = w2.heap.size) := Lib.hid (by rw [hw]; simp)
  clear hw
  have Bel_2 := Lib.hid (belNext Bel_1.out hb)
  have Sz_2 : Hid (w1.heap.size ≤ w2.heap.size) := Lib.hid hb.size
  have Owe_2 := Lib.hid (Owe_1.out.next hb)
  clear hb Bel_1 Owe_1
  have Bxe_2 := Bnew
  clear Bnew
  obtain ⟨⟨hxe1, hxe2⟩, hxe3⟩ := Bxe_2.out
  go_wp2_with fail
  refine (implOf_any z _ Hz1.out Hz2.out).mono ?_
  rintro e w3 ⟨val, rfl, hv, hb⟩
  obtain ⟨Bg, dg, rfl, ho⟩ := resForm hv HS.out HN.out HX.out
  have Own := Lib.hid (Ot.new ho)
  clear hv ho
  have Bel_3 := Lib.hid (belNext Bel_2.out hb)
  have Sz_3 : Hid (w2.heap.size ≤ w3.heap.size) := Lib.hid hb.size
  have Bxe_3 := Lib.hid (Bxe_2.out.next hb)
  have Owe_3 := Lib.hid (Owe_2.out.next hb)
  clear hb Bel_2 Bxe_2 Owe_2 hxe1 hxe2 hxe3
  obtain ⟨⟨hxe1, hxe2⟩, hxe3⟩ := Bxe_3.out
  have Owg_3 := Own
  clear Own
  go_wp2_with fail
  obtain ⟨w4, hw⟩ : ∃ w4, w4 = w3.alloc (.cells #[.int .i64 S, .slice Bg N dg] 27) := ⟨_, rfl⟩
  rw [← hw]
  have hb : Below w3.heap.size w3 w4 := by rw [hw]; exact belAlloc1 _ _
  have Bnew : Hid (Box w4 w3.heap.size S Bg N dg) := Lib.hid (by rw [hw]; exact Box.new _ _ _ _ _ _)
  have Sb_4 : Hid (w3.heap.size + 1 = w4.heap.size) := Lib.hid (by rw [hw]; simp)
  clear hw
  have Bel_4 := Lib.hid (belNext Bel_3.out hb)
  have Sz_4 : Hid (w3.heap.size ≤ w4.heap.size) := Lib.hid hb.size
  have Bxe_4 := Lib.hid (Bxe_3.out.next hb)
  have Owe_4 := Lib.hid (Owe_3.out.next hb)
  have Owg_4 := Lib.hid (Owg_3.out.next hb)
  clear hb Bel_3 Bxe_3 Owe_3 Owg_3 hxe1 hxe2 hxe3
  have Bxg_4 := Bnew
  clear Bnew
  obtain ⟨⟨hxe1, hxe2⟩, hxe3⟩ := Bxe_4.out
  obtain ⟨⟨hxg1, hxg2⟩, hxg3⟩ := Bxg_4.out
  go_wp2_with fail
  refine (eqW_yes S Bg Be N dg de _ _ XS _ Owg_4.out.rt.1 Owe_4.out.rt.1 Owg_4.out.rt.2 Owe_4.out.rt.2 HXN.out HN1.out).mono ?_
  rintro e w5 ⟨rfl, hb⟩
  have Bel_5 := Lib.hid (belNext Bel_4.out hb)
  have Sz_5 : Hid (w4.heap.size ≤ w5.heap.size) := Lib.hid hb.size
  have Bxe_5 := Lib.hid (Bxe_4.out.next hb)
  have Bxg_5 := Lib.hid (Bxg_4.out.next hb)
  have Owe_5 := Lib.hid (Owe_4.out.next hb)
  have Owg_5 := Lib.hid (Owg_4.out.next hb)
  clear hb Bel_4 Bxe_4 Bxg_4 Owe_4 Owg_4 hxe1 hxe2 hxe3 hxg1 hxg2 hxg3
  obtain ⟨⟨hxe1, hxe2⟩, hxe3⟩ := Bxe_5.out
  obtain ⟨⟨hxg1, hxg2⟩, hxg3⟩ := Bxg_5.out
  go_wp2_with fail
  refine (markW_any S Bg N dg 1 XS _ _ _ Owg_5.out.1 HXN.out HN2.out (by first | decide | omega) (by first | decide | omega) Owg_5.out.2).mono ?_
  rintro e w6 ⟨rfl, ho, row, hg, hrow⟩
  have Bel_6 := Lib.hid (belMarked Bel_5.out hg hrow (by have z0 := Sz_0.out; have z1 := Sz_1.out; have z2 := Sb_2.out; have z3 := Sz_2.out; have z4 := Sz_3.out; have z5 := Sb_4.out; have z6 := Sz_4.out; have z7 := Sz_5.out; (try simp only [] at *); omega))
  have Sz_6 : Hid (w5.heap.size ≤ w6.heap.size) := Lib.hid hg.size
  have Bxe_6 := Lib.hid (Bxe_5.out.grown hg hrow (by have z0 := Sz_0.out; have z1 := Sz_1.out; have z2 := Sb_2.out; have z3 := Sz_2.out; have z4 := Sz_3.out; have z5 := Sb_4.out; have z6 := Sz_4.out; have z7 := Sz_5.out; (try simp only [] at *); omega))
  have Bxg_6 := Lib.hid (Bxg_5.out.grown hg hrow (by have z0 := Sz_0.out; have z1 := Sz_1.out; have z2 := Sb_2.out; have z3 := Sz_2.out; have z4 := Sz_3.out; have z5 := Sb_4.out; have z6 := Sz_4.out; have z7 := Sz_5.out; (try simp only [] at *); omega))
  have Owe_6 := Lib.hid (Owe_5.out.grown hg hrow (by have z0 := Sz_0.out; have z1 := Sz_1.out; have z2 := Sb_2.out; have z3 := Sz_2.out; have z4 := Sz_3.out; have z5 := Sb_4.out; have z6 := Sz_4.out; have z7 := Sz_5.out; (try simp only [] at *); omega))
  have Own : Hid (Ot w6 _ _ Bg (vi (marks 1 N))) := Lib.hid ⟨ho, Nat.le_trans Owg_5.out.2 hg.size⟩
  clear hg hrow ho Bel_5 Bxe_5 Bxg_5 Owe_5 Owg_5 hxe1 hxe2 hxe3 hxg1 hxg2 hxg3
  have Owg_6 := Own
  clear Own
  obtain ⟨⟨hxe1, hxe2⟩, hxe3⟩ := Bxe_6.out
  obtain ⟨⟨hxg1, hxg2⟩, hxg3⟩ := Bxg_6.out
  go_wp2_with fail
  refine (heldW_any S Bg N dg 1 _ _ Owg_6.out.rt.1 Owg_6.out.rt.2 HN2.out (by first | decide | omega) (by first | decide | omega)).mono ?_
  rintro e w7 ⟨rfl, hb⟩
  have Bel_7 := Lib.hid (belNext Bel_6.out hb)
  have Sz_7 : Hid (w6.heap.size ≤ w7.heap.size) := Lib.hid hb.size
  have Bxe_7 := Lib.hid (Bxe_6.out.next hb)
  have Bxg_7 := Lib.hid (Bxg_6.out.next hb)
  have Owe_7 := Lib.hid (Owe_6.out.next hb)
  have Owg_7 := Lib.hid (Owg_6.out.next hb)
  clear hb Bel_6 Bxe_6 Bxg_6 Owe_6 Owg_6 hxe1 hxe2 hxe3 hxg1 hxg2 hxg3
  obtain ⟨⟨hxe1, hxe2⟩, hxe3⟩ := Bxe_7.out
  obtain ⟨⟨hxg1, hxg2⟩, hxg3⟩ := Bxg_7.out
  go_wp2_with fail
  refine (implOf_any z _ Hz1.out Hz2.out).mono ?_
  rintro e w8 ⟨val, rfl, hv, hb⟩
  obtain ⟨Bh, dh, rfl, ho⟩ := resForm hv HS.out HN.out HX.out
  have Own := Lib.hid (Ot.new ho)
  clear hv ho
  have Bel_8 := Lib.hid (belNext Bel_7.out hb)
  have Sz_8 : Hid (w7.heap.size ≤ w8.heap.size) := Lib.hid hb.size
  have Bxe_8 := Lib.hid (Bxe_7.out.next hb)
  have Bxg_8 := Lib.hid (Bxg_7.out.next hb)
  have Owe_8 := Lib.hid (Owe_7.out.next hb)
  have Owg_8 := Lib.hid (Owg_7.out.next hb)
  clear hb Bel_7 Bxe_7 Bxg_7 Owe_7 Owg_7 hxe1 hxe2 hxe3 hxg1 hxg2 hxg3
  obtain ⟨⟨hxe1, hxe2⟩, hxe3⟩ := Bxe_8.out
  obtain ⟨⟨hxg1, hxg2⟩, hxg3⟩ := Bxg_8.out
  have Owh_8 := Own
  clear Own
  go_wp2_with fail
  obtain ⟨w9, hw⟩ : ∃ w9, w9 = w8.alloc (.cells #[.int .i64 S, .slice Bh N dh] 27) := ⟨_, rfl⟩
  rw [← hw]
  have hb : Below w8.heap.size w8 w9 := by rw [hw]; exact belAlloc1 _ _
  have Bnew : Hid (Box w9 w8.heap.size S Bh N dh) := Lib.hid (by rw [hw]; exact Box.new _ _ _ _ _ _)
  have Sb_9 : Hid (w8.heap.size + 1 = w9.heap.size) := Lib.hid (by rw [hw]; simp)
  clear hw
  have Bel_9 := Lib.hid (belNext Bel_8.out hb)
  have Sz_9 : Hid (w8.heap.size ≤ w9.heap.size) := Lib.hid hb.size
  have Bxe_9 := Lib.hid (Bxe_8.out.next hb)
  have Bxg_9 := Lib.hid (Bxg_8.out.next hb)
  have Owe_9 := Lib.hid (Owe_8.out.next hb)
  have Owg_9 := Lib.hid (Owg_8.out.next hb)
  have Owh_9 := Lib.hid (Owh_8.out.next hb)
  clear hb Bel_8 Bxe_8 Bxg_8 Owe_8 Owg_8 Owh_8 hxe1 hxe2 hxe3 hxg1 hxg2 hxg3
  have Bxh_9 := Bnew
  clear Bnew
  obtain ⟨⟨hxe1, hxe2⟩, hxe3⟩ := Bxe_9.out
  obtain ⟨⟨hxg1, hxg2⟩, hxg3⟩ := Bxg_9.out
  obtain ⟨⟨hxh1, hxh2⟩, hxh3⟩ := Bxh_9.out
  go_wp2_with fail
  refine (eqW_yes S Bh Be N dh de _ _ XS _ Owh_9.out.rt.1 Owe_9.out.rt.1 Owh_9.out.rt.2 Owe_9.out.rt.2 HXN.out HN1.out).mono ?_
  rintro e w10 ⟨rfl, hb⟩
  have Bel_10 := Lib.hid (belNext Bel_9.out hb)
  have Sz_10 : Hid (w9.heap.size ≤ w10.heap.size) := Lib.hid hb.size
  have Bxe_10 := Lib.hid (Bxe_9.out.next hb)
  have Bxg_10 := Lib.hid (Bxg_9.out.next hb)
  have Bxh_10 := Lib.hid (Bxh_9.out.next hb)
  have Owe_10 := Lib.hid (Owe_9.out.next hb)
  have Owg_10 := Lib.hid (Owg_9.out.next hb)
  have Owh_10 := Lib.hid (Owh_9.out.next hb)
  clear hb Bel_9 Bxe_9 Bxg_9 Bxh_9 Owe_9 Owg_9 Owh_9 hxe1 hxe2 hxe3 hxg1 hxg2 hxg3 hxh1 hxh2 hxh3
  obtain ⟨⟨hxe1, hxe2⟩, hxe3⟩ := Bxe_10.out
  obtain ⟨⟨hxg1, hxg2⟩, hxg3⟩ := Bxg_10.out
  obtain ⟨⟨hxh1, hxh2⟩, hxh3⟩ := Bxh_10.out
  go_wp2_with fail
  refine (heldW_any S Bg N dg 1 _ _ Owg_10.out.rt.1 Owg_10.out.rt.2 HN2.out (by first | decide | omega) (by first | decide | omega)).mono ?_
  rintro e w11 ⟨rfl, hb⟩
  have Bel_11 := Lib.hid (belNext Bel_10.out hb)
  have Sz_11 : Hid (w10.heap.size ≤ w11.heap.size) := Lib.hid hb.size
  have Bxe_11 := Lib.hid (Bxe_10.out.next hb)
  have Bxg_11 := Lib.hid (Bxg_10.out.next hb)
  have Bxh_11 := Lib.hid (Bxh_10.out.next hb)
  have Owe_11 := Lib.hid (Owe_10.out.next hb)
  have Owg_11 := Lib.hid (Owg_10.out.next hb)
  have Owh_11 := Lib.hid (Owh_10.out.next hb)
  clear hb Bel_10 Bxe_10 Bxg_10 Bxh_10 Owe_10 Owg_10 Owh_10 hxe1 hxe2 hxe3 hxg1 hxg2 hxg3 hxh1 hxh2 hxh3
  obtain ⟨⟨hxe1, hxe2⟩, hxe3⟩ := Bxe_11.out
  obtain ⟨⟨hxg1, hxg2⟩, hxg3⟩ := Bxg_11.out
  obtain ⟨⟨hxh1, hxh2⟩, hxh3⟩ := Bxh_11.out
  go_wp2_with fail
  go_ret
  exact ⟨rfl, Bel_11.out⟩

/-! the step from the walk to the given statement -/
set_option maxRecDepth 100000 in
theorem lifted (os : Os) (started : os.Started) (H : Type) (enc : TypeId × Value → H) :
    ReturnsInHanded {} Try.checked os 6 .any (Rows.fnExactWholeOfSpec.pre6 enc Try.prog Try.f6 Rows.fnExactWholeOfRow.domain false) (Rows.fnExactWholeOfSpec.post enc Try.prog Try.f6 false true false false) := by
  refine returnsInHanded_of_change (C := Try.checked) own started (by kernel_rfl) Try.func6
    (ChangeSpec.witness6 (enc := enc) (C := Try.checked) false ⟨#[], #[.int .i64 0], []⟩ 8 (by kernel_rfl) (by kernel_rfl) (by kernel_rfl) (by kernel_rfl)) ?_
  intro W base args ds gs before hval0 hW hcnd _
  have hval : ∀ (j : Nat) t v, Try.f6.params[j]? = some t → args[j]? = some v → Value.okWide Try.prog W .any base t v := hval0
  have hW' := hW
  obtain ⟨p, q, hA0, hV, rfl, hfz, hnd⟩ := hW
  have hA : DataW.TrodAll enc Try.prog W 0 (fun _ => true) true Try.f6.params.toList args.toList ds p := hA0
  rw [Try.params6] at hA hval
  obtain ⟨v0, vs0, d0, ds0, p0, q0, hargs, rfl, rfl, h0, r0⟩ := trodAll_cons hA
  obtain ⟨rfl, rfl, rfl⟩ := trodAll_nil r0
  obtain rfl : args = #[v0] := by cases args; simp_all
  obtain ⟨rfl, rfl⟩ := trodVars_none hV
  obtain ⟨a0, rfl, rfl, rfl, w0⟩ := open_int Try.underlying2 (hval 0 2 v0 rfl rfl) h0
  clear hA0 hval0
  simp only [List.append_nil] at hW'
  refine (walk a0 W w0).mono fun e W' ⟨he, hg⟩ => ?_
  subst he
  exact ⟨_, rfl, law_end (pa := _) hW' (by simp) rfl (fun _ _ _ => (trodAll_cons_mk (shut_bool Try.underlying4 _) trodAll_mk0)) (fun sp hsp => (trodAll_cons_mk (shut_int Try.underlying2 w0) trodAll_mk0)) rfl
    hg (ok_one (by kernel_rfl) rfl (okWide_bool_mk Try.underlying4 _))⟩

theorem proved : Rows.FnExactWholeOfSaid :=
  OpenClaim.holds_of_wide 6 Try.f6 rfl rfl rfl rfl rfl rfl rfl ⟨rfl, rfl, rfl, rfl, rfl⟩ rfl rfl rfl rfl rfl (by kernel_rfl) Try.func6 (by kernel_rfl)
    (of_decide_eq_true (by kernel_rfl)) (by unfold Func.isWrapper; first | (rw [if_pos (by decide +kernel)]; kernel_rfl) | (rw [if_neg (by decide +kernel)]; exact ⟨rfl, rfl⟩))
    (fun os started H enc _ => lifted os started H enc)
#print axioms proved
end Go.Proofs.Ytmabnnnpjpnhcaa.fnExactWholeOf
