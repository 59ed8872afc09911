/- FnExactDyadicOf returns true at every float of 32 bits: the program's DyadicOf gives the exact number and the code that the model gives, in memory of its own. Condition: the table math/bits.deBruijn64tab is as Go's library lays it (tied to the text). -/
import Derived.Test.YtlncenochfmpaaaDoorRows
import Derived.Test.YtlncenochfmpaaaDoorG1
import Derived.Test.YtlncenochfmpaaaDoorG8
import Derived.Test.YtlncenochfmpaaaDoorG6
import Derived.Test.YtlncenochfmpaaaDoorTie
import Derived.Test.YtlncenochfmpaaaDoorCards
import Derived.SevenTiedAt
import Derived.ProofKit
import Derived.OpenShut
import Derived.Deep.RegionHeld3
namespace Go.Proofs.YtlncenochfmpaaaDoor.fnExactDyadicOf
set_option maxRecDepth 100000
open Go Go.ChangeShapes Go.WideShapes Go.ChangeAt Go.RowKit
set_option linter.unusedVariables false
set_option linter.unusedSimpArgs false

theorem own : ownKnob Tryd.prog.godebug = none := by kernel_rfl

set_option maxHeartbeats 16000000 in
set_option maxRecDepth 100000 in
theorem walk (b : Nat) (w : World) (hbw : (Lit.float .f32 b).wf = true) (hT : TabZ w) :
    Calls Tryd.prog 3 #[.float .f32 b] w fun e w' => e = .returned (.bool true) ∧ Below w.heap.size w w' := by
  have Hb : Hid (b < 4294967296) := Lib.hid (by simpa [Lit.wf] using hbw)
  have HT := Lib.hid hT
  clear hbw hT
  obtain ⟨S, hS⟩ : ∃ S, S = (ofZ b).sign := ⟨_, rfl⟩
  obtain ⟨N, hN⟩ : ∃ N, N = (limbs (ofZ b).natAbs).length := ⟨_, rfl⟩
  obtain ⟨XS, hX⟩ : ∃ XS, XS = li (limbs (ofZ b).natAbs) := ⟨_, rfl⟩
  have HS := Lib.hid hS
  have HN := Lib.hid hN
  have HX := Lib.hid hX
  have HXN : Hid (XS.length = N) := Lib.hid (by rw [hX, hN, li_len])
  have HN1 : Hid (N ≤ 1048576) := Lib.hid (by rw [hN]; have := of_len b; omega)
  have HN2 : Hid (N ≤ 4194304) := Lib.hid (by have := HN1.out; omega)
  clear hS hN hX
  obtain ⟨CD, hCD⟩ : ∃ CD : Int, CD = ofE b := ⟨_, rfl⟩
  have HCD := Lib.hid hCD
  clear hCD
  obtain ⟨EX, hEX⟩ : ∃ EX : Int, EX = ofX b := ⟨_, rfl⟩
  have HEX := Lib.hid hEX
  clear hEX
  go_enter Tryd.func3, Tryd.ntmps3
  go_wp2_with fail
  obtain ⟨w0, hw0⟩ : ∃ w0, w0 = w := ⟨_, rfl⟩
  have Bel_0 : Hid (Below w.heap.size w w0) := Lib.hid (by rw [hw0]; exact Below.refl _ _)
  have Sz_0 : Hid (w.heap.size = w0.heap.size) := Lib.hid (by rw [hw0])
  rw [← hw0]
  clear hw0
  refine (specDyOf_any b _ Hb.out).mono ?_
  rintro e w1 ⟨Sr, Be, nr, de, rfl, hv, hb⟩
  obtain ⟨hs, hnn, ho⟩ := resFormD hv HS.out HN.out HX.out
  rw [hs, hnn, ← HEX.out, ← HCD.out]
  have Own := Lib.hid (Ot.new ho)
  clear hv ho hs hnn
  have Bel_1 := Lib.hid (belNext Bel_0.out hb)
  have Sz_1 : Hid (w0.heap.size ≤ w1.heap.size) := Lib.hid hb.size
  clear hb Bel_0
  have Owe_1 := Own
  clear Own
  go_wp2_with fail
  obtain ⟨w2, hw⟩ : ∃ w2, w2 = w1.alloc (.cells #[.int .i64 S, .slice Be N de, .int .i64 EX] 27) := ⟨_, rfl⟩
  rw [← hw]
  have hb : Below w1.heap.size w1 w2 := by rw [hw]; exact belAlloc1 _ _
  have Bnew : Hid (DBox w2 w1.heap.size S Be N de EX) := Lib.hid (by rw [hw]; exact DBox.new _ _ _ _ _ _ _)
  have Sb_2 : Hid (w1.heap.size + 1 = w2.heap.size) := Lib.hid (by rw [hw]; simp)
  clear hw
  have Bel_2 := Lib.hid (belNext Bel_1.out hb)
  have Sz_2 : Hid (w1.heap.size ≤ w2.heap.size) := Lib.hid hb.size
  have Owe_2 := Lib.hid (Owe_1.out.next hb)
  clear hb Bel_1 Owe_1
  have Bxe_2 := Bnew
  clear Bnew
  obtain ⟨⟨hxe1, hxe2, hxe3⟩, hxe4⟩ := Bxe_2.out
  go_wp2_with fail
  refine (implOf_any b _ Hb.out (HT.out.next Bel_2.out)).mono ?_
  rintro e w3 ⟨Sr, Bg, nr, dg, rfl, hv, hb⟩
  obtain ⟨hs, hnn, ho⟩ := resFormD hv HS.out HN.out HX.out
  rw [hs, hnn, ← HEX.out, ← HCD.out]
  have Own := Lib.hid (Ot.new ho)
  clear hv ho hs hnn
  have Bel_3 := Lib.hid (belNext Bel_2.out hb)
  have Sz_3 : Hid (w2.heap.size ≤ w3.heap.size) := Lib.hid hb.size
  have Bxe_3 := Lib.hid (Bxe_2.out.next hb)
  have Owe_3 := Lib.hid (Owe_2.out.next hb)
  clear hb Bel_2 Bxe_2 Owe_2 hxe1 hxe2 hxe3 hxe4
  obtain ⟨⟨hxe1, hxe2, hxe3⟩, hxe4⟩ := Bxe_3.out
  have Owg_3 := Own
  clear Own
  go_wp2_with fail
  obtain ⟨w4, hw⟩ : ∃ w4, w4 = w3.alloc (.cells #[.int .i64 S, .slice Bg N dg, .int .i64 EX] 27) := ⟨_, rfl⟩
  rw [← hw]
  have hb : Below w3.heap.size w3 w4 := by rw [hw]; exact belAlloc1 _ _
  have Bnew : Hid (DBox w4 w3.heap.size S Bg N dg EX) := Lib.hid (by rw [hw]; exact DBox.new _ _ _ _ _ _ _)
  have Sb_4 : Hid (w3.heap.size + 1 = w4.heap.size) := Lib.hid (by rw [hw]; simp)
  clear hw
  have Bel_4 := Lib.hid (belNext Bel_3.out hb)
  have Sz_4 : Hid (w3.heap.size ≤ w4.heap.size) := Lib.hid hb.size
  have Bxe_4 := Lib.hid (Bxe_3.out.next hb)
  have Owe_4 := Lib.hid (Owe_3.out.next hb)
  have Owg_4 := Lib.hid (Owg_3.out.next hb)
  clear hb Bel_3 Bxe_3 Owe_3 Owg_3 hxe1 hxe2 hxe3 hxe4
  have Bxg_4 := Bnew
  clear Bnew
  obtain ⟨⟨hxe1, hxe2, hxe3⟩, hxe4⟩ := Bxe_4.out
  obtain ⟨⟨hxg1, hxg2, hxg3⟩, hxg4⟩ := Bxg_4.out
  go_wp2_with fail
  refine (eqD_yes S Bg Be N dg de _ _ EX XS _ Owg_4.out.rt.1 Owe_4.out.rt.1 Owg_4.out.rt.2 Owe_4.out.rt.2 HXN.out HN1.out).mono ?_
  rintro e w5 ⟨rfl, hb⟩
  have Bel_5 := Lib.hid (belNext Bel_4.out hb)
  have Sz_5 : Hid (w4.heap.size ≤ w5.heap.size) := Lib.hid hb.size
  have Bxe_5 := Lib.hid (Bxe_4.out.next hb)
  have Bxg_5 := Lib.hid (Bxg_4.out.next hb)
  have Owe_5 := Lib.hid (Owe_4.out.next hb)
  have Owg_5 := Lib.hid (Owg_4.out.next hb)
  clear hb Bel_4 Bxe_4 Bxg_4 Owe_4 Owg_4 hxe1 hxe2 hxe3 hxe4 hxg1 hxg2 hxg3 hxg4
  obtain ⟨⟨hxe1, hxe2, hxe3⟩, hxe4⟩ := Bxe_5.out
  obtain ⟨⟨hxg1, hxg2, hxg3⟩, hxg4⟩ := Bxg_5.out
  go_wp2_with fail
  refine (markD_any S Bg N dg EX 1 XS _ _ _ Owg_5.out.1 HXN.out HN2.out (by omega) (by omega) Owg_5.out.2).mono ?_
  rintro e w6 ⟨rfl, ho, row, hg, hrow⟩
  have Bel_6 := Lib.hid (belMarked Bel_5.out hg hrow (by have z0 := Sz_0.out; have z1 := Sz_1.out; have z2 := Sb_2.out; have z3 := Sz_2.out; have z4 := Sz_3.out; have z5 := Sb_4.out; have z6 := Sz_4.out; have z7 := Sz_5.out; (try simp only [] at *); omega))
  have Sz_6 : Hid (w5.heap.size ≤ w6.heap.size) := Lib.hid hg.size
  have Bxe_6 := Lib.hid (Bxe_5.out.grown hg hrow (by have z0 := Sz_0.out; have z1 := Sz_1.out; have z2 := Sb_2.out; have z3 := Sz_2.out; have z4 := Sz_3.out; have z5 := Sb_4.out; have z6 := Sz_4.out; have z7 := Sz_5.out; (try simp only [] at *); omega))
  have Bxg_6 := Lib.hid (Bxg_5.out.grown hg hrow (by have z0 := Sz_0.out; have z1 := Sz_1.out; have z2 := Sb_2.out; have z3 := Sz_2.out; have z4 := Sz_3.out; have z5 := Sb_4.out; have z6 := Sz_4.out; have z7 := Sz_5.out; (try simp only [] at *); omega))
  have Owe_6 := Lib.hid (Owe_5.out.grown hg hrow (by have z0 := Sz_0.out; have z1 := Sz_1.out; have z2 := Sb_2.out; have z3 := Sz_2.out; have z4 := Sz_3.out; have z5 := Sb_4.out; have z6 := Sz_4.out; have z7 := Sz_5.out; (try simp only [] at *); omega))
  have Own : Hid (Ot w6 _ _ Bg (vi (marks 1 N))) := Lib.hid ⟨ho, Nat.le_trans Owg_5.out.2 hg.size⟩
  clear hg hrow ho Bel_5 Bxe_5 Bxg_5 Owe_5 Owg_5 hxe1 hxe2 hxe3 hxe4 hxg1 hxg2 hxg3 hxg4
  have Owg_6 := Own
  clear Own
  obtain ⟨⟨hxe1, hxe2, hxe3⟩, hxe4⟩ := Bxe_6.out
  obtain ⟨⟨hxg1, hxg2, hxg3⟩, hxg4⟩ := Bxg_6.out
  go_wp2_with fail
  refine (heldD_any S Bg N dg EX 1 _ _ Owg_6.out.rt.1 Owg_6.out.rt.2 HN2.out (by omega) (by omega)).mono ?_
  rintro e w7 ⟨rfl, hb⟩
  have Bel_7 := Lib.hid (belNext Bel_6.out hb)
  have Sz_7 : Hid (w6.heap.size ≤ w7.heap.size) := Lib.hid hb.size
  have Bxe_7 := Lib.hid (Bxe_6.out.next hb)
  have Bxg_7 := Lib.hid (Bxg_6.out.next hb)
  have Owe_7 := Lib.hid (Owe_6.out.next hb)
  have Owg_7 := Lib.hid (Owg_6.out.next hb)
  clear hb Bel_6 Bxe_6 Bxg_6 Owe_6 Owg_6 hxe1 hxe2 hxe3 hxe4 hxg1 hxg2 hxg3 hxg4
  obtain ⟨⟨hxe1, hxe2, hxe3⟩, hxe4⟩ := Bxe_7.out
  obtain ⟨⟨hxg1, hxg2, hxg3⟩, hxg4⟩ := Bxg_7.out
  go_wp2_with fail
  refine (implOf_any b _ Hb.out (HT.out.next Bel_7.out)).mono ?_
  rintro e w8 ⟨Sr, Bh, nr, dh, rfl, hv, hb⟩
  obtain ⟨hs, hnn, ho⟩ := resFormD hv HS.out HN.out HX.out
  rw [hs, hnn, ← HEX.out, ← HCD.out]
  have Own := Lib.hid (Ot.new ho)
  clear hv ho hs hnn
  have Bel_8 := Lib.hid (belNext Bel_7.out hb)
  have Sz_8 : Hid (w7.heap.size ≤ w8.heap.size) := Lib.hid hb.size
  have Bxe_8 := Lib.hid (Bxe_7.out.next hb)
  have Bxg_8 := Lib.hid (Bxg_7.out.next hb)
  have Owe_8 := Lib.hid (Owe_7.out.next hb)
  have Owg_8 := Lib.hid (Owg_7.out.next hb)
  clear hb Bel_7 Bxe_7 Bxg_7 Owe_7 Owg_7 hxe1 hxe2 hxe3 hxe4 hxg1 hxg2 hxg3 hxg4
  obtain ⟨⟨hxe1, hxe2, hxe3⟩, hxe4⟩ := Bxe_8.out
  obtain ⟨⟨hxg1, hxg2, hxg3⟩, hxg4⟩ := Bxg_8.out
  have Owh_8 := Own
  clear Own
  go_wp2_with fail
  obtain ⟨w9, hw⟩ : ∃ w9, w9 = w8.alloc (.cells #[.int .i64 S, .slice Bh N dh, .int .i64 EX] 27) := ⟨_, rfl⟩
  rw [← hw]
  have hb : Below w8.heap.size w8 w9 := by rw [hw]; exact belAlloc1 _ _
  have Bnew : Hid (DBox w9 w8.heap.size S Bh N dh EX) := Lib.hid (by rw [hw]; exact DBox.new _ _ _ _ _ _ _)
  have Sb_9 : Hid (w8.heap.size + 1 = w9.heap.size) := Lib.hid (by rw [hw]; simp)
  clear hw
  have Bel_9 := Lib.hid (belNext Bel_8.out hb)
  have Sz_9 : Hid (w8.heap.size ≤ w9.heap.size) := Lib.hid hb.size
  have Bxe_9 := Lib.hid (Bxe_8.out.next hb)
  have Bxg_9 := Lib.hid (Bxg_8.out.next hb)
  have Owe_9 := Lib.hid (Owe_8.out.next hb)
  have Owg_9 := Lib.hid (Owg_8.out.next hb)
  have Owh_9 := Lib.hid (Owh_8.out.next hb)
  clear hb Bel_8 Bxe_8 Bxg_8 Owe_8 Owg_8 Owh_8 hxe1 hxe2 hxe3 hxe4 hxg1 hxg2 hxg3 hxg4
  have Bxh_9 := Bnew
  clear Bnew
  obtain ⟨⟨hxe1, hxe2, hxe3⟩, hxe4⟩ := Bxe_9.out
  obtain ⟨⟨hxg1, hxg2, hxg3⟩, hxg4⟩ := Bxg_9.out
  obtain ⟨⟨hxh1, hxh2, hxh3⟩, hxh4⟩ := Bxh_9.out
  go_wp2_with fail
  refine (eqD_yes S Bh Be N dh de _ _ EX XS _ Owh_9.out.rt.1 Owe_9.out.rt.1 Owh_9.out.rt.2 Owe_9.out.rt.2 HXN.out HN1.out).mono ?_
  rintro e w10 ⟨rfl, hb⟩
  have Bel_10 := Lib.hid (belNext Bel_9.out hb)
  have Sz_10 : Hid (w9.heap.size ≤ w10.heap.size) := Lib.hid hb.size
  have Bxe_10 := Lib.hid (Bxe_9.out.next hb)
  have Bxg_10 := Lib.hid (Bxg_9.out.next hb)
  have Bxh_10 := Lib.hid (Bxh_9.out.next hb)
  have Owe_10 := Lib.hid (Owe_9.out.next hb)
  have Owg_10 := Lib.hid (Owg_9.out.next hb)
  have Owh_10 := Lib.hid (Owh_9.out.next hb)
  clear hb Bel_9 Bxe_9 Bxg_9 Bxh_9 Owe_9 Owg_9 Owh_9 hxe1 hxe2 hxe3 hxe4 hxg1 hxg2 hxg3 hxg4 hxh1 hxh2 hxh3 hxh4
  obtain ⟨⟨hxe1, hxe2, hxe3⟩, hxe4⟩ := Bxe_10.out
  obtain ⟨⟨hxg1, hxg2, hxg3⟩, hxg4⟩ := Bxg_10.out
  obtain ⟨⟨hxh1, hxh2, hxh3⟩, hxh4⟩ := Bxh_10.out
  go_wp2_with fail
  refine (heldD_any S Bg N dg EX 1 _ _ Owg_10.out.rt.1 Owg_10.out.rt.2 HN2.out (by omega) (by omega)).mono ?_
  rintro e w11 ⟨rfl, hb⟩
  have Bel_11 := Lib.hid (belNext Bel_10.out hb)
  have Sz_11 : Hid (w10.heap.size ≤ w11.heap.size) := Lib.hid hb.size
  have Bxe_11 := Lib.hid (Bxe_10.out.next hb)
  have Bxg_11 := Lib.hid (Bxg_10.out.next hb)
  have Bxh_11 := Lib.hid (Bxh_10.out.next hb)
  have Owe_11 := Lib.hid (Owe_10.out.next hb)
  have Owg_11 := Lib.hid (Owg_10.out.next hb)
  have Owh_11 := Lib.hid (Owh_10.out.next hb)
  clear hb Bel_10 Bxe_10 Bxg_10 Bxh_10 Owe_10 Owg_10 Owh_10 hxe1 hxe2 hxe3 hxe4 hxg1 hxg2 hxg3 hxg4 hxh1 hxh2 hxh3 hxh4
  obtain ⟨⟨hxe1, hxe2, hxe3⟩, hxe4⟩ := Bxe_11.out
  obtain ⟨⟨hxg1, hxg2, hxg3⟩, hxg4⟩ := Bxg_11.out
  obtain ⟨⟨hxh1, hxh2, hxh3⟩, hxh4⟩ := Bxh_11.out
  go_wp2_with fail
  go_ret
  exact ⟨rfl, Bel_11.out⟩

/-! the step from the walk to the given statement -/
set_option maxRecDepth 100000 in
theorem lifted (os : Os) (started : os.Started) (H : Type) (enc : TypeId × Value → H) :
    ReturnsInHanded {} Tryd.checked os 3 .any (fun w args => (Rows.fnExactDyadicOfSpec.pre enc Tryd.prog Tryd.f3 [] false w args ∧ laidMetH Tryd.prog laidL w) ∧ sizedMet enc Tryd.prog Tryd.f3 (OpenSpec.ofChange Rows.fnExactDyadicOfSpec) false w args) (Rows.fnExactDyadicOfSpec.post enc Tryd.prog Tryd.f3 false true false false) := by
  refine returnsInHanded_of_change_and (C := Tryd.checked) (X := fun w _ => laidMetH Tryd.prog laidL w) (fun _ _ _ hh h => h.of_heap hh) own started (by kernel_rfl) Tryd.func3
    (ChangeSpec.witness_shaped (enc := enc) (C := Tryd.checked) (os := os) (X := fun w _ => laidMetH Tryd.prog laidL w) false (World.doorLaid Tryd.prog 14 os) #[.float .f32 0] 8 rfl (World.shaped_of_RefB (by kernel_rfl) (by kernel_rfl)) (by kernel_rfl) (by kernel_rfl) (by kernel_rfl) (door_met os _)) ?_
  intro W base args ds gs before hval0 hW _ _ hL _
  have hval : ∀ (j : Nat) t v, Tryd.f3.params[j]? = some t → args[j]? = some v → Value.okWide Tryd.prog W .any base t v := hval0
  have hW' := hW
  obtain ⟨p, q, hA0, hV, rfl, hfz, hnd⟩ := hW
  have hA : DataW.TrodAll enc Tryd.prog W 0 (fun _ => true) true Tryd.f3.params.toList args.toList ds p := hA0
  rw [Tryd.params3] at hA hval
  obtain ⟨v0, vs0, d0, ds0, p0, q0, hargs, rfl, rfl, h0, r0⟩ := trodAll_cons hA
  obtain ⟨rfl, rfl, rfl⟩ := trodAll_nil r0
  obtain rfl : args = #[v0] := by cases args; simp_all
  obtain ⟨rfl, rfl⟩ := trodVars_none hV
  obtain ⟨a0, rfl, rfl, rfl, w0⟩ := open_float Tryd.underlying22 (hval 0 22 v0 rfl rfl) h0
  clear hA0 hval0
  simp only [List.append_nil] at hW'
  refine (walk a0 W w0 (tabz_of_laid hL)).mono fun e W' ⟨he, hg⟩ => ?_
  subst he
  exact ⟨_, rfl, law_end (pa := _) hW' (by simp) rfl (fun _ _ _ => (trodAll_cons_mk (shut_bool Tryd.underlying4 _) trodAll_mk0)) (fun sp hsp => (trodAll_cons_mk (shut_float Tryd.underlying22 w0) trodAll_mk0)) rfl
    hg (ok_one (by kernel_rfl) rfl (okWide_bool_mk Tryd.underlying4 _))⟩

theorem row_proved : Rows.FnExactDyadicOfSaid :=
  OpenClaim.holds_of_wide 3 Tryd.f3 rfl rfl rfl rfl rfl rfl rfl ⟨rfl, rfl, rfl, rfl, rfl⟩ rfl rfl rfl rfl rfl (by kernel_rfl) Tryd.func3 (by kernel_rfl)
    (of_decide_eq_true (by kernel_rfl)) (by unfold Func.isWrapper; first | (rw [if_pos (by decide +kernel)]; kernel_rfl) | (rw [if_neg (by decide +kernel)]; exact ⟨rfl, rfl⟩))
    (fun os started H enc _ => lifted os started H enc)

theorem proved : Rows.FnExactDyadicOfCardSaid :=
  Claim7.holds_tied_plain_at .later [] [.data] true (true, "05b3c6088588d9bdb862f6bee5f1317182e23f8bd930614ff854484be8ef9bf5") true
    row_proved (fun _ h => by cases h) (by kernel_rfl) (fun _ h => by cases h) fnExactDyadicOf_row_tie rfl ⟨rfl, rfl⟩ (by kernel_rfl) rfl
    (fun f fn hf hfn => by
      obtain rfl : f = 3 := Option.some.inj ((show Tryd.prog.funcNamed "loop.example/g01172/laws.FnExactDyadicOf" = some 3 by kernel_rfl).symm.trans hf) |>.symm
      obtain rfl : fn = Tryd.f3 := (Option.some.inj (Tryd.func3.symm.trans hfn)).symm
      exact ⟨by kernel_rfl, fun j t ht => by
        rw [Tryd.params3] at ht
        have hm : t ∈ [22] := by simpa using Array.mem_of_getElem? ht
        have hall : ([22].all fun u => !Tryd.prog.wantsStandIn u) = true := by kernel_rfl
        exact (show Tryd.prog.wantsStandIn t = false by simpa using List.all_eq_true.1 hall t hm)⟩)
    (by kernel_rfl)
#print axioms proved
end Go.Proofs.YtlncenochfmpaaaDoor.fnExactDyadicOf
