/- FnExactValueOfExpansion returns true at every slice of floats of 32 bits: the program's ValueOfExpansion gives the exact number and the code that the model gives, in memory of its own, and changes no argument. Condition: the table math/bits.deBruijn64tab is as Go's library lays it (tied to the text). -/
import Derived.Test.YtnecnbonnidijaaDoorRows
import Derived.Test.YtnecnbonnidijaaDoorGB20
import Derived.Test.YtnecnbonnidijaaDoorGB19
import Derived.Test.YtnecnbonnidijaaDoorGB6
import Derived.Test.YtnecnbonnidijaaDoorGB1
import Derived.Test.YtnecnbonnidijaaDoorTie
import Derived.Test.YtnecnbonnidijaaDoorCards
import Derived.SevenTiedAt
import Derived.ProofKit
import Derived.OpenShut
import Derived.Deep.RegionHeld3
namespace Go.Proofs.YtnecnbonnidijaaDoor.fnExactValueOfExpansion
set_option maxRecDepth 100000
open Go Go.ChangeShapes Go.WideShapes Go.ChangeAt Go.RowKit
set_option linter.unusedVariables false
set_option linter.unusedSimpArgs false

theorem own : ownKnob Tryd.prog.godebug = none := by kernel_rfl

theorem fl_all (xs : List Nat) : ∀ u ∈ fs xs, ∃ b, u = .float .f32 b := by
  intro u hu; obtain ⟨x, _, rfl⟩ := List.mem_map.1 hu; exact ⟨x, rfl⟩
set_option maxHeartbeats 16000000 in
set_option maxRecDepth 100000 in
theorem walk (A0 : Option Addr) (n0 c0 : Nat) (xs0 : List Nat) (w0 : World) (hr0 : Rd w0 w0.heap.size A0 (xs0.map (Value.float .f32))) (hn0 : xs0.length = n0) (hb0 : ∀ x ∈ xs0, x < 4294967296) (hT : TabZ w0) :
    Calls Tryd.prog 8 #[.slice A0 n0 c0] w0 fun e w' => e = .returned (.bool true) ∧ Below w0.heap.size w0 w' := by
  have Hn0 := Lib.hid hn0
  have Hb0 := Lib.hid hb0
  have Hr0 := Lib.hid hr0
  have HT := Lib.hid hT
  by_cases hbig : 1048576 < n0
  · clear Hr0 Hb0 Hn0 HT hn0 hb0 hr0 hT
    go_enter Tryd.func8, Tryd.ntmps8
    go_wp2_with fail
    go_ret
    exact ⟨rfl, Below.refl _ _⟩
  have hle : (n0 : Int) ≤ 1048576 := by omega
  have Hle0 : Hid (n0 ≤ 1048576) := Lib.hid (by omega)
  have Hk0 : Hid (n0 ≤ 1048580) := Lib.hid (by omega)
  clear hn0 hb0 hr0 hT hbig
  obtain ⟨S, hS⟩ : ∃ S, S = (veZ xs0).sign := ⟨_, rfl⟩
  obtain ⟨N, hN⟩ : ∃ N, N = (limbs (veZ xs0).natAbs).length := ⟨_, rfl⟩
  obtain ⟨XS, hX⟩ : ∃ XS, XS = li (limbs (veZ xs0).natAbs) := ⟨_, rfl⟩
  have HS := Lib.hid hS
  have HN := Lib.hid hN
  have HX := Lib.hid hX
  have HXN : Hid (XS.length = N) := Lib.hid (by rw [hX, hN, li_len])
  have HN1 : Hid (N ≤ 1048576) := Lib.hid (by rw [hN]; have := ve_len xs0; omega)
  have HN2 : Hid (N ≤ 4194304) := Lib.hid (by have := HN1.out; omega)
  clear hS hN hX
  obtain ⟨CD, hCD⟩ : ∃ CD : Int, CD = exE xs0 := ⟨_, rfl⟩
  have HCD := Lib.hid hCD
  clear hCD
  obtain ⟨EX, hEX⟩ : ∃ EX : Int, EX = veX xs0 := ⟨_, rfl⟩
  have HEX := Lib.hid hEX
  clear hEX
  go_enter Tryd.func8, Tryd.ntmps8
  go_wp2_with fail
  have Bel_0 : Hid (Below w0.heap.size w0 w0) := Lib.hid (Below.refl _ _)
  have Ra0_0 : Hid (Rt w0 w0.heap.size A0 (fs xs0)) := Lib.hid ⟨Hr0.out, Nat.le_refl _⟩
  clear Hr0
  refine (toF_any A0 n0 c0 (fs xs0) _ Ra0_0.out.all (by rw [fs_len]; exact Hn0.out) (fl_all xs0) Hle0.out).mono ?_
  rintro e w1 ⟨v, rfl, own, hb⟩
  obtain ⟨Ba, da, rfl⟩ := own_form own
  have Own := Lib.hid (Ft.new (Fw.own own))
  clear own
  have Bel_1 := Lib.hid (belNext Bel_0.out hb)
  have Sz_1 : Hid (w0.heap.size ≤ w1.heap.size) := Lib.hid hb.size
  have Ra0_1 := Lib.hid (Ra0_0.out.next hb)
  clear hb Bel_0 Ra0_0
  have Owa_1 := Own
  clear Own
  go_wp2_with fail
  refine (specVeW_any xs0 Ba n0 da _ Owa_1.out.rt.all Hn0.out Hk0.out Hb0.out).mono ?_
  rintro e w2 ⟨Sr, Be, nr, de, rfl, hv, hb⟩
  obtain ⟨hs, hnn, ho⟩ := resFormD hv HS.out HN.out HX.out
  rw [hs, hnn, ← HEX.out, ← HCD.out]
  have Own := Lib.hid (Ot.new ho)
  clear hv ho hs hnn
  have Bel_2 := Lib.hid (belNext Bel_1.out hb)
  have Sz_2 : Hid (w1.heap.size ≤ w2.heap.size) := Lib.hid hb.size
  have Ra0_2 := Lib.hid (Ra0_1.out.next hb)
  have Owa_2 := Lib.hid (Owa_1.out.next hb)
  clear hb Bel_1 Ra0_1 Owa_1
  have Owe_2 := Own
  clear Own
  go_wp2_with fail
  obtain ⟨w3, hw⟩ : ∃ w3, w3 = w2.alloc (.cells #[.int .i64 S, .slice Be N de, .int .i64 EX] 30) := ⟨_, rfl⟩
  rw [← hw]
  have hb : Below w2.heap.size w2 w3 := by rw [hw]; exact belAlloc1 _ _
  have Bnew : Hid (DBox w3 w2.heap.size S Be N de EX) := Lib.hid (by rw [hw]; exact DBox.new _ _ _ _ _ _ _)
  have Sb_3 : Hid (w2.heap.size + 1 = w3.heap.size) := Lib.hid (by rw [hw]; simp)
  clear hw
  have Bel_3 := Lib.hid (belNext Bel_2.out hb)
  have Sz_3 : Hid (w2.heap.size ≤ w3.heap.size) := Lib.hid hb.size
  have Ra0_3 := Lib.hid (Ra0_2.out.next hb)
  have Owa_3 := Lib.hid (Owa_2.out.next hb)
  have Owe_3 := Lib.hid (Owe_2.out.next hb)
  clear hb Bel_2 Ra0_2 Owa_2 Owe_2
  have Bxe_3 := Bnew
  clear Bnew
  obtain ⟨⟨hxe1, hxe2, hxe3⟩, hxe4⟩ := Bxe_3.out
  go_wp2_with fail
  clear Owa_3
  refine (toF_any A0 n0 c0 (fs xs0) _ Ra0_3.out.all (by rw [fs_len]; exact Hn0.out) (fl_all xs0) Hle0.out).mono ?_
  rintro e w4 ⟨v, rfl, own, hb⟩
  obtain ⟨Bx, dx, rfl⟩ := own_form own
  have Own := Lib.hid (Ft.new (Fw.own own))
  clear own
  have Bel_4 := Lib.hid (belNext Bel_3.out hb)
  have Sz_4 : Hid (w3.heap.size ≤ w4.heap.size) := Lib.hid hb.size
  have Bxe_4 := Lib.hid (Bxe_3.out.next hb)
  have Ra0_4 := Lib.hid (Ra0_3.out.next hb)
  have Owe_4 := Lib.hid (Owe_3.out.next hb)
  clear hb Bel_3 Bxe_3 Ra0_3 Owe_3 hxe1 hxe2 hxe3 hxe4
  obtain ⟨⟨hxe1, hxe2, hxe3⟩, hxe4⟩ := Bxe_4.out
  have Owx_4 := Own
  clear Own
  go_wp2_with fail
  refine (implVeW_any xs0 Bx n0 dx _ Owx_4.out.rt.all Hn0.out Hk0.out Hb0.out (HT.out.next Bel_4.out)).mono ?_
  rintro e w5 ⟨Sr, Bg, nr, dg, rfl, hv, hb⟩
  obtain ⟨hs, hnn, ho⟩ := resFormD hv HS.out HN.out HX.out
  rw [hs, hnn, ← HEX.out, ← HCD.out]
  have Own := Lib.hid (Ot.new ho)
  clear hv ho hs hnn
  have Bel_5 := Lib.hid (belNext Bel_4.out hb)
  have Sz_5 : Hid (w4.heap.size ≤ w5.heap.size) := Lib.hid hb.size
  have Bxe_5 := Lib.hid (Bxe_4.out.next hb)
  have Ra0_5 := Lib.hid (Ra0_4.out.next hb)
  have Owe_5 := Lib.hid (Owe_4.out.next hb)
  have Owx_5 := Lib.hid (Owx_4.out.next hb)
  clear hb Bel_4 Bxe_4 Ra0_4 Owe_4 Owx_4 hxe1 hxe2 hxe3 hxe4
  obtain ⟨⟨hxe1, hxe2, hxe3⟩, hxe4⟩ := Bxe_5.out
  have Owg_5 := Own
  clear Own
  go_wp2_with fail
  obtain ⟨w6, hw⟩ : ∃ w6, w6 = w5.alloc (.cells #[.int .i64 S, .slice Bg N dg, .int .i64 EX] 30) := ⟨_, rfl⟩
  rw [← hw]
  have hb : Below w5.heap.size w5 w6 := by rw [hw]; exact belAlloc1 _ _
  have Bnew : Hid (DBox w6 w5.heap.size S Bg N dg EX) := Lib.hid (by rw [hw]; exact DBox.new _ _ _ _ _ _ _)
  have Sb_6 : Hid (w5.heap.size + 1 = w6.heap.size) := Lib.hid (by rw [hw]; simp)
  clear hw
  have Bel_6 := Lib.hid (belNext Bel_5.out hb)
  have Sz_6 : Hid (w5.heap.size ≤ w6.heap.size) := Lib.hid hb.size
  have Bxe_6 := Lib.hid (Bxe_5.out.next hb)
  have Ra0_6 := Lib.hid (Ra0_5.out.next hb)
  have Owe_6 := Lib.hid (Owe_5.out.next hb)
  have Owx_6 := Lib.hid (Owx_5.out.next hb)
  have Owg_6 := Lib.hid (Owg_5.out.next hb)
  clear hb Bel_5 Bxe_5 Ra0_5 Owe_5 Owx_5 Owg_5 hxe1 hxe2 hxe3 hxe4
  have Bxg_6 := Bnew
  clear Bnew
  obtain ⟨⟨hxe1, hxe2, hxe3⟩, hxe4⟩ := Bxe_6.out
  obtain ⟨⟨hxg1, hxg2, hxg3⟩, hxg4⟩ := Bxg_6.out
  go_wp2_with fail
  refine (eqD_yes S Bg Be N dg de _ _ EX XS _ Owg_6.out.rt.1 Owe_6.out.rt.1 Owg_6.out.rt.2 Owe_6.out.rt.2 HXN.out HN1.out).mono ?_
  rintro e w7 ⟨rfl, hb⟩
  have Bel_7 := Lib.hid (belNext Bel_6.out hb)
  have Sz_7 : Hid (w6.heap.size ≤ w7.heap.size) := Lib.hid hb.size
  have Bxe_7 := Lib.hid (Bxe_6.out.next hb)
  have Bxg_7 := Lib.hid (Bxg_6.out.next hb)
  have Ra0_7 := Lib.hid (Ra0_6.out.next hb)
  have Owe_7 := Lib.hid (Owe_6.out.next hb)
  have Owx_7 := Lib.hid (Owx_6.out.next hb)
  have Owg_7 := Lib.hid (Owg_6.out.next hb)
  clear hb Bel_6 Bxe_6 Bxg_6 Ra0_6 Owe_6 Owx_6 Owg_6 hxe1 hxe2 hxe3 hxe4 hxg1 hxg2 hxg3 hxg4
  obtain ⟨⟨hxe1, hxe2, hxe3⟩, hxe4⟩ := Bxe_7.out
  obtain ⟨⟨hxg1, hxg2, hxg3⟩, hxg4⟩ := Bxg_7.out
  go_wp2_with fail
  refine (toF_any A0 n0 c0 (fs xs0) _ Ra0_7.out.all (by rw [fs_len]; exact Hn0.out) (fl_all xs0) Hle0.out).mono ?_
  rintro e w8 ⟨v, rfl, own, hb⟩
  obtain ⟨Bt, dt, rfl⟩ := own_form own
  have Own := Lib.hid (Ft.new (Fw.own own))
  clear own
  have Bel_8 := Lib.hid (belNext Bel_7.out hb)
  have Sz_8 : Hid (w7.heap.size ≤ w8.heap.size) := Lib.hid hb.size
  have Bxe_8 := Lib.hid (Bxe_7.out.next hb)
  have Bxg_8 := Lib.hid (Bxg_7.out.next hb)
  have Ra0_8 := Lib.hid (Ra0_7.out.next hb)
  have Owe_8 := Lib.hid (Owe_7.out.next hb)
  have Owx_8 := Lib.hid (Owx_7.out.next hb)
  have Owg_8 := Lib.hid (Owg_7.out.next hb)
  clear hb Bel_7 Bxe_7 Bxg_7 Ra0_7 Owe_7 Owx_7 Owg_7 hxe1 hxe2 hxe3 hxe4 hxg1 hxg2 hxg3 hxg4
  obtain ⟨⟨hxe1, hxe2, hxe3⟩, hxe4⟩ := Bxe_8.out
  obtain ⟨⟨hxg1, hxg2, hxg3⟩, hxg4⟩ := Bxg_8.out
  have Owt_8 := Own
  clear Own
  go_wp2_with fail
  refine (eqF_yes Bx Bt n0 dx dt _ xs0 xs0 _ Owx_8.out.rt.all Owt_8.out.rt.all Hn0.out Hn0.out (fun k h h' => ⟨Hb0.out _ (List.getElem_mem h), Hb0.out _ (List.getElem_mem h), .inl rfl⟩) Hle0.out).mono ?_
  rintro e w9 ⟨rfl, q, hq⟩
  have hb : Below w8.heap.size w8 w9 := by rw [hq]; exact below_drewN (Below.refl _ _) q
  clear hq
  have Bel_9 := Lib.hid (belNext Bel_8.out hb)
  have Sz_9 : Hid (w8.heap.size ≤ w9.heap.size) := Lib.hid hb.size
  have Bxe_9 := Lib.hid (Bxe_8.out.next hb)
  have Bxg_9 := Lib.hid (Bxg_8.out.next hb)
  have Ra0_9 := Lib.hid (Ra0_8.out.next hb)
  have Owe_9 := Lib.hid (Owe_8.out.next hb)
  have Owx_9 := Lib.hid (Owx_8.out.next hb)
  have Owg_9 := Lib.hid (Owg_8.out.next hb)
  have Owt_9 := Lib.hid (Owt_8.out.next hb)
  clear hb Bel_8 Bxe_8 Bxg_8 Ra0_8 Owe_8 Owx_8 Owg_8 Owt_8 hxe1 hxe2 hxe3 hxe4 hxg1 hxg2 hxg3 hxg4
  obtain ⟨⟨hxe1, hxe2, hxe3⟩, hxe4⟩ := Bxe_9.out
  obtain ⟨⟨hxg1, hxg2, hxg3⟩, hxg4⟩ := Bxg_9.out
  go_wp2_with fail
  clear Owt_9
  refine (markF_any Bx n0 dx 1 xs0 _ _ _ Owx_9.out.1 Hn0.out (by have := Hle0.out; omega) (by omega) (by omega)).mono ?_
  rintro e w10 ⟨rfl, ho, row, hg, hrow⟩
  obtain ⟨K1, hK1⟩ : ∃ K1 : Int, K1 = 1 + ↑n0 := ⟨_, rfl⟩
  rw [← hK1]
  have hK1a : 0 ≤ K1 := by omega
  have hK1b : K1 ≤ 1048577 := by have := Hle0.out; omega
  clear hK1
  have Bel_10 := Lib.hid (belMarked Bel_9.out hg hrow (by have z0 := Sz_1.out; have z1 := Sz_2.out; have z2 := Sb_3.out; have z3 := Sz_3.out; have z4 := Sz_4.out; have z5 := Sz_5.out; have z6 := Sb_6.out; have z7 := Sz_6.out; have z8 := Sz_7.out; have z9 := Sz_8.out; have z10 := Sz_9.out; (try simp only [] at *); omega))
  have Sz_10 : Hid (w9.heap.size ≤ w10.heap.size) := Lib.hid hg.size
  have Bxe_10 := Lib.hid (Bxe_9.out.grown hg hrow (by have z0 := Sz_1.out; have z1 := Sz_2.out; have z2 := Sb_3.out; have z3 := Sz_3.out; have z4 := Sz_4.out; have z5 := Sz_5.out; have z6 := Sb_6.out; have z7 := Sz_6.out; have z8 := Sz_7.out; have z9 := Sz_8.out; have z10 := Sz_9.out; (try simp only [] at *); omega))
  have Bxg_10 := Lib.hid (Bxg_9.out.grown hg hrow (by have z0 := Sz_1.out; have z1 := Sz_2.out; have z2 := Sb_3.out; have z3 := Sz_3.out; have z4 := Sz_4.out; have z5 := Sz_5.out; have z6 := Sb_6.out; have z7 := Sz_6.out; have z8 := Sz_7.out; have z9 := Sz_8.out; have z10 := Sz_9.out; (try simp only [] at *); omega))
  have Ra0_10 := Lib.hid (Ra0_9.out.grown hg hrow (by have z0 := Sz_1.out; have z1 := Sz_2.out; have z2 := Sb_3.out; have z3 := Sz_3.out; have z4 := Sz_4.out; have z5 := Sz_5.out; have z6 := Sb_6.out; have z7 := Sz_6.out; have z8 := Sz_7.out; have z9 := Sz_8.out; have z10 := Sz_9.out; (try simp only [] at *); omega))
  have Owe_10 := Lib.hid (Owe_9.out.grown hg hrow (by have z0 := Sz_1.out; have z1 := Sz_2.out; have z2 := Sb_3.out; have z3 := Sz_3.out; have z4 := Sz_4.out; have z5 := Sz_5.out; have z6 := Sb_6.out; have z7 := Sz_6.out; have z8 := Sz_7.out; have z9 := Sz_8.out; have z10 := Sz_9.out; (try simp only [] at *); omega))
  have Owg_10 := Lib.hid (Owg_9.out.grown hg hrow (by have z0 := Sz_1.out; have z1 := Sz_2.out; have z2 := Sb_3.out; have z3 := Sz_3.out; have z4 := Sz_4.out; have z5 := Sz_5.out; have z6 := Sb_6.out; have z7 := Sz_6.out; have z8 := Sz_7.out; have z9 := Sz_8.out; have z10 := Sz_9.out; (try simp only [] at *); omega))
  clear hg hrow ho Bel_9 Bxe_9 Bxg_9 Ra0_9 Owe_9 Owx_9 Owg_9 hxe1 hxe2 hxe3 hxe4 hxg1 hxg2 hxg3 hxg4
  obtain ⟨⟨hxe1, hxe2, hxe3⟩, hxe4⟩ := Bxe_10.out
  obtain ⟨⟨hxg1, hxg2, hxg3⟩, hxg4⟩ := Bxg_10.out
  go_wp2_with fail
  refine (eqD_yes S Bg Be N dg de _ _ EX XS _ Owg_10.out.rt.1 Owe_10.out.rt.1 Owg_10.out.rt.2 Owe_10.out.rt.2 HXN.out HN1.out).mono ?_
  rintro e w11 ⟨rfl, hb⟩
  have Bel_11 := Lib.hid (belNext Bel_10.out hb)
  have Sz_11 : Hid (w10.heap.size ≤ w11.heap.size) := Lib.hid hb.size
  have Bxe_11 := Lib.hid (Bxe_10.out.next hb)
  have Bxg_11 := Lib.hid (Bxg_10.out.next hb)
  have Ra0_11 := Lib.hid (Ra0_10.out.next hb)
  have Owe_11 := Lib.hid (Owe_10.out.next hb)
  have Owg_11 := Lib.hid (Owg_10.out.next hb)
  clear hb Bel_10 Bxe_10 Bxg_10 Ra0_10 Owe_10 Owg_10 hxe1 hxe2 hxe3 hxe4 hxg1 hxg2 hxg3 hxg4
  obtain ⟨⟨hxe1, hxe2, hxe3⟩, hxe4⟩ := Bxe_11.out
  obtain ⟨⟨hxg1, hxg2, hxg3⟩, hxg4⟩ := Bxg_11.out
  go_wp2_with fail
  refine (markD_any S Bg N dg EX 1 XS _ _ _ Owg_11.out.1 HXN.out HN2.out (by omega) (by omega) Owg_11.out.2).mono ?_
  rintro e w12 ⟨rfl, ho, row, hg, hrow⟩
  have Bel_12 := Lib.hid (belMarked Bel_11.out hg hrow (by have z0 := Sz_1.out; have z1 := Sz_2.out; have z2 := Sb_3.out; have z3 := Sz_3.out; have z4 := Sz_4.out; have z5 := Sz_5.out; have z6 := Sb_6.out; have z7 := Sz_6.out; have z8 := Sz_7.out; have z9 := Sz_8.out; have z10 := Sz_9.out; have z11 := Sz_10.out; have z12 := Sz_11.out; (try simp only [] at *); omega))
  have Sz_12 : Hid (w11.heap.size ≤ w12.heap.size) := Lib.hid hg.size
  have Bxe_12 := Lib.hid (Bxe_11.out.grown hg hrow (by have z0 := Sz_1.out; have z1 := Sz_2.out; have z2 := Sb_3.out; have z3 := Sz_3.out; have z4 := Sz_4.out; have z5 := Sz_5.out; have z6 := Sb_6.out; have z7 := Sz_6.out; have z8 := Sz_7.out; have z9 := Sz_8.out; have z10 := Sz_9.out; have z11 := Sz_10.out; have z12 := Sz_11.out; (try simp only [] at *); omega))
  have Bxg_12 := Lib.hid (Bxg_11.out.grown hg hrow (by have z0 := Sz_1.out; have z1 := Sz_2.out; have z2 := Sb_3.out; have z3 := Sz_3.out; have z4 := Sz_4.out; have z5 := Sz_5.out; have z6 := Sb_6.out; have z7 := Sz_6.out; have z8 := Sz_7.out; have z9 := Sz_8.out; have z10 := Sz_9.out; have z11 := Sz_10.out; have z12 := Sz_11.out; (try simp only [] at *); omega))
  have Ra0_12 := Lib.hid (Ra0_11.out.grown hg hrow (by have z0 := Sz_1.out; have z1 := Sz_2.out; have z2 := Sb_3.out; have z3 := Sz_3.out; have z4 := Sz_4.out; have z5 := Sz_5.out; have z6 := Sb_6.out; have z7 := Sz_6.out; have z8 := Sz_7.out; have z9 := Sz_8.out; have z10 := Sz_9.out; have z11 := Sz_10.out; have z12 := Sz_11.out; (try simp only [] at *); omega))
  have Owe_12 := Lib.hid (Owe_11.out.grown hg hrow (by have z0 := Sz_1.out; have z1 := Sz_2.out; have z2 := Sb_3.out; have z3 := Sz_3.out; have z4 := Sz_4.out; have z5 := Sz_5.out; have z6 := Sb_6.out; have z7 := Sz_6.out; have z8 := Sz_7.out; have z9 := Sz_8.out; have z10 := Sz_9.out; have z11 := Sz_10.out; have z12 := Sz_11.out; (try simp only [] at *); omega))
  have Own : Hid (Ot w12 _ _ Bg (vi (marks 1 N))) := Lib.hid ⟨ho, Nat.le_trans Owg_11.out.2 hg.size⟩
  clear hg hrow ho Bel_11 Bxe_11 Bxg_11 Ra0_11 Owe_11 Owg_11 hxe1 hxe2 hxe3 hxe4 hxg1 hxg2 hxg3 hxg4
  have Owg_12 := Own
  clear Own
  obtain ⟨⟨hxe1, hxe2, hxe3⟩, hxe4⟩ := Bxe_12.out
  obtain ⟨⟨hxg1, hxg2, hxg3⟩, hxg4⟩ := Bxg_12.out
  go_wp2_with fail
  refine (heldD_any S Bg N dg EX 1 _ _ Owg_12.out.rt.1 Owg_12.out.rt.2 HN2.out (by omega) (by omega)).mono ?_
  rintro e w13 ⟨rfl, hb⟩
  have Bel_13 := Lib.hid (belNext Bel_12.out hb)
  have Sz_13 : Hid (w12.heap.size ≤ w13.heap.size) := Lib.hid hb.size
  have Bxe_13 := Lib.hid (Bxe_12.out.next hb)
  have Bxg_13 := Lib.hid (Bxg_12.out.next hb)
  have Ra0_13 := Lib.hid (Ra0_12.out.next hb)
  have Owe_13 := Lib.hid (Owe_12.out.next hb)
  have Owg_13 := Lib.hid (Owg_12.out.next hb)
  clear hb Bel_12 Bxe_12 Bxg_12 Ra0_12 Owe_12 Owg_12 hxe1 hxe2 hxe3 hxe4 hxg1 hxg2 hxg3 hxg4
  obtain ⟨⟨hxe1, hxe2, hxe3⟩, hxe4⟩ := Bxe_13.out
  obtain ⟨⟨hxg1, hxg2, hxg3⟩, hxg4⟩ := Bxg_13.out
  go_wp2_with fail
  refine (toF_any A0 n0 c0 (fs xs0) _ Ra0_13.out.all (by rw [fs_len]; exact Hn0.out) (fl_all xs0) Hle0.out).mono ?_
  rintro e w14 ⟨v, rfl, own, hb⟩
  obtain ⟨By, dy, rfl⟩ := own_form own
  have Own := Lib.hid (Ft.new (Fw.own own))
  clear own
  have Bel_14 := Lib.hid (belNext Bel_13.out hb)
  have Sz_14 : Hid (w13.heap.size ≤ w14.heap.size) := Lib.hid hb.size
  have Bxe_14 := Lib.hid (Bxe_13.out.next hb)
  have Bxg_14 := Lib.hid (Bxg_13.out.next hb)
  have Ra0_14 := Lib.hid (Ra0_13.out.next hb)
  have Owe_14 := Lib.hid (Owe_13.out.next hb)
  have Owg_14 := Lib.hid (Owg_13.out.next hb)
  clear hb Bel_13 Bxe_13 Bxg_13 Ra0_13 Owe_13 Owg_13 hxe1 hxe2 hxe3 hxe4 hxg1 hxg2 hxg3 hxg4
  obtain ⟨⟨hxe1, hxe2, hxe3⟩, hxe4⟩ := Bxe_14.out
  obtain ⟨⟨hxg1, hxg2, hxg3⟩, hxg4⟩ := Bxg_14.out
  have Owy_14 := Own
  clear Own
  go_wp2_with fail
  refine (implVeW_any xs0 By n0 dy _ Owy_14.out.rt.all Hn0.out Hk0.out Hb0.out (HT.out.next Bel_14.out)).mono ?_
  rintro e w15 ⟨Sr, Bh, nr, dh, rfl, hv, hb⟩
  obtain ⟨hs, hnn, ho⟩ := resFormD hv HS.out HN.out HX.out
  rw [hs, hnn, ← HEX.out, ← HCD.out]
  have Own := Lib.hid (Ot.new ho)
  clear hv ho hs hnn
  have Bel_15 := Lib.hid (belNext Bel_14.out hb)
  have Sz_15 : Hid (w14.heap.size ≤ w15.heap.size) := Lib.hid hb.size
  have Bxe_15 := Lib.hid (Bxe_14.out.next hb)
  have Bxg_15 := Lib.hid (Bxg_14.out.next hb)
  have Ra0_15 := Lib.hid (Ra0_14.out.next hb)
  have Owe_15 := Lib.hid (Owe_14.out.next hb)
  have Owg_15 := Lib.hid (Owg_14.out.next hb)
  have Owy_15 := Lib.hid (Owy_14.out.next hb)
  clear hb Bel_14 Bxe_14 Bxg_14 Ra0_14 Owe_14 Owg_14 Owy_14 hxe1 hxe2 hxe3 hxe4 hxg1 hxg2 hxg3 hxg4
  obtain ⟨⟨hxe1, hxe2, hxe3⟩, hxe4⟩ := Bxe_15.out
  obtain ⟨⟨hxg1, hxg2, hxg3⟩, hxg4⟩ := Bxg_15.out
  have Owh_15 := Own
  clear Own
  go_wp2_with fail
  obtain ⟨w16, hw⟩ : ∃ w16, w16 = w15.alloc (.cells #[.int .i64 S, .slice Bh N dh, .int .i64 EX] 30) := ⟨_, rfl⟩
  rw [← hw]
  have hb : Below w15.heap.size w15 w16 := by rw [hw]; exact belAlloc1 _ _
  have Bnew : Hid (DBox w16 w15.heap.size S Bh N dh EX) := Lib.hid (by rw [hw]; exact DBox.new _ _ _ _ _ _ _)
  have Sb_16 : Hid (w15.heap.size + 1 = w16.heap.size) := Lib.hid (by rw [hw]; simp)
  clear hw
  have Bel_16 := Lib.hid (belNext Bel_15.out hb)
  have Sz_16 : Hid (w15.heap.size ≤ w16.heap.size) := Lib.hid hb.size
  have Bxe_16 := Lib.hid (Bxe_15.out.next hb)
  have Bxg_16 := Lib.hid (Bxg_15.out.next hb)
  have Ra0_16 := Lib.hid (Ra0_15.out.next hb)
  have Owe_16 := Lib.hid (Owe_15.out.next hb)
  have Owg_16 := Lib.hid (Owg_15.out.next hb)
  have Owy_16 := Lib.hid (Owy_15.out.next hb)
  have Owh_16 := Lib.hid (Owh_15.out.next hb)
  clear hb Bel_15 Bxe_15 Bxg_15 Ra0_15 Owe_15 Owg_15 Owy_15 Owh_15 hxe1 hxe2 hxe3 hxe4 hxg1 hxg2 hxg3 hxg4
  have Bxh_16 := Bnew
  clear Bnew
  obtain ⟨⟨hxe1, hxe2, hxe3⟩, hxe4⟩ := Bxe_16.out
  obtain ⟨⟨hxg1, hxg2, hxg3⟩, hxg4⟩ := Bxg_16.out
  obtain ⟨⟨hxh1, hxh2, hxh3⟩, hxh4⟩ := Bxh_16.out
  go_wp2_with fail
  refine (eqD_yes S Bh Be N dh de _ _ EX XS _ Owh_16.out.rt.1 Owe_16.out.rt.1 Owh_16.out.rt.2 Owe_16.out.rt.2 HXN.out HN1.out).mono ?_
  rintro e w17 ⟨rfl, hb⟩
  have Bel_17 := Lib.hid (belNext Bel_16.out hb)
  have Sz_17 : Hid (w16.heap.size ≤ w17.heap.size) := Lib.hid hb.size
  have Bxe_17 := Lib.hid (Bxe_16.out.next hb)
  have Bxg_17 := Lib.hid (Bxg_16.out.next hb)
  have Bxh_17 := Lib.hid (Bxh_16.out.next hb)
  have Ra0_17 := Lib.hid (Ra0_16.out.next hb)
  have Owe_17 := Lib.hid (Owe_16.out.next hb)
  have Owg_17 := Lib.hid (Owg_16.out.next hb)
  have Owy_17 := Lib.hid (Owy_16.out.next hb)
  have Owh_17 := Lib.hid (Owh_16.out.next hb)
  clear hb Bel_16 Bxe_16 Bxg_16 Bxh_16 Ra0_16 Owe_16 Owg_16 Owy_16 Owh_16 hxe1 hxe2 hxe3 hxe4 hxg1 hxg2 hxg3 hxg4 hxh1 hxh2 hxh3 hxh4
  obtain ⟨⟨hxe1, hxe2, hxe3⟩, hxe4⟩ := Bxe_17.out
  obtain ⟨⟨hxg1, hxg2, hxg3⟩, hxg4⟩ := Bxg_17.out
  obtain ⟨⟨hxh1, hxh2, hxh3⟩, hxh4⟩ := Bxh_17.out
  go_wp2_with fail
  refine (heldD_any S Bg N dg EX 1 _ _ Owg_17.out.rt.1 Owg_17.out.rt.2 HN2.out (by omega) (by omega)).mono ?_
  rintro e w18 ⟨rfl, hb⟩
  have Bel_18 := Lib.hid (belNext Bel_17.out hb)
  have Sz_18 : Hid (w17.heap.size ≤ w18.heap.size) := Lib.hid hb.size
  have Bxe_18 := Lib.hid (Bxe_17.out.next hb)
  have Bxg_18 := Lib.hid (Bxg_17.out.next hb)
  have Bxh_18 := Lib.hid (Bxh_17.out.next hb)
  have Ra0_18 := Lib.hid (Ra0_17.out.next hb)
  have Owe_18 := Lib.hid (Owe_17.out.next hb)
  have Owg_18 := Lib.hid (Owg_17.out.next hb)
  have Owy_18 := Lib.hid (Owy_17.out.next hb)
  have Owh_18 := Lib.hid (Owh_17.out.next hb)
  clear hb Bel_17 Bxe_17 Bxg_17 Bxh_17 Ra0_17 Owe_17 Owg_17 Owy_17 Owh_17 hxe1 hxe2 hxe3 hxe4 hxg1 hxg2 hxg3 hxg4 hxh1 hxh2 hxh3 hxh4
  obtain ⟨⟨hxe1, hxe2, hxe3⟩, hxe4⟩ := Bxe_18.out
  obtain ⟨⟨hxg1, hxg2, hxg3⟩, hxg4⟩ := Bxg_18.out
  obtain ⟨⟨hxh1, hxh2, hxh3⟩, hxh4⟩ := Bxh_18.out
  go_wp2_with fail
  go_ret
  exact ⟨rfl, Bel_18.out⟩

/-! the step from the walk to the given statement -/
set_option maxRecDepth 100000 in
theorem lifted (os : Os) (started : os.Started) (H : Type) (enc : TypeId × Value → H) :
    ReturnsInHanded {} Tryd.checked os 8 .any (fun w args => (Rows.fnExactValueOfExpansionSpec.pre enc Tryd.prog Tryd.f8 [] false w args ∧ laidMetH Tryd.prog laidL w) ∧ sizedMet enc Tryd.prog Tryd.f8 (OpenSpec.ofChange Rows.fnExactValueOfExpansionSpec) false w args) (Rows.fnExactValueOfExpansionSpec.post enc Tryd.prog Tryd.f8 false true false false) := by
  refine returnsInHanded_of_change_and (C := Tryd.checked) (X := fun w _ => laidMetH Tryd.prog laidL w) (fun _ _ _ hh h => h.of_heap hh) own started (by kernel_rfl) Tryd.func8
    (ChangeSpec.witness_shaped (enc := enc) (C := Tryd.checked) (os := os) (X := fun w _ => laidMetH Tryd.prog laidL w) false (World.doorLaid Tryd.prog 14 os) #[.slice none 0 0] 8 rfl (World.shaped_of_RefB (by kernel_rfl) (by kernel_rfl)) (by kernel_rfl) (by kernel_rfl) (by kernel_rfl) (door_met os _)) ?_
  intro W base args ds gs before hval0 hW _ _ hL _
  have hval : ∀ (j : Nat) t v, Tryd.f8.params[j]? = some t → args[j]? = some v → Value.okWide Tryd.prog W .any base t v := hval0
  have hW' := hW
  obtain ⟨p, q, hA0, hV, rfl, hfz, hnd⟩ := hW
  have hA : DataW.TrodAll enc Tryd.prog W 0 (fun _ => true) true Tryd.f8.params.toList args.toList ds p := hA0
  rw [Tryd.params8] at hA hval
  obtain ⟨v0, vs0, d0, ds0, p0, q0, hargs, rfl, rfl, h0, r0⟩ := trodAll_cons hA
  obtain ⟨rfl, rfl, rfl⟩ := trodAll_nil r0
  obtain rfl : args = #[v0] := by cases args; simp_all
  obtain ⟨rfl, rfl⟩ := trodVars_none hV
  have hc0 := h0
  obtain ⟨A0, n0, c0, xs0, rfl, hr0, hl0, hx0⟩ := open_floats (hval 0 53 v0 rfl rfl) h0
  clear hA0 hval0
  simp only [List.append_nil] at hW'
  refine (walk A0 n0 c0 xs0 W hr0 hl0 hx0 (tabz_of_laid hL)).mono fun e W' ⟨he, hg⟩ => ?_
  subst he
  exact ⟨_, rfl, law_end (pa := _) hW' (by simp) rfl (fun _ _ _ => (trodAll_cons_mk (shut_bool Tryd.underlying4 _) trodAll_mk0)) (fun sp hsp => (trodAll_cons_mk (carryB (by kernel_rfl) (of_decide_eq_true (by kernel_rfl)) hg hc0 (fun x hx => hW'.lt x (by simp [hx])) (fun x hx => hsp x (by simp [hx]))) trodAll_mk0)) rfl
    hg (ok_one (by kernel_rfl) rfl (okWide_bool_mk Tryd.underlying4 _))⟩

theorem row_proved : Rows.FnExactValueOfExpansionSaid :=
  OpenClaim.holds_of_wide 8 Tryd.f8 rfl rfl rfl rfl rfl rfl rfl ⟨rfl, rfl, rfl, rfl, rfl⟩ rfl rfl rfl rfl rfl (by kernel_rfl) Tryd.func8 (by kernel_rfl)
    (of_decide_eq_true (by kernel_rfl)) (by unfold Func.isWrapper; first | (rw [if_pos (by decide +kernel)]; kernel_rfl) | (rw [if_neg (by decide +kernel)]; exact ⟨rfl, rfl⟩))
    (fun os started H enc _ => lifted os started H enc)

theorem proved : Rows.FnExactValueOfExpansionCardSaid :=
  Claim7.holds_tied_plain_at .later [] [.data] true (true, "ef298af8e9429d058a3b92795f2aa35ea7919098cf63857fd1bcb0290a91013f") true
    row_proved (fun _ h => by cases h) (by kernel_rfl) (fun _ h => by cases h) fnExactValueOfExpansion_row_tie rfl ⟨rfl, rfl⟩ (by kernel_rfl) rfl
    (fun f fn hf hfn => by
      obtain rfl : f = 8 := Option.some.inj ((show Tryd.prog.funcNamed "loop.example/g01172/laws.FnExactValueOfExpansion" = some 8 by kernel_rfl).symm.trans hf) |>.symm
      obtain rfl : fn = Tryd.f8 := (Option.some.inj (Tryd.func8.symm.trans hfn)).symm
      exact ⟨by kernel_rfl, fun j t ht => by
        rw [Tryd.params8] at ht
        have hm : t ∈ [53] := by simpa using Array.mem_of_getElem? ht
        have hall : ([53].all fun u => !Tryd.prog.wantsStandIn u) = true := by kernel_rfl
        exact (show Tryd.prog.wantsStandIn t = false by simpa using List.all_eq_true.1 hall t hm)⟩)
    (by kernel_rfl)
#print axioms proved
end Go.Proofs.YtnecnbonnidijaaDoor.fnExactValueOfExpansion
