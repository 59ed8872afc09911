/- FnExactValueOfPair returns true at every pair of the laws: the program's ValueOfPair gives the exact number and the code that the model gives, in memory of its own. Condition: the table math/bits.deBruijn64tab is as Go's library lays it (tied to the text). -/
import Derived.Test.YtnecnbonnidijaaDoorRows
import Derived.Test.YtnecnbonnidijaaDoorGA10
import Derived.Test.YtnecnbonnidijaaDoorGA19
import Derived.Test.YtnecnbonnidijaaDoorGA6
import Derived.Test.YtnecnbonnidijaaDoorTie
import Derived.Test.YtnecnbonnidijaaDoorCards
import Derived.SevenTiedAt
import Derived.ProofKit
import Derived.OpenShut
import Derived.Deep.RegionHeld3
namespace Go.Proofs.YtnecnbonnidijaaDoor.fnExactValueOfPair
set_option maxRecDepth 100000
open Go Go.ChangeShapes Go.WideShapes Go.ChangeAt Go.RowKit
set_option linter.unusedVariables false
set_option linter.unusedSimpArgs false

theorem own : ownKnob Tryd.prog.godebug = none := by kernel_rfl

set_option maxHeartbeats 16000000 in
set_option maxRecDepth 100000 in
theorem walk (x0 y0 : Nat) (w : World) (wx0 : x0 < 4294967296) (wy0 : y0 < 4294967296) (hT : TabZ w) :
    Calls Tryd.prog 6 #[.agg #[.float .f32 x0, .float .f32 y0]] w fun e w' => e = .returned (.bool true) ∧ Below w.heap.size w w' := by
  have Hxy := Lib.hid (And.intro wx0 wy0)
  have HT := Lib.hid hT
  clear wx0 wy0 hT
  obtain ⟨S, hS⟩ : ∃ S, S = (vpZ x0 y0).sign := ⟨_, rfl⟩
  obtain ⟨N, hN⟩ : ∃ N, N = (limbs (vpZ x0 y0).natAbs).length := ⟨_, rfl⟩
  obtain ⟨XS, hX⟩ : ∃ XS, XS = li (limbs (vpZ x0 y0).natAbs) := ⟨_, rfl⟩
  have HS := Lib.hid hS
  have HN := Lib.hid hN
  have HX := Lib.hid hX
  have HXN : Hid (XS.length = N) := Lib.hid (by rw [hX, hN, li_len])
  have HN1 : Hid (N ≤ 1048576) := Lib.hid (by rw [hN]; have := vp_len x0 y0; omega)
  have HN2 : Hid (N ≤ 4194304) := Lib.hid (by have := HN1.out; omega)
  clear hS hN hX
  obtain ⟨CD, hCD⟩ : ∃ CD : Int, CD = vpE x0 y0 := ⟨_, rfl⟩
  have HCD := Lib.hid hCD
  clear hCD
  obtain ⟨EX, hEX⟩ : ∃ EX : Int, EX = vpX x0 y0 := ⟨_, rfl⟩
  have HEX := Lib.hid hEX
  clear hEX
  go_enter Tryd.func6, Tryd.ntmps6
  go_wp2_with fail
  obtain ⟨w0, hw0⟩ : ∃ w0, w0 = w.alloc (.cells #[.float .f32 x0, .float .f32 y0] 46) := ⟨_, rfl⟩
  rw [← hw0]
  have Bel_0 : Hid (Below w.heap.size w w0) := Lib.hid (by rw [hw0]; exact belAlloc1 _ _)
  have Bx0_0 : Hid (PB w0 w.heap.size x0 y0) := Lib.hid (by rw [hw0]; exact PB.new _ _ _ _)
  clear hw0
  have Sa_0 : Hid (w.heap.size < w0.heap.size) := Lib.hid Bx0_0.out.2
  obtain ⟨⟨hx01, hx02⟩, hx03⟩ := Bx0_0.out
  refine (toPair_any x0 y0 _).mono ?_
  rintro e w1 ⟨rfl, hb⟩
  have Bel_1 := Lib.hid (belNext Bel_0.out hb)
  have Sz_1 : Hid (w0.heap.size ≤ w1.heap.size) := Lib.hid hb.size
  have Bx0_1 := Lib.hid (Bx0_0.out.next hb)
  clear hb Bel_0 Bx0_0 hx01 hx02 hx03
  obtain ⟨⟨hx01, hx02⟩, hx03⟩ := Bx0_1.out
  go_wp2_with fail
  refine (specVpW_any x0 y0 _ Hxy.out.1 Hxy.out.2).mono ?_
  rintro e w2 ⟨Sr, Be, nr, de, rfl, hv, hb⟩
  obtain ⟨hs, hnn, ho⟩ := resFormD hv HS.out HN.out HX.out
  rw [hs, hnn, ← HEX.out, ← HCD.out]
  have Own := Lib.hid (Ot.new ho)
  clear hv ho hs hnn
  have Bel_2 := Lib.hid (belNext Bel_1.out hb)
  have Sz_2 : Hid (w1.heap.size ≤ w2.heap.size) := Lib.hid hb.size
  have Bx0_2 := Lib.hid (Bx0_1.out.next hb)
  clear hb Bel_1 Bx0_1 hx01 hx02 hx03
  obtain ⟨⟨hx01, hx02⟩, hx03⟩ := Bx0_2.out
  have Owe_2 := Own
  clear Own
  go_wp2_with fail
  obtain ⟨w3, hw⟩ : ∃ w3, w3 = w2.alloc (.cells #[.int .i64 S, .slice Be N de, .int .i64 EX] 30) := ⟨_, rfl⟩
  rw [← hw]
  have hb : Below w2.heap.size w2 w3 := by rw [hw]; exact belAlloc1 _ _
  have Bnew : Hid (DBox w3 w2.heap.size S Be N de EX) := Lib.hid (by rw [hw]; exact DBox.new _ _ _ _ _ _ _)
  have Sb_3 : Hid (w2.heap.size + 1 = w3.heap.size) := Lib.hid (by rw [hw]; simp)
  clear hw
  have Bel_3 := Lib.hid (belNext Bel_2.out hb)
  have Sz_3 : Hid (w2.heap.size ≤ w3.heap.size) := Lib.hid hb.size
  have Bx0_3 := Lib.hid (Bx0_2.out.next hb)
  have Owe_3 := Lib.hid (Owe_2.out.next hb)
  clear hb Bel_2 Bx0_2 Owe_2 hx01 hx02 hx03
  have Bxe_3 := Bnew
  clear Bnew
  obtain ⟨⟨hx01, hx02⟩, hx03⟩ := Bx0_3.out
  obtain ⟨⟨hxe1, hxe2, hxe3⟩, hxe4⟩ := Bxe_3.out
  go_wp2_with fail
  refine (toPair_any x0 y0 _).mono ?_
  rintro e w4 ⟨rfl, hb⟩
  have Bel_4 := Lib.hid (belNext Bel_3.out hb)
  have Sz_4 : Hid (w3.heap.size ≤ w4.heap.size) := Lib.hid hb.size
  have Bx0_4 := Lib.hid (Bx0_3.out.next hb)
  have Bxe_4 := Lib.hid (Bxe_3.out.next hb)
  have Owe_4 := Lib.hid (Owe_3.out.next hb)
  clear hb Bel_3 Bx0_3 Bxe_3 Owe_3 hx01 hx02 hx03 hxe1 hxe2 hxe3 hxe4
  obtain ⟨⟨hx01, hx02⟩, hx03⟩ := Bx0_4.out
  obtain ⟨⟨hxe1, hxe2, hxe3⟩, hxe4⟩ := Bxe_4.out
  go_wp2_with fail
  refine (implVpW_any x0 y0 _ Hxy.out.1 Hxy.out.2 (HT.out.next Bel_4.out)).mono ?_
  rintro e w5 ⟨Sr, Bg, nr, dg, rfl, hv, hb⟩
  obtain ⟨hs, hnn, ho⟩ := resFormD hv HS.out HN.out HX.out
  rw [hs, hnn, ← HEX.out, ← HCD.out]
  have Own := Lib.hid (Ot.new ho)
  clear hv ho hs hnn
  have Bel_5 := Lib.hid (belNext Bel_4.out hb)
  have Sz_5 : Hid (w4.heap.size ≤ w5.heap.size) := Lib.hid hb.size
  have Bx0_5 := Lib.hid (Bx0_4.out.next hb)
  have Bxe_5 := Lib.hid (Bxe_4.out.next hb)
  have Owe_5 := Lib.hid (Owe_4.out.next hb)
  clear hb Bel_4 Bx0_4 Bxe_4 Owe_4 hx01 hx02 hx03 hxe1 hxe2 hxe3 hxe4
  obtain ⟨⟨hx01, hx02⟩, hx03⟩ := Bx0_5.out
  obtain ⟨⟨hxe1, hxe2, hxe3⟩, hxe4⟩ := Bxe_5.out
  have Owg_5 := Own
  clear Own
  go_wp2_with fail
  obtain ⟨w6, hw⟩ : ∃ w6, w6 = w5.alloc (.cells #[.int .i64 S, .slice Bg N dg, .int .i64 EX] 30) := ⟨_, rfl⟩
  rw [← hw]
  have hb : Below w5.heap.size w5 w6 := by rw [hw]; exact belAlloc1 _ _
  have Bnew : Hid (DBox w6 w5.heap.size S Bg N dg EX) := Lib.hid (by rw [hw]; exact DBox.new _ _ _ _ _ _ _)
  have Sb_6 : Hid (w5.heap.size + 1 = w6.heap.size) := Lib.hid (by rw [hw]; simp)
  clear hw
  have Bel_6 := Lib.hid (belNext Bel_5.out hb)
  have Sz_6 : Hid (w5.heap.size ≤ w6.heap.size) := Lib.hid hb.size
  have Bx0_6 := Lib.hid (Bx0_5.out.next hb)
  have Bxe_6 := Lib.hid (Bxe_5.out.next hb)
  have Owe_6 := Lib.hid (Owe_5.out.next hb)
  have Owg_6 := Lib.hid (Owg_5.out.next hb)
  clear hb Bel_5 Bx0_5 Bxe_5 Owe_5 Owg_5 hx01 hx02 hx03 hxe1 hxe2 hxe3 hxe4
  have Bxg_6 := Bnew
  clear Bnew
  obtain ⟨⟨hx01, hx02⟩, hx03⟩ := Bx0_6.out
  obtain ⟨⟨hxe1, hxe2, hxe3⟩, hxe4⟩ := Bxe_6.out
  obtain ⟨⟨hxg1, hxg2, hxg3⟩, hxg4⟩ := Bxg_6.out
  go_wp2_with fail
  refine (eqD_yes S Bg Be N dg de _ _ EX XS _ Owg_6.out.rt.1 Owe_6.out.rt.1 Owg_6.out.rt.2 Owe_6.out.rt.2 HXN.out HN1.out).mono ?_
  rintro e w7 ⟨rfl, hb⟩
  have Bel_7 := Lib.hid (belNext Bel_6.out hb)
  have Sz_7 : Hid (w6.heap.size ≤ w7.heap.size) := Lib.hid hb.size
  have Bx0_7 := Lib.hid (Bx0_6.out.next hb)
  have Bxe_7 := Lib.hid (Bxe_6.out.next hb)
  have Bxg_7 := Lib.hid (Bxg_6.out.next hb)
  have Owe_7 := Lib.hid (Owe_6.out.next hb)
  have Owg_7 := Lib.hid (Owg_6.out.next hb)
  clear hb Bel_6 Bx0_6 Bxe_6 Bxg_6 Owe_6 Owg_6 hx01 hx02 hx03 hxe1 hxe2 hxe3 hxe4 hxg1 hxg2 hxg3 hxg4
  obtain ⟨⟨hx01, hx02⟩, hx03⟩ := Bx0_7.out
  obtain ⟨⟨hxe1, hxe2, hxe3⟩, hxe4⟩ := Bxe_7.out
  obtain ⟨⟨hxg1, hxg2, hxg3⟩, hxg4⟩ := Bxg_7.out
  go_wp2_with fail
  refine (markD_any S Bg N dg EX 1 XS _ _ _ Owg_7.out.1 HXN.out HN2.out (by omega) (by omega) Owg_7.out.2).mono ?_
  rintro e w8 ⟨rfl, ho, row, hg, hrow⟩
  have Bel_8 := Lib.hid (belMarked Bel_7.out hg hrow (by have z0 := Sa_0.out; have z1 := Sz_1.out; have z2 := Sz_2.out; have z3 := Sb_3.out; have z4 := Sz_3.out; have z5 := Sz_4.out; have z6 := Sz_5.out; have z7 := Sb_6.out; have z8 := Sz_6.out; have z9 := Sz_7.out; (try simp only [] at *); omega))
  have Sz_8 : Hid (w7.heap.size ≤ w8.heap.size) := Lib.hid hg.size
  have Bx0_8 := Lib.hid (Bx0_7.out.grown hg hrow (by have z0 := Sa_0.out; have z1 := Sz_1.out; have z2 := Sz_2.out; have z3 := Sb_3.out; have z4 := Sz_3.out; have z5 := Sz_4.out; have z6 := Sz_5.out; have z7 := Sb_6.out; have z8 := Sz_6.out; have z9 := Sz_7.out; (try simp only [] at *); omega))
  have Bxe_8 := Lib.hid (Bxe_7.out.grown hg hrow (by have z0 := Sa_0.out; have z1 := Sz_1.out; have z2 := Sz_2.out; have z3 := Sb_3.out; have z4 := Sz_3.out; have z5 := Sz_4.out; have z6 := Sz_5.out; have z7 := Sb_6.out; have z8 := Sz_6.out; have z9 := Sz_7.out; (try simp only [] at *); omega))
  have Bxg_8 := Lib.hid (Bxg_7.out.grown hg hrow (by have z0 := Sa_0.out; have z1 := Sz_1.out; have z2 := Sz_2.out; have z3 := Sb_3.out; have z4 := Sz_3.out; have z5 := Sz_4.out; have z6 := Sz_5.out; have z7 := Sb_6.out; have z8 := Sz_6.out; have z9 := Sz_7.out; (try simp only [] at *); omega))
  have Owe_8 := Lib.hid (Owe_7.out.grown hg hrow (by have z0 := Sa_0.out; have z1 := Sz_1.out; have z2 := Sz_2.out; have z3 := Sb_3.out; have z4 := Sz_3.out; have z5 := Sz_4.out; have z6 := Sz_5.out; have z7 := Sb_6.out; have z8 := Sz_6.out; have z9 := Sz_7.out; (try simp only [] at *); omega))
  have Own : Hid (Ot w8 _ _ Bg (vi (marks 1 N))) := Lib.hid ⟨ho, Nat.le_trans Owg_7.out.2 hg.size⟩
  clear hg hrow ho Bel_7 Bx0_7 Bxe_7 Bxg_7 Owe_7 Owg_7 hx01 hx02 hx03 hxe1 hxe2 hxe3 hxe4 hxg1 hxg2 hxg3 hxg4
  have Owg_8 := Own
  clear Own
  obtain ⟨⟨hx01, hx02⟩, hx03⟩ := Bx0_8.out
  obtain ⟨⟨hxe1, hxe2, hxe3⟩, hxe4⟩ := Bxe_8.out
  obtain ⟨⟨hxg1, hxg2, hxg3⟩, hxg4⟩ := Bxg_8.out
  go_wp2_with fail
  refine (heldD_any S Bg N dg EX 1 _ _ Owg_8.out.rt.1 Owg_8.out.rt.2 HN2.out (by omega) (by omega)).mono ?_
  rintro e w9 ⟨rfl, hb⟩
  have Bel_9 := Lib.hid (belNext Bel_8.out hb)
  have Sz_9 : Hid (w8.heap.size ≤ w9.heap.size) := Lib.hid hb.size
  have Bx0_9 := Lib.hid (Bx0_8.out.next hb)
  have Bxe_9 := Lib.hid (Bxe_8.out.next hb)
  have Bxg_9 := Lib.hid (Bxg_8.out.next hb)
  have Owe_9 := Lib.hid (Owe_8.out.next hb)
  have Owg_9 := Lib.hid (Owg_8.out.next hb)
  clear hb Bel_8 Bx0_8 Bxe_8 Bxg_8 Owe_8 Owg_8 hx01 hx02 hx03 hxe1 hxe2 hxe3 hxe4 hxg1 hxg2 hxg3 hxg4
  obtain ⟨⟨hx01, hx02⟩, hx03⟩ := Bx0_9.out
  obtain ⟨⟨hxe1, hxe2, hxe3⟩, hxe4⟩ := Bxe_9.out
  obtain ⟨⟨hxg1, hxg2, hxg3⟩, hxg4⟩ := Bxg_9.out
  go_wp2_with fail
  refine (toPair_any x0 y0 _).mono ?_
  rintro e w10 ⟨rfl, hb⟩
  have Bel_10 := Lib.hid (belNext Bel_9.out hb)
  have Sz_10 : Hid (w9.heap.size ≤ w10.heap.size) := Lib.hid hb.size
  have Bx0_10 := Lib.hid (Bx0_9.out.next hb)
  have Bxe_10 := Lib.hid (Bxe_9.out.next hb)
  have Bxg_10 := Lib.hid (Bxg_9.out.next hb)
  have Owe_10 := Lib.hid (Owe_9.out.next hb)
  have Owg_10 := Lib.hid (Owg_9.out.next hb)
  clear hb Bel_9 Bx0_9 Bxe_9 Bxg_9 Owe_9 Owg_9 hx01 hx02 hx03 hxe1 hxe2 hxe3 hxe4 hxg1 hxg2 hxg3 hxg4
  obtain ⟨⟨hx01, hx02⟩, hx03⟩ := Bx0_10.out
  obtain ⟨⟨hxe1, hxe2, hxe3⟩, hxe4⟩ := Bxe_10.out
  obtain ⟨⟨hxg1, hxg2, hxg3⟩, hxg4⟩ := Bxg_10.out
  go_wp2_with fail
  refine (implVpW_any x0 y0 _ Hxy.out.1 Hxy.out.2 (HT.out.next Bel_10.out)).mono ?_
  rintro e w11 ⟨Sr, Bh, nr, dh, rfl, hv, hb⟩
  obtain ⟨hs, hnn, ho⟩ := resFormD hv HS.out HN.out HX.out
  rw [hs, hnn, ← HEX.out, ← HCD.out]
  have Own := Lib.hid (Ot.new ho)
  clear hv ho hs hnn
  have Bel_11 := Lib.hid (belNext Bel_10.out hb)
  have Sz_11 : Hid (w10.heap.size ≤ w11.heap.size) := Lib.hid hb.size
  have Bx0_11 := Lib.hid (Bx0_10.out.next hb)
  have Bxe_11 := Lib.hid (Bxe_10.out.next hb)
  have Bxg_11 := Lib.hid (Bxg_10.out.next hb)
  have Owe_11 := Lib.hid (Owe_10.out.next hb)
  have Owg_11 := Lib.hid (Owg_10.out.next hb)
  clear hb Bel_10 Bx0_10 Bxe_10 Bxg_10 Owe_10 Owg_10 hx01 hx02 hx03 hxe1 hxe2 hxe3 hxe4 hxg1 hxg2 hxg3 hxg4
  obtain ⟨⟨hx01, hx02⟩, hx03⟩ := Bx0_11.out
  obtain ⟨⟨hxe1, hxe2, hxe3⟩, hxe4⟩ := Bxe_11.out
  obtain ⟨⟨hxg1, hxg2, hxg3⟩, hxg4⟩ := Bxg_11.out
  have Owh_11 := Own
  clear Own
  go_wp2_with fail
  obtain ⟨w12, hw⟩ : ∃ w12, w12 = w11.alloc (.cells #[.int .i64 S, .slice Bh N dh, .int .i64 EX] 30) := ⟨_, rfl⟩
  rw [← hw]
  have hb : Below w11.heap.size w11 w12 := by rw [hw]; exact belAlloc1 _ _
  have Bnew : Hid (DBox w12 w11.heap.size S Bh N dh EX) := Lib.hid (by rw [hw]; exact DBox.new _ _ _ _ _ _ _)
  have Sb_12 : Hid (w11.heap.size + 1 = w12.heap.size) := Lib.hid (by rw [hw]; simp)
  clear hw
  have Bel_12 := Lib.hid (belNext Bel_11.out hb)
  have Sz_12 : Hid (w11.heap.size ≤ w12.heap.size) := Lib.hid hb.size
  have Bx0_12 := Lib.hid (Bx0_11.out.next hb)
  have Bxe_12 := Lib.hid (Bxe_11.out.next hb)
  have Bxg_12 := Lib.hid (Bxg_11.out.next hb)
  have Owe_12 := Lib.hid (Owe_11.out.next hb)
  have Owg_12 := Lib.hid (Owg_11.out.next hb)
  have Owh_12 := Lib.hid (Owh_11.out.next hb)
  clear hb Bel_11 Bx0_11 Bxe_11 Bxg_11 Owe_11 Owg_11 Owh_11 hx01 hx02 hx03 hxe1 hxe2 hxe3 hxe4 hxg1 hxg2 hxg3 hxg4
  have Bxh_12 := Bnew
  clear Bnew
  obtain ⟨⟨hx01, hx02⟩, hx03⟩ := Bx0_12.out
  obtain ⟨⟨hxe1, hxe2, hxe3⟩, hxe4⟩ := Bxe_12.out
  obtain ⟨⟨hxg1, hxg2, hxg3⟩, hxg4⟩ := Bxg_12.out
  obtain ⟨⟨hxh1, hxh2, hxh3⟩, hxh4⟩ := Bxh_12.out
  go_wp2_with fail
  refine (eqD_yes S Bh Be N dh de _ _ EX XS _ Owh_12.out.rt.1 Owe_12.out.rt.1 Owh_12.out.rt.2 Owe_12.out.rt.2 HXN.out HN1.out).mono ?_
  rintro e w13 ⟨rfl, hb⟩
  have Bel_13 := Lib.hid (belNext Bel_12.out hb)
  have Sz_13 : Hid (w12.heap.size ≤ w13.heap.size) := Lib.hid hb.size
  have Bx0_13 := Lib.hid (Bx0_12.out.next hb)
  have Bxe_13 := Lib.hid (Bxe_12.out.next hb)
  have Bxg_13 := Lib.hid (Bxg_12.out.next hb)
  have Bxh_13 := Lib.hid (Bxh_12.out.next hb)
  have Owe_13 := Lib.hid (Owe_12.out.next hb)
  have Owg_13 := Lib.hid (Owg_12.out.next hb)
  have Owh_13 := Lib.hid (Owh_12.out.next hb)
  clear hb Bel_12 Bx0_12 Bxe_12 Bxg_12 Bxh_12 Owe_12 Owg_12 Owh_12 hx01 hx02 hx03 hxe1 hxe2 hxe3 hxe4 hxg1 hxg2 hxg3 hxg4 hxh1 hxh2 hxh3 hxh4
  obtain ⟨⟨hx01, hx02⟩, hx03⟩ := Bx0_13.out
  obtain ⟨⟨hxe1, hxe2, hxe3⟩, hxe4⟩ := Bxe_13.out
  obtain ⟨⟨hxg1, hxg2, hxg3⟩, hxg4⟩ := Bxg_13.out
  obtain ⟨⟨hxh1, hxh2, hxh3⟩, hxh4⟩ := Bxh_13.out
  go_wp2_with fail
  refine (heldD_any S Bg N dg EX 1 _ _ Owg_13.out.rt.1 Owg_13.out.rt.2 HN2.out (by omega) (by omega)).mono ?_
  rintro e w14 ⟨rfl, hb⟩
  have Bel_14 := Lib.hid (belNext Bel_13.out hb)
  have Sz_14 : Hid (w13.heap.size ≤ w14.heap.size) := Lib.hid hb.size
  have Bx0_14 := Lib.hid (Bx0_13.out.next hb)
  have Bxe_14 := Lib.hid (Bxe_13.out.next hb)
  have Bxg_14 := Lib.hid (Bxg_13.out.next hb)
  have Bxh_14 := Lib.hid (Bxh_13.out.next hb)
  have Owe_14 := Lib.hid (Owe_13.out.next hb)
  have Owg_14 := Lib.hid (Owg_13.out.next hb)
  have Owh_14 := Lib.hid (Owh_13.out.next hb)
  clear hb Bel_13 Bx0_13 Bxe_13 Bxg_13 Bxh_13 Owe_13 Owg_13 Owh_13 hx01 hx02 hx03 hxe1 hxe2 hxe3 hxe4 hxg1 hxg2 hxg3 hxg4 hxh1 hxh2 hxh3 hxh4
  obtain ⟨⟨hx01, hx02⟩, hx03⟩ := Bx0_14.out
  obtain ⟨⟨hxe1, hxe2, hxe3⟩, hxe4⟩ := Bxe_14.out
  obtain ⟨⟨hxg1, hxg2, hxg3⟩, hxg4⟩ := Bxg_14.out
  obtain ⟨⟨hxh1, hxh2, hxh3⟩, hxh4⟩ := Bxh_14.out
  go_wp2_with fail
  go_ret
  exact ⟨rfl, Bel_14.out⟩

/-! the step from the walk to the given statement -/
set_option maxRecDepth 100000 in
theorem lifted (os : Os) (started : os.Started) (H : Type) (enc : TypeId × Value → H) :
    ReturnsInHanded {} Tryd.checked os 6 .any (fun w args => (Rows.fnExactValueOfPairSpec.pre enc Tryd.prog Tryd.f6 [] false w args ∧ laidMetH Tryd.prog laidL w) ∧ sizedMet enc Tryd.prog Tryd.f6 (OpenSpec.ofChange Rows.fnExactValueOfPairSpec) false w args) (Rows.fnExactValueOfPairSpec.post enc Tryd.prog Tryd.f6 false true false false) := by
  refine returnsInHanded_of_change_and (C := Tryd.checked) (X := fun w _ => laidMetH Tryd.prog laidL w) (fun _ _ _ hh h => h.of_heap hh) own started (by kernel_rfl) Tryd.func6
    (ChangeSpec.witness_shaped (enc := enc) (C := Tryd.checked) (os := os) (X := fun w _ => laidMetH Tryd.prog laidL w) false (World.doorLaid Tryd.prog 14 os) #[.agg #[.float .f32 0, .float .f32 0]] 8 rfl (World.shaped_of_RefB (by kernel_rfl) (by kernel_rfl)) (by kernel_rfl) (by kernel_rfl) (by kernel_rfl) (door_met os _)) ?_
  intro W base args ds gs before hval0 hW _ _ hL _
  have hval : ∀ (j : Nat) t v, Tryd.f6.params[j]? = some t → args[j]? = some v → Value.okWide Tryd.prog W .any base t v := hval0
  have hW' := hW
  obtain ⟨p, q, hA0, hV, rfl, hfz, hnd⟩ := hW
  have hA : DataW.TrodAll enc Tryd.prog W 0 (fun _ => true) true Tryd.f6.params.toList args.toList ds p := hA0
  rw [Tryd.params6] at hA hval
  obtain ⟨v0, vs0, d0, ds0, p0, q0, hargs, rfl, rfl, h0, r0⟩ := trodAll_cons hA
  obtain ⟨rfl, rfl, rfl⟩ := trodAll_nil r0
  obtain rfl : args = #[v0] := by cases args; simp_all
  obtain ⟨rfl, rfl⟩ := trodVars_none hV
  have hc0 := h0
  obtain ⟨x0, y0, rfl, wx0, wy0⟩ := open_pair (hval 0 46 v0 rfl rfl) h0
  clear hA0 hval0
  simp only [List.append_nil] at hW'
  refine (walk x0 y0 W wx0 wy0 (tabz_of_laid hL)).mono fun e W' ⟨he, hg⟩ => ?_
  subst he
  exact ⟨_, rfl, law_end (pa := _) hW' (by simp) rfl (fun _ _ _ => (trodAll_cons_mk (shut_bool Tryd.underlying4 _) trodAll_mk0)) (fun sp hsp => (trodAll_cons_mk (carryB (by kernel_rfl) (of_decide_eq_true (by kernel_rfl)) hg hc0 (fun x hx => hW'.lt x (by simp [hx])) (fun x hx => hsp x (by simp [hx]))) trodAll_mk0)) rfl
    hg (ok_one (by kernel_rfl) rfl (okWide_bool_mk Tryd.underlying4 _))⟩

theorem row_proved : Rows.FnExactValueOfPairSaid :=
  OpenClaim.holds_of_wide 6 Tryd.f6 rfl rfl rfl rfl rfl rfl rfl ⟨rfl, rfl, rfl, rfl, rfl⟩ rfl rfl rfl rfl rfl (by kernel_rfl) Tryd.func6 (by kernel_rfl)
    (of_decide_eq_true (by kernel_rfl)) (by unfold Func.isWrapper; first | (rw [if_pos (by decide +kernel)]; kernel_rfl) | (rw [if_neg (by decide +kernel)]; exact ⟨rfl, rfl⟩))
    (fun os started H enc _ => lifted os started H enc)

theorem proved : Rows.FnExactValueOfPairCardSaid :=
  Claim7.holds_tied_plain_at .later [] [.data] true (true, "ef298af8e9429d058a3b92795f2aa35ea7919098cf63857fd1bcb0290a91013f") true
    row_proved (fun _ h => by cases h) (by kernel_rfl) (fun _ h => by cases h) fnExactValueOfPair_row_tie rfl ⟨rfl, rfl⟩ (by kernel_rfl) rfl
    (fun f fn hf hfn => by
      obtain rfl : f = 6 := Option.some.inj ((show Tryd.prog.funcNamed "loop.example/g01172/laws.FnExactValueOfPair" = some 6 by kernel_rfl).symm.trans hf) |>.symm
      obtain rfl : fn = Tryd.f6 := (Option.some.inj (Tryd.func6.symm.trans hfn)).symm
      exact ⟨by kernel_rfl, fun j t ht => by
        rw [Tryd.params6] at ht
        have hm : t ∈ [46] := by simpa using Array.mem_of_getElem? ht
        have hall : ([46].all fun u => !Tryd.prog.wantsStandIn u) = true := by kernel_rfl
        exact (show Tryd.prog.wantsStandIn t = false by simpa using List.all_eq_true.1 hall t hm)⟩)
    (by kernel_rfl)
#print axioms proved
end Go.Proofs.YtnecnbonnidijaaDoor.fnExactValueOfPair
