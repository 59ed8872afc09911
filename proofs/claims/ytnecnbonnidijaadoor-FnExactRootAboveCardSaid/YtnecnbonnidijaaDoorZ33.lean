/- FnExactRootAbove returns true at every exact number of the laws and every int64: the program's RootAbove gives the exact number and the code that the model gives, in memory of its own, and changes no argument. Condition: the table math/bits.deBruijn64tab is as Go's library lays it (tied to the text). -/
import Derived.Test.YtnecnbonnidijaaDoorRows
import Derived.Test.YtnecnbonnidijaaDoorGA1
import Derived.Test.YtnecnbonnidijaaDoorGA17
import Derived.Test.YtnecnbonnidijaaDoorGA6
import Derived.Test.YtnecnbonnidijaaDoorTie
import Derived.Test.YtnecnbonnidijaaDoorCards
import Derived.SevenTiedAt
import Derived.ProofKit
import Derived.OpenShut
import Derived.Deep.RegionHeld3
namespace Go.Proofs.YtnecnbonnidijaaDoor.fnExactRootAbove
set_option maxRecDepth 100000
open Go Go.ChangeShapes Go.WideShapes Go.ChangeAt Go.RowKit
set_option linter.unusedVariables false
set_option linter.unusedSimpArgs false

theorem own : ownKnob Tryd.prog.godebug = none := by kernel_rfl

set_option maxHeartbeats 16000000 in
set_option maxRecDepth 100000 in
theorem walk (s0 : Int) (A0 : Option Addr) (n0 c0 : Nat) (xs0 : List Int) (E0 : Int) (k : Int) (w : World) (hr0 : Rd w w.heap.size A0 (vi xs0)) (hl0 : xs0.length = n0 ∧ (n0 : Int) ≤ 9223372036854775807) (hx0 : ∀ x ∈ xs0, -9223372036854775808 ≤ x ∧ x ≤ 9223372036854775807) (hk : (Lit.int .i64 k).wf = true) (hT : TabZ w) :
    Calls Tryd.prog 4 #[.agg #[.int .i64 s0, .slice A0 n0 c0, .int .i64 E0], .int .i64 k] w fun e w' => e = .returned (.bool true) ∧ Below w.heap.size w w' := by
  have Hn0 := Lib.hid hl0.1
  have Hm0 := Lib.hid hl0.2
  have Hr0 := Lib.hid hr0
  have HT := Lib.hid hT
  have Hbig0 : Hid ((1048576 : Int) < n0 ∨ ((n0 : Int) ≤ 1048576 ∧ n0 ≤ 1048576 ∧ n0 ≤ 1048580)) := Lib.hid (by have := hl0; omega)
  clear hr0 hl0 hx0 hT hk
  obtain ⟨S, hS⟩ : ∃ S, S = (raZ s0 xs0 E0 k).sign := ⟨_, rfl⟩
  obtain ⟨N, hN⟩ : ∃ N, N = (limbs (raZ s0 xs0 E0 k).natAbs).length := ⟨_, rfl⟩
  obtain ⟨XS, hX⟩ : ∃ XS, XS = li (limbs (raZ s0 xs0 E0 k).natAbs) := ⟨_, rfl⟩
  have HS := Lib.hid hS
  have HN := Lib.hid hN
  have HX := Lib.hid hX
  have HXN : Hid (XS.length = N) := Lib.hid (by rw [hX, hN, li_len])
  have HN1 : Hid (N ≤ 1048576) := Lib.hid (by rw [hN]; have := ra_len s0 xs0 E0 k; omega)
  have HN2 : Hid (N ≤ 4194304) := Lib.hid (by have := HN1.out; omega)
  clear hS hN hX
  obtain ⟨CD, hCD⟩ : ∃ CD : Int, CD = rbE s0 xs0 E0 k := ⟨_, rfl⟩
  have HCD := Lib.hid hCD
  clear hCD
  obtain ⟨EX, hEX⟩ : ∃ EX : Int, EX = raX s0 xs0 E0 k := ⟨_, rfl⟩
  have HEX := Lib.hid hEX
  clear hEX
  go_enter Tryd.func4, Tryd.ntmps4
  go_wp2_with fail
  obtain ⟨w0, hw0⟩ : ∃ w0, w0 = w.alloc (.cells #[.int .i64 s0, .slice A0 n0 c0, .int .i64 E0] 26) := ⟨_, rfl⟩
  rw [← hw0]
  have Bel_0 : Hid (Below w.heap.size w w0) := Lib.hid (by rw [hw0]; exact belAlloc1 _ _)
  have Bx0_0 : Hid (DBox w0 w.heap.size s0 A0 n0 c0 E0) := Lib.hid (by rw [hw0]; exact DBox.new _ _ _ _ _ _ _)
  have Ra0_0 : Hid (Rt w0 w.heap.size A0 (vi xs0)) := Lib.hid ⟨Hr0.out.below Bel_0.out, Bel_0.out.size⟩
  clear hw0 Hr0
  have Sa_0 : Hid (w.heap.size < w0.heap.size) := Lib.hid Bx0_0.out.2
  rcases Hbig0.out with hbig | ⟨hle1, hle2, hle3⟩
  · clear Hbig0
    have Hb0 := Lib.hid hbig
    clear hbig
    obtain ⟨⟨hx01, hx02, hx03⟩, hx04⟩ := Bx0_0.out
    refine (szD_no s0 A0 n0 c0 E0 _ _ Hb0.out (by decide) (by decide) Hm0.out).mono ?_
    rintro e w1 ⟨rfl, hb⟩
    have Bel_1 := Lib.hid (belNext Bel_0.out hb)
    have Sz_1 : Hid (w0.heap.size ≤ w1.heap.size) := Lib.hid hb.size
    have Bx0_1 := Lib.hid (Bx0_0.out.next hb)
    have Ra0_1 := Lib.hid (Ra0_0.out.next hb)
    clear hb Bel_0 Bx0_0 Ra0_0 hx01 hx02 hx03 hx04
    go_wp2_with fail
    go_ret
    exact ⟨rfl, Bel_1.out⟩
  · clear Hbig0
    have Hl0 := Lib.hid hle1
    have Hle0 := Lib.hid hle2
    have Hk0 := Lib.hid hle3
    clear hle2 hle3
    have Hs0 : Hid ((n0 : Int) ≤ 1048576) := Lib.hid Hl0.out
    obtain ⟨⟨hx01, hx02, hx03⟩, hx04⟩ := Bx0_0.out
    refine (szD_yes s0 A0 n0 c0 E0 _ _ Hs0.out (by decide)).mono ?_
    rintro e w1 ⟨rfl, hb⟩
    have Bel_1 := Lib.hid (belNext Bel_0.out hb)
    have Sz_1 : Hid (w0.heap.size ≤ w1.heap.size) := Lib.hid hb.size
    have Bx0_1 := Lib.hid (Bx0_0.out.next hb)
    have Ra0_1 := Lib.hid (Ra0_0.out.next hb)
    clear hb Bel_0 Bx0_0 Ra0_0 hx01 hx02 hx03 hx04
    obtain ⟨⟨hx01, hx02, hx03⟩, hx04⟩ := Bx0_1.out
    go_wp2_with fail
    refine (toD2_any s0 A0 n0 c0 E0 xs0 _ _ Ra0_1.out.1 Ra0_1.out.2 Hn0.out Hle0.out).mono ?_
    rintro e w2 ⟨Ba, da, rfl, ho, hb, hcp⟩
    have Own := Lib.hid (Ot.new ho)
    have Cpa := Lib.hid hcp
    clear ho hcp
    have Bel_2 := Lib.hid (belNext Bel_1.out hb)
    have Sz_2 : Hid (w1.heap.size ≤ w2.heap.size) := Lib.hid hb.size
    have Bx0_2 := Lib.hid (Bx0_1.out.next hb)
    have Ra0_2 := Lib.hid (Ra0_1.out.next hb)
    clear hb Bel_1 Bx0_1 Ra0_1 hx01 hx02 hx03 hx04
    obtain ⟨⟨hx01, hx02, hx03⟩, hx04⟩ := Bx0_2.out
    have Owa_2 := Own
    clear Own
    go_wp2_with fail
    refine (specRootAW_any s0 Ba n0 da xs0 E0 k _ Owa_2.out.rt.all Hn0.out Hk0.out Cpa.out).mono ?_
    rintro e w3 ⟨Sr, Be, nr, de, rfl, hv, hb⟩
    obtain ⟨hs, hnn, ho⟩ := resFormD hv HS.out HN.out HX.out
    rw [hs, hnn, ← HEX.out, ← HCD.out]
    have Own := Lib.hid (Ot.new ho)
    clear hv ho hs hnn
    have Bel_3 := Lib.hid (belNext Bel_2.out hb)
    have Sz_3 : Hid (w2.heap.size ≤ w3.heap.size) := Lib.hid hb.size
    have Bx0_3 := Lib.hid (Bx0_2.out.next hb)
    have Ra0_3 := Lib.hid (Ra0_2.out.next hb)
    have Owa_3 := Lib.hid (Owa_2.out.next hb)
    clear hb Bel_2 Bx0_2 Ra0_2 Owa_2 hx01 hx02 hx03 hx04
    obtain ⟨⟨hx01, hx02, hx03⟩, hx04⟩ := Bx0_3.out
    have Owe_3 := Own
    clear Own
    go_wp2_with fail
    obtain ⟨w4, hw⟩ : ∃ w4, w4 = w3.alloc (.cells #[.int .i64 S, .slice Be N de, .int .i64 EX] 30) := ⟨_, rfl⟩
    rw [← hw]
    have hb : Below w3.heap.size w3 w4 := by rw [hw]; exact belAlloc1 _ _
    have Bnew : Hid (DBox w4 w3.heap.size S Be N de EX) := Lib.hid (by rw [hw]; exact DBox.new _ _ _ _ _ _ _)
    have Sb_4 : Hid (w3.heap.size + 1 = w4.heap.size) := Lib.hid (by rw [hw]; simp)
    clear hw
    have Bel_4 := Lib.hid (belNext Bel_3.out hb)
    have Sz_4 : Hid (w3.heap.size ≤ w4.heap.size) := Lib.hid hb.size
    have Bx0_4 := Lib.hid (Bx0_3.out.next hb)
    have Ra0_4 := Lib.hid (Ra0_3.out.next hb)
    have Owa_4 := Lib.hid (Owa_3.out.next hb)
    have Owe_4 := Lib.hid (Owe_3.out.next hb)
    clear hb Bel_3 Bx0_3 Ra0_3 Owa_3 Owe_3 hx01 hx02 hx03 hx04
    have Bxe_4 := Bnew
    clear Bnew
    obtain ⟨⟨hx01, hx02, hx03⟩, hx04⟩ := Bx0_4.out
    obtain ⟨⟨hxe1, hxe2, hxe3⟩, hxe4⟩ := Bxe_4.out
    go_wp2_with fail
    clear Owa_4
    refine (toD2_any s0 A0 n0 c0 E0 xs0 _ _ Ra0_4.out.1 Ra0_4.out.2 Hn0.out Hle0.out).mono ?_
    rintro e w5 ⟨Bx, dx, rfl, ho, hb, hcp⟩
    have Own := Lib.hid (Ot.new ho)
    have Cpx := Lib.hid hcp
    clear ho hcp
    have Bel_5 := Lib.hid (belNext Bel_4.out hb)
    have Sz_5 : Hid (w4.heap.size ≤ w5.heap.size) := Lib.hid hb.size
    have Bx0_5 := Lib.hid (Bx0_4.out.next hb)
    have Bxe_5 := Lib.hid (Bxe_4.out.next hb)
    have Ra0_5 := Lib.hid (Ra0_4.out.next hb)
    have Owe_5 := Lib.hid (Owe_4.out.next hb)
    clear hb Bel_4 Bx0_4 Bxe_4 Ra0_4 Owe_4 hx01 hx02 hx03 hx04 hxe1 hxe2 hxe3 hxe4
    obtain ⟨⟨hx01, hx02, hx03⟩, hx04⟩ := Bx0_5.out
    obtain ⟨⟨hxe1, hxe2, hxe3⟩, hxe4⟩ := Bxe_5.out
    have Owx_5 := Own
    clear Own
    go_wp2_with fail
    obtain ⟨w6, hw⟩ : ∃ w6, w6 = w5.alloc (.cells #[.int .i64 s0, .slice Bx n0 dx, .int .i64 E0] 30) := ⟨_, rfl⟩
    rw [← hw]
    have hb : Below w5.heap.size w5 w6 := by rw [hw]; exact belAlloc1 _ _
    have Bnew : Hid (DBox w6 w5.heap.size s0 Bx n0 dx E0) := Lib.hid (by rw [hw]; exact DBox.new _ _ _ _ _ _ _)
    have Sb_6 : Hid (w5.heap.size + 1 = w6.heap.size) := Lib.hid (by rw [hw]; simp)
    clear hw
    have Bel_6 := Lib.hid (belNext Bel_5.out hb)
    have Sz_6 : Hid (w5.heap.size ≤ w6.heap.size) := Lib.hid hb.size
    have Bx0_6 := Lib.hid (Bx0_5.out.next hb)
    have Bxe_6 := Lib.hid (Bxe_5.out.next hb)
    have Ra0_6 := Lib.hid (Ra0_5.out.next hb)
    have Owe_6 := Lib.hid (Owe_5.out.next hb)
    have Owx_6 := Lib.hid (Owx_5.out.next hb)
    clear hb Bel_5 Bx0_5 Bxe_5 Ra0_5 Owe_5 Owx_5 hx01 hx02 hx03 hx04 hxe1 hxe2 hxe3 hxe4
    have Bxx_6 := Bnew
    clear Bnew
    obtain ⟨⟨hx01, hx02, hx03⟩, hx04⟩ := Bx0_6.out
    obtain ⟨⟨hxe1, hxe2, hxe3⟩, hxe4⟩ := Bxe_6.out
    obtain ⟨⟨hxx1, hxx2, hxx3⟩, hxx4⟩ := Bxx_6.out
    refine (implRootAW_any s0 Bx n0 dx xs0 E0 k _ Owx_6.out.rt.all Hn0.out Hk0.out Cpx.out (HT.out.next Bel_6.out)).mono ?_
    rintro e w7 ⟨Sr, Bg, nr, dg, rfl, hv, hb⟩
    obtain ⟨hs, hnn, ho⟩ := resFormD hv HS.out HN.out HX.out
    rw [hs, hnn, ← HEX.out, ← HCD.out]
    have Own := Lib.hid (Ot.new ho)
    clear hv ho hs hnn
    have Bel_7 := Lib.hid (belNext Bel_6.out hb)
    have Sz_7 : Hid (w6.heap.size ≤ w7.heap.size) := Lib.hid hb.size
    have Bx0_7 := Lib.hid (Bx0_6.out.next hb)
    have Bxe_7 := Lib.hid (Bxe_6.out.next hb)
    have Bxx_7 := Lib.hid (Bxx_6.out.next hb)
    have Ra0_7 := Lib.hid (Ra0_6.out.next hb)
    have Owe_7 := Lib.hid (Owe_6.out.next hb)
    have Owx_7 := Lib.hid (Owx_6.out.next hb)
    clear hb Bel_6 Bx0_6 Bxe_6 Bxx_6 Ra0_6 Owe_6 Owx_6 hx01 hx02 hx03 hx04 hxe1 hxe2 hxe3 hxe4 hxx1 hxx2 hxx3 hxx4
    obtain ⟨⟨hx01, hx02, hx03⟩, hx04⟩ := Bx0_7.out
    obtain ⟨⟨hxe1, hxe2, hxe3⟩, hxe4⟩ := Bxe_7.out
    obtain ⟨⟨hxx1, hxx2, hxx3⟩, hxx4⟩ := Bxx_7.out
    have Owg_7 := Own
    clear Own
    go_wp2_with fail
    obtain ⟨w8, hw⟩ : ∃ w8, w8 = w7.alloc (.cells #[.int .i64 S, .slice Bg N dg, .int .i64 EX] 30) := ⟨_, rfl⟩
    rw [← hw]
    have hb : Below w7.heap.size w7 w8 := by rw [hw]; exact belAlloc1 _ _
    have Bnew : Hid (DBox w8 w7.heap.size S Bg N dg EX) := Lib.hid (by rw [hw]; exact DBox.new _ _ _ _ _ _ _)
    have Sb_8 : Hid (w7.heap.size + 1 = w8.heap.size) := Lib.hid (by rw [hw]; simp)
    clear hw
    have Bel_8 := Lib.hid (belNext Bel_7.out hb)
    have Sz_8 : Hid (w7.heap.size ≤ w8.heap.size) := Lib.hid hb.size
    have Bx0_8 := Lib.hid (Bx0_7.out.next hb)
    have Bxe_8 := Lib.hid (Bxe_7.out.next hb)
    have Bxx_8 := Lib.hid (Bxx_7.out.next hb)
    have Ra0_8 := Lib.hid (Ra0_7.out.next hb)
    have Owe_8 := Lib.hid (Owe_7.out.next hb)
    have Owx_8 := Lib.hid (Owx_7.out.next hb)
    have Owg_8 := Lib.hid (Owg_7.out.next hb)
    clear hb Bel_7 Bx0_7 Bxe_7 Bxx_7 Ra0_7 Owe_7 Owx_7 Owg_7 hx01 hx02 hx03 hx04 hxe1 hxe2 hxe3 hxe4 hxx1 hxx2 hxx3 hxx4
    have Bxg_8 := Bnew
    clear Bnew
    obtain ⟨⟨hx01, hx02, hx03⟩, hx04⟩ := Bx0_8.out
    obtain ⟨⟨hxe1, hxe2, hxe3⟩, hxe4⟩ := Bxe_8.out
    obtain ⟨⟨hxx1, hxx2, hxx3⟩, hxx4⟩ := Bxx_8.out
    obtain ⟨⟨hxg1, hxg2, hxg3⟩, hxg4⟩ := Bxg_8.out
    go_wp2_with fail
    refine (eqD_yes S Bg Be N dg de _ _ EX XS _ Owg_8.out.rt.1 Owe_8.out.rt.1 Owg_8.out.rt.2 Owe_8.out.rt.2 HXN.out HN1.out).mono ?_
    rintro e w9 ⟨rfl, hb⟩
    have Bel_9 := Lib.hid (belNext Bel_8.out hb)
    have Sz_9 : Hid (w8.heap.size ≤ w9.heap.size) := Lib.hid hb.size
    have Bx0_9 := Lib.hid (Bx0_8.out.next hb)
    have Bxe_9 := Lib.hid (Bxe_8.out.next hb)
    have Bxx_9 := Lib.hid (Bxx_8.out.next hb)
    have Bxg_9 := Lib.hid (Bxg_8.out.next hb)
    have Ra0_9 := Lib.hid (Ra0_8.out.next hb)
    have Owe_9 := Lib.hid (Owe_8.out.next hb)
    have Owx_9 := Lib.hid (Owx_8.out.next hb)
    have Owg_9 := Lib.hid (Owg_8.out.next hb)
    clear hb Bel_8 Bx0_8 Bxe_8 Bxx_8 Bxg_8 Ra0_8 Owe_8 Owx_8 Owg_8 hx01 hx02 hx03 hx04 hxe1 hxe2 hxe3 hxe4 hxx1 hxx2 hxx3 hxx4 hxg1 hxg2 hxg3 hxg4
    obtain ⟨⟨hx01, hx02, hx03⟩, hx04⟩ := Bx0_9.out
    obtain ⟨⟨hxe1, hxe2, hxe3⟩, hxe4⟩ := Bxe_9.out
    obtain ⟨⟨hxx1, hxx2, hxx3⟩, hxx4⟩ := Bxx_9.out
    obtain ⟨⟨hxg1, hxg2, hxg3⟩, hxg4⟩ := Bxg_9.out
    go_wp2_with fail
    refine wp_region_held_drew (S := fun w' => (w'.cell? ⟨w.heap.size, 0, none⟩ = some (.int .i64 s0) ∧ w'.cell? ⟨w.heap.size, 1, none⟩ = some (.slice A0 n0 c0) ∧ w'.cell? ⟨w.heap.size, 2, none⟩ = some (.int .i64 E0)) ∧ (w'.cell? ⟨w5.heap.size, 0, none⟩ = some (.int .i64 s0) ∧ w'.cell? ⟨w5.heap.size, 1, none⟩ = some (.slice Bx n0 dx) ∧ w'.cell? ⟨w5.heap.size, 2, none⟩ = some (.int .i64 E0))) (by kernel_rfl) ⟨Bx0_9.out.1, Bxx_9.out.1⟩ (fun hHeld => ?_)
    clear hx01 hx02 hx03 hx04 hxe1 hxe2 hxe3 hxe4 hxx1 hxx2 hxx3 hxx4 hxg1 hxg2 hxg3 hxg4
    refine wpAnyH_take (i := 0) (v := ?_) rfl (by kernel_rfl) (by kernel_rfl) (by kernel_rfl) (fun _ _ _ h => h) (Or.inl ⟨by rfl, ?_⟩) (by assumption) ?_
    rotate_left
    · (intro w hSw; (try dsimp only at hSw); go_simp; (try with_reducible rfl))
    try simp only [Act.put, List.setIfInBounds_toArray, List.set_cons_zero, List.set_cons_succ]
    refine wpAnyH_take (i := 1) (v := ?_) rfl (by kernel_rfl) (by kernel_rfl) (by kernel_rfl) (fun _ _ _ h => h) (Or.inl ⟨by rfl, ?_⟩) (by assumption) ?_
    rotate_left
    · (intro w hSw; (try dsimp only at hSw); go_simp; (try with_reducible rfl))
    try simp only [Act.put, List.setIfInBounds_toArray, List.set_cons_zero, List.set_cons_succ]
    refine wpAnyH_ready (rs := [2]) (by kernel_rfl) (by simp) ?_
    refine AllReadyH.cons rfl (fun K hK => ?_) AllReadyH.nil
    go_simp
    refine (toD_any s0 A0 n0 c0 E0 xs0 w9.drew _ Ra0_9.out.1 Ra0_9.out.2 Hn0.out Hle0.out).mono ?_
    rintro e w10 ⟨Bh, dh, rfl, ho, hb0⟩
    have hb : Below w9.heap.size w9 w10 := belDrew hb0
    refine hK.out _ _ ⟨(Bx0_9.out.next hb).1, (Bxx_9.out.next hb).1⟩ (fun hHeld => ?_)
    have Own := Lib.hid (Ot.new ho)
    clear ho
    clear hK K hb0
    have Bel_10 := Lib.hid (belNext Bel_9.out hb)
    have Sz_10 : Hid (w9.heap.size ≤ w10.heap.size) := Lib.hid hb.size
    have Bx0_10 := Lib.hid (Bx0_9.out.next hb)
    have Bxe_10 := Lib.hid (Bxe_9.out.next hb)
    have Bxx_10 := Lib.hid (Bxx_9.out.next hb)
    have Bxg_10 := Lib.hid (Bxg_9.out.next hb)
    have Ra0_10 := Lib.hid (Ra0_9.out.next hb)
    have Owe_10 := Lib.hid (Owe_9.out.next hb)
    have Owx_10 := Lib.hid (Owx_9.out.next hb)
    have Owg_10 := Lib.hid (Owg_9.out.next hb)
    clear hb Bel_9 Bx0_9 Bxe_9 Bxx_9 Bxg_9 Ra0_9 Owe_9 Owx_9 Owg_9
    try simp only [Act.put, List.setIfInBounds_toArray, List.set_cons_zero, List.set_cons_succ]
    refine wpAnyH_ready (rs := [3]) (by kernel_rfl) (by simp) ?_
    refine AllReadyH.cons rfl (fun K hK => ?_) AllReadyH.nil
    go_simp
    refine (eqD_yes s0 Bx Bh n0 dx dh _ _ E0 xs0 _ Owx_10.out.rt.1 Own.out.rt.1 Owx_10.out.rt.2 Own.out.rt.2 Hn0.out Hle0.out).mono ?_
    rintro e w11 ⟨rfl, hb0⟩
    have hb : Below w10.heap.size w10 w11 := hb0
    refine hK.out _ _ ⟨(Bx0_10.out.next hb).1, (Bxx_10.out.next hb).1⟩ (fun hHeld => ?_)
    clear Own
    clear hK K hb0
    have Bel_11 := Lib.hid (belNext Bel_10.out hb)
    have Sz_11 : Hid (w10.heap.size ≤ w11.heap.size) := Lib.hid hb.size
    have Bx0_11 := Lib.hid (Bx0_10.out.next hb)
    have Bxe_11 := Lib.hid (Bxe_10.out.next hb)
    have Bxx_11 := Lib.hid (Bxx_10.out.next hb)
    have Bxg_11 := Lib.hid (Bxg_10.out.next hb)
    have Ra0_11 := Lib.hid (Ra0_10.out.next hb)
    have Owe_11 := Lib.hid (Owe_10.out.next hb)
    have Owx_11 := Lib.hid (Owx_10.out.next hb)
    have Owg_11 := Lib.hid (Owg_10.out.next hb)
    clear hb Bel_10 Bx0_10 Bxe_10 Bxx_10 Bxg_10 Ra0_10 Owe_10 Owx_10 Owg_10
    try simp only [Act.put, List.setIfInBounds_toArray, List.set_cons_zero, List.set_cons_succ]
    refine wpAnyH_ready (rs := [4]) (by kernel_rfl) (by simp) ?_
    refine AllReadyH.cons rfl (fun K hK => ?_) AllReadyH.nil
    go_simp
    refine hK.out _ _ hHeld (fun hHeld => ?_)
    clear hK K
    try simp only [Act.put, List.setIfInBounds_toArray, List.set_cons_zero, List.set_cons_succ]
    refine wpAnyH_done (by kernel_rfl) ?_ _
    clear hHeld
    obtain ⟨⟨hx01, hx02, hx03⟩, hx04⟩ := Bx0_11.out
    obtain ⟨⟨hxe1, hxe2, hxe3⟩, hxe4⟩ := Bxe_11.out
    obtain ⟨⟨hxx1, hxx2, hxx3⟩, hxx4⟩ := Bxx_11.out
    obtain ⟨⟨hxg1, hxg2, hxg3⟩, hxg4⟩ := Bxg_11.out
    go_wp2_with fail
    refine (markD_any s0 Bx n0 dx E0 1 xs0 _ _ _ Owx_11.out.1 Hn0.out (by have := Hle0.out; omega) (by omega) (by omega) Owx_11.out.2).mono ?_
    rintro e w12 ⟨rfl, ho, row, hg, hrow⟩
    obtain ⟨K1, hK1⟩ : ∃ K1 : Int, K1 = 1 + ↑n0 := ⟨_, rfl⟩
    rw [← hK1]
    have hK1a : 0 ≤ K1 := by omega
    have hK1b : K1 ≤ 1048577 := by omega
    clear hK1
    have Bel_12 := Lib.hid (belMarked Bel_11.out hg hrow (by have z0 := Sa_0.out; have z1 := Sz_1.out; have z2 := Sz_2.out; have z3 := Sz_3.out; have z4 := Sb_4.out; have z5 := Sz_4.out; have z6 := Sz_5.out; have z7 := Sb_6.out; have z8 := Sz_6.out; have z9 := Sz_7.out; have z10 := Sb_8.out; have z11 := Sz_8.out; have z12 := Sz_9.out; have z13 := Sz_10.out; have z14 := Sz_11.out; (try simp only [] at *); omega))
    have Sz_12 : Hid (w11.heap.size ≤ w12.heap.size) := Lib.hid hg.size
    have Bx0_12 := Lib.hid (Bx0_11.out.grown hg hrow (by have z0 := Sa_0.out; have z1 := Sz_1.out; have z2 := Sz_2.out; have z3 := Sz_3.out; have z4 := Sb_4.out; have z5 := Sz_4.out; have z6 := Sz_5.out; have z7 := Sb_6.out; have z8 := Sz_6.out; have z9 := Sz_7.out; have z10 := Sb_8.out; have z11 := Sz_8.out; have z12 := Sz_9.out; have z13 := Sz_10.out; have z14 := Sz_11.out; (try simp only [] at *); omega))
    have Bxe_12 := Lib.hid (Bxe_11.out.grown hg hrow (by have z0 := Sa_0.out; have z1 := Sz_1.out; have z2 := Sz_2.out; have z3 := Sz_3.out; have z4 := Sb_4.out; have z5 := Sz_4.out; have z6 := Sz_5.out; have z7 := Sb_6.out; have z8 := Sz_6.out; have z9 := Sz_7.out; have z10 := Sb_8.out; have z11 := Sz_8.out; have z12 := Sz_9.out; have z13 := Sz_10.out; have z14 := Sz_11.out; (try simp only [] at *); omega))
    have Bxx_12 := Lib.hid (Bxx_11.out.grown hg hrow (by have z0 := Sa_0.out; have z1 := Sz_1.out; have z2 := Sz_2.out; have z3 := Sz_3.out; have z4 := Sb_4.out; have z5 := Sz_4.out; have z6 := Sz_5.out; have z7 := Sb_6.out; have z8 := Sz_6.out; have z9 := Sz_7.out; have z10 := Sb_8.out; have z11 := Sz_8.out; have z12 := Sz_9.out; have z13 := Sz_10.out; have z14 := Sz_11.out; (try simp only [] at *); omega))
    have Bxg_12 := Lib.hid (Bxg_11.out.grown hg hrow (by have z0 := Sa_0.out; have z1 := Sz_1.out; have z2 := Sz_2.out; have z3 := Sz_3.out; have z4 := Sb_4.out; have z5 := Sz_4.out; have z6 := Sz_5.out; have z7 := Sb_6.out; have z8 := Sz_6.out; have z9 := Sz_7.out; have z10 := Sb_8.out; have z11 := Sz_8.out; have z12 := Sz_9.out; have z13 := Sz_10.out; have z14 := Sz_11.out; (try simp only [] at *); omega))
    have Ra0_12 := Lib.hid (Ra0_11.out.grown hg hrow (by have z0 := Sa_0.out; have z1 := Sz_1.out; have z2 := Sz_2.out; have z3 := Sz_3.out; have z4 := Sb_4.out; have z5 := Sz_4.out; have z6 := Sz_5.out; have z7 := Sb_6.out; have z8 := Sz_6.out; have z9 := Sz_7.out; have z10 := Sb_8.out; have z11 := Sz_8.out; have z12 := Sz_9.out; have z13 := Sz_10.out; have z14 := Sz_11.out; (try simp only [] at *); omega))
    have Owe_12 := Lib.hid (Owe_11.out.grown hg hrow (by have z0 := Sa_0.out; have z1 := Sz_1.out; have z2 := Sz_2.out; have z3 := Sz_3.out; have z4 := Sb_4.out; have z5 := Sz_4.out; have z6 := Sz_5.out; have z7 := Sb_6.out; have z8 := Sz_6.out; have z9 := Sz_7.out; have z10 := Sb_8.out; have z11 := Sz_8.out; have z12 := Sz_9.out; have z13 := Sz_10.out; have z14 := Sz_11.out; (try simp only [] at *); omega))
    have Owg_12 := Lib.hid (Owg_11.out.grown hg hrow (by have z0 := Sa_0.out; have z1 := Sz_1.out; have z2 := Sz_2.out; have z3 := Sz_3.out; have z4 := Sb_4.out; have z5 := Sz_4.out; have z6 := Sz_5.out; have z7 := Sb_6.out; have z8 := Sz_6.out; have z9 := Sz_7.out; have z10 := Sb_8.out; have z11 := Sz_8.out; have z12 := Sz_9.out; have z13 := Sz_10.out; have z14 := Sz_11.out; (try simp only [] at *); omega))
    have Own : Hid (Ot w12 _ _ Bx (vi (marks 1 n0))) := Lib.hid ⟨ho, Nat.le_trans Owx_11.out.2 hg.size⟩
    clear hg hrow ho Bel_11 Bx0_11 Bxe_11 Bxx_11 Bxg_11 Ra0_11 Owe_11 Owx_11 Owg_11 hx01 hx02 hx03 hx04 hxe1 hxe2 hxe3 hxe4 hxx1 hxx2 hxx3 hxx4 hxg1 hxg2 hxg3 hxg4
    have Owx_12 := Own
    clear Own
    obtain ⟨⟨hx01, hx02, hx03⟩, hx04⟩ := Bx0_12.out
    obtain ⟨⟨hxe1, hxe2, hxe3⟩, hxe4⟩ := Bxe_12.out
    obtain ⟨⟨hxx1, hxx2, hxx3⟩, hxx4⟩ := Bxx_12.out
    obtain ⟨⟨hxg1, hxg2, hxg3⟩, hxg4⟩ := Bxg_12.out
    go_wp2_with fail
    refine (eqD_yes S Bg Be N dg de _ _ EX XS _ Owg_12.out.rt.1 Owe_12.out.rt.1 Owg_12.out.rt.2 Owe_12.out.rt.2 HXN.out HN1.out).mono ?_
    rintro e w13 ⟨rfl, hb⟩
    have Bel_13 := Lib.hid (belNext Bel_12.out hb)
    have Sz_13 : Hid (w12.heap.size ≤ w13.heap.size) := Lib.hid hb.size
    have Bx0_13 := Lib.hid (Bx0_12.out.next hb)
    have Bxe_13 := Lib.hid (Bxe_12.out.next hb)
    have Bxx_13 := Lib.hid (Bxx_12.out.next hb)
    have Bxg_13 := Lib.hid (Bxg_12.out.next hb)
    have Ra0_13 := Lib.hid (Ra0_12.out.next hb)
    have Owe_13 := Lib.hid (Owe_12.out.next hb)
    have Owx_13 := Lib.hid (Owx_12.out.next hb)
    have Owg_13 := Lib.hid (Owg_12.out.next hb)
    clear hb Bel_12 Bx0_12 Bxe_12 Bxx_12 Bxg_12 Ra0_12 Owe_12 Owx_12 Owg_12 hx01 hx02 hx03 hx04 hxe1 hxe2 hxe3 hxe4 hxx1 hxx2 hxx3 hxx4 hxg1 hxg2 hxg3 hxg4
    obtain ⟨⟨hx01, hx02, hx03⟩, hx04⟩ := Bx0_13.out
    obtain ⟨⟨hxe1, hxe2, hxe3⟩, hxe4⟩ := Bxe_13.out
    obtain ⟨⟨hxx1, hxx2, hxx3⟩, hxx4⟩ := Bxx_13.out
    obtain ⟨⟨hxg1, hxg2, hxg3⟩, hxg4⟩ := Bxg_13.out
    go_wp2_with fail
    refine (markD_any S Bg N dg EX 1 XS _ _ _ Owg_13.out.1 HXN.out HN2.out (by omega) (by omega) Owg_13.out.2).mono ?_
    rintro e w14 ⟨rfl, ho, row, hg, hrow⟩
    have Bel_14 := Lib.hid (belMarked Bel_13.out hg hrow (by have z0 := Sa_0.out; have z1 := Sz_1.out; have z2 := Sz_2.out; have z3 := Sz_3.out; have z4 := Sb_4.out; have z5 := Sz_4.out; have z6 := Sz_5.out; have z7 := Sb_6.out; have z8 := Sz_6.out; have z9 := Sz_7.out; have z10 := Sb_8.out; have z11 := Sz_8.out; have z12 := Sz_9.out; have z13 := Sz_10.out; have z14 := Sz_11.out; have z15 := Sz_12.out; have z16 := Sz_13.out; (try simp only [] at *); omega))
    have Sz_14 : Hid (w13.heap.size ≤ w14.heap.size) := Lib.hid hg.size
    have Bx0_14 := Lib.hid (Bx0_13.out.grown hg hrow (by have z0 := Sa_0.out; have z1 := Sz_1.out; have z2 := Sz_2.out; have z3 := Sz_3.out; have z4 := Sb_4.out; have z5 := Sz_4.out; have z6 := Sz_5.out; have z7 := Sb_6.out; have z8 := Sz_6.out; have z9 := Sz_7.out; have z10 := Sb_8.out; have z11 := Sz_8.out; have z12 := Sz_9.out; have z13 := Sz_10.out; have z14 := Sz_11.out; have z15 := Sz_12.out; have z16 := Sz_13.out; (try simp only [] at *); omega))
    have Bxe_14 := Lib.hid (Bxe_13.out.grown hg hrow (by have z0 := Sa_0.out; have z1 := Sz_1.out; have z2 := Sz_2.out; have z3 := Sz_3.out; have z4 := Sb_4.out; have z5 := Sz_4.out; have z6 := Sz_5.out; have z7 := Sb_6.out; have z8 := Sz_6.out; have z9 := Sz_7.out; have z10 := Sb_8.out; have z11 := Sz_8.out; have z12 := Sz_9.out; have z13 := Sz_10.out; have z14 := Sz_11.out; have z15 := Sz_12.out; have z16 := Sz_13.out; (try simp only [] at *); omega))
    have Bxx_14 := Lib.hid (Bxx_13.out.grown hg hrow (by have z0 := Sa_0.out; have z1 := Sz_1.out; have z2 := Sz_2.out; have z3 := Sz_3.out; have z4 := Sb_4.out; have z5 := Sz_4.out; have z6 := Sz_5.out; have z7 := Sb_6.out; have z8 := Sz_6.out; have z9 := Sz_7.out; have z10 := Sb_8.out; have z11 := Sz_8.out; have z12 := Sz_9.out; have z13 := Sz_10.out; have z14 := Sz_11.out; have z15 := Sz_12.out; have z16 := Sz_13.out; (try simp only [] at *); omega))
    have Bxg_14 := Lib.hid (Bxg_13.out.grown hg hrow (by have z0 := Sa_0.out; have z1 := Sz_1.out; have z2 := Sz_2.out; have z3 := Sz_3.out; have z4 := Sb_4.out; have z5 := Sz_4.out; have z6 := Sz_5.out; have z7 := Sb_6.out; have z8 := Sz_6.out; have z9 := Sz_7.out; have z10 := Sb_8.out; have z11 := Sz_8.out; have z12 := Sz_9.out; have z13 := Sz_10.out; have z14 := Sz_11.out; have z15 := Sz_12.out; have z16 := Sz_13.out; (try simp only [] at *); omega))
    have Ra0_14 := Lib.hid (Ra0_13.out.grown hg hrow (by have z0 := Sa_0.out; have z1 := Sz_1.out; have z2 := Sz_2.out; have z3 := Sz_3.out; have z4 := Sb_4.out; have z5 := Sz_4.out; have z6 := Sz_5.out; have z7 := Sb_6.out; have z8 := Sz_6.out; have z9 := Sz_7.out; have z10 := Sb_8.out; have z11 := Sz_8.out; have z12 := Sz_9.out; have z13 := Sz_10.out; have z14 := Sz_11.out; have z15 := Sz_12.out; have z16 := Sz_13.out; (try simp only [] at *); omega))
    have Owe_14 := Lib.hid (Owe_13.out.grown hg hrow (by have z0 := Sa_0.out; have z1 := Sz_1.out; have z2 := Sz_2.out; have z3 := Sz_3.out; have z4 := Sb_4.out; have z5 := Sz_4.out; have z6 := Sz_5.out; have z7 := Sb_6.out; have z8 := Sz_6.out; have z9 := Sz_7.out; have z10 := Sb_8.out; have z11 := Sz_8.out; have z12 := Sz_9.out; have z13 := Sz_10.out; have z14 := Sz_11.out; have z15 := Sz_12.out; have z16 := Sz_13.out; (try simp only [] at *); omega))
    have Owx_14 := Lib.hid (Owx_13.out.grown hg hrow (by have z0 := Sa_0.out; have z1 := Sz_1.out; have z2 := Sz_2.out; have z3 := Sz_3.out; have z4 := Sb_4.out; have z5 := Sz_4.out; have z6 := Sz_5.out; have z7 := Sb_6.out; have z8 := Sz_6.out; have z9 := Sz_7.out; have z10 := Sb_8.out; have z11 := Sz_8.out; have z12 := Sz_9.out; have z13 := Sz_10.out; have z14 := Sz_11.out; have z15 := Sz_12.out; have z16 := Sz_13.out; (try simp only [] at *); omega))
    have Own : Hid (Ot w14 _ _ Bg (vi (marks 1 N))) := Lib.hid ⟨ho, Nat.le_trans Owg_13.out.2 hg.size⟩
    clear hg hrow ho Bel_13 Bx0_13 Bxe_13 Bxx_13 Bxg_13 Ra0_13 Owe_13 Owx_13 Owg_13 hx01 hx02 hx03 hx04 hxe1 hxe2 hxe3 hxe4 hxx1 hxx2 hxx3 hxx4 hxg1 hxg2 hxg3 hxg4
    have Owg_14 := Own
    clear Own
    obtain ⟨⟨hx01, hx02, hx03⟩, hx04⟩ := Bx0_14.out
    obtain ⟨⟨hxe1, hxe2, hxe3⟩, hxe4⟩ := Bxe_14.out
    obtain ⟨⟨hxx1, hxx2, hxx3⟩, hxx4⟩ := Bxx_14.out
    obtain ⟨⟨hxg1, hxg2, hxg3⟩, hxg4⟩ := Bxg_14.out
    go_wp2_with fail
    refine (heldD_any S Bg N dg EX 1 _ _ Owg_14.out.rt.1 Owg_14.out.rt.2 HN2.out (by omega) (by omega)).mono ?_
    rintro e w15 ⟨rfl, hb⟩
    have Bel_15 := Lib.hid (belNext Bel_14.out hb)
    have Sz_15 : Hid (w14.heap.size ≤ w15.heap.size) := Lib.hid hb.size
    have Bx0_15 := Lib.hid (Bx0_14.out.next hb)
    have Bxe_15 := Lib.hid (Bxe_14.out.next hb)
    have Bxx_15 := Lib.hid (Bxx_14.out.next hb)
    have Bxg_15 := Lib.hid (Bxg_14.out.next hb)
    have Ra0_15 := Lib.hid (Ra0_14.out.next hb)
    have Owe_15 := Lib.hid (Owe_14.out.next hb)
    have Owx_15 := Lib.hid (Owx_14.out.next hb)
    have Owg_15 := Lib.hid (Owg_14.out.next hb)
    clear hb Bel_14 Bx0_14 Bxe_14 Bxx_14 Bxg_14 Ra0_14 Owe_14 Owx_14 Owg_14 hx01 hx02 hx03 hx04 hxe1 hxe2 hxe3 hxe4 hxx1 hxx2 hxx3 hxx4 hxg1 hxg2 hxg3 hxg4
    obtain ⟨⟨hx01, hx02, hx03⟩, hx04⟩ := Bx0_15.out
    obtain ⟨⟨hxe1, hxe2, hxe3⟩, hxe4⟩ := Bxe_15.out
    obtain ⟨⟨hxx1, hxx2, hxx3⟩, hxx4⟩ := Bxx_15.out
    obtain ⟨⟨hxg1, hxg2, hxg3⟩, hxg4⟩ := Bxg_15.out
    go_wp2_with fail
    refine (toD2_any s0 A0 n0 c0 E0 xs0 _ _ Ra0_15.out.1 Ra0_15.out.2 Hn0.out Hle0.out).mono ?_
    rintro e w16 ⟨By, dy, rfl, ho, hb, hcp⟩
    have Own := Lib.hid (Ot.new ho)
    have Cpy := Lib.hid hcp
    clear ho hcp
    have Bel_16 := Lib.hid (belNext Bel_15.out hb)
    have Sz_16 : Hid (w15.heap.size ≤ w16.heap.size) := Lib.hid hb.size
    have Bx0_16 := Lib.hid (Bx0_15.out.next hb)
    have Bxe_16 := Lib.hid (Bxe_15.out.next hb)
    have Bxx_16 := Lib.hid (Bxx_15.out.next hb)
    have Bxg_16 := Lib.hid (Bxg_15.out.next hb)
    have Ra0_16 := Lib.hid (Ra0_15.out.next hb)
    have Owe_16 := Lib.hid (Owe_15.out.next hb)
    have Owx_16 := Lib.hid (Owx_15.out.next hb)
    have Owg_16 := Lib.hid (Owg_15.out.next hb)
    clear hb Bel_15 Bx0_15 Bxe_15 Bxx_15 Bxg_15 Ra0_15 Owe_15 Owx_15 Owg_15 hx01 hx02 hx03 hx04 hxe1 hxe2 hxe3 hxe4 hxx1 hxx2 hxx3 hxx4 hxg1 hxg2 hxg3 hxg4
    obtain ⟨⟨hx01, hx02, hx03⟩, hx04⟩ := Bx0_16.out
    obtain ⟨⟨hxe1, hxe2, hxe3⟩, hxe4⟩ := Bxe_16.out
    obtain ⟨⟨hxx1, hxx2, hxx3⟩, hxx4⟩ := Bxx_16.out
    obtain ⟨⟨hxg1, hxg2, hxg3⟩, hxg4⟩ := Bxg_16.out
    have Owy_16 := Own
    clear Own
    go_wp2_with fail
    refine (implRootAW_any s0 By n0 dy xs0 E0 k _ Owy_16.out.rt.all Hn0.out Hk0.out Cpy.out (HT.out.next Bel_16.out)).mono ?_
    rintro e w17 ⟨Sr, Bh, nr, dh, rfl, hv, hb⟩
    obtain ⟨hs, hnn, ho⟩ := resFormD hv HS.out HN.out HX.out
    rw [hs, hnn, ← HEX.out, ← HCD.out]
    have Own := Lib.hid (Ot.new ho)
    clear hv ho hs hnn
    have Bel_17 := Lib.hid (belNext Bel_16.out hb)
    have Sz_17 : Hid (w16.heap.size ≤ w17.heap.size) := Lib.hid hb.size
    have Bx0_17 := Lib.hid (Bx0_16.out.next hb)
    have Bxe_17 := Lib.hid (Bxe_16.out.next hb)
    have Bxx_17 := Lib.hid (Bxx_16.out.next hb)
    have Bxg_17 := Lib.hid (Bxg_16.out.next hb)
    have Ra0_17 := Lib.hid (Ra0_16.out.next hb)
    have Owe_17 := Lib.hid (Owe_16.out.next hb)
    have Owx_17 := Lib.hid (Owx_16.out.next hb)
    have Owg_17 := Lib.hid (Owg_16.out.next hb)
    have Owy_17 := Lib.hid (Owy_16.out.next hb)
    clear hb Bel_16 Bx0_16 Bxe_16 Bxx_16 Bxg_16 Ra0_16 Owe_16 Owx_16 Owg_16 Owy_16 hx01 hx02 hx03 hx04 hxe1 hxe2 hxe3 hxe4 hxx1 hxx2 hxx3 hxx4 hxg1 hxg2 hxg3 hxg4
    obtain ⟨⟨hx01, hx02, hx03⟩, hx04⟩ := Bx0_17.out
    obtain ⟨⟨hxe1, hxe2, hxe3⟩, hxe4⟩ := Bxe_17.out
    obtain ⟨⟨hxx1, hxx2, hxx3⟩, hxx4⟩ := Bxx_17.out
    obtain ⟨⟨hxg1, hxg2, hxg3⟩, hxg4⟩ := Bxg_17.out
    have Owh_17 := Own
    clear Own
    go_wp2_with fail
    obtain ⟨w18, hw⟩ : ∃ w18, w18 = w17.alloc (.cells #[.int .i64 S, .slice Bh N dh, .int .i64 EX] 30) := ⟨_, rfl⟩
    rw [← hw]
    have hb : Below w17.heap.size w17 w18 := by rw [hw]; exact belAlloc1 _ _
    have Bnew : Hid (DBox w18 w17.heap.size S Bh N dh EX) := Lib.hid (by rw [hw]; exact DBox.new _ _ _ _ _ _ _)
    have Sb_18 : Hid (w17.heap.size + 1 = w18.heap.size) := Lib.hid (by rw [hw]; simp)
    clear hw
    have Bel_18 := Lib.hid (belNext Bel_17.out hb)
    have Sz_18 : Hid (w17.heap.size ≤ w18.heap.size) := Lib.hid hb.size
    have Bx0_18 := Lib.hid (Bx0_17.out.next hb)
    have Bxe_18 := Lib.hid (Bxe_17.out.next hb)
    have Bxx_18 := Lib.hid (Bxx_17.out.next hb)
    have Bxg_18 := Lib.hid (Bxg_17.out.next hb)
    have Ra0_18 := Lib.hid (Ra0_17.out.next hb)
    have Owe_18 := Lib.hid (Owe_17.out.next hb)
    have Owx_18 := Lib.hid (Owx_17.out.next hb)
    have Owg_18 := Lib.hid (Owg_17.out.next hb)
    have Owy_18 := Lib.hid (Owy_17.out.next hb)
    have Owh_18 := Lib.hid (Owh_17.out.next hb)
    clear hb Bel_17 Bx0_17 Bxe_17 Bxx_17 Bxg_17 Ra0_17 Owe_17 Owx_17 Owg_17 Owy_17 Owh_17 hx01 hx02 hx03 hx04 hxe1 hxe2 hxe3 hxe4 hxx1 hxx2 hxx3 hxx4 hxg1 hxg2 hxg3 hxg4
    have Bxh_18 := Bnew
    clear Bnew
    obtain ⟨⟨hx01, hx02, hx03⟩, hx04⟩ := Bx0_18.out
    obtain ⟨⟨hxe1, hxe2, hxe3⟩, hxe4⟩ := Bxe_18.out
    obtain ⟨⟨hxx1, hxx2, hxx3⟩, hxx4⟩ := Bxx_18.out
    obtain ⟨⟨hxg1, hxg2, hxg3⟩, hxg4⟩ := Bxg_18.out
    obtain ⟨⟨hxh1, hxh2, hxh3⟩, hxh4⟩ := Bxh_18.out
    go_wp2_with fail
    refine (eqD_yes S Bh Be N dh de _ _ EX XS _ Owh_18.out.rt.1 Owe_18.out.rt.1 Owh_18.out.rt.2 Owe_18.out.rt.2 HXN.out HN1.out).mono ?_
    rintro e w19 ⟨rfl, hb⟩
    have Bel_19 := Lib.hid (belNext Bel_18.out hb)
    have Sz_19 : Hid (w18.heap.size ≤ w19.heap.size) := Lib.hid hb.size
    have Bx0_19 := Lib.hid (Bx0_18.out.next hb)
    have Bxe_19 := Lib.hid (Bxe_18.out.next hb)
    have Bxx_19 := Lib.hid (Bxx_18.out.next hb)
    have Bxg_19 := Lib.hid (Bxg_18.out.next hb)
    have Bxh_19 := Lib.hid (Bxh_18.out.next hb)
    have Ra0_19 := Lib.hid (Ra0_18.out.next hb)
    have Owe_19 := Lib.hid (Owe_18.out.next hb)
    have Owx_19 := Lib.hid (Owx_18.out.next hb)
    have Owg_19 := Lib.hid (Owg_18.out.next hb)
    have Owy_19 := Lib.hid (Owy_18.out.next hb)
    have Owh_19 := Lib.hid (Owh_18.out.next hb)
    clear hb Bel_18 Bx0_18 Bxe_18 Bxx_18 Bxg_18 Bxh_18 Ra0_18 Owe_18 Owx_18 Owg_18 Owy_18 Owh_18 hx01 hx02 hx03 hx04 hxe1 hxe2 hxe3 hxe4 hxx1 hxx2 hxx3 hxx4 hxg1 hxg2 hxg3 hxg4 hxh1 hxh2 hxh3 hxh4
    obtain ⟨⟨hx01, hx02, hx03⟩, hx04⟩ := Bx0_19.out
    obtain ⟨⟨hxe1, hxe2, hxe3⟩, hxe4⟩ := Bxe_19.out
    obtain ⟨⟨hxx1, hxx2, hxx3⟩, hxx4⟩ := Bxx_19.out
    obtain ⟨⟨hxg1, hxg2, hxg3⟩, hxg4⟩ := Bxg_19.out
    obtain ⟨⟨hxh1, hxh2, hxh3⟩, hxh4⟩ := Bxh_19.out
    go_wp2_with fail
    refine (heldD_any S Bg N dg EX 1 _ _ Owg_19.out.rt.1 Owg_19.out.rt.2 HN2.out (by omega) (by omega)).mono ?_
    rintro e w20 ⟨rfl, hb⟩
    have Bel_20 := Lib.hid (belNext Bel_19.out hb)
    have Sz_20 : Hid (w19.heap.size ≤ w20.heap.size) := Lib.hid hb.size
    have Bx0_20 := Lib.hid (Bx0_19.out.next hb)
    have Bxe_20 := Lib.hid (Bxe_19.out.next hb)
    have Bxx_20 := Lib.hid (Bxx_19.out.next hb)
    have Bxg_20 := Lib.hid (Bxg_19.out.next hb)
    have Bxh_20 := Lib.hid (Bxh_19.out.next hb)
    have Ra0_20 := Lib.hid (Ra0_19.out.next hb)
    have Owe_20 := Lib.hid (Owe_19.out.next hb)
    have Owx_20 := Lib.hid (Owx_19.out.next hb)
    have Owg_20 := Lib.hid (Owg_19.out.next hb)
    have Owy_20 := Lib.hid (Owy_19.out.next hb)
    have Owh_20 := Lib.hid (Owh_19.out.next hb)
    clear hb Bel_19 Bx0_19 Bxe_19 Bxx_19 Bxg_19 Bxh_19 Ra0_19 Owe_19 Owx_19 Owg_19 Owy_19 Owh_19 hx01 hx02 hx03 hx04 hxe1 hxe2 hxe3 hxe4 hxx1 hxx2 hxx3 hxx4 hxg1 hxg2 hxg3 hxg4 hxh1 hxh2 hxh3 hxh4
    obtain ⟨⟨hx01, hx02, hx03⟩, hx04⟩ := Bx0_20.out
    obtain ⟨⟨hxe1, hxe2, hxe3⟩, hxe4⟩ := Bxe_20.out
    obtain ⟨⟨hxx1, hxx2, hxx3⟩, hxx4⟩ := Bxx_20.out
    obtain ⟨⟨hxg1, hxg2, hxg3⟩, hxg4⟩ := Bxg_20.out
    obtain ⟨⟨hxh1, hxh2, hxh3⟩, hxh4⟩ := Bxh_20.out
    go_wp2_with fail
    go_ret
    exact ⟨rfl, Bel_20.out⟩

/-! the step from the walk to the given statement -/
set_option maxRecDepth 100000 in
theorem lifted (os : Os) (started : os.Started) (H : Type) (enc : TypeId × Value → H) :
    ReturnsInHanded {} Tryd.checked os 4 .any (fun w args => (Rows.fnExactRootAboveSpec.pre enc Tryd.prog Tryd.f4 [] false w args ∧ laidMetH Tryd.prog laidL w) ∧ sizedMet enc Tryd.prog Tryd.f4 (OpenSpec.ofChange Rows.fnExactRootAboveSpec) false w args) (Rows.fnExactRootAboveSpec.post enc Tryd.prog Tryd.f4 false true false false) := by
  refine returnsInHanded_of_change_and (C := Tryd.checked) (X := fun w _ => laidMetH Tryd.prog laidL w) (fun _ _ _ hh h => h.of_heap hh) own started (by kernel_rfl) Tryd.func4
    (ChangeSpec.witness_shaped (enc := enc) (C := Tryd.checked) (os := os) (X := fun w _ => laidMetH Tryd.prog laidL w) false (World.doorLaid Tryd.prog 14 os) #[.agg #[.int .i64 0, .slice none 0 0, .int .i64 0], .int .i64 0] 8 rfl (World.shaped_of_RefB (by kernel_rfl) (by kernel_rfl)) (by kernel_rfl) (by kernel_rfl) (by kernel_rfl) (door_met os _)) ?_
  intro W base args ds gs before hval0 hW _ _ hL _
  have hval : ∀ (j : Nat) t v, Tryd.f4.params[j]? = some t → args[j]? = some v → Value.okWide Tryd.prog W .any base t v := hval0
  have hW' := hW
  obtain ⟨p, q, hA0, hV, rfl, hfz, hnd⟩ := hW
  have hA : DataW.TrodAll enc Tryd.prog W 0 (fun _ => true) true Tryd.f4.params.toList args.toList ds p := hA0
  rw [Tryd.params4] at hA hval
  obtain ⟨v0, vs0, d0, ds0, p0, q0, hargs, rfl, rfl, h0, r0⟩ := trodAll_cons hA
  obtain ⟨v1, vs1, d1, ds1, p1, q1, hargs1, rfl, rfl, h1, r1⟩ := trodAll_cons r0
  obtain ⟨rfl, rfl, rfl⟩ := trodAll_nil r1
  obtain rfl : args = #[v0, v1] := by cases args; simp_all
  obtain ⟨rfl, rfl⟩ := trodVars_none hV
  have hc0 := h0
  obtain ⟨s0, A0, n0, c0, xs0, E0, rfl, hr0, hl0, hx0⟩ := open_dyadic (hval 0 26 v0 rfl rfl) h0
  obtain ⟨a1, rfl, rfl, rfl, w1⟩ := open_int Tryd.underlying2 (hval 1 2 v1 rfl rfl) h1
  clear hA0 hval0
  simp only [List.append_nil] at hW'
  refine (walk s0 A0 n0 c0 xs0 E0 a1 W hr0 hl0 hx0 w1 (tabz_of_laid hL)).mono fun e W' ⟨he, hg⟩ => ?_
  subst he
  exact ⟨_, rfl, law_end (pa := _) hW' (by simp) rfl (fun _ _ _ => (trodAll_cons_mk (shut_bool Tryd.underlying4 _) trodAll_mk0)) (fun sp hsp => (trodAll_cons_mk (carryB (by kernel_rfl) (of_decide_eq_true (by kernel_rfl)) hg hc0 (fun x hx => hW'.lt x (by simp [hx])) (fun x hx => hsp x (by simp [hx]))) (trodAll_cons_mk (shut_int Tryd.underlying2 w1) trodAll_mk0))) rfl
    hg (ok_one (by kernel_rfl) rfl (okWide_bool_mk Tryd.underlying4 _))⟩

theorem row_proved : Rows.FnExactRootAboveSaid :=
  OpenClaim.holds_of_wide 4 Tryd.f4 rfl rfl rfl rfl rfl rfl rfl ⟨rfl, rfl, rfl, rfl, rfl⟩ rfl rfl rfl rfl rfl (by kernel_rfl) Tryd.func4 (by kernel_rfl)
    (of_decide_eq_true (by kernel_rfl)) (by unfold Func.isWrapper; first | (rw [if_pos (by decide +kernel)]; kernel_rfl) | (rw [if_neg (by decide +kernel)]; exact ⟨rfl, rfl⟩))
    (fun os started H enc _ => lifted os started H enc)

theorem proved : Rows.FnExactRootAboveCardSaid :=
  Claim7.holds_tied_plain_at .later [] [.data] true (true, "ef298af8e9429d058a3b92795f2aa35ea7919098cf63857fd1bcb0290a91013f") true
    row_proved (fun _ h => by cases h) (by kernel_rfl) (fun _ h => by cases h) fnExactRootAbove_row_tie rfl ⟨rfl, rfl⟩ (by kernel_rfl) rfl
    (fun f fn hf hfn => by
      obtain rfl : f = 4 := Option.some.inj ((show Tryd.prog.funcNamed "loop.example/g01172/laws.FnExactRootAbove" = some 4 by kernel_rfl).symm.trans hf) |>.symm
      obtain rfl : fn = Tryd.f4 := (Option.some.inj (Tryd.func4.symm.trans hfn)).symm
      exact ⟨by kernel_rfl, fun j t ht => by
        rw [Tryd.params4] at ht
        have hm : t ∈ [26, 2] := by simpa using Array.mem_of_getElem? ht
        have hall : ([26, 2].all fun u => !Tryd.prog.wantsStandIn u) = true := by kernel_rfl
        exact (show Tryd.prog.wantsStandIn t = false by simpa using List.all_eq_true.1 hall t hm)⟩)
    (by kernel_rfl)
#print axioms proved
end Go.Proofs.YtnecnbonnidijaaDoor.fnExactRootAbove
