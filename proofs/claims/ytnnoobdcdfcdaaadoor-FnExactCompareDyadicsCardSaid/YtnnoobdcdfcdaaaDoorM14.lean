/- FnExactCompareDyadics returns true at every two exact numbers of the laws: the program's CompareDyadics gives the order and the code that the model gives, and changes no argument. Condition: the table math/bits.deBruijn64tab is as Go's library lays it (tied to the text). -/
import Derived.Test.YtnnoobdcdfcdaaaDoorRows
import Derived.Test.YtnnoobdcdfcdaaaDoorLx
import Derived.Test.YtnnoobdcdfcdaaaDoorBy
import Derived.Test.YtnnoobdcdfcdaaaDoorHo
import Derived.Test.YtnnoobdcdfcdaaaDoorDl
import Derived.Test.YtnnoobdcdfcdaaaDoorCd
import Derived.Test.YtnnoobdcdfcdaaaDoorTie
import Derived.Test.YtnnoobdcdfcdaaaDoorCards
import Derived.SevenTiedAt
import Derived.ProofKit
import Derived.OpenShut
import Derived.Deep.RegionHeld3
import Derived.Deep.DeepCutAuto
namespace Go.Proofs.YtnnoobdcdfcdaaaDoor.fnExactCompareDyadics
set_option maxRecDepth 100000
open Go Go.ChangeShapes Go.WideShapes Go.ChangeAt Go.RowKit
set_option linter.unusedVariables false
set_option linter.unusedSimpArgs false

theorem own : ownKnob Tryd.prog.godebug = none := by kernel_rfl

set_option maxHeartbeats 32000000 in
set_option maxRecDepth 100000 in
theorem walk (s0 : Int) (A0 : Option Addr) (n0 c0 : Nat) (xs0 : List Int) (E0 : Int) (s1 : Int) (A1 : Option Addr) (n1 c1 : Nat) (xs1 : List Int) (E1 : Int) (w : World) (hr0 : Rd w w.heap.size A0 (vi xs0)) (hl0 : xs0.length = n0 ∧ (n0 : Int) ≤ 9223372036854775807) (hx0 : ∀ x ∈ xs0, -9223372036854775808 ≤ x ∧ x ≤ 9223372036854775807) (hr1 : Rd w w.heap.size A1 (vi xs1)) (hl1 : xs1.length = n1 ∧ (n1 : Int) ≤ 9223372036854775807) (hx1 : ∀ x ∈ xs1, -9223372036854775808 ≤ x ∧ x ≤ 9223372036854775807) (hT : TabZ w) :
    Calls Tryd.prog 8 #[.agg #[.int .i64 s0, .slice A0 n0 c0, .int .i64 E0], .agg #[.int .i64 s1, .slice A1 n1 c1, .int .i64 E1]] w fun e w' => e = .returned (.bool true) ∧ Below w.heap.size w w' := by
  have Hn0 := Lib.hid hl0.1
  have Hm0 := Lib.hid hl0.2
  have Hr0 := Lib.hid hr0
  have Hn1 := Lib.hid hl1.1
  have Hm1 := Lib.hid hl1.2
  have Hr1 := Lib.hid hr1
  have HT := Lib.hid hT
  have Hbig0 : Hid ((1048576 : Int) < n0 ∨ ((n0 : Int) ≤ 1048576 ∧ n0 ≤ 1048576 ∧ n0 ≤ 1048580)) := Lib.hid (by have := hl0; omega)
  have Hbig1 : Hid ((1048576 : Int) < n1 ∨ ((n1 : Int) ≤ 1048576 ∧ n1 ≤ 1048576 ∧ n1 ≤ 1048580)) := Lib.hid (by have := hl1; omega)
  clear hr0 hl0 hx0 hr1 hl1 hx1 hT
  go_enter Tryd.func8, Tryd.ntmps8
  go_wp2_with fail
  obtain ⟨w0, hw0, hb1, hb2, hb4⟩ := dbox2 w s0 s1 A0 A1 n0 n1 c0 c1 E0 E1 40 40
  rw [← hw0]
  have Bel_0 := Lib.hid hb4
  have Bx0_0 := Lib.hid hb1
  have Bx1_0 := Lib.hid hb2
  have Ra0_0 : Hid (Rt w0 w.heap.size A0 (vi xs0)) := Lib.hid ⟨Hr0.out.below Bel_0.out, Bel_0.out.size⟩
  have Ra1_0 : Hid (Rt w0 w.heap.size A1 (vi xs1)) := Lib.hid ⟨Hr1.out.below Bel_0.out, Bel_0.out.size⟩
  clear hw0 hb1 hb2 hb4 Hr0 Hr1
  rcases Hbig0.out with hbig | ⟨hle1, hle2, hle3⟩
  · clear Hbig0
    have Hb0 := Lib.hid hbig
    clear hbig
    obtain ⟨⟨hx01, hx02, hx03⟩, hx04⟩ := Bx0_0.out
    obtain ⟨⟨hx11, hx12, hx13⟩, hx14⟩ := Bx1_0.out
    refine (szD_no s0 A0 n0 c0 E0 _ _ Hb0.out (by first | decide | (have := Hle0.out; omega)) (by first | decide | omega) Hm0.out).mono ?_
    rintro e w1 ⟨rfl, hb⟩
    have Bel_1 := Lib.hid (belNext Bel_0.out hb)
    have Bx0_1 := Lib.hid (Bx0_0.out.next hb)
    have Bx1_1 := Lib.hid (Bx1_0.out.next hb)
    have Ra0_1 := Lib.hid (Ra0_0.out.next hb)
    have Ra1_1 := Lib.hid (Ra1_0.out.next hb)
    clear hb Bel_0 Bx0_0 Bx1_0 Ra0_0 Ra1_0 hx01 hx02 hx03 hx04 hx11 hx12 hx13 hx14
    go_wp2_with fail
    go_ret
    exact ⟨rfl, Bel_1.out⟩
  · clear Hbig0
    have Hl0 := Lib.hid hle1
    have Hle0 := Lib.hid hle2
    have Hk0 := Lib.hid hle3
    clear hle2 hle3
    have Hs0 : Hid ((n0 : Int) ≤ 1048576) := Lib.hid Hl0.out
    obtain ⟨⟨hx01, hx02, hx03⟩, hx04⟩ := Bx0_0.out
    obtain ⟨⟨hx11, hx12, hx13⟩, hx14⟩ := Bx1_0.out
    refine (szD_yes s0 A0 n0 c0 E0 _ _ Hs0.out (by first | decide | omega)).mono ?_
    rintro e w1 ⟨rfl, hb⟩
    have Bel_1 := Lib.hid (belNext Bel_0.out hb)
    have Bx0_1 := Lib.hid (Bx0_0.out.next hb)
    have Bx1_1 := Lib.hid (Bx1_0.out.next hb)
    have Ra0_1 := Lib.hid (Ra0_0.out.next hb)
    have Ra1_1 := Lib.hid (Ra1_0.out.next hb)
    clear hb Bel_0 Bx0_0 Bx1_0 Ra0_0 Ra1_0 hx01 hx02 hx03 hx04 hx11 hx12 hx13 hx14
    obtain ⟨⟨hx01, hx02, hx03⟩, hx04⟩ := Bx0_1.out
    obtain ⟨⟨hx11, hx12, hx13⟩, hx14⟩ := Bx1_1.out
    go_wp2_with fail
    by_cases hbig : (1048576 : Int) - n0 < n1
    · skip
      have Hb0 := Lib.hid hbig
      clear hbig
      refine (szD_no s1 A1 n1 c1 E1 _ _ Hb0.out (by first | decide | (have := Hle0.out; omega)) (by first | decide | omega) Hm1.out).mono ?_
      rintro e w2 ⟨rfl, hb⟩
      have Bel_2 := Lib.hid (belNext Bel_1.out hb)
      have Bx0_2 := Lib.hid (Bx0_1.out.next hb)
      have Bx1_2 := Lib.hid (Bx1_1.out.next hb)
      have Ra0_2 := Lib.hid (Ra0_1.out.next hb)
      have Ra1_2 := Lib.hid (Ra1_1.out.next hb)
      clear hb Bel_1 Bx0_1 Bx1_1 Ra0_1 Ra1_1 hx01 hx02 hx03 hx04 hx11 hx12 hx13 hx14
      go_wp2_with fail
      go_ret
      exact ⟨rfl, Bel_2.out⟩
    · have Hle1 : Hid (n1 ≤ 1048576) := Lib.hid (by omega)
      have Hk1 : Hid (n1 ≤ 1048580) := Lib.hid (by omega)
      have Hs1 : Hid ((n1 : Int) ≤ 1048576 - n0) := Lib.hid (by omega)
      have hle4 : (n1 : Int) ≤ 1048576 - n0 := by omega
      clear hbig Hbig1
      refine (szD_yes s1 A1 n1 c1 E1 _ _ Hs1.out (by first | decide | omega)).mono ?_
      rintro e w2 ⟨rfl, hb⟩
      have Bel_2 := Lib.hid (belNext Bel_1.out hb)
      have Bx0_2 := Lib.hid (Bx0_1.out.next hb)
      have Bx1_2 := Lib.hid (Bx1_1.out.next hb)
      have Ra0_2 := Lib.hid (Ra0_1.out.next hb)
      have Ra1_2 := Lib.hid (Ra1_1.out.next hb)
      clear hb Bel_1 Bx0_1 Bx1_1 Ra0_1 Ra1_1 hx01 hx02 hx03 hx04 hx11 hx12 hx13 hx14
      obtain ⟨⟨hx01, hx02, hx03⟩, hx04⟩ := Bx0_2.out
      obtain ⟨⟨hx11, hx12, hx13⟩, hx14⟩ := Bx1_2.out
      go_wp2_with fail
      refine wp_region_held_drew (S := fun w' => (w'.cell? ⟨w.heap.size, 0, none⟩ = some (.int .i64 s0) ∧ w'.cell? ⟨w.heap.size, 1, none⟩ = some (.slice A0 n0 c0) ∧ w'.cell? ⟨w.heap.size, 2, none⟩ = some (.int .i64 E0)) ∧ (w'.cell? ⟨w.heap.size + 1, 0, none⟩ = some (.int .i64 s1) ∧ w'.cell? ⟨w.heap.size + 1, 1, none⟩ = some (.slice A1 n1 c1) ∧ w'.cell? ⟨w.heap.size + 1, 2, none⟩ = some (.int .i64 E1))) (by kernel_rfl) ⟨Bx0_2.out.1, Bx1_2.out.1⟩ (fun hHeld => ?_)
      clear hx01 hx02 hx03 hx04 hx11 hx12 hx13 hx14
      refine wpAnyH_take (i := 0) (v := ?_) rfl (by kernel_rfl) (by kernel_rfl) (by kernel_rfl) (fun _ _ _ h => h) (Or.inl ⟨by rfl, ?_⟩) (by assumption) ?_
      rotate_left
      · (intro w hSw; (try dsimp only at hSw); go_simp; (try with_reducible rfl))
      try simp only [Act.put, List.setIfInBounds_toArray, List.set_cons_zero, List.set_cons_succ]
      refine wpAnyH_take (i := 2) (v := ?_) rfl (by kernel_rfl) (by kernel_rfl) (by kernel_rfl) (fun _ _ _ h => h) (Or.inl ⟨by rfl, ?_⟩) (by assumption) ?_
      rotate_left
      · (intro w hSw; (try dsimp only at hSw); go_simp; (try with_reducible rfl))
      try simp only [Act.put, List.setIfInBounds_toArray, List.set_cons_zero, List.set_cons_succ]
      refine wpAnyH_ready (rs := [1]) (by kernel_rfl) (by simp) ?_
      refine AllReadyH.cons rfl (fun K hK => ?_) AllReadyH.nil
      go_simp
      refine (toD2_any s0 A0 n0 c0 E0 xs0 w2.drew _ Ra0_2.out.1 Ra0_2.out.2 Hn0.out Hle0.out).mono ?_
      rintro e w3 ⟨Ba, da, rfl, ho, hb0, hcp⟩
      have Cpa := Lib.hid hcp
      have hb : Below w2.heap.size w2 w3 := belDrew hb0
      have Own := Lib.hid (Ot.new ho)
      refine hK.out _ _ ⟨(Bx0_2.out.next hb).1, (Bx1_2.out.next hb).1⟩ (fun hHeld => ?_)
      clear hK K hb0 ho hcp
      have Bel_3 := Lib.hid (belNext Bel_2.out hb)
      have Bx0_3 := Lib.hid (Bx0_2.out.next hb)
      have Bx1_3 := Lib.hid (Bx1_2.out.next hb)
      have Ra0_3 := Lib.hid (Ra0_2.out.next hb)
      have Ra1_3 := Lib.hid (Ra1_2.out.next hb)
      clear hb Bel_2 Bx0_2 Bx1_2 Ra0_2 Ra1_2
      try simp only [Act.put, List.setIfInBounds_toArray, List.set_cons_zero, List.set_cons_succ]
      have Owa_3 := Own
      clear Own
      refine wpAnyH_ready (rs := [3]) (by kernel_rfl) (by simp) ?_
      refine AllReadyH.cons rfl (fun K hK => ?_) AllReadyH.nil
      go_simp
      refine (toD2_any s1 A1 n1 c1 E1 xs1 w3 _ Ra1_3.out.1 Ra1_3.out.2 Hn1.out Hle1.out).mono ?_
      rintro e w4 ⟨Bb, db, rfl, ho, hb0, hcp⟩
      have Cpb := Lib.hid hcp
      have hb : Below w3.heap.size w3 w4 := hb0
      have Own := Lib.hid (Ot.new ho)
      refine hK.out _ _ ⟨(Bx0_3.out.next hb).1, (Bx1_3.out.next hb).1⟩ (fun hHeld => ?_)
      clear hK K hb0 ho hcp
      have Bel_4 := Lib.hid (belNext Bel_3.out hb)
      have Bx0_4 := Lib.hid (Bx0_3.out.next hb)
      have Bx1_4 := Lib.hid (Bx1_3.out.next hb)
      have Ra0_4 := Lib.hid (Ra0_3.out.next hb)
      have Ra1_4 := Lib.hid (Ra1_3.out.next hb)
      have Owa_4 := Lib.hid (Owa_3.out.next hb)
      clear hb Bel_3 Bx0_3 Bx1_3 Ra0_3 Ra1_3 Owa_3
      try simp only [Act.put, List.setIfInBounds_toArray, List.set_cons_zero, List.set_cons_succ]
      have Owb_4 := Own
      clear Own
      refine wpAnyH_ready (rs := [4]) (by kernel_rfl) (by simp) ?_
      refine AllReadyH.cons rfl (fun K hK => ?_) AllReadyH.nil
      go_simp
      refine (specCompareDW_any s0 Ba n0 da E0 xs0 s1 Bb n1 db E1 xs1 _ Owa_4.out.rt.all Hn0.out Hk0.out Owb_4.out.rt.all Hn1.out Hk1.out Cpa.out Cpb.out).mono ?_
      rintro e w5 ⟨rfl, hb0⟩
      have hb : Below w4.heap.size w4 w5 := hb0
      refine hK.out _ _ ⟨(Bx0_4.out.next hb).1, (Bx1_4.out.next hb).1⟩ (fun hHeld => ?_)
      clear hK K hb0
      have Bel_5 := Lib.hid (belNext Bel_4.out hb)
      have Bx0_5 := Lib.hid (Bx0_4.out.next hb)
      have Bx1_5 := Lib.hid (Bx1_4.out.next hb)
      have Ra0_5 := Lib.hid (Ra0_4.out.next hb)
      have Ra1_5 := Lib.hid (Ra1_4.out.next hb)
      have Owa_5 := Lib.hid (Owa_4.out.next hb)
      have Owb_5 := Lib.hid (Owb_4.out.next hb)
      clear hb Bel_4 Bx0_4 Bx1_4 Ra0_4 Ra1_4 Owa_4 Owb_4
      try simp only [Act.put, List.setIfInBounds_toArray, List.set_cons_zero, List.set_cons_succ]
      refine wpAnyH_take (i := 5) (v := ?_) rfl (by kernel_rfl) (by kernel_rfl) (by kernel_rfl) (fun _ _ _ h => h) (Or.inl ⟨by rfl, ?_⟩) (by assumption) ?_
      rotate_left
      · (intro w hSw; (try dsimp only at hSw); go_simp; (try with_reducible rfl))
      try simp only [Act.put, List.setIfInBounds_toArray, List.set_cons_zero, List.set_cons_succ]
      refine wpAnyH_take (i := 6) (v := ?_) rfl (by kernel_rfl) (by kernel_rfl) (by kernel_rfl) (fun _ _ _ h => h) (Or.inl ⟨by rfl, ?_⟩) (by assumption) ?_
      rotate_left
      · (intro w hSw; (try dsimp only at hSw); go_simp; (try with_reducible rfl))
      try simp only [Act.put, List.setIfInBounds_toArray, List.set_cons_zero, List.set_cons_succ]
      refine wpAnyH_take (i := 7) (v := ?_) rfl (by kernel_rfl) (by kernel_rfl) (by kernel_rfl) (fun _ _ _ h => h) (Or.inl ⟨by rfl, ?_⟩) (by assumption) ?_
      rotate_left
      · (intro w hSw; (try dsimp only at hSw); go_simp; (try with_reducible rfl))
      try simp only [Act.put, List.setIfInBounds_toArray, List.set_cons_zero, List.set_cons_succ]
      refine wpAnyH_ready (rs := [8]) (by kernel_rfl) (by simp) ?_
      refine AllReadyH.cons rfl (fun K hK => ?_) AllReadyH.nil
      go_simp
      refine hK.out _ _ hHeld (fun hHeld => ?_)
      clear hK K
      try simp only [Act.put, List.setIfInBounds_toArray, List.set_cons_zero, List.set_cons_succ]
      refine wpAnyH_ready (rs := [9]) (by kernel_rfl) (by simp) ?_
      refine AllReadyH.cons rfl (fun K hK => ?_) AllReadyH.nil
      go_simp
      refine hK.out _ _ hHeld (fun hHeld => ?_)
      clear hK K
      try simp only [Act.put, List.setIfInBounds_toArray, List.set_cons_zero, List.set_cons_succ]
      refine wpAnyH_done (by kernel_rfl) ?_ _
      clear hHeld
      obtain ⟨⟨hx01, hx02, hx03⟩, hx04⟩ := Bx0_5.out
      obtain ⟨⟨hx11, hx12, hx13⟩, hx14⟩ := Bx1_5.out
      go_wp2_with fail
      clear Owa_5
      clear Owb_5
      refine (toD2_any s0 A0 n0 c0 E0 xs0 _ _ Ra0_5.out.1 Ra0_5.out.2 Hn0.out Hle0.out).mono ?_
      rintro e w6 ⟨Bx, dx, rfl, ho, hb, hcp⟩
      have Own := Lib.hid (Ot.new ho)
      have Cpx := Lib.hid hcp
      clear ho hcp
      have Bel_6 := Lib.hid (belNext Bel_5.out hb)
      have Bx0_6 := Lib.hid (Bx0_5.out.next hb)
      have Bx1_6 := Lib.hid (Bx1_5.out.next hb)
      have Ra0_6 := Lib.hid (Ra0_5.out.next hb)
      have Ra1_6 := Lib.hid (Ra1_5.out.next hb)
      clear hb Bel_5 Bx0_5 Bx1_5 Ra0_5 Ra1_5 hx01 hx02 hx03 hx04 hx11 hx12 hx13 hx14
      obtain ⟨⟨hx01, hx02, hx03⟩, hx04⟩ := Bx0_6.out
      obtain ⟨⟨hx11, hx12, hx13⟩, hx14⟩ := Bx1_6.out
      have Owx_6 := Own
      clear Own
      go_wp2_with fail
      obtain ⟨w7, hw⟩ : ∃ w7, w7 = w6.alloc (.cells #[.int .i64 s0, .slice Bx n0 dx, .int .i64 E0] 34) := ⟨_, rfl⟩
      rw [← hw]
      have hb : Below w6.heap.size w6 w7 := by rw [hw]; exact belAlloc1 _ _
      have Bnew : Hid (DBox w7 w6.heap.size s0 Bx n0 dx E0) := Lib.hid (by rw [hw]; exact DBox.new _ _ _ _ _ _ _)
      clear hw
      have Bel_7 := Lib.hid (belNext Bel_6.out hb)
      have Bx0_7 := Lib.hid (Bx0_6.out.next hb)
      have Bx1_7 := Lib.hid (Bx1_6.out.next hb)
      have Ra0_7 := Lib.hid (Ra0_6.out.next hb)
      have Ra1_7 := Lib.hid (Ra1_6.out.next hb)
      have Owx_7 := Lib.hid (Owx_6.out.next hb)
      clear hb Bel_6 Bx0_6 Bx1_6 Ra0_6 Ra1_6 Owx_6 hx01 hx02 hx03 hx04 hx11 hx12 hx13 hx14
      have Bxx_7 := Bnew
      clear Bnew
      obtain ⟨⟨hx01, hx02, hx03⟩, hx04⟩ := Bx0_7.out
      obtain ⟨⟨hx11, hx12, hx13⟩, hx14⟩ := Bx1_7.out
      obtain ⟨⟨hxx1, hxx2, hxx3⟩, hxx4⟩ := Bxx_7.out
      refine (toD2_any s1 A1 n1 c1 E1 xs1 _ _ Ra1_7.out.1 Ra1_7.out.2 Hn1.out Hle1.out).mono ?_
      rintro e w8 ⟨By, dy, rfl, ho, hb, hcp⟩
      have Own := Lib.hid (Ot.new ho)
      have Cpy := Lib.hid hcp
      clear ho hcp
      have Bel_8 := Lib.hid (belNext Bel_7.out hb)
      have Bx0_8 := Lib.hid (Bx0_7.out.next hb)
      have Bx1_8 := Lib.hid (Bx1_7.out.next hb)
      have Bxx_8 := Lib.hid (Bxx_7.out.next hb)
      have Ra0_8 := Lib.hid (Ra0_7.out.next hb)
      have Ra1_8 := Lib.hid (Ra1_7.out.next hb)
      have Owx_8 := Lib.hid (Owx_7.out.next hb)
      clear hb Bel_7 Bx0_7 Bx1_7 Bxx_7 Ra0_7 Ra1_7 Owx_7 hx01 hx02 hx03 hx04 hx11 hx12 hx13 hx14 hxx1 hxx2 hxx3 hxx4
      obtain ⟨⟨hx01, hx02, hx03⟩, hx04⟩ := Bx0_8.out
      obtain ⟨⟨hx11, hx12, hx13⟩, hx14⟩ := Bx1_8.out
      obtain ⟨⟨hxx1, hxx2, hxx3⟩, hxx4⟩ := Bxx_8.out
      have Owy_8 := Own
      clear Own
      go_wp2_with fail
      obtain ⟨w9, hw⟩ : ∃ w9, w9 = w8.alloc (.cells #[.int .i64 s1, .slice By n1 dy, .int .i64 E1] 34) := ⟨_, rfl⟩
      rw [← hw]
      have hb : Below w8.heap.size w8 w9 := by rw [hw]; exact belAlloc1 _ _
      have Bnew : Hid (DBox w9 w8.heap.size s1 By n1 dy E1) := Lib.hid (by rw [hw]; exact DBox.new _ _ _ _ _ _ _)
      clear hw
      have Bel_9 := Lib.hid (belNext Bel_8.out hb)
      have Bx0_9 := Lib.hid (Bx0_8.out.next hb)
      have Bx1_9 := Lib.hid (Bx1_8.out.next hb)
      have Bxx_9 := Lib.hid (Bxx_8.out.next hb)
      have Ra0_9 := Lib.hid (Ra0_8.out.next hb)
      have Ra1_9 := Lib.hid (Ra1_8.out.next hb)
      have Owx_9 := Lib.hid (Owx_8.out.next hb)
      have Owy_9 := Lib.hid (Owy_8.out.next hb)
      clear hb Bel_8 Bx0_8 Bx1_8 Bxx_8 Ra0_8 Ra1_8 Owx_8 Owy_8 hx01 hx02 hx03 hx04 hx11 hx12 hx13 hx14 hxx1 hxx2 hxx3 hxx4
      have Bxy_9 := Bnew
      clear Bnew
      obtain ⟨⟨hx01, hx02, hx03⟩, hx04⟩ := Bx0_9.out
      obtain ⟨⟨hx11, hx12, hx13⟩, hx14⟩ := Bx1_9.out
      obtain ⟨⟨hxx1, hxx2, hxx3⟩, hxx4⟩ := Bxx_9.out
      obtain ⟨⟨hxy1, hxy2, hxy3⟩, hxy4⟩ := Bxy_9.out
      refine (implCompareDW_any s0 Bx n0 dx E0 xs0 s1 By n1 dy E1 xs1 _ Owx_9.out.rt.all Hn0.out Hk0.out Owy_9.out.rt.all Hn1.out Hk1.out Cpx.out Cpy.out (HT.out.next Bel_9.out)).mono ?_
      rintro e w10 ⟨rfl, hb⟩
      have Bel_10 := Lib.hid (belNext Bel_9.out hb)
      have Bx0_10 := Lib.hid (Bx0_9.out.next hb)
      have Bx1_10 := Lib.hid (Bx1_9.out.next hb)
      have Bxx_10 := Lib.hid (Bxx_9.out.next hb)
      have Bxy_10 := Lib.hid (Bxy_9.out.next hb)
      have Ra0_10 := Lib.hid (Ra0_9.out.next hb)
      have Ra1_10 := Lib.hid (Ra1_9.out.next hb)
      have Owx_10 := Lib.hid (Owx_9.out.next hb)
      have Owy_10 := Lib.hid (Owy_9.out.next hb)
      clear hb Bel_9 Bx0_9 Bx1_9 Bxx_9 Bxy_9 Ra0_9 Ra1_9 Owx_9 Owy_9 hx01 hx02 hx03 hx04 hx11 hx12 hx13 hx14 hxx1 hxx2 hxx3 hxx4 hxy1 hxy2 hxy3 hxy4
      obtain ⟨⟨hx01, hx02, hx03⟩, hx04⟩ := Bx0_10.out
      obtain ⟨⟨hx11, hx12, hx13⟩, hx14⟩ := Bx1_10.out
      obtain ⟨⟨hxx1, hxx2, hxx3⟩, hxx4⟩ := Bxx_10.out
      obtain ⟨⟨hxy1, hxy2, hxy3⟩, hxy4⟩ := Bxy_10.out
      go_wp2_with fail
      refine wp_region_held_drew (S := fun w' => (w'.cell? ⟨w.heap.size, 0, none⟩ = some (.int .i64 s0) ∧ w'.cell? ⟨w.heap.size, 1, none⟩ = some (.slice A0 n0 c0) ∧ w'.cell? ⟨w.heap.size, 2, none⟩ = some (.int .i64 E0)) ∧ (w'.cell? ⟨w6.heap.size, 0, none⟩ = some (.int .i64 s0) ∧ w'.cell? ⟨w6.heap.size, 1, none⟩ = some (.slice Bx n0 dx) ∧ w'.cell? ⟨w6.heap.size, 2, none⟩ = some (.int .i64 E0))) (by kernel_rfl) ⟨Bx0_10.out.1, Bxx_10.out.1⟩ (fun hHeld => ?_)
      clear hx01 hx02 hx03 hx04 hx11 hx12 hx13 hx14 hxx1 hxx2 hxx3 hxx4 hxy1 hxy2 hxy3 hxy4
      refine wpAnyH_take (i := 0) (v := ?_) rfl (by kernel_rfl) (by kernel_rfl) (by kernel_rfl) (fun _ _ _ h => h) (Or.inl ⟨by rfl, ?_⟩) (by assumption) ?_
      rotate_left
      · (intro w hSw; (try dsimp only at hSw); go_simp; (try with_reducible rfl))
      try simp only [Act.put, List.setIfInBounds_toArray, List.set_cons_zero, List.set_cons_succ]
      refine wpAnyH_take (i := 1) (v := ?_) rfl (by kernel_rfl) (by kernel_rfl) (by kernel_rfl) (fun _ _ _ h => h) (Or.inl ⟨by rfl, ?_⟩) (by assumption) ?_
      rotate_left
      · (intro w hSw; (try dsimp only at hSw); go_simp; (try with_reducible rfl))
      try simp only [Act.put, List.setIfInBounds_toArray, List.set_cons_zero, List.set_cons_succ]
      refine wpAnyH_ready (rs := [2]) (by kernel_rfl) (by simp) ?_
      refine AllReadyH.cons rfl (fun K hK => ?_) AllReadyH.nil
      go_simp
      refine (toD_any s0 A0 n0 c0 E0 xs0 w10.drew _ Ra0_10.out.1 Ra0_10.out.2 Hn0.out Hle0.out).mono ?_
      rintro e w11 ⟨Bh, dh, rfl, ho, hb0⟩
      have hb : Below w10.heap.size w10 w11 := belDrew hb0
      refine hK.out _ _ ⟨(Bx0_10.out.next hb).1, (Bxx_10.out.next hb).1⟩ (fun hHeld => ?_)
      have Own := Lib.hid (Ot.new ho)
      clear ho
      clear hK K hb0
      have Bel_11 := Lib.hid (belNext Bel_10.out hb)
      have Bx0_11 := Lib.hid (Bx0_10.out.next hb)
      have Bx1_11 := Lib.hid (Bx1_10.out.next hb)
      have Bxx_11 := Lib.hid (Bxx_10.out.next hb)
      have Bxy_11 := Lib.hid (Bxy_10.out.next hb)
      have Ra0_11 := Lib.hid (Ra0_10.out.next hb)
      have Ra1_11 := Lib.hid (Ra1_10.out.next hb)
      have Owx_11 := Lib.hid (Owx_10.out.next hb)
      have Owy_11 := Lib.hid (Owy_10.out.next hb)
      clear hb Bel_10 Bx0_10 Bx1_10 Bxx_10 Bxy_10 Ra0_10 Ra1_10 Owx_10 Owy_10
      try simp only [Act.put, List.setIfInBounds_toArray, List.set_cons_zero, List.set_cons_succ]
      refine wpAnyH_ready (rs := [3]) (by kernel_rfl) (by simp) ?_
      refine AllReadyH.cons rfl (fun K hK => ?_) AllReadyH.nil
      go_simp
      refine (eqD_yes s0 Bx Bh n0 dx dh _ _ E0 xs0 _ Owx_11.out.rt.1 Own.out.rt.1 Owx_11.out.rt.2 Own.out.rt.2 Hn0.out Hle0.out).mono ?_
      rintro e w12 ⟨rfl, hb0⟩
      have hb : Below w11.heap.size w11 w12 := hb0
      refine hK.out _ _ ⟨(Bx0_11.out.next hb).1, (Bxx_11.out.next hb).1⟩ (fun hHeld => ?_)
      clear Own
      clear hK K hb0
      have Bel_12 := Lib.hid (belNext Bel_11.out hb)
      have Bx0_12 := Lib.hid (Bx0_11.out.next hb)
      have Bx1_12 := Lib.hid (Bx1_11.out.next hb)
      have Bxx_12 := Lib.hid (Bxx_11.out.next hb)
      have Bxy_12 := Lib.hid (Bxy_11.out.next hb)
      have Ra0_12 := Lib.hid (Ra0_11.out.next hb)
      have Ra1_12 := Lib.hid (Ra1_11.out.next hb)
      have Owx_12 := Lib.hid (Owx_11.out.next hb)
      have Owy_12 := Lib.hid (Owy_11.out.next hb)
      clear hb Bel_11 Bx0_11 Bx1_11 Bxx_11 Bxy_11 Ra0_11 Ra1_11 Owx_11 Owy_11
      try simp only [Act.put, List.setIfInBounds_toArray, List.set_cons_zero, List.set_cons_succ]
      refine wpAnyH_ready (rs := [4]) (by kernel_rfl) (by simp) ?_
      refine AllReadyH.cons rfl (fun K hK => ?_) AllReadyH.nil
      go_simp
      refine hK.out _ _ hHeld (fun hHeld => ?_)
      clear hK K
      try simp only [Act.put, List.setIfInBounds_toArray, List.set_cons_zero, List.set_cons_succ]
      refine wpAnyH_done (by kernel_rfl) ?_ _
      clear hHeld
      obtain ⟨⟨hx01, hx02, hx03⟩, hx04⟩ := Bx0_12.out
      obtain ⟨⟨hx11, hx12, hx13⟩, hx14⟩ := Bx1_12.out
      obtain ⟨⟨hxx1, hxx2, hxx3⟩, hxx4⟩ := Bxx_12.out
      obtain ⟨⟨hxy1, hxy2, hxy3⟩, hxy4⟩ := Bxy_12.out
      go_wp2_with fail
      refine wp_region_held_drew (S := fun w' => (w'.cell? ⟨w.heap.size + 1, 0, none⟩ = some (.int .i64 s1) ∧ w'.cell? ⟨w.heap.size + 1, 1, none⟩ = some (.slice A1 n1 c1) ∧ w'.cell? ⟨w.heap.size + 1, 2, none⟩ = some (.int .i64 E1)) ∧ (w'.cell? ⟨w8.heap.size, 0, none⟩ = some (.int .i64 s1) ∧ w'.cell? ⟨w8.heap.size, 1, none⟩ = some (.slice By n1 dy) ∧ w'.cell? ⟨w8.heap.size, 2, none⟩ = some (.int .i64 E1))) (by kernel_rfl) ⟨Bx1_12.out.1, Bxy_12.out.1⟩ (fun hHeld => ?_)
      clear hx01 hx02 hx03 hx04 hx11 hx12 hx13 hx14 hxx1 hxx2 hxx3 hxx4 hxy1 hxy2 hxy3 hxy4
      refine wpAnyH_take (i := 0) (v := ?_) rfl (by kernel_rfl) (by kernel_rfl) (by kernel_rfl) (fun _ _ _ h => h) (Or.inl ⟨by rfl, ?_⟩) (by assumption) ?_
      rotate_left
      · (intro w hSw; (try dsimp only at hSw); go_simp; (try with_reducible rfl))
      try simp only [Act.put, List.setIfInBounds_toArray, List.set_cons_zero, List.set_cons_succ]
      refine wpAnyH_take (i := 1) (v := ?_) rfl (by kernel_rfl) (by kernel_rfl) (by kernel_rfl) (fun _ _ _ h => h) (Or.inl ⟨by rfl, ?_⟩) (by assumption) ?_
      rotate_left
      · (intro w hSw; (try dsimp only at hSw); go_simp; (try with_reducible rfl))
      try simp only [Act.put, List.setIfInBounds_toArray, List.set_cons_zero, List.set_cons_succ]
      refine wpAnyH_ready (rs := [2]) (by kernel_rfl) (by simp) ?_
      refine AllReadyH.cons rfl (fun K hK => ?_) AllReadyH.nil
      go_simp
      refine (toD_any s1 A1 n1 c1 E1 xs1 w12.drew _ Ra1_12.out.1 Ra1_12.out.2 Hn1.out Hle1.out).mono ?_
      rintro e w13 ⟨Bh, dh, rfl, ho, hb0⟩
      have hb : Below w12.heap.size w12 w13 := belDrew hb0
      refine hK.out _ _ ⟨(Bx1_12.out.next hb).1, (Bxy_12.out.next hb).1⟩ (fun hHeld => ?_)
      have Own := Lib.hid (Ot.new ho)
      clear ho
      clear hK K hb0
      have Bel_13 := Lib.hid (belNext Bel_12.out hb)
      have Bx0_13 := Lib.hid (Bx0_12.out.next hb)
      have Bx1_13 := Lib.hid (Bx1_12.out.next hb)
      have Bxx_13 := Lib.hid (Bxx_12.out.next hb)
      have Bxy_13 := Lib.hid (Bxy_12.out.next hb)
      have Ra0_13 := Lib.hid (Ra0_12.out.next hb)
      have Ra1_13 := Lib.hid (Ra1_12.out.next hb)
      have Owx_13 := Lib.hid (Owx_12.out.next hb)
      have Owy_13 := Lib.hid (Owy_12.out.next hb)
      clear hb Bel_12 Bx0_12 Bx1_12 Bxx_12 Bxy_12 Ra0_12 Ra1_12 Owx_12 Owy_12
      try simp only [Act.put, List.setIfInBounds_toArray, List.set_cons_zero, List.set_cons_succ]
      refine wpAnyH_ready (rs := [3]) (by kernel_rfl) (by simp) ?_
      refine AllReadyH.cons rfl (fun K hK => ?_) AllReadyH.nil
      go_simp
      refine (eqD_yes s1 By Bh n1 dy dh _ _ E1 xs1 _ Owy_13.out.rt.1 Own.out.rt.1 Owy_13.out.rt.2 Own.out.rt.2 Hn1.out Hle1.out).mono ?_
      rintro e w14 ⟨rfl, hb0⟩
      have hb : Below w13.heap.size w13 w14 := hb0
      refine hK.out _ _ ⟨(Bx1_13.out.next hb).1, (Bxy_13.out.next hb).1⟩ (fun hHeld => ?_)
      clear Own
      clear hK K hb0
      have Bel_14 := Lib.hid (belNext Bel_13.out hb)
      have Bx0_14 := Lib.hid (Bx0_13.out.next hb)
      have Bx1_14 := Lib.hid (Bx1_13.out.next hb)
      have Bxx_14 := Lib.hid (Bxx_13.out.next hb)
      have Bxy_14 := Lib.hid (Bxy_13.out.next hb)
      have Ra0_14 := Lib.hid (Ra0_13.out.next hb)
      have Ra1_14 := Lib.hid (Ra1_13.out.next hb)
      have Owx_14 := Lib.hid (Owx_13.out.next hb)
      have Owy_14 := Lib.hid (Owy_13.out.next hb)
      clear hb Bel_13 Bx0_13 Bx1_13 Bxx_13 Bxy_13 Ra0_13 Ra1_13 Owx_13 Owy_13
      try simp only [Act.put, List.setIfInBounds_toArray, List.set_cons_zero, List.set_cons_succ]
      refine wpAnyH_ready (rs := [4]) (by kernel_rfl) (by simp) ?_
      refine AllReadyH.cons rfl (fun K hK => ?_) AllReadyH.nil
      go_simp
      refine hK.out _ _ hHeld (fun hHeld => ?_)
      clear hK K
      try simp only [Act.put, List.setIfInBounds_toArray, List.set_cons_zero, List.set_cons_succ]
      refine wpAnyH_done (by kernel_rfl) ?_ _
      clear hHeld
      obtain ⟨⟨hx01, hx02, hx03⟩, hx04⟩ := Bx0_14.out
      obtain ⟨⟨hx11, hx12, hx13⟩, hx14⟩ := Bx1_14.out
      obtain ⟨⟨hxx1, hxx2, hxx3⟩, hxx4⟩ := Bxx_14.out
      obtain ⟨⟨hxy1, hxy2, hxy3⟩, hxy4⟩ := Bxy_14.out
      go_wp2_with fail
      go_ret
      exact ⟨rfl, Bel_14.out⟩

/-! the step from the walk to the given statement -/
set_option maxRecDepth 100000 in
theorem lifted (os : Os) (started : os.Started) (H : Type) (enc : TypeId × Value → H) :
    ReturnsInHanded {} Tryd.checked os 8 .any (fun w args => (Rows.fnExactCompareDyadicsSpec.pre enc Tryd.prog Tryd.f8 [] false w args ∧ laidMetH Tryd.prog laidL w) ∧ sizedMet enc Tryd.prog Tryd.f8 (OpenSpec.ofChange Rows.fnExactCompareDyadicsSpec) false w args) (Rows.fnExactCompareDyadicsSpec.post enc Tryd.prog Tryd.f8 false true false false) := by
  refine returnsInHanded_of_change_and (C := Tryd.checked) (X := fun w _ => laidMetH Tryd.prog laidL w) (fun _ _ _ hh h => h.of_heap hh) own started (by kernel_rfl) Tryd.func8
    (ChangeSpec.witness_shaped (enc := enc) (C := Tryd.checked) (os := os) (X := fun w _ => laidMetH Tryd.prog laidL w) false (World.doorLaid Tryd.prog 14 os) #[.agg #[.int .i64 0, .slice none 0 0, .int .i64 0], .agg #[.int .i64 0, .slice none 0 0, .int .i64 0]] 8 rfl (World.shaped_of_RefB (by kernel_rfl) (by kernel_rfl)) (by kernel_rfl) (by kernel_rfl) (by kernel_rfl) (door_met os _)) ?_
  intro W base args ds gs before hval0 hW _ _ hL _
  have hval : ∀ (j : Nat) t v, Tryd.f8.params[j]? = some t → args[j]? = some v → Value.okWide Tryd.prog W .any base t v := hval0
  have hW' := hW
  obtain ⟨p, q, hA0, hV, rfl, hfz, hnd⟩ := hW
  have hA : DataW.TrodAll enc Tryd.prog W 0 (fun _ => true) true Tryd.f8.params.toList args.toList ds p := hA0
  rw [Tryd.params8] at hA hval
  obtain ⟨v0, vs0, d0, ds0, p0, q0, hargs, rfl, rfl, h0, r0⟩ := trodAll_cons hA
  obtain ⟨v1, vs1, d1, ds1, p1, q1, hargs1, rfl, rfl, h1, r1⟩ := trodAll_cons r0
  obtain ⟨rfl, rfl, rfl⟩ := trodAll_nil r1
  obtain rfl : args = #[v0, v1] := by cases args; simp_all
  obtain ⟨rfl, rfl⟩ := trodVars_none hV
  have hc0 := h0
  obtain ⟨s0, A0, n0, c0, xs0, E0, rfl, hr0, hl0, hx0⟩ := open_dyadic (hval 0 40 v0 rfl rfl) h0
  have hc1 := h1
  obtain ⟨s1, A1, n1, c1, xs1, E1, rfl, hr1, hl1, hx1⟩ := open_dyadic (hval 1 40 v1 rfl rfl) h1
  clear hA0 hval0
  simp only [List.append_nil] at hW'
  refine (walk s0 A0 n0 c0 xs0 E0 s1 A1 n1 c1 xs1 E1 W hr0 hl0 hx0 hr1 hl1 hx1 (tabz_of_laid hL)).mono fun e W' ⟨he, hg⟩ => ?_
  subst he
  exact ⟨_, rfl, law_end (pa := _) hW' (by simp) rfl (fun _ _ _ => (trodAll_cons_mk (shut_bool Tryd.underlying4 _) trodAll_mk0)) (fun sp hsp => (trodAll_cons_mk (carryB (by kernel_rfl) (of_decide_eq_true (by kernel_rfl)) hg hc0 (fun x hx => hW'.lt x (by simp [hx])) (fun x hx => hsp x (by simp [hx]))) (trodAll_cons_mk (carryB (by kernel_rfl) (of_decide_eq_true (by kernel_rfl)) hg hc1 (fun x hx => hW'.lt x (by simp [hx])) (fun x hx => hsp x (by simp [hx]))) trodAll_mk0))) rfl
    hg (ok_one (by kernel_rfl) rfl (okWide_bool_mk Tryd.underlying4 _))⟩

theorem row_proved : Rows.FnExactCompareDyadicsSaid :=
  OpenClaim.holds_of_wide 8 Tryd.f8 rfl rfl rfl rfl rfl rfl rfl ⟨rfl, rfl, rfl, rfl, rfl⟩ rfl rfl rfl rfl rfl (by kernel_rfl) Tryd.func8 (by kernel_rfl)
    (of_decide_eq_true (by kernel_rfl)) (by unfold Func.isWrapper; first | (rw [if_pos (by decide +kernel)]; kernel_rfl) | (rw [if_neg (by decide +kernel)]; exact ⟨rfl, rfl⟩))
    (fun os started H enc _ => lifted os started H enc)

theorem proved : Rows.FnExactCompareDyadicsCardSaid :=
  Claim7.holds_tied_plain_at .later [] [.data] true (true, "f4715c903039be3a5efe5089864a7fe52f6670a1cce19b85ed8fd99584a76721") false
    row_proved (fun _ h => by cases h) (by kernel_rfl) (fun _ h => by cases h) fnExactCompareDyadics_row_tie rfl ⟨rfl, rfl⟩ (by kernel_rfl) rfl
    (fun f fn hf hfn => by
      obtain rfl : f = 8 := Option.some.inj ((show Tryd.prog.funcNamed "loop.example/g01172/laws.FnExactCompareDyadics" = some 8 by kernel_rfl).symm.trans hf) |>.symm
      obtain rfl : fn = Tryd.f8 := (Option.some.inj (Tryd.func8.symm.trans hfn)).symm
      exact ⟨by kernel_rfl, fun j t ht => by
        rw [Tryd.params8] at ht
        have hm : t ∈ [40, 40] := by simpa using Array.mem_of_getElem? ht
        have hall : ([40, 40].all fun u => !Tryd.prog.wantsStandIn u) = true := by kernel_rfl
        exact (show Tryd.prog.wantsStandIn t = false by simpa using List.all_eq_true.1 hall t hm)⟩)
    (by kernel_rfl)
#print axioms proved
end Go.Proofs.YtnnoobdcdfcdaaaDoor.fnExactCompareDyadics
