/- FnExactQuotientBelow returns true at every two exact numbers of the laws and every int64: the program's QuotientBelow gives the exact number and the code that the model gives, in memory of its own, and changes no argument. Condition: the table math/bits.deBruijn64tab is as Go's library lays it (tied to the text). -/
import Derived.Test.YtnecnbonnidijaaDoorRows
import Derived.Test.YtnecnbonnidijaaDoorGQ1
import Derived.Test.YtnecnbonnidijaaDoorGQ18
import Derived.Test.YtnecnbonnidijaaDoorGQ6
import Derived.Test.YtnecnbonnidijaaDoorTie
import Derived.Test.YtnecnbonnidijaaDoorCards
import Derived.SevenTiedAt
import Derived.ProofKit
import Derived.OpenShut
import Derived.Deep.RegionHeld3
import Derived.Deep.DeepCutAuto
namespace Go.Proofs.YtnecnbonnidijaaDoor.fnExactQuotientBelow
set_option maxRecDepth 100000
open Go Go.ChangeShapes Go.WideShapes Go.ChangeAt Go.RowKit
set_option linter.unusedVariables false
set_option linter.unusedSimpArgs false

theorem own : ownKnob Tryd.prog.godebug = none := by kernel_rfl

set_option maxHeartbeats 32000000 in
set_option maxRecDepth 100000 in
theorem walk (s0 : Int) (A0 : Option Addr) (n0 c0 : Nat) (xs0 : List Int) (E0 : Int) (s1 : Int) (A1 : Option Addr) (n1 c1 : Nat) (xs1 : List Int) (E1 : Int) (k : Int) (w : World) (hr0 : Rd w w.heap.size A0 (vi xs0)) (hl0 : xs0.length = n0 ∧ (n0 : Int) ≤ 9223372036854775807) (hx0 : ∀ x ∈ xs0, -9223372036854775808 ≤ x ∧ x ≤ 9223372036854775807) (hr1 : Rd w w.heap.size A1 (vi xs1)) (hl1 : xs1.length = n1 ∧ (n1 : Int) ≤ 9223372036854775807) (hx1 : ∀ x ∈ xs1, -9223372036854775808 ≤ x ∧ x ≤ 9223372036854775807) (hk : (Lit.int .i64 k).wf = true) (hT : TabZ w) :
    Calls Tryd.prog 3 #[.agg #[.int .i64 s0, .slice A0 n0 c0, .int .i64 E0], .agg #[.int .i64 s1, .slice A1 n1 c1, .int .i64 E1], .int .i64 k] w fun e w' => e = .returned (.bool true) ∧ Below w.heap.size w w' := by
  have Hn0 := Lib.hid hl0.1
  have Hm0 := Lib.hid hl0.2
  have Hr0 := Lib.hid hr0
  have Hn1 := Lib.hid hl1.1
  have Hm1 := Lib.hid hl1.2
  have Hr1 := Lib.hid hr1
  have HT := Lib.hid hT
  have Hbig0 : Hid ((1048576 : Int) < n0 ∨ ((n0 : Int) ≤ 1048576 ∧ n0 ≤ 1048576 ∧ n0 ≤ 1048580)) := Lib.hid (by have := hl0; omega)
  have Hbig1 : Hid ((1048576 : Int) < n1 ∨ ((n1 : Int) ≤ 1048576 ∧ n1 ≤ 1048576 ∧ n1 ≤ 1048580)) := Lib.hid (by have := hl1; omega)
  clear hr0 hl0 hx0 hr1 hl1 hx1 hk hT
  obtain ⟨S, hS⟩ : ∃ S, S = (qbZ s0 xs0 E0 s1 xs1 E1 k).sign := ⟨_, rfl⟩
  obtain ⟨N, hN⟩ : ∃ N, N = (limbs (qbZ s0 xs0 E0 s1 xs1 E1 k).natAbs).length := ⟨_, rfl⟩
  obtain ⟨XS, hX⟩ : ∃ XS, XS = li (limbs (qbZ s0 xs0 E0 s1 xs1 E1 k).natAbs) := ⟨_, rfl⟩
  have HS := Lib.hid hS
  have HN := Lib.hid hN
  have HX := Lib.hid hX
  have HXN : Hid (XS.length = N) := Lib.hid (by rw [hX, hN, li_len])
  have HN1 : Hid (N ≤ 1048576) := Lib.hid (by rw [hN]; have := qb_len s0 xs0 E0 s1 xs1 E1 k; omega)
  have HN2 : Hid (N ≤ 4194304) := Lib.hid (by have := HN1.out; omega)
  clear hS hN hX
  obtain ⟨CD, hCD⟩ : ∃ CD : Int, CD = qbE s0 xs0 E0 s1 xs1 E1 k := ⟨_, rfl⟩
  have HCD := Lib.hid hCD
  clear hCD
  obtain ⟨EX, hEX⟩ : ∃ EX : Int, EX = qbX s0 xs0 E0 s1 xs1 E1 k := ⟨_, rfl⟩
  have HEX := Lib.hid hEX
  clear hEX
  go_enter Tryd.func3, Tryd.ntmps3
  go_wp2_with fail
  obtain ⟨w0, hw0, hb1, hb2, hb4⟩ := dbox2 w s0 s1 A0 A1 n0 n1 c0 c1 E0 E1 26 26
  rw [← hw0]
  have Bel_0 := Lib.hid hb4
  have Bx0_0 := Lib.hid hb1
  have Bx1_0 := Lib.hid hb2
  have Ra0_0 : Hid (Rt w0 w.heap.size A0 (vi xs0)) := Lib.hid ⟨Hr0.out.below Bel_0.out, Bel_0.out.size⟩
  have Ra1_0 : Hid (Rt w0 w.heap.size A1 (vi xs1)) := Lib.hid ⟨Hr1.out.below Bel_0.out, Bel_0.out.size⟩
  clear hw0 hb1 hb2 hb4 Hr0 Hr1
  have Sa_0 : Hid (w.heap.size + 1 < w0.heap.size) := Lib.hid Bx1_0.out.2
  rcases Hbig0.out with hbig | ⟨hle1, hle2, hle3⟩
  · clear Hbig0
    have Hb0 := Lib.hid hbig
    clear hbig
    obtain ⟨⟨hx01, hx02, hx03⟩, hx04⟩ := Bx0_0.out
    obtain ⟨⟨hx11, hx12, hx13⟩, hx14⟩ := Bx1_0.out
    refine (szD_no s0 A0 n0 c0 E0 _ _ Hb0.out (by first | decide | (have := Hle0.out; omega)) (by first | decide | omega) Hm0.out).mono ?_
    rintro e w1 ⟨rfl, hb⟩
    have Bel_1 := Lib.hid (belNext Bel_0.out hb)
    have Sz_1 : Hid (w0.heap.size ≤ w1.heap.size) := Lib.hid hb.size
    have Bx0_1 := Lib.hid (Bx0_0.out.next hb)
    have Bx1_1 := Lib.hid (Bx1_0.out.next hb)
    have Ra0_1 := Lib.hid (Ra0_0.out.next hb)
    have Ra1_1 := Lib.hid (Ra1_0.out.next hb)
    clear hb Bel_0 Bx0_0 Bx1_0 Ra0_0 Ra1_0 hx01 hx02 hx03 hx04 hx11 hx12 hx13 hx14
    go_wp2_with fail
    go_ret
    exact ⟨rfl, Bel_1.out⟩
  · clear Hbig0
    have Hl0 := Lib.hid hle1
    have Hle0 := Lib.hid hle2
    have Hk0 := Lib.hid hle3
    clear hle2 hle3
    have Hs0 : Hid ((n0 : Int) ≤ 1048576) := Lib.hid Hl0.out
    obtain ⟨⟨hx01, hx02, hx03⟩, hx04⟩ := Bx0_0.out
    obtain ⟨⟨hx11, hx12, hx13⟩, hx14⟩ := Bx1_0.out
    refine (szD_yes s0 A0 n0 c0 E0 _ _ Hs0.out (by first | decide | omega)).mono ?_
    rintro e w1 ⟨rfl, hb⟩
    have Bel_1 := Lib.hid (belNext Bel_0.out hb)
    have Sz_1 : Hid (w0.heap.size ≤ w1.heap.size) := Lib.hid hb.size
    have Bx0_1 := Lib.hid (Bx0_0.out.next hb)
    have Bx1_1 := Lib.hid (Bx1_0.out.next hb)
    have Ra0_1 := Lib.hid (Ra0_0.out.next hb)
    have Ra1_1 := Lib.hid (Ra1_0.out.next hb)
    clear hb Bel_0 Bx0_0 Bx1_0 Ra0_0 Ra1_0 hx01 hx02 hx03 hx04 hx11 hx12 hx13 hx14
    obtain ⟨⟨hx01, hx02, hx03⟩, hx04⟩ := Bx0_1.out
    obtain ⟨⟨hx11, hx12, hx13⟩, hx14⟩ := Bx1_1.out
    go_wp2_with fail
    by_cases hbig : (1048576 : Int) - n0 < n1
    · skip
      have Hb0 := Lib.hid hbig
      clear hbig
      refine (szD_no s1 A1 n1 c1 E1 _ _ Hb0.out (by first | decide | (have := Hle0.out; omega)) (by first | decide | omega) Hm1.out).mono ?_
      rintro e w2 ⟨rfl, hb⟩
      have Bel_2 := Lib.hid (belNext Bel_1.out hb)
      have Sz_2 : Hid (w1.heap.size ≤ w2.heap.size) := Lib.hid hb.size
      have Bx0_2 := Lib.hid (Bx0_1.out.next hb)
      have Bx1_2 := Lib.hid (Bx1_1.out.next hb)
      have Ra0_2 := Lib.hid (Ra0_1.out.next hb)
      have Ra1_2 := Lib.hid (Ra1_1.out.next hb)
      clear hb Bel_1 Bx0_1 Bx1_1 Ra0_1 Ra1_1 hx01 hx02 hx03 hx04 hx11 hx12 hx13 hx14
      go_wp2_with fail
      go_ret
      exact ⟨rfl, Bel_2.out⟩
    · have Hle1 : Hid (n1 ≤ 1048576) := Lib.hid (by omega)
      have Hk1 : Hid (n1 ≤ 1048580) := Lib.hid (by omega)
      have Hs1 : Hid ((n1 : Int) ≤ 1048576 - n0) := Lib.hid (by omega)
      have hle4 : (n1 : Int) ≤ 1048576 - n0 := by omega
      clear hbig Hbig1
      refine (szD_yes s1 A1 n1 c1 E1 _ _ Hs1.out (by first | decide | omega)).mono ?_
      rintro e w2 ⟨rfl, hb⟩
      have Bel_2 := Lib.hid (belNext Bel_1.out hb)
      have Sz_2 : Hid (w1.heap.size ≤ w2.heap.size) := Lib.hid hb.size
      have Bx0_2 := Lib.hid (Bx0_1.out.next hb)
      have Bx1_2 := Lib.hid (Bx1_1.out.next hb)
      have Ra0_2 := Lib.hid (Ra0_1.out.next hb)
      have Ra1_2 := Lib.hid (Ra1_1.out.next hb)
      clear hb Bel_1 Bx0_1 Bx1_1 Ra0_1 Ra1_1 hx01 hx02 hx03 hx04 hx11 hx12 hx13 hx14
      obtain ⟨⟨hx01, hx02, hx03⟩, hx04⟩ := Bx0_2.out
      obtain ⟨⟨hx11, hx12, hx13⟩, hx14⟩ := Bx1_2.out
      go_wp2_with fail
      go_cut [8, 9] from 29 to 37 (fun t1 t2 wx => ∃ (bq : Nat) (Bq : Option Addr) (dq : Nat), t1 = .pointer (some ⟨bq, 0, none⟩) ∧ t2 = .int .i64 CD ∧ DBox wx bq S Bq N dq EX ∧ Ot wx w.heap.size wx.heap.size Bq (vi XS) ∧ w2.heap.size ≤ wx.heap.size ∧ Below w.heap.size w wx ∧ DBox wx (w.heap.size) s0 A0 n0 c0 E0 ∧ DBox wx (w.heap.size + 1) s1 A1 n1 c1 E1 ∧ Rt wx w.heap.size A0 (vi xs0) ∧ Rt wx w.heap.size A1 (vi xs1))
      case first =>
        refine wp_region_held_drew (S := fun w' => (w'.cell? ⟨w.heap.size, 0, none⟩ = some (.int .i64 s0) ∧ w'.cell? ⟨w.heap.size, 1, none⟩ = some (.slice A0 n0 c0) ∧ w'.cell? ⟨w.heap.size, 2, none⟩ = some (.int .i64 E0)) ∧ (w'.cell? ⟨w.heap.size + 1, 0, none⟩ = some (.int .i64 s1) ∧ w'.cell? ⟨w.heap.size + 1, 1, none⟩ = some (.slice A1 n1 c1) ∧ w'.cell? ⟨w.heap.size + 1, 2, none⟩ = some (.int .i64 E1))) (by kernel_rfl) ⟨Bx0_2.out.1, Bx1_2.out.1⟩ (fun hHeld => ?_)
        clear hx01 hx02 hx03 hx04 hx11 hx12 hx13 hx14
        refine wpAnyH_take (i := 0) (v := ?_) rfl (by kernel_rfl) (by kernel_rfl) (by kernel_rfl) (fun _ _ _ h => h) (Or.inl ⟨by rfl, ?_⟩) (by assumption) ?_
        rotate_left
        · (intro w hSw; (try dsimp only at hSw); go_simp; (try with_reducible rfl))
        try simp only [Act.put, List.setIfInBounds_toArray, List.set_cons_zero, List.set_cons_succ]
        refine wpAnyH_take (i := 2) (v := ?_) rfl (by kernel_rfl) (by kernel_rfl) (by kernel_rfl) (fun _ _ _ h => h) (Or.inl ⟨by rfl, ?_⟩) (by assumption) ?_
        rotate_left
        · (intro w hSw; (try dsimp only at hSw); go_simp; (try with_reducible rfl))
        try simp only [Act.put, List.setIfInBounds_toArray, List.set_cons_zero, List.set_cons_succ]
        refine wpAnyH_take (i := 4) (v := ?_) rfl (by kernel_rfl) (by kernel_rfl) (by kernel_rfl) (fun _ _ _ h => h) (Or.inl ⟨by rfl, ?_⟩) (by assumption) ?_
        rotate_left
        · (intro w hSw; (try dsimp only at hSw); go_simp; (try with_reducible rfl))
        try simp only [Act.put, List.setIfInBounds_toArray, List.set_cons_zero, List.set_cons_succ]
        refine wpAnyH_ready (rs := [1, 9]) (by kernel_rfl) (by simp) ?_
        refine AllReadyH.cons rfl (fun K hK => ?_) (AllReadyH.cons rfl (fun K hK => ?_) AllReadyH.nil)
        · go_simp
          refine (toD2_any s0 A0 n0 c0 E0 xs0 w2.drew _ Ra0_2.out.1 Ra0_2.out.2 Hn0.out Hle0.out).mono ?_
          rintro e w3 ⟨Bca, dca, rfl, ho, hb0, hcp⟩
          have Cpca := Lib.hid hcp
          have hb : Below w2.heap.size w2 w3 := belDrew hb0
          have Own := Lib.hid (Ot.new ho)
          refine hK.out _ _ ⟨(Bx0_2.out.next hb).1, (Bx1_2.out.next hb).1⟩ (fun hHeld => ?_)
          clear hK K hb0 ho hcp
          have Bel_3 := Lib.hid (belNext Bel_2.out hb)
          have Sz_3 : Hid (w2.heap.size ≤ w3.heap.size) := Lib.hid hb.size
          have Bx0_3 := Lib.hid (Bx0_2.out.next hb)
          have Bx1_3 := Lib.hid (Bx1_2.out.next hb)
          have Ra0_3 := Lib.hid (Ra0_2.out.next hb)
          have Ra1_3 := Lib.hid (Ra1_2.out.next hb)
          clear hb Bel_2 Bx0_2 Bx1_2 Ra0_2 Ra1_2
          have Owca_3 := Own
          clear Own
          try simp only [Act.put, List.setIfInBounds_toArray, List.set_cons_zero, List.set_cons_succ]
          refine wpAnyH_ready (rs := [3, 9]) (by kernel_rfl) (by simp) ?_
          refine AllReadyH.cons rfl (fun K hK => ?_) (AllReadyH.cons rfl (fun K hK => ?_) AllReadyH.nil)
          · go_simp
            refine (toD2_any s1 A1 n1 c1 E1 xs1 w3 _ Ra1_3.out.1 Ra1_3.out.2 Hn1.out Hle1.out).mono ?_
            rintro e w4 ⟨Bcb, dcb, rfl, ho, hb0, hcp⟩
            have Cpcb := Lib.hid hcp
            have hb : Below w3.heap.size w3 w4 := hb0
            have Own := Lib.hid (Ot.new ho)
            refine hK.out _ _ ⟨(Bx0_3.out.next hb).1, (Bx1_3.out.next hb).1⟩ (fun hHeld => ?_)
            clear hK K hb0 ho hcp
            have Bel_4 := Lib.hid (belNext Bel_3.out hb)
            have Sz_4 : Hid (w3.heap.size ≤ w4.heap.size) := Lib.hid hb.size
            have Bx0_4 := Lib.hid (Bx0_3.out.next hb)
            have Bx1_4 := Lib.hid (Bx1_3.out.next hb)
            have Ra0_4 := Lib.hid (Ra0_3.out.next hb)
            have Ra1_4 := Lib.hid (Ra1_3.out.next hb)
            have Owca_4 := Lib.hid (Owca_3.out.next hb)
            clear hb Bel_3 Bx0_3 Bx1_3 Ra0_3 Ra1_3 Owca_3
            have Owcb_4 := Own
            clear Own
            try simp only [Act.put, List.setIfInBounds_toArray, List.set_cons_zero, List.set_cons_succ]
            refine wpAnyH_ready (rs := [5, 9]) (by kernel_rfl) (by simp) ?_
            refine AllReadyH.cons rfl (fun K hK => ?_) (AllReadyH.cons rfl (fun K hK => ?_) AllReadyH.nil)
            · go_simp
              refine (specQbW_any s0 Bca n0 dca E0 xs0 s1 Bcb n1 dcb E1 xs1 k _ Owca_4.out.rt.all Hn0.out Hk0.out Owcb_4.out.rt.all Hn1.out Hk1.out Cpca.out Cpcb.out).mono ?_
              rintro e w5 ⟨Sr, Bce, nr, dce, rfl, hv, hb0⟩
              obtain ⟨hs, hnn, ho⟩ := resFormD hv HS.out HN.out HX.out
              rw [hs, hnn, ← HEX.out, ← HCD.out]
              have hb : Below w4.heap.size w4 w5 := hb0
              have Own := Lib.hid (Ot.new ho)
              refine hK.out _ _ ⟨(Bx0_4.out.next hb).1, (Bx1_4.out.next hb).1⟩ (fun hHeld => ?_)
              clear hK K hb0 ho hv hs hnn
              have Bel_5 := Lib.hid (belNext Bel_4.out hb)
              have Sz_5 : Hid (w4.heap.size ≤ w5.heap.size) := Lib.hid hb.size
              have Bx0_5 := Lib.hid (Bx0_4.out.next hb)
              have Bx1_5 := Lib.hid (Bx1_4.out.next hb)
              have Ra0_5 := Lib.hid (Ra0_4.out.next hb)
              have Ra1_5 := Lib.hid (Ra1_4.out.next hb)
              have Owca_5 := Lib.hid (Owca_4.out.next hb)
              have Owcb_5 := Lib.hid (Owcb_4.out.next hb)
              clear hb Bel_4 Bx0_4 Bx1_4 Ra0_4 Ra1_4 Owca_4 Owcb_4
              have Owce_5 := Own
              clear Own
              try simp only [Act.put, List.setIfInBounds_toArray, List.set_cons_zero, List.set_cons_succ]
              refine wpAnyH_take (i := 6) (v := ?_) rfl (by kernel_rfl) (by kernel_rfl) (by kernel_rfl) (fun _ _ _ h => h) (Or.inl ⟨by rfl, ?_⟩) (by assumption) ?_
              rotate_left
              · (intro w hSw; (try dsimp only at hSw); go_simp; (try with_reducible rfl))
              try simp only [Act.put, List.setIfInBounds_toArray, List.set_cons_zero, List.set_cons_succ]
              refine wpAnyH_take (i := 7) (v := ?_) rfl (by kernel_rfl) (by kernel_rfl) (by kernel_rfl) (fun _ _ _ h => h) (Or.inl ⟨by rfl, ?_⟩) (by assumption) ?_
              rotate_left
              · (intro w hSw; (try dsimp only at hSw); go_simp; (try with_reducible rfl))
              try simp only [Act.put, List.setIfInBounds_toArray, List.set_cons_zero, List.set_cons_succ]
              refine wpAnyH_take (i := 8) (v := ?_) rfl (by kernel_rfl) (by kernel_rfl) (by kernel_rfl) (fun _ _ _ h => h) (Or.inl ⟨by rfl, ?_⟩) (by assumption) ?_
              rotate_left
              · (intro w hSw; (try dsimp only at hSw); go_simp; (try with_reducible rfl))
              try simp only [Act.put, List.setIfInBounds_toArray, List.set_cons_zero, List.set_cons_succ]
              refine wpAnyH_ready (rs := [9]) (by kernel_rfl) (by simp) ?_
              refine AllReadyH.cons rfl (fun K hK => ?_) AllReadyH.nil
              go_simp
              obtain ⟨w6, hw⟩ : ∃ w6, w6 = w5.alloc (.cells #[.int .i64 0, .slice none 0 0, .int .i64 0] 30) := ⟨_, rfl⟩
              have hb : Below w5.heap.size w5 w6 := by rw [hw]; exact belAlloc1 _ _
              have Sb_6 : Hid (w5.heap.size + 1 = w6.heap.size) := Lib.hid (by rw [hw]; simp)
              have Rs_6 : Hid (DRes w6 w5.heap.size) := Lib.hid (by rw [hw]; exact DRes.new _ _)
              rw [← hw]
              refine hK.out _ _ ⟨(Bx0_5.out.next hb).1, (Bx1_5.out.next hb).1⟩ (fun hHeld => ?_)
              clear hK K hw
              have Bel_6 := Lib.hid (belNext Bel_5.out hb)
              have Sz_6 : Hid (w5.heap.size ≤ w6.heap.size) := Lib.hid hb.size
              have Bx0_6 := Lib.hid (Bx0_5.out.next hb)
              have Bx1_6 := Lib.hid (Bx1_5.out.next hb)
              have Ra0_6 := Lib.hid (Ra0_5.out.next hb)
              have Ra1_6 := Lib.hid (Ra1_5.out.next hb)
              have Owca_6 := Lib.hid (Owca_5.out.next hb)
              have Owcb_6 := Lib.hid (Owcb_5.out.next hb)
              have Owce_6 := Lib.hid (Owce_5.out.next hb)
              clear hb Bel_5 Bx0_5 Bx1_5 Ra0_5 Ra1_5 Owca_5 Owcb_5 Owce_5
              try simp only [Act.put, List.setIfInBounds_toArray, List.set_cons_zero, List.set_cons_succ]
              refine wpAnyH_ready (rs := [10]) (by kernel_rfl) (by simp) ?_
              refine AllReadyH.cons rfl (fun K hK => ?_) AllReadyH.nil
              obtain ⟨⟨r0, r1, r2, r3, r4, r5⟩, r6⟩ := Rs_6.out
              go_simp
              refine hK.out _ (st3 w6 (w5.heap.size) S Bce N dce EX) ⟨(Bx0_6.out.st3_ (by have z0 := Sa_0.out; have z1 := Sz_1.out; have z2 := Sz_2.out; have z3 := Sz_3.out; have z4 := Sz_4.out; have z5 := Sz_5.out; have z6 := Sb_6.out; have z7 := Sz_6.out; (try simp only [] at *); omega)).1, (Bx1_6.out.st3_ (by have z0 := Sa_0.out; have z1 := Sz_1.out; have z2 := Sz_2.out; have z3 := Sz_3.out; have z4 := Sz_4.out; have z5 := Sz_5.out; have z6 := Sb_6.out; have z7 := Sz_6.out; (try simp only [] at *); omega)).1⟩ (fun hHeld => ?_)
              clear hK K
              try simp only [Act.put, List.setIfInBounds_toArray, List.set_cons_zero, List.set_cons_succ]
              refine wpAnyH_ready (rs := [11]) (by kernel_rfl) (by simp) ?_
              refine AllReadyH.cons rfl (fun K hK => ?_) AllReadyH.nil
              go_simp
              refine hK.out _ _ hHeld (fun hHeld => ?_)
              clear hK K hHeld
              try simp only [Act.put, List.setIfInBounds_toArray, List.set_cons_zero, List.set_cons_succ]
              refine wpAnyH_done (by kernel_rfl) ?_ _
              go_wp2_with fail
              go_meet
              exact ⟨w5.heap.size, Bce, dce, rfl, rfl, DBox.made r6 ⟨_, r0⟩ ⟨_, r1⟩ ⟨_, r2⟩, (Owce_6.out.st3_ (by have z0 := Sa_0.out; have z1 := Sz_1.out; have z2 := Sz_2.out; have z3 := Sz_3.out; have z4 := Sz_4.out; have z5 := Sz_5.out; have z6 := Sb_6.out; have z7 := Sz_6.out; (try simp only [] at *); omega)).widen (by have z0 := Sa_0.out; have z1 := Sz_1.out; have z2 := Sz_2.out; have z3 := Sz_3.out; have z4 := Sz_4.out; have z5 := Sz_5.out; have z6 := Sb_6.out; have z7 := Sz_6.out; (try simp only [] at *); omega) (by rw [st3_size]; exact Owce_6.out.2) (Nat.le_refl _), (by rw [st3_size]; exact (by have z0 := Sa_0.out; have z1 := Sz_1.out; have z2 := Sz_2.out; have z3 := Sz_3.out; have z4 := Sz_4.out; have z5 := Sz_5.out; have z6 := Sb_6.out; have z7 := Sz_6.out; (try simp only [] at *); omega)), belSt3 Bel_6.out (by have z0 := Sa_0.out; have z1 := Sz_1.out; have z2 := Sz_2.out; have z3 := Sz_3.out; have z4 := Sz_4.out; have z5 := Sz_5.out; have z6 := Sb_6.out; have z7 := Sz_6.out; (try simp only [] at *); omega), Bx0_6.out.st3_ (by have z0 := Sa_0.out; have z1 := Sz_1.out; have z2 := Sz_2.out; have z3 := Sz_3.out; have z4 := Sz_4.out; have z5 := Sz_5.out; have z6 := Sb_6.out; have z7 := Sz_6.out; (try simp only [] at *); omega), Bx1_6.out.st3_ (by have z0 := Sa_0.out; have z1 := Sz_1.out; have z2 := Sz_2.out; have z3 := Sz_3.out; have z4 := Sz_4.out; have z5 := Sz_5.out; have z6 := Sb_6.out; have z7 := Sz_6.out; (try simp only [] at *); omega), Ra0_6.out.st3_ (by have z0 := Sa_0.out; have z1 := Sz_1.out; have z2 := Sz_2.out; have z3 := Sz_3.out; have z4 := Sz_4.out; have z5 := Sz_5.out; have z6 := Sb_6.out; have z7 := Sz_6.out; (try simp only [] at *); omega), Ra1_6.out.st3_ (by have z0 := Sa_0.out; have z1 := Sz_1.out; have z2 := Sz_2.out; have z3 := Sz_3.out; have z4 := Sz_4.out; have z5 := Sz_5.out; have z6 := Sb_6.out; have z7 := Sz_6.out; (try simp only [] at *); omega)⟩
            · go_simp
              obtain ⟨w5, hw⟩ : ∃ w5, w5 = w4.alloc (.cells #[.int .i64 0, .slice none 0 0, .int .i64 0] 30) := ⟨_, rfl⟩
              have hb : Below w4.heap.size w4 w5 := by rw [hw]; exact belAlloc1 _ _
              have Sb_5 : Hid (w4.heap.size + 1 = w5.heap.size) := Lib.hid (by rw [hw]; simp)
              have Rs_5 : Hid (DRes w5 w4.heap.size) := Lib.hid (by rw [hw]; exact DRes.new _ _)
              rw [← hw]
              refine hK.out _ _ ⟨(Bx0_4.out.next hb).1, (Bx1_4.out.next hb).1⟩ (fun hHeld => ?_)
              clear hK K hw
              have Bel_5 := Lib.hid (belNext Bel_4.out hb)
              have Sz_5 : Hid (w4.heap.size ≤ w5.heap.size) := Lib.hid hb.size
              have Bx0_5 := Lib.hid (Bx0_4.out.next hb)
              have Bx1_5 := Lib.hid (Bx1_4.out.next hb)
              have Ra0_5 := Lib.hid (Ra0_4.out.next hb)
              have Ra1_5 := Lib.hid (Ra1_4.out.next hb)
              have Owca_5 := Lib.hid (Owca_4.out.next hb)
              have Owcb_5 := Lib.hid (Owcb_4.out.next hb)
              clear hb Bel_4 Bx0_4 Bx1_4 Ra0_4 Ra1_4 Owca_4 Owcb_4
              try simp only [Act.put, List.setIfInBounds_toArray, List.set_cons_zero, List.set_cons_succ]
              refine wpAnyH_ready (rs := [5]) (by kernel_rfl) (by simp) ?_
              refine AllReadyH.cons rfl (fun K hK => ?_) AllReadyH.nil
              go_simp
              refine (specQbW_any s0 Bca n0 dca E0 xs0 s1 Bcb n1 dcb E1 xs1 k _ Owca_5.out.rt.all Hn0.out Hk0.out Owcb_5.out.rt.all Hn1.out Hk1.out Cpca.out Cpcb.out).mono ?_
              rintro e w6 ⟨Sr, Bce, nr, dce, rfl, hv, hb0⟩
              obtain ⟨hs, hnn, ho⟩ := resFormD hv HS.out HN.out HX.out
              rw [hs, hnn, ← HEX.out, ← HCD.out]
              have hb : Below w5.heap.size w5 w6 := hb0
              have Own := Lib.hid (Ot.new ho)
              refine hK.out _ _ ⟨(Bx0_5.out.next hb).1, (Bx1_5.out.next hb).1⟩ (fun hHeld => ?_)
              clear hK K hb0 ho hv hs hnn
              have Bel_6 := Lib.hid (belNext Bel_5.out hb)
              have Sz_6 : Hid (w5.heap.size ≤ w6.heap.size) := Lib.hid hb.size
              have Rs_6 := Lib.hid (Rs_5.out.next hb)
              have Bx0_6 := Lib.hid (Bx0_5.out.next hb)
              have Bx1_6 := Lib.hid (Bx1_5.out.next hb)
              have Ra0_6 := Lib.hid (Ra0_5.out.next hb)
              have Ra1_6 := Lib.hid (Ra1_5.out.next hb)
              have Owca_6 := Lib.hid (Owca_5.out.next hb)
              have Owcb_6 := Lib.hid (Owcb_5.out.next hb)
              clear hb Bel_5 Bx0_5 Bx1_5 Ra0_5 Ra1_5 Owca_5 Owcb_5
              have Owce_6 := Own
              clear Own
              try simp only [Act.put, List.setIfInBounds_toArray, List.set_cons_zero, List.set_cons_succ]
              refine wpAnyH_take (i := 6) (v := ?_) rfl (by kernel_rfl) (by kernel_rfl) (by kernel_rfl) (fun _ _ _ h => h) (Or.inl ⟨by rfl, ?_⟩) (by assumption) ?_
              rotate_left
              · (intro w hSw; (try dsimp only at hSw); go_simp; (try with_reducible rfl))
              try simp only [Act.put, List.setIfInBounds_toArray, List.set_cons_zero, List.set_cons_succ]
              refine wpAnyH_take (i := 7) (v := ?_) rfl (by kernel_rfl) (by kernel_rfl) (by kernel_rfl) (fun _ _ _ h => h) (Or.inl ⟨by rfl, ?_⟩) (by assumption) ?_
              rotate_left
              · (intro w hSw; (try dsimp only at hSw); go_simp; (try with_reducible rfl))
              try simp only [Act.put, List.setIfInBounds_toArray, List.set_cons_zero, List.set_cons_succ]
              refine wpAnyH_take (i := 8) (v := ?_) rfl (by kernel_rfl) (by kernel_rfl) (by kernel_rfl) (fun _ _ _ h => h) (Or.inl ⟨by rfl, ?_⟩) (by assumption) ?_
              rotate_left
              · (intro w hSw; (try dsimp only at hSw); go_simp; (try with_reducible rfl))
              try simp only [Act.put, List.setIfInBounds_toArray, List.set_cons_zero, List.set_cons_succ]
              refine wpAnyH_ready (rs := [10]) (by kernel_rfl) (by simp) ?_
              refine AllReadyH.cons rfl (fun K hK => ?_) AllReadyH.nil
              obtain ⟨⟨r0, r1, r2, r3, r4, r5⟩, r6⟩ := Rs_6.out
              go_simp
              refine hK.out _ (st3 w6 (w4.heap.size) S Bce N dce EX) ⟨(Bx0_6.out.st3_ (by have z0 := Sa_0.out; have z1 := Sz_1.out; have z2 := Sz_2.out; have z3 := Sz_3.out; have z4 := Sz_4.out; have z5 := Sb_5.out; have z6 := Sz_5.out; have z7 := Sz_6.out; (try simp only [] at *); omega)).1, (Bx1_6.out.st3_ (by have z0 := Sa_0.out; have z1 := Sz_1.out; have z2 := Sz_2.out; have z3 := Sz_3.out; have z4 := Sz_4.out; have z5 := Sb_5.out; have z6 := Sz_5.out; have z7 := Sz_6.out; (try simp only [] at *); omega)).1⟩ (fun hHeld => ?_)
              clear hK K
              try simp only [Act.put, List.setIfInBounds_toArray, List.set_cons_zero, List.set_cons_succ]
              refine wpAnyH_ready (rs := [11]) (by kernel_rfl) (by simp) ?_
              refine AllReadyH.cons rfl (fun K hK => ?_) AllReadyH.nil
              go_simp
              refine hK.out _ _ hHeld (fun hHeld => ?_)
              clear hK K hHeld
              try simp only [Act.put, List.setIfInBounds_toArray, List.set_cons_zero, List.set_cons_succ]
              refine wpAnyH_done (by kernel_rfl) ?_ _
              go_wp2_with fail
              go_meet
              exact ⟨w4.heap.size, Bce, dce, rfl, rfl, DBox.made r6 ⟨_, r0⟩ ⟨_, r1⟩ ⟨_, r2⟩, (Owce_6.out.st3_ (by have z0 := Sa_0.out; have z1 := Sz_1.out; have z2 := Sz_2.out; have z3 := Sz_3.out; have z4 := Sz_4.out; have z5 := Sb_5.out; have z6 := Sz_5.out; have z7 := Sz_6.out; (try simp only [] at *); omega)).widen (by have z0 := Sa_0.out; have z1 := Sz_1.out; have z2 := Sz_2.out; have z3 := Sz_3.out; have z4 := Sz_4.out; have z5 := Sb_5.out; have z6 := Sz_5.out; have z7 := Sz_6.out; (try simp only [] at *); omega) (by rw [st3_size]; exact Owce_6.out.2) (Nat.le_refl _), (by rw [st3_size]; exact (by have z0 := Sa_0.out; have z1 := Sz_1.out; have z2 := Sz_2.out; have z3 := Sz_3.out; have z4 := Sz_4.out; have z5 := Sb_5.out; have z6 := Sz_5.out; have z7 := Sz_6.out; (try simp only [] at *); omega)), belSt3 Bel_6.out (by have z0 := Sa_0.out; have z1 := Sz_1.out; have z2 := Sz_2.out; have z3 := Sz_3.out; have z4 := Sz_4.out; have z5 := Sb_5.out; have z6 := Sz_5.out; have z7 := Sz_6.out; (try simp only [] at *); omega), Bx0_6.out.st3_ (by have z0 := Sa_0.out; have z1 := Sz_1.out; have z2 := Sz_2.out; have z3 := Sz_3.out; have z4 := Sz_4.out; have z5 := Sb_5.out; have z6 := Sz_5.out; have z7 := Sz_6.out; (try simp only [] at *); omega), Bx1_6.out.st3_ (by have z0 := Sa_0.out; have z1 := Sz_1.out; have z2 := Sz_2.out; have z3 := Sz_3.out; have z4 := Sz_4.out; have z5 := Sb_5.out; have z6 := Sz_5.out; have z7 := Sz_6.out; (try simp only [] at *); omega), Ra0_6.out.st3_ (by have z0 := Sa_0.out; have z1 := Sz_1.out; have z2 := Sz_2.out; have z3 := Sz_3.out; have z4 := Sz_4.out; have z5 := Sb_5.out; have z6 := Sz_5.out; have z7 := Sz_6.out; (try simp only [] at *); omega), Ra1_6.out.st3_ (by have z0 := Sa_0.out; have z1 := Sz_1.out; have z2 := Sz_2.out; have z3 := Sz_3.out; have z4 := Sz_4.out; have z5 := Sb_5.out; have z6 := Sz_5.out; have z7 := Sz_6.out; (try simp only [] at *); omega)⟩
          · go_simp
            obtain ⟨w4, hw⟩ : ∃ w4, w4 = w3.alloc (.cells #[.int .i64 0, .slice none 0 0, .int .i64 0] 30) := ⟨_, rfl⟩
            have hb : Below w3.heap.size w3 w4 := by rw [hw]; exact belAlloc1 _ _
            have Sb_4 : Hid (w3.heap.size + 1 = w4.heap.size) := Lib.hid (by rw [hw]; simp)
            have Rs_4 : Hid (DRes w4 w3.heap.size) := Lib.hid (by rw [hw]; exact DRes.new _ _)
            rw [← hw]
            refine hK.out _ _ ⟨(Bx0_3.out.next hb).1, (Bx1_3.out.next hb).1⟩ (fun hHeld => ?_)
            clear hK K hw
            have Bel_4 := Lib.hid (belNext Bel_3.out hb)
            have Sz_4 : Hid (w3.heap.size ≤ w4.heap.size) := Lib.hid hb.size
            have Bx0_4 := Lib.hid (Bx0_3.out.next hb)
            have Bx1_4 := Lib.hid (Bx1_3.out.next hb)
            have Ra0_4 := Lib.hid (Ra0_3.out.next hb)
            have Ra1_4 := Lib.hid (Ra1_3.out.next hb)
            have Owca_4 := Lib.hid (Owca_3.out.next hb)
            clear hb Bel_3 Bx0_3 Bx1_3 Ra0_3 Ra1_3 Owca_3
            try simp only [Act.put, List.setIfInBounds_toArray, List.set_cons_zero, List.set_cons_succ]
            refine wpAnyH_ready (rs := [3]) (by kernel_rfl) (by simp) ?_
            refine AllReadyH.cons rfl (fun K hK => ?_) AllReadyH.nil
            go_simp
            refine (toD2_any s1 A1 n1 c1 E1 xs1 w4 _ Ra1_4.out.1 Ra1_4.out.2 Hn1.out Hle1.out).mono ?_
            rintro e w5 ⟨Bcb, dcb, rfl, ho, hb0, hcp⟩
            have Cpcb := Lib.hid hcp
            have hb : Below w4.heap.size w4 w5 := hb0
            have Own := Lib.hid (Ot.new ho)
            refine hK.out _ _ ⟨(Bx0_4.out.next hb).1, (Bx1_4.out.next hb).1⟩ (fun hHeld => ?_)
            clear hK K hb0 ho hcp
            have Bel_5 := Lib.hid (belNext Bel_4.out hb)
            have Sz_5 : Hid (w4.heap.size ≤ w5.heap.size) := Lib.hid hb.size
            have Rs_5 := Lib.hid (Rs_4.out.next hb)
            have Bx0_5 := Lib.hid (Bx0_4.out.next hb)
            have Bx1_5 := Lib.hid (Bx1_4.out.next hb)
            have Ra0_5 := Lib.hid (Ra0_4.out.next hb)
            have Ra1_5 := Lib.hid (Ra1_4.out.next hb)
            have Owca_5 := Lib.hid (Owca_4.out.next hb)
            clear hb Bel_4 Bx0_4 Bx1_4 Ra0_4 Ra1_4 Owca_4
            have Owcb_5 := Own
            clear Own
            try simp only [Act.put, List.setIfInBounds_toArray, List.set_cons_zero, List.set_cons_succ]
            refine wpAnyH_ready (rs := [5]) (by kernel_rfl) (by simp) ?_
            refine AllReadyH.cons rfl (fun K hK => ?_) AllReadyH.nil
            go_simp
            refine (specQbW_any s0 Bca n0 dca E0 xs0 s1 Bcb n1 dcb E1 xs1 k _ Owca_5.out.rt.all Hn0.out Hk0.out Owcb_5.out.rt.all Hn1.out Hk1.out Cpca.out Cpcb.out).mono ?_
            rintro e w6 ⟨Sr, Bce, nr, dce, rfl, hv, hb0⟩
            obtain ⟨hs, hnn, ho⟩ := resFormD hv HS.out HN.out HX.out
            rw [hs, hnn, ← HEX.out, ← HCD.out]
            have hb : Below w5.heap.size w5 w6 := hb0
            have Own := Lib.hid (Ot.new ho)
            refine hK.out _ _ ⟨(Bx0_5.out.next hb).1, (Bx1_5.out.next hb).1⟩ (fun hHeld => ?_)
            clear hK K hb0 ho hv hs hnn
            have Bel_6 := Lib.hid (belNext Bel_5.out hb)
            have Sz_6 : Hid (w5.heap.size ≤ w6.heap.size) := Lib.hid hb.size
            have Rs_6 := Lib.hid (Rs_5.out.next hb)
            have Bx0_6 := Lib.hid (Bx0_5.out.next hb)
            have Bx1_6 := Lib.hid (Bx1_5.out.next hb)
            have Ra0_6 := Lib.hid (Ra0_5.out.next hb)
            have Ra1_6 := Lib.hid (Ra1_5.out.next hb)
            have Owca_6 := Lib.hid (Owca_5.out.next hb)
            have Owcb_6 := Lib.hid (Owcb_5.out.next hb)
            clear hb Bel_5 Bx0_5 Bx1_5 Ra0_5 Ra1_5 Owca_5 Owcb_5
            have Owce_6 := Own
            clear Own
            try simp only [Act.put, List.setIfInBounds_toArray, List.set_cons_zero, List.set_cons_succ]
            refine wpAnyH_take (i := 6) (v := ?_) rfl (by kernel_rfl) (by kernel_rfl) (by kernel_rfl) (fun _ _ _ h => h) (Or.inl ⟨by rfl, ?_⟩) (by assumption) ?_
            rotate_left
            · (intro w hSw; (try dsimp only at hSw); go_simp; (try with_reducible rfl))
            try simp only [Act.put, List.setIfInBounds_toArray, List.set_cons_zero, List.set_cons_succ]
            refine wpAnyH_take (i := 7) (v := ?_) rfl (by kernel_rfl) (by kernel_rfl) (by kernel_rfl) (fun _ _ _ h => h) (Or.inl ⟨by rfl, ?_⟩) (by assumption) ?_
            rotate_left
            · (intro w hSw; (try dsimp only at hSw); go_simp; (try with_reducible rfl))
            try simp only [Act.put, List.setIfInBounds_toArray, List.set_cons_zero, List.set_cons_succ]
            refine wpAnyH_take (i := 8) (v := ?_) rfl (by kernel_rfl) (by kernel_rfl) (by kernel_rfl) (fun _ _ _ h => h) (Or.inl ⟨by rfl, ?_⟩) (by assumption) ?_
            rotate_left
            · (intro w hSw; (try dsimp only at hSw); go_simp; (try with_reducible rfl))
            try simp only [Act.put, List.setIfInBounds_toArray, List.set_cons_zero, List.set_cons_succ]
            refine wpAnyH_ready (rs := [10]) (by kernel_rfl) (by simp) ?_
            refine AllReadyH.cons rfl (fun K hK => ?_) AllReadyH.nil
            obtain ⟨⟨r0, r1, r2, r3, r4, r5⟩, r6⟩ := Rs_6.out
            go_simp
            refine hK.out _ (st3 w6 (w3.heap.size) S Bce N dce EX) ⟨(Bx0_6.out.st3_ (by have z0 := Sa_0.out; have z1 := Sz_1.out; have z2 := Sz_2.out; have z3 := Sz_3.out; have z4 := Sb_4.out; have z5 := Sz_4.out; have z6 := Sz_5.out; have z7 := Sz_6.out; (try simp only [] at *); omega)).1, (Bx1_6.out.st3_ (by have z0 := Sa_0.out; have z1 := Sz_1.out; have z2 := Sz_2.out; have z3 := Sz_3.out; have z4 := Sb_4.out; have z5 := Sz_4.out; have z6 := Sz_5.out; have z7 := Sz_6.out; (try simp only [] at *); omega)).1⟩ (fun hHeld => ?_)
            clear hK K
            try simp only [Act.put, List.setIfInBounds_toArray, List.set_cons_zero, List.set_cons_succ]
            refine wpAnyH_ready (rs := [11]) (by kernel_rfl) (by simp) ?_
            refine AllReadyH.cons rfl (fun K hK => ?_) AllReadyH.nil
            go_simp
            refine hK.out _ _ hHeld (fun hHeld => ?_)
            clear hK K hHeld
            try simp only [Act.put, List.setIfInBounds_toArray, List.set_cons_zero, List.set_cons_succ]
            refine wpAnyH_done (by kernel_rfl) ?_ _
            go_wp2_with fail
            go_meet
            exact ⟨w3.heap.size, Bce, dce, rfl, rfl, DBox.made r6 ⟨_, r0⟩ ⟨_, r1⟩ ⟨_, r2⟩, (Owce_6.out.st3_ (by have z0 := Sa_0.out; have z1 := Sz_1.out; have z2 := Sz_2.out; have z3 := Sz_3.out; have z4 := Sb_4.out; have z5 := Sz_4.out; have z6 := Sz_5.out; have z7 := Sz_6.out; (try simp only [] at *); omega)).widen (by have z0 := Sa_0.out; have z1 := Sz_1.out; have z2 := Sz_2.out; have z3 := Sz_3.out; have z4 := Sb_4.out; have z5 := Sz_4.out; have z6 := Sz_5.out; have z7 := Sz_6.out; (try simp only [] at *); omega) (by rw [st3_size]; exact Owce_6.out.2) (Nat.le_refl _), (by rw [st3_size]; exact (by have z0 := Sa_0.out; have z1 := Sz_1.out; have z2 := Sz_2.out; have z3 := Sz_3.out; have z4 := Sb_4.out; have z5 := Sz_4.out; have z6 := Sz_5.out; have z7 := Sz_6.out; (try simp only [] at *); omega)), belSt3 Bel_6.out (by have z0 := Sa_0.out; have z1 := Sz_1.out; have z2 := Sz_2.out; have z3 := Sz_3.out; have z4 := Sb_4.out; have z5 := Sz_4.out; have z6 := Sz_5.out; have z7 := Sz_6.out; (try simp only [] at *); omega), Bx0_6.out.st3_ (by have z0 := Sa_0.out; have z1 := Sz_1.out; have z2 := Sz_2.out; have z3 := Sz_3.out; have z4 := Sb_4.out; have z5 := Sz_4.out; have z6 := Sz_5.out; have z7 := Sz_6.out; (try simp only [] at *); omega), Bx1_6.out.st3_ (by have z0 := Sa_0.out; have z1 := Sz_1.out; have z2 := Sz_2.out; have z3 := Sz_3.out; have z4 := Sb_4.out; have z5 := Sz_4.out; have z6 := Sz_5.out; have z7 := Sz_6.out; (try simp only [] at *); omega), Ra0_6.out.st3_ (by have z0 := Sa_0.out; have z1 := Sz_1.out; have z2 := Sz_2.out; have z3 := Sz_3.out; have z4 := Sb_4.out; have z5 := Sz_4.out; have z6 := Sz_5.out; have z7 := Sz_6.out; (try simp only [] at *); omega), Ra1_6.out.st3_ (by have z0 := Sa_0.out; have z1 := Sz_1.out; have z2 := Sz_2.out; have z3 := Sz_3.out; have z4 := Sb_4.out; have z5 := Sz_4.out; have z6 := Sz_5.out; have z7 := Sz_6.out; (try simp only [] at *); omega)⟩
        · go_simp
          obtain ⟨w3, hw⟩ : ∃ w3, w3 = (w2.alloc (.cells #[.int .i64 0, .slice none 0 0, .int .i64 0] 30)).drew := ⟨_, rfl⟩
          have hb : Below w2.heap.size w2 w3 := by rw [hw]; exact (belAlloc1 _ _).drew
          have Sb_3 : Hid (w2.heap.size + 1 = w3.heap.size) := Lib.hid (by rw [hw]; simp)
          have Rs_3 : Hid (DRes w3 w2.heap.size) := Lib.hid (by rw [hw]; exact (DRes.new w2 _).drew)
          rw [← hw]
          refine hK.out _ _ ⟨(Bx0_2.out.next hb).1, (Bx1_2.out.next hb).1⟩ (fun hHeld => ?_)
          clear hK K hw
          have Bel_3 := Lib.hid (belNext Bel_2.out hb)
          have Sz_3 : Hid (w2.heap.size ≤ w3.heap.size) := Lib.hid hb.size
          have Bx0_3 := Lib.hid (Bx0_2.out.next hb)
          have Bx1_3 := Lib.hid (Bx1_2.out.next hb)
          have Ra0_3 := Lib.hid (Ra0_2.out.next hb)
          have Ra1_3 := Lib.hid (Ra1_2.out.next hb)
          clear hb Bel_2 Bx0_2 Bx1_2 Ra0_2 Ra1_2
          try simp only [Act.put, List.setIfInBounds_toArray, List.set_cons_zero, List.set_cons_succ]
          refine wpAnyH_ready (rs := [1]) (by kernel_rfl) (by simp) ?_
          refine AllReadyH.cons rfl (fun K hK => ?_) AllReadyH.nil
          go_simp
          refine (toD2_any s0 A0 n0 c0 E0 xs0 w3 _ Ra0_3.out.1 Ra0_3.out.2 Hn0.out Hle0.out).mono ?_
          rintro e w4 ⟨Bca, dca, rfl, ho, hb0, hcp⟩
          have Cpca := Lib.hid hcp
          have hb : Below w3.heap.size w3 w4 := hb0
          have Own := Lib.hid (Ot.new ho)
          refine hK.out _ _ ⟨(Bx0_3.out.next hb).1, (Bx1_3.out.next hb).1⟩ (fun hHeld => ?_)
          clear hK K hb0 ho hcp
          have Bel_4 := Lib.hid (belNext Bel_3.out hb)
          have Sz_4 : Hid (w3.heap.size ≤ w4.heap.size) := Lib.hid hb.size
          have Rs_4 := Lib.hid (Rs_3.out.next hb)
          have Bx0_4 := Lib.hid (Bx0_3.out.next hb)
          have Bx1_4 := Lib.hid (Bx1_3.out.next hb)
          have Ra0_4 := Lib.hid (Ra0_3.out.next hb)
          have Ra1_4 := Lib.hid (Ra1_3.out.next hb)
          clear hb Bel_3 Bx0_3 Bx1_3 Ra0_3 Ra1_3
          have Owca_4 := Own
          clear Own
          try simp only [Act.put, List.setIfInBounds_toArray, List.set_cons_zero, List.set_cons_succ]
          refine wpAnyH_ready (rs := [3]) (by kernel_rfl) (by simp) ?_
          refine AllReadyH.cons rfl (fun K hK => ?_) AllReadyH.nil
          go_simp
          refine (toD2_any s1 A1 n1 c1 E1 xs1 w4 _ Ra1_4.out.1 Ra1_4.out.2 Hn1.out Hle1.out).mono ?_
          rintro e w5 ⟨Bcb, dcb, rfl, ho, hb0, hcp⟩
          have Cpcb := Lib.hid hcp
          have hb : Below w4.heap.size w4 w5 := hb0
          have Own := Lib.hid (Ot.new ho)
          refine hK.out _ _ ⟨(Bx0_4.out.next hb).1, (Bx1_4.out.next hb).1⟩ (fun hHeld => ?_)
          clear hK K hb0 ho hcp
          have Bel_5 := Lib.hid (belNext Bel_4.out hb)
          have Sz_5 : Hid (w4.heap.size ≤ w5.heap.size) := Lib.hid hb.size
          have Rs_5 := Lib.hid (Rs_4.out.next hb)
          have Bx0_5 := Lib.hid (Bx0_4.out.next hb)
          have Bx1_5 := Lib.hid (Bx1_4.out.next hb)
          have Ra0_5 := Lib.hid (Ra0_4.out.next hb)
          have Ra1_5 := Lib.hid (Ra1_4.out.next hb)
          have Owca_5 := Lib.hid (Owca_4.out.next hb)
          clear hb Bel_4 Bx0_4 Bx1_4 Ra0_4 Ra1_4 Owca_4
          have Owcb_5 := Own
          clear Own
          try simp only [Act.put, List.setIfInBounds_toArray, List.set_cons_zero, List.set_cons_succ]
          refine wpAnyH_ready (rs := [5]) (by kernel_rfl) (by simp) ?_
          refine AllReadyH.cons rfl (fun K hK => ?_) AllReadyH.nil
          go_simp
          refine (specQbW_any s0 Bca n0 dca E0 xs0 s1 Bcb n1 dcb E1 xs1 k _ Owca_5.out.rt.all Hn0.out Hk0.out Owcb_5.out.rt.all Hn1.out Hk1.out Cpca.out Cpcb.out).mono ?_
          rintro e w6 ⟨Sr, Bce, nr, dce, rfl, hv, hb0⟩
          obtain ⟨hs, hnn, ho⟩ := resFormD hv HS.out HN.out HX.out
          rw [hs, hnn, ← HEX.out, ← HCD.out]
          have hb : Below w5.heap.size w5 w6 := hb0
          have Own := Lib.hid (Ot.new ho)
          refine hK.out _ _ ⟨(Bx0_5.out.next hb).1, (Bx1_5.out.next hb).1⟩ (fun hHeld => ?_)
          clear hK K hb0 ho hv hs hnn
          have Bel_6 := Lib.hid (belNext Bel_5.out hb)
          have Sz_6 : Hid (w5.heap.size ≤ w6.heap.size) := Lib.hid hb.size
          have Rs_6 := Lib.hid (Rs_5.out.next hb)
          have Bx0_6 := Lib.hid (Bx0_5.out.next hb)
          have Bx1_6 := Lib.hid (Bx1_5.out.next hb)
          have Ra0_6 := Lib.hid (Ra0_5.out.next hb)
          have Ra1_6 := Lib.hid (Ra1_5.out.next hb)
          have Owca_6 := Lib.hid (Owca_5.out.next hb)
          have Owcb_6 := Lib.hid (Owcb_5.out.next hb)
          clear hb Bel_5 Bx0_5 Bx1_5 Ra0_5 Ra1_5 Owca_5 Owcb_5
          have Owce_6 := Own
          clear Own
          try simp only [Act.put, List.setIfInBounds_toArray, List.set_cons_zero, List.set_cons_succ]
          refine wpAnyH_take (i := 6) (v := ?_) rfl (by kernel_rfl) (by kernel_rfl) (by kernel_rfl) (fun _ _ _ h => h) (Or.inl ⟨by rfl, ?_⟩) (by assumption) ?_
          rotate_left
          · (intro w hSw; (try dsimp only at hSw); go_simp; (try with_reducible rfl))
          try simp only [Act.put, List.setIfInBounds_toArray, List.set_cons_zero, List.set_cons_succ]
          refine wpAnyH_take (i := 7) (v := ?_) rfl (by kernel_rfl) (by kernel_rfl) (by kernel_rfl) (fun _ _ _ h => h) (Or.inl ⟨by rfl, ?_⟩) (by assumption) ?_
          rotate_left
          · (intro w hSw; (try dsimp only at hSw); go_simp; (try with_reducible rfl))
          try simp only [Act.put, List.setIfInBounds_toArray, List.set_cons_zero, List.set_cons_succ]
          refine wpAnyH_take (i := 8) (v := ?_) rfl (by kernel_rfl) (by kernel_rfl) (by kernel_rfl) (fun _ _ _ h => h) (Or.inl ⟨by rfl, ?_⟩) (by assumption) ?_
          rotate_left
          · (intro w hSw; (try dsimp only at hSw); go_simp; (try with_reducible rfl))
          try simp only [Act.put, List.setIfInBounds_toArray, List.set_cons_zero, List.set_cons_succ]
          refine wpAnyH_ready (rs := [10]) (by kernel_rfl) (by simp) ?_
          refine AllReadyH.cons rfl (fun K hK => ?_) AllReadyH.nil
          obtain ⟨⟨r0, r1, r2, r3, r4, r5⟩, r6⟩ := Rs_6.out
          go_simp
          refine hK.out _ (st3 w6 (w2.heap.size) S Bce N dce EX) ⟨(Bx0_6.out.st3_ (by have z0 := Sa_0.out; have z1 := Sz_1.out; have z2 := Sz_2.out; have z3 := Sb_3.out; have z4 := Sz_3.out; have z5 := Sz_4.out; have z6 := Sz_5.out; have z7 := Sz_6.out; (try simp only [] at *); omega)).1, (Bx1_6.out.st3_ (by have z0 := Sa_0.out; have z1 := Sz_1.out; have z2 := Sz_2.out; have z3 := Sb_3.out; have z4 := Sz_3.out; have z5 := Sz_4.out; have z6 := Sz_5.out; have z7 := Sz_6.out; (try simp only [] at *); omega)).1⟩ (fun hHeld => ?_)
          clear hK K
          try simp only [Act.put, List.setIfInBounds_toArray, List.set_cons_zero, List.set_cons_succ]
          refine wpAnyH_ready (rs := [11]) (by kernel_rfl) (by simp) ?_
          refine AllReadyH.cons rfl (fun K hK => ?_) AllReadyH.nil
          go_simp
          refine hK.out _ _ hHeld (fun hHeld => ?_)
          clear hK K hHeld
          try simp only [Act.put, List.setIfInBounds_toArray, List.set_cons_zero, List.set_cons_succ]
          refine wpAnyH_done (by kernel_rfl) ?_ _
          go_wp2_with fail
          go_meet
          exact ⟨w2.heap.size, Bce, dce, rfl, rfl, DBox.made r6 ⟨_, r0⟩ ⟨_, r1⟩ ⟨_, r2⟩, (Owce_6.out.st3_ (by have z0 := Sa_0.out; have z1 := Sz_1.out; have z2 := Sz_2.out; have z3 := Sb_3.out; have z4 := Sz_3.out; have z5 := Sz_4.out; have z6 := Sz_5.out; have z7 := Sz_6.out; (try simp only [] at *); omega)).widen (by have z0 := Sa_0.out; have z1 := Sz_1.out; have z2 := Sz_2.out; have z3 := Sb_3.out; have z4 := Sz_3.out; have z5 := Sz_4.out; have z6 := Sz_5.out; have z7 := Sz_6.out; (try simp only [] at *); omega) (by rw [st3_size]; exact Owce_6.out.2) (Nat.le_refl _), (by rw [st3_size]; exact (by have z0 := Sa_0.out; have z1 := Sz_1.out; have z2 := Sz_2.out; have z3 := Sb_3.out; have z4 := Sz_3.out; have z5 := Sz_4.out; have z6 := Sz_5.out; have z7 := Sz_6.out; (try simp only [] at *); omega)), belSt3 Bel_6.out (by have z0 := Sa_0.out; have z1 := Sz_1.out; have z2 := Sz_2.out; have z3 := Sb_3.out; have z4 := Sz_3.out; have z5 := Sz_4.out; have z6 := Sz_5.out; have z7 := Sz_6.out; (try simp only [] at *); omega), Bx0_6.out.st3_ (by have z0 := Sa_0.out; have z1 := Sz_1.out; have z2 := Sz_2.out; have z3 := Sb_3.out; have z4 := Sz_3.out; have z5 := Sz_4.out; have z6 := Sz_5.out; have z7 := Sz_6.out; (try simp only [] at *); omega), Bx1_6.out.st3_ (by have z0 := Sa_0.out; have z1 := Sz_1.out; have z2 := Sz_2.out; have z3 := Sb_3.out; have z4 := Sz_3.out; have z5 := Sz_4.out; have z6 := Sz_5.out; have z7 := Sz_6.out; (try simp only [] at *); omega), Ra0_6.out.st3_ (by have z0 := Sa_0.out; have z1 := Sz_1.out; have z2 := Sz_2.out; have z3 := Sb_3.out; have z4 := Sz_3.out; have z5 := Sz_4.out; have z6 := Sz_5.out; have z7 := Sz_6.out; (try simp only [] at *); omega), Ra1_6.out.st3_ (by have z0 := Sa_0.out; have z1 := Sz_1.out; have z2 := Sz_2.out; have z3 := Sb_3.out; have z4 := Sz_3.out; have z5 := Sz_4.out; have z6 := Sz_5.out; have z7 := Sz_6.out; (try simp only [] at *); omega)⟩
      case rest =>
        obtain ⟨w3, hwc⟩ : ∃ w3, w3 = wc := ⟨_, rfl⟩
        rw [← hwc] at hcut ⊢
        clear hwc
        obtain ⟨be, Be, de, rfl, rfl, hbx, hot, hsz, hBel_3, hBx0_3, hBx1_3, hRa0_3, hRa1_3⟩ := hcut
        have Bel_3 := Lib.hid hBel_3
        have Bx0_3 := Lib.hid hBx0_3
        have Bx1_3 := Lib.hid hBx1_3
        have Ra0_3 := Lib.hid hRa0_3
        have Ra1_3 := Lib.hid hRa1_3
        have Bxe_3 := Lib.hid hbx
        have Owe_3 := Lib.hid hot
        have Sz_3 := Lib.hid hsz
        have Sq_3 : Hid (be < w3.heap.size) := Lib.hid hbx.2
        clear hbx hot hsz hBel_3 hBx0_3 hBx1_3 hRa0_3 hRa1_3 Bel_2 Bx0_2 Bx1_2 Ra0_2 Ra1_2 hx01 hx02 hx03 hx04 hx11 hx12 hx13 hx14
        obtain ⟨⟨hx01, hx02, hx03⟩, hx04⟩ := Bx0_3.out
        obtain ⟨⟨hx11, hx12, hx13⟩, hx14⟩ := Bx1_3.out
        obtain ⟨⟨hxe1, hxe2, hxe3⟩, hxe4⟩ := Bxe_3.out
        go_wp2_with fail
        refine (toD2_any s0 A0 n0 c0 E0 xs0 _ _ Ra0_3.out.1 Ra0_3.out.2 Hn0.out Hle0.out).mono ?_
        rintro e w4 ⟨Bx, dx, rfl, ho, hb, hcp⟩
        have Own := Lib.hid (Ot.new ho)
        have Cpx := Lib.hid hcp
        clear ho hcp
        have Bel_4 := Lib.hid (belNext Bel_3.out hb)
        have Sz_4 : Hid (w3.heap.size ≤ w4.heap.size) := Lib.hid hb.size
        have Bx0_4 := Lib.hid (Bx0_3.out.next hb)
        have Bx1_4 := Lib.hid (Bx1_3.out.next hb)
        have Bxe_4 := Lib.hid (Bxe_3.out.next hb)
        have Ra0_4 := Lib.hid (Ra0_3.out.next hb)
        have Ra1_4 := Lib.hid (Ra1_3.out.next hb)
        have Owe_4 := Lib.hid (Owe_3.out.next hb)
        clear hb Bel_3 Bx0_3 Bx1_3 Bxe_3 Ra0_3 Ra1_3 Owe_3 hx01 hx02 hx03 hx04 hx11 hx12 hx13 hx14 hxe1 hxe2 hxe3 hxe4
        obtain ⟨⟨hx01, hx02, hx03⟩, hx04⟩ := Bx0_4.out
        obtain ⟨⟨hx11, hx12, hx13⟩, hx14⟩ := Bx1_4.out
        obtain ⟨⟨hxe1, hxe2, hxe3⟩, hxe4⟩ := Bxe_4.out
        have Owx_4 := Own
        clear Own
        go_wp2_with fail
        obtain ⟨w5, hw⟩ : ∃ w5, w5 = w4.alloc (.cells #[.int .i64 s0, .slice Bx n0 dx, .int .i64 E0] 30) := ⟨_, rfl⟩
        rw [← hw]
        have hb : Below w4.heap.size w4 w5 := by rw [hw]; exact belAlloc1 _ _
        have Bnew : Hid (DBox w5 w4.heap.size s0 Bx n0 dx E0) := Lib.hid (by rw [hw]; exact DBox.new _ _ _ _ _ _ _)
        have Sb_5 : Hid (w4.heap.size + 1 = w5.heap.size) := Lib.hid (by rw [hw]; simp)
        clear hw
        have Bel_5 := Lib.hid (belNext Bel_4.out hb)
        have Sz_5 : Hid (w4.heap.size ≤ w5.heap.size) := Lib.hid hb.size
        have Bx0_5 := Lib.hid (Bx0_4.out.next hb)
        have Bx1_5 := Lib.hid (Bx1_4.out.next hb)
        have Bxe_5 := Lib.hid (Bxe_4.out.next hb)
        have Ra0_5 := Lib.hid (Ra0_4.out.next hb)
        have Ra1_5 := Lib.hid (Ra1_4.out.next hb)
        have Owe_5 := Lib.hid (Owe_4.out.next hb)
        have Owx_5 := Lib.hid (Owx_4.out.next hb)
        clear hb Bel_4 Bx0_4 Bx1_4 Bxe_4 Ra0_4 Ra1_4 Owe_4 Owx_4 hx01 hx02 hx03 hx04 hx11 hx12 hx13 hx14 hxe1 hxe2 hxe3 hxe4
        have Bxx_5 := Bnew
        clear Bnew
        obtain ⟨⟨hx01, hx02, hx03⟩, hx04⟩ := Bx0_5.out
        obtain ⟨⟨hx11, hx12, hx13⟩, hx14⟩ := Bx1_5.out
        obtain ⟨⟨hxe1, hxe2, hxe3⟩, hxe4⟩ := Bxe_5.out
        obtain ⟨⟨hxx1, hxx2, hxx3⟩, hxx4⟩ := Bxx_5.out
        refine (toD2_any s1 A1 n1 c1 E1 xs1 _ _ Ra1_5.out.1 Ra1_5.out.2 Hn1.out Hle1.out).mono ?_
        rintro e w6 ⟨By, dy, rfl, ho, hb, hcp⟩
        have Own := Lib.hid (Ot.new ho)
        have Cpy := Lib.hid hcp
        clear ho hcp
        have Bel_6 := Lib.hid (belNext Bel_5.out hb)
        have Sz_6 : Hid (w5.heap.size ≤ w6.heap.size) := Lib.hid hb.size
        have Bx0_6 := Lib.hid (Bx0_5.out.next hb)
        have Bx1_6 := Lib.hid (Bx1_5.out.next hb)
        have Bxe_6 := Lib.hid (Bxe_5.out.next hb)
        have Bxx_6 := Lib.hid (Bxx_5.out.next hb)
        have Ra0_6 := Lib.hid (Ra0_5.out.next hb)
        have Ra1_6 := Lib.hid (Ra1_5.out.next hb)
        have Owe_6 := Lib.hid (Owe_5.out.next hb)
        have Owx_6 := Lib.hid (Owx_5.out.next hb)
        clear hb Bel_5 Bx0_5 Bx1_5 Bxe_5 Bxx_5 Ra0_5 Ra1_5 Owe_5 Owx_5 hx01 hx02 hx03 hx04 hx11 hx12 hx13 hx14 hxe1 hxe2 hxe3 hxe4 hxx1 hxx2 hxx3 hxx4
        obtain ⟨⟨hx01, hx02, hx03⟩, hx04⟩ := Bx0_6.out
        obtain ⟨⟨hx11, hx12, hx13⟩, hx14⟩ := Bx1_6.out
        obtain ⟨⟨hxe1, hxe2, hxe3⟩, hxe4⟩ := Bxe_6.out
        obtain ⟨⟨hxx1, hxx2, hxx3⟩, hxx4⟩ := Bxx_6.out
        have Owy_6 := Own
        clear Own
        go_wp2_with fail
        obtain ⟨w7, hw⟩ : ∃ w7, w7 = w6.alloc (.cells #[.int .i64 s1, .slice By n1 dy, .int .i64 E1] 30) := ⟨_, rfl⟩
        rw [← hw]
        have hb : Below w6.heap.size w6 w7 := by rw [hw]; exact belAlloc1 _ _
        have Bnew : Hid (DBox w7 w6.heap.size s1 By n1 dy E1) := Lib.hid (by rw [hw]; exact DBox.new _ _ _ _ _ _ _)
        have Sb_7 : Hid (w6.heap.size + 1 = w7.heap.size) := Lib.hid (by rw [hw]; simp)
        clear hw
        have Bel_7 := Lib.hid (belNext Bel_6.out hb)
        have Sz_7 : Hid (w6.heap.size ≤ w7.heap.size) := Lib.hid hb.size
        have Bx0_7 := Lib.hid (Bx0_6.out.next hb)
        have Bx1_7 := Lib.hid (Bx1_6.out.next hb)
        have Bxe_7 := Lib.hid (Bxe_6.out.next hb)
        have Bxx_7 := Lib.hid (Bxx_6.out.next hb)
        have Ra0_7 := Lib.hid (Ra0_6.out.next hb)
        have Ra1_7 := Lib.hid (Ra1_6.out.next hb)
        have Owe_7 := Lib.hid (Owe_6.out.next hb)
        have Owx_7 := Lib.hid (Owx_6.out.next hb)
        have Owy_7 := Lib.hid (Owy_6.out.next hb)
        clear hb Bel_6 Bx0_6 Bx1_6 Bxe_6 Bxx_6 Ra0_6 Ra1_6 Owe_6 Owx_6 Owy_6 hx01 hx02 hx03 hx04 hx11 hx12 hx13 hx14 hxe1 hxe2 hxe3 hxe4 hxx1 hxx2 hxx3 hxx4
        have Bxy_7 := Bnew
        clear Bnew
        obtain ⟨⟨hx01, hx02, hx03⟩, hx04⟩ := Bx0_7.out
        obtain ⟨⟨hx11, hx12, hx13⟩, hx14⟩ := Bx1_7.out
        obtain ⟨⟨hxe1, hxe2, hxe3⟩, hxe4⟩ := Bxe_7.out
        obtain ⟨⟨hxx1, hxx2, hxx3⟩, hxx4⟩ := Bxx_7.out
        obtain ⟨⟨hxy1, hxy2, hxy3⟩, hxy4⟩ := Bxy_7.out
        refine (implQbW_any s0 Bx n0 dx E0 xs0 s1 By n1 dy E1 xs1 k _ Owx_7.out.rt.all Hn0.out Hk0.out Owy_7.out.rt.all Hn1.out Hk1.out Cpx.out Cpy.out (HT.out.next Bel_7.out)).mono ?_
        rintro e w8 ⟨Sr, Bg, nr, dg, rfl, hv, hb⟩
        obtain ⟨hs, hnn, ho⟩ := resFormD hv HS.out HN.out HX.out
        rw [hs, hnn, ← HEX.out, ← HCD.out]
        have Own := Lib.hid (Ot.new ho)
        clear hv ho hs hnn
        have Bel_8 := Lib.hid (belNext Bel_7.out hb)
        have Sz_8 : Hid (w7.heap.size ≤ w8.heap.size) := Lib.hid hb.size
        have Bx0_8 := Lib.hid (Bx0_7.out.next hb)
        have Bx1_8 := Lib.hid (Bx1_7.out.next hb)
        have Bxe_8 := Lib.hid (Bxe_7.out.next hb)
        have Bxx_8 := Lib.hid (Bxx_7.out.next hb)
        have Bxy_8 := Lib.hid (Bxy_7.out.next hb)
        have Ra0_8 := Lib.hid (Ra0_7.out.next hb)
        have Ra1_8 := Lib.hid (Ra1_7.out.next hb)
        have Owe_8 := Lib.hid (Owe_7.out.next hb)
        have Owx_8 := Lib.hid (Owx_7.out.next hb)
        have Owy_8 := Lib.hid (Owy_7.out.next hb)
        clear hb Bel_7 Bx0_7 Bx1_7 Bxe_7 Bxx_7 Bxy_7 Ra0_7 Ra1_7 Owe_7 Owx_7 Owy_7 hx01 hx02 hx03 hx04 hx11 hx12 hx13 hx14 hxe1 hxe2 hxe3 hxe4 hxx1 hxx2 hxx3 hxx4 hxy1 hxy2 hxy3 hxy4
        obtain ⟨⟨hx01, hx02, hx03⟩, hx04⟩ := Bx0_8.out
        obtain ⟨⟨hx11, hx12, hx13⟩, hx14⟩ := Bx1_8.out
        obtain ⟨⟨hxe1, hxe2, hxe3⟩, hxe4⟩ := Bxe_8.out
        obtain ⟨⟨hxx1, hxx2, hxx3⟩, hxx4⟩ := Bxx_8.out
        obtain ⟨⟨hxy1, hxy2, hxy3⟩, hxy4⟩ := Bxy_8.out
        have Owg_8 := Own
        clear Own
        go_wp2_with fail
        obtain ⟨w9, hw⟩ : ∃ w9, w9 = w8.alloc (.cells #[.int .i64 S, .slice Bg N dg, .int .i64 EX] 30) := ⟨_, rfl⟩
        rw [← hw]
        have hb : Below w8.heap.size w8 w9 := by rw [hw]; exact belAlloc1 _ _
        have Bnew : Hid (DBox w9 w8.heap.size S Bg N dg EX) := Lib.hid (by rw [hw]; exact DBox.new _ _ _ _ _ _ _)
        have Sb_9 : Hid (w8.heap.size + 1 = w9.heap.size) := Lib.hid (by rw [hw]; simp)
        clear hw
        have Bel_9 := Lib.hid (belNext Bel_8.out hb)
        have Sz_9 : Hid (w8.heap.size ≤ w9.heap.size) := Lib.hid hb.size
        have Bx0_9 := Lib.hid (Bx0_8.out.next hb)
        have Bx1_9 := Lib.hid (Bx1_8.out.next hb)
        have Bxe_9 := Lib.hid (Bxe_8.out.next hb)
        have Bxx_9 := Lib.hid (Bxx_8.out.next hb)
        have Bxy_9 := Lib.hid (Bxy_8.out.next hb)
        have Ra0_9 := Lib.hid (Ra0_8.out.next hb)
        have Ra1_9 := Lib.hid (Ra1_8.out.next hb)
        have Owe_9 := Lib.hid (Owe_8.out.next hb)
        have Owx_9 := Lib.hid (Owx_8.out.next hb)
        have Owy_9 := Lib.hid (Owy_8.out.next hb)
        have Owg_9 := Lib.hid (Owg_8.out.next hb)
        clear hb Bel_8 Bx0_8 Bx1_8 Bxe_8 Bxx_8 Bxy_8 Ra0_8 Ra1_8 Owe_8 Owx_8 Owy_8 Owg_8 hx01 hx02 hx03 hx04 hx11 hx12 hx13 hx14 hxe1 hxe2 hxe3 hxe4 hxx1 hxx2 hxx3 hxx4 hxy1 hxy2 hxy3 hxy4
        have Bxg_9 := Bnew
        clear Bnew
        obtain ⟨⟨hx01, hx02, hx03⟩, hx04⟩ := Bx0_9.out
        obtain ⟨⟨hx11, hx12, hx13⟩, hx14⟩ := Bx1_9.out
        obtain ⟨⟨hxe1, hxe2, hxe3⟩, hxe4⟩ := Bxe_9.out
        obtain ⟨⟨hxx1, hxx2, hxx3⟩, hxx4⟩ := Bxx_9.out
        obtain ⟨⟨hxy1, hxy2, hxy3⟩, hxy4⟩ := Bxy_9.out
        obtain ⟨⟨hxg1, hxg2, hxg3⟩, hxg4⟩ := Bxg_9.out
        go_wp2_with fail
        refine (eqD_yes S Bg Be N dg de _ _ EX XS _ Owg_9.out.rt.1 Owe_9.out.rt.1 Owg_9.out.rt.2 Owe_9.out.rt.2 HXN.out HN1.out).mono ?_
        rintro e w10 ⟨rfl, hb⟩
        have Bel_10 := Lib.hid (belNext Bel_9.out hb)
        have Sz_10 : Hid (w9.heap.size ≤ w10.heap.size) := Lib.hid hb.size
        have Bx0_10 := Lib.hid (Bx0_9.out.next hb)
        have Bx1_10 := Lib.hid (Bx1_9.out.next hb)
        have Bxe_10 := Lib.hid (Bxe_9.out.next hb)
        have Bxx_10 := Lib.hid (Bxx_9.out.next hb)
        have Bxy_10 := Lib.hid (Bxy_9.out.next hb)
        have Bxg_10 := Lib.hid (Bxg_9.out.next hb)
        have Ra0_10 := Lib.hid (Ra0_9.out.next hb)
        have Ra1_10 := Lib.hid (Ra1_9.out.next hb)
        have Owe_10 := Lib.hid (Owe_9.out.next hb)
        have Owx_10 := Lib.hid (Owx_9.out.next hb)
        have Owy_10 := Lib.hid (Owy_9.out.next hb)
        have Owg_10 := Lib.hid (Owg_9.out.next hb)
        clear hb Bel_9 Bx0_9 Bx1_9 Bxe_9 Bxx_9 Bxy_9 Bxg_9 Ra0_9 Ra1_9 Owe_9 Owx_9 Owy_9 Owg_9 hx01 hx02 hx03 hx04 hx11 hx12 hx13 hx14 hxe1 hxe2 hxe3 hxe4 hxx1 hxx2 hxx3 hxx4 hxy1 hxy2 hxy3 hxy4 hxg1 hxg2 hxg3 hxg4
        obtain ⟨⟨hx01, hx02, hx03⟩, hx04⟩ := Bx0_10.out
        obtain ⟨⟨hx11, hx12, hx13⟩, hx14⟩ := Bx1_10.out
        obtain ⟨⟨hxe1, hxe2, hxe3⟩, hxe4⟩ := Bxe_10.out
        obtain ⟨⟨hxx1, hxx2, hxx3⟩, hxx4⟩ := Bxx_10.out
        obtain ⟨⟨hxy1, hxy2, hxy3⟩, hxy4⟩ := Bxy_10.out
        obtain ⟨⟨hxg1, hxg2, hxg3⟩, hxg4⟩ := Bxg_10.out
        go_wp2_with fail
        refine wp_region_held_drew (S := fun w' => (w'.cell? ⟨w.heap.size, 0, none⟩ = some (.int .i64 s0) ∧ w'.cell? ⟨w.heap.size, 1, none⟩ = some (.slice A0 n0 c0) ∧ w'.cell? ⟨w.heap.size, 2, none⟩ = some (.int .i64 E0)) ∧ (w'.cell? ⟨w4.heap.size, 0, none⟩ = some (.int .i64 s0) ∧ w'.cell? ⟨w4.heap.size, 1, none⟩ = some (.slice Bx n0 dx) ∧ w'.cell? ⟨w4.heap.size, 2, none⟩ = some (.int .i64 E0))) (by kernel_rfl) ⟨Bx0_10.out.1, Bxx_10.out.1⟩ (fun hHeld => ?_)
        clear hx01 hx02 hx03 hx04 hx11 hx12 hx13 hx14 hxe1 hxe2 hxe3 hxe4 hxx1 hxx2 hxx3 hxx4 hxy1 hxy2 hxy3 hxy4 hxg1 hxg2 hxg3 hxg4
        refine wpAnyH_take (i := 0) (v := ?_) rfl (by kernel_rfl) (by kernel_rfl) (by kernel_rfl) (fun _ _ _ h => h) (Or.inl ⟨by rfl, ?_⟩) (by assumption) ?_
        rotate_left
        · (intro w hSw; (try dsimp only at hSw); go_simp; (try with_reducible rfl))
        try simp only [Act.put, List.setIfInBounds_toArray, List.set_cons_zero, List.set_cons_succ]
        refine wpAnyH_take (i := 1) (v := ?_) rfl (by kernel_rfl) (by kernel_rfl) (by kernel_rfl) (fun _ _ _ h => h) (Or.inl ⟨by rfl, ?_⟩) (by assumption) ?_
        rotate_left
        · (intro w hSw; (try dsimp only at hSw); go_simp; (try with_reducible rfl))
        try simp only [Act.put, List.setIfInBounds_toArray, List.set_cons_zero, List.set_cons_succ]
        refine wpAnyH_ready (rs := [2]) (by kernel_rfl) (by simp) ?_
        refine AllReadyH.cons rfl (fun K hK => ?_) AllReadyH.nil
        go_simp
        refine (toD_any s0 A0 n0 c0 E0 xs0 w10.drew _ Ra0_10.out.1 Ra0_10.out.2 Hn0.out Hle0.out).mono ?_
        rintro e w11 ⟨Bh, dh, rfl, ho, hb0⟩
        have hb : Below w10.heap.size w10 w11 := belDrew hb0
        refine hK.out _ _ ⟨(Bx0_10.out.next hb).1, (Bxx_10.out.next hb).1⟩ (fun hHeld => ?_)
        have Own := Lib.hid (Ot.new ho)
        clear ho
        clear hK K hb0
        have Bel_11 := Lib.hid (belNext Bel_10.out hb)
        have Sz_11 : Hid (w10.heap.size ≤ w11.heap.size) := Lib.hid hb.size
        have Bx0_11 := Lib.hid (Bx0_10.out.next hb)
        have Bx1_11 := Lib.hid (Bx1_10.out.next hb)
        have Bxe_11 := Lib.hid (Bxe_10.out.next hb)
        have Bxx_11 := Lib.hid (Bxx_10.out.next hb)
        have Bxy_11 := Lib.hid (Bxy_10.out.next hb)
        have Bxg_11 := Lib.hid (Bxg_10.out.next hb)
        have Ra0_11 := Lib.hid (Ra0_10.out.next hb)
        have Ra1_11 := Lib.hid (Ra1_10.out.next hb)
        have Owe_11 := Lib.hid (Owe_10.out.next hb)
        have Owx_11 := Lib.hid (Owx_10.out.next hb)
        have Owy_11 := Lib.hid (Owy_10.out.next hb)
        have Owg_11 := Lib.hid (Owg_10.out.next hb)
        clear hb Bel_10 Bx0_10 Bx1_10 Bxe_10 Bxx_10 Bxy_10 Bxg_10 Ra0_10 Ra1_10 Owe_10 Owx_10 Owy_10 Owg_10
        try simp only [Act.put, List.setIfInBounds_toArray, List.set_cons_zero, List.set_cons_succ]
        refine wpAnyH_ready (rs := [3]) (by kernel_rfl) (by simp) ?_
        refine AllReadyH.cons rfl (fun K hK => ?_) AllReadyH.nil
        go_simp
        refine (eqD_yes s0 Bx Bh n0 dx dh _ _ E0 xs0 _ Owx_11.out.rt.1 Own.out.rt.1 Owx_11.out.rt.2 Own.out.rt.2 Hn0.out Hle0.out).mono ?_
        rintro e w12 ⟨rfl, hb0⟩
        have hb : Below w11.heap.size w11 w12 := hb0
        refine hK.out _ _ ⟨(Bx0_11.out.next hb).1, (Bxx_11.out.next hb).1⟩ (fun hHeld => ?_)
        clear Own
        clear hK K hb0
        have Bel_12 := Lib.hid (belNext Bel_11.out hb)
        have Sz_12 : Hid (w11.heap.size ≤ w12.heap.size) := Lib.hid hb.size
        have Bx0_12 := Lib.hid (Bx0_11.out.next hb)
        have Bx1_12 := Lib.hid (Bx1_11.out.next hb)
        have Bxe_12 := Lib.hid (Bxe_11.out.next hb)
        have Bxx_12 := Lib.hid (Bxx_11.out.next hb)
        have Bxy_12 := Lib.hid (Bxy_11.out.next hb)
        have Bxg_12 := Lib.hid (Bxg_11.out.next hb)
        have Ra0_12 := Lib.hid (Ra0_11.out.next hb)
        have Ra1_12 := Lib.hid (Ra1_11.out.next hb)
        have Owe_12 := Lib.hid (Owe_11.out.next hb)
        have Owx_12 := Lib.hid (Owx_11.out.next hb)
        have Owy_12 := Lib.hid (Owy_11.out.next hb)
        have Owg_12 := Lib.hid (Owg_11.out.next hb)
        clear hb Bel_11 Bx0_11 Bx1_11 Bxe_11 Bxx_11 Bxy_11 Bxg_11 Ra0_11 Ra1_11 Owe_11 Owx_11 Owy_11 Owg_11
        try simp only [Act.put, List.setIfInBounds_toArray, List.set_cons_zero, List.set_cons_succ]
        refine wpAnyH_ready (rs := [4]) (by kernel_rfl) (by simp) ?_
        refine AllReadyH.cons rfl (fun K hK => ?_) AllReadyH.nil
        go_simp
        refine hK.out _ _ hHeld (fun hHeld => ?_)
        clear hK K
        try simp only [Act.put, List.setIfInBounds_toArray, List.set_cons_zero, List.set_cons_succ]
        refine wpAnyH_done (by kernel_rfl) ?_ _
        clear hHeld
        obtain ⟨⟨hx01, hx02, hx03⟩, hx04⟩ := Bx0_12.out
        obtain ⟨⟨hx11, hx12, hx13⟩, hx14⟩ := Bx1_12.out
        obtain ⟨⟨hxe1, hxe2, hxe3⟩, hxe4⟩ := Bxe_12.out
        obtain ⟨⟨hxx1, hxx2, hxx3⟩, hxx4⟩ := Bxx_12.out
        obtain ⟨⟨hxy1, hxy2, hxy3⟩, hxy4⟩ := Bxy_12.out
        obtain ⟨⟨hxg1, hxg2, hxg3⟩, hxg4⟩ := Bxg_12.out
        go_wp2_with fail
        refine wp_region_held_drew (S := fun w' => (w'.cell? ⟨w.heap.size + 1, 0, none⟩ = some (.int .i64 s1) ∧ w'.cell? ⟨w.heap.size + 1, 1, none⟩ = some (.slice A1 n1 c1) ∧ w'.cell? ⟨w.heap.size + 1, 2, none⟩ = some (.int .i64 E1)) ∧ (w'.cell? ⟨w6.heap.size, 0, none⟩ = some (.int .i64 s1) ∧ w'.cell? ⟨w6.heap.size, 1, none⟩ = some (.slice By n1 dy) ∧ w'.cell? ⟨w6.heap.size, 2, none⟩ = some (.int .i64 E1))) (by kernel_rfl) ⟨Bx1_12.out.1, Bxy_12.out.1⟩ (fun hHeld => ?_)
        clear hx01 hx02 hx03 hx04 hx11 hx12 hx13 hx14 hxe1 hxe2 hxe3 hxe4 hxx1 hxx2 hxx3 hxx4 hxy1 hxy2 hxy3 hxy4 hxg1 hxg2 hxg3 hxg4
        refine wpAnyH_take (i := 0) (v := ?_) rfl (by kernel_rfl) (by kernel_rfl) (by kernel_rfl) (fun _ _ _ h => h) (Or.inl ⟨by rfl, ?_⟩) (by assumption) ?_
        rotate_left
        · (intro w hSw; (try dsimp only at hSw); go_simp; (try with_reducible rfl))
        try simp only [Act.put, List.setIfInBounds_toArray, List.set_cons_zero, List.set_cons_succ]
        refine wpAnyH_take (i := 1) (v := ?_) rfl (by kernel_rfl) (by kernel_rfl) (by kernel_rfl) (fun _ _ _ h => h) (Or.inl ⟨by rfl, ?_⟩) (by assumption) ?_
        rotate_left
        · (intro w hSw; (try dsimp only at hSw); go_simp; (try with_reducible rfl))
        try simp only [Act.put, List.setIfInBounds_toArray, List.set_cons_zero, List.set_cons_succ]
        refine wpAnyH_ready (rs := [2]) (by kernel_rfl) (by simp) ?_
        refine AllReadyH.cons rfl (fun K hK => ?_) AllReadyH.nil
        go_simp
        refine (toD_any s1 A1 n1 c1 E1 xs1 w12.drew _ Ra1_12.out.1 Ra1_12.out.2 Hn1.out Hle1.out).mono ?_
        rintro e w13 ⟨Bh, dh, rfl, ho, hb0⟩
        have hb : Below w12.heap.size w12 w13 := belDrew hb0
        refine hK.out _ _ ⟨(Bx1_12.out.next hb).1, (Bxy_12.out.next hb).1⟩ (fun hHeld => ?_)
        have Own := Lib.hid (Ot.new ho)
        clear ho
        clear hK K hb0
        have Bel_13 := Lib.hid (belNext Bel_12.out hb)
        have Sz_13 : Hid (w12.heap.size ≤ w13.heap.size) := Lib.hid hb.size
        have Bx0_13 := Lib.hid (Bx0_12.out.next hb)
        have Bx1_13 := Lib.hid (Bx1_12.out.next hb)
        have Bxe_13 := Lib.hid (Bxe_12.out.next hb)
        have Bxx_13 := Lib.hid (Bxx_12.out.next hb)
        have Bxy_13 := Lib.hid (Bxy_12.out.next hb)
        have Bxg_13 := Lib.hid (Bxg_12.out.next hb)
        have Ra0_13 := Lib.hid (Ra0_12.out.next hb)
        have Ra1_13 := Lib.hid (Ra1_12.out.next hb)
        have Owe_13 := Lib.hid (Owe_12.out.next hb)
        have Owx_13 := Lib.hid (Owx_12.out.next hb)
        have Owy_13 := Lib.hid (Owy_12.out.next hb)
        have Owg_13 := Lib.hid (Owg_12.out.next hb)
        clear hb Bel_12 Bx0_12 Bx1_12 Bxe_12 Bxx_12 Bxy_12 Bxg_12 Ra0_12 Ra1_12 Owe_12 Owx_12 Owy_12 Owg_12
        try simp only [Act.put, List.setIfInBounds_toArray, List.set_cons_zero, List.set_cons_succ]
        refine wpAnyH_ready (rs := [3]) (by kernel_rfl) (by simp) ?_
        refine AllReadyH.cons rfl (fun K hK => ?_) AllReadyH.nil
        go_simp
        refine (eqD_yes s1 By Bh n1 dy dh _ _ E1 xs1 _ Owy_13.out.rt.1 Own.out.rt.1 Owy_13.out.rt.2 Own.out.rt.2 Hn1.out Hle1.out).mono ?_
        rintro e w14 ⟨rfl, hb0⟩
        have hb : Below w13.heap.size w13 w14 := hb0
        refine hK.out _ _ ⟨(Bx1_13.out.next hb).1, (Bxy_13.out.next hb).1⟩ (fun hHeld => ?_)
        clear Own
        clear hK K hb0
        have Bel_14 := Lib.hid (belNext Bel_13.out hb)
        have Sz_14 : Hid (w13.heap.size ≤ w14.heap.size) := Lib.hid hb.size
        have Bx0_14 := Lib.hid (Bx0_13.out.next hb)
        have Bx1_14 := Lib.hid (Bx1_13.out.next hb)
        have Bxe_14 := Lib.hid (Bxe_13.out.next hb)
        have Bxx_14 := Lib.hid (Bxx_13.out.next hb)
        have Bxy_14 := Lib.hid (Bxy_13.out.next hb)
        have Bxg_14 := Lib.hid (Bxg_13.out.next hb)
        have Ra0_14 := Lib.hid (Ra0_13.out.next hb)
        have Ra1_14 := Lib.hid (Ra1_13.out.next hb)
        have Owe_14 := Lib.hid (Owe_13.out.next hb)
        have Owx_14 := Lib.hid (Owx_13.out.next hb)
        have Owy_14 := Lib.hid (Owy_13.out.next hb)
        have Owg_14 := Lib.hid (Owg_13.out.next hb)
        clear hb Bel_13 Bx0_13 Bx1_13 Bxe_13 Bxx_13 Bxy_13 Bxg_13 Ra0_13 Ra1_13 Owe_13 Owx_13 Owy_13 Owg_13
        try simp only [Act.put, List.setIfInBounds_toArray, List.set_cons_zero, List.set_cons_succ]
        refine wpAnyH_ready (rs := [4]) (by kernel_rfl) (by simp) ?_
        refine AllReadyH.cons rfl (fun K hK => ?_) AllReadyH.nil
        go_simp
        refine hK.out _ _ hHeld (fun hHeld => ?_)
        clear hK K
        try simp only [Act.put, List.setIfInBounds_toArray, List.set_cons_zero, List.set_cons_succ]
        refine wpAnyH_done (by kernel_rfl) ?_ _
        clear hHeld
        obtain ⟨⟨hx01, hx02, hx03⟩, hx04⟩ := Bx0_14.out
        obtain ⟨⟨hx11, hx12, hx13⟩, hx14⟩ := Bx1_14.out
        obtain ⟨⟨hxe1, hxe2, hxe3⟩, hxe4⟩ := Bxe_14.out
        obtain ⟨⟨hxx1, hxx2, hxx3⟩, hxx4⟩ := Bxx_14.out
        obtain ⟨⟨hxy1, hxy2, hxy3⟩, hxy4⟩ := Bxy_14.out
        obtain ⟨⟨hxg1, hxg2, hxg3⟩, hxg4⟩ := Bxg_14.out
        go_wp2_with fail
        refine (markD_any s0 Bx n0 dx E0 1 xs0 _ _ _ Owx_14.out.1 Hn0.out (by have := Hle0.out; omega) (by omega) (by omega) Owx_14.out.2).mono ?_
        rintro e w15 ⟨rfl, ho, row, hg, hrow⟩
        obtain ⟨K1, hK1⟩ : ∃ K1 : Int, K1 = 1 + ↑n0 := ⟨_, rfl⟩
        rw [← hK1]
        have hK1a : 0 ≤ K1 := by omega
        have hK1b : K1 ≤ 1048577 := by omega
        clear hK1
        have Bel_15 := Lib.hid (belMarked Bel_14.out hg hrow (by have z0 := Sa_0.out; have z1 := Sz_1.out; have z2 := Sz_2.out; have z3 := Sz_3.out; have z4 := Sq_3.out; have z5 := Sz_4.out; have z6 := Sb_5.out; have z7 := Sz_5.out; have z8 := Sz_6.out; have z9 := Sb_7.out; have z10 := Sz_7.out; have z11 := Sz_8.out; have z12 := Sb_9.out; have z13 := Sz_9.out; have z14 := Sz_10.out; have z15 := Sz_11.out; have z16 := Sz_12.out; have z17 := Sz_13.out; have z18 := Sz_14.out; (try simp only [] at *); omega))
        have Sz_15 : Hid (w14.heap.size ≤ w15.heap.size) := Lib.hid hg.size
        have Bx0_15 := Lib.hid (Bx0_14.out.grown hg hrow (by have z0 := Sa_0.out; have z1 := Sz_1.out; have z2 := Sz_2.out; have z3 := Sz_3.out; have z4 := Sq_3.out; have z5 := Sz_4.out; have z6 := Sb_5.out; have z7 := Sz_5.out; have z8 := Sz_6.out; have z9 := Sb_7.out; have z10 := Sz_7.out; have z11 := Sz_8.out; have z12 := Sb_9.out; have z13 := Sz_9.out; have z14 := Sz_10.out; have z15 := Sz_11.out; have z16 := Sz_12.out; have z17 := Sz_13.out; have z18 := Sz_14.out; (try simp only [] at *); omega))
        have Bx1_15 := Lib.hid (Bx1_14.out.grown hg hrow (by have z0 := Sa_0.out; have z1 := Sz_1.out; have z2 := Sz_2.out; have z3 := Sz_3.out; have z4 := Sq_3.out; have z5 := Sz_4.out; have z6 := Sb_5.out; have z7 := Sz_5.out; have z8 := Sz_6.out; have z9 := Sb_7.out; have z10 := Sz_7.out; have z11 := Sz_8.out; have z12 := Sb_9.out; have z13 := Sz_9.out; have z14 := Sz_10.out; have z15 := Sz_11.out; have z16 := Sz_12.out; have z17 := Sz_13.out; have z18 := Sz_14.out; (try simp only [] at *); omega))
        have Bxe_15 := Lib.hid (Bxe_14.out.grown hg hrow (by have z0 := Sa_0.out; have z1 := Sz_1.out; have z2 := Sz_2.out; have z3 := Sz_3.out; have z4 := Sq_3.out; have z5 := Sz_4.out; have z6 := Sb_5.out; have z7 := Sz_5.out; have z8 := Sz_6.out; have z9 := Sb_7.out; have z10 := Sz_7.out; have z11 := Sz_8.out; have z12 := Sb_9.out; have z13 := Sz_9.out; have z14 := Sz_10.out; have z15 := Sz_11.out; have z16 := Sz_12.out; have z17 := Sz_13.out; have z18 := Sz_14.out; (try simp only [] at *); omega))
        have Bxx_15 := Lib.hid (Bxx_14.out.grown hg hrow (by have z0 := Sa_0.out; have z1 := Sz_1.out; have z2 := Sz_2.out; have z3 := Sz_3.out; have z4 := Sq_3.out; have z5 := Sz_4.out; have z6 := Sb_5.out; have z7 := Sz_5.out; have z8 := Sz_6.out; have z9 := Sb_7.out; have z10 := Sz_7.out; have z11 := Sz_8.out; have z12 := Sb_9.out; have z13 := Sz_9.out; have z14 := Sz_10.out; have z15 := Sz_11.out; have z16 := Sz_12.out; have z17 := Sz_13.out; have z18 := Sz_14.out; (try simp only [] at *); omega))
        have Bxy_15 := Lib.hid (Bxy_14.out.grown hg hrow (by have z0 := Sa_0.out; have z1 := Sz_1.out; have z2 := Sz_2.out; have z3 := Sz_3.out; have z4 := Sq_3.out; have z5 := Sz_4.out; have z6 := Sb_5.out; have z7 := Sz_5.out; have z8 := Sz_6.out; have z9 := Sb_7.out; have z10 := Sz_7.out; have z11 := Sz_8.out; have z12 := Sb_9.out; have z13 := Sz_9.out; have z14 := Sz_10.out; have z15 := Sz_11.out; have z16 := Sz_12.out; have z17 := Sz_13.out; have z18 := Sz_14.out; (try simp only [] at *); omega))
        have Bxg_15 := Lib.hid (Bxg_14.out.grown hg hrow (by have z0 := Sa_0.out; have z1 := Sz_1.out; have z2 := Sz_2.out; have z3 := Sz_3.out; have z4 := Sq_3.out; have z5 := Sz_4.out; have z6 := Sb_5.out; have z7 := Sz_5.out; have z8 := Sz_6.out; have z9 := Sb_7.out; have z10 := Sz_7.out; have z11 := Sz_8.out; have z12 := Sb_9.out; have z13 := Sz_9.out; have z14 := Sz_10.out; have z15 := Sz_11.out; have z16 := Sz_12.out; have z17 := Sz_13.out; have z18 := Sz_14.out; (try simp only [] at *); omega))
        have Ra0_15 := Lib.hid (Ra0_14.out.grown hg hrow (by have z0 := Sa_0.out; have z1 := Sz_1.out; have z2 := Sz_2.out; have z3 := Sz_3.out; have z4 := Sq_3.out; have z5 := Sz_4.out; have z6 := Sb_5.out; have z7 := Sz_5.out; have z8 := Sz_6.out; have z9 := Sb_7.out; have z10 := Sz_7.out; have z11 := Sz_8.out; have z12 := Sb_9.out; have z13 := Sz_9.out; have z14 := Sz_10.out; have z15 := Sz_11.out; have z16 := Sz_12.out; have z17 := Sz_13.out; have z18 := Sz_14.out; (try simp only [] at *); omega))
        have Ra1_15 := Lib.hid (Ra1_14.out.grown hg hrow (by have z0 := Sa_0.out; have z1 := Sz_1.out; have z2 := Sz_2.out; have z3 := Sz_3.out; have z4 := Sq_3.out; have z5 := Sz_4.out; have z6 := Sb_5.out; have z7 := Sz_5.out; have z8 := Sz_6.out; have z9 := Sb_7.out; have z10 := Sz_7.out; have z11 := Sz_8.out; have z12 := Sb_9.out; have z13 := Sz_9.out; have z14 := Sz_10.out; have z15 := Sz_11.out; have z16 := Sz_12.out; have z17 := Sz_13.out; have z18 := Sz_14.out; (try simp only [] at *); omega))
        have Owe_15 := Lib.hid (Owe_14.out.grown hg hrow (by have z0 := Sa_0.out; have z1 := Sz_1.out; have z2 := Sz_2.out; have z3 := Sz_3.out; have z4 := Sq_3.out; have z5 := Sz_4.out; have z6 := Sb_5.out; have z7 := Sz_5.out; have z8 := Sz_6.out; have z9 := Sb_7.out; have z10 := Sz_7.out; have z11 := Sz_8.out; have z12 := Sb_9.out; have z13 := Sz_9.out; have z14 := Sz_10.out; have z15 := Sz_11.out; have z16 := Sz_12.out; have z17 := Sz_13.out; have z18 := Sz_14.out; (try simp only [] at *); omega))
        have Owy_15 := Lib.hid (Owy_14.out.grown hg hrow (by have z0 := Sa_0.out; have z1 := Sz_1.out; have z2 := Sz_2.out; have z3 := Sz_3.out; have z4 := Sq_3.out; have z5 := Sz_4.out; have z6 := Sb_5.out; have z7 := Sz_5.out; have z8 := Sz_6.out; have z9 := Sb_7.out; have z10 := Sz_7.out; have z11 := Sz_8.out; have z12 := Sb_9.out; have z13 := Sz_9.out; have z14 := Sz_10.out; have z15 := Sz_11.out; have z16 := Sz_12.out; have z17 := Sz_13.out; have z18 := Sz_14.out; (try simp only [] at *); omega))
        have Owg_15 := Lib.hid (Owg_14.out.grown hg hrow (by have z0 := Sa_0.out; have z1 := Sz_1.out; have z2 := Sz_2.out; have z3 := Sz_3.out; have z4 := Sq_3.out; have z5 := Sz_4.out; have z6 := Sb_5.out; have z7 := Sz_5.out; have z8 := Sz_6.out; have z9 := Sb_7.out; have z10 := Sz_7.out; have z11 := Sz_8.out; have z12 := Sb_9.out; have z13 := Sz_9.out; have z14 := Sz_10.out; have z15 := Sz_11.out; have z16 := Sz_12.out; have z17 := Sz_13.out; have z18 := Sz_14.out; (try simp only [] at *); omega))
        have Own : Hid (Ot w15 _ _ Bx (vi (marks 1 n0))) := Lib.hid ⟨ho, Nat.le_trans Owx_14.out.2 hg.size⟩
        clear hg hrow ho Bel_14 Bx0_14 Bx1_14 Bxe_14 Bxx_14 Bxy_14 Bxg_14 Ra0_14 Ra1_14 Owe_14 Owx_14 Owy_14 Owg_14 hx01 hx02 hx03 hx04 hx11 hx12 hx13 hx14 hxe1 hxe2 hxe3 hxe4 hxx1 hxx2 hxx3 hxx4 hxy1 hxy2 hxy3 hxy4 hxg1 hxg2 hxg3 hxg4
        have Owx_15 := Own
        clear Own
        obtain ⟨⟨hx01, hx02, hx03⟩, hx04⟩ := Bx0_15.out
        obtain ⟨⟨hx11, hx12, hx13⟩, hx14⟩ := Bx1_15.out
        obtain ⟨⟨hxe1, hxe2, hxe3⟩, hxe4⟩ := Bxe_15.out
        obtain ⟨⟨hxx1, hxx2, hxx3⟩, hxx4⟩ := Bxx_15.out
        obtain ⟨⟨hxy1, hxy2, hxy3⟩, hxy4⟩ := Bxy_15.out
        obtain ⟨⟨hxg1, hxg2, hxg3⟩, hxg4⟩ := Bxg_15.out
        go_wp2_with fail
        refine (markD_any s1 By n1 dy E1 K1 xs1 _ _ _ Owy_15.out.1 Hn1.out (by have := Hle1.out; omega) (by omega) (by omega) Owy_15.out.2).mono ?_
        rintro e w16 ⟨rfl, ho, row, hg, hrow⟩
        obtain ⟨K2, hK2⟩ : ∃ K2 : Int, K2 = K1 + ↑n1 := ⟨_, rfl⟩
        rw [← hK2]
        have hK2a : 0 ≤ K2 := by omega
        have hK2b : K2 ≤ 2097153 := by omega
        clear hK2
        have Bel_16 := Lib.hid (belMarked Bel_15.out hg hrow (by have z0 := Sa_0.out; have z1 := Sz_1.out; have z2 := Sz_2.out; have z3 := Sz_3.out; have z4 := Sq_3.out; have z5 := Sz_4.out; have z6 := Sb_5.out; have z7 := Sz_5.out; have z8 := Sz_6.out; have z9 := Sb_7.out; have z10 := Sz_7.out; have z11 := Sz_8.out; have z12 := Sb_9.out; have z13 := Sz_9.out; have z14 := Sz_10.out; have z15 := Sz_11.out; have z16 := Sz_12.out; have z17 := Sz_13.out; have z18 := Sz_14.out; have z19 := Sz_15.out; (try simp only [] at *); omega))
        have Sz_16 : Hid (w15.heap.size ≤ w16.heap.size) := Lib.hid hg.size
        have Bx0_16 := Lib.hid (Bx0_15.out.grown hg hrow (by have z0 := Sa_0.out; have z1 := Sz_1.out; have z2 := Sz_2.out; have z3 := Sz_3.out; have z4 := Sq_3.out; have z5 := Sz_4.out; have z6 := Sb_5.out; have z7 := Sz_5.out; have z8 := Sz_6.out; have z9 := Sb_7.out; have z10 := Sz_7.out; have z11 := Sz_8.out; have z12 := Sb_9.out; have z13 := Sz_9.out; have z14 := Sz_10.out; have z15 := Sz_11.out; have z16 := Sz_12.out; have z17 := Sz_13.out; have z18 := Sz_14.out; have z19 := Sz_15.out; (try simp only [] at *); omega))
        have Bx1_16 := Lib.hid (Bx1_15.out.grown hg hrow (by have z0 := Sa_0.out; have z1 := Sz_1.out; have z2 := Sz_2.out; have z3 := Sz_3.out; have z4 := Sq_3.out; have z5 := Sz_4.out; have z6 := Sb_5.out; have z7 := Sz_5.out; have z8 := Sz_6.out; have z9 := Sb_7.out; have z10 := Sz_7.out; have z11 := Sz_8.out; have z12 := Sb_9.out; have z13 := Sz_9.out; have z14 := Sz_10.out; have z15 := Sz_11.out; have z16 := Sz_12.out; have z17 := Sz_13.out; have z18 := Sz_14.out; have z19 := Sz_15.out; (try simp only [] at *); omega))
        have Bxe_16 := Lib.hid (Bxe_15.out.grown hg hrow (by have z0 := Sa_0.out; have z1 := Sz_1.out; have z2 := Sz_2.out; have z3 := Sz_3.out; have z4 := Sq_3.out; have z5 := Sz_4.out; have z6 := Sb_5.out; have z7 := Sz_5.out; have z8 := Sz_6.out; have z9 := Sb_7.out; have z10 := Sz_7.out; have z11 := Sz_8.out; have z12 := Sb_9.out; have z13 := Sz_9.out; have z14 := Sz_10.out; have z15 := Sz_11.out; have z16 := Sz_12.out; have z17 := Sz_13.out; have z18 := Sz_14.out; have z19 := Sz_15.out; (try simp only [] at *); omega))
        have Bxx_16 := Lib.hid (Bxx_15.out.grown hg hrow (by have z0 := Sa_0.out; have z1 := Sz_1.out; have z2 := Sz_2.out; have z3 := Sz_3.out; have z4 := Sq_3.out; have z5 := Sz_4.out; have z6 := Sb_5.out; have z7 := Sz_5.out; have z8 := Sz_6.out; have z9 := Sb_7.out; have z10 := Sz_7.out; have z11 := Sz_8.out; have z12 := Sb_9.out; have z13 := Sz_9.out; have z14 := Sz_10.out; have z15 := Sz_11.out; have z16 := Sz_12.out; have z17 := Sz_13.out; have z18 := Sz_14.out; have z19 := Sz_15.out; (try simp only [] at *); omega))
        have Bxy_16 := Lib.hid (Bxy_15.out.grown hg hrow (by have z0 := Sa_0.out; have z1 := Sz_1.out; have z2 := Sz_2.out; have z3 := Sz_3.out; have z4 := Sq_3.out; have z5 := Sz_4.out; have z6 := Sb_5.out; have z7 := Sz_5.out; have z8 := Sz_6.out; have z9 := Sb_7.out; have z10 := Sz_7.out; have z11 := Sz_8.out; have z12 := Sb_9.out; have z13 := Sz_9.out; have z14 := Sz_10.out; have z15 := Sz_11.out; have z16 := Sz_12.out; have z17 := Sz_13.out; have z18 := Sz_14.out; have z19 := Sz_15.out; (try simp only [] at *); omega))
        have Bxg_16 := Lib.hid (Bxg_15.out.grown hg hrow (by have z0 := Sa_0.out; have z1 := Sz_1.out; have z2 := Sz_2.out; have z3 := Sz_3.out; have z4 := Sq_3.out; have z5 := Sz_4.out; have z6 := Sb_5.out; have z7 := Sz_5.out; have z8 := Sz_6.out; have z9 := Sb_7.out; have z10 := Sz_7.out; have z11 := Sz_8.out; have z12 := Sb_9.out; have z13 := Sz_9.out; have z14 := Sz_10.out; have z15 := Sz_11.out; have z16 := Sz_12.out; have z17 := Sz_13.out; have z18 := Sz_14.out; have z19 := Sz_15.out; (try simp only [] at *); omega))
        have Ra0_16 := Lib.hid (Ra0_15.out.grown hg hrow (by have z0 := Sa_0.out; have z1 := Sz_1.out; have z2 := Sz_2.out; have z3 := Sz_3.out; have z4 := Sq_3.out; have z5 := Sz_4.out; have z6 := Sb_5.out; have z7 := Sz_5.out; have z8 := Sz_6.out; have z9 := Sb_7.out; have z10 := Sz_7.out; have z11 := Sz_8.out; have z12 := Sb_9.out; have z13 := Sz_9.out; have z14 := Sz_10.out; have z15 := Sz_11.out; have z16 := Sz_12.out; have z17 := Sz_13.out; have z18 := Sz_14.out; have z19 := Sz_15.out; (try simp only [] at *); omega))
        have Ra1_16 := Lib.hid (Ra1_15.out.grown hg hrow (by have z0 := Sa_0.out; have z1 := Sz_1.out; have z2 := Sz_2.out; have z3 := Sz_3.out; have z4 := Sq_3.out; have z5 := Sz_4.out; have z6 := Sb_5.out; have z7 := Sz_5.out; have z8 := Sz_6.out; have z9 := Sb_7.out; have z10 := Sz_7.out; have z11 := Sz_8.out; have z12 := Sb_9.out; have z13 := Sz_9.out; have z14 := Sz_10.out; have z15 := Sz_11.out; have z16 := Sz_12.out; have z17 := Sz_13.out; have z18 := Sz_14.out; have z19 := Sz_15.out; (try simp only [] at *); omega))
        have Owe_16 := Lib.hid (Owe_15.out.grown hg hrow (by have z0 := Sa_0.out; have z1 := Sz_1.out; have z2 := Sz_2.out; have z3 := Sz_3.out; have z4 := Sq_3.out; have z5 := Sz_4.out; have z6 := Sb_5.out; have z7 := Sz_5.out; have z8 := Sz_6.out; have z9 := Sb_7.out; have z10 := Sz_7.out; have z11 := Sz_8.out; have z12 := Sb_9.out; have z13 := Sz_9.out; have z14 := Sz_10.out; have z15 := Sz_11.out; have z16 := Sz_12.out; have z17 := Sz_13.out; have z18 := Sz_14.out; have z19 := Sz_15.out; (try simp only [] at *); omega))
        have Owx_16 := Lib.hid (Owx_15.out.grown hg hrow (by have z0 := Sa_0.out; have z1 := Sz_1.out; have z2 := Sz_2.out; have z3 := Sz_3.out; have z4 := Sq_3.out; have z5 := Sz_4.out; have z6 := Sb_5.out; have z7 := Sz_5.out; have z8 := Sz_6.out; have z9 := Sb_7.out; have z10 := Sz_7.out; have z11 := Sz_8.out; have z12 := Sb_9.out; have z13 := Sz_9.out; have z14 := Sz_10.out; have z15 := Sz_11.out; have z16 := Sz_12.out; have z17 := Sz_13.out; have z18 := Sz_14.out; have z19 := Sz_15.out; (try simp only [] at *); omega))
        have Owg_16 := Lib.hid (Owg_15.out.grown hg hrow (by have z0 := Sa_0.out; have z1 := Sz_1.out; have z2 := Sz_2.out; have z3 := Sz_3.out; have z4 := Sq_3.out; have z5 := Sz_4.out; have z6 := Sb_5.out; have z7 := Sz_5.out; have z8 := Sz_6.out; have z9 := Sb_7.out; have z10 := Sz_7.out; have z11 := Sz_8.out; have z12 := Sb_9.out; have z13 := Sz_9.out; have z14 := Sz_10.out; have z15 := Sz_11.out; have z16 := Sz_12.out; have z17 := Sz_13.out; have z18 := Sz_14.out; have z19 := Sz_15.out; (try simp only [] at *); omega))
        have Own : Hid (Ot w16 _ _ By (vi (marks K1 n1))) := Lib.hid ⟨ho, Nat.le_trans Owy_15.out.2 hg.size⟩
        clear hg hrow ho Bel_15 Bx0_15 Bx1_15 Bxe_15 Bxx_15 Bxy_15 Bxg_15 Ra0_15 Ra1_15 Owe_15 Owx_15 Owy_15 Owg_15 hx01 hx02 hx03 hx04 hx11 hx12 hx13 hx14 hxe1 hxe2 hxe3 hxe4 hxx1 hxx2 hxx3 hxx4 hxy1 hxy2 hxy3 hxy4 hxg1 hxg2 hxg3 hxg4
        have Owy_16 := Own
        clear Own
        obtain ⟨⟨hx01, hx02, hx03⟩, hx04⟩ := Bx0_16.out
        obtain ⟨⟨hx11, hx12, hx13⟩, hx14⟩ := Bx1_16.out
        obtain ⟨⟨hxe1, hxe2, hxe3⟩, hxe4⟩ := Bxe_16.out
        obtain ⟨⟨hxx1, hxx2, hxx3⟩, hxx4⟩ := Bxx_16.out
        obtain ⟨⟨hxy1, hxy2, hxy3⟩, hxy4⟩ := Bxy_16.out
        obtain ⟨⟨hxg1, hxg2, hxg3⟩, hxg4⟩ := Bxg_16.out
        go_wp2_with fail
        refine (eqD_yes S Bg Be N dg de _ _ EX XS _ Owg_16.out.rt.1 Owe_16.out.rt.1 Owg_16.out.rt.2 Owe_16.out.rt.2 HXN.out HN1.out).mono ?_
        rintro e w17 ⟨rfl, hb⟩
        have Bel_17 := Lib.hid (belNext Bel_16.out hb)
        have Sz_17 : Hid (w16.heap.size ≤ w17.heap.size) := Lib.hid hb.size
        have Bx0_17 := Lib.hid (Bx0_16.out.next hb)
        have Bx1_17 := Lib.hid (Bx1_16.out.next hb)
        have Bxe_17 := Lib.hid (Bxe_16.out.next hb)
        have Bxx_17 := Lib.hid (Bxx_16.out.next hb)
        have Bxy_17 := Lib.hid (Bxy_16.out.next hb)
        have Bxg_17 := Lib.hid (Bxg_16.out.next hb)
        have Ra0_17 := Lib.hid (Ra0_16.out.next hb)
        have Ra1_17 := Lib.hid (Ra1_16.out.next hb)
        have Owe_17 := Lib.hid (Owe_16.out.next hb)
        have Owx_17 := Lib.hid (Owx_16.out.next hb)
        have Owy_17 := Lib.hid (Owy_16.out.next hb)
        have Owg_17 := Lib.hid (Owg_16.out.next hb)
        clear hb Bel_16 Bx0_16 Bx1_16 Bxe_16 Bxx_16 Bxy_16 Bxg_16 Ra0_16 Ra1_16 Owe_16 Owx_16 Owy_16 Owg_16 hx01 hx02 hx03 hx04 hx11 hx12 hx13 hx14 hxe1 hxe2 hxe3 hxe4 hxx1 hxx2 hxx3 hxx4 hxy1 hxy2 hxy3 hxy4 hxg1 hxg2 hxg3 hxg4
        obtain ⟨⟨hx01, hx02, hx03⟩, hx04⟩ := Bx0_17.out
        obtain ⟨⟨hx11, hx12, hx13⟩, hx14⟩ := Bx1_17.out
        obtain ⟨⟨hxe1, hxe2, hxe3⟩, hxe4⟩ := Bxe_17.out
        obtain ⟨⟨hxx1, hxx2, hxx3⟩, hxx4⟩ := Bxx_17.out
        obtain ⟨⟨hxy1, hxy2, hxy3⟩, hxy4⟩ := Bxy_17.out
        obtain ⟨⟨hxg1, hxg2, hxg3⟩, hxg4⟩ := Bxg_17.out
        go_wp2_with fail
        refine (markD_any S Bg N dg EX 1 XS _ _ _ Owg_17.out.1 HXN.out HN2.out (by omega) (by omega) Owg_17.out.2).mono ?_
        rintro e w18 ⟨rfl, ho, row, hg, hrow⟩
        have Bel_18 := Lib.hid (belMarked Bel_17.out hg hrow (by have z0 := Sa_0.out; have z1 := Sz_1.out; have z2 := Sz_2.out; have z3 := Sz_3.out; have z4 := Sq_3.out; have z5 := Sz_4.out; have z6 := Sb_5.out; have z7 := Sz_5.out; have z8 := Sz_6.out; have z9 := Sb_7.out; have z10 := Sz_7.out; have z11 := Sz_8.out; have z12 := Sb_9.out; have z13 := Sz_9.out; have z14 := Sz_10.out; have z15 := Sz_11.out; have z16 := Sz_12.out; have z17 := Sz_13.out; have z18 := Sz_14.out; have z19 := Sz_15.out; have z20 := Sz_16.out; have z21 := Sz_17.out; (try simp only [] at *); omega))
        have Sz_18 : Hid (w17.heap.size ≤ w18.heap.size) := Lib.hid hg.size
        have Bx0_18 := Lib.hid (Bx0_17.out.grown hg hrow (by have z0 := Sa_0.out; have z1 := Sz_1.out; have z2 := Sz_2.out; have z3 := Sz_3.out; have z4 := Sq_3.out; have z5 := Sz_4.out; have z6 := Sb_5.out; have z7 := Sz_5.out; have z8 := Sz_6.out; have z9 := Sb_7.out; have z10 := Sz_7.out; have z11 := Sz_8.out; have z12 := Sb_9.out; have z13 := Sz_9.out; have z14 := Sz_10.out; have z15 := Sz_11.out; have z16 := Sz_12.out; have z17 := Sz_13.out; have z18 := Sz_14.out; have z19 := Sz_15.out; have z20 := Sz_16.out; have z21 := Sz_17.out; (try simp only [] at *); omega))
        have Bx1_18 := Lib.hid (Bx1_17.out.grown hg hrow (by have z0 := Sa_0.out; have z1 := Sz_1.out; have z2 := Sz_2.out; have z3 := Sz_3.out; have z4 := Sq_3.out; have z5 := Sz_4.out; have z6 := Sb_5.out; have z7 := Sz_5.out; have z8 := Sz_6.out; have z9 := Sb_7.out; have z10 := Sz_7.out; have z11 := Sz_8.out; have z12 := Sb_9.out; have z13 := Sz_9.out; have z14 := Sz_10.out; have z15 := Sz_11.out; have z16 := Sz_12.out; have z17 := Sz_13.out; have z18 := Sz_14.out; have z19 := Sz_15.out; have z20 := Sz_16.out; have z21 := Sz_17.out; (try simp only [] at *); omega))
        have Bxe_18 := Lib.hid (Bxe_17.out.grown hg hrow (by have z0 := Sa_0.out; have z1 := Sz_1.out; have z2 := Sz_2.out; have z3 := Sz_3.out; have z4 := Sq_3.out; have z5 := Sz_4.out; have z6 := Sb_5.out; have z7 := Sz_5.out; have z8 := Sz_6.out; have z9 := Sb_7.out; have z10 := Sz_7.out; have z11 := Sz_8.out; have z12 := Sb_9.out; have z13 := Sz_9.out; have z14 := Sz_10.out; have z15 := Sz_11.out; have z16 := Sz_12.out; have z17 := Sz_13.out; have z18 := Sz_14.out; have z19 := Sz_15.out; have z20 := Sz_16.out; have z21 := Sz_17.out; (try simp only [] at *); omega))
        have Bxx_18 := Lib.hid (Bxx_17.out.grown hg hrow (by have z0 := Sa_0.out; have z1 := Sz_1.out; have z2 := Sz_2.out; have z3 := Sz_3.out; have z4 := Sq_3.out; have z5 := Sz_4.out; have z6 := Sb_5.out; have z7 := Sz_5.out; have z8 := Sz_6.out; have z9 := Sb_7.out; have z10 := Sz_7.out; have z11 := Sz_8.out; have z12 := Sb_9.out; have z13 := Sz_9.out; have z14 := Sz_10.out; have z15 := Sz_11.out; have z16 := Sz_12.out; have z17 := Sz_13.out; have z18 := Sz_14.out; have z19 := Sz_15.out; have z20 := Sz_16.out; have z21 := Sz_17.out; (try simp only [] at *); omega))
        have Bxy_18 := Lib.hid (Bxy_17.out.grown hg hrow (by have z0 := Sa_0.out; have z1 := Sz_1.out; have z2 := Sz_2.out; have z3 := Sz_3.out; have z4 := Sq_3.out; have z5 := Sz_4.out; have z6 := Sb_5.out; have z7 := Sz_5.out; have z8 := Sz_6.out; have z9 := Sb_7.out; have z10 := Sz_7.out; have z11 := Sz_8.out; have z12 := Sb_9.out; have z13 := Sz_9.out; have z14 := Sz_10.out; have z15 := Sz_11.out; have z16 := Sz_12.out; have z17 := Sz_13.out; have z18 := Sz_14.out; have z19 := Sz_15.out; have z20 := Sz_16.out; have z21 := Sz_17.out; (try simp only [] at *); omega))
        have Bxg_18 := Lib.hid (Bxg_17.out.grown hg hrow (by have z0 := Sa_0.out; have z1 := Sz_1.out; have z2 := Sz_2.out; have z3 := Sz_3.out; have z4 := Sq_3.out; have z5 := Sz_4.out; have z6 := Sb_5.out; have z7 := Sz_5.out; have z8 := Sz_6.out; have z9 := Sb_7.out; have z10 := Sz_7.out; have z11 := Sz_8.out; have z12 := Sb_9.out; have z13 := Sz_9.out; have z14 := Sz_10.out; have z15 := Sz_11.out; have z16 := Sz_12.out; have z17 := Sz_13.out; have z18 := Sz_14.out; have z19 := Sz_15.out; have z20 := Sz_16.out; have z21 := Sz_17.out; (try simp only [] at *); omega))
        have Ra0_18 := Lib.hid (Ra0_17.out.grown hg hrow (by have z0 := Sa_0.out; have z1 := Sz_1.out; have z2 := Sz_2.out; have z3 := Sz_3.out; have z4 := Sq_3.out; have z5 := Sz_4.out; have z6 := Sb_5.out; have z7 := Sz_5.out; have z8 := Sz_6.out; have z9 := Sb_7.out; have z10 := Sz_7.out; have z11 := Sz_8.out; have z12 := Sb_9.out; have z13 := Sz_9.out; have z14 := Sz_10.out; have z15 := Sz_11.out; have z16 := Sz_12.out; have z17 := Sz_13.out; have z18 := Sz_14.out; have z19 := Sz_15.out; have z20 := Sz_16.out; have z21 := Sz_17.out; (try simp only [] at *); omega))
        have Ra1_18 := Lib.hid (Ra1_17.out.grown hg hrow (by have z0 := Sa_0.out; have z1 := Sz_1.out; have z2 := Sz_2.out; have z3 := Sz_3.out; have z4 := Sq_3.out; have z5 := Sz_4.out; have z6 := Sb_5.out; have z7 := Sz_5.out; have z8 := Sz_6.out; have z9 := Sb_7.out; have z10 := Sz_7.out; have z11 := Sz_8.out; have z12 := Sb_9.out; have z13 := Sz_9.out; have z14 := Sz_10.out; have z15 := Sz_11.out; have z16 := Sz_12.out; have z17 := Sz_13.out; have z18 := Sz_14.out; have z19 := Sz_15.out; have z20 := Sz_16.out; have z21 := Sz_17.out; (try simp only [] at *); omega))
        have Owe_18 := Lib.hid (Owe_17.out.grown hg hrow (by have z0 := Sa_0.out; have z1 := Sz_1.out; have z2 := Sz_2.out; have z3 := Sz_3.out; have z4 := Sq_3.out; have z5 := Sz_4.out; have z6 := Sb_5.out; have z7 := Sz_5.out; have z8 := Sz_6.out; have z9 := Sb_7.out; have z10 := Sz_7.out; have z11 := Sz_8.out; have z12 := Sb_9.out; have z13 := Sz_9.out; have z14 := Sz_10.out; have z15 := Sz_11.out; have z16 := Sz_12.out; have z17 := Sz_13.out; have z18 := Sz_14.out; have z19 := Sz_15.out; have z20 := Sz_16.out; have z21 := Sz_17.out; (try simp only [] at *); omega))
        have Owx_18 := Lib.hid (Owx_17.out.grown hg hrow (by have z0 := Sa_0.out; have z1 := Sz_1.out; have z2 := Sz_2.out; have z3 := Sz_3.out; have z4 := Sq_3.out; have z5 := Sz_4.out; have z6 := Sb_5.out; have z7 := Sz_5.out; have z8 := Sz_6.out; have z9 := Sb_7.out; have z10 := Sz_7.out; have z11 := Sz_8.out; have z12 := Sb_9.out; have z13 := Sz_9.out; have z14 := Sz_10.out; have z15 := Sz_11.out; have z16 := Sz_12.out; have z17 := Sz_13.out; have z18 := Sz_14.out; have z19 := Sz_15.out; have z20 := Sz_16.out; have z21 := Sz_17.out; (try simp only [] at *); omega))
        have Owy_18 := Lib.hid (Owy_17.out.grown hg hrow (by have z0 := Sa_0.out; have z1 := Sz_1.out; have z2 := Sz_2.out; have z3 := Sz_3.out; have z4 := Sq_3.out; have z5 := Sz_4.out; have z6 := Sb_5.out; have z7 := Sz_5.out; have z8 := Sz_6.out; have z9 := Sb_7.out; have z10 := Sz_7.out; have z11 := Sz_8.out; have z12 := Sb_9.out; have z13 := Sz_9.out; have z14 := Sz_10.out; have z15 := Sz_11.out; have z16 := Sz_12.out; have z17 := Sz_13.out; have z18 := Sz_14.out; have z19 := Sz_15.out; have z20 := Sz_16.out; have z21 := Sz_17.out; (try simp only [] at *); omega))
        have Own : Hid (Ot w18 _ _ Bg (vi (marks 1 N))) := Lib.hid ⟨ho, Nat.le_trans Owg_17.out.2 hg.size⟩
        clear hg hrow ho Bel_17 Bx0_17 Bx1_17 Bxe_17 Bxx_17 Bxy_17 Bxg_17 Ra0_17 Ra1_17 Owe_17 Owx_17 Owy_17 Owg_17 hx01 hx02 hx03 hx04 hx11 hx12 hx13 hx14 hxe1 hxe2 hxe3 hxe4 hxx1 hxx2 hxx3 hxx4 hxy1 hxy2 hxy3 hxy4 hxg1 hxg2 hxg3 hxg4
        have Owg_18 := Own
        clear Own
        obtain ⟨⟨hx01, hx02, hx03⟩, hx04⟩ := Bx0_18.out
        obtain ⟨⟨hx11, hx12, hx13⟩, hx14⟩ := Bx1_18.out
        obtain ⟨⟨hxe1, hxe2, hxe3⟩, hxe4⟩ := Bxe_18.out
        obtain ⟨⟨hxx1, hxx2, hxx3⟩, hxx4⟩ := Bxx_18.out
        obtain ⟨⟨hxy1, hxy2, hxy3⟩, hxy4⟩ := Bxy_18.out
        obtain ⟨⟨hxg1, hxg2, hxg3⟩, hxg4⟩ := Bxg_18.out
        go_wp2_with fail
        refine (heldD_any S Bg N dg EX 1 _ _ Owg_18.out.rt.1 Owg_18.out.rt.2 HN2.out (by omega) (by omega)).mono ?_
        rintro e w19 ⟨rfl, hb⟩
        have Bel_19 := Lib.hid (belNext Bel_18.out hb)
        have Sz_19 : Hid (w18.heap.size ≤ w19.heap.size) := Lib.hid hb.size
        have Bx0_19 := Lib.hid (Bx0_18.out.next hb)
        have Bx1_19 := Lib.hid (Bx1_18.out.next hb)
        have Bxe_19 := Lib.hid (Bxe_18.out.next hb)
        have Bxx_19 := Lib.hid (Bxx_18.out.next hb)
        have Bxy_19 := Lib.hid (Bxy_18.out.next hb)
        have Bxg_19 := Lib.hid (Bxg_18.out.next hb)
        have Ra0_19 := Lib.hid (Ra0_18.out.next hb)
        have Ra1_19 := Lib.hid (Ra1_18.out.next hb)
        have Owe_19 := Lib.hid (Owe_18.out.next hb)
        have Owx_19 := Lib.hid (Owx_18.out.next hb)
        have Owy_19 := Lib.hid (Owy_18.out.next hb)
        have Owg_19 := Lib.hid (Owg_18.out.next hb)
        clear hb Bel_18 Bx0_18 Bx1_18 Bxe_18 Bxx_18 Bxy_18 Bxg_18 Ra0_18 Ra1_18 Owe_18 Owx_18 Owy_18 Owg_18 hx01 hx02 hx03 hx04 hx11 hx12 hx13 hx14 hxe1 hxe2 hxe3 hxe4 hxx1 hxx2 hxx3 hxx4 hxy1 hxy2 hxy3 hxy4 hxg1 hxg2 hxg3 hxg4
        obtain ⟨⟨hx01, hx02, hx03⟩, hx04⟩ := Bx0_19.out
        obtain ⟨⟨hx11, hx12, hx13⟩, hx14⟩ := Bx1_19.out
        obtain ⟨⟨hxe1, hxe2, hxe3⟩, hxe4⟩ := Bxe_19.out
        obtain ⟨⟨hxx1, hxx2, hxx3⟩, hxx4⟩ := Bxx_19.out
        obtain ⟨⟨hxy1, hxy2, hxy3⟩, hxy4⟩ := Bxy_19.out
        obtain ⟨⟨hxg1, hxg2, hxg3⟩, hxg4⟩ := Bxg_19.out
        go_wp2_with fail
        clear Owx_19 Owy_19 Bxx_19 Bxy_19 hxx1 hxx2 hxx3 hxx4 hxy1 hxy2 hxy3 hxy4
        go_cut [17, 18] from 98 to 106 (fun t1 t2 wx => ∃ (bq : Nat) (Bq : Option Addr) (dq : Nat), t1 = .pointer (some ⟨bq, 0, none⟩) ∧ t2 = .int .i64 CD ∧ DBox wx bq S Bq N dq EX ∧ Ot wx w.heap.size wx.heap.size Bq (vi XS) ∧ w19.heap.size ≤ wx.heap.size ∧ Below w.heap.size w wx ∧ DBox wx (w.heap.size) s0 A0 n0 c0 E0 ∧ DBox wx (w.heap.size + 1) s1 A1 n1 c1 E1 ∧ DBox wx (be) S Be N de EX ∧ DBox wx (w8.heap.size) S Bg N dg EX ∧ Rt wx w.heap.size A0 (vi xs0) ∧ Rt wx w.heap.size A1 (vi xs1) ∧ Ot wx (w.heap.size) (w3.heap.size) Be (vi XS) ∧ Ot wx (w7.heap.size) (w8.heap.size) Bg (vi (marks 1 N)))
        case first =>
          refine wp_region_held_drew (S := fun w' => (w'.cell? ⟨w.heap.size, 0, none⟩ = some (.int .i64 s0) ∧ w'.cell? ⟨w.heap.size, 1, none⟩ = some (.slice A0 n0 c0) ∧ w'.cell? ⟨w.heap.size, 2, none⟩ = some (.int .i64 E0)) ∧ (w'.cell? ⟨w.heap.size + 1, 0, none⟩ = some (.int .i64 s1) ∧ w'.cell? ⟨w.heap.size + 1, 1, none⟩ = some (.slice A1 n1 c1) ∧ w'.cell? ⟨w.heap.size + 1, 2, none⟩ = some (.int .i64 E1))) (by kernel_rfl) ⟨Bx0_19.out.1, Bx1_19.out.1⟩ (fun hHeld => ?_)
          clear hx01 hx02 hx03 hx04 hx11 hx12 hx13 hx14 hxe1 hxe2 hxe3 hxe4 hxg1 hxg2 hxg3 hxg4
          refine wpAnyH_take (i := 0) (v := ?_) rfl (by kernel_rfl) (by kernel_rfl) (by kernel_rfl) (fun _ _ _ h => h) (Or.inl ⟨by rfl, ?_⟩) (by assumption) ?_
          rotate_left
          · (intro w hSw; (try dsimp only at hSw); go_simp; (try with_reducible rfl))
          try simp only [Act.put, List.setIfInBounds_toArray, List.set_cons_zero, List.set_cons_succ]
          refine wpAnyH_take (i := 2) (v := ?_) rfl (by kernel_rfl) (by kernel_rfl) (by kernel_rfl) (fun _ _ _ h => h) (Or.inl ⟨by rfl, ?_⟩) (by assumption) ?_
          rotate_left
          · (intro w hSw; (try dsimp only at hSw); go_simp; (try with_reducible rfl))
          try simp only [Act.put, List.setIfInBounds_toArray, List.set_cons_zero, List.set_cons_succ]
          refine wpAnyH_take (i := 4) (v := ?_) rfl (by kernel_rfl) (by kernel_rfl) (by kernel_rfl) (fun _ _ _ h => h) (Or.inl ⟨by rfl, ?_⟩) (by assumption) ?_
          rotate_left
          · (intro w hSw; (try dsimp only at hSw); go_simp; (try with_reducible rfl))
          try simp only [Act.put, List.setIfInBounds_toArray, List.set_cons_zero, List.set_cons_succ]
          refine wpAnyH_ready (rs := [1, 9]) (by kernel_rfl) (by simp) ?_
          refine AllReadyH.cons rfl (fun K hK => ?_) (AllReadyH.cons rfl (fun K hK => ?_) AllReadyH.nil)
          · go_simp
            refine (toD2_any s0 A0 n0 c0 E0 xs0 w19.drew _ Ra0_19.out.1 Ra0_19.out.2 Hn0.out Hle0.out).mono ?_
            rintro e w20 ⟨Bca, dca, rfl, ho, hb0, hcp⟩
            have Cpca := Lib.hid hcp
            have hb : Below w19.heap.size w19 w20 := belDrew hb0
            have Own := Lib.hid (Ot.new ho)
            refine hK.out _ _ ⟨(Bx0_19.out.next hb).1, (Bx1_19.out.next hb).1⟩ (fun hHeld => ?_)
            clear hK K hb0 ho hcp
            have Bel_20 := Lib.hid (belNext Bel_19.out hb)
            have Sz_20 : Hid (w19.heap.size ≤ w20.heap.size) := Lib.hid hb.size
            have Bx0_20 := Lib.hid (Bx0_19.out.next hb)
            have Bx1_20 := Lib.hid (Bx1_19.out.next hb)
            have Bxe_20 := Lib.hid (Bxe_19.out.next hb)
            have Bxg_20 := Lib.hid (Bxg_19.out.next hb)
            have Ra0_20 := Lib.hid (Ra0_19.out.next hb)
            have Ra1_20 := Lib.hid (Ra1_19.out.next hb)
            have Owe_20 := Lib.hid (Owe_19.out.next hb)
            have Owg_20 := Lib.hid (Owg_19.out.next hb)
            clear hb Bel_19 Bx0_19 Bx1_19 Bxe_19 Bxg_19 Ra0_19 Ra1_19 Owe_19 Owg_19
            have Owca_20 := Own
            clear Own
            try simp only [Act.put, List.setIfInBounds_toArray, List.set_cons_zero, List.set_cons_succ]
            refine wpAnyH_ready (rs := [3, 9]) (by kernel_rfl) (by simp) ?_
            refine AllReadyH.cons rfl (fun K hK => ?_) (AllReadyH.cons rfl (fun K hK => ?_) AllReadyH.nil)
            · go_simp
              refine (toD2_any s1 A1 n1 c1 E1 xs1 w20 _ Ra1_20.out.1 Ra1_20.out.2 Hn1.out Hle1.out).mono ?_
              rintro e w21 ⟨Bcb, dcb, rfl, ho, hb0, hcp⟩
              have Cpcb := Lib.hid hcp
              have hb : Below w20.heap.size w20 w21 := hb0
              have Own := Lib.hid (Ot.new ho)
              refine hK.out _ _ ⟨(Bx0_20.out.next hb).1, (Bx1_20.out.next hb).1⟩ (fun hHeld => ?_)
              clear hK K hb0 ho hcp
              have Bel_21 := Lib.hid (belNext Bel_20.out hb)
              have Sz_21 : Hid (w20.heap.size ≤ w21.heap.size) := Lib.hid hb.size
              have Bx0_21 := Lib.hid (Bx0_20.out.next hb)
              have Bx1_21 := Lib.hid (Bx1_20.out.next hb)
              have Bxe_21 := Lib.hid (Bxe_20.out.next hb)
              have Bxg_21 := Lib.hid (Bxg_20.out.next hb)
              have Ra0_21 := Lib.hid (Ra0_20.out.next hb)
              have Ra1_21 := Lib.hid (Ra1_20.out.next hb)
              have Owe_21 := Lib.hid (Owe_20.out.next hb)
              have Owg_21 := Lib.hid (Owg_20.out.next hb)
              have Owca_21 := Lib.hid (Owca_20.out.next hb)
              clear hb Bel_20 Bx0_20 Bx1_20 Bxe_20 Bxg_20 Ra0_20 Ra1_20 Owe_20 Owg_20 Owca_20
              have Owcb_21 := Own
              clear Own
              try simp only [Act.put, List.setIfInBounds_toArray, List.set_cons_zero, List.set_cons_succ]
              refine wpAnyH_ready (rs := [5, 9]) (by kernel_rfl) (by simp) ?_
              refine AllReadyH.cons rfl (fun K hK => ?_) (AllReadyH.cons rfl (fun K hK => ?_) AllReadyH.nil)
              · go_simp
                refine (implQbW_any s0 Bca n0 dca E0 xs0 s1 Bcb n1 dcb E1 xs1 k _ Owca_21.out.rt.all Hn0.out Hk0.out Owcb_21.out.rt.all Hn1.out Hk1.out Cpca.out Cpcb.out (HT.out.next Bel_21.out)).mono ?_
                rintro e w22 ⟨Sr, Bce, nr, dce, rfl, hv, hb0⟩
                obtain ⟨hs, hnn, ho⟩ := resFormD hv HS.out HN.out HX.out
                rw [hs, hnn, ← HEX.out, ← HCD.out]
                have hb : Below w21.heap.size w21 w22 := hb0
                have Own := Lib.hid (Ot.new ho)
                refine hK.out _ _ ⟨(Bx0_21.out.next hb).1, (Bx1_21.out.next hb).1⟩ (fun hHeld => ?_)
                clear hK K hb0 ho hv hs hnn
                have Bel_22 := Lib.hid (belNext Bel_21.out hb)
                have Sz_22 : Hid (w21.heap.size ≤ w22.heap.size) := Lib.hid hb.size
                have Bx0_22 := Lib.hid (Bx0_21.out.next hb)
                have Bx1_22 := Lib.hid (Bx1_21.out.next hb)
                have Bxe_22 := Lib.hid (Bxe_21.out.next hb)
                have Bxg_22 := Lib.hid (Bxg_21.out.next hb)
                have Ra0_22 := Lib.hid (Ra0_21.out.next hb)
                have Ra1_22 := Lib.hid (Ra1_21.out.next hb)
                have Owe_22 := Lib.hid (Owe_21.out.next hb)
                have Owg_22 := Lib.hid (Owg_21.out.next hb)
                have Owca_22 := Lib.hid (Owca_21.out.next hb)
                have Owcb_22 := Lib.hid (Owcb_21.out.next hb)
                clear hb Bel_21 Bx0_21 Bx1_21 Bxe_21 Bxg_21 Ra0_21 Ra1_21 Owe_21 Owg_21 Owca_21 Owcb_21
                have Owce_22 := Own
                clear Own
                try simp only [Act.put, List.setIfInBounds_toArray, List.set_cons_zero, List.set_cons_succ]
                refine wpAnyH_take (i := 6) (v := ?_) rfl (by kernel_rfl) (by kernel_rfl) (by kernel_rfl) (fun _ _ _ h => h) (Or.inl ⟨by rfl, ?_⟩) (by assumption) ?_
                rotate_left
                · (intro w hSw; (try dsimp only at hSw); go_simp; (try with_reducible rfl))
                try simp only [Act.put, List.setIfInBounds_toArray, List.set_cons_zero, List.set_cons_succ]
                refine wpAnyH_take (i := 7) (v := ?_) rfl (by kernel_rfl) (by kernel_rfl) (by kernel_rfl) (fun _ _ _ h => h) (Or.inl ⟨by rfl, ?_⟩) (by assumption) ?_
                rotate_left
                · (intro w hSw; (try dsimp only at hSw); go_simp; (try with_reducible rfl))
                try simp only [Act.put, List.setIfInBounds_toArray, List.set_cons_zero, List.set_cons_succ]
                refine wpAnyH_take (i := 8) (v := ?_) rfl (by kernel_rfl) (by kernel_rfl) (by kernel_rfl) (fun _ _ _ h => h) (Or.inl ⟨by rfl, ?_⟩) (by assumption) ?_
                rotate_left
                · (intro w hSw; (try dsimp only at hSw); go_simp; (try with_reducible rfl))
                try simp only [Act.put, List.setIfInBounds_toArray, List.set_cons_zero, List.set_cons_succ]
                refine wpAnyH_ready (rs := [9]) (by kernel_rfl) (by simp) ?_
                refine AllReadyH.cons rfl (fun K hK => ?_) AllReadyH.nil
                go_simp
                obtain ⟨w23, hw⟩ : ∃ w23, w23 = w22.alloc (.cells #[.int .i64 0, .slice none 0 0, .int .i64 0] 30) := ⟨_, rfl⟩
                have hb : Below w22.heap.size w22 w23 := by rw [hw]; exact belAlloc1 _ _
                have Sb_23 : Hid (w22.heap.size + 1 = w23.heap.size) := Lib.hid (by rw [hw]; simp)
                have Rs_23 : Hid (DRes w23 w22.heap.size) := Lib.hid (by rw [hw]; exact DRes.new _ _)
                rw [← hw]
                refine hK.out _ _ ⟨(Bx0_22.out.next hb).1, (Bx1_22.out.next hb).1⟩ (fun hHeld => ?_)
                clear hK K hw
                have Bel_23 := Lib.hid (belNext Bel_22.out hb)
                have Sz_23 : Hid (w22.heap.size ≤ w23.heap.size) := Lib.hid hb.size
                have Bx0_23 := Lib.hid (Bx0_22.out.next hb)
                have Bx1_23 := Lib.hid (Bx1_22.out.next hb)
                have Bxe_23 := Lib.hid (Bxe_22.out.next hb)
                have Bxg_23 := Lib.hid (Bxg_22.out.next hb)
                have Ra0_23 := Lib.hid (Ra0_22.out.next hb)
                have Ra1_23 := Lib.hid (Ra1_22.out.next hb)
                have Owe_23 := Lib.hid (Owe_22.out.next hb)
                have Owg_23 := Lib.hid (Owg_22.out.next hb)
                have Owca_23 := Lib.hid (Owca_22.out.next hb)
                have Owcb_23 := Lib.hid (Owcb_22.out.next hb)
                have Owce_23 := Lib.hid (Owce_22.out.next hb)
                clear hb Bel_22 Bx0_22 Bx1_22 Bxe_22 Bxg_22 Ra0_22 Ra1_22 Owe_22 Owg_22 Owca_22 Owcb_22 Owce_22
                try simp only [Act.put, List.setIfInBounds_toArray, List.set_cons_zero, List.set_cons_succ]
                refine wpAnyH_ready (rs := [10]) (by kernel_rfl) (by simp) ?_
                refine AllReadyH.cons rfl (fun K hK => ?_) AllReadyH.nil
                obtain ⟨⟨r0, r1, r2, r3, r4, r5⟩, r6⟩ := Rs_23.out
                go_simp
                refine hK.out _ (st3 w23 (w22.heap.size) S Bce N dce EX) ⟨(Bx0_23.out.st3_ (by have z0 := Sa_0.out; have z1 := Sz_1.out; have z2 := Sz_2.out; have z3 := Sz_3.out; have z4 := Sq_3.out; have z5 := Sz_4.out; have z6 := Sb_5.out; have z7 := Sz_5.out; have z8 := Sz_6.out; have z9 := Sb_7.out; have z10 := Sz_7.out; have z11 := Sz_8.out; have z12 := Sb_9.out; have z13 := Sz_9.out; have z14 := Sz_10.out; have z15 := Sz_11.out; have z16 := Sz_12.out; have z17 := Sz_13.out; have z18 := Sz_14.out; have z19 := Sz_15.out; have z20 := Sz_16.out; have z21 := Sz_17.out; have z22 := Sz_18.out; have z23 := Sz_19.out; have z24 := Sz_20.out; have z25 := Sz_21.out; have z26 := Sz_22.out; have z27 := Sb_23.out; have z28 := Sz_23.out; (try simp only [] at *); omega)).1, (Bx1_23.out.st3_ (by have z0 := Sa_0.out; have z1 := Sz_1.out; have z2 := Sz_2.out; have z3 := Sz_3.out; have z4 := Sq_3.out; have z5 := Sz_4.out; have z6 := Sb_5.out; have z7 := Sz_5.out; have z8 := Sz_6.out; have z9 := Sb_7.out; have z10 := Sz_7.out; have z11 := Sz_8.out; have z12 := Sb_9.out; have z13 := Sz_9.out; have z14 := Sz_10.out; have z15 := Sz_11.out; have z16 := Sz_12.out; have z17 := Sz_13.out; have z18 := Sz_14.out; have z19 := Sz_15.out; have z20 := Sz_16.out; have z21 := Sz_17.out; have z22 := Sz_18.out; have z23 := Sz_19.out; have z24 := Sz_20.out; have z25 := Sz_21.out; have z26 := Sz_22.out; have z27 := Sb_23.out; have z28 := Sz_23.out; (try simp only [] at *); omega)).1⟩ (fun hHeld => ?_)
                clear hK K
                try simp only [Act.put, List.setIfInBounds_toArray, List.set_cons_zero, List.set_cons_succ]
                refine wpAnyH_ready (rs := [11]) (by kernel_rfl) (by simp) ?_
                refine AllReadyH.cons rfl (fun K hK => ?_) AllReadyH.nil
                go_simp
                refine hK.out _ _ hHeld (fun hHeld => ?_)
                clear hK K hHeld
                try simp only [Act.put, List.setIfInBounds_toArray, List.set_cons_zero, List.set_cons_succ]
                refine wpAnyH_done (by kernel_rfl) ?_ _
                go_wp2_with fail
                go_meet
                exact ⟨w22.heap.size, Bce, dce, rfl, rfl, DBox.made r6 ⟨_, r0⟩ ⟨_, r1⟩ ⟨_, r2⟩, (Owce_23.out.st3_ (by have z0 := Sa_0.out; have z1 := Sz_1.out; have z2 := Sz_2.out; have z3 := Sz_3.out; have z4 := Sq_3.out; have z5 := Sz_4.out; have z6 := Sb_5.out; have z7 := Sz_5.out; have z8 := Sz_6.out; have z9 := Sb_7.out; have z10 := Sz_7.out; have z11 := Sz_8.out; have z12 := Sb_9.out; have z13 := Sz_9.out; have z14 := Sz_10.out; have z15 := Sz_11.out; have z16 := Sz_12.out; have z17 := Sz_13.out; have z18 := Sz_14.out; have z19 := Sz_15.out; have z20 := Sz_16.out; have z21 := Sz_17.out; have z22 := Sz_18.out; have z23 := Sz_19.out; have z24 := Sz_20.out; have z25 := Sz_21.out; have z26 := Sz_22.out; have z27 := Sb_23.out; have z28 := Sz_23.out; (try simp only [] at *); omega)).widen (by have z0 := Sa_0.out; have z1 := Sz_1.out; have z2 := Sz_2.out; have z3 := Sz_3.out; have z4 := Sq_3.out; have z5 := Sz_4.out; have z6 := Sb_5.out; have z7 := Sz_5.out; have z8 := Sz_6.out; have z9 := Sb_7.out; have z10 := Sz_7.out; have z11 := Sz_8.out; have z12 := Sb_9.out; have z13 := Sz_9.out; have z14 := Sz_10.out; have z15 := Sz_11.out; have z16 := Sz_12.out; have z17 := Sz_13.out; have z18 := Sz_14.out; have z19 := Sz_15.out; have z20 := Sz_16.out; have z21 := Sz_17.out; have z22 := Sz_18.out; have z23 := Sz_19.out; have z24 := Sz_20.out; have z25 := Sz_21.out; have z26 := Sz_22.out; have z27 := Sb_23.out; have z28 := Sz_23.out; (try simp only [] at *); omega) (by rw [st3_size]; exact Owce_23.out.2) (Nat.le_refl _), (by rw [st3_size]; exact (by have z0 := Sa_0.out; have z1 := Sz_1.out; have z2 := Sz_2.out; have z3 := Sz_3.out; have z4 := Sq_3.out; have z5 := Sz_4.out; have z6 := Sb_5.out; have z7 := Sz_5.out; have z8 := Sz_6.out; have z9 := Sb_7.out; have z10 := Sz_7.out; have z11 := Sz_8.out; have z12 := Sb_9.out; have z13 := Sz_9.out; have z14 := Sz_10.out; have z15 := Sz_11.out; have z16 := Sz_12.out; have z17 := Sz_13.out; have z18 := Sz_14.out; have z19 := Sz_15.out; have z20 := Sz_16.out; have z21 := Sz_17.out; have z22 := Sz_18.out; have z23 := Sz_19.out; have z24 := Sz_20.out; have z25 := Sz_21.out; have z26 := Sz_22.out; have z27 := Sb_23.out; have z28 := Sz_23.out; (try simp only [] at *); omega)), belSt3 Bel_23.out (by have z0 := Sa_0.out; have z1 := Sz_1.out; have z2 := Sz_2.out; have z3 := Sz_3.out; have z4 := Sq_3.out; have z5 := Sz_4.out; have z6 := Sb_5.out; have z7 := Sz_5.out; have z8 := Sz_6.out; have z9 := Sb_7.out; have z10 := Sz_7.out; have z11 := Sz_8.out; have z12 := Sb_9.out; have z13 := Sz_9.out; have z14 := Sz_10.out; have z15 := Sz_11.out; have z16 := Sz_12.out; have z17 := Sz_13.out; have z18 := Sz_14.out; have z19 := Sz_15.out; have z20 := Sz_16.out; have z21 := Sz_17.out; have z22 := Sz_18.out; have z23 := Sz_19.out; have z24 := Sz_20.out; have z25 := Sz_21.out; have z26 := Sz_22.out; have z27 := Sb_23.out; have z28 := Sz_23.out; (try simp only [] at *); omega), Bx0_23.out.st3_ (by have z0 := Sa_0.out; have z1 := Sz_1.out; have z2 := Sz_2.out; have z3 := Sz_3.out; have z4 := Sq_3.out; have z5 := Sz_4.out; have z6 := Sb_5.out; have z7 := Sz_5.out; have z8 := Sz_6.out; have z9 := Sb_7.out; have z10 := Sz_7.out; have z11 := Sz_8.out; have z12 := Sb_9.out; have z13 := Sz_9.out; have z14 := Sz_10.out; have z15 := Sz_11.out; have z16 := Sz_12.out; have z17 := Sz_13.out; have z18 := Sz_14.out; have z19 := Sz_15.out; have z20 := Sz_16.out; have z21 := Sz_17.out; have z22 := Sz_18.out; have z23 := Sz_19.out; have z24 := Sz_20.out; have z25 := Sz_21.out; have z26 := Sz_22.out; have z27 := Sb_23.out; have z28 := Sz_23.out; (try simp only [] at *); omega), Bx1_23.out.st3_ (by have z0 := Sa_0.out; have z1 := Sz_1.out; have z2 := Sz_2.out; have z3 := Sz_3.out; have z4 := Sq_3.out; have z5 := Sz_4.out; have z6 := Sb_5.out; have z7 := Sz_5.out; have z8 := Sz_6.out; have z9 := Sb_7.out; have z10 := Sz_7.out; have z11 := Sz_8.out; have z12 := Sb_9.out; have z13 := Sz_9.out; have z14 := Sz_10.out; have z15 := Sz_11.out; have z16 := Sz_12.out; have z17 := Sz_13.out; have z18 := Sz_14.out; have z19 := Sz_15.out; have z20 := Sz_16.out; have z21 := Sz_17.out; have z22 := Sz_18.out; have z23 := Sz_19.out; have z24 := Sz_20.out; have z25 := Sz_21.out; have z26 := Sz_22.out; have z27 := Sb_23.out; have z28 := Sz_23.out; (try simp only [] at *); omega), Bxe_23.out.st3_ (by have z0 := Sa_0.out; have z1 := Sz_1.out; have z2 := Sz_2.out; have z3 := Sz_3.out; have z4 := Sq_3.out; have z5 := Sz_4.out; have z6 := Sb_5.out; have z7 := Sz_5.out; have z8 := Sz_6.out; have z9 := Sb_7.out; have z10 := Sz_7.out; have z11 := Sz_8.out; have z12 := Sb_9.out; have z13 := Sz_9.out; have z14 := Sz_10.out; have z15 := Sz_11.out; have z16 := Sz_12.out; have z17 := Sz_13.out; have z18 := Sz_14.out; have z19 := Sz_15.out; have z20 := Sz_16.out; have z21 := Sz_17.out; have z22 := Sz_18.out; have z23 := Sz_19.out; have z24 := Sz_20.out; have z25 := Sz_21.out; have z26 := Sz_22.out; have z27 := Sb_23.out; have z28 := Sz_23.out; (try simp only [] at *); omega), Bxg_23.out.st3_ (by have z0 := Sa_0.out; have z1 := Sz_1.out; have z2 := Sz_2.out; have z3 := Sz_3.out; have z4 := Sq_3.out; have z5 := Sz_4.out; have z6 := Sb_5.out; have z7 := Sz_5.out; have z8 := Sz_6.out; have z9 := Sb_7.out; have z10 := Sz_7.out; have z11 := Sz_8.out; have z12 := Sb_9.out; have z13 := Sz_9.out; have z14 := Sz_10.out; have z15 := Sz_11.out; have z16 := Sz_12.out; have z17 := Sz_13.out; have z18 := Sz_14.out; have z19 := Sz_15.out; have z20 := Sz_16.out; have z21 := Sz_17.out; have z22 := Sz_18.out; have z23 := Sz_19.out; have z24 := Sz_20.out; have z25 := Sz_21.out; have z26 := Sz_22.out; have z27 := Sb_23.out; have z28 := Sz_23.out; (try simp only [] at *); omega), Ra0_23.out.st3_ (by have z0 := Sa_0.out; have z1 := Sz_1.out; have z2 := Sz_2.out; have z3 := Sz_3.out; have z4 := Sq_3.out; have z5 := Sz_4.out; have z6 := Sb_5.out; have z7 := Sz_5.out; have z8 := Sz_6.out; have z9 := Sb_7.out; have z10 := Sz_7.out; have z11 := Sz_8.out; have z12 := Sb_9.out; have z13 := Sz_9.out; have z14 := Sz_10.out; have z15 := Sz_11.out; have z16 := Sz_12.out; have z17 := Sz_13.out; have z18 := Sz_14.out; have z19 := Sz_15.out; have z20 := Sz_16.out; have z21 := Sz_17.out; have z22 := Sz_18.out; have z23 := Sz_19.out; have z24 := Sz_20.out; have z25 := Sz_21.out; have z26 := Sz_22.out; have z27 := Sb_23.out; have z28 := Sz_23.out; (try simp only [] at *); omega), Ra1_23.out.st3_ (by have z0 := Sa_0.out; have z1 := Sz_1.out; have z2 := Sz_2.out; have z3 := Sz_3.out; have z4 := Sq_3.out; have z5 := Sz_4.out; have z6 := Sb_5.out; have z7 := Sz_5.out; have z8 := Sz_6.out; have z9 := Sb_7.out; have z10 := Sz_7.out; have z11 := Sz_8.out; have z12 := Sb_9.out; have z13 := Sz_9.out; have z14 := Sz_10.out; have z15 := Sz_11.out; have z16 := Sz_12.out; have z17 := Sz_13.out; have z18 := Sz_14.out; have z19 := Sz_15.out; have z20 := Sz_16.out; have z21 := Sz_17.out; have z22 := Sz_18.out; have z23 := Sz_19.out; have z24 := Sz_20.out; have z25 := Sz_21.out; have z26 := Sz_22.out; have z27 := Sb_23.out; have z28 := Sz_23.out; (try simp only [] at *); omega), Owe_23.out.st3_ (by have z0 := Sa_0.out; have z1 := Sz_1.out; have z2 := Sz_2.out; have z3 := Sz_3.out; have z4 := Sq_3.out; have z5 := Sz_4.out; have z6 := Sb_5.out; have z7 := Sz_5.out; have z8 := Sz_6.out; have z9 := Sb_7.out; have z10 := Sz_7.out; have z11 := Sz_8.out; have z12 := Sb_9.out; have z13 := Sz_9.out; have z14 := Sz_10.out; have z15 := Sz_11.out; have z16 := Sz_12.out; have z17 := Sz_13.out; have z18 := Sz_14.out; have z19 := Sz_15.out; have z20 := Sz_16.out; have z21 := Sz_17.out; have z22 := Sz_18.out; have z23 := Sz_19.out; have z24 := Sz_20.out; have z25 := Sz_21.out; have z26 := Sz_22.out; have z27 := Sb_23.out; have z28 := Sz_23.out; (try simp only [] at *); omega), Owg_23.out.st3_ (by have z0 := Sa_0.out; have z1 := Sz_1.out; have z2 := Sz_2.out; have z3 := Sz_3.out; have z4 := Sq_3.out; have z5 := Sz_4.out; have z6 := Sb_5.out; have z7 := Sz_5.out; have z8 := Sz_6.out; have z9 := Sb_7.out; have z10 := Sz_7.out; have z11 := Sz_8.out; have z12 := Sb_9.out; have z13 := Sz_9.out; have z14 := Sz_10.out; have z15 := Sz_11.out; have z16 := Sz_12.out; have z17 := Sz_13.out; have z18 := Sz_14.out; have z19 := Sz_15.out; have z20 := Sz_16.out; have z21 := Sz_17.out; have z22 := Sz_18.out; have z23 := Sz_19.out; have z24 := Sz_20.out; have z25 := Sz_21.out; have z26 := Sz_22.out; have z27 := Sb_23.out; have z28 := Sz_23.out; (try simp only [] at *); omega)⟩
              · go_simp
                obtain ⟨w22, hw⟩ : ∃ w22, w22 = w21.alloc (.cells #[.int .i64 0, .slice none 0 0, .int .i64 0] 30) := ⟨_, rfl⟩
                have hb : Below w21.heap.size w21 w22 := by rw [hw]; exact belAlloc1 _ _
                have Sb_22 : Hid (w21.heap.size + 1 = w22.heap.size) := Lib.hid (by rw [hw]; simp)
                have Rs_22 : Hid (DRes w22 w21.heap.size) := Lib.hid (by rw [hw]; exact DRes.new _ _)
                rw [← hw]
                refine hK.out _ _ ⟨(Bx0_21.out.next hb).1, (Bx1_21.out.next hb).1⟩ (fun hHeld => ?_)
                clear hK K hw
                have Bel_22 := Lib.hid (belNext Bel_21.out hb)
                have Sz_22 : Hid (w21.heap.size ≤ w22.heap.size) := Lib.hid hb.size
                have Bx0_22 := Lib.hid (Bx0_21.out.next hb)
                have Bx1_22 := Lib.hid (Bx1_21.out.next hb)
                have Bxe_22 := Lib.hid (Bxe_21.out.next hb)
                have Bxg_22 := Lib.hid (Bxg_21.out.next hb)
                have Ra0_22 := Lib.hid (Ra0_21.out.next hb)
                have Ra1_22 := Lib.hid (Ra1_21.out.next hb)
                have Owe_22 := Lib.hid (Owe_21.out.next hb)
                have Owg_22 := Lib.hid (Owg_21.out.next hb)
                have Owca_22 := Lib.hid (Owca_21.out.next hb)
                have Owcb_22 := Lib.hid (Owcb_21.out.next hb)
                clear hb Bel_21 Bx0_21 Bx1_21 Bxe_21 Bxg_21 Ra0_21 Ra1_21 Owe_21 Owg_21 Owca_21 Owcb_21
                try simp only [Act.put, List.setIfInBounds_toArray, List.set_cons_zero, List.set_cons_succ]
                refine wpAnyH_ready (rs := [5]) (by kernel_rfl) (by simp) ?_
                refine AllReadyH.cons rfl (fun K hK => ?_) AllReadyH.nil
                go_simp
                refine (implQbW_any s0 Bca n0 dca E0 xs0 s1 Bcb n1 dcb E1 xs1 k _ Owca_22.out.rt.all Hn0.out Hk0.out Owcb_22.out.rt.all Hn1.out Hk1.out Cpca.out Cpcb.out (HT.out.next Bel_22.out)).mono ?_
                rintro e w23 ⟨Sr, Bce, nr, dce, rfl, hv, hb0⟩
                obtain ⟨hs, hnn, ho⟩ := resFormD hv HS.out HN.out HX.out
                rw [hs, hnn, ← HEX.out, ← HCD.out]
                have hb : Below w22.heap.size w22 w23 := hb0
                have Own := Lib.hid (Ot.new ho)
                refine hK.out _ _ ⟨(Bx0_22.out.next hb).1, (Bx1_22.out.next hb).1⟩ (fun hHeld => ?_)
                clear hK K hb0 ho hv hs hnn
                have Bel_23 := Lib.hid (belNext Bel_22.out hb)
                have Sz_23 : Hid (w22.heap.size ≤ w23.heap.size) := Lib.hid hb.size
                have Rs_23 := Lib.hid (Rs_22.out.next hb)
                have Bx0_23 := Lib.hid (Bx0_22.out.next hb)
                have Bx1_23 := Lib.hid (Bx1_22.out.next hb)
                have Bxe_23 := Lib.hid (Bxe_22.out.next hb)
                have Bxg_23 := Lib.hid (Bxg_22.out.next hb)
                have Ra0_23 := Lib.hid (Ra0_22.out.next hb)
                have Ra1_23 := Lib.hid (Ra1_22.out.next hb)
                have Owe_23 := Lib.hid (Owe_22.out.next hb)
                have Owg_23 := Lib.hid (Owg_22.out.next hb)
                have Owca_23 := Lib.hid (Owca_22.out.next hb)
                have Owcb_23 := Lib.hid (Owcb_22.out.next hb)
                clear hb Bel_22 Bx0_22 Bx1_22 Bxe_22 Bxg_22 Ra0_22 Ra1_22 Owe_22 Owg_22 Owca_22 Owcb_22
                have Owce_23 := Own
                clear Own
                try simp only [Act.put, List.setIfInBounds_toArray, List.set_cons_zero, List.set_cons_succ]
                refine wpAnyH_take (i := 6) (v := ?_) rfl (by kernel_rfl) (by kernel_rfl) (by kernel_rfl) (fun _ _ _ h => h) (Or.inl ⟨by rfl, ?_⟩) (by assumption) ?_
                rotate_left
                · (intro w hSw; (try dsimp only at hSw); go_simp; (try with_reducible rfl))
                try simp only [Act.put, List.setIfInBounds_toArray, List.set_cons_zero, List.set_cons_succ]
                refine wpAnyH_take (i := 7) (v := ?_) rfl (by kernel_rfl) (by kernel_rfl) (by kernel_rfl) (fun _ _ _ h => h) (Or.inl ⟨by rfl, ?_⟩) (by assumption) ?_
                rotate_left
                · (intro w hSw; (try dsimp only at hSw); go_simp; (try with_reducible rfl))
                try simp only [Act.put, List.setIfInBounds_toArray, List.set_cons_zero, List.set_cons_succ]
                refine wpAnyH_take (i := 8) (v := ?_) rfl (by kernel_rfl) (by kernel_rfl) (by kernel_rfl) (fun _ _ _ h => h) (Or.inl ⟨by rfl, ?_⟩) (by assumption) ?_
                rotate_left
                · (intro w hSw; (try dsimp only at hSw); go_simp; (try with_reducible rfl))
                try simp only [Act.put, List.setIfInBounds_toArray, List.set_cons_zero, List.set_cons_succ]
                refine wpAnyH_ready (rs := [10]) (by kernel_rfl) (by simp) ?_
                refine AllReadyH.cons rfl (fun K hK => ?_) AllReadyH.nil
                obtain ⟨⟨r0, r1, r2, r3, r4, r5⟩, r6⟩ := Rs_23.out
                go_simp
                refine hK.out _ (st3 w23 (w21.heap.size) S Bce N dce EX) ⟨(Bx0_23.out.st3_ (by have z0 := Sa_0.out; have z1 := Sz_1.out; have z2 := Sz_2.out; have z3 := Sz_3.out; have z4 := Sq_3.out; have z5 := Sz_4.out; have z6 := Sb_5.out; have z7 := Sz_5.out; have z8 := Sz_6.out; have z9 := Sb_7.out; have z10 := Sz_7.out; have z11 := Sz_8.out; have z12 := Sb_9.out; have z13 := Sz_9.out; have z14 := Sz_10.out; have z15 := Sz_11.out; have z16 := Sz_12.out; have z17 := Sz_13.out; have z18 := Sz_14.out; have z19 := Sz_15.out; have z20 := Sz_16.out; have z21 := Sz_17.out; have z22 := Sz_18.out; have z23 := Sz_19.out; have z24 := Sz_20.out; have z25 := Sz_21.out; have z26 := Sb_22.out; have z27 := Sz_22.out; have z28 := Sz_23.out; (try simp only [] at *); omega)).1, (Bx1_23.out.st3_ (by have z0 := Sa_0.out; have z1 := Sz_1.out; have z2 := Sz_2.out; have z3 := Sz_3.out; have z4 := Sq_3.out; have z5 := Sz_4.out; have z6 := Sb_5.out; have z7 := Sz_5.out; have z8 := Sz_6.out; have z9 := Sb_7.out; have z10 := Sz_7.out; have z11 := Sz_8.out; have z12 := Sb_9.out; have z13 := Sz_9.out; have z14 := Sz_10.out; have z15 := Sz_11.out; have z16 := Sz_12.out; have z17 := Sz_13.out; have z18 := Sz_14.out; have z19 := Sz_15.out; have z20 := Sz_16.out; have z21 := Sz_17.out; have z22 := Sz_18.out; have z23 := Sz_19.out; have z24 := Sz_20.out; have z25 := Sz_21.out; have z26 := Sb_22.out; have z27 := Sz_22.out; have z28 := Sz_23.out; (try simp only [] at *); omega)).1⟩ (fun hHeld => ?_)
                clear hK K
                try simp only [Act.put, List.setIfInBounds_toArray, List.set_cons_zero, List.set_cons_succ]
                refine wpAnyH_ready (rs := [11]) (by kernel_rfl) (by simp) ?_
                refine AllReadyH.cons rfl (fun K hK => ?_) AllReadyH.nil
                go_simp
                refine hK.out _ _ hHeld (fun hHeld => ?_)
                clear hK K hHeld
                try simp only [Act.put, List.setIfInBounds_toArray, List.set_cons_zero, List.set_cons_succ]
                refine wpAnyH_done (by kernel_rfl) ?_ _
                go_wp2_with fail
                go_meet
                exact ⟨w21.heap.size, Bce, dce, rfl, rfl, DBox.made r6 ⟨_, r0⟩ ⟨_, r1⟩ ⟨_, r2⟩, (Owce_23.out.st3_ (by have z0 := Sa_0.out; have z1 := Sz_1.out; have z2 := Sz_2.out; have z3 := Sz_3.out; have z4 := Sq_3.out; have z5 := Sz_4.out; have z6 := Sb_5.out; have z7 := Sz_5.out; have z8 := Sz_6.out; have z9 := Sb_7.out; have z10 := Sz_7.out; have z11 := Sz_8.out; have z12 := Sb_9.out; have z13 := Sz_9.out; have z14 := Sz_10.out; have z15 := Sz_11.out; have z16 := Sz_12.out; have z17 := Sz_13.out; have z18 := Sz_14.out; have z19 := Sz_15.out; have z20 := Sz_16.out; have z21 := Sz_17.out; have z22 := Sz_18.out; have z23 := Sz_19.out; have z24 := Sz_20.out; have z25 := Sz_21.out; have z26 := Sb_22.out; have z27 := Sz_22.out; have z28 := Sz_23.out; (try simp only [] at *); omega)).widen (by have z0 := Sa_0.out; have z1 := Sz_1.out; have z2 := Sz_2.out; have z3 := Sz_3.out; have z4 := Sq_3.out; have z5 := Sz_4.out; have z6 := Sb_5.out; have z7 := Sz_5.out; have z8 := Sz_6.out; have z9 := Sb_7.out; have z10 := Sz_7.out; have z11 := Sz_8.out; have z12 := Sb_9.out; have z13 := Sz_9.out; have z14 := Sz_10.out; have z15 := Sz_11.out; have z16 := Sz_12.out; have z17 := Sz_13.out; have z18 := Sz_14.out; have z19 := Sz_15.out; have z20 := Sz_16.out; have z21 := Sz_17.out; have z22 := Sz_18.out; have z23 := Sz_19.out; have z24 := Sz_20.out; have z25 := Sz_21.out; have z26 := Sb_22.out; have z27 := Sz_22.out; have z28 := Sz_23.out; (try simp only [] at *); omega) (by rw [st3_size]; exact Owce_23.out.2) (Nat.le_refl _), (by rw [st3_size]; exact (by have z0 := Sa_0.out; have z1 := Sz_1.out; have z2 := Sz_2.out; have z3 := Sz_3.out; have z4 := Sq_3.out; have z5 := Sz_4.out; have z6 := Sb_5.out; have z7 := Sz_5.out; have z8 := Sz_6.out; have z9 := Sb_7.out; have z10 := Sz_7.out; have z11 := Sz_8.out; have z12 := Sb_9.out; have z13 := Sz_9.out; have z14 := Sz_10.out; have z15 := Sz_11.out; have z16 := Sz_12.out; have z17 := Sz_13.out; have z18 := Sz_14.out; have z19 := Sz_15.out; have z20 := Sz_16.out; have z21 := Sz_17.out; have z22 := Sz_18.out; have z23 := Sz_19.out; have z24 := Sz_20.out; have z25 := Sz_21.out; have z26 := Sb_22.out; have z27 := Sz_22.out; have z28 := Sz_23.out; (try simp only [] at *); omega)), belSt3 Bel_23.out (by have z0 := Sa_0.out; have z1 := Sz_1.out; have z2 := Sz_2.out; have z3 := Sz_3.out; have z4 := Sq_3.out; have z5 := Sz_4.out; have z6 := Sb_5.out; have z7 := Sz_5.out; have z8 := Sz_6.out; have z9 := Sb_7.out; have z10 := Sz_7.out; have z11 := Sz_8.out; have z12 := Sb_9.out; have z13 := Sz_9.out; have z14 := Sz_10.out; have z15 := Sz_11.out; have z16 := Sz_12.out; have z17 := Sz_13.out; have z18 := Sz_14.out; have z19 := Sz_15.out; have z20 := Sz_16.out; have z21 := Sz_17.out; have z22 := Sz_18.out; have z23 := Sz_19.out; have z24 := Sz_20.out; have z25 := Sz_21.out; have z26 := Sb_22.out; have z27 := Sz_22.out; have z28 := Sz_23.out; (try simp only [] at *); omega), Bx0_23.out.st3_ (by have z0 := Sa_0.out; have z1 := Sz_1.out; have z2 := Sz_2.out; have z3 := Sz_3.out; have z4 := Sq_3.out; have z5 := Sz_4.out; have z6 := Sb_5.out; have z7 := Sz_5.out; have z8 := Sz_6.out; have z9 := Sb_7.out; have z10 := Sz_7.out; have z11 := Sz_8.out; have z12 := Sb_9.out; have z13 := Sz_9.out; have z14 := Sz_10.out; have z15 := Sz_11.out; have z16 := Sz_12.out; have z17 := Sz_13.out; have z18 := Sz_14.out; have z19 := Sz_15.out; have z20 := Sz_16.out; have z21 := Sz_17.out; have z22 := Sz_18.out; have z23 := Sz_19.out; have z24 := Sz_20.out; have z25 := Sz_21.out; have z26 := Sb_22.out; have z27 := Sz_22.out; have z28 := Sz_23.out; (try simp only [] at *); omega), Bx1_23.out.st3_ (by have z0 := Sa_0.out; have z1 := Sz_1.out; have z2 := Sz_2.out; have z3 := Sz_3.out; have z4 := Sq_3.out; have z5 := Sz_4.out; have z6 := Sb_5.out; have z7 := Sz_5.out; have z8 := Sz_6.out; have z9 := Sb_7.out; have z10 := Sz_7.out; have z11 := Sz_8.out; have z12 := Sb_9.out; have z13 := Sz_9.out; have z14 := Sz_10.out; have z15 := Sz_11.out; have z16 := Sz_12.out; have z17 := Sz_13.out; have z18 := Sz_14.out; have z19 := Sz_15.out; have z20 := Sz_16.out; have z21 := Sz_17.out; have z22 := Sz_18.out; have z23 := Sz_19.out; have z24 := Sz_20.out; have z25 := Sz_21.out; have z26 := Sb_22.out; have z27 := Sz_22.out; have z28 := Sz_23.out; (try simp only [] at *); omega), Bxe_23.out.st3_ (by have z0 := Sa_0.out; have z1 := Sz_1.out; have z2 := Sz_2.out; have z3 := Sz_3.out; have z4 := Sq_3.out; have z5 := Sz_4.out; have z6 := Sb_5.out; have z7 := Sz_5.out; have z8 := Sz_6.out; have z9 := Sb_7.out; have z10 := Sz_7.out; have z11 := Sz_8.out; have z12 := Sb_9.out; have z13 := Sz_9.out; have z14 := Sz_10.out; have z15 := Sz_11.out; have z16 := Sz_12.out; have z17 := Sz_13.out; have z18 := Sz_14.out; have z19 := Sz_15.out; have z20 := Sz_16.out; have z21 := Sz_17.out; have z22 := Sz_18.out; have z23 := Sz_19.out; have z24 := Sz_20.out; have z25 := Sz_21.out; have z26 := Sb_22.out; have z27 := Sz_22.out; have z28 := Sz_23.out; (try simp only [] at *); omega), Bxg_23.out.st3_ (by have z0 := Sa_0.out; have z1 := Sz_1.out; have z2 := Sz_2.out; have z3 := Sz_3.out; have z4 := Sq_3.out; have z5 := Sz_4.out; have z6 := Sb_5.out; have z7 := Sz_5.out; have z8 := Sz_6.out; have z9 := Sb_7.out; have z10 := Sz_7.out; have z11 := Sz_8.out; have z12 := Sb_9.out; have z13 := Sz_9.out; have z14 := Sz_10.out; have z15 := Sz_11.out; have z16 := Sz_12.out; have z17 := Sz_13.out; have z18 := Sz_14.out; have z19 := Sz_15.out; have z20 := Sz_16.out; have z21 := Sz_17.out; have z22 := Sz_18.out; have z23 := Sz_19.out; have z24 := Sz_20.out; have z25 := Sz_21.out; have z26 := Sb_22.out; have z27 := Sz_22.out; have z28 := Sz_23.out; (try simp only [] at *); omega), Ra0_23.out.st3_ (by have z0 := Sa_0.out; have z1 := Sz_1.out; have z2 := Sz_2.out; have z3 := Sz_3.out; have z4 := Sq_3.out; have z5 := Sz_4.out; have z6 := Sb_5.out; have z7 := Sz_5.out; have z8 := Sz_6.out; have z9 := Sb_7.out; have z10 := Sz_7.out; have z11 := Sz_8.out; have z12 := Sb_9.out; have z13 := Sz_9.out; have z14 := Sz_10.out; have z15 := Sz_11.out; have z16 := Sz_12.out; have z17 := Sz_13.out; have z18 := Sz_14.out; have z19 := Sz_15.out; have z20 := Sz_16.out; have z21 := Sz_17.out; have z22 := Sz_18.out; have z23 := Sz_19.out; have z24 := Sz_20.out; have z25 := Sz_21.out; have z26 := Sb_22.out; have z27 := Sz_22.out; have z28 := Sz_23.out; (try simp only [] at *); omega), Ra1_23.out.st3_ (by have z0 := Sa_0.out; have z1 := Sz_1.out; have z2 := Sz_2.out; have z3 := Sz_3.out; have z4 := Sq_3.out; have z5 := Sz_4.out; have z6 := Sb_5.out; have z7 := Sz_5.out; have z8 := Sz_6.out; have z9 := Sb_7.out; have z10 := Sz_7.out; have z11 := Sz_8.out; have z12 := Sb_9.out; have z13 := Sz_9.out; have z14 := Sz_10.out; have z15 := Sz_11.out; have z16 := Sz_12.out; have z17 := Sz_13.out; have z18 := Sz_14.out; have z19 := Sz_15.out; have z20 := Sz_16.out; have z21 := Sz_17.out; have z22 := Sz_18.out; have z23 := Sz_19.out; have z24 := Sz_20.out; have z25 := Sz_21.out; have z26 := Sb_22.out; have z27 := Sz_22.out; have z28 := Sz_23.out; (try simp only [] at *); omega), Owe_23.out.st3_ (by have z0 := Sa_0.out; have z1 := Sz_1.out; have z2 := Sz_2.out; have z3 := Sz_3.out; have z4 := Sq_3.out; have z5 := Sz_4.out; have z6 := Sb_5.out; have z7 := Sz_5.out; have z8 := Sz_6.out; have z9 := Sb_7.out; have z10 := Sz_7.out; have z11 := Sz_8.out; have z12 := Sb_9.out; have z13 := Sz_9.out; have z14 := Sz_10.out; have z15 := Sz_11.out; have z16 := Sz_12.out; have z17 := Sz_13.out; have z18 := Sz_14.out; have z19 := Sz_15.out; have z20 := Sz_16.out; have z21 := Sz_17.out; have z22 := Sz_18.out; have z23 := Sz_19.out; have z24 := Sz_20.out; have z25 := Sz_21.out; have z26 := Sb_22.out; have z27 := Sz_22.out; have z28 := Sz_23.out; (try simp only [] at *); omega), Owg_23.out.st3_ (by have z0 := Sa_0.out; have z1 := Sz_1.out; have z2 := Sz_2.out; have z3 := Sz_3.out; have z4 := Sq_3.out; have z5 := Sz_4.out; have z6 := Sb_5.out; have z7 := Sz_5.out; have z8 := Sz_6.out; have z9 := Sb_7.out; have z10 := Sz_7.out; have z11 := Sz_8.out; have z12 := Sb_9.out; have z13 := Sz_9.out; have z14 := Sz_10.out; have z15 := Sz_11.out; have z16 := Sz_12.out; have z17 := Sz_13.out; have z18 := Sz_14.out; have z19 := Sz_15.out; have z20 := Sz_16.out; have z21 := Sz_17.out; have z22 := Sz_18.out; have z23 := Sz_19.out; have z24 := Sz_20.out; have z25 := Sz_21.out; have z26 := Sb_22.out; have z27 := Sz_22.out; have z28 := Sz_23.out; (try simp only [] at *); omega)⟩
            · go_simp
              obtain ⟨w21, hw⟩ : ∃ w21, w21 = w20.alloc (.cells #[.int .i64 0, .slice none 0 0, .int .i64 0] 30) := ⟨_, rfl⟩
              have hb : Below w20.heap.size w20 w21 := by rw [hw]; exact belAlloc1 _ _
              have Sb_21 : Hid (w20.heap.size + 1 = w21.heap.size) := Lib.hid (by rw [hw]; simp)
              have Rs_21 : Hid (DRes w21 w20.heap.size) := Lib.hid (by rw [hw]; exact DRes.new _ _)
              rw [← hw]
              refine hK.out _ _ ⟨(Bx0_20.out.next hb).1, (Bx1_20.out.next hb).1⟩ (fun hHeld => ?_)
              clear hK K hw
              have Bel_21 := Lib.hid (belNext Bel_20.out hb)
              have Sz_21 : Hid (w20.heap.size ≤ w21.heap.size) := Lib.hid hb.size
              have Bx0_21 := Lib.hid (Bx0_20.out.next hb)
              have Bx1_21 := Lib.hid (Bx1_20.out.next hb)
              have Bxe_21 := Lib.hid (Bxe_20.out.next hb)
              have Bxg_21 := Lib.hid (Bxg_20.out.next hb)
              have Ra0_21 := Lib.hid (Ra0_20.out.next hb)
              have Ra1_21 := Lib.hid (Ra1_20.out.next hb)
              have Owe_21 := Lib.hid (Owe_20.out.next hb)
              have Owg_21 := Lib.hid (Owg_20.out.next hb)
              have Owca_21 := Lib.hid (Owca_20.out.next hb)
              clear hb Bel_20 Bx0_20 Bx1_20 Bxe_20 Bxg_20 Ra0_20 Ra1_20 Owe_20 Owg_20 Owca_20
              try simp only [Act.put, List.setIfInBounds_toArray, List.set_cons_zero, List.set_cons_succ]
              refine wpAnyH_ready (rs := [3]) (by kernel_rfl) (by simp) ?_
              refine AllReadyH.cons rfl (fun K hK => ?_) AllReadyH.nil
              go_simp
              refine (toD2_any s1 A1 n1 c1 E1 xs1 w21 _ Ra1_21.out.1 Ra1_21.out.2 Hn1.out Hle1.out).mono ?_
              rintro e w22 ⟨Bcb, dcb, rfl, ho, hb0, hcp⟩
              have Cpcb := Lib.hid hcp
              have hb : Below w21.heap.size w21 w22 := hb0
              have Own := Lib.hid (Ot.new ho)
              refine hK.out _ _ ⟨(Bx0_21.out.next hb).1, (Bx1_21.out.next hb).1⟩ (fun hHeld => ?_)
              clear hK K hb0 ho hcp
              have Bel_22 := Lib.hid (belNext Bel_21.out hb)
              have Sz_22 : Hid (w21.heap.size ≤ w22.heap.size) := Lib.hid hb.size
              have Rs_22 := Lib.hid (Rs_21.out.next hb)
              have Bx0_22 := Lib.hid (Bx0_21.out.next hb)
              have Bx1_22 := Lib.hid (Bx1_21.out.next hb)
              have Bxe_22 := Lib.hid (Bxe_21.out.next hb)
              have Bxg_22 := Lib.hid (Bxg_21.out.next hb)
              have Ra0_22 := Lib.hid (Ra0_21.out.next hb)
              have Ra1_22 := Lib.hid (Ra1_21.out.next hb)
              have Owe_22 := Lib.hid (Owe_21.out.next hb)
              have Owg_22 := Lib.hid (Owg_21.out.next hb)
              have Owca_22 := Lib.hid (Owca_21.out.next hb)
              clear hb Bel_21 Bx0_21 Bx1_21 Bxe_21 Bxg_21 Ra0_21 Ra1_21 Owe_21 Owg_21 Owca_21
              have Owcb_22 := Own
              clear Own
              try simp only [Act.put, List.setIfInBounds_toArray, List.set_cons_zero, List.set_cons_succ]
              refine wpAnyH_ready (rs := [5]) (by kernel_rfl) (by simp) ?_
              refine AllReadyH.cons rfl (fun K hK => ?_) AllReadyH.nil
              go_simp
              refine (implQbW_any s0 Bca n0 dca E0 xs0 s1 Bcb n1 dcb E1 xs1 k _ Owca_22.out.rt.all Hn0.out Hk0.out Owcb_22.out.rt.all Hn1.out Hk1.out Cpca.out Cpcb.out (HT.out.next Bel_22.out)).mono ?_
              rintro e w23 ⟨Sr, Bce, nr, dce, rfl, hv, hb0⟩
              obtain ⟨hs, hnn, ho⟩ := resFormD hv HS.out HN.out HX.out
              rw [hs, hnn, ← HEX.out, ← HCD.out]
              have hb : Below w22.heap.size w22 w23 := hb0
              have Own := Lib.hid (Ot.new ho)
              refine hK.out _ _ ⟨(Bx0_22.out.next hb).1, (Bx1_22.out.next hb).1⟩ (fun hHeld => ?_)
              clear hK K hb0 ho hv hs hnn
              have Bel_23 := Lib.hid (belNext Bel_22.out hb)
              have Sz_23 : Hid (w22.heap.size ≤ w23.heap.size) := Lib.hid hb.size
              have Rs_23 := Lib.hid (Rs_22.out.next hb)
              have Bx0_23 := Lib.hid (Bx0_22.out.next hb)
              have Bx1_23 := Lib.hid (Bx1_22.out.next hb)
              have Bxe_23 := Lib.hid (Bxe_22.out.next hb)
              have Bxg_23 := Lib.hid (Bxg_22.out.next hb)
              have Ra0_23 := Lib.hid (Ra0_22.out.next hb)
              have Ra1_23 := Lib.hid (Ra1_22.out.next hb)
              have Owe_23 := Lib.hid (Owe_22.out.next hb)
              have Owg_23 := Lib.hid (Owg_22.out.next hb)
              have Owca_23 := Lib.hid (Owca_22.out.next hb)
              have Owcb_23 := Lib.hid (Owcb_22.out.next hb)
              clear hb Bel_22 Bx0_22 Bx1_22 Bxe_22 Bxg_22 Ra0_22 Ra1_22 Owe_22 Owg_22 Owca_22 Owcb_22
              have Owce_23 := Own
              clear Own
              try simp only [Act.put, List.setIfInBounds_toArray, List.set_cons_zero, List.set_cons_succ]
              refine wpAnyH_take (i := 6) (v := ?_) rfl (by kernel_rfl) (by kernel_rfl) (by kernel_rfl) (fun _ _ _ h => h) (Or.inl ⟨by rfl, ?_⟩) (by assumption) ?_
              rotate_left
              · (intro w hSw; (try dsimp only at hSw); go_simp; (try with_reducible rfl))
              try simp only [Act.put, List.setIfInBounds_toArray, List.set_cons_zero, List.set_cons_succ]
              refine wpAnyH_take (i := 7) (v := ?_) rfl (by kernel_rfl) (by kernel_rfl) (by kernel_rfl) (fun _ _ _ h => h) (Or.inl ⟨by rfl, ?_⟩) (by assumption) ?_
              rotate_left
              · (intro w hSw; (try dsimp only at hSw); go_simp; (try with_reducible rfl))
              try simp only [Act.put, List.setIfInBounds_toArray, List.set_cons_zero, List.set_cons_succ]
              refine wpAnyH_take (i := 8) (v := ?_) rfl (by kernel_rfl) (by kernel_rfl) (by kernel_rfl) (fun _ _ _ h => h) (Or.inl ⟨by rfl, ?_⟩) (by assumption) ?_
              rotate_left
              · (intro w hSw; (try dsimp only at hSw); go_simp; (try with_reducible rfl))
              try simp only [Act.put, List.setIfInBounds_toArray, List.set_cons_zero, List.set_cons_succ]
              refine wpAnyH_ready (rs := [10]) (by kernel_rfl) (by simp) ?_
              refine AllReadyH.cons rfl (fun K hK => ?_) AllReadyH.nil
              obtain ⟨⟨r0, r1, r2, r3, r4, r5⟩, r6⟩ := Rs_23.out
              go_simp
              refine hK.out _ (st3 w23 (w20.heap.size) S Bce N dce EX) ⟨(Bx0_23.out.st3_ (by have z0 := Sa_0.out; have z1 := Sz_1.out; have z2 := Sz_2.out; have z3 := Sz_3.out; have z4 := Sq_3.out; have z5 := Sz_4.out; have z6 := Sb_5.out; have z7 := Sz_5.out; have z8 := Sz_6.out; have z9 := Sb_7.out; have z10 := Sz_7.out; have z11 := Sz_8.out; have z12 := Sb_9.out; have z13 := Sz_9.out; have z14 := Sz_10.out; have z15 := Sz_11.out; have z16 := Sz_12.out; have z17 := Sz_13.out; have z18 := Sz_14.out; have z19 := Sz_15.out; have z20 := Sz_16.out; have z21 := Sz_17.out; have z22 := Sz_18.out; have z23 := Sz_19.out; have z24 := Sz_20.out; have z25 := Sb_21.out; have z26 := Sz_21.out; have z27 := Sz_22.out; have z28 := Sz_23.out; (try simp only [] at *); omega)).1, (Bx1_23.out.st3_ (by have z0 := Sa_0.out; have z1 := Sz_1.out; have z2 := Sz_2.out; have z3 := Sz_3.out; have z4 := Sq_3.out; have z5 := Sz_4.out; have z6 := Sb_5.out; have z7 := Sz_5.out; have z8 := Sz_6.out; have z9 := Sb_7.out; have z10 := Sz_7.out; have z11 := Sz_8.out; have z12 := Sb_9.out; have z13 := Sz_9.out; have z14 := Sz_10.out; have z15 := Sz_11.out; have z16 := Sz_12.out; have z17 := Sz_13.out; have z18 := Sz_14.out; have z19 := Sz_15.out; have z20 := Sz_16.out; have z21 := Sz_17.out; have z22 := Sz_18.out; have z23 := Sz_19.out; have z24 := Sz_20.out; have z25 := Sb_21.out; have z26 := Sz_21.out; have z27 := Sz_22.out; have z28 := Sz_23.out; (try simp only [] at *); omega)).1⟩ (fun hHeld => ?_)
              clear hK K
              try simp only [Act.put, List.setIfInBounds_toArray, List.set_cons_zero, List.set_cons_succ]
              refine wpAnyH_ready (rs := [11]) (by kernel_rfl) (by simp) ?_
              refine AllReadyH.cons rfl (fun K hK => ?_) AllReadyH.nil
              go_simp
              refine hK.out _ _ hHeld (fun hHeld => ?_)
              clear hK K hHeld
              try simp only [Act.put, List.setIfInBounds_toArray, List.set_cons_zero, List.set_cons_succ]
              refine wpAnyH_done (by kernel_rfl) ?_ _
              go_wp2_with fail
              go_meet
              exact ⟨w20.heap.size, Bce, dce, rfl, rfl, DBox.made r6 ⟨_, r0⟩ ⟨_, r1⟩ ⟨_, r2⟩, (Owce_23.out.st3_ (by have z0 := Sa_0.out; have z1 := Sz_1.out; have z2 := Sz_2.out; have z3 := Sz_3.out; have z4 := Sq_3.out; have z5 := Sz_4.out; have z6 := Sb_5.out; have z7 := Sz_5.out; have z8 := Sz_6.out; have z9 := Sb_7.out; have z10 := Sz_7.out; have z11 := Sz_8.out; have z12 := Sb_9.out; have z13 := Sz_9.out; have z14 := Sz_10.out; have z15 := Sz_11.out; have z16 := Sz_12.out; have z17 := Sz_13.out; have z18 := Sz_14.out; have z19 := Sz_15.out; have z20 := Sz_16.out; have z21 := Sz_17.out; have z22 := Sz_18.out; have z23 := Sz_19.out; have z24 := Sz_20.out; have z25 := Sb_21.out; have z26 := Sz_21.out; have z27 := Sz_22.out; have z28 := Sz_23.out; (try simp only [] at *); omega)).widen (by have z0 := Sa_0.out; have z1 := Sz_1.out; have z2 := Sz_2.out; have z3 := Sz_3.out; have z4 := Sq_3.out; have z5 := Sz_4.out; have z6 := Sb_5.out; have z7 := Sz_5.out; have z8 := Sz_6.out; have z9 := Sb_7.out; have z10 := Sz_7.out; have z11 := Sz_8.out; have z12 := Sb_9.out; have z13 := Sz_9.out; have z14 := Sz_10.out; have z15 := Sz_11.out; have z16 := Sz_12.out; have z17 := Sz_13.out; have z18 := Sz_14.out; have z19 := Sz_15.out; have z20 := Sz_16.out; have z21 := Sz_17.out; have z22 := Sz_18.out; have z23 := Sz_19.out; have z24 := Sz_20.out; have z25 := Sb_21.out; have z26 := Sz_21.out; have z27 := Sz_22.out; have z28 := Sz_23.out; (try simp only [] at *); omega) (by rw [st3_size]; exact Owce_23.out.2) (Nat.le_refl _), (by rw [st3_size]; exact (by have z0 := Sa_0.out; have z1 := Sz_1.out; have z2 := Sz_2.out; have z3 := Sz_3.out; have z4 := Sq_3.out; have z5 := Sz_4.out; have z6 := Sb_5.out; have z7 := Sz_5.out; have z8 := Sz_6.out; have z9 := Sb_7.out; have z10 := Sz_7.out; have z11 := Sz_8.out; have z12 := Sb_9.out; have z13 := Sz_9.out; have z14 := Sz_10.out; have z15 := Sz_11.out; have z16 := Sz_12.out; have z17 := Sz_13.out; have z18 := Sz_14.out; have z19 := Sz_15.out; have z20 := Sz_16.out; have z21 := Sz_17.out; have z22 := Sz_18.out; have z23 := Sz_19.out; have z24 := Sz_20.out; have z25 := Sb_21.out; have z26 := Sz_21.out; have z27 := Sz_22.out; have z28 := Sz_23.out; (try simp only [] at *); omega)), belSt3 Bel_23.out (by have z0 := Sa_0.out; have z1 := Sz_1.out; have z2 := Sz_2.out; have z3 := Sz_3.out; have z4 := Sq_3.out; have z5 := Sz_4.out; have z6 := Sb_5.out; have z7 := Sz_5.out; have z8 := Sz_6.out; have z9 := Sb_7.out; have z10 := Sz_7.out; have z11 := Sz_8.out; have z12 := Sb_9.out; have z13 := Sz_9.out; have z14 := Sz_10.out; have z15 := Sz_11.out; have z16 := Sz_12.out; have z17 := Sz_13.out; have z18 := Sz_14.out; have z19 := Sz_15.out; have z20 := Sz_16.out; have z21 := Sz_17.out; have z22 := Sz_18.out; have z23 := Sz_19.out; have z24 := Sz_20.out; have z25 := Sb_21.out; have z26 := Sz_21.out; have z27 := Sz_22.out; have z28 := Sz_23.out; (try simp only [] at *); omega), Bx0_23.out.st3_ (by have z0 := Sa_0.out; have z1 := Sz_1.out; have z2 := Sz_2.out; have z3 := Sz_3.out; have z4 := Sq_3.out; have z5 := Sz_4.out; have z6 := Sb_5.out; have z7 := Sz_5.out; have z8 := Sz_6.out; have z9 := Sb_7.out; have z10 := Sz_7.out; have z11 := Sz_8.out; have z12 := Sb_9.out; have z13 := Sz_9.out; have z14 := Sz_10.out; have z15 := Sz_11.out; have z16 := Sz_12.out; have z17 := Sz_13.out; have z18 := Sz_14.out; have z19 := Sz_15.out; have z20 := Sz_16.out; have z21 := Sz_17.out; have z22 := Sz_18.out; have z23 := Sz_19.out; have z24 := Sz_20.out; have z25 := Sb_21.out; have z26 := Sz_21.out; have z27 := Sz_22.out; have z28 := Sz_23.out; (try simp only [] at *); omega), Bx1_23.out.st3_ (by have z0 := Sa_0.out; have z1 := Sz_1.out; have z2 := Sz_2.out; have z3 := Sz_3.out; have z4 := Sq_3.out; have z5 := Sz_4.out; have z6 := Sb_5.out; have z7 := Sz_5.out; have z8 := Sz_6.out; have z9 := Sb_7.out; have z10 := Sz_7.out; have z11 := Sz_8.out; have z12 := Sb_9.out; have z13 := Sz_9.out; have z14 := Sz_10.out; have z15 := Sz_11.out; have z16 := Sz_12.out; have z17 := Sz_13.out; have z18 := Sz_14.out; have z19 := Sz_15.out; have z20 := Sz_16.out; have z21 := Sz_17.out; have z22 := Sz_18.out; have z23 := Sz_19.out; have z24 := Sz_20.out; have z25 := Sb_21.out; have z26 := Sz_21.out; have z27 := Sz_22.out; have z28 := Sz_23.out; (try simp only [] at *); omega), Bxe_23.out.st3_ (by have z0 := Sa_0.out; have z1 := Sz_1.out; have z2 := Sz_2.out; have z3 := Sz_3.out; have z4 := Sq_3.out; have z5 := Sz_4.out; have z6 := Sb_5.out; have z7 := Sz_5.out; have z8 := Sz_6.out; have z9 := Sb_7.out; have z10 := Sz_7.out; have z11 := Sz_8.out; have z12 := Sb_9.out; have z13 := Sz_9.out; have z14 := Sz_10.out; have z15 := Sz_11.out; have z16 := Sz_12.out; have z17 := Sz_13.out; have z18 := Sz_14.out; have z19 := Sz_15.out; have z20 := Sz_16.out; have z21 := Sz_17.out; have z22 := Sz_18.out; have z23 := Sz_19.out; have z24 := Sz_20.out; have z25 := Sb_21.out; have z26 := Sz_21.out; have z27 := Sz_22.out; have z28 := Sz_23.out; (try simp only [] at *); omega), Bxg_23.out.st3_ (by have z0 := Sa_0.out; have z1 := Sz_1.out; have z2 := Sz_2.out; have z3 := Sz_3.out; have z4 := Sq_3.out; have z5 := Sz_4.out; have z6 := Sb_5.out; have z7 := Sz_5.out; have z8 := Sz_6.out; have z9 := Sb_7.out; have z10 := Sz_7.out; have z11 := Sz_8.out; have z12 := Sb_9.out; have z13 := Sz_9.out; have z14 := Sz_10.out; have z15 := Sz_11.out; have z16 := Sz_12.out; have z17 := Sz_13.out; have z18 := Sz_14.out; have z19 := Sz_15.out; have z20 := Sz_16.out; have z21 := Sz_17.out; have z22 := Sz_18.out; have z23 := Sz_19.out; have z24 := Sz_20.out; have z25 := Sb_21.out; have z26 := Sz_21.out; have z27 := Sz_22.out; have z28 := Sz_23.out; (try simp only [] at *); omega), Ra0_23.out.st3_ (by have z0 := Sa_0.out; have z1 := Sz_1.out; have z2 := Sz_2.out; have z3 := Sz_3.out; have z4 := Sq_3.out; have z5 := Sz_4.out; have z6 := Sb_5.out; have z7 := Sz_5.out; have z8 := Sz_6.out; have z9 := Sb_7.out; have z10 := Sz_7.out; have z11 := Sz_8.out; have z12 := Sb_9.out; have z13 := Sz_9.out; have z14 := Sz_10.out; have z15 := Sz_11.out; have z16 := Sz_12.out; have z17 := Sz_13.out; have z18 := Sz_14.out; have z19 := Sz_15.out; have z20 := Sz_16.out; have z21 := Sz_17.out; have z22 := Sz_18.out; have z23 := Sz_19.out; have z24 := Sz_20.out; have z25 := Sb_21.out; have z26 := Sz_21.out; have z27 := Sz_22.out; have z28 := Sz_23.out; (try simp only [] at *); omega), Ra1_23.out.st3_ (by have z0 := Sa_0.out; have z1 := Sz_1.out; have z2 := Sz_2.out; have z3 := Sz_3.out; have z4 := Sq_3.out; have z5 := Sz_4.out; have z6 := Sb_5.out; have z7 := Sz_5.out; have z8 := Sz_6.out; have z9 := Sb_7.out; have z10 := Sz_7.out; have z11 := Sz_8.out; have z12 := Sb_9.out; have z13 := Sz_9.out; have z14 := Sz_10.out; have z15 := Sz_11.out; have z16 := Sz_12.out; have z17 := Sz_13.out; have z18 := Sz_14.out; have z19 := Sz_15.out; have z20 := Sz_16.out; have z21 := Sz_17.out; have z22 := Sz_18.out; have z23 := Sz_19.out; have z24 := Sz_20.out; have z25 := Sb_21.out; have z26 := Sz_21.out; have z27 := Sz_22.out; have z28 := Sz_23.out; (try simp only [] at *); omega), Owe_23.out.st3_ (by have z0 := Sa_0.out; have z1 := Sz_1.out; have z2 := Sz_2.out; have z3 := Sz_3.out; have z4 := Sq_3.out; have z5 := Sz_4.out; have z6 := Sb_5.out; have z7 := Sz_5.out; have z8 := Sz_6.out; have z9 := Sb_7.out; have z10 := Sz_7.out; have z11 := Sz_8.out; have z12 := Sb_9.out; have z13 := Sz_9.out; have z14 := Sz_10.out; have z15 := Sz_11.out; have z16 := Sz_12.out; have z17 := Sz_13.out; have z18 := Sz_14.out; have z19 := Sz_15.out; have z20 := Sz_16.out; have z21 := Sz_17.out; have z22 := Sz_18.out; have z23 := Sz_19.out; have z24 := Sz_20.out; have z25 := Sb_21.out; have z26 := Sz_21.out; have z27 := Sz_22.out; have z28 := Sz_23.out; (try simp only [] at *); omega), Owg_23.out.st3_ (by have z0 := Sa_0.out; have z1 := Sz_1.out; have z2 := Sz_2.out; have z3 := Sz_3.out; have z4 := Sq_3.out; have z5 := Sz_4.out; have z6 := Sb_5.out; have z7 := Sz_5.out; have z8 := Sz_6.out; have z9 := Sb_7.out; have z10 := Sz_7.out; have z11 := Sz_8.out; have z12 := Sb_9.out; have z13 := Sz_9.out; have z14 := Sz_10.out; have z15 := Sz_11.out; have z16 := Sz_12.out; have z17 := Sz_13.out; have z18 := Sz_14.out; have z19 := Sz_15.out; have z20 := Sz_16.out; have z21 := Sz_17.out; have z22 := Sz_18.out; have z23 := Sz_19.out; have z24 := Sz_20.out; have z25 := Sb_21.out; have z26 := Sz_21.out; have z27 := Sz_22.out; have z28 := Sz_23.out; (try simp only [] at *); omega)⟩
          · go_simp
            obtain ⟨w20, hw⟩ : ∃ w20, w20 = (w19.alloc (.cells #[.int .i64 0, .slice none 0 0, .int .i64 0] 30)).drew := ⟨_, rfl⟩
            have hb : Below w19.heap.size w19 w20 := by rw [hw]; exact (belAlloc1 _ _).drew
            have Sb_20 : Hid (w19.heap.size + 1 = w20.heap.size) := Lib.hid (by rw [hw]; simp)
            have Rs_20 : Hid (DRes w20 w19.heap.size) := Lib.hid (by rw [hw]; exact (DRes.new w19 _).drew)
            rw [← hw]
            refine hK.out _ _ ⟨(Bx0_19.out.next hb).1, (Bx1_19.out.next hb).1⟩ (fun hHeld => ?_)
            clear hK K hw
            have Bel_20 := Lib.hid (belNext Bel_19.out hb)
            have Sz_20 : Hid (w19.heap.size ≤ w20.heap.size) := Lib.hid hb.size
            have Bx0_20 := Lib.hid (Bx0_19.out.next hb)
            have Bx1_20 := Lib.hid (Bx1_19.out.next hb)
            have Bxe_20 := Lib.hid (Bxe_19.out.next hb)
            have Bxg_20 := Lib.hid (Bxg_19.out.next hb)
            have Ra0_20 := Lib.hid (Ra0_19.out.next hb)
            have Ra1_20 := Lib.hid (Ra1_19.out.next hb)
            have Owe_20 := Lib.hid (Owe_19.out.next hb)
            have Owg_20 := Lib.hid (Owg_19.out.next hb)
            clear hb Bel_19 Bx0_19 Bx1_19 Bxe_19 Bxg_19 Ra0_19 Ra1_19 Owe_19 Owg_19
            try simp only [Act.put, List.setIfInBounds_toArray, List.set_cons_zero, List.set_cons_succ]
            refine wpAnyH_ready (rs := [1]) (by kernel_rfl) (by simp) ?_
            refine AllReadyH.cons rfl (fun K hK => ?_) AllReadyH.nil
            go_simp
            refine (toD2_any s0 A0 n0 c0 E0 xs0 w20 _ Ra0_20.out.1 Ra0_20.out.2 Hn0.out Hle0.out).mono ?_
            rintro e w21 ⟨Bca, dca, rfl, ho, hb0, hcp⟩
            have Cpca := Lib.hid hcp
            have hb : Below w20.heap.size w20 w21 := hb0
            have Own := Lib.hid (Ot.new ho)
            refine hK.out _ _ ⟨(Bx0_20.out.next hb).1, (Bx1_20.out.next hb).1⟩ (fun hHeld => ?_)
            clear hK K hb0 ho hcp
            have Bel_21 := Lib.hid (belNext Bel_20.out hb)
            have Sz_21 : Hid (w20.heap.size ≤ w21.heap.size) := Lib.hid hb.size
            have Rs_21 := Lib.hid (Rs_20.out.next hb)
            have Bx0_21 := Lib.hid (Bx0_20.out.next hb)
            have Bx1_21 := Lib.hid (Bx1_20.out.next hb)
            have Bxe_21 := Lib.hid (Bxe_20.out.next hb)
            have Bxg_21 := Lib.hid (Bxg_20.out.next hb)
            have Ra0_21 := Lib.hid (Ra0_20.out.next hb)
            have Ra1_21 := Lib.hid (Ra1_20.out.next hb)
            have Owe_21 := Lib.hid (Owe_20.out.next hb)
            have Owg_21 := Lib.hid (Owg_20.out.next hb)
            clear hb Bel_20 Bx0_20 Bx1_20 Bxe_20 Bxg_20 Ra0_20 Ra1_20 Owe_20 Owg_20
            have Owca_21 := Own
            clear Own
            try simp only [Act.put, List.setIfInBounds_toArray, List.set_cons_zero, List.set_cons_succ]
            refine wpAnyH_ready (rs := [3]) (by kernel_rfl) (by simp) ?_
            refine AllReadyH.cons rfl (fun K hK => ?_) AllReadyH.nil
            go_simp
            refine (toD2_any s1 A1 n1 c1 E1 xs1 w21 _ Ra1_21.out.1 Ra1_21.out.2 Hn1.out Hle1.out).mono ?_
            rintro e w22 ⟨Bcb, dcb, rfl, ho, hb0, hcp⟩
            have Cpcb := Lib.hid hcp
            have hb : Below w21.heap.size w21 w22 := hb0
            have Own := Lib.hid (Ot.new ho)
            refine hK.out _ _ ⟨(Bx0_21.out.next hb).1, (Bx1_21.out.next hb).1⟩ (fun hHeld => ?_)
            clear hK K hb0 ho hcp
            have Bel_22 := Lib.hid (belNext Bel_21.out hb)
            have Sz_22 : Hid (w21.heap.size ≤ w22.heap.size) := Lib.hid hb.size
            have Rs_22 := Lib.hid (Rs_21.out.next hb)
            have Bx0_22 := Lib.hid (Bx0_21.out.next hb)
            have Bx1_22 := Lib.hid (Bx1_21.out.next hb)
            have Bxe_22 := Lib.hid (Bxe_21.out.next hb)
            have Bxg_22 := Lib.hid (Bxg_21.out.next hb)
            have Ra0_22 := Lib.hid (Ra0_21.out.next hb)
            have Ra1_22 := Lib.hid (Ra1_21.out.next hb)
            have Owe_22 := Lib.hid (Owe_21.out.next hb)
            have Owg_22 := Lib.hid (Owg_21.out.next hb)
            have Owca_22 := Lib.hid (Owca_21.out.next hb)
            clear hb Bel_21 Bx0_21 Bx1_21 Bxe_21 Bxg_21 Ra0_21 Ra1_21 Owe_21 Owg_21 Owca_21
            have Owcb_22 := Own
            clear Own
            try simp only [Act.put, List.setIfInBounds_toArray, List.set_cons_zero, List.set_cons_succ]
            refine wpAnyH_ready (rs := [5]) (by kernel_rfl) (by simp) ?_
            refine AllReadyH.cons rfl (fun K hK => ?_) AllReadyH.nil
            go_simp
            refine (implQbW_any s0 Bca n0 dca E0 xs0 s1 Bcb n1 dcb E1 xs1 k _ Owca_22.out.rt.all Hn0.out Hk0.out Owcb_22.out.rt.all Hn1.out Hk1.out Cpca.out Cpcb.out (HT.out.next Bel_22.out)).mono ?_
            rintro e w23 ⟨Sr, Bce, nr, dce, rfl, hv, hb0⟩
            obtain ⟨hs, hnn, ho⟩ := resFormD hv HS.out HN.out HX.out
            rw [hs, hnn, ← HEX.out, ← HCD.out]
            have hb : Below w22.heap.size w22 w23 := hb0
            have Own := Lib.hid (Ot.new ho)
            refine hK.out _ _ ⟨(Bx0_22.out.next hb).1, (Bx1_22.out.next hb).1⟩ (fun hHeld => ?_)
            clear hK K hb0 ho hv hs hnn
            have Bel_23 := Lib.hid (belNext Bel_22.out hb)
            have Sz_23 : Hid (w22.heap.size ≤ w23.heap.size) := Lib.hid hb.size
            have Rs_23 := Lib.hid (Rs_22.out.next hb)
            have Bx0_23 := Lib.hid (Bx0_22.out.next hb)
            have Bx1_23 := Lib.hid (Bx1_22.out.next hb)
            have Bxe_23 := Lib.hid (Bxe_22.out.next hb)
            have Bxg_23 := Lib.hid (Bxg_22.out.next hb)
            have Ra0_23 := Lib.hid (Ra0_22.out.next hb)
            have Ra1_23 := Lib.hid (Ra1_22.out.next hb)
            have Owe_23 := Lib.hid (Owe_22.out.next hb)
            have Owg_23 := Lib.hid (Owg_22.out.next hb)
            have Owca_23 := Lib.hid (Owca_22.out.next hb)
            have Owcb_23 := Lib.hid (Owcb_22.out.next hb)
            clear hb Bel_22 Bx0_22 Bx1_22 Bxe_22 Bxg_22 Ra0_22 Ra1_22 Owe_22 Owg_22 Owca_22 Owcb_22
            have Owce_23 := Own
            clear Own
            try simp only [Act.put, List.setIfInBounds_toArray, List.set_cons_zero, List.set_cons_succ]
            refine wpAnyH_take (i := 6) (v := ?_) rfl (by kernel_rfl) (by kernel_rfl) (by kernel_rfl) (fun _ _ _ h => h) (Or.inl ⟨by rfl, ?_⟩) (by assumption) ?_
            rotate_left
            · (intro w hSw; (try dsimp only at hSw); go_simp; (try with_reducible rfl))
            try simp only [Act.put, List.setIfInBounds_toArray, List.set_cons_zero, List.set_cons_succ]
            refine wpAnyH_take (i := 7) (v := ?_) rfl (by kernel_rfl) (by kernel_rfl) (by kernel_rfl) (fun _ _ _ h => h) (Or.inl ⟨by rfl, ?_⟩) (by assumption) ?_
            rotate_left
            · (intro w hSw; (try dsimp only at hSw); go_simp; (try with_reducible rfl))
            try simp only [Act.put, List.setIfInBounds_toArray, List.set_cons_zero, List.set_cons_succ]
            refine wpAnyH_take (i := 8) (v := ?_) rfl (by kernel_rfl) (by kernel_rfl) (by kernel_rfl) (fun _ _ _ h => h) (Or.inl ⟨by rfl, ?_⟩) (by assumption) ?_
            rotate_left
            · (intro w hSw; (try dsimp only at hSw); go_simp; (try with_reducible rfl))
            try simp only [Act.put, List.setIfInBounds_toArray, List.set_cons_zero, List.set_cons_succ]
            refine wpAnyH_ready (rs := [10]) (by kernel_rfl) (by simp) ?_
            refine AllReadyH.cons rfl (fun K hK => ?_) AllReadyH.nil
            obtain ⟨⟨r0, r1, r2, r3, r4, r5⟩, r6⟩ := Rs_23.out
            go_simp
            refine hK.out _ (st3 w23 (w19.heap.size) S Bce N dce EX) ⟨(Bx0_23.out.st3_ (by have z0 := Sa_0.out; have z1 := Sz_1.out; have z2 := Sz_2.out; have z3 := Sz_3.out; have z4 := Sq_3.out; have z5 := Sz_4.out; have z6 := Sb_5.out; have z7 := Sz_5.out; have z8 := Sz_6.out; have z9 := Sb_7.out; have z10 := Sz_7.out; have z11 := Sz_8.out; have z12 := Sb_9.out; have z13 := Sz_9.out; have z14 := Sz_10.out; have z15 := Sz_11.out; have z16 := Sz_12.out; have z17 := Sz_13.out; have z18 := Sz_14.out; have z19 := Sz_15.out; have z20 := Sz_16.out; have z21 := Sz_17.out; have z22 := Sz_18.out; have z23 := Sz_19.out; have z24 := Sb_20.out; have z25 := Sz_20.out; have z26 := Sz_21.out; have z27 := Sz_22.out; have z28 := Sz_23.out; (try simp only [] at *); omega)).1, (Bx1_23.out.st3_ (by have z0 := Sa_0.out; have z1 := Sz_1.out; have z2 := Sz_2.out; have z3 := Sz_3.out; have z4 := Sq_3.out; have z5 := Sz_4.out; have z6 := Sb_5.out; have z7 := Sz_5.out; have z8 := Sz_6.out; have z9 := Sb_7.out; have z10 := Sz_7.out; have z11 := Sz_8.out; have z12 := Sb_9.out; have z13 := Sz_9.out; have z14 := Sz_10.out; have z15 := Sz_11.out; have z16 := Sz_12.out; have z17 := Sz_13.out; have z18 := Sz_14.out; have z19 := Sz_15.out; have z20 := Sz_16.out; have z21 := Sz_17.out; have z22 := Sz_18.out; have z23 := Sz_19.out; have z24 := Sb_20.out; have z25 := Sz_20.out; have z26 := Sz_21.out; have z27 := Sz_22.out; have z28 := Sz_23.out; (try simp only [] at *); omega)).1⟩ (fun hHeld => ?_)
            clear hK K
            try simp only [Act.put, List.setIfInBounds_toArray, List.set_cons_zero, List.set_cons_succ]
            refine wpAnyH_ready (rs := [11]) (by kernel_rfl) (by simp) ?_
            refine AllReadyH.cons rfl (fun K hK => ?_) AllReadyH.nil
            go_simp
            refine hK.out _ _ hHeld (fun hHeld => ?_)
            clear hK K hHeld
            try simp only [Act.put, List.setIfInBounds_toArray, List.set_cons_zero, List.set_cons_succ]
            refine wpAnyH_done (by kernel_rfl) ?_ _
            go_wp2_with fail
            go_meet
            exact ⟨w19.heap.size, Bce, dce, rfl, rfl, DBox.made r6 ⟨_, r0⟩ ⟨_, r1⟩ ⟨_, r2⟩, (Owce_23.out.st3_ (by have z0 := Sa_0.out; have z1 := Sz_1.out; have z2 := Sz_2.out; have z3 := Sz_3.out; have z4 := Sq_3.out; have z5 := Sz_4.out; have z6 := Sb_5.out; have z7 := Sz_5.out; have z8 := Sz_6.out; have z9 := Sb_7.out; have z10 := Sz_7.out; have z11 := Sz_8.out; have z12 := Sb_9.out; have z13 := Sz_9.out; have z14 := Sz_10.out; have z15 := Sz_11.out; have z16 := Sz_12.out; have z17 := Sz_13.out; have z18 := Sz_14.out; have z19 := Sz_15.out; have z20 := Sz_16.out; have z21 := Sz_17.out; have z22 := Sz_18.out; have z23 := Sz_19.out; have z24 := Sb_20.out; have z25 := Sz_20.out; have z26 := Sz_21.out; have z27 := Sz_22.out; have z28 := Sz_23.out; (try simp only [] at *); omega)).widen (by have z0 := Sa_0.out; have z1 := Sz_1.out; have z2 := Sz_2.out; have z3 := Sz_3.out; have z4 := Sq_3.out; have z5 := Sz_4.out; have z6 := Sb_5.out; have z7 := Sz_5.out; have z8 := Sz_6.out; have z9 := Sb_7.out; have z10 := Sz_7.out; have z11 := Sz_8.out; have z12 := Sb_9.out; have z13 := Sz_9.out; have z14 := Sz_10.out; have z15 := Sz_11.out; have z16 := Sz_12.out; have z17 := Sz_13.out; have z18 := Sz_14.out; have z19 := Sz_15.out; have z20 := Sz_16.out; have z21 := Sz_17.out; have z22 := Sz_18.out; have z23 := Sz_19.out; have z24 := Sb_20.out; have z25 := Sz_20.out; have z26 := Sz_21.out; have z27 := Sz_22.out; have z28 := Sz_23.out; (try simp only [] at *); omega) (by rw [st3_size]; exact Owce_23.out.2) (Nat.le_refl _), (by rw [st3_size]; exact (by have z0 := Sa_0.out; have z1 := Sz_1.out; have z2 := Sz_2.out; have z3 := Sz_3.out; have z4 := Sq_3.out; have z5 := Sz_4.out; have z6 := Sb_5.out; have z7 := Sz_5.out; have z8 := Sz_6.out; have z9 := Sb_7.out; have z10 := Sz_7.out; have z11 := Sz_8.out; have z12 := Sb_9.out; have z13 := Sz_9.out; have z14 := Sz_10.out; have z15 := Sz_11.out; have z16 := Sz_12.out; have z17 := Sz_13.out; have z18 := Sz_14.out; have z19 := Sz_15.out; have z20 := Sz_16.out; have z21 := Sz_17.out; have z22 := Sz_18.out; have z23 := Sz_19.out; have z24 := Sb_20.out; have z25 := Sz_20.out; have z26 := Sz_21.out; have z27 := Sz_22.out; have z28 := Sz_23.out; (try simp only [] at *); omega)), belSt3 Bel_23.out (by have z0 := Sa_0.out; have z1 := Sz_1.out; have z2 := Sz_2.out; have z3 := Sz_3.out; have z4 := Sq_3.out; have z5 := Sz_4.out; have z6 := Sb_5.out; have z7 := Sz_5.out; have z8 := Sz_6.out; have z9 := Sb_7.out; have z10 := Sz_7.out; have z11 := Sz_8.out; have z12 := Sb_9.out; have z13 := Sz_9.out; have z14 := Sz_10.out; have z15 := Sz_11.out; have z16 := Sz_12.out; have z17 := Sz_13.out; have z18 := Sz_14.out; have z19 := Sz_15.out; have z20 := Sz_16.out; have z21 := Sz_17.out; have z22 := Sz_18.out; have z23 := Sz_19.out; have z24 := Sb_20.out; have z25 := Sz_20.out; have z26 := Sz_21.out; have z27 := Sz_22.out; have z28 := Sz_23.out; (try simp only [] at *); omega), Bx0_23.out.st3_ (by have z0 := Sa_0.out; have z1 := Sz_1.out; have z2 := Sz_2.out; have z3 := Sz_3.out; have z4 := Sq_3.out; have z5 := Sz_4.out; have z6 := Sb_5.out; have z7 := Sz_5.out; have z8 := Sz_6.out; have z9 := Sb_7.out; have z10 := Sz_7.out; have z11 := Sz_8.out; have z12 := Sb_9.out; have z13 := Sz_9.out; have z14 := Sz_10.out; have z15 := Sz_11.out; have z16 := Sz_12.out; have z17 := Sz_13.out; have z18 := Sz_14.out; have z19 := Sz_15.out; have z20 := Sz_16.out; have z21 := Sz_17.out; have z22 := Sz_18.out; have z23 := Sz_19.out; have z24 := Sb_20.out; have z25 := Sz_20.out; have z26 := Sz_21.out; have z27 := Sz_22.out; have z28 := Sz_23.out; (try simp only [] at *); omega), Bx1_23.out.st3_ (by have z0 := Sa_0.out; have z1 := Sz_1.out; have z2 := Sz_2.out; have z3 := Sz_3.out; have z4 := Sq_3.out; have z5 := Sz_4.out; have z6 := Sb_5.out; have z7 := Sz_5.out; have z8 := Sz_6.out; have z9 := Sb_7.out; have z10 := Sz_7.out; have z11 := Sz_8.out; have z12 := Sb_9.out; have z13 := Sz_9.out; have z14 := Sz_10.out; have z15 := Sz_11.out; have z16 := Sz_12.out; have z17 := Sz_13.out; have z18 := Sz_14.out; have z19 := Sz_15.out; have z20 := Sz_16.out; have z21 := Sz_17.out; have z22 := Sz_18.out; have z23 := Sz_19.out; have z24 := Sb_20.out; have z25 := Sz_20.out; have z26 := Sz_21.out; have z27 := Sz_22.out; have z28 := Sz_23.out; (try simp only [] at *); omega), Bxe_23.out.st3_ (by have z0 := Sa_0.out; have z1 := Sz_1.out; have z2 := Sz_2.out; have z3 := Sz_3.out; have z4 := Sq_3.out; have z5 := Sz_4.out; have z6 := Sb_5.out; have z7 := Sz_5.out; have z8 := Sz_6.out; have z9 := Sb_7.out; have z10 := Sz_7.out; have z11 := Sz_8.out; have z12 := Sb_9.out; have z13 := Sz_9.out; have z14 := Sz_10.out; have z15 := Sz_11.out; have z16 := Sz_12.out; have z17 := Sz_13.out; have z18 := Sz_14.out; have z19 := Sz_15.out; have z20 := Sz_16.out; have z21 := Sz_17.out; have z22 := Sz_18.out; have z23 := Sz_19.out; have z24 := Sb_20.out; have z25 := Sz_20.out; have z26 := Sz_21.out; have z27 := Sz_22.out; have z28 := Sz_23.out; (try simp only [] at *); omega), Bxg_23.out.st3_ (by have z0 := Sa_0.out; have z1 := Sz_1.out; have z2 := Sz_2.out; have z3 := Sz_3.out; have z4 := Sq_3.out; have z5 := Sz_4.out; have z6 := Sb_5.out; have z7 := Sz_5.out; have z8 := Sz_6.out; have z9 := Sb_7.out; have z10 := Sz_7.out; have z11 := Sz_8.out; have z12 := Sb_9.out; have z13 := Sz_9.out; have z14 := Sz_10.out; have z15 := Sz_11.out; have z16 := Sz_12.out; have z17 := Sz_13.out; have z18 := Sz_14.out; have z19 := Sz_15.out; have z20 := Sz_16.out; have z21 := Sz_17.out; have z22 := Sz_18.out; have z23 := Sz_19.out; have z24 := Sb_20.out; have z25 := Sz_20.out; have z26 := Sz_21.out; have z27 := Sz_22.out; have z28 := Sz_23.out; (try simp only [] at *); omega), Ra0_23.out.st3_ (by have z0 := Sa_0.out; have z1 := Sz_1.out; have z2 := Sz_2.out; have z3 := Sz_3.out; have z4 := Sq_3.out; have z5 := Sz_4.out; have z6 := Sb_5.out; have z7 := Sz_5.out; have z8 := Sz_6.out; have z9 := Sb_7.out; have z10 := Sz_7.out; have z11 := Sz_8.out; have z12 := Sb_9.out; have z13 := Sz_9.out; have z14 := Sz_10.out; have z15 := Sz_11.out; have z16 := Sz_12.out; have z17 := Sz_13.out; have z18 := Sz_14.out; have z19 := Sz_15.out; have z20 := Sz_16.out; have z21 := Sz_17.out; have z22 := Sz_18.out; have z23 := Sz_19.out; have z24 := Sb_20.out; have z25 := Sz_20.out; have z26 := Sz_21.out; have z27 := Sz_22.out; have z28 := Sz_23.out; (try simp only [] at *); omega), Ra1_23.out.st3_ (by have z0 := Sa_0.out; have z1 := Sz_1.out; have z2 := Sz_2.out; have z3 := Sz_3.out; have z4 := Sq_3.out; have z5 := Sz_4.out; have z6 := Sb_5.out; have z7 := Sz_5.out; have z8 := Sz_6.out; have z9 := Sb_7.out; have z10 := Sz_7.out; have z11 := Sz_8.out; have z12 := Sb_9.out; have z13 := Sz_9.out; have z14 := Sz_10.out; have z15 := Sz_11.out; have z16 := Sz_12.out; have z17 := Sz_13.out; have z18 := Sz_14.out; have z19 := Sz_15.out; have z20 := Sz_16.out; have z21 := Sz_17.out; have z22 := Sz_18.out; have z23 := Sz_19.out; have z24 := Sb_20.out; have z25 := Sz_20.out; have z26 := Sz_21.out; have z27 := Sz_22.out; have z28 := Sz_23.out; (try simp only [] at *); omega), Owe_23.out.st3_ (by have z0 := Sa_0.out; have z1 := Sz_1.out; have z2 := Sz_2.out; have z3 := Sz_3.out; have z4 := Sq_3.out; have z5 := Sz_4.out; have z6 := Sb_5.out; have z7 := Sz_5.out; have z8 := Sz_6.out; have z9 := Sb_7.out; have z10 := Sz_7.out; have z11 := Sz_8.out; have z12 := Sb_9.out; have z13 := Sz_9.out; have z14 := Sz_10.out; have z15 := Sz_11.out; have z16 := Sz_12.out; have z17 := Sz_13.out; have z18 := Sz_14.out; have z19 := Sz_15.out; have z20 := Sz_16.out; have z21 := Sz_17.out; have z22 := Sz_18.out; have z23 := Sz_19.out; have z24 := Sb_20.out; have z25 := Sz_20.out; have z26 := Sz_21.out; have z27 := Sz_22.out; have z28 := Sz_23.out; (try simp only [] at *); omega), Owg_23.out.st3_ (by have z0 := Sa_0.out; have z1 := Sz_1.out; have z2 := Sz_2.out; have z3 := Sz_3.out; have z4 := Sq_3.out; have z5 := Sz_4.out; have z6 := Sb_5.out; have z7 := Sz_5.out; have z8 := Sz_6.out; have z9 := Sb_7.out; have z10 := Sz_7.out; have z11 := Sz_8.out; have z12 := Sb_9.out; have z13 := Sz_9.out; have z14 := Sz_10.out; have z15 := Sz_11.out; have z16 := Sz_12.out; have z17 := Sz_13.out; have z18 := Sz_14.out; have z19 := Sz_15.out; have z20 := Sz_16.out; have z21 := Sz_17.out; have z22 := Sz_18.out; have z23 := Sz_19.out; have z24 := Sb_20.out; have z25 := Sz_20.out; have z26 := Sz_21.out; have z27 := Sz_22.out; have z28 := Sz_23.out; (try simp only [] at *); omega)⟩
        case rest =>
          obtain ⟨w20, hwc⟩ : ∃ w20, w20 = wc := ⟨_, rfl⟩
          rw [← hwc] at hcut ⊢
          clear hwc
          obtain ⟨bh, Bh, dh, rfl, rfl, hbx, hot, hsz, hBel_20, hBx0_20, hBx1_20, hBxe_20, hBxg_20, hRa0_20, hRa1_20, hOwe_20, hOwg_20⟩ := hcut
          have Bel_20 := Lib.hid hBel_20
          have Bx0_20 := Lib.hid hBx0_20
          have Bx1_20 := Lib.hid hBx1_20
          have Bxe_20 := Lib.hid hBxe_20
          have Bxg_20 := Lib.hid hBxg_20
          have Ra0_20 := Lib.hid hRa0_20
          have Ra1_20 := Lib.hid hRa1_20
          have Owe_20 := Lib.hid hOwe_20
          have Owg_20 := Lib.hid hOwg_20
          have Bxh_20 := Lib.hid hbx
          have Owh_20 := Lib.hid hot
          have Sz_20 := Lib.hid hsz
          have Sq_20 : Hid (bh < w20.heap.size) := Lib.hid hbx.2
          clear hbx hot hsz hBel_20 hBx0_20 hBx1_20 hBxe_20 hBxg_20 hRa0_20 hRa1_20 hOwe_20 hOwg_20 Bel_19 Bx0_19 Bx1_19 Bxe_19 Bxg_19 Ra0_19 Ra1_19 Owe_19 Owg_19 hx01 hx02 hx03 hx04 hx11 hx12 hx13 hx14 hxe1 hxe2 hxe3 hxe4 hxg1 hxg2 hxg3 hxg4
          obtain ⟨⟨hx01, hx02, hx03⟩, hx04⟩ := Bx0_20.out
          obtain ⟨⟨hx11, hx12, hx13⟩, hx14⟩ := Bx1_20.out
          obtain ⟨⟨hxe1, hxe2, hxe3⟩, hxe4⟩ := Bxe_20.out
          obtain ⟨⟨hxg1, hxg2, hxg3⟩, hxg4⟩ := Bxg_20.out
          obtain ⟨⟨hxh1, hxh2, hxh3⟩, hxh4⟩ := Bxh_20.out
          go_wp2_with fail
          refine (eqD_yes S Bh Be N dh de _ _ EX XS _ Owh_20.out.rt.1 Owe_20.out.rt.1 Owh_20.out.rt.2 Owe_20.out.rt.2 HXN.out HN1.out).mono ?_
          rintro e w21 ⟨rfl, hb⟩
          have Bel_21 := Lib.hid (belNext Bel_20.out hb)
          have Sz_21 : Hid (w20.heap.size ≤ w21.heap.size) := Lib.hid hb.size
          have Bx0_21 := Lib.hid (Bx0_20.out.next hb)
          have Bx1_21 := Lib.hid (Bx1_20.out.next hb)
          have Bxe_21 := Lib.hid (Bxe_20.out.next hb)
          have Bxg_21 := Lib.hid (Bxg_20.out.next hb)
          have Bxh_21 := Lib.hid (Bxh_20.out.next hb)
          have Ra0_21 := Lib.hid (Ra0_20.out.next hb)
          have Ra1_21 := Lib.hid (Ra1_20.out.next hb)
          have Owe_21 := Lib.hid (Owe_20.out.next hb)
          have Owg_21 := Lib.hid (Owg_20.out.next hb)
          have Owh_21 := Lib.hid (Owh_20.out.next hb)
          clear hb Bel_20 Bx0_20 Bx1_20 Bxe_20 Bxg_20 Bxh_20 Ra0_20 Ra1_20 Owe_20 Owg_20 Owh_20 hx01 hx02 hx03 hx04 hx11 hx12 hx13 hx14 hxe1 hxe2 hxe3 hxe4 hxg1 hxg2 hxg3 hxg4 hxh1 hxh2 hxh3 hxh4
          obtain ⟨⟨hx01, hx02, hx03⟩, hx04⟩ := Bx0_21.out
          obtain ⟨⟨hx11, hx12, hx13⟩, hx14⟩ := Bx1_21.out
          obtain ⟨⟨hxe1, hxe2, hxe3⟩, hxe4⟩ := Bxe_21.out
          obtain ⟨⟨hxg1, hxg2, hxg3⟩, hxg4⟩ := Bxg_21.out
          obtain ⟨⟨hxh1, hxh2, hxh3⟩, hxh4⟩ := Bxh_21.out
          go_wp2_with fail
          refine (heldD_any S Bg N dg EX 1 _ _ Owg_21.out.rt.1 Owg_21.out.rt.2 HN2.out (by omega) (by omega)).mono ?_
          rintro e w22 ⟨rfl, hb⟩
          have Bel_22 := Lib.hid (belNext Bel_21.out hb)
          have Sz_22 : Hid (w21.heap.size ≤ w22.heap.size) := Lib.hid hb.size
          have Bx0_22 := Lib.hid (Bx0_21.out.next hb)
          have Bx1_22 := Lib.hid (Bx1_21.out.next hb)
          have Bxe_22 := Lib.hid (Bxe_21.out.next hb)
          have Bxg_22 := Lib.hid (Bxg_21.out.next hb)
          have Bxh_22 := Lib.hid (Bxh_21.out.next hb)
          have Ra0_22 := Lib.hid (Ra0_21.out.next hb)
          have Ra1_22 := Lib.hid (Ra1_21.out.next hb)
          have Owe_22 := Lib.hid (Owe_21.out.next hb)
          have Owg_22 := Lib.hid (Owg_21.out.next hb)
          have Owh_22 := Lib.hid (Owh_21.out.next hb)
          clear hb Bel_21 Bx0_21 Bx1_21 Bxe_21 Bxg_21 Bxh_21 Ra0_21 Ra1_21 Owe_21 Owg_21 Owh_21 hx01 hx02 hx03 hx04 hx11 hx12 hx13 hx14 hxe1 hxe2 hxe3 hxe4 hxg1 hxg2 hxg3 hxg4 hxh1 hxh2 hxh3 hxh4
          obtain ⟨⟨hx01, hx02, hx03⟩, hx04⟩ := Bx0_22.out
          obtain ⟨⟨hx11, hx12, hx13⟩, hx14⟩ := Bx1_22.out
          obtain ⟨⟨hxe1, hxe2, hxe3⟩, hxe4⟩ := Bxe_22.out
          obtain ⟨⟨hxg1, hxg2, hxg3⟩, hxg4⟩ := Bxg_22.out
          obtain ⟨⟨hxh1, hxh2, hxh3⟩, hxh4⟩ := Bxh_22.out
          go_wp2_with fail
          go_ret
          exact ⟨rfl, Bel_22.out⟩

/-! the step from the walk to the given statement -/
set_option maxRecDepth 100000 in
theorem lifted (os : Os) (started : os.Started) (H : Type) (enc : TypeId × Value → H) :
    ReturnsInHanded {} Tryd.checked os 3 .any (fun w args => (Rows.fnExactQuotientBelowSpec.pre enc Tryd.prog Tryd.f3 [] false w args ∧ laidMetH Tryd.prog laidL w) ∧ sizedMet enc Tryd.prog Tryd.f3 (OpenSpec.ofChange Rows.fnExactQuotientBelowSpec) false w args) (Rows.fnExactQuotientBelowSpec.post enc Tryd.prog Tryd.f3 false true false false) := by
  refine returnsInHanded_of_change_and (C := Tryd.checked) (X := fun w _ => laidMetH Tryd.prog laidL w) (fun _ _ _ hh h => h.of_heap hh) own started (by kernel_rfl) Tryd.func3
    (ChangeSpec.witness_shaped (enc := enc) (C := Tryd.checked) (os := os) (X := fun w _ => laidMetH Tryd.prog laidL w) false (World.doorLaid Tryd.prog 14 os) #[.agg #[.int .i64 0, .slice none 0 0, .int .i64 0], .agg #[.int .i64 0, .slice none 0 0, .int .i64 0], .int .i64 0] 8 rfl (World.shaped_of_RefB (by kernel_rfl) (by kernel_rfl)) (by kernel_rfl) (by kernel_rfl) (by kernel_rfl) (door_met os _)) ?_
  intro W base args ds gs before hval0 hW _ _ hL _
  have hval : ∀ (j : Nat) t v, Tryd.f3.params[j]? = some t → args[j]? = some v → Value.okWide Tryd.prog W .any base t v := hval0
  have hW' := hW
  obtain ⟨p, q, hA0, hV, rfl, hfz, hnd⟩ := hW
  have hA : DataW.TrodAll enc Tryd.prog W 0 (fun _ => true) true Tryd.f3.params.toList args.toList ds p := hA0
  rw [Tryd.params3] at hA hval
  obtain ⟨v0, vs0, d0, ds0, p0, q0, hargs, rfl, rfl, h0, r0⟩ := trodAll_cons hA
  obtain ⟨v1, vs1, d1, ds1, p1, q1, hargs1, rfl, rfl, h1, r1⟩ := trodAll_cons r0
  obtain ⟨v2, vs2, d2, ds2, p2, q2, hargs2, rfl, rfl, h2, r2⟩ := trodAll_cons r1
  obtain ⟨rfl, rfl, rfl⟩ := trodAll_nil r2
  obtain rfl : args = #[v0, v1, v2] := by cases args; simp_all
  obtain ⟨rfl, rfl⟩ := trodVars_none hV
  have hc0 := h0
  obtain ⟨s0, A0, n0, c0, xs0, E0, rfl, hr0, hl0, hx0⟩ := open_dyadic (hval 0 26 v0 rfl rfl) h0
  have hc1 := h1
  obtain ⟨s1, A1, n1, c1, xs1, E1, rfl, hr1, hl1, hx1⟩ := open_dyadic (hval 1 26 v1 rfl rfl) h1
  obtain ⟨a2, rfl, rfl, rfl, w2⟩ := open_int Tryd.underlying2 (hval 2 2 v2 rfl rfl) h2
  clear hA0 hval0
  simp only [List.append_nil] at hW'
  refine (walk s0 A0 n0 c0 xs0 E0 s1 A1 n1 c1 xs1 E1 a2 W hr0 hl0 hx0 hr1 hl1 hx1 w2 (tabz_of_laid hL)).mono fun e W' ⟨he, hg⟩ => ?_
  subst he
  exact ⟨_, rfl, law_end (pa := _) hW' (by simp) rfl (fun _ _ _ => (trodAll_cons_mk (shut_bool Tryd.underlying4 _) trodAll_mk0)) (fun sp hsp => (trodAll_cons_mk (carryB (by kernel_rfl) (of_decide_eq_true (by kernel_rfl)) hg hc0 (fun x hx => hW'.lt x (by simp [hx])) (fun x hx => hsp x (by simp [hx]))) (trodAll_cons_mk (carryB (by kernel_rfl) (of_decide_eq_true (by kernel_rfl)) hg hc1 (fun x hx => hW'.lt x (by simp [hx])) (fun x hx => hsp x (by simp [hx]))) (trodAll_cons_mk (shut_int Tryd.underlying2 w2) trodAll_mk0)))) rfl
    hg (ok_one (by kernel_rfl) rfl (okWide_bool_mk Tryd.underlying4 _))⟩

theorem row_proved : Rows.FnExactQuotientBelowSaid :=
  OpenClaim.holds_of_wide 3 Tryd.f3 rfl rfl rfl rfl rfl rfl rfl ⟨rfl, rfl, rfl, rfl, rfl⟩ rfl rfl rfl rfl rfl (by kernel_rfl) Tryd.func3 (by kernel_rfl)
    (of_decide_eq_true (by kernel_rfl)) (by unfold Func.isWrapper; first | (rw [if_pos (by decide +kernel)]; kernel_rfl) | (rw [if_neg (by decide +kernel)]; exact ⟨rfl, rfl⟩))
    (fun os started H enc _ => lifted os started H enc)

theorem proved : Rows.FnExactQuotientBelowCardSaid :=
  Claim7.holds_tied_plain_at .later [] [.data] true (true, "ef298af8e9429d058a3b92795f2aa35ea7919098cf63857fd1bcb0290a91013f") true
    row_proved (fun _ h => by cases h) (by kernel_rfl) (fun _ h => by cases h) fnExactQuotientBelow_row_tie rfl ⟨rfl, rfl⟩ (by kernel_rfl) rfl
    (fun f fn hf hfn => by
      obtain rfl : f = 3 := Option.some.inj ((show Tryd.prog.funcNamed "loop.example/g01172/laws.FnExactQuotientBelow" = some 3 by kernel_rfl).symm.trans hf) |>.symm
      obtain rfl : fn = Tryd.f3 := (Option.some.inj (Tryd.func3.symm.trans hfn)).symm
      exact ⟨by kernel_rfl, fun j t ht => by
        rw [Tryd.params3] at ht
        have hm : t ∈ [26, 26, 2] := by simpa using Array.mem_of_getElem? ht
        have hall : ([26, 26, 2].all fun u => !Tryd.prog.wantsStandIn u) = true := by kernel_rfl
        exact (show Tryd.prog.wantsStandIn t = false by simpa using List.all_eq_true.1 hall t hm)⟩)
    (by kernel_rfl)
#print axioms proved
end Go.Proofs.YtnecnbonnidijaaDoor.fnExactQuotientBelow
