/- FnExactErrorOfPair returns true at every pair and every exact number of the laws: the program's ErrorOfPair gives the exact number and the code that the model gives, in memory of its own, and changes no argument. Condition: the table math/bits.deBruijn64tab is as Go's library lays it (tied to the text). -/
import Derived.Test.YtnecnbonnidijaaDoorRows
import Derived.Test.YtnecnbonnidijaaDoorGE1
import Derived.Test.YtnecnbonnidijaaDoorGE10
import Derived.Test.YtnecnbonnidijaaDoorGE19
import Derived.Test.YtnecnbonnidijaaDoorGE6
import Derived.Test.YtnecnbonnidijaaDoorTie
import Derived.Test.YtnecnbonnidijaaDoorCards
import Derived.SevenTiedAt
import Derived.ProofKit
import Derived.OpenShut
import Derived.Deep.RegionHeld3
import Derived.Deep.DeepCutAuto
namespace Go.Proofs.YtnecnbonnidijaaDoor.fnExactErrorOfPair
set_option maxRecDepth 100000
open Go Go.ChangeShapes Go.WideShapes Go.ChangeAt Go.RowKit
set_option linter.unusedVariables false
set_option linter.unusedSimpArgs false

theorem own : ownKnob Tryd.prog.godebug = none := by kernel_rfl

set_option maxHeartbeats 32000000 in
set_option maxRecDepth 100000 in
theorem walk (x0 y0 : Nat) (s1 : Int) (A1 : Option Addr) (n1 c1 : Nat) (xs1 : List Int) (E1 : Int) (w : World) (wx0 : x0 < 4294967296) (wy0 : y0 < 4294967296) (hr1 : Rd w w.heap.size A1 (vi xs1)) (hl1 : xs1.length = n1 ∧ (n1 : Int) ≤ 9223372036854775807) (hx1 : ∀ x ∈ xs1, -9223372036854775808 ≤ x ∧ x ≤ 9223372036854775807) (hT : TabZ w) :
    Calls Tryd.prog 7 #[.agg #[.float .f32 x0, .float .f32 y0], .agg #[.int .i64 s1, .slice A1 n1 c1, .int .i64 E1]] w fun e w' => e = .returned (.bool true) ∧ Below w.heap.size w w' := by
  have Hxy := Lib.hid (And.intro wx0 wy0)
  have Hn1 := Lib.hid hl1.1
  have Hm1 := Lib.hid hl1.2
  have Hr1 := Lib.hid hr1
  have HT := Lib.hid hT
  have Hbig1 : Hid ((1048576 : Int) < n1 ∨ ((n1 : Int) ≤ 1048576 ∧ n1 ≤ 1048576 ∧ n1 ≤ 1048580)) := Lib.hid (by have := hl1; omega)
  clear wx0 wy0 hr1 hl1 hx1 hT
  obtain ⟨S, hS⟩ : ∃ S, S = (ewZ x0 y0 s1 xs1 E1).sign := ⟨_, rfl⟩
  obtain ⟨N, hN⟩ : ∃ N, N = (limbs (ewZ x0 y0 s1 xs1 E1).natAbs).length := ⟨_, rfl⟩
  obtain ⟨XS, hX⟩ : ∃ XS, XS = li (limbs (ewZ x0 y0 s1 xs1 E1).natAbs) := ⟨_, rfl⟩
  have HS := Lib.hid hS
  have HN := Lib.hid hN
  have HX := Lib.hid hX
  have HXN : Hid (XS.length = N) := Lib.hid (by rw [hX, hN, li_len])
  have HN1 : Hid (N ≤ 1048576) := Lib.hid (by rw [hN]; have := ew_len x0 y0 s1 xs1 E1; omega)
  have HN2 : Hid (N ≤ 4194304) := Lib.hid (by have := HN1.out; omega)
  clear hS hN hX
  obtain ⟨CD, hCD⟩ : ∃ CD : Int, CD = ewE x0 y0 s1 xs1 E1 := ⟨_, rfl⟩
  have HCD := Lib.hid hCD
  clear hCD
  obtain ⟨EX, hEX⟩ : ∃ EX : Int, EX = ewX x0 y0 s1 xs1 E1 := ⟨_, rfl⟩
  have HEX := Lib.hid hEX
  clear hEX
  go_enter Tryd.func7, Tryd.ntmps7
  go_wp2_with fail
  obtain ⟨w0, hw0⟩ : ∃ w0, w0 = (w.alloc (.cells #[.float .f32 x0, .float .f32 y0] 46)).alloc (.cells #[.int .i64 s1, .slice A1 n1 c1, .int .i64 E1] 26) := ⟨_, rfl⟩
  rw [← hw0]
  have Bel_0 : Hid (Below w.heap.size w w0) := Lib.hid (by rw [hw0]; exact belNext (belAlloc1 _ _) (belAlloc1 _ _))
  have Bxp_0 : Hid (PB w0 w.heap.size x0 y0) := Lib.hid (by rw [hw0]; exact (PB.new _ _ _ _).next (belAlloc1 _ _))
  have Bx1_0 : Hid (DBox w0 (w.heap.size + 1) s1 A1 n1 c1 E1) := Lib.hid (by rw [hw0]; have h := DBox.new (w.alloc (.cells #[.float .f32 x0, .float .f32 y0] 46)) s1 A1 n1 c1 E1 26; simpa using h)
  have Ra1_0 : Hid (Rt w0 w.heap.size A1 (vi xs1)) := Lib.hid ⟨Hr1.out.below Bel_0.out, Bel_0.out.size⟩
  clear hw0 Hr1
  have Sa_0 : Hid (w.heap.size + 1 < w0.heap.size) := Lib.hid Bx1_0.out.2
  rcases Hbig1.out with hbig | ⟨hle1, hle2, hle3⟩
  · clear Hbig1
    have Hb0 := Lib.hid hbig
    clear hbig
    obtain ⟨⟨hxp1, hxp2⟩, hxp3⟩ := Bxp_0.out
    obtain ⟨⟨hx11, hx12, hx13⟩, hx14⟩ := Bx1_0.out
    refine (szD_no s1 A1 n1 c1 E1 _ _ Hb0.out (by decide) (by decide) Hm1.out).mono ?_
    rintro e w1 ⟨rfl, hb⟩
    have Bel_1 := Lib.hid (belNext Bel_0.out hb)
    have Sz_1 : Hid (w0.heap.size ≤ w1.heap.size) := Lib.hid hb.size
    have Bxp_1 := Lib.hid (Bxp_0.out.next hb)
    have Bx1_1 := Lib.hid (Bx1_0.out.next hb)
    have Ra1_1 := Lib.hid (Ra1_0.out.next hb)
    clear hb Bel_0 Bxp_0 Bx1_0 Ra1_0 hxp1 hxp2 hxp3 hx11 hx12 hx13 hx14
    go_wp2_with fail
    go_ret
    exact ⟨rfl, Bel_1.out⟩
  · clear Hbig1
    have Hl1 := Lib.hid hle1
    have Hle1 := Lib.hid hle2
    have Hk1 := Lib.hid hle3
    clear hle2 hle3
    have Hs1 : Hid ((n1 : Int) ≤ 1048576) := Lib.hid Hl1.out
    obtain ⟨⟨hxp1, hxp2⟩, hxp3⟩ := Bxp_0.out
    obtain ⟨⟨hx11, hx12, hx13⟩, hx14⟩ := Bx1_0.out
    refine (szD_yes s1 A1 n1 c1 E1 _ _ Hs1.out (by decide)).mono ?_
    rintro e w1 ⟨rfl, hb⟩
    have Bel_1 := Lib.hid (belNext Bel_0.out hb)
    have Sz_1 : Hid (w0.heap.size ≤ w1.heap.size) := Lib.hid hb.size
    have Bxp_1 := Lib.hid (Bxp_0.out.next hb)
    have Bx1_1 := Lib.hid (Bx1_0.out.next hb)
    have Ra1_1 := Lib.hid (Ra1_0.out.next hb)
    clear hb Bel_0 Bxp_0 Bx1_0 Ra1_0 hxp1 hxp2 hxp3 hx11 hx12 hx13 hx14
    obtain ⟨⟨hxp1, hxp2⟩, hxp3⟩ := Bxp_1.out
    obtain ⟨⟨hx11, hx12, hx13⟩, hx14⟩ := Bx1_1.out
    go_wp2_with fail
    go_cut [6, 7] from 21 to 28 (fun t1 t2 wx => ∃ (bq : Nat) (Bq : Option Addr) (dq lq uq : Nat), t1 = .pointer (some ⟨bq, 0, none⟩) ∧ t2 = .int .i64 CD ∧ DBox wx bq S Bq N dq EX ∧ Ot wx lq uq Bq (vi XS) ∧ (w1.heap.size ≤ lq ∧ uq ≤ wx.heap.size ∧ w1.heap.size ≤ bq ∧ (bq < lq ∨ uq ≤ bq)) ∧ w1.heap.size ≤ wx.heap.size ∧ Below w.heap.size w wx ∧ PB wx (w.heap.size) x0 y0 ∧ DBox wx (w.heap.size + 1) s1 A1 n1 c1 E1 ∧ Rt wx w.heap.size A1 (vi xs1))
    case first =>
      refine wp_region_held_drew (S := fun w' => (w'.cell? ⟨w.heap.size, 0, none⟩ = some (.float .f32 x0) ∧ w'.cell? ⟨w.heap.size, 1, none⟩ = some (.float .f32 y0)) ∧ (w'.cell? ⟨w.heap.size + 1, 0, none⟩ = some (.int .i64 s1) ∧ w'.cell? ⟨w.heap.size + 1, 1, none⟩ = some (.slice A1 n1 c1) ∧ w'.cell? ⟨w.heap.size + 1, 2, none⟩ = some (.int .i64 E1))) (by kernel_rfl) ⟨Bxp_1.out.1, Bx1_1.out.1⟩ (fun hHeld => ?_)
      clear hxp1 hxp2 hxp3 hx11 hx12 hx13 hx14
      refine wpAnyH_take (i := 0) (v := ?_) rfl (by kernel_rfl) (by kernel_rfl) (by kernel_rfl) (fun _ _ _ h => h) (Or.inl ⟨by rfl, ?_⟩) (by assumption) ?_
      rotate_left
      · (intro w hSw; (try dsimp only at hSw); go_simp; (try with_reducible rfl))
      try simp only [Act.put, List.setIfInBounds_toArray, List.set_cons_zero, List.set_cons_succ]
      refine wpAnyH_take (i := 2) (v := ?_) rfl (by kernel_rfl) (by kernel_rfl) (by kernel_rfl) (fun _ _ _ h => h) (Or.inl ⟨by rfl, ?_⟩) (by assumption) ?_
      rotate_left
      · (intro w hSw; (try dsimp only at hSw); go_simp; (try with_reducible rfl))
      try simp only [Act.put, List.setIfInBounds_toArray, List.set_cons_zero, List.set_cons_succ]
      refine wpAnyH_ready (rs := [1, 8]) (by kernel_rfl) (by simp) ?_
      refine AllReadyH.cons rfl (fun K hK => ?_) (AllReadyH.cons rfl (fun K hK => ?_) AllReadyH.nil)
      · go_simp
        refine (toPair_any x0 y0 w1.drew).mono ?_
        rintro e w2 ⟨rfl, hb0⟩
        have hb : Below w1.heap.size w1 w2 := belDrew hb0
        refine hK.out _ _ ⟨(Bxp_1.out.next hb).1, (Bx1_1.out.next hb).1⟩ (fun hHeld => ?_)
        clear hK K hb0
        have Bel_2 := Lib.hid (belNext Bel_1.out hb)
        have Sz_2 : Hid (w1.heap.size ≤ w2.heap.size) := Lib.hid hb.size
        have Bxp_2 := Lib.hid (Bxp_1.out.next hb)
        have Bx1_2 := Lib.hid (Bx1_1.out.next hb)
        have Ra1_2 := Lib.hid (Ra1_1.out.next hb)
        clear hb Bel_1 Bxp_1 Bx1_1 Ra1_1
        try simp only [Act.put, List.setIfInBounds_toArray, List.set_cons_zero, List.set_cons_succ]
        refine wpAnyH_ready (rs := [3, 8]) (by kernel_rfl) (by simp) ?_
        refine AllReadyH.cons rfl (fun K hK => ?_) (AllReadyH.cons rfl (fun K hK => ?_) AllReadyH.nil)
        · go_simp
          refine (toD2_any s1 A1 n1 c1 E1 xs1 w2 _ Ra1_2.out.1 Ra1_2.out.2 Hn1.out Hle1.out).mono ?_
          rintro e w3 ⟨Bca, dca, rfl, ho, hb0, hcp⟩
          have Cpca := Lib.hid hcp
          have hb : Below w2.heap.size w2 w3 := hb0
          have Own := Lib.hid (Ot.new ho)
          refine hK.out _ _ ⟨(Bxp_2.out.next hb).1, (Bx1_2.out.next hb).1⟩ (fun hHeld => ?_)
          clear hK K hb0 ho hcp
          have Bel_3 := Lib.hid (belNext Bel_2.out hb)
          have Sz_3 : Hid (w2.heap.size ≤ w3.heap.size) := Lib.hid hb.size
          have Bxp_3 := Lib.hid (Bxp_2.out.next hb)
          have Bx1_3 := Lib.hid (Bx1_2.out.next hb)
          have Ra1_3 := Lib.hid (Ra1_2.out.next hb)
          clear hb Bel_2 Bxp_2 Bx1_2 Ra1_2
          have Owca_3 := Own
          clear Own
          try simp only [Act.put, List.setIfInBounds_toArray, List.set_cons_zero, List.set_cons_succ]
          refine wpAnyH_ready (rs := [4, 8]) (by kernel_rfl) (by simp) ?_
          refine AllReadyH.cons rfl (fun K hK => ?_) (AllReadyH.cons rfl (fun K hK => ?_) AllReadyH.nil)
          · go_simp
            refine (specEwW_any x0 y0 s1 Bca n1 dca xs1 E1 _ Hxy.out.1 Hxy.out.2 Owca_3.out.rt.all Hn1.out Hk1.out Cpca.out).mono ?_
            rintro e w4 ⟨Sr, Bce, nr, dce, rfl, hv, hb0⟩
            obtain ⟨hs, hnn, ho⟩ := resFormD hv HS.out HN.out HX.out
            rw [hs, hnn, ← HEX.out, ← HCD.out]
            have hb : Below w3.heap.size w3 w4 := hb0
            have Own := Lib.hid (Ot.new ho)
            refine hK.out _ _ ⟨(Bxp_3.out.next hb).1, (Bx1_3.out.next hb).1⟩ (fun hHeld => ?_)
            clear hK K hb0 ho hv hs hnn
            have Bel_4 := Lib.hid (belNext Bel_3.out hb)
            have Sz_4 : Hid (w3.heap.size ≤ w4.heap.size) := Lib.hid hb.size
            have Bxp_4 := Lib.hid (Bxp_3.out.next hb)
            have Bx1_4 := Lib.hid (Bx1_3.out.next hb)
            have Ra1_4 := Lib.hid (Ra1_3.out.next hb)
            have Owca_4 := Lib.hid (Owca_3.out.next hb)
            clear hb Bel_3 Bxp_3 Bx1_3 Ra1_3 Owca_3
            have Owce_4 := Own
            clear Own
            try simp only [Act.put, List.setIfInBounds_toArray, List.set_cons_zero, List.set_cons_succ]
            refine wpAnyH_take (i := 5) (v := ?_) rfl (by kernel_rfl) (by kernel_rfl) (by kernel_rfl) (fun _ _ _ h => h) (Or.inl ⟨by rfl, ?_⟩) (by assumption) ?_
            rotate_left
            · (intro w hSw; (try dsimp only at hSw); go_simp; (try with_reducible rfl))
            try simp only [Act.put, List.setIfInBounds_toArray, List.set_cons_zero, List.set_cons_succ]
            refine wpAnyH_take (i := 6) (v := ?_) rfl (by kernel_rfl) (by kernel_rfl) (by kernel_rfl) (fun _ _ _ h => h) (Or.inl ⟨by rfl, ?_⟩) (by assumption) ?_
            rotate_left
            · (intro w hSw; (try dsimp only at hSw); go_simp; (try with_reducible rfl))
            try simp only [Act.put, List.setIfInBounds_toArray, List.set_cons_zero, List.set_cons_succ]
            refine wpAnyH_take (i := 7) (v := ?_) rfl (by kernel_rfl) (by kernel_rfl) (by kernel_rfl) (fun _ _ _ h => h) (Or.inl ⟨by rfl, ?_⟩) (by assumption) ?_
            rotate_left
            · (intro w hSw; (try dsimp only at hSw); go_simp; (try with_reducible rfl))
            try simp only [Act.put, List.setIfInBounds_toArray, List.set_cons_zero, List.set_cons_succ]
            refine wpAnyH_ready (rs := [8]) (by kernel_rfl) (by simp) ?_
            refine AllReadyH.cons rfl (fun K hK => ?_) AllReadyH.nil
            go_simp
            obtain ⟨w5, hw⟩ : ∃ w5, w5 = w4.alloc (.cells #[.int .i64 0, .slice none 0 0, .int .i64 0] 30) := ⟨_, rfl⟩
            have hb : Below w4.heap.size w4 w5 := by rw [hw]; exact belAlloc1 _ _
            have Sb_5 : Hid (w4.heap.size + 1 = w5.heap.size) := Lib.hid (by rw [hw]; simp)
            have Rs_5 : Hid (DRes w5 w4.heap.size) := Lib.hid (by rw [hw]; exact DRes.new _ _)
            rw [← hw]
            refine hK.out _ _ ⟨(Bxp_4.out.next hb).1, (Bx1_4.out.next hb).1⟩ (fun hHeld => ?_)
            clear hK K hw
            have Bel_5 := Lib.hid (belNext Bel_4.out hb)
            have Sz_5 : Hid (w4.heap.size ≤ w5.heap.size) := Lib.hid hb.size
            have Bxp_5 := Lib.hid (Bxp_4.out.next hb)
            have Bx1_5 := Lib.hid (Bx1_4.out.next hb)
            have Ra1_5 := Lib.hid (Ra1_4.out.next hb)
            have Owca_5 := Lib.hid (Owca_4.out.next hb)
            have Owce_5 := Lib.hid (Owce_4.out.next hb)
            clear hb Bel_4 Bxp_4 Bx1_4 Ra1_4 Owca_4 Owce_4
            try simp only [Act.put, List.setIfInBounds_toArray, List.set_cons_zero, List.set_cons_succ]
            refine wpAnyH_ready (rs := [9]) (by kernel_rfl) (by simp) ?_
            refine AllReadyH.cons rfl (fun K hK => ?_) AllReadyH.nil
            obtain ⟨⟨r0, r1, r2, r3, r4, r5⟩, r6⟩ := Rs_5.out
            go_simp
            refine hK.out _ (st3 w5 (w4.heap.size) S Bce N dce EX) ⟨(Bxp_5.out.st3_ (by have z0 := Sa_0.out; have z1 := Sz_1.out; have z2 := Sz_2.out; have z3 := Sz_3.out; have z4 := Sz_4.out; have z5 := Sb_5.out; have z6 := Sz_5.out; (try simp only [] at *); omega)).1, (Bx1_5.out.st3_ (by have z0 := Sa_0.out; have z1 := Sz_1.out; have z2 := Sz_2.out; have z3 := Sz_3.out; have z4 := Sz_4.out; have z5 := Sb_5.out; have z6 := Sz_5.out; (try simp only [] at *); omega)).1⟩ (fun hHeld => ?_)
            clear hK K
            try simp only [Act.put, List.setIfInBounds_toArray, List.set_cons_zero, List.set_cons_succ]
            refine wpAnyH_ready (rs := [10]) (by kernel_rfl) (by simp) ?_
            refine AllReadyH.cons rfl (fun K hK => ?_) AllReadyH.nil
            go_simp
            refine hK.out _ _ hHeld (fun hHeld => ?_)
            clear hK K hHeld
            try simp only [Act.put, List.setIfInBounds_toArray, List.set_cons_zero, List.set_cons_succ]
            refine wpAnyH_done (by kernel_rfl) ?_ _
            go_wp2_with fail
            go_meet
            exact ⟨w4.heap.size, Bce, dce, w3.heap.size, w4.heap.size, rfl, rfl, DBox.made r6 ⟨_, r0⟩ ⟨_, r1⟩ ⟨_, r2⟩, Owce_5.out.st3_ (by have z0 := Sa_0.out; have z1 := Sz_1.out; have z2 := Sz_2.out; have z3 := Sz_3.out; have z4 := Sz_4.out; have z5 := Sb_5.out; have z6 := Sz_5.out; (try simp only [] at *); omega), ⟨(by have z0 := Sa_0.out; have z1 := Sz_1.out; have z2 := Sz_2.out; have z3 := Sz_3.out; have z4 := Sz_4.out; have z5 := Sb_5.out; have z6 := Sz_5.out; (try simp only [] at *); omega), (by rw [st3_size]; exact (by have z0 := Sa_0.out; have z1 := Sz_1.out; have z2 := Sz_2.out; have z3 := Sz_3.out; have z4 := Sz_4.out; have z5 := Sb_5.out; have z6 := Sz_5.out; (try simp only [] at *); omega)), (by have z0 := Sa_0.out; have z1 := Sz_1.out; have z2 := Sz_2.out; have z3 := Sz_3.out; have z4 := Sz_4.out; have z5 := Sb_5.out; have z6 := Sz_5.out; (try simp only [] at *); omega), (by have z0 := Sa_0.out; have z1 := Sz_1.out; have z2 := Sz_2.out; have z3 := Sz_3.out; have z4 := Sz_4.out; have z5 := Sb_5.out; have z6 := Sz_5.out; (try simp only [] at *); omega)⟩, (by rw [st3_size]; exact (by have z0 := Sa_0.out; have z1 := Sz_1.out; have z2 := Sz_2.out; have z3 := Sz_3.out; have z4 := Sz_4.out; have z5 := Sb_5.out; have z6 := Sz_5.out; (try simp only [] at *); omega)), belSt3 Bel_5.out (by have z0 := Sa_0.out; have z1 := Sz_1.out; have z2 := Sz_2.out; have z3 := Sz_3.out; have z4 := Sz_4.out; have z5 := Sb_5.out; have z6 := Sz_5.out; (try simp only [] at *); omega), Bxp_5.out.st3_ (by have z0 := Sa_0.out; have z1 := Sz_1.out; have z2 := Sz_2.out; have z3 := Sz_3.out; have z4 := Sz_4.out; have z5 := Sb_5.out; have z6 := Sz_5.out; (try simp only [] at *); omega), Bx1_5.out.st3_ (by have z0 := Sa_0.out; have z1 := Sz_1.out; have z2 := Sz_2.out; have z3 := Sz_3.out; have z4 := Sz_4.out; have z5 := Sb_5.out; have z6 := Sz_5.out; (try simp only [] at *); omega), Ra1_5.out.st3_ (by have z0 := Sa_0.out; have z1 := Sz_1.out; have z2 := Sz_2.out; have z3 := Sz_3.out; have z4 := Sz_4.out; have z5 := Sb_5.out; have z6 := Sz_5.out; (try simp only [] at *); omega)⟩
          · go_simp
            obtain ⟨w4, hw⟩ : ∃ w4, w4 = w3.alloc (.cells #[.int .i64 0, .slice none 0 0, .int .i64 0] 30) := ⟨_, rfl⟩
            have hb : Below w3.heap.size w3 w4 := by rw [hw]; exact belAlloc1 _ _
            have Sb_4 : Hid (w3.heap.size + 1 = w4.heap.size) := Lib.hid (by rw [hw]; simp)
            have Rs_4 : Hid (DRes w4 w3.heap.size) := Lib.hid (by rw [hw]; exact DRes.new _ _)
            rw [← hw]
            refine hK.out _ _ ⟨(Bxp_3.out.next hb).1, (Bx1_3.out.next hb).1⟩ (fun hHeld => ?_)
            clear hK K hw
            have Bel_4 := Lib.hid (belNext Bel_3.out hb)
            have Sz_4 : Hid (w3.heap.size ≤ w4.heap.size) := Lib.hid hb.size
            have Bxp_4 := Lib.hid (Bxp_3.out.next hb)
            have Bx1_4 := Lib.hid (Bx1_3.out.next hb)
            have Ra1_4 := Lib.hid (Ra1_3.out.next hb)
            have Owca_4 := Lib.hid (Owca_3.out.next hb)
            clear hb Bel_3 Bxp_3 Bx1_3 Ra1_3 Owca_3
            try simp only [Act.put, List.setIfInBounds_toArray, List.set_cons_zero, List.set_cons_succ]
            refine wpAnyH_ready (rs := [4]) (by kernel_rfl) (by simp) ?_
            refine AllReadyH.cons rfl (fun K hK => ?_) AllReadyH.nil
            go_simp
            refine (specEwW_any x0 y0 s1 Bca n1 dca xs1 E1 _ Hxy.out.1 Hxy.out.2 Owca_4.out.rt.all Hn1.out Hk1.out Cpca.out).mono ?_
            rintro e w5 ⟨Sr, Bce, nr, dce, rfl, hv, hb0⟩
            obtain ⟨hs, hnn, ho⟩ := resFormD hv HS.out HN.out HX.out
            rw [hs, hnn, ← HEX.out, ← HCD.out]
            have hb : Below w4.heap.size w4 w5 := hb0
            have Own := Lib.hid (Ot.new ho)
            refine hK.out _ _ ⟨(Bxp_4.out.next hb).1, (Bx1_4.out.next hb).1⟩ (fun hHeld => ?_)
            clear hK K hb0 ho hv hs hnn
            have Bel_5 := Lib.hid (belNext Bel_4.out hb)
            have Sz_5 : Hid (w4.heap.size ≤ w5.heap.size) := Lib.hid hb.size
            have Rs_5 := Lib.hid (Rs_4.out.next hb)
            have Bxp_5 := Lib.hid (Bxp_4.out.next hb)
            have Bx1_5 := Lib.hid (Bx1_4.out.next hb)
            have Ra1_5 := Lib.hid (Ra1_4.out.next hb)
            have Owca_5 := Lib.hid (Owca_4.out.next hb)
            clear hb Bel_4 Bxp_4 Bx1_4 Ra1_4 Owca_4
            have Owce_5 := Own
            clear Own
            try simp only [Act.put, List.setIfInBounds_toArray, List.set_cons_zero, List.set_cons_succ]
            refine wpAnyH_take (i := 5) (v := ?_) rfl (by kernel_rfl) (by kernel_rfl) (by kernel_rfl) (fun _ _ _ h => h) (Or.inl ⟨by rfl, ?_⟩) (by assumption) ?_
            rotate_left
            · (intro w hSw; (try dsimp only at hSw); go_simp; (try with_reducible rfl))
            try simp only [Act.put, List.setIfInBounds_toArray, List.set_cons_zero, List.set_cons_succ]
            refine wpAnyH_take (i := 6) (v := ?_) rfl (by kernel_rfl) (by kernel_rfl) (by kernel_rfl) (fun _ _ _ h => h) (Or.inl ⟨by rfl, ?_⟩) (by assumption) ?_
            rotate_left
            · (intro w hSw; (try dsimp only at hSw); go_simp; (try with_reducible rfl))
            try simp only [Act.put, List.setIfInBounds_toArray, List.set_cons_zero, List.set_cons_succ]
            refine wpAnyH_take (i := 7) (v := ?_) rfl (by kernel_rfl) (by kernel_rfl) (by kernel_rfl) (fun _ _ _ h => h) (Or.inl ⟨by rfl, ?_⟩) (by assumption) ?_
            rotate_left
            · (intro w hSw; (try dsimp only at hSw); go_simp; (try with_reducible rfl))
            try simp only [Act.put, List.setIfInBounds_toArray, List.set_cons_zero, List.set_cons_succ]
            refine wpAnyH_ready (rs := [9]) (by kernel_rfl) (by simp) ?_
            refine AllReadyH.cons rfl (fun K hK => ?_) AllReadyH.nil
            obtain ⟨⟨r0, r1, r2, r3, r4, r5⟩, r6⟩ := Rs_5.out
            go_simp
            refine hK.out _ (st3 w5 (w3.heap.size) S Bce N dce EX) ⟨(Bxp_5.out.st3_ (by have z0 := Sa_0.out; have z1 := Sz_1.out; have z2 := Sz_2.out; have z3 := Sz_3.out; have z4 := Sb_4.out; have z5 := Sz_4.out; have z6 := Sz_5.out; (try simp only [] at *); omega)).1, (Bx1_5.out.st3_ (by have z0 := Sa_0.out; have z1 := Sz_1.out; have z2 := Sz_2.out; have z3 := Sz_3.out; have z4 := Sb_4.out; have z5 := Sz_4.out; have z6 := Sz_5.out; (try simp only [] at *); omega)).1⟩ (fun hHeld => ?_)
            clear hK K
            try simp only [Act.put, List.setIfInBounds_toArray, List.set_cons_zero, List.set_cons_succ]
            refine wpAnyH_ready (rs := [10]) (by kernel_rfl) (by simp) ?_
            refine AllReadyH.cons rfl (fun K hK => ?_) AllReadyH.nil
            go_simp
            refine hK.out _ _ hHeld (fun hHeld => ?_)
            clear hK K hHeld
            try simp only [Act.put, List.setIfInBounds_toArray, List.set_cons_zero, List.set_cons_succ]
            refine wpAnyH_done (by kernel_rfl) ?_ _
            go_wp2_with fail
            go_meet
            exact ⟨w3.heap.size, Bce, dce, w4.heap.size, w5.heap.size, rfl, rfl, DBox.made r6 ⟨_, r0⟩ ⟨_, r1⟩ ⟨_, r2⟩, Owce_5.out.st3_ (by have z0 := Sa_0.out; have z1 := Sz_1.out; have z2 := Sz_2.out; have z3 := Sz_3.out; have z4 := Sb_4.out; have z5 := Sz_4.out; have z6 := Sz_5.out; (try simp only [] at *); omega), ⟨(by have z0 := Sa_0.out; have z1 := Sz_1.out; have z2 := Sz_2.out; have z3 := Sz_3.out; have z4 := Sb_4.out; have z5 := Sz_4.out; have z6 := Sz_5.out; (try simp only [] at *); omega), (by rw [st3_size]; exact (by have z0 := Sa_0.out; have z1 := Sz_1.out; have z2 := Sz_2.out; have z3 := Sz_3.out; have z4 := Sb_4.out; have z5 := Sz_4.out; have z6 := Sz_5.out; (try simp only [] at *); omega)), (by have z0 := Sa_0.out; have z1 := Sz_1.out; have z2 := Sz_2.out; have z3 := Sz_3.out; have z4 := Sb_4.out; have z5 := Sz_4.out; have z6 := Sz_5.out; (try simp only [] at *); omega), (by have z0 := Sa_0.out; have z1 := Sz_1.out; have z2 := Sz_2.out; have z3 := Sz_3.out; have z4 := Sb_4.out; have z5 := Sz_4.out; have z6 := Sz_5.out; (try simp only [] at *); omega)⟩, (by rw [st3_size]; exact (by have z0 := Sa_0.out; have z1 := Sz_1.out; have z2 := Sz_2.out; have z3 := Sz_3.out; have z4 := Sb_4.out; have z5 := Sz_4.out; have z6 := Sz_5.out; (try simp only [] at *); omega)), belSt3 Bel_5.out (by have z0 := Sa_0.out; have z1 := Sz_1.out; have z2 := Sz_2.out; have z3 := Sz_3.out; have z4 := Sb_4.out; have z5 := Sz_4.out; have z6 := Sz_5.out; (try simp only [] at *); omega), Bxp_5.out.st3_ (by have z0 := Sa_0.out; have z1 := Sz_1.out; have z2 := Sz_2.out; have z3 := Sz_3.out; have z4 := Sb_4.out; have z5 := Sz_4.out; have z6 := Sz_5.out; (try simp only [] at *); omega), Bx1_5.out.st3_ (by have z0 := Sa_0.out; have z1 := Sz_1.out; have z2 := Sz_2.out; have z3 := Sz_3.out; have z4 := Sb_4.out; have z5 := Sz_4.out; have z6 := Sz_5.out; (try simp only [] at *); omega), Ra1_5.out.st3_ (by have z0 := Sa_0.out; have z1 := Sz_1.out; have z2 := Sz_2.out; have z3 := Sz_3.out; have z4 := Sb_4.out; have z5 := Sz_4.out; have z6 := Sz_5.out; (try simp only [] at *); omega)⟩
        · go_simp
          obtain ⟨w3, hw⟩ : ∃ w3, w3 = w2.alloc (.cells #[.int .i64 0, .slice none 0 0, .int .i64 0] 30) := ⟨_, rfl⟩
          have hb : Below w2.heap.size w2 w3 := by rw [hw]; exact belAlloc1 _ _
          have Sb_3 : Hid (w2.heap.size + 1 = w3.heap.size) := Lib.hid (by rw [hw]; simp)
          have Rs_3 : Hid (DRes w3 w2.heap.size) := Lib.hid (by rw [hw]; exact DRes.new _ _)
          rw [← hw]
          refine hK.out _ _ ⟨(Bxp_2.out.next hb).1, (Bx1_2.out.next hb).1⟩ (fun hHeld => ?_)
          clear hK K hw
          have Bel_3 := Lib.hid (belNext Bel_2.out hb)
          have Sz_3 : Hid (w2.heap.size ≤ w3.heap.size) := Lib.hid hb.size
          have Bxp_3 := Lib.hid (Bxp_2.out.next hb)
          have Bx1_3 := Lib.hid (Bx1_2.out.next hb)
          have Ra1_3 := Lib.hid (Ra1_2.out.next hb)
          clear hb Bel_2 Bxp_2 Bx1_2 Ra1_2
          try simp only [Act.put, List.setIfInBounds_toArray, List.set_cons_zero, List.set_cons_succ]
          refine wpAnyH_ready (rs := [3]) (by kernel_rfl) (by simp) ?_
          refine AllReadyH.cons rfl (fun K hK => ?_) AllReadyH.nil
          go_simp
          refine (toD2_any s1 A1 n1 c1 E1 xs1 w3 _ Ra1_3.out.1 Ra1_3.out.2 Hn1.out Hle1.out).mono ?_
          rintro e w4 ⟨Bca, dca, rfl, ho, hb0, hcp⟩
          have Cpca := Lib.hid hcp
          have hb : Below w3.heap.size w3 w4 := hb0
          have Own := Lib.hid (Ot.new ho)
          refine hK.out _ _ ⟨(Bxp_3.out.next hb).1, (Bx1_3.out.next hb).1⟩ (fun hHeld => ?_)
          clear hK K hb0 ho hcp
          have Bel_4 := Lib.hid (belNext Bel_3.out hb)
          have Sz_4 : Hid (w3.heap.size ≤ w4.heap.size) := Lib.hid hb.size
          have Rs_4 := Lib.hid (Rs_3.out.next hb)
          have Bxp_4 := Lib.hid (Bxp_3.out.next hb)
          have Bx1_4 := Lib.hid (Bx1_3.out.next hb)
          have Ra1_4 := Lib.hid (Ra1_3.out.next hb)
          clear hb Bel_3 Bxp_3 Bx1_3 Ra1_3
          have Owca_4 := Own
          clear Own
          try simp only [Act.put, List.setIfInBounds_toArray, List.set_cons_zero, List.set_cons_succ]
          refine wpAnyH_ready (rs := [4]) (by kernel_rfl) (by simp) ?_
          refine AllReadyH.cons rfl (fun K hK => ?_) AllReadyH.nil
          go_simp
          refine (specEwW_any x0 y0 s1 Bca n1 dca xs1 E1 _ Hxy.out.1 Hxy.out.2 Owca_4.out.rt.all Hn1.out Hk1.out Cpca.out).mono ?_
          rintro e w5 ⟨Sr, Bce, nr, dce, rfl, hv, hb0⟩
          obtain ⟨hs, hnn, ho⟩ := resFormD hv HS.out HN.out HX.out
          rw [hs, hnn, ← HEX.out, ← HCD.out]
          have hb : Below w4.heap.size w4 w5 := hb0
          have Own := Lib.hid (Ot.new ho)
          refine hK.out _ _ ⟨(Bxp_4.out.next hb).1, (Bx1_4.out.next hb).1⟩ (fun hHeld => ?_)
          clear hK K hb0 ho hv hs hnn
          have Bel_5 := Lib.hid (belNext Bel_4.out hb)
          have Sz_5 : Hid (w4.heap.size ≤ w5.heap.size) := Lib.hid hb.size
          have Rs_5 := Lib.hid (Rs_4.out.next hb)
          have Bxp_5 := Lib.hid (Bxp_4.out.next hb)
          have Bx1_5 := Lib.hid (Bx1_4.out.next hb)
          have Ra1_5 := Lib.hid (Ra1_4.out.next hb)
          have Owca_5 := Lib.hid (Owca_4.out.next hb)
          clear hb Bel_4 Bxp_4 Bx1_4 Ra1_4 Owca_4
          have Owce_5 := Own
          clear Own
          try simp only [Act.put, List.setIfInBounds_toArray, List.set_cons_zero, List.set_cons_succ]
          refine wpAnyH_take (i := 5) (v := ?_) rfl (by kernel_rfl) (by kernel_rfl) (by kernel_rfl) (fun _ _ _ h => h) (Or.inl ⟨by rfl, ?_⟩) (by assumption) ?_
          rotate_left
          · (intro w hSw; (try dsimp only at hSw); go_simp; (try with_reducible rfl))
          try simp only [Act.put, List.setIfInBounds_toArray, List.set_cons_zero, List.set_cons_succ]
          refine wpAnyH_take (i := 6) (v := ?_) rfl (by kernel_rfl) (by kernel_rfl) (by kernel_rfl) (fun _ _ _ h => h) (Or.inl ⟨by rfl, ?_⟩) (by assumption) ?_
          rotate_left
          · (intro w hSw; (try dsimp only at hSw); go_simp; (try with_reducible rfl))
          try simp only [Act.put, List.setIfInBounds_toArray, List.set_cons_zero, List.set_cons_succ]
          refine wpAnyH_take (i := 7) (v := ?_) rfl (by kernel_rfl) (by kernel_rfl) (by kernel_rfl) (fun _ _ _ h => h) (Or.inl ⟨by rfl, ?_⟩) (by assumption) ?_
          rotate_left
          · (intro w hSw; (try dsimp only at hSw); go_simp; (try with_reducible rfl))
          try simp only [Act.put, List.setIfInBounds_toArray, List.set_cons_zero, List.set_cons_succ]
          refine wpAnyH_ready (rs := [9]) (by kernel_rfl) (by simp) ?_
          refine AllReadyH.cons rfl (fun K hK => ?_) AllReadyH.nil
          obtain ⟨⟨r0, r1, r2, r3, r4, r5⟩, r6⟩ := Rs_5.out
          go_simp
          refine hK.out _ (st3 w5 (w2.heap.size) S Bce N dce EX) ⟨(Bxp_5.out.st3_ (by have z0 := Sa_0.out; have z1 := Sz_1.out; have z2 := Sz_2.out; have z3 := Sb_3.out; have z4 := Sz_3.out; have z5 := Sz_4.out; have z6 := Sz_5.out; (try simp only [] at *); omega)).1, (Bx1_5.out.st3_ (by have z0 := Sa_0.out; have z1 := Sz_1.out; have z2 := Sz_2.out; have z3 := Sb_3.out; have z4 := Sz_3.out; have z5 := Sz_4.out; have z6 := Sz_5.out; (try simp only [] at *); omega)).1⟩ (fun hHeld => ?_)
          clear hK K
          try simp only [Act.put, List.setIfInBounds_toArray, List.set_cons_zero, List.set_cons_succ]
          refine wpAnyH_ready (rs := [10]) (by kernel_rfl) (by simp) ?_
          refine AllReadyH.cons rfl (fun K hK => ?_) AllReadyH.nil
          go_simp
          refine hK.out _ _ hHeld (fun hHeld => ?_)
          clear hK K hHeld
          try simp only [Act.put, List.setIfInBounds_toArray, List.set_cons_zero, List.set_cons_succ]
          refine wpAnyH_done (by kernel_rfl) ?_ _
          go_wp2_with fail
          go_meet
          exact ⟨w2.heap.size, Bce, dce, w4.heap.size, w5.heap.size, rfl, rfl, DBox.made r6 ⟨_, r0⟩ ⟨_, r1⟩ ⟨_, r2⟩, Owce_5.out.st3_ (by have z0 := Sa_0.out; have z1 := Sz_1.out; have z2 := Sz_2.out; have z3 := Sb_3.out; have z4 := Sz_3.out; have z5 := Sz_4.out; have z6 := Sz_5.out; (try simp only [] at *); omega), ⟨(by have z0 := Sa_0.out; have z1 := Sz_1.out; have z2 := Sz_2.out; have z3 := Sb_3.out; have z4 := Sz_3.out; have z5 := Sz_4.out; have z6 := Sz_5.out; (try simp only [] at *); omega), (by rw [st3_size]; exact (by have z0 := Sa_0.out; have z1 := Sz_1.out; have z2 := Sz_2.out; have z3 := Sb_3.out; have z4 := Sz_3.out; have z5 := Sz_4.out; have z6 := Sz_5.out; (try simp only [] at *); omega)), (by have z0 := Sa_0.out; have z1 := Sz_1.out; have z2 := Sz_2.out; have z3 := Sb_3.out; have z4 := Sz_3.out; have z5 := Sz_4.out; have z6 := Sz_5.out; (try simp only [] at *); omega), (by have z0 := Sa_0.out; have z1 := Sz_1.out; have z2 := Sz_2.out; have z3 := Sb_3.out; have z4 := Sz_3.out; have z5 := Sz_4.out; have z6 := Sz_5.out; (try simp only [] at *); omega)⟩, (by rw [st3_size]; exact (by have z0 := Sa_0.out; have z1 := Sz_1.out; have z2 := Sz_2.out; have z3 := Sb_3.out; have z4 := Sz_3.out; have z5 := Sz_4.out; have z6 := Sz_5.out; (try simp only [] at *); omega)), belSt3 Bel_5.out (by have z0 := Sa_0.out; have z1 := Sz_1.out; have z2 := Sz_2.out; have z3 := Sb_3.out; have z4 := Sz_3.out; have z5 := Sz_4.out; have z6 := Sz_5.out; (try simp only [] at *); omega), Bxp_5.out.st3_ (by have z0 := Sa_0.out; have z1 := Sz_1.out; have z2 := Sz_2.out; have z3 := Sb_3.out; have z4 := Sz_3.out; have z5 := Sz_4.out; have z6 := Sz_5.out; (try simp only [] at *); omega), Bx1_5.out.st3_ (by have z0 := Sa_0.out; have z1 := Sz_1.out; have z2 := Sz_2.out; have z3 := Sb_3.out; have z4 := Sz_3.out; have z5 := Sz_4.out; have z6 := Sz_5.out; (try simp only [] at *); omega), Ra1_5.out.st3_ (by have z0 := Sa_0.out; have z1 := Sz_1.out; have z2 := Sz_2.out; have z3 := Sb_3.out; have z4 := Sz_3.out; have z5 := Sz_4.out; have z6 := Sz_5.out; (try simp only [] at *); omega)⟩
      · go_simp
        obtain ⟨w2, hw⟩ : ∃ w2, w2 = (w1.alloc (.cells #[.int .i64 0, .slice none 0 0, .int .i64 0] 30)).drew := ⟨_, rfl⟩
        have hb : Below w1.heap.size w1 w2 := by rw [hw]; exact (belAlloc1 _ _).drew
        have Sb_2 : Hid (w1.heap.size + 1 = w2.heap.size) := Lib.hid (by rw [hw]; simp)
        have Rs_2 : Hid (DRes w2 w1.heap.size) := Lib.hid (by rw [hw]; exact (DRes.new w1 _).drew)
        rw [← hw]
        refine hK.out _ _ ⟨(Bxp_1.out.next hb).1, (Bx1_1.out.next hb).1⟩ (fun hHeld => ?_)
        clear hK K hw
        have Bel_2 := Lib.hid (belNext Bel_1.out hb)
        have Sz_2 : Hid (w1.heap.size ≤ w2.heap.size) := Lib.hid hb.size
        have Bxp_2 := Lib.hid (Bxp_1.out.next hb)
        have Bx1_2 := Lib.hid (Bx1_1.out.next hb)
        have Ra1_2 := Lib.hid (Ra1_1.out.next hb)
        clear hb Bel_1 Bxp_1 Bx1_1 Ra1_1
        try simp only [Act.put, List.setIfInBounds_toArray, List.set_cons_zero, List.set_cons_succ]
        refine wpAnyH_ready (rs := [1]) (by kernel_rfl) (by simp) ?_
        refine AllReadyH.cons rfl (fun K hK => ?_) AllReadyH.nil
        go_simp
        refine (toPair_any x0 y0 w2).mono ?_
        rintro e w3 ⟨rfl, hb0⟩
        have hb : Below w2.heap.size w2 w3 := hb0
        refine hK.out _ _ ⟨(Bxp_2.out.next hb).1, (Bx1_2.out.next hb).1⟩ (fun hHeld => ?_)
        clear hK K hb0
        have Bel_3 := Lib.hid (belNext Bel_2.out hb)
        have Sz_3 : Hid (w2.heap.size ≤ w3.heap.size) := Lib.hid hb.size
        have Rs_3 := Lib.hid (Rs_2.out.next hb)
        have Bxp_3 := Lib.hid (Bxp_2.out.next hb)
        have Bx1_3 := Lib.hid (Bx1_2.out.next hb)
        have Ra1_3 := Lib.hid (Ra1_2.out.next hb)
        clear hb Bel_2 Bxp_2 Bx1_2 Ra1_2
        try simp only [Act.put, List.setIfInBounds_toArray, List.set_cons_zero, List.set_cons_succ]
        refine wpAnyH_ready (rs := [3]) (by kernel_rfl) (by simp) ?_
        refine AllReadyH.cons rfl (fun K hK => ?_) AllReadyH.nil
        go_simp
        refine (toD2_any s1 A1 n1 c1 E1 xs1 w3 _ Ra1_3.out.1 Ra1_3.out.2 Hn1.out Hle1.out).mono ?_
        rintro e w4 ⟨Bca, dca, rfl, ho, hb0, hcp⟩
        have Cpca := Lib.hid hcp
        have hb : Below w3.heap.size w3 w4 := hb0
        have Own := Lib.hid (Ot.new ho)
        refine hK.out _ _ ⟨(Bxp_3.out.next hb).1, (Bx1_3.out.next hb).1⟩ (fun hHeld => ?_)
        clear hK K hb0 ho hcp
        have Bel_4 := Lib.hid (belNext Bel_3.out hb)
        have Sz_4 : Hid (w3.heap.size ≤ w4.heap.size) := Lib.hid hb.size
        have Rs_4 := Lib.hid (Rs_3.out.next hb)
        have Bxp_4 := Lib.hid (Bxp_3.out.next hb)
        have Bx1_4 := Lib.hid (Bx1_3.out.next hb)
        have Ra1_4 := Lib.hid (Ra1_3.out.next hb)
        clear hb Bel_3 Bxp_3 Bx1_3 Ra1_3
        have Owca_4 := Own
        clear Own
        try simp only [Act.put, List.setIfInBounds_toArray, List.set_cons_zero, List.set_cons_succ]
        refine wpAnyH_ready (rs := [4]) (by kernel_rfl) (by simp) ?_
        refine AllReadyH.cons rfl (fun K hK => ?_) AllReadyH.nil
        go_simp
        refine (specEwW_any x0 y0 s1 Bca n1 dca xs1 E1 _ Hxy.out.1 Hxy.out.2 Owca_4.out.rt.all Hn1.out Hk1.out Cpca.out).mono ?_
        rintro e w5 ⟨Sr, Bce, nr, dce, rfl, hv, hb0⟩
        obtain ⟨hs, hnn, ho⟩ := resFormD hv HS.out HN.out HX.out
        rw [hs, hnn, ← HEX.out, ← HCD.out]
        have hb : Below w4.heap.size w4 w5 := hb0
        have Own := Lib.hid (Ot.new ho)
        refine hK.out _ _ ⟨(Bxp_4.out.next hb).1, (Bx1_4.out.next hb).1⟩ (fun hHeld => ?_)
        clear hK K hb0 ho hv hs hnn
        have Bel_5 := Lib.hid (belNext Bel_4.out hb)
        have Sz_5 : Hid (w4.heap.size ≤ w5.heap.size) := Lib.hid hb.size
        have Rs_5 := Lib.hid (Rs_4.out.next hb)
        have Bxp_5 := Lib.hid (Bxp_4.out.next hb)
        have Bx1_5 := Lib.hid (Bx1_4.out.next hb)
        have Ra1_5 := Lib.hid (Ra1_4.out.next hb)
        have Owca_5 := Lib.hid (Owca_4.out.next hb)
        clear hb Bel_4 Bxp_4 Bx1_4 Ra1_4 Owca_4
        have Owce_5 := Own
        clear Own
        try simp only [Act.put, List.setIfInBounds_toArray, List.set_cons_zero, List.set_cons_succ]
        refine wpAnyH_take (i := 5) (v := ?_) rfl (by kernel_rfl) (by kernel_rfl) (by kernel_rfl) (fun _ _ _ h => h) (Or.inl ⟨by rfl, ?_⟩) (by assumption) ?_
        rotate_left
        · (intro w hSw; (try dsimp only at hSw); go_simp; (try with_reducible rfl))
        try simp only [Act.put, List.setIfInBounds_toArray, List.set_cons_zero, List.set_cons_succ]
        refine wpAnyH_take (i := 6) (v := ?_) rfl (by kernel_rfl) (by kernel_rfl) (by kernel_rfl) (fun _ _ _ h => h) (Or.inl ⟨by rfl, ?_⟩) (by assumption) ?_
        rotate_left
        · (intro w hSw; (try dsimp only at hSw); go_simp; (try with_reducible rfl))
        try simp only [Act.put, List.setIfInBounds_toArray, List.set_cons_zero, List.set_cons_succ]
        refine wpAnyH_take (i := 7) (v := ?_) rfl (by kernel_rfl) (by kernel_rfl) (by kernel_rfl) (fun _ _ _ h => h) (Or.inl ⟨by rfl, ?_⟩) (by assumption) ?_
        rotate_left
        · (intro w hSw; (try dsimp only at hSw); go_simp; (try with_reducible rfl))
        try simp only [Act.put, List.setIfInBounds_toArray, List.set_cons_zero, List.set_cons_succ]
        refine wpAnyH_ready (rs := [9]) (by kernel_rfl) (by simp) ?_
        refine AllReadyH.cons rfl (fun K hK => ?_) AllReadyH.nil
        obtain ⟨⟨r0, r1, r2, r3, r4, r5⟩, r6⟩ := Rs_5.out
        go_simp
        refine hK.out _ (st3 w5 (w1.heap.size) S Bce N dce EX) ⟨(Bxp_5.out.st3_ (by have z0 := Sa_0.out; have z1 := Sz_1.out; have z2 := Sb_2.out; have z3 := Sz_2.out; have z4 := Sz_3.out; have z5 := Sz_4.out; have z6 := Sz_5.out; (try simp only [] at *); omega)).1, (Bx1_5.out.st3_ (by have z0 := Sa_0.out; have z1 := Sz_1.out; have z2 := Sb_2.out; have z3 := Sz_2.out; have z4 := Sz_3.out; have z5 := Sz_4.out; have z6 := Sz_5.out; (try simp only [] at *); omega)).1⟩ (fun hHeld => ?_)
        clear hK K
        try simp only [Act.put, List.setIfInBounds_toArray, List.set_cons_zero, List.set_cons_succ]
        refine wpAnyH_ready (rs := [10]) (by kernel_rfl) (by simp) ?_
        refine AllReadyH.cons rfl (fun K hK => ?_) AllReadyH.nil
        go_simp
        refine hK.out _ _ hHeld (fun hHeld => ?_)
        clear hK K hHeld
        try simp only [Act.put, List.setIfInBounds_toArray, List.set_cons_zero, List.set_cons_succ]
        refine wpAnyH_done (by kernel_rfl) ?_ _
        go_wp2_with fail
        go_meet
        exact ⟨w1.heap.size, Bce, dce, w4.heap.size, w5.heap.size, rfl, rfl, DBox.made r6 ⟨_, r0⟩ ⟨_, r1⟩ ⟨_, r2⟩, Owce_5.out.st3_ (by have z0 := Sa_0.out; have z1 := Sz_1.out; have z2 := Sb_2.out; have z3 := Sz_2.out; have z4 := Sz_3.out; have z5 := Sz_4.out; have z6 := Sz_5.out; (try simp only [] at *); omega), ⟨(by have z0 := Sa_0.out; have z1 := Sz_1.out; have z2 := Sb_2.out; have z3 := Sz_2.out; have z4 := Sz_3.out; have z5 := Sz_4.out; have z6 := Sz_5.out; (try simp only [] at *); omega), (by rw [st3_size]; exact (by have z0 := Sa_0.out; have z1 := Sz_1.out; have z2 := Sb_2.out; have z3 := Sz_2.out; have z4 := Sz_3.out; have z5 := Sz_4.out; have z6 := Sz_5.out; (try simp only [] at *); omega)), (by have z0 := Sa_0.out; have z1 := Sz_1.out; have z2 := Sb_2.out; have z3 := Sz_2.out; have z4 := Sz_3.out; have z5 := Sz_4.out; have z6 := Sz_5.out; (try simp only [] at *); omega), (by have z0 := Sa_0.out; have z1 := Sz_1.out; have z2 := Sb_2.out; have z3 := Sz_2.out; have z4 := Sz_3.out; have z5 := Sz_4.out; have z6 := Sz_5.out; (try simp only [] at *); omega)⟩, (by rw [st3_size]; exact (by have z0 := Sa_0.out; have z1 := Sz_1.out; have z2 := Sb_2.out; have z3 := Sz_2.out; have z4 := Sz_3.out; have z5 := Sz_4.out; have z6 := Sz_5.out; (try simp only [] at *); omega)), belSt3 Bel_5.out (by have z0 := Sa_0.out; have z1 := Sz_1.out; have z2 := Sb_2.out; have z3 := Sz_2.out; have z4 := Sz_3.out; have z5 := Sz_4.out; have z6 := Sz_5.out; (try simp only [] at *); omega), Bxp_5.out.st3_ (by have z0 := Sa_0.out; have z1 := Sz_1.out; have z2 := Sb_2.out; have z3 := Sz_2.out; have z4 := Sz_3.out; have z5 := Sz_4.out; have z6 := Sz_5.out; (try simp only [] at *); omega), Bx1_5.out.st3_ (by have z0 := Sa_0.out; have z1 := Sz_1.out; have z2 := Sb_2.out; have z3 := Sz_2.out; have z4 := Sz_3.out; have z5 := Sz_4.out; have z6 := Sz_5.out; (try simp only [] at *); omega), Ra1_5.out.st3_ (by have z0 := Sa_0.out; have z1 := Sz_1.out; have z2 := Sb_2.out; have z3 := Sz_2.out; have z4 := Sz_3.out; have z5 := Sz_4.out; have z6 := Sz_5.out; (try simp only [] at *); omega)⟩
    case rest =>
      obtain ⟨w2, hwc⟩ : ∃ w2, w2 = wc := ⟨_, rfl⟩
      rw [← hwc] at hcut ⊢
      clear hwc
      obtain ⟨be, Be, de, le, ue, rfl, rfl, hbx, hot, hrg, hsz, hBel_2, hBxp_2, hBx1_2, hRa1_2⟩ := hcut
      have Bel_2 := Lib.hid hBel_2
      have Bxp_2 := Lib.hid hBxp_2
      have Bx1_2 := Lib.hid hBx1_2
      have Ra1_2 := Lib.hid hRa1_2
      have Bxe_2 := Lib.hid hbx
      have Owe_2 := Lib.hid hot
      have Sz_2 := Lib.hid hsz
      have Sg_2 := Lib.hid hrg
      have Sq_2 : Hid (be < w2.heap.size) := Lib.hid hbx.2
      clear hbx hot hsz hrg hBel_2 hBxp_2 hBx1_2 hRa1_2 Bel_1 Bxp_1 Bx1_1 Ra1_1 hxp1 hxp2 hxp3 hx11 hx12 hx13 hx14
      obtain ⟨⟨hxp1, hxp2⟩, hxp3⟩ := Bxp_2.out
      obtain ⟨⟨hx11, hx12, hx13⟩, hx14⟩ := Bx1_2.out
      obtain ⟨⟨hxe1, hxe2, hxe3⟩, hxe4⟩ := Bxe_2.out
      go_wp2_with fail
      refine (toD2_any s1 A1 n1 c1 E1 xs1 _ _ Ra1_2.out.1 Ra1_2.out.2 Hn1.out Hle1.out).mono ?_
      rintro e w3 ⟨Bx, dx, rfl, ho, hb, hcp⟩
      have Own := Lib.hid (Ot.new ho)
      have Cpx := Lib.hid hcp
      clear ho hcp
      have Bel_3 := Lib.hid (belNext Bel_2.out hb)
      have Sz_3 : Hid (w2.heap.size ≤ w3.heap.size) := Lib.hid hb.size
      have Bxp_3 := Lib.hid (Bxp_2.out.next hb)
      have Bx1_3 := Lib.hid (Bx1_2.out.next hb)
      have Bxe_3 := Lib.hid (Bxe_2.out.next hb)
      have Ra1_3 := Lib.hid (Ra1_2.out.next hb)
      have Owe_3 := Lib.hid (Owe_2.out.next hb)
      clear hb Bel_2 Bxp_2 Bx1_2 Bxe_2 Ra1_2 Owe_2 hxp1 hxp2 hxp3 hx11 hx12 hx13 hx14 hxe1 hxe2 hxe3 hxe4
      obtain ⟨⟨hxp1, hxp2⟩, hxp3⟩ := Bxp_3.out
      obtain ⟨⟨hx11, hx12, hx13⟩, hx14⟩ := Bx1_3.out
      obtain ⟨⟨hxe1, hxe2, hxe3⟩, hxe4⟩ := Bxe_3.out
      have Owx_3 := Own
      clear Own
      go_wp2_with fail
      obtain ⟨w4, hw⟩ : ∃ w4, w4 = w3.alloc (.cells #[.int .i64 s1, .slice Bx n1 dx, .int .i64 E1] 30) := ⟨_, rfl⟩
      rw [← hw]
      have hb : Below w3.heap.size w3 w4 := by rw [hw]; exact belAlloc1 _ _
      have Bnew : Hid (DBox w4 w3.heap.size s1 Bx n1 dx E1) := Lib.hid (by rw [hw]; exact DBox.new _ _ _ _ _ _ _)
      have Sb_4 : Hid (w3.heap.size + 1 = w4.heap.size) := Lib.hid (by rw [hw]; simp)
      clear hw
      have Bel_4 := Lib.hid (belNext Bel_3.out hb)
      have Sz_4 : Hid (w3.heap.size ≤ w4.heap.size) := Lib.hid hb.size
      have Bxp_4 := Lib.hid (Bxp_3.out.next hb)
      have Bx1_4 := Lib.hid (Bx1_3.out.next hb)
      have Bxe_4 := Lib.hid (Bxe_3.out.next hb)
      have Ra1_4 := Lib.hid (Ra1_3.out.next hb)
      have Owe_4 := Lib.hid (Owe_3.out.next hb)
      have Owx_4 := Lib.hid (Owx_3.out.next hb)
      clear hb Bel_3 Bxp_3 Bx1_3 Bxe_3 Ra1_3 Owe_3 Owx_3 hxp1 hxp2 hxp3 hx11 hx12 hx13 hx14 hxe1 hxe2 hxe3 hxe4
      have Bxx_4 := Bnew
      clear Bnew
      obtain ⟨⟨hxp1, hxp2⟩, hxp3⟩ := Bxp_4.out
      obtain ⟨⟨hx11, hx12, hx13⟩, hx14⟩ := Bx1_4.out
      obtain ⟨⟨hxe1, hxe2, hxe3⟩, hxe4⟩ := Bxe_4.out
      obtain ⟨⟨hxx1, hxx2, hxx3⟩, hxx4⟩ := Bxx_4.out
      go_cut [9, 10] from 31 to 37 (fun t1 t2 wx => ∃ (bq : Nat) (Bq : Option Addr) (dq lq uq : Nat), t1 = .pointer (some ⟨bq, 0, none⟩) ∧ t2 = .int .i64 CD ∧ DBox wx bq S Bq N dq EX ∧ Ot wx lq uq Bq (vi XS) ∧ (w4.heap.size ≤ lq ∧ uq ≤ wx.heap.size ∧ w4.heap.size ≤ bq ∧ (bq < lq ∨ uq ≤ bq)) ∧ w4.heap.size ≤ wx.heap.size ∧ Below w.heap.size w wx ∧ PB wx (w.heap.size) x0 y0 ∧ DBox wx (w.heap.size + 1) s1 A1 n1 c1 E1 ∧ DBox wx (be) S Be N de EX ∧ DBox wx (w3.heap.size) s1 Bx n1 dx E1 ∧ Rt wx w.heap.size A1 (vi xs1) ∧ Ot wx (le) (ue) Be (vi XS) ∧ Ot wx (w2.heap.size) (w3.heap.size) Bx (vi xs1))
      case first =>
        refine wp_region_held_drew (S := fun w' => (w'.cell? ⟨w.heap.size, 0, none⟩ = some (.float .f32 x0) ∧ w'.cell? ⟨w.heap.size, 1, none⟩ = some (.float .f32 y0)) ∧ (w'.cell? ⟨w3.heap.size, 0, none⟩ = some (.int .i64 s1) ∧ w'.cell? ⟨w3.heap.size, 1, none⟩ = some (.slice Bx n1 dx) ∧ w'.cell? ⟨w3.heap.size, 2, none⟩ = some (.int .i64 E1))) (by kernel_rfl) ⟨Bxp_4.out.1, Bxx_4.out.1⟩ (fun hHeld => ?_)
        clear hxp1 hxp2 hxp3 hx11 hx12 hx13 hx14 hxe1 hxe2 hxe3 hxe4 hxx1 hxx2 hxx3 hxx4
        refine wpAnyH_take (i := 0) (v := ?_) rfl (by kernel_rfl) (by kernel_rfl) (by kernel_rfl) (fun _ _ _ h => h) (Or.inl ⟨by rfl, ?_⟩) (by assumption) ?_
        rotate_left
        · (intro w hSw; (try dsimp only at hSw); go_simp; (try with_reducible rfl))
        try simp only [Act.put, List.setIfInBounds_toArray, List.set_cons_zero, List.set_cons_succ]
        refine wpAnyH_take (i := 2) (v := ?_) rfl (by kernel_rfl) (by kernel_rfl) (by kernel_rfl) (fun _ _ _ h => h) (Or.inl ⟨by rfl, ?_⟩) (by assumption) ?_
        rotate_left
        · (intro w hSw; (try dsimp only at hSw); go_simp; (try with_reducible rfl))
        try simp only [Act.put, List.setIfInBounds_toArray, List.set_cons_zero, List.set_cons_succ]
        refine wpAnyH_ready (rs := [1, 7]) (by kernel_rfl) (by simp) ?_
        refine AllReadyH.cons rfl (fun K hK => ?_) (AllReadyH.cons rfl (fun K hK => ?_) AllReadyH.nil)
        · go_simp
          refine (toPair_any x0 y0 w4.drew).mono ?_
          rintro e w5 ⟨rfl, hb0⟩
          have hb : Below w4.heap.size w4 w5 := belDrew hb0
          refine hK.out _ _ ⟨(Bxp_4.out.next hb).1, (Bxx_4.out.next hb).1⟩ (fun hHeld => ?_)
          clear hK K hb0
          have Bel_5 := Lib.hid (belNext Bel_4.out hb)
          have Sz_5 : Hid (w4.heap.size ≤ w5.heap.size) := Lib.hid hb.size
          have Bxp_5 := Lib.hid (Bxp_4.out.next hb)
          have Bx1_5 := Lib.hid (Bx1_4.out.next hb)
          have Bxe_5 := Lib.hid (Bxe_4.out.next hb)
          have Bxx_5 := Lib.hid (Bxx_4.out.next hb)
          have Ra1_5 := Lib.hid (Ra1_4.out.next hb)
          have Owe_5 := Lib.hid (Owe_4.out.next hb)
          have Owx_5 := Lib.hid (Owx_4.out.next hb)
          clear hb Bel_4 Bxp_4 Bx1_4 Bxe_4 Bxx_4 Ra1_4 Owe_4 Owx_4
          try simp only [Act.put, List.setIfInBounds_toArray, List.set_cons_zero, List.set_cons_succ]
          refine wpAnyH_ready (rs := [3, 7]) (by kernel_rfl) (by simp) ?_
          refine AllReadyH.cons rfl (fun K hK => ?_) (AllReadyH.cons rfl (fun K hK => ?_) AllReadyH.nil)
          · go_simp
            refine (implEwW_any x0 y0 s1 Bx n1 dx xs1 E1 _ Hxy.out.1 Hxy.out.2 Owx_5.out.rt.all Hn1.out Hk1.out Cpx.out (HT.out.next Bel_5.out)).mono ?_
            rintro e w6 ⟨Sr, Bce, nr, dce, rfl, hv, hb0⟩
            obtain ⟨hs, hnn, ho⟩ := resFormD hv HS.out HN.out HX.out
            rw [hs, hnn, ← HEX.out, ← HCD.out]
            have hb : Below w5.heap.size w5 w6 := hb0
            have Own := Lib.hid (Ot.new ho)
            refine hK.out _ _ ⟨(Bxp_5.out.next hb).1, (Bxx_5.out.next hb).1⟩ (fun hHeld => ?_)
            clear hK K hb0 ho hv hs hnn
            have Bel_6 := Lib.hid (belNext Bel_5.out hb)
            have Sz_6 : Hid (w5.heap.size ≤ w6.heap.size) := Lib.hid hb.size
            have Bxp_6 := Lib.hid (Bxp_5.out.next hb)
            have Bx1_6 := Lib.hid (Bx1_5.out.next hb)
            have Bxe_6 := Lib.hid (Bxe_5.out.next hb)
            have Bxx_6 := Lib.hid (Bxx_5.out.next hb)
            have Ra1_6 := Lib.hid (Ra1_5.out.next hb)
            have Owe_6 := Lib.hid (Owe_5.out.next hb)
            have Owx_6 := Lib.hid (Owx_5.out.next hb)
            clear hb Bel_5 Bxp_5 Bx1_5 Bxe_5 Bxx_5 Ra1_5 Owe_5 Owx_5
            have Owce_6 := Own
            clear Own
            try simp only [Act.put, List.setIfInBounds_toArray, List.set_cons_zero, List.set_cons_succ]
            refine wpAnyH_take (i := 4) (v := ?_) rfl (by kernel_rfl) (by kernel_rfl) (by kernel_rfl) (fun _ _ _ h => h) (Or.inl ⟨by rfl, ?_⟩) (by assumption) ?_
            rotate_left
            · (intro w hSw; (try dsimp only at hSw); go_simp; (try with_reducible rfl))
            try simp only [Act.put, List.setIfInBounds_toArray, List.set_cons_zero, List.set_cons_succ]
            refine wpAnyH_take (i := 5) (v := ?_) rfl (by kernel_rfl) (by kernel_rfl) (by kernel_rfl) (fun _ _ _ h => h) (Or.inl ⟨by rfl, ?_⟩) (by assumption) ?_
            rotate_left
            · (intro w hSw; (try dsimp only at hSw); go_simp; (try with_reducible rfl))
            try simp only [Act.put, List.setIfInBounds_toArray, List.set_cons_zero, List.set_cons_succ]
            refine wpAnyH_take (i := 6) (v := ?_) rfl (by kernel_rfl) (by kernel_rfl) (by kernel_rfl) (fun _ _ _ h => h) (Or.inl ⟨by rfl, ?_⟩) (by assumption) ?_
            rotate_left
            · (intro w hSw; (try dsimp only at hSw); go_simp; (try with_reducible rfl))
            try simp only [Act.put, List.setIfInBounds_toArray, List.set_cons_zero, List.set_cons_succ]
            refine wpAnyH_ready (rs := [7]) (by kernel_rfl) (by simp) ?_
            refine AllReadyH.cons rfl (fun K hK => ?_) AllReadyH.nil
            go_simp
            obtain ⟨w7, hw⟩ : ∃ w7, w7 = w6.alloc (.cells #[.int .i64 0, .slice none 0 0, .int .i64 0] 30) := ⟨_, rfl⟩
            have hb : Below w6.heap.size w6 w7 := by rw [hw]; exact belAlloc1 _ _
            have Sb_7 : Hid (w6.heap.size + 1 = w7.heap.size) := Lib.hid (by rw [hw]; simp)
            have Rs_7 : Hid (DRes w7 w6.heap.size) := Lib.hid (by rw [hw]; exact DRes.new _ _)
            rw [← hw]
            refine hK.out _ _ ⟨(Bxp_6.out.next hb).1, (Bxx_6.out.next hb).1⟩ (fun hHeld => ?_)
            clear hK K hw
            have Bel_7 := Lib.hid (belNext Bel_6.out hb)
            have Sz_7 : Hid (w6.heap.size ≤ w7.heap.size) := Lib.hid hb.size
            have Bxp_7 := Lib.hid (Bxp_6.out.next hb)
            have Bx1_7 := Lib.hid (Bx1_6.out.next hb)
            have Bxe_7 := Lib.hid (Bxe_6.out.next hb)
            have Bxx_7 := Lib.hid (Bxx_6.out.next hb)
            have Ra1_7 := Lib.hid (Ra1_6.out.next hb)
            have Owe_7 := Lib.hid (Owe_6.out.next hb)
            have Owx_7 := Lib.hid (Owx_6.out.next hb)
            have Owce_7 := Lib.hid (Owce_6.out.next hb)
            clear hb Bel_6 Bxp_6 Bx1_6 Bxe_6 Bxx_6 Ra1_6 Owe_6 Owx_6 Owce_6
            try simp only [Act.put, List.setIfInBounds_toArray, List.set_cons_zero, List.set_cons_succ]
            refine wpAnyH_ready (rs := [8]) (by kernel_rfl) (by simp) ?_
            refine AllReadyH.cons rfl (fun K hK => ?_) AllReadyH.nil
            obtain ⟨⟨r0, r1, r2, r3, r4, r5⟩, r6⟩ := Rs_7.out
            go_simp
            refine hK.out _ (st3 w7 (w6.heap.size) S Bce N dce EX) ⟨(Bxp_7.out.st3_ (by have z0 := Sa_0.out; have z1 := Sz_1.out; have z2 := Sz_2.out; have z3 := Sq_2.out; have z4 := Sg_2.out; have z5 := Sz_3.out; have z6 := Sb_4.out; have z7 := Sz_4.out; have z8 := Sz_5.out; have z9 := Sz_6.out; have z10 := Sb_7.out; have z11 := Sz_7.out; (try simp only [] at *); omega)).1, (Bxx_7.out.st3_ (by have z0 := Sa_0.out; have z1 := Sz_1.out; have z2 := Sz_2.out; have z3 := Sq_2.out; have z4 := Sg_2.out; have z5 := Sz_3.out; have z6 := Sb_4.out; have z7 := Sz_4.out; have z8 := Sz_5.out; have z9 := Sz_6.out; have z10 := Sb_7.out; have z11 := Sz_7.out; (try simp only [] at *); omega)).1⟩ (fun hHeld => ?_)
            clear hK K
            try simp only [Act.put, List.setIfInBounds_toArray, List.set_cons_zero, List.set_cons_succ]
            refine wpAnyH_ready (rs := [9]) (by kernel_rfl) (by simp) ?_
            refine AllReadyH.cons rfl (fun K hK => ?_) AllReadyH.nil
            go_simp
            refine hK.out _ _ hHeld (fun hHeld => ?_)
            clear hK K hHeld
            try simp only [Act.put, List.setIfInBounds_toArray, List.set_cons_zero, List.set_cons_succ]
            refine wpAnyH_done (by kernel_rfl) ?_ _
            go_wp2_with fail
            go_meet
            exact ⟨w6.heap.size, Bce, dce, w5.heap.size, w6.heap.size, rfl, rfl, DBox.made r6 ⟨_, r0⟩ ⟨_, r1⟩ ⟨_, r2⟩, Owce_7.out.st3_ (by have z0 := Sa_0.out; have z1 := Sz_1.out; have z2 := Sz_2.out; have z3 := Sq_2.out; have z4 := Sg_2.out; have z5 := Sz_3.out; have z6 := Sb_4.out; have z7 := Sz_4.out; have z8 := Sz_5.out; have z9 := Sz_6.out; have z10 := Sb_7.out; have z11 := Sz_7.out; (try simp only [] at *); omega), ⟨(by have z0 := Sa_0.out; have z1 := Sz_1.out; have z2 := Sz_2.out; have z3 := Sq_2.out; have z4 := Sg_2.out; have z5 := Sz_3.out; have z6 := Sb_4.out; have z7 := Sz_4.out; have z8 := Sz_5.out; have z9 := Sz_6.out; have z10 := Sb_7.out; have z11 := Sz_7.out; (try simp only [] at *); omega), (by rw [st3_size]; exact (by have z0 := Sa_0.out; have z1 := Sz_1.out; have z2 := Sz_2.out; have z3 := Sq_2.out; have z4 := Sg_2.out; have z5 := Sz_3.out; have z6 := Sb_4.out; have z7 := Sz_4.out; have z8 := Sz_5.out; have z9 := Sz_6.out; have z10 := Sb_7.out; have z11 := Sz_7.out; (try simp only [] at *); omega)), (by have z0 := Sa_0.out; have z1 := Sz_1.out; have z2 := Sz_2.out; have z3 := Sq_2.out; have z4 := Sg_2.out; have z5 := Sz_3.out; have z6 := Sb_4.out; have z7 := Sz_4.out; have z8 := Sz_5.out; have z9 := Sz_6.out; have z10 := Sb_7.out; have z11 := Sz_7.out; (try simp only [] at *); omega), (by have z0 := Sa_0.out; have z1 := Sz_1.out; have z2 := Sz_2.out; have z3 := Sq_2.out; have z4 := Sg_2.out; have z5 := Sz_3.out; have z6 := Sb_4.out; have z7 := Sz_4.out; have z8 := Sz_5.out; have z9 := Sz_6.out; have z10 := Sb_7.out; have z11 := Sz_7.out; (try simp only [] at *); omega)⟩, (by rw [st3_size]; exact (by have z0 := Sa_0.out; have z1 := Sz_1.out; have z2 := Sz_2.out; have z3 := Sq_2.out; have z4 := Sg_2.out; have z5 := Sz_3.out; have z6 := Sb_4.out; have z7 := Sz_4.out; have z8 := Sz_5.out; have z9 := Sz_6.out; have z10 := Sb_7.out; have z11 := Sz_7.out; (try simp only [] at *); omega)), belSt3 Bel_7.out (by have z0 := Sa_0.out; have z1 := Sz_1.out; have z2 := Sz_2.out; have z3 := Sq_2.out; have z4 := Sg_2.out; have z5 := Sz_3.out; have z6 := Sb_4.out; have z7 := Sz_4.out; have z8 := Sz_5.out; have z9 := Sz_6.out; have z10 := Sb_7.out; have z11 := Sz_7.out; (try simp only [] at *); omega), Bxp_7.out.st3_ (by have z0 := Sa_0.out; have z1 := Sz_1.out; have z2 := Sz_2.out; have z3 := Sq_2.out; have z4 := Sg_2.out; have z5 := Sz_3.out; have z6 := Sb_4.out; have z7 := Sz_4.out; have z8 := Sz_5.out; have z9 := Sz_6.out; have z10 := Sb_7.out; have z11 := Sz_7.out; (try simp only [] at *); omega), Bx1_7.out.st3_ (by have z0 := Sa_0.out; have z1 := Sz_1.out; have z2 := Sz_2.out; have z3 := Sq_2.out; have z4 := Sg_2.out; have z5 := Sz_3.out; have z6 := Sb_4.out; have z7 := Sz_4.out; have z8 := Sz_5.out; have z9 := Sz_6.out; have z10 := Sb_7.out; have z11 := Sz_7.out; (try simp only [] at *); omega), Bxe_7.out.st3_ (by have z0 := Sa_0.out; have z1 := Sz_1.out; have z2 := Sz_2.out; have z3 := Sq_2.out; have z4 := Sg_2.out; have z5 := Sz_3.out; have z6 := Sb_4.out; have z7 := Sz_4.out; have z8 := Sz_5.out; have z9 := Sz_6.out; have z10 := Sb_7.out; have z11 := Sz_7.out; (try simp only [] at *); omega), Bxx_7.out.st3_ (by have z0 := Sa_0.out; have z1 := Sz_1.out; have z2 := Sz_2.out; have z3 := Sq_2.out; have z4 := Sg_2.out; have z5 := Sz_3.out; have z6 := Sb_4.out; have z7 := Sz_4.out; have z8 := Sz_5.out; have z9 := Sz_6.out; have z10 := Sb_7.out; have z11 := Sz_7.out; (try simp only [] at *); omega), Ra1_7.out.st3_ (by have z0 := Sa_0.out; have z1 := Sz_1.out; have z2 := Sz_2.out; have z3 := Sq_2.out; have z4 := Sg_2.out; have z5 := Sz_3.out; have z6 := Sb_4.out; have z7 := Sz_4.out; have z8 := Sz_5.out; have z9 := Sz_6.out; have z10 := Sb_7.out; have z11 := Sz_7.out; (try simp only [] at *); omega), Owe_7.out.st3_ (by have z0 := Sa_0.out; have z1 := Sz_1.out; have z2 := Sz_2.out; have z3 := Sq_2.out; have z4 := Sg_2.out; have z5 := Sz_3.out; have z6 := Sb_4.out; have z7 := Sz_4.out; have z8 := Sz_5.out; have z9 := Sz_6.out; have z10 := Sb_7.out; have z11 := Sz_7.out; (try simp only [] at *); omega), Owx_7.out.st3_ (by have z0 := Sa_0.out; have z1 := Sz_1.out; have z2 := Sz_2.out; have z3 := Sq_2.out; have z4 := Sg_2.out; have z5 := Sz_3.out; have z6 := Sb_4.out; have z7 := Sz_4.out; have z8 := Sz_5.out; have z9 := Sz_6.out; have z10 := Sb_7.out; have z11 := Sz_7.out; (try simp only [] at *); omega)⟩
          · go_simp
            obtain ⟨w6, hw⟩ : ∃ w6, w6 = w5.alloc (.cells #[.int .i64 0, .slice none 0 0, .int .i64 0] 30) := ⟨_, rfl⟩
            have hb : Below w5.heap.size w5 w6 := by rw [hw]; exact belAlloc1 _ _
            have Sb_6 : Hid (w5.heap.size + 1 = w6.heap.size) := Lib.hid (by rw [hw]; simp)
            have Rs_6 : Hid (DRes w6 w5.heap.size) := Lib.hid (by rw [hw]; exact DRes.new _ _)
            rw [← hw]
            refine hK.out _ _ ⟨(Bxp_5.out.next hb).1, (Bxx_5.out.next hb).1⟩ (fun hHeld => ?_)
            clear hK K hw
            have Bel_6 := Lib.hid (belNext Bel_5.out hb)
            have Sz_6 : Hid (w5.heap.size ≤ w6.heap.size) := Lib.hid hb.size
            have Bxp_6 := Lib.hid (Bxp_5.out.next hb)
            have Bx1_6 := Lib.hid (Bx1_5.out.next hb)
            have Bxe_6 := Lib.hid (Bxe_5.out.next hb)
            have Bxx_6 := Lib.hid (Bxx_5.out.next hb)
            have Ra1_6 := Lib.hid (Ra1_5.out.next hb)
            have Owe_6 := Lib.hid (Owe_5.out.next hb)
            have Owx_6 := Lib.hid (Owx_5.out.next hb)
            clear hb Bel_5 Bxp_5 Bx1_5 Bxe_5 Bxx_5 Ra1_5 Owe_5 Owx_5
            try simp only [Act.put, List.setIfInBounds_toArray, List.set_cons_zero, List.set_cons_succ]
            refine wpAnyH_ready (rs := [3]) (by kernel_rfl) (by simp) ?_
            refine AllReadyH.cons rfl (fun K hK => ?_) AllReadyH.nil
            go_simp
            refine (implEwW_any x0 y0 s1 Bx n1 dx xs1 E1 _ Hxy.out.1 Hxy.out.2 Owx_6.out.rt.all Hn1.out Hk1.out Cpx.out (HT.out.next Bel_6.out)).mono ?_
            rintro e w7 ⟨Sr, Bce, nr, dce, rfl, hv, hb0⟩
            obtain ⟨hs, hnn, ho⟩ := resFormD hv HS.out HN.out HX.out
            rw [hs, hnn, ← HEX.out, ← HCD.out]
            have hb : Below w6.heap.size w6 w7 := hb0
            have Own := Lib.hid (Ot.new ho)
            refine hK.out _ _ ⟨(Bxp_6.out.next hb).1, (Bxx_6.out.next hb).1⟩ (fun hHeld => ?_)
            clear hK K hb0 ho hv hs hnn
            have Bel_7 := Lib.hid (belNext Bel_6.out hb)
            have Sz_7 : Hid (w6.heap.size ≤ w7.heap.size) := Lib.hid hb.size
            have Rs_7 := Lib.hid (Rs_6.out.next hb)
            have Bxp_7 := Lib.hid (Bxp_6.out.next hb)
            have Bx1_7 := Lib.hid (Bx1_6.out.next hb)
            have Bxe_7 := Lib.hid (Bxe_6.out.next hb)
            have Bxx_7 := Lib.hid (Bxx_6.out.next hb)
            have Ra1_7 := Lib.hid (Ra1_6.out.next hb)
            have Owe_7 := Lib.hid (Owe_6.out.next hb)
            have Owx_7 := Lib.hid (Owx_6.out.next hb)
            clear hb Bel_6 Bxp_6 Bx1_6 Bxe_6 Bxx_6 Ra1_6 Owe_6 Owx_6
            have Owce_7 := Own
            clear Own
            try simp only [Act.put, List.setIfInBounds_toArray, List.set_cons_zero, List.set_cons_succ]
            refine wpAnyH_take (i := 4) (v := ?_) rfl (by kernel_rfl) (by kernel_rfl) (by kernel_rfl) (fun _ _ _ h => h) (Or.inl ⟨by rfl, ?_⟩) (by assumption) ?_
            rotate_left
            · (intro w hSw; (try dsimp only at hSw); go_simp; (try with_reducible rfl))
            try simp only [Act.put, List.setIfInBounds_toArray, List.set_cons_zero, List.set_cons_succ]
            refine wpAnyH_take (i := 5) (v := ?_) rfl (by kernel_rfl) (by kernel_rfl) (by kernel_rfl) (fun _ _ _ h => h) (Or.inl ⟨by rfl, ?_⟩) (by assumption) ?_
            rotate_left
            · (intro w hSw; (try dsimp only at hSw); go_simp; (try with_reducible rfl))
            try simp only [Act.put, List.setIfInBounds_toArray, List.set_cons_zero, List.set_cons_succ]
            refine wpAnyH_take (i := 6) (v := ?_) rfl (by kernel_rfl) (by kernel_rfl) (by kernel_rfl) (fun _ _ _ h => h) (Or.inl ⟨by rfl, ?_⟩) (by assumption) ?_
            rotate_left
            · (intro w hSw; (try dsimp only at hSw); go_simp; (try with_reducible rfl))
            try simp only [Act.put, List.setIfInBounds_toArray, List.set_cons_zero, List.set_cons_succ]
            refine wpAnyH_ready (rs := [8]) (by kernel_rfl) (by simp) ?_
            refine AllReadyH.cons rfl (fun K hK => ?_) AllReadyH.nil
            obtain ⟨⟨r0, r1, r2, r3, r4, r5⟩, r6⟩ := Rs_7.out
            go_simp
            refine hK.out _ (st3 w7 (w5.heap.size) S Bce N dce EX) ⟨(Bxp_7.out.st3_ (by have z0 := Sa_0.out; have z1 := Sz_1.out; have z2 := Sz_2.out; have z3 := Sq_2.out; have z4 := Sg_2.out; have z5 := Sz_3.out; have z6 := Sb_4.out; have z7 := Sz_4.out; have z8 := Sz_5.out; have z9 := Sb_6.out; have z10 := Sz_6.out; have z11 := Sz_7.out; (try simp only [] at *); omega)).1, (Bxx_7.out.st3_ (by have z0 := Sa_0.out; have z1 := Sz_1.out; have z2 := Sz_2.out; have z3 := Sq_2.out; have z4 := Sg_2.out; have z5 := Sz_3.out; have z6 := Sb_4.out; have z7 := Sz_4.out; have z8 := Sz_5.out; have z9 := Sb_6.out; have z10 := Sz_6.out; have z11 := Sz_7.out; (try simp only [] at *); omega)).1⟩ (fun hHeld => ?_)
            clear hK K
            try simp only [Act.put, List.setIfInBounds_toArray, List.set_cons_zero, List.set_cons_succ]
            refine wpAnyH_ready (rs := [9]) (by kernel_rfl) (by simp) ?_
            refine AllReadyH.cons rfl (fun K hK => ?_) AllReadyH.nil
            go_simp
            refine hK.out _ _ hHeld (fun hHeld => ?_)
            clear hK K hHeld
            try simp only [Act.put, List.setIfInBounds_toArray, List.set_cons_zero, List.set_cons_succ]
            refine wpAnyH_done (by kernel_rfl) ?_ _
            go_wp2_with fail
            go_meet
            exact ⟨w5.heap.size, Bce, dce, w6.heap.size, w7.heap.size, rfl, rfl, DBox.made r6 ⟨_, r0⟩ ⟨_, r1⟩ ⟨_, r2⟩, Owce_7.out.st3_ (by have z0 := Sa_0.out; have z1 := Sz_1.out; have z2 := Sz_2.out; have z3 := Sq_2.out; have z4 := Sg_2.out; have z5 := Sz_3.out; have z6 := Sb_4.out; have z7 := Sz_4.out; have z8 := Sz_5.out; have z9 := Sb_6.out; have z10 := Sz_6.out; have z11 := Sz_7.out; (try simp only [] at *); omega), ⟨(by have z0 := Sa_0.out; have z1 := Sz_1.out; have z2 := Sz_2.out; have z3 := Sq_2.out; have z4 := Sg_2.out; have z5 := Sz_3.out; have z6 := Sb_4.out; have z7 := Sz_4.out; have z8 := Sz_5.out; have z9 := Sb_6.out; have z10 := Sz_6.out; have z11 := Sz_7.out; (try simp only [] at *); omega), (by rw [st3_size]; exact (by have z0 := Sa_0.out; have z1 := Sz_1.out; have z2 := Sz_2.out; have z3 := Sq_2.out; have z4 := Sg_2.out; have z5 := Sz_3.out; have z6 := Sb_4.out; have z7 := Sz_4.out; have z8 := Sz_5.out; have z9 := Sb_6.out; have z10 := Sz_6.out; have z11 := Sz_7.out; (try simp only [] at *); omega)), (by have z0 := Sa_0.out; have z1 := Sz_1.out; have z2 := Sz_2.out; have z3 := Sq_2.out; have z4 := Sg_2.out; have z5 := Sz_3.out; have z6 := Sb_4.out; have z7 := Sz_4.out; have z8 := Sz_5.out; have z9 := Sb_6.out; have z10 := Sz_6.out; have z11 := Sz_7.out; (try simp only [] at *); omega), (by have z0 := Sa_0.out; have z1 := Sz_1.out; have z2 := Sz_2.out; have z3 := Sq_2.out; have z4 := Sg_2.out; have z5 := Sz_3.out; have z6 := Sb_4.out; have z7 := Sz_4.out; have z8 := Sz_5.out; have z9 := Sb_6.out; have z10 := Sz_6.out; have z11 := Sz_7.out; (try simp only [] at *); omega)⟩, (by rw [st3_size]; exact (by have z0 := Sa_0.out; have z1 := Sz_1.out; have z2 := Sz_2.out; have z3 := Sq_2.out; have z4 := Sg_2.out; have z5 := Sz_3.out; have z6 := Sb_4.out; have z7 := Sz_4.out; have z8 := Sz_5.out; have z9 := Sb_6.out; have z10 := Sz_6.out; have z11 := Sz_7.out; (try simp only [] at *); omega)), belSt3 Bel_7.out (by have z0 := Sa_0.out; have z1 := Sz_1.out; have z2 := Sz_2.out; have z3 := Sq_2.out; have z4 := Sg_2.out; have z5 := Sz_3.out; have z6 := Sb_4.out; have z7 := Sz_4.out; have z8 := Sz_5.out; have z9 := Sb_6.out; have z10 := Sz_6.out; have z11 := Sz_7.out; (try simp only [] at *); omega), Bxp_7.out.st3_ (by have z0 := Sa_0.out; have z1 := Sz_1.out; have z2 := Sz_2.out; have z3 := Sq_2.out; have z4 := Sg_2.out; have z5 := Sz_3.out; have z6 := Sb_4.out; have z7 := Sz_4.out; have z8 := Sz_5.out; have z9 := Sb_6.out; have z10 := Sz_6.out; have z11 := Sz_7.out; (try simp only [] at *); omega), Bx1_7.out.st3_ (by have z0 := Sa_0.out; have z1 := Sz_1.out; have z2 := Sz_2.out; have z3 := Sq_2.out; have z4 := Sg_2.out; have z5 := Sz_3.out; have z6 := Sb_4.out; have z7 := Sz_4.out; have z8 := Sz_5.out; have z9 := Sb_6.out; have z10 := Sz_6.out; have z11 := Sz_7.out; (try simp only [] at *); omega), Bxe_7.out.st3_ (by have z0 := Sa_0.out; have z1 := Sz_1.out; have z2 := Sz_2.out; have z3 := Sq_2.out; have z4 := Sg_2.out; have z5 := Sz_3.out; have z6 := Sb_4.out; have z7 := Sz_4.out; have z8 := Sz_5.out; have z9 := Sb_6.out; have z10 := Sz_6.out; have z11 := Sz_7.out; (try simp only [] at *); omega), Bxx_7.out.st3_ (by have z0 := Sa_0.out; have z1 := Sz_1.out; have z2 := Sz_2.out; have z3 := Sq_2.out; have z4 := Sg_2.out; have z5 := Sz_3.out; have z6 := Sb_4.out; have z7 := Sz_4.out; have z8 := Sz_5.out; have z9 := Sb_6.out; have z10 := Sz_6.out; have z11 := Sz_7.out; (try simp only [] at *); omega), Ra1_7.out.st3_ (by have z0 := Sa_0.out; have z1 := Sz_1.out; have z2 := Sz_2.out; have z3 := Sq_2.out; have z4 := Sg_2.out; have z5 := Sz_3.out; have z6 := Sb_4.out; have z7 := Sz_4.out; have z8 := Sz_5.out; have z9 := Sb_6.out; have z10 := Sz_6.out; have z11 := Sz_7.out; (try simp only [] at *); omega), Owe_7.out.st3_ (by have z0 := Sa_0.out; have z1 := Sz_1.out; have z2 := Sz_2.out; have z3 := Sq_2.out; have z4 := Sg_2.out; have z5 := Sz_3.out; have z6 := Sb_4.out; have z7 := Sz_4.out; have z8 := Sz_5.out; have z9 := Sb_6.out; have z10 := Sz_6.out; have z11 := Sz_7.out; (try simp only [] at *); omega), Owx_7.out.st3_ (by have z0 := Sa_0.out; have z1 := Sz_1.out; have z2 := Sz_2.out; have z3 := Sq_2.out; have z4 := Sg_2.out; have z5 := Sz_3.out; have z6 := Sb_4.out; have z7 := Sz_4.out; have z8 := Sz_5.out; have z9 := Sb_6.out; have z10 := Sz_6.out; have z11 := Sz_7.out; (try simp only [] at *); omega)⟩
        · go_simp
          obtain ⟨w5, hw⟩ : ∃ w5, w5 = (w4.alloc (.cells #[.int .i64 0, .slice none 0 0, .int .i64 0] 30)).drew := ⟨_, rfl⟩
          have hb : Below w4.heap.size w4 w5 := by rw [hw]; exact (belAlloc1 _ _).drew
          have Sb_5 : Hid (w4.heap.size + 1 = w5.heap.size) := Lib.hid (by rw [hw]; simp)
          have Rs_5 : Hid (DRes w5 w4.heap.size) := Lib.hid (by rw [hw]; exact (DRes.new w4 _).drew)
          rw [← hw]
          refine hK.out _ _ ⟨(Bxp_4.out.next hb).1, (Bxx_4.out.next hb).1⟩ (fun hHeld => ?_)
          clear hK K hw
          have Bel_5 := Lib.hid (belNext Bel_4.out hb)
          have Sz_5 : Hid (w4.heap.size ≤ w5.heap.size) := Lib.hid hb.size
          have Bxp_5 := Lib.hid (Bxp_4.out.next hb)
          have Bx1_5 := Lib.hid (Bx1_4.out.next hb)
          have Bxe_5 := Lib.hid (Bxe_4.out.next hb)
          have Bxx_5 := Lib.hid (Bxx_4.out.next hb)
          have Ra1_5 := Lib.hid (Ra1_4.out.next hb)
          have Owe_5 := Lib.hid (Owe_4.out.next hb)
          have Owx_5 := Lib.hid (Owx_4.out.next hb)
          clear hb Bel_4 Bxp_4 Bx1_4 Bxe_4 Bxx_4 Ra1_4 Owe_4 Owx_4
          try simp only [Act.put, List.setIfInBounds_toArray, List.set_cons_zero, List.set_cons_succ]
          refine wpAnyH_ready (rs := [1]) (by kernel_rfl) (by simp) ?_
          refine AllReadyH.cons rfl (fun K hK => ?_) AllReadyH.nil
          go_simp
          refine (toPair_any x0 y0 w5).mono ?_
          rintro e w6 ⟨rfl, hb0⟩
          have hb : Below w5.heap.size w5 w6 := hb0
          refine hK.out _ _ ⟨(Bxp_5.out.next hb).1, (Bxx_5.out.next hb).1⟩ (fun hHeld => ?_)
          clear hK K hb0
          have Bel_6 := Lib.hid (belNext Bel_5.out hb)
          have Sz_6 : Hid (w5.heap.size ≤ w6.heap.size) := Lib.hid hb.size
          have Rs_6 := Lib.hid (Rs_5.out.next hb)
          have Bxp_6 := Lib.hid (Bxp_5.out.next hb)
          have Bx1_6 := Lib.hid (Bx1_5.out.next hb)
          have Bxe_6 := Lib.hid (Bxe_5.out.next hb)
          have Bxx_6 := Lib.hid (Bxx_5.out.next hb)
          have Ra1_6 := Lib.hid (Ra1_5.out.next hb)
          have Owe_6 := Lib.hid (Owe_5.out.next hb)
          have Owx_6 := Lib.hid (Owx_5.out.next hb)
          clear hb Bel_5 Bxp_5 Bx1_5 Bxe_5 Bxx_5 Ra1_5 Owe_5 Owx_5
          try simp only [Act.put, List.setIfInBounds_toArray, List.set_cons_zero, List.set_cons_succ]
          refine wpAnyH_ready (rs := [3]) (by kernel_rfl) (by simp) ?_
          refine AllReadyH.cons rfl (fun K hK => ?_) AllReadyH.nil
          go_simp
          refine (implEwW_any x0 y0 s1 Bx n1 dx xs1 E1 _ Hxy.out.1 Hxy.out.2 Owx_6.out.rt.all Hn1.out Hk1.out Cpx.out (HT.out.next Bel_6.out)).mono ?_
          rintro e w7 ⟨Sr, Bce, nr, dce, rfl, hv, hb0⟩
          obtain ⟨hs, hnn, ho⟩ := resFormD hv HS.out HN.out HX.out
          rw [hs, hnn, ← HEX.out, ← HCD.out]
          have hb : Below w6.heap.size w6 w7 := hb0
          have Own := Lib.hid (Ot.new ho)
          refine hK.out _ _ ⟨(Bxp_6.out.next hb).1, (Bxx_6.out.next hb).1⟩ (fun hHeld => ?_)
          clear hK K hb0 ho hv hs hnn
          have Bel_7 := Lib.hid (belNext Bel_6.out hb)
          have Sz_7 : Hid (w6.heap.size ≤ w7.heap.size) := Lib.hid hb.size
          have Rs_7 := Lib.hid (Rs_6.out.next hb)
          have Bxp_7 := Lib.hid (Bxp_6.out.next hb)
          have Bx1_7 := Lib.hid (Bx1_6.out.next hb)
          have Bxe_7 := Lib.hid (Bxe_6.out.next hb)
          have Bxx_7 := Lib.hid (Bxx_6.out.next hb)
          have Ra1_7 := Lib.hid (Ra1_6.out.next hb)
          have Owe_7 := Lib.hid (Owe_6.out.next hb)
          have Owx_7 := Lib.hid (Owx_6.out.next hb)
          clear hb Bel_6 Bxp_6 Bx1_6 Bxe_6 Bxx_6 Ra1_6 Owe_6 Owx_6
          have Owce_7 := Own
          clear Own
          try simp only [Act.put, List.setIfInBounds_toArray, List.set_cons_zero, List.set_cons_succ]
          refine wpAnyH_take (i := 4) (v := ?_) rfl (by kernel_rfl) (by kernel_rfl) (by kernel_rfl) (fun _ _ _ h => h) (Or.inl ⟨by rfl, ?_⟩) (by assumption) ?_
          rotate_left
          · (intro w hSw; (try dsimp only at hSw); go_simp; (try with_reducible rfl))
          try simp only [Act.put, List.setIfInBounds_toArray, List.set_cons_zero, List.set_cons_succ]
          refine wpAnyH_take (i := 5) (v := ?_) rfl (by kernel_rfl) (by kernel_rfl) (by kernel_rfl) (fun _ _ _ h => h) (Or.inl ⟨by rfl, ?_⟩) (by assumption) ?_
          rotate_left
          · (intro w hSw; (try dsimp only at hSw); go_simp; (try with_reducible rfl))
          try simp only [Act.put, List.setIfInBounds_toArray, List.set_cons_zero, List.set_cons_succ]
          refine wpAnyH_take (i := 6) (v := ?_) rfl (by kernel_rfl) (by kernel_rfl) (by kernel_rfl) (fun _ _ _ h => h) (Or.inl ⟨by rfl, ?_⟩) (by assumption) ?_
          rotate_left
          · (intro w hSw; (try dsimp only at hSw); go_simp; (try with_reducible rfl))
          try simp only [Act.put, List.setIfInBounds_toArray, List.set_cons_zero, List.set_cons_succ]
          refine wpAnyH_ready (rs := [8]) (by kernel_rfl) (by simp) ?_
          refine AllReadyH.cons rfl (fun K hK => ?_) AllReadyH.nil
          obtain ⟨⟨r0, r1, r2, r3, r4, r5⟩, r6⟩ := Rs_7.out
          go_simp
          refine hK.out _ (st3 w7 (w4.heap.size) S Bce N dce EX) ⟨(Bxp_7.out.st3_ (by have z0 := Sa_0.out; have z1 := Sz_1.out; have z2 := Sz_2.out; have z3 := Sq_2.out; have z4 := Sg_2.out; have z5 := Sz_3.out; have z6 := Sb_4.out; have z7 := Sz_4.out; have z8 := Sb_5.out; have z9 := Sz_5.out; have z10 := Sz_6.out; have z11 := Sz_7.out; (try simp only [] at *); omega)).1, (Bxx_7.out.st3_ (by have z0 := Sa_0.out; have z1 := Sz_1.out; have z2 := Sz_2.out; have z3 := Sq_2.out; have z4 := Sg_2.out; have z5 := Sz_3.out; have z6 := Sb_4.out; have z7 := Sz_4.out; have z8 := Sb_5.out; have z9 := Sz_5.out; have z10 := Sz_6.out; have z11 := Sz_7.out; (try simp only [] at *); omega)).1⟩ (fun hHeld => ?_)
          clear hK K
          try simp only [Act.put, List.setIfInBounds_toArray, List.set_cons_zero, List.set_cons_succ]
          refine wpAnyH_ready (rs := [9]) (by kernel_rfl) (by simp) ?_
          refine AllReadyH.cons rfl (fun K hK => ?_) AllReadyH.nil
          go_simp
          refine hK.out _ _ hHeld (fun hHeld => ?_)
          clear hK K hHeld
          try simp only [Act.put, List.setIfInBounds_toArray, List.set_cons_zero, List.set_cons_succ]
          refine wpAnyH_done (by kernel_rfl) ?_ _
          go_wp2_with fail
          go_meet
          exact ⟨w4.heap.size, Bce, dce, w6.heap.size, w7.heap.size, rfl, rfl, DBox.made r6 ⟨_, r0⟩ ⟨_, r1⟩ ⟨_, r2⟩, Owce_7.out.st3_ (by have z0 := Sa_0.out; have z1 := Sz_1.out; have z2 := Sz_2.out; have z3 := Sq_2.out; have z4 := Sg_2.out; have z5 := Sz_3.out; have z6 := Sb_4.out; have z7 := Sz_4.out; have z8 := Sb_5.out; have z9 := Sz_5.out; have z10 := Sz_6.out; have z11 := Sz_7.out; (try simp only [] at *); omega), ⟨(by have z0 := Sa_0.out; have z1 := Sz_1.out; have z2 := Sz_2.out; have z3 := Sq_2.out; have z4 := Sg_2.out; have z5 := Sz_3.out; have z6 := Sb_4.out; have z7 := Sz_4.out; have z8 := Sb_5.out; have z9 := Sz_5.out; have z10 := Sz_6.out; have z11 := Sz_7.out; (try simp only [] at *); omega), (by rw [st3_size]; exact (by have z0 := Sa_0.out; have z1 := Sz_1.out; have z2 := Sz_2.out; have z3 := Sq_2.out; have z4 := Sg_2.out; have z5 := Sz_3.out; have z6 := Sb_4.out; have z7 := Sz_4.out; have z8 := Sb_5.out; have z9 := Sz_5.out; have z10 := Sz_6.out; have z11 := Sz_7.out; (try simp only [] at *); omega)), (by have z0 := Sa_0.out; have z1 := Sz_1.out; have z2 := Sz_2.out; have z3 := Sq_2.out; have z4 := Sg_2.out; have z5 := Sz_3.out; have z6 := Sb_4.out; have z7 := Sz_4.out; have z8 := Sb_5.out; have z9 := Sz_5.out; have z10 := Sz_6.out; have z11 := Sz_7.out; (try simp only [] at *); omega), (by have z0 := Sa_0.out; have z1 := Sz_1.out; have z2 := Sz_2.out; have z3 := Sq_2.out; have z4 := Sg_2.out; have z5 := Sz_3.out; have z6 := Sb_4.out; have z7 := Sz_4.out; have z8 := Sb_5.out; have z9 := Sz_5.out; have z10 := Sz_6.out; have z11 := Sz_7.out; (try simp only [] at *); omega)⟩, (by rw [st3_size]; exact (by have z0 := Sa_0.out; have z1 := Sz_1.out; have z2 := Sz_2.out; have z3 := Sq_2.out; have z4 := Sg_2.out; have z5 := Sz_3.out; have z6 := Sb_4.out; have z7 := Sz_4.out; have z8 := Sb_5.out; have z9 := Sz_5.out; have z10 := Sz_6.out; have z11 := Sz_7.out; (try simp only [] at *); omega)), belSt3 Bel_7.out (by have z0 := Sa_0.out; have z1 := Sz_1.out; have z2 := Sz_2.out; have z3 := Sq_2.out; have z4 := Sg_2.out; have z5 := Sz_3.out; have z6 := Sb_4.out; have z7 := Sz_4.out; have z8 := Sb_5.out; have z9 := Sz_5.out; have z10 := Sz_6.out; have z11 := Sz_7.out; (try simp only [] at *); omega), Bxp_7.out.st3_ (by have z0 := Sa_0.out; have z1 := Sz_1.out; have z2 := Sz_2.out; have z3 := Sq_2.out; have z4 := Sg_2.out; have z5 := Sz_3.out; have z6 := Sb_4.out; have z7 := Sz_4.out; have z8 := Sb_5.out; have z9 := Sz_5.out; have z10 := Sz_6.out; have z11 := Sz_7.out; (try simp only [] at *); omega), Bx1_7.out.st3_ (by have z0 := Sa_0.out; have z1 := Sz_1.out; have z2 := Sz_2.out; have z3 := Sq_2.out; have z4 := Sg_2.out; have z5 := Sz_3.out; have z6 := Sb_4.out; have z7 := Sz_4.out; have z8 := Sb_5.out; have z9 := Sz_5.out; have z10 := Sz_6.out; have z11 := Sz_7.out; (try simp only [] at *); omega), Bxe_7.out.st3_ (by have z0 := Sa_0.out; have z1 := Sz_1.out; have z2 := Sz_2.out; have z3 := Sq_2.out; have z4 := Sg_2.out; have z5 := Sz_3.out; have z6 := Sb_4.out; have z7 := Sz_4.out; have z8 := Sb_5.out; have z9 := Sz_5.out; have z10 := Sz_6.out; have z11 := Sz_7.out; (try simp only [] at *); omega), Bxx_7.out.st3_ (by have z0 := Sa_0.out; have z1 := Sz_1.out; have z2 := Sz_2.out; have z3 := Sq_2.out; have z4 := Sg_2.out; have z5 := Sz_3.out; have z6 := Sb_4.out; have z7 := Sz_4.out; have z8 := Sb_5.out; have z9 := Sz_5.out; have z10 := Sz_6.out; have z11 := Sz_7.out; (try simp only [] at *); omega), Ra1_7.out.st3_ (by have z0 := Sa_0.out; have z1 := Sz_1.out; have z2 := Sz_2.out; have z3 := Sq_2.out; have z4 := Sg_2.out; have z5 := Sz_3.out; have z6 := Sb_4.out; have z7 := Sz_4.out; have z8 := Sb_5.out; have z9 := Sz_5.out; have z10 := Sz_6.out; have z11 := Sz_7.out; (try simp only [] at *); omega), Owe_7.out.st3_ (by have z0 := Sa_0.out; have z1 := Sz_1.out; have z2 := Sz_2.out; have z3 := Sq_2.out; have z4 := Sg_2.out; have z5 := Sz_3.out; have z6 := Sb_4.out; have z7 := Sz_4.out; have z8 := Sb_5.out; have z9 := Sz_5.out; have z10 := Sz_6.out; have z11 := Sz_7.out; (try simp only [] at *); omega), Owx_7.out.st3_ (by have z0 := Sa_0.out; have z1 := Sz_1.out; have z2 := Sz_2.out; have z3 := Sq_2.out; have z4 := Sg_2.out; have z5 := Sz_3.out; have z6 := Sb_4.out; have z7 := Sz_4.out; have z8 := Sb_5.out; have z9 := Sz_5.out; have z10 := Sz_6.out; have z11 := Sz_7.out; (try simp only [] at *); omega)⟩
      case rest =>
        obtain ⟨w5, hwc⟩ : ∃ w5, w5 = wc := ⟨_, rfl⟩
        rw [← hwc] at hcut ⊢
        clear hwc
        obtain ⟨bg, Bg, dg, lg, ug, rfl, rfl, hbx, hot, hrg, hsz, hBel_5, hBxp_5, hBx1_5, hBxe_5, hBxx_5, hRa1_5, hOwe_5, hOwx_5⟩ := hcut
        have Bel_5 := Lib.hid hBel_5
        have Bxp_5 := Lib.hid hBxp_5
        have Bx1_5 := Lib.hid hBx1_5
        have Bxe_5 := Lib.hid hBxe_5
        have Bxx_5 := Lib.hid hBxx_5
        have Ra1_5 := Lib.hid hRa1_5
        have Owe_5 := Lib.hid hOwe_5
        have Owx_5 := Lib.hid hOwx_5
        have Bxg_5 := Lib.hid hbx
        have Owg_5 := Lib.hid hot
        have Sz_5 := Lib.hid hsz
        have Sg_5 := Lib.hid hrg
        have Sq_5 : Hid (bg < w5.heap.size) := Lib.hid hbx.2
        clear hbx hot hsz hrg hBel_5 hBxp_5 hBx1_5 hBxe_5 hBxx_5 hRa1_5 hOwe_5 hOwx_5 Bel_4 Bxp_4 Bx1_4 Bxe_4 Bxx_4 Ra1_4 Owe_4 Owx_4 hxp1 hxp2 hxp3 hx11 hx12 hx13 hx14 hxe1 hxe2 hxe3 hxe4 hxx1 hxx2 hxx3 hxx4
        obtain ⟨⟨hxp1, hxp2⟩, hxp3⟩ := Bxp_5.out
        obtain ⟨⟨hx11, hx12, hx13⟩, hx14⟩ := Bx1_5.out
        obtain ⟨⟨hxe1, hxe2, hxe3⟩, hxe4⟩ := Bxe_5.out
        obtain ⟨⟨hxx1, hxx2, hxx3⟩, hxx4⟩ := Bxx_5.out
        obtain ⟨⟨hxg1, hxg2, hxg3⟩, hxg4⟩ := Bxg_5.out
        go_wp2_with fail
        refine (eqD_yes S Bg Be N dg de _ _ EX XS _ Owg_5.out.rt.1 Owe_5.out.rt.1 Owg_5.out.rt.2 Owe_5.out.rt.2 HXN.out HN1.out).mono ?_
        rintro e w6 ⟨rfl, hb⟩
        have Bel_6 := Lib.hid (belNext Bel_5.out hb)
        have Sz_6 : Hid (w5.heap.size ≤ w6.heap.size) := Lib.hid hb.size
        have Bxp_6 := Lib.hid (Bxp_5.out.next hb)
        have Bx1_6 := Lib.hid (Bx1_5.out.next hb)
        have Bxe_6 := Lib.hid (Bxe_5.out.next hb)
        have Bxx_6 := Lib.hid (Bxx_5.out.next hb)
        have Bxg_6 := Lib.hid (Bxg_5.out.next hb)
        have Ra1_6 := Lib.hid (Ra1_5.out.next hb)
        have Owe_6 := Lib.hid (Owe_5.out.next hb)
        have Owx_6 := Lib.hid (Owx_5.out.next hb)
        have Owg_6 := Lib.hid (Owg_5.out.next hb)
        clear hb Bel_5 Bxp_5 Bx1_5 Bxe_5 Bxx_5 Bxg_5 Ra1_5 Owe_5 Owx_5 Owg_5 hxp1 hxp2 hxp3 hx11 hx12 hx13 hx14 hxe1 hxe2 hxe3 hxe4 hxx1 hxx2 hxx3 hxx4 hxg1 hxg2 hxg3 hxg4
        obtain ⟨⟨hxp1, hxp2⟩, hxp3⟩ := Bxp_6.out
        obtain ⟨⟨hx11, hx12, hx13⟩, hx14⟩ := Bx1_6.out
        obtain ⟨⟨hxe1, hxe2, hxe3⟩, hxe4⟩ := Bxe_6.out
        obtain ⟨⟨hxx1, hxx2, hxx3⟩, hxx4⟩ := Bxx_6.out
        obtain ⟨⟨hxg1, hxg2, hxg3⟩, hxg4⟩ := Bxg_6.out
        go_wp2_with fail
        refine wp_region_held_drew (S := fun w' => (w'.cell? ⟨w.heap.size + 1, 0, none⟩ = some (.int .i64 s1) ∧ w'.cell? ⟨w.heap.size + 1, 1, none⟩ = some (.slice A1 n1 c1) ∧ w'.cell? ⟨w.heap.size + 1, 2, none⟩ = some (.int .i64 E1)) ∧ (w'.cell? ⟨w3.heap.size, 0, none⟩ = some (.int .i64 s1) ∧ w'.cell? ⟨w3.heap.size, 1, none⟩ = some (.slice Bx n1 dx) ∧ w'.cell? ⟨w3.heap.size, 2, none⟩ = some (.int .i64 E1))) (by kernel_rfl) ⟨Bx1_6.out.1, Bxx_6.out.1⟩ (fun hHeld => ?_)
        clear hxp1 hxp2 hxp3 hx11 hx12 hx13 hx14 hxe1 hxe2 hxe3 hxe4 hxx1 hxx2 hxx3 hxx4 hxg1 hxg2 hxg3 hxg4
        refine wpAnyH_take (i := 0) (v := ?_) rfl (by kernel_rfl) (by kernel_rfl) (by kernel_rfl) (fun _ _ _ h => h) (Or.inl ⟨by rfl, ?_⟩) (by assumption) ?_
        rotate_left
        · (intro w hSw; (try dsimp only at hSw); go_simp; (try with_reducible rfl))
        try simp only [Act.put, List.setIfInBounds_toArray, List.set_cons_zero, List.set_cons_succ]
        refine wpAnyH_take (i := 1) (v := ?_) rfl (by kernel_rfl) (by kernel_rfl) (by kernel_rfl) (fun _ _ _ h => h) (Or.inl ⟨by rfl, ?_⟩) (by assumption) ?_
        rotate_left
        · (intro w hSw; (try dsimp only at hSw); go_simp; (try with_reducible rfl))
        try simp only [Act.put, List.setIfInBounds_toArray, List.set_cons_zero, List.set_cons_succ]
        refine wpAnyH_ready (rs := [2]) (by kernel_rfl) (by simp) ?_
        refine AllReadyH.cons rfl (fun K hK => ?_) AllReadyH.nil
        go_simp
        refine (toD_any s1 A1 n1 c1 E1 xs1 w6.drew _ Ra1_6.out.1 Ra1_6.out.2 Hn1.out Hle1.out).mono ?_
        rintro e w7 ⟨Bh, dh, rfl, ho, hb0⟩
        have hb : Below w6.heap.size w6 w7 := belDrew hb0
        refine hK.out _ _ ⟨(Bx1_6.out.next hb).1, (Bxx_6.out.next hb).1⟩ (fun hHeld => ?_)
        have Own := Lib.hid (Ot.new ho)
        clear ho
        clear hK K hb0
        have Bel_7 := Lib.hid (belNext Bel_6.out hb)
        have Sz_7 : Hid (w6.heap.size ≤ w7.heap.size) := Lib.hid hb.size
        have Bxp_7 := Lib.hid (Bxp_6.out.next hb)
        have Bx1_7 := Lib.hid (Bx1_6.out.next hb)
        have Bxe_7 := Lib.hid (Bxe_6.out.next hb)
        have Bxx_7 := Lib.hid (Bxx_6.out.next hb)
        have Bxg_7 := Lib.hid (Bxg_6.out.next hb)
        have Ra1_7 := Lib.hid (Ra1_6.out.next hb)
        have Owe_7 := Lib.hid (Owe_6.out.next hb)
        have Owx_7 := Lib.hid (Owx_6.out.next hb)
        have Owg_7 := Lib.hid (Owg_6.out.next hb)
        clear hb Bel_6 Bxp_6 Bx1_6 Bxe_6 Bxx_6 Bxg_6 Ra1_6 Owe_6 Owx_6 Owg_6
        try simp only [Act.put, List.setIfInBounds_toArray, List.set_cons_zero, List.set_cons_succ]
        refine wpAnyH_ready (rs := [3]) (by kernel_rfl) (by simp) ?_
        refine AllReadyH.cons rfl (fun K hK => ?_) AllReadyH.nil
        go_simp
        refine (eqD_yes s1 Bx Bh n1 dx dh _ _ E1 xs1 _ Owx_7.out.rt.1 Own.out.rt.1 Owx_7.out.rt.2 Own.out.rt.2 Hn1.out Hle1.out).mono ?_
        rintro e w8 ⟨rfl, hb0⟩
        have hb : Below w7.heap.size w7 w8 := hb0
        refine hK.out _ _ ⟨(Bx1_7.out.next hb).1, (Bxx_7.out.next hb).1⟩ (fun hHeld => ?_)
        clear Own
        clear hK K hb0
        have Bel_8 := Lib.hid (belNext Bel_7.out hb)
        have Sz_8 : Hid (w7.heap.size ≤ w8.heap.size) := Lib.hid hb.size
        have Bxp_8 := Lib.hid (Bxp_7.out.next hb)
        have Bx1_8 := Lib.hid (Bx1_7.out.next hb)
        have Bxe_8 := Lib.hid (Bxe_7.out.next hb)
        have Bxx_8 := Lib.hid (Bxx_7.out.next hb)
        have Bxg_8 := Lib.hid (Bxg_7.out.next hb)
        have Ra1_8 := Lib.hid (Ra1_7.out.next hb)
        have Owe_8 := Lib.hid (Owe_7.out.next hb)
        have Owx_8 := Lib.hid (Owx_7.out.next hb)
        have Owg_8 := Lib.hid (Owg_7.out.next hb)
        clear hb Bel_7 Bxp_7 Bx1_7 Bxe_7 Bxx_7 Bxg_7 Ra1_7 Owe_7 Owx_7 Owg_7
        try simp only [Act.put, List.setIfInBounds_toArray, List.set_cons_zero, List.set_cons_succ]
        refine wpAnyH_ready (rs := [4]) (by kernel_rfl) (by simp) ?_
        refine AllReadyH.cons rfl (fun K hK => ?_) AllReadyH.nil
        go_simp
        refine hK.out _ _ hHeld (fun hHeld => ?_)
        clear hK K
        try simp only [Act.put, List.setIfInBounds_toArray, List.set_cons_zero, List.set_cons_succ]
        refine wpAnyH_done (by kernel_rfl) ?_ _
        clear hHeld
        obtain ⟨⟨hxp1, hxp2⟩, hxp3⟩ := Bxp_8.out
        obtain ⟨⟨hx11, hx12, hx13⟩, hx14⟩ := Bx1_8.out
        obtain ⟨⟨hxe1, hxe2, hxe3⟩, hxe4⟩ := Bxe_8.out
        obtain ⟨⟨hxx1, hxx2, hxx3⟩, hxx4⟩ := Bxx_8.out
        obtain ⟨⟨hxg1, hxg2, hxg3⟩, hxg4⟩ := Bxg_8.out
        go_wp2_with fail
        refine (markD_any s1 Bx n1 dx E1 1 xs1 _ _ _ Owx_8.out.1 Hn1.out (by have := Hle1.out; omega) (by omega) (by omega) Owx_8.out.2).mono ?_
        rintro e w9 ⟨rfl, ho, row, hg, hrow⟩
        obtain ⟨K1, hK1⟩ : ∃ K1 : Int, K1 = 1 + ↑n1 := ⟨_, rfl⟩
        rw [← hK1]
        have hK1a : 0 ≤ K1 := by omega
        have hK1b : K1 ≤ 1048577 := by omega
        clear hK1
        have Bel_9 := Lib.hid (belMarked Bel_8.out hg hrow (by have z0 := Sa_0.out; have z1 := Sz_1.out; have z2 := Sz_2.out; have z3 := Sq_2.out; have z4 := Sg_2.out; have z5 := Sz_3.out; have z6 := Sb_4.out; have z7 := Sz_4.out; have z8 := Sz_5.out; have z9 := Sq_5.out; have z10 := Sg_5.out; have z11 := Sz_6.out; have z12 := Sz_7.out; have z13 := Sz_8.out; (try simp only [] at *); omega))
        have Sz_9 : Hid (w8.heap.size ≤ w9.heap.size) := Lib.hid hg.size
        have Bxp_9 := Lib.hid (Bxp_8.out.grown hg hrow (by have z0 := Sa_0.out; have z1 := Sz_1.out; have z2 := Sz_2.out; have z3 := Sq_2.out; have z4 := Sg_2.out; have z5 := Sz_3.out; have z6 := Sb_4.out; have z7 := Sz_4.out; have z8 := Sz_5.out; have z9 := Sq_5.out; have z10 := Sg_5.out; have z11 := Sz_6.out; have z12 := Sz_7.out; have z13 := Sz_8.out; (try simp only [] at *); omega))
        have Bx1_9 := Lib.hid (Bx1_8.out.grown hg hrow (by have z0 := Sa_0.out; have z1 := Sz_1.out; have z2 := Sz_2.out; have z3 := Sq_2.out; have z4 := Sg_2.out; have z5 := Sz_3.out; have z6 := Sb_4.out; have z7 := Sz_4.out; have z8 := Sz_5.out; have z9 := Sq_5.out; have z10 := Sg_5.out; have z11 := Sz_6.out; have z12 := Sz_7.out; have z13 := Sz_8.out; (try simp only [] at *); omega))
        have Bxe_9 := Lib.hid (Bxe_8.out.grown hg hrow (by have z0 := Sa_0.out; have z1 := Sz_1.out; have z2 := Sz_2.out; have z3 := Sq_2.out; have z4 := Sg_2.out; have z5 := Sz_3.out; have z6 := Sb_4.out; have z7 := Sz_4.out; have z8 := Sz_5.out; have z9 := Sq_5.out; have z10 := Sg_5.out; have z11 := Sz_6.out; have z12 := Sz_7.out; have z13 := Sz_8.out; (try simp only [] at *); omega))
        have Bxx_9 := Lib.hid (Bxx_8.out.grown hg hrow (by have z0 := Sa_0.out; have z1 := Sz_1.out; have z2 := Sz_2.out; have z3 := Sq_2.out; have z4 := Sg_2.out; have z5 := Sz_3.out; have z6 := Sb_4.out; have z7 := Sz_4.out; have z8 := Sz_5.out; have z9 := Sq_5.out; have z10 := Sg_5.out; have z11 := Sz_6.out; have z12 := Sz_7.out; have z13 := Sz_8.out; (try simp only [] at *); omega))
        have Bxg_9 := Lib.hid (Bxg_8.out.grown hg hrow (by have z0 := Sa_0.out; have z1 := Sz_1.out; have z2 := Sz_2.out; have z3 := Sq_2.out; have z4 := Sg_2.out; have z5 := Sz_3.out; have z6 := Sb_4.out; have z7 := Sz_4.out; have z8 := Sz_5.out; have z9 := Sq_5.out; have z10 := Sg_5.out; have z11 := Sz_6.out; have z12 := Sz_7.out; have z13 := Sz_8.out; (try simp only [] at *); omega))
        have Ra1_9 := Lib.hid (Ra1_8.out.grown hg hrow (by have z0 := Sa_0.out; have z1 := Sz_1.out; have z2 := Sz_2.out; have z3 := Sq_2.out; have z4 := Sg_2.out; have z5 := Sz_3.out; have z6 := Sb_4.out; have z7 := Sz_4.out; have z8 := Sz_5.out; have z9 := Sq_5.out; have z10 := Sg_5.out; have z11 := Sz_6.out; have z12 := Sz_7.out; have z13 := Sz_8.out; (try simp only [] at *); omega))
        have Owe_9 := Lib.hid (Owe_8.out.grown hg hrow (by have z0 := Sa_0.out; have z1 := Sz_1.out; have z2 := Sz_2.out; have z3 := Sq_2.out; have z4 := Sg_2.out; have z5 := Sz_3.out; have z6 := Sb_4.out; have z7 := Sz_4.out; have z8 := Sz_5.out; have z9 := Sq_5.out; have z10 := Sg_5.out; have z11 := Sz_6.out; have z12 := Sz_7.out; have z13 := Sz_8.out; (try simp only [] at *); omega))
        have Owg_9 := Lib.hid (Owg_8.out.grown hg hrow (by have z0 := Sa_0.out; have z1 := Sz_1.out; have z2 := Sz_2.out; have z3 := Sq_2.out; have z4 := Sg_2.out; have z5 := Sz_3.out; have z6 := Sb_4.out; have z7 := Sz_4.out; have z8 := Sz_5.out; have z9 := Sq_5.out; have z10 := Sg_5.out; have z11 := Sz_6.out; have z12 := Sz_7.out; have z13 := Sz_8.out; (try simp only [] at *); omega))
        have Own : Hid (Ot w9 _ _ Bx (vi (marks 1 n1))) := Lib.hid ⟨ho, Nat.le_trans Owx_8.out.2 hg.size⟩
        clear hg hrow ho Bel_8 Bxp_8 Bx1_8 Bxe_8 Bxx_8 Bxg_8 Ra1_8 Owe_8 Owx_8 Owg_8 hxp1 hxp2 hxp3 hx11 hx12 hx13 hx14 hxe1 hxe2 hxe3 hxe4 hxx1 hxx2 hxx3 hxx4 hxg1 hxg2 hxg3 hxg4
        have Owx_9 := Own
        clear Own
        obtain ⟨⟨hxp1, hxp2⟩, hxp3⟩ := Bxp_9.out
        obtain ⟨⟨hx11, hx12, hx13⟩, hx14⟩ := Bx1_9.out
        obtain ⟨⟨hxe1, hxe2, hxe3⟩, hxe4⟩ := Bxe_9.out
        obtain ⟨⟨hxx1, hxx2, hxx3⟩, hxx4⟩ := Bxx_9.out
        obtain ⟨⟨hxg1, hxg2, hxg3⟩, hxg4⟩ := Bxg_9.out
        go_wp2_with fail
        refine (eqD_yes S Bg Be N dg de _ _ EX XS _ Owg_9.out.rt.1 Owe_9.out.rt.1 Owg_9.out.rt.2 Owe_9.out.rt.2 HXN.out HN1.out).mono ?_
        rintro e w10 ⟨rfl, hb⟩
        have Bel_10 := Lib.hid (belNext Bel_9.out hb)
        have Sz_10 : Hid (w9.heap.size ≤ w10.heap.size) := Lib.hid hb.size
        have Bxp_10 := Lib.hid (Bxp_9.out.next hb)
        have Bx1_10 := Lib.hid (Bx1_9.out.next hb)
        have Bxe_10 := Lib.hid (Bxe_9.out.next hb)
        have Bxx_10 := Lib.hid (Bxx_9.out.next hb)
        have Bxg_10 := Lib.hid (Bxg_9.out.next hb)
        have Ra1_10 := Lib.hid (Ra1_9.out.next hb)
        have Owe_10 := Lib.hid (Owe_9.out.next hb)
        have Owx_10 := Lib.hid (Owx_9.out.next hb)
        have Owg_10 := Lib.hid (Owg_9.out.next hb)
        clear hb Bel_9 Bxp_9 Bx1_9 Bxe_9 Bxx_9 Bxg_9 Ra1_9 Owe_9 Owx_9 Owg_9 hxp1 hxp2 hxp3 hx11 hx12 hx13 hx14 hxe1 hxe2 hxe3 hxe4 hxx1 hxx2 hxx3 hxx4 hxg1 hxg2 hxg3 hxg4
        obtain ⟨⟨hxp1, hxp2⟩, hxp3⟩ := Bxp_10.out
        obtain ⟨⟨hx11, hx12, hx13⟩, hx14⟩ := Bx1_10.out
        obtain ⟨⟨hxe1, hxe2, hxe3⟩, hxe4⟩ := Bxe_10.out
        obtain ⟨⟨hxx1, hxx2, hxx3⟩, hxx4⟩ := Bxx_10.out
        obtain ⟨⟨hxg1, hxg2, hxg3⟩, hxg4⟩ := Bxg_10.out
        go_wp2_with fail
        refine (markD_any S Bg N dg EX 1 XS _ _ _ Owg_10.out.1 HXN.out HN2.out (by omega) (by omega) Owg_10.out.2).mono ?_
        rintro e w11 ⟨rfl, ho, row, hg, hrow⟩
        have Bel_11 := Lib.hid (belMarked Bel_10.out hg hrow (by have z0 := Sa_0.out; have z1 := Sz_1.out; have z2 := Sz_2.out; have z3 := Sq_2.out; have z4 := Sg_2.out; have z5 := Sz_3.out; have z6 := Sb_4.out; have z7 := Sz_4.out; have z8 := Sz_5.out; have z9 := Sq_5.out; have z10 := Sg_5.out; have z11 := Sz_6.out; have z12 := Sz_7.out; have z13 := Sz_8.out; have z14 := Sz_9.out; have z15 := Sz_10.out; (try simp only [] at *); omega))
        have Sz_11 : Hid (w10.heap.size ≤ w11.heap.size) := Lib.hid hg.size
        have Bxp_11 := Lib.hid (Bxp_10.out.grown hg hrow (by have z0 := Sa_0.out; have z1 := Sz_1.out; have z2 := Sz_2.out; have z3 := Sq_2.out; have z4 := Sg_2.out; have z5 := Sz_3.out; have z6 := Sb_4.out; have z7 := Sz_4.out; have z8 := Sz_5.out; have z9 := Sq_5.out; have z10 := Sg_5.out; have z11 := Sz_6.out; have z12 := Sz_7.out; have z13 := Sz_8.out; have z14 := Sz_9.out; have z15 := Sz_10.out; (try simp only [] at *); omega))
        have Bx1_11 := Lib.hid (Bx1_10.out.grown hg hrow (by have z0 := Sa_0.out; have z1 := Sz_1.out; have z2 := Sz_2.out; have z3 := Sq_2.out; have z4 := Sg_2.out; have z5 := Sz_3.out; have z6 := Sb_4.out; have z7 := Sz_4.out; have z8 := Sz_5.out; have z9 := Sq_5.out; have z10 := Sg_5.out; have z11 := Sz_6.out; have z12 := Sz_7.out; have z13 := Sz_8.out; have z14 := Sz_9.out; have z15 := Sz_10.out; (try simp only [] at *); omega))
        have Bxe_11 := Lib.hid (Bxe_10.out.grown hg hrow (by have z0 := Sa_0.out; have z1 := Sz_1.out; have z2 := Sz_2.out; have z3 := Sq_2.out; have z4 := Sg_2.out; have z5 := Sz_3.out; have z6 := Sb_4.out; have z7 := Sz_4.out; have z8 := Sz_5.out; have z9 := Sq_5.out; have z10 := Sg_5.out; have z11 := Sz_6.out; have z12 := Sz_7.out; have z13 := Sz_8.out; have z14 := Sz_9.out; have z15 := Sz_10.out; (try simp only [] at *); omega))
        have Bxx_11 := Lib.hid (Bxx_10.out.grown hg hrow (by have z0 := Sa_0.out; have z1 := Sz_1.out; have z2 := Sz_2.out; have z3 := Sq_2.out; have z4 := Sg_2.out; have z5 := Sz_3.out; have z6 := Sb_4.out; have z7 := Sz_4.out; have z8 := Sz_5.out; have z9 := Sq_5.out; have z10 := Sg_5.out; have z11 := Sz_6.out; have z12 := Sz_7.out; have z13 := Sz_8.out; have z14 := Sz_9.out; have z15 := Sz_10.out; (try simp only [] at *); omega))
        have Bxg_11 := Lib.hid (Bxg_10.out.grown hg hrow (by have z0 := Sa_0.out; have z1 := Sz_1.out; have z2 := Sz_2.out; have z3 := Sq_2.out; have z4 := Sg_2.out; have z5 := Sz_3.out; have z6 := Sb_4.out; have z7 := Sz_4.out; have z8 := Sz_5.out; have z9 := Sq_5.out; have z10 := Sg_5.out; have z11 := Sz_6.out; have z12 := Sz_7.out; have z13 := Sz_8.out; have z14 := Sz_9.out; have z15 := Sz_10.out; (try simp only [] at *); omega))
        have Ra1_11 := Lib.hid (Ra1_10.out.grown hg hrow (by have z0 := Sa_0.out; have z1 := Sz_1.out; have z2 := Sz_2.out; have z3 := Sq_2.out; have z4 := Sg_2.out; have z5 := Sz_3.out; have z6 := Sb_4.out; have z7 := Sz_4.out; have z8 := Sz_5.out; have z9 := Sq_5.out; have z10 := Sg_5.out; have z11 := Sz_6.out; have z12 := Sz_7.out; have z13 := Sz_8.out; have z14 := Sz_9.out; have z15 := Sz_10.out; (try simp only [] at *); omega))
        have Owe_11 := Lib.hid (Owe_10.out.grown hg hrow (by have z0 := Sa_0.out; have z1 := Sz_1.out; have z2 := Sz_2.out; have z3 := Sq_2.out; have z4 := Sg_2.out; have z5 := Sz_3.out; have z6 := Sb_4.out; have z7 := Sz_4.out; have z8 := Sz_5.out; have z9 := Sq_5.out; have z10 := Sg_5.out; have z11 := Sz_6.out; have z12 := Sz_7.out; have z13 := Sz_8.out; have z14 := Sz_9.out; have z15 := Sz_10.out; (try simp only [] at *); omega))
        have Owx_11 := Lib.hid (Owx_10.out.grown hg hrow (by have z0 := Sa_0.out; have z1 := Sz_1.out; have z2 := Sz_2.out; have z3 := Sq_2.out; have z4 := Sg_2.out; have z5 := Sz_3.out; have z6 := Sb_4.out; have z7 := Sz_4.out; have z8 := Sz_5.out; have z9 := Sq_5.out; have z10 := Sg_5.out; have z11 := Sz_6.out; have z12 := Sz_7.out; have z13 := Sz_8.out; have z14 := Sz_9.out; have z15 := Sz_10.out; (try simp only [] at *); omega))
        have Own : Hid (Ot w11 _ _ Bg (vi (marks 1 N))) := Lib.hid ⟨ho, Nat.le_trans Owg_10.out.2 hg.size⟩
        clear hg hrow ho Bel_10 Bxp_10 Bx1_10 Bxe_10 Bxx_10 Bxg_10 Ra1_10 Owe_10 Owx_10 Owg_10 hxp1 hxp2 hxp3 hx11 hx12 hx13 hx14 hxe1 hxe2 hxe3 hxe4 hxx1 hxx2 hxx3 hxx4 hxg1 hxg2 hxg3 hxg4
        have Owg_11 := Own
        clear Own
        obtain ⟨⟨hxp1, hxp2⟩, hxp3⟩ := Bxp_11.out
        obtain ⟨⟨hx11, hx12, hx13⟩, hx14⟩ := Bx1_11.out
        obtain ⟨⟨hxe1, hxe2, hxe3⟩, hxe4⟩ := Bxe_11.out
        obtain ⟨⟨hxx1, hxx2, hxx3⟩, hxx4⟩ := Bxx_11.out
        obtain ⟨⟨hxg1, hxg2, hxg3⟩, hxg4⟩ := Bxg_11.out
        go_wp2_with fail
        refine (heldD_any S Bg N dg EX 1 _ _ Owg_11.out.rt.1 Owg_11.out.rt.2 HN2.out (by omega) (by omega)).mono ?_
        rintro e w12 ⟨rfl, hb⟩
        have Bel_12 := Lib.hid (belNext Bel_11.out hb)
        have Sz_12 : Hid (w11.heap.size ≤ w12.heap.size) := Lib.hid hb.size
        have Bxp_12 := Lib.hid (Bxp_11.out.next hb)
        have Bx1_12 := Lib.hid (Bx1_11.out.next hb)
        have Bxe_12 := Lib.hid (Bxe_11.out.next hb)
        have Bxx_12 := Lib.hid (Bxx_11.out.next hb)
        have Bxg_12 := Lib.hid (Bxg_11.out.next hb)
        have Ra1_12 := Lib.hid (Ra1_11.out.next hb)
        have Owe_12 := Lib.hid (Owe_11.out.next hb)
        have Owx_12 := Lib.hid (Owx_11.out.next hb)
        have Owg_12 := Lib.hid (Owg_11.out.next hb)
        clear hb Bel_11 Bxp_11 Bx1_11 Bxe_11 Bxx_11 Bxg_11 Ra1_11 Owe_11 Owx_11 Owg_11 hxp1 hxp2 hxp3 hx11 hx12 hx13 hx14 hxe1 hxe2 hxe3 hxe4 hxx1 hxx2 hxx3 hxx4 hxg1 hxg2 hxg3 hxg4
        obtain ⟨⟨hxp1, hxp2⟩, hxp3⟩ := Bxp_12.out
        obtain ⟨⟨hx11, hx12, hx13⟩, hx14⟩ := Bx1_12.out
        obtain ⟨⟨hxe1, hxe2, hxe3⟩, hxe4⟩ := Bxe_12.out
        obtain ⟨⟨hxx1, hxx2, hxx3⟩, hxx4⟩ := Bxx_12.out
        obtain ⟨⟨hxg1, hxg2, hxg3⟩, hxg4⟩ := Bxg_12.out
        go_wp2_with fail
        clear Owx_12 Bxx_12 hxx1 hxx2 hxx3 hxx4
        go_cut [14, 15] from 79 to 86 (fun t1 t2 wx => ∃ (bq : Nat) (Bq : Option Addr) (dq lq uq : Nat), t1 = .pointer (some ⟨bq, 0, none⟩) ∧ t2 = .int .i64 CD ∧ DBox wx bq S Bq N dq EX ∧ Ot wx lq uq Bq (vi XS) ∧ (w12.heap.size ≤ lq ∧ uq ≤ wx.heap.size ∧ w12.heap.size ≤ bq ∧ (bq < lq ∨ uq ≤ bq)) ∧ w12.heap.size ≤ wx.heap.size ∧ Below w.heap.size w wx ∧ PB wx (w.heap.size) x0 y0 ∧ DBox wx (w.heap.size + 1) s1 A1 n1 c1 E1 ∧ DBox wx (be) S Be N de EX ∧ DBox wx (bg) S Bg N dg EX ∧ Rt wx w.heap.size A1 (vi xs1) ∧ Ot wx (le) (ue) Be (vi XS) ∧ Ot wx (lg) (ug) Bg (vi (marks 1 N)))
        case first =>
          refine wp_region_held_drew (S := fun w' => (w'.cell? ⟨w.heap.size, 0, none⟩ = some (.float .f32 x0) ∧ w'.cell? ⟨w.heap.size, 1, none⟩ = some (.float .f32 y0)) ∧ (w'.cell? ⟨w.heap.size + 1, 0, none⟩ = some (.int .i64 s1) ∧ w'.cell? ⟨w.heap.size + 1, 1, none⟩ = some (.slice A1 n1 c1) ∧ w'.cell? ⟨w.heap.size + 1, 2, none⟩ = some (.int .i64 E1))) (by kernel_rfl) ⟨Bxp_12.out.1, Bx1_12.out.1⟩ (fun hHeld => ?_)
          clear hxp1 hxp2 hxp3 hx11 hx12 hx13 hx14 hxe1 hxe2 hxe3 hxe4 hxg1 hxg2 hxg3 hxg4
          refine wpAnyH_take (i := 0) (v := ?_) rfl (by kernel_rfl) (by kernel_rfl) (by kernel_rfl) (fun _ _ _ h => h) (Or.inl ⟨by rfl, ?_⟩) (by assumption) ?_
          rotate_left
          · (intro w hSw; (try dsimp only at hSw); go_simp; (try with_reducible rfl))
          try simp only [Act.put, List.setIfInBounds_toArray, List.set_cons_zero, List.set_cons_succ]
          refine wpAnyH_take (i := 2) (v := ?_) rfl (by kernel_rfl) (by kernel_rfl) (by kernel_rfl) (fun _ _ _ h => h) (Or.inl ⟨by rfl, ?_⟩) (by assumption) ?_
          rotate_left
          · (intro w hSw; (try dsimp only at hSw); go_simp; (try with_reducible rfl))
          try simp only [Act.put, List.setIfInBounds_toArray, List.set_cons_zero, List.set_cons_succ]
          refine wpAnyH_ready (rs := [1, 8]) (by kernel_rfl) (by simp) ?_
          refine AllReadyH.cons rfl (fun K hK => ?_) (AllReadyH.cons rfl (fun K hK => ?_) AllReadyH.nil)
          · go_simp
            refine (toPair_any x0 y0 w12.drew).mono ?_
            rintro e w13 ⟨rfl, hb0⟩
            have hb : Below w12.heap.size w12 w13 := belDrew hb0
            refine hK.out _ _ ⟨(Bxp_12.out.next hb).1, (Bx1_12.out.next hb).1⟩ (fun hHeld => ?_)
            clear hK K hb0
            have Bel_13 := Lib.hid (belNext Bel_12.out hb)
            have Sz_13 : Hid (w12.heap.size ≤ w13.heap.size) := Lib.hid hb.size
            have Bxp_13 := Lib.hid (Bxp_12.out.next hb)
            have Bx1_13 := Lib.hid (Bx1_12.out.next hb)
            have Bxe_13 := Lib.hid (Bxe_12.out.next hb)
            have Bxg_13 := Lib.hid (Bxg_12.out.next hb)
            have Ra1_13 := Lib.hid (Ra1_12.out.next hb)
            have Owe_13 := Lib.hid (Owe_12.out.next hb)
            have Owg_13 := Lib.hid (Owg_12.out.next hb)
            clear hb Bel_12 Bxp_12 Bx1_12 Bxe_12 Bxg_12 Ra1_12 Owe_12 Owg_12
            try simp only [Act.put, List.setIfInBounds_toArray, List.set_cons_zero, List.set_cons_succ]
            refine wpAnyH_ready (rs := [3, 8]) (by kernel_rfl) (by simp) ?_
            refine AllReadyH.cons rfl (fun K hK => ?_) (AllReadyH.cons rfl (fun K hK => ?_) AllReadyH.nil)
            · go_simp
              refine (toD2_any s1 A1 n1 c1 E1 xs1 w13 _ Ra1_13.out.1 Ra1_13.out.2 Hn1.out Hle1.out).mono ?_
              rintro e w14 ⟨Bcb, dcb, rfl, ho, hb0, hcp⟩
              have Cpcb := Lib.hid hcp
              have hb : Below w13.heap.size w13 w14 := hb0
              have Own := Lib.hid (Ot.new ho)
              refine hK.out _ _ ⟨(Bxp_13.out.next hb).1, (Bx1_13.out.next hb).1⟩ (fun hHeld => ?_)
              clear hK K hb0 ho hcp
              have Bel_14 := Lib.hid (belNext Bel_13.out hb)
              have Sz_14 : Hid (w13.heap.size ≤ w14.heap.size) := Lib.hid hb.size
              have Bxp_14 := Lib.hid (Bxp_13.out.next hb)
              have Bx1_14 := Lib.hid (Bx1_13.out.next hb)
              have Bxe_14 := Lib.hid (Bxe_13.out.next hb)
              have Bxg_14 := Lib.hid (Bxg_13.out.next hb)
              have Ra1_14 := Lib.hid (Ra1_13.out.next hb)
              have Owe_14 := Lib.hid (Owe_13.out.next hb)
              have Owg_14 := Lib.hid (Owg_13.out.next hb)
              clear hb Bel_13 Bxp_13 Bx1_13 Bxe_13 Bxg_13 Ra1_13 Owe_13 Owg_13
              have Owcb_14 := Own
              clear Own
              try simp only [Act.put, List.setIfInBounds_toArray, List.set_cons_zero, List.set_cons_succ]
              refine wpAnyH_ready (rs := [4, 8]) (by kernel_rfl) (by simp) ?_
              refine AllReadyH.cons rfl (fun K hK => ?_) (AllReadyH.cons rfl (fun K hK => ?_) AllReadyH.nil)
              · go_simp
                refine (implEwW_any x0 y0 s1 Bcb n1 dcb xs1 E1 _ Hxy.out.1 Hxy.out.2 Owcb_14.out.rt.all Hn1.out Hk1.out Cpcb.out (HT.out.next Bel_14.out)).mono ?_
                rintro e w15 ⟨Sr, Bce, nr, dce, rfl, hv, hb0⟩
                obtain ⟨hs, hnn, ho⟩ := resFormD hv HS.out HN.out HX.out
                rw [hs, hnn, ← HEX.out, ← HCD.out]
                have hb : Below w14.heap.size w14 w15 := hb0
                have Own := Lib.hid (Ot.new ho)
                refine hK.out _ _ ⟨(Bxp_14.out.next hb).1, (Bx1_14.out.next hb).1⟩ (fun hHeld => ?_)
                clear hK K hb0 ho hv hs hnn
                have Bel_15 := Lib.hid (belNext Bel_14.out hb)
                have Sz_15 : Hid (w14.heap.size ≤ w15.heap.size) := Lib.hid hb.size
                have Bxp_15 := Lib.hid (Bxp_14.out.next hb)
                have Bx1_15 := Lib.hid (Bx1_14.out.next hb)
                have Bxe_15 := Lib.hid (Bxe_14.out.next hb)
                have Bxg_15 := Lib.hid (Bxg_14.out.next hb)
                have Ra1_15 := Lib.hid (Ra1_14.out.next hb)
                have Owe_15 := Lib.hid (Owe_14.out.next hb)
                have Owg_15 := Lib.hid (Owg_14.out.next hb)
                have Owcb_15 := Lib.hid (Owcb_14.out.next hb)
                clear hb Bel_14 Bxp_14 Bx1_14 Bxe_14 Bxg_14 Ra1_14 Owe_14 Owg_14 Owcb_14
                have Owce_15 := Own
                clear Own
                try simp only [Act.put, List.setIfInBounds_toArray, List.set_cons_zero, List.set_cons_succ]
                refine wpAnyH_take (i := 5) (v := ?_) rfl (by kernel_rfl) (by kernel_rfl) (by kernel_rfl) (fun _ _ _ h => h) (Or.inl ⟨by rfl, ?_⟩) (by assumption) ?_
                rotate_left
                · (intro w hSw; (try dsimp only at hSw); go_simp; (try with_reducible rfl))
                try simp only [Act.put, List.setIfInBounds_toArray, List.set_cons_zero, List.set_cons_succ]
                refine wpAnyH_take (i := 6) (v := ?_) rfl (by kernel_rfl) (by kernel_rfl) (by kernel_rfl) (fun _ _ _ h => h) (Or.inl ⟨by rfl, ?_⟩) (by assumption) ?_
                rotate_left
                · (intro w hSw; (try dsimp only at hSw); go_simp; (try with_reducible rfl))
                try simp only [Act.put, List.setIfInBounds_toArray, List.set_cons_zero, List.set_cons_succ]
                refine wpAnyH_take (i := 7) (v := ?_) rfl (by kernel_rfl) (by kernel_rfl) (by kernel_rfl) (fun _ _ _ h => h) (Or.inl ⟨by rfl, ?_⟩) (by assumption) ?_
                rotate_left
                · (intro w hSw; (try dsimp only at hSw); go_simp; (try with_reducible rfl))
                try simp only [Act.put, List.setIfInBounds_toArray, List.set_cons_zero, List.set_cons_succ]
                refine wpAnyH_ready (rs := [8]) (by kernel_rfl) (by simp) ?_
                refine AllReadyH.cons rfl (fun K hK => ?_) AllReadyH.nil
                go_simp
                obtain ⟨w16, hw⟩ : ∃ w16, w16 = w15.alloc (.cells #[.int .i64 0, .slice none 0 0, .int .i64 0] 30) := ⟨_, rfl⟩
                have hb : Below w15.heap.size w15 w16 := by rw [hw]; exact belAlloc1 _ _
                have Sb_16 : Hid (w15.heap.size + 1 = w16.heap.size) := Lib.hid (by rw [hw]; simp)
                have Rs_16 : Hid (DRes w16 w15.heap.size) := Lib.hid (by rw [hw]; exact DRes.new _ _)
                rw [← hw]
                refine hK.out _ _ ⟨(Bxp_15.out.next hb).1, (Bx1_15.out.next hb).1⟩ (fun hHeld => ?_)
                clear hK K hw
                have Bel_16 := Lib.hid (belNext Bel_15.out hb)
                have Sz_16 : Hid (w15.heap.size ≤ w16.heap.size) := Lib.hid hb.size
                have Bxp_16 := Lib.hid (Bxp_15.out.next hb)
                have Bx1_16 := Lib.hid (Bx1_15.out.next hb)
                have Bxe_16 := Lib.hid (Bxe_15.out.next hb)
                have Bxg_16 := Lib.hid (Bxg_15.out.next hb)
                have Ra1_16 := Lib.hid (Ra1_15.out.next hb)
                have Owe_16 := Lib.hid (Owe_15.out.next hb)
                have Owg_16 := Lib.hid (Owg_15.out.next hb)
                have Owcb_16 := Lib.hid (Owcb_15.out.next hb)
                have Owce_16 := Lib.hid (Owce_15.out.next hb)
                clear hb Bel_15 Bxp_15 Bx1_15 Bxe_15 Bxg_15 Ra1_15 Owe_15 Owg_15 Owcb_15 Owce_15
                try simp only [Act.put, List.setIfInBounds_toArray, List.set_cons_zero, List.set_cons_succ]
                refine wpAnyH_ready (rs := [9]) (by kernel_rfl) (by simp) ?_
                refine AllReadyH.cons rfl (fun K hK => ?_) AllReadyH.nil
                obtain ⟨⟨r0, r1, r2, r3, r4, r5⟩, r6⟩ := Rs_16.out
                go_simp
                refine hK.out _ (st3 w16 (w15.heap.size) S Bce N dce EX) ⟨(Bxp_16.out.st3_ (by have z0 := Sa_0.out; have z1 := Sz_1.out; have z2 := Sz_2.out; have z3 := Sq_2.out; have z4 := Sg_2.out; have z5 := Sz_3.out; have z6 := Sb_4.out; have z7 := Sz_4.out; have z8 := Sz_5.out; have z9 := Sq_5.out; have z10 := Sg_5.out; have z11 := Sz_6.out; have z12 := Sz_7.out; have z13 := Sz_8.out; have z14 := Sz_9.out; have z15 := Sz_10.out; have z16 := Sz_11.out; have z17 := Sz_12.out; have z18 := Sz_13.out; have z19 := Sz_14.out; have z20 := Sz_15.out; have z21 := Sb_16.out; have z22 := Sz_16.out; (try simp only [] at *); omega)).1, (Bx1_16.out.st3_ (by have z0 := Sa_0.out; have z1 := Sz_1.out; have z2 := Sz_2.out; have z3 := Sq_2.out; have z4 := Sg_2.out; have z5 := Sz_3.out; have z6 := Sb_4.out; have z7 := Sz_4.out; have z8 := Sz_5.out; have z9 := Sq_5.out; have z10 := Sg_5.out; have z11 := Sz_6.out; have z12 := Sz_7.out; have z13 := Sz_8.out; have z14 := Sz_9.out; have z15 := Sz_10.out; have z16 := Sz_11.out; have z17 := Sz_12.out; have z18 := Sz_13.out; have z19 := Sz_14.out; have z20 := Sz_15.out; have z21 := Sb_16.out; have z22 := Sz_16.out; (try simp only [] at *); omega)).1⟩ (fun hHeld => ?_)
                clear hK K
                try simp only [Act.put, List.setIfInBounds_toArray, List.set_cons_zero, List.set_cons_succ]
                refine wpAnyH_ready (rs := [10]) (by kernel_rfl) (by simp) ?_
                refine AllReadyH.cons rfl (fun K hK => ?_) AllReadyH.nil
                go_simp
                refine hK.out _ _ hHeld (fun hHeld => ?_)
                clear hK K hHeld
                try simp only [Act.put, List.setIfInBounds_toArray, List.set_cons_zero, List.set_cons_succ]
                refine wpAnyH_done (by kernel_rfl) ?_ _
                go_wp2_with fail
                go_meet
                exact ⟨w15.heap.size, Bce, dce, w14.heap.size, w15.heap.size, rfl, rfl, DBox.made r6 ⟨_, r0⟩ ⟨_, r1⟩ ⟨_, r2⟩, Owce_16.out.st3_ (by have z0 := Sa_0.out; have z1 := Sz_1.out; have z2 := Sz_2.out; have z3 := Sq_2.out; have z4 := Sg_2.out; have z5 := Sz_3.out; have z6 := Sb_4.out; have z7 := Sz_4.out; have z8 := Sz_5.out; have z9 := Sq_5.out; have z10 := Sg_5.out; have z11 := Sz_6.out; have z12 := Sz_7.out; have z13 := Sz_8.out; have z14 := Sz_9.out; have z15 := Sz_10.out; have z16 := Sz_11.out; have z17 := Sz_12.out; have z18 := Sz_13.out; have z19 := Sz_14.out; have z20 := Sz_15.out; have z21 := Sb_16.out; have z22 := Sz_16.out; (try simp only [] at *); omega), ⟨(by have z0 := Sa_0.out; have z1 := Sz_1.out; have z2 := Sz_2.out; have z3 := Sq_2.out; have z4 := Sg_2.out; have z5 := Sz_3.out; have z6 := Sb_4.out; have z7 := Sz_4.out; have z8 := Sz_5.out; have z9 := Sq_5.out; have z10 := Sg_5.out; have z11 := Sz_6.out; have z12 := Sz_7.out; have z13 := Sz_8.out; have z14 := Sz_9.out; have z15 := Sz_10.out; have z16 := Sz_11.out; have z17 := Sz_12.out; have z18 := Sz_13.out; have z19 := Sz_14.out; have z20 := Sz_15.out; have z21 := Sb_16.out; have z22 := Sz_16.out; (try simp only [] at *); omega), (by rw [st3_size]; exact (by have z0 := Sa_0.out; have z1 := Sz_1.out; have z2 := Sz_2.out; have z3 := Sq_2.out; have z4 := Sg_2.out; have z5 := Sz_3.out; have z6 := Sb_4.out; have z7 := Sz_4.out; have z8 := Sz_5.out; have z9 := Sq_5.out; have z10 := Sg_5.out; have z11 := Sz_6.out; have z12 := Sz_7.out; have z13 := Sz_8.out; have z14 := Sz_9.out; have z15 := Sz_10.out; have z16 := Sz_11.out; have z17 := Sz_12.out; have z18 := Sz_13.out; have z19 := Sz_14.out; have z20 := Sz_15.out; have z21 := Sb_16.out; have z22 := Sz_16.out; (try simp only [] at *); omega)), (by have z0 := Sa_0.out; have z1 := Sz_1.out; have z2 := Sz_2.out; have z3 := Sq_2.out; have z4 := Sg_2.out; have z5 := Sz_3.out; have z6 := Sb_4.out; have z7 := Sz_4.out; have z8 := Sz_5.out; have z9 := Sq_5.out; have z10 := Sg_5.out; have z11 := Sz_6.out; have z12 := Sz_7.out; have z13 := Sz_8.out; have z14 := Sz_9.out; have z15 := Sz_10.out; have z16 := Sz_11.out; have z17 := Sz_12.out; have z18 := Sz_13.out; have z19 := Sz_14.out; have z20 := Sz_15.out; have z21 := Sb_16.out; have z22 := Sz_16.out; (try simp only [] at *); omega), (by have z0 := Sa_0.out; have z1 := Sz_1.out; have z2 := Sz_2.out; have z3 := Sq_2.out; have z4 := Sg_2.out; have z5 := Sz_3.out; have z6 := Sb_4.out; have z7 := Sz_4.out; have z8 := Sz_5.out; have z9 := Sq_5.out; have z10 := Sg_5.out; have z11 := Sz_6.out; have z12 := Sz_7.out; have z13 := Sz_8.out; have z14 := Sz_9.out; have z15 := Sz_10.out; have z16 := Sz_11.out; have z17 := Sz_12.out; have z18 := Sz_13.out; have z19 := Sz_14.out; have z20 := Sz_15.out; have z21 := Sb_16.out; have z22 := Sz_16.out; (try simp only [] at *); omega)⟩, (by rw [st3_size]; exact (by have z0 := Sa_0.out; have z1 := Sz_1.out; have z2 := Sz_2.out; have z3 := Sq_2.out; have z4 := Sg_2.out; have z5 := Sz_3.out; have z6 := Sb_4.out; have z7 := Sz_4.out; have z8 := Sz_5.out; have z9 := Sq_5.out; have z10 := Sg_5.out; have z11 := Sz_6.out; have z12 := Sz_7.out; have z13 := Sz_8.out; have z14 := Sz_9.out; have z15 := Sz_10.out; have z16 := Sz_11.out; have z17 := Sz_12.out; have z18 := Sz_13.out; have z19 := Sz_14.out; have z20 := Sz_15.out; have z21 := Sb_16.out; have z22 := Sz_16.out; (try simp only [] at *); omega)), belSt3 Bel_16.out (by have z0 := Sa_0.out; have z1 := Sz_1.out; have z2 := Sz_2.out; have z3 := Sq_2.out; have z4 := Sg_2.out; have z5 := Sz_3.out; have z6 := Sb_4.out; have z7 := Sz_4.out; have z8 := Sz_5.out; have z9 := Sq_5.out; have z10 := Sg_5.out; have z11 := Sz_6.out; have z12 := Sz_7.out; have z13 := Sz_8.out; have z14 := Sz_9.out; have z15 := Sz_10.out; have z16 := Sz_11.out; have z17 := Sz_12.out; have z18 := Sz_13.out; have z19 := Sz_14.out; have z20 := Sz_15.out; have z21 := Sb_16.out; have z22 := Sz_16.out; (try simp only [] at *); omega), Bxp_16.out.st3_ (by have z0 := Sa_0.out; have z1 := Sz_1.out; have z2 := Sz_2.out; have z3 := Sq_2.out; have z4 := Sg_2.out; have z5 := Sz_3.out; have z6 := Sb_4.out; have z7 := Sz_4.out; have z8 := Sz_5.out; have z9 := Sq_5.out; have z10 := Sg_5.out; have z11 := Sz_6.out; have z12 := Sz_7.out; have z13 := Sz_8.out; have z14 := Sz_9.out; have z15 := Sz_10.out; have z16 := Sz_11.out; have z17 := Sz_12.out; have z18 := Sz_13.out; have z19 := Sz_14.out; have z20 := Sz_15.out; have z21 := Sb_16.out; have z22 := Sz_16.out; (try simp only [] at *); omega), Bx1_16.out.st3_ (by have z0 := Sa_0.out; have z1 := Sz_1.out; have z2 := Sz_2.out; have z3 := Sq_2.out; have z4 := Sg_2.out; have z5 := Sz_3.out; have z6 := Sb_4.out; have z7 := Sz_4.out; have z8 := Sz_5.out; have z9 := Sq_5.out; have z10 := Sg_5.out; have z11 := Sz_6.out; have z12 := Sz_7.out; have z13 := Sz_8.out; have z14 := Sz_9.out; have z15 := Sz_10.out; have z16 := Sz_11.out; have z17 := Sz_12.out; have z18 := Sz_13.out; have z19 := Sz_14.out; have z20 := Sz_15.out; have z21 := Sb_16.out; have z22 := Sz_16.out; (try simp only [] at *); omega), Bxe_16.out.st3_ (by have z0 := Sa_0.out; have z1 := Sz_1.out; have z2 := Sz_2.out; have z3 := Sq_2.out; have z4 := Sg_2.out; have z5 := Sz_3.out; have z6 := Sb_4.out; have z7 := Sz_4.out; have z8 := Sz_5.out; have z9 := Sq_5.out; have z10 := Sg_5.out; have z11 := Sz_6.out; have z12 := Sz_7.out; have z13 := Sz_8.out; have z14 := Sz_9.out; have z15 := Sz_10.out; have z16 := Sz_11.out; have z17 := Sz_12.out; have z18 := Sz_13.out; have z19 := Sz_14.out; have z20 := Sz_15.out; have z21 := Sb_16.out; have z22 := Sz_16.out; (try simp only [] at *); omega), Bxg_16.out.st3_ (by have z0 := Sa_0.out; have z1 := Sz_1.out; have z2 := Sz_2.out; have z3 := Sq_2.out; have z4 := Sg_2.out; have z5 := Sz_3.out; have z6 := Sb_4.out; have z7 := Sz_4.out; have z8 := Sz_5.out; have z9 := Sq_5.out; have z10 := Sg_5.out; have z11 := Sz_6.out; have z12 := Sz_7.out; have z13 := Sz_8.out; have z14 := Sz_9.out; have z15 := Sz_10.out; have z16 := Sz_11.out; have z17 := Sz_12.out; have z18 := Sz_13.out; have z19 := Sz_14.out; have z20 := Sz_15.out; have z21 := Sb_16.out; have z22 := Sz_16.out; (try simp only [] at *); omega), Ra1_16.out.st3_ (by have z0 := Sa_0.out; have z1 := Sz_1.out; have z2 := Sz_2.out; have z3 := Sq_2.out; have z4 := Sg_2.out; have z5 := Sz_3.out; have z6 := Sb_4.out; have z7 := Sz_4.out; have z8 := Sz_5.out; have z9 := Sq_5.out; have z10 := Sg_5.out; have z11 := Sz_6.out; have z12 := Sz_7.out; have z13 := Sz_8.out; have z14 := Sz_9.out; have z15 := Sz_10.out; have z16 := Sz_11.out; have z17 := Sz_12.out; have z18 := Sz_13.out; have z19 := Sz_14.out; have z20 := Sz_15.out; have z21 := Sb_16.out; have z22 := Sz_16.out; (try simp only [] at *); omega), Owe_16.out.st3_ (by have z0 := Sa_0.out; have z1 := Sz_1.out; have z2 := Sz_2.out; have z3 := Sq_2.out; have z4 := Sg_2.out; have z5 := Sz_3.out; have z6 := Sb_4.out; have z7 := Sz_4.out; have z8 := Sz_5.out; have z9 := Sq_5.out; have z10 := Sg_5.out; have z11 := Sz_6.out; have z12 := Sz_7.out; have z13 := Sz_8.out; have z14 := Sz_9.out; have z15 := Sz_10.out; have z16 := Sz_11.out; have z17 := Sz_12.out; have z18 := Sz_13.out; have z19 := Sz_14.out; have z20 := Sz_15.out; have z21 := Sb_16.out; have z22 := Sz_16.out; (try simp only [] at *); omega), Owg_16.out.st3_ (by have z0 := Sa_0.out; have z1 := Sz_1.out; have z2 := Sz_2.out; have z3 := Sq_2.out; have z4 := Sg_2.out; have z5 := Sz_3.out; have z6 := Sb_4.out; have z7 := Sz_4.out; have z8 := Sz_5.out; have z9 := Sq_5.out; have z10 := Sg_5.out; have z11 := Sz_6.out; have z12 := Sz_7.out; have z13 := Sz_8.out; have z14 := Sz_9.out; have z15 := Sz_10.out; have z16 := Sz_11.out; have z17 := Sz_12.out; have z18 := Sz_13.out; have z19 := Sz_14.out; have z20 := Sz_15.out; have z21 := Sb_16.out; have z22 := Sz_16.out; (try simp only [] at *); omega)⟩
              · go_simp
                obtain ⟨w15, hw⟩ : ∃ w15, w15 = w14.alloc (.cells #[.int .i64 0, .slice none 0 0, .int .i64 0] 30) := ⟨_, rfl⟩
                have hb : Below w14.heap.size w14 w15 := by rw [hw]; exact belAlloc1 _ _
                have Sb_15 : Hid (w14.heap.size + 1 = w15.heap.size) := Lib.hid (by rw [hw]; simp)
                have Rs_15 : Hid (DRes w15 w14.heap.size) := Lib.hid (by rw [hw]; exact DRes.new _ _)
                rw [← hw]
                refine hK.out _ _ ⟨(Bxp_14.out.next hb).1, (Bx1_14.out.next hb).1⟩ (fun hHeld => ?_)
                clear hK K hw
                have Bel_15 := Lib.hid (belNext Bel_14.out hb)
                have Sz_15 : Hid (w14.heap.size ≤ w15.heap.size) := Lib.hid hb.size
                have Bxp_15 := Lib.hid (Bxp_14.out.next hb)
                have Bx1_15 := Lib.hid (Bx1_14.out.next hb)
                have Bxe_15 := Lib.hid (Bxe_14.out.next hb)
                have Bxg_15 := Lib.hid (Bxg_14.out.next hb)
                have Ra1_15 := Lib.hid (Ra1_14.out.next hb)
                have Owe_15 := Lib.hid (Owe_14.out.next hb)
                have Owg_15 := Lib.hid (Owg_14.out.next hb)
                have Owcb_15 := Lib.hid (Owcb_14.out.next hb)
                clear hb Bel_14 Bxp_14 Bx1_14 Bxe_14 Bxg_14 Ra1_14 Owe_14 Owg_14 Owcb_14
                try simp only [Act.put, List.setIfInBounds_toArray, List.set_cons_zero, List.set_cons_succ]
                refine wpAnyH_ready (rs := [4]) (by kernel_rfl) (by simp) ?_
                refine AllReadyH.cons rfl (fun K hK => ?_) AllReadyH.nil
                go_simp
                refine (implEwW_any x0 y0 s1 Bcb n1 dcb xs1 E1 _ Hxy.out.1 Hxy.out.2 Owcb_15.out.rt.all Hn1.out Hk1.out Cpcb.out (HT.out.next Bel_15.out)).mono ?_
                rintro e w16 ⟨Sr, Bce, nr, dce, rfl, hv, hb0⟩
                obtain ⟨hs, hnn, ho⟩ := resFormD hv HS.out HN.out HX.out
                rw [hs, hnn, ← HEX.out, ← HCD.out]
                have hb : Below w15.heap.size w15 w16 := hb0
                have Own := Lib.hid (Ot.new ho)
                refine hK.out _ _ ⟨(Bxp_15.out.next hb).1, (Bx1_15.out.next hb).1⟩ (fun hHeld => ?_)
                clear hK K hb0 ho hv hs hnn
                have Bel_16 := Lib.hid (belNext Bel_15.out hb)
                have Sz_16 : Hid (w15.heap.size ≤ w16.heap.size) := Lib.hid hb.size
                have Rs_16 := Lib.hid (Rs_15.out.next hb)
                have Bxp_16 := Lib.hid (Bxp_15.out.next hb)
                have Bx1_16 := Lib.hid (Bx1_15.out.next hb)
                have Bxe_16 := Lib.hid (Bxe_15.out.next hb)
                have Bxg_16 := Lib.hid (Bxg_15.out.next hb)
                have Ra1_16 := Lib.hid (Ra1_15.out.next hb)
                have Owe_16 := Lib.hid (Owe_15.out.next hb)
                have Owg_16 := Lib.hid (Owg_15.out.next hb)
                have Owcb_16 := Lib.hid (Owcb_15.out.next hb)
                clear hb Bel_15 Bxp_15 Bx1_15 Bxe_15 Bxg_15 Ra1_15 Owe_15 Owg_15 Owcb_15
                have Owce_16 := Own
                clear Own
                try simp only [Act.put, List.setIfInBounds_toArray, List.set_cons_zero, List.set_cons_succ]
                refine wpAnyH_take (i := 5) (v := ?_) rfl (by kernel_rfl) (by kernel_rfl) (by kernel_rfl) (fun _ _ _ h => h) (Or.inl ⟨by rfl, ?_⟩) (by assumption) ?_
                rotate_left
                · (intro w hSw; (try dsimp only at hSw); go_simp; (try with_reducible rfl))
                try simp only [Act.put, List.setIfInBounds_toArray, List.set_cons_zero, List.set_cons_succ]
                refine wpAnyH_take (i := 6) (v := ?_) rfl (by kernel_rfl) (by kernel_rfl) (by kernel_rfl) (fun _ _ _ h => h) (Or.inl ⟨by rfl, ?_⟩) (by assumption) ?_
                rotate_left
                · (intro w hSw; (try dsimp only at hSw); go_simp; (try with_reducible rfl))
                try simp only [Act.put, List.setIfInBounds_toArray, List.set_cons_zero, List.set_cons_succ]
                refine wpAnyH_take (i := 7) (v := ?_) rfl (by kernel_rfl) (by kernel_rfl) (by kernel_rfl) (fun _ _ _ h => h) (Or.inl ⟨by rfl, ?_⟩) (by assumption) ?_
                rotate_left
                · (intro w hSw; (try dsimp only at hSw); go_simp; (try with_reducible rfl))
                try simp only [Act.put, List.setIfInBounds_toArray, List.set_cons_zero, List.set_cons_succ]
                refine wpAnyH_ready (rs := [9]) (by kernel_rfl) (by simp) ?_
                refine AllReadyH.cons rfl (fun K hK => ?_) AllReadyH.nil
                obtain ⟨⟨r0, r1, r2, r3, r4, r5⟩, r6⟩ := Rs_16.out
                go_simp
                refine hK.out _ (st3 w16 (w14.heap.size) S Bce N dce EX) ⟨(Bxp_16.out.st3_ (by have z0 := Sa_0.out; have z1 := Sz_1.out; have z2 := Sz_2.out; have z3 := Sq_2.out; have z4 := Sg_2.out; have z5 := Sz_3.out; have z6 := Sb_4.out; have z7 := Sz_4.out; have z8 := Sz_5.out; have z9 := Sq_5.out; have z10 := Sg_5.out; have z11 := Sz_6.out; have z12 := Sz_7.out; have z13 := Sz_8.out; have z14 := Sz_9.out; have z15 := Sz_10.out; have z16 := Sz_11.out; have z17 := Sz_12.out; have z18 := Sz_13.out; have z19 := Sz_14.out; have z20 := Sb_15.out; have z21 := Sz_15.out; have z22 := Sz_16.out; (try simp only [] at *); omega)).1, (Bx1_16.out.st3_ (by have z0 := Sa_0.out; have z1 := Sz_1.out; have z2 := Sz_2.out; have z3 := Sq_2.out; have z4 := Sg_2.out; have z5 := Sz_3.out; have z6 := Sb_4.out; have z7 := Sz_4.out; have z8 := Sz_5.out; have z9 := Sq_5.out; have z10 := Sg_5.out; have z11 := Sz_6.out; have z12 := Sz_7.out; have z13 := Sz_8.out; have z14 := Sz_9.out; have z15 := Sz_10.out; have z16 := Sz_11.out; have z17 := Sz_12.out; have z18 := Sz_13.out; have z19 := Sz_14.out; have z20 := Sb_15.out; have z21 := Sz_15.out; have z22 := Sz_16.out; (try simp only [] at *); omega)).1⟩ (fun hHeld => ?_)
                clear hK K
                try simp only [Act.put, List.setIfInBounds_toArray, List.set_cons_zero, List.set_cons_succ]
                refine wpAnyH_ready (rs := [10]) (by kernel_rfl) (by simp) ?_
                refine AllReadyH.cons rfl (fun K hK => ?_) AllReadyH.nil
                go_simp
                refine hK.out _ _ hHeld (fun hHeld => ?_)
                clear hK K hHeld
                try simp only [Act.put, List.setIfInBounds_toArray, List.set_cons_zero, List.set_cons_succ]
                refine wpAnyH_done (by kernel_rfl) ?_ _
                go_wp2_with fail
                go_meet
                exact ⟨w14.heap.size, Bce, dce, w15.heap.size, w16.heap.size, rfl, rfl, DBox.made r6 ⟨_, r0⟩ ⟨_, r1⟩ ⟨_, r2⟩, Owce_16.out.st3_ (by have z0 := Sa_0.out; have z1 := Sz_1.out; have z2 := Sz_2.out; have z3 := Sq_2.out; have z4 := Sg_2.out; have z5 := Sz_3.out; have z6 := Sb_4.out; have z7 := Sz_4.out; have z8 := Sz_5.out; have z9 := Sq_5.out; have z10 := Sg_5.out; have z11 := Sz_6.out; have z12 := Sz_7.out; have z13 := Sz_8.out; have z14 := Sz_9.out; have z15 := Sz_10.out; have z16 := Sz_11.out; have z17 := Sz_12.out; have z18 := Sz_13.out; have z19 := Sz_14.out; have z20 := Sb_15.out; have z21 := Sz_15.out; have z22 := Sz_16.out; (try simp only [] at *); omega), ⟨(by have z0 := Sa_0.out; have z1 := Sz_1.out; have z2 := Sz_2.out; have z3 := Sq_2.out; have z4 := Sg_2.out; have z5 := Sz_3.out; have z6 := Sb_4.out; have z7 := Sz_4.out; have z8 := Sz_5.out; have z9 := Sq_5.out; have z10 := Sg_5.out; have z11 := Sz_6.out; have z12 := Sz_7.out; have z13 := Sz_8.out; have z14 := Sz_9.out; have z15 := Sz_10.out; have z16 := Sz_11.out; have z17 := Sz_12.out; have z18 := Sz_13.out; have z19 := Sz_14.out; have z20 := Sb_15.out; have z21 := Sz_15.out; have z22 := Sz_16.out; (try simp only [] at *); omega), (by rw [st3_size]; exact (by have z0 := Sa_0.out; have z1 := Sz_1.out; have z2 := Sz_2.out; have z3 := Sq_2.out; have z4 := Sg_2.out; have z5 := Sz_3.out; have z6 := Sb_4.out; have z7 := Sz_4.out; have z8 := Sz_5.out; have z9 := Sq_5.out; have z10 := Sg_5.out; have z11 := Sz_6.out; have z12 := Sz_7.out; have z13 := Sz_8.out; have z14 := Sz_9.out; have z15 := Sz_10.out; have z16 := Sz_11.out; have z17 := Sz_12.out; have z18 := Sz_13.out; have z19 := Sz_14.out; have z20 := Sb_15.out; have z21 := Sz_15.out; have z22 := Sz_16.out; (try simp only [] at *); omega)), (by have z0 := Sa_0.out; have z1 := Sz_1.out; have z2 := Sz_2.out; have z3 := Sq_2.out; have z4 := Sg_2.out; have z5 := Sz_3.out; have z6 := Sb_4.out; have z7 := Sz_4.out; have z8 := Sz_5.out; have z9 := Sq_5.out; have z10 := Sg_5.out; have z11 := Sz_6.out; have z12 := Sz_7.out; have z13 := Sz_8.out; have z14 := Sz_9.out; have z15 := Sz_10.out; have z16 := Sz_11.out; have z17 := Sz_12.out; have z18 := Sz_13.out; have z19 := Sz_14.out; have z20 := Sb_15.out; have z21 := Sz_15.out; have z22 := Sz_16.out; (try simp only [] at *); omega), (by have z0 := Sa_0.out; have z1 := Sz_1.out; have z2 := Sz_2.out; have z3 := Sq_2.out; have z4 := Sg_2.out; have z5 := Sz_3.out; have z6 := Sb_4.out; have z7 := Sz_4.out; have z8 := Sz_5.out; have z9 := Sq_5.out; have z10 := Sg_5.out; have z11 := Sz_6.out; have z12 := Sz_7.out; have z13 := Sz_8.out; have z14 := Sz_9.out; have z15 := Sz_10.out; have z16 := Sz_11.out; have z17 := Sz_12.out; have z18 := Sz_13.out; have z19 := Sz_14.out; have z20 := Sb_15.out; have z21 := Sz_15.out; have z22 := Sz_16.out; (try simp only [] at *); omega)⟩, (by rw [st3_size]; exact (by have z0 := Sa_0.out; have z1 := Sz_1.out; have z2 := Sz_2.out; have z3 := Sq_2.out; have z4 := Sg_2.out; have z5 := Sz_3.out; have z6 := Sb_4.out; have z7 := Sz_4.out; have z8 := Sz_5.out; have z9 := Sq_5.out; have z10 := Sg_5.out; have z11 := Sz_6.out; have z12 := Sz_7.out; have z13 := Sz_8.out; have z14 := Sz_9.out; have z15 := Sz_10.out; have z16 := Sz_11.out; have z17 := Sz_12.out; have z18 := Sz_13.out; have z19 := Sz_14.out; have z20 := Sb_15.out; have z21 := Sz_15.out; have z22 := Sz_16.out; (try simp only [] at *); omega)), belSt3 Bel_16.out (by have z0 := Sa_0.out; have z1 := Sz_1.out; have z2 := Sz_2.out; have z3 := Sq_2.out; have z4 := Sg_2.out; have z5 := Sz_3.out; have z6 := Sb_4.out; have z7 := Sz_4.out; have z8 := Sz_5.out; have z9 := Sq_5.out; have z10 := Sg_5.out; have z11 := Sz_6.out; have z12 := Sz_7.out; have z13 := Sz_8.out; have z14 := Sz_9.out; have z15 := Sz_10.out; have z16 := Sz_11.out; have z17 := Sz_12.out; have z18 := Sz_13.out; have z19 := Sz_14.out; have z20 := Sb_15.out; have z21 := Sz_15.out; have z22 := Sz_16.out; (try simp only [] at *); omega), Bxp_16.out.st3_ (by have z0 := Sa_0.out; have z1 := Sz_1.out; have z2 := Sz_2.out; have z3 := Sq_2.out; have z4 := Sg_2.out; have z5 := Sz_3.out; have z6 := Sb_4.out; have z7 := Sz_4.out; have z8 := Sz_5.out; have z9 := Sq_5.out; have z10 := Sg_5.out; have z11 := Sz_6.out; have z12 := Sz_7.out; have z13 := Sz_8.out; have z14 := Sz_9.out; have z15 := Sz_10.out; have z16 := Sz_11.out; have z17 := Sz_12.out; have z18 := Sz_13.out; have z19 := Sz_14.out; have z20 := Sb_15.out; have z21 := Sz_15.out; have z22 := Sz_16.out; (try simp only [] at *); omega), Bx1_16.out.st3_ (by have z0 := Sa_0.out; have z1 := Sz_1.out; have z2 := Sz_2.out; have z3 := Sq_2.out; have z4 := Sg_2.out; have z5 := Sz_3.out; have z6 := Sb_4.out; have z7 := Sz_4.out; have z8 := Sz_5.out; have z9 := Sq_5.out; have z10 := Sg_5.out; have z11 := Sz_6.out; have z12 := Sz_7.out; have z13 := Sz_8.out; have z14 := Sz_9.out; have z15 := Sz_10.out; have z16 := Sz_11.out; have z17 := Sz_12.out; have z18 := Sz_13.out; have z19 := Sz_14.out; have z20 := Sb_15.out; have z21 := Sz_15.out; have z22 := Sz_16.out; (try simp only [] at *); omega), Bxe_16.out.st3_ (by have z0 := Sa_0.out; have z1 := Sz_1.out; have z2 := Sz_2.out; have z3 := Sq_2.out; have z4 := Sg_2.out; have z5 := Sz_3.out; have z6 := Sb_4.out; have z7 := Sz_4.out; have z8 := Sz_5.out; have z9 := Sq_5.out; have z10 := Sg_5.out; have z11 := Sz_6.out; have z12 := Sz_7.out; have z13 := Sz_8.out; have z14 := Sz_9.out; have z15 := Sz_10.out; have z16 := Sz_11.out; have z17 := Sz_12.out; have z18 := Sz_13.out; have z19 := Sz_14.out; have z20 := Sb_15.out; have z21 := Sz_15.out; have z22 := Sz_16.out; (try simp only [] at *); omega), Bxg_16.out.st3_ (by have z0 := Sa_0.out; have z1 := Sz_1.out; have z2 := Sz_2.out; have z3 := Sq_2.out; have z4 := Sg_2.out; have z5 := Sz_3.out; have z6 := Sb_4.out; have z7 := Sz_4.out; have z8 := Sz_5.out; have z9 := Sq_5.out; have z10 := Sg_5.out; have z11 := Sz_6.out; have z12 := Sz_7.out; have z13 := Sz_8.out; have z14 := Sz_9.out; have z15 := Sz_10.out; have z16 := Sz_11.out; have z17 := Sz_12.out; have z18 := Sz_13.out; have z19 := Sz_14.out; have z20 := Sb_15.out; have z21 := Sz_15.out; have z22 := Sz_16.out; (try simp only [] at *); omega), Ra1_16.out.st3_ (by have z0 := Sa_0.out; have z1 := Sz_1.out; have z2 := Sz_2.out; have z3 := Sq_2.out; have z4 := Sg_2.out; have z5 := Sz_3.out; have z6 := Sb_4.out; have z7 := Sz_4.out; have z8 := Sz_5.out; have z9 := Sq_5.out; have z10 := Sg_5.out; have z11 := Sz_6.out; have z12 := Sz_7.out; have z13 := Sz_8.out; have z14 := Sz_9.out; have z15 := Sz_10.out; have z16 := Sz_11.out; have z17 := Sz_12.out; have z18 := Sz_13.out; have z19 := Sz_14.out; have z20 := Sb_15.out; have z21 := Sz_15.out; have z22 := Sz_16.out; (try simp only [] at *); omega), Owe_16.out.st3_ (by have z0 := Sa_0.out; have z1 := Sz_1.out; have z2 := Sz_2.out; have z3 := Sq_2.out; have z4 := Sg_2.out; have z5 := Sz_3.out; have z6 := Sb_4.out; have z7 := Sz_4.out; have z8 := Sz_5.out; have z9 := Sq_5.out; have z10 := Sg_5.out; have z11 := Sz_6.out; have z12 := Sz_7.out; have z13 := Sz_8.out; have z14 := Sz_9.out; have z15 := Sz_10.out; have z16 := Sz_11.out; have z17 := Sz_12.out; have z18 := Sz_13.out; have z19 := Sz_14.out; have z20 := Sb_15.out; have z21 := Sz_15.out; have z22 := Sz_16.out; (try simp only [] at *); omega), Owg_16.out.st3_ (by have z0 := Sa_0.out; have z1 := Sz_1.out; have z2 := Sz_2.out; have z3 := Sq_2.out; have z4 := Sg_2.out; have z5 := Sz_3.out; have z6 := Sb_4.out; have z7 := Sz_4.out; have z8 := Sz_5.out; have z9 := Sq_5.out; have z10 := Sg_5.out; have z11 := Sz_6.out; have z12 := Sz_7.out; have z13 := Sz_8.out; have z14 := Sz_9.out; have z15 := Sz_10.out; have z16 := Sz_11.out; have z17 := Sz_12.out; have z18 := Sz_13.out; have z19 := Sz_14.out; have z20 := Sb_15.out; have z21 := Sz_15.out; have z22 := Sz_16.out; (try simp only [] at *); omega)⟩
            · go_simp
              obtain ⟨w14, hw⟩ : ∃ w14, w14 = w13.alloc (.cells #[.int .i64 0, .slice none 0 0, .int .i64 0] 30) := ⟨_, rfl⟩
              have hb : Below w13.heap.size w13 w14 := by rw [hw]; exact belAlloc1 _ _
              have Sb_14 : Hid (w13.heap.size + 1 = w14.heap.size) := Lib.hid (by rw [hw]; simp)
              have Rs_14 : Hid (DRes w14 w13.heap.size) := Lib.hid (by rw [hw]; exact DRes.new _ _)
              rw [← hw]
              refine hK.out _ _ ⟨(Bxp_13.out.next hb).1, (Bx1_13.out.next hb).1⟩ (fun hHeld => ?_)
              clear hK K hw
              have Bel_14 := Lib.hid (belNext Bel_13.out hb)
              have Sz_14 : Hid (w13.heap.size ≤ w14.heap.size) := Lib.hid hb.size
              have Bxp_14 := Lib.hid (Bxp_13.out.next hb)
              have Bx1_14 := Lib.hid (Bx1_13.out.next hb)
              have Bxe_14 := Lib.hid (Bxe_13.out.next hb)
              have Bxg_14 := Lib.hid (Bxg_13.out.next hb)
              have Ra1_14 := Lib.hid (Ra1_13.out.next hb)
              have Owe_14 := Lib.hid (Owe_13.out.next hb)
              have Owg_14 := Lib.hid (Owg_13.out.next hb)
              clear hb Bel_13 Bxp_13 Bx1_13 Bxe_13 Bxg_13 Ra1_13 Owe_13 Owg_13
              try simp only [Act.put, List.setIfInBounds_toArray, List.set_cons_zero, List.set_cons_succ]
              refine wpAnyH_ready (rs := [3]) (by kernel_rfl) (by simp) ?_
              refine AllReadyH.cons rfl (fun K hK => ?_) AllReadyH.nil
              go_simp
              refine (toD2_any s1 A1 n1 c1 E1 xs1 w14 _ Ra1_14.out.1 Ra1_14.out.2 Hn1.out Hle1.out).mono ?_
              rintro e w15 ⟨Bcb, dcb, rfl, ho, hb0, hcp⟩
              have Cpcb := Lib.hid hcp
              have hb : Below w14.heap.size w14 w15 := hb0
              have Own := Lib.hid (Ot.new ho)
              refine hK.out _ _ ⟨(Bxp_14.out.next hb).1, (Bx1_14.out.next hb).1⟩ (fun hHeld => ?_)
              clear hK K hb0 ho hcp
              have Bel_15 := Lib.hid (belNext Bel_14.out hb)
              have Sz_15 : Hid (w14.heap.size ≤ w15.heap.size) := Lib.hid hb.size
              have Rs_15 := Lib.hid (Rs_14.out.next hb)
              have Bxp_15 := Lib.hid (Bxp_14.out.next hb)
              have Bx1_15 := Lib.hid (Bx1_14.out.next hb)
              have Bxe_15 := Lib.hid (Bxe_14.out.next hb)
              have Bxg_15 := Lib.hid (Bxg_14.out.next hb)
              have Ra1_15 := Lib.hid (Ra1_14.out.next hb)
              have Owe_15 := Lib.hid (Owe_14.out.next hb)
              have Owg_15 := Lib.hid (Owg_14.out.next hb)
              clear hb Bel_14 Bxp_14 Bx1_14 Bxe_14 Bxg_14 Ra1_14 Owe_14 Owg_14
              have Owcb_15 := Own
              clear Own
              try simp only [Act.put, List.setIfInBounds_toArray, List.set_cons_zero, List.set_cons_succ]
              refine wpAnyH_ready (rs := [4]) (by kernel_rfl) (by simp) ?_
              refine AllReadyH.cons rfl (fun K hK => ?_) AllReadyH.nil
              go_simp
              refine (implEwW_any x0 y0 s1 Bcb n1 dcb xs1 E1 _ Hxy.out.1 Hxy.out.2 Owcb_15.out.rt.all Hn1.out Hk1.out Cpcb.out (HT.out.next Bel_15.out)).mono ?_
              rintro e w16 ⟨Sr, Bce, nr, dce, rfl, hv, hb0⟩
              obtain ⟨hs, hnn, ho⟩ := resFormD hv HS.out HN.out HX.out
              rw [hs, hnn, ← HEX.out, ← HCD.out]
              have hb : Below w15.heap.size w15 w16 := hb0
              have Own := Lib.hid (Ot.new ho)
              refine hK.out _ _ ⟨(Bxp_15.out.next hb).1, (Bx1_15.out.next hb).1⟩ (fun hHeld => ?_)
              clear hK K hb0 ho hv hs hnn
              have Bel_16 := Lib.hid (belNext Bel_15.out hb)
              have Sz_16 : Hid (w15.heap.size ≤ w16.heap.size) := Lib.hid hb.size
              have Rs_16 := Lib.hid (Rs_15.out.next hb)
              have Bxp_16 := Lib.hid (Bxp_15.out.next hb)
              have Bx1_16 := Lib.hid (Bx1_15.out.next hb)
              have Bxe_16 := Lib.hid (Bxe_15.out.next hb)
              have Bxg_16 := Lib.hid (Bxg_15.out.next hb)
              have Ra1_16 := Lib.hid (Ra1_15.out.next hb)
              have Owe_16 := Lib.hid (Owe_15.out.next hb)
              have Owg_16 := Lib.hid (Owg_15.out.next hb)
              have Owcb_16 := Lib.hid (Owcb_15.out.next hb)
              clear hb Bel_15 Bxp_15 Bx1_15 Bxe_15 Bxg_15 Ra1_15 Owe_15 Owg_15 Owcb_15
              have Owce_16 := Own
              clear Own
              try simp only [Act.put, List.setIfInBounds_toArray, List.set_cons_zero, List.set_cons_succ]
              refine wpAnyH_take (i := 5) (v := ?_) rfl (by kernel_rfl) (by kernel_rfl) (by kernel_rfl) (fun _ _ _ h => h) (Or.inl ⟨by rfl, ?_⟩) (by assumption) ?_
              rotate_left
              · (intro w hSw; (try dsimp only at hSw); go_simp; (try with_reducible rfl))
              try simp only [Act.put, List.setIfInBounds_toArray, List.set_cons_zero, List.set_cons_succ]
              refine wpAnyH_take (i := 6) (v := ?_) rfl (by kernel_rfl) (by kernel_rfl) (by kernel_rfl) (fun _ _ _ h => h) (Or.inl ⟨by rfl, ?_⟩) (by assumption) ?_
              rotate_left
              · (intro w hSw; (try dsimp only at hSw); go_simp; (try with_reducible rfl))
              try simp only [Act.put, List.setIfInBounds_toArray, List.set_cons_zero, List.set_cons_succ]
              refine wpAnyH_take (i := 7) (v := ?_) rfl (by kernel_rfl) (by kernel_rfl) (by kernel_rfl) (fun _ _ _ h => h) (Or.inl ⟨by rfl, ?_⟩) (by assumption) ?_
              rotate_left
              · (intro w hSw; (try dsimp only at hSw); go_simp; (try with_reducible rfl))
              try simp only [Act.put, List.setIfInBounds_toArray, List.set_cons_zero, List.set_cons_succ]
              refine wpAnyH_ready (rs := [9]) (by kernel_rfl) (by simp) ?_
              refine AllReadyH.cons rfl (fun K hK => ?_) AllReadyH.nil
              obtain ⟨⟨r0, r1, r2, r3, r4, r5⟩, r6⟩ := Rs_16.out
              go_simp
              refine hK.out _ (st3 w16 (w13.heap.size) S Bce N dce EX) ⟨(Bxp_16.out.st3_ (by have z0 := Sa_0.out; have z1 := Sz_1.out; have z2 := Sz_2.out; have z3 := Sq_2.out; have z4 := Sg_2.out; have z5 := Sz_3.out; have z6 := Sb_4.out; have z7 := Sz_4.out; have z8 := Sz_5.out; have z9 := Sq_5.out; have z10 := Sg_5.out; have z11 := Sz_6.out; have z12 := Sz_7.out; have z13 := Sz_8.out; have z14 := Sz_9.out; have z15 := Sz_10.out; have z16 := Sz_11.out; have z17 := Sz_12.out; have z18 := Sz_13.out; have z19 := Sb_14.out; have z20 := Sz_14.out; have z21 := Sz_15.out; have z22 := Sz_16.out; (try simp only [] at *); omega)).1, (Bx1_16.out.st3_ (by have z0 := Sa_0.out; have z1 := Sz_1.out; have z2 := Sz_2.out; have z3 := Sq_2.out; have z4 := Sg_2.out; have z5 := Sz_3.out; have z6 := Sb_4.out; have z7 := Sz_4.out; have z8 := Sz_5.out; have z9 := Sq_5.out; have z10 := Sg_5.out; have z11 := Sz_6.out; have z12 := Sz_7.out; have z13 := Sz_8.out; have z14 := Sz_9.out; have z15 := Sz_10.out; have z16 := Sz_11.out; have z17 := Sz_12.out; have z18 := Sz_13.out; have z19 := Sb_14.out; have z20 := Sz_14.out; have z21 := Sz_15.out; have z22 := Sz_16.out; (try simp only [] at *); omega)).1⟩ (fun hHeld => ?_)
              clear hK K
              try simp only [Act.put, List.setIfInBounds_toArray, List.set_cons_zero, List.set_cons_succ]
              refine wpAnyH_ready (rs := [10]) (by kernel_rfl) (by simp) ?_
              refine AllReadyH.cons rfl (fun K hK => ?_) AllReadyH.nil
              go_simp
              refine hK.out _ _ hHeld (fun hHeld => ?_)
              clear hK K hHeld
              try simp only [Act.put, List.setIfInBounds_toArray, List.set_cons_zero, List.set_cons_succ]
              refine wpAnyH_done (by kernel_rfl) ?_ _
              go_wp2_with fail
              go_meet
              exact ⟨w13.heap.size, Bce, dce, w15.heap.size, w16.heap.size, rfl, rfl, DBox.made r6 ⟨_, r0⟩ ⟨_, r1⟩ ⟨_, r2⟩, Owce_16.out.st3_ (by have z0 := Sa_0.out; have z1 := Sz_1.out; have z2 := Sz_2.out; have z3 := Sq_2.out; have z4 := Sg_2.out; have z5 := Sz_3.out; have z6 := Sb_4.out; have z7 := Sz_4.out; have z8 := Sz_5.out; have z9 := Sq_5.out; have z10 := Sg_5.out; have z11 := Sz_6.out; have z12 := Sz_7.out; have z13 := Sz_8.out; have z14 := Sz_9.out; have z15 := Sz_10.out; have z16 := Sz_11.out; have z17 := Sz_12.out; have z18 := Sz_13.out; have z19 := Sb_14.out; have z20 := Sz_14.out; have z21 := Sz_15.out; have z22 := Sz_16.out; (try simp only [] at *); omega), ⟨(by have z0 := Sa_0.out; have z1 := Sz_1.out; have z2 := Sz_2.out; have z3 := Sq_2.out; have z4 := Sg_2.out; have z5 := Sz_3.out; have z6 := Sb_4.out; have z7 := Sz_4.out; have z8 := Sz_5.out; have z9 := Sq_5.out; have z10 := Sg_5.out; have z11 := Sz_6.out; have z12 := Sz_7.out; have z13 := Sz_8.out; have z14 := Sz_9.out; have z15 := Sz_10.out; have z16 := Sz_11.out; have z17 := Sz_12.out; have z18 := Sz_13.out; have z19 := Sb_14.out; have z20 := Sz_14.out; have z21 := Sz_15.out; have z22 := Sz_16.out; (try simp only [] at *); omega), (by rw [st3_size]; exact (by have z0 := Sa_0.out; have z1 := Sz_1.out; have z2 := Sz_2.out; have z3 := Sq_2.out; have z4 := Sg_2.out; have z5 := Sz_3.out; have z6 := Sb_4.out; have z7 := Sz_4.out; have z8 := Sz_5.out; have z9 := Sq_5.out; have z10 := Sg_5.out; have z11 := Sz_6.out; have z12 := Sz_7.out; have z13 := Sz_8.out; have z14 := Sz_9.out; have z15 := Sz_10.out; have z16 := Sz_11.out; have z17 := Sz_12.out; have z18 := Sz_13.out; have z19 := Sb_14.out; have z20 := Sz_14.out; have z21 := Sz_15.out; have z22 := Sz_16.out; (try simp only [] at *); omega)), (by have z0 := Sa_0.out; have z1 := Sz_1.out; have z2 := Sz_2.out; have z3 := Sq_2.out; have z4 := Sg_2.out; have z5 := Sz_3.out; have z6 := Sb_4.out; have z7 := Sz_4.out; have z8 := Sz_5.out; have z9 := Sq_5.out; have z10 := Sg_5.out; have z11 := Sz_6.out; have z12 := Sz_7.out; have z13 := Sz_8.out; have z14 := Sz_9.out; have z15 := Sz_10.out; have z16 := Sz_11.out; have z17 := Sz_12.out; have z18 := Sz_13.out; have z19 := Sb_14.out; have z20 := Sz_14.out; have z21 := Sz_15.out; have z22 := Sz_16.out; (try simp only [] at *); omega), (by have z0 := Sa_0.out; have z1 := Sz_1.out; have z2 := Sz_2.out; have z3 := Sq_2.out; have z4 := Sg_2.out; have z5 := Sz_3.out; have z6 := Sb_4.out; have z7 := Sz_4.out; have z8 := Sz_5.out; have z9 := Sq_5.out; have z10 := Sg_5.out; have z11 := Sz_6.out; have z12 := Sz_7.out; have z13 := Sz_8.out; have z14 := Sz_9.out; have z15 := Sz_10.out; have z16 := Sz_11.out; have z17 := Sz_12.out; have z18 := Sz_13.out; have z19 := Sb_14.out; have z20 := Sz_14.out; have z21 := Sz_15.out; have z22 := Sz_16.out; (try simp only [] at *); omega)⟩, (by rw [st3_size]; exact (by have z0 := Sa_0.out; have z1 := Sz_1.out; have z2 := Sz_2.out; have z3 := Sq_2.out; have z4 := Sg_2.out; have z5 := Sz_3.out; have z6 := Sb_4.out; have z7 := Sz_4.out; have z8 := Sz_5.out; have z9 := Sq_5.out; have z10 := Sg_5.out; have z11 := Sz_6.out; have z12 := Sz_7.out; have z13 := Sz_8.out; have z14 := Sz_9.out; have z15 := Sz_10.out; have z16 := Sz_11.out; have z17 := Sz_12.out; have z18 := Sz_13.out; have z19 := Sb_14.out; have z20 := Sz_14.out; have z21 := Sz_15.out; have z22 := Sz_16.out; (try simp only [] at *); omega)), belSt3 Bel_16.out (by have z0 := Sa_0.out; have z1 := Sz_1.out; have z2 := Sz_2.out; have z3 := Sq_2.out; have z4 := Sg_2.out; have z5 := Sz_3.out; have z6 := Sb_4.out; have z7 := Sz_4.out; have z8 := Sz_5.out; have z9 := Sq_5.out; have z10 := Sg_5.out; have z11 := Sz_6.out; have z12 := Sz_7.out; have z13 := Sz_8.out; have z14 := Sz_9.out; have z15 := Sz_10.out; have z16 := Sz_11.out; have z17 := Sz_12.out; have z18 := Sz_13.out; have z19 := Sb_14.out; have z20 := Sz_14.out; have z21 := Sz_15.out; have z22 := Sz_16.out; (try simp only [] at *); omega), Bxp_16.out.st3_ (by have z0 := Sa_0.out; have z1 := Sz_1.out; have z2 := Sz_2.out; have z3 := Sq_2.out; have z4 := Sg_2.out; have z5 := Sz_3.out; have z6 := Sb_4.out; have z7 := Sz_4.out; have z8 := Sz_5.out; have z9 := Sq_5.out; have z10 := Sg_5.out; have z11 := Sz_6.out; have z12 := Sz_7.out; have z13 := Sz_8.out; have z14 := Sz_9.out; have z15 := Sz_10.out; have z16 := Sz_11.out; have z17 := Sz_12.out; have z18 := Sz_13.out; have z19 := Sb_14.out; have z20 := Sz_14.out; have z21 := Sz_15.out; have z22 := Sz_16.out; (try simp only [] at *); omega), Bx1_16.out.st3_ (by have z0 := Sa_0.out; have z1 := Sz_1.out; have z2 := Sz_2.out; have z3 := Sq_2.out; have z4 := Sg_2.out; have z5 := Sz_3.out; have z6 := Sb_4.out; have z7 := Sz_4.out; have z8 := Sz_5.out; have z9 := Sq_5.out; have z10 := Sg_5.out; have z11 := Sz_6.out; have z12 := Sz_7.out; have z13 := Sz_8.out; have z14 := Sz_9.out; have z15 := Sz_10.out; have z16 := Sz_11.out; have z17 := Sz_12.out; have z18 := Sz_13.out; have z19 := Sb_14.out; have z20 := Sz_14.out; have z21 := Sz_15.out; have z22 := Sz_16.out; (try simp only [] at *); omega), Bxe_16.out.st3_ (by have z0 := Sa_0.out; have z1 := Sz_1.out; have z2 := Sz_2.out; have z3 := Sq_2.out; have z4 := Sg_2.out; have z5 := Sz_3.out; have z6 := Sb_4.out; have z7 := Sz_4.out; have z8 := Sz_5.out; have z9 := Sq_5.out; have z10 := Sg_5.out; have z11 := Sz_6.out; have z12 := Sz_7.out; have z13 := Sz_8.out; have z14 := Sz_9.out; have z15 := Sz_10.out; have z16 := Sz_11.out; have z17 := Sz_12.out; have z18 := Sz_13.out; have z19 := Sb_14.out; have z20 := Sz_14.out; have z21 := Sz_15.out; have z22 := Sz_16.out; (try simp only [] at *); omega), Bxg_16.out.st3_ (by have z0 := Sa_0.out; have z1 := Sz_1.out; have z2 := Sz_2.out; have z3 := Sq_2.out; have z4 := Sg_2.out; have z5 := Sz_3.out; have z6 := Sb_4.out; have z7 := Sz_4.out; have z8 := Sz_5.out; have z9 := Sq_5.out; have z10 := Sg_5.out; have z11 := Sz_6.out; have z12 := Sz_7.out; have z13 := Sz_8.out; have z14 := Sz_9.out; have z15 := Sz_10.out; have z16 := Sz_11.out; have z17 := Sz_12.out; have z18 := Sz_13.out; have z19 := Sb_14.out; have z20 := Sz_14.out; have z21 := Sz_15.out; have z22 := Sz_16.out; (try simp only [] at *); omega), Ra1_16.out.st3_ (by have z0 := Sa_0.out; have z1 := Sz_1.out; have z2 := Sz_2.out; have z3 := Sq_2.out; have z4 := Sg_2.out; have z5 := Sz_3.out; have z6 := Sb_4.out; have z7 := Sz_4.out; have z8 := Sz_5.out; have z9 := Sq_5.out; have z10 := Sg_5.out; have z11 := Sz_6.out; have z12 := Sz_7.out; have z13 := Sz_8.out; have z14 := Sz_9.out; have z15 := Sz_10.out; have z16 := Sz_11.out; have z17 := Sz_12.out; have z18 := Sz_13.out; have z19 := Sb_14.out; have z20 := Sz_14.out; have z21 := Sz_15.out; have z22 := Sz_16.out; (try simp only [] at *); omega), Owe_16.out.st3_ (by have z0 := Sa_0.out; have z1 := Sz_1.out; have z2 := Sz_2.out; have z3 := Sq_2.out; have z4 := Sg_2.out; have z5 := Sz_3.out; have z6 := Sb_4.out; have z7 := Sz_4.out; have z8 := Sz_5.out; have z9 := Sq_5.out; have z10 := Sg_5.out; have z11 := Sz_6.out; have z12 := Sz_7.out; have z13 := Sz_8.out; have z14 := Sz_9.out; have z15 := Sz_10.out; have z16 := Sz_11.out; have z17 := Sz_12.out; have z18 := Sz_13.out; have z19 := Sb_14.out; have z20 := Sz_14.out; have z21 := Sz_15.out; have z22 := Sz_16.out; (try simp only [] at *); omega), Owg_16.out.st3_ (by have z0 := Sa_0.out; have z1 := Sz_1.out; have z2 := Sz_2.out; have z3 := Sq_2.out; have z4 := Sg_2.out; have z5 := Sz_3.out; have z6 := Sb_4.out; have z7 := Sz_4.out; have z8 := Sz_5.out; have z9 := Sq_5.out; have z10 := Sg_5.out; have z11 := Sz_6.out; have z12 := Sz_7.out; have z13 := Sz_8.out; have z14 := Sz_9.out; have z15 := Sz_10.out; have z16 := Sz_11.out; have z17 := Sz_12.out; have z18 := Sz_13.out; have z19 := Sb_14.out; have z20 := Sz_14.out; have z21 := Sz_15.out; have z22 := Sz_16.out; (try simp only [] at *); omega)⟩
          · go_simp
            obtain ⟨w13, hw⟩ : ∃ w13, w13 = (w12.alloc (.cells #[.int .i64 0, .slice none 0 0, .int .i64 0] 30)).drew := ⟨_, rfl⟩
            have hb : Below w12.heap.size w12 w13 := by rw [hw]; exact (belAlloc1 _ _).drew
            have Sb_13 : Hid (w12.heap.size + 1 = w13.heap.size) := Lib.hid (by rw [hw]; simp)
            have Rs_13 : Hid (DRes w13 w12.heap.size) := Lib.hid (by rw [hw]; exact (DRes.new w12 _).drew)
            rw [← hw]
            refine hK.out _ _ ⟨(Bxp_12.out.next hb).1, (Bx1_12.out.next hb).1⟩ (fun hHeld => ?_)
            clear hK K hw
            have Bel_13 := Lib.hid (belNext Bel_12.out hb)
            have Sz_13 : Hid (w12.heap.size ≤ w13.heap.size) := Lib.hid hb.size
            have Bxp_13 := Lib.hid (Bxp_12.out.next hb)
            have Bx1_13 := Lib.hid (Bx1_12.out.next hb)
            have Bxe_13 := Lib.hid (Bxe_12.out.next hb)
            have Bxg_13 := Lib.hid (Bxg_12.out.next hb)
            have Ra1_13 := Lib.hid (Ra1_12.out.next hb)
            have Owe_13 := Lib.hid (Owe_12.out.next hb)
            have Owg_13 := Lib.hid (Owg_12.out.next hb)
            clear hb Bel_12 Bxp_12 Bx1_12 Bxe_12 Bxg_12 Ra1_12 Owe_12 Owg_12
            try simp only [Act.put, List.setIfInBounds_toArray, List.set_cons_zero, List.set_cons_succ]
            refine wpAnyH_ready (rs := [1]) (by kernel_rfl) (by simp) ?_
            refine AllReadyH.cons rfl (fun K hK => ?_) AllReadyH.nil
            go_simp
            refine (toPair_any x0 y0 w13).mono ?_
            rintro e w14 ⟨rfl, hb0⟩
            have hb : Below w13.heap.size w13 w14 := hb0
            refine hK.out _ _ ⟨(Bxp_13.out.next hb).1, (Bx1_13.out.next hb).1⟩ (fun hHeld => ?_)
            clear hK K hb0
            have Bel_14 := Lib.hid (belNext Bel_13.out hb)
            have Sz_14 : Hid (w13.heap.size ≤ w14.heap.size) := Lib.hid hb.size
            have Rs_14 := Lib.hid (Rs_13.out.next hb)
            have Bxp_14 := Lib.hid (Bxp_13.out.next hb)
            have Bx1_14 := Lib.hid (Bx1_13.out.next hb)
            have Bxe_14 := Lib.hid (Bxe_13.out.next hb)
            have Bxg_14 := Lib.hid (Bxg_13.out.next hb)
            have Ra1_14 := Lib.hid (Ra1_13.out.next hb)
            have Owe_14 := Lib.hid (Owe_13.out.next hb)
            have Owg_14 := Lib.hid (Owg_13.out.next hb)
            clear hb Bel_13 Bxp_13 Bx1_13 Bxe_13 Bxg_13 Ra1_13 Owe_13 Owg_13
            try simp only [Act.put, List.setIfInBounds_toArray, List.set_cons_zero, List.set_cons_succ]
            refine wpAnyH_ready (rs := [3]) (by kernel_rfl) (by simp) ?_
            refine AllReadyH.cons rfl (fun K hK => ?_) AllReadyH.nil
            go_simp
            refine (toD2_any s1 A1 n1 c1 E1 xs1 w14 _ Ra1_14.out.1 Ra1_14.out.2 Hn1.out Hle1.out).mono ?_
            rintro e w15 ⟨Bcb, dcb, rfl, ho, hb0, hcp⟩
            have Cpcb := Lib.hid hcp
            have hb : Below w14.heap.size w14 w15 := hb0
            have Own := Lib.hid (Ot.new ho)
            refine hK.out _ _ ⟨(Bxp_14.out.next hb).1, (Bx1_14.out.next hb).1⟩ (fun hHeld => ?_)
            clear hK K hb0 ho hcp
            have Bel_15 := Lib.hid (belNext Bel_14.out hb)
            have Sz_15 : Hid (w14.heap.size ≤ w15.heap.size) := Lib.hid hb.size
            have Rs_15 := Lib.hid (Rs_14.out.next hb)
            have Bxp_15 := Lib.hid (Bxp_14.out.next hb)
            have Bx1_15 := Lib.hid (Bx1_14.out.next hb)
            have Bxe_15 := Lib.hid (Bxe_14.out.next hb)
            have Bxg_15 := Lib.hid (Bxg_14.out.next hb)
            have Ra1_15 := Lib.hid (Ra1_14.out.next hb)
            have Owe_15 := Lib.hid (Owe_14.out.next hb)
            have Owg_15 := Lib.hid (Owg_14.out.next hb)
            clear hb Bel_14 Bxp_14 Bx1_14 Bxe_14 Bxg_14 Ra1_14 Owe_14 Owg_14
            have Owcb_15 := Own
            clear Own
            try simp only [Act.put, List.setIfInBounds_toArray, List.set_cons_zero, List.set_cons_succ]
            refine wpAnyH_ready (rs := [4]) (by kernel_rfl) (by simp) ?_
            refine AllReadyH.cons rfl (fun K hK => ?_) AllReadyH.nil
            go_simp
            refine (implEwW_any x0 y0 s1 Bcb n1 dcb xs1 E1 _ Hxy.out.1 Hxy.out.2 Owcb_15.out.rt.all Hn1.out Hk1.out Cpcb.out (HT.out.next Bel_15.out)).mono ?_
            rintro e w16 ⟨Sr, Bce, nr, dce, rfl, hv, hb0⟩
            obtain ⟨hs, hnn, ho⟩ := resFormD hv HS.out HN.out HX.out
            rw [hs, hnn, ← HEX.out, ← HCD.out]
            have hb : Below w15.heap.size w15 w16 := hb0
            have Own := Lib.hid (Ot.new ho)
            refine hK.out _ _ ⟨(Bxp_15.out.next hb).1, (Bx1_15.out.next hb).1⟩ (fun hHeld => ?_)
            clear hK K hb0 ho hv hs hnn
            have Bel_16 := Lib.hid (belNext Bel_15.out hb)
            have Sz_16 : Hid (w15.heap.size ≤ w16.heap.size) := Lib.hid hb.size
            have Rs_16 := Lib.hid (Rs_15.out.next hb)
            have Bxp_16 := Lib.hid (Bxp_15.out.next hb)
            have Bx1_16 := Lib.hid (Bx1_15.out.next hb)
            have Bxe_16 := Lib.hid (Bxe_15.out.next hb)
            have Bxg_16 := Lib.hid (Bxg_15.out.next hb)
            have Ra1_16 := Lib.hid (Ra1_15.out.next hb)
            have Owe_16 := Lib.hid (Owe_15.out.next hb)
            have Owg_16 := Lib.hid (Owg_15.out.next hb)
            have Owcb_16 := Lib.hid (Owcb_15.out.next hb)
            clear hb Bel_15 Bxp_15 Bx1_15 Bxe_15 Bxg_15 Ra1_15 Owe_15 Owg_15 Owcb_15
            have Owce_16 := Own
            clear Own
            try simp only [Act.put, List.setIfInBounds_toArray, List.set_cons_zero, List.set_cons_succ]
            refine wpAnyH_take (i := 5) (v := ?_) rfl (by kernel_rfl) (by kernel_rfl) (by kernel_rfl) (fun _ _ _ h => h) (Or.inl ⟨by rfl, ?_⟩) (by assumption) ?_
            rotate_left
            · (intro w hSw; (try dsimp only at hSw); go_simp; (try with_reducible rfl))
            try simp only [Act.put, List.setIfInBounds_toArray, List.set_cons_zero, List.set_cons_succ]
            refine wpAnyH_take (i := 6) (v := ?_) rfl (by kernel_rfl) (by kernel_rfl) (by kernel_rfl) (fun _ _ _ h => h) (Or.inl ⟨by rfl, ?_⟩) (by assumption) ?_
            rotate_left
            · (intro w hSw; (try dsimp only at hSw); go_simp; (try with_reducible rfl))
            try simp only [Act.put, List.setIfInBounds_toArray, List.set_cons_zero, List.set_cons_succ]
            refine wpAnyH_take (i := 7) (v := ?_) rfl (by kernel_rfl) (by kernel_rfl) (by kernel_rfl) (fun _ _ _ h => h) (Or.inl ⟨by rfl, ?_⟩) (by assumption) ?_
            rotate_left
            · (intro w hSw; (try dsimp only at hSw); go_simp; (try with_reducible rfl))
            try simp only [Act.put, List.setIfInBounds_toArray, List.set_cons_zero, List.set_cons_succ]
            refine wpAnyH_ready (rs := [9]) (by kernel_rfl) (by simp) ?_
            refine AllReadyH.cons rfl (fun K hK => ?_) AllReadyH.nil
            obtain ⟨⟨r0, r1, r2, r3, r4, r5⟩, r6⟩ := Rs_16.out
            go_simp
            refine hK.out _ (st3 w16 (w12.heap.size) S Bce N dce EX) ⟨(Bxp_16.out.st3_ (by have z0 := Sa_0.out; have z1 := Sz_1.out; have z2 := Sz_2.out; have z3 := Sq_2.out; have z4 := Sg_2.out; have z5 := Sz_3.out; have z6 := Sb_4.out; have z7 := Sz_4.out; have z8 := Sz_5.out; have z9 := Sq_5.out; have z10 := Sg_5.out; have z11 := Sz_6.out; have z12 := Sz_7.out; have z13 := Sz_8.out; have z14 := Sz_9.out; have z15 := Sz_10.out; have z16 := Sz_11.out; have z17 := Sz_12.out; have z18 := Sb_13.out; have z19 := Sz_13.out; have z20 := Sz_14.out; have z21 := Sz_15.out; have z22 := Sz_16.out; (try simp only [] at *); omega)).1, (Bx1_16.out.st3_ (by have z0 := Sa_0.out; have z1 := Sz_1.out; have z2 := Sz_2.out; have z3 := Sq_2.out; have z4 := Sg_2.out; have z5 := Sz_3.out; have z6 := Sb_4.out; have z7 := Sz_4.out; have z8 := Sz_5.out; have z9 := Sq_5.out; have z10 := Sg_5.out; have z11 := Sz_6.out; have z12 := Sz_7.out; have z13 := Sz_8.out; have z14 := Sz_9.out; have z15 := Sz_10.out; have z16 := Sz_11.out; have z17 := Sz_12.out; have z18 := Sb_13.out; have z19 := Sz_13.out; have z20 := Sz_14.out; have z21 := Sz_15.out; have z22 := Sz_16.out; (try simp only [] at *); omega)).1⟩ (fun hHeld => ?_)
            clear hK K
            try simp only [Act.put, List.setIfInBounds_toArray, List.set_cons_zero, List.set_cons_succ]
            refine wpAnyH_ready (rs := [10]) (by kernel_rfl) (by simp) ?_
            refine AllReadyH.cons rfl (fun K hK => ?_) AllReadyH.nil
            go_simp
            refine hK.out _ _ hHeld (fun hHeld => ?_)
            clear hK K hHeld
            try simp only [Act.put, List.setIfInBounds_toArray, List.set_cons_zero, List.set_cons_succ]
            refine wpAnyH_done (by kernel_rfl) ?_ _
            go_wp2_with fail
            go_meet
            exact ⟨w12.heap.size, Bce, dce, w15.heap.size, w16.heap.size, rfl, rfl, DBox.made r6 ⟨_, r0⟩ ⟨_, r1⟩ ⟨_, r2⟩, Owce_16.out.st3_ (by have z0 := Sa_0.out; have z1 := Sz_1.out; have z2 := Sz_2.out; have z3 := Sq_2.out; have z4 := Sg_2.out; have z5 := Sz_3.out; have z6 := Sb_4.out; have z7 := Sz_4.out; have z8 := Sz_5.out; have z9 := Sq_5.out; have z10 := Sg_5.out; have z11 := Sz_6.out; have z12 := Sz_7.out; have z13 := Sz_8.out; have z14 := Sz_9.out; have z15 := Sz_10.out; have z16 := Sz_11.out; have z17 := Sz_12.out; have z18 := Sb_13.out; have z19 := Sz_13.out; have z20 := Sz_14.out; have z21 := Sz_15.out; have z22 := Sz_16.out; (try simp only [] at *); omega), ⟨(by have z0 := Sa_0.out; have z1 := Sz_1.out; have z2 := Sz_2.out; have z3 := Sq_2.out; have z4 := Sg_2.out; have z5 := Sz_3.out; have z6 := Sb_4.out; have z7 := Sz_4.out; have z8 := Sz_5.out; have z9 := Sq_5.out; have z10 := Sg_5.out; have z11 := Sz_6.out; have z12 := Sz_7.out; have z13 := Sz_8.out; have z14 := Sz_9.out; have z15 := Sz_10.out; have z16 := Sz_11.out; have z17 := Sz_12.out; have z18 := Sb_13.out; have z19 := Sz_13.out; have z20 := Sz_14.out; have z21 := Sz_15.out; have z22 := Sz_16.out; (try simp only [] at *); omega), (by rw [st3_size]; exact (by have z0 := Sa_0.out; have z1 := Sz_1.out; have z2 := Sz_2.out; have z3 := Sq_2.out; have z4 := Sg_2.out; have z5 := Sz_3.out; have z6 := Sb_4.out; have z7 := Sz_4.out; have z8 := Sz_5.out; have z9 := Sq_5.out; have z10 := Sg_5.out; have z11 := Sz_6.out; have z12 := Sz_7.out; have z13 := Sz_8.out; have z14 := Sz_9.out; have z15 := Sz_10.out; have z16 := Sz_11.out; have z17 := Sz_12.out; have z18 := Sb_13.out; have z19 := Sz_13.out; have z20 := Sz_14.out; have z21 := Sz_15.out; have z22 := Sz_16.out; (try simp only [] at *); omega)), (by have z0 := Sa_0.out; have z1 := Sz_1.out; have z2 := Sz_2.out; have z3 := Sq_2.out; have z4 := Sg_2.out; have z5 := Sz_3.out; have z6 := Sb_4.out; have z7 := Sz_4.out; have z8 := Sz_5.out; have z9 := Sq_5.out; have z10 := Sg_5.out; have z11 := Sz_6.out; have z12 := Sz_7.out; have z13 := Sz_8.out; have z14 := Sz_9.out; have z15 := Sz_10.out; have z16 := Sz_11.out; have z17 := Sz_12.out; have z18 := Sb_13.out; have z19 := Sz_13.out; have z20 := Sz_14.out; have z21 := Sz_15.out; have z22 := Sz_16.out; (try simp only [] at *); omega), (by have z0 := Sa_0.out; have z1 := Sz_1.out; have z2 := Sz_2.out; have z3 := Sq_2.out; have z4 := Sg_2.out; have z5 := Sz_3.out; have z6 := Sb_4.out; have z7 := Sz_4.out; have z8 := Sz_5.out; have z9 := Sq_5.out; have z10 := Sg_5.out; have z11 := Sz_6.out; have z12 := Sz_7.out; have z13 := Sz_8.out; have z14 := Sz_9.out; have z15 := Sz_10.out; have z16 := Sz_11.out; have z17 := Sz_12.out; have z18 := Sb_13.out; have z19 := Sz_13.out; have z20 := Sz_14.out; have z21 := Sz_15.out; have z22 := Sz_16.out; (try simp only [] at *); omega)⟩, (by rw [st3_size]; exact (by have z0 := Sa_0.out; have z1 := Sz_1.out; have z2 := Sz_2.out; have z3 := Sq_2.out; have z4 := Sg_2.out; have z5 := Sz_3.out; have z6 := Sb_4.out; have z7 := Sz_4.out; have z8 := Sz_5.out; have z9 := Sq_5.out; have z10 := Sg_5.out; have z11 := Sz_6.out; have z12 := Sz_7.out; have z13 := Sz_8.out; have z14 := Sz_9.out; have z15 := Sz_10.out; have z16 := Sz_11.out; have z17 := Sz_12.out; have z18 := Sb_13.out; have z19 := Sz_13.out; have z20 := Sz_14.out; have z21 := Sz_15.out; have z22 := Sz_16.out; (try simp only [] at *); omega)), belSt3 Bel_16.out (by have z0 := Sa_0.out; have z1 := Sz_1.out; have z2 := Sz_2.out; have z3 := Sq_2.out; have z4 := Sg_2.out; have z5 := Sz_3.out; have z6 := Sb_4.out; have z7 := Sz_4.out; have z8 := Sz_5.out; have z9 := Sq_5.out; have z10 := Sg_5.out; have z11 := Sz_6.out; have z12 := Sz_7.out; have z13 := Sz_8.out; have z14 := Sz_9.out; have z15 := Sz_10.out; have z16 := Sz_11.out; have z17 := Sz_12.out; have z18 := Sb_13.out; have z19 := Sz_13.out; have z20 := Sz_14.out; have z21 := Sz_15.out; have z22 := Sz_16.out; (try simp only [] at *); omega), Bxp_16.out.st3_ (by have z0 := Sa_0.out; have z1 := Sz_1.out; have z2 := Sz_2.out; have z3 := Sq_2.out; have z4 := Sg_2.out; have z5 := Sz_3.out; have z6 := Sb_4.out; have z7 := Sz_4.out; have z8 := Sz_5.out; have z9 := Sq_5.out; have z10 := Sg_5.out; have z11 := Sz_6.out; have z12 := Sz_7.out; have z13 := Sz_8.out; have z14 := Sz_9.out; have z15 := Sz_10.out; have z16 := Sz_11.out; have z17 := Sz_12.out; have z18 := Sb_13.out; have z19 := Sz_13.out; have z20 := Sz_14.out; have z21 := Sz_15.out; have z22 := Sz_16.out; (try simp only [] at *); omega), Bx1_16.out.st3_ (by have z0 := Sa_0.out; have z1 := Sz_1.out; have z2 := Sz_2.out; have z3 := Sq_2.out; have z4 := Sg_2.out; have z5 := Sz_3.out; have z6 := Sb_4.out; have z7 := Sz_4.out; have z8 := Sz_5.out; have z9 := Sq_5.out; have z10 := Sg_5.out; have z11 := Sz_6.out; have z12 := Sz_7.out; have z13 := Sz_8.out; have z14 := Sz_9.out; have z15 := Sz_10.out; have z16 := Sz_11.out; have z17 := Sz_12.out; have z18 := Sb_13.out; have z19 := Sz_13.out; have z20 := Sz_14.out; have z21 := Sz_15.out; have z22 := Sz_16.out; (try simp only [] at *); omega), Bxe_16.out.st3_ (by have z0 := Sa_0.out; have z1 := Sz_1.out; have z2 := Sz_2.out; have z3 := Sq_2.out; have z4 := Sg_2.out; have z5 := Sz_3.out; have z6 := Sb_4.out; have z7 := Sz_4.out; have z8 := Sz_5.out; have z9 := Sq_5.out; have z10 := Sg_5.out; have z11 := Sz_6.out; have z12 := Sz_7.out; have z13 := Sz_8.out; have z14 := Sz_9.out; have z15 := Sz_10.out; have z16 := Sz_11.out; have z17 := Sz_12.out; have z18 := Sb_13.out; have z19 := Sz_13.out; have z20 := Sz_14.out; have z21 := Sz_15.out; have z22 := Sz_16.out; (try simp only [] at *); omega), Bxg_16.out.st3_ (by have z0 := Sa_0.out; have z1 := Sz_1.out; have z2 := Sz_2.out; have z3 := Sq_2.out; have z4 := Sg_2.out; have z5 := Sz_3.out; have z6 := Sb_4.out; have z7 := Sz_4.out; have z8 := Sz_5.out; have z9 := Sq_5.out; have z10 := Sg_5.out; have z11 := Sz_6.out; have z12 := Sz_7.out; have z13 := Sz_8.out; have z14 := Sz_9.out; have z15 := Sz_10.out; have z16 := Sz_11.out; have z17 := Sz_12.out; have z18 := Sb_13.out; have z19 := Sz_13.out; have z20 := Sz_14.out; have z21 := Sz_15.out; have z22 := Sz_16.out; (try simp only [] at *); omega), Ra1_16.out.st3_ (by have z0 := Sa_0.out; have z1 := Sz_1.out; have z2 := Sz_2.out; have z3 := Sq_2.out; have z4 := Sg_2.out; have z5 := Sz_3.out; have z6 := Sb_4.out; have z7 := Sz_4.out; have z8 := Sz_5.out; have z9 := Sq_5.out; have z10 := Sg_5.out; have z11 := Sz_6.out; have z12 := Sz_7.out; have z13 := Sz_8.out; have z14 := Sz_9.out; have z15 := Sz_10.out; have z16 := Sz_11.out; have z17 := Sz_12.out; have z18 := Sb_13.out; have z19 := Sz_13.out; have z20 := Sz_14.out; have z21 := Sz_15.out; have z22 := Sz_16.out; (try simp only [] at *); omega), Owe_16.out.st3_ (by have z0 := Sa_0.out; have z1 := Sz_1.out; have z2 := Sz_2.out; have z3 := Sq_2.out; have z4 := Sg_2.out; have z5 := Sz_3.out; have z6 := Sb_4.out; have z7 := Sz_4.out; have z8 := Sz_5.out; have z9 := Sq_5.out; have z10 := Sg_5.out; have z11 := Sz_6.out; have z12 := Sz_7.out; have z13 := Sz_8.out; have z14 := Sz_9.out; have z15 := Sz_10.out; have z16 := Sz_11.out; have z17 := Sz_12.out; have z18 := Sb_13.out; have z19 := Sz_13.out; have z20 := Sz_14.out; have z21 := Sz_15.out; have z22 := Sz_16.out; (try simp only [] at *); omega), Owg_16.out.st3_ (by have z0 := Sa_0.out; have z1 := Sz_1.out; have z2 := Sz_2.out; have z3 := Sq_2.out; have z4 := Sg_2.out; have z5 := Sz_3.out; have z6 := Sb_4.out; have z7 := Sz_4.out; have z8 := Sz_5.out; have z9 := Sq_5.out; have z10 := Sg_5.out; have z11 := Sz_6.out; have z12 := Sz_7.out; have z13 := Sz_8.out; have z14 := Sz_9.out; have z15 := Sz_10.out; have z16 := Sz_11.out; have z17 := Sz_12.out; have z18 := Sb_13.out; have z19 := Sz_13.out; have z20 := Sz_14.out; have z21 := Sz_15.out; have z22 := Sz_16.out; (try simp only [] at *); omega)⟩
        case rest =>
          obtain ⟨w13, hwc⟩ : ∃ w13, w13 = wc := ⟨_, rfl⟩
          rw [← hwc] at hcut ⊢
          clear hwc
          obtain ⟨bh, Bh, dh, lh, uh, rfl, rfl, hbx, hot, hrg, hsz, hBel_13, hBxp_13, hBx1_13, hBxe_13, hBxg_13, hRa1_13, hOwe_13, hOwg_13⟩ := hcut
          have Bel_13 := Lib.hid hBel_13
          have Bxp_13 := Lib.hid hBxp_13
          have Bx1_13 := Lib.hid hBx1_13
          have Bxe_13 := Lib.hid hBxe_13
          have Bxg_13 := Lib.hid hBxg_13
          have Ra1_13 := Lib.hid hRa1_13
          have Owe_13 := Lib.hid hOwe_13
          have Owg_13 := Lib.hid hOwg_13
          have Bxh_13 := Lib.hid hbx
          have Owh_13 := Lib.hid hot
          have Sz_13 := Lib.hid hsz
          have Sg_13 := Lib.hid hrg
          have Sq_13 : Hid (bh < w13.heap.size) := Lib.hid hbx.2
          clear hbx hot hsz hrg hBel_13 hBxp_13 hBx1_13 hBxe_13 hBxg_13 hRa1_13 hOwe_13 hOwg_13 Bel_12 Bxp_12 Bx1_12 Bxe_12 Bxg_12 Ra1_12 Owe_12 Owg_12 hxp1 hxp2 hxp3 hx11 hx12 hx13 hx14 hxe1 hxe2 hxe3 hxe4 hxg1 hxg2 hxg3 hxg4
          obtain ⟨⟨hxp1, hxp2⟩, hxp3⟩ := Bxp_13.out
          obtain ⟨⟨hx11, hx12, hx13⟩, hx14⟩ := Bx1_13.out
          obtain ⟨⟨hxe1, hxe2, hxe3⟩, hxe4⟩ := Bxe_13.out
          obtain ⟨⟨hxg1, hxg2, hxg3⟩, hxg4⟩ := Bxg_13.out
          obtain ⟨⟨hxh1, hxh2, hxh3⟩, hxh4⟩ := Bxh_13.out
          go_wp2_with fail
          refine (eqD_yes S Bh Be N dh de _ _ EX XS _ Owh_13.out.rt.1 Owe_13.out.rt.1 Owh_13.out.rt.2 Owe_13.out.rt.2 HXN.out HN1.out).mono ?_
          rintro e w14 ⟨rfl, hb⟩
          have Bel_14 := Lib.hid (belNext Bel_13.out hb)
          have Sz_14 : Hid (w13.heap.size ≤ w14.heap.size) := Lib.hid hb.size
          have Bxp_14 := Lib.hid (Bxp_13.out.next hb)
          have Bx1_14 := Lib.hid (Bx1_13.out.next hb)
          have Bxe_14 := Lib.hid (Bxe_13.out.next hb)
          have Bxg_14 := Lib.hid (Bxg_13.out.next hb)
          have Bxh_14 := Lib.hid (Bxh_13.out.next hb)
          have Ra1_14 := Lib.hid (Ra1_13.out.next hb)
          have Owe_14 := Lib.hid (Owe_13.out.next hb)
          have Owg_14 := Lib.hid (Owg_13.out.next hb)
          have Owh_14 := Lib.hid (Owh_13.out.next hb)
          clear hb Bel_13 Bxp_13 Bx1_13 Bxe_13 Bxg_13 Bxh_13 Ra1_13 Owe_13 Owg_13 Owh_13 hxp1 hxp2 hxp3 hx11 hx12 hx13 hx14 hxe1 hxe2 hxe3 hxe4 hxg1 hxg2 hxg3 hxg4 hxh1 hxh2 hxh3 hxh4
          obtain ⟨⟨hxp1, hxp2⟩, hxp3⟩ := Bxp_14.out
          obtain ⟨⟨hx11, hx12, hx13⟩, hx14⟩ := Bx1_14.out
          obtain ⟨⟨hxe1, hxe2, hxe3⟩, hxe4⟩ := Bxe_14.out
          obtain ⟨⟨hxg1, hxg2, hxg3⟩, hxg4⟩ := Bxg_14.out
          obtain ⟨⟨hxh1, hxh2, hxh3⟩, hxh4⟩ := Bxh_14.out
          go_wp2_with fail
          refine (heldD_any S Bg N dg EX 1 _ _ Owg_14.out.rt.1 Owg_14.out.rt.2 HN2.out (by omega) (by omega)).mono ?_
          rintro e w15 ⟨rfl, hb⟩
          have Bel_15 := Lib.hid (belNext Bel_14.out hb)
          have Sz_15 : Hid (w14.heap.size ≤ w15.heap.size) := Lib.hid hb.size
          have Bxp_15 := Lib.hid (Bxp_14.out.next hb)
          have Bx1_15 := Lib.hid (Bx1_14.out.next hb)
          have Bxe_15 := Lib.hid (Bxe_14.out.next hb)
          have Bxg_15 := Lib.hid (Bxg_14.out.next hb)
          have Bxh_15 := Lib.hid (Bxh_14.out.next hb)
          have Ra1_15 := Lib.hid (Ra1_14.out.next hb)
          have Owe_15 := Lib.hid (Owe_14.out.next hb)
          have Owg_15 := Lib.hid (Owg_14.out.next hb)
          have Owh_15 := Lib.hid (Owh_14.out.next hb)
          clear hb Bel_14 Bxp_14 Bx1_14 Bxe_14 Bxg_14 Bxh_14 Ra1_14 Owe_14 Owg_14 Owh_14 hxp1 hxp2 hxp3 hx11 hx12 hx13 hx14 hxe1 hxe2 hxe3 hxe4 hxg1 hxg2 hxg3 hxg4 hxh1 hxh2 hxh3 hxh4
          obtain ⟨⟨hxp1, hxp2⟩, hxp3⟩ := Bxp_15.out
          obtain ⟨⟨hx11, hx12, hx13⟩, hx14⟩ := Bx1_15.out
          obtain ⟨⟨hxe1, hxe2, hxe3⟩, hxe4⟩ := Bxe_15.out
          obtain ⟨⟨hxg1, hxg2, hxg3⟩, hxg4⟩ := Bxg_15.out
          obtain ⟨⟨hxh1, hxh2, hxh3⟩, hxh4⟩ := Bxh_15.out
          go_wp2_with fail
          go_ret
          exact ⟨rfl, Bel_15.out⟩

/-! the step from the walk to the given statement -/
set_option maxRecDepth 100000 in
theorem lifted (os : Os) (started : os.Started) (H : Type) (enc : TypeId × Value → H) :
    ReturnsInHanded {} Tryd.checked os 7 .any (fun w args => (Rows.fnExactErrorOfPairSpec.pre enc Tryd.prog Tryd.f7 [] false w args ∧ laidMetH Tryd.prog laidL w) ∧ sizedMet enc Tryd.prog Tryd.f7 (OpenSpec.ofChange Rows.fnExactErrorOfPairSpec) false w args) (Rows.fnExactErrorOfPairSpec.post enc Tryd.prog Tryd.f7 false true false false) := by
  refine returnsInHanded_of_change_and (C := Tryd.checked) (X := fun w _ => laidMetH Tryd.prog laidL w) (fun _ _ _ hh h => h.of_heap hh) own started (by kernel_rfl) Tryd.func7
    (ChangeSpec.witness_shaped (enc := enc) (C := Tryd.checked) (os := os) (X := fun w _ => laidMetH Tryd.prog laidL w) false (World.doorLaid Tryd.prog 14 os) #[.agg #[.float .f32 0, .float .f32 0], .agg #[.int .i64 0, .slice none 0 0, .int .i64 0]] 8 rfl (World.shaped_of_RefB (by kernel_rfl) (by kernel_rfl)) (by kernel_rfl) (by kernel_rfl) (by kernel_rfl) (door_met os _)) ?_
  intro W base args ds gs before hval0 hW _ _ hL _
  have hval : ∀ (j : Nat) t v, Tryd.f7.params[j]? = some t → args[j]? = some v → Value.okWide Tryd.prog W .any base t v := hval0
  have hW' := hW
  obtain ⟨p, q, hA0, hV, rfl, hfz, hnd⟩ := hW
  have hA : DataW.TrodAll enc Tryd.prog W 0 (fun _ => true) true Tryd.f7.params.toList args.toList ds p := hA0
  rw [Tryd.params7] at hA hval
  obtain ⟨v0, vs0, d0, ds0, p0, q0, hargs, rfl, rfl, h0, r0⟩ := trodAll_cons hA
  obtain ⟨v1, vs1, d1, ds1, p1, q1, hargs1, rfl, rfl, h1, r1⟩ := trodAll_cons r0
  obtain ⟨rfl, rfl, rfl⟩ := trodAll_nil r1
  obtain rfl : args = #[v0, v1] := by cases args; simp_all
  obtain ⟨rfl, rfl⟩ := trodVars_none hV
  have hc0 := h0
  obtain ⟨x0, y0, rfl, wx0, wy0⟩ := open_pair (hval 0 46 v0 rfl rfl) h0
  have hc1 := h1
  obtain ⟨s1, A1, n1, c1, xs1, E1, rfl, hr1, hl1, hx1⟩ := open_dyadic (hval 1 26 v1 rfl rfl) h1
  clear hA0 hval0
  simp only [List.append_nil] at hW'
  refine (walk x0 y0 s1 A1 n1 c1 xs1 E1 W wx0 wy0 hr1 hl1 hx1 (tabz_of_laid hL)).mono fun e W' ⟨he, hg⟩ => ?_
  subst he
  exact ⟨_, rfl, law_end (pa := _) hW' (by simp) rfl (fun _ _ _ => (trodAll_cons_mk (shut_bool Tryd.underlying4 _) trodAll_mk0)) (fun sp hsp => (trodAll_cons_mk (carryB (by kernel_rfl) (of_decide_eq_true (by kernel_rfl)) hg hc0 (fun x hx => hW'.lt x (by simp [hx])) (fun x hx => hsp x (by simp [hx]))) (trodAll_cons_mk (carryB (by kernel_rfl) (of_decide_eq_true (by kernel_rfl)) hg hc1 (fun x hx => hW'.lt x (by simp [hx])) (fun x hx => hsp x (by simp [hx]))) trodAll_mk0))) rfl
    hg (ok_one (by kernel_rfl) rfl (okWide_bool_mk Tryd.underlying4 _))⟩

theorem row_proved : Rows.FnExactErrorOfPairSaid :=
  OpenClaim.holds_of_wide 7 Tryd.f7 rfl rfl rfl rfl rfl rfl rfl ⟨rfl, rfl, rfl, rfl, rfl⟩ rfl rfl rfl rfl rfl (by kernel_rfl) Tryd.func7 (by kernel_rfl)
    (of_decide_eq_true (by kernel_rfl)) (by unfold Func.isWrapper; first | (rw [if_pos (by decide +kernel)]; kernel_rfl) | (rw [if_neg (by decide +kernel)]; exact ⟨rfl, rfl⟩))
    (fun os started H enc _ => lifted os started H enc)

theorem proved : Rows.FnExactErrorOfPairCardSaid :=
  Claim7.holds_tied_plain_at .later [] [.data] true (true, "ef298af8e9429d058a3b92795f2aa35ea7919098cf63857fd1bcb0290a91013f") true
    row_proved (fun _ h => by cases h) (by kernel_rfl) (fun _ h => by cases h) fnExactErrorOfPair_row_tie rfl ⟨rfl, rfl⟩ (by kernel_rfl) rfl
    (fun f fn hf hfn => by
      obtain rfl : f = 7 := Option.some.inj ((show Tryd.prog.funcNamed "loop.example/g01172/laws.FnExactErrorOfPair" = some 7 by kernel_rfl).symm.trans hf) |>.symm
      obtain rfl : fn = Tryd.f7 := (Option.some.inj (Tryd.func7.symm.trans hfn)).symm
      exact ⟨by kernel_rfl, fun j t ht => by
        rw [Tryd.params7] at ht
        have hm : t ∈ [46, 26] := by simpa using Array.mem_of_getElem? ht
        have hall : ([46, 26].all fun u => !Tryd.prog.wantsStandIn u) = true := by kernel_rfl
        exact (show Tryd.prog.wantsStandIn t = false by simpa using List.all_eq_true.1 hall t hm)⟩)
    (by kernel_rfl)
#print axioms proved
end Go.Proofs.YtnecnbonnidijaaDoor.fnExactErrorOfPair
