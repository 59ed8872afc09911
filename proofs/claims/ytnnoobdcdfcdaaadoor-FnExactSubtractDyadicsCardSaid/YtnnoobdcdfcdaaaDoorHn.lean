/- Sums, differences, comparing of exact numbers, of the model. -/
import Derived.Test.YtnnoobdcdfcdaaaDoorHm
import Derived.Test.YtnnoobdcdfcdaaaDoorSb
namespace Go.Proofs.YtnnoobdcdfcdaaaDoor
set_option maxRecDepth 100000
open Go.RowKit
set_option linter.unusedSimpArgs false
set_option linter.unusedVariables false

theorem specLeftI_any (z S k : Int) (A : Option Addr) (n c : Nat) (w : World) (hz : ZV w z S A n c) (hm : (n : Int) ≤ 4000) (hk0 : 0 ≤ k) (hk : k ≤ 100000) :
    Calls Tryd.prog 90 #[.agg #[.int .i64 S, .slice A n c], .int .i64 k] w fun e w' => ∃ Sr Ar nr cr, e = .returned (.agg #[.int .i64 Sr, .slice Ar nr cr]) ∧ ZO w' w.heap.size w'.heap.size ((2 : Int) ^ k.toNat * z) Sr Ar nr cr ∧ Below w.heap.size w w' := by
  obtain ⟨m, rfl⟩ : ∃ m : Nat, k = m := ⟨k.toNat, by omega⟩
  have h := specLeft_any z S A n c m w hz hm hk
  rw [Int.toNat_natCast]
  exact h
theorem left_len {z k : Int} {n n2 : Nat} (hn : (limbs z.natAbs).length = n) (hk : k ≤ 8000) (e : (limbs ((2 : Int) ^ k.toNat * z).natAbs).length = n2) : n2 ≤ n + 340 := by
  rw [abs_pow_mul] at e
  have := shl_len hn k.toNat
  omega
theorem sum_sg {a b : Int} {n n' : Nat} (hn : (limbs a.natAbs).length = n) (hn' : (limbs b.natAbs).length = n') : (limbs (a + b).natAbs).length ≤ n + n' + 1 := by
  have h := sum_len (sg_sign a) (sg_sign b) hn hn'
  rwa [Int.sign_mul_natAbs, Int.sign_mul_natAbs] at h

set_option maxHeartbeats 4000000 in
theorem specAddD_any (z S E z' S' E' : Int) (A A' : Option Addr) (n c n' c' : Nat) (w : World) (hz : ZV w z S A n c) (hz' : ZV w z' S' A' n' c') (hm : (n : Int) ≤ 1000) (hm' : (n' : Int) ≤ 1000) (h1 : -4000 ≤ E) (h2 : E ≤ 4000) (h3 : -4000 ≤ E') (h4 : E' ≤ 4000) :
    Calls Tryd.prog 66 #[.agg #[.int .i64 S, .slice A n c, .int .i64 E], .agg #[.int .i64 S', .slice A' n' c', .int .i64 E']] w fun e w' => ∃ Sr Ar nr cr, e = .returned (.agg #[.int .i64 Sr, .slice Ar nr cr, .int .i64 (nx (sumZ z E z' E') (min E E'))]) ∧ ZO w' w.heap.size w'.heap.size (nz (sumZ z E z' E')) Sr Ar nr cr ∧ Below w.heap.size w w' := by
  have hst := store_int Tryd.prog
  have hst2 := store_slice Tryd.prog
  obtain ⟨w1, hw1, hb1, hb2, hb3, hb4⟩ := dbox2_res w S S' A A' n n' c c' E E' 34 34 34
  have RsD1 := Lib.hid hb3
  have Hlt : Hid (w.heap.size + 1 + 1 < w1.heap.size) := Lib.hid hb3.2
  have Hz := Lib.hid hz
  have Hz' := Lib.hid hz'
  have Hw := Lib.hid hw1
  have Bx1 := Lib.hid hb1
  have By1 := Lib.hid hb2
  have Bel1 := Lib.hid hb4
  have Hm : Hid ((n : Int) ≤ 1000 ∧ (n' : Int) ≤ 1000) := Lib.hid ⟨hm, hm'⟩
  have HS : Hid (S = z.sign) := Lib.hid hz.1
  have HS' : Hid (S' = z'.sign) := Lib.hid hz'.1
  clear hz hz' hw1 hb1 hb2 hb3 hb4
  by_cases h0 : z = 0
  · have hs0 : S = 0 := (sign_eq_zero HS.out).2 h0
    have H0 := Lib.hid h0
    subst hs0
    clear h0
    go_enter Tryd.func66, Tryd.ntmps66
    go_wp2_with fail
    rw [← Hw.out]
    obtain ⟨⟨hBx0, hBx1, hBx2⟩, hBx3⟩ := Bx1.out
    obtain ⟨⟨hBy0, hBy1, hBy2⟩, hBy3⟩ := By1.out
    obtain ⟨⟨hRsD0, hRsD1, hRsD2, hRsD3, hRsD4, hRsD5⟩, hRsD6⟩ := RsD1.out
    refine (specMakeD_any z' S' E' A' n' c' _ (Hz'.out.next Bel1.out) (by have := Hm.out; omega) (by omega) (by omega)).mono ?_
    rintro e w2 ⟨S9, A9, n9, c9, rfl, hzo, hb⟩
    have Zp2 := Lib.hid hzo
    clear hzo
    have Sz2 := Lib.hid (Below.size hb)
    have Bel2 := Lib.hid (belNext Bel1.out hb)
    have Bx2 := Lib.hid (Bx1.out.next hb)
    have By2 := Lib.hid (By1.out.next hb)
    have RsD2 := Lib.hid (RsD1.out.next hb)
    clear hb Bel1 Bx1 By1 RsD1 hBx0 hBx1 hBx2 hBx3 hBy0 hBy1 hBy2 hBy3 hRsD0 hRsD1 hRsD2 hRsD3 hRsD4 hRsD5 hRsD6
    obtain ⟨⟨hBx0, hBx1, hBx2⟩, hBx3⟩ := Bx2.out
    obtain ⟨⟨hBy0, hBy1, hBy2⟩, hBy3⟩ := By2.out
    obtain ⟨⟨hRsD0, hRsD1, hRsD2, hRsD3, hRsD4, hRsD5⟩, hRsD6⟩ := RsD2.out
    go_wp2_with fail
    refine bodyPost_ret (v := .agg #[.int .i64 S9, .slice A9 n9 c9, .int .i64 (nx z' E')]) (by simp [results, Tryd.results66, go_sem, hRsD0, hRsD1, hRsD2]) rfl ⟨S9, A9, n9, c9, by rw [H0.out, sum_zero_left.2], ?_, ?_⟩
    · rw [H0.out, sum_zero_left.1]; exact (((Zp2.out.setCell (.inl (by have zz0 := Hlt.out; have zz1 := Sz2.out; first | omega | (simp; done) | (simp; omega))) _).setCell (.inl (by have zz0 := Hlt.out; have zz1 := Sz2.out; first | omega | (simp; done) | (simp; omega))) _).setCell (.inl (by have zz0 := Hlt.out; have zz1 := Sz2.out; first | omega | (simp; done) | (simp; omega))) _).wide (by have zz0 := Hlt.out; have zz1 := Sz2.out; first | omega | (simp; done) | (simp; omega)) (by have zz0 := Hlt.out; have zz1 := Sz2.out; first | omega | (simp; done) | (simp; omega)) (by have zz0 := Hlt.out; have zz1 := Sz2.out; first | omega | (simp; done) | (simp; omega))
    · exact ((Bel2.out.setCell (by have zz0 := Hlt.out; have zz1 := Sz2.out; first | omega | (simp; done) | (simp; omega)) _).setCell (by have zz0 := Hlt.out; have zz1 := Sz2.out; first | omega | (simp; done) | (simp; omega)) _).setCell (by have zz0 := Hlt.out; have zz1 := Sz2.out; first | omega | (simp; done) | (simp; omega)) _
  · have hs0 : (S == 0) = false := beq_false_of_ne (fun e => h0 ((sign_eq_zero HS.out).1 e))
    clear h0
    by_cases h0' : z' = 0
    · have hs0' : S' = 0 := (sign_eq_zero HS'.out).2 h0'
      have H0 := Lib.hid h0'
      subst hs0'
      clear h0'
      go_enter Tryd.func66, Tryd.ntmps66
      go_wp2_with fail
      rw [← Hw.out]
      obtain ⟨⟨hBx0, hBx1, hBx2⟩, hBx3⟩ := Bx1.out
      obtain ⟨⟨hBy0, hBy1, hBy2⟩, hBy3⟩ := By1.out
      obtain ⟨⟨hRsD0, hRsD1, hRsD2, hRsD3, hRsD4, hRsD5⟩, hRsD6⟩ := RsD1.out
      refine (specMakeD_any z S E A n c _ (Hz.out.next Bel1.out) (by have := Hm.out; omega) (by omega) (by omega)).mono ?_
      rintro e w2 ⟨S9, A9, n9, c9, rfl, hzo, hb⟩
      have Zp2 := Lib.hid hzo
      clear hzo
      have Sz2 := Lib.hid (Below.size hb)
      have Bel2 := Lib.hid (belNext Bel1.out hb)
      have Bx2 := Lib.hid (Bx1.out.next hb)
      have By2 := Lib.hid (By1.out.next hb)
      have RsD2 := Lib.hid (RsD1.out.next hb)
      clear hb Bel1 Bx1 By1 RsD1 hBx0 hBx1 hBx2 hBx3 hBy0 hBy1 hBy2 hBy3 hRsD0 hRsD1 hRsD2 hRsD3 hRsD4 hRsD5 hRsD6
      obtain ⟨⟨hBx0, hBx1, hBx2⟩, hBx3⟩ := Bx2.out
      obtain ⟨⟨hBy0, hBy1, hBy2⟩, hBy3⟩ := By2.out
      obtain ⟨⟨hRsD0, hRsD1, hRsD2, hRsD3, hRsD4, hRsD5⟩, hRsD6⟩ := RsD2.out
      go_wp2_with fail
      refine bodyPost_ret (v := .agg #[.int .i64 S9, .slice A9 n9 c9, .int .i64 (nx z E)]) (by simp [results, Tryd.results66, go_sem, hRsD0, hRsD1, hRsD2]) rfl ⟨S9, A9, n9, c9, by rw [H0.out, sum_zero_right.2], ?_, ?_⟩
      · rw [H0.out, sum_zero_right.1]; exact (((Zp2.out.setCell (.inl (by have zz0 := Hlt.out; have zz1 := Sz2.out; first | omega | (simp; done) | (simp; omega))) _).setCell (.inl (by have zz0 := Hlt.out; have zz1 := Sz2.out; first | omega | (simp; done) | (simp; omega))) _).setCell (.inl (by have zz0 := Hlt.out; have zz1 := Sz2.out; first | omega | (simp; done) | (simp; omega))) _).wide (by have zz0 := Hlt.out; have zz1 := Sz2.out; first | omega | (simp; done) | (simp; omega)) (by have zz0 := Hlt.out; have zz1 := Sz2.out; first | omega | (simp; done) | (simp; omega)) (by have zz0 := Hlt.out; have zz1 := Sz2.out; first | omega | (simp; done) | (simp; omega))
      · exact ((Bel2.out.setCell (by have zz0 := Hlt.out; have zz1 := Sz2.out; first | omega | (simp; done) | (simp; omega)) _).setCell (by have zz0 := Hlt.out; have zz1 := Sz2.out; first | omega | (simp; done) | (simp; omega)) _).setCell (by have zz0 := Hlt.out; have zz1 := Sz2.out; first | omega | (simp; done) | (simp; omega)) _
    · have hs0' : (S' == 0) = false := beq_false_of_ne (fun e => h0' ((sign_eq_zero HS'.out).1 e))
      clear h0'
      obtain ⟨mn, hmn⟩ : ∃ mn, mn = min E E' := ⟨_, rfl⟩
      have hm1 : mn ≤ E := by rw [hmn]; exact Int.min_le_left _ _
      have hm2 : mn ≤ E' := by rw [hmn]; exact Int.min_le_right _ _
      have hm3 : -4000 ≤ mn := by rw [hmn]; omega
      have Hmn := Lib.hid hmn
      clear hmn
      have hwr1 : IntKind.i64.wrap (E - mn) = E - mn := IntWalk.i64_in _ (by omega)
      have hwr2 : IntKind.i64.wrap (E' - mn) = E' - mn := IntWalk.i64_in _ (by omega)
      go_enter Tryd.func66, Tryd.ntmps66
      go_wp2_with fail
      rw [← Hw.out]
      rw [← Hmn.out]
      refine wp_region_held_drew (S := fun w' => (w'.cell? ⟨w.heap.size, 0, none⟩ = some (.int .i64 S) ∧ w'.cell? ⟨w.heap.size, 1, none⟩ = some (.slice A n c) ∧ w'.cell? ⟨w.heap.size, 2, none⟩ = some (.int .i64 E)) ∧ (w'.cell? ⟨w.heap.size + 1, 0, none⟩ = some (.int .i64 S') ∧ w'.cell? ⟨w.heap.size + 1, 1, none⟩ = some (.slice A' n' c') ∧ w'.cell? ⟨w.heap.size + 1, 2, none⟩ = some (.int .i64 E'))) (by kernel_rfl) ⟨Bx1.out.1, By1.out.1⟩ (fun hHeld => ?_)
      refine wpAnyH_take (i := 0) (v := ?_) rfl (by kernel_rfl) (by kernel_rfl) (by kernel_rfl) (fun _ _ _ h => h) (Or.inl ⟨by rfl, ?_⟩) (by assumption) ?_
      rotate_left
      · (intro w hSw; (try dsimp only at hSw); go_simp; (try with_reducible rfl))
      try simp only [Act.put, List.setIfInBounds_toArray, List.set_cons_zero, List.set_cons_succ]
      refine wpAnyH_take (i := 1) (v := ?_) rfl (by kernel_rfl) (by kernel_rfl) (by kernel_rfl) (fun _ _ _ h => h) (Or.inl ⟨by rfl, ?_⟩) (by assumption) ?_
      rotate_left
      · (intro w hSw; (try dsimp only at hSw); go_simp; (try with_reducible rfl))
      try simp only [Act.put, List.setIfInBounds_toArray, List.set_cons_zero, List.set_cons_succ]
      refine wpAnyH_take (i := 2) (v := ?_) rfl (by kernel_rfl) (by kernel_rfl) (by kernel_rfl) (fun _ _ _ h => h) (Or.inl ⟨by rfl, ?_⟩) (by assumption) ?_
      rotate_left
      · (intro w hSw; (try dsimp only at hSw); go_simp; (try with_reducible rfl))
      try simp only [Act.put, List.setIfInBounds_toArray, List.set_cons_zero, List.set_cons_succ]
      refine wpAnyH_take (i := 3) (v := ?_) rfl (by kernel_rfl) (by kernel_rfl) (by kernel_rfl) (fun _ _ _ h => h) (Or.inl ⟨by rfl, ?_⟩) (by assumption) ?_
      rotate_left
      · (intro w hSw; (try dsimp only at hSw); go_simp; (try with_reducible rfl))
      try simp only [Act.put, List.setIfInBounds_toArray, List.set_cons_zero, List.set_cons_succ]
      refine wpAnyH_take (i := 4) (v := ?_) rfl (by kernel_rfl) (by kernel_rfl) (by kernel_rfl) (fun _ _ _ h => h) (Or.inl ⟨by rfl, ?_⟩) (by assumption) ?_
      rotate_left
      · (intro w hSw; (try dsimp only at hSw); go_simp; (try with_reducible rfl))
      try simp only [Act.put, List.setIfInBounds_toArray, List.set_cons_zero, List.set_cons_succ]
      refine wpAnyH_take (i := 5) (v := ?_) rfl (by kernel_rfl) (by kernel_rfl) (by kernel_rfl) (fun _ _ _ h => h) (Or.inl ⟨by rfl, ?_⟩) (by assumption) ?_
      rotate_left
      · (intro w hSw; (try dsimp only at hSw); go_simp; (try with_reducible rfl))
      try simp only [Act.put, List.setIfInBounds_toArray, List.set_cons_zero, List.set_cons_succ]
      refine wpAnyH_take (i := 7) (v := ?_) rfl (by kernel_rfl) (by kernel_rfl) (by kernel_rfl) (fun _ _ _ h => h) (Or.inl ⟨by rfl, ?_⟩) (by assumption) ?_
      rotate_left
      · (intro w hSw; (try dsimp only at hSw); go_simp; (try with_reducible rfl))
      try simp only [Act.put, List.setIfInBounds_toArray, List.set_cons_zero, List.set_cons_succ]
      refine wpAnyH_take (i := 8) (v := ?_) rfl (by kernel_rfl) (by kernel_rfl) (by kernel_rfl) (fun _ _ _ h => h) (Or.inl ⟨by rfl, ?_⟩) (by assumption) ?_
      rotate_left
      · (intro w hSw; (try dsimp only at hSw); go_simp; (try with_reducible rfl))
      try simp only [Act.put, List.setIfInBounds_toArray, List.set_cons_zero, List.set_cons_succ]
      refine wpAnyH_take (i := 9) (v := ?_) rfl (by kernel_rfl) (by kernel_rfl) (by kernel_rfl) (fun _ _ _ h => h) (Or.inl ⟨by rfl, ?_⟩) (by assumption) ?_
      rotate_left
      · (intro w hSw; (try dsimp only at hSw); go_simp; (try with_reducible rfl))
      try simp only [Act.put, List.setIfInBounds_toArray, List.set_cons_zero, List.set_cons_succ]
      refine wpAnyH_take (i := 10) (v := ?_) rfl (by kernel_rfl) (by kernel_rfl) (by kernel_rfl) (fun _ _ _ h => h) (Or.inl ⟨by rfl, ?_⟩) (by assumption) ?_
      rotate_left
      · (intro w hSw; (try dsimp only at hSw); go_simp; (try with_reducible rfl))
      try simp only [Act.put, List.setIfInBounds_toArray, List.set_cons_zero, List.set_cons_succ]
      refine wpAnyH_take (i := 11) (v := ?_) rfl (by kernel_rfl) (by kernel_rfl) (by kernel_rfl) (fun _ _ _ h => h) (Or.inl ⟨by rfl, ?_⟩) (by assumption) ?_
      rotate_left
      · (intro w hSw; (try dsimp only at hSw); go_simp; (try with_reducible rfl))
      try simp only [Act.put, List.setIfInBounds_toArray, List.set_cons_zero, List.set_cons_succ]
      refine wpAnyH_take (i := 12) (v := ?_) rfl (by kernel_rfl) (by kernel_rfl) (by kernel_rfl) (fun _ _ _ h => h) (Or.inl ⟨by rfl, ?_⟩) (by assumption) ?_
      rotate_left
      · (intro w hSw; (try dsimp only at hSw); go_simp; (try with_reducible rfl))
      try simp only [Act.put, List.setIfInBounds_toArray, List.set_cons_zero, List.set_cons_succ]
      refine wpAnyH_take (i := 15) (v := ?_) rfl (by kernel_rfl) (by kernel_rfl) (by kernel_rfl) (fun _ _ _ h => h) (Or.inl ⟨by rfl, ?_⟩) (by assumption) ?_
      rotate_left
      · (intro w hSw; (try dsimp only at hSw); go_simp; (try with_reducible rfl))
      try simp only [Act.put, List.setIfInBounds_toArray, List.set_cons_zero, List.set_cons_succ]
      refine wpAnyH_ready (rs := [6]) (by kernel_rfl) (by simp) ?_
      refine AllReadyH.cons rfl (fun K hK => ?_) AllReadyH.nil
      go_simp
      refine (specLeftI_any z S (E - mn) A n c w1.drew (Hz.out.next Bel1.out).drew (by have := Hm.out; omega) (by omega) (by omega)).mono ?_
      rintro e w2 ⟨S2, A2, n2, c2, rfl, hzo, hb0⟩
      have hb : Below w1.heap.size w1 w2 := belDrew hb0
      have Zo2 := Lib.hid hzo
      have Hn2 : Hid ((n2 : Int) ≤ 1400) := Lib.hid (by have h := left_len Hz.out.2.1 (by omega) hzo.2.1; have := Hm.out; omega)
      clear hzo
      refine hK.out _ _ ⟨(Bx1.out.next hb).1, (By1.out.next hb).1⟩ (fun hHeld => ?_)
      clear hK K hb0
      have Sz2 := Lib.hid (Below.size hb)
      have Bel2 := Lib.hid (belNext Bel1.out hb)
      have Bx2 := Lib.hid (Bx1.out.next hb)
      have By2 := Lib.hid (By1.out.next hb)
      have RsD2 := Lib.hid (RsD1.out.next hb)
      clear hb Bel1 Bx1 By1 RsD1
      try simp only [Act.put, List.setIfInBounds_toArray, List.set_cons_zero, List.set_cons_succ]
      refine wpAnyH_ready (rs := [13]) (by kernel_rfl) (by simp) ?_
      refine AllReadyH.cons rfl (fun K hK => ?_) AllReadyH.nil
      go_simp
      refine (specLeftI_any z' S' (E' - mn) A' n' c' w2 (Hz'.out.next Bel2.out) (by have := Hm.out; omega) (by omega) (by omega)).mono ?_
      rintro e w3 ⟨S3, A3, n3, c3, rfl, hzo, hb0⟩
      have hb : Below w2.heap.size w2 w3 := hb0
      have Zq3 := Lib.hid hzo
      have Hn3 : Hid ((n3 : Int) ≤ 1400) := Lib.hid (by have h := left_len Hz'.out.2.1 (by omega) hzo.2.1; have := Hm.out; omega)
      clear hzo
      refine hK.out _ _ ⟨(Bx2.out.next hb).1, (By2.out.next hb).1⟩ (fun hHeld => ?_)
      clear hK K hb0
      have Sz3 := Lib.hid (Below.size hb)
      have Bel3 := Lib.hid (belNext Bel2.out hb)
      have Bx3 := Lib.hid (Bx2.out.next hb)
      have By3 := Lib.hid (By2.out.next hb)
      have RsD3 := Lib.hid (RsD2.out.next hb)
      have Zo3 := Lib.hid (Zo2.out.next hb)
      clear hb Bel2 Bx2 By2 RsD2 Zo2
      try simp only [Act.put, List.setIfInBounds_toArray, List.set_cons_zero, List.set_cons_succ]
      refine wpAnyH_ready (rs := [14]) (by kernel_rfl) (by simp) ?_
      refine AllReadyH.cons rfl (fun K hK => ?_) AllReadyH.nil
      go_simp
      refine (specAdd_any S2 S3 ((2 : Int) ^ (E - mn).toNat * z).natAbs ((2 : Int) ^ (E' - mn).toNat * z').natAbs A2 A3 n2 n3 c2 c3 w3 Zo3.out.zv.sg Zq3.out.zv.sg Zo3.out.zv.rd Zq3.out.zv.rd Zo3.out.2.1 Zq3.out.2.1 (by have := Hn2.out; omega) (by have := Hn3.out; omega) Zo3.out.zv.cap Zq3.out.zv.cap).mono ?_
      rintro e w4 ⟨val, rfl, hv, hb0⟩
      have hb : Below w3.heap.size w3 w4 := hb0
      obtain ⟨S8, A8, n8, c8, rfl, hzo⟩ := Wz.zo (hv.cast_ (z' := sumZ z E z' E') (by rw [Zo3.out.zv.val, Zq3.out.zv.val]; unfold sumZ; rw [← Hmn.out])) (Nat.le_refl _)
      have Zr4 := Lib.hid hzo
      have Hn8 : Hid ((n8 : Int) ≤ 4000) := Lib.hid (by have h := sum_sg Zo3.out.2.1 Zq3.out.2.1; have e := hzo.2.1; unfold sumZ at e; rw [← Hmn.out] at e; rw [e] at h; have := Hn2.out; have := Hn3.out; omega)
      clear hv hzo
      refine hK.out _ _ ⟨(Bx3.out.next hb).1, (By3.out.next hb).1⟩ (fun hHeld => ?_)
      clear hK K hb0
      have Sz4 := Lib.hid (Below.size hb)
      have Bel4 := Lib.hid (belNext Bel3.out hb)
      have Bx4 := Lib.hid (Bx3.out.next hb)
      have By4 := Lib.hid (By3.out.next hb)
      have RsD4 := Lib.hid (RsD3.out.next hb)
      have Zo4 := Lib.hid (Zo3.out.next hb)
      clear hb Bel3 Bx3 By3 RsD3 Zo3
      try simp only [Act.put, List.setIfInBounds_toArray, List.set_cons_zero, List.set_cons_succ]
      refine wpAnyH_ready (rs := [16]) (by kernel_rfl) (by simp) ?_
      refine AllReadyH.cons rfl (fun K hK => ?_) AllReadyH.nil
      go_simp
      refine (specMakeD_any (sumZ z E z' E') S8 mn A8 n8 c8 w4 Zr4.out.zv Hn8.out (by omega) (by omega)).mono ?_
      rintro e w5 ⟨S9, A9, n9, c9, rfl, hzo, hb0⟩
      have hb : Below w4.heap.size w4 w5 := hb0
      have Zp5 := Lib.hid hzo
      clear hzo
      refine hK.out _ _ ⟨(Bx4.out.next hb).1, (By4.out.next hb).1⟩ (fun hHeld => ?_)
      clear hK K hb0
      have Sz5 := Lib.hid (Below.size hb)
      have Bel5 := Lib.hid (belNext Bel4.out hb)
      have Bx5 := Lib.hid (Bx4.out.next hb)
      have By5 := Lib.hid (By4.out.next hb)
      have RsD5 := Lib.hid (RsD4.out.next hb)
      have Zo5 := Lib.hid (Zo4.out.next hb)
      clear hb Bel4 Bx4 By4 RsD4 Zo4
      try simp only [Act.put, List.setIfInBounds_toArray, List.set_cons_zero, List.set_cons_succ]
      obtain ⟨⟨hRsD0, hRsD1, hRsD2, hRsD3, hRsD4, hRsD5⟩, hRsD6⟩ := RsD5.out
      refine wpAnyH_ready (rs := [17]) (by kernel_rfl) (by simp) ?_
      refine AllReadyH.cons rfl (fun K hK => ?_) AllReadyH.nil
      go_simp
      refine hK.out _ _ ⟨(((Bx5.out.keep (by have zz0 := Hlt.out; have zz1 := Sz2.out; have zz2 := Sz3.out; have zz3 := Sz4.out; have zz4 := Sz5.out; first | omega | (simp; done) | (simp; omega)) _).keep (by have zz0 := Hlt.out; have zz1 := Sz2.out; have zz2 := Sz3.out; have zz3 := Sz4.out; have zz4 := Sz5.out; first | omega | (simp; done) | (simp; omega)) _).keep (by have zz0 := Hlt.out; have zz1 := Sz2.out; have zz2 := Sz3.out; have zz3 := Sz4.out; have zz4 := Sz5.out; first | omega | (simp; done) | (simp; omega)) _).1, (((By5.out.keep (by have zz0 := Hlt.out; have zz1 := Sz2.out; have zz2 := Sz3.out; have zz3 := Sz4.out; have zz4 := Sz5.out; first | omega | (simp; done) | (simp; omega)) _).keep (by have zz0 := Hlt.out; have zz1 := Sz2.out; have zz2 := Sz3.out; have zz3 := Sz4.out; have zz4 := Sz5.out; first | omega | (simp; done) | (simp; omega)) _).keep (by have zz0 := Hlt.out; have zz1 := Sz2.out; have zz2 := Sz3.out; have zz3 := Sz4.out; have zz4 := Sz5.out; first | omega | (simp; done) | (simp; omega)) _).1⟩ (fun hHeld => ?_)
      clear hK K hHeld
      try simp only [Act.put, List.setIfInBounds_toArray, List.set_cons_zero, List.set_cons_succ]
      refine wpAnyH_done (by kernel_rfl) ?_ _
      go_wp2_with fail
      refine bodyPost_ret (v := .agg #[.int .i64 S9, .slice A9 n9 c9, .int .i64 (nx (sumZ z E z' E') mn)]) (by simp [results, Tryd.results66, go_sem, hRsD0, hRsD1, hRsD2]) rfl ⟨S9, A9, n9, c9, by rw [← Hmn.out], ?_, ?_⟩
      · exact (((Zp5.out.setCell (.inl (by have zz0 := Hlt.out; have zz1 := Sz2.out; have zz2 := Sz3.out; have zz3 := Sz4.out; have zz4 := Sz5.out; first | omega | (simp; done) | (simp; omega))) _).setCell (.inl (by have zz0 := Hlt.out; have zz1 := Sz2.out; have zz2 := Sz3.out; have zz3 := Sz4.out; have zz4 := Sz5.out; first | omega | (simp; done) | (simp; omega))) _).setCell (.inl (by have zz0 := Hlt.out; have zz1 := Sz2.out; have zz2 := Sz3.out; have zz3 := Sz4.out; have zz4 := Sz5.out; first | omega | (simp; done) | (simp; omega))) _).wide (by have zz0 := Hlt.out; have zz1 := Sz2.out; have zz2 := Sz3.out; have zz3 := Sz4.out; have zz4 := Sz5.out; first | omega | (simp; done) | (simp; omega)) (by have zz0 := Hlt.out; have zz1 := Sz2.out; have zz2 := Sz3.out; have zz3 := Sz4.out; have zz4 := Sz5.out; first | omega | (simp; done) | (simp; omega)) (by have zz0 := Hlt.out; have zz1 := Sz2.out; have zz2 := Sz3.out; have zz3 := Sz4.out; have zz4 := Sz5.out; first | omega | (simp; done) | (simp; omega))
      · exact ((Bel5.out.setCell (by have zz0 := Hlt.out; have zz1 := Sz2.out; have zz2 := Sz3.out; have zz3 := Sz4.out; have zz4 := Sz5.out; first | omega | (simp; done) | (simp; omega)) _).setCell (by have zz0 := Hlt.out; have zz1 := Sz2.out; have zz2 := Sz3.out; have zz3 := Sz4.out; have zz4 := Sz5.out; first | omega | (simp; done) | (simp; omega)) _).setCell (by have zz0 := Hlt.out; have zz1 := Sz2.out; have zz2 := Sz3.out; have zz3 := Sz4.out; have zz4 := Sz5.out; first | omega | (simp; done) | (simp; omega)) _

set_option maxHeartbeats 4000000 in
theorem specSubD_any (z S E z' S' E' : Int) (A A' : Option Addr) (n c n' c' : Nat) (w : World) (hz : ZV w z S A n c) (hz' : ZV w z' S' A' n' c') (hm : (n : Int) ≤ 1000) (hm' : (n' : Int) ≤ 1000) (h1 : -4000 ≤ E) (h2 : E ≤ 4000) (h3 : -4000 ≤ E') (h4 : E' ≤ 4000) :
    Calls Tryd.prog 69 #[.agg #[.int .i64 S, .slice A n c, .int .i64 E], .agg #[.int .i64 S', .slice A' n' c', .int .i64 E']] w fun e w' => ∃ Sr Ar nr cr, e = .returned (.agg #[.int .i64 Sr, .slice Ar nr cr, .int .i64 (nx (sumZ z E (-z') E') (min E E'))]) ∧ ZO w' w.heap.size w'.heap.size (nz (sumZ z E (-z') E')) Sr Ar nr cr ∧ Below w.heap.size w w' := by
  have hst := store_int Tryd.prog
  have hst2 := store_slice Tryd.prog
  obtain ⟨w1, hw1, hb1, hb2, hb3, hb4⟩ := dbox2_res w S S' A A' n n' c c' E E' 34 34 34
  have RsD1 := Lib.hid hb3
  have Hlt : Hid (w.heap.size + 1 + 1 < w1.heap.size) := Lib.hid hb3.2
  have Hz := Lib.hid hz
  have Hz' := Lib.hid hz'
  have Hw := Lib.hid hw1
  have Bx1 := Lib.hid hb1
  have By1 := Lib.hid hb2
  have Bel1 := Lib.hid hb4
  have Hm : Hid ((n : Int) ≤ 1000 ∧ (n' : Int) ≤ 1000) := Lib.hid ⟨hm, hm'⟩
  have HS : Hid (S = z.sign) := Lib.hid hz.1
  have HS' : Hid (S' = z'.sign) := Lib.hid hz'.1
  clear hz hz' hw1 hb1 hb2 hb3 hb4
  go_enter Tryd.func69, Tryd.ntmps69
  go_wp2_with fail
  rw [← Hw.out]
  refine wp_region_held_drew (S := fun w' => (w'.cell? ⟨w.heap.size, 0, none⟩ = some (.int .i64 S) ∧ w'.cell? ⟨w.heap.size, 1, none⟩ = some (.slice A n c) ∧ w'.cell? ⟨w.heap.size, 2, none⟩ = some (.int .i64 E)) ∧ (w'.cell? ⟨w.heap.size + 1, 0, none⟩ = some (.int .i64 S') ∧ w'.cell? ⟨w.heap.size + 1, 1, none⟩ = some (.slice A' n' c') ∧ w'.cell? ⟨w.heap.size + 1, 2, none⟩ = some (.int .i64 E'))) (by kernel_rfl) ⟨Bx1.out.1, By1.out.1⟩ (fun hHeld => ?_)
  refine wpAnyH_take (i := 0) (v := ?_) rfl (by kernel_rfl) (by kernel_rfl) (by kernel_rfl) (fun _ _ _ h => h) (Or.inl ⟨by rfl, ?_⟩) (by assumption) ?_
  rotate_left
  · (intro w hSw; (try dsimp only at hSw); go_simp; (try with_reducible rfl))
  try simp only [Act.put, List.setIfInBounds_toArray, List.set_cons_zero, List.set_cons_succ]
  refine wpAnyH_take (i := 1) (v := ?_) rfl (by kernel_rfl) (by kernel_rfl) (by kernel_rfl) (fun _ _ _ h => h) (Or.inl ⟨by rfl, ?_⟩) (by assumption) ?_
  rotate_left
  · (intro w hSw; (try dsimp only at hSw); go_simp; (try with_reducible rfl))
  try simp only [Act.put, List.setIfInBounds_toArray, List.set_cons_zero, List.set_cons_succ]
  refine wpAnyH_ready (rs := [2]) (by kernel_rfl) (by simp) ?_
  refine AllReadyH.cons rfl (fun K hK => ?_) AllReadyH.nil
  go_simp
  refine (specNegD_any z' S' E' A' n' c' w1.drew (Hz'.out.next Bel1.out).drew (by have := Hm.out; omega)).mono ?_
  rintro e w2 ⟨S2, A2, n2, c2, rfl, hzo, hb0⟩
  have hb : Below w1.heap.size w1 w2 := belDrew hb0
  have Zo2 := Lib.hid hzo
  have Hn2 : Hid ((n2 : Int) ≤ 1000) := Lib.hid (by have e := hzo.2.1; rw [Int.natAbs_neg, Hz'.out.2.1] at e; have := Hm.out; omega)
  clear hzo
  refine hK.out _ _ ⟨(Bx1.out.next hb).1, (By1.out.next hb).1⟩ (fun hHeld => ?_)
  clear hK K hb0
  have Sz2 := Lib.hid (Below.size hb)
  have Bel2 := Lib.hid (belNext Bel1.out hb)
  have Bx2 := Lib.hid (Bx1.out.next hb)
  have By2 := Lib.hid (By1.out.next hb)
  have RsD2 := Lib.hid (RsD1.out.next hb)
  clear hb Bel1 Bx1 By1 RsD1
  try simp only [Act.put, List.setIfInBounds_toArray, List.set_cons_zero, List.set_cons_succ]
  refine wpAnyH_ready (rs := [3]) (by kernel_rfl) (by simp) ?_
  refine AllReadyH.cons rfl (fun K hK => ?_) AllReadyH.nil
  go_simp
  refine (specAddD_any z S E (-z') S2 E' A A2 n c n2 c2 w2 (Hz.out.next Bel2.out) Zo2.out.zv Hm.out.1 Hn2.out h1 h2 h3 h4).mono ?_
  rintro e w3 ⟨S9, A9, n9, c9, rfl, hzo, hb0⟩
  have hb : Below w2.heap.size w2 w3 := hb0
  have Zp3 := Lib.hid hzo
  clear hzo
  refine hK.out _ _ ⟨(Bx2.out.next hb).1, (By2.out.next hb).1⟩ (fun hHeld => ?_)
  clear hK K hb0
  have Sz3 := Lib.hid (Below.size hb)
  have Bel3 := Lib.hid (belNext Bel2.out hb)
  have Bx3 := Lib.hid (Bx2.out.next hb)
  have By3 := Lib.hid (By2.out.next hb)
  have RsD3 := Lib.hid (RsD2.out.next hb)
  clear hb Bel2 Bx2 By2 RsD2
  try simp only [Act.put, List.setIfInBounds_toArray, List.set_cons_zero, List.set_cons_succ]
  obtain ⟨⟨hRsD0, hRsD1, hRsD2, hRsD3, hRsD4, hRsD5⟩, hRsD6⟩ := RsD3.out
  refine wpAnyH_ready (rs := [4]) (by kernel_rfl) (by simp) ?_
  refine AllReadyH.cons rfl (fun K hK => ?_) AllReadyH.nil
  go_simp
  refine hK.out _ _ ⟨(((Bx3.out.keep (by have zz0 := Hlt.out; have zz1 := Sz2.out; have zz2 := Sz3.out; first | omega | (simp; done) | (simp; omega)) _).keep (by have zz0 := Hlt.out; have zz1 := Sz2.out; have zz2 := Sz3.out; first | omega | (simp; done) | (simp; omega)) _).keep (by have zz0 := Hlt.out; have zz1 := Sz2.out; have zz2 := Sz3.out; first | omega | (simp; done) | (simp; omega)) _).1, (((By3.out.keep (by have zz0 := Hlt.out; have zz1 := Sz2.out; have zz2 := Sz3.out; first | omega | (simp; done) | (simp; omega)) _).keep (by have zz0 := Hlt.out; have zz1 := Sz2.out; have zz2 := Sz3.out; first | omega | (simp; done) | (simp; omega)) _).keep (by have zz0 := Hlt.out; have zz1 := Sz2.out; have zz2 := Sz3.out; first | omega | (simp; done) | (simp; omega)) _).1⟩ (fun hHeld => ?_)
  clear hK K hHeld
  try simp only [Act.put, List.setIfInBounds_toArray, List.set_cons_zero, List.set_cons_succ]
  refine wpAnyH_done (by kernel_rfl) ?_ _
  go_wp2_with fail
  refine bodyPost_ret (v := .agg #[.int .i64 S9, .slice A9 n9 c9, .int .i64 (nx (sumZ z E (-z') E') (min E E'))]) (by simp [results, Tryd.results69, go_sem, hRsD0, hRsD1, hRsD2]) rfl ⟨S9, A9, n9, c9, rfl, ?_, ?_⟩
  · exact (((Zp3.out.setCell (.inl (by have zz0 := Hlt.out; have zz1 := Sz2.out; have zz2 := Sz3.out; first | omega | (simp; done) | (simp; omega))) _).setCell (.inl (by have zz0 := Hlt.out; have zz1 := Sz2.out; have zz2 := Sz3.out; first | omega | (simp; done) | (simp; omega))) _).setCell (.inl (by have zz0 := Hlt.out; have zz1 := Sz2.out; have zz2 := Sz3.out; first | omega | (simp; done) | (simp; omega))) _).wide (by have zz0 := Hlt.out; have zz1 := Sz2.out; have zz2 := Sz3.out; first | omega | (simp; done) | (simp; omega)) (by have zz0 := Hlt.out; have zz1 := Sz2.out; have zz2 := Sz3.out; first | omega | (simp; done) | (simp; omega)) (by have zz0 := Hlt.out; have zz1 := Sz2.out; have zz2 := Sz3.out; first | omega | (simp; done) | (simp; omega))
  · exact ((Bel3.out.setCell (by have zz0 := Hlt.out; have zz1 := Sz2.out; have zz2 := Sz3.out; first | omega | (simp; done) | (simp; omega)) _).setCell (by have zz0 := Hlt.out; have zz1 := Sz2.out; have zz2 := Sz3.out; first | omega | (simp; done) | (simp; omega)) _).setCell (by have zz0 := Hlt.out; have zz1 := Sz2.out; have zz2 := Sz3.out; first | omega | (simp; done) | (simp; omega)) _

set_option maxHeartbeats 4000000 in
theorem specCmpD_any (z S E z' S' E' : Int) (A A' : Option Addr) (n c n' c' : Nat) (w : World) (hz : ZV w z S A n c) (hz' : ZV w z' S' A' n' c') (hm : (n : Int) ≤ 1000) (hm' : (n' : Int) ≤ 1000) (h1 : -4000 ≤ E) (h2 : E ≤ 4000) (h3 : -4000 ≤ E') (h4 : E' ≤ 4000) :
    Calls Tryd.prog 73 #[.agg #[.int .i64 S, .slice A n c, .int .i64 E], .agg #[.int .i64 S', .slice A' n' c', .int .i64 E']] w fun e w' => e = .returned (.int .i64 (sumZ z E (-z') E').sign) ∧ Below w.heap.size w w' := by
  have hst := store_int Tryd.prog
  have hst2 := store_slice Tryd.prog
  obtain ⟨w1, hw1, hb1, hb2, hb4⟩ := dbox2 w S S' A A' n n' c c' E E' 34 34
  have Hlt : Hid (w.heap.size + 1 < w1.heap.size) := Lib.hid hb2.2
  have Zv1 := Lib.hid (hz.next hb4)
  have Zw1 := Lib.hid (hz'.next hb4)
  have Hw := Lib.hid hw1
  have Bx1 := Lib.hid hb1
  have By1 := Lib.hid hb2
  have Bel1 := Lib.hid hb4
  have Hn : Hid ((limbs z.natAbs).length = n) := Lib.hid hz.2.1
  have Hn' : Hid ((limbs z'.natAbs).length = n') := Lib.hid hz'.2.1
  have Hm : Hid ((n : Int) ≤ 1000 ∧ (n' : Int) ≤ 1000) := Lib.hid ⟨hm, hm'⟩
  clear hz hz' hw1 hb1 hb2 hb4
  go_enter Tryd.func73, Tryd.ntmps73
  go_wp2_with fail
  rw [← Hw.out]
  obtain ⟨⟨hBx0, hBx1, hBx2⟩, hBx3⟩ := Bx1.out
  obtain ⟨⟨hBy0, hBy1, hBy2⟩, hBy3⟩ := By1.out
  refine (specSubD_any z S E z' S' E' A A' n c n' c' _ Zv1.out Zw1.out Hm.out.1 Hm.out.2 h1 h2 h3 h4).mono ?_
  rintro e w2 ⟨S9, A9, n9, c9, rfl, hzo, hb⟩
  have Hs9 : Hid (S9 = (sumZ z E (-z') E').sign) := Lib.hid (hzo.1.trans (nz_facts _).1)
  clear hzo
  obtain ⟨X, hX⟩ : ∃ X, X = nx (sumZ z E (-z') E') (min E E') := ⟨_, rfl⟩
  rw [← hX]
  clear hX
  have hf1 : ∀ w, (Instr.field 34 (.agg #[.int .i64 S9, .slice A9 n9 c9, .int .i64 X]) 0).run Tryd.prog w = .ok (.agg #[.int .i64 S9, .slice A9 n9 c9]) w := fun _ => by kernel_rfl
  have hf2 : ∀ w, (Instr.field 26 (.agg #[.int .i64 S9, .slice A9 n9 c9]) 0).run Tryd.prog w = .ok (.int .i64 S9) w := fun _ => by kernel_rfl
  have Sz2 := Lib.hid (Below.size hb)
  have Bel2 := Lib.hid (belNext Bel1.out hb)
  have Bx2 := Lib.hid (Bx1.out.next hb)
  have By2 := Lib.hid (By1.out.next hb)
  have Zv2 := Lib.hid (Zv1.out.next hb)
  have Zw2 := Lib.hid (Zw1.out.next hb)
  clear hb Bel1 Bx1 By1 Zv1 Zw1 hBx0 hBx1 hBx2 hBx3 hBy0 hBy1 hBy2 hBy3
  obtain ⟨⟨hBx0, hBx1, hBx2⟩, hBx3⟩ := Bx2.out
  obtain ⟨⟨hBy0, hBy1, hBy2⟩, hBy3⟩ := By2.out
  go_wp2_with fail
  go_ret
  exact ⟨ret_int Hs9.out, Bel2.out⟩
end Go.Proofs.YtnnoobdcdfcdaaaDoor
