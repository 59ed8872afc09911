/- Both numbers, products of exact numbers, of the model. -/
import Derived.Test.YtnnoobdcdfcdaaaDoorHk
import Derived.Test.YtnnoobdcdfcdaaaDoorMv
namespace Go.Proofs.YtnnoobdcdfcdaaaDoor
set_option maxRecDepth 100000
open Go.RowKit
set_option linter.unusedSimpArgs false
set_option linter.unusedVariables false

/-- both are exact numbers -/
noncomputable def bD (S : Int) (xs : List Int) (E S' : Int) (xs' : List Int) (E' : Int) : Bool := isD S xs E && isD S' xs' E'
noncomputable def bDE (S : Int) (xs : List Int) (E S' : Int) (xs' : List Int) (E' : Int) : Int := if bD S xs E S' xs' E' = true then 0 else 1
theorem bD_yes {S E S' E' : Int} {xs xs' : List Int} (h : isD S xs E = true) (h' : isD S' xs' E' = true) : bD S xs E S' xs' E' = true := by unfold bD; rw [h, h']; rfl
theorem bD_no {S E S' E' : Int} {xs xs' : List Int} (h : isD S xs E = false) : bD S xs E S' xs' E' = false := by unfold bD; rw [h]; rfl
theorem bD_no2 {S E S' E' : Int} {xs xs' : List Int} (h : isD S xs E = true) (h' : isD S' xs' E' = false) : bD S xs E S' xs' E' = false := by unfold bD; rw [h, h']; rfl

set_option maxHeartbeats 2000000 in
theorem specBothD_any (S : Int) (A : Option Addr) (n c : Nat) (E : Int) (xs : List Int) (S' : Int) (A' : Option Addr) (n' c' : Nat) (E' : Int) (xs' : List Int) (w : World) (hr : Rd w w.heap.size A (vi xs)) (hn : xs.length = n) (hm : n ≤ 1048580) (hr' : Rd w w.heap.size A' (vi xs')) (hn' : xs'.length = n') (hm' : n' ≤ 1048580) :
    Calls Tryd.prog 65 #[.agg #[.int .i64 S, .slice A n c, .int .i64 E], .agg #[.int .i64 S', .slice A' n' c', .int .i64 E']] w fun e w' => e = .returned (.int .i64 (bDE S xs E S' xs' E')) ∧ Below w.heap.size w w' := by
  obtain ⟨w1, hw1, hb1, hb2, hb4⟩ := dbox2 w S S' A A' n n' c c' E E' 34 34
  have Hr := Lib.hid hr
  have Hn := Lib.hid hn
  have Hm := Lib.hid hm
  have Hr' := Lib.hid hr'
  have Hn' := Lib.hid hn'
  have Hm' := Lib.hid hm'
  have Hw := Lib.hid hw1
  have Bx1 := Lib.hid hb1
  have By1 := Lib.hid hb2
  have Bel1 := Lib.hid hb4
  clear hr hn hr' hn' hw1 hb1 hb2 hb4
  go_enter Tryd.func65, Tryd.ntmps65
  go_wp2_with fail
  rw [← Hw.out]
  obtain ⟨⟨hBx0, hBx1, hBx2⟩, hBx3⟩ := Bx1.out
  obtain ⟨⟨hBy0, hBy1, hBy2⟩, hBy3⟩ := By1.out
  refine (specIsD_any S A n c E xs _ ((Hr.out.below Bel1.out).up Bel1.out.size) Hn.out Hm.out).mono ?_
  rintro e w2 ⟨rfl, hb⟩
  have Sz2 := Lib.hid (Below.size hb)
  have Bel2 := Lib.hid (belNext Bel1.out hb)
  have Bx2 := Lib.hid (Bx1.out.next hb)
  have By2 := Lib.hid (By1.out.next hb)
  clear hb Bel1 Bx1 By1 hBx0 hBx1 hBx2 hBx3 hBy0 hBy1 hBy2 hBy3
  obtain ⟨⟨hBx0, hBx1, hBx2⟩, hBx3⟩ := Bx2.out
  obtain ⟨⟨hBy0, hBy1, hBy2⟩, hBy3⟩ := By2.out
  by_cases hD : isD S xs E = true
  · have HD := Lib.hid hD
    rw [hD]
    clear hD
    go_wp2_with fail
    refine (specIsD_any S' A' n' c' E' xs' _ ((Hr'.out.below Bel2.out).up Bel2.out.size) Hn'.out Hm'.out).mono ?_
    rintro e w3 ⟨rfl, hb⟩
    have Sz3 := Lib.hid (Below.size hb)
    have Bel3 := Lib.hid (belNext Bel2.out hb)
    have Bx3 := Lib.hid (Bx2.out.next hb)
    have By3 := Lib.hid (By2.out.next hb)
    clear hb Bel2 Bx2 By2 hBx0 hBx1 hBx2 hBx3 hBy0 hBy1 hBy2 hBy3
    obtain ⟨⟨hBx0, hBx1, hBx2⟩, hBx3⟩ := Bx3.out
    obtain ⟨⟨hBy0, hBy1, hBy2⟩, hBy3⟩ := By3.out
    by_cases hD' : isD S' xs' E' = true
    · have Hres : Hid (bDE S xs E S' xs' E' = 0) := Lib.hid (by unfold bDE; rw [if_pos (bD_yes HD.out hD')])
      rw [hD']
      clear hD'
      go_wp2_with fail
      go_ret
      exact ⟨ret_int Hres.out.symm, Bel3.out⟩
    · have hD2 : isD S' xs' E' = false := by simpa using hD'
      have Hres : Hid (bDE S xs E S' xs' E' = 1) := Lib.hid (by unfold bDE; rw [bD_no2 HD.out hD2]; rfl)
      rw [hD2]
      clear hD' hD2
      go_wp2_with fail
      go_ret
      exact ⟨ret_int Hres.out.symm, Bel3.out⟩
  · have hD2 : isD S xs E = false := by simpa using hD
    have Hres : Hid (bDE S xs E S' xs' E' = 1) := Lib.hid (by unfold bDE; rw [bD_no hD2]; rfl)
    rw [hD2]
    clear hD hD2
    go_wp2_with fail
    go_ret
    exact ⟨ret_int Hres.out.symm, Bel2.out⟩

set_option maxHeartbeats 2000000 in
theorem specMulD_any (z S E z' S' E' : Int) (A A' : Option Addr) (n c n' c' : Nat) (w : World) (hz : ZV w z S A n c) (hz' : ZV w z' S' A' n' c') (hm : (n : Int) ≤ 1000) (hm' : (n' : Int) ≤ 1000) (h1 : -100000 ≤ E) (h2 : E ≤ 100000) (h3 : -100000 ≤ E') (h4 : E' ≤ 100000) :
    Calls Tryd.prog 71 #[.agg #[.int .i64 S, .slice A n c, .int .i64 E], .agg #[.int .i64 S', .slice A' n' c', .int .i64 E']] w fun e w' => ∃ Sr Ar nr cr, e = .returned (.agg #[.int .i64 Sr, .slice Ar nr cr, .int .i64 (nx (z * z') (E + E'))]) ∧ ZO w' w.heap.size w'.heap.size (nz (z * z')) Sr Ar nr cr ∧ Below w.heap.size w w' := by
  have hst := store_int Tryd.prog
  have hst2 := store_slice Tryd.prog
  obtain ⟨w1, hw1, hb1, hb2, hb3, hb4⟩ := dbox2_res w S S' A A' n n' c c' E E' 34 34 34
  have RsD1 := Lib.hid hb3
  have Hlt : Hid (w.heap.size + 1 + 1 < w1.heap.size) := Lib.hid hb3.2
  have Zv1 := Lib.hid (hz.next hb4)
  have Zw1 := Lib.hid (hz'.next hb4)
  have Hw := Lib.hid hw1
  have Bx1 := Lib.hid hb1
  have By1 := Lib.hid hb2
  have Bel1 := Lib.hid hb4
  have Hn : Hid ((limbs z.natAbs).length = n) := Lib.hid hz.2.1
  have Hn' : Hid ((limbs z'.natAbs).length = n') := Lib.hid hz'.2.1
  have Hm : Hid ((n : Int) ≤ 1000 ∧ (n' : Int) ≤ 1000) := Lib.hid ⟨hm, hm'⟩
  clear hz hz' hw1 hb1 hb2 hb4 hb3
  go_enter Tryd.func71, Tryd.ntmps71
  go_wp2_with fail
  rw [← Hw.out]
  have hwr : IntKind.i64.wrap (E + E') = E + E' := IntWalk.i64_in _ (by omega)
  refine wp_region_held_drew (S := fun w' => (w'.cell? ⟨w.heap.size, 0, none⟩ = some (.int .i64 S) ∧ w'.cell? ⟨w.heap.size, 1, none⟩ = some (.slice A n c) ∧ w'.cell? ⟨w.heap.size, 2, none⟩ = some (.int .i64 E)) ∧ (w'.cell? ⟨w.heap.size + 1, 0, none⟩ = some (.int .i64 S') ∧ w'.cell? ⟨w.heap.size + 1, 1, none⟩ = some (.slice A' n' c') ∧ w'.cell? ⟨w.heap.size + 1, 2, none⟩ = some (.int .i64 E'))) (by kernel_rfl) ⟨Bx1.out.1, By1.out.1⟩ (fun hHeld => ?_)
  refine wpAnyH_take (i := 0) (v := ?_) rfl (by kernel_rfl) (by kernel_rfl) (by kernel_rfl) (fun _ _ _ h => h) (Or.inl ⟨by rfl, ?_⟩) (by assumption) ?_
  rotate_left
  · (intro w hSw; (try dsimp only at hSw); go_simp; (try with_reducible rfl))
  try simp only [Act.put, List.setIfInBounds_toArray, List.set_cons_zero, List.set_cons_succ]
  refine wpAnyH_take (i := 1) (v := ?_) rfl (by kernel_rfl) (by kernel_rfl) (by kernel_rfl) (fun _ _ _ h => h) (Or.inl ⟨by rfl, ?_⟩) (by assumption) ?_
  rotate_left
  · (intro w hSw; (try dsimp only at hSw); go_simp; (try with_reducible rfl))
  try simp only [Act.put, List.setIfInBounds_toArray, List.set_cons_zero, List.set_cons_succ]
  refine wpAnyH_take (i := 2) (v := ?_) rfl (by kernel_rfl) (by kernel_rfl) (by kernel_rfl) (fun _ _ _ h => h) (Or.inl ⟨by rfl, ?_⟩) (by assumption) ?_
  rotate_left
  · (intro w hSw; (try dsimp only at hSw); go_simp; (try with_reducible rfl))
  try simp only [Act.put, List.setIfInBounds_toArray, List.set_cons_zero, List.set_cons_succ]
  refine wpAnyH_take (i := 3) (v := ?_) rfl (by kernel_rfl) (by kernel_rfl) (by kernel_rfl) (fun _ _ _ h => h) (Or.inl ⟨by rfl, ?_⟩) (by assumption) ?_
  rotate_left
  · (intro w hSw; (try dsimp only at hSw); go_simp; (try with_reducible rfl))
  try simp only [Act.put, List.setIfInBounds_toArray, List.set_cons_zero, List.set_cons_succ]
  refine wpAnyH_take (i := 5) (v := ?_) rfl (by kernel_rfl) (by kernel_rfl) (by kernel_rfl) (fun _ _ _ h => h) (Or.inl ⟨by rfl, ?_⟩) (by assumption) ?_
  rotate_left
  · (intro w hSw; (try dsimp only at hSw); go_simp; (try with_reducible rfl))
  try simp only [Act.put, List.setIfInBounds_toArray, List.set_cons_zero, List.set_cons_succ]
  refine wpAnyH_take (i := 6) (v := ?_) rfl (by kernel_rfl) (by kernel_rfl) (by kernel_rfl) (fun _ _ _ h => h) (Or.inl ⟨by rfl, ?_⟩) (by assumption) ?_
  rotate_left
  · (intro w hSw; (try dsimp only at hSw); go_simp; (try with_reducible rfl))
  try simp only [Act.put, List.setIfInBounds_toArray, List.set_cons_zero, List.set_cons_succ]
  refine wpAnyH_take (i := 7) (v := ?_) rfl (by kernel_rfl) (by kernel_rfl) (by kernel_rfl) (fun _ _ _ h => h) (Or.inl ⟨by rfl, ?_⟩) (by assumption) ?_
  rotate_left
  · (intro w hSw; (try dsimp only at hSw); go_simp; (try with_reducible rfl))
  try simp only [Act.put, List.setIfInBounds_toArray, List.set_cons_zero, List.set_cons_succ]
  refine wpAnyH_take (i := 8) (v := ?_) rfl (by kernel_rfl) (by kernel_rfl) (by kernel_rfl) (fun _ _ _ h => h) (Or.inl ⟨by rfl, ?_⟩) (by assumption) ?_
  rotate_left
  · (intro w hSw; (try dsimp only at hSw); go_simp; (try with_reducible rfl))
  try simp only [Act.put, List.setIfInBounds_toArray, List.set_cons_zero, List.set_cons_succ]
  refine wpAnyH_take (i := 9) (v := ?_) rfl (by kernel_rfl) (by kernel_rfl) (by kernel_rfl) (fun _ _ _ h => h) (Or.inl ⟨by rfl, ?_⟩) (by assumption) ?_
  rotate_left
  · (intro w hSw; (try dsimp only at hSw); go_simp; (try with_reducible rfl))
  try simp only [Act.put, List.setIfInBounds_toArray, List.set_cons_zero, List.set_cons_succ]
  refine wpAnyH_ready (rs := [4]) (by kernel_rfl) (by simp) ?_
  refine AllReadyH.cons rfl (fun K hK => ?_) AllReadyH.nil
  go_simp
  refine (specMul_any S S' z.natAbs z'.natAbs A A' n n' c c' w1.drew Zv1.out.sg Zw1.out.sg Zv1.out.rd Zw1.out.rd Hn.out Hn'.out Hm.out.1 Hm.out.2 Zv1.out.cap Zw1.out.cap).mono ?_
  rintro e w2 ⟨val, rfl, hv, hb0⟩
  have hb : Below w1.heap.size w1 w2 := belDrew hb0
  obtain ⟨S8, A8, n8, c8, rfl, hzo⟩ := Wz.zo (hv.cast_ (z' := z * z') (by rw [Zv1.out.val, Zw1.out.val])) (Nat.le_refl _)
  have Zo2 := Lib.hid hzo
  have Hn8 : Hid ((n8 : Int) ≤ 4000) := Lib.hid (by have h := mul_len Zv1.out.sg Zw1.out.sg Hn.out Hn'.out; rw [Zv1.out.val, Zw1.out.val, hzo.2.1] at h; have := Hm.out; omega)
  clear hv hzo
  refine hK.out _ _ ⟨(Bx1.out.next hb).1, (By1.out.next hb).1⟩ (fun hHeld => ?_)
  clear hK K hb0
  have Sz2 := Lib.hid (Below.size hb)
  have Bel2 := Lib.hid (belNext Bel1.out hb)
  have Bx2 := Lib.hid (Bx1.out.next hb)
  have By2 := Lib.hid (By1.out.next hb)
  have RsD2 := Lib.hid (RsD1.out.next hb)
  clear hb Bel1 Bx1 By1 RsD1
  try simp only [Act.put, List.setIfInBounds_toArray, List.set_cons_zero, List.set_cons_succ]
  refine wpAnyH_ready (rs := [10]) (by kernel_rfl) (by simp) ?_
  refine AllReadyH.cons rfl (fun K hK => ?_) AllReadyH.nil
  go_simp
  refine (specMakeD_any (z * z') S8 (E + E') A8 n8 c8 w2 Zo2.out.zv Hn8.out (by omega) (by omega)).mono ?_
  rintro e w3 ⟨S9, A9, n9, c9, rfl, hzo, hb0⟩
  have hb : Below w2.heap.size w2 w3 := hb0
  have Zp3 := Lib.hid hzo
  clear hzo
  refine hK.out _ _ ⟨(Bx2.out.next hb).1, (By2.out.next hb).1⟩ (fun hHeld => ?_)
  clear hK K hb0
  have Sz3 := Lib.hid (Below.size hb)
  have Bel3 := Lib.hid (belNext Bel2.out hb)
  have Bx3 := Lib.hid (Bx2.out.next hb)
  have By3 := Lib.hid (By2.out.next hb)
  have RsD3 := Lib.hid (RsD2.out.next hb)
  clear hb Bel2 Bx2 By2 RsD2
  try simp only [Act.put, List.setIfInBounds_toArray, List.set_cons_zero, List.set_cons_succ]
  obtain ⟨⟨hRsD0, hRsD1, hRsD2, hRsD3, hRsD4, hRsD5⟩, hRsD6⟩ := RsD3.out
  refine wpAnyH_ready (rs := [11]) (by kernel_rfl) (by simp) ?_
  refine AllReadyH.cons rfl (fun K hK => ?_) AllReadyH.nil
  go_simp
  refine hK.out _ _ ⟨(((Bx3.out.keep (by have zz0 := Hlt.out; have zz1 := Sz2.out; have zz2 := Sz3.out; first | omega | (simp; done) | (simp; omega)) _).keep (by have zz0 := Hlt.out; have zz1 := Sz2.out; have zz2 := Sz3.out; first | omega | (simp; done) | (simp; omega)) _).keep (by have zz0 := Hlt.out; have zz1 := Sz2.out; have zz2 := Sz3.out; first | omega | (simp; done) | (simp; omega)) _).1, (((By3.out.keep (by have zz0 := Hlt.out; have zz1 := Sz2.out; have zz2 := Sz3.out; first | omega | (simp; done) | (simp; omega)) _).keep (by have zz0 := Hlt.out; have zz1 := Sz2.out; have zz2 := Sz3.out; first | omega | (simp; done) | (simp; omega)) _).keep (by have zz0 := Hlt.out; have zz1 := Sz2.out; have zz2 := Sz3.out; first | omega | (simp; done) | (simp; omega)) _).1⟩ (fun hHeld => ?_)
  clear hK K hHeld
  try simp only [Act.put, List.setIfInBounds_toArray, List.set_cons_zero, List.set_cons_succ]
  refine wpAnyH_done (by kernel_rfl) ?_ _
  go_wp2_with fail
  refine bodyPost_ret (v := .agg #[.int .i64 S9, .slice A9 n9 c9, .int .i64 (nx (z * z') (E + E'))]) (by simp [results, Tryd.results71, go_sem, hRsD0, hRsD1, hRsD2]) rfl ⟨S9, A9, n9, c9, rfl, ?_, ?_⟩
  · exact (((Zp3.out.setCell (.inl (by have zz0 := Hlt.out; have zz1 := Sz2.out; have zz2 := Sz3.out; first | omega | (simp; done) | (simp; omega))) _).setCell (.inl (by have zz0 := Hlt.out; have zz1 := Sz2.out; have zz2 := Sz3.out; first | omega | (simp; done) | (simp; omega))) _).setCell (.inl (by have zz0 := Hlt.out; have zz1 := Sz2.out; have zz2 := Sz3.out; first | omega | (simp; done) | (simp; omega))) _).wide (by have zz0 := Hlt.out; have zz1 := Sz2.out; have zz2 := Sz3.out; first | omega | (simp; done) | (simp; omega)) (by have zz0 := Hlt.out; have zz1 := Sz2.out; have zz2 := Sz3.out; first | omega | (simp; done) | (simp; omega)) (by have zz0 := Hlt.out; have zz1 := Sz2.out; have zz2 := Sz3.out; first | omega | (simp; done) | (simp; omega))
  · exact ((Bel3.out.setCell (by have zz0 := Hlt.out; have zz1 := Sz2.out; have zz2 := Sz3.out; first | omega | (simp; done) | (simp; omega)) _).setCell (by have zz0 := Hlt.out; have zz1 := Sz2.out; have zz2 := Sz3.out; first | omega | (simp; done) | (simp; omega)) _).setCell (by have zz0 := Hlt.out; have zz1 := Sz2.out; have zz2 := Sz3.out; first | omega | (simp; done) | (simp; omega)) _
end Go.Proofs.YtnnoobdcdfcdaaaDoor
