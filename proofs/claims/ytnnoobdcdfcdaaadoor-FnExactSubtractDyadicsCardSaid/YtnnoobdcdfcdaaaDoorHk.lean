/- Opposites, ranges, floors of exact numbers, of the model. -/
import Derived.Test.YtnnoobdcdfcdaaaDoorHi
import Derived.Test.YtnnoobdcdfcdaaaDoorHd
import Derived.Test.YtnnoobdcdfcdaaaDoorHj
namespace Go.Proofs.YtnnoobdcdfcdaaaDoor
set_option maxRecDepth 100000
open Go.RowKit
set_option linter.unusedSimpArgs false
set_option linter.unusedVariables false

set_option maxHeartbeats 1000000 in
theorem specNegD_any (z S E : Int) (A : Option Addr) (n c : Nat) (w : World) (hz : ZV w z S A n c) (hm : (n : Int) ≤ 50000) :
    Calls Tryd.prog 105 #[.agg #[.int .i64 S, .slice A n c, .int .i64 E]] w fun e w' => ∃ Sr Ar nr cr, e = .returned (.agg #[.int .i64 Sr, .slice Ar nr cr, .int .i64 E]) ∧ ZO w' w.heap.size w'.heap.size (-z) Sr Ar nr cr ∧ Below w.heap.size w w' := by
  have hst := store_int Tryd.prog
  have hst2 := store_slice Tryd.prog
  obtain ⟨w1, hw1, hb1, hb3, hb4⟩ := dbox_res w S A n c E 34 34
  have RsD1 := Lib.hid hb3
  have Hlt : Hid (w.heap.size + 1 < w1.heap.size) := Lib.hid hb3.2
  have Zv1 := Lib.hid (hz.next hb4)
  have Hw := Lib.hid hw1
  have Bx1 := Lib.hid hb1
  have Bel1 := Lib.hid hb4
  have Hm : Hid ((n : Int) ≤ 90000) := Lib.hid (by omega)
  clear hz hw1 hb1 hb3 hb4
  go_enter Tryd.func105, Tryd.ntmps105
  go_wp2_with fail
  rw [← Hw.out]
  refine wp_region_held_drew (S := fun w' => (w'.cell? ⟨w.heap.size, 0, none⟩ = some (.int .i64 S) ∧ w'.cell? ⟨w.heap.size, 1, none⟩ = some (.slice A n c) ∧ w'.cell? ⟨w.heap.size, 2, none⟩ = some (.int .i64 E))) (by kernel_rfl) Bx1.out.1 (fun hHeld => ?_)
  refine wpAnyH_take (i := 0) (v := ?_) rfl (by kernel_rfl) (by kernel_rfl) (by kernel_rfl) (fun _ _ _ h => h) (Or.inl ⟨by rfl, ?_⟩) (by assumption) ?_
  rotate_left
  · (intro w hSw; (try dsimp only at hSw); go_simp; (try with_reducible rfl))
  try simp only [Act.put, List.setIfInBounds_toArray, List.set_cons_zero, List.set_cons_succ]
  refine wpAnyH_take (i := 1) (v := ?_) rfl (by kernel_rfl) (by kernel_rfl) (by kernel_rfl) (fun _ _ _ h => h) (Or.inl ⟨by rfl, ?_⟩) (by assumption) ?_
  rotate_left
  · (intro w hSw; (try dsimp only at hSw); go_simp; (try with_reducible rfl))
  try simp only [Act.put, List.setIfInBounds_toArray, List.set_cons_zero, List.set_cons_succ]
  refine wpAnyH_take (i := 3) (v := ?_) rfl (by kernel_rfl) (by kernel_rfl) (by kernel_rfl) (fun _ _ _ h => h) (Or.inl ⟨by rfl, ?_⟩) (by assumption) ?_
  rotate_left
  · (intro w hSw; (try dsimp only at hSw); go_simp; (try with_reducible rfl))
  try simp only [Act.put, List.setIfInBounds_toArray, List.set_cons_zero, List.set_cons_succ]
  refine wpAnyH_take (i := 4) (v := ?_) rfl (by kernel_rfl) (by kernel_rfl) (by kernel_rfl) (fun _ _ _ h => h) (Or.inl ⟨by rfl, ?_⟩) (by assumption) ?_
  rotate_left
  · (intro w hSw; (try dsimp only at hSw); go_simp; (try with_reducible rfl))
  try simp only [Act.put, List.setIfInBounds_toArray, List.set_cons_zero, List.set_cons_succ]
  refine wpAnyH_ready (rs := [2]) (by kernel_rfl) (by simp) ?_
  refine AllReadyH.cons rfl (fun K hK => ?_) AllReadyH.nil
  go_simp
  refine (specNeg_any S z.natAbs A n c _ w1.drew Zv1.out.sg Zv1.out.rd (Nat.le_refl _) Zv1.out.len Hm.out Zv1.out.cap).mono ?_
  rintro e w2 ⟨val, rfl, hv, hb0⟩
  have hb : Below w1.heap.size w1 w2 := belDrew hb0
  obtain ⟨S9, A9, n9, c9, rfl, hzo⟩ := Wz.zo (hv.cast_ (z' := -z) (by rw [Int.neg_mul, Zv1.out.val])) (Nat.le_refl _)
  have Zo2 := Lib.hid hzo
  clear hv hzo
  refine hK.out _ _ ((Bx1.out.next hb).1) (fun hHeld => ?_)
  clear hK K hb0
  have Sz2 := Lib.hid (Below.size hb)
  have Bel2 := Lib.hid (belNext Bel1.out hb)
  have Bx2 := Lib.hid (Bx1.out.next hb)
  have RsD2 := Lib.hid (RsD1.out.next hb)
  clear hb Bel1 Bx1 RsD1
  try simp only [Act.put, List.setIfInBounds_toArray, List.set_cons_zero, List.set_cons_succ]
  refine wpAnyH_take (i := 5) (v := ?_) rfl (by kernel_rfl) (by kernel_rfl) (by kernel_rfl) (fun _ _ _ h => h) (Or.inl ⟨by rfl, ?_⟩) (by assumption) ?_
  rotate_left
  · (intro w hSw; (try dsimp only at hSw); go_simp; (try with_reducible rfl))
  try simp only [Act.put, List.setIfInBounds_toArray, List.set_cons_zero, List.set_cons_succ]
  obtain ⟨⟨hRsD0, hRsD1, hRsD2, hRsD3, hRsD4, hRsD5⟩, hRsD6⟩ := RsD2.out
  refine wpAnyH_ready (rs := [6]) (by kernel_rfl) (by simp) ?_
  refine AllReadyH.cons rfl (fun K hK => ?_) AllReadyH.nil
  go_simp
  refine hK.out _ _ ((((Bx2.out.keep (by have zz0 := Hlt.out; have zz1 := Sz2.out; first | omega | (simp; done) | (simp; omega)) _).keep (by have zz0 := Hlt.out; have zz1 := Sz2.out; first | omega | (simp; done) | (simp; omega)) _).keep (by have zz0 := Hlt.out; have zz1 := Sz2.out; first | omega | (simp; done) | (simp; omega)) _).1) (fun hHeld => ?_)
  clear hK K hHeld
  try simp only [Act.put, List.setIfInBounds_toArray, List.set_cons_zero, List.set_cons_succ]
  refine wpAnyH_done (by kernel_rfl) ?_ _
  go_wp2_with fail
  refine bodyPost_ret (v := .agg #[.int .i64 S9, .slice A9 n9 c9, .int .i64 E]) (by simp [results, Tryd.results105, go_sem, hRsD0, hRsD1, hRsD2]) rfl ⟨S9, A9, n9, c9, rfl, ?_, ?_⟩
  · exact (((Zo2.out.setCell (.inl (by have zz0 := Hlt.out; have zz1 := Sz2.out; first | omega | (simp; done) | (simp; omega))) _).setCell (.inl (by have zz0 := Hlt.out; have zz1 := Sz2.out; first | omega | (simp; done) | (simp; omega))) _).setCell (.inl (by have zz0 := Hlt.out; have zz1 := Sz2.out; first | omega | (simp; done) | (simp; omega))) _).wide (by have zz0 := Hlt.out; have zz1 := Sz2.out; first | omega | (simp; done) | (simp; omega)) (by have zz0 := Hlt.out; have zz1 := Sz2.out; first | omega | (simp; done) | (simp; omega)) (by have zz0 := Hlt.out; have zz1 := Sz2.out; first | omega | (simp; done) | (simp; omega))
  · exact ((Bel2.out.setCell (by have zz0 := Hlt.out; have zz1 := Sz2.out; first | omega | (simp; done) | (simp; omega)) _).setCell (by have zz0 := Hlt.out; have zz1 := Sz2.out; first | omega | (simp; done) | (simp; omega)) _).setCell (by have zz0 := Hlt.out; have zz1 := Sz2.out; first | omega | (simp; done) | (simp; omega)) _

/-- the code of an exact number and an integer in a range -/
noncomputable def rgE (S : Int) (xs : List Int) (E k lo hi : Int) : Int := if isD S xs E = true then if lo ≤ k ∧ k ≤ hi then 0 else 2 else 1
set_option maxHeartbeats 1000000 in
theorem specRange_any (S : Int) (A : Option Addr) (n c : Nat) (E : Int) (xs : List Int) (k lo hi : Int) (w : World) (hr : Rd w w.heap.size A (vi xs)) (hn : xs.length = n) (hm : n ≤ 1048580) :
    Calls Tryd.prog 75 #[.agg #[.int .i64 S, .slice A n c, .int .i64 E], .int .i64 k, .int .i64 lo, .int .i64 hi] w fun e w' => e = .returned (.int .i64 (rgE S xs E k lo hi)) ∧ Below w.heap.size w w' := by
  obtain ⟨w1, hw1⟩ : ∃ w1, w1 = w.alloc (.cells #[.int .i64 S, .slice A n c, .int .i64 E] 34) := ⟨_, rfl⟩
  have Bx1 : Hid (DBox w1 w.heap.size S A n c E) := Lib.hid (by rw [hw1]; exact DBox.new _ _ _ _ _ _ _)
  have Bel1 : Hid (Below w.heap.size w w1) := Lib.hid (by rw [hw1]; exact belAlloc1 _ _)
  have Hr := Lib.hid hr
  have Hn := Lib.hid hn
  have Hm := Lib.hid hm
  have Hw := Lib.hid hw1
  clear hr hn hw1
  go_enter Tryd.func75, Tryd.ntmps75
  go_wp2_with fail
  rw [← Hw.out]
  obtain ⟨⟨hBx0, hBx1, hBx2⟩, hBx3⟩ := Bx1.out
  refine (specIsD_any S A n c E xs _ ((Hr.out.below Bel1.out).up Bel1.out.size) Hn.out Hm.out).mono ?_
  rintro e w2 ⟨rfl, hb⟩
  have Sz2 := Lib.hid (Below.size hb)
  have Bel2 := Lib.hid (belNext Bel1.out hb)
  have Bx2 := Lib.hid (Bx1.out.next hb)
  clear hb Bel1 Bx1 hBx0 hBx1 hBx2 hBx3
  obtain ⟨⟨hBx0, hBx1, hBx2⟩, hBx3⟩ := Bx2.out
  by_cases hD : isD S xs E = true
  · have Hres : Hid (rgE S xs E k lo hi = if lo ≤ k ∧ k ≤ hi then 0 else 2) := Lib.hid (by unfold rgE; rw [if_pos hD])
    rw [hD]
    clear hD
    go_wp2_with fail
    refine (in_any k lo hi _).mono ?_
    rintro e w9 ⟨rfl, rfl⟩
    by_cases hk : lo ≤ k ∧ k ≤ hi
    · have Hr2 : Hid (rgE S xs E k lo hi = 0) := Lib.hid (by rw [Hres.out, if_pos hk])
      have hin : decide (lo ≤ k ∧ k ≤ hi) = true := decide_eq_true hk
      rw [hin]
      clear hin hk
      go_wp2_with fail
      go_ret
      exact ⟨ret_int Hr2.out.symm, Bel2.out⟩
    · have Hr2 : Hid (rgE S xs E k lo hi = 2) := Lib.hid (by rw [Hres.out, if_neg hk])
      have hin : decide (lo ≤ k ∧ k ≤ hi) = false := decide_eq_false hk
      rw [hin]
      clear hin hk
      go_wp2_with fail
      go_ret
      exact ⟨ret_int Hr2.out.symm, Bel2.out⟩
  · have hD2 : isD S xs E = false := by simpa using hD
    have Hres : Hid (rgE S xs E k lo hi = 1) := Lib.hid (by unfold rgE; rw [if_neg hD])
    rw [hD2]
    clear hD hD2
    go_wp2_with fail
    go_ret
    exact ⟨ret_int Hres.out.symm, Bel2.out⟩

theorem fl_up {z E k : Int} (h : 0 ≤ E + k) : nz (shZ z (E + k)) = nz z ∧ nx (shZ z (E + k)) (-k) = nx z E := by
  rw [shZ_up h, nz_shl, nx_shl]
  refine ⟨rfl, ?_⟩
  congr 1
  omega
set_option maxHeartbeats 2000000 in
theorem specFloorD_any (z S E : Int) (A : Option Addr) (n c : Nat) (k : Int) (w : World) (hz : ZV w z S A n c) (hm : (n : Int) ≤ 3000) (h1 : -10000 ≤ E) (h2 : E ≤ 10000) (h3 : -1000 ≤ k) (h4 : k ≤ 1000) :
    Calls Tryd.prog 76 #[.agg #[.int .i64 S, .slice A n c, .int .i64 E], .int .i64 k] w fun e w' => ∃ Sr Ar nr cr, e = .returned (.agg #[.int .i64 Sr, .slice Ar nr cr, .int .i64 (nx (shZ z (E + k)) (-k))]) ∧ ZO w' w.heap.size w'.heap.size (nz (shZ z (E + k))) Sr Ar nr cr ∧ Below w.heap.size w w' := by
  have hst := store_int Tryd.prog
  have hst2 := store_slice Tryd.prog
  obtain ⟨w1, hw1, hb1, hb3, hb4⟩ := dbox_res w S A n c E 34 34
  have RsD1 := Lib.hid hb3
  have Hlt : Hid (w.heap.size + 1 < w1.heap.size) := Lib.hid hb3.2
  have Hz := Lib.hid hz
  have Hw := Lib.hid hw1
  have Bx1 := Lib.hid hb1
  have Bel1 := Lib.hid hb4
  have Hm : Hid ((n : Int) ≤ 3000) := Lib.hid hm
  clear hz hw1 hb1 hb3 hb4
  by_cases h : 0 ≤ E + k
  · have Hf := Lib.hid (fl_up (z := z) h)
    have hge : -k ≤ E := by omega
    clear h
    go_enter Tryd.func76, Tryd.ntmps76
    go_wp2_with fail
    rw [← Hw.out]
    obtain ⟨⟨hBx0, hBx1, hBx2⟩, hBx3⟩ := Bx1.out
    obtain ⟨⟨hRsD0, hRsD1, hRsD2, hRsD3, hRsD4, hRsD5⟩, hRsD6⟩ := RsD1.out
    refine (specMakeD_any z S E A n c _ (Hz.out.next Bel1.out) (by have := Hm.out; omega) (by omega) (by omega)).mono ?_
    rintro e w2 ⟨S2, A2, n2, c2, rfl, hzo, hb⟩
    have Zo2 := Lib.hid hzo
    clear hzo
    have Sz2 := Lib.hid (Below.size hb)
    have Bel2 := Lib.hid (belNext Bel1.out hb)
    have Bx2 := Lib.hid (Bx1.out.next hb)
    have RsD2 := Lib.hid (RsD1.out.next hb)
    clear hb Bel1 Bx1 RsD1 hBx0 hBx1 hBx2 hBx3 hRsD0 hRsD1 hRsD2 hRsD3 hRsD4 hRsD5 hRsD6
    obtain ⟨⟨hBx0, hBx1, hBx2⟩, hBx3⟩ := Bx2.out
    obtain ⟨⟨hRsD0, hRsD1, hRsD2, hRsD3, hRsD4, hRsD5⟩, hRsD6⟩ := RsD2.out
    go_wp2_with fail
    refine bodyPost_ret (v := .agg #[.int .i64 S2, .slice A2 n2 c2, .int .i64 (nx z E)]) (by simp [results, Tryd.results76, go_sem, hRsD0, hRsD1, hRsD2]) rfl ⟨S2, A2, n2, c2, by rw [Hf.out.2], ?_, ?_⟩
    · rw [Hf.out.1]; exact (((Zo2.out.setCell (.inl (by have zz0 := Hlt.out; have zz1 := Sz2.out; first | omega | (simp; done) | (simp; omega))) _).setCell (.inl (by have zz0 := Hlt.out; have zz1 := Sz2.out; first | omega | (simp; done) | (simp; omega))) _).setCell (.inl (by have zz0 := Hlt.out; have zz1 := Sz2.out; first | omega | (simp; done) | (simp; omega))) _).wide (by have zz0 := Hlt.out; have zz1 := Sz2.out; first | omega | (simp; done) | (simp; omega)) (by have zz0 := Hlt.out; have zz1 := Sz2.out; first | omega | (simp; done) | (simp; omega)) (by have zz0 := Hlt.out; have zz1 := Sz2.out; first | omega | (simp; done) | (simp; omega))
    · exact ((Bel2.out.setCell (by have zz0 := Hlt.out; have zz1 := Sz2.out; first | omega | (simp; done) | (simp; omega)) _).setCell (by have zz0 := Hlt.out; have zz1 := Sz2.out; first | omega | (simp; done) | (simp; omega)) _).setCell (by have zz0 := Hlt.out; have zz1 := Sz2.out; first | omega | (simp; done) | (simp; omega)) _
  · have hlt2 : ¬ -k ≤ E := by omega
    clear h
    go_enter Tryd.func76, Tryd.ntmps76
    go_wp2_with fail
    rw [← Hw.out]
    obtain ⟨⟨hBx0, hBx1, hBx2⟩, hBx3⟩ := Bx1.out
    obtain ⟨⟨hRsD0, hRsD1, hRsD2, hRsD3, hRsD4, hRsD5⟩, hRsD6⟩ := RsD1.out
    refine (specShift_any z S (E + k) A n c _ (Hz.out.next Bel1.out) (by have := Hm.out; omega) (by omega) (by omega)).mono ?_
    rintro e w2 ⟨S2, A2, n2, c2, rfl, hzo, hb⟩
    have Zo2 := Lib.hid hzo
    have Hn2 : Hid ((n2 : Int) ≤ 4000) := Lib.hid (by have h := limbs_len_mono (shr_abs z (-(E + k)).toNat); have e := hzo.2.1; rw [shZ_down (by omega)] at e; have e2 := Hz.out.2.1; have := Hm.out; omega)
    clear hzo
    have Sz2 := Lib.hid (Below.size hb)
    have Bel2 := Lib.hid (belNext Bel1.out hb)
    have Bx2 := Lib.hid (Bx1.out.next hb)
    have RsD2 := Lib.hid (RsD1.out.next hb)
    clear hb Bel1 Bx1 RsD1 hBx0 hBx1 hBx2 hBx3 hRsD0 hRsD1 hRsD2 hRsD3 hRsD4 hRsD5 hRsD6
    obtain ⟨⟨hBx0, hBx1, hBx2⟩, hBx3⟩ := Bx2.out
    obtain ⟨⟨hRsD0, hRsD1, hRsD2, hRsD3, hRsD4, hRsD5⟩, hRsD6⟩ := RsD2.out
    go_wp2_with fail
    refine (specMakeD_any (shZ z (E + k)) S2 (-k) A2 n2 c2 _ Zo2.out.zv Hn2.out (by omega) (by omega)).mono ?_
    rintro e w3 ⟨S3, A3, n3, c3, rfl, hzo, hb⟩
    have Zo3 := Lib.hid hzo
    clear hzo
    have Sz3 := Lib.hid (Below.size hb)
    have Bel3 := Lib.hid (belNext Bel2.out hb)
    have Bx3 := Lib.hid (Bx2.out.next hb)
    have RsD3 := Lib.hid (RsD2.out.next hb)
    clear hb Bel2 Bx2 RsD2 hBx0 hBx1 hBx2 hBx3 hRsD0 hRsD1 hRsD2 hRsD3 hRsD4 hRsD5 hRsD6
    obtain ⟨⟨hBx0, hBx1, hBx2⟩, hBx3⟩ := Bx3.out
    obtain ⟨⟨hRsD0, hRsD1, hRsD2, hRsD3, hRsD4, hRsD5⟩, hRsD6⟩ := RsD3.out
    go_wp2_with fail
    refine bodyPost_ret (v := .agg #[.int .i64 S3, .slice A3 n3 c3, .int .i64 (nx (shZ z (E + k)) (-k))]) (by simp [results, Tryd.results76, go_sem, hRsD0, hRsD1, hRsD2]) rfl ⟨S3, A3, n3, c3, rfl, ?_, ?_⟩
    · exact (((Zo3.out.setCell (.inl (by have zz0 := Hlt.out; have zz1 := Sz2.out; have zz2 := Sz3.out; first | omega | (simp; done) | (simp; omega))) _).setCell (.inl (by have zz0 := Hlt.out; have zz1 := Sz2.out; have zz2 := Sz3.out; first | omega | (simp; done) | (simp; omega))) _).setCell (.inl (by have zz0 := Hlt.out; have zz1 := Sz2.out; have zz2 := Sz3.out; first | omega | (simp; done) | (simp; omega))) _).wide (by have zz0 := Hlt.out; have zz1 := Sz2.out; have zz2 := Sz3.out; first | omega | (simp; done) | (simp; omega)) (by have zz0 := Hlt.out; have zz1 := Sz2.out; have zz2 := Sz3.out; first | omega | (simp; done) | (simp; omega)) (by have zz0 := Hlt.out; have zz1 := Sz2.out; have zz2 := Sz3.out; first | omega | (simp; done) | (simp; omega))
    · exact ((Bel3.out.setCell (by have zz0 := Hlt.out; have zz1 := Sz2.out; have zz2 := Sz3.out; first | omega | (simp; done) | (simp; omega)) _).setCell (by have zz0 := Hlt.out; have zz1 := Sz2.out; have zz2 := Sz3.out; first | omega | (simp; done) | (simp; omega)) _).setCell (by have zz0 := Hlt.out; have zz1 := Sz2.out; have zz2 := Sz3.out; first | omega | (simp; done) | (simp; omega)) _

set_option maxHeartbeats 2000000 in
theorem specCeilD_any (z S E : Int) (A : Option Addr) (n c : Nat) (k : Int) (w : World) (hz : ZV w z S A n c) (hm : (n : Int) ≤ 3000) (h1 : -10000 ≤ E) (h2 : E ≤ 10000) (h3 : -1000 ≤ k) (h4 : k ≤ 1000) :
    Calls Tryd.prog 78 #[.agg #[.int .i64 S, .slice A n c, .int .i64 E], .int .i64 k] w fun e w' => ∃ Sr Ar nr cr, e = .returned (.agg #[.int .i64 Sr, .slice Ar nr cr, .int .i64 (nx (-(shZ (-z) (E + k))) (-k))]) ∧ ZO w' w.heap.size w'.heap.size (nz (-(shZ (-z) (E + k)))) Sr Ar nr cr ∧ Below w.heap.size w w' := by
  have hst := store_int Tryd.prog
  have hst2 := store_slice Tryd.prog
  obtain ⟨w1, hw1, hb1, hb3, hb4⟩ := dbox_res w S A n c E 34 34
  have RsD1 := Lib.hid hb3
  have Hlt : Hid (w.heap.size + 1 < w1.heap.size) := Lib.hid hb3.2
  have Hz := Lib.hid hz
  have Hw := Lib.hid hw1
  have Bx1 := Lib.hid hb1
  have Bel1 := Lib.hid hb4
  have Hm : Hid ((n : Int) ≤ 3000) := Lib.hid hm
  clear hz hw1 hb1 hb3 hb4
  go_enter Tryd.func78, Tryd.ntmps78
  go_wp2_with fail
  rw [← Hw.out]
  obtain ⟨⟨hBx0, hBx1, hBx2⟩, hBx3⟩ := Bx1.out
  obtain ⟨⟨hRsD0, hRsD1, hRsD2, hRsD3, hRsD4, hRsD5⟩, hRsD6⟩ := RsD1.out
  refine (specNegD_any z S E A n c _ (Hz.out.next Bel1.out) (by have := Hm.out; omega)).mono ?_
  rintro e w2 ⟨S2, A2, n2, c2, rfl, hzo, hb⟩
  have Zo2 := Lib.hid hzo
  have Hn2 : Hid ((n2 : Int) ≤ 3000) := Lib.hid (by have e := hzo.2.1; rw [Int.natAbs_neg, Hz.out.2.1] at e; have := Hm.out; omega)
  clear hzo
  have Sz2 := Lib.hid (Below.size hb)
  have Bel2 := Lib.hid (belNext Bel1.out hb)
  have Bx2 := Lib.hid (Bx1.out.next hb)
  have RsD2 := Lib.hid (RsD1.out.next hb)
  clear hb Bel1 Bx1 RsD1 hBx0 hBx1 hBx2 hBx3 hRsD0 hRsD1 hRsD2 hRsD3 hRsD4 hRsD5 hRsD6
  obtain ⟨⟨hBx0, hBx1, hBx2⟩, hBx3⟩ := Bx2.out
  obtain ⟨⟨hRsD0, hRsD1, hRsD2, hRsD3, hRsD4, hRsD5⟩, hRsD6⟩ := RsD2.out
  go_wp2_with fail
  refine (specFloorD_any (-z) S2 E A2 n2 c2 k _ Zo2.out.zv Hn2.out h1 h2 h3 h4).mono ?_
  rintro e w3 ⟨S3, A3, n3, c3, rfl, hzo, hb⟩
  have Zo3 := Lib.hid hzo
  have Hn3 : Hid ((n3 : Int) ≤ 50000) := Lib.hid (by have h := Nat.le_trans (limbs_len_mono (nz_le (shZ (-z) (E + k)))) (shZ_len (k := E + k) Zo2.out.2.1 (by omega)); rw [hzo.2.1] at h; have := Hn2.out; omega)
  clear hzo
  have Sz3 := Lib.hid (Below.size hb)
  have Bel3 := Lib.hid (belNext Bel2.out hb)
  have Bx3 := Lib.hid (Bx2.out.next hb)
  have RsD3 := Lib.hid (RsD2.out.next hb)
  clear hb Bel2 Bx2 RsD2 hBx0 hBx1 hBx2 hBx3 hRsD0 hRsD1 hRsD2 hRsD3 hRsD4 hRsD5 hRsD6
  obtain ⟨⟨hBx0, hBx1, hBx2⟩, hBx3⟩ := Bx3.out
  obtain ⟨⟨hRsD0, hRsD1, hRsD2, hRsD3, hRsD4, hRsD5⟩, hRsD6⟩ := RsD3.out
  go_wp2_with fail
  refine (specNegD_any (nz (shZ (-z) (E + k))) S3 (nx (shZ (-z) (E + k)) (-k)) A3 n3 c3 _ Zo3.out.zv Hn3.out).mono ?_
  rintro e w4 ⟨S4, A4, n4, c4, rfl, hzo, hb⟩
  have Zo4 := Lib.hid (hzo.cast_ (z' := nz (-(shZ (-z) (E + k)))) (nz_neg _).symm)
  clear hzo
  have Sz4 := Lib.hid (Below.size hb)
  have Bel4 := Lib.hid (belNext Bel3.out hb)
  have Bx4 := Lib.hid (Bx3.out.next hb)
  have RsD4 := Lib.hid (RsD3.out.next hb)
  clear hb Bel3 Bx3 RsD3 hBx0 hBx1 hBx2 hBx3 hRsD0 hRsD1 hRsD2 hRsD3 hRsD4 hRsD5 hRsD6
  obtain ⟨⟨hBx0, hBx1, hBx2⟩, hBx3⟩ := Bx4.out
  obtain ⟨⟨hRsD0, hRsD1, hRsD2, hRsD3, hRsD4, hRsD5⟩, hRsD6⟩ := RsD4.out
  go_wp2_with fail
  refine bodyPost_ret (v := .agg #[.int .i64 S4, .slice A4 n4 c4, .int .i64 (nx (shZ (-z) (E + k)) (-k))]) (by simp [results, Tryd.results78, go_sem, hRsD0, hRsD1, hRsD2]) rfl ⟨S4, A4, n4, c4, by rw [nx_neg], ?_, ?_⟩
  · exact (((Zo4.out.setCell (.inl (by have zz0 := Hlt.out; have zz1 := Sz2.out; have zz2 := Sz3.out; have zz3 := Sz4.out; first | omega | (simp; done) | (simp; omega))) _).setCell (.inl (by have zz0 := Hlt.out; have zz1 := Sz2.out; have zz2 := Sz3.out; have zz3 := Sz4.out; first | omega | (simp; done) | (simp; omega))) _).setCell (.inl (by have zz0 := Hlt.out; have zz1 := Sz2.out; have zz2 := Sz3.out; have zz3 := Sz4.out; first | omega | (simp; done) | (simp; omega))) _).wide (by have zz0 := Hlt.out; have zz1 := Sz2.out; have zz2 := Sz3.out; have zz3 := Sz4.out; first | omega | (simp; done) | (simp; omega)) (by have zz0 := Hlt.out; have zz1 := Sz2.out; have zz2 := Sz3.out; have zz3 := Sz4.out; first | omega | (simp; done) | (simp; omega)) (by have zz0 := Hlt.out; have zz1 := Sz2.out; have zz2 := Sz3.out; have zz3 := Sz4.out; first | omega | (simp; done) | (simp; omega))
  · exact ((Bel4.out.setCell (by have zz0 := Hlt.out; have zz1 := Sz2.out; have zz2 := Sz3.out; have zz3 := Sz4.out; first | omega | (simp; done) | (simp; omega)) _).setCell (by have zz0 := Hlt.out; have zz1 := Sz2.out; have zz2 := Sz3.out; have zz3 := Sz4.out; first | omega | (simp; done) | (simp; omega)) _).setCell (by have zz0 := Hlt.out; have zz1 := Sz2.out; have zz2 := Sz3.out; have zz3 := Sz4.out; first | omega | (simp; done) | (simp; omega)) _
end Go.Proofs.YtnnoobdcdfcdaaaDoor
