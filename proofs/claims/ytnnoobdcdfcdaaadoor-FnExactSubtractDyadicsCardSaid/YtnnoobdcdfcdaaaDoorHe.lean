/- Exact numbers: sums, comparing, of the program. -/
import Derived.Test.YtnnoobdcdfcdaaaDoorHd
import Derived.Test.YtnnoobdcdfcdaaaDoorWq
namespace Go.Proofs.YtnnoobdcdfcdaaaDoor
set_option maxRecDepth 100000
open Go.RowKit
set_option linter.unusedSimpArgs false
set_option linter.unusedVariables false

set_option maxHeartbeats 4000000 in
theorem implPlusD_ge (z S E z' S' E' : Int) (A A' : Option Addr) (n c n' c' : Nat) (w : World) (hz : ZV w z S A n c) (hz' : ZV w z' S' A' n' c') (hm : (n : Int) ≤ 4000) (hm' : (n' : Int) ≤ 4000) (h1 : -10000 ≤ E) (h2 : E ≤ 10000) (h3 : -10000 ≤ E') (h4 : E' ≤ 10000) (hT : TabZ w) (hE : E' ≤ E) :
    Calls Tryd.prog 68 #[.agg #[.int .i64 S, .slice A n c, .int .i64 E], .agg #[.int .i64 S', .slice A' n' c', .int .i64 E']] w fun e w' => ∃ Sr Ar nr cr, e = .returned (.agg #[.int .i64 Sr, .slice Ar nr cr, .int .i64 (min E E')]) ∧ ZO w' w.heap.size w'.heap.size (sumZ z E z' E') Sr Ar nr cr ∧ Below w.heap.size w w' := by
  have hst := store_int Tryd.prog
  have hst2 := store_slice Tryd.prog
  obtain ⟨w1, hw1, hb1, hb2, hb3, hb4⟩ := dbox2_res w S S' A A' n n' c c' E E' 34 34 34
  have RsD1 := Lib.hid hb3
  have Hlt : Hid (w.heap.size + 1 + 1 < w1.heap.size) := Lib.hid hb3.2
  have Zv1 := Lib.hid (hz.next hb4)
  have Zw1 := Lib.hid (hz'.next hb4)
  have Fx1 : Hid (Fr3 w1 w.heap.size) := Lib.hid (by rw [hw1]; exact ((Fr3.new _ _ _ _ _ _ _).next (belAlloc1 _ _)).next (belAlloc1 _ _))
  have Fy1 : Hid (Fr3 w1 (w.heap.size + 1)) := Lib.hid (by rw [hw1]; have h := (Fr3.new (w.alloc (.cells #[.int .i64 S, .slice A n c, .int .i64 E] 34)) S' A' n' c' E' 34).next (belAlloc1 _ (.cells #[.int .i64 0, .slice none 0 0, .int .i64 0] 34)); simpa using h)
  have Hz := Lib.hid hz
  have Hz' := Lib.hid hz'
  have HT := Lib.hid hT
  have Hw := Lib.hid hw1
  have Bx1 := Lib.hid hb1
  have By1 := Lib.hid hb2
  have Bel1 := Lib.hid hb4
  have Hn : Hid ((limbs z.natAbs).length = n) := Lib.hid hz.2.1
  have Hn' : Hid ((limbs z'.natAbs).length = n') := Lib.hid hz'.2.1
  have Hm : Hid ((n : Int) ≤ 4000 ∧ (n' : Int) ≤ 4000) := Lib.hid ⟨hm, hm'⟩
  have Tb1 := Lib.hid (hT.next hb4)
  clear hT
  clear hz hz' hw1 hb1 hb2 hb4 hb3
  have hE2 : ¬ E < E' := by omega
  clear Zv1 Zw1 Tb1 Fx1 Fy1
  go_enter Tryd.func68, Tryd.ntmps68
  go_wp2_with fail
  rw [← Hw.out]
  obtain ⟨⟨hBx0, hBx1, hBx2⟩, hBx3⟩ := Bx1.out
  obtain ⟨⟨hBy0, hBy1, hBy2⟩, hBy3⟩ := By1.out
  obtain ⟨⟨hRsD0, hRsD1, hRsD2, hRsD3, hRsD4, hRsD5⟩, hRsD6⟩ := RsD1.out
  refine (implShifted_any z S (E - E') A n c _ (Hz.out.next Bel1.out) (by have := Hm.out.1; omega) (by omega) (by omega) (HT.out.next Bel1.out)).mono ?_
  rintro e w2 ⟨S2, A2, n2, c2, rfl, hzo, hb⟩
  have Zo2 := Lib.hid hzo
  clear hzo
  have Sz2 := Lib.hid (Below.size hb)
  have Bel2 := Lib.hid (belNext Bel1.out hb)
  have Bx2 := Lib.hid (Bx1.out.next hb)
  have By2 := Lib.hid (By1.out.next hb)
  have RsD2 := Lib.hid (RsD1.out.next hb)
  clear hb Bel1 Bx1 By1 RsD1 hBx0 hBx1 hBx2 hBx3 hBy0 hBy1 hBy2 hBy3 hRsD0 hRsD1 hRsD2 hRsD3 hRsD4 hRsD5 hRsD6
  obtain ⟨⟨hBx0, hBx1, hBx2⟩, hBx3⟩ := Bx2.out
  obtain ⟨⟨hBy0, hBy1, hBy2⟩, hBy3⟩ := By2.out
  obtain ⟨⟨hRsD0, hRsD1, hRsD2, hRsD3, hRsD4, hRsD5⟩, hRsD6⟩ := RsD2.out
  go_wp2_with fail
  obtain ⟨w3, hw⟩ : ∃ w3, w3 = w2.alloc (.cells #[.int .i64 S2, .slice A2 n2 c2] 26) := ⟨_, rfl⟩
  have hb : Below w2.heap.size w2 w3 := by rw [hw]; exact belAlloc1 _ _
  have Bw3 : Hid (Box w3 w2.heap.size S2 A2 n2 c2) := Lib.hid (by rw [hw]; exact Box.new _ _ _ _ _ _)
  rw [← hw]
  clear hw
  have Sz3 := Lib.hid (Below.size hb)
  have Bel3 := Lib.hid (belNext Bel2.out hb)
  have Bx3 := Lib.hid (Bx2.out.next hb)
  have By3 := Lib.hid (By2.out.next hb)
  have RsD3 := Lib.hid (RsD2.out.next hb)
  have Zo3 := Lib.hid (Zo2.out.next hb)
  clear hb Bel2 Bx2 By2 RsD2 Zo2 hBx0 hBx1 hBx2 hBx3 hBy0 hBy1 hBy2 hBy3 hRsD0 hRsD1 hRsD2 hRsD3 hRsD4 hRsD5 hRsD6
  have Hl2 : Hid ((n2 : Int) ≤ 90000) := Lib.hid (by have h := shl_len Hn.out (E - E').toNat; have e := Zo3.out.2.1; rw [shZ_up (by omega), abs_pow_mul] at e; have := Hm.out; omega)
  refine wp_region_held_drew (S := fun w' => (w'.cell? ⟨w2.heap.size, 0, none⟩ = some (.int .i64 S2) ∧ w'.cell? ⟨w2.heap.size, 1, none⟩ = some (.slice A2 n2 c2)) ∧ (w'.cell? ⟨w.heap.size + 1, 0, none⟩ = some (.int .i64 S') ∧ w'.cell? ⟨w.heap.size + 1, 1, none⟩ = some (.slice A' n' c') ∧ w'.cell? ⟨w.heap.size + 1, 2, none⟩ = some (.int .i64 E'))) (by kernel_rfl) ⟨Bw3.out.1, By3.out.1⟩ (fun hHeld => ?_)
  refine wpAnyH_take (i := 0) (v := ?_) rfl (by kernel_rfl) (by kernel_rfl) (by kernel_rfl) (fun _ _ _ h => h) (Or.inl ⟨by rfl, ?_⟩) (by assumption) ?_
  rotate_left
  · (intro w hSw; (try dsimp only at hSw); go_simp; (try with_reducible rfl))
  try simp only [Act.put, List.setIfInBounds_toArray, List.set_cons_zero, List.set_cons_succ]
  refine wpAnyH_take (i := 1) (v := ?_) rfl (by kernel_rfl) (by kernel_rfl) (by kernel_rfl) (fun _ _ _ h => h) (Or.inl ⟨by rfl, ?_⟩) (by assumption) ?_
  rotate_left
  · (intro w hSw; (try dsimp only at hSw); go_simp; (try with_reducible rfl))
  try simp only [Act.put, List.setIfInBounds_toArray, List.set_cons_zero, List.set_cons_succ]
  refine wpAnyH_take (i := 2) (v := ?_) rfl (by kernel_rfl) (by kernel_rfl) (by kernel_rfl) (fun _ _ _ h => h) (Or.inl ⟨by rfl, ?_⟩) (by assumption) ?_
  rotate_left
  · (intro w hSw; (try dsimp only at hSw); go_simp; (try with_reducible rfl))
  try simp only [Act.put, List.setIfInBounds_toArray, List.set_cons_zero, List.set_cons_succ]
  refine wpAnyH_take (i := 4) (v := ?_) rfl (by kernel_rfl) (by kernel_rfl) (by kernel_rfl) (fun _ _ _ h => h) (Or.inl ⟨by rfl, ?_⟩) (by assumption) ?_
  rotate_left
  · (intro w hSw; (try dsimp only at hSw); go_simp; (try with_reducible rfl))
  try simp only [Act.put, List.setIfInBounds_toArray, List.set_cons_zero, List.set_cons_succ]
  refine wpAnyH_take (i := 5) (v := ?_) rfl (by kernel_rfl) (by kernel_rfl) (by kernel_rfl) (fun _ _ _ h => h) (Or.inl ⟨by rfl, ?_⟩) (by assumption) ?_
  rotate_left
  · (intro w hSw; (try dsimp only at hSw); go_simp; (try with_reducible rfl))
  try simp only [Act.put, List.setIfInBounds_toArray, List.set_cons_zero, List.set_cons_succ]
  refine wpAnyH_ready (rs := [3]) (by kernel_rfl) (by simp) ?_
  refine AllReadyH.cons rfl (fun K hK => ?_) AllReadyH.nil
  go_simp
  refine (implPlus_any S2 S' (shZ z (E - E')).natAbs z'.natAbs A2 A' n2 n' c2 c' w3.drew Zo3.out.zv.sg (Hz'.out.next Bel3.out).sg Zo3.out.zv.rd (Hz'.out.next Bel3.out).rd Zo3.out.2.1 Hn'.out Hl2.out (by have := Hm.out.2; omega)).mono ?_
  rintro e w4 ⟨val, rfl, hv, hb0⟩
  have hb : Below w3.heap.size w3 w4 := belDrew hb0
  obtain ⟨S9, A9, n9, c9, rfl, hzo⟩ := Wz.zo (hv.cast_ (z' := sumZ z E z' E') (by rw [Zo3.out.zv.val, (Hz'.out.next Bel3.out).val, shZ_up (by omega)]; exact (sumZ_ge (by omega)).symm)) (Nat.le_refl _)
  have Zp4 := Lib.hid hzo
  clear hv hzo
  refine hK.out _ _ ⟨(Bw3.out.next hb).1, (By3.out.next hb).1⟩ (fun hHeld => ?_)
  clear hK K hb0
  have Sz4 := Lib.hid (Below.size hb)
  have Bel4 := Lib.hid (belNext Bel3.out hb)
  have Bx4 := Lib.hid (Bx3.out.next hb)
  have By4 := Lib.hid (By3.out.next hb)
  have RsD4 := Lib.hid (RsD3.out.next hb)
  have Zo4 := Lib.hid (Zo3.out.next hb)
  have Bw4 := Lib.hid (Bw3.out.next hb)
  clear hb Bel3 Bx3 By3 RsD3 Zo3 Bw3
  try simp only [Act.put, List.setIfInBounds_toArray, List.set_cons_zero, List.set_cons_succ]
  refine wpAnyH_take (i := 6) (v := ?_) rfl (by kernel_rfl) (by kernel_rfl) (by kernel_rfl) (fun _ _ _ h => h) (Or.inl ⟨by rfl, ?_⟩) (by assumption) ?_
  rotate_left
  · (intro w hSw; (try dsimp only at hSw); go_simp; (try with_reducible rfl))
  try simp only [Act.put, List.setIfInBounds_toArray, List.set_cons_zero, List.set_cons_succ]
  obtain ⟨⟨hRsD0, hRsD1, hRsD2, hRsD3, hRsD4, hRsD5⟩, hRsD6⟩ := RsD4.out
  refine wpAnyH_ready (rs := [7]) (by kernel_rfl) (by simp) ?_
  refine AllReadyH.cons rfl (fun K hK => ?_) AllReadyH.nil
  go_simp
  refine hK.out _ _ ⟨(((Bw4.out.keep (by have zz0 := Hlt.out; have zz1 := Sz2.out; have zz2 := Sz3.out; have zz3 := Sz4.out; first | omega | (simp; done) | (simp; omega)) _).keep (by have zz0 := Hlt.out; have zz1 := Sz2.out; have zz2 := Sz3.out; have zz3 := Sz4.out; first | omega | (simp; done) | (simp; omega)) _).keep (by have zz0 := Hlt.out; have zz1 := Sz2.out; have zz2 := Sz3.out; have zz3 := Sz4.out; first | omega | (simp; done) | (simp; omega)) _).1, (((By4.out.keep (by have zz0 := Hlt.out; have zz1 := Sz2.out; have zz2 := Sz3.out; have zz3 := Sz4.out; first | omega | (simp; done) | (simp; omega)) _).keep (by have zz0 := Hlt.out; have zz1 := Sz2.out; have zz2 := Sz3.out; have zz3 := Sz4.out; first | omega | (simp; done) | (simp; omega)) _).keep (by have zz0 := Hlt.out; have zz1 := Sz2.out; have zz2 := Sz3.out; have zz3 := Sz4.out; first | omega | (simp; done) | (simp; omega)) _).1⟩ (fun hHeld => ?_)
  clear hK K hHeld
  try simp only [Act.put, List.setIfInBounds_toArray, List.set_cons_zero, List.set_cons_succ]
  refine wpAnyH_done (by kernel_rfl) ?_ _
  go_wp2_with fail
  refine bodyPost_ret (v := .agg #[.int .i64 S9, .slice A9 n9 c9, .int .i64 E']) (by simp [results, Tryd.results68, go_sem, hRsD0, hRsD1, hRsD2]) rfl ⟨S9, A9, n9, c9, by rw [Int.min_eq_right hE], ?_, ?_⟩
  · exact (((Zp4.out.setCell (.inl (by have zz0 := Hlt.out; have zz1 := Sz2.out; have zz2 := Sz3.out; have zz3 := Sz4.out; first | omega | (simp; done) | (simp; omega))) _).setCell (.inl (by have zz0 := Hlt.out; have zz1 := Sz2.out; have zz2 := Sz3.out; have zz3 := Sz4.out; first | omega | (simp; done) | (simp; omega))) _).setCell (.inl (by have zz0 := Hlt.out; have zz1 := Sz2.out; have zz2 := Sz3.out; have zz3 := Sz4.out; first | omega | (simp; done) | (simp; omega))) _).wide (by have zz0 := Hlt.out; have zz1 := Sz2.out; have zz2 := Sz3.out; have zz3 := Sz4.out; first | omega | (simp; done) | (simp; omega)) (by have zz0 := Hlt.out; have zz1 := Sz2.out; have zz2 := Sz3.out; have zz3 := Sz4.out; first | omega | (simp; done) | (simp; omega)) (by have zz0 := Hlt.out; have zz1 := Sz2.out; have zz2 := Sz3.out; have zz3 := Sz4.out; first | omega | (simp; done) | (simp; omega))
  · exact ((Bel4.out.setCell (by have zz0 := Hlt.out; have zz1 := Sz2.out; have zz2 := Sz3.out; have zz3 := Sz4.out; first | omega | (simp; done) | (simp; omega)) _).setCell (by have zz0 := Hlt.out; have zz1 := Sz2.out; have zz2 := Sz3.out; have zz3 := Sz4.out; first | omega | (simp; done) | (simp; omega)) _).setCell (by have zz0 := Hlt.out; have zz1 := Sz2.out; have zz2 := Sz3.out; have zz3 := Sz4.out; first | omega | (simp; done) | (simp; omega)) _

set_option maxHeartbeats 4000000 in
theorem implPlusD_lt (z S E z' S' E' : Int) (A A' : Option Addr) (n c n' c' : Nat) (w : World) (hz : ZV w z S A n c) (hz' : ZV w z' S' A' n' c') (hm : (n : Int) ≤ 4000) (hm' : (n' : Int) ≤ 4000) (h1 : -10000 ≤ E) (h2 : E ≤ 10000) (h3 : -10000 ≤ E') (h4 : E' ≤ 10000) (hT : TabZ w) (hE : E < E') :
    Calls Tryd.prog 68 #[.agg #[.int .i64 S, .slice A n c, .int .i64 E], .agg #[.int .i64 S', .slice A' n' c', .int .i64 E']] w fun e w' => ∃ Sr Ar nr cr, e = .returned (.agg #[.int .i64 Sr, .slice Ar nr cr, .int .i64 (min E E')]) ∧ ZO w' w.heap.size w'.heap.size (sumZ z E z' E') Sr Ar nr cr ∧ Below w.heap.size w w' := by
  have hst := store_int Tryd.prog
  have hst2 := store_slice Tryd.prog
  obtain ⟨w1, hw1, hb1, hb2, hb3, hb4⟩ := dbox2_res w S' S A' A n' n c' c E' E 34 34 34
  have RsD1 := Lib.hid hb3
  have Hlt : Hid (w.heap.size + 1 + 1 < w1.heap.size) := Lib.hid hb3.2
  have Zv1 := Lib.hid (hz.next hb4)
  have Zw1 := Lib.hid (hz'.next hb4)
  have Hz := Lib.hid hz
  have Hz' := Lib.hid hz'
  have HT := Lib.hid hT
  have Hw := Lib.hid hw1
  have Bx1 := Lib.hid hb1
  have By1 := Lib.hid hb2
  have Bel1 := Lib.hid hb4
  have Hn : Hid ((limbs z.natAbs).length = n) := Lib.hid hz.2.1
  have Hn' : Hid ((limbs z'.natAbs).length = n') := Lib.hid hz'.2.1
  have Hm : Hid ((n : Int) ≤ 4000 ∧ (n' : Int) ≤ 4000) := Lib.hid ⟨hm, hm'⟩
  have Tb1 := Lib.hid (hT.next hb4)
  clear hT
  clear hz hz' hw1 hb1 hb2 hb4 hb3
  clear Zv1 Zw1 Tb1
  go_enter Tryd.func68, Tryd.ntmps68
  go_wp2_with fail
  rw [← Hw.out]
  obtain ⟨⟨hBx0, hBx1, hBx2⟩, hBx3⟩ := Bx1.out
  obtain ⟨⟨hBy0, hBy1, hBy2⟩, hBy3⟩ := By1.out
  obtain ⟨⟨hRsD0, hRsD1, hRsD2, hRsD3, hRsD4, hRsD5⟩, hRsD6⟩ := RsD1.out
  refine (implShifted_any z' S' (E' - E) A' n' c' _ (Hz'.out.next Bel1.out) (by have := Hm.out.2; omega) (by omega) (by omega) (HT.out.next Bel1.out)).mono ?_
  rintro e w2 ⟨S2, A2, n2, c2, rfl, hzo, hb⟩
  have Zo2 := Lib.hid hzo
  clear hzo
  have Sz2 := Lib.hid (Below.size hb)
  have Bel2 := Lib.hid (belNext Bel1.out hb)
  have Bx2 := Lib.hid (Bx1.out.next hb)
  have By2 := Lib.hid (By1.out.next hb)
  have RsD2 := Lib.hid (RsD1.out.next hb)
  clear hb Bel1 Bx1 By1 RsD1 hBx0 hBx1 hBx2 hBx3 hBy0 hBy1 hBy2 hBy3 hRsD0 hRsD1 hRsD2 hRsD3 hRsD4 hRsD5 hRsD6
  obtain ⟨⟨hBx0, hBx1, hBx2⟩, hBx3⟩ := Bx2.out
  obtain ⟨⟨hBy0, hBy1, hBy2⟩, hBy3⟩ := By2.out
  obtain ⟨⟨hRsD0, hRsD1, hRsD2, hRsD3, hRsD4, hRsD5⟩, hRsD6⟩ := RsD2.out
  go_wp2_with fail
  obtain ⟨w3, hw⟩ : ∃ w3, w3 = w2.alloc (.cells #[.int .i64 S2, .slice A2 n2 c2] 26) := ⟨_, rfl⟩
  have hb : Below w2.heap.size w2 w3 := by rw [hw]; exact belAlloc1 _ _
  have Bw3 : Hid (Box w3 w2.heap.size S2 A2 n2 c2) := Lib.hid (by rw [hw]; exact Box.new _ _ _ _ _ _)
  rw [← hw]
  clear hw
  have Sz3 := Lib.hid (Below.size hb)
  have Bel3 := Lib.hid (belNext Bel2.out hb)
  have Bx3 := Lib.hid (Bx2.out.next hb)
  have By3 := Lib.hid (By2.out.next hb)
  have RsD3 := Lib.hid (RsD2.out.next hb)
  have Zo3 := Lib.hid (Zo2.out.next hb)
  clear hb Bel2 Bx2 By2 RsD2 Zo2 hBx0 hBx1 hBx2 hBx3 hBy0 hBy1 hBy2 hBy3 hRsD0 hRsD1 hRsD2 hRsD3 hRsD4 hRsD5 hRsD6
  have Hl2 : Hid ((n2 : Int) ≤ 90000) := Lib.hid (by have h := shl_len Hn'.out (E' - E).toNat; have e := Zo3.out.2.1; rw [shZ_up (by omega), abs_pow_mul] at e; have := Hm.out; omega)
  refine wp_region_held_drew (S := fun w' => (w'.cell? ⟨w2.heap.size, 0, none⟩ = some (.int .i64 S2) ∧ w'.cell? ⟨w2.heap.size, 1, none⟩ = some (.slice A2 n2 c2)) ∧ (w'.cell? ⟨w.heap.size + 1, 0, none⟩ = some (.int .i64 S) ∧ w'.cell? ⟨w.heap.size + 1, 1, none⟩ = some (.slice A n c) ∧ w'.cell? ⟨w.heap.size + 1, 2, none⟩ = some (.int .i64 E))) (by kernel_rfl) ⟨Bw3.out.1, By3.out.1⟩ (fun hHeld => ?_)
  refine wpAnyH_take (i := 0) (v := ?_) rfl (by kernel_rfl) (by kernel_rfl) (by kernel_rfl) (fun _ _ _ h => h) (Or.inl ⟨by rfl, ?_⟩) (by assumption) ?_
  rotate_left
  · (intro w hSw; (try dsimp only at hSw); go_simp; (try with_reducible rfl))
  try simp only [Act.put, List.setIfInBounds_toArray, List.set_cons_zero, List.set_cons_succ]
  refine wpAnyH_take (i := 1) (v := ?_) rfl (by kernel_rfl) (by kernel_rfl) (by kernel_rfl) (fun _ _ _ h => h) (Or.inl ⟨by rfl, ?_⟩) (by assumption) ?_
  rotate_left
  · (intro w hSw; (try dsimp only at hSw); go_simp; (try with_reducible rfl))
  try simp only [Act.put, List.setIfInBounds_toArray, List.set_cons_zero, List.set_cons_succ]
  refine wpAnyH_take (i := 2) (v := ?_) rfl (by kernel_rfl) (by kernel_rfl) (by kernel_rfl) (fun _ _ _ h => h) (Or.inl ⟨by rfl, ?_⟩) (by assumption) ?_
  rotate_left
  · (intro w hSw; (try dsimp only at hSw); go_simp; (try with_reducible rfl))
  try simp only [Act.put, List.setIfInBounds_toArray, List.set_cons_zero, List.set_cons_succ]
  refine wpAnyH_take (i := 4) (v := ?_) rfl (by kernel_rfl) (by kernel_rfl) (by kernel_rfl) (fun _ _ _ h => h) (Or.inl ⟨by rfl, ?_⟩) (by assumption) ?_
  rotate_left
  · (intro w hSw; (try dsimp only at hSw); go_simp; (try with_reducible rfl))
  try simp only [Act.put, List.setIfInBounds_toArray, List.set_cons_zero, List.set_cons_succ]
  refine wpAnyH_take (i := 5) (v := ?_) rfl (by kernel_rfl) (by kernel_rfl) (by kernel_rfl) (fun _ _ _ h => h) (Or.inl ⟨by rfl, ?_⟩) (by assumption) ?_
  rotate_left
  · (intro w hSw; (try dsimp only at hSw); go_simp; (try with_reducible rfl))
  try simp only [Act.put, List.setIfInBounds_toArray, List.set_cons_zero, List.set_cons_succ]
  refine wpAnyH_ready (rs := [3]) (by kernel_rfl) (by simp) ?_
  refine AllReadyH.cons rfl (fun K hK => ?_) AllReadyH.nil
  go_simp
  refine (implPlus_any S2 S (shZ z' (E' - E)).natAbs z.natAbs A2 A n2 n c2 c w3.drew Zo3.out.zv.sg (Hz.out.next Bel3.out).sg Zo3.out.zv.rd (Hz.out.next Bel3.out).rd Zo3.out.2.1 Hn.out Hl2.out (by have := Hm.out.1; omega)).mono ?_
  rintro e w4 ⟨val, rfl, hv, hb0⟩
  have hb : Below w3.heap.size w3 w4 := belDrew hb0
  obtain ⟨S9, A9, n9, c9, rfl, hzo⟩ := Wz.zo (hv.cast_ (z' := sumZ z E z' E') (by rw [Zo3.out.zv.val, (Hz.out.next Bel3.out).val, shZ_up (by omega)]; rw [Int.add_comm]; exact (sumZ_le (by omega)).symm)) (Nat.le_refl _)
  have Zp4 := Lib.hid hzo
  clear hv hzo
  refine hK.out _ _ ⟨(Bw3.out.next hb).1, (By3.out.next hb).1⟩ (fun hHeld => ?_)
  clear hK K hb0
  have Sz4 := Lib.hid (Below.size hb)
  have Bel4 := Lib.hid (belNext Bel3.out hb)
  have Bx4 := Lib.hid (Bx3.out.next hb)
  have By4 := Lib.hid (By3.out.next hb)
  have RsD4 := Lib.hid (RsD3.out.next hb)
  have Zo4 := Lib.hid (Zo3.out.next hb)
  have Bw4 := Lib.hid (Bw3.out.next hb)
  clear hb Bel3 Bx3 By3 RsD3 Zo3 Bw3
  try simp only [Act.put, List.setIfInBounds_toArray, List.set_cons_zero, List.set_cons_succ]
  refine wpAnyH_take (i := 6) (v := ?_) rfl (by kernel_rfl) (by kernel_rfl) (by kernel_rfl) (fun _ _ _ h => h) (Or.inl ⟨by rfl, ?_⟩) (by assumption) ?_
  rotate_left
  · (intro w hSw; (try dsimp only at hSw); go_simp; (try with_reducible rfl))
  try simp only [Act.put, List.setIfInBounds_toArray, List.set_cons_zero, List.set_cons_succ]
  obtain ⟨⟨hRsD0, hRsD1, hRsD2, hRsD3, hRsD4, hRsD5⟩, hRsD6⟩ := RsD4.out
  refine wpAnyH_ready (rs := [7]) (by kernel_rfl) (by simp) ?_
  refine AllReadyH.cons rfl (fun K hK => ?_) AllReadyH.nil
  go_simp
  refine hK.out _ _ ⟨(((Bw4.out.keep (by have zz0 := Hlt.out; have zz1 := Sz2.out; have zz2 := Sz3.out; have zz3 := Sz4.out; first | omega | (simp; done) | (simp; omega)) _).keep (by have zz0 := Hlt.out; have zz1 := Sz2.out; have zz2 := Sz3.out; have zz3 := Sz4.out; first | omega | (simp; done) | (simp; omega)) _).keep (by have zz0 := Hlt.out; have zz1 := Sz2.out; have zz2 := Sz3.out; have zz3 := Sz4.out; first | omega | (simp; done) | (simp; omega)) _).1, (((By4.out.keep (by have zz0 := Hlt.out; have zz1 := Sz2.out; have zz2 := Sz3.out; have zz3 := Sz4.out; first | omega | (simp; done) | (simp; omega)) _).keep (by have zz0 := Hlt.out; have zz1 := Sz2.out; have zz2 := Sz3.out; have zz3 := Sz4.out; first | omega | (simp; done) | (simp; omega)) _).keep (by have zz0 := Hlt.out; have zz1 := Sz2.out; have zz2 := Sz3.out; have zz3 := Sz4.out; first | omega | (simp; done) | (simp; omega)) _).1⟩ (fun hHeld => ?_)
  clear hK K hHeld
  try simp only [Act.put, List.setIfInBounds_toArray, List.set_cons_zero, List.set_cons_succ]
  refine wpAnyH_done (by kernel_rfl) ?_ _
  go_wp2_with fail
  refine bodyPost_ret (v := .agg #[.int .i64 S9, .slice A9 n9 c9, .int .i64 E]) (by simp [results, Tryd.results68, go_sem, hRsD0, hRsD1, hRsD2]) rfl ⟨S9, A9, n9, c9, by rw [Int.min_eq_left (by omega)], ?_, ?_⟩
  · exact (((Zp4.out.setCell (.inl (by have zz0 := Hlt.out; have zz1 := Sz2.out; have zz2 := Sz3.out; have zz3 := Sz4.out; first | omega | (simp; done) | (simp; omega))) _).setCell (.inl (by have zz0 := Hlt.out; have zz1 := Sz2.out; have zz2 := Sz3.out; have zz3 := Sz4.out; first | omega | (simp; done) | (simp; omega))) _).setCell (.inl (by have zz0 := Hlt.out; have zz1 := Sz2.out; have zz2 := Sz3.out; have zz3 := Sz4.out; first | omega | (simp; done) | (simp; omega))) _).wide (by have zz0 := Hlt.out; have zz1 := Sz2.out; have zz2 := Sz3.out; have zz3 := Sz4.out; first | omega | (simp; done) | (simp; omega)) (by have zz0 := Hlt.out; have zz1 := Sz2.out; have zz2 := Sz3.out; have zz3 := Sz4.out; first | omega | (simp; done) | (simp; omega)) (by have zz0 := Hlt.out; have zz1 := Sz2.out; have zz2 := Sz3.out; have zz3 := Sz4.out; first | omega | (simp; done) | (simp; omega))
  · exact ((Bel4.out.setCell (by have zz0 := Hlt.out; have zz1 := Sz2.out; have zz2 := Sz3.out; have zz3 := Sz4.out; first | omega | (simp; done) | (simp; omega)) _).setCell (by have zz0 := Hlt.out; have zz1 := Sz2.out; have zz2 := Sz3.out; have zz3 := Sz4.out; first | omega | (simp; done) | (simp; omega)) _).setCell (by have zz0 := Hlt.out; have zz1 := Sz2.out; have zz2 := Sz3.out; have zz3 := Sz4.out; first | omega | (simp; done) | (simp; omega)) _

theorem implPlusD_any (z S E z' S' E' : Int) (A A' : Option Addr) (n c n' c' : Nat) (w : World) (hz : ZV w z S A n c) (hz' : ZV w z' S' A' n' c') (hm : (n : Int) ≤ 4000) (hm' : (n' : Int) ≤ 4000) (h1 : -10000 ≤ E) (h2 : E ≤ 10000) (h3 : -10000 ≤ E') (h4 : E' ≤ 10000) (hT : TabZ w) :
    Calls Tryd.prog 68 #[.agg #[.int .i64 S, .slice A n c, .int .i64 E], .agg #[.int .i64 S', .slice A' n' c', .int .i64 E']] w fun e w' => ∃ Sr Ar nr cr, e = .returned (.agg #[.int .i64 Sr, .slice Ar nr cr, .int .i64 (min E E')]) ∧ ZO w' w.heap.size w'.heap.size (sumZ z E z' E') Sr Ar nr cr ∧ Below w.heap.size w w' := by
  rcases Int.lt_or_le E E' with h | h
  · exact implPlusD_lt z S E z' S' E' A A' n c n' c' w hz hz' hm hm' h1 h2 h3 h4 hT h
  · exact implPlusD_ge z S E z' S' E' A A' n c n' c' w hz hz' hm hm' h1 h2 h3 h4 hT h

set_option maxHeartbeats 4000000 in
theorem implCmpD_any (z S E z' S' E' : Int) (A A' : Option Addr) (n c n' c' : Nat) (w : World) (hz : ZV w z S A n c) (hz' : ZV w z' S' A' n' c') (hm : (n : Int) ≤ 4000) (hm' : (n' : Int) ≤ 4000) (h1 : -10000 ≤ E) (h2 : E ≤ 10000) (h3 : -10000 ≤ E') (h4 : E' ≤ 10000) (hT : TabZ w) :
    Calls Tryd.prog 74 #[.agg #[.int .i64 S, .slice A n c, .int .i64 E], .agg #[.int .i64 S', .slice A' n' c', .int .i64 E']] w fun e w' => e = .returned (.int .i64 (sumZ z E (-z') E').sign) ∧ Below w.heap.size w w' := by
  have hst := store_int Tryd.prog
  have hst2 := store_slice Tryd.prog
  obtain ⟨w1, hw1, hb1, hb2, hb4⟩ := dbox2 w S S' A A' n n' c c' E E' 34 34
  have Hlt : Hid (w.heap.size + 1 < w1.heap.size) := Lib.hid hb2.2
  have Zv1 := Lib.hid (hz.next hb4)
  have Zw1 := Lib.hid (hz'.next hb4)
  have Hw := Lib.hid hw1
  have Bx1 := Lib.hid hb1
  have By1 := Lib.hid hb2
  have Bel1 := Lib.hid hb4
  have Hn : Hid ((limbs z.natAbs).length = n) := Lib.hid hz.2.1
  have Hn' : Hid ((limbs z'.natAbs).length = n') := Lib.hid hz'.2.1
  have Hm : Hid ((n : Int) ≤ 4000 ∧ (n' : Int) ≤ 4000) := Lib.hid ⟨hm, hm'⟩
  have Tb1 := Lib.hid (hT.next hb4)
  clear hT
  clear hz hz' hw1 hb1 hb2 hb4
  go_enter Tryd.func74, Tryd.ntmps74
  go_wp2_with fail
  rw [← Hw.out]
  refine wp_region_held_drew (S := fun w' => (w'.cell? ⟨w.heap.size, 0, none⟩ = some (.int .i64 S) ∧ w'.cell? ⟨w.heap.size, 1, none⟩ = some (.slice A n c) ∧ w'.cell? ⟨w.heap.size, 2, none⟩ = some (.int .i64 E)) ∧ (w'.cell? ⟨w.heap.size + 1, 0, none⟩ = some (.int .i64 S') ∧ w'.cell? ⟨w.heap.size + 1, 1, none⟩ = some (.slice A' n' c') ∧ w'.cell? ⟨w.heap.size + 1, 2, none⟩ = some (.int .i64 E'))) (by kernel_rfl) ⟨Bx1.out.1, By1.out.1⟩ (fun hHeld => ?_)
  refine wpAnyH_take (i := 0) (v := ?_) rfl (by kernel_rfl) (by kernel_rfl) (by kernel_rfl) (fun _ _ _ h => h) (Or.inl ⟨by rfl, ?_⟩) (by assumption) ?_
  rotate_left
  · (intro w hSw; (try dsimp only at hSw); go_simp; (try with_reducible rfl))
  try simp only [Act.put, List.setIfInBounds_toArray, List.set_cons_zero, List.set_cons_succ]
  refine wpAnyH_take (i := 1) (v := ?_) rfl (by kernel_rfl) (by kernel_rfl) (by kernel_rfl) (fun _ _ _ h => h) (Or.inl ⟨by rfl, ?_⟩) (by assumption) ?_
  rotate_left
  · (intro w hSw; (try dsimp only at hSw); go_simp; (try with_reducible rfl))
  try simp only [Act.put, List.setIfInBounds_toArray, List.set_cons_zero, List.set_cons_succ]
  refine wpAnyH_ready (rs := [2]) (by kernel_rfl) (by simp) ?_
  refine AllReadyH.cons rfl (fun K hK => ?_) AllReadyH.nil
  go_simp
  refine (implOppD_any S' E' A' n' c' w1.drew Zw1.out.sg.1 Zw1.out.sg.2.1).mono ?_
  rintro e w2 ⟨rfl, hb0⟩
  have hb : Below w1.heap.size w1 w2 := belDrew hb0
  refine hK.out _ _ ⟨(Bx1.out.next hb).1, (By1.out.next hb).1⟩ (fun hHeld => ?_)
  clear hK K hb0
  have Sz2 := Lib.hid (Below.size hb)
  have Bel2 := Lib.hid (belNext Bel1.out hb)
  have Bx2 := Lib.hid (Bx1.out.next hb)
  have By2 := Lib.hid (By1.out.next hb)
  have Zv2 := Lib.hid (Zv1.out.next hb)
  have Zw2 := Lib.hid (Zw1.out.next hb)
  have Tb2 := Lib.hid (Tb1.out.next hb)
  clear hb Bel1 Bx1 By1 Zv1 Zw1 Tb1
  try simp only [Act.put, List.setIfInBounds_toArray, List.set_cons_zero, List.set_cons_succ]
  refine wpAnyH_ready (rs := [3]) (by kernel_rfl) (by simp) ?_
  refine AllReadyH.cons rfl (fun K hK => ?_) AllReadyH.nil
  go_simp
  refine (implPlusD_any z S E (-z') (-S') E' A A' n c n' c' w2 Zv2.out Zw2.out.neg Hm.out.1 Hm.out.2 h1 h2 h3 h4 Tb2.out).mono ?_
  rintro e w3 ⟨S9, A9, n9, c9, rfl, hzo, hb0⟩
  have hb : Below w2.heap.size w2 w3 := hb0
  have Zp3 := Lib.hid hzo
  clear hzo
  refine hK.out _ _ ⟨(Bx2.out.next hb).1, (By2.out.next hb).1⟩ (fun hHeld => ?_)
  clear hK K hb0
  have Sz3 := Lib.hid (Below.size hb)
  have Bel3 := Lib.hid (belNext Bel2.out hb)
  have Bx3 := Lib.hid (Bx2.out.next hb)
  have By3 := Lib.hid (By2.out.next hb)
  have Zv3 := Lib.hid (Zv2.out.next hb)
  have Zw3 := Lib.hid (Zw2.out.next hb)
  have Tb3 := Lib.hid (Tb2.out.next hb)
  clear hb Bel2 Bx2 By2 Zv2 Zw2 Tb2
  try simp only [Act.put, List.setIfInBounds_toArray, List.set_cons_zero, List.set_cons_succ]
  have hf1 : ∀ w, (Instr.field 34 (.agg #[.int .i64 S9, .slice A9 n9 c9, .int .i64 (min E E')]) 0).run Tryd.prog w = .ok (.agg #[.int .i64 S9, .slice A9 n9 c9]) w := fun _ => by kernel_rfl
  have hf2 : ∀ w, (Instr.field 26 (.agg #[.int .i64 S9, .slice A9 n9 c9]) 0).run Tryd.prog w = .ok (.int .i64 S9) w := fun _ => by kernel_rfl
  refine wpAnyH_take (i := 4) (v := ?_) rfl (by kernel_rfl) (by kernel_rfl) (by kernel_rfl) (fun _ _ _ h => h) (Or.inl ⟨by rfl, ?_⟩) (by assumption) ?_
  rotate_left
  · (intro w hSw; (try dsimp only at hSw); go_simp; (try with_reducible rfl))
  try simp only [Act.put, List.setIfInBounds_toArray, List.set_cons_zero, List.set_cons_succ]
  refine wpAnyH_take (i := 5) (v := ?_) rfl (by kernel_rfl) (by kernel_rfl) (by kernel_rfl) (fun _ _ _ h => h) (Or.inl ⟨by rfl, ?_⟩) (by assumption) ?_
  rotate_left
  · (intro w hSw; (try dsimp only at hSw); go_simp; (try with_reducible rfl))
  try simp only [Act.put, List.setIfInBounds_toArray, List.set_cons_zero, List.set_cons_succ]
  refine wpAnyH_ready (rs := [6]) (by kernel_rfl) (by simp) ?_
  refine AllReadyH.cons rfl (fun K hK => ?_) AllReadyH.nil
  go_simp
  refine hK.out _ _ hHeld (fun hHeld => ?_)
  clear hK K
  try simp only [Act.put, List.setIfInBounds_toArray, List.set_cons_zero, List.set_cons_succ]
  clear hHeld
  refine wpAnyH_done (by kernel_rfl) ?_ _
  go_wp2_with fail
  go_ret
  exact ⟨ret_int Zp3.out.1, Bel3.out⟩
end Go.Proofs.YtnnoobdcdfcdaaaDoor
