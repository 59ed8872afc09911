/- The model's numbers without their last twos, limited; ranges; shifts. -/
import Derived.Test.YtnnoobdcdfcdaaaDoorHh
import Derived.Test.YtnnoobdcdfcdaaaDoorBy
namespace Go.Proofs.YtnnoobdcdfcdaaaDoor
set_option maxRecDepth 100000
open Go.RowKit
set_option linter.unusedSimpArgs false
set_option linter.unusedVariables false

set_option maxHeartbeats 2000000 in
theorem specMakeD_any (z S E : Int) (A : Option Addr) (n c : Nat) (w : World) (hz : ZV w z S A n c) (hm : (n : Int) ≤ 4000) (h1 : -1000000 ≤ E) (h2 : E ≤ 1000000) :
    Calls Tryd.prog 62 #[.agg #[.int .i64 S, .slice A n c], .int .i64 E] w fun e w' => ∃ Sr Ar nr cr, e = .returned (.agg #[.int .i64 Sr, .slice Ar nr cr, .int .i64 (nx z E)]) ∧ ZO w' w.heap.size w'.heap.size (nz z) Sr Ar nr cr ∧ Below w.heap.size w w' := by
  have hst := store_int Tryd.prog
  have hst2 := store_slice Tryd.prog
  obtain ⟨w1, hw1⟩ : ∃ w1, w1 = (w.alloc (.cells #[.int .i64 S, .slice A n c] 26)).alloc (.cells #[.int .i64 0, .slice none 0 0, .int .i64 0] 34) := ⟨_, rfl⟩
  have Bx1 : Hid (Box w1 w.heap.size S A n c) := Lib.hid (by rw [hw1]; exact (Box.new _ _ _ _ _ _).next (belAlloc1 _ _))
  have RsD1 : Hid (DRes w1 (w.heap.size + 1)) := Lib.hid (by rw [hw1]; have h := DRes.new (w.alloc (.cells #[.int .i64 S, .slice A n c] 26)) 34; simpa using h)
  have Bel1 : Hid (Below w.heap.size w w1) := Lib.hid (by rw [hw1]; exact belNext (belAlloc1 _ _) (belAlloc1 _ _))
  have Hlt : Hid (w.heap.size + 1 < w1.heap.size) := Lib.hid RsD1.out.2
  have Hz := Lib.hid hz
  have HS : Hid (S = z.sign) := Lib.hid hz.1
  have Hm := Lib.hid hm
  have Hw := Lib.hid hw1
  clear hz hw1
  by_cases h0 : z = 0
  · have hs0 : S = 0 := (sign_eq_zero HS.out).2 h0
    have H0 := Lib.hid h0
    subst hs0
    clear h0
    go_enter Tryd.func62, Tryd.ntmps62
    go_wp2_with fail
    rw [← Hw.out]
    obtain ⟨⟨hBx0, hBx1⟩, hBx2⟩ := Bx1.out
    obtain ⟨⟨hRsD0, hRsD1, hRsD2, hRsD3, hRsD4, hRsD5⟩, hRsD6⟩ := RsD1.out
    refine bodyPost_ret (v := .agg #[.int .i64 0, .slice none 0 0, .int .i64 0]) (by simp [results, Tryd.results62, go_sem, hRsD0, hRsD1, hRsD2]) rfl ⟨0, none, 0, 0, by rw [H0.out, nx_zero], by rw [H0.out, nz_zero]; exact ZO.zero (Nat.le_refl _), Bel1.out⟩
  · have hs0 : (S == 0) = false := beq_false_of_ne (fun e => h0 ((sign_eq_zero HS.out).1 e))
    have H0 := Lib.hid h0
    have Hnx : Hid (nx z E = E + (tz z.natAbs : Nat)) := Lib.hid (nx_ne h0)
    have Ht : Hid ((tz z.natAbs : Int) ≤ 96000) := Lib.hid (by have := tz_le Hz.out.2.1; have := Hm.out; omega)
    clear h0
    go_enter Tryd.func62, Tryd.ntmps62
    go_wp2_with fail
    rw [← Hw.out]
    obtain ⟨⟨hBx0, hBx1⟩, hBx2⟩ := Bx1.out
    obtain ⟨⟨hRsD0, hRsD1, hRsD2, hRsD3, hRsD4, hRsD5⟩, hRsD6⟩ := RsD1.out
    go_wp2_with fail
    refine (specTwos_any z S A n c _ (Hz.out.next Bel1.out) H0.out Hm.out).mono ?_
    rintro e w2 ⟨rfl, hb⟩
    have Sz2 := Lib.hid (Below.size hb)
    have Bel2 := Lib.hid (belNext Bel1.out hb)
    have Bx2 := Lib.hid (Bx1.out.next hb)
    have RsD2 := Lib.hid (RsD1.out.next hb)
    clear hb Bel1 Bx1 RsD1 hBx0 hBx1 hBx2 hRsD0 hRsD1 hRsD2 hRsD3 hRsD4 hRsD5 hRsD6
    obtain ⟨⟨hBx0, hBx1⟩, hBx2⟩ := Bx2.out
    obtain ⟨⟨hRsD0, hRsD1, hRsD2, hRsD3, hRsD4, hRsD5⟩, hRsD6⟩ := RsD2.out
    obtain ⟨zt, hzt⟩ : ∃ zt, zt = tz z.natAbs := ⟨_, rfl⟩
    rw [← hzt] at Ht Hnx ⊢
    have Hzt := Lib.hid hzt
    have hzt1 : (zt : Int) ≤ 96000 := Ht.out
    clear hzt
    go_wp2_with fail
    refine (specCut_any z S A n c zt _ (Hz.out.next Bel2.out) Hm.out (by omega)).mono ?_
    rintro e w3 ⟨S2, A2, n2, c2, rfl, hzo, hb⟩
    have Zo3 := Lib.hid (hzo.cast_ (z' := nz z) (by rw [Hzt.out, cutZ_nz]))
    clear hzo
    have Sz3 := Lib.hid (Below.size hb)
    have Bel3 := Lib.hid (belNext Bel2.out hb)
    have Bx3 := Lib.hid (Bx2.out.next hb)
    have RsD3 := Lib.hid (RsD2.out.next hb)
    clear hb Bel2 Bx2 RsD2 hBx0 hBx1 hBx2 hRsD0 hRsD1 hRsD2 hRsD3 hRsD4 hRsD5 hRsD6
    obtain ⟨⟨hBx0, hBx1⟩, hBx2⟩ := Bx3.out
    obtain ⟨⟨hRsD0, hRsD1, hRsD2, hRsD3, hRsD4, hRsD5⟩, hRsD6⟩ := RsD3.out
    go_wp2_with fail
    refine bodyPost_ret (v := .agg #[.int .i64 S2, .slice A2 n2 c2, .int .i64 (E + (zt : Int))]) (by simp [results, Tryd.results62, go_sem, hRsD0, hRsD1, hRsD2]) rfl ⟨S2, A2, n2, c2, by rw [Hnx.out], ?_, ?_⟩
    · exact (((Zo3.out.setCell (.inl (by have zz0 := Hlt.out; have zz1 := Sz2.out; have zz2 := Sz3.out; first | omega | (simp; done) | (simp; omega))) _).setCell (.inl (by have zz0 := Hlt.out; have zz1 := Sz2.out; have zz2 := Sz3.out; first | omega | (simp; done) | (simp; omega))) _).setCell (.inl (by have zz0 := Hlt.out; have zz1 := Sz2.out; have zz2 := Sz3.out; first | omega | (simp; done) | (simp; omega))) _).wide (by have zz0 := Hlt.out; have zz1 := Sz2.out; have zz2 := Sz3.out; first | omega | (simp; done) | (simp; omega)) (by have zz0 := Hlt.out; have zz1 := Sz2.out; have zz2 := Sz3.out; first | omega | (simp; done) | (simp; omega)) (by have zz0 := Hlt.out; have zz1 := Sz2.out; have zz2 := Sz3.out; first | omega | (simp; done) | (simp; omega))
    · exact ((Bel3.out.setCell (by have zz0 := Hlt.out; have zz1 := Sz2.out; have zz2 := Sz3.out; first | omega | (simp; done) | (simp; omega)) _).setCell (by have zz0 := Hlt.out; have zz1 := Sz2.out; have zz2 := Sz3.out; first | omega | (simp; done) | (simp; omega)) _).setCell (by have zz0 := Hlt.out; have zz1 := Sz2.out; have zz2 := Sz3.out; first | omega | (simp; done) | (simp; omega)) _

set_option maxHeartbeats 2000000 in
theorem specFitD_any (z E S E' : Int) (A : Option Addr) (n c lo hi : Nat) (w : World) (hz : ZO w lo hi (nz z) S A n c) (hm : n ≤ 1048580) (hE : E' = nx z E) (hlo : lo ≤ w.heap.size) :
    Calls Tryd.prog 61 #[.agg #[.int .i64 S, .slice A n c, .int .i64 E']] w fun e w' => ∃ Sr Ar nr cr, e = .returned (.tuple #[.agg #[.int .i64 Sr, .slice Ar nr cr, .int .i64 (fdX z E)], .int .i64 (fdE z E)]) ∧ ZO w' lo w'.heap.size (fdZ z E) Sr Ar nr cr ∧ Below w.heap.size w w' := by
  have hst := store_int Tryd.prog
  have hst2 := store_slice Tryd.prog
  obtain ⟨w1, hw1, hb1, hb3, hb4⟩ := dbox_res w S A n c E' 34 34
  have RsD1 := Lib.hid hb3
  have Hlt : Hid (w.heap.size + 1 < w1.heap.size ∧ hi ≤ w.heap.size) := Lib.hid ⟨hb3.2, hz.2.2.2.2⟩
  have Zo1 := Lib.hid (hz.next hb4)
  have Hw := Lib.hid hw1
  have Bx1 := Lib.hid hb1
  have Bel1 := Lib.hid hb4
  have HS : Hid (S = (nz z).sign) := Lib.hid hz.1
  have Hn : Hid ((li (limbs (nz z).natAbs)).length = n) := Lib.hid (by rw [li_len]; exact hz.2.1)
  have Hm := Lib.hid hm
  have HE := Lib.hid hE
  have Hlo := Lib.hid hlo
  clear hz hw1 hb1 hb3 hb4 hE hlo
  go_enter Tryd.func61, Tryd.ntmps61
  go_wp2_with fail
  rw [← Hw.out]
  obtain ⟨⟨hBx0, hBx1, hBx2⟩, hBx3⟩ := Bx1.out
  obtain ⟨⟨hRsD0, hRsD1, hRsD2, hRsD3, hRsD4, hRsD5⟩, hRsD6⟩ := RsD1.out
  refine (specIsD_any S A n c E' (li (limbs (nz z).natAbs)) _ (by rw [← vs_li]; exact Zo1.out.zv.rd) Hn.out Hm.out).mono ?_
  rintro e w2 ⟨rfl, hb⟩
  have Sz2 := Lib.hid (Below.size hb)
  have Bel2 := Lib.hid (belNext Bel1.out hb)
  have Bx2 := Lib.hid (Bx1.out.next hb)
  have RsD2 := Lib.hid (RsD1.out.next hb)
  have Zo2 := Lib.hid (Zo1.out.next hb)
  clear hb Bel1 Bx1 RsD1 Zo1 hBx0 hBx1 hBx2 hBx3 hRsD0 hRsD1 hRsD2 hRsD3 hRsD4 hRsD5 hRsD6
  obtain ⟨⟨hBx0, hBx1, hBx2⟩, hBx3⟩ := Bx2.out
  obtain ⟨⟨hRsD0, hRsD1, hRsD2, hRsD3, hRsD4, hRsD5⟩, hRsD6⟩ := RsD2.out
  by_cases hf : okN z E
  · have hi1 := isD_nrm HS.out hf
    rw [← HE.out] at hi1
    rw [hi1]
    have Hf := Lib.hid hf
    clear hi1 hf
    go_wp2_with fail
    refine bodyPost_ret (v := .tuple #[.agg #[.int .i64 S, .slice A n c, .int .i64 E'], .int .i64 0]) (by simp [results, Tryd.results61, go_sem, hRsD0, hRsD1, hRsD2]) rfl ⟨S, A, n, c, by rw [(fd_yes Hf.out).2.1, (fd_yes Hf.out).2.2, HE.out], ?_, ?_⟩
    · rw [(fd_yes Hf.out).1]; exact (((Zo2.out.setCell (.inr (by have zz0 := Hlt.out; have zy := Hlo.out; have zz1 := Sz2.out; first | omega | (simp; done) | (simp; omega))) _).setCell (.inr (by have zz0 := Hlt.out; have zy := Hlo.out; have zz1 := Sz2.out; first | omega | (simp; done) | (simp; omega))) _).setCell (.inr (by have zz0 := Hlt.out; have zy := Hlo.out; have zz1 := Sz2.out; first | omega | (simp; done) | (simp; omega))) _).wide (Nat.le_refl _) (by have zz0 := Hlt.out; have zy := Hlo.out; have zz1 := Sz2.out; first | omega | (simp; done) | (simp; omega)) (by have zz0 := Hlt.out; have zy := Hlo.out; have zz1 := Sz2.out; first | omega | (simp; done) | (simp; omega))
    · exact ((Bel2.out.setCell (by have zz0 := Hlt.out; have zy := Hlo.out; have zz1 := Sz2.out; first | omega | (simp; done) | (simp; omega)) _).setCell (by have zz0 := Hlt.out; have zy := Hlo.out; have zz1 := Sz2.out; first | omega | (simp; done) | (simp; omega)) _).setCell (by have zz0 := Hlt.out; have zy := Hlo.out; have zz1 := Sz2.out; first | omega | (simp; done) | (simp; omega)) _
  · have hi1 := not_isD_nrm HS.out hf
    rw [← HE.out] at hi1
    rw [hi1]
    have Hf := Lib.hid hf
    clear hi1 hf
    go_wp2_with fail
    refine bodyPost_ret (v := .tuple #[.agg #[.int .i64 0, .slice none 0 0, .int .i64 0], .int .i64 3]) (by simp [results, Tryd.results61, go_sem, hRsD0, hRsD1, hRsD2]) rfl ⟨0, none, 0, 0, by rw [(fd_no Hf.out).2.1, (fd_no Hf.out).2.2], ?_, ?_⟩
    · rw [(fd_no Hf.out).1]; exact ZO.zero (Nat.le_refl _)
    · exact ((Bel2.out.setCell (by have zz0 := Hlt.out; have zz1 := Sz2.out; first | omega | (simp; done) | (simp; omega)) _).setCell (by have zz0 := Hlt.out; have zz1 := Sz2.out; first | omega | (simp; done) | (simp; omega)) _).setCell (by have zz0 := Hlt.out; have zz1 := Sz2.out; first | omega | (simp; done) | (simp; omega)) _

theorem cutZ_abs {z S : Int} (hS : S = z.sign) {m : Nat} : (cutZ z m).natAbs = z.natAbs / 2 ^ m := by
  unfold cutZ
  generalize hq : z.natAbs / 2 ^ m = q
  rcases Int.lt_trichotomy z 0 with h | h | h
  · rw [Int.sign_eq_neg_one_of_neg h]; omega
  · subst h; simp at hq; subst hq; simp
  · rw [Int.sign_eq_one_of_pos h]; omega
theorem cut_less {z S : Int} (hS : S = z.sign) (h0 : S < 0) {m : Nat} (hm : 0 < m) (ht : tz z.natAbs < m) : cutZ z m + -(1 : Int) = shZ z (-(m : Int)) := by
  rw [← sh_down_more hS h0 hm ht]
  unfold cutZ
  rw [← hS, sgn_m1 hS h0]
  omega
set_option maxHeartbeats 2000000 in
theorem specShiftU_any (z S : Int) (A : Option Addr) (n c m : Nat) (w : World) (hz : ZV w z S A n c) (hm : (n : Int) ≤ 4000) (hk : (m : Int) ≤ 100000) :
    Calls Tryd.prog 53 #[.agg #[.int .i64 S, .slice A n c], .int .i64 m] w fun e w' => ∃ Sr Ar nr cr, e = .returned (.agg #[.int .i64 Sr, .slice Ar nr cr]) ∧ ZO w' w.heap.size w'.heap.size (shZ z m) Sr Ar nr cr ∧ Below w.heap.size w w' := by
  have hst := store_int Tryd.prog
  have hst2 := store_slice Tryd.prog
  obtain ⟨w1, hw1, hb1, hb3, hb4⟩ := box_res w S A n c 26 26
  have Hz := Lib.hid hz
  have HS : Hid (S = z.sign) := Lib.hid hz.1
  have Hn : Hid ((limbs z.natAbs).length = n) := Lib.hid hz.2.1
  have Hm := Lib.hid hm
  have Hw := Lib.hid hw1
  have Bx1 := Lib.hid hb1
  have Rs1 := Lib.hid hb3
  have Bel1 := Lib.hid hb4
  have Hlt : Hid (w.heap.size + 1 < w1.heap.size) := Lib.hid hb3.2
  clear hz hw1 hb1 hb3 hb4
  have hm0 : (0 : Int) ≤ m := Int.natCast_nonneg _
  go_enter Tryd.func53, Tryd.ntmps53
  go_wp2_with fail
  rw [← Hw.out]
  obtain ⟨⟨hBx0, hBx1⟩, hBx2⟩ := Bx1.out
  obtain ⟨⟨hRs0, hRs1, hRs2, hRs3⟩, hRs4⟩ := Rs1.out
  refine (specLeft_any z S A n c m _ (Hz.out.next Bel1.out) Hm.out (by omega)).mono ?_
  rintro e w2 ⟨S2, A2, n2, c2, rfl, hzo, hb⟩
  have Zo2 := Lib.hid (hzo.cast_ (z' := shZ z m) (by rw [shZ_up (by omega), Int.toNat_natCast]))
  clear hzo
  have Sz2 := Lib.hid (Below.size hb)
  have Bel2 := Lib.hid (belNext Bel1.out hb)
  have Bx2 := Lib.hid (Bx1.out.next hb)
  have Rs2 := Lib.hid (Rs1.out.next hb)
  clear hb Bel1 Bx1 Rs1 hBx0 hBx1 hBx2 hRs0 hRs1 hRs2 hRs3 hRs4
  obtain ⟨⟨hBx0, hBx1⟩, hBx2⟩ := Bx2.out
  obtain ⟨⟨hRs0, hRs1, hRs2, hRs3⟩, hRs4⟩ := Rs2.out
  go_wp2_with fail
  refine bodyPost_ret (v := .agg #[.int .i64 S2, .slice A2 n2 c2]) (by simp [results, Tryd.results53, go_sem, hRs0, hRs1]) rfl ⟨S2, A2, n2, c2, rfl, ?_, ?_⟩
  · exact ((Zo2.out.setCell (.inl (by have zz0 := Hlt.out; have zz1 := Sz2.out; first | omega | (simp; done) | (simp; omega))) _).setCell (.inl (by have zz0 := Hlt.out; have zz1 := Sz2.out; first | omega | (simp; done) | (simp; omega))) _).wide (by have zz0 := Hlt.out; have zz1 := Sz2.out; first | omega | (simp; done) | (simp; omega)) (by have zz0 := Hlt.out; have zz1 := Sz2.out; first | omega | (simp; done) | (simp; omega)) (by have zz0 := Hlt.out; have zz1 := Sz2.out; first | omega | (simp; done) | (simp; omega))
  · exact (Bel2.out.setCell (by have zz0 := Hlt.out; have zz1 := Sz2.out; first | omega | (simp; done) | (simp; omega)) _).setCell (by have zz0 := Hlt.out; have zz1 := Sz2.out; first | omega | (simp; done) | (simp; omega)) _

set_option maxHeartbeats 4000000 in
theorem specShiftD_any (z S k : Int) (A : Option Addr) (n c m : Nat) (w : World) (hz : ZV w z S A n c) (hm : (n : Int) ≤ 4000) (hk : (m : Int) ≤ 100000) (h1 : (1 : Int) ≤ m) (hkm : k = -(m : Int)) :
    Calls Tryd.prog 53 #[.agg #[.int .i64 S, .slice A n c], .int .i64 k] w fun e w' => ∃ Sr Ar nr cr, e = .returned (.agg #[.int .i64 Sr, .slice Ar nr cr]) ∧ ZO w' w.heap.size w'.heap.size (shZ z (-(m : Int))) Sr Ar nr cr ∧ Below w.heap.size w w' := by
  have hst := store_int Tryd.prog
  have hst2 := store_slice Tryd.prog
  obtain ⟨w1, hw1, hb1, hb3, hb4⟩ := box_res w S A n c 26 26
  have Hz := Lib.hid hz
  have HS : Hid (S = z.sign) := Lib.hid hz.1
  have Hn : Hid ((limbs z.natAbs).length = n) := Lib.hid hz.2.1
  have Hm := Lib.hid hm
  have Hw := Lib.hid hw1
  have Bx1 := Lib.hid hb1
  have Rs1 := Lib.hid hb3
  have Bel1 := Lib.hid hb4
  have Hlt : Hid (w.heap.size + 1 < w1.heap.size) := Lib.hid hb3.2
  clear hz hw1 hb1 hb3 hb4
  have hk0 : ¬ 0 ≤ k := by omega
  have hnk : -k = (m : Int) := by omega
  have Hm0 : Hid (0 < m) := Lib.hid (by omega)
  clear hkm
  go_enter Tryd.func53, Tryd.ntmps53
  go_wp2_with fail
  rw [← Hw.out]
  try rw [hnk]
  obtain ⟨⟨hBx0, hBx1⟩, hBx2⟩ := Bx1.out
  obtain ⟨⟨hRs0, hRs1, hRs2, hRs3⟩, hRs4⟩ := Rs1.out
  refine (specCut_any z S A n c m _ (Hz.out.next Bel1.out) Hm.out (by omega)).mono ?_
  rintro e w2 ⟨S2, A2, n2, c2, rfl, hzo, hb⟩
  have Zo2 := Lib.hid hzo
  clear hzo
  have Sz2 := Lib.hid (Below.size hb)
  have Bel2 := Lib.hid (belNext Bel1.out hb)
  have Bx2 := Lib.hid (Bx1.out.next hb)
  have Rs2 := Lib.hid (Rs1.out.next hb)
  clear hb Bel1 Bx1 Rs1 hBx0 hBx1 hBx2 hRs0 hRs1 hRs2 hRs3 hRs4
  obtain ⟨⟨hBx0, hBx1⟩, hBx2⟩ := Bx2.out
  obtain ⟨⟨hRs0, hRs1, hRs2, hRs3⟩, hRs4⟩ := Rs2.out
  by_cases hs : S < 0
  · have HSn := Lib.hid hs
    have Hz0 : Hid (z ≠ 0) := Lib.hid (fun e => by have := (sign_neg_iff HS.out).1 hs; omega)
    go_wp2_with fail
    obtain ⟨w3, hw⟩ : ∃ w3, w3 = w2.alloc (.cells #[.int .i64 S2, .slice A2 n2 c2] 26) := ⟨_, rfl⟩
    have hb : Below w2.heap.size w2 w3 := by rw [hw]; exact belAlloc1 _ _
    have Bw3 : Hid (Box w3 w2.heap.size S2 A2 n2 c2) := Lib.hid (by rw [hw]; exact Box.new _ _ _ _ _ _)
    rw [← hw]
    clear hw
    have Sz3 := Lib.hid (Below.size hb)
    have Bel3 := Lib.hid (belNext Bel2.out hb)
    have Bx3 := Lib.hid (Bx2.out.next hb)
    have Rs3 := Lib.hid (Rs2.out.next hb)
    have Zo3 := Lib.hid (Zo2.out.next hb)
    clear hb Bel2 Bx2 Rs2 Zo2 hBx0 hBx1 hBx2 hRs0 hRs1 hRs2 hRs3 hRs4
    obtain ⟨⟨hBx0, hBx1⟩, hBx2⟩ := Bx3.out
    obtain ⟨⟨hRs0, hRs1, hRs2, hRs3⟩, hRs4⟩ := Rs3.out
    obtain ⟨⟨hBw0, hBw1⟩, hBw2⟩ := Bw3.out
    refine (specTwos_any z S A n c _ (Hz.out.next Bel3.out) Hz0.out Hm.out).mono ?_
    rintro e w4 ⟨rfl, hb⟩
    have Sz4 := Lib.hid (Below.size hb)
    have Bel4 := Lib.hid (belNext Bel3.out hb)
    have Bx4 := Lib.hid (Bx3.out.next hb)
    have Rs4 := Lib.hid (Rs3.out.next hb)
    have Zo4 := Lib.hid (Zo3.out.next hb)
    have Bw4 := Lib.hid (Bw3.out.next hb)
    clear hb Bel3 Bx3 Rs3 Zo3 Bw3 hBx0 hBx1 hBx2 hRs0 hRs1 hRs2 hRs3 hRs4 hBw0 hBw1 hBw2
    obtain ⟨⟨hBx0, hBx1⟩, hBx2⟩ := Bx4.out
    obtain ⟨⟨hBw0, hBw1⟩, hBw2⟩ := Bw4.out
    obtain ⟨⟨hRs0, hRs1, hRs2, hRs3⟩, hRs4⟩ := Rs4.out
    obtain ⟨zt, hzt⟩ : ∃ zt, zt = tz z.natAbs := ⟨_, rfl⟩
    rw [← hzt]
    have Hzt := Lib.hid hzt
    clear hzt
    by_cases htl : zt < m
    · have htl2 : (zt : Int) < m := by omega
      have Htl := Lib.hid htl
      clear htl
      go_wp2_with fail
      refine wp_region_held_drew (S := fun w' => (w'.cell? ⟨w2.heap.size, 0, none⟩ = some (.int .i64 S2) ∧ w'.cell? ⟨w2.heap.size, 1, none⟩ = some (.slice A2 n2 c2))) (by kernel_rfl) Bw4.out.1 (fun hHeld => ?_)
      clear hBx0 hBx1 hBx2 hBw0 hBw1 hBw2 hRs0 hRs1 hRs2 hRs3 hRs4
      refine wpAnyH_take (i := 0) (v := ?_) rfl (by kernel_rfl) (by kernel_rfl) (by kernel_rfl) (fun _ _ _ h => h) (Or.inl ⟨by rfl, ?_⟩) (by assumption) ?_
      rotate_left
      · (intro w hSw; (try dsimp only at hSw); go_simp; (try with_reducible rfl))
      try simp only [Act.put, List.setIfInBounds_toArray, List.set_cons_zero, List.set_cons_succ]
      refine wpAnyH_ready (rs := [1]) (by kernel_rfl) (by simp) ?_
      refine AllReadyH.cons rfl (fun K hK => ?_) AllReadyH.nil
      go_simp
      refine (specOf_any 1 w4.drew (by omega) (by omega)).mono ?_
      rintro e w5 ⟨val, rfl, hv, hb0⟩
      have hb : Below w4.heap.size w4 w5 := belDrew hb0
      obtain ⟨S5, A5, n5, c5, rfl, hzo⟩ := Wz.zo hv (Nat.le_refl _)
      have Zq5 := Lib.hid hzo
      clear hv hzo
      refine hK.out _ _ ((Bw4.out.next hb).1) (fun hHeld => ?_)
      clear hK K hb0
      have Sz5 := Lib.hid (Below.size hb)
      have Bel5 := Lib.hid (belNext Bel4.out hb)
      have Bx5 := Lib.hid (Bx4.out.next hb)
      have Rs5 := Lib.hid (Rs4.out.next hb)
      have Zo5 := Lib.hid (Zo4.out.next hb)
      have Bw5 := Lib.hid (Bw4.out.next hb)
      clear hb Bel4 Bx4 Rs4 Zo4 Bw4
      try simp only [Act.put, List.setIfInBounds_toArray, List.set_cons_zero, List.set_cons_succ]
      have Hc2 : Hid ((n2 : Int) ≤ 90000) := Lib.hid (by have h := limbs_len_mono (Nat.div_le_self z.natAbs (2 ^ m)); have e := Zo5.out.2.1; rw [cutZ_abs HS.out] at e; have := Hn.out; have := Hm.out; omega)
      have Hn5 : Hid ((n5 : Int) ≤ 90000) := Lib.hid (by have e := Zq5.out.2.1; rw [show (1 : Int).natAbs = 1 from rfl, limbs_1] at e; simp at e; omega)
      refine wpAnyH_ready (rs := [2]) (by kernel_rfl) (by simp) ?_
      refine AllReadyH.cons rfl (fun K hK => ?_) AllReadyH.nil
      go_simp
      refine (specSub_any S2 S5 (cutZ z m).natAbs (1 : Int).natAbs A2 A5 n2 n5 c2 c5 w5 Zo5.out.zv.sg Zq5.out.zv.sg Zo5.out.zv.rd Zq5.out.zv.rd Zo5.out.2.1 Zq5.out.2.1 Hc2.out Hn5.out Zo5.out.zv.cap Zq5.out.zv.cap).mono ?_
      rintro e w6 ⟨val, rfl, hv, hb0⟩
      have hb : Below w5.heap.size w5 w6 := hb0
      obtain ⟨S9, A9, n9, c9, rfl, hzo⟩ := Wz.zo (hv.cast_ (z' := shZ z (-(m : Int))) (by rw [Int.neg_mul, Zo5.out.zv.val, Zq5.out.zv.val]; exact cut_less HS.out HSn.out Hm0.out (by rw [← Hzt.out]; exact Htl.out))) (Nat.le_refl _)
      have Zp6 := Lib.hid hzo
      clear hv hzo
      refine hK.out _ _ ((Bw5.out.next hb).1) (fun hHeld => ?_)
      clear hK K hb0
      have Sz6 := Lib.hid (Below.size hb)
      have Bel6 := Lib.hid (belNext Bel5.out hb)
      have Bx6 := Lib.hid (Bx5.out.next hb)
      have Rs6 := Lib.hid (Rs5.out.next hb)
      have Zo6 := Lib.hid (Zo5.out.next hb)
      have Bw6 := Lib.hid (Bw5.out.next hb)
      clear hb Bel5 Bx5 Rs5 Zo5 Bw5
      try simp only [Act.put, List.setIfInBounds_toArray, List.set_cons_zero, List.set_cons_succ]
      obtain ⟨⟨hRs0, hRs1, hRs2, hRs3⟩, hRs4⟩ := Rs6.out
      refine wpAnyH_ready (rs := [3]) (by kernel_rfl) (by simp) ?_
      refine AllReadyH.cons rfl (fun K hK => ?_) AllReadyH.nil
      go_simp
      refine hK.out _ _ (((Bw6.out.keep (by have zz0 := Hlt.out; have zz1 := Sz2.out; have zz2 := Sz3.out; have zz3 := Sz4.out; have zz4 := Sz5.out; have zz5 := Sz6.out; first | omega | (simp; done) | (simp; omega)) _).keep (by have zz0 := Hlt.out; have zz1 := Sz2.out; have zz2 := Sz3.out; have zz3 := Sz4.out; have zz4 := Sz5.out; have zz5 := Sz6.out; first | omega | (simp; done) | (simp; omega)) _).1) (fun hHeld => ?_)
      clear hK K hHeld
      try simp only [Act.put, List.setIfInBounds_toArray, List.set_cons_zero, List.set_cons_succ]
      refine wpAnyH_done (by kernel_rfl) ?_ _
      go_wp2_with fail
      refine bodyPost_ret (v := .agg #[.int .i64 S9, .slice A9 n9 c9]) (by simp [results, Tryd.results53, go_sem, hRs0, hRs1]) rfl ⟨S9, A9, n9, c9, rfl, ?_, ?_⟩
      · exact ((Zp6.out.setCell (.inl (by have zz0 := Hlt.out; have zz1 := Sz2.out; have zz2 := Sz3.out; have zz3 := Sz4.out; have zz4 := Sz5.out; have zz5 := Sz6.out; first | omega | (simp; done) | (simp; omega))) _).setCell (.inl (by have zz0 := Hlt.out; have zz1 := Sz2.out; have zz2 := Sz3.out; have zz3 := Sz4.out; have zz4 := Sz5.out; have zz5 := Sz6.out; first | omega | (simp; done) | (simp; omega))) _).wide (by have zz0 := Hlt.out; have zz1 := Sz2.out; have zz2 := Sz3.out; have zz3 := Sz4.out; have zz4 := Sz5.out; have zz5 := Sz6.out; first | omega | (simp; done) | (simp; omega)) (by have zz0 := Hlt.out; have zz1 := Sz2.out; have zz2 := Sz3.out; have zz3 := Sz4.out; have zz4 := Sz5.out; have zz5 := Sz6.out; first | omega | (simp; done) | (simp; omega)) (by have zz0 := Hlt.out; have zz1 := Sz2.out; have zz2 := Sz3.out; have zz3 := Sz4.out; have zz4 := Sz5.out; have zz5 := Sz6.out; first | omega | (simp; done) | (simp; omega))
      · exact (Bel6.out.setCell (by have zz0 := Hlt.out; have zz1 := Sz2.out; have zz2 := Sz3.out; have zz3 := Sz4.out; have zz4 := Sz5.out; have zz5 := Sz6.out; first | omega | (simp; done) | (simp; omega)) _).setCell (by have zz0 := Hlt.out; have zz1 := Sz2.out; have zz2 := Sz3.out; have zz3 := Sz4.out; have zz4 := Sz5.out; have zz5 := Sz6.out; first | omega | (simp; done) | (simp; omega)) _
    · have htl2 : ¬ (zt : Int) < m := by omega
      have Htl := Lib.hid htl
      clear htl
      go_wp2_with fail
      refine bodyPost_ret (v := .agg #[.int .i64 S2, .slice A2 n2 c2]) (by simp [results, Tryd.results53, go_sem, hRs0, hRs1]) rfl ⟨S2, A2, n2, c2, rfl, ?_, ?_⟩
      · exact (((Zo4.out.cast_ (z' := shZ z (-(m : Int))) (by rw [← sh_down_exact HS.out HSn.out Hm0.out (by rw [← Hzt.out]; exact Htl.out), HS.out]; rfl)).setCell (.inl (by have zz0 := Hlt.out; have zz1 := Sz2.out; have zz2 := Sz3.out; have zz3 := Sz4.out; first | omega | (simp; done) | (simp; omega))) _).setCell (.inl (by have zz0 := Hlt.out; have zz1 := Sz2.out; have zz2 := Sz3.out; have zz3 := Sz4.out; first | omega | (simp; done) | (simp; omega))) _).wide (by have zz0 := Hlt.out; have zz1 := Sz2.out; have zz2 := Sz3.out; have zz3 := Sz4.out; first | omega | (simp; done) | (simp; omega)) (by have zz0 := Hlt.out; have zz1 := Sz2.out; have zz2 := Sz3.out; have zz3 := Sz4.out; first | omega | (simp; done) | (simp; omega)) (by have zz0 := Hlt.out; have zz1 := Sz2.out; have zz2 := Sz3.out; have zz3 := Sz4.out; first | omega | (simp; done) | (simp; omega))
      · exact (Bel4.out.setCell (by have zz0 := Hlt.out; have zz1 := Sz2.out; have zz2 := Sz3.out; have zz3 := Sz4.out; first | omega | (simp; done) | (simp; omega)) _).setCell (by have zz0 := Hlt.out; have zz1 := Sz2.out; have zz2 := Sz3.out; have zz3 := Sz4.out; first | omega | (simp; done) | (simp; omega)) _
  · have HSn := Lib.hid hs
    have hsb : decide (S < 0) = false := decide_eq_false hs
    go_wp2_with fail
    obtain ⟨⟨r0, r1⟩, _⟩ := (Box.made (s := S2) (A := A2) (n := n2) (c := c2) ⟨hRs0, hRs1⟩ hRs4).next (belAlloc1 _ (.cells #[.int .i64 S2, .slice A2 n2 c2] 26))
    simp only [st] at r0 r1
    refine bodyPost_ret (v := .agg #[.int .i64 S2, .slice A2 n2 c2]) (by simp [results, Tryd.results53, go_sem, r0, r1]) rfl ⟨S2, A2, n2, c2, rfl, ?_, ?_⟩
    · exact ((((Zo2.out.cast_ (z' := shZ z (-(m : Int))) (by rw [← sh_down_nonneg HS.out (Int.not_lt.2 HSn.out) Hm0.out, HS.out]; rfl)).setCell (.inl (by have zz0 := Hlt.out; have zz1 := Sz2.out; first | omega | (simp; done) | (simp; omega))) _).setCell (.inl (by have zz0 := Hlt.out; have zz1 := Sz2.out; first | omega | (simp; done) | (simp; omega))) _).alloc _).wide (by have zz0 := Hlt.out; have zz1 := Sz2.out; first | omega | (simp; done) | (simp; omega)) (by have zz0 := Hlt.out; have zz1 := Sz2.out; first | omega | (simp; done) | (simp; omega)) (by have zz0 := Hlt.out; have zz1 := Sz2.out; first | omega | (simp; done) | (simp; omega))
    · exact ((Bel2.out.setCell (by have zz0 := Hlt.out; have zz1 := Sz2.out; first | omega | (simp; done) | (simp; omega)) _).setCell (by have zz0 := Hlt.out; have zz1 := Sz2.out; first | omega | (simp; done) | (simp; omega)) _).alloc (by have zz0 := Hlt.out; have zz1 := Sz2.out; first | omega | (simp; done) | (simp; omega)) _

theorem specShift_any (z S k : Int) (A : Option Addr) (n c : Nat) (w : World) (hz : ZV w z S A n c) (hm : (n : Int) ≤ 4000) (hk1 : -100000 ≤ k) (hk2 : k ≤ 100000) :
    Calls Tryd.prog 53 #[.agg #[.int .i64 S, .slice A n c], .int .i64 k] w fun e w' => ∃ Sr Ar nr cr, e = .returned (.agg #[.int .i64 Sr, .slice Ar nr cr]) ∧ ZO w' w.heap.size w'.heap.size (shZ z k) Sr Ar nr cr ∧ Below w.heap.size w w' := by
  by_cases h : 0 ≤ k
  · obtain ⟨m, rfl⟩ : ∃ m : Nat, k = m := ⟨k.toNat, by omega⟩
    exact specShiftU_any z S A n c m w hz hm (by omega)
  · obtain ⟨m, hmk⟩ : ∃ m : Nat, k = -(m : Int) := ⟨(-k).toNat, by omega⟩
    have h2 := specShiftD_any z S k A n c m w hz hm (by omega) (by omega) hmk
    rw [← hmk] at h2
    exact h2
end Go.Proofs.YtnnoobdcdfcdaaaDoor
