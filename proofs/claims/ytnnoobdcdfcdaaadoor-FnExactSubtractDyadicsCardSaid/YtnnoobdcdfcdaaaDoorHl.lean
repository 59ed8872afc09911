/- ScaleDyadic, FloorDyadic, CeilDyadic, of the program and of the model. -/
import Derived.Test.YtnnoobdcdfcdaaaDoorHk
import Derived.Test.YtnnoobdcdfcdaaaDoorHj
namespace Go.Proofs.YtnnoobdcdfcdaaaDoor
set_option maxRecDepth 100000
open Go.RowKit
set_option linter.unusedSimpArgs false
set_option linter.unusedVariables false

theorem sh_len3 {z k : Int} {n : Nat} (hn : (limbs z.natAbs).length = n) (hk : k ≤ 5000) : (limbs (shZ z k).natAbs).length ≤ n + 220 := by
  by_cases h : 0 ≤ k
  · rw [shZ_up h, abs_pow_mul]
    have := shl_len hn k.toNat
    omega
  · rw [shZ_down (by omega)]
    have := limbs_len_mono (shr_abs z (-k).toNat)
    omega
noncomputable def scRZ (S : Int) (xs : List Int) (E k : Int) : Int := if isD S xs E = true then if -6000 ≤ k ∧ k ≤ 6000 then fdZ (S * magW S xs) (E + k) else 0 else 0
noncomputable def scRX (S : Int) (xs : List Int) (E k : Int) : Int := if isD S xs E = true then if -6000 ≤ k ∧ k ≤ 6000 then fdX (S * magW S xs) (E + k) else 0 else 0
noncomputable def scRE (S : Int) (xs : List Int) (E k : Int) : Int := if isD S xs E = true then if -6000 ≤ k ∧ k ≤ 6000 then fdE (S * magW S xs) (E + k) else 2 else 1
theorem scR_yes {S z E k : Int} {xs : List Int} (h : isD S xs E = true) (hz : isZ z S xs) (hk : -6000 ≤ k ∧ k ≤ 6000) : scRZ S xs E k = fdZ z (E + k) ∧ scRX S xs E k = fdX z (E + k) ∧ scRE S xs E k = fdE z (E + k) := by
  unfold scRZ scRX scRE; rw [if_pos h, if_pos h, if_pos h, if_pos hk, if_pos hk, if_pos hk, val_isZ hz]; exact ⟨rfl, rfl, rfl⟩
theorem scR_range {S E k : Int} {xs : List Int} (h : isD S xs E = true) (hk : ¬ (-6000 ≤ k ∧ k ≤ 6000)) : scRZ S xs E k = 0 ∧ scRX S xs E k = 0 ∧ scRE S xs E k = 2 := by
  unfold scRZ scRX scRE; rw [if_pos h, if_pos h, if_pos h, if_neg hk, if_neg hk, if_neg hk]; exact ⟨rfl, rfl, rfl⟩
theorem scR_no {S E k : Int} {xs : List Int} (h : isD S xs E = false) : scRZ S xs E k = 0 ∧ scRX S xs E k = 0 ∧ scRE S xs E k = 1 := by
  unfold scRZ scRX scRE; rw [h]; exact ⟨rfl, rfl, rfl⟩
theorem scR_len (S : Int) (xs : List Int) (E k : Int) : (limbs (scRZ S xs E k).natAbs).length ≤ 100 := by
  unfold scRZ
  split
  · split
    · exact fd_len _ _
    · simp [limbs_zero]
  · simp [limbs_zero]
noncomputable def flRZ (S : Int) (xs : List Int) (E k : Int) : Int := if isD S xs E = true then if -1000 ≤ k ∧ k ≤ 1000 then fdZ (shZ (S * magW S xs) (E + k)) (-k) else 0 else 0
noncomputable def flRX (S : Int) (xs : List Int) (E k : Int) : Int := if isD S xs E = true then if -1000 ≤ k ∧ k ≤ 1000 then fdX (shZ (S * magW S xs) (E + k)) (-k) else 0 else 0
noncomputable def flRE (S : Int) (xs : List Int) (E k : Int) : Int := if isD S xs E = true then if -1000 ≤ k ∧ k ≤ 1000 then fdE (shZ (S * magW S xs) (E + k)) (-k) else 2 else 1
theorem flR_yes {S z E k : Int} {xs : List Int} (h : isD S xs E = true) (hz : isZ z S xs) (hk : -1000 ≤ k ∧ k ≤ 1000) : flRZ S xs E k = fdZ (shZ z (E + k)) (-k) ∧ flRX S xs E k = fdX (shZ z (E + k)) (-k) ∧ flRE S xs E k = fdE (shZ z (E + k)) (-k) := by
  unfold flRZ flRX flRE; rw [if_pos h, if_pos h, if_pos h, if_pos hk, if_pos hk, if_pos hk, val_isZ hz]; exact ⟨rfl, rfl, rfl⟩
theorem flR_range {S E k : Int} {xs : List Int} (h : isD S xs E = true) (hk : ¬ (-1000 ≤ k ∧ k ≤ 1000)) : flRZ S xs E k = 0 ∧ flRX S xs E k = 0 ∧ flRE S xs E k = 2 := by
  unfold flRZ flRX flRE; rw [if_pos h, if_pos h, if_pos h, if_neg hk, if_neg hk, if_neg hk]; exact ⟨rfl, rfl, rfl⟩
theorem flR_no {S E k : Int} {xs : List Int} (h : isD S xs E = false) : flRZ S xs E k = 0 ∧ flRX S xs E k = 0 ∧ flRE S xs E k = 1 := by
  unfold flRZ flRX flRE; rw [h]; exact ⟨rfl, rfl, rfl⟩
theorem flR_len (S : Int) (xs : List Int) (E k : Int) : (limbs (flRZ S xs E k).natAbs).length ≤ 100 := by
  unfold flRZ
  split
  · split
    · exact fd_len _ _
    · simp [limbs_zero]
  · simp [limbs_zero]
noncomputable def ceRZ (S : Int) (xs : List Int) (E k : Int) : Int := if isD S xs E = true then if -1000 ≤ k ∧ k ≤ 1000 then fdZ (-(shZ (-(S * magW S xs)) (E + k))) (-k) else 0 else 0
noncomputable def ceRX (S : Int) (xs : List Int) (E k : Int) : Int := if isD S xs E = true then if -1000 ≤ k ∧ k ≤ 1000 then fdX (-(shZ (-(S * magW S xs)) (E + k))) (-k) else 0 else 0
noncomputable def ceRE (S : Int) (xs : List Int) (E k : Int) : Int := if isD S xs E = true then if -1000 ≤ k ∧ k ≤ 1000 then fdE (-(shZ (-(S * magW S xs)) (E + k))) (-k) else 2 else 1
theorem ceR_yes {S z E k : Int} {xs : List Int} (h : isD S xs E = true) (hz : isZ z S xs) (hk : -1000 ≤ k ∧ k ≤ 1000) : ceRZ S xs E k = fdZ (-(shZ (-z) (E + k))) (-k) ∧ ceRX S xs E k = fdX (-(shZ (-z) (E + k))) (-k) ∧ ceRE S xs E k = fdE (-(shZ (-z) (E + k))) (-k) := by
  unfold ceRZ ceRX ceRE; rw [if_pos h, if_pos h, if_pos h, if_pos hk, if_pos hk, if_pos hk, val_isZ hz]; exact ⟨rfl, rfl, rfl⟩
theorem ceR_range {S E k : Int} {xs : List Int} (h : isD S xs E = true) (hk : ¬ (-1000 ≤ k ∧ k ≤ 1000)) : ceRZ S xs E k = 0 ∧ ceRX S xs E k = 0 ∧ ceRE S xs E k = 2 := by
  unfold ceRZ ceRX ceRE; rw [if_pos h, if_pos h, if_pos h, if_neg hk, if_neg hk, if_neg hk]; exact ⟨rfl, rfl, rfl⟩
theorem ceR_no {S E k : Int} {xs : List Int} (h : isD S xs E = false) : ceRZ S xs E k = 0 ∧ ceRX S xs E k = 0 ∧ ceRE S xs E k = 1 := by
  unfold ceRZ ceRX ceRE; rw [h]; exact ⟨rfl, rfl, rfl⟩
theorem ceR_len (S : Int) (xs : List Int) (E k : Int) : (limbs (ceRZ S xs E k).natAbs).length ≤ 100 := by
  unfold ceRZ
  split
  · split
    · exact fd_len _ _
    · simp [limbs_zero]
  · simp [limbs_zero]

set_option maxHeartbeats 4000000 in
theorem implScaleDW_any (S : Int) (A : Option Addr) (n c : Nat) (xs : List Int) (E k : Int) (w : World) (hr : Rd w w.heap.size A (vi xs)) (hn : xs.length = n) (hm : n ≤ 1048580) (hc : n ≤ c) (hT : TabZ w) :
    Calls Tryd.prog 38 #[.agg #[.int .i64 S, .slice A n c, .int .i64 E], .int .i64 k] w fun e w' => ∃ Sr Ar nr cr, e = .returned (.tuple #[.agg #[.int .i64 Sr, .slice Ar nr cr, .int .i64 (scRX S xs E k)], .int .i64 (scRE S xs E k)]) ∧ ZO w' w.heap.size w'.heap.size (scRZ S xs E k) Sr Ar nr cr ∧ Below w.heap.size w w' := by
  have hst := store_int Tryd.prog
  have hst2 := store_slice Tryd.prog
  obtain ⟨w1, hw1, hb1, hb3, hb4⟩ := dbox_res w S A n c E 34 34
  have RsD1 := Lib.hid hb3
  have Hlt : Hid (w.heap.size + 1 < w1.heap.size) := Lib.hid hb3.2
  have Hr := Lib.hid hr
  have Hn := Lib.hid hn
  have Hm := Lib.hid hm
  have Hc := Lib.hid hc
  have Hw := Lib.hid hw1
  have Bx1 := Lib.hid hb1
  have Bel1 := Lib.hid hb4
  clear hr hn hw1 hb1 hb3 hb4 hc
  have HT := Lib.hid hT
  clear hT
  go_enter Tryd.func38, Tryd.ntmps38
  go_wp2_with fail
  rw [← Hw.out]
  obtain ⟨⟨hBx0, hBx1, hBx2⟩, hBx3⟩ := Bx1.out
  obtain ⟨⟨hRsD0, hRsD1, hRsD2, hRsD3, hRsD4, hRsD5⟩, hRsD6⟩ := RsD1.out
  refine (implIsD_any S A n c E xs _ ((Hr.out.below Bel1.out).up Bel1.out.size) Hn.out Hm.out).mono ?_
  rintro e w2 ⟨rfl, hb⟩
  have Sz2 := Lib.hid (Below.size hb)
  have Bel2 := Lib.hid (belNext Bel1.out hb)
  have Bx2 := Lib.hid (Bx1.out.next hb)
  have RsD2 := Lib.hid (RsD1.out.next hb)
  clear hb Bel1 Bx1 RsD1 hBx0 hBx1 hBx2 hBx3 hRsD0 hRsD1 hRsD2 hRsD3 hRsD4 hRsD5 hRsD6
  obtain ⟨⟨hBx0, hBx1, hBx2⟩, hBx3⟩ := Bx2.out
  obtain ⟨⟨hRsD0, hRsD1, hRsD2, hRsD3, hRsD4, hRsD5⟩, hRsD6⟩ := RsD2.out
  by_cases hW : isD S xs E = true
  · have HW := Lib.hid hW
    rw [hW]
    clear hW
    by_cases hk : -6000 ≤ k ∧ k ≤ 6000
    · obtain ⟨z, hz, hok, hzv, hn100⟩ := isD_data HW.out Hr.out Hn.out Hc.out
      have Hres := Lib.hid (scR_yes HW.out hz hk)
      have Hz := Lib.hid hzv
      have hE1 := hok.2.1
      have hE2 := hok.2.2.1
      obtain ⟨hk1, hk2⟩ := hk
      clear hz hzv hok
      go_wp2_with fail
      refine (beyond_no k 6000 _ hk1 hk2 (by omega) (by omega)).mono ?_
      rintro e w9 ⟨rfl, rfl⟩
      go_wp2_with fail
      refine (implLimD_any z S (E + k) A n c _ (Hz.out.next Bel2.out) (by omega) (by omega) (by omega) (HT.out.next Bel2.out)).mono ?_
      rintro e w3 ⟨S9, A9, n9, c9, rfl, hzo, hb⟩
      have Zp3 := Lib.hid hzo
      clear hzo
      have Sz3 := Lib.hid (Below.size hb)
      have Bel3 := Lib.hid (belNext Bel2.out hb)
      have Bx3 := Lib.hid (Bx2.out.next hb)
      have RsD3 := Lib.hid (RsD2.out.next hb)
      clear hb Bel2 Bx2 RsD2 hBx0 hBx1 hBx2 hBx3 hRsD0 hRsD1 hRsD2 hRsD3 hRsD4 hRsD5 hRsD6
      obtain ⟨⟨hBx0, hBx1, hBx2⟩, hBx3⟩ := Bx3.out
      obtain ⟨⟨hRsD0, hRsD1, hRsD2, hRsD3, hRsD4, hRsD5⟩, hRsD6⟩ := RsD3.out
      go_wp2_with fail
      refine bodyPost_ret (v := .tuple #[.agg #[.int .i64 S9, .slice A9 n9 c9, .int .i64 (fdX z (E + k))], .int .i64 (fdE z (E + k))]) (by simp [results, Tryd.results38, go_sem, hRsD0, hRsD1, hRsD2]) rfl ⟨S9, A9, n9, c9, by rw [Hres.out.2.1, Hres.out.2.2], ?_, ?_⟩
      · rw [Hres.out.1]; exact (((Zp3.out.setCell (.inl (by have zz0 := Hlt.out; have zz1 := Sz2.out; have zz2 := Sz3.out; first | omega | (simp; done) | (simp; omega))) _).setCell (.inl (by have zz0 := Hlt.out; have zz1 := Sz2.out; have zz2 := Sz3.out; first | omega | (simp; done) | (simp; omega))) _).setCell (.inl (by have zz0 := Hlt.out; have zz1 := Sz2.out; have zz2 := Sz3.out; first | omega | (simp; done) | (simp; omega))) _).wide (by have zz0 := Hlt.out; have zz1 := Sz2.out; have zz2 := Sz3.out; first | omega | (simp; done) | (simp; omega)) (by have zz0 := Hlt.out; have zz1 := Sz2.out; have zz2 := Sz3.out; first | omega | (simp; done) | (simp; omega)) (by have zz0 := Hlt.out; have zz1 := Sz2.out; have zz2 := Sz3.out; first | omega | (simp; done) | (simp; omega))
      · exact ((Bel3.out.setCell (by have zz0 := Hlt.out; have zz1 := Sz2.out; have zz2 := Sz3.out; first | omega | (simp; done) | (simp; omega)) _).setCell (by have zz0 := Hlt.out; have zz1 := Sz2.out; have zz2 := Sz3.out; first | omega | (simp; done) | (simp; omega)) _).setCell (by have zz0 := Hlt.out; have zz1 := Sz2.out; have zz2 := Sz3.out; first | omega | (simp; done) | (simp; omega)) _
    · have Hres := Lib.hid (scR_range HW.out hk)
      have hk3 : k < -6000 ∨ 6000 < k := by omega
      clear hk
      go_wp2_with fail
      refine (beyond_yes k 6000 _ hk3 (by omega) (by omega)).mono ?_
      rintro e w9 ⟨rfl, rfl⟩
      go_wp2_with fail
      refine bodyPost_ret (v := .tuple #[.agg #[.int .i64 0, .slice none 0 0, .int .i64 0], .int .i64 2]) (by simp [results, Tryd.results38, go_sem, hRsD0, hRsD1, hRsD2]) rfl ⟨0, none, 0, 0, by rw [Hres.out.2.1, Hres.out.2.2], ?_, ?_⟩
      · rw [Hres.out.1]; exact ZO.zero (Nat.le_refl _)
      · exact ((Bel2.out.setCell (by have zz0 := Hlt.out; have zz1 := Sz2.out; first | omega | (simp; done) | (simp; omega)) _).setCell (by have zz0 := Hlt.out; have zz1 := Sz2.out; first | omega | (simp; done) | (simp; omega)) _).setCell (by have zz0 := Hlt.out; have zz1 := Sz2.out; first | omega | (simp; done) | (simp; omega)) _
  · have hW2 : isD S xs E = false := by simpa using hW
    have Hres := Lib.hid (scR_no (k := k) hW2)
    rw [hW2]
    clear hW hW2
    go_wp2_with fail
    refine bodyPost_ret (v := .tuple #[.agg #[.int .i64 0, .slice none 0 0, .int .i64 0], .int .i64 1]) (by simp [results, Tryd.results38, go_sem, hRsD0, hRsD1, hRsD2]) rfl ⟨0, none, 0, 0, by rw [Hres.out.2.1, Hres.out.2.2], ?_, ?_⟩
    · rw [Hres.out.1]; exact ZO.zero (Nat.le_refl _)
    · exact ((Bel2.out.setCell (by have zz0 := Hlt.out; have zz1 := Sz2.out; first | omega | (simp; done) | (simp; omega)) _).setCell (by have zz0 := Hlt.out; have zz1 := Sz2.out; first | omega | (simp; done) | (simp; omega)) _).setCell (by have zz0 := Hlt.out; have zz1 := Sz2.out; first | omega | (simp; done) | (simp; omega)) _

set_option maxHeartbeats 4000000 in
theorem specScaleDW_any (S : Int) (A : Option Addr) (n c : Nat) (xs : List Int) (E k : Int) (w : World) (hr : Rd w w.heap.size A (vi xs)) (hn : xs.length = n) (hm : n ≤ 1048580) (hc : n ≤ c) :
    Calls Tryd.prog 37 #[.agg #[.int .i64 S, .slice A n c, .int .i64 E], .int .i64 k] w fun e w' => ∃ Sr Ar nr cr, e = .returned (.tuple #[.agg #[.int .i64 Sr, .slice Ar nr cr, .int .i64 (scRX S xs E k)], .int .i64 (scRE S xs E k)]) ∧ ZO w' w.heap.size w'.heap.size (scRZ S xs E k) Sr Ar nr cr ∧ Below w.heap.size w w' := by
  have hst := store_int Tryd.prog
  have hst2 := store_slice Tryd.prog
  obtain ⟨w1, hw1, hb1, hb3, hb4⟩ := dbox_res w S A n c E 34 34
  have RsD1 := Lib.hid hb3
  have Hlt : Hid (w.heap.size + 1 < w1.heap.size) := Lib.hid hb3.2
  have Hr := Lib.hid hr
  have Hn := Lib.hid hn
  have Hm := Lib.hid hm
  have Hc := Lib.hid hc
  have Hw := Lib.hid hw1
  have Bx1 := Lib.hid hb1
  have Bel1 := Lib.hid hb4
  clear hr hn hw1 hb1 hb3 hb4 hc
  go_enter Tryd.func37, Tryd.ntmps37
  go_wp2_with fail
  rw [← Hw.out]
  obtain ⟨⟨hBx0, hBx1, hBx2⟩, hBx3⟩ := Bx1.out
  obtain ⟨⟨hRsD0, hRsD1, hRsD2, hRsD3, hRsD4, hRsD5⟩, hRsD6⟩ := RsD1.out
  refine (specRange_any S A n c E xs k (-6000) 6000 _ ((Hr.out.below Bel1.out).up Bel1.out.size) Hn.out Hm.out).mono ?_
  rintro e w2 ⟨rfl, hb⟩
  have Sz2 := Lib.hid (Below.size hb)
  have Bel2 := Lib.hid (belNext Bel1.out hb)
  have Bx2 := Lib.hid (Bx1.out.next hb)
  have RsD2 := Lib.hid (RsD1.out.next hb)
  clear hb Bel1 Bx1 RsD1 hBx0 hBx1 hBx2 hBx3 hRsD0 hRsD1 hRsD2 hRsD3 hRsD4 hRsD5 hRsD6
  obtain ⟨⟨hBx0, hBx1, hBx2⟩, hBx3⟩ := Bx2.out
  obtain ⟨⟨hRsD0, hRsD1, hRsD2, hRsD3, hRsD4, hRsD5⟩, hRsD6⟩ := RsD2.out
  by_cases hW : isD S xs E = true
  · have HW := Lib.hid hW
    by_cases hk : -6000 ≤ k ∧ k ≤ 6000
    · have hrg : rgE S xs E k (-6000) 6000 = 0 := by unfold rgE; rw [if_pos hW, if_pos hk]
      rw [hrg]
      clear hrg hW
      obtain ⟨z, hz, hok, hzv, hn100⟩ := isD_data HW.out Hr.out Hn.out Hc.out
      have Hres := Lib.hid (scR_yes HW.out hz hk)
      have Hz := Lib.hid hzv
      have hE1 := hok.2.1
      have hE2 := hok.2.2.1
      obtain ⟨hk1, hk2⟩ := hk
      clear hz hzv hok
      go_wp2_with fail
      refine (specMakeD_any z S (E + k) A n c _ (Hz.out.next Bel2.out) (by omega) (by omega) (by omega)).mono ?_
      rintro e w3 ⟨S2, A2, n2, c2, rfl, hzo, hb⟩
      have Zo3 := Lib.hid hzo
      have Hn2 : Hid (n2 ≤ 1048580) := Lib.hid (by have h := Nat.le_trans (limbs_len_mono (nz_le z)) (Nat.le_of_eq Hz.out.2.1); rw [hzo.2.1] at h; omega)
      clear hzo
      have Sz3 := Lib.hid (Below.size hb)
      have Bel3 := Lib.hid (belNext Bel2.out hb)
      have Bx3 := Lib.hid (Bx2.out.next hb)
      have RsD3 := Lib.hid (RsD2.out.next hb)
      clear hb Bel2 Bx2 RsD2 hBx0 hBx1 hBx2 hBx3 hRsD0 hRsD1 hRsD2 hRsD3 hRsD4 hRsD5 hRsD6
      obtain ⟨⟨hBx0, hBx1, hBx2⟩, hBx3⟩ := Bx3.out
      obtain ⟨⟨hRsD0, hRsD1, hRsD2, hRsD3, hRsD4, hRsD5⟩, hRsD6⟩ := RsD3.out
      go_wp2_with fail
      refine (specFitD_any z (E + k) S2 (nx z (E + k)) A2 n2 c2 _ _ _ Zo3.out Hn2.out rfl (by have zz0 := Hlt.out; have zz1 := Sz2.out; have zz2 := Sz3.out; first | omega | (simp; done) | (simp; omega))).mono ?_
      rintro e w4 ⟨S9, A9, n9, c9, rfl, hzo, hb⟩
      have Zp4 := Lib.hid hzo
      clear hzo
      have Sz4 := Lib.hid (Below.size hb)
      have Bel4 := Lib.hid (belNext Bel3.out hb)
      have Bx4 := Lib.hid (Bx3.out.next hb)
      have RsD4 := Lib.hid (RsD3.out.next hb)
      clear hb Bel3 Bx3 RsD3 hBx0 hBx1 hBx2 hBx3 hRsD0 hRsD1 hRsD2 hRsD3 hRsD4 hRsD5 hRsD6
      obtain ⟨⟨hBx0, hBx1, hBx2⟩, hBx3⟩ := Bx4.out
      obtain ⟨⟨hRsD0, hRsD1, hRsD2, hRsD3, hRsD4, hRsD5⟩, hRsD6⟩ := RsD4.out
      go_wp2_with fail
      obtain ⟨⟨r0, r1, r2⟩, _⟩ := (DBox.made (S := S9) (A := A9) (n := n9) (c := c9) (E := (fdX z (E + k))) hRsD6 ⟨_, hRsD0⟩ ⟨_, hRsD1⟩ ⟨_, hRsD2⟩).next (belAlloc1 _ (.cells #[.int .i64 S9, .slice A9 n9 c9, .int .i64 (fdX z (E + k))] 34))
      simp only [st3] at r0 r1 r2
      refine bodyPost_ret (v := .tuple #[.agg #[.int .i64 S9, .slice A9 n9 c9, .int .i64 (fdX z (E + k))], .int .i64 (fdE z (E + k))]) (by simp [results, Tryd.results37, go_sem, r0, r1, r2]) rfl ⟨S9, A9, n9, c9, by rw [Hres.out.2.1, Hres.out.2.2], ?_, ?_⟩
      · rw [Hres.out.1]; exact ((((Zp4.out.setCell (.inl (by have zz0 := Hlt.out; have zz1 := Sz2.out; have zz2 := Sz3.out; have zz3 := Sz4.out; first | omega | (simp; done) | (simp; omega))) _).setCell (.inl (by have zz0 := Hlt.out; have zz1 := Sz2.out; have zz2 := Sz3.out; have zz3 := Sz4.out; first | omega | (simp; done) | (simp; omega))) _).setCell (.inl (by have zz0 := Hlt.out; have zz1 := Sz2.out; have zz2 := Sz3.out; have zz3 := Sz4.out; first | omega | (simp; done) | (simp; omega))) _).alloc _).wide (by have zz0 := Hlt.out; have zz1 := Sz2.out; have zz2 := Sz3.out; have zz3 := Sz4.out; first | omega | (simp; done) | (simp; omega)) (by have zz0 := Hlt.out; have zz1 := Sz2.out; have zz2 := Sz3.out; have zz3 := Sz4.out; first | omega | (simp; done) | (simp; omega)) (by have zz0 := Hlt.out; have zz1 := Sz2.out; have zz2 := Sz3.out; have zz3 := Sz4.out; first | omega | (simp; done) | (simp; omega))
      · exact (((Bel4.out.setCell (by have zz0 := Hlt.out; have zz1 := Sz2.out; have zz2 := Sz3.out; have zz3 := Sz4.out; first | omega | (simp; done) | (simp; omega)) _).setCell (by have zz0 := Hlt.out; have zz1 := Sz2.out; have zz2 := Sz3.out; have zz3 := Sz4.out; first | omega | (simp; done) | (simp; omega)) _).setCell (by have zz0 := Hlt.out; have zz1 := Sz2.out; have zz2 := Sz3.out; have zz3 := Sz4.out; first | omega | (simp; done) | (simp; omega)) _).alloc (by have zz0 := Hlt.out; have zz1 := Sz2.out; have zz2 := Sz3.out; have zz3 := Sz4.out; first | omega | (simp; done) | (simp; omega)) _
    · have hrg : rgE S xs E k (-6000) 6000 = 2 := by unfold rgE; rw [if_pos hW, if_neg hk]
      rw [hrg]
      have Hres := Lib.hid (scR_range HW.out hk)
      clear hrg hW hk
      go_wp2_with fail
      refine bodyPost_ret (v := .tuple #[.agg #[.int .i64 0, .slice none 0 0, .int .i64 0], .int .i64 2]) (by simp [results, Tryd.results37, go_sem, hRsD0, hRsD1, hRsD2]) rfl ⟨0, none, 0, 0, by rw [Hres.out.2.1, Hres.out.2.2], ?_, ?_⟩
      · rw [Hres.out.1]; exact ZO.zero (Nat.le_refl _)
      · exact ((Bel2.out.setCell (by have zz0 := Hlt.out; have zz1 := Sz2.out; first | omega | (simp; done) | (simp; omega)) _).setCell (by have zz0 := Hlt.out; have zz1 := Sz2.out; first | omega | (simp; done) | (simp; omega)) _).setCell (by have zz0 := Hlt.out; have zz1 := Sz2.out; first | omega | (simp; done) | (simp; omega)) _
  · have hW2 : isD S xs E = false := by simpa using hW
    have hrg : rgE S xs E k (-6000) 6000 = 1 := by unfold rgE; rw [if_neg hW]
    rw [hrg]
    have Hres := Lib.hid (scR_no (k := k) hW2)
    clear hW hW2 hrg
    go_wp2_with fail
    refine bodyPost_ret (v := .tuple #[.agg #[.int .i64 0, .slice none 0 0, .int .i64 0], .int .i64 1]) (by simp [results, Tryd.results37, go_sem, hRsD0, hRsD1, hRsD2]) rfl ⟨0, none, 0, 0, by rw [Hres.out.2.1, Hres.out.2.2], ?_, ?_⟩
    · rw [Hres.out.1]; exact ZO.zero (Nat.le_refl _)
    · exact ((Bel2.out.setCell (by have zz0 := Hlt.out; have zz1 := Sz2.out; first | omega | (simp; done) | (simp; omega)) _).setCell (by have zz0 := Hlt.out; have zz1 := Sz2.out; first | omega | (simp; done) | (simp; omega)) _).setCell (by have zz0 := Hlt.out; have zz1 := Sz2.out; first | omega | (simp; done) | (simp; omega)) _

set_option maxHeartbeats 4000000 in
theorem implFloorDW_any (S : Int) (A : Option Addr) (n c : Nat) (xs : List Int) (E k : Int) (w : World) (hr : Rd w w.heap.size A (vi xs)) (hn : xs.length = n) (hm : n ≤ 1048580) (hc : n ≤ c) (hT : TabZ w) :
    Calls Tryd.prog 40 #[.agg #[.int .i64 S, .slice A n c, .int .i64 E], .int .i64 k] w fun e w' => ∃ Sr Ar nr cr, e = .returned (.tuple #[.agg #[.int .i64 Sr, .slice Ar nr cr, .int .i64 (flRX S xs E k)], .int .i64 (flRE S xs E k)]) ∧ ZO w' w.heap.size w'.heap.size (flRZ S xs E k) Sr Ar nr cr ∧ Below w.heap.size w w' := by
  have hst := store_int Tryd.prog
  have hst2 := store_slice Tryd.prog
  obtain ⟨w1, hw1, hb1, hb3, hb4⟩ := dbox_res w S A n c E 34 34
  have RsD1 := Lib.hid hb3
  have Hlt : Hid (w.heap.size + 1 < w1.heap.size) := Lib.hid hb3.2
  have Hr := Lib.hid hr
  have Hn := Lib.hid hn
  have Hm := Lib.hid hm
  have Hc := Lib.hid hc
  have Hw := Lib.hid hw1
  have Bx1 := Lib.hid hb1
  have Bel1 := Lib.hid hb4
  clear hr hn hw1 hb1 hb3 hb4 hc
  have HT := Lib.hid hT
  clear hT
  go_enter Tryd.func40, Tryd.ntmps40
  go_wp2_with fail
  rw [← Hw.out]
  obtain ⟨⟨hBx0, hBx1, hBx2⟩, hBx3⟩ := Bx1.out
  obtain ⟨⟨hRsD0, hRsD1, hRsD2, hRsD3, hRsD4, hRsD5⟩, hRsD6⟩ := RsD1.out
  refine (implIsD_any S A n c E xs _ ((Hr.out.below Bel1.out).up Bel1.out.size) Hn.out Hm.out).mono ?_
  rintro e w2 ⟨rfl, hb⟩
  have Sz2 := Lib.hid (Below.size hb)
  have Bel2 := Lib.hid (belNext Bel1.out hb)
  have Bx2 := Lib.hid (Bx1.out.next hb)
  have RsD2 := Lib.hid (RsD1.out.next hb)
  clear hb Bel1 Bx1 RsD1 hBx0 hBx1 hBx2 hBx3 hRsD0 hRsD1 hRsD2 hRsD3 hRsD4 hRsD5 hRsD6
  obtain ⟨⟨hBx0, hBx1, hBx2⟩, hBx3⟩ := Bx2.out
  obtain ⟨⟨hRsD0, hRsD1, hRsD2, hRsD3, hRsD4, hRsD5⟩, hRsD6⟩ := RsD2.out
  by_cases hW : isD S xs E = true
  · have HW := Lib.hid hW
    rw [hW]
    clear hW
    by_cases hk : -1000 ≤ k ∧ k ≤ 1000
    · obtain ⟨z, hz, hok, hzv, hn100⟩ := isD_data HW.out Hr.out Hn.out Hc.out
      have Hres := Lib.hid (flR_yes HW.out hz hk)
      have Hz := Lib.hid hzv
      have hE1 := hok.2.1
      have hE2 := hok.2.2.1
      obtain ⟨hk1, hk2⟩ := hk
      clear hz hzv hok
      go_wp2_with fail
      refine (beyond_no k 1000 _ hk1 hk2 (by omega) (by omega)).mono ?_
      rintro e w9 ⟨rfl, rfl⟩
      go_wp2_with fail
      refine (implFloorD_any z S E A n c k _ (Hz.out.next Bel2.out) (by omega) (by omega) (by omega) (by omega) (by omega) (HT.out.next Bel2.out)).mono ?_
      rintro e w3 ⟨S2, A2, n2, c2, rfl, hzo, hb⟩
      have Zo3 := Lib.hid hzo
      have Hn2 : Hid ((n2 : Int) ≤ 4000) := Lib.hid (by have h := sh_len3 (k := E + k) Hz.out.2.1 (by omega); rw [hzo.2.1] at h; omega)
      clear hzo
      have Sz3 := Lib.hid (Below.size hb)
      have Bel3 := Lib.hid (belNext Bel2.out hb)
      have Bx3 := Lib.hid (Bx2.out.next hb)
      have RsD3 := Lib.hid (RsD2.out.next hb)
      clear hb Bel2 Bx2 RsD2 hBx0 hBx1 hBx2 hBx3 hRsD0 hRsD1 hRsD2 hRsD3 hRsD4 hRsD5 hRsD6
      obtain ⟨⟨hBx0, hBx1, hBx2⟩, hBx3⟩ := Bx3.out
      obtain ⟨⟨hRsD0, hRsD1, hRsD2, hRsD3, hRsD4, hRsD5⟩, hRsD6⟩ := RsD3.out
      go_wp2_with fail
      refine (implLimD_any (shZ z (E + k)) S2 (-k) A2 n2 c2 _ Zo3.out.zv Hn2.out (by omega) (by omega) (HT.out.next Bel3.out)).mono ?_
      rintro e w4 ⟨S9, A9, n9, c9, rfl, hzo, hb⟩
      have Zp4 := Lib.hid hzo
      clear hzo
      have Sz4 := Lib.hid (Below.size hb)
      have Bel4 := Lib.hid (belNext Bel3.out hb)
      have Bx4 := Lib.hid (Bx3.out.next hb)
      have RsD4 := Lib.hid (RsD3.out.next hb)
      clear hb Bel3 Bx3 RsD3 hBx0 hBx1 hBx2 hBx3 hRsD0 hRsD1 hRsD2 hRsD3 hRsD4 hRsD5 hRsD6
      obtain ⟨⟨hBx0, hBx1, hBx2⟩, hBx3⟩ := Bx4.out
      obtain ⟨⟨hRsD0, hRsD1, hRsD2, hRsD3, hRsD4, hRsD5⟩, hRsD6⟩ := RsD4.out
      go_wp2_with fail
      refine bodyPost_ret (v := .tuple #[.agg #[.int .i64 S9, .slice A9 n9 c9, .int .i64 (fdX (shZ z (E + k)) (-k))], .int .i64 (fdE (shZ z (E + k)) (-k))]) (by simp [results, Tryd.results40, go_sem, hRsD0, hRsD1, hRsD2]) rfl ⟨S9, A9, n9, c9, by rw [Hres.out.2.1, Hres.out.2.2], ?_, ?_⟩
      · rw [Hres.out.1]; exact (((Zp4.out.setCell (.inl (by have zz0 := Hlt.out; have zz1 := Sz2.out; have zz2 := Sz3.out; have zz3 := Sz4.out; first | omega | (simp; done) | (simp; omega))) _).setCell (.inl (by have zz0 := Hlt.out; have zz1 := Sz2.out; have zz2 := Sz3.out; have zz3 := Sz4.out; first | omega | (simp; done) | (simp; omega))) _).setCell (.inl (by have zz0 := Hlt.out; have zz1 := Sz2.out; have zz2 := Sz3.out; have zz3 := Sz4.out; first | omega | (simp; done) | (simp; omega))) _).wide (by have zz0 := Hlt.out; have zz1 := Sz2.out; have zz2 := Sz3.out; have zz3 := Sz4.out; first | omega | (simp; done) | (simp; omega)) (by have zz0 := Hlt.out; have zz1 := Sz2.out; have zz2 := Sz3.out; have zz3 := Sz4.out; first | omega | (simp; done) | (simp; omega)) (by have zz0 := Hlt.out; have zz1 := Sz2.out; have zz2 := Sz3.out; have zz3 := Sz4.out; first | omega | (simp; done) | (simp; omega))
      · exact ((Bel4.out.setCell (by have zz0 := Hlt.out; have zz1 := Sz2.out; have zz2 := Sz3.out; have zz3 := Sz4.out; first | omega | (simp; done) | (simp; omega)) _).setCell (by have zz0 := Hlt.out; have zz1 := Sz2.out; have zz2 := Sz3.out; have zz3 := Sz4.out; first | omega | (simp; done) | (simp; omega)) _).setCell (by have zz0 := Hlt.out; have zz1 := Sz2.out; have zz2 := Sz3.out; have zz3 := Sz4.out; first | omega | (simp; done) | (simp; omega)) _
    · have Hres := Lib.hid (flR_range HW.out hk)
      have hk3 : k < -1000 ∨ 1000 < k := by omega
      clear hk
      go_wp2_with fail
      refine (beyond_yes k 1000 _ hk3 (by omega) (by omega)).mono ?_
      rintro e w9 ⟨rfl, rfl⟩
      go_wp2_with fail
      refine bodyPost_ret (v := .tuple #[.agg #[.int .i64 0, .slice none 0 0, .int .i64 0], .int .i64 2]) (by simp [results, Tryd.results40, go_sem, hRsD0, hRsD1, hRsD2]) rfl ⟨0, none, 0, 0, by rw [Hres.out.2.1, Hres.out.2.2], ?_, ?_⟩
      · rw [Hres.out.1]; exact ZO.zero (Nat.le_refl _)
      · exact ((Bel2.out.setCell (by have zz0 := Hlt.out; have zz1 := Sz2.out; first | omega | (simp; done) | (simp; omega)) _).setCell (by have zz0 := Hlt.out; have zz1 := Sz2.out; first | omega | (simp; done) | (simp; omega)) _).setCell (by have zz0 := Hlt.out; have zz1 := Sz2.out; first | omega | (simp; done) | (simp; omega)) _
  · have hW2 : isD S xs E = false := by simpa using hW
    have Hres := Lib.hid (flR_no (k := k) hW2)
    rw [hW2]
    clear hW hW2
    go_wp2_with fail
    refine bodyPost_ret (v := .tuple #[.agg #[.int .i64 0, .slice none 0 0, .int .i64 0], .int .i64 1]) (by simp [results, Tryd.results40, go_sem, hRsD0, hRsD1, hRsD2]) rfl ⟨0, none, 0, 0, by rw [Hres.out.2.1, Hres.out.2.2], ?_, ?_⟩
    · rw [Hres.out.1]; exact ZO.zero (Nat.le_refl _)
    · exact ((Bel2.out.setCell (by have zz0 := Hlt.out; have zz1 := Sz2.out; first | omega | (simp; done) | (simp; omega)) _).setCell (by have zz0 := Hlt.out; have zz1 := Sz2.out; first | omega | (simp; done) | (simp; omega)) _).setCell (by have zz0 := Hlt.out; have zz1 := Sz2.out; first | omega | (simp; done) | (simp; omega)) _

set_option maxHeartbeats 4000000 in
theorem specFloorDW_any (S : Int) (A : Option Addr) (n c : Nat) (xs : List Int) (E k : Int) (w : World) (hr : Rd w w.heap.size A (vi xs)) (hn : xs.length = n) (hm : n ≤ 1048580) (hc : n ≤ c) :
    Calls Tryd.prog 39 #[.agg #[.int .i64 S, .slice A n c, .int .i64 E], .int .i64 k] w fun e w' => ∃ Sr Ar nr cr, e = .returned (.tuple #[.agg #[.int .i64 Sr, .slice Ar nr cr, .int .i64 (flRX S xs E k)], .int .i64 (flRE S xs E k)]) ∧ ZO w' w.heap.size w'.heap.size (flRZ S xs E k) Sr Ar nr cr ∧ Below w.heap.size w w' := by
  have hst := store_int Tryd.prog
  have hst2 := store_slice Tryd.prog
  obtain ⟨w1, hw1, hb1, hb3, hb4⟩ := dbox_res w S A n c E 34 34
  have RsD1 := Lib.hid hb3
  have Hlt : Hid (w.heap.size + 1 < w1.heap.size) := Lib.hid hb3.2
  have Hr := Lib.hid hr
  have Hn := Lib.hid hn
  have Hm := Lib.hid hm
  have Hc := Lib.hid hc
  have Hw := Lib.hid hw1
  have Bx1 := Lib.hid hb1
  have Bel1 := Lib.hid hb4
  clear hr hn hw1 hb1 hb3 hb4 hc
  go_enter Tryd.func39, Tryd.ntmps39
  go_wp2_with fail
  rw [← Hw.out]
  obtain ⟨⟨hBx0, hBx1, hBx2⟩, hBx3⟩ := Bx1.out
  obtain ⟨⟨hRsD0, hRsD1, hRsD2, hRsD3, hRsD4, hRsD5⟩, hRsD6⟩ := RsD1.out
  refine (specRange_any S A n c E xs k (-1000) 1000 _ ((Hr.out.below Bel1.out).up Bel1.out.size) Hn.out Hm.out).mono ?_
  rintro e w2 ⟨rfl, hb⟩
  have Sz2 := Lib.hid (Below.size hb)
  have Bel2 := Lib.hid (belNext Bel1.out hb)
  have Bx2 := Lib.hid (Bx1.out.next hb)
  have RsD2 := Lib.hid (RsD1.out.next hb)
  clear hb Bel1 Bx1 RsD1 hBx0 hBx1 hBx2 hBx3 hRsD0 hRsD1 hRsD2 hRsD3 hRsD4 hRsD5 hRsD6
  obtain ⟨⟨hBx0, hBx1, hBx2⟩, hBx3⟩ := Bx2.out
  obtain ⟨⟨hRsD0, hRsD1, hRsD2, hRsD3, hRsD4, hRsD5⟩, hRsD6⟩ := RsD2.out
  by_cases hW : isD S xs E = true
  · have HW := Lib.hid hW
    by_cases hk : -1000 ≤ k ∧ k ≤ 1000
    · have hrg : rgE S xs E k (-1000) 1000 = 0 := by unfold rgE; rw [if_pos hW, if_pos hk]
      rw [hrg]
      clear hrg hW
      obtain ⟨z, hz, hok, hzv, hn100⟩ := isD_data HW.out Hr.out Hn.out Hc.out
      have Hres := Lib.hid (flR_yes HW.out hz hk)
      have Hz := Lib.hid hzv
      have hE1 := hok.2.1
      have hE2 := hok.2.2.1
      obtain ⟨hk1, hk2⟩ := hk
      clear hz hzv hok
      go_wp2_with fail
      refine (specFloorD_any z S E A n c k _ (Hz.out.next Bel2.out) (by omega) (by omega) (by omega) (by omega) (by omega)).mono ?_
      rintro e w3 ⟨S2, A2, n2, c2, rfl, hzo, hb⟩
      have Zo3 := Lib.hid hzo
      have Hn2 : Hid (n2 ≤ 1048580) := Lib.hid (by have h := Nat.le_trans (limbs_len_mono (nz_le _)) (sh_len3 (k := E + k) Hz.out.2.1 (by omega)); rw [hzo.2.1] at h; omega)
      clear hzo
      have Sz3 := Lib.hid (Below.size hb)
      have Bel3 := Lib.hid (belNext Bel2.out hb)
      have Bx3 := Lib.hid (Bx2.out.next hb)
      have RsD3 := Lib.hid (RsD2.out.next hb)
      clear hb Bel2 Bx2 RsD2 hBx0 hBx1 hBx2 hBx3 hRsD0 hRsD1 hRsD2 hRsD3 hRsD4 hRsD5 hRsD6
      obtain ⟨⟨hBx0, hBx1, hBx2⟩, hBx3⟩ := Bx3.out
      obtain ⟨⟨hRsD0, hRsD1, hRsD2, hRsD3, hRsD4, hRsD5⟩, hRsD6⟩ := RsD3.out
      go_wp2_with fail
      refine (specFitD_any (shZ z (E + k)) (-k) S2 (nx (shZ z (E + k)) (-k)) A2 n2 c2 _ _ _ Zo3.out Hn2.out rfl (by have zz0 := Hlt.out; have zz1 := Sz2.out; have zz2 := Sz3.out; first | omega | (simp; done) | (simp; omega))).mono ?_
      rintro e w4 ⟨S9, A9, n9, c9, rfl, hzo, hb⟩
      have Zp4 := Lib.hid hzo
      clear hzo
      have Sz4 := Lib.hid (Below.size hb)
      have Bel4 := Lib.hid (belNext Bel3.out hb)
      have Bx4 := Lib.hid (Bx3.out.next hb)
      have RsD4 := Lib.hid (RsD3.out.next hb)
      clear hb Bel3 Bx3 RsD3 hBx0 hBx1 hBx2 hBx3 hRsD0 hRsD1 hRsD2 hRsD3 hRsD4 hRsD5 hRsD6
      obtain ⟨⟨hBx0, hBx1, hBx2⟩, hBx3⟩ := Bx4.out
      obtain ⟨⟨hRsD0, hRsD1, hRsD2, hRsD3, hRsD4, hRsD5⟩, hRsD6⟩ := RsD4.out
      go_wp2_with fail
      obtain ⟨⟨r0, r1, r2⟩, _⟩ := (DBox.made (S := S9) (A := A9) (n := n9) (c := c9) (E := (fdX (shZ z (E + k)) (-k))) hRsD6 ⟨_, hRsD0⟩ ⟨_, hRsD1⟩ ⟨_, hRsD2⟩).next (belAlloc1 _ (.cells #[.int .i64 S9, .slice A9 n9 c9, .int .i64 (fdX (shZ z (E + k)) (-k))] 34))
      simp only [st3] at r0 r1 r2
      refine bodyPost_ret (v := .tuple #[.agg #[.int .i64 S9, .slice A9 n9 c9, .int .i64 (fdX (shZ z (E + k)) (-k))], .int .i64 (fdE (shZ z (E + k)) (-k))]) (by simp [results, Tryd.results39, go_sem, r0, r1, r2]) rfl ⟨S9, A9, n9, c9, by rw [Hres.out.2.1, Hres.out.2.2], ?_, ?_⟩
      · rw [Hres.out.1]; exact ((((Zp4.out.setCell (.inl (by have zz0 := Hlt.out; have zz1 := Sz2.out; have zz2 := Sz3.out; have zz3 := Sz4.out; first | omega | (simp; done) | (simp; omega))) _).setCell (.inl (by have zz0 := Hlt.out; have zz1 := Sz2.out; have zz2 := Sz3.out; have zz3 := Sz4.out; first | omega | (simp; done) | (simp; omega))) _).setCell (.inl (by have zz0 := Hlt.out; have zz1 := Sz2.out; have zz2 := Sz3.out; have zz3 := Sz4.out; first | omega | (simp; done) | (simp; omega))) _).alloc _).wide (by have zz0 := Hlt.out; have zz1 := Sz2.out; have zz2 := Sz3.out; have zz3 := Sz4.out; first | omega | (simp; done) | (simp; omega)) (by have zz0 := Hlt.out; have zz1 := Sz2.out; have zz2 := Sz3.out; have zz3 := Sz4.out; first | omega | (simp; done) | (simp; omega)) (by have zz0 := Hlt.out; have zz1 := Sz2.out; have zz2 := Sz3.out; have zz3 := Sz4.out; first | omega | (simp; done) | (simp; omega))
      · exact (((Bel4.out.setCell (by have zz0 := Hlt.out; have zz1 := Sz2.out; have zz2 := Sz3.out; have zz3 := Sz4.out; first | omega | (simp; done) | (simp; omega)) _).setCell (by have zz0 := Hlt.out; have zz1 := Sz2.out; have zz2 := Sz3.out; have zz3 := Sz4.out; first | omega | (simp; done) | (simp; omega)) _).setCell (by have zz0 := Hlt.out; have zz1 := Sz2.out; have zz2 := Sz3.out; have zz3 := Sz4.out; first | omega | (simp; done) | (simp; omega)) _).alloc (by have zz0 := Hlt.out; have zz1 := Sz2.out; have zz2 := Sz3.out; have zz3 := Sz4.out; first | omega | (simp; done) | (simp; omega)) _
    · have hrg : rgE S xs E k (-1000) 1000 = 2 := by unfold rgE; rw [if_pos hW, if_neg hk]
      rw [hrg]
      have Hres := Lib.hid (flR_range HW.out hk)
      clear hrg hW hk
      go_wp2_with fail
      refine bodyPost_ret (v := .tuple #[.agg #[.int .i64 0, .slice none 0 0, .int .i64 0], .int .i64 2]) (by simp [results, Tryd.results39, go_sem, hRsD0, hRsD1, hRsD2]) rfl ⟨0, none, 0, 0, by rw [Hres.out.2.1, Hres.out.2.2], ?_, ?_⟩
      · rw [Hres.out.1]; exact ZO.zero (Nat.le_refl _)
      · exact ((Bel2.out.setCell (by have zz0 := Hlt.out; have zz1 := Sz2.out; first | omega | (simp; done) | (simp; omega)) _).setCell (by have zz0 := Hlt.out; have zz1 := Sz2.out; first | omega | (simp; done) | (simp; omega)) _).setCell (by have zz0 := Hlt.out; have zz1 := Sz2.out; first | omega | (simp; done) | (simp; omega)) _
  · have hW2 : isD S xs E = false := by simpa using hW
    have hrg : rgE S xs E k (-1000) 1000 = 1 := by unfold rgE; rw [if_neg hW]
    rw [hrg]
    have Hres := Lib.hid (flR_no (k := k) hW2)
    clear hW hW2 hrg
    go_wp2_with fail
    refine bodyPost_ret (v := .tuple #[.agg #[.int .i64 0, .slice none 0 0, .int .i64 0], .int .i64 1]) (by simp [results, Tryd.results39, go_sem, hRsD0, hRsD1, hRsD2]) rfl ⟨0, none, 0, 0, by rw [Hres.out.2.1, Hres.out.2.2], ?_, ?_⟩
    · rw [Hres.out.1]; exact ZO.zero (Nat.le_refl _)
    · exact ((Bel2.out.setCell (by have zz0 := Hlt.out; have zz1 := Sz2.out; first | omega | (simp; done) | (simp; omega)) _).setCell (by have zz0 := Hlt.out; have zz1 := Sz2.out; first | omega | (simp; done) | (simp; omega)) _).setCell (by have zz0 := Hlt.out; have zz1 := Sz2.out; first | omega | (simp; done) | (simp; omega)) _

set_option maxHeartbeats 4000000 in
theorem implCeilDW_any (S : Int) (A : Option Addr) (n c : Nat) (xs : List Int) (E k : Int) (w : World) (hr : Rd w w.heap.size A (vi xs)) (hn : xs.length = n) (hm : n ≤ 1048580) (hc : n ≤ c) (hT : TabZ w) :
    Calls Tryd.prog 42 #[.agg #[.int .i64 S, .slice A n c, .int .i64 E], .int .i64 k] w fun e w' => ∃ Sr Ar nr cr, e = .returned (.tuple #[.agg #[.int .i64 Sr, .slice Ar nr cr, .int .i64 (ceRX S xs E k)], .int .i64 (ceRE S xs E k)]) ∧ ZO w' w.heap.size w'.heap.size (ceRZ S xs E k) Sr Ar nr cr ∧ Below w.heap.size w w' := by
  have hst := store_int Tryd.prog
  have hst2 := store_slice Tryd.prog
  obtain ⟨w1, hw1, hb1, hb3, hb4⟩ := dbox_res w S A n c E 34 34
  have RsD1 := Lib.hid hb3
  have Hlt : Hid (w.heap.size + 1 < w1.heap.size) := Lib.hid hb3.2
  have Hr := Lib.hid hr
  have Hn := Lib.hid hn
  have Hm := Lib.hid hm
  have Hc := Lib.hid hc
  have Hw := Lib.hid hw1
  have Bx1 := Lib.hid hb1
  have Bel1 := Lib.hid hb4
  clear hr hn hw1 hb1 hb3 hb4 hc
  have HT := Lib.hid hT
  clear hT
  go_enter Tryd.func42, Tryd.ntmps42
  go_wp2_with fail
  rw [← Hw.out]
  obtain ⟨⟨hBx0, hBx1, hBx2⟩, hBx3⟩ := Bx1.out
  obtain ⟨⟨hRsD0, hRsD1, hRsD2, hRsD3, hRsD4, hRsD5⟩, hRsD6⟩ := RsD1.out
  refine (implIsD_any S A n c E xs _ ((Hr.out.below Bel1.out).up Bel1.out.size) Hn.out Hm.out).mono ?_
  rintro e w2 ⟨rfl, hb⟩
  have Sz2 := Lib.hid (Below.size hb)
  have Bel2 := Lib.hid (belNext Bel1.out hb)
  have Bx2 := Lib.hid (Bx1.out.next hb)
  have RsD2 := Lib.hid (RsD1.out.next hb)
  clear hb Bel1 Bx1 RsD1 hBx0 hBx1 hBx2 hBx3 hRsD0 hRsD1 hRsD2 hRsD3 hRsD4 hRsD5 hRsD6
  obtain ⟨⟨hBx0, hBx1, hBx2⟩, hBx3⟩ := Bx2.out
  obtain ⟨⟨hRsD0, hRsD1, hRsD2, hRsD3, hRsD4, hRsD5⟩, hRsD6⟩ := RsD2.out
  by_cases hW : isD S xs E = true
  · have HW := Lib.hid hW
    rw [hW]
    clear hW
    by_cases hk : -1000 ≤ k ∧ k ≤ 1000
    · obtain ⟨z, hz, hok, hzv, hn100⟩ := isD_data HW.out Hr.out Hn.out Hc.out
      have Hres := Lib.hid (ceR_yes HW.out hz hk)
      have Hz := Lib.hid hzv
      have hE1 := hok.2.1
      have hE2 := hok.2.2.1
      obtain ⟨hk1, hk2⟩ := hk
      clear hz hzv hok
      go_wp2_with fail
      refine (beyond_no k 1000 _ hk1 hk2 (by omega) (by omega)).mono ?_
      rintro e w9 ⟨rfl, rfl⟩
      go_wp2_with fail
      refine (implOppD_any S E A n c _ ((Hz.out.next Bel2.out)).sg.1 ((Hz.out.next Bel2.out)).sg.2.1).mono ?_
      rintro e w3 ⟨rfl, hb⟩
      have Sz3 := Lib.hid (Below.size hb)
      have Bel3 := Lib.hid (belNext Bel2.out hb)
      have Bx3 := Lib.hid (Bx2.out.next hb)
      have RsD3 := Lib.hid (RsD2.out.next hb)
      clear hb Bel2 Bx2 RsD2 hBx0 hBx1 hBx2 hBx3 hRsD0 hRsD1 hRsD2 hRsD3 hRsD4 hRsD5 hRsD6
      obtain ⟨⟨hBx0, hBx1, hBx2⟩, hBx3⟩ := Bx3.out
      obtain ⟨⟨hRsD0, hRsD1, hRsD2, hRsD3, hRsD4, hRsD5⟩, hRsD6⟩ := RsD3.out
      go_wp2_with fail
      refine (implFloorD_any (-z) (-S) E A n c k _ (Hz.out.next Bel3.out).neg (by omega) (by omega) (by omega) (by omega) (by omega) (HT.out.next Bel3.out)).mono ?_
      rintro e w4 ⟨S2, A2, n2, c2, rfl, hzo, hb⟩
      have Zo4 := Lib.hid hzo
      have Hn2 : Hid ((n2 : Int) ≤ 4000) := Lib.hid (by have h := sh_len3 (k := E + k) (Hz.out.neg).2.1 (by omega); rw [hzo.2.1] at h; omega)
      clear hzo
      have Sz4 := Lib.hid (Below.size hb)
      have Bel4 := Lib.hid (belNext Bel3.out hb)
      have Bx4 := Lib.hid (Bx3.out.next hb)
      have RsD4 := Lib.hid (RsD3.out.next hb)
      clear hb Bel3 Bx3 RsD3 hBx0 hBx1 hBx2 hBx3 hRsD0 hRsD1 hRsD2 hRsD3 hRsD4 hRsD5 hRsD6
      obtain ⟨⟨hBx0, hBx1, hBx2⟩, hBx3⟩ := Bx4.out
      obtain ⟨⟨hRsD0, hRsD1, hRsD2, hRsD3, hRsD4, hRsD5⟩, hRsD6⟩ := RsD4.out
      go_wp2_with fail
      refine (implOppD_any S2 (-k) A2 n2 c2 _ Zo4.out.zv.sg.1 Zo4.out.zv.sg.2.1).mono ?_
      rintro e w5 ⟨rfl, hb⟩
      have Sz5 := Lib.hid (Below.size hb)
      have Bel5 := Lib.hid (belNext Bel4.out hb)
      have Bx5 := Lib.hid (Bx4.out.next hb)
      have RsD5 := Lib.hid (RsD4.out.next hb)
      have Zo5 := Lib.hid (Zo4.out.next hb)
      clear hb Bel4 Bx4 RsD4 Zo4 hBx0 hBx1 hBx2 hBx3 hRsD0 hRsD1 hRsD2 hRsD3 hRsD4 hRsD5 hRsD6
      obtain ⟨⟨hBx0, hBx1, hBx2⟩, hBx3⟩ := Bx5.out
      obtain ⟨⟨hRsD0, hRsD1, hRsD2, hRsD3, hRsD4, hRsD5⟩, hRsD6⟩ := RsD5.out
      go_wp2_with fail
      refine (implLimD_any (-(shZ (-z) (E + k))) (-S2) (-k) A2 n2 c2 _ Zo5.out.zv.neg Hn2.out (by omega) (by omega) (HT.out.next Bel5.out)).mono ?_
      rintro e w6 ⟨S9, A9, n9, c9, rfl, hzo, hb⟩
      have Zp6 := Lib.hid hzo
      clear hzo
      have Sz6 := Lib.hid (Below.size hb)
      have Bel6 := Lib.hid (belNext Bel5.out hb)
      have Bx6 := Lib.hid (Bx5.out.next hb)
      have RsD6 := Lib.hid (RsD5.out.next hb)
      have Zo6 := Lib.hid (Zo5.out.next hb)
      clear hb Bel5 Bx5 RsD5 Zo5 hBx0 hBx1 hBx2 hBx3 hRsD0 hRsD1 hRsD2 hRsD3 hRsD4 hRsD5 hRsD6
      obtain ⟨⟨hBx0, hBx1, hBx2⟩, hBx3⟩ := Bx6.out
      obtain ⟨⟨hRsD0, hRsD1, hRsD2, hRsD3, hRsD4, hRsD5⟩, hRsD6⟩ := RsD6.out
      go_wp2_with fail
      refine bodyPost_ret (v := .tuple #[.agg #[.int .i64 S9, .slice A9 n9 c9, .int .i64 (fdX (-(shZ (-z) (E + k))) (-k))], .int .i64 (fdE (-(shZ (-z) (E + k))) (-k))]) (by simp [results, Tryd.results42, go_sem, hRsD0, hRsD1, hRsD2]) rfl ⟨S9, A9, n9, c9, by rw [Hres.out.2.1, Hres.out.2.2], ?_, ?_⟩
      · rw [Hres.out.1]; exact (((Zp6.out.setCell (.inl (by have zz0 := Hlt.out; have zz1 := Sz2.out; have zz2 := Sz3.out; have zz3 := Sz4.out; have zz4 := Sz5.out; have zz5 := Sz6.out; first | omega | (simp; done) | (simp; omega))) _).setCell (.inl (by have zz0 := Hlt.out; have zz1 := Sz2.out; have zz2 := Sz3.out; have zz3 := Sz4.out; have zz4 := Sz5.out; have zz5 := Sz6.out; first | omega | (simp; done) | (simp; omega))) _).setCell (.inl (by have zz0 := Hlt.out; have zz1 := Sz2.out; have zz2 := Sz3.out; have zz3 := Sz4.out; have zz4 := Sz5.out; have zz5 := Sz6.out; first | omega | (simp; done) | (simp; omega))) _).wide (by have zz0 := Hlt.out; have zz1 := Sz2.out; have zz2 := Sz3.out; have zz3 := Sz4.out; have zz4 := Sz5.out; have zz5 := Sz6.out; first | omega | (simp; done) | (simp; omega)) (by have zz0 := Hlt.out; have zz1 := Sz2.out; have zz2 := Sz3.out; have zz3 := Sz4.out; have zz4 := Sz5.out; have zz5 := Sz6.out; first | omega | (simp; done) | (simp; omega)) (by have zz0 := Hlt.out; have zz1 := Sz2.out; have zz2 := Sz3.out; have zz3 := Sz4.out; have zz4 := Sz5.out; have zz5 := Sz6.out; first | omega | (simp; done) | (simp; omega))
      · exact ((Bel6.out.setCell (by have zz0 := Hlt.out; have zz1 := Sz2.out; have zz2 := Sz3.out; have zz3 := Sz4.out; have zz4 := Sz5.out; have zz5 := Sz6.out; first | omega | (simp; done) | (simp; omega)) _).setCell (by have zz0 := Hlt.out; have zz1 := Sz2.out; have zz2 := Sz3.out; have zz3 := Sz4.out; have zz4 := Sz5.out; have zz5 := Sz6.out; first | omega | (simp; done) | (simp; omega)) _).setCell (by have zz0 := Hlt.out; have zz1 := Sz2.out; have zz2 := Sz3.out; have zz3 := Sz4.out; have zz4 := Sz5.out; have zz5 := Sz6.out; first | omega | (simp; done) | (simp; omega)) _
    · have Hres := Lib.hid (ceR_range HW.out hk)
      have hk3 : k < -1000 ∨ 1000 < k := by omega
      clear hk
      go_wp2_with fail
      refine (beyond_yes k 1000 _ hk3 (by omega) (by omega)).mono ?_
      rintro e w9 ⟨rfl, rfl⟩
      go_wp2_with fail
      refine bodyPost_ret (v := .tuple #[.agg #[.int .i64 0, .slice none 0 0, .int .i64 0], .int .i64 2]) (by simp [results, Tryd.results42, go_sem, hRsD0, hRsD1, hRsD2]) rfl ⟨0, none, 0, 0, by rw [Hres.out.2.1, Hres.out.2.2], ?_, ?_⟩
      · rw [Hres.out.1]; exact ZO.zero (Nat.le_refl _)
      · exact ((Bel2.out.setCell (by have zz0 := Hlt.out; have zz1 := Sz2.out; first | omega | (simp; done) | (simp; omega)) _).setCell (by have zz0 := Hlt.out; have zz1 := Sz2.out; first | omega | (simp; done) | (simp; omega)) _).setCell (by have zz0 := Hlt.out; have zz1 := Sz2.out; first | omega | (simp; done) | (simp; omega)) _
  · have hW2 : isD S xs E = false := by simpa using hW
    have Hres := Lib.hid (ceR_no (k := k) hW2)
    rw [hW2]
    clear hW hW2
    go_wp2_with fail
    refine bodyPost_ret (v := .tuple #[.agg #[.int .i64 0, .slice none 0 0, .int .i64 0], .int .i64 1]) (by simp [results, Tryd.results42, go_sem, hRsD0, hRsD1, hRsD2]) rfl ⟨0, none, 0, 0, by rw [Hres.out.2.1, Hres.out.2.2], ?_, ?_⟩
    · rw [Hres.out.1]; exact ZO.zero (Nat.le_refl _)
    · exact ((Bel2.out.setCell (by have zz0 := Hlt.out; have zz1 := Sz2.out; first | omega | (simp; done) | (simp; omega)) _).setCell (by have zz0 := Hlt.out; have zz1 := Sz2.out; first | omega | (simp; done) | (simp; omega)) _).setCell (by have zz0 := Hlt.out; have zz1 := Sz2.out; first | omega | (simp; done) | (simp; omega)) _

set_option maxHeartbeats 4000000 in
theorem specCeilDW_any (S : Int) (A : Option Addr) (n c : Nat) (xs : List Int) (E k : Int) (w : World) (hr : Rd w w.heap.size A (vi xs)) (hn : xs.length = n) (hm : n ≤ 1048580) (hc : n ≤ c) :
    Calls Tryd.prog 41 #[.agg #[.int .i64 S, .slice A n c, .int .i64 E], .int .i64 k] w fun e w' => ∃ Sr Ar nr cr, e = .returned (.tuple #[.agg #[.int .i64 Sr, .slice Ar nr cr, .int .i64 (ceRX S xs E k)], .int .i64 (ceRE S xs E k)]) ∧ ZO w' w.heap.size w'.heap.size (ceRZ S xs E k) Sr Ar nr cr ∧ Below w.heap.size w w' := by
  have hst := store_int Tryd.prog
  have hst2 := store_slice Tryd.prog
  obtain ⟨w1, hw1, hb1, hb3, hb4⟩ := dbox_res w S A n c E 34 34
  have RsD1 := Lib.hid hb3
  have Hlt : Hid (w.heap.size + 1 < w1.heap.size) := Lib.hid hb3.2
  have Hr := Lib.hid hr
  have Hn := Lib.hid hn
  have Hm := Lib.hid hm
  have Hc := Lib.hid hc
  have Hw := Lib.hid hw1
  have Bx1 := Lib.hid hb1
  have Bel1 := Lib.hid hb4
  clear hr hn hw1 hb1 hb3 hb4 hc
  go_enter Tryd.func41, Tryd.ntmps41
  go_wp2_with fail
  rw [← Hw.out]
  obtain ⟨⟨hBx0, hBx1, hBx2⟩, hBx3⟩ := Bx1.out
  obtain ⟨⟨hRsD0, hRsD1, hRsD2, hRsD3, hRsD4, hRsD5⟩, hRsD6⟩ := RsD1.out
  refine (specRange_any S A n c E xs k (-1000) 1000 _ ((Hr.out.below Bel1.out).up Bel1.out.size) Hn.out Hm.out).mono ?_
  rintro e w2 ⟨rfl, hb⟩
  have Sz2 := Lib.hid (Below.size hb)
  have Bel2 := Lib.hid (belNext Bel1.out hb)
  have Bx2 := Lib.hid (Bx1.out.next hb)
  have RsD2 := Lib.hid (RsD1.out.next hb)
  clear hb Bel1 Bx1 RsD1 hBx0 hBx1 hBx2 hBx3 hRsD0 hRsD1 hRsD2 hRsD3 hRsD4 hRsD5 hRsD6
  obtain ⟨⟨hBx0, hBx1, hBx2⟩, hBx3⟩ := Bx2.out
  obtain ⟨⟨hRsD0, hRsD1, hRsD2, hRsD3, hRsD4, hRsD5⟩, hRsD6⟩ := RsD2.out
  by_cases hW : isD S xs E = true
  · have HW := Lib.hid hW
    by_cases hk : -1000 ≤ k ∧ k ≤ 1000
    · have hrg : rgE S xs E k (-1000) 1000 = 0 := by unfold rgE; rw [if_pos hW, if_pos hk]
      rw [hrg]
      clear hrg hW
      obtain ⟨z, hz, hok, hzv, hn100⟩ := isD_data HW.out Hr.out Hn.out Hc.out
      have Hres := Lib.hid (ceR_yes HW.out hz hk)
      have Hz := Lib.hid hzv
      have hE1 := hok.2.1
      have hE2 := hok.2.2.1
      obtain ⟨hk1, hk2⟩ := hk
      clear hz hzv hok
      go_wp2_with fail
      refine (specCeilD_any z S E A n c k _ (Hz.out.next Bel2.out) (by omega) (by omega) (by omega) (by omega) (by omega)).mono ?_
      rintro e w3 ⟨S2, A2, n2, c2, rfl, hzo, hb⟩
      have Zo3 := Lib.hid hzo
      have Hn2 : Hid (n2 ≤ 1048580) := Lib.hid (by have h := Nat.le_trans (limbs_len_mono (nz_le _)) (by rw [Int.natAbs_neg]; exact sh_len3 (k := E + k) (Hz.out.neg).2.1 (by omega)); rw [hzo.2.1] at h; omega)
      clear hzo
      have Sz3 := Lib.hid (Below.size hb)
      have Bel3 := Lib.hid (belNext Bel2.out hb)
      have Bx3 := Lib.hid (Bx2.out.next hb)
      have RsD3 := Lib.hid (RsD2.out.next hb)
      clear hb Bel2 Bx2 RsD2 hBx0 hBx1 hBx2 hBx3 hRsD0 hRsD1 hRsD2 hRsD3 hRsD4 hRsD5 hRsD6
      obtain ⟨⟨hBx0, hBx1, hBx2⟩, hBx3⟩ := Bx3.out
      obtain ⟨⟨hRsD0, hRsD1, hRsD2, hRsD3, hRsD4, hRsD5⟩, hRsD6⟩ := RsD3.out
      go_wp2_with fail
      refine (specFitD_any (-(shZ (-z) (E + k))) (-k) S2 (nx (-(shZ (-z) (E + k))) (-k)) A2 n2 c2 _ _ _ Zo3.out Hn2.out rfl (by have zz0 := Hlt.out; have zz1 := Sz2.out; have zz2 := Sz3.out; first | omega | (simp; done) | (simp; omega))).mono ?_
      rintro e w4 ⟨S9, A9, n9, c9, rfl, hzo, hb⟩
      have Zp4 := Lib.hid hzo
      clear hzo
      have Sz4 := Lib.hid (Below.size hb)
      have Bel4 := Lib.hid (belNext Bel3.out hb)
      have Bx4 := Lib.hid (Bx3.out.next hb)
      have RsD4 := Lib.hid (RsD3.out.next hb)
      clear hb Bel3 Bx3 RsD3 hBx0 hBx1 hBx2 hBx3 hRsD0 hRsD1 hRsD2 hRsD3 hRsD4 hRsD5 hRsD6
      obtain ⟨⟨hBx0, hBx1, hBx2⟩, hBx3⟩ := Bx4.out
      obtain ⟨⟨hRsD0, hRsD1, hRsD2, hRsD3, hRsD4, hRsD5⟩, hRsD6⟩ := RsD4.out
      go_wp2_with fail
      obtain ⟨⟨r0, r1, r2⟩, _⟩ := (DBox.made (S := S9) (A := A9) (n := n9) (c := c9) (E := (fdX (-(shZ (-z) (E + k))) (-k))) hRsD6 ⟨_, hRsD0⟩ ⟨_, hRsD1⟩ ⟨_, hRsD2⟩).next (belAlloc1 _ (.cells #[.int .i64 S9, .slice A9 n9 c9, .int .i64 (fdX (-(shZ (-z) (E + k))) (-k))] 34))
      simp only [st3] at r0 r1 r2
      refine bodyPost_ret (v := .tuple #[.agg #[.int .i64 S9, .slice A9 n9 c9, .int .i64 (fdX (-(shZ (-z) (E + k))) (-k))], .int .i64 (fdE (-(shZ (-z) (E + k))) (-k))]) (by simp [results, Tryd.results41, go_sem, r0, r1, r2]) rfl ⟨S9, A9, n9, c9, by rw [Hres.out.2.1, Hres.out.2.2], ?_, ?_⟩
      · rw [Hres.out.1]; exact ((((Zp4.out.setCell (.inl (by have zz0 := Hlt.out; have zz1 := Sz2.out; have zz2 := Sz3.out; have zz3 := Sz4.out; first | omega | (simp; done) | (simp; omega))) _).setCell (.inl (by have zz0 := Hlt.out; have zz1 := Sz2.out; have zz2 := Sz3.out; have zz3 := Sz4.out; first | omega | (simp; done) | (simp; omega))) _).setCell (.inl (by have zz0 := Hlt.out; have zz1 := Sz2.out; have zz2 := Sz3.out; have zz3 := Sz4.out; first | omega | (simp; done) | (simp; omega))) _).alloc _).wide (by have zz0 := Hlt.out; have zz1 := Sz2.out; have zz2 := Sz3.out; have zz3 := Sz4.out; first | omega | (simp; done) | (simp; omega)) (by have zz0 := Hlt.out; have zz1 := Sz2.out; have zz2 := Sz3.out; have zz3 := Sz4.out; first | omega | (simp; done) | (simp; omega)) (by have zz0 := Hlt.out; have zz1 := Sz2.out; have zz2 := Sz3.out; have zz3 := Sz4.out; first | omega | (simp; done) | (simp; omega))
      · exact (((Bel4.out.setCell (by have zz0 := Hlt.out; have zz1 := Sz2.out; have zz2 := Sz3.out; have zz3 := Sz4.out; first | omega | (simp; done) | (simp; omega)) _).setCell (by have zz0 := Hlt.out; have zz1 := Sz2.out; have zz2 := Sz3.out; have zz3 := Sz4.out; first | omega | (simp; done) | (simp; omega)) _).setCell (by have zz0 := Hlt.out; have zz1 := Sz2.out; have zz2 := Sz3.out; have zz3 := Sz4.out; first | omega | (simp; done) | (simp; omega)) _).alloc (by have zz0 := Hlt.out; have zz1 := Sz2.out; have zz2 := Sz3.out; have zz3 := Sz4.out; first | omega | (simp; done) | (simp; omega)) _
    · have hrg : rgE S xs E k (-1000) 1000 = 2 := by unfold rgE; rw [if_pos hW, if_neg hk]
      rw [hrg]
      have Hres := Lib.hid (ceR_range HW.out hk)
      clear hrg hW hk
      go_wp2_with fail
      refine bodyPost_ret (v := .tuple #[.agg #[.int .i64 0, .slice none 0 0, .int .i64 0], .int .i64 2]) (by simp [results, Tryd.results41, go_sem, hRsD0, hRsD1, hRsD2]) rfl ⟨0, none, 0, 0, by rw [Hres.out.2.1, Hres.out.2.2], ?_, ?_⟩
      · rw [Hres.out.1]; exact ZO.zero (Nat.le_refl _)
      · exact ((Bel2.out.setCell (by have zz0 := Hlt.out; have zz1 := Sz2.out; first | omega | (simp; done) | (simp; omega)) _).setCell (by have zz0 := Hlt.out; have zz1 := Sz2.out; first | omega | (simp; done) | (simp; omega)) _).setCell (by have zz0 := Hlt.out; have zz1 := Sz2.out; first | omega | (simp; done) | (simp; omega)) _
  · have hW2 : isD S xs E = false := by simpa using hW
    have hrg : rgE S xs E k (-1000) 1000 = 1 := by unfold rgE; rw [if_neg hW]
    rw [hrg]
    have Hres := Lib.hid (ceR_no (k := k) hW2)
    clear hW hW2 hrg
    go_wp2_with fail
    refine bodyPost_ret (v := .tuple #[.agg #[.int .i64 0, .slice none 0 0, .int .i64 0], .int .i64 1]) (by simp [results, Tryd.results41, go_sem, hRsD0, hRsD1, hRsD2]) rfl ⟨0, none, 0, 0, by rw [Hres.out.2.1, Hres.out.2.2], ?_, ?_⟩
    · rw [Hres.out.1]; exact ZO.zero (Nat.le_refl _)
    · exact ((Bel2.out.setCell (by have zz0 := Hlt.out; have zz1 := Sz2.out; first | omega | (simp; done) | (simp; omega)) _).setCell (by have zz0 := Hlt.out; have zz1 := Sz2.out; first | omega | (simp; done) | (simp; omega)) _).setCell (by have zz0 := Hlt.out; have zz1 := Sz2.out; first | omega | (simp; done) | (simp; omega)) _

end Go.Proofs.YtnnoobdcdfcdaaaDoor
