/- AddDyadics, SubtractDyadics, MultiplyDyadics, CompareDyadics, of the program and of the model. -/
import Derived.Test.YtnnoobdcdfcdaaaDoorHn
import Derived.Test.YtnnoobdcdfcdaaaDoorHe
import Derived.Test.YtnnoobdcdfcdaaaDoorHl
namespace Go.Proofs.YtnnoobdcdfcdaaaDoor
set_option maxRecDepth 100000
open Go.RowKit
set_option linter.unusedSimpArgs false
set_option linter.unusedVariables false

noncomputable def adRZ (S : Int) (xs : List Int) (E S' : Int) (xs' : List Int) (E' : Int) : Int := if bD S xs E S' xs' E' = true then fdZ (sumZ (S * magW S xs) E (S' * magW S' xs') E') (min E E') else 0
noncomputable def adRX (S : Int) (xs : List Int) (E S' : Int) (xs' : List Int) (E' : Int) : Int := if bD S xs E S' xs' E' = true then fdX (sumZ (S * magW S xs) E (S' * magW S' xs') E') (min E E') else 0
noncomputable def adRE (S : Int) (xs : List Int) (E S' : Int) (xs' : List Int) (E' : Int) : Int := if bD S xs E S' xs' E' = true then fdE (sumZ (S * magW S xs) E (S' * magW S' xs') E') (min E E') else 1
theorem adR_yes {S E S' E' z z' : Int} {xs xs' : List Int} (h : bD S xs E S' xs' E' = true) (hz : isZ z S xs) (hz' : isZ z' S' xs') : adRZ S xs E S' xs' E' = fdZ (sumZ z E z' E') (min E E') ∧ adRX S xs E S' xs' E' = fdX (sumZ z E z' E') (min E E') ∧ adRE S xs E S' xs' E' = fdE (sumZ z E z' E') (min E E') := by
  unfold adRZ adRX adRE; rw [if_pos h, if_pos h, if_pos h, val_isZ hz, val_isZ hz']; exact ⟨rfl, rfl, rfl⟩
theorem adR_no {S E S' E' : Int} {xs xs' : List Int} (h : bD S xs E S' xs' E' = false) : adRZ S xs E S' xs' E' = 0 ∧ adRX S xs E S' xs' E' = 0 ∧ adRE S xs E S' xs' E' = 1 := by
  unfold adRZ adRX adRE; rw [h]; exact ⟨rfl, rfl, rfl⟩
theorem adR_len (S : Int) (xs : List Int) (E S' : Int) (xs' : List Int) (E' : Int) : (limbs (adRZ S xs E S' xs' E').natAbs).length ≤ 100 := by
  unfold adRZ
  split
  · exact fd_len _ _
  · simp [limbs_zero]
noncomputable def suRZ (S : Int) (xs : List Int) (E S' : Int) (xs' : List Int) (E' : Int) : Int := if bD S xs E S' xs' E' = true then fdZ (sumZ (S * magW S xs) E (-(S' * magW S' xs')) E') (min E E') else 0
noncomputable def suRX (S : Int) (xs : List Int) (E S' : Int) (xs' : List Int) (E' : Int) : Int := if bD S xs E S' xs' E' = true then fdX (sumZ (S * magW S xs) E (-(S' * magW S' xs')) E') (min E E') else 0
noncomputable def suRE (S : Int) (xs : List Int) (E S' : Int) (xs' : List Int) (E' : Int) : Int := if bD S xs E S' xs' E' = true then fdE (sumZ (S * magW S xs) E (-(S' * magW S' xs')) E') (min E E') else 1
theorem suR_yes {S E S' E' z z' : Int} {xs xs' : List Int} (h : bD S xs E S' xs' E' = true) (hz : isZ z S xs) (hz' : isZ z' S' xs') : suRZ S xs E S' xs' E' = fdZ (sumZ z E (-z') E') (min E E') ∧ suRX S xs E S' xs' E' = fdX (sumZ z E (-z') E') (min E E') ∧ suRE S xs E S' xs' E' = fdE (sumZ z E (-z') E') (min E E') := by
  unfold suRZ suRX suRE; rw [if_pos h, if_pos h, if_pos h, val_isZ hz, val_isZ hz']; exact ⟨rfl, rfl, rfl⟩
theorem suR_no {S E S' E' : Int} {xs xs' : List Int} (h : bD S xs E S' xs' E' = false) : suRZ S xs E S' xs' E' = 0 ∧ suRX S xs E S' xs' E' = 0 ∧ suRE S xs E S' xs' E' = 1 := by
  unfold suRZ suRX suRE; rw [h]; exact ⟨rfl, rfl, rfl⟩
theorem suR_len (S : Int) (xs : List Int) (E S' : Int) (xs' : List Int) (E' : Int) : (limbs (suRZ S xs E S' xs' E').natAbs).length ≤ 100 := by
  unfold suRZ
  split
  · exact fd_len _ _
  · simp [limbs_zero]
noncomputable def muRZ (S : Int) (xs : List Int) (E S' : Int) (xs' : List Int) (E' : Int) : Int := if bD S xs E S' xs' E' = true then fdZ ((S * magW S xs) * (S' * magW S' xs')) (E + E') else 0
noncomputable def muRX (S : Int) (xs : List Int) (E S' : Int) (xs' : List Int) (E' : Int) : Int := if bD S xs E S' xs' E' = true then fdX ((S * magW S xs) * (S' * magW S' xs')) (E + E') else 0
noncomputable def muRE (S : Int) (xs : List Int) (E S' : Int) (xs' : List Int) (E' : Int) : Int := if bD S xs E S' xs' E' = true then fdE ((S * magW S xs) * (S' * magW S' xs')) (E + E') else 1
theorem muR_yes {S E S' E' z z' : Int} {xs xs' : List Int} (h : bD S xs E S' xs' E' = true) (hz : isZ z S xs) (hz' : isZ z' S' xs') : muRZ S xs E S' xs' E' = fdZ (z * z') (E + E') ∧ muRX S xs E S' xs' E' = fdX (z * z') (E + E') ∧ muRE S xs E S' xs' E' = fdE (z * z') (E + E') := by
  unfold muRZ muRX muRE; rw [if_pos h, if_pos h, if_pos h, val_isZ hz, val_isZ hz']; exact ⟨rfl, rfl, rfl⟩
theorem muR_no {S E S' E' : Int} {xs xs' : List Int} (h : bD S xs E S' xs' E' = false) : muRZ S xs E S' xs' E' = 0 ∧ muRX S xs E S' xs' E' = 0 ∧ muRE S xs E S' xs' E' = 1 := by
  unfold muRZ muRX muRE; rw [h]; exact ⟨rfl, rfl, rfl⟩
theorem muR_len (S : Int) (xs : List Int) (E S' : Int) (xs' : List Int) (E' : Int) : (limbs (muRZ S xs E S' xs' E').natAbs).length ≤ 100 := by
  unfold muRZ
  split
  · exact fd_len _ _
  · simp [limbs_zero]
noncomputable def cmR (S : Int) (xs : List Int) (E S' : Int) (xs' : List Int) (E' : Int) : Int := if bD S xs E S' xs' E' = true then (sumZ (S * magW S xs) E (-(S' * magW S' xs')) E').sign else 0
theorem cmR_yes {S E S' E' z z' : Int} {xs xs' : List Int} (h : bD S xs E S' xs' E' = true) (hz : isZ z S xs) (hz' : isZ z' S' xs') : cmR S xs E S' xs' E' = (sumZ z E (-z') E').sign ∧ bDE S xs E S' xs' E' = 0 := by
  unfold cmR bDE; rw [if_pos h, if_pos h, val_isZ hz, val_isZ hz']; exact ⟨rfl, rfl⟩
theorem cmR_no {S E S' E' : Int} {xs xs' : List Int} (h : bD S xs E S' xs' E' = false) : cmR S xs E S' xs' E' = 0 ∧ bDE S xs E S' xs' E' = 1 := by
  unfold cmR bDE; rw [h]; exact ⟨rfl, rfl⟩
theorem sumZ_len {z E z' E' : Int} {n n' : Nat} (hn : (limbs z.natAbs).length = n) (hn' : (limbs z'.natAbs).length = n') (h1 : -4000 ≤ E) (h2 : E ≤ 4000) (h3 : -4000 ≤ E') (h4 : E' ≤ 4000) : (limbs (sumZ z E z' E').natAbs).length ≤ n + n' + 681 := by
  unfold sumZ
  have a := left_len (z := z) (k := E - min E E') hn (by omega) rfl
  have b := left_len (z := z') (k := E' - min E E') hn' (by omega) rfl
  have := sum_sg (a := (2 : Int) ^ (E - min E E').toNat * z) (b := (2 : Int) ^ (E' - min E E').toNat * z') rfl rfl
  omega
theorem mulZ_len {z z' : Int} {n n' : Nat} (hn : (limbs z.natAbs).length = n) (hn' : (limbs z'.natAbs).length = n') : (limbs (z * z').natAbs).length ≤ n + n' := by
  have h := mul_len (sg_sign z) (sg_sign z') hn hn'
  rwa [Int.sign_mul_natAbs, Int.sign_mul_natAbs] at h

set_option maxHeartbeats 4000000 in
theorem implAddDW_any (S : Int) (A : Option Addr) (n c : Nat) (E : Int) (xs : List Int) (S' : Int) (A' : Option Addr) (n' c' : Nat) (E' : Int) (xs' : List Int) (w : World) (hr : Rd w w.heap.size A (vi xs)) (hn : xs.length = n) (hm : n ≤ 1048580) (hr' : Rd w w.heap.size A' (vi xs')) (hn' : xs'.length = n') (hm' : n' ≤ 1048580) (hc : n ≤ c) (hc' : n' ≤ c') (hT : TabZ w) :
    Calls Tryd.prog 30 #[.agg #[.int .i64 S, .slice A n c, .int .i64 E], .agg #[.int .i64 S', .slice A' n' c', .int .i64 E']] w fun e w' => ∃ Sr Ar nr cr, e = .returned (.tuple #[.agg #[.int .i64 Sr, .slice Ar nr cr, .int .i64 (adRX S xs E S' xs' E')], .int .i64 (adRE S xs E S' xs' E')]) ∧ ZO w' w.heap.size w'.heap.size (adRZ S xs E S' xs' E') Sr Ar nr cr ∧ Below w.heap.size w w' := by
  have hst := store_int Tryd.prog
  have hst2 := store_slice Tryd.prog
  obtain ⟨w1, hw1, hb1, hb2, hb3, hb4⟩ := dbox2_res w S S' A A' n n' c c' E E' 34 34 34
  have RsD1 := Lib.hid hb3
  have Hlt : Hid (w.heap.size + 1 + 1 < w1.heap.size) := Lib.hid hb3.2
  have Hr := Lib.hid hr
  have Hn := Lib.hid hn
  have Hm := Lib.hid hm
  have Hr' := Lib.hid hr'
  have Hn' := Lib.hid hn'
  have Hm' := Lib.hid hm'
  have Hc := Lib.hid hc
  have Hc' := Lib.hid hc'
  have Hw := Lib.hid hw1
  have Bx1 := Lib.hid hb1
  have By1 := Lib.hid hb2
  have Bel1 := Lib.hid hb4
  clear hr hn hr' hn' hc hc' hw1 hb1 hb2 hb4 hb3
  have HT := Lib.hid hT
  clear hT
  go_enter Tryd.func30, Tryd.ntmps30
  go_wp2_with fail
  rw [← Hw.out]
  obtain ⟨⟨hBx0, hBx1, hBx2⟩, hBx3⟩ := Bx1.out
  obtain ⟨⟨hBy0, hBy1, hBy2⟩, hBy3⟩ := By1.out
  obtain ⟨⟨hRsD0, hRsD1, hRsD2, hRsD3, hRsD4, hRsD5⟩, hRsD6⟩ := RsD1.out
  refine (implIsD_any S A n c E xs _ ((Hr.out.below Bel1.out).up Bel1.out.size) Hn.out Hm.out).mono ?_
  rintro e w2 ⟨rfl, hb⟩
  have Sz2 := Lib.hid (Below.size hb)
  have Bel2 := Lib.hid (belNext Bel1.out hb)
  have Bx2 := Lib.hid (Bx1.out.next hb)
  have By2 := Lib.hid (By1.out.next hb)
  have RsD2 := Lib.hid (RsD1.out.next hb)
  clear hb Bel1 Bx1 By1 RsD1 hBx0 hBx1 hBx2 hBx3 hBy0 hBy1 hBy2 hBy3 hRsD0 hRsD1 hRsD2 hRsD3 hRsD4 hRsD5 hRsD6
  obtain ⟨⟨hBx0, hBx1, hBx2⟩, hBx3⟩ := Bx2.out
  obtain ⟨⟨hBy0, hBy1, hBy2⟩, hBy3⟩ := By2.out
  obtain ⟨⟨hRsD0, hRsD1, hRsD2, hRsD3, hRsD4, hRsD5⟩, hRsD6⟩ := RsD2.out
  by_cases hD : isD S xs E = true
  · have HD := Lib.hid hD
    rw [hD]
    clear hD
    go_wp2_with fail
    refine (implIsD_any S' A' n' c' E' xs' _ ((Hr'.out.below Bel2.out).up Bel2.out.size) Hn'.out Hm'.out).mono ?_
    rintro e w3 ⟨rfl, hb⟩
    have Sz3 := Lib.hid (Below.size hb)
    have Bel3 := Lib.hid (belNext Bel2.out hb)
    have Bx3 := Lib.hid (Bx2.out.next hb)
    have By3 := Lib.hid (By2.out.next hb)
    have RsD3 := Lib.hid (RsD2.out.next hb)
    clear hb Bel2 Bx2 By2 RsD2 hBx0 hBx1 hBx2 hBx3 hBy0 hBy1 hBy2 hBy3 hRsD0 hRsD1 hRsD2 hRsD3 hRsD4 hRsD5 hRsD6
    obtain ⟨⟨hBx0, hBx1, hBx2⟩, hBx3⟩ := Bx3.out
    obtain ⟨⟨hBy0, hBy1, hBy2⟩, hBy3⟩ := By3.out
    obtain ⟨⟨hRsD0, hRsD1, hRsD2, hRsD3, hRsD4, hRsD5⟩, hRsD6⟩ := RsD3.out
    by_cases hD' : isD S' xs' E' = true
    · have HD' := Lib.hid hD'
      rw [hD']
      clear hD'
      obtain ⟨z, hz, hok, hzv, hn100⟩ := isD_data HD.out Hr.out Hn.out Hc.out
      obtain ⟨z', hz', hok', hzv', hn100'⟩ := isD_data HD'.out Hr'.out Hn'.out Hc'.out
      have Hres := Lib.hid (adR_yes (bD_yes HD.out HD'.out) hz hz')
      have Hz := Lib.hid hzv
      have Hz' := Lib.hid hzv'
      have hE1 := hok.2.1
      have hE2 := hok.2.2.1
      have hE3 := hok'.2.1
      have hE4 := hok'.2.2.1
      clear hz hz' hzv hzv' hok hok'
      go_wp2_with fail
      refine (implPlusD_any z S E z' S' E' A A' n c n' c' _ (Hz.out.next Bel3.out) (Hz'.out.next Bel3.out) (by omega) (by omega) (by omega) (by omega) (by omega) (by omega) (HT.out.next Bel3.out)).mono ?_
      rintro e w4 ⟨S2, A2, n2, c2, rfl, hzo, hb⟩
      have Zo4 := Lib.hid hzo
      have Hn2 : Hid ((n2 : Int) ≤ 4000) := Lib.hid (by have h := sumZ_len (E := E) (E' := E') Hz.out.2.1 Hz'.out.2.1 (by omega) (by omega) (by omega) (by omega); rw [hzo.2.1] at h; omega)
      clear hzo
      have Sz4 := Lib.hid (Below.size hb)
      have Bel4 := Lib.hid (belNext Bel3.out hb)
      have Bx4 := Lib.hid (Bx3.out.next hb)
      have By4 := Lib.hid (By3.out.next hb)
      have RsD4 := Lib.hid (RsD3.out.next hb)
      clear hb Bel3 Bx3 By3 RsD3 hBx0 hBx1 hBx2 hBx3 hBy0 hBy1 hBy2 hBy3 hRsD0 hRsD1 hRsD2 hRsD3 hRsD4 hRsD5 hRsD6
      obtain ⟨⟨hBx0, hBx1, hBx2⟩, hBx3⟩ := Bx4.out
      obtain ⟨⟨hBy0, hBy1, hBy2⟩, hBy3⟩ := By4.out
      obtain ⟨⟨hRsD0, hRsD1, hRsD2, hRsD3, hRsD4, hRsD5⟩, hRsD6⟩ := RsD4.out
      go_wp2_with fail
      refine (implLimD_any (sumZ z E z' E') S2 (min E E') A2 n2 c2 _ Zo4.out.zv Hn2.out (by omega) (by omega) (HT.out.next Bel4.out)).mono ?_
      rintro e w5 ⟨S9, A9, n9, c9, rfl, hzo, hb⟩
      have Zp5 := Lib.hid hzo
      clear hzo
      have Sz5 := Lib.hid (Below.size hb)
      have Bel5 := Lib.hid (belNext Bel4.out hb)
      have Bx5 := Lib.hid (Bx4.out.next hb)
      have By5 := Lib.hid (By4.out.next hb)
      have RsD5 := Lib.hid (RsD4.out.next hb)
      clear hb Bel4 Bx4 By4 RsD4 hBx0 hBx1 hBx2 hBx3 hBy0 hBy1 hBy2 hBy3 hRsD0 hRsD1 hRsD2 hRsD3 hRsD4 hRsD5 hRsD6
      obtain ⟨⟨hBx0, hBx1, hBx2⟩, hBx3⟩ := Bx5.out
      obtain ⟨⟨hBy0, hBy1, hBy2⟩, hBy3⟩ := By5.out
      obtain ⟨⟨hRsD0, hRsD1, hRsD2, hRsD3, hRsD4, hRsD5⟩, hRsD6⟩ := RsD5.out
      go_wp2_with fail
      refine bodyPost_ret (v := .tuple #[.agg #[.int .i64 S9, .slice A9 n9 c9, .int .i64 (fdX (sumZ z E z' E') (min E E'))], .int .i64 (fdE (sumZ z E z' E') (min E E'))]) (by simp [results, Tryd.results30, go_sem, hRsD0, hRsD1, hRsD2]) rfl ⟨S9, A9, n9, c9, by rw [Hres.out.2.1, Hres.out.2.2], ?_, ?_⟩
      · rw [Hres.out.1]; exact (((Zp5.out.setCell (.inl (by have zz0 := Hlt.out; have zz1 := Sz2.out; have zz2 := Sz3.out; have zz3 := Sz4.out; have zz4 := Sz5.out; first | omega | (simp; done) | (simp; omega))) _).setCell (.inl (by have zz0 := Hlt.out; have zz1 := Sz2.out; have zz2 := Sz3.out; have zz3 := Sz4.out; have zz4 := Sz5.out; first | omega | (simp; done) | (simp; omega))) _).setCell (.inl (by have zz0 := Hlt.out; have zz1 := Sz2.out; have zz2 := Sz3.out; have zz3 := Sz4.out; have zz4 := Sz5.out; first | omega | (simp; done) | (simp; omega))) _).wide (by have zz0 := Hlt.out; have zz1 := Sz2.out; have zz2 := Sz3.out; have zz3 := Sz4.out; have zz4 := Sz5.out; first | omega | (simp; done) | (simp; omega)) (by have zz0 := Hlt.out; have zz1 := Sz2.out; have zz2 := Sz3.out; have zz3 := Sz4.out; have zz4 := Sz5.out; first | omega | (simp; done) | (simp; omega)) (by have zz0 := Hlt.out; have zz1 := Sz2.out; have zz2 := Sz3.out; have zz3 := Sz4.out; have zz4 := Sz5.out; first | omega | (simp; done) | (simp; omega))
      · exact ((Bel5.out.setCell (by have zz0 := Hlt.out; have zz1 := Sz2.out; have zz2 := Sz3.out; have zz3 := Sz4.out; have zz4 := Sz5.out; first | omega | (simp; done) | (simp; omega)) _).setCell (by have zz0 := Hlt.out; have zz1 := Sz2.out; have zz2 := Sz3.out; have zz3 := Sz4.out; have zz4 := Sz5.out; first | omega | (simp; done) | (simp; omega)) _).setCell (by have zz0 := Hlt.out; have zz1 := Sz2.out; have zz2 := Sz3.out; have zz3 := Sz4.out; have zz4 := Sz5.out; first | omega | (simp; done) | (simp; omega)) _
    · have hD2 : isD S' xs' E' = false := by simpa using hD'
      have Hres := Lib.hid (adR_no (bD_no2 HD.out hD2))
      rw [hD2]
      clear hD' hD2
      go_wp2_with fail
      refine bodyPost_ret (v := .tuple #[.agg #[.int .i64 0, .slice none 0 0, .int .i64 0], .int .i64 1]) (by simp [results, Tryd.results30, go_sem, hRsD0, hRsD1, hRsD2]) rfl ⟨0, none, 0, 0, by rw [Hres.out.2.1, Hres.out.2.2], ?_, ?_⟩
      · rw [Hres.out.1]; exact ZO.zero (Nat.le_refl _)
      · exact ((Bel3.out.setCell (by have zz0 := Hlt.out; have zz1 := Sz2.out; have zz2 := Sz3.out; first | omega | (simp; done) | (simp; omega)) _).setCell (by have zz0 := Hlt.out; have zz1 := Sz2.out; have zz2 := Sz3.out; first | omega | (simp; done) | (simp; omega)) _).setCell (by have zz0 := Hlt.out; have zz1 := Sz2.out; have zz2 := Sz3.out; first | omega | (simp; done) | (simp; omega)) _
  · have hD2 : isD S xs E = false := by simpa using hD
    have Hres := Lib.hid (adR_no (bD_no (S' := S') (xs' := xs') (E' := E') hD2))
    rw [hD2]
    clear hD hD2
    go_wp2_with fail
    refine bodyPost_ret (v := .tuple #[.agg #[.int .i64 0, .slice none 0 0, .int .i64 0], .int .i64 1]) (by simp [results, Tryd.results30, go_sem, hRsD0, hRsD1, hRsD2]) rfl ⟨0, none, 0, 0, by rw [Hres.out.2.1, Hres.out.2.2], ?_, ?_⟩
    · rw [Hres.out.1]; exact ZO.zero (Nat.le_refl _)
    · exact ((Bel2.out.setCell (by have zz0 := Hlt.out; have zz1 := Sz2.out; first | omega | (simp; done) | (simp; omega)) _).setCell (by have zz0 := Hlt.out; have zz1 := Sz2.out; first | omega | (simp; done) | (simp; omega)) _).setCell (by have zz0 := Hlt.out; have zz1 := Sz2.out; first | omega | (simp; done) | (simp; omega)) _

set_option maxHeartbeats 4000000 in
theorem specAddDW_any (S : Int) (A : Option Addr) (n c : Nat) (E : Int) (xs : List Int) (S' : Int) (A' : Option Addr) (n' c' : Nat) (E' : Int) (xs' : List Int) (w : World) (hr : Rd w w.heap.size A (vi xs)) (hn : xs.length = n) (hm : n ≤ 1048580) (hr' : Rd w w.heap.size A' (vi xs')) (hn' : xs'.length = n') (hm' : n' ≤ 1048580) (hc : n ≤ c) (hc' : n' ≤ c') :
    Calls Tryd.prog 28 #[.agg #[.int .i64 S, .slice A n c, .int .i64 E], .agg #[.int .i64 S', .slice A' n' c', .int .i64 E']] w fun e w' => ∃ Sr Ar nr cr, e = .returned (.tuple #[.agg #[.int .i64 Sr, .slice Ar nr cr, .int .i64 (adRX S xs E S' xs' E')], .int .i64 (adRE S xs E S' xs' E')]) ∧ ZO w' w.heap.size w'.heap.size (adRZ S xs E S' xs' E') Sr Ar nr cr ∧ Below w.heap.size w w' := by
  have hst := store_int Tryd.prog
  have hst2 := store_slice Tryd.prog
  obtain ⟨w1, hw1, hb1, hb2, hb3, hb4⟩ := dbox2_res w S S' A A' n n' c c' E E' 34 34 34
  have RsD1 := Lib.hid hb3
  have Hlt : Hid (w.heap.size + 1 + 1 < w1.heap.size) := Lib.hid hb3.2
  have Hr := Lib.hid hr
  have Hn := Lib.hid hn
  have Hm := Lib.hid hm
  have Hr' := Lib.hid hr'
  have Hn' := Lib.hid hn'
  have Hm' := Lib.hid hm'
  have Hc := Lib.hid hc
  have Hc' := Lib.hid hc'
  have Hw := Lib.hid hw1
  have Bx1 := Lib.hid hb1
  have By1 := Lib.hid hb2
  have Bel1 := Lib.hid hb4
  clear hr hn hr' hn' hc hc' hw1 hb1 hb2 hb4 hb3
  go_enter Tryd.func28, Tryd.ntmps28
  go_wp2_with fail
  rw [← Hw.out]
  obtain ⟨⟨hBx0, hBx1, hBx2⟩, hBx3⟩ := Bx1.out
  obtain ⟨⟨hBy0, hBy1, hBy2⟩, hBy3⟩ := By1.out
  obtain ⟨⟨hRsD0, hRsD1, hRsD2, hRsD3, hRsD4, hRsD5⟩, hRsD6⟩ := RsD1.out
  refine (specBothD_any S A n c E xs S' A' n' c' E' xs' _ ((Hr.out.below Bel1.out).up Bel1.out.size) Hn.out Hm.out ((Hr'.out.below Bel1.out).up Bel1.out.size) Hn'.out Hm'.out).mono ?_
  rintro e w2 ⟨rfl, hb⟩
  have Sz2 := Lib.hid (Below.size hb)
  have Bel2 := Lib.hid (belNext Bel1.out hb)
  have Bx2 := Lib.hid (Bx1.out.next hb)
  have By2 := Lib.hid (By1.out.next hb)
  have RsD2 := Lib.hid (RsD1.out.next hb)
  clear hb Bel1 Bx1 By1 RsD1 hBx0 hBx1 hBx2 hBx3 hBy0 hBy1 hBy2 hBy3 hRsD0 hRsD1 hRsD2 hRsD3 hRsD4 hRsD5 hRsD6
  obtain ⟨⟨hBx0, hBx1, hBx2⟩, hBx3⟩ := Bx2.out
  obtain ⟨⟨hBy0, hBy1, hBy2⟩, hBy3⟩ := By2.out
  obtain ⟨⟨hRsD0, hRsD1, hRsD2, hRsD3, hRsD4, hRsD5⟩, hRsD6⟩ := RsD2.out
  by_cases hB : bD S xs E S' xs' E' = true
  · have hbe : bDE S xs E S' xs' E' = 0 := by unfold bDE; rw [if_pos hB]
    rw [hbe]
    clear hbe
    have HD : Hid (isD S xs E = true) := Lib.hid (by unfold bD at hB; simp at hB; exact hB.1)
    have HD' : Hid (isD S' xs' E' = true) := Lib.hid (by unfold bD at hB; simp at hB; exact hB.2)
    clear hB
    obtain ⟨z, hz, hok, hzv, hn100⟩ := isD_data HD.out Hr.out Hn.out Hc.out
    obtain ⟨z', hz', hok', hzv', hn100'⟩ := isD_data HD'.out Hr'.out Hn'.out Hc'.out
    have Hres := Lib.hid (adR_yes (bD_yes HD.out HD'.out) hz hz')
    have Hz := Lib.hid hzv
    have Hz' := Lib.hid hzv'
    have hE1 := hok.2.1
    have hE2 := hok.2.2.1
    have hE3 := hok'.2.1
    have hE4 := hok'.2.2.1
    clear hz hz' hzv hzv' hok hok'
    go_wp2_with fail
    refine (specAddD_any z S E z' S' E' A A' n c n' c' _ (Hz.out.next Bel2.out) (Hz'.out.next Bel2.out) (by omega) (by omega) (by omega) (by omega) (by omega) (by omega)).mono ?_
    rintro e w3 ⟨S2, A2, n2, c2, rfl, hzo, hb⟩
    have Zo3 := Lib.hid hzo
    have Hn2 : Hid (n2 ≤ 1048580) := Lib.hid (by have h := Nat.le_trans (limbs_len_mono (nz_le _)) (sumZ_len (E := E) (E' := E') Hz.out.2.1 Hz'.out.2.1 (by omega) (by omega) (by omega) (by omega)); rw [hzo.2.1] at h; omega)
    clear hzo
    have Sz3 := Lib.hid (Below.size hb)
    have Bel3 := Lib.hid (belNext Bel2.out hb)
    have Bx3 := Lib.hid (Bx2.out.next hb)
    have By3 := Lib.hid (By2.out.next hb)
    have RsD3 := Lib.hid (RsD2.out.next hb)
    clear hb Bel2 Bx2 By2 RsD2 hBx0 hBx1 hBx2 hBx3 hBy0 hBy1 hBy2 hBy3 hRsD0 hRsD1 hRsD2 hRsD3 hRsD4 hRsD5 hRsD6
    obtain ⟨⟨hBx0, hBx1, hBx2⟩, hBx3⟩ := Bx3.out
    obtain ⟨⟨hBy0, hBy1, hBy2⟩, hBy3⟩ := By3.out
    obtain ⟨⟨hRsD0, hRsD1, hRsD2, hRsD3, hRsD4, hRsD5⟩, hRsD6⟩ := RsD3.out
    go_wp2_with fail
    refine (specFitD_any (sumZ z E z' E') (min E E') S2 (nx (sumZ z E z' E') (min E E')) A2 n2 c2 _ _ _ Zo3.out Hn2.out rfl (by have zz0 := Hlt.out; have zz1 := Sz2.out; have zz2 := Sz3.out; first | omega | (simp; done) | (simp; omega))).mono ?_
    rintro e w4 ⟨S9, A9, n9, c9, rfl, hzo, hb⟩
    have Zp4 := Lib.hid hzo
    clear hzo
    have Sz4 := Lib.hid (Below.size hb)
    have Bel4 := Lib.hid (belNext Bel3.out hb)
    have Bx4 := Lib.hid (Bx3.out.next hb)
    have By4 := Lib.hid (By3.out.next hb)
    have RsD4 := Lib.hid (RsD3.out.next hb)
    clear hb Bel3 Bx3 By3 RsD3 hBx0 hBx1 hBx2 hBx3 hBy0 hBy1 hBy2 hBy3 hRsD0 hRsD1 hRsD2 hRsD3 hRsD4 hRsD5 hRsD6
    obtain ⟨⟨hBx0, hBx1, hBx2⟩, hBx3⟩ := Bx4.out
    obtain ⟨⟨hBy0, hBy1, hBy2⟩, hBy3⟩ := By4.out
    obtain ⟨⟨hRsD0, hRsD1, hRsD2, hRsD3, hRsD4, hRsD5⟩, hRsD6⟩ := RsD4.out
    go_wp2_with fail
    obtain ⟨⟨r0, r1, r2⟩, _⟩ := (DBox.made (S := S9) (A := A9) (n := n9) (c := c9) (E := (fdX (sumZ z E z' E') (min E E'))) hRsD6 ⟨_, hRsD0⟩ ⟨_, hRsD1⟩ ⟨_, hRsD2⟩).next (belAlloc1 _ (.cells #[.int .i64 S9, .slice A9 n9 c9, .int .i64 (fdX (sumZ z E z' E') (min E E'))] 34))
    simp only [st3] at r0 r1 r2
    refine bodyPost_ret (v := .tuple #[.agg #[.int .i64 S9, .slice A9 n9 c9, .int .i64 (fdX (sumZ z E z' E') (min E E'))], .int .i64 (fdE (sumZ z E z' E') (min E E'))]) (by simp [results, Tryd.results28, go_sem, r0, r1, r2]) rfl ⟨S9, A9, n9, c9, by rw [Hres.out.2.1, Hres.out.2.2], ?_, ?_⟩
    · rw [Hres.out.1]; exact ((((Zp4.out.setCell (.inl (by have zz0 := Hlt.out; have zz1 := Sz2.out; have zz2 := Sz3.out; have zz3 := Sz4.out; first | omega | (simp; done) | (simp; omega))) _).setCell (.inl (by have zz0 := Hlt.out; have zz1 := Sz2.out; have zz2 := Sz3.out; have zz3 := Sz4.out; first | omega | (simp; done) | (simp; omega))) _).setCell (.inl (by have zz0 := Hlt.out; have zz1 := Sz2.out; have zz2 := Sz3.out; have zz3 := Sz4.out; first | omega | (simp; done) | (simp; omega))) _).alloc _).wide (by have zz0 := Hlt.out; have zz1 := Sz2.out; have zz2 := Sz3.out; have zz3 := Sz4.out; first | omega | (simp; done) | (simp; omega)) (by have zz0 := Hlt.out; have zz1 := Sz2.out; have zz2 := Sz3.out; have zz3 := Sz4.out; first | omega | (simp; done) | (simp; omega)) (by have zz0 := Hlt.out; have zz1 := Sz2.out; have zz2 := Sz3.out; have zz3 := Sz4.out; first | omega | (simp; done) | (simp; omega))
    · exact (((Bel4.out.setCell (by have zz0 := Hlt.out; have zz1 := Sz2.out; have zz2 := Sz3.out; have zz3 := Sz4.out; first | omega | (simp; done) | (simp; omega)) _).setCell (by have zz0 := Hlt.out; have zz1 := Sz2.out; have zz2 := Sz3.out; have zz3 := Sz4.out; first | omega | (simp; done) | (simp; omega)) _).setCell (by have zz0 := Hlt.out; have zz1 := Sz2.out; have zz2 := Sz3.out; have zz3 := Sz4.out; first | omega | (simp; done) | (simp; omega)) _).alloc (by have zz0 := Hlt.out; have zz1 := Sz2.out; have zz2 := Sz3.out; have zz3 := Sz4.out; first | omega | (simp; done) | (simp; omega)) _
  · have hB2 : bD S xs E S' xs' E' = false := by simpa using hB
    have hbe : bDE S xs E S' xs' E' = 1 := by unfold bDE; rw [hB2]; rfl
    rw [hbe]
    have Hres := Lib.hid (adR_no hB2)
    clear hbe hB hB2
    go_wp2_with fail
    refine bodyPost_ret (v := .tuple #[.agg #[.int .i64 0, .slice none 0 0, .int .i64 0], .int .i64 1]) (by simp [results, Tryd.results28, go_sem, hRsD0, hRsD1, hRsD2]) rfl ⟨0, none, 0, 0, by rw [Hres.out.2.1, Hres.out.2.2], ?_, ?_⟩
    · rw [Hres.out.1]; exact ZO.zero (Nat.le_refl _)
    · exact ((Bel2.out.setCell (by have zz0 := Hlt.out; have zz1 := Sz2.out; first | omega | (simp; done) | (simp; omega)) _).setCell (by have zz0 := Hlt.out; have zz1 := Sz2.out; first | omega | (simp; done) | (simp; omega)) _).setCell (by have zz0 := Hlt.out; have zz1 := Sz2.out; first | omega | (simp; done) | (simp; omega)) _

set_option maxHeartbeats 4000000 in
theorem implSubtractDW_any (S : Int) (A : Option Addr) (n c : Nat) (E : Int) (xs : List Int) (S' : Int) (A' : Option Addr) (n' c' : Nat) (E' : Int) (xs' : List Int) (w : World) (hr : Rd w w.heap.size A (vi xs)) (hn : xs.length = n) (hm : n ≤ 1048580) (hr' : Rd w w.heap.size A' (vi xs')) (hn' : xs'.length = n') (hm' : n' ≤ 1048580) (hc : n ≤ c) (hc' : n' ≤ c') (hT : TabZ w) :
    Calls Tryd.prog 32 #[.agg #[.int .i64 S, .slice A n c, .int .i64 E], .agg #[.int .i64 S', .slice A' n' c', .int .i64 E']] w fun e w' => ∃ Sr Ar nr cr, e = .returned (.tuple #[.agg #[.int .i64 Sr, .slice Ar nr cr, .int .i64 (suRX S xs E S' xs' E')], .int .i64 (suRE S xs E S' xs' E')]) ∧ ZO w' w.heap.size w'.heap.size (suRZ S xs E S' xs' E') Sr Ar nr cr ∧ Below w.heap.size w w' := by
  have hst := store_int Tryd.prog
  have hst2 := store_slice Tryd.prog
  obtain ⟨w1, hw1, hb1, hb2, hb3, hb4⟩ := dbox2_res w S S' A A' n n' c c' E E' 34 34 34
  have RsD1 := Lib.hid hb3
  have Hlt : Hid (w.heap.size + 1 + 1 < w1.heap.size) := Lib.hid hb3.2
  have Hr := Lib.hid hr
  have Hn := Lib.hid hn
  have Hm := Lib.hid hm
  have Hr' := Lib.hid hr'
  have Hn' := Lib.hid hn'
  have Hm' := Lib.hid hm'
  have Hc := Lib.hid hc
  have Hc' := Lib.hid hc'
  have Hw := Lib.hid hw1
  have Bx1 := Lib.hid hb1
  have By1 := Lib.hid hb2
  have Bel1 := Lib.hid hb4
  clear hr hn hr' hn' hc hc' hw1 hb1 hb2 hb4 hb3
  have HT := Lib.hid hT
  clear hT
  go_enter Tryd.func32, Tryd.ntmps32
  go_wp2_with fail
  rw [← Hw.out]
  obtain ⟨⟨hBx0, hBx1, hBx2⟩, hBx3⟩ := Bx1.out
  obtain ⟨⟨hBy0, hBy1, hBy2⟩, hBy3⟩ := By1.out
  obtain ⟨⟨hRsD0, hRsD1, hRsD2, hRsD3, hRsD4, hRsD5⟩, hRsD6⟩ := RsD1.out
  refine (implIsD_any S A n c E xs _ ((Hr.out.below Bel1.out).up Bel1.out.size) Hn.out Hm.out).mono ?_
  rintro e w2 ⟨rfl, hb⟩
  have Sz2 := Lib.hid (Below.size hb)
  have Bel2 := Lib.hid (belNext Bel1.out hb)
  have Bx2 := Lib.hid (Bx1.out.next hb)
  have By2 := Lib.hid (By1.out.next hb)
  have RsD2 := Lib.hid (RsD1.out.next hb)
  clear hb Bel1 Bx1 By1 RsD1 hBx0 hBx1 hBx2 hBx3 hBy0 hBy1 hBy2 hBy3 hRsD0 hRsD1 hRsD2 hRsD3 hRsD4 hRsD5 hRsD6
  obtain ⟨⟨hBx0, hBx1, hBx2⟩, hBx3⟩ := Bx2.out
  obtain ⟨⟨hBy0, hBy1, hBy2⟩, hBy3⟩ := By2.out
  obtain ⟨⟨hRsD0, hRsD1, hRsD2, hRsD3, hRsD4, hRsD5⟩, hRsD6⟩ := RsD2.out
  by_cases hD : isD S xs E = true
  · have HD := Lib.hid hD
    rw [hD]
    clear hD
    go_wp2_with fail
    refine (implIsD_any S' A' n' c' E' xs' _ ((Hr'.out.below Bel2.out).up Bel2.out.size) Hn'.out Hm'.out).mono ?_
    rintro e w3 ⟨rfl, hb⟩
    have Sz3 := Lib.hid (Below.size hb)
    have Bel3 := Lib.hid (belNext Bel2.out hb)
    have Bx3 := Lib.hid (Bx2.out.next hb)
    have By3 := Lib.hid (By2.out.next hb)
    have RsD3 := Lib.hid (RsD2.out.next hb)
    clear hb Bel2 Bx2 By2 RsD2 hBx0 hBx1 hBx2 hBx3 hBy0 hBy1 hBy2 hBy3 hRsD0 hRsD1 hRsD2 hRsD3 hRsD4 hRsD5 hRsD6
    obtain ⟨⟨hBx0, hBx1, hBx2⟩, hBx3⟩ := Bx3.out
    obtain ⟨⟨hBy0, hBy1, hBy2⟩, hBy3⟩ := By3.out
    obtain ⟨⟨hRsD0, hRsD1, hRsD2, hRsD3, hRsD4, hRsD5⟩, hRsD6⟩ := RsD3.out
    by_cases hD' : isD S' xs' E' = true
    · have HD' := Lib.hid hD'
      rw [hD']
      clear hD'
      obtain ⟨z, hz, hok, hzv, hn100⟩ := isD_data HD.out Hr.out Hn.out Hc.out
      obtain ⟨z', hz', hok', hzv', hn100'⟩ := isD_data HD'.out Hr'.out Hn'.out Hc'.out
      have Hres := Lib.hid (suR_yes (bD_yes HD.out HD'.out) hz hz')
      have Hz := Lib.hid hzv
      have Hz' := Lib.hid hzv'
      have hE1 := hok.2.1
      have hE2 := hok.2.2.1
      have hE3 := hok'.2.1
      have hE4 := hok'.2.2.1
      clear hz hz' hzv hzv' hok hok'
      go_wp2_with fail
      refine wp_region_held_drew (S := fun w' => (w'.cell? ⟨w.heap.size, 0, none⟩ = some (.int .i64 S) ∧ w'.cell? ⟨w.heap.size, 1, none⟩ = some (.slice A n c) ∧ w'.cell? ⟨w.heap.size, 2, none⟩ = some (.int .i64 E)) ∧ (w'.cell? ⟨w.heap.size + 1, 0, none⟩ = some (.int .i64 S') ∧ w'.cell? ⟨w.heap.size + 1, 1, none⟩ = some (.slice A' n' c') ∧ w'.cell? ⟨w.heap.size + 1, 2, none⟩ = some (.int .i64 E'))) (by kernel_rfl) ⟨Bx3.out.1, By3.out.1⟩ (fun hHeld => ?_)
      clear hBx0 hBx1 hBx2 hBx3 hBy0 hBy1 hBy2 hBy3 hRsD0 hRsD1 hRsD2 hRsD3 hRsD4 hRsD5 hRsD6
      refine wpAnyH_take (i := 0) (v := ?_) rfl (by kernel_rfl) (by kernel_rfl) (by kernel_rfl) (fun _ _ _ h => h) (Or.inl ⟨by rfl, ?_⟩) (by assumption) ?_
      rotate_left
      · (intro w hSw; (try dsimp only at hSw); go_simp; (try with_reducible rfl))
      try simp only [Act.put, List.setIfInBounds_toArray, List.set_cons_zero, List.set_cons_succ]
      refine wpAnyH_take (i := 1) (v := ?_) rfl (by kernel_rfl) (by kernel_rfl) (by kernel_rfl) (fun _ _ _ h => h) (Or.inl ⟨by rfl, ?_⟩) (by assumption) ?_
      rotate_left
      · (intro w hSw; (try dsimp only at hSw); go_simp; (try with_reducible rfl))
      try simp only [Act.put, List.setIfInBounds_toArray, List.set_cons_zero, List.set_cons_succ]
      refine wpAnyH_ready (rs := [2]) (by kernel_rfl) (by simp) ?_
      refine AllReadyH.cons rfl (fun K hK => ?_) AllReadyH.nil
      go_simp
      refine (implOppD_any S' E' A' n' c' w3.drew (Hz'.out.next Bel3.out).sg.1 (Hz'.out.next Bel3.out).sg.2.1).mono ?_
      rintro e w4 ⟨rfl, hb0⟩
      have hb : Below w3.heap.size w3 w4 := belDrew hb0
      refine hK.out _ _ ⟨(Bx3.out.next hb).1, (By3.out.next hb).1⟩ (fun hHeld => ?_)
      clear hK K hb0
      have Sz4 := Lib.hid (Below.size hb)
      have Bel4 := Lib.hid (belNext Bel3.out hb)
      have Bx4 := Lib.hid (Bx3.out.next hb)
      have By4 := Lib.hid (By3.out.next hb)
      have RsD4 := Lib.hid (RsD3.out.next hb)
      clear hb Bel3 Bx3 By3 RsD3
      try simp only [Act.put, List.setIfInBounds_toArray, List.set_cons_zero, List.set_cons_succ]
      refine wpAnyH_ready (rs := [3]) (by kernel_rfl) (by simp) ?_
      refine AllReadyH.cons rfl (fun K hK => ?_) AllReadyH.nil
      go_simp
      refine (implPlusD_any z S E (-z') (-S') E' A A' n c n' c' w4 (Hz.out.next Bel4.out) (Hz'.out.next Bel4.out).neg (by omega) (by omega) (by omega) (by omega) (by omega) (by omega) (HT.out.next Bel4.out)).mono ?_
      rintro e w5 ⟨S2, A2, n2, c2, rfl, hzo, hb0⟩
      have hb : Below w4.heap.size w4 w5 := hb0
      have Zo5 := Lib.hid hzo
      have Hn2 : Hid ((n2 : Int) ≤ 4000) := Lib.hid (by have h := sumZ_len (E := E) (E' := E') Hz.out.2.1 (Hz'.out.neg).2.1 (by omega) (by omega) (by omega) (by omega); rw [hzo.2.1] at h; omega)
      clear hzo
      refine hK.out _ _ ⟨(Bx4.out.next hb).1, (By4.out.next hb).1⟩ (fun hHeld => ?_)
      clear hK K hb0
      have Sz5 := Lib.hid (Below.size hb)
      have Bel5 := Lib.hid (belNext Bel4.out hb)
      have Bx5 := Lib.hid (Bx4.out.next hb)
      have By5 := Lib.hid (By4.out.next hb)
      have RsD5 := Lib.hid (RsD4.out.next hb)
      clear hb Bel4 Bx4 By4 RsD4
      try simp only [Act.put, List.setIfInBounds_toArray, List.set_cons_zero, List.set_cons_succ]
      refine wpAnyH_ready (rs := [4]) (by kernel_rfl) (by simp) ?_
      refine AllReadyH.cons rfl (fun K hK => ?_) AllReadyH.nil
      go_simp
      refine (implLimD_any (sumZ z E (-z') E') S2 (min E E') A2 n2 c2 w5 Zo5.out.zv Hn2.out (by omega) (by omega) (HT.out.next Bel5.out)).mono ?_
      rintro e w6 ⟨S9, A9, n9, c9, rfl, hzo, hb0⟩
      have hb : Below w5.heap.size w5 w6 := hb0
      have Zp6 := Lib.hid hzo
      clear hzo
      refine hK.out _ _ ⟨(Bx5.out.next hb).1, (By5.out.next hb).1⟩ (fun hHeld => ?_)
      clear hK K hb0
      have Sz6 := Lib.hid (Below.size hb)
      have Bel6 := Lib.hid (belNext Bel5.out hb)
      have Bx6 := Lib.hid (Bx5.out.next hb)
      have By6 := Lib.hid (By5.out.next hb)
      have RsD6 := Lib.hid (RsD5.out.next hb)
      clear hb Bel5 Bx5 By5 RsD5
      try simp only [Act.put, List.setIfInBounds_toArray, List.set_cons_zero, List.set_cons_succ]
      refine wpAnyH_take (i := 5) (v := ?_) rfl (by kernel_rfl) (by kernel_rfl) (by kernel_rfl) (fun _ _ _ h => h) (Or.inl ⟨by rfl, ?_⟩) (by assumption) ?_
      rotate_left
      · (intro w hSw; (try dsimp only at hSw); go_simp; (try with_reducible rfl))
      try simp only [Act.put, List.setIfInBounds_toArray, List.set_cons_zero, List.set_cons_succ]
      refine wpAnyH_take (i := 6) (v := ?_) rfl (by kernel_rfl) (by kernel_rfl) (by kernel_rfl) (fun _ _ _ h => h) (Or.inl ⟨by rfl, ?_⟩) (by assumption) ?_
      rotate_left
      · (intro w hSw; (try dsimp only at hSw); go_simp; (try with_reducible rfl))
      try simp only [Act.put, List.setIfInBounds_toArray, List.set_cons_zero, List.set_cons_succ]
      obtain ⟨⟨hRsD0, hRsD1, hRsD2, hRsD3, hRsD4, hRsD5⟩, hRsD6⟩ := RsD6.out
      refine wpAnyH_ready (rs := [7]) (by kernel_rfl) (by simp) ?_
      refine AllReadyH.cons rfl (fun K hK => ?_) AllReadyH.nil
      go_simp
      refine hK.out _ _ ⟨(((Bx6.out.keep (by have zz0 := Hlt.out; have zz1 := Sz2.out; have zz2 := Sz3.out; have zz3 := Sz4.out; have zz4 := Sz5.out; have zz5 := Sz6.out; first | omega | (simp; done) | (simp; omega)) _).keep (by have zz0 := Hlt.out; have zz1 := Sz2.out; have zz2 := Sz3.out; have zz3 := Sz4.out; have zz4 := Sz5.out; have zz5 := Sz6.out; first | omega | (simp; done) | (simp; omega)) _).keep (by have zz0 := Hlt.out; have zz1 := Sz2.out; have zz2 := Sz3.out; have zz3 := Sz4.out; have zz4 := Sz5.out; have zz5 := Sz6.out; first | omega | (simp; done) | (simp; omega)) _).1, (((By6.out.keep (by have zz0 := Hlt.out; have zz1 := Sz2.out; have zz2 := Sz3.out; have zz3 := Sz4.out; have zz4 := Sz5.out; have zz5 := Sz6.out; first | omega | (simp; done) | (simp; omega)) _).keep (by have zz0 := Hlt.out; have zz1 := Sz2.out; have zz2 := Sz3.out; have zz3 := Sz4.out; have zz4 := Sz5.out; have zz5 := Sz6.out; first | omega | (simp; done) | (simp; omega)) _).keep (by have zz0 := Hlt.out; have zz1 := Sz2.out; have zz2 := Sz3.out; have zz3 := Sz4.out; have zz4 := Sz5.out; have zz5 := Sz6.out; first | omega | (simp; done) | (simp; omega)) _).1⟩ (fun hHeld => ?_)
      clear hK K
      try simp only [Act.put, List.setIfInBounds_toArray, List.set_cons_zero, List.set_cons_succ]
      refine wpAnyH_ready (rs := [8]) (by kernel_rfl) (by simp) ?_
      refine AllReadyH.cons rfl (fun K hK => ?_) AllReadyH.nil
      go_simp
      refine hK.out _ _ hHeld (fun hHeld => ?_)
      clear hK K
      try simp only [Act.put, List.setIfInBounds_toArray, List.set_cons_zero, List.set_cons_succ]
      clear hHeld
      refine wpAnyH_done (by kernel_rfl) ?_ _
      go_wp2_with fail
      refine bodyPost_ret (v := .tuple #[.agg #[.int .i64 S9, .slice A9 n9 c9, .int .i64 (fdX (sumZ z E (-z') E') (min E E'))], .int .i64 (fdE (sumZ z E (-z') E') (min E E'))]) (by simp [results, Tryd.results32, go_sem, hRsD0, hRsD1, hRsD2]) rfl ⟨S9, A9, n9, c9, by rw [Hres.out.2.1, Hres.out.2.2], ?_, ?_⟩
      · rw [Hres.out.1]; exact (((Zp6.out.setCell (.inl (by have zz0 := Hlt.out; have zz1 := Sz2.out; have zz2 := Sz3.out; have zz3 := Sz4.out; have zz4 := Sz5.out; have zz5 := Sz6.out; first | omega | (simp; done) | (simp; omega))) _).setCell (.inl (by have zz0 := Hlt.out; have zz1 := Sz2.out; have zz2 := Sz3.out; have zz3 := Sz4.out; have zz4 := Sz5.out; have zz5 := Sz6.out; first | omega | (simp; done) | (simp; omega))) _).setCell (.inl (by have zz0 := Hlt.out; have zz1 := Sz2.out; have zz2 := Sz3.out; have zz3 := Sz4.out; have zz4 := Sz5.out; have zz5 := Sz6.out; first | omega | (simp; done) | (simp; omega))) _).wide (by have zz0 := Hlt.out; have zz1 := Sz2.out; have zz2 := Sz3.out; have zz3 := Sz4.out; have zz4 := Sz5.out; have zz5 := Sz6.out; first | omega | (simp; done) | (simp; omega)) (by have zz0 := Hlt.out; have zz1 := Sz2.out; have zz2 := Sz3.out; have zz3 := Sz4.out; have zz4 := Sz5.out; have zz5 := Sz6.out; first | omega | (simp; done) | (simp; omega)) (by have zz0 := Hlt.out; have zz1 := Sz2.out; have zz2 := Sz3.out; have zz3 := Sz4.out; have zz4 := Sz5.out; have zz5 := Sz6.out; first | omega | (simp; done) | (simp; omega))
      · exact ((Bel6.out.setCell (by have zz0 := Hlt.out; have zz1 := Sz2.out; have zz2 := Sz3.out; have zz3 := Sz4.out; have zz4 := Sz5.out; have zz5 := Sz6.out; first | omega | (simp; done) | (simp; omega)) _).setCell (by have zz0 := Hlt.out; have zz1 := Sz2.out; have zz2 := Sz3.out; have zz3 := Sz4.out; have zz4 := Sz5.out; have zz5 := Sz6.out; first | omega | (simp; done) | (simp; omega)) _).setCell (by have zz0 := Hlt.out; have zz1 := Sz2.out; have zz2 := Sz3.out; have zz3 := Sz4.out; have zz4 := Sz5.out; have zz5 := Sz6.out; first | omega | (simp; done) | (simp; omega)) _
    · have hD2 : isD S' xs' E' = false := by simpa using hD'
      have Hres := Lib.hid (suR_no (bD_no2 HD.out hD2))
      rw [hD2]
      clear hD' hD2
      go_wp2_with fail
      refine bodyPost_ret (v := .tuple #[.agg #[.int .i64 0, .slice none 0 0, .int .i64 0], .int .i64 1]) (by simp [results, Tryd.results32, go_sem, hRsD0, hRsD1, hRsD2]) rfl ⟨0, none, 0, 0, by rw [Hres.out.2.1, Hres.out.2.2], ?_, ?_⟩
      · rw [Hres.out.1]; exact ZO.zero (Nat.le_refl _)
      · exact ((Bel3.out.setCell (by have zz0 := Hlt.out; have zz1 := Sz2.out; have zz2 := Sz3.out; first | omega | (simp; done) | (simp; omega)) _).setCell (by have zz0 := Hlt.out; have zz1 := Sz2.out; have zz2 := Sz3.out; first | omega | (simp; done) | (simp; omega)) _).setCell (by have zz0 := Hlt.out; have zz1 := Sz2.out; have zz2 := Sz3.out; first | omega | (simp; done) | (simp; omega)) _
  · have hD2 : isD S xs E = false := by simpa using hD
    have Hres := Lib.hid (suR_no (bD_no (S' := S') (xs' := xs') (E' := E') hD2))
    rw [hD2]
    clear hD hD2
    go_wp2_with fail
    refine bodyPost_ret (v := .tuple #[.agg #[.int .i64 0, .slice none 0 0, .int .i64 0], .int .i64 1]) (by simp [results, Tryd.results32, go_sem, hRsD0, hRsD1, hRsD2]) rfl ⟨0, none, 0, 0, by rw [Hres.out.2.1, Hres.out.2.2], ?_, ?_⟩
    · rw [Hres.out.1]; exact ZO.zero (Nat.le_refl _)
    · exact ((Bel2.out.setCell (by have zz0 := Hlt.out; have zz1 := Sz2.out; first | omega | (simp; done) | (simp; omega)) _).setCell (by have zz0 := Hlt.out; have zz1 := Sz2.out; first | omega | (simp; done) | (simp; omega)) _).setCell (by have zz0 := Hlt.out; have zz1 := Sz2.out; first | omega | (simp; done) | (simp; omega)) _

set_option maxHeartbeats 4000000 in
theorem specSubtractDW_any (S : Int) (A : Option Addr) (n c : Nat) (E : Int) (xs : List Int) (S' : Int) (A' : Option Addr) (n' c' : Nat) (E' : Int) (xs' : List Int) (w : World) (hr : Rd w w.heap.size A (vi xs)) (hn : xs.length = n) (hm : n ≤ 1048580) (hr' : Rd w w.heap.size A' (vi xs')) (hn' : xs'.length = n') (hm' : n' ≤ 1048580) (hc : n ≤ c) (hc' : n' ≤ c') :
    Calls Tryd.prog 31 #[.agg #[.int .i64 S, .slice A n c, .int .i64 E], .agg #[.int .i64 S', .slice A' n' c', .int .i64 E']] w fun e w' => ∃ Sr Ar nr cr, e = .returned (.tuple #[.agg #[.int .i64 Sr, .slice Ar nr cr, .int .i64 (suRX S xs E S' xs' E')], .int .i64 (suRE S xs E S' xs' E')]) ∧ ZO w' w.heap.size w'.heap.size (suRZ S xs E S' xs' E') Sr Ar nr cr ∧ Below w.heap.size w w' := by
  have hst := store_int Tryd.prog
  have hst2 := store_slice Tryd.prog
  obtain ⟨w1, hw1, hb1, hb2, hb3, hb4⟩ := dbox2_res w S S' A A' n n' c c' E E' 34 34 34
  have RsD1 := Lib.hid hb3
  have Hlt : Hid (w.heap.size + 1 + 1 < w1.heap.size) := Lib.hid hb3.2
  have Hr := Lib.hid hr
  have Hn := Lib.hid hn
  have Hm := Lib.hid hm
  have Hr' := Lib.hid hr'
  have Hn' := Lib.hid hn'
  have Hm' := Lib.hid hm'
  have Hc := Lib.hid hc
  have Hc' := Lib.hid hc'
  have Hw := Lib.hid hw1
  have Bx1 := Lib.hid hb1
  have By1 := Lib.hid hb2
  have Bel1 := Lib.hid hb4
  clear hr hn hr' hn' hc hc' hw1 hb1 hb2 hb4 hb3
  go_enter Tryd.func31, Tryd.ntmps31
  go_wp2_with fail
  rw [← Hw.out]
  obtain ⟨⟨hBx0, hBx1, hBx2⟩, hBx3⟩ := Bx1.out
  obtain ⟨⟨hBy0, hBy1, hBy2⟩, hBy3⟩ := By1.out
  obtain ⟨⟨hRsD0, hRsD1, hRsD2, hRsD3, hRsD4, hRsD5⟩, hRsD6⟩ := RsD1.out
  refine (specBothD_any S A n c E xs S' A' n' c' E' xs' _ ((Hr.out.below Bel1.out).up Bel1.out.size) Hn.out Hm.out ((Hr'.out.below Bel1.out).up Bel1.out.size) Hn'.out Hm'.out).mono ?_
  rintro e w2 ⟨rfl, hb⟩
  have Sz2 := Lib.hid (Below.size hb)
  have Bel2 := Lib.hid (belNext Bel1.out hb)
  have Bx2 := Lib.hid (Bx1.out.next hb)
  have By2 := Lib.hid (By1.out.next hb)
  have RsD2 := Lib.hid (RsD1.out.next hb)
  clear hb Bel1 Bx1 By1 RsD1 hBx0 hBx1 hBx2 hBx3 hBy0 hBy1 hBy2 hBy3 hRsD0 hRsD1 hRsD2 hRsD3 hRsD4 hRsD5 hRsD6
  obtain ⟨⟨hBx0, hBx1, hBx2⟩, hBx3⟩ := Bx2.out
  obtain ⟨⟨hBy0, hBy1, hBy2⟩, hBy3⟩ := By2.out
  obtain ⟨⟨hRsD0, hRsD1, hRsD2, hRsD3, hRsD4, hRsD5⟩, hRsD6⟩ := RsD2.out
  by_cases hB : bD S xs E S' xs' E' = true
  · have hbe : bDE S xs E S' xs' E' = 0 := by unfold bDE; rw [if_pos hB]
    rw [hbe]
    clear hbe
    have HD : Hid (isD S xs E = true) := Lib.hid (by unfold bD at hB; simp at hB; exact hB.1)
    have HD' : Hid (isD S' xs' E' = true) := Lib.hid (by unfold bD at hB; simp at hB; exact hB.2)
    clear hB
    obtain ⟨z, hz, hok, hzv, hn100⟩ := isD_data HD.out Hr.out Hn.out Hc.out
    obtain ⟨z', hz', hok', hzv', hn100'⟩ := isD_data HD'.out Hr'.out Hn'.out Hc'.out
    have Hres := Lib.hid (suR_yes (bD_yes HD.out HD'.out) hz hz')
    have Hz := Lib.hid hzv
    have Hz' := Lib.hid hzv'
    have hE1 := hok.2.1
    have hE2 := hok.2.2.1
    have hE3 := hok'.2.1
    have hE4 := hok'.2.2.1
    clear hz hz' hzv hzv' hok hok'
    go_wp2_with fail
    refine (specSubD_any z S E z' S' E' A A' n c n' c' _ (Hz.out.next Bel2.out) (Hz'.out.next Bel2.out) (by omega) (by omega) (by omega) (by omega) (by omega) (by omega)).mono ?_
    rintro e w3 ⟨S2, A2, n2, c2, rfl, hzo, hb⟩
    have Zo3 := Lib.hid hzo
    have Hn2 : Hid (n2 ≤ 1048580) := Lib.hid (by have h := Nat.le_trans (limbs_len_mono (nz_le _)) (sumZ_len (E := E) (E' := E') Hz.out.2.1 (Hz'.out.neg).2.1 (by omega) (by omega) (by omega) (by omega)); rw [hzo.2.1] at h; omega)
    clear hzo
    have Sz3 := Lib.hid (Below.size hb)
    have Bel3 := Lib.hid (belNext Bel2.out hb)
    have Bx3 := Lib.hid (Bx2.out.next hb)
    have By3 := Lib.hid (By2.out.next hb)
    have RsD3 := Lib.hid (RsD2.out.next hb)
    clear hb Bel2 Bx2 By2 RsD2 hBx0 hBx1 hBx2 hBx3 hBy0 hBy1 hBy2 hBy3 hRsD0 hRsD1 hRsD2 hRsD3 hRsD4 hRsD5 hRsD6
    obtain ⟨⟨hBx0, hBx1, hBx2⟩, hBx3⟩ := Bx3.out
    obtain ⟨⟨hBy0, hBy1, hBy2⟩, hBy3⟩ := By3.out
    obtain ⟨⟨hRsD0, hRsD1, hRsD2, hRsD3, hRsD4, hRsD5⟩, hRsD6⟩ := RsD3.out
    go_wp2_with fail
    refine (specFitD_any (sumZ z E (-z') E') (min E E') S2 (nx (sumZ z E (-z') E') (min E E')) A2 n2 c2 _ _ _ Zo3.out Hn2.out rfl (by have zz0 := Hlt.out; have zz1 := Sz2.out; have zz2 := Sz3.out; first | omega | (simp; done) | (simp; omega))).mono ?_
    rintro e w4 ⟨S9, A9, n9, c9, rfl, hzo, hb⟩
    have Zp4 := Lib.hid hzo
    clear hzo
    have Sz4 := Lib.hid (Below.size hb)
    have Bel4 := Lib.hid (belNext Bel3.out hb)
    have Bx4 := Lib.hid (Bx3.out.next hb)
    have By4 := Lib.hid (By3.out.next hb)
    have RsD4 := Lib.hid (RsD3.out.next hb)
    clear hb Bel3 Bx3 By3 RsD3 hBx0 hBx1 hBx2 hBx3 hBy0 hBy1 hBy2 hBy3 hRsD0 hRsD1 hRsD2 hRsD3 hRsD4 hRsD5 hRsD6
    obtain ⟨⟨hBx0, hBx1, hBx2⟩, hBx3⟩ := Bx4.out
    obtain ⟨⟨hBy0, hBy1, hBy2⟩, hBy3⟩ := By4.out
    obtain ⟨⟨hRsD0, hRsD1, hRsD2, hRsD3, hRsD4, hRsD5⟩, hRsD6⟩ := RsD4.out
    go_wp2_with fail
    obtain ⟨⟨r0, r1, r2⟩, _⟩ := (DBox.made (S := S9) (A := A9) (n := n9) (c := c9) (E := (fdX (sumZ z E (-z') E') (min E E'))) hRsD6 ⟨_, hRsD0⟩ ⟨_, hRsD1⟩ ⟨_, hRsD2⟩).next (belAlloc1 _ (.cells #[.int .i64 S9, .slice A9 n9 c9, .int .i64 (fdX (sumZ z E (-z') E') (min E E'))] 34))
    simp only [st3] at r0 r1 r2
    refine bodyPost_ret (v := .tuple #[.agg #[.int .i64 S9, .slice A9 n9 c9, .int .i64 (fdX (sumZ z E (-z') E') (min E E'))], .int .i64 (fdE (sumZ z E (-z') E') (min E E'))]) (by simp [results, Tryd.results31, go_sem, r0, r1, r2]) rfl ⟨S9, A9, n9, c9, by rw [Hres.out.2.1, Hres.out.2.2], ?_, ?_⟩
    · rw [Hres.out.1]; exact ((((Zp4.out.setCell (.inl (by have zz0 := Hlt.out; have zz1 := Sz2.out; have zz2 := Sz3.out; have zz3 := Sz4.out; first | omega | (simp; done) | (simp; omega))) _).setCell (.inl (by have zz0 := Hlt.out; have zz1 := Sz2.out; have zz2 := Sz3.out; have zz3 := Sz4.out; first | omega | (simp; done) | (simp; omega))) _).setCell (.inl (by have zz0 := Hlt.out; have zz1 := Sz2.out; have zz2 := Sz3.out; have zz3 := Sz4.out; first | omega | (simp; done) | (simp; omega))) _).alloc _).wide (by have zz0 := Hlt.out; have zz1 := Sz2.out; have zz2 := Sz3.out; have zz3 := Sz4.out; first | omega | (simp; done) | (simp; omega)) (by have zz0 := Hlt.out; have zz1 := Sz2.out; have zz2 := Sz3.out; have zz3 := Sz4.out; first | omega | (simp; done) | (simp; omega)) (by have zz0 := Hlt.out; have zz1 := Sz2.out; have zz2 := Sz3.out; have zz3 := Sz4.out; first | omega | (simp; done) | (simp; omega))
    · exact (((Bel4.out.setCell (by have zz0 := Hlt.out; have zz1 := Sz2.out; have zz2 := Sz3.out; have zz3 := Sz4.out; first | omega | (simp; done) | (simp; omega)) _).setCell (by have zz0 := Hlt.out; have zz1 := Sz2.out; have zz2 := Sz3.out; have zz3 := Sz4.out; first | omega | (simp; done) | (simp; omega)) _).setCell (by have zz0 := Hlt.out; have zz1 := Sz2.out; have zz2 := Sz3.out; have zz3 := Sz4.out; first | omega | (simp; done) | (simp; omega)) _).alloc (by have zz0 := Hlt.out; have zz1 := Sz2.out; have zz2 := Sz3.out; have zz3 := Sz4.out; first | omega | (simp; done) | (simp; omega)) _
  · have hB2 : bD S xs E S' xs' E' = false := by simpa using hB
    have hbe : bDE S xs E S' xs' E' = 1 := by unfold bDE; rw [hB2]; rfl
    rw [hbe]
    have Hres := Lib.hid (suR_no hB2)
    clear hbe hB hB2
    go_wp2_with fail
    refine bodyPost_ret (v := .tuple #[.agg #[.int .i64 0, .slice none 0 0, .int .i64 0], .int .i64 1]) (by simp [results, Tryd.results31, go_sem, hRsD0, hRsD1, hRsD2]) rfl ⟨0, none, 0, 0, by rw [Hres.out.2.1, Hres.out.2.2], ?_, ?_⟩
    · rw [Hres.out.1]; exact ZO.zero (Nat.le_refl _)
    · exact ((Bel2.out.setCell (by have zz0 := Hlt.out; have zz1 := Sz2.out; first | omega | (simp; done) | (simp; omega)) _).setCell (by have zz0 := Hlt.out; have zz1 := Sz2.out; first | omega | (simp; done) | (simp; omega)) _).setCell (by have zz0 := Hlt.out; have zz1 := Sz2.out; first | omega | (simp; done) | (simp; omega)) _

set_option maxHeartbeats 4000000 in
theorem implMultiplyDW_any (S : Int) (A : Option Addr) (n c : Nat) (E : Int) (xs : List Int) (S' : Int) (A' : Option Addr) (n' c' : Nat) (E' : Int) (xs' : List Int) (w : World) (hr : Rd w w.heap.size A (vi xs)) (hn : xs.length = n) (hm : n ≤ 1048580) (hr' : Rd w w.heap.size A' (vi xs')) (hn' : xs'.length = n') (hm' : n' ≤ 1048580) (hc : n ≤ c) (hc' : n' ≤ c') (hT : TabZ w) :
    Calls Tryd.prog 34 #[.agg #[.int .i64 S, .slice A n c, .int .i64 E], .agg #[.int .i64 S', .slice A' n' c', .int .i64 E']] w fun e w' => ∃ Sr Ar nr cr, e = .returned (.tuple #[.agg #[.int .i64 Sr, .slice Ar nr cr, .int .i64 (muRX S xs E S' xs' E')], .int .i64 (muRE S xs E S' xs' E')]) ∧ ZO w' w.heap.size w'.heap.size (muRZ S xs E S' xs' E') Sr Ar nr cr ∧ Below w.heap.size w w' := by
  have hst := store_int Tryd.prog
  have hst2 := store_slice Tryd.prog
  obtain ⟨w1, hw1, hb1, hb2, hb3, hb4⟩ := dbox2_res w S S' A A' n n' c c' E E' 34 34 34
  have RsD1 := Lib.hid hb3
  have Hlt : Hid (w.heap.size + 1 + 1 < w1.heap.size) := Lib.hid hb3.2
  have Hr := Lib.hid hr
  have Hn := Lib.hid hn
  have Hm := Lib.hid hm
  have Hr' := Lib.hid hr'
  have Hn' := Lib.hid hn'
  have Hm' := Lib.hid hm'
  have Hc := Lib.hid hc
  have Hc' := Lib.hid hc'
  have Hw := Lib.hid hw1
  have Bx1 := Lib.hid hb1
  have By1 := Lib.hid hb2
  have Bel1 := Lib.hid hb4
  clear hr hn hr' hn' hc hc' hw1 hb1 hb2 hb4 hb3
  have HT := Lib.hid hT
  clear hT
  go_enter Tryd.func34, Tryd.ntmps34
  go_wp2_with fail
  rw [← Hw.out]
  obtain ⟨⟨hBx0, hBx1, hBx2⟩, hBx3⟩ := Bx1.out
  obtain ⟨⟨hBy0, hBy1, hBy2⟩, hBy3⟩ := By1.out
  obtain ⟨⟨hRsD0, hRsD1, hRsD2, hRsD3, hRsD4, hRsD5⟩, hRsD6⟩ := RsD1.out
  refine (implIsD_any S A n c E xs _ ((Hr.out.below Bel1.out).up Bel1.out.size) Hn.out Hm.out).mono ?_
  rintro e w2 ⟨rfl, hb⟩
  have Sz2 := Lib.hid (Below.size hb)
  have Bel2 := Lib.hid (belNext Bel1.out hb)
  have Bx2 := Lib.hid (Bx1.out.next hb)
  have By2 := Lib.hid (By1.out.next hb)
  have RsD2 := Lib.hid (RsD1.out.next hb)
  clear hb Bel1 Bx1 By1 RsD1 hBx0 hBx1 hBx2 hBx3 hBy0 hBy1 hBy2 hBy3 hRsD0 hRsD1 hRsD2 hRsD3 hRsD4 hRsD5 hRsD6
  obtain ⟨⟨hBx0, hBx1, hBx2⟩, hBx3⟩ := Bx2.out
  obtain ⟨⟨hBy0, hBy1, hBy2⟩, hBy3⟩ := By2.out
  obtain ⟨⟨hRsD0, hRsD1, hRsD2, hRsD3, hRsD4, hRsD5⟩, hRsD6⟩ := RsD2.out
  by_cases hD : isD S xs E = true
  · have HD := Lib.hid hD
    rw [hD]
    clear hD
    go_wp2_with fail
    refine (implIsD_any S' A' n' c' E' xs' _ ((Hr'.out.below Bel2.out).up Bel2.out.size) Hn'.out Hm'.out).mono ?_
    rintro e w3 ⟨rfl, hb⟩
    have Sz3 := Lib.hid (Below.size hb)
    have Bel3 := Lib.hid (belNext Bel2.out hb)
    have Bx3 := Lib.hid (Bx2.out.next hb)
    have By3 := Lib.hid (By2.out.next hb)
    have RsD3 := Lib.hid (RsD2.out.next hb)
    clear hb Bel2 Bx2 By2 RsD2 hBx0 hBx1 hBx2 hBx3 hBy0 hBy1 hBy2 hBy3 hRsD0 hRsD1 hRsD2 hRsD3 hRsD4 hRsD5 hRsD6
    obtain ⟨⟨hBx0, hBx1, hBx2⟩, hBx3⟩ := Bx3.out
    obtain ⟨⟨hBy0, hBy1, hBy2⟩, hBy3⟩ := By3.out
    obtain ⟨⟨hRsD0, hRsD1, hRsD2, hRsD3, hRsD4, hRsD5⟩, hRsD6⟩ := RsD3.out
    by_cases hD' : isD S' xs' E' = true
    · have HD' := Lib.hid hD'
      rw [hD']
      clear hD'
      obtain ⟨z, hz, hok, hzv, hn100⟩ := isD_data HD.out Hr.out Hn.out Hc.out
      obtain ⟨z', hz', hok', hzv', hn100'⟩ := isD_data HD'.out Hr'.out Hn'.out Hc'.out
      have Hres := Lib.hid (muR_yes (bD_yes HD.out HD'.out) hz hz')
      have Hz := Lib.hid hzv
      have Hz' := Lib.hid hzv'
      have hE1 := hok.2.1
      have hE2 := hok.2.2.1
      have hE3 := hok'.2.1
      have hE4 := hok'.2.2.1
      clear hz hz' hzv hzv' hok hok'
      go_wp2_with fail
      refine (implMulD_any z S E z' S' E' A A' n c n' c' _ (Hz.out.next Bel3.out) (Hz'.out.next Bel3.out) (by omega) (by omega) (by omega) (by omega) (by omega) (by omega)).mono ?_
      rintro e w4 ⟨S2, A2, n2, c2, rfl, hzo, hb⟩
      have Zo4 := Lib.hid hzo
      have Hn2 : Hid ((n2 : Int) ≤ 4000) := Lib.hid (by have h := mulZ_len Hz.out.2.1 Hz'.out.2.1; rw [hzo.2.1] at h; omega)
      clear hzo
      have Sz4 := Lib.hid (Below.size hb)
      have Bel4 := Lib.hid (belNext Bel3.out hb)
      have Bx4 := Lib.hid (Bx3.out.next hb)
      have By4 := Lib.hid (By3.out.next hb)
      have RsD4 := Lib.hid (RsD3.out.next hb)
      clear hb Bel3 Bx3 By3 RsD3 hBx0 hBx1 hBx2 hBx3 hBy0 hBy1 hBy2 hBy3 hRsD0 hRsD1 hRsD2 hRsD3 hRsD4 hRsD5 hRsD6
      obtain ⟨⟨hBx0, hBx1, hBx2⟩, hBx3⟩ := Bx4.out
      obtain ⟨⟨hBy0, hBy1, hBy2⟩, hBy3⟩ := By4.out
      obtain ⟨⟨hRsD0, hRsD1, hRsD2, hRsD3, hRsD4, hRsD5⟩, hRsD6⟩ := RsD4.out
      go_wp2_with fail
      refine (implLimD_any (z * z') S2 (E + E') A2 n2 c2 _ Zo4.out.zv Hn2.out (by omega) (by omega) (HT.out.next Bel4.out)).mono ?_
      rintro e w5 ⟨S9, A9, n9, c9, rfl, hzo, hb⟩
      have Zp5 := Lib.hid hzo
      clear hzo
      have Sz5 := Lib.hid (Below.size hb)
      have Bel5 := Lib.hid (belNext Bel4.out hb)
      have Bx5 := Lib.hid (Bx4.out.next hb)
      have By5 := Lib.hid (By4.out.next hb)
      have RsD5 := Lib.hid (RsD4.out.next hb)
      clear hb Bel4 Bx4 By4 RsD4 hBx0 hBx1 hBx2 hBx3 hBy0 hBy1 hBy2 hBy3 hRsD0 hRsD1 hRsD2 hRsD3 hRsD4 hRsD5 hRsD6
      obtain ⟨⟨hBx0, hBx1, hBx2⟩, hBx3⟩ := Bx5.out
      obtain ⟨⟨hBy0, hBy1, hBy2⟩, hBy3⟩ := By5.out
      obtain ⟨⟨hRsD0, hRsD1, hRsD2, hRsD3, hRsD4, hRsD5⟩, hRsD6⟩ := RsD5.out
      go_wp2_with fail
      refine bodyPost_ret (v := .tuple #[.agg #[.int .i64 S9, .slice A9 n9 c9, .int .i64 (fdX (z * z') (E + E'))], .int .i64 (fdE (z * z') (E + E'))]) (by simp [results, Tryd.results34, go_sem, hRsD0, hRsD1, hRsD2]) rfl ⟨S9, A9, n9, c9, by rw [Hres.out.2.1, Hres.out.2.2], ?_, ?_⟩
      · rw [Hres.out.1]; exact (((Zp5.out.setCell (.inl (by have zz0 := Hlt.out; have zz1 := Sz2.out; have zz2 := Sz3.out; have zz3 := Sz4.out; have zz4 := Sz5.out; first | omega | (simp; done) | (simp; omega))) _).setCell (.inl (by have zz0 := Hlt.out; have zz1 := Sz2.out; have zz2 := Sz3.out; have zz3 := Sz4.out; have zz4 := Sz5.out; first | omega | (simp; done) | (simp; omega))) _).setCell (.inl (by have zz0 := Hlt.out; have zz1 := Sz2.out; have zz2 := Sz3.out; have zz3 := Sz4.out; have zz4 := Sz5.out; first | omega | (simp; done) | (simp; omega))) _).wide (by have zz0 := Hlt.out; have zz1 := Sz2.out; have zz2 := Sz3.out; have zz3 := Sz4.out; have zz4 := Sz5.out; first | omega | (simp; done) | (simp; omega)) (by have zz0 := Hlt.out; have zz1 := Sz2.out; have zz2 := Sz3.out; have zz3 := Sz4.out; have zz4 := Sz5.out; first | omega | (simp; done) | (simp; omega)) (by have zz0 := Hlt.out; have zz1 := Sz2.out; have zz2 := Sz3.out; have zz3 := Sz4.out; have zz4 := Sz5.out; first | omega | (simp; done) | (simp; omega))
      · exact ((Bel5.out.setCell (by have zz0 := Hlt.out; have zz1 := Sz2.out; have zz2 := Sz3.out; have zz3 := Sz4.out; have zz4 := Sz5.out; first | omega | (simp; done) | (simp; omega)) _).setCell (by have zz0 := Hlt.out; have zz1 := Sz2.out; have zz2 := Sz3.out; have zz3 := Sz4.out; have zz4 := Sz5.out; first | omega | (simp; done) | (simp; omega)) _).setCell (by have zz0 := Hlt.out; have zz1 := Sz2.out; have zz2 := Sz3.out; have zz3 := Sz4.out; have zz4 := Sz5.out; first | omega | (simp; done) | (simp; omega)) _
    · have hD2 : isD S' xs' E' = false := by simpa using hD'
      have Hres := Lib.hid (muR_no (bD_no2 HD.out hD2))
      rw [hD2]
      clear hD' hD2
      go_wp2_with fail
      refine bodyPost_ret (v := .tuple #[.agg #[.int .i64 0, .slice none 0 0, .int .i64 0], .int .i64 1]) (by simp [results, Tryd.results34, go_sem, hRsD0, hRsD1, hRsD2]) rfl ⟨0, none, 0, 0, by rw [Hres.out.2.1, Hres.out.2.2], ?_, ?_⟩
      · rw [Hres.out.1]; exact ZO.zero (Nat.le_refl _)
      · exact ((Bel3.out.setCell (by have zz0 := Hlt.out; have zz1 := Sz2.out; have zz2 := Sz3.out; first | omega | (simp; done) | (simp; omega)) _).setCell (by have zz0 := Hlt.out; have zz1 := Sz2.out; have zz2 := Sz3.out; first | omega | (simp; done) | (simp; omega)) _).setCell (by have zz0 := Hlt.out; have zz1 := Sz2.out; have zz2 := Sz3.out; first | omega | (simp; done) | (simp; omega)) _
  · have hD2 : isD S xs E = false := by simpa using hD
    have Hres := Lib.hid (muR_no (bD_no (S' := S') (xs' := xs') (E' := E') hD2))
    rw [hD2]
    clear hD hD2
    go_wp2_with fail
    refine bodyPost_ret (v := .tuple #[.agg #[.int .i64 0, .slice none 0 0, .int .i64 0], .int .i64 1]) (by simp [results, Tryd.results34, go_sem, hRsD0, hRsD1, hRsD2]) rfl ⟨0, none, 0, 0, by rw [Hres.out.2.1, Hres.out.2.2], ?_, ?_⟩
    · rw [Hres.out.1]; exact ZO.zero (Nat.le_refl _)
    · exact ((Bel2.out.setCell (by have zz0 := Hlt.out; have zz1 := Sz2.out; first | omega | (simp; done) | (simp; omega)) _).setCell (by have zz0 := Hlt.out; have zz1 := Sz2.out; first | omega | (simp; done) | (simp; omega)) _).setCell (by have zz0 := Hlt.out; have zz1 := Sz2.out; first | omega | (simp; done) | (simp; omega)) _

set_option maxHeartbeats 4000000 in
theorem specMultiplyDW_any (S : Int) (A : Option Addr) (n c : Nat) (E : Int) (xs : List Int) (S' : Int) (A' : Option Addr) (n' c' : Nat) (E' : Int) (xs' : List Int) (w : World) (hr : Rd w w.heap.size A (vi xs)) (hn : xs.length = n) (hm : n ≤ 1048580) (hr' : Rd w w.heap.size A' (vi xs')) (hn' : xs'.length = n') (hm' : n' ≤ 1048580) (hc : n ≤ c) (hc' : n' ≤ c') :
    Calls Tryd.prog 33 #[.agg #[.int .i64 S, .slice A n c, .int .i64 E], .agg #[.int .i64 S', .slice A' n' c', .int .i64 E']] w fun e w' => ∃ Sr Ar nr cr, e = .returned (.tuple #[.agg #[.int .i64 Sr, .slice Ar nr cr, .int .i64 (muRX S xs E S' xs' E')], .int .i64 (muRE S xs E S' xs' E')]) ∧ ZO w' w.heap.size w'.heap.size (muRZ S xs E S' xs' E') Sr Ar nr cr ∧ Below w.heap.size w w' := by
  have hst := store_int Tryd.prog
  have hst2 := store_slice Tryd.prog
  obtain ⟨w1, hw1, hb1, hb2, hb3, hb4⟩ := dbox2_res w S S' A A' n n' c c' E E' 34 34 34
  have RsD1 := Lib.hid hb3
  have Hlt : Hid (w.heap.size + 1 + 1 < w1.heap.size) := Lib.hid hb3.2
  have Hr := Lib.hid hr
  have Hn := Lib.hid hn
  have Hm := Lib.hid hm
  have Hr' := Lib.hid hr'
  have Hn' := Lib.hid hn'
  have Hm' := Lib.hid hm'
  have Hc := Lib.hid hc
  have Hc' := Lib.hid hc'
  have Hw := Lib.hid hw1
  have Bx1 := Lib.hid hb1
  have By1 := Lib.hid hb2
  have Bel1 := Lib.hid hb4
  clear hr hn hr' hn' hc hc' hw1 hb1 hb2 hb4 hb3
  go_enter Tryd.func33, Tryd.ntmps33
  go_wp2_with fail
  rw [← Hw.out]
  obtain ⟨⟨hBx0, hBx1, hBx2⟩, hBx3⟩ := Bx1.out
  obtain ⟨⟨hBy0, hBy1, hBy2⟩, hBy3⟩ := By1.out
  obtain ⟨⟨hRsD0, hRsD1, hRsD2, hRsD3, hRsD4, hRsD5⟩, hRsD6⟩ := RsD1.out
  refine (specBothD_any S A n c E xs S' A' n' c' E' xs' _ ((Hr.out.below Bel1.out).up Bel1.out.size) Hn.out Hm.out ((Hr'.out.below Bel1.out).up Bel1.out.size) Hn'.out Hm'.out).mono ?_
  rintro e w2 ⟨rfl, hb⟩
  have Sz2 := Lib.hid (Below.size hb)
  have Bel2 := Lib.hid (belNext Bel1.out hb)
  have Bx2 := Lib.hid (Bx1.out.next hb)
  have By2 := Lib.hid (By1.out.next hb)
  have RsD2 := Lib.hid (RsD1.out.next hb)
  clear hb Bel1 Bx1 By1 RsD1 hBx0 hBx1 hBx2 hBx3 hBy0 hBy1 hBy2 hBy3 hRsD0 hRsD1 hRsD2 hRsD3 hRsD4 hRsD5 hRsD6
  obtain ⟨⟨hBx0, hBx1, hBx2⟩, hBx3⟩ := Bx2.out
  obtain ⟨⟨hBy0, hBy1, hBy2⟩, hBy3⟩ := By2.out
  obtain ⟨⟨hRsD0, hRsD1, hRsD2, hRsD3, hRsD4, hRsD5⟩, hRsD6⟩ := RsD2.out
  by_cases hB : bD S xs E S' xs' E' = true
  · have hbe : bDE S xs E S' xs' E' = 0 := by unfold bDE; rw [if_pos hB]
    rw [hbe]
    clear hbe
    have HD : Hid (isD S xs E = true) := Lib.hid (by unfold bD at hB; simp at hB; exact hB.1)
    have HD' : Hid (isD S' xs' E' = true) := Lib.hid (by unfold bD at hB; simp at hB; exact hB.2)
    clear hB
    obtain ⟨z, hz, hok, hzv, hn100⟩ := isD_data HD.out Hr.out Hn.out Hc.out
    obtain ⟨z', hz', hok', hzv', hn100'⟩ := isD_data HD'.out Hr'.out Hn'.out Hc'.out
    have Hres := Lib.hid (muR_yes (bD_yes HD.out HD'.out) hz hz')
    have Hz := Lib.hid hzv
    have Hz' := Lib.hid hzv'
    have hE1 := hok.2.1
    have hE2 := hok.2.2.1
    have hE3 := hok'.2.1
    have hE4 := hok'.2.2.1
    clear hz hz' hzv hzv' hok hok'
    go_wp2_with fail
    refine (specMulD_any z S E z' S' E' A A' n c n' c' _ (Hz.out.next Bel2.out) (Hz'.out.next Bel2.out) (by omega) (by omega) (by omega) (by omega) (by omega) (by omega)).mono ?_
    rintro e w3 ⟨S2, A2, n2, c2, rfl, hzo, hb⟩
    have Zo3 := Lib.hid hzo
    have Hn2 : Hid (n2 ≤ 1048580) := Lib.hid (by have h := Nat.le_trans (limbs_len_mono (nz_le _)) (mulZ_len Hz.out.2.1 Hz'.out.2.1); rw [hzo.2.1] at h; omega)
    clear hzo
    have Sz3 := Lib.hid (Below.size hb)
    have Bel3 := Lib.hid (belNext Bel2.out hb)
    have Bx3 := Lib.hid (Bx2.out.next hb)
    have By3 := Lib.hid (By2.out.next hb)
    have RsD3 := Lib.hid (RsD2.out.next hb)
    clear hb Bel2 Bx2 By2 RsD2 hBx0 hBx1 hBx2 hBx3 hBy0 hBy1 hBy2 hBy3 hRsD0 hRsD1 hRsD2 hRsD3 hRsD4 hRsD5 hRsD6
    obtain ⟨⟨hBx0, hBx1, hBx2⟩, hBx3⟩ := Bx3.out
    obtain ⟨⟨hBy0, hBy1, hBy2⟩, hBy3⟩ := By3.out
    obtain ⟨⟨hRsD0, hRsD1, hRsD2, hRsD3, hRsD4, hRsD5⟩, hRsD6⟩ := RsD3.out
    go_wp2_with fail
    refine (specFitD_any (z * z') (E + E') S2 (nx (z * z') (E + E')) A2 n2 c2 _ _ _ Zo3.out Hn2.out rfl (by have zz0 := Hlt.out; have zz1 := Sz2.out; have zz2 := Sz3.out; first | omega | (simp; done) | (simp; omega))).mono ?_
    rintro e w4 ⟨S9, A9, n9, c9, rfl, hzo, hb⟩
    have Zp4 := Lib.hid hzo
    clear hzo
    have Sz4 := Lib.hid (Below.size hb)
    have Bel4 := Lib.hid (belNext Bel3.out hb)
    have Bx4 := Lib.hid (Bx3.out.next hb)
    have By4 := Lib.hid (By3.out.next hb)
    have RsD4 := Lib.hid (RsD3.out.next hb)
    clear hb Bel3 Bx3 By3 RsD3 hBx0 hBx1 hBx2 hBx3 hBy0 hBy1 hBy2 hBy3 hRsD0 hRsD1 hRsD2 hRsD3 hRsD4 hRsD5 hRsD6
    obtain ⟨⟨hBx0, hBx1, hBx2⟩, hBx3⟩ := Bx4.out
    obtain ⟨⟨hBy0, hBy1, hBy2⟩, hBy3⟩ := By4.out
    obtain ⟨⟨hRsD0, hRsD1, hRsD2, hRsD3, hRsD4, hRsD5⟩, hRsD6⟩ := RsD4.out
    go_wp2_with fail
    obtain ⟨⟨r0, r1, r2⟩, _⟩ := (DBox.made (S := S9) (A := A9) (n := n9) (c := c9) (E := (fdX (z * z') (E + E'))) hRsD6 ⟨_, hRsD0⟩ ⟨_, hRsD1⟩ ⟨_, hRsD2⟩).next (belAlloc1 _ (.cells #[.int .i64 S9, .slice A9 n9 c9, .int .i64 (fdX (z * z') (E + E'))] 34))
    simp only [st3] at r0 r1 r2
    refine bodyPost_ret (v := .tuple #[.agg #[.int .i64 S9, .slice A9 n9 c9, .int .i64 (fdX (z * z') (E + E'))], .int .i64 (fdE (z * z') (E + E'))]) (by simp [results, Tryd.results33, go_sem, r0, r1, r2]) rfl ⟨S9, A9, n9, c9, by rw [Hres.out.2.1, Hres.out.2.2], ?_, ?_⟩
    · rw [Hres.out.1]; exact ((((Zp4.out.setCell (.inl (by have zz0 := Hlt.out; have zz1 := Sz2.out; have zz2 := Sz3.out; have zz3 := Sz4.out; first | omega | (simp; done) | (simp; omega))) _).setCell (.inl (by have zz0 := Hlt.out; have zz1 := Sz2.out; have zz2 := Sz3.out; have zz3 := Sz4.out; first | omega | (simp; done) | (simp; omega))) _).setCell (.inl (by have zz0 := Hlt.out; have zz1 := Sz2.out; have zz2 := Sz3.out; have zz3 := Sz4.out; first | omega | (simp; done) | (simp; omega))) _).alloc _).wide (by have zz0 := Hlt.out; have zz1 := Sz2.out; have zz2 := Sz3.out; have zz3 := Sz4.out; first | omega | (simp; done) | (simp; omega)) (by have zz0 := Hlt.out; have zz1 := Sz2.out; have zz2 := Sz3.out; have zz3 := Sz4.out; first | omega | (simp; done) | (simp; omega)) (by have zz0 := Hlt.out; have zz1 := Sz2.out; have zz2 := Sz3.out; have zz3 := Sz4.out; first | omega | (simp; done) | (simp; omega))
    · exact (((Bel4.out.setCell (by have zz0 := Hlt.out; have zz1 := Sz2.out; have zz2 := Sz3.out; have zz3 := Sz4.out; first | omega | (simp; done) | (simp; omega)) _).setCell (by have zz0 := Hlt.out; have zz1 := Sz2.out; have zz2 := Sz3.out; have zz3 := Sz4.out; first | omega | (simp; done) | (simp; omega)) _).setCell (by have zz0 := Hlt.out; have zz1 := Sz2.out; have zz2 := Sz3.out; have zz3 := Sz4.out; first | omega | (simp; done) | (simp; omega)) _).alloc (by have zz0 := Hlt.out; have zz1 := Sz2.out; have zz2 := Sz3.out; have zz3 := Sz4.out; first | omega | (simp; done) | (simp; omega)) _
  · have hB2 : bD S xs E S' xs' E' = false := by simpa using hB
    have hbe : bDE S xs E S' xs' E' = 1 := by unfold bDE; rw [hB2]; rfl
    rw [hbe]
    have Hres := Lib.hid (muR_no hB2)
    clear hbe hB hB2
    go_wp2_with fail
    refine bodyPost_ret (v := .tuple #[.agg #[.int .i64 0, .slice none 0 0, .int .i64 0], .int .i64 1]) (by simp [results, Tryd.results33, go_sem, hRsD0, hRsD1, hRsD2]) rfl ⟨0, none, 0, 0, by rw [Hres.out.2.1, Hres.out.2.2], ?_, ?_⟩
    · rw [Hres.out.1]; exact ZO.zero (Nat.le_refl _)
    · exact ((Bel2.out.setCell (by have zz0 := Hlt.out; have zz1 := Sz2.out; first | omega | (simp; done) | (simp; omega)) _).setCell (by have zz0 := Hlt.out; have zz1 := Sz2.out; first | omega | (simp; done) | (simp; omega)) _).setCell (by have zz0 := Hlt.out; have zz1 := Sz2.out; first | omega | (simp; done) | (simp; omega)) _

set_option maxHeartbeats 4000000 in
theorem implCompareDW_any (S : Int) (A : Option Addr) (n c : Nat) (E : Int) (xs : List Int) (S' : Int) (A' : Option Addr) (n' c' : Nat) (E' : Int) (xs' : List Int) (w : World) (hr : Rd w w.heap.size A (vi xs)) (hn : xs.length = n) (hm : n ≤ 1048580) (hr' : Rd w w.heap.size A' (vi xs')) (hn' : xs'.length = n') (hm' : n' ≤ 1048580) (hc : n ≤ c) (hc' : n' ≤ c') (hT : TabZ w) :
    Calls Tryd.prog 36 #[.agg #[.int .i64 S, .slice A n c, .int .i64 E], .agg #[.int .i64 S', .slice A' n' c', .int .i64 E']] w fun e w' => e = .returned (.tuple #[.int .i64 (cmR S xs E S' xs' E'), .int .i64 (bDE S xs E S' xs' E')]) ∧ Below w.heap.size w w' := by
  have hst := store_int Tryd.prog
  have hst2 := store_slice Tryd.prog
  obtain ⟨w1, hw1, hb1, hb2, hb4⟩ := dbox2 w S S' A A' n n' c c' E E' 34 34
  have Hlt : Hid (w.heap.size + 1 < w1.heap.size) := Lib.hid hb2.2
  have Hr := Lib.hid hr
  have Hn := Lib.hid hn
  have Hm := Lib.hid hm
  have Hr' := Lib.hid hr'
  have Hn' := Lib.hid hn'
  have Hm' := Lib.hid hm'
  have Hc := Lib.hid hc
  have Hc' := Lib.hid hc'
  have Hw := Lib.hid hw1
  have Bx1 := Lib.hid hb1
  have By1 := Lib.hid hb2
  have Bel1 := Lib.hid hb4
  clear hr hn hr' hn' hc hc' hw1 hb1 hb2 hb4
  have HT := Lib.hid hT
  clear hT
  go_enter Tryd.func36, Tryd.ntmps36
  go_wp2_with fail
  rw [← Hw.out]
  obtain ⟨⟨hBx0, hBx1, hBx2⟩, hBx3⟩ := Bx1.out
  obtain ⟨⟨hBy0, hBy1, hBy2⟩, hBy3⟩ := By1.out
  refine (implIsD_any S A n c E xs _ ((Hr.out.below Bel1.out).up Bel1.out.size) Hn.out Hm.out).mono ?_
  rintro e w2 ⟨rfl, hb⟩
  have Sz2 := Lib.hid (Below.size hb)
  have Bel2 := Lib.hid (belNext Bel1.out hb)
  have Bx2 := Lib.hid (Bx1.out.next hb)
  have By2 := Lib.hid (By1.out.next hb)
  clear hb Bel1 Bx1 By1 hBx0 hBx1 hBx2 hBx3 hBy0 hBy1 hBy2 hBy3
  obtain ⟨⟨hBx0, hBx1, hBx2⟩, hBx3⟩ := Bx2.out
  obtain ⟨⟨hBy0, hBy1, hBy2⟩, hBy3⟩ := By2.out
  by_cases hD : isD S xs E = true
  · have HD := Lib.hid hD
    rw [hD]
    clear hD
    go_wp2_with fail
    refine (implIsD_any S' A' n' c' E' xs' _ ((Hr'.out.below Bel2.out).up Bel2.out.size) Hn'.out Hm'.out).mono ?_
    rintro e w3 ⟨rfl, hb⟩
    have Sz3 := Lib.hid (Below.size hb)
    have Bel3 := Lib.hid (belNext Bel2.out hb)
    have Bx3 := Lib.hid (Bx2.out.next hb)
    have By3 := Lib.hid (By2.out.next hb)
    clear hb Bel2 Bx2 By2 hBx0 hBx1 hBx2 hBx3 hBy0 hBy1 hBy2 hBy3
    obtain ⟨⟨hBx0, hBx1, hBx2⟩, hBx3⟩ := Bx3.out
    obtain ⟨⟨hBy0, hBy1, hBy2⟩, hBy3⟩ := By3.out
    by_cases hD' : isD S' xs' E' = true
    · have HD' := Lib.hid hD'
      rw [hD']
      clear hD'
      obtain ⟨z, hz, hok, hzv, hn100⟩ := isD_data HD.out Hr.out Hn.out Hc.out
      obtain ⟨z', hz', hok', hzv', hn100'⟩ := isD_data HD'.out Hr'.out Hn'.out Hc'.out
      have Hres := Lib.hid (cmR_yes (bD_yes HD.out HD'.out) hz hz')
      have Hz := Lib.hid hzv
      have Hz' := Lib.hid hzv'
      have hE1 := hok.2.1
      have hE2 := hok.2.2.1
      have hE3 := hok'.2.1
      have hE4 := hok'.2.2.1
      clear hz hz' hzv hzv' hok hok'
      go_wp2_with fail
      refine (implCmpD_any z S E z' S' E' A A' n c n' c' _ (Hz.out.next Bel3.out) (Hz'.out.next Bel3.out) (by omega) (by omega) (by omega) (by omega) (by omega) (by omega) (HT.out.next Bel3.out)).mono ?_
      rintro e w4 ⟨rfl, hb⟩
      have Sz4 := Lib.hid (Below.size hb)
      have Bel4 := Lib.hid (belNext Bel3.out hb)
      have Bx4 := Lib.hid (Bx3.out.next hb)
      have By4 := Lib.hid (By3.out.next hb)
      clear hb Bel3 Bx3 By3 hBx0 hBx1 hBx2 hBx3 hBy0 hBy1 hBy2 hBy3
      obtain ⟨⟨hBx0, hBx1, hBx2⟩, hBx3⟩ := Bx4.out
      obtain ⟨⟨hBy0, hBy1, hBy2⟩, hBy3⟩ := By4.out
      go_wp2_with fail
      go_ret2
      exact ⟨ret_two Hres.out.1.symm Hres.out.2.symm, Bel4.out⟩
    · have hD2 : isD S' xs' E' = false := by simpa using hD'
      have Hres := Lib.hid (cmR_no (bD_no2 HD.out hD2))
      rw [hD2]
      clear hD' hD2
      go_wp2_with fail
      go_ret2
      exact ⟨ret_two Hres.out.1.symm Hres.out.2.symm, Bel3.out⟩
  · have hD2 : isD S xs E = false := by simpa using hD
    have Hres := Lib.hid (cmR_no (bD_no (S' := S') (xs' := xs') (E' := E') hD2))
    rw [hD2]
    clear hD hD2
    go_wp2_with fail
    go_ret2
    exact ⟨ret_two Hres.out.1.symm Hres.out.2.symm, Bel2.out⟩

set_option maxHeartbeats 4000000 in
theorem specCompareDW_any (S : Int) (A : Option Addr) (n c : Nat) (E : Int) (xs : List Int) (S' : Int) (A' : Option Addr) (n' c' : Nat) (E' : Int) (xs' : List Int) (w : World) (hr : Rd w w.heap.size A (vi xs)) (hn : xs.length = n) (hm : n ≤ 1048580) (hr' : Rd w w.heap.size A' (vi xs')) (hn' : xs'.length = n') (hm' : n' ≤ 1048580) (hc : n ≤ c) (hc' : n' ≤ c') :
    Calls Tryd.prog 35 #[.agg #[.int .i64 S, .slice A n c, .int .i64 E], .agg #[.int .i64 S', .slice A' n' c', .int .i64 E']] w fun e w' => e = .returned (.tuple #[.int .i64 (cmR S xs E S' xs' E'), .int .i64 (bDE S xs E S' xs' E')]) ∧ Below w.heap.size w w' := by
  have hst := store_int Tryd.prog
  have hst2 := store_slice Tryd.prog
  obtain ⟨w1, hw1, hb1, hb2, hb4⟩ := dbox2 w S S' A A' n n' c c' E E' 34 34
  have Hlt : Hid (w.heap.size + 1 < w1.heap.size) := Lib.hid hb2.2
  have Hr := Lib.hid hr
  have Hn := Lib.hid hn
  have Hm := Lib.hid hm
  have Hr' := Lib.hid hr'
  have Hn' := Lib.hid hn'
  have Hm' := Lib.hid hm'
  have Hc := Lib.hid hc
  have Hc' := Lib.hid hc'
  have Hw := Lib.hid hw1
  have Bx1 := Lib.hid hb1
  have By1 := Lib.hid hb2
  have Bel1 := Lib.hid hb4
  clear hr hn hr' hn' hc hc' hw1 hb1 hb2 hb4
  go_enter Tryd.func35, Tryd.ntmps35
  go_wp2_with fail
  rw [← Hw.out]
  obtain ⟨⟨hBx0, hBx1, hBx2⟩, hBx3⟩ := Bx1.out
  obtain ⟨⟨hBy0, hBy1, hBy2⟩, hBy3⟩ := By1.out
  refine (specBothD_any S A n c E xs S' A' n' c' E' xs' _ ((Hr.out.below Bel1.out).up Bel1.out.size) Hn.out Hm.out ((Hr'.out.below Bel1.out).up Bel1.out.size) Hn'.out Hm'.out).mono ?_
  rintro e w2 ⟨rfl, hb⟩
  have Sz2 := Lib.hid (Below.size hb)
  have Bel2 := Lib.hid (belNext Bel1.out hb)
  have Bx2 := Lib.hid (Bx1.out.next hb)
  have By2 := Lib.hid (By1.out.next hb)
  clear hb Bel1 Bx1 By1 hBx0 hBx1 hBx2 hBx3 hBy0 hBy1 hBy2 hBy3
  obtain ⟨⟨hBx0, hBx1, hBx2⟩, hBx3⟩ := Bx2.out
  obtain ⟨⟨hBy0, hBy1, hBy2⟩, hBy3⟩ := By2.out
  by_cases hB : bD S xs E S' xs' E' = true
  · have hbe : bDE S xs E S' xs' E' = 0 := by unfold bDE; rw [if_pos hB]
    rw [hbe]
    clear hbe
    have HD : Hid (isD S xs E = true) := Lib.hid (by unfold bD at hB; simp at hB; exact hB.1)
    have HD' : Hid (isD S' xs' E' = true) := Lib.hid (by unfold bD at hB; simp at hB; exact hB.2)
    clear hB
    obtain ⟨z, hz, hok, hzv, hn100⟩ := isD_data HD.out Hr.out Hn.out Hc.out
    obtain ⟨z', hz', hok', hzv', hn100'⟩ := isD_data HD'.out Hr'.out Hn'.out Hc'.out
    have Hres := Lib.hid (cmR_yes (bD_yes HD.out HD'.out) hz hz')
    have Hz := Lib.hid hzv
    have Hz' := Lib.hid hzv'
    have hE1 := hok.2.1
    have hE2 := hok.2.2.1
    have hE3 := hok'.2.1
    have hE4 := hok'.2.2.1
    clear hz hz' hzv hzv' hok hok'
    go_wp2_with fail
    refine (specCmpD_any z S E z' S' E' A A' n c n' c' _ (Hz.out.next Bel2.out) (Hz'.out.next Bel2.out) (by omega) (by omega) (by omega) (by omega) (by omega) (by omega)).mono ?_
    rintro e w3 ⟨rfl, hb⟩
    have Sz3 := Lib.hid (Below.size hb)
    have Bel3 := Lib.hid (belNext Bel2.out hb)
    have Bx3 := Lib.hid (Bx2.out.next hb)
    have By3 := Lib.hid (By2.out.next hb)
    clear hb Bel2 Bx2 By2 hBx0 hBx1 hBx2 hBx3 hBy0 hBy1 hBy2 hBy3
    obtain ⟨⟨hBx0, hBx1, hBx2⟩, hBx3⟩ := Bx3.out
    obtain ⟨⟨hBy0, hBy1, hBy2⟩, hBy3⟩ := By3.out
    go_wp2_with fail
    go_ret2
    exact ⟨ret_two Hres.out.1.symm Hres.out.2.symm, Bel3.out⟩
  · have hB2 : bD S xs E S' xs' E' = false := by simpa using hB
    have hbe : bDE S xs E S' xs' E' = 1 := by unfold bDE; rw [hB2]; rfl
    rw [hbe]
    have Hres := Lib.hid (cmR_no hB2)
    clear hbe hB hB2
    go_wp2_with fail
    go_ret2
    exact ⟨ret_two Hres.out.1.symm Hres.out.2.symm, Bel2.out⟩

end Go.Proofs.YtnnoobdcdfcdaaaDoor
