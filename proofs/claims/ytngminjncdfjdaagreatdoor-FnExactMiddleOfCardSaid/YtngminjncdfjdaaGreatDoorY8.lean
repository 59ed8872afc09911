/- Texts of this seat, joined: Km Kn -/
import Derived.Test.YtngminjncdfjdaaGreatDoorY7
import Derived.Test.YtngminjncdfjdaaGreatDoorY6
/- RoundDyadic and EnclosingFloats, of the program and of the model. -/
namespace Go.Proofs.YtngminjncdfjdaaGreatDoor
set_option maxRecDepth 100000
open Go.RowKit
set_option linter.unusedSimpArgs false
set_option linter.unusedVariables false
attribute [local go_sem ↓] Go.wp_at_zero Go.wp_at_succ

/-- what RoundDyadic gives -/
noncomputable def rdRF (S : Int) (xs : List Int) (E k : Int) : Nat := if isD S xs E = true then if 0 ≤ k ∧ k ≤ 4 then rdF (S * magW S xs) E k else 0 else 0
noncomputable def rdRL (S : Int) (xs : List Int) (E k : Int) : Int := if isD S xs E = true then if 0 ≤ k ∧ k ≤ 4 then rdL (S * magW S xs) E k else 0 else 0
noncomputable def rdRE (S : Int) (xs : List Int) (E k : Int) : Int := if isD S xs E = true then if 0 ≤ k ∧ k ≤ 4 then 0 else 2 else 1
/-- what EnclosingFloats gives -/
noncomputable def enRF (S : Int) (xs : List Int) (E k : Int) : Nat := if isD S xs E = true then rdF (S * magW S xs) E k else 0
noncomputable def enRE (S : Int) (xs : List Int) (E : Int) : Int := if isD S xs E = true then 0 else 1
theorem rdF_ok (z E mode : Int) : rdF z E mode < 4294967296 ∧ nan32 (rdF z E mode) = false := by
  unfold rdF
  by_cases h0 : z = 0
  · rw [if_pos h0]; decide
  · rw [if_neg h0]
    by_cases ho : rO mode z E = true
    · rw [if_pos ho]; split <;> split <;> decide
    · rw [if_neg ho]
      obtain ⟨r, h1, h2, h3⟩ := near32_words (rM mode z.sign z.natAbs (rQ z.natAbs E - E)) (rQ z.natAbs E)
      by_cases hn : z < 0
      · rw [decide_eq_true hn, h3]; unfold nan32; exact ⟨by omega, decide_eq_false (by omega)⟩
      · rw [decide_eq_false hn, h2]; unfold nan32; exact ⟨by omega, decide_eq_false (by omega)⟩
end Go.Proofs.YtngminjncdfjdaaGreatDoor
/- The exact number of a float, of the program and of the model. -/
namespace Go.Proofs.YtngminjncdfjdaaGreatDoor
set_option maxRecDepth 100000
open Go.RowKit
set_option linter.unusedSimpArgs false
set_option linter.unusedVariables false
attribute [local go_sem ↓] Go.wp_at_zero Go.wp_at_succ

/-- the exact number of a float -/
def ofM (b : Nat) : Int := smant32 b
def ofP (b : Nat) : Int := -149 + expo (b % 2147483648)
def ofZ (b : Nat) : Int := if fin32 b = true then nz (ofM b) else 0
def ofX (b : Nat) : Int := if fin32 b = true then nx (ofM b) (ofP b) else 0
def ofE (b : Nat) : Int := if fin32 b = true then 0 else 1
theorem ofM_abs (b : Nat) : (ofM b).natAbs = mant (b % 2147483648) := by unfold ofM smant32; split <;> omega
theorem of_bounds {b : Nat} (hf : fin32 b = true) : -16777215 ≤ ofM b ∧ ofM b ≤ 16777215 ∧ -149 ≤ ofP b ∧ ofP b ≤ 104 := by
  have h1 := mant_lt (b % 2147483648)
  have h2 := ofM_abs b
  have h3 := expo_le (b % 2147483648) (by simpa [fin32] using hf)
  unfold ofP
  omega
theorem of_ok {b : Nat} (hf : fin32 b = true) : okN (ofM b) (ofP b) := by
  obtain ⟨h1, h2, h3, h4⟩ := of_bounds hf
  have hl : (limbs (ofM b).natAbs).length ≤ 1 := (limbs_len_le (n := 1)).2 (by rw [Bs_pow]; omega)
  refine ⟨Nat.le_trans (limbs_len_mono (nz_le _)) (by omega), ?_⟩
  by_cases h0 : ofM b = 0
  · rw [h0, nx_zero]; omega
  · rw [nx_ne h0]
    have := tz_le (v := (ofM b).natAbs) rfl
    omega
theorem of_yes {b : Nat} (hf : fin32 b = true) : ofZ b = fdZ (ofM b) (ofP b) ∧ ofX b = fdX (ofM b) (ofP b) ∧ ofE b = fdE (ofM b) (ofP b) := by
  obtain ⟨h1, h2, h3⟩ := fd_yes (of_ok hf)
  rw [h1, h2, h3]; unfold ofZ ofX ofE; rw [if_pos hf, if_pos hf, if_pos hf]; exact ⟨rfl, rfl, rfl⟩
theorem of_yes2 {b : Nat} (hf : fin32 b = true) : ofZ b = nz (ofM b) ∧ ofX b = nx (ofM b) (ofP b) ∧ ofE b = 0 := by
  unfold ofZ ofX ofE; rw [if_pos hf, if_pos hf, if_pos hf]; exact ⟨rfl, rfl, rfl⟩
theorem of_no {b : Nat} (hf : fin32 b = false) : ofZ b = 0 ∧ ofX b = 0 ∧ ofE b = 1 := by
  unfold ofZ ofX ofE; rw [hf]; exact ⟨rfl, rfl, rfl⟩
set_option maxHeartbeats 2000000 in
theorem implOf_any (b : Nat) (w : World) (hb : b < 4294967296) (hT : TabZ w) :
    Calls Tryz.prog 74 #[.float .f32 b] w fun e w' => ∃ Sr Ar nr cr, e = .returned (.tuple #[.agg #[.int .i64 Sr, .slice Ar nr cr, .int .i64 (ofX b)], .int .i64 (ofE b)]) ∧ ZO w' w.heap.size w'.heap.size (ofZ b) Sr Ar nr cr ∧ Below w.heap.size w w' := by
  have hst := store_int Tryz.prog
  have hst2 := store_slice Tryz.prog
  obtain ⟨w1, hw1⟩ : ∃ w1, w1 = w.alloc (.cells #[.int .i64 0, .slice none 0 0, .int .i64 0] 48) := ⟨_, rfl⟩
  have RsD1 : Hid (DRes w1 w.heap.size) := Lib.hid (by rw [hw1]; exact DRes.new _ _)
  have Bel1 : Hid (Below w.heap.size w w1) := Lib.hid (by rw [hw1]; exact belAlloc1 _ _)
  have Hlt : Hid (w.heap.size < w1.heap.size) := Lib.hid RsD1.out.2
  have Hw := Lib.hid hw1
  have Hb := Lib.hid hb
  clear hw1
  have Tb1 := Lib.hid (hT.next Bel1.out)
  clear hT
  by_cases hf : fin32 b = true
  · have Hf := Lib.hid hf
    have Hres := Lib.hid (of_yes hf)
    obtain ⟨hb1, hb2, hb3, hb4⟩ := of_bounds hf
    clear hf hb
    go_enter Tryz.func74, Tryz.ntmps74
    go_wp2_with fail
    rw [← Hw.out]
    obtain ⟨⟨hRsD0, hRsD1, hRsD2, hRsD3, hRsD4, hRsD5⟩, hRsD6⟩ := RsD1.out
    refine (implParts_yes b _ Hb.out Hf.out).mono ?_
    rintro e w9 ⟨rfl, rfl⟩
    rw [show smant32 b = ofM b from rfl, show -149 + (expo (b % 2147483648) : Int) = ofP b from rfl]
    obtain ⟨m, hm⟩ : ∃ m, m = ofM b := ⟨_, rfl⟩
    obtain ⟨q, hq⟩ : ∃ q, q = ofP b := ⟨_, rfl⟩
    rw [← hm] at hb1 hb2
    rw [← hq] at hb3 hb4
    rw [← hm, ← hq] at Hres
    rw [← hm, ← hq]
    clear hm hq
    go_wp2_with fail
    refine (wholeOf_any m _ (by omega) (by omega)).mono ?_
    rintro e w2 ⟨val, rfl, hv, hb⟩
    obtain ⟨S2, A2, n2, c2, rfl, hz2⟩ := Wz.zo hv (Nat.le_refl _)
    have Zv2 := Lib.hid hz2.zv
    have Hn2 : Hid ((n2 : Int) ≤ 1) := Lib.hid (by have h := hz2.2.1; have h2 := (limbs_len_le (v := m.natAbs) (n := 1)).2 (by rw [Bs_pow]; omega); omega)
    clear hv hz2
    have Sz2 := Lib.hid (Below.size hb)
    have Bel2 := Lib.hid (belNext Bel1.out hb)
    have RsD2 := Lib.hid (RsD1.out.next hb)
    have Tb2 := Lib.hid (Tb1.out.next hb)
    clear hb Bel1 RsD1 Tb1 hRsD0 hRsD1 hRsD2 hRsD3 hRsD4 hRsD5 hRsD6
    obtain ⟨⟨hRsD0, hRsD1, hRsD2, hRsD3, hRsD4, hRsD5⟩, hRsD6⟩ := RsD2.out
    go_wp2_with fail
    refine (implLimD_any m S2 q A2 n2 c2 _ Zv2.out (by have := Hn2.out; omega) (by omega) (by omega) Tb2.out).mono ?_
    rintro e w3 ⟨Sr, Ar, nr, cr, rfl, hzo, hb⟩
    have Zo3 := Lib.hid hzo
    clear hzo
    have Sz3 := Lib.hid (Below.size hb)
    have Bel3 := Lib.hid (belNext Bel2.out hb)
    have RsD3 := Lib.hid (RsD2.out.next hb)
    have Tb3 := Lib.hid (Tb2.out.next hb)
    clear hb Bel2 RsD2 Tb2 hRsD0 hRsD1 hRsD2 hRsD3 hRsD4 hRsD5 hRsD6
    obtain ⟨⟨hRsD0, hRsD1, hRsD2, hRsD3, hRsD4, hRsD5⟩, hRsD6⟩ := RsD3.out
    go_wp2_with fail
    refine bodyPost_ret (v := .tuple #[.agg #[.int .i64 Sr, .slice Ar nr cr, .int .i64 (fdX m q)], .int .i64 (fdE m q)]) (by simp [results, Tryz.results74, go_sem, hRsD0, hRsD1, hRsD2]) rfl ⟨Sr, Ar, nr, cr, by rw [Hres.out.2.1, Hres.out.2.2], ?_, ?_⟩
    · exact ((((Zo3.out.cast_ Hres.out.1.symm).setCell (.inl (by have zz0 := Hlt.out; have zz1 := Sz2.out; have zz2 := Sz3.out; first | omega | (simp; done) | (simp; omega))) _).setCell (.inl (by have zz0 := Hlt.out; have zz1 := Sz2.out; have zz2 := Sz3.out; first | omega | (simp; done) | (simp; omega))) _).setCell (.inl (by have zz0 := Hlt.out; have zz1 := Sz2.out; have zz2 := Sz3.out; first | omega | (simp; done) | (simp; omega))) _).wide (by have zz0 := Hlt.out; have zz1 := Sz2.out; have zz2 := Sz3.out; first | omega | (simp; done) | (simp; omega)) (by have zz0 := Hlt.out; have zz1 := Sz2.out; have zz2 := Sz3.out; first | omega | (simp; done) | (simp; omega)) (Nat.le_refl _)
    · exact ((Bel3.out.setCell (by have zz0 := Hlt.out; have zz1 := Sz2.out; have zz2 := Sz3.out; first | omega | (simp; done) | (simp; omega)) _).setCell (by have zz0 := Hlt.out; have zz1 := Sz2.out; have zz2 := Sz3.out; first | omega | (simp; done) | (simp; omega)) _).setCell (by have zz0 := Hlt.out; have zz1 := Sz2.out; have zz2 := Sz3.out; first | omega | (simp; done) | (simp; omega)) _
  · have hf2 : fin32 b = false := by simpa using hf
    have Hf := Lib.hid hf2
    have Hres := Lib.hid (of_no hf2)
    clear hf hf2 hb
    go_enter Tryz.func74, Tryz.ntmps74
    go_wp2_with fail
    rw [← Hw.out]
    obtain ⟨⟨hRsD0, hRsD1, hRsD2, hRsD3, hRsD4, hRsD5⟩, hRsD6⟩ := RsD1.out
    refine (implParts_no b _ Hb.out Hf.out).mono ?_
    rintro e w9 ⟨rfl, rfl⟩
    go_wp2_with fail
    refine bodyPost_ret (v := .tuple #[.agg #[.int .i64 0, .slice none 0 0, .int .i64 0], .int .i64 1]) (by simp [results, Tryz.results74, go_sem, hRsD0, hRsD1, hRsD2]) rfl ⟨0, none, 0, 0, by rw [Hres.out.2.1, Hres.out.2.2], ?_, ?_⟩
    · rw [Hres.out.1]; exact ZO.zero (Nat.le_refl _)
    · repeat (first | exact Bel1.out | exact Bel1.out.drew | exact below_drewN Bel1.out _ | refine Below.drew ?_ | refine Below.setCell ?_ (by have zz0 := Hlt.out; first | omega | (simp; done) | (simp; omega)) _)

set_option maxHeartbeats 2000000 in
theorem specOfD_any (b : Nat) (w : World) (hb : b < 4294967296) (hf : fin32 b = true) :
    Calls Tryz.prog 42 #[.float .f32 b] w fun e w' => ∃ Sr Ar nr cr, e = .returned (.agg #[.int .i64 Sr, .slice Ar nr cr, .int .i64 (nx (ofM b) (ofP b))]) ∧ ZO w' w.heap.size w'.heap.size (nz (ofM b)) Sr Ar nr cr ∧ Below w.heap.size w w' := by
  have hst := store_int Tryz.prog
  have hst2 := store_slice Tryz.prog
  obtain ⟨w1, hw1⟩ : ∃ w1, w1 = w.alloc (.cells #[.int .i64 0, .slice none 0 0, .int .i64 0] 48) := ⟨_, rfl⟩
  have RsD1 : Hid (DRes w1 w.heap.size) := Lib.hid (by rw [hw1]; exact DRes.new _ _)
  have Bel1 : Hid (Below w.heap.size w w1) := Lib.hid (by rw [hw1]; exact belAlloc1 _ _)
  have Hlt : Hid (w.heap.size < w1.heap.size) := Lib.hid RsD1.out.2
  have Hw := Lib.hid hw1
  have Hb := Lib.hid hb
  clear hw1
  have Hf := Lib.hid hf
  obtain ⟨hb1, hb2, hb3, hb4⟩ := of_bounds hf
  have hlt := lt_zero32 b hb (fin_nan hf)
  have hma := mant_lt (b % 2147483648)
  obtain ⟨q, hq⟩ : ∃ q, q = ofP b := ⟨_, rfl⟩
  obtain ⟨m, hm⟩ : ∃ m, m = ofM b := ⟨_, rfl⟩
  obtain ⟨a, ha⟩ : ∃ a, a = mant (b % 2147483648) := ⟨_, rfl⟩
  have Hma : Hid (m = if place32 b < 0 then -(a : Int) else (a : Int)) := Lib.hid (by rw [hm, ha]; rfl)
  rw [← ha] at hma
  rw [← hm] at hb1 hb2
  rw [← hq] at hb3 hb4
  rw [← hm, ← hq]
  have Hq : Hid (q = -149 + (expo (b % 2147483648) : Int)) := Lib.hid hq
  have Ha := Lib.hid ha
  clear hf hb hm hq ha
  by_cases hp : place32 b < 0
  · rw [decide_eq_true hp] at hlt
    have hmv : -(a : Int) = m := by have h := Hma.out; rw [if_pos hp] at h; exact h.symm
    have Hmv := Lib.hid hmv
    clear hp hmv
    go_enter Tryz.func42, Tryz.ntmps42
    go_wp2_with fail
    rw [← Hw.out]
    obtain ⟨⟨hRsD0, hRsD1, hRsD2, hRsD3, hRsD4, hRsD5⟩, hRsD6⟩ := RsD1.out
    refine (parts_fin b _ Hb.out Hf.out).mono ?_
    rintro e w9 ⟨rfl, rfl⟩
    rw [← Hq.out, ← Ha.out]
    go_wp2_with fail
    rw [Hmv.out]
    refine (specOf_any m _ (by omega) (by omega)).mono ?_
    rintro e w2 ⟨val, rfl, hv, hb⟩
    obtain ⟨S2, A2, n2, c2, rfl, hz2⟩ := Wz.zo hv (Nat.le_refl _)
    have Zv2 := Lib.hid hz2.zv
    have Hn2 : Hid ((n2 : Int) ≤ 1) := Lib.hid (by have h := hz2.2.1; have h2 := (limbs_len_le (v := m.natAbs) (n := 1)).2 (by rw [Bs_pow]; omega); omega)
    clear hv hz2
    have Sz2 := Lib.hid (Below.size hb)
    have Bel2 := Lib.hid (belNext Bel1.out hb)
    have RsD2 := Lib.hid (RsD1.out.next hb)
    clear hb Bel1 RsD1 hRsD0 hRsD1 hRsD2 hRsD3 hRsD4 hRsD5 hRsD6
    obtain ⟨⟨hRsD0, hRsD1, hRsD2, hRsD3, hRsD4, hRsD5⟩, hRsD6⟩ := RsD2.out
    go_wp2_with fail
    refine (specMakeD_any m S2 q A2 n2 c2 _ Zv2.out (by have := Hn2.out; omega) (by omega) (by omega)).mono ?_
    rintro e w3 ⟨Sr, Ar, nr, cr, rfl, hzo, hb⟩
    have Zo3 := Lib.hid hzo
    clear hzo
    have Sz3 := Lib.hid (Below.size hb)
    have Bel3 := Lib.hid (belNext Bel2.out hb)
    have RsD3 := Lib.hid (RsD2.out.next hb)
    clear hb Bel2 RsD2 hRsD0 hRsD1 hRsD2 hRsD3 hRsD4 hRsD5 hRsD6
    obtain ⟨⟨hRsD0, hRsD1, hRsD2, hRsD3, hRsD4, hRsD5⟩, hRsD6⟩ := RsD3.out
    go_wp2_with fail
    refine bodyPost_ret (v := .agg #[.int .i64 Sr, .slice Ar nr cr, .int .i64 (nx m q)]) (by simp [results, Tryz.results42, go_sem, hRsD0, hRsD1, hRsD2]) rfl ⟨Sr, Ar, nr, cr, rfl, ?_, ?_⟩
    · exact (((Zo3.out.setCell (.inl (by have zz0 := Hlt.out; have zz1 := Sz2.out; have zz2 := Sz3.out; first | omega | (simp; done) | (simp; omega))) _).setCell (.inl (by have zz0 := Hlt.out; have zz1 := Sz2.out; have zz2 := Sz3.out; first | omega | (simp; done) | (simp; omega))) _).setCell (.inl (by have zz0 := Hlt.out; have zz1 := Sz2.out; have zz2 := Sz3.out; first | omega | (simp; done) | (simp; omega))) _).wide (by have zz0 := Hlt.out; have zz1 := Sz2.out; have zz2 := Sz3.out; first | omega | (simp; done) | (simp; omega)) (by have zz0 := Hlt.out; have zz1 := Sz2.out; have zz2 := Sz3.out; first | omega | (simp; done) | (simp; omega)) (Nat.le_refl _)
    · exact ((Bel3.out.setCell (by have zz0 := Hlt.out; have zz1 := Sz2.out; have zz2 := Sz3.out; first | omega | (simp; done) | (simp; omega)) _).setCell (by have zz0 := Hlt.out; have zz1 := Sz2.out; have zz2 := Sz3.out; first | omega | (simp; done) | (simp; omega)) _).setCell (by have zz0 := Hlt.out; have zz1 := Sz2.out; have zz2 := Sz3.out; first | omega | (simp; done) | (simp; omega)) _
  · rw [decide_eq_false hp] at hlt
    have hmv : (a : Int) = m := by have h := Hma.out; rw [if_neg hp] at h; exact h.symm
    have Hmv := Lib.hid hmv
    clear hp hmv
    go_enter Tryz.func42, Tryz.ntmps42
    go_wp2_with fail
    rw [← Hw.out]
    obtain ⟨⟨hRsD0, hRsD1, hRsD2, hRsD3, hRsD4, hRsD5⟩, hRsD6⟩ := RsD1.out
    refine (parts_fin b _ Hb.out Hf.out).mono ?_
    rintro e w9 ⟨rfl, rfl⟩
    rw [← Hq.out, ← Ha.out]
    go_wp2_with fail
    rw [Hmv.out]
    refine (specOf_any m _ (by omega) (by omega)).mono ?_
    rintro e w2 ⟨val, rfl, hv, hb⟩
    obtain ⟨S2, A2, n2, c2, rfl, hz2⟩ := Wz.zo hv (Nat.le_refl _)
    have Zv2 := Lib.hid hz2.zv
    have Hn2 : Hid ((n2 : Int) ≤ 1) := Lib.hid (by have h := hz2.2.1; have h2 := (limbs_len_le (v := m.natAbs) (n := 1)).2 (by rw [Bs_pow]; omega); omega)
    clear hv hz2
    have Sz2 := Lib.hid (Below.size hb)
    have Bel2 := Lib.hid (belNext Bel1.out hb)
    have RsD2 := Lib.hid (RsD1.out.next hb)
    clear hb Bel1 RsD1 hRsD0 hRsD1 hRsD2 hRsD3 hRsD4 hRsD5 hRsD6
    obtain ⟨⟨hRsD0, hRsD1, hRsD2, hRsD3, hRsD4, hRsD5⟩, hRsD6⟩ := RsD2.out
    go_wp2_with fail
    refine (specMakeD_any m S2 q A2 n2 c2 _ Zv2.out (by have := Hn2.out; omega) (by omega) (by omega)).mono ?_
    rintro e w3 ⟨Sr, Ar, nr, cr, rfl, hzo, hb⟩
    have Zo3 := Lib.hid hzo
    clear hzo
    have Sz3 := Lib.hid (Below.size hb)
    have Bel3 := Lib.hid (belNext Bel2.out hb)
    have RsD3 := Lib.hid (RsD2.out.next hb)
    clear hb Bel2 RsD2 hRsD0 hRsD1 hRsD2 hRsD3 hRsD4 hRsD5 hRsD6
    obtain ⟨⟨hRsD0, hRsD1, hRsD2, hRsD3, hRsD4, hRsD5⟩, hRsD6⟩ := RsD3.out
    go_wp2_with fail
    refine bodyPost_ret (v := .agg #[.int .i64 Sr, .slice Ar nr cr, .int .i64 (nx m q)]) (by simp [results, Tryz.results42, go_sem, hRsD0, hRsD1, hRsD2]) rfl ⟨Sr, Ar, nr, cr, rfl, ?_, ?_⟩
    · exact (((Zo3.out.setCell (.inl (by have zz0 := Hlt.out; have zz1 := Sz2.out; have zz2 := Sz3.out; first | omega | (simp; done) | (simp; omega))) _).setCell (.inl (by have zz0 := Hlt.out; have zz1 := Sz2.out; have zz2 := Sz3.out; first | omega | (simp; done) | (simp; omega))) _).setCell (.inl (by have zz0 := Hlt.out; have zz1 := Sz2.out; have zz2 := Sz3.out; first | omega | (simp; done) | (simp; omega))) _).wide (by have zz0 := Hlt.out; have zz1 := Sz2.out; have zz2 := Sz3.out; first | omega | (simp; done) | (simp; omega)) (by have zz0 := Hlt.out; have zz1 := Sz2.out; have zz2 := Sz3.out; first | omega | (simp; done) | (simp; omega)) (Nat.le_refl _)
    · exact ((Bel3.out.setCell (by have zz0 := Hlt.out; have zz1 := Sz2.out; have zz2 := Sz3.out; first | omega | (simp; done) | (simp; omega)) _).setCell (by have zz0 := Hlt.out; have zz1 := Sz2.out; have zz2 := Sz3.out; first | omega | (simp; done) | (simp; omega)) _).setCell (by have zz0 := Hlt.out; have zz1 := Sz2.out; have zz2 := Sz3.out; first | omega | (simp; done) | (simp; omega)) _

end Go.Proofs.YtngminjncdfjdaaGreatDoor
