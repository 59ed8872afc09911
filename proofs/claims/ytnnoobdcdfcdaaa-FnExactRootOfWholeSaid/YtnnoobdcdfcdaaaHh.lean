/- What an exact number is, of the program and of the model. -/
import Derived.Test.YtnnoobdcdfcdaaaHc
import Derived.Test.YtnnoobdcdfcdaaaIx
import Derived.Test.YtnnoobdcdfcdaaaHg
namespace Go.Proofs.Ytnnoobdcdfcdaaa
set_option maxRecDepth 100000
open Go.RowKit
set_option linter.unusedSimpArgs false
set_option linter.unusedVariables false

open Classical in
/-- a sign, limbs and an exponent that are an exact number -/
noncomputable def isD (S : Int) (xs : List Int) (E : Int) : Bool := decide (∃ z, isZ z S xs ∧ okD z E)
open Classical in
theorem isD_true {S : Int} {xs : List Int} {E : Int} (h : ∃ z, isZ z S xs ∧ okD z E) : isD S xs E = true := by unfold isD; exact decide_eq_true h
open Classical in
theorem isD_false {S : Int} {xs : List Int} {E : Int} (h : ¬ ∃ z, isZ z S xs ∧ okD z E) : isD S xs E = false := by unfold isD; exact decide_eq_false h
open Classical in
theorem isD_of {S : Int} {xs : List Int} {E : Int} (h : isD S xs E = true) : ∃ z, isZ z S xs ∧ okD z E := by unfold isD at h; exact of_decide_eq_true h
theorem isZ_inj {z z' S : Int} {xs : List Int} (h : isZ z S xs) (h' : isZ z' S xs) : z = z' := by
  have h1 : limbs z.natAbs = limbs z'.natAbs := by
    have e := h.2.1.symm.trans h'.2.1
    have := congrArg nats e
    rwa [nats_li, nats_li] at this
  rw [← Int.sign_mul_natAbs z, ← Int.sign_mul_natAbs z', ← h.1, ← h'.1, limbs_inj h1]
theorem isD_noW {S : Int} {xs : List Int} {E : Int} (h : isW S xs = false) : isD S xs E = false := isD_false (fun ⟨z, hz, _⟩ => by rw [isW_true (okW_iff.2 ⟨z, hz⟩)] at h; cases h)
theorem isD_noE {S : Int} {xs : List Int} {E : Int} (h : ¬ (-3000 ≤ E ∧ E ≤ 3000)) : isD S xs E = false := isD_false (fun ⟨z, _, ho⟩ => h ⟨ho.2.1, ho.2.2.1⟩)
/-- the first limb tells whether the number is odd -/
theorem limb0_odd {v : Nat} (h : 0 < (limbs v).length) : (limbs v)[0] % 2 = v % 2 := by
  have hv : v ≠ 0 := fun e => by rw [e, limbs_zero] at h; simp at h
  have e : (limbs v)[0] = v % Bs := by simp only [limbs_pos hv]; rfl
  rw [e, Bs_eq]
  omega
theorem isD_zero {S : Int} {xs : List Int} {E z : Int} (hz : isZ z S xs) (h0 : S = 0) (hE : -3000 ≤ E ∧ E ≤ 3000) : isD S xs E = decide (E = 0) := by
  have hz0 : z = 0 := Int.sign_eq_zero_iff_zero.1 (hz.1.symm.trans h0)
  by_cases h : E = 0
  · rw [decide_eq_true h]
    exact isD_true ⟨z, hz, hz.2.2, hE.1, hE.2, fun _ => h, fun h1 => absurd hz0 h1⟩
  · rw [decide_eq_false h]
    exact isD_false (fun ⟨z', hz', ho⟩ => h (ho.2.2.2.1 ((isZ_inj hz' hz).trans hz0)))
theorem isD_odd {S : Int} {xs : List Int} {E z : Int} (hz : isZ z S xs) (h0 : S ≠ 0) (hE : -3000 ≤ E ∧ E ≤ 3000) : isD S xs E = decide (z.natAbs % 2 = 1) := by
  have hz0 : z ≠ 0 := fun e => h0 (hz.1.trans (by rw [e]; rfl))
  by_cases h : z.natAbs % 2 = 1
  · rw [decide_eq_true h]
    exact isD_true ⟨z, hz, hz.2.2, hE.1, hE.2, fun h1 => absurd h1 hz0, fun _ => h⟩
  · rw [decide_eq_false h]
    exact isD_false (fun ⟨z', hz', ho⟩ => h (by have e := isZ_inj hz' hz; subst e; exact ho.2.2.2.2 hz0))
/-- an exact number in a value's data -/
theorem isD_data {w : World} {S : Int} {A : Option Addr} {n c : Nat} {xs : List Int} {E : Int} (h : isD S xs E = true) (hr : Rd w w.heap.size A (vi xs)) (hn : xs.length = n) (hc : n ≤ c) : ∃ z, isZ z S xs ∧ okD z E ∧ ZV w z S A n c ∧ n ≤ 100 := by
  obtain ⟨z, hz, ho⟩ := isD_of h
  have hl : (limbs z.natAbs).length = n := by rw [← hn, hz.2.1, li_len]
  exact ⟨z, hz, ho, ⟨hz.1, hl, hc, by rw [vs_li, ← hz.2.1]; exact hr⟩, by have := hz.2.2; omega⟩
theorem isW_data {w : World} {S : Int} {A : Option Addr} {n c : Nat} {xs : List Int} (h : isW S xs = true) (hr : Rd w w.heap.size A (vi xs)) (hn : xs.length = n) (hc : n ≤ c) : ∃ z, isZ z S xs ∧ ZV w z S A n c ∧ n ≤ 100 := by
  obtain ⟨z, hz⟩ := okW_iff.1 (okW_of h)
  have hl : (limbs z.natAbs).length = n := by rw [← hn, hz.2.1, li_len]
  exact ⟨z, hz, ⟨hz.1, hl, hc, by rw [vs_li, ← hz.2.1]; exact hr⟩, by have := hz.2.2; omega⟩
theorem isD_nrm {z E S : Int} (hS : S = (nz z).sign) (h : okN z E) : isD S (li (limbs (nz z).natAbs)) (nx z E) = true := isD_true ⟨nz z, ⟨hS, rfl, h.1⟩, h.1, h.2.1, h.2.2, fun h0 => by rw [nz_eq_zero.1 h0, nx_zero], fun h0 => nz_odd (fun e => h0 (nz_eq_zero.2 e))⟩
theorem not_isD_nrm {z E S : Int} (hS : S = (nz z).sign) (h : ¬ okN z E) : isD S (li (limbs (nz z).natAbs)) (nx z E) = false := isD_false (fun ⟨z', hz', ho⟩ => h (by
  have e : nz z = z' := by
    have h1 : limbs (nz z).natAbs = limbs z'.natAbs := by
      have := congrArg nats hz'.2.1
      rwa [nats_li, nats_li] at this
    rw [← Int.sign_mul_natAbs (nz z), ← Int.sign_mul_natAbs z', ← hS, ← hz'.1, limbs_inj h1]
  exact ⟨by rw [e]; exact ho.1, ho.2.1, ho.2.2.1⟩))

set_option maxHeartbeats 4000000 in
theorem implIsD_any (S : Int) (A : Option Addr) (n c : Nat) (E : Int) (xs : List Int) (w : World) (hr : Rd w w.heap.size A (vi xs)) (hn : xs.length = n) (hm : n ≤ 1048580) :
    Calls Try.prog 36 #[.agg #[.int .i64 S, .slice A n c, .int .i64 E]] w fun e w' => e = .returned (.bool (isD S xs E)) ∧ Below w.heap.size w w' := by
  have hst := store_int Try.prog
  have hst2 := store_slice Try.prog
  obtain ⟨w1, hw1⟩ : ∃ w1, w1 = w.alloc (.cells #[.int .i64 S, .slice A n c, .int .i64 E] 53) := ⟨_, rfl⟩
  have Bx1 : Hid (DBox w1 w.heap.size S A n c E) := Lib.hid (by rw [hw1]; exact DBox.new _ _ _ _ _ _ _)
  have Bel1 : Hid (Below w.heap.size w w1) := Lib.hid (by rw [hw1]; exact belAlloc1 _ _)
  have Hr := Lib.hid hr
  have Hn := Lib.hid hn
  have Hm := Lib.hid hm
  have Hw := Lib.hid hw1
  clear hr hn hw1
  go_enter Try.func36, Try.ntmps36
  go_wp2_with fail
  rw [← Hw.out]
  obtain ⟨⟨hBx0, hBx1, hBx2⟩, hBx3⟩ := Bx1.out
  refine (implIsW_any S A n c xs _ ((Hr.out.below Bel1.out).up Bel1.out.size) Hn.out Hm.out).mono ?_
  rintro e w2 ⟨rfl, hb⟩
  have Sz2 := Lib.hid (Below.size hb)
  have Bel2 := Lib.hid (belNext Bel1.out hb)
  have Bx2 := Lib.hid (Bx1.out.next hb)
  clear hb Bel1 Bx1 hBx0 hBx1 hBx2 hBx3
  obtain ⟨⟨hBx0, hBx1, hBx2⟩, hBx3⟩ := Bx2.out
  by_cases hW : isW S xs = true
  · rw [hW]
    obtain ⟨z, hz⟩ := okW_iff.1 (okW_of hW)
    have Hz := Lib.hid hz
    clear hz hW
    by_cases hE : -3000 ≤ E ∧ E ≤ 3000
    · obtain ⟨hE1, hE2⟩ := hE
      have HE : Hid (-3000 ≤ E ∧ E ≤ 3000) := Lib.hid ⟨hE1, hE2⟩
      by_cases h0 : S = 0
      · have Hres := Lib.hid (isD_zero Hz.out h0 HE.out)
        subst h0
        go_wp2_with fail
        refine (beyond_no E 3000 _ HE.out.1 HE.out.2 (by omega) (by omega)).mono ?_
        rintro e w9 ⟨rfl, rfl⟩
        go_wp2_with fail
        go_ret
        exact ⟨ret_bool (by rw [Hres.out]; first | rfl | simp), Bel2.out⟩
      · have Hres := Lib.hid (isD_odd Hz.out h0 HE.out)
        have hs0 : (S == 0) = false := beq_false_of_ne h0
        have Hnz : Hid (limbs z.natAbs ≠ []) := Lib.hid (fun e => h0 (by rw [Hz.out.1, Int.sign_eq_zero_iff_zero]; have := limbs_eq_nil.1 e; omega))
        have Hlen : Hid ((limbs z.natAbs).length = n) := Lib.hid (by rw [← Hn.out, Hz.out.2.1, li_len])
        have hkx : 0 < (limbs z.natAbs).length := List.length_pos_iff.2 Hnz.out
        have hn0 : (0 : Int) < n := by have := Hlen.out; omega
        have hra : Rd w2 w2.heap.size A (vs (limbs z.natAbs)) := by rw [vs_li, ← Hz.out.2.1]; exact (Hr.out.below Bel2.out).up Bel2.out.size
        obtain ⟨a, ha, hab⟩ := hra.some_ (by rw [vs_len]; omega)
        subst ha
        have hcx := hra.cell (k := 0) (by rw [vs_len]; exact hkx)
        rw [vs_get hkx] at hcx
        have e0 : a.add 0 = a := by unfold Addr.add; split <;> simp_all
        have hcx0 := hcx
        rw [e0] at hcx0
        clear e0
        have hn1 : 0 < n := by omega
        have Hodd := Lib.hid (limb0_odd hkx)
        have hx0 : (0 : Int) ≤ ((limbs z.natAbs)[0] : Nat) := Int.natCast_nonneg _
        have hxm := limb_le ((Lim_limbs z.natAbs).getElem hkx)
        generalize (limbs z.natAbs)[0] = x at *
        clear hra hkx h0
        go_wp2_with fail
        refine (beyond_no E 3000 _ HE.out.1 HE.out.2 (by omega) (by omega)).mono ?_
        rintro e w9 ⟨rfl, rfl⟩
        go_wp2_with fail
        go_ret
        exact ⟨ret_bool (by rw [Hres.out, ← Hodd.out]; first | rfl | (rw [Bool.eq_iff_iff]; simp; omega)), Bel2.out⟩
    · have Hres := Lib.hid (isD_noE (S := S) (xs := xs) hE)
      have hE2 : E < -3000 ∨ 3000 < E := by omega
      have HE2 := Lib.hid hE2
      clear hE
      go_wp2_with fail
      refine (beyond_yes E 3000 _ HE2.out (by omega) (by omega)).mono ?_
      rintro e w9 ⟨rfl, rfl⟩
      go_wp2_with fail
      go_ret
      exact ⟨ret_bool Hres.out.symm, Bel2.out⟩
  · have hW2 : isW S xs = false := by simpa using hW
    have Hres := Lib.hid (isD_noW (E := E) hW2)
    rw [hW2]
    clear hW hW2
    go_wp2_with fail
    go_ret
    exact ⟨ret_bool Hres.out.symm, Bel2.out⟩

set_option maxHeartbeats 4000000 in
theorem specIsD_any (S : Int) (A : Option Addr) (n c : Nat) (E : Int) (xs : List Int) (w : World) (hr : Rd w w.heap.size A (vi xs)) (hn : xs.length = n) (hm : n ≤ 1048580) :
    Calls Try.prog 69 #[.agg #[.int .i64 S, .slice A n c, .int .i64 E]] w fun e w' => e = .returned (.bool (isD S xs E)) ∧ Below w.heap.size w w' := by
  have hst := store_int Try.prog
  have hst2 := store_slice Try.prog
  obtain ⟨w1, hw1⟩ : ∃ w1, w1 = w.alloc (.cells #[.int .i64 S, .slice A n c, .int .i64 E] 53) := ⟨_, rfl⟩
  have Bx1 : Hid (DBox w1 w.heap.size S A n c E) := Lib.hid (by rw [hw1]; exact DBox.new _ _ _ _ _ _ _)
  have Bel1 : Hid (Below w.heap.size w w1) := Lib.hid (by rw [hw1]; exact belAlloc1 _ _)
  have Hr := Lib.hid hr
  have Hn := Lib.hid hn
  have Hm := Lib.hid hm
  have Hw := Lib.hid hw1
  clear hr hn hw1
  go_enter Try.func69, Try.ntmps69
  go_wp2_with fail
  rw [← Hw.out]
  obtain ⟨⟨hBx0, hBx1, hBx2⟩, hBx3⟩ := Bx1.out
  refine (specIs_any S A n c xs _ ((Hr.out.below Bel1.out).up Bel1.out.size) Hn.out Hm.out).mono ?_
  rintro e w2 ⟨rfl, hb⟩
  have Sz2 := Lib.hid (Below.size hb)
  have Bel2 := Lib.hid (belNext Bel1.out hb)
  have Bx2 := Lib.hid (Bx1.out.next hb)
  clear hb Bel1 Bx1 hBx0 hBx1 hBx2 hBx3
  obtain ⟨⟨hBx0, hBx1, hBx2⟩, hBx3⟩ := Bx2.out
  by_cases hW : isW S xs = true
  · rw [hW]
    obtain ⟨z, hz⟩ := okW_iff.1 (okW_of hW)
    have Hz := Lib.hid hz
    clear hz hW
    by_cases hE : -3000 ≤ E ∧ E ≤ 3000
    · obtain ⟨hE1, hE2⟩ := hE
      have HE : Hid (-3000 ≤ E ∧ E ≤ 3000) := Lib.hid ⟨hE1, hE2⟩
      by_cases h0 : S = 0
      · have Hres := Lib.hid (isD_zero Hz.out h0 HE.out)
        subst h0
        go_wp2_with fail
        refine (in_any E (-3000) 3000 _).mono ?_
        rintro e w9 ⟨rfl, rfl⟩
        have hin : decide (-3000 ≤ E ∧ E ≤ 3000) = true := decide_eq_true HE.out
        rw [hin]
        clear hin
        go_wp2_with fail
        go_ret
        exact ⟨ret_bool (by rw [Hres.out]; first | rfl | simp), Bel2.out⟩
      · have Hres := Lib.hid (isD_odd Hz.out h0 HE.out)
        have hs0 : (S == 0) = false := beq_false_of_ne h0
        have Hnz : Hid (limbs z.natAbs ≠ []) := Lib.hid (fun e => h0 (by rw [Hz.out.1, Int.sign_eq_zero_iff_zero]; have := limbs_eq_nil.1 e; omega))
        have Hlen : Hid ((limbs z.natAbs).length = n) := Lib.hid (by rw [← Hn.out, Hz.out.2.1, li_len])
        have hkx : 0 < (limbs z.natAbs).length := List.length_pos_iff.2 Hnz.out
        have hn0 : (0 : Int) < n := by have := Hlen.out; omega
        have hra : Rd w2 w2.heap.size A (vs (limbs z.natAbs)) := by rw [vs_li, ← Hz.out.2.1]; exact (Hr.out.below Bel2.out).up Bel2.out.size
        obtain ⟨a, ha, hab⟩ := hra.some_ (by rw [vs_len]; omega)
        subst ha
        have hcx := hra.cell (k := 0) (by rw [vs_len]; exact hkx)
        rw [vs_get hkx] at hcx
        have e0 : a.add 0 = a := by unfold Addr.add; split <;> simp_all
        have hcx0 := hcx
        rw [e0] at hcx0
        clear e0
        have hn1 : 0 < n := by omega
        have Hodd := Lib.hid (limb0_odd hkx)
        have hx0 : (0 : Int) ≤ ((limbs z.natAbs)[0] : Nat) := Int.natCast_nonneg _
        have hxm := limb_le ((Lim_limbs z.natAbs).getElem hkx)
        generalize (limbs z.natAbs)[0] = x at *
        clear hra hkx h0
        go_wp2_with fail
        refine (in_any E (-3000) 3000 _).mono ?_
        rintro e w9 ⟨rfl, rfl⟩
        have hin : decide (-3000 ≤ E ∧ E ≤ 3000) = true := decide_eq_true HE.out
        rw [hin]
        clear hin
        go_wp2_with fail
        go_ret
        exact ⟨ret_bool (by rw [Hres.out, ← Hodd.out]; first | rfl | (rw [Bool.eq_iff_iff]; simp; omega)), Bel2.out⟩
    · have Hres := Lib.hid (isD_noE (S := S) (xs := xs) hE)
      have hE2 : E < -3000 ∨ 3000 < E := by omega
      have HE2 := Lib.hid hE2
      clear hE
      go_wp2_with fail
      refine (in_any E (-3000) 3000 _).mono ?_
      rintro e w9 ⟨rfl, rfl⟩
      have hin : decide (-3000 ≤ E ∧ E ≤ 3000) = false := decide_eq_false (by have := HE2.out; omega)
      rw [hin]
      clear hin
      go_wp2_with fail
      go_ret
      exact ⟨ret_bool Hres.out.symm, Bel2.out⟩
  · have hW2 : isW S xs = false := by simpa using hW
    have Hres := Lib.hid (isD_noW (E := E) hW2)
    rw [hW2]
    clear hW hW2
    go_wp2_with fail
    go_ret
    exact ⟨ret_bool Hres.out.symm, Bel2.out⟩

set_option maxHeartbeats 1000000 in
theorem specIsDW_any (S : Int) (A : Option Addr) (n c : Nat) (E : Int) (xs : List Int) (w : World) (hr : Rd w w.heap.size A (vi xs)) (hn : xs.length = n) (hm : n ≤ 1048580) :
    Calls Try.prog 34 #[.agg #[.int .i64 S, .slice A n c, .int .i64 E]] w fun e w' => e = .returned (.bool (isD S xs E)) ∧ Below w.heap.size w w' := by
  obtain ⟨w1, hw1⟩ : ∃ w1, w1 = w.alloc (.cells #[.int .i64 S, .slice A n c, .int .i64 E] 53) := ⟨_, rfl⟩
  have Bx1 : Hid (DBox w1 w.heap.size S A n c E) := Lib.hid (by rw [hw1]; exact DBox.new _ _ _ _ _ _ _)
  have Bel1 : Hid (Below w.heap.size w w1) := Lib.hid (by rw [hw1]; exact belAlloc1 _ _)
  have Hr := Lib.hid hr
  have Hn := Lib.hid hn
  have Hm := Lib.hid hm
  have Hw := Lib.hid hw1
  clear hr hn hw1
  go_enter Try.func34, Try.ntmps34
  go_wp2_with fail
  rw [← Hw.out]
  obtain ⟨⟨hBx0, hBx1, hBx2⟩, hBx3⟩ := Bx1.out
  refine (specIsD_any S A n c E xs _ ((Hr.out.below Bel1.out).up Bel1.out.size) Hn.out Hm.out).mono ?_
  rintro e w2 ⟨rfl, hb⟩
  have Sz2 := Lib.hid (Below.size hb)
  have Bel2 := Lib.hid (belNext Bel1.out hb)
  have Bx2 := Lib.hid (Bx1.out.next hb)
  clear hb Bel1 Bx1 hBx0 hBx1 hBx2 hBx3
  obtain ⟨⟨hBx0, hBx1, hBx2⟩, hBx3⟩ := Bx2.out
  go_wp2_with fail
  go_ret
  exact ⟨rfl, Bel2.out⟩

end Go.Proofs.Ytnnoobdcdfcdaaa
