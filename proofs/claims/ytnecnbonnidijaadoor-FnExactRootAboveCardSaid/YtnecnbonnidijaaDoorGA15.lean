/- Texts of this seat, joined: Rs -/
import Derived.Test.YtnecnbonnidijaaDoorGA7
import Derived.Test.YtnecnbonnidijaaDoorGA6
/- Roots of exact numbers from below, of the program and of the model. -/
namespace Go.Proofs.YtnecnbonnidijaaDoor
set_option maxRecDepth 100000
open Go.RowKit
set_option linter.unusedSimpArgs false
set_option linter.unusedVariables false

theorem shZ_nonneg {z s : Int} (h : 0 ≤ z) : 0 ≤ shZ z s := by
  by_cases hs : 0 ≤ s
  · rw [shZ_up hs]; exact Int.mul_nonneg (Int.le_of_lt (Int.pow_pos (by omega))) h
  · rw [shZ_down (by omega)]; exact Int.ediv_nonneg h (Int.le_of_lt (Int.pow_pos (by omega)))
theorem shl_len4 {z k : Int} {n : Nat} (hn : (limbs z.natAbs).length = n) (hk : k ≤ 8000) : (limbs (shZ z k).natAbs).length ≤ n + 340 := by
  by_cases h : 0 ≤ k
  · rw [shZ_up h, abs_pow_mul]
    have := shl_len hn k.toNat
    omega
  · rw [shZ_down (by omega)]
    have := limbs_len_mono (shr_abs z (-k).toNat)
    omega
/-- a number other than 0 is its odd part times a power of 2 -/
theorem left_back {f e : Int} (h : f ≠ 0) : (2 : Int) ^ (nx f (-e) + e).toNat * nz f = f := by
  have h0 : f.natAbs ≠ 0 := by omega
  rw [nx_ne h]
  have e1 : (-e + (tz f.natAbs : Int) + e).toNat = tz f.natAbs := by omega
  rw [e1]
  unfold nz
  have h1 := (tz_spec h0).1
  have h2 : (f.natAbs : Int) = (2 : Int) ^ tz f.natAbs * (od f.natAbs : Int) := by
    have h3 := congrArg (fun v : Nat => (v : Int)) h1
    simp only [Int.natCast_mul] at h3
    rw [← pow_cast] at h3
    exact h3
  rw [Int.mul_left_comm, ← h2, Int.sign_mul_natAbs]

set_option maxHeartbeats 4000000 in
theorem implRootB_any (z S E : Int) (A : Option Addr) (n c : Nat) (k : Int) (w : World) (hz : ZV w z S A n c) (hp : 0 ≤ z) (hm : (n : Int) ≤ 100) (h1 : -4000 ≤ E) (h2 : E ≤ 4000) (h3 : 0 ≤ k) (h4 : k ≤ 200) (hT : TabZ w) :
    Calls Tryd.prog 59 #[.agg #[.int .i64 S, .slice A n c, .int .i64 E], .int .i64 k] w fun e w' => ∃ Sr Ar nr cr, e = .returned (.agg #[.int .i64 Sr, .slice Ar nr cr, .int .i64 (-k)]) ∧ ZO w' w.heap.size w'.heap.size ((rt (shZ z (E + 2 * k)).natAbs : Nat) : Int) Sr Ar nr cr ∧ Below w.heap.size w w' := by
  have hst := store_int Tryd.prog
  have hst2 := store_slice Tryd.prog
  obtain ⟨w1, hw1, hb1, hb3, hb4⟩ := dbox_res w S A n c E 30 30
  have RsD1 := Lib.hid hb3
  have Hlt : Hid (w.heap.size + 1 < w1.heap.size) := Lib.hid hb3.2
  have Hz := Lib.hid hz
  have Hp := Lib.hid hp
  have Hw := Lib.hid hw1
  have Bx1 := Lib.hid hb1
  have Bel1 := Lib.hid hb4
  have Hm : Hid ((n : Int) ≤ 100) := Lib.hid hm
  clear hz hp hw1 hb1 hb3 hb4
  have HT := Lib.hid hT
  clear hT
  go_enter Tryd.func59, Tryd.ntmps59
  go_wp2_with fail
  rw [← Hw.out]
  obtain ⟨⟨hBx0, hBx1, hBx2⟩, hBx3⟩ := Bx1.out
  obtain ⟨⟨hRsD0, hRsD1, hRsD2, hRsD3, hRsD4, hRsD5⟩, hRsD6⟩ := RsD1.out
  refine (implFloorD_any z S E A n c (2 * k) _ (Hz.out.next Bel1.out) (by omega) (by omega) (by omega) (by omega) (by omega) (HT.out.next Bel1.out)).mono ?_
  rintro e w2 ⟨S2, A2, n2, c2, rfl, hzo, hb⟩
  have Zo2 := Lib.hid hzo
  have Hn2 : Hid ((n2 : Int) ≤ 1000) := Lib.hid (by have h := shl_len4 (k := E + 2 * k) Hz.out.2.1 (by omega); rw [hzo.2.1] at h; have := Hm.out; omega)
  clear hzo
  obtain ⟨v, hv⟩ : ∃ v, v = (shZ z (E + 2 * k)).natAbs := ⟨_, rfl⟩
  have Hv := Lib.hid hv
  clear hv
  have hf1 : ∀ w, (Instr.field 30 (.agg #[.int .i64 S2, .slice A2 n2 c2, .int .i64 (-(2 * k))]) 0).run Tryd.prog w = .ok (.agg #[.int .i64 S2, .slice A2 n2 c2]) w := fun _ => by kernel_rfl
  have hf2 : ∀ w, (Instr.field 28 (.agg #[.int .i64 S2, .slice A2 n2 c2]) 1).run Tryd.prog w = .ok (.slice A2 n2 c2) w := fun _ => by kernel_rfl
  have Sz2 := Lib.hid (Below.size hb)
  have Bel2 := Lib.hid (belNext Bel1.out hb)
  have Bx2 := Lib.hid (Bx1.out.next hb)
  have RsD2 := Lib.hid (RsD1.out.next hb)
  clear hb Bel1 Bx1 RsD1 hBx0 hBx1 hBx2 hBx3 hRsD0 hRsD1 hRsD2 hRsD3 hRsD4 hRsD5 hRsD6
  obtain ⟨⟨hBx0, hBx1, hBx2⟩, hBx3⟩ := Bx2.out
  obtain ⟨⟨hRsD0, hRsD1, hRsD2, hRsD3, hRsD4, hRsD5⟩, hRsD6⟩ := RsD2.out
  go_wp2_with fail
  refine (natRoot_any v A2 n2 c2 _ _ (by rw [Hv.out]; exact Zo2.out.2.2.2.1.rd) Zo2.out.2.2.2.2 (by rw [Hv.out]; exact Zo2.out.2.1) (by have := Hn2.out; omega)).mono ?_
  rintro e w3 ⟨A3, c3, rfl, ho, hcap, hb⟩
  obtain ⟨q, hq⟩ : ∃ q, q = rt v := ⟨_, rfl⟩
  rw [← hq] at ho hcap ⊢
  obtain ⟨nr, hnr⟩ : ∃ nr, nr = (limbs q).length := ⟨_, rfl⟩
  rw [← hnr] at hcap ⊢
  have Oz := Lib.hid ho
  have Hcap := Lib.hid hcap
  have Hq := Lib.hid hq
  have Hnr := Lib.hid hnr
  clear ho hcap hq hnr hf1 hf2
  have Sz3 := Lib.hid (Below.size hb)
  have Bel3 := Lib.hid (belNext Bel2.out hb)
  have Bx3 := Lib.hid (Bx2.out.next hb)
  have RsD3 := Lib.hid (RsD2.out.next hb)
  clear hb Bel2 Bx2 RsD2 hBx0 hBx1 hBx2 hBx3 hRsD0 hRsD1 hRsD2 hRsD3 hRsD4 hRsD5 hRsD6
  obtain ⟨⟨hBx0, hBx1, hBx2⟩, hBx3⟩ := Bx3.out
  obtain ⟨⟨hRsD0, hRsD1, hRsD2, hRsD3, hRsD4, hRsD5⟩, hRsD6⟩ := RsD3.out
  go_wp2_with fail
  refine (signed_any 1 q A3 nr c3 _ _ _ Oz.out Hnr.out.symm (by have h := limbs_len_mono (rt_le v); have h2 := Hnr.out; have h3 := Zo2.out.2.1; rw [← Hv.out] at h3; have := Hn2.out; rw [Hq.out] at h2; omega) Hcap.out).mono ?_
  rintro e w4 ⟨val, rfl, hv, hb⟩
  obtain ⟨S9, A9, n9, c9, rfl, hzo⟩ := Wz.zo (((hv.z (.inl rfl)).wide (Nat.le_refl _) hb.size).cast_ (z' := ((rt (shZ z (E + 2 * k)).natAbs : Nat) : Int)) (by rw [Hq.out, Hv.out, Int.one_mul])) (Nat.le_refl _)
  have Zp4 := Lib.hid hzo
  clear hv hzo
  have Sz4 := Lib.hid (Below.size hb)
  have Bel4 := Lib.hid (belNext Bel3.out hb)
  have Bx4 := Lib.hid (Bx3.out.next hb)
  have RsD4 := Lib.hid (RsD3.out.next hb)
  clear hb Bel3 Bx3 RsD3 hBx0 hBx1 hBx2 hBx3 hRsD0 hRsD1 hRsD2 hRsD3 hRsD4 hRsD5 hRsD6
  obtain ⟨⟨hBx0, hBx1, hBx2⟩, hBx3⟩ := Bx4.out
  obtain ⟨⟨hRsD0, hRsD1, hRsD2, hRsD3, hRsD4, hRsD5⟩, hRsD6⟩ := RsD4.out
  go_wp2_with fail
  refine bodyPost_ret (v := .agg #[.int .i64 S9, .slice A9 n9 c9, .int .i64 (-k)]) (by simp [results, Tryd.results59, go_sem, hRsD0, hRsD1, hRsD2]) rfl ⟨S9, A9, n9, c9, rfl, ?_, ?_⟩
  · exact (((Zp4.out.setCell (.inl (by have zz0 := Hlt.out; have zz1 := Sz2.out; have zz2 := Sz3.out; have zz3 := Sz4.out; first | omega | (simp; done) | (simp; omega))) _).setCell (.inl (by have zz0 := Hlt.out; have zz1 := Sz2.out; have zz2 := Sz3.out; have zz3 := Sz4.out; first | omega | (simp; done) | (simp; omega))) _).setCell (.inl (by have zz0 := Hlt.out; have zz1 := Sz2.out; have zz2 := Sz3.out; have zz3 := Sz4.out; first | omega | (simp; done) | (simp; omega))) _).wide (by have zz0 := Hlt.out; have zz1 := Sz2.out; have zz2 := Sz3.out; have zz3 := Sz4.out; first | omega | (simp; done) | (simp; omega)) (by have zz0 := Hlt.out; have zz1 := Sz2.out; have zz2 := Sz3.out; have zz3 := Sz4.out; first | omega | (simp; done) | (simp; omega)) (by have zz0 := Hlt.out; have zz1 := Sz2.out; have zz2 := Sz3.out; have zz3 := Sz4.out; first | omega | (simp; done) | (simp; omega))
  · exact ((Bel4.out.setCell (by have zz0 := Hlt.out; have zz1 := Sz2.out; have zz2 := Sz3.out; have zz3 := Sz4.out; first | omega | (simp; done) | (simp; omega)) _).setCell (by have zz0 := Hlt.out; have zz1 := Sz2.out; have zz2 := Sz3.out; have zz3 := Sz4.out; first | omega | (simp; done) | (simp; omega)) _).setCell (by have zz0 := Hlt.out; have zz1 := Sz2.out; have zz2 := Sz3.out; have zz3 := Sz4.out; first | omega | (simp; done) | (simp; omega)) _

set_option maxHeartbeats 4000000 in
theorem specRootB_any (z S E : Int) (A : Option Addr) (n c : Nat) (k : Int) (w : World) (hz : ZV w z S A n c) (hp : 0 ≤ z) (hm : (n : Int) ≤ 100) (h1 : -4000 ≤ E) (h2 : E ≤ 4000) (h3 : 0 ≤ k) (h4 : k ≤ 200) :
    Calls Tryd.prog 111 #[.agg #[.int .i64 S, .slice A n c, .int .i64 E], .int .i64 k] w fun e w' => ∃ Sr Ar nr cr, e = .returned (.agg #[.int .i64 Sr, .slice Ar nr cr, .int .i64 (nx ((rt (shZ z (E + 2 * k)).natAbs : Nat) : Int) (-k))]) ∧ ZO w' w.heap.size w'.heap.size (nz ((rt (shZ z (E + 2 * k)).natAbs : Nat) : Int)) Sr Ar nr cr ∧ Below w.heap.size w w' := by
  have hst := store_int Tryd.prog
  have hst2 := store_slice Tryd.prog
  obtain ⟨w1, hw1, hb1, hb3, hb4⟩ := dbox_res w S A n c E 30 30
  have RsD1 := Lib.hid hb3
  have Hlt : Hid (w.heap.size + 1 < w1.heap.size) := Lib.hid hb3.2
  have Hz := Lib.hid hz
  have Hp := Lib.hid hp
  have Hw := Lib.hid hw1
  have Bx1 := Lib.hid hb1
  have Bel1 := Lib.hid hb4
  have Hm : Hid ((n : Int) ≤ 100) := Lib.hid hm
  clear hz hp hw1 hb1 hb3 hb4
  go_enter Tryd.func111, Tryd.ntmps111
  go_wp2_with fail
  rw [← Hw.out]
  obtain ⟨⟨hBx0, hBx1, hBx2⟩, hBx3⟩ := Bx1.out
  obtain ⟨⟨hRsD0, hRsD1, hRsD2, hRsD3, hRsD4, hRsD5⟩, hRsD6⟩ := RsD1.out
  refine (specFloorD_any z S E A n c (2 * k) _ (Hz.out.next Bel1.out) (by omega) (by omega) (by omega) (by omega) (by omega)).mono ?_
  rintro e w2 ⟨S2, A2, n2, c2, rfl, hzo, hb⟩
  obtain ⟨f, hf⟩ : ∃ f, f = shZ z (E + 2 * k) := ⟨_, rfl⟩
  obtain ⟨X, hX⟩ : ∃ X, X = nx (shZ z (E + 2 * k)) (-(2 * k)) := ⟨_, rfl⟩
  rw [← hX]
  rw [← hf] at hzo hX
  have Zo2 := Lib.hid hzo
  have Hf := Lib.hid hf
  have HX := Lib.hid hX
  have Hf0 : Hid (0 ≤ f) := Lib.hid (by rw [hf]; exact shZ_nonneg Hp.out)
  have Hfl : Hid (((limbs f.natAbs).length : Int) ≤ 500) := Lib.hid (by have h := shl_len4 (k := E + 2 * k) Hz.out.2.1 (by omega); rw [hf]; have := Hm.out; omega)
  have HS2 : Hid (S2 = f.sign) := Lib.hid (hzo.1.trans (nz_facts f).1)
  have Hn2 : Hid ((n2 : Int) ≤ 500) := Lib.hid (by have h := limbs_len_mono (nz_le f); have e := hzo.2.1; have := Hfl.out; omega)
  clear hzo hf hX
  have Sz2 := Lib.hid (Below.size hb)
  have Bel2 := Lib.hid (belNext Bel1.out hb)
  have Bx2 := Lib.hid (Bx1.out.next hb)
  have RsD2 := Lib.hid (RsD1.out.next hb)
  clear hb Bel1 Bx1 RsD1 hBx0 hBx1 hBx2 hBx3 hRsD0 hRsD1 hRsD2 hRsD3 hRsD4 hRsD5 hRsD6
  obtain ⟨⟨hBx0, hBx1, hBx2⟩, hBx3⟩ := Bx2.out
  obtain ⟨⟨hRsD0, hRsD1, hRsD2, hRsD3, hRsD4, hRsD5⟩, hRsD6⟩ := RsD2.out
  clear hBx0 hBx1 hBx2 hBx3 hRsD0 hRsD1 hRsD2 hRsD3 hRsD4 hRsD5 hRsD6
  by_cases hf0 : f = 0
  · have hs0 : S2 = 0 := (sign_eq_zero HS2.out).2 hf0
    have hX0 : X = 0 := by rw [HX.out, hf0]; exact nx_zero _
    have Hz0 : Hid (shZ z (E + 2 * k) = 0) := Lib.hid (by rw [← Hf.out]; exact hf0)
    subst hs0 hX0
    clear hf0
    have hR3 := RsD2.out.next (belAlloc1 w2 (.cells #[.int .i64 0, .slice A2 n2 c2, .int .i64 0] 30))
    obtain ⟨⟨hRsD0, hRsD1, hRsD2, hRsD3, hRsD4, hRsD5⟩, hRsD6⟩ := hR3
    obtain ⟨⟨hY0, hY1, hY2⟩, hY3⟩ := DBox.new w2 0 A2 n2 c2 0 30
    go_wp2_with fail
    refine bodyPost_ret (v := .agg #[.int .i64 0, .slice none 0 0, .int .i64 0]) (by simp [results, Tryd.results111, go_sem, hRsD0, hRsD1, hRsD2]) rfl ⟨0, none, 0, 0, by rw [Hz0.out]; simp [rt_zero, nx_zero], ?_, ?_⟩
    · have e0 : nz ((rt (0 : Int).natAbs : Nat) : Int) = 0 := by simp [rt_zero, nz_zero]
      rw [Hz0.out, e0]; exact ZO.zero (Nat.le_refl _)
    · repeat (first | exact Bel2.out | refine Below.setCell ?_ (by have zz0 := Hlt.out; have zz1 := Sz2.out; first | omega | (simp; done) | (simp; omega)) _ | refine Below.alloc ?_ (by have zz0 := Hlt.out; have zz1 := Sz2.out; first | omega | (simp; done) | (simp; omega)) _)
  · have hs0 : (S2 == 0) = false := beq_false_of_ne (fun e => hf0 ((sign_eq_zero HS2.out).1 e))
    have Hfn := Lib.hid hf0
    have Hxk : Hid (0 ≤ X + 2 * k ∧ X + 2 * k ≤ 12000) := Lib.hid (by rw [HX.out, nx_ne hf0]; have h := tz_le (v := f.natAbs) rfl; have := Hfl.out; omega)
    clear hf0
    have hxk1 := Hxk.out.1
    have hxk2 := Hxk.out.2
    have hR3 := RsD2.out.next (belAlloc1 w2 (.cells #[.int .i64 S2, .slice A2 n2 c2, .int .i64 X] 30))
    obtain ⟨⟨hRsD0, hRsD1, hRsD2, hRsD3, hRsD4, hRsD5⟩, hRsD6⟩ := hR3
    obtain ⟨⟨hY0, hY1, hY2⟩, hY3⟩ := DBox.new w2 S2 A2 n2 c2 X 30
    go_wp2_with fail
    obtain ⟨w3, hw3⟩ : ∃ w3, w3 = w2.alloc (.cells #[.int .i64 S2, .slice A2 n2 c2, .int .i64 X] 30) := ⟨_, rfl⟩
    rw [← hw3]
    have hb : Below w2.heap.size w2 w3 := by rw [hw3]; exact belAlloc1 _ _
    have Zo3 := Lib.hid (Zo2.out.next hb)
    clear hw3 hRsD0 hRsD1 hRsD2 hRsD3 hRsD4 hRsD5 hRsD6 hY0 hY1 hY2 hY3
    have Sz3 := Lib.hid (Below.size hb)
    have Bel3 := Lib.hid (belNext Bel2.out hb)
    have Bx3 := Lib.hid (Bx2.out.next hb)
    have RsD3 := Lib.hid (RsD2.out.next hb)
    clear hb Bel2 Bx2 RsD2
    obtain ⟨⟨hBx0, hBx1, hBx2⟩, hBx3⟩ := Bx3.out
    obtain ⟨⟨hRsD0, hRsD1, hRsD2, hRsD3, hRsD4, hRsD5⟩, hRsD6⟩ := RsD3.out
    refine (specLeftJ_any (nz f) S2 (X + 2 * k) A2 n2 c2 w3 Zo3.out.zv (by have := Hn2.out; omega) hxk1 (by omega)).mono ?_
    rintro e w4 ⟨S4, A4, n4, c4, rfl, hzo0, hb⟩
    have hzo := hzo0.cast_ (z' := ((f.natAbs : Nat) : Int)) (by rw [HX.out, left_back Hfn.out]; have := Hf0.out; omega)
    have Zo4 := Lib.hid hzo
    have Hn4 : Hid ((n4 : Int) ≤ 500) := Lib.hid (by rw [← hzo.lenN]; exact Hfl.out)
    clear hzo hzo0
    have Sz4 := Lib.hid (Below.size hb)
    have Bel4 := Lib.hid (belNext Bel3.out hb)
    have Bx4 := Lib.hid (Bx3.out.next hb)
    have RsD4 := Lib.hid (RsD3.out.next hb)
    clear hb Bel3 Bx3 RsD3 hBx0 hBx1 hBx2 hBx3 hRsD0 hRsD1 hRsD2 hRsD3 hRsD4 hRsD5 hRsD6
    obtain ⟨⟨hBx0, hBx1, hBx2⟩, hBx3⟩ := Bx4.out
    obtain ⟨⟨hRsD0, hRsD1, hRsD2, hRsD3, hRsD4, hRsD5⟩, hRsD6⟩ := RsD4.out
    go_wp2_with fail
    refine (specRoot_any f.natAbs S4 A4 n4 c4 _ Zo4.out.zv (by have := Hn4.out; omega)).mono ?_
    rintro e w5 ⟨S5, A5, n5, c5, rfl, hzo, hb⟩
    have Zo5 := Lib.hid hzo
    have Hn5 : Hid ((n5 : Int) ≤ 500) := Lib.hid (by rw [← hzo.lenN]; have h := limbs_len_mono (rt_le f.natAbs); have := Hfl.out; omega)
    clear hzo
    have Sz5 := Lib.hid (Below.size hb)
    have Bel5 := Lib.hid (belNext Bel4.out hb)
    have Bx5 := Lib.hid (Bx4.out.next hb)
    have RsD5 := Lib.hid (RsD4.out.next hb)
    clear hb Bel4 Bx4 RsD4 hBx0 hBx1 hBx2 hBx3 hRsD0 hRsD1 hRsD2 hRsD3 hRsD4 hRsD5 hRsD6
    obtain ⟨⟨hBx0, hBx1, hBx2⟩, hBx3⟩ := Bx5.out
    obtain ⟨⟨hRsD0, hRsD1, hRsD2, hRsD3, hRsD4, hRsD5⟩, hRsD6⟩ := RsD5.out
    go_wp2_with fail
    refine (specMakeD_any ((rt f.natAbs : Nat) : Int) S5 (-k) A5 n5 c5 _ Zo5.out.zv (by have := Hn5.out; omega) (by omega) (by omega)).mono ?_
    rintro e w6 ⟨S9, A9, n9, c9, rfl, hzo, hb⟩
    have Zp6 := Lib.hid hzo
    clear hzo
    have Sz6 := Lib.hid (Below.size hb)
    have Bel6 := Lib.hid (belNext Bel5.out hb)
    have Bx6 := Lib.hid (Bx5.out.next hb)
    have RsD6 := Lib.hid (RsD5.out.next hb)
    clear hb Bel5 Bx5 RsD5 hBx0 hBx1 hBx2 hBx3 hRsD0 hRsD1 hRsD2 hRsD3 hRsD4 hRsD5 hRsD6
    obtain ⟨⟨hBx0, hBx1, hBx2⟩, hBx3⟩ := Bx6.out
    obtain ⟨⟨hRsD0, hRsD1, hRsD2, hRsD3, hRsD4, hRsD5⟩, hRsD6⟩ := RsD6.out
    go_wp2_with fail
    refine bodyPost_ret (v := .agg #[.int .i64 S9, .slice A9 n9 c9, .int .i64 (nx ((rt f.natAbs : Nat) : Int) (-k))]) (by simp [results, Tryd.results111, go_sem, hRsD0, hRsD1, hRsD2]) rfl ⟨S9, A9, n9, c9, by rw [← Hf.out], ?_, ?_⟩
    · rw [← Hf.out]; exact (((Zp6.out.setCell (.inl (by have zz0 := Hlt.out; have zz1 := Sz2.out; have zz2 := Sz3.out; have zz3 := Sz4.out; have zz4 := Sz5.out; have zz5 := Sz6.out; first | omega | (simp; done) | (simp; omega))) _).setCell (.inl (by have zz0 := Hlt.out; have zz1 := Sz2.out; have zz2 := Sz3.out; have zz3 := Sz4.out; have zz4 := Sz5.out; have zz5 := Sz6.out; first | omega | (simp; done) | (simp; omega))) _).setCell (.inl (by have zz0 := Hlt.out; have zz1 := Sz2.out; have zz2 := Sz3.out; have zz3 := Sz4.out; have zz4 := Sz5.out; have zz5 := Sz6.out; first | omega | (simp; done) | (simp; omega))) _).wide (by have zz0 := Hlt.out; have zz1 := Sz2.out; have zz2 := Sz3.out; have zz3 := Sz4.out; have zz4 := Sz5.out; have zz5 := Sz6.out; first | omega | (simp; done) | (simp; omega)) (by have zz0 := Hlt.out; have zz1 := Sz2.out; have zz2 := Sz3.out; have zz3 := Sz4.out; have zz4 := Sz5.out; have zz5 := Sz6.out; first | omega | (simp; done) | (simp; omega)) (by have zz0 := Hlt.out; have zz1 := Sz2.out; have zz2 := Sz3.out; have zz3 := Sz4.out; have zz4 := Sz5.out; have zz5 := Sz6.out; first | omega | (simp; done) | (simp; omega))
    · exact ((Bel6.out.setCell (by have zz0 := Hlt.out; have zz1 := Sz2.out; have zz2 := Sz3.out; have zz3 := Sz4.out; have zz4 := Sz5.out; have zz5 := Sz6.out; first | omega | (simp; done) | (simp; omega)) _).setCell (by have zz0 := Hlt.out; have zz1 := Sz2.out; have zz2 := Sz3.out; have zz3 := Sz4.out; have zz4 := Sz5.out; have zz5 := Sz6.out; first | omega | (simp; done) | (simp; omega)) _).setCell (by have zz0 := Hlt.out; have zz1 := Sz2.out; have zz2 := Sz3.out; have zz3 := Sz4.out; have zz4 := Sz5.out; have zz5 := Sz6.out; first | omega | (simp; done) | (simp; omega)) _

end Go.Proofs.YtnecnbonnidijaaDoor
