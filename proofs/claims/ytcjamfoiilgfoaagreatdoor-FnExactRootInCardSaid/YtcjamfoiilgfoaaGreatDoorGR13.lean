/- Texts of this seat, joined: Rs Qg Qh Qi -/
import Derived.Test.YtcjamfoiilgfoaaGreatDoorGR7
import Derived.Test.YtcjamfoiilgfoaaGreatDoorGR6
import Derived.Test.YtcjamfoiilgfoaaGreatDoorGR11
/- Roots of exact numbers from below, of the program and of the model. -/
namespace Go.Proofs.YtcjamfoiilgfoaaGreatDoor
set_option maxRecDepth 100000
open Go.RowKit
set_option linter.unusedSimpArgs false
set_option linter.unusedVariables false

theorem shl_len4 {z k : Int} {n : Nat} (hn : (limbs z.natAbs).length = n) (hk : k ≤ 8000) : (limbs (shZ z k).natAbs).length ≤ n + 340 := by
  by_cases h : 0 ≤ k
  · rw [shZ_up h, abs_pow_mul]
    have := shl_len hn k.toNat
    omega
  · rw [shZ_down (by omega)]
    have := limbs_len_mono (shr_abs z (-k).toNat)
    omega
end Go.Proofs.YtcjamfoiilgfoaaGreatDoor
/- Roots of exact results, of the program. -/
namespace Go.Proofs.YtcjamfoiilgfoaaGreatDoor
set_option maxRecDepth 100000
open Go.RowKit
set_option linter.unusedSimpArgs false
set_option linter.unusedVariables false
attribute [local go_sem ↓] Go.wp_at_zero Go.wp_at_succ

set_option maxHeartbeats 4000000 in
theorem implRootC_any (z S E : Int) (A : Option Addr) (n c : Nat) (k : Int) (w : World) (hz : ZV w z S A n c) (hp : 0 ≤ z) (hm : (n : Int) ≤ 100) (h1 : -4000 ≤ E) (h2 : E ≤ 4000) (h3 : -200 ≤ k) (h4 : k ≤ 200) (hT : TabZ w) :
    Calls Tryz.prog 101 #[.agg #[.int .i64 S, .slice A n c, .int .i64 E], .int .i64 k] w fun e w' => ∃ Sr Ar nr cr, e = .returned (.agg #[.int .i64 Sr, .slice Ar nr cr, .int .i64 (-k)]) ∧ ZO w' w.heap.size w'.heap.size ((rt (shZ z (E + 2 * k)).natAbs : Nat) : Int) Sr Ar nr cr ∧ Below w.heap.size w w' := by
  have hst := store_int Tryz.prog
  have hst2 := store_slice Tryz.prog
  obtain ⟨w1, hw1, hb1, hb3, hb4⟩ := dbox_res w S A n c E 30 30
  have RsD1 := Lib.hid hb3
  have Hlt : Hid (w.heap.size + 1 < w1.heap.size) := Lib.hid hb3.2
  have Hz := Lib.hid hz
  have Hp := Lib.hid hp
  have Hw := Lib.hid hw1
  have Bx1 := Lib.hid hb1
  have Bel1 := Lib.hid hb4
  have Hm : Hid ((n : Int) ≤ 100) := Lib.hid hm
  clear hz hp hw1 hb1 hb3 hb4
  have HT := Lib.hid hT
  clear hT
  go_enter Tryz.func101, Tryz.ntmps101
  go_wp2_with fail
  rw [← Hw.out]
  obtain ⟨⟨hBx0, hBx1, hBx2⟩, hBx3⟩ := Bx1.out
  obtain ⟨⟨hRsD0, hRsD1, hRsD2, hRsD3, hRsD4, hRsD5⟩, hRsD6⟩ := RsD1.out
  refine (implFloorD_any z S E A n c (2 * k) _ (Hz.out.next Bel1.out) (by omega) (by omega) (by omega) (by omega) (by omega) (HT.out.next Bel1.out)).mono ?_
  rintro e w2 ⟨S2, A2, n2, c2, rfl, hzo, hb⟩
  have Zo2 := Lib.hid hzo
  have Hn2 : Hid ((n2 : Int) ≤ 1000) := Lib.hid (by have h := shl_len4 (k := E + 2 * k) Hz.out.2.1 (by omega); rw [hzo.2.1] at h; have := Hm.out; omega)
  clear hzo
  obtain ⟨v, hv⟩ : ∃ v, v = (shZ z (E + 2 * k)).natAbs := ⟨_, rfl⟩
  have Hv := Lib.hid hv
  clear hv
  have hf1 : ∀ w, (Instr.field 30 (.agg #[.int .i64 S2, .slice A2 n2 c2, .int .i64 (-(2 * k))]) 0).run Tryz.prog w = .ok (.agg #[.int .i64 S2, .slice A2 n2 c2]) w := fun _ => by kernel_rfl
  have hf2 : ∀ w, (Instr.field 28 (.agg #[.int .i64 S2, .slice A2 n2 c2]) 1).run Tryz.prog w = .ok (.slice A2 n2 c2) w := fun _ => by kernel_rfl
  have Sz2 := Lib.hid (Below.size hb)
  have Bel2 := Lib.hid (belNext Bel1.out hb)
  have Bx2 := Lib.hid (Bx1.out.next hb)
  have RsD2 := Lib.hid (RsD1.out.next hb)
  clear hb Bel1 Bx1 RsD1 hBx0 hBx1 hBx2 hBx3 hRsD0 hRsD1 hRsD2 hRsD3 hRsD4 hRsD5 hRsD6
  obtain ⟨⟨hBx0, hBx1, hBx2⟩, hBx3⟩ := Bx2.out
  obtain ⟨⟨hRsD0, hRsD1, hRsD2, hRsD3, hRsD4, hRsD5⟩, hRsD6⟩ := RsD2.out
  go_wp2_with fail
  refine (natRoot_any v A2 n2 c2 _ _ (by rw [Hv.out]; exact Zo2.out.2.2.2.1.rd) Zo2.out.2.2.2.2 (by rw [Hv.out]; exact Zo2.out.2.1) (by have := Hn2.out; omega)).mono ?_
  rintro e w3 ⟨A3, c3, rfl, ho, hcap, hb⟩
  obtain ⟨q, hq⟩ : ∃ q, q = rt v := ⟨_, rfl⟩
  rw [← hq] at ho hcap ⊢
  obtain ⟨nr, hnr⟩ : ∃ nr, nr = (limbs q).length := ⟨_, rfl⟩
  rw [← hnr] at hcap ⊢
  have Oz := Lib.hid ho
  have Hcap := Lib.hid hcap
  have Hq := Lib.hid hq
  have Hnr := Lib.hid hnr
  clear ho hcap hq hnr hf1 hf2
  have Sz3 := Lib.hid (Below.size hb)
  have Bel3 := Lib.hid (belNext Bel2.out hb)
  have Bx3 := Lib.hid (Bx2.out.next hb)
  have RsD3 := Lib.hid (RsD2.out.next hb)
  clear hb Bel2 Bx2 RsD2 hBx0 hBx1 hBx2 hBx3 hRsD0 hRsD1 hRsD2 hRsD3 hRsD4 hRsD5 hRsD6
  obtain ⟨⟨hBx0, hBx1, hBx2⟩, hBx3⟩ := Bx3.out
  obtain ⟨⟨hRsD0, hRsD1, hRsD2, hRsD3, hRsD4, hRsD5⟩, hRsD6⟩ := RsD3.out
  go_wp2_with fail
  refine (signed_any 1 q A3 nr c3 _ _ _ Oz.out Hnr.out.symm (by have h := limbs_len_mono (rt_le v); have h2 := Hnr.out; have h3 := Zo2.out.2.1; rw [← Hv.out] at h3; have := Hn2.out; rw [Hq.out] at h2; omega) Hcap.out).mono ?_
  rintro e w4 ⟨val, rfl, hv, hb⟩
  obtain ⟨S9, A9, n9, c9, rfl, hzo⟩ := Wz.zo (((hv.z (.inl rfl)).wide (Nat.le_refl _) hb.size).cast_ (z' := ((rt (shZ z (E + 2 * k)).natAbs : Nat) : Int)) (by rw [Hq.out, Hv.out, Int.one_mul])) (Nat.le_refl _)
  have Zp4 := Lib.hid hzo
  clear hv hzo
  have Sz4 := Lib.hid (Below.size hb)
  have Bel4 := Lib.hid (belNext Bel3.out hb)
  have Bx4 := Lib.hid (Bx3.out.next hb)
  have RsD4 := Lib.hid (RsD3.out.next hb)
  clear hb Bel3 Bx3 RsD3 hBx0 hBx1 hBx2 hBx3 hRsD0 hRsD1 hRsD2 hRsD3 hRsD4 hRsD5 hRsD6
  obtain ⟨⟨hBx0, hBx1, hBx2⟩, hBx3⟩ := Bx4.out
  obtain ⟨⟨hRsD0, hRsD1, hRsD2, hRsD3, hRsD4, hRsD5⟩, hRsD6⟩ := RsD4.out
  go_wp2_with fail
  refine bodyPost_ret (v := .agg #[.int .i64 S9, .slice A9 n9 c9, .int .i64 (-k)]) (by simp [results, Tryz.results101, go_sem, hRsD0, hRsD1, hRsD2]) rfl ⟨S9, A9, n9, c9, rfl, ?_, ?_⟩
  · exact (((Zp4.out.setCell (.inl (by have zz0 := Hlt.out; have zz1 := Sz2.out; have zz2 := Sz3.out; have zz3 := Sz4.out; first | omega | (simp; done) | (simp; omega))) _).setCell (.inl (by have zz0 := Hlt.out; have zz1 := Sz2.out; have zz2 := Sz3.out; have zz3 := Sz4.out; first | omega | (simp; done) | (simp; omega))) _).setCell (.inl (by have zz0 := Hlt.out; have zz1 := Sz2.out; have zz2 := Sz3.out; have zz3 := Sz4.out; first | omega | (simp; done) | (simp; omega))) _).wide (by have zz0 := Hlt.out; have zz1 := Sz2.out; have zz2 := Sz3.out; have zz3 := Sz4.out; first | omega | (simp; done) | (simp; omega)) (by have zz0 := Hlt.out; have zz1 := Sz2.out; have zz2 := Sz3.out; have zz3 := Sz4.out; first | omega | (simp; done) | (simp; omega)) (by have zz0 := Hlt.out; have zz1 := Sz2.out; have zz2 := Sz3.out; have zz3 := Sz4.out; first | omega | (simp; done) | (simp; omega))
  · exact ((Bel4.out.setCell (by have zz0 := Hlt.out; have zz1 := Sz2.out; have zz2 := Sz3.out; have zz3 := Sz4.out; first | omega | (simp; done) | (simp; omega)) _).setCell (by have zz0 := Hlt.out; have zz1 := Sz2.out; have zz2 := Sz3.out; have zz3 := Sz4.out; first | omega | (simp; done) | (simp; omega)) _).setCell (by have zz0 := Hlt.out; have zz1 := Sz2.out; have zz2 := Sz3.out; have zz3 := Sz4.out; first | omega | (simp; done) | (simp; omega)) _

theorem xbox_res (w : World) (S : Int) (A : Option Addr) (n c : Nat) (E g : Int) (t : TypeId) : ∃ W, W = (w.alloc (.cells #[.int .i64 S, .slice A n c, .int .i64 E, .int .i64 g] t)).alloc (.cells #[.int .i64 0, .slice none 0 0, .int .i64 0, .int .i64 0] t) ∧ XBox W w.heap.size S A n c E g ∧ XRes W (w.heap.size + 1) ∧ Below w.heap.size w W := by
  obtain ⟨u1, h1⟩ : ∃ u1, u1 = w.alloc (.cells #[.int .i64 S, .slice A n c, .int .i64 E, .int .i64 g] t) := ⟨_, rfl⟩
  obtain ⟨u3, h3⟩ : ∃ u3, u3 = u1.alloc (.cells #[.int .i64 0, .slice none 0 0, .int .i64 0, .int .i64 0] t) := ⟨_, rfl⟩
  have b1 : Below w.heap.size w u1 := by rw [h1]; exact belAlloc1 _ _
  have b3 : Below u1.heap.size u1 u3 := by rw [h3]; exact belAlloc1 _ _
  have s1 : u1.heap.size = w.heap.size + 1 := by rw [h1]; simp
  have x1 : XBox u1 w.heap.size S A n c E g := by rw [h1]; exact XBox.new _ _ _ _ _ _ _ _
  have x3 : XRes u3 (w.heap.size + 1) := by rw [← s1, h3]; exact XRes.new _ _
  exact ⟨u3, by rw [h3, h1], x1.next b3, x3, belNext b1 b3⟩
theorem td2 (T : Int) : (0 ≤ T ∧ T.tdiv 2 = T / 2) ∨ (T < 0 ∧ T.tdiv 2 = -((-T) / 2)) := by
  by_cases h : 0 ≤ T
  · exact .inl ⟨h, Int.tdiv_eq_ediv_of_nonneg h⟩
  · refine .inr ⟨by omega, ?_⟩
    have e : T.tdiv 2 = -((-T).tdiv 2) := by rw [Int.neg_tdiv, Int.neg_neg]
    rw [e, Int.tdiv_eq_ediv_of_nonneg (by omega)]
/-- the places of a root, its square's whole part, the test, its value, its exponent -/
def roK (z E : Int) : Int := 25 - ((blen z.natAbs : Int) + E).tdiv 2
noncomputable def roQ (z E : Int) : Int := ((rt (shZ z (E + 2 * roK z E)).natAbs : Nat) : Int)
noncomputable def roT (z E : Int) : Int := (sumZ (roQ z E * roQ z E) (-roK z E + -roK z E) (-z) E).sign
noncomputable def roZ (z E : Int) : Int := if roT z E = 0 then roQ z E else sumZ (roQ z E) (-roK z E) 1 (-roK z E - 1)
noncomputable def roE (z E : Int) : Int := if roT z E = 0 then -roK z E else min (-roK z E) (-roK z E - 1)
theorem rt_len {v n : Nat} (h : (limbs v).length ≤ n) : (limbs (rt v)).length ≤ n := Nat.le_trans (limbs_len_mono (rt_le v)) h

set_option maxHeartbeats 8000000 in
theorem exRoot_any (z S E g : Int) (A : Option Addr) (n c : Nat) (w : World) (hz : ZV w z S A n c) (hp : 0 ≤ z) (hm : (n : Int) ≤ 2) (h1 : -200 ≤ E) (h2 : E ≤ 200) (hT : TabZ w) :
    Calls Tryz.prog 46 #[.agg #[.int .i64 S, .slice A n c, .int .i64 E, .int .i64 g]] w fun e w' => ∃ Sr Ar nr cr, e = .returned (.agg #[.int .i64 Sr, .slice Ar nr cr, .int .i64 (roE z E), .int .i64 g]) ∧ ZO w' w.heap.size w'.heap.size (roZ z E) Sr Ar nr cr ∧ Below w.heap.size w w' := by
  have hst := store_int Tryz.prog
  have hst2 := store_slice Tryz.prog
  obtain ⟨w1, hw1, hb1, hb3, hb4⟩ := xbox_res w S A n c E g 68
  have RsX1 := Lib.hid hb3
  have Hlt : Hid (w.heap.size + 1 < w1.heap.size) := Lib.hid hb3.2
  have Zv1 := Lib.hid (hz.next hb4)
  have Hn : Hid ((limbs z.natAbs).length = n) := Lib.hid hz.2.1
  have Hp := Lib.hid hp
  have Hw := Lib.hid hw1
  have Bx1 := Lib.hid hb1
  have Bel1 := Lib.hid hb4
  have Hm := Lib.hid hm
  have Tb1 := Lib.hid (hT.next hb4)
  clear hT hz hp hw1 hb1 hb3 hb4
  obtain ⟨T, hT⟩ : ∃ T, T = (blen z.natAbs : Int) + E := ⟨_, rfl⟩
  have hTb : -200 ≤ T ∧ T ≤ 248 := by have h := blen_bound Hn.out; have := Hm.out; omega
  obtain ⟨D, hD⟩ : ∃ D, D = T.tdiv 2 := ⟨_, rfl⟩
  have hDb : -100 ≤ D ∧ D ≤ 124 := by rw [hD]; have := td2 T; omega
  obtain ⟨hT1, hT2⟩ := hTb
  obtain ⟨hD1, hD2⟩ := hDb
  have HT := Lib.hid hT
  have HD := Lib.hid hD
  clear hT hD hm
  go_enter Tryz.func46, Tryz.ntmps46
  go_wp2_with fail
  rw [← Hw.out]
  obtain ⟨⟨hBx0, hBx1, hBx2, hBx3⟩, hBx4⟩ := Bx1.out
  obtain ⟨⟨hRsX0, hRsX1, hRsX2, hRsX3, hRsX4, hRsX5, hRsX6, hRsX7⟩, hRsX8⟩ := RsX1.out
  have hwr1 : IntKind.i64.wrap (T.tdiv 2) = D := by rw [← HD.out]; exact IntWalk.i64_in _ (by omega)
  have hwr2 : IntKind.i64.wrap (25 - D) = 25 - D := IntWalk.i64_in _ (by omega)
  have hwr3 : wrap64 (T.tdiv 2) = D := by rw [← HD.out]; exact wrap64_small (by omega) (by omega)
  have htd : T.tdiv 2 = D := HD.out.symm
  go_wp2_with fail
  refine (implTop_any z S E A n c _ Zv1.out (by have := Hm.out; omega) (by omega) (by omega)).mono ?_
  rintro e w2 ⟨rfl, hb⟩
  rw [← HT.out]
  have Sz2 := Lib.hid (Below.size hb)
  have Bel2 := Lib.hid (belNext Bel1.out hb)
  have Bx2 := Lib.hid (Bx1.out.next hb)
  have RsX2 := Lib.hid (RsX1.out.next hb)
  have Zv2 := Lib.hid (Zv1.out.next hb)
  have Tb2 := Lib.hid (Tb1.out.next hb)
  clear hb Bel1 Bx1 RsX1 Zv1 Tb1 hBx0 hBx1 hBx2 hBx3 hBx4 hRsX0 hRsX1 hRsX2 hRsX3 hRsX4 hRsX5 hRsX6 hRsX7 hRsX8
  obtain ⟨⟨hBx0, hBx1, hBx2, hBx3⟩, hBx4⟩ := Bx2.out
  obtain ⟨⟨hRsX0, hRsX1, hRsX2, hRsX3, hRsX4, hRsX5, hRsX6, hRsX7⟩, hRsX8⟩ := RsX2.out
  go_wp2_with fail
  obtain ⟨K, hK⟩ : ∃ K, K = 25 - D := ⟨_, rfl⟩
  have HK : Hid (K = roK z E) := Lib.hid (by rw [hK, HD.out, HT.out]; rfl)
  have hk1 : -99 ≤ K ∧ K ≤ 125 := by omega
  obtain ⟨hk1, hk2⟩ := hk1
  rw [← hK]
  clear hwr1 hwr2 hwr3 htd hK
  refine (implRootC_any z S E A n c K _ Zv2.out Hp.out (by have := Hm.out; omega) (by omega) (by omega) (by omega) (by omega) Tb2.out).mono ?_
  rintro e w3 ⟨Sq, Aq, nq, cq, rfl, hzo, hb⟩
  obtain ⟨Q, hQ⟩ : ∃ Q : Int, Q = ((rt (shZ z (E + 2 * K)).natAbs : Nat) : Int) := ⟨_, rfl⟩
  rw [← hQ] at hzo
  have HQ : Hid (Q = roQ z E) := Lib.hid (by rw [hQ, HK.out]; rfl)
  have Zo3 := Lib.hid hzo
  have Hnq : Hid ((nq : Int) ≤ 342) := Lib.hid (by
    have h := shl_len4 (k := E + 2 * K) Hn.out (by omega)
    have h2 := rt_len h
    have h3 := hzo.2.1
    rw [hQ, Int.natAbs_natCast] at h3
    rw [h3] at h2
    have := Hm.out; omega)
  obtain ⟨K2, hK2⟩ : ∃ K2, K2 = -K := ⟨_, rfl⟩
  rw [← hK2]
  have HK2 := Lib.hid hK2
  have hk3 : -125 ≤ K2 ∧ K2 ≤ 99 := by omega
  obtain ⟨hk3, hk4⟩ := hk3
  clear hzo hQ hK2
  have Sz3 := Lib.hid (Below.size hb)
  have Bel3 := Lib.hid (belNext Bel2.out hb)
  have Bx3 := Lib.hid (Bx2.out.next hb)
  have RsX3 := Lib.hid (RsX2.out.next hb)
  have Zv3 := Lib.hid (Zv2.out.next hb)
  have Tb3 := Lib.hid (Tb2.out.next hb)
  clear hb Bel2 Bx2 RsX2 Zv2 Tb2 hBx0 hBx1 hBx2 hBx3 hBx4 hRsX0 hRsX1 hRsX2 hRsX3 hRsX4 hRsX5 hRsX6 hRsX7 hRsX8
  obtain ⟨⟨hBx0, hBx1, hBx2, hBx3⟩, hBx4⟩ := Bx3.out
  obtain ⟨⟨hRsX0, hRsX1, hRsX2, hRsX3, hRsX4, hRsX5, hRsX6, hRsX7⟩, hRsX8⟩ := RsX3.out
  go_upto_region 3 with fail
  obtain ⟨w4, hw4⟩ : ∃ w4, w4 = w3.alloc (.cells #[.int .i64 Sq, .slice Aq nq cq, .int .i64 K2] 30) := ⟨_, rfl⟩
  rw [← hw4]
  obtain ⟨f, hf⟩ : ∃ f, f = w3.heap.size := ⟨_, rfl⟩
  have hb : Below w3.heap.size w3 w4 := by rw [hw4]; exact belAlloc1 _ _
  have Ba4 : Hid (DBox w4 f Sq Aq nq cq K2) := Lib.hid (by rw [hw4, hf]; exact DBox.new _ _ _ _ _ _ _)
  have Fr4 : Hid (Fr3 w4 f) := Lib.hid (by rw [hw4, hf]; exact Fr3.new _ _ _ _ _ _ _)
  have Hf : Hid (w3.heap.size ≤ f) := Lib.hid (by omega)
  have Hf2 : Hid (f < w4.heap.size) := Lib.hid Ba4.out.2
  rw [← hf]
  clear hw4 hf
  have Sz4 := Lib.hid (Below.size hb)
  have Bel4 := Lib.hid (belNext Bel3.out hb)
  have Bx4 := Lib.hid (Bx3.out.next hb)
  have RsX4 := Lib.hid (RsX3.out.next hb)
  have Zv4 := Lib.hid (Zv3.out.next hb)
  have Tb4 := Lib.hid (Tb3.out.next hb)
  have Zo4 := Lib.hid (Zo3.out.next hb)
  clear hb Bel3 Bx3 RsX3 Zv3 Tb3 Zo3 hBx0 hBx1 hBx2 hBx3 hBx4 hRsX0 hRsX1 hRsX2 hRsX3 hRsX4 hRsX5 hRsX6 hRsX7 hRsX8
  obtain ⟨⟨hBx0, hBx1, hBx2, hBx3⟩, hBx4⟩ := Bx4.out
  obtain ⟨⟨hBa0, hBa1, hBa2⟩, hBa3⟩ := Ba4.out
  obtain ⟨⟨hRsX0, hRsX1, hRsX2, hRsX3, hRsX4, hRsX5, hRsX6, hRsX7⟩, hRsX8⟩ := RsX4.out
  refine wp_region_held_drew (S := fun w' => (w'.cell? ⟨f, 0, none⟩ = some (.int .i64 Sq) ∧ w'.cell? ⟨f, 1, none⟩ = some (.slice Aq nq cq) ∧ w'.cell? ⟨f, 2, none⟩ = some (.int .i64 K2)) ∧ (w'.cell? ⟨w.heap.size, 0, none⟩ = some (.int .i64 S) ∧ w'.cell? ⟨w.heap.size, 1, none⟩ = some (.slice A n c) ∧ w'.cell? ⟨w.heap.size, 2, none⟩ = some (.int .i64 E) ∧ w'.cell? ⟨w.heap.size, 3, none⟩ = some (.int .i64 g))) (by kernel_rfl) ⟨Ba4.out.1, Bx4.out.1⟩ (fun hHeld => ?_)
  clear hBx0 hBx1 hBx2 hBx3 hBx4 hBa0 hBa1 hBa2 hBa3 hRsX0 hRsX1 hRsX2 hRsX3 hRsX4 hRsX5 hRsX6 hRsX7 hRsX8
  refine wpAnyH_take (i := 0) (v := ?_) rfl (by kernel_rfl) (by kernel_rfl) (by kernel_rfl) (fun _ _ _ h => h) (Or.inl ⟨by rfl, ?_⟩) (by assumption) ?_
  rotate_left
  · (intro w hSw; (try dsimp only at hSw); go_simp; (try with_reducible rfl))
  try simp only [Act.put, List.setIfInBounds_toArray, List.set_cons_zero, List.set_cons_succ, List.getElem_toArray, List.getElem_cons_succ, List.getElem_cons_zero]
  refine wpAnyH_take (i := 1) (v := ?_) rfl (by kernel_rfl) (by kernel_rfl) (by kernel_rfl) (fun _ _ _ h => h) (Or.inl ⟨by rfl, ?_⟩) (by assumption) ?_
  rotate_left
  · (intro w hSw; (try dsimp only at hSw); go_simp; (try with_reducible rfl))
  try simp only [Act.put, List.setIfInBounds_toArray, List.set_cons_zero, List.set_cons_succ, List.getElem_toArray, List.getElem_cons_succ, List.getElem_cons_zero]
  refine wpAnyH_take (i := 3) (v := ?_) rfl (by kernel_rfl) (by kernel_rfl) (by kernel_rfl) (fun _ _ _ h => h) (Or.inl ⟨by rfl, ?_⟩) (by assumption) ?_
  rotate_left
  · (intro w hSw; (try dsimp only at hSw); go_simp; (try with_reducible rfl))
  try simp only [Act.put, List.setIfInBounds_toArray, List.set_cons_zero, List.set_cons_succ, List.getElem_toArray, List.getElem_cons_succ, List.getElem_cons_zero]
  refine wpAnyH_take (i := 4) (v := ?_) rfl (by kernel_rfl) (by kernel_rfl) (by kernel_rfl) (fun _ _ _ h => h) (Or.inl ⟨by rfl, ?_⟩) (by assumption) ?_
  rotate_left
  · (intro w hSw; (try dsimp only at hSw); go_simp; (try with_reducible rfl))
  try simp only [Act.put, List.setIfInBounds_toArray, List.set_cons_zero, List.set_cons_succ, List.getElem_toArray, List.getElem_cons_succ, List.getElem_cons_zero]
  refine wpAnyH_ready (rs := [2]) (by kernel_rfl) (by simp) ?_
  refine AllReadyH.cons rfl (fun K hK => ?_) AllReadyH.nil
  go_simp
  refine (implMulD_any Q Sq K2 Q Sq K2 Aq Aq nq cq nq cq w4.drew Zo4.out.zv Zo4.out.zv (by have := Hnq.out; omega) (by have := Hnq.out; omega) (by omega) (by omega) (by omega) (by omega)).mono ?_
  rintro e w5 ⟨Sm, Am, nm, cm, rfl, hzo, hb0⟩
  have hb : Below w4.heap.size w4 w5 := belDrew hb0
  have Zm5 := Lib.hid hzo
  have Hnm : Hid ((nm : Int) ≤ 690) := Lib.hid (by have h := mulZ_len (z := Q) (z' := Q) Zo4.out.2.1 Zo4.out.2.1; rw [hzo.2.1] at h; have := Hnq.out; omega)
  clear hzo
  refine hK.out _ _ ⟨(Ba4.out.next hb).1, (Bx4.out.next hb).1⟩ (fun hHeld => ?_)
  clear hK K hb0
  have Sz5 := Lib.hid (Below.size hb)
  have Bel5 := Lib.hid (belNext Bel4.out hb)
  have Bx5 := Lib.hid (Bx4.out.next hb)
  have RsX5 := Lib.hid (RsX4.out.next hb)
  have Zv5 := Lib.hid (Zv4.out.next hb)
  have Tb5 := Lib.hid (Tb4.out.next hb)
  have Zo5 := Lib.hid (Zo4.out.next hb)
  have Ba5 := Lib.hid (Ba4.out.next hb)
  have Fr5 := Lib.hid (Fr4.out.next hb)
  clear hb Bel4 Bx4 RsX4 Zv4 Tb4 Zo4 Ba4 Fr4
  try simp only [Act.put, List.setIfInBounds_toArray, List.set_cons_zero, List.set_cons_succ, List.getElem_toArray, List.getElem_cons_succ, List.getElem_cons_zero]
  refine wpAnyH_ready (rs := [5]) (by kernel_rfl) (by simp) ?_
  refine AllReadyH.cons rfl (fun K hK => ?_) AllReadyH.nil
  go_simp
  refine (implCmpD_any (Q * Q) Sm (K2 + K2) z S E Am A nm cm n c w5 Zm5.out.zv Zv5.out (by have := Hnm.out; omega) (by have := Hm.out; omega) (by omega) (by omega) (by omega) (by omega) Tb5.out).mono ?_
  rintro e w6 ⟨rfl, hb0⟩
  have hb : Below w5.heap.size w5 w6 := hb0
  obtain ⟨tt, htt⟩ : ∃ tt, tt = (sumZ (Q * Q) (K2 + K2) (-z) E).sign := ⟨_, rfl⟩
  rw [← htt]
  have Htt : Hid (tt = roT z E) := Lib.hid (by rw [htt, HQ.out, HK2.out, HK.out]; rfl)
  clear htt
  refine hK.out _ _ ⟨(Ba5.out.next hb).1, (Bx5.out.next hb).1⟩ (fun hHeld => ?_)
  clear hK K hb0
  have Sz6 := Lib.hid (Below.size hb)
  have Bel6 := Lib.hid (belNext Bel5.out hb)
  have Bx6 := Lib.hid (Bx5.out.next hb)
  have RsX6 := Lib.hid (RsX5.out.next hb)
  have Zv6 := Lib.hid (Zv5.out.next hb)
  have Tb6 := Lib.hid (Tb5.out.next hb)
  have Zo6 := Lib.hid (Zo5.out.next hb)
  have Ba6 := Lib.hid (Ba5.out.next hb)
  have Fr6 := Lib.hid (Fr5.out.next hb)
  have Zm6 := Lib.hid (Zm5.out.next hb)
  clear hb Bel5 Bx5 RsX5 Zv5 Tb5 Zo5 Ba5 Fr5 Zm5
  try simp only [Act.put, List.setIfInBounds_toArray, List.set_cons_zero, List.set_cons_succ, List.getElem_toArray, List.getElem_cons_succ, List.getElem_cons_zero]
  refine wpAnyH_ready (rs := [6]) (by kernel_rfl) (by simp) ?_
  refine AllReadyH.cons rfl (fun K hK => ?_) AllReadyH.nil
  go_simp
  refine hK.out _ _ hHeld (fun hHeld => ?_)
  clear hK K
  try simp only [Act.put, List.setIfInBounds_toArray, List.set_cons_zero, List.set_cons_succ, List.getElem_toArray, List.getElem_cons_succ, List.getElem_cons_zero]
  clear hHeld
  refine wpAnyH_done (by kernel_rfl) ?_ _
  by_cases htt0 : tt = 0
  · have hd : (tt != 0) = false := by rw [htt0]; rfl
    have Hres : Hid (roZ z E = Q ∧ roE z E = K2) := Lib.hid (by unfold roZ roE; rw [← Htt.out, if_pos htt0, if_pos htt0]; exact ⟨HQ.out.symm, by rw [HK2.out, HK.out]⟩)
    clear htt0
    obtain ⟨⟨hBx0, hBx1, hBx2, hBx3⟩, hBx4⟩ := Bx6.out
    obtain ⟨⟨hBa0, hBa1, hBa2⟩, hBa3⟩ := Ba6.out
    obtain ⟨⟨hRsX0, hRsX1, hRsX2, hRsX3, hRsX4, hRsX5, hRsX6, hRsX7⟩, hRsX8⟩ := RsX6.out
    go_wp2_with fail
    refine bodyPost_ret (v := .agg #[.int .i64 Sq, .slice Aq nq cq, .int .i64 K2, .int .i64 g]) (by simp [results, Tryz.results46, go_sem, hRsX0, hRsX1, hRsX2, hRsX3]) rfl ⟨Sq, Aq, nq, cq, by rw [Hres.out.2], ?_, ?_⟩
    · exact (((((Zo6.out.cast_ Hres.out.1.symm).setCell (.inl (by have zz0 := Hlt.out; have zz1 := Sz2.out; have zz2 := Sz3.out; have zz3 := Sz4.out; have zz4 := Hf.out; have zz5 := Hf2.out; have zz6 := Sz5.out; have zz7 := Sz6.out; first | omega | (simp; done) | (simp; omega))) _).setCell (.inl (by have zz0 := Hlt.out; have zz1 := Sz2.out; have zz2 := Sz3.out; have zz3 := Sz4.out; have zz4 := Hf.out; have zz5 := Hf2.out; have zz6 := Sz5.out; have zz7 := Sz6.out; first | omega | (simp; done) | (simp; omega))) _).setCell (.inl (by have zz0 := Hlt.out; have zz1 := Sz2.out; have zz2 := Sz3.out; have zz3 := Sz4.out; have zz4 := Hf.out; have zz5 := Hf2.out; have zz6 := Sz5.out; have zz7 := Sz6.out; first | omega | (simp; done) | (simp; omega))) _).setCell (.inl (by have zz0 := Hlt.out; have zz1 := Sz2.out; have zz2 := Sz3.out; have zz3 := Sz4.out; have zz4 := Hf.out; have zz5 := Hf2.out; have zz6 := Sz5.out; have zz7 := Sz6.out; first | omega | (simp; done) | (simp; omega))) _).wide (by have zz0 := Hlt.out; have zz1 := Sz2.out; have zz2 := Sz3.out; have zz3 := Sz4.out; have zz4 := Hf.out; have zz5 := Hf2.out; have zz6 := Sz5.out; have zz7 := Sz6.out; first | omega | (simp; done) | (simp; omega)) (by have zz0 := Hlt.out; have zz1 := Sz2.out; have zz2 := Sz3.out; have zz3 := Sz4.out; have zz4 := Hf.out; have zz5 := Hf2.out; have zz6 := Sz5.out; have zz7 := Sz6.out; first | omega | (simp; done) | (simp; omega)) (Nat.le_refl _)
    · repeat (first | exact Bel6.out | refine Below.drew ?_ | refine Below.setCell ?_ (by have zz0 := Hlt.out; have zz1 := Sz2.out; have zz2 := Sz3.out; have zz3 := Sz4.out; have zz4 := Hf.out; have zz5 := Hf2.out; have zz6 := Sz5.out; have zz7 := Sz6.out; first | omega | (simp; done) | (simp; omega)) _)
  · have hd : (tt != 0) = true := by simp [htt0]
    clear htt0
    have Hres : Hid (roZ z E = sumZ Q K2 1 (-K - 1) ∧ roE z E = min K2 (-K - 1)) := Lib.hid (by unfold roZ roE; rw [← Htt.out, if_neg (by simpa using hd), if_neg (by simpa using hd), HQ.out, HK2.out, HK.out]; exact ⟨rfl, rfl⟩)
    obtain ⟨⟨hBx0, hBx1, hBx2, hBx3⟩, hBx4⟩ := Bx6.out
    obtain ⟨⟨hBa0, hBa1, hBa2⟩, hBa3⟩ := Ba6.out
    obtain ⟨⟨hRsX0, hRsX1, hRsX2, hRsX3, hRsX4, hRsX5, hRsX6, hRsX7⟩, hRsX8⟩ := RsX6.out
    go_wp2_with fail
    refine (implBehind_any Q Sq K2 Aq nq cq K _ Zo6.out.zv (by have := Hnq.out; omega) (by omega) (by omega) (by omega) (by omega) Tb6.out).mono ?_
    rintro e w7 ⟨S9, A9, n9, c9, rfl, hzo, hb⟩
    obtain ⟨E9, hE9⟩ : ∃ E9, E9 = min K2 (-K - 1) := ⟨_, rfl⟩
    rw [← hE9]
    have HE9 := Lib.hid hE9
    have Zp7 := Lib.hid hzo
    clear hzo hE9 hd
    have Sz7 := Lib.hid (Below.size hb)
    have Bel7 := Lib.hid (belNext Bel6.out hb)
    have Bx7 := Lib.hid (Bx6.out.next hb)
    have RsX7 := Lib.hid (RsX6.out.next hb)
    have Zv7 := Lib.hid (Zv6.out.next hb)
    have Tb7 := Lib.hid (Tb6.out.next hb)
    have Zo7 := Lib.hid (Zo6.out.next hb)
    have Ba7 := Lib.hid (Ba6.out.next hb)
    have Fr7 := Lib.hid (Fr6.out.next hb)
    clear hb Bel6 Bx6 RsX6 Zv6 Tb6 Zo6 Ba6 Fr6 hBx0 hBx1 hBx2 hBx3 hBx4 hBa0 hBa1 hBa2 hBa3 hRsX0 hRsX1 hRsX2 hRsX3 hRsX4 hRsX5 hRsX6 hRsX7 hRsX8
    obtain ⟨⟨hBx0, hBx1, hBx2, hBx3⟩, hBx4⟩ := Bx7.out
    obtain ⟨⟨hBa0, hBa1, hBa2⟩, hBa3⟩ := Ba7.out
    obtain ⟨⟨hRsX0, hRsX1, hRsX2, hRsX3, hRsX4, hRsX5, hRsX6, hRsX7⟩, hRsX8⟩ := RsX7.out
    obtain ⟨⟨fr1, fr2, fr3⟩, fr4⟩ := Fr7.out
    go_upto_region 5 with fail
    obtain ⟨w8, hw⟩ : ∃ w8, w8 = ((w7.setCell ⟨f, 0, none⟩ (.int .i64 S9)).setCell ⟨f, 1, none⟩ (.slice A9 n9 c9)).setCell ⟨f, 2, none⟩ (.int .i64 E9) := ⟨_, rfl⟩
    rw [← hw]
    have hst3 : w8 = st3 w7 f S9 A9 n9 c9 E9 := hw
    clear hBx0 hBx1 hBx2 hBx3 hBx4 hBa0 hBa1 hBa2 hBa3 hRsX0 hRsX1 hRsX2 hRsX3 hRsX4 hRsX5 hRsX6 hRsX7 hRsX8
    have Ba8 : Hid (DBox w8 f S9 A9 n9 c9 E9) := Lib.hid (by rw [hst3]; obtain ⟨⟨b0, b1, b2⟩, b3⟩ := Ba7.out; exact DBox.made b3 ⟨_, b0⟩ ⟨_, b1⟩ ⟨_, b2⟩)
    have Zp8 := Lib.hid (show ZO w8 _ _ _ _ _ _ _ by rw [hst3]; exact Zp7.out.st3_ (.inl (by have zz0 := Hlt.out; have zz1 := Sz2.out; have zz2 := Sz3.out; have zz3 := Sz4.out; have zz4 := Hf.out; have zz5 := Hf2.out; have zz6 := Sz5.out; have zz7 := Sz6.out; have zz8 := Sz7.out; first | omega | (simp; done) | (simp; omega))))
    have Sz8 : Hid (w7.heap.size ≤ w8.heap.size) := Lib.hid (by rw [hst3, st3_size]; exact Nat.le_refl _)
    have Bel8 : Hid (Below w.heap.size w w8) := Lib.hid (by rw [hst3]; exact belSt3 Bel7.out (by have zz0 := Hlt.out; have zz1 := Sz2.out; have zz2 := Sz3.out; have zz3 := Sz4.out; have zz4 := Hf.out; have zz5 := Hf2.out; have zz6 := Sz5.out; have zz7 := Sz6.out; have zz8 := Sz7.out; first | omega | (simp; done) | (simp; omega)))
    
    have Bx8 : Hid (XBox w8 w.heap.size S A n c E g) := Lib.hid (by rw [hw]; exact ((Bx7.out.keep (by have zz0 := Hlt.out; have zz1 := Sz2.out; have zz2 := Sz3.out; have zz3 := Sz4.out; have zz4 := Hf.out; have zz5 := Hf2.out; have zz6 := Sz5.out; have zz7 := Sz6.out; have zz8 := Sz7.out; first | omega | (simp; done) | (simp; omega)) _).keep (by have zz0 := Hlt.out; have zz1 := Sz2.out; have zz2 := Sz3.out; have zz3 := Sz4.out; have zz4 := Hf.out; have zz5 := Hf2.out; have zz6 := Sz5.out; have zz7 := Sz6.out; have zz8 := Sz7.out; first | omega | (simp; done) | (simp; omega)) _).keep (by have zz0 := Hlt.out; have zz1 := Sz2.out; have zz2 := Sz3.out; have zz3 := Sz4.out; have zz4 := Hf.out; have zz5 := Hf2.out; have zz6 := Sz5.out; have zz7 := Sz6.out; have zz8 := Sz7.out; first | omega | (simp; done) | (simp; omega)) _)
    have RsX8 : Hid (XRes w8 (w.heap.size + 1)) := Lib.hid (by rw [hw]; exact ((RsX7.out.keep (by have zz0 := Hlt.out; have zz1 := Sz2.out; have zz2 := Sz3.out; have zz3 := Sz4.out; have zz4 := Hf.out; have zz5 := Hf2.out; have zz6 := Sz5.out; have zz7 := Sz6.out; have zz8 := Sz7.out; first | omega | (simp; done) | (simp; omega)) _).keep (by have zz0 := Hlt.out; have zz1 := Sz2.out; have zz2 := Sz3.out; have zz3 := Sz4.out; have zz4 := Hf.out; have zz5 := Hf2.out; have zz6 := Sz5.out; have zz7 := Sz6.out; have zz8 := Sz7.out; first | omega | (simp; done) | (simp; omega)) _).keep (by have zz0 := Hlt.out; have zz1 := Sz2.out; have zz2 := Sz3.out; have zz3 := Sz4.out; have zz4 := Hf.out; have zz5 := Hf2.out; have zz6 := Sz5.out; have zz7 := Sz6.out; have zz8 := Sz7.out; first | omega | (simp; done) | (simp; omega)) _)
    clear hw hst3 fr1 fr2 fr3 fr4 Ba7 Zp7 Bel7 Bx7 RsX7
    obtain ⟨⟨hBx0, hBx1, hBx2, hBx3⟩, hBx4⟩ := Bx8.out
    obtain ⟨⟨hBa0, hBa1, hBa2⟩, hBa3⟩ := Ba8.out
    obtain ⟨⟨hRsX0, hRsX1, hRsX2, hRsX3, hRsX4, hRsX5, hRsX6, hRsX7⟩, hRsX8⟩ := RsX8.out
    go_wp2_with fail
    refine bodyPost_ret (v := .agg #[.int .i64 S9, .slice A9 n9 c9, .int .i64 E9, .int .i64 g]) (by simp [results, Tryz.results46, go_sem, hRsX0, hRsX1, hRsX2, hRsX3]) rfl ⟨S9, A9, n9, c9, by rw [Hres.out.2, HE9.out], ?_, ?_⟩
    · exact (((((Zp8.out.cast_ Hres.out.1.symm).setCell (.inl (by have zz0 := Hlt.out; have zz1 := Sz2.out; have zz2 := Sz3.out; have zz3 := Sz4.out; have zz4 := Hf.out; have zz5 := Hf2.out; have zz6 := Sz5.out; have zz7 := Sz6.out; have zz8 := Sz7.out; have zz9 := Sz8.out; first | omega | (simp; done) | (simp; omega))) _).setCell (.inl (by have zz0 := Hlt.out; have zz1 := Sz2.out; have zz2 := Sz3.out; have zz3 := Sz4.out; have zz4 := Hf.out; have zz5 := Hf2.out; have zz6 := Sz5.out; have zz7 := Sz6.out; have zz8 := Sz7.out; have zz9 := Sz8.out; first | omega | (simp; done) | (simp; omega))) _).setCell (.inl (by have zz0 := Hlt.out; have zz1 := Sz2.out; have zz2 := Sz3.out; have zz3 := Sz4.out; have zz4 := Hf.out; have zz5 := Hf2.out; have zz6 := Sz5.out; have zz7 := Sz6.out; have zz8 := Sz7.out; have zz9 := Sz8.out; first | omega | (simp; done) | (simp; omega))) _).setCell (.inl (by have zz0 := Hlt.out; have zz1 := Sz2.out; have zz2 := Sz3.out; have zz3 := Sz4.out; have zz4 := Hf.out; have zz5 := Hf2.out; have zz6 := Sz5.out; have zz7 := Sz6.out; have zz8 := Sz7.out; have zz9 := Sz8.out; first | omega | (simp; done) | (simp; omega))) _).wide (by have zz0 := Hlt.out; have zz1 := Sz2.out; have zz2 := Sz3.out; have zz3 := Sz4.out; have zz4 := Hf.out; have zz5 := Hf2.out; have zz6 := Sz5.out; have zz7 := Sz6.out; have zz8 := Sz7.out; have zz9 := Sz8.out; first | omega | (simp; done) | (simp; omega)) (by have zz0 := Hlt.out; have zz1 := Sz2.out; have zz2 := Sz3.out; have zz3 := Sz4.out; have zz4 := Hf.out; have zz5 := Hf2.out; have zz6 := Sz5.out; have zz7 := Sz6.out; have zz8 := Sz7.out; have zz9 := Sz8.out; first | omega | (simp; done) | (simp; omega)) (Nat.le_refl _)
    · repeat (first | exact Bel8.out | refine Below.drew ?_ | refine Below.setCell ?_ (by have zz0 := Hlt.out; have zz1 := Sz2.out; have zz2 := Sz3.out; have zz3 := Sz4.out; have zz4 := Hf.out; have zz5 := Hf2.out; have zz6 := Sz5.out; have zz7 := Sz6.out; have zz8 := Sz7.out; have zz9 := Sz8.out; first | omega | (simp; done) | (simp; omega)) _)

end Go.Proofs.YtcjamfoiilgfoaaGreatDoor
/- RootIn, of the model and of the program. -/
namespace Go.Proofs.YtcjamfoiilgfoaaGreatDoor
set_option maxRecDepth 100000
open Go.RowKit
set_option linter.unusedSimpArgs false
set_option linter.unusedVariables false
attribute [local go_sem ↓] Go.wp_at_zero Go.wp_at_succ

theorem specMulZ_any (z z' S S' : Int) (A A' : Option Addr) (n n' c c' : Nat) (w : World) (hz : ZV w z S A n c) (hz' : ZV w z' S' A' n' c') (hm : (n : Int) ≤ 1000) (hm' : (n' : Int) ≤ 1000) :
    Calls Tryz.prog 100 #[.agg #[.int .i64 S, .slice A n c], .agg #[.int .i64 S', .slice A' n' c']] w fun e w' => ∃ Sr Ar nr cr, e = .returned (.agg #[.int .i64 Sr, .slice Ar nr cr]) ∧ ZO w' w.heap.size w'.heap.size (z * z') Sr Ar nr cr ∧ Below w.heap.size w w' := by
  have h := specMul_any S S' z.natAbs z'.natAbs A A' n n' c c' w hz.sg hz'.sg hz.rd hz'.rd hz.len hz'.len hm hm' hz.cap hz'.cap
  rw [hz.val, hz'.val] at h
  refine h.mono ?_
  rintro e w' ⟨val, rfl, hv, hb⟩
  obtain ⟨S9, A9, n9, c9, rfl, hzo⟩ := Wz.zo hv (Nat.le_refl _)
  exact ⟨S9, A9, n9, c9, rfl, hzo, hb⟩
/-- what the program's root is rounded to -/
theorem ro_test {z E : Int} {m : Nat} (h : 0 < z) (hs : E + 2 * roK z E = m) : roQ z E = (rt (2 ^ m * z.natAbs) : Int) ∧ (roT z E = 0 ↔ rt (2 ^ m * z.natAbs) * rt (2 ^ m * z.natAbs) = 2 ^ m * z.natAbs) := by
  have hq : roQ z E = (rt (2 ^ m * z.natAbs) : Int) := by
    unfold roQ
    rw [hs, shZ_up (by omega), Int.toNat_natCast, abs_pow_mul]
  refine ⟨hq, ?_⟩
  unfold roT
  rw [Int.sign_eq_zero_iff_zero, sumZ_le (by omega), show E - (-roK z E + -roK z E) = m by omega, Int.toNat_natCast, hq]
  have hX : ((2 ^ m * z.natAbs : Nat) : Int) = (2 : Int) ^ m * z := by
    rw [Int.natCast_mul, Int.natCast_pow, Int.natAbs_of_nonneg (by omega)]; rfl
  rw [Int.mul_neg, ← hX]
  generalize rt (2 ^ m * z.natAbs) = R
  generalize 2 ^ m * z.natAbs = X
  rw [← Int.natCast_mul]
  omega
theorem rk_ge (X : Nat) : 2 * rt X ≤ rk X ∧ rk X ≤ 2 * rt X + 1 := by unfold rk; split <;> omega
theorem rt_pos {X : Nat} (h : 0 < X) : 0 < rt X := by
  rcases Nat.eq_zero_or_pos (rt X) with e | e
  · have := (rt_spec X).2
    rw [e] at this; omega
  · exact e
theorem ro_round {z E : Int} {m : Nat} (mode : Int) (h : 0 < z) (hs : E + 2 * roK z E = m) : roZ z E ≠ 0 ∧ rdF (roZ z E) (roE z E) mode = rdF (rk (2 ^ m * z.natAbs) : Int) (-roK z E - 1) mode ∧ rdL (roZ z E) (roE z E) mode = rdL (rk (2 ^ m * z.natAbs) : Int) (-roK z E - 1) mode := by
  obtain ⟨hq, ht⟩ := ro_test h hs
  have hX0 : 0 < 2 ^ m * z.natAbs := Nat.mul_pos (Nat.two_pow_pos _) (by omega)
  have hp := rt_pos hX0
  unfold roZ roE
  rw [hq]
  generalize 2 ^ m * z.natAbs = X at *
  by_cases h0 : rt X * rt X = X
  · rw [if_pos (ht.2 h0), if_pos (ht.2 h0)]
    have hv : (rk X : Int) = (2 : Int) ^ 1 * (rt X : Int) := by unfold rk; rw [if_pos h0, Nat.add_zero, Int.natCast_mul]; rfl
    have hr := rd_shl 1 (rt X : Int) (-roK z E - 1) mode
    rw [show -roK z E - 1 + ((1 : Nat) : Int) = -roK z E by omega] at hr
    rw [hv]
    exact ⟨by omega, hr.1.symm, hr.2.symm⟩
  · rw [if_neg (fun e => h0 (ht.1 e)), if_neg (fun e => h0 (ht.1 e))]
    have hv : sumZ (rt X : Int) (-roK z E) 1 (-roK z E - 1) = (rk X : Int) := by
      rw [sumZ_ge (by omega), show -roK z E - (-roK z E - 1) = 1 by omega, show (2 : Int) ^ (1 : Int).toNat = 2 from rfl]
      unfold rk
      rw [if_neg h0]
      omega
    rw [hv, show min (-roK z E) (-roK z E - 1) = -roK z E - 1 by omega]
    have := (rk_ge X).1
    exact ⟨by omega, rfl, rfl⟩
theorem ro_big {z E : Int} {m : Nat} (h : 0 < z) (hs : E + 2 * roK z E = m) : 16777216 ≤ rt (2 ^ m * z.natAbs) := by
  obtain ⟨h1, h2, _⟩ := blen_bounds (v := z.natAbs) (by omega)
  have h3 := td2 ((blen z.natAbs : Int) + E)
  unfold roK at hs
  have h4 : 48 ≤ m + (blen z.natAbs - 1) := by omega
  have h5 : 2 ^ 48 ≤ 2 ^ m * z.natAbs := Nat.le_trans (Nat.pow_le_pow_right (by omega) h4) (by rw [Nat.pow_add]; exact Nat.mul_le_mul_left _ h2)
  have h6 := (rt_spec (2 ^ m * z.natAbs)).2
  have h7 : 16777216 < rt (2 ^ m * z.natAbs) + 1 := sq_lt (Nat.lt_of_le_of_lt (by rw [show 16777216 * 16777216 = 2 ^ 48 by decide +kernel]; exact h5) h6)
  omega
theorem ro_model {z E X : Int} {m k j : Nat} (mode : Int) (h : 0 < z) (hs : E + 2 * roK z E = m) (hk : k = m + 2 * j) (hX : 2 * X = E - k) : rdF (rk (2 ^ k * z.natAbs) : Int) (X - 1) mode = rdF (rk (2 ^ m * z.natAbs) : Int) (-roK z E - 1) mode ∧ rdL (rk (2 ^ k * z.natAbs) : Int) (X - 1) mode = rdL (rk (2 ^ m * z.natAbs) : Int) (-roK z E - 1) mode := by
  have hbig := ro_big h hs
  have hN : 2 ^ k * z.natAbs = 2 ^ m * z.natAbs * 2 ^ (2 * j) := by rw [hk, Nat.pow_add, Nat.mul_right_comm]
  have hq := rk_mk (2 ^ m * z.natAbs) j
  rw [← hN] at hq
  have hhalf := congrArg (· / 2) hq
  simp only [mk_half] at hhalf
  have hh2 : rk (2 ^ m * z.natAbs) / 2 = rt (2 ^ m * z.natAbs) := by unfold rk; split <;> omega
  rw [hh2] at hhalf
  have hne : 0 < rk (2 ^ k * z.natAbs) := by
    rcases Nat.eq_zero_or_pos (rk (2 ^ k * z.natAbs)) with e | e
    · rw [e] at hhalf; simp at hhalf; omega
    · exact e
  have hz := rd_mk (z := (rk (2 ^ k * z.natAbs) : Int)) (i := j + 1) (by rw [Int.natAbs_natCast, hhalf]; exact hbig) (X - 1) mode
  have hmz : mkZ (rk (2 ^ k * z.natAbs) : Int) (j + 1) = (rk (2 ^ m * z.natAbs) : Int) := by
    unfold mkZ
    rw [Int.natAbs_natCast, hq, Int.sign_eq_one_of_pos (by omega), Int.one_mul]
  rw [hmz, show X - 1 + ((j + 1 : Nat) : Int) - 1 = -roK z E - 1 by omega] at hz
  exact ⟨hz.1.symm, hz.2.symm⟩
theorem ro_zero (E : Int) : roZ 0 E = 0 := by
  have hq : roQ 0 E = 0 := by
    unfold roQ shZ
    split <;> simp [rt_zero]
  have hT : roT 0 E = 0 := by unfold roT; rw [hq]; unfold sumZ; simp
  unfold roZ
  rw [hT, hq]
  rfl
theorem mk_rk {v : Nat} (h : 0 < v) : mkV (rt v : Int) (decide (¬ rt v * rt v = v)) = (rk v : Int) := by
  have hp := rt_pos h
  unfold mkV rk
  by_cases h0 : rt v * rt v = v
  · rw [if_pos h0, if_neg (by simp [h0])]; omega
  · rw [if_neg h0, if_pos (by simp [h0]), Int.sign_eq_one_of_pos (by omega)]; omega
theorem left_nat {z : Int} {k : Nat} (h : 0 < z) : (2 : Int) ^ k * z = ((2 ^ k * z.natAbs : Nat) : Int) := by
  rw [Int.natCast_mul, Int.natCast_pow, Int.natAbs_of_nonneg (by omega)]; rfl
/-- a root of a float -/
noncomputable def rqF (x : Nat) (mode : Int) : Nat := xF (roZ (fz x) (fe x)) (roE (fz x) (fe x)) (sgn x) mode
noncomputable def rqL (x : Nat) (mode : Int) : Int := xL (roZ (fz x) (fe x)) (roE (fz x) (fe x)) mode
theorem ro_places {x : Nat} (hf : fin32 x = true) (h : 0 < fz x) : ∃ m : Nat, fe x + 2 * roK (fz x) (fe x) = m ∧ m ≤ 51 := by
  have hb := blen_small hf
  have h3 := td2 ((blen (fz x).natAbs : Int) + fe x)
  obtain ⟨h1, _, _⟩ := blen_bounds (v := (fz x).natAbs) (by omega)
  refine ⟨(fe x + 2 * roK (fz x) (fe x)).toNat, ?_, ?_⟩ <;> unfold roK <;> omega
theorem rq_ne {x k : Nat} {X : Int} (mode : Int) (hf : fin32 x = true) (h : 0 < fz x) (hX : 2 * X = fe x - k) (hk : 100 ≤ k) : rqF x mode = rdF (nz (rk (2 ^ k * (fz x).natAbs) : Int)) (nx (rk (2 ^ k * (fz x).natAbs) : Int) (X - 1)) mode ∧ rqL x mode = rdL (nz (rk (2 ^ k * (fz x).natAbs) : Int)) (nx (rk (2 ^ k * (fz x).natAbs) : Int) (X - 1)) mode := by
  obtain ⟨m, hm, hm2⟩ := ro_places hf h
  obtain ⟨j, hj⟩ : ∃ j : Nat, k = m + 2 * j := ⟨(k - m) / 2, by omega⟩
  obtain ⟨a1, a2, a3⟩ := ro_round mode h hm
  obtain ⟨b1, b2⟩ := ro_model mode h hm hj hX
  have c := rd_norm (rk (2 ^ k * (fz x).natAbs) : Int) (X - 1) mode
  unfold rqF rqL xF xL
  rw [if_neg a1, if_neg a1, a2, a3, c.1, c.2, b1, b2]
  exact ⟨rfl, rfl⟩
theorem rq_zero {x : Nat} (mode : Int) (hx : x < 4294967296) (h : fz x = 0) : rqF x mode = x ∧ rqL x mode = 0 := by
  unfold rqF rqL xF xL
  rw [h, ro_zero, if_pos rfl, if_pos rfl]
  refine ⟨?_, rfl⟩
  have h1 := fz_zero.1 h
  have h2 : x = 0 ∨ x = 2147483648 := by unfold place32 at h1; split at h1 <;> omega
  rcases h2 with rfl | rfl
  · unfold zF sgn; simp [show neg32 0 = false by decide]
  · unfold zF sgn; simp [show neg32 2147483648 = true by decide]
theorem fz_pos {b : Nat} (h : ¬ place32 b < 0) (h0 : ¬ place32 b = 0) : 0 < fz b := by
  have h1 : fz b ≠ 0 := fun e => h0 (fz_zero.1 e)
  have hm : 0 ≤ ofM b := by unfold ofM smant32; rw [if_neg h]; omega
  have hs := (nz_facts (ofM b)).1
  have h3 : ofM b ≠ 0 := fun e => h1 (by unfold fz; rw [e, nz_zero])
  rw [Int.sign_eq_one_of_pos (show 0 < ofM b by omega)] at hs
  exact Int.sign_eq_one_iff_pos.1 hs
theorem rk_len {v n : Nat} (h : (limbs v).length ≤ n) : (limbs (rk v)).length ≤ n + 1 := twice_len (rk_ge v).2 (rt_len h)

set_option maxHeartbeats 8000000 in
theorem specRootF_any (x : Nat) (mode : Int) (w : World) (hx : x < 4294967296) (hf1 : fin32 x = true) (hp : ¬ place32 x < 0) (hm1 : 0 ≤ mode) (hm2 : mode ≤ 4) :
    Calls Tryz.prog 45 #[.float .f32 x, .int .i64 mode] w fun e w' => e = .returned (.tuple #[.float .f32 (rqF x mode), .int .i64 (rqL x mode)]) ∧ Below w.heap.size w w' := by
  have hst := store_int Tryz.prog
  have hst2 := store_slice Tryz.prog
  have hE := eq_zero32 x hx (fin_nan hf1)
  have Hx := Lib.hid hx
  have Hf := Lib.hid hf1
  have Hmo := Lib.hid (And.intro hm1 hm2)
  obtain ⟨e1, e2⟩ := fe_small hf1
  obtain ⟨w1, hw1⟩ : ∃ w1, w1 = w := ⟨_, rfl⟩
  have Bel1 : Hid (Below w.heap.size w w1) := Lib.hid (by rw [hw1]; exact Below.refl _ _)
  have Hw := Lib.hid hw1
  by_cases h0 : place32 x = 0
  · have Hres := Lib.hid (rq_zero mode hx (fz_zero.2 h0))
    rw [decide_eq_true h0] at hE
    clear h0 hx hf1 hp hm1 hm2 hw1
    go_enter Tryz.func45, Tryz.ntmps45
    go_wp2_with fail
    rw [← Hw.out]
    go_ret2
    rw [Hw.out]
    exact ⟨by rw [Hres.out.1, Hres.out.2]; rfl, Below.refl _ _⟩
  · have Hp := Lib.hid (fz_pos hp h0)
    rw [decide_eq_false h0] at hE
    clear h0 hx hf1 hp hm1 hm2 hw1
    go_enter Tryz.func45, Tryz.ntmps45
    go_wp2_with fail
    rw [← Hw.out]
    refine (specOfD_any x _ Hx.out Hf.out).mono ?_
    rintro e w2 ⟨S2, A2, n2, c2, rfl, hzo, hb⟩
    rw [show nx (ofM x) (ofP x) = fe x from rfl]
    have Zx2 : Hid (ZV w2 (fz x) S2 A2 n2 c2) := Lib.hid hzo.zv
    have Hnx : Hid ((n2 : Int) ≤ 1) := Lib.hid (fz_len Hf.out hzo.zv.len)
    have Hnz : Hid ((limbs (fz x).natAbs).length = n2) := Lib.hid hzo.zv.len
    obtain ⟨E, hEE⟩ : ∃ E, E = fe x := ⟨_, rfl⟩
    rw [← hEE] at e1 e2 ⊢
    have HE := Lib.hid hEE
    clear hzo hEE
    have Sz2 := Lib.hid (Below.size hb)
    have Bel2 := Lib.hid (belNext Bel1.out hb)
    clear hb Bel1
    go_upto_region 5 with fail
    obtain ⟨w3, hw3⟩ : ∃ w3, w3 = w2.alloc (.cells #[.int .i64 S2, .slice A2 n2 c2, .int .i64 E] 30) := ⟨_, rfl⟩
    rw [← hw3]
    obtain ⟨f, hf⟩ : ∃ f, f = w2.heap.size := ⟨_, rfl⟩
    have hb : Below w2.heap.size w2 w3 := by rw [hw3]; exact belAlloc1 _ _
    have Ba3 : Hid (DBox w3 f S2 A2 n2 c2 E) := Lib.hid (by rw [hw3, hf]; exact DBox.new _ _ _ _ _ _ _)
    rw [← hf]
    clear hw3 hf
    have hwa : wrap64 (E - 100) = E - 100 := wrap64_small (by omega) (by omega)
    have hwb : IntKind.i64.wrap (E - 100) = E - 100 := IntWalk.i64_in _ (by omega)
    have htm := Int.mul_tdiv_add_tmod (E - 100) 2
    have ht1 := td2 (E - 100)
    have ht2 := td2 (E - 101)
    have Sz3 := Lib.hid (Below.size hb)
    have Bel3 := Lib.hid (belNext Bel2.out hb)
    have Zx3 := Lib.hid (Zx2.out.next hb)
    clear hb Bel2 Zx2
    obtain ⟨⟨hBa0, hBa1, hBa2⟩, hBa3⟩ := Ba3.out
    obtain ⟨r, hr⟩ : ∃ r, r = (E - 100).tmod 2 := ⟨_, rfl⟩
    rw [← hr] at htm
    have hwc : wrap64 ((E - 100).tmod 2) = r := by rw [← hr]; exact wrap64_small (by omega) (by omega)
    have hwd : IntKind.i64.wrap ((E - 100).tmod 2) = r := by rw [← hr]; exact IntWalk.i64_in _ (by omega)
    have hwe : (E - 100).tmod 2 = r := hr.symm
    have hrem : ∀ t w, (binOp .rem t (.int .i64 (E - 100)) (.int .i64 2)).run Tryz.prog w = .ok (.int .i64 r) w := fun t w => by
      rw [binOp_rem]
      unfold Op.intDiv
      rw [if_neg (by decide)]
      show Sem.run Tryz.prog (pure (Value.int .i64 ((E - 100).tmod 2))) w = _
      rw [hwe]
      rfl
    clear hr
    by_cases hr0 : r = 0
    · have Hpar : Hid (2 * (E - 100).tdiv 2 = E - 100) := Lib.hid (by omega)
      obtain ⟨X, hX⟩ : ∃ X, X = (E - 100).tdiv 2 := ⟨_, rfl⟩
      rw [← hX] at Hpar
      have HX := Lib.hid hX
      have hXb : -200 ≤ X ∧ X ≤ 20 := by have := Hpar.out; omega
      obtain ⟨hX1, hX2⟩ := hXb
      clear hX ht1 ht2 htm
      have hro : (r != 0) = false := by simp [hr0]
      subst hr0
      go_wp2_with fail
      refine (specLeft_any (fz x) S2 A2 n2 c2 100 _ Zx3.out (by have := Hnx.out; omega) (by omega)).mono ?_
      rintro e w4 ⟨S4, A4, n4, c4, rfl, hzo, hb⟩
      obtain ⟨V, hV⟩ : ∃ V, V = 2 ^ 100 * (fz x).natAbs := ⟨_, rfl⟩
      have Zl4 : Hid (ZV w4 (V : Int) S4 A4 n4 c4) := Lib.hid (hzo.zv.cast_ (by rw [hV]; exact left_nat Hp.out))
      have Hn4 : Hid ((n4 : Int) ≤ 8) := Lib.hid (by have h := shl_len Hnz.out 100; have e := Zl4.out.lenN; rw [hV] at e; rw [e] at h; have := Hnx.out; omega)
      have HV0 : Hid (0 < V) := Lib.hid (by rw [hV]; exact Nat.mul_pos (Nat.two_pow_pos _) (by have := Hp.out; omega))
      have Hrq : Hid (rqF x mode = rdF (nz (rk V : Int)) (nx (rk V : Int) (X - 1)) mode ∧ rqL x mode = rdL (nz (rk V : Int)) (nx (rk V : Int) (X - 1)) mode) := Lib.hid (by rw [hV]; exact rq_ne mode Hf.out Hp.out (by rw [← HE.out]; exact Hpar.out) (by omega))
      clear hzo hV
      have Sz4 := Lib.hid (Below.size hb)
      have Bel4 := Lib.hid (belNext Bel3.out hb)
      have Zx4 := Lib.hid (Zx3.out.next hb)
      have Ba4 := Lib.hid (Ba3.out.next hb)
      clear hb Bel3 Zx3 Ba3 hBa0 hBa1 hBa2 hBa3
      obtain ⟨⟨hBa0, hBa1, hBa2⟩, hBa3⟩ := Ba4.out
      go_upto_region 8 with fail
      obtain ⟨w5, hw⟩ : ∃ w5, w5 = w4.alloc (.cells #[.int .i64 S4, .slice A4 n4 c4] 28) := ⟨_, rfl⟩
      rw [← hw]
      obtain ⟨fBw, hf⟩ : ∃ f, f = w4.heap.size := ⟨_, rfl⟩
      have hb : Below w4.heap.size w4 w5 := by rw [hw]; exact belAlloc1 _ _
      have Bw5 : Hid (Box w5 fBw S4 A4 n4 c4) := Lib.hid (by rw [hw, hf]; exact Box.new _ _ _ _ _ _)
      rw [← hf]
      clear hw hf
      have Sz5 := Lib.hid (Below.size hb)
      have Bel5 := Lib.hid (belNext Bel4.out hb)
      have Zx5 := Lib.hid (Zx4.out.next hb)
      have Ba5 := Lib.hid (Ba4.out.next hb)
      have Zl5 := Lib.hid (Zl4.out.next hb)
      clear hb Bel4 Zx4 Ba4 Zl4 hBa0 hBa1 hBa2 hBa3
      obtain ⟨⟨hBa0, hBa1, hBa2⟩, hBa3⟩ := Ba5.out
      obtain ⟨⟨hBw0, hBw1⟩, hBw2⟩ := Bw5.out
      go_wp2_with fail
      refine (specRoot_any V S4 A4 n4 c4 _ Zl5.out (by have := Hn4.out; omega)).mono ?_
      rintro e w6 ⟨S6, A6, n6, c6, rfl, hzo, hb⟩
      have Zr6 : Hid (ZV w6 (rt V : Int) S6 A6 n6 c6) := Lib.hid hzo.zv
      have Hn6 : Hid ((n6 : Int) ≤ 8) := Lib.hid (by have h := rt_len (v := V) (n := 8) (by rw [Zl5.out.lenN]; have := Hn4.out; omega); rw [Zr6.out.lenN] at h; omega)
      clear hzo
      have Sz6 := Lib.hid (Below.size hb)
      have Bel6 := Lib.hid (belNext Bel5.out hb)
      have Zx6 := Lib.hid (Zx5.out.next hb)
      have Ba6 := Lib.hid (Ba5.out.next hb)
      have Zl6 := Lib.hid (Zl5.out.next hb)
      have Bw6 := Lib.hid (Bw5.out.next hb)
      clear hb Bel5 Zx5 Ba5 Zl5 Bw5 hBa0 hBa1 hBa2 hBa3 hBw0 hBw1 hBw2
      obtain ⟨⟨hBa0, hBa1, hBa2⟩, hBa3⟩ := Ba6.out
      obtain ⟨⟨hBw0, hBw1⟩, hBw2⟩ := Bw6.out
      go_upto_region 9 with fail
      obtain ⟨w7, hw⟩ : ∃ w7, w7 = w6.alloc (.cells #[.int .i64 S6, .slice A6 n6 c6] 28) := ⟨_, rfl⟩
      rw [← hw]
      obtain ⟨fBr, hf⟩ : ∃ f, f = w6.heap.size := ⟨_, rfl⟩
      have hb : Below w6.heap.size w6 w7 := by rw [hw]; exact belAlloc1 _ _
      have Br7 : Hid (Box w7 fBr S6 A6 n6 c6) := Lib.hid (by rw [hw, hf]; exact Box.new _ _ _ _ _ _)
      rw [← hf]
      clear hw hf
      have Sz7 := Lib.hid (Below.size hb)
      have Bel7 := Lib.hid (belNext Bel6.out hb)
      have Zx7 := Lib.hid (Zx6.out.next hb)
      have Ba7 := Lib.hid (Ba6.out.next hb)
      have Zl7 := Lib.hid (Zl6.out.next hb)
      have Bw7 := Lib.hid (Bw6.out.next hb)
      have Zr7 := Lib.hid (Zr6.out.next hb)
      clear hb Bel6 Zx6 Ba6 Zl6 Bw6 Zr6 hBa0 hBa1 hBa2 hBa3 hBw0 hBw1 hBw2
      obtain ⟨⟨hBa0, hBa1, hBa2⟩, hBa3⟩ := Ba7.out
      obtain ⟨⟨hBw0, hBw1⟩, hBw2⟩ := Bw7.out
      obtain ⟨⟨hBr0, hBr1⟩, hBr2⟩ := Br7.out
      have hx1 : IntKind.i64.wrap (E - 100) = E - 100 := IntWalk.i64_in _ (by omega)
      have hx3 : (E - 100).tdiv 2 = X := HX.out.symm
      have hx2 : IntKind.i64.wrap X = X := IntWalk.i64_in _ (by omega)
      by_cases hR : rt V * rt V = V
      · have Hmk : Hid (mkV (rt V : Int) false = (rk V : Int)) := Lib.hid (by rw [← mk_rk HV0.out]; congr 1; simp [hR])
        have HR := Lib.hid hR
        clear hR
        refine wp_region_held_drew (S := fun w' => (w'.cell? ⟨f, 0, none⟩ = some (.int .i64 S2) ∧ w'.cell? ⟨f, 1, none⟩ = some (.slice A2 n2 c2) ∧ w'.cell? ⟨f, 2, none⟩ = some (.int .i64 E)) ∧ (w'.cell? ⟨fBw, 0, none⟩ = some (.int .i64 S4) ∧ w'.cell? ⟨fBw, 1, none⟩ = some (.slice A4 n4 c4)) ∧ (w'.cell? ⟨fBr, 0, none⟩ = some (.int .i64 S6) ∧ w'.cell? ⟨fBr, 1, none⟩ = some (.slice A6 n6 c6))) (by kernel_rfl) ⟨Ba7.out.1, Bw7.out.1, Br7.out.1⟩ (fun hHeld => ?_)
        clear hBa0 hBa1 hBa2 hBa3 hBw0 hBw1 hBw2 hBr0 hBr1 hBr2
        refine wpAnyH_take (i := 0) (v := ?_) rfl (by kernel_rfl) (by kernel_rfl) (by kernel_rfl) (fun _ _ _ h => h) (Or.inl ⟨by rfl, ?_⟩) (by assumption) ?_
        rotate_left
        · (intro w hSw; (try dsimp only at hSw); go_simp; (try with_reducible rfl))
        try simp only [Act.put, List.setIfInBounds_toArray, List.set_cons_zero, List.set_cons_succ, List.getElem_toArray, List.getElem_cons_succ, List.getElem_cons_zero]
        refine wpAnyH_take (i := 1) (v := ?_) rfl (by kernel_rfl) (by kernel_rfl) (by kernel_rfl) (fun _ _ _ h => h) (Or.inl ⟨by rfl, ?_⟩) (by assumption) ?_
        rotate_left
        · (intro w hSw; (try dsimp only at hSw); go_simp; (try with_reducible rfl))
        try simp only [Act.put, List.setIfInBounds_toArray, List.set_cons_zero, List.set_cons_succ, List.getElem_toArray, List.getElem_cons_succ, List.getElem_cons_zero]
        refine wpAnyH_take (i := 2) (v := ?_) rfl (by kernel_rfl) (by kernel_rfl) (by kernel_rfl) (fun _ _ _ h => h) (Or.inl ⟨by rfl, ?_⟩) (by assumption) ?_
        rotate_left
        · (intro w hSw; (try dsimp only at hSw); go_simp; (try with_reducible rfl))
        try simp only [Act.put, List.setIfInBounds_toArray, List.set_cons_zero, List.set_cons_succ, List.getElem_toArray, List.getElem_cons_succ, List.getElem_cons_zero]
        refine wpAnyH_take (i := 3) (v := ?_) rfl (by kernel_rfl) (by kernel_rfl) (by kernel_rfl) (fun _ _ _ h => h) (Or.inl ⟨by rfl, ?_⟩) (by assumption) ?_
        rotate_left
        · (intro w hSw; (try dsimp only at hSw); go_simp; (try with_reducible rfl))
        try simp only [Act.put, List.setIfInBounds_toArray, List.set_cons_zero, List.set_cons_succ, List.getElem_toArray, List.getElem_cons_succ, List.getElem_cons_zero]
        refine wpAnyH_take (i := 4) (v := ?_) rfl (by kernel_rfl) (by kernel_rfl) (by kernel_rfl) (fun _ _ _ h => h) (Or.inl ⟨by rfl, ?_⟩) (by assumption) ?_
        rotate_left
        · (intro w hSw; (try dsimp only at hSw); go_simp; (try with_reducible rfl))
        try simp only [Act.put, List.setIfInBounds_toArray, List.set_cons_zero, List.set_cons_succ, List.getElem_toArray, List.getElem_cons_succ, List.getElem_cons_zero]
        refine wpAnyH_take (i := 5) (v := ?_) rfl (by kernel_rfl) (by kernel_rfl) (by kernel_rfl) (fun _ _ _ h => h) (Or.inl ⟨by rfl, ?_⟩) (by assumption) ?_
        rotate_left
        · (intro w hSw; (try dsimp only at hSw); go_simp; (try with_reducible rfl))
        try simp only [Act.put, List.setIfInBounds_toArray, List.set_cons_zero, List.set_cons_succ, List.getElem_toArray, List.getElem_cons_succ, List.getElem_cons_zero]
        refine wpAnyH_take (i := 6) (v := ?_) rfl (by kernel_rfl) (by kernel_rfl) (by kernel_rfl) (fun _ _ _ h => h) (Or.inl ⟨by rfl, ?_⟩) (by assumption) ?_
        rotate_left
        · (intro w hSw; (try dsimp only at hSw); go_simp; (try with_reducible rfl))
        try simp only [Act.put, List.setIfInBounds_toArray, List.set_cons_zero, List.set_cons_succ, List.getElem_toArray, List.getElem_cons_succ, List.getElem_cons_zero]
        refine wpAnyH_take (i := 7) (v := ?_) rfl (by kernel_rfl) (by kernel_rfl) (by kernel_rfl) (fun _ _ _ h => h) (Or.inl ⟨by rfl, ?_⟩) (by assumption) ?_
        rotate_left
        · (intro w hSw; (try dsimp only at hSw); go_simp; (try with_reducible rfl))
        try simp only [Act.put, List.setIfInBounds_toArray, List.set_cons_zero, List.set_cons_succ, List.getElem_toArray, List.getElem_cons_succ, List.getElem_cons_zero]
        refine wpAnyH_take (i := 9) (v := ?_) rfl (by kernel_rfl) (by kernel_rfl) (by kernel_rfl) (fun _ _ _ h => h) (Or.inl ⟨by rfl, ?_⟩) (by assumption) ?_
        rotate_left
        · (intro w hSw; (try dsimp only at hSw); go_simp; (try with_reducible rfl))
        try simp only [Act.put, List.setIfInBounds_toArray, List.set_cons_zero, List.set_cons_succ, List.getElem_toArray, List.getElem_cons_succ, List.getElem_cons_zero]
        refine wpAnyH_take (i := 13) (v := ?_) rfl (by kernel_rfl) (by kernel_rfl) (by kernel_rfl) (fun _ _ _ h => h) (Or.inl ⟨by rfl, ?_⟩) (by assumption) ?_
        rotate_left
        · (intro w hSw; (try dsimp only at hSw); go_simp; (try with_reducible rfl))
        try simp only [Act.put, List.setIfInBounds_toArray, List.set_cons_zero, List.set_cons_succ, List.getElem_toArray, List.getElem_cons_succ, List.getElem_cons_zero]
        refine wpAnyH_ready (rs := [8]) (by kernel_rfl) (by simp) ?_
        refine AllReadyH.cons rfl (fun K hK => ?_) AllReadyH.nil
        go_simp
        refine (specMulZ_any (rt V : Int) (rt V : Int) S6 S6 A6 A6 n6 n6 c6 c6 w7.drew Zr7.out Zr7.out (by have := Hn6.out; omega) (by have := Hn6.out; omega)).mono ?_
        rintro e w8 ⟨S8, A8, n8, c8, rfl, hzo, hb0⟩
        have hb : Below w7.heap.size w7 w8 := belDrew hb0
        have Zm8 : Hid (ZV w8 ((rt V : Int) * (rt V : Int)) S8 A8 n8 c8) := Lib.hid hzo.zv
        have Hn8 : Hid ((n8 : Int) ≤ 20) := Lib.hid (by have h := mulZ_len (z := (rt V : Int)) (z' := (rt V : Int)) Zr7.out.len Zr7.out.len; rw [Zm8.out.len] at h; have := Hn6.out; omega)
        clear hzo
        refine hK.out _ _ ⟨(Ba7.out.next hb).1, (Bw7.out.next hb).1, (Br7.out.next hb).1⟩ (fun hHeld => ?_)
        clear hK K hb0
        have Sz8 := Lib.hid (Below.size hb)
        have Bel8 := Lib.hid (belNext Bel7.out hb)
        have Zx8 := Lib.hid (Zx7.out.next hb)
        have Ba8 := Lib.hid (Ba7.out.next hb)
        have Zl8 := Lib.hid (Zl7.out.next hb)
        have Bw8 := Lib.hid (Bw7.out.next hb)
        have Zr8 := Lib.hid (Zr7.out.next hb)
        have Br8 := Lib.hid (Br7.out.next hb)
        clear hb Bel7 Zx7 Ba7 Zl7 Bw7 Zr7 Br7
        try simp only [Act.put, List.setIfInBounds_toArray, List.set_cons_zero, List.set_cons_succ, List.getElem_toArray, List.getElem_cons_succ, List.getElem_cons_zero]
        refine wpAnyH_ready (rs := [10]) (by kernel_rfl) (by simp) ?_
        refine AllReadyH.cons rfl (fun K hK => ?_) AllReadyH.nil
        go_simp
        refine (specCmpZ_any ((rt V : Int) * (rt V : Int)) (V : Int) S8 S4 A8 A4 n8 n4 c8 c4 w8 Zm8.out Zl8.out (by have := Hn8.out; omega) (by have := Hn4.out; omega)).mono ?_
        rintro e w9 ⟨rfl, hb0⟩
        have hb : Below w8.heap.size w8 w9 := hb0
        have hcm : cmpI ((rt V : Int) * (rt V : Int)) (V : Int) = 0 := by
          rw [← Int.natCast_mul, HR.out]; exact cmpI_eq _
        rw [hcm]
        refine hK.out _ _ ⟨(Ba8.out.next hb).1, (Bw8.out.next hb).1, (Br8.out.next hb).1⟩ (fun hHeld => ?_)
        clear hK K hb0
        have Sz9 := Lib.hid (Below.size hb)
        have Bel9 := Lib.hid (belNext Bel8.out hb)
        have Zx9 := Lib.hid (Zx8.out.next hb)
        have Ba9 := Lib.hid (Ba8.out.next hb)
        have Zl9 := Lib.hid (Zl8.out.next hb)
        have Bw9 := Lib.hid (Bw8.out.next hb)
        have Zr9 := Lib.hid (Zr8.out.next hb)
        have Br9 := Lib.hid (Br8.out.next hb)
        have Zm9 := Lib.hid (Zm8.out.next hb)
        clear hb Bel8 Zx8 Ba8 Zl8 Bw8 Zr8 Br8 Zm8
        try simp only [Act.put, List.setIfInBounds_toArray, List.set_cons_zero, List.set_cons_succ, List.getElem_toArray, List.getElem_cons_succ, List.getElem_cons_zero]
        refine wpAnyH_ready (rs := [11]) (by kernel_rfl) (by simp) ?_
        refine AllReadyH.cons rfl (fun K hK => ?_) AllReadyH.nil
        go_simp
        refine hK.out _ _ hHeld (fun hHeld => ?_)
        clear hK K
        try simp only [Act.put, List.setIfInBounds_toArray, List.set_cons_zero, List.set_cons_succ, List.getElem_toArray, List.getElem_cons_succ, List.getElem_cons_zero]
        refine wpAnyH_ready (rs := [12]) (by kernel_rfl) (by simp) ?_
        refine AllReadyH.cons rfl (fun K hK => ?_) AllReadyH.nil
        go_simp
        refine (specMark_any (rt V : Int) S6 X false A6 n6 c6 w9 Zr9.out (by have := Hn6.out; omega) (by omega) (by omega)).mono ?_
        rintro e w10 ⟨S10, A10, n10, c10, rfl, hzo, hb0⟩
        have hb : Below w9.heap.size w9 w10 := hb0
        rw [Hmk.out] at hzo ⊢
        have Zk10 : Hid (ZV w10 (nz (rk V : Int)) S10 A10 n10 c10) := Lib.hid hzo.zv
        have Hkl : Hid ((limbs (rk V : Int).natAbs).length ≤ 9) := Lib.hid (by rw [Int.natAbs_natCast]; exact rk_len (n := 8) (by have e := Zl9.out.lenN; have := Hn4.out; omega))
        have Hn10 : Hid ((n10 : Int) ≤ 9) := Lib.hid (by have h := hzo.zv.len; have h2 := limbs_len_mono (nz_le (rk V : Int)); have h3 := Hkl.out; omega)
        have Hodd : Hid (nz (rk V : Int) ≠ 0 → (nz (rk V : Int)).natAbs % 2 = 1) := Lib.hid (fun h => nz_odd (fun e => h (nz_eq_zero.2 e)))
        obtain ⟨vv, hvv⟩ : ∃ vv, vv = nx (rk V : Int) (X - 1) := ⟨_, rfl⟩
        rw [← hvv]
        have Hvv := Lib.hid hvv
        have hv1 : -2000 ≤ vv ∧ vv ≤ 2000 := by
          rw [hvv]
          by_cases h0 : (rk V : Int) = 0
          · rw [h0, nx_zero]; omega
          · rw [nx_ne h0]; have h := tz_le (v := (rk V : Int).natAbs) rfl; have h3 := Hkl.out; omega
        obtain ⟨hv1, hv2⟩ := hv1
        clear hzo hvv
        refine hK.out _ _ ⟨(Ba9.out.next hb).1, (Bw9.out.next hb).1, (Br9.out.next hb).1⟩ (fun hHeld => ?_)
        clear hK K hb0
        have Sz10 := Lib.hid (Below.size hb)
        have Bel10 := Lib.hid (belNext Bel9.out hb)
        have Zx10 := Lib.hid (Zx9.out.next hb)
        have Ba10 := Lib.hid (Ba9.out.next hb)
        have Zl10 := Lib.hid (Zl9.out.next hb)
        have Bw10 := Lib.hid (Bw9.out.next hb)
        have Zr10 := Lib.hid (Zr9.out.next hb)
        have Br10 := Lib.hid (Br9.out.next hb)
        clear hb Bel9 Zx9 Ba9 Zl9 Bw9 Zr9 Br9
        try simp only [Act.put, List.setIfInBounds_toArray, List.set_cons_zero, List.set_cons_succ, List.getElem_toArray, List.getElem_cons_succ, List.getElem_cons_zero]
        refine wpAnyH_ready (rs := [14]) (by kernel_rfl) (by simp) ?_
        refine AllReadyH.cons rfl (fun K hK => ?_) AllReadyH.nil
        go_simp
        refine (specRound_any (nz (rk V : Int)) S10 vv mode A10 n10 c10 w10 Zk10.out Hodd.out (by have := Hn10.out; omega) (by omega) (by omega) Hmo.out.1 Hmo.out.2).mono ?_
        rintro e w11 ⟨rfl, hb0⟩
        have hb : Below w10.heap.size w10 w11 := hb0
        rw [Hvv.out, ← Hrq.out.1, ← Hrq.out.2]
        refine hK.out _ _ ⟨(Ba10.out.next hb).1, (Bw10.out.next hb).1, (Br10.out.next hb).1⟩ (fun hHeld => ?_)
        clear hK K hb0
        have Sz11 := Lib.hid (Below.size hb)
        have Bel11 := Lib.hid (belNext Bel10.out hb)
        have Zx11 := Lib.hid (Zx10.out.next hb)
        have Ba11 := Lib.hid (Ba10.out.next hb)
        have Zl11 := Lib.hid (Zl10.out.next hb)
        have Bw11 := Lib.hid (Bw10.out.next hb)
        have Zr11 := Lib.hid (Zr10.out.next hb)
        have Br11 := Lib.hid (Br10.out.next hb)
        have Zk11 := Lib.hid (Zk10.out.next hb)
        clear hb Bel10 Zx10 Ba10 Zl10 Bw10 Zr10 Br10 Zk10
        try simp only [Act.put, List.setIfInBounds_toArray, List.set_cons_zero, List.set_cons_succ, List.getElem_toArray, List.getElem_cons_succ, List.getElem_cons_zero]
        refine wpAnyH_take (i := 15) (v := ?_) rfl (by kernel_rfl) (by kernel_rfl) (by kernel_rfl) (fun _ _ _ h => h) (Or.inl ⟨by rfl, ?_⟩) (by assumption) ?_
        rotate_left
        · (intro w hSw; (try dsimp only at hSw); go_simp; (try with_reducible rfl))
        try simp only [Act.put, List.setIfInBounds_toArray, List.set_cons_zero, List.set_cons_succ, List.getElem_toArray, List.getElem_cons_succ, List.getElem_cons_zero]
        refine wpAnyH_take (i := 16) (v := ?_) rfl (by kernel_rfl) (by kernel_rfl) (by kernel_rfl) (fun _ _ _ h => h) (Or.inl ⟨by rfl, ?_⟩) (by assumption) ?_
        rotate_left
        · (intro w hSw; (try dsimp only at hSw); go_simp; (try with_reducible rfl))
        try simp only [Act.put, List.setIfInBounds_toArray, List.set_cons_zero, List.set_cons_succ, List.getElem_toArray, List.getElem_cons_succ, List.getElem_cons_zero]
        refine wpAnyH_take (i := 17) (v := ?_) rfl (by kernel_rfl) (by kernel_rfl) (by kernel_rfl) (fun _ _ _ h => h) (Or.inl ⟨by rfl, ?_⟩) (by assumption) ?_
        rotate_left
        · (intro w hSw; (try dsimp only at hSw); go_simp; (try with_reducible rfl))
        try simp only [Act.put, List.setIfInBounds_toArray, List.set_cons_zero, List.set_cons_succ, List.getElem_toArray, List.getElem_cons_succ, List.getElem_cons_zero]
        refine wpAnyH_ready (rs := [18]) (by kernel_rfl) (by simp) ?_
        refine AllReadyH.cons rfl (fun K hK => ?_) AllReadyH.nil
        go_simp
        refine hK.out _ _ hHeld (fun hHeld => ?_)
        clear hK K
        try simp only [Act.put, List.setIfInBounds_toArray, List.set_cons_zero, List.set_cons_succ, List.getElem_toArray, List.getElem_cons_succ, List.getElem_cons_zero]
        refine wpAnyH_ready (rs := [19]) (by kernel_rfl) (by simp) ?_
        refine AllReadyH.cons rfl (fun K hK => ?_) AllReadyH.nil
        go_simp
        refine hK.out _ _ hHeld (fun hHeld => ?_)
        clear hK K
        try simp only [Act.put, List.setIfInBounds_toArray, List.set_cons_zero, List.set_cons_succ, List.getElem_toArray, List.getElem_cons_succ, List.getElem_cons_zero]
        clear hHeld
        refine wpAnyH_done (by kernel_rfl) ?_ _
        go_wp2_with fail
        go_ret2
        exact ⟨rfl, Bel11.out⟩
      · have Hmk : Hid (mkV (rt V : Int) true = (rk V : Int)) := Lib.hid (by rw [← mk_rk HV0.out]; congr 1; simp [hR])
        have HR := Lib.hid hR
        clear hR
        refine wp_region_held_drew (S := fun w' => (w'.cell? ⟨f, 0, none⟩ = some (.int .i64 S2) ∧ w'.cell? ⟨f, 1, none⟩ = some (.slice A2 n2 c2) ∧ w'.cell? ⟨f, 2, none⟩ = some (.int .i64 E)) ∧ (w'.cell? ⟨fBw, 0, none⟩ = some (.int .i64 S4) ∧ w'.cell? ⟨fBw, 1, none⟩ = some (.slice A4 n4 c4)) ∧ (w'.cell? ⟨fBr, 0, none⟩ = some (.int .i64 S6) ∧ w'.cell? ⟨fBr, 1, none⟩ = some (.slice A6 n6 c6))) (by kernel_rfl) ⟨Ba7.out.1, Bw7.out.1, Br7.out.1⟩ (fun hHeld => ?_)
        clear hBa0 hBa1 hBa2 hBa3 hBw0 hBw1 hBw2 hBr0 hBr1 hBr2
        refine wpAnyH_take (i := 0) (v := ?_) rfl (by kernel_rfl) (by kernel_rfl) (by kernel_rfl) (fun _ _ _ h => h) (Or.inl ⟨by rfl, ?_⟩) (by assumption) ?_
        rotate_left
        · (intro w hSw; (try dsimp only at hSw); go_simp; (try with_reducible rfl))
        try simp only [Act.put, List.setIfInBounds_toArray, List.set_cons_zero, List.set_cons_succ, List.getElem_toArray, List.getElem_cons_succ, List.getElem_cons_zero]
        refine wpAnyH_take (i := 1) (v := ?_) rfl (by kernel_rfl) (by kernel_rfl) (by kernel_rfl) (fun _ _ _ h => h) (Or.inl ⟨by rfl, ?_⟩) (by assumption) ?_
        rotate_left
        · (intro w hSw; (try dsimp only at hSw); go_simp; (try with_reducible rfl))
        try simp only [Act.put, List.setIfInBounds_toArray, List.set_cons_zero, List.set_cons_succ, List.getElem_toArray, List.getElem_cons_succ, List.getElem_cons_zero]
        refine wpAnyH_take (i := 2) (v := ?_) rfl (by kernel_rfl) (by kernel_rfl) (by kernel_rfl) (fun _ _ _ h => h) (Or.inl ⟨by rfl, ?_⟩) (by assumption) ?_
        rotate_left
        · (intro w hSw; (try dsimp only at hSw); go_simp; (try with_reducible rfl))
        try simp only [Act.put, List.setIfInBounds_toArray, List.set_cons_zero, List.set_cons_succ, List.getElem_toArray, List.getElem_cons_succ, List.getElem_cons_zero]
        refine wpAnyH_take (i := 3) (v := ?_) rfl (by kernel_rfl) (by kernel_rfl) (by kernel_rfl) (fun _ _ _ h => h) (Or.inl ⟨by rfl, ?_⟩) (by assumption) ?_
        rotate_left
        · (intro w hSw; (try dsimp only at hSw); go_simp; (try with_reducible rfl))
        try simp only [Act.put, List.setIfInBounds_toArray, List.set_cons_zero, List.set_cons_succ, List.getElem_toArray, List.getElem_cons_succ, List.getElem_cons_zero]
        refine wpAnyH_take (i := 4) (v := ?_) rfl (by kernel_rfl) (by kernel_rfl) (by kernel_rfl) (fun _ _ _ h => h) (Or.inl ⟨by rfl, ?_⟩) (by assumption) ?_
        rotate_left
        · (intro w hSw; (try dsimp only at hSw); go_simp; (try with_reducible rfl))
        try simp only [Act.put, List.setIfInBounds_toArray, List.set_cons_zero, List.set_cons_succ, List.getElem_toArray, List.getElem_cons_succ, List.getElem_cons_zero]
        refine wpAnyH_take (i := 5) (v := ?_) rfl (by kernel_rfl) (by kernel_rfl) (by kernel_rfl) (fun _ _ _ h => h) (Or.inl ⟨by rfl, ?_⟩) (by assumption) ?_
        rotate_left
        · (intro w hSw; (try dsimp only at hSw); go_simp; (try with_reducible rfl))
        try simp only [Act.put, List.setIfInBounds_toArray, List.set_cons_zero, List.set_cons_succ, List.getElem_toArray, List.getElem_cons_succ, List.getElem_cons_zero]
        refine wpAnyH_take (i := 6) (v := ?_) rfl (by kernel_rfl) (by kernel_rfl) (by kernel_rfl) (fun _ _ _ h => h) (Or.inl ⟨by rfl, ?_⟩) (by assumption) ?_
        rotate_left
        · (intro w hSw; (try dsimp only at hSw); go_simp; (try with_reducible rfl))
        try simp only [Act.put, List.setIfInBounds_toArray, List.set_cons_zero, List.set_cons_succ, List.getElem_toArray, List.getElem_cons_succ, List.getElem_cons_zero]
        refine wpAnyH_take (i := 7) (v := ?_) rfl (by kernel_rfl) (by kernel_rfl) (by kernel_rfl) (fun _ _ _ h => h) (Or.inl ⟨by rfl, ?_⟩) (by assumption) ?_
        rotate_left
        · (intro w hSw; (try dsimp only at hSw); go_simp; (try with_reducible rfl))
        try simp only [Act.put, List.setIfInBounds_toArray, List.set_cons_zero, List.set_cons_succ, List.getElem_toArray, List.getElem_cons_succ, List.getElem_cons_zero]
        refine wpAnyH_take (i := 9) (v := ?_) rfl (by kernel_rfl) (by kernel_rfl) (by kernel_rfl) (fun _ _ _ h => h) (Or.inl ⟨by rfl, ?_⟩) (by assumption) ?_
        rotate_left
        · (intro w hSw; (try dsimp only at hSw); go_simp; (try with_reducible rfl))
        try simp only [Act.put, List.setIfInBounds_toArray, List.set_cons_zero, List.set_cons_succ, List.getElem_toArray, List.getElem_cons_succ, List.getElem_cons_zero]
        refine wpAnyH_take (i := 13) (v := ?_) rfl (by kernel_rfl) (by kernel_rfl) (by kernel_rfl) (fun _ _ _ h => h) (Or.inl ⟨by rfl, ?_⟩) (by assumption) ?_
        rotate_left
        · (intro w hSw; (try dsimp only at hSw); go_simp; (try with_reducible rfl))
        try simp only [Act.put, List.setIfInBounds_toArray, List.set_cons_zero, List.set_cons_succ, List.getElem_toArray, List.getElem_cons_succ, List.getElem_cons_zero]
        refine wpAnyH_ready (rs := [8]) (by kernel_rfl) (by simp) ?_
        refine AllReadyH.cons rfl (fun K hK => ?_) AllReadyH.nil
        go_simp
        refine (specMulZ_any (rt V : Int) (rt V : Int) S6 S6 A6 A6 n6 n6 c6 c6 w7.drew Zr7.out Zr7.out (by have := Hn6.out; omega) (by have := Hn6.out; omega)).mono ?_
        rintro e w8 ⟨S8, A8, n8, c8, rfl, hzo, hb0⟩
        have hb : Below w7.heap.size w7 w8 := belDrew hb0
        have Zm8 : Hid (ZV w8 ((rt V : Int) * (rt V : Int)) S8 A8 n8 c8) := Lib.hid hzo.zv
        have Hn8 : Hid ((n8 : Int) ≤ 20) := Lib.hid (by have h := mulZ_len (z := (rt V : Int)) (z' := (rt V : Int)) Zr7.out.len Zr7.out.len; rw [Zm8.out.len] at h; have := Hn6.out; omega)
        clear hzo
        refine hK.out _ _ ⟨(Ba7.out.next hb).1, (Bw7.out.next hb).1, (Br7.out.next hb).1⟩ (fun hHeld => ?_)
        clear hK K hb0
        have Sz8 := Lib.hid (Below.size hb)
        have Bel8 := Lib.hid (belNext Bel7.out hb)
        have Zx8 := Lib.hid (Zx7.out.next hb)
        have Ba8 := Lib.hid (Ba7.out.next hb)
        have Zl8 := Lib.hid (Zl7.out.next hb)
        have Bw8 := Lib.hid (Bw7.out.next hb)
        have Zr8 := Lib.hid (Zr7.out.next hb)
        have Br8 := Lib.hid (Br7.out.next hb)
        clear hb Bel7 Zx7 Ba7 Zl7 Bw7 Zr7 Br7
        try simp only [Act.put, List.setIfInBounds_toArray, List.set_cons_zero, List.set_cons_succ, List.getElem_toArray, List.getElem_cons_succ, List.getElem_cons_zero]
        refine wpAnyH_ready (rs := [10]) (by kernel_rfl) (by simp) ?_
        refine AllReadyH.cons rfl (fun K hK => ?_) AllReadyH.nil
        go_simp
        refine (specCmpZ_any ((rt V : Int) * (rt V : Int)) (V : Int) S8 S4 A8 A4 n8 n4 c8 c4 w8 Zm8.out Zl8.out (by have := Hn8.out; omega) (by have := Hn4.out; omega)).mono ?_
        rintro e w9 ⟨rfl, hb0⟩
        have hb : Below w8.heap.size w8 w9 := hb0
        obtain ⟨cm, hcm⟩ : ∃ cm, cm = cmpI ((rt V : Int) * (rt V : Int)) (V : Int) := ⟨_, rfl⟩
        rw [← hcm]
        have hcm2 : (cm != 0) = true := by
          have h : cm ≠ 0 := by
            rw [hcm, ← Int.natCast_mul]
            have := HR.out
            generalize rt V * rt V = Y at *
            unfold cmpI
            split
            · omega
            · rw [if_neg (by omega)]; omega
          simp [h]
        clear hcm
        refine hK.out _ _ ⟨(Ba8.out.next hb).1, (Bw8.out.next hb).1, (Br8.out.next hb).1⟩ (fun hHeld => ?_)
        clear hK K hb0
        have Sz9 := Lib.hid (Below.size hb)
        have Bel9 := Lib.hid (belNext Bel8.out hb)
        have Zx9 := Lib.hid (Zx8.out.next hb)
        have Ba9 := Lib.hid (Ba8.out.next hb)
        have Zl9 := Lib.hid (Zl8.out.next hb)
        have Bw9 := Lib.hid (Bw8.out.next hb)
        have Zr9 := Lib.hid (Zr8.out.next hb)
        have Br9 := Lib.hid (Br8.out.next hb)
        have Zm9 := Lib.hid (Zm8.out.next hb)
        clear hb Bel8 Zx8 Ba8 Zl8 Bw8 Zr8 Br8 Zm8
        try simp only [Act.put, List.setIfInBounds_toArray, List.set_cons_zero, List.set_cons_succ, List.getElem_toArray, List.getElem_cons_succ, List.getElem_cons_zero]
        refine wpAnyH_ready (rs := [11]) (by kernel_rfl) (by simp) ?_
        refine AllReadyH.cons rfl (fun K hK => ?_) AllReadyH.nil
        go_simp
        refine hK.out _ _ hHeld (fun hHeld => ?_)
        clear hK K
        try simp only [Act.put, List.setIfInBounds_toArray, List.set_cons_zero, List.set_cons_succ, List.getElem_toArray, List.getElem_cons_succ, List.getElem_cons_zero]
        refine wpAnyH_ready (rs := [12]) (by kernel_rfl) (by simp) ?_
        refine AllReadyH.cons rfl (fun K hK => ?_) AllReadyH.nil
        go_simp
        refine (specMark_any (rt V : Int) S6 X true A6 n6 c6 w9 Zr9.out (by have := Hn6.out; omega) (by omega) (by omega)).mono ?_
        rintro e w10 ⟨S10, A10, n10, c10, rfl, hzo, hb0⟩
        have hb : Below w9.heap.size w9 w10 := hb0
        rw [Hmk.out] at hzo ⊢
        have Zk10 : Hid (ZV w10 (nz (rk V : Int)) S10 A10 n10 c10) := Lib.hid hzo.zv
        have Hkl : Hid ((limbs (rk V : Int).natAbs).length ≤ 9) := Lib.hid (by rw [Int.natAbs_natCast]; exact rk_len (n := 8) (by have e := Zl9.out.lenN; have := Hn4.out; omega))
        have Hn10 : Hid ((n10 : Int) ≤ 9) := Lib.hid (by have h := hzo.zv.len; have h2 := limbs_len_mono (nz_le (rk V : Int)); have h3 := Hkl.out; omega)
        have Hodd : Hid (nz (rk V : Int) ≠ 0 → (nz (rk V : Int)).natAbs % 2 = 1) := Lib.hid (fun h => nz_odd (fun e => h (nz_eq_zero.2 e)))
        obtain ⟨vv, hvv⟩ : ∃ vv, vv = nx (rk V : Int) (X - 1) := ⟨_, rfl⟩
        rw [← hvv]
        have Hvv := Lib.hid hvv
        have hv1 : -2000 ≤ vv ∧ vv ≤ 2000 := by
          rw [hvv]
          by_cases h0 : (rk V : Int) = 0
          · rw [h0, nx_zero]; omega
          · rw [nx_ne h0]; have h := tz_le (v := (rk V : Int).natAbs) rfl; have h3 := Hkl.out; omega
        obtain ⟨hv1, hv2⟩ := hv1
        clear hzo hvv
        refine hK.out _ _ ⟨(Ba9.out.next hb).1, (Bw9.out.next hb).1, (Br9.out.next hb).1⟩ (fun hHeld => ?_)
        clear hK K hb0
        have Sz10 := Lib.hid (Below.size hb)
        have Bel10 := Lib.hid (belNext Bel9.out hb)
        have Zx10 := Lib.hid (Zx9.out.next hb)
        have Ba10 := Lib.hid (Ba9.out.next hb)
        have Zl10 := Lib.hid (Zl9.out.next hb)
        have Bw10 := Lib.hid (Bw9.out.next hb)
        have Zr10 := Lib.hid (Zr9.out.next hb)
        have Br10 := Lib.hid (Br9.out.next hb)
        clear hb Bel9 Zx9 Ba9 Zl9 Bw9 Zr9 Br9
        try simp only [Act.put, List.setIfInBounds_toArray, List.set_cons_zero, List.set_cons_succ, List.getElem_toArray, List.getElem_cons_succ, List.getElem_cons_zero]
        refine wpAnyH_ready (rs := [14]) (by kernel_rfl) (by simp) ?_
        refine AllReadyH.cons rfl (fun K hK => ?_) AllReadyH.nil
        go_simp
        refine (specRound_any (nz (rk V : Int)) S10 vv mode A10 n10 c10 w10 Zk10.out Hodd.out (by have := Hn10.out; omega) (by omega) (by omega) Hmo.out.1 Hmo.out.2).mono ?_
        rintro e w11 ⟨rfl, hb0⟩
        have hb : Below w10.heap.size w10 w11 := hb0
        rw [Hvv.out, ← Hrq.out.1, ← Hrq.out.2]
        refine hK.out _ _ ⟨(Ba10.out.next hb).1, (Bw10.out.next hb).1, (Br10.out.next hb).1⟩ (fun hHeld => ?_)
        clear hK K hb0
        have Sz11 := Lib.hid (Below.size hb)
        have Bel11 := Lib.hid (belNext Bel10.out hb)
        have Zx11 := Lib.hid (Zx10.out.next hb)
        have Ba11 := Lib.hid (Ba10.out.next hb)
        have Zl11 := Lib.hid (Zl10.out.next hb)
        have Bw11 := Lib.hid (Bw10.out.next hb)
        have Zr11 := Lib.hid (Zr10.out.next hb)
        have Br11 := Lib.hid (Br10.out.next hb)
        have Zk11 := Lib.hid (Zk10.out.next hb)
        clear hb Bel10 Zx10 Ba10 Zl10 Bw10 Zr10 Br10 Zk10
        try simp only [Act.put, List.setIfInBounds_toArray, List.set_cons_zero, List.set_cons_succ, List.getElem_toArray, List.getElem_cons_succ, List.getElem_cons_zero]
        refine wpAnyH_take (i := 15) (v := ?_) rfl (by kernel_rfl) (by kernel_rfl) (by kernel_rfl) (fun _ _ _ h => h) (Or.inl ⟨by rfl, ?_⟩) (by assumption) ?_
        rotate_left
        · (intro w hSw; (try dsimp only at hSw); go_simp; (try with_reducible rfl))
        try simp only [Act.put, List.setIfInBounds_toArray, List.set_cons_zero, List.set_cons_succ, List.getElem_toArray, List.getElem_cons_succ, List.getElem_cons_zero]
        refine wpAnyH_take (i := 16) (v := ?_) rfl (by kernel_rfl) (by kernel_rfl) (by kernel_rfl) (fun _ _ _ h => h) (Or.inl ⟨by rfl, ?_⟩) (by assumption) ?_
        rotate_left
        · (intro w hSw; (try dsimp only at hSw); go_simp; (try with_reducible rfl))
        try simp only [Act.put, List.setIfInBounds_toArray, List.set_cons_zero, List.set_cons_succ, List.getElem_toArray, List.getElem_cons_succ, List.getElem_cons_zero]
        refine wpAnyH_take (i := 17) (v := ?_) rfl (by kernel_rfl) (by kernel_rfl) (by kernel_rfl) (fun _ _ _ h => h) (Or.inl ⟨by rfl, ?_⟩) (by assumption) ?_
        rotate_left
        · (intro w hSw; (try dsimp only at hSw); go_simp; (try with_reducible rfl))
        try simp only [Act.put, List.setIfInBounds_toArray, List.set_cons_zero, List.set_cons_succ, List.getElem_toArray, List.getElem_cons_succ, List.getElem_cons_zero]
        refine wpAnyH_ready (rs := [18]) (by kernel_rfl) (by simp) ?_
        refine AllReadyH.cons rfl (fun K hK => ?_) AllReadyH.nil
        go_simp
        refine hK.out _ _ hHeld (fun hHeld => ?_)
        clear hK K
        try simp only [Act.put, List.setIfInBounds_toArray, List.set_cons_zero, List.set_cons_succ, List.getElem_toArray, List.getElem_cons_succ, List.getElem_cons_zero]
        refine wpAnyH_ready (rs := [19]) (by kernel_rfl) (by simp) ?_
        refine AllReadyH.cons rfl (fun K hK => ?_) AllReadyH.nil
        go_simp
        refine hK.out _ _ hHeld (fun hHeld => ?_)
        clear hK K
        try simp only [Act.put, List.setIfInBounds_toArray, List.set_cons_zero, List.set_cons_succ, List.getElem_toArray, List.getElem_cons_succ, List.getElem_cons_zero]
        clear hHeld
        refine wpAnyH_done (by kernel_rfl) ?_ _
        go_wp2_with fail
        go_ret2
        exact ⟨rfl, Bel11.out⟩
    · have Hpar : Hid (2 * (E - 101).tdiv 2 = E - 101) := Lib.hid (by omega)
      obtain ⟨X, hX⟩ : ∃ X, X = (E - 101).tdiv 2 := ⟨_, rfl⟩
      rw [← hX] at Hpar
      have HX := Lib.hid hX
      have hXb : -200 ≤ X ∧ X ≤ 20 := by have := Hpar.out; omega
      obtain ⟨hX1, hX2⟩ := hXb
      clear hX ht1 ht2 htm
      have hro : (r != 0) = true := by simp [hr0]
      go_wp2_with fail
      refine (specLeft_any (fz x) S2 A2 n2 c2 101 _ Zx3.out (by have := Hnx.out; omega) (by omega)).mono ?_
      rintro e w4 ⟨S4, A4, n4, c4, rfl, hzo, hb⟩
      obtain ⟨V, hV⟩ : ∃ V, V = 2 ^ 101 * (fz x).natAbs := ⟨_, rfl⟩
      have Zl4 : Hid (ZV w4 (V : Int) S4 A4 n4 c4) := Lib.hid (hzo.zv.cast_ (by rw [hV]; exact left_nat Hp.out))
      have Hn4 : Hid ((n4 : Int) ≤ 8) := Lib.hid (by have h := shl_len Hnz.out 101; have e := Zl4.out.lenN; rw [hV] at e; rw [e] at h; have := Hnx.out; omega)
      have HV0 : Hid (0 < V) := Lib.hid (by rw [hV]; exact Nat.mul_pos (Nat.two_pow_pos _) (by have := Hp.out; omega))
      have Hrq : Hid (rqF x mode = rdF (nz (rk V : Int)) (nx (rk V : Int) (X - 1)) mode ∧ rqL x mode = rdL (nz (rk V : Int)) (nx (rk V : Int) (X - 1)) mode) := Lib.hid (by rw [hV]; exact rq_ne mode Hf.out Hp.out (by rw [← HE.out]; exact Hpar.out) (by omega))
      clear hzo hV
      have Sz4 := Lib.hid (Below.size hb)
      have Bel4 := Lib.hid (belNext Bel3.out hb)
      have Zx4 := Lib.hid (Zx3.out.next hb)
      have Ba4 := Lib.hid (Ba3.out.next hb)
      clear hb Bel3 Zx3 Ba3 hBa0 hBa1 hBa2 hBa3
      obtain ⟨⟨hBa0, hBa1, hBa2⟩, hBa3⟩ := Ba4.out
      go_upto_region 8 with fail
      obtain ⟨w5, hw⟩ : ∃ w5, w5 = w4.alloc (.cells #[.int .i64 S4, .slice A4 n4 c4] 28) := ⟨_, rfl⟩
      rw [← hw]
      obtain ⟨fBw, hf⟩ : ∃ f, f = w4.heap.size := ⟨_, rfl⟩
      have hb : Below w4.heap.size w4 w5 := by rw [hw]; exact belAlloc1 _ _
      have Bw5 : Hid (Box w5 fBw S4 A4 n4 c4) := Lib.hid (by rw [hw, hf]; exact Box.new _ _ _ _ _ _)
      rw [← hf]
      clear hw hf
      have Sz5 := Lib.hid (Below.size hb)
      have Bel5 := Lib.hid (belNext Bel4.out hb)
      have Zx5 := Lib.hid (Zx4.out.next hb)
      have Ba5 := Lib.hid (Ba4.out.next hb)
      have Zl5 := Lib.hid (Zl4.out.next hb)
      clear hb Bel4 Zx4 Ba4 Zl4 hBa0 hBa1 hBa2 hBa3
      obtain ⟨⟨hBa0, hBa1, hBa2⟩, hBa3⟩ := Ba5.out
      obtain ⟨⟨hBw0, hBw1⟩, hBw2⟩ := Bw5.out
      go_wp2_with fail
      refine (specRoot_any V S4 A4 n4 c4 _ Zl5.out (by have := Hn4.out; omega)).mono ?_
      rintro e w6 ⟨S6, A6, n6, c6, rfl, hzo, hb⟩
      have Zr6 : Hid (ZV w6 (rt V : Int) S6 A6 n6 c6) := Lib.hid hzo.zv
      have Hn6 : Hid ((n6 : Int) ≤ 8) := Lib.hid (by have h := rt_len (v := V) (n := 8) (by rw [Zl5.out.lenN]; have := Hn4.out; omega); rw [Zr6.out.lenN] at h; omega)
      clear hzo
      have Sz6 := Lib.hid (Below.size hb)
      have Bel6 := Lib.hid (belNext Bel5.out hb)
      have Zx6 := Lib.hid (Zx5.out.next hb)
      have Ba6 := Lib.hid (Ba5.out.next hb)
      have Zl6 := Lib.hid (Zl5.out.next hb)
      have Bw6 := Lib.hid (Bw5.out.next hb)
      clear hb Bel5 Zx5 Ba5 Zl5 Bw5 hBa0 hBa1 hBa2 hBa3 hBw0 hBw1 hBw2
      obtain ⟨⟨hBa0, hBa1, hBa2⟩, hBa3⟩ := Ba6.out
      obtain ⟨⟨hBw0, hBw1⟩, hBw2⟩ := Bw6.out
      go_upto_region 9 with fail
      obtain ⟨w7, hw⟩ : ∃ w7, w7 = w6.alloc (.cells #[.int .i64 S6, .slice A6 n6 c6] 28) := ⟨_, rfl⟩
      rw [← hw]
      obtain ⟨fBr, hf⟩ : ∃ f, f = w6.heap.size := ⟨_, rfl⟩
      have hb : Below w6.heap.size w6 w7 := by rw [hw]; exact belAlloc1 _ _
      have Br7 : Hid (Box w7 fBr S6 A6 n6 c6) := Lib.hid (by rw [hw, hf]; exact Box.new _ _ _ _ _ _)
      rw [← hf]
      clear hw hf
      have Sz7 := Lib.hid (Below.size hb)
      have Bel7 := Lib.hid (belNext Bel6.out hb)
      have Zx7 := Lib.hid (Zx6.out.next hb)
      have Ba7 := Lib.hid (Ba6.out.next hb)
      have Zl7 := Lib.hid (Zl6.out.next hb)
      have Bw7 := Lib.hid (Bw6.out.next hb)
      have Zr7 := Lib.hid (Zr6.out.next hb)
      clear hb Bel6 Zx6 Ba6 Zl6 Bw6 Zr6 hBa0 hBa1 hBa2 hBa3 hBw0 hBw1 hBw2
      obtain ⟨⟨hBa0, hBa1, hBa2⟩, hBa3⟩ := Ba7.out
      obtain ⟨⟨hBw0, hBw1⟩, hBw2⟩ := Bw7.out
      obtain ⟨⟨hBr0, hBr1⟩, hBr2⟩ := Br7.out
      have hx1 : IntKind.i64.wrap (E - 101) = E - 101 := IntWalk.i64_in _ (by omega)
      have hx3 : (E - 101).tdiv 2 = X := HX.out.symm
      have hx2 : IntKind.i64.wrap X = X := IntWalk.i64_in _ (by omega)
      by_cases hR : rt V * rt V = V
      · have Hmk : Hid (mkV (rt V : Int) false = (rk V : Int)) := Lib.hid (by rw [← mk_rk HV0.out]; congr 1; simp [hR])
        have HR := Lib.hid hR
        clear hR
        refine wp_region_held_drew (S := fun w' => (w'.cell? ⟨f, 0, none⟩ = some (.int .i64 S2) ∧ w'.cell? ⟨f, 1, none⟩ = some (.slice A2 n2 c2) ∧ w'.cell? ⟨f, 2, none⟩ = some (.int .i64 E)) ∧ (w'.cell? ⟨fBw, 0, none⟩ = some (.int .i64 S4) ∧ w'.cell? ⟨fBw, 1, none⟩ = some (.slice A4 n4 c4)) ∧ (w'.cell? ⟨fBr, 0, none⟩ = some (.int .i64 S6) ∧ w'.cell? ⟨fBr, 1, none⟩ = some (.slice A6 n6 c6))) (by kernel_rfl) ⟨Ba7.out.1, Bw7.out.1, Br7.out.1⟩ (fun hHeld => ?_)
        clear hBa0 hBa1 hBa2 hBa3 hBw0 hBw1 hBw2 hBr0 hBr1 hBr2
        refine wpAnyH_take (i := 0) (v := ?_) rfl (by kernel_rfl) (by kernel_rfl) (by kernel_rfl) (fun _ _ _ h => h) (Or.inl ⟨by rfl, ?_⟩) (by assumption) ?_
        rotate_left
        · (intro w hSw; (try dsimp only at hSw); go_simp; (try with_reducible rfl))
        try simp only [Act.put, List.setIfInBounds_toArray, List.set_cons_zero, List.set_cons_succ, List.getElem_toArray, List.getElem_cons_succ, List.getElem_cons_zero]
        refine wpAnyH_take (i := 1) (v := ?_) rfl (by kernel_rfl) (by kernel_rfl) (by kernel_rfl) (fun _ _ _ h => h) (Or.inl ⟨by rfl, ?_⟩) (by assumption) ?_
        rotate_left
        · (intro w hSw; (try dsimp only at hSw); go_simp; (try with_reducible rfl))
        try simp only [Act.put, List.setIfInBounds_toArray, List.set_cons_zero, List.set_cons_succ, List.getElem_toArray, List.getElem_cons_succ, List.getElem_cons_zero]
        refine wpAnyH_take (i := 2) (v := ?_) rfl (by kernel_rfl) (by kernel_rfl) (by kernel_rfl) (fun _ _ _ h => h) (Or.inl ⟨by rfl, ?_⟩) (by assumption) ?_
        rotate_left
        · (intro w hSw; (try dsimp only at hSw); go_simp; (try with_reducible rfl))
        try simp only [Act.put, List.setIfInBounds_toArray, List.set_cons_zero, List.set_cons_succ, List.getElem_toArray, List.getElem_cons_succ, List.getElem_cons_zero]
        refine wpAnyH_take (i := 3) (v := ?_) rfl (by kernel_rfl) (by kernel_rfl) (by kernel_rfl) (fun _ _ _ h => h) (Or.inl ⟨by rfl, ?_⟩) (by assumption) ?_
        rotate_left
        · (intro w hSw; (try dsimp only at hSw); go_simp; (try with_reducible rfl))
        try simp only [Act.put, List.setIfInBounds_toArray, List.set_cons_zero, List.set_cons_succ, List.getElem_toArray, List.getElem_cons_succ, List.getElem_cons_zero]
        refine wpAnyH_take (i := 4) (v := ?_) rfl (by kernel_rfl) (by kernel_rfl) (by kernel_rfl) (fun _ _ _ h => h) (Or.inl ⟨by rfl, ?_⟩) (by assumption) ?_
        rotate_left
        · (intro w hSw; (try dsimp only at hSw); go_simp; (try with_reducible rfl))
        try simp only [Act.put, List.setIfInBounds_toArray, List.set_cons_zero, List.set_cons_succ, List.getElem_toArray, List.getElem_cons_succ, List.getElem_cons_zero]
        refine wpAnyH_take (i := 5) (v := ?_) rfl (by kernel_rfl) (by kernel_rfl) (by kernel_rfl) (fun _ _ _ h => h) (Or.inl ⟨by rfl, ?_⟩) (by assumption) ?_
        rotate_left
        · (intro w hSw; (try dsimp only at hSw); go_simp; (try with_reducible rfl))
        try simp only [Act.put, List.setIfInBounds_toArray, List.set_cons_zero, List.set_cons_succ, List.getElem_toArray, List.getElem_cons_succ, List.getElem_cons_zero]
        refine wpAnyH_take (i := 6) (v := ?_) rfl (by kernel_rfl) (by kernel_rfl) (by kernel_rfl) (fun _ _ _ h => h) (Or.inl ⟨by rfl, ?_⟩) (by assumption) ?_
        rotate_left
        · (intro w hSw; (try dsimp only at hSw); go_simp; (try with_reducible rfl))
        try simp only [Act.put, List.setIfInBounds_toArray, List.set_cons_zero, List.set_cons_succ, List.getElem_toArray, List.getElem_cons_succ, List.getElem_cons_zero]
        refine wpAnyH_take (i := 7) (v := ?_) rfl (by kernel_rfl) (by kernel_rfl) (by kernel_rfl) (fun _ _ _ h => h) (Or.inl ⟨by rfl, ?_⟩) (by assumption) ?_
        rotate_left
        · (intro w hSw; (try dsimp only at hSw); go_simp; (try with_reducible rfl))
        try simp only [Act.put, List.setIfInBounds_toArray, List.set_cons_zero, List.set_cons_succ, List.getElem_toArray, List.getElem_cons_succ, List.getElem_cons_zero]
        refine wpAnyH_take (i := 9) (v := ?_) rfl (by kernel_rfl) (by kernel_rfl) (by kernel_rfl) (fun _ _ _ h => h) (Or.inl ⟨by rfl, ?_⟩) (by assumption) ?_
        rotate_left
        · (intro w hSw; (try dsimp only at hSw); go_simp; (try with_reducible rfl))
        try simp only [Act.put, List.setIfInBounds_toArray, List.set_cons_zero, List.set_cons_succ, List.getElem_toArray, List.getElem_cons_succ, List.getElem_cons_zero]
        refine wpAnyH_take (i := 13) (v := ?_) rfl (by kernel_rfl) (by kernel_rfl) (by kernel_rfl) (fun _ _ _ h => h) (Or.inl ⟨by rfl, ?_⟩) (by assumption) ?_
        rotate_left
        · (intro w hSw; (try dsimp only at hSw); go_simp; (try with_reducible rfl))
        try simp only [Act.put, List.setIfInBounds_toArray, List.set_cons_zero, List.set_cons_succ, List.getElem_toArray, List.getElem_cons_succ, List.getElem_cons_zero]
        refine wpAnyH_ready (rs := [8]) (by kernel_rfl) (by simp) ?_
        refine AllReadyH.cons rfl (fun K hK => ?_) AllReadyH.nil
        go_simp
        refine (specMulZ_any (rt V : Int) (rt V : Int) S6 S6 A6 A6 n6 n6 c6 c6 w7.drew Zr7.out Zr7.out (by have := Hn6.out; omega) (by have := Hn6.out; omega)).mono ?_
        rintro e w8 ⟨S8, A8, n8, c8, rfl, hzo, hb0⟩
        have hb : Below w7.heap.size w7 w8 := belDrew hb0
        have Zm8 : Hid (ZV w8 ((rt V : Int) * (rt V : Int)) S8 A8 n8 c8) := Lib.hid hzo.zv
        have Hn8 : Hid ((n8 : Int) ≤ 20) := Lib.hid (by have h := mulZ_len (z := (rt V : Int)) (z' := (rt V : Int)) Zr7.out.len Zr7.out.len; rw [Zm8.out.len] at h; have := Hn6.out; omega)
        clear hzo
        refine hK.out _ _ ⟨(Ba7.out.next hb).1, (Bw7.out.next hb).1, (Br7.out.next hb).1⟩ (fun hHeld => ?_)
        clear hK K hb0
        have Sz8 := Lib.hid (Below.size hb)
        have Bel8 := Lib.hid (belNext Bel7.out hb)
        have Zx8 := Lib.hid (Zx7.out.next hb)
        have Ba8 := Lib.hid (Ba7.out.next hb)
        have Zl8 := Lib.hid (Zl7.out.next hb)
        have Bw8 := Lib.hid (Bw7.out.next hb)
        have Zr8 := Lib.hid (Zr7.out.next hb)
        have Br8 := Lib.hid (Br7.out.next hb)
        clear hb Bel7 Zx7 Ba7 Zl7 Bw7 Zr7 Br7
        try simp only [Act.put, List.setIfInBounds_toArray, List.set_cons_zero, List.set_cons_succ, List.getElem_toArray, List.getElem_cons_succ, List.getElem_cons_zero]
        refine wpAnyH_ready (rs := [10]) (by kernel_rfl) (by simp) ?_
        refine AllReadyH.cons rfl (fun K hK => ?_) AllReadyH.nil
        go_simp
        refine (specCmpZ_any ((rt V : Int) * (rt V : Int)) (V : Int) S8 S4 A8 A4 n8 n4 c8 c4 w8 Zm8.out Zl8.out (by have := Hn8.out; omega) (by have := Hn4.out; omega)).mono ?_
        rintro e w9 ⟨rfl, hb0⟩
        have hb : Below w8.heap.size w8 w9 := hb0
        have hcm : cmpI ((rt V : Int) * (rt V : Int)) (V : Int) = 0 := by
          rw [← Int.natCast_mul, HR.out]; exact cmpI_eq _
        rw [hcm]
        refine hK.out _ _ ⟨(Ba8.out.next hb).1, (Bw8.out.next hb).1, (Br8.out.next hb).1⟩ (fun hHeld => ?_)
        clear hK K hb0
        have Sz9 := Lib.hid (Below.size hb)
        have Bel9 := Lib.hid (belNext Bel8.out hb)
        have Zx9 := Lib.hid (Zx8.out.next hb)
        have Ba9 := Lib.hid (Ba8.out.next hb)
        have Zl9 := Lib.hid (Zl8.out.next hb)
        have Bw9 := Lib.hid (Bw8.out.next hb)
        have Zr9 := Lib.hid (Zr8.out.next hb)
        have Br9 := Lib.hid (Br8.out.next hb)
        have Zm9 := Lib.hid (Zm8.out.next hb)
        clear hb Bel8 Zx8 Ba8 Zl8 Bw8 Zr8 Br8 Zm8
        try simp only [Act.put, List.setIfInBounds_toArray, List.set_cons_zero, List.set_cons_succ, List.getElem_toArray, List.getElem_cons_succ, List.getElem_cons_zero]
        refine wpAnyH_ready (rs := [11]) (by kernel_rfl) (by simp) ?_
        refine AllReadyH.cons rfl (fun K hK => ?_) AllReadyH.nil
        go_simp
        refine hK.out _ _ hHeld (fun hHeld => ?_)
        clear hK K
        try simp only [Act.put, List.setIfInBounds_toArray, List.set_cons_zero, List.set_cons_succ, List.getElem_toArray, List.getElem_cons_succ, List.getElem_cons_zero]
        refine wpAnyH_ready (rs := [12]) (by kernel_rfl) (by simp) ?_
        refine AllReadyH.cons rfl (fun K hK => ?_) AllReadyH.nil
        go_simp
        refine (specMark_any (rt V : Int) S6 X false A6 n6 c6 w9 Zr9.out (by have := Hn6.out; omega) (by omega) (by omega)).mono ?_
        rintro e w10 ⟨S10, A10, n10, c10, rfl, hzo, hb0⟩
        have hb : Below w9.heap.size w9 w10 := hb0
        rw [Hmk.out] at hzo ⊢
        have Zk10 : Hid (ZV w10 (nz (rk V : Int)) S10 A10 n10 c10) := Lib.hid hzo.zv
        have Hkl : Hid ((limbs (rk V : Int).natAbs).length ≤ 9) := Lib.hid (by rw [Int.natAbs_natCast]; exact rk_len (n := 8) (by have e := Zl9.out.lenN; have := Hn4.out; omega))
        have Hn10 : Hid ((n10 : Int) ≤ 9) := Lib.hid (by have h := hzo.zv.len; have h2 := limbs_len_mono (nz_le (rk V : Int)); have h3 := Hkl.out; omega)
        have Hodd : Hid (nz (rk V : Int) ≠ 0 → (nz (rk V : Int)).natAbs % 2 = 1) := Lib.hid (fun h => nz_odd (fun e => h (nz_eq_zero.2 e)))
        obtain ⟨vv, hvv⟩ : ∃ vv, vv = nx (rk V : Int) (X - 1) := ⟨_, rfl⟩
        rw [← hvv]
        have Hvv := Lib.hid hvv
        have hv1 : -2000 ≤ vv ∧ vv ≤ 2000 := by
          rw [hvv]
          by_cases h0 : (rk V : Int) = 0
          · rw [h0, nx_zero]; omega
          · rw [nx_ne h0]; have h := tz_le (v := (rk V : Int).natAbs) rfl; have h3 := Hkl.out; omega
        obtain ⟨hv1, hv2⟩ := hv1
        clear hzo hvv
        refine hK.out _ _ ⟨(Ba9.out.next hb).1, (Bw9.out.next hb).1, (Br9.out.next hb).1⟩ (fun hHeld => ?_)
        clear hK K hb0
        have Sz10 := Lib.hid (Below.size hb)
        have Bel10 := Lib.hid (belNext Bel9.out hb)
        have Zx10 := Lib.hid (Zx9.out.next hb)
        have Ba10 := Lib.hid (Ba9.out.next hb)
        have Zl10 := Lib.hid (Zl9.out.next hb)
        have Bw10 := Lib.hid (Bw9.out.next hb)
        have Zr10 := Lib.hid (Zr9.out.next hb)
        have Br10 := Lib.hid (Br9.out.next hb)
        clear hb Bel9 Zx9 Ba9 Zl9 Bw9 Zr9 Br9
        try simp only [Act.put, List.setIfInBounds_toArray, List.set_cons_zero, List.set_cons_succ, List.getElem_toArray, List.getElem_cons_succ, List.getElem_cons_zero]
        refine wpAnyH_ready (rs := [14]) (by kernel_rfl) (by simp) ?_
        refine AllReadyH.cons rfl (fun K hK => ?_) AllReadyH.nil
        go_simp
        refine (specRound_any (nz (rk V : Int)) S10 vv mode A10 n10 c10 w10 Zk10.out Hodd.out (by have := Hn10.out; omega) (by omega) (by omega) Hmo.out.1 Hmo.out.2).mono ?_
        rintro e w11 ⟨rfl, hb0⟩
        have hb : Below w10.heap.size w10 w11 := hb0
        rw [Hvv.out, ← Hrq.out.1, ← Hrq.out.2]
        refine hK.out _ _ ⟨(Ba10.out.next hb).1, (Bw10.out.next hb).1, (Br10.out.next hb).1⟩ (fun hHeld => ?_)
        clear hK K hb0
        have Sz11 := Lib.hid (Below.size hb)
        have Bel11 := Lib.hid (belNext Bel10.out hb)
        have Zx11 := Lib.hid (Zx10.out.next hb)
        have Ba11 := Lib.hid (Ba10.out.next hb)
        have Zl11 := Lib.hid (Zl10.out.next hb)
        have Bw11 := Lib.hid (Bw10.out.next hb)
        have Zr11 := Lib.hid (Zr10.out.next hb)
        have Br11 := Lib.hid (Br10.out.next hb)
        have Zk11 := Lib.hid (Zk10.out.next hb)
        clear hb Bel10 Zx10 Ba10 Zl10 Bw10 Zr10 Br10 Zk10
        try simp only [Act.put, List.setIfInBounds_toArray, List.set_cons_zero, List.set_cons_succ, List.getElem_toArray, List.getElem_cons_succ, List.getElem_cons_zero]
        refine wpAnyH_take (i := 15) (v := ?_) rfl (by kernel_rfl) (by kernel_rfl) (by kernel_rfl) (fun _ _ _ h => h) (Or.inl ⟨by rfl, ?_⟩) (by assumption) ?_
        rotate_left
        · (intro w hSw; (try dsimp only at hSw); go_simp; (try with_reducible rfl))
        try simp only [Act.put, List.setIfInBounds_toArray, List.set_cons_zero, List.set_cons_succ, List.getElem_toArray, List.getElem_cons_succ, List.getElem_cons_zero]
        refine wpAnyH_take (i := 16) (v := ?_) rfl (by kernel_rfl) (by kernel_rfl) (by kernel_rfl) (fun _ _ _ h => h) (Or.inl ⟨by rfl, ?_⟩) (by assumption) ?_
        rotate_left
        · (intro w hSw; (try dsimp only at hSw); go_simp; (try with_reducible rfl))
        try simp only [Act.put, List.setIfInBounds_toArray, List.set_cons_zero, List.set_cons_succ, List.getElem_toArray, List.getElem_cons_succ, List.getElem_cons_zero]
        refine wpAnyH_take (i := 17) (v := ?_) rfl (by kernel_rfl) (by kernel_rfl) (by kernel_rfl) (fun _ _ _ h => h) (Or.inl ⟨by rfl, ?_⟩) (by assumption) ?_
        rotate_left
        · (intro w hSw; (try dsimp only at hSw); go_simp; (try with_reducible rfl))
        try simp only [Act.put, List.setIfInBounds_toArray, List.set_cons_zero, List.set_cons_succ, List.getElem_toArray, List.getElem_cons_succ, List.getElem_cons_zero]
        refine wpAnyH_ready (rs := [18]) (by kernel_rfl) (by simp) ?_
        refine AllReadyH.cons rfl (fun K hK => ?_) AllReadyH.nil
        go_simp
        refine hK.out _ _ hHeld (fun hHeld => ?_)
        clear hK K
        try simp only [Act.put, List.setIfInBounds_toArray, List.set_cons_zero, List.set_cons_succ, List.getElem_toArray, List.getElem_cons_succ, List.getElem_cons_zero]
        refine wpAnyH_ready (rs := [19]) (by kernel_rfl) (by simp) ?_
        refine AllReadyH.cons rfl (fun K hK => ?_) AllReadyH.nil
        go_simp
        refine hK.out _ _ hHeld (fun hHeld => ?_)
        clear hK K
        try simp only [Act.put, List.setIfInBounds_toArray, List.set_cons_zero, List.set_cons_succ, List.getElem_toArray, List.getElem_cons_succ, List.getElem_cons_zero]
        clear hHeld
        refine wpAnyH_done (by kernel_rfl) ?_ _
        go_wp2_with fail
        go_ret2
        exact ⟨rfl, Bel11.out⟩
      · have Hmk : Hid (mkV (rt V : Int) true = (rk V : Int)) := Lib.hid (by rw [← mk_rk HV0.out]; congr 1; simp [hR])
        have HR := Lib.hid hR
        clear hR
        refine wp_region_held_drew (S := fun w' => (w'.cell? ⟨f, 0, none⟩ = some (.int .i64 S2) ∧ w'.cell? ⟨f, 1, none⟩ = some (.slice A2 n2 c2) ∧ w'.cell? ⟨f, 2, none⟩ = some (.int .i64 E)) ∧ (w'.cell? ⟨fBw, 0, none⟩ = some (.int .i64 S4) ∧ w'.cell? ⟨fBw, 1, none⟩ = some (.slice A4 n4 c4)) ∧ (w'.cell? ⟨fBr, 0, none⟩ = some (.int .i64 S6) ∧ w'.cell? ⟨fBr, 1, none⟩ = some (.slice A6 n6 c6))) (by kernel_rfl) ⟨Ba7.out.1, Bw7.out.1, Br7.out.1⟩ (fun hHeld => ?_)
        clear hBa0 hBa1 hBa2 hBa3 hBw0 hBw1 hBw2 hBr0 hBr1 hBr2
        refine wpAnyH_take (i := 0) (v := ?_) rfl (by kernel_rfl) (by kernel_rfl) (by kernel_rfl) (fun _ _ _ h => h) (Or.inl ⟨by rfl, ?_⟩) (by assumption) ?_
        rotate_left
        · (intro w hSw; (try dsimp only at hSw); go_simp; (try with_reducible rfl))
        try simp only [Act.put, List.setIfInBounds_toArray, List.set_cons_zero, List.set_cons_succ, List.getElem_toArray, List.getElem_cons_succ, List.getElem_cons_zero]
        refine wpAnyH_take (i := 1) (v := ?_) rfl (by kernel_rfl) (by kernel_rfl) (by kernel_rfl) (fun _ _ _ h => h) (Or.inl ⟨by rfl, ?_⟩) (by assumption) ?_
        rotate_left
        · (intro w hSw; (try dsimp only at hSw); go_simp; (try with_reducible rfl))
        try simp only [Act.put, List.setIfInBounds_toArray, List.set_cons_zero, List.set_cons_succ, List.getElem_toArray, List.getElem_cons_succ, List.getElem_cons_zero]
        refine wpAnyH_take (i := 2) (v := ?_) rfl (by kernel_rfl) (by kernel_rfl) (by kernel_rfl) (fun _ _ _ h => h) (Or.inl ⟨by rfl, ?_⟩) (by assumption) ?_
        rotate_left
        · (intro w hSw; (try dsimp only at hSw); go_simp; (try with_reducible rfl))
        try simp only [Act.put, List.setIfInBounds_toArray, List.set_cons_zero, List.set_cons_succ, List.getElem_toArray, List.getElem_cons_succ, List.getElem_cons_zero]
        refine wpAnyH_take (i := 3) (v := ?_) rfl (by kernel_rfl) (by kernel_rfl) (by kernel_rfl) (fun _ _ _ h => h) (Or.inl ⟨by rfl, ?_⟩) (by assumption) ?_
        rotate_left
        · (intro w hSw; (try dsimp only at hSw); go_simp; (try with_reducible rfl))
        try simp only [Act.put, List.setIfInBounds_toArray, List.set_cons_zero, List.set_cons_succ, List.getElem_toArray, List.getElem_cons_succ, List.getElem_cons_zero]
        refine wpAnyH_take (i := 4) (v := ?_) rfl (by kernel_rfl) (by kernel_rfl) (by kernel_rfl) (fun _ _ _ h => h) (Or.inl ⟨by rfl, ?_⟩) (by assumption) ?_
        rotate_left
        · (intro w hSw; (try dsimp only at hSw); go_simp; (try with_reducible rfl))
        try simp only [Act.put, List.setIfInBounds_toArray, List.set_cons_zero, List.set_cons_succ, List.getElem_toArray, List.getElem_cons_succ, List.getElem_cons_zero]
        refine wpAnyH_take (i := 5) (v := ?_) rfl (by kernel_rfl) (by kernel_rfl) (by kernel_rfl) (fun _ _ _ h => h) (Or.inl ⟨by rfl, ?_⟩) (by assumption) ?_
        rotate_left
        · (intro w hSw; (try dsimp only at hSw); go_simp; (try with_reducible rfl))
        try simp only [Act.put, List.setIfInBounds_toArray, List.set_cons_zero, List.set_cons_succ, List.getElem_toArray, List.getElem_cons_succ, List.getElem_cons_zero]
        refine wpAnyH_take (i := 6) (v := ?_) rfl (by kernel_rfl) (by kernel_rfl) (by kernel_rfl) (fun _ _ _ h => h) (Or.inl ⟨by rfl, ?_⟩) (by assumption) ?_
        rotate_left
        · (intro w hSw; (try dsimp only at hSw); go_simp; (try with_reducible rfl))
        try simp only [Act.put, List.setIfInBounds_toArray, List.set_cons_zero, List.set_cons_succ, List.getElem_toArray, List.getElem_cons_succ, List.getElem_cons_zero]
        refine wpAnyH_take (i := 7) (v := ?_) rfl (by kernel_rfl) (by kernel_rfl) (by kernel_rfl) (fun _ _ _ h => h) (Or.inl ⟨by rfl, ?_⟩) (by assumption) ?_
        rotate_left
        · (intro w hSw; (try dsimp only at hSw); go_simp; (try with_reducible rfl))
        try simp only [Act.put, List.setIfInBounds_toArray, List.set_cons_zero, List.set_cons_succ, List.getElem_toArray, List.getElem_cons_succ, List.getElem_cons_zero]
        refine wpAnyH_take (i := 9) (v := ?_) rfl (by kernel_rfl) (by kernel_rfl) (by kernel_rfl) (fun _ _ _ h => h) (Or.inl ⟨by rfl, ?_⟩) (by assumption) ?_
        rotate_left
        · (intro w hSw; (try dsimp only at hSw); go_simp; (try with_reducible rfl))
        try simp only [Act.put, List.setIfInBounds_toArray, List.set_cons_zero, List.set_cons_succ, List.getElem_toArray, List.getElem_cons_succ, List.getElem_cons_zero]
        refine wpAnyH_take (i := 13) (v := ?_) rfl (by kernel_rfl) (by kernel_rfl) (by kernel_rfl) (fun _ _ _ h => h) (Or.inl ⟨by rfl, ?_⟩) (by assumption) ?_
        rotate_left
        · (intro w hSw; (try dsimp only at hSw); go_simp; (try with_reducible rfl))
        try simp only [Act.put, List.setIfInBounds_toArray, List.set_cons_zero, List.set_cons_succ, List.getElem_toArray, List.getElem_cons_succ, List.getElem_cons_zero]
        refine wpAnyH_ready (rs := [8]) (by kernel_rfl) (by simp) ?_
        refine AllReadyH.cons rfl (fun K hK => ?_) AllReadyH.nil
        go_simp
        refine (specMulZ_any (rt V : Int) (rt V : Int) S6 S6 A6 A6 n6 n6 c6 c6 w7.drew Zr7.out Zr7.out (by have := Hn6.out; omega) (by have := Hn6.out; omega)).mono ?_
        rintro e w8 ⟨S8, A8, n8, c8, rfl, hzo, hb0⟩
        have hb : Below w7.heap.size w7 w8 := belDrew hb0
        have Zm8 : Hid (ZV w8 ((rt V : Int) * (rt V : Int)) S8 A8 n8 c8) := Lib.hid hzo.zv
        have Hn8 : Hid ((n8 : Int) ≤ 20) := Lib.hid (by have h := mulZ_len (z := (rt V : Int)) (z' := (rt V : Int)) Zr7.out.len Zr7.out.len; rw [Zm8.out.len] at h; have := Hn6.out; omega)
        clear hzo
        refine hK.out _ _ ⟨(Ba7.out.next hb).1, (Bw7.out.next hb).1, (Br7.out.next hb).1⟩ (fun hHeld => ?_)
        clear hK K hb0
        have Sz8 := Lib.hid (Below.size hb)
        have Bel8 := Lib.hid (belNext Bel7.out hb)
        have Zx8 := Lib.hid (Zx7.out.next hb)
        have Ba8 := Lib.hid (Ba7.out.next hb)
        have Zl8 := Lib.hid (Zl7.out.next hb)
        have Bw8 := Lib.hid (Bw7.out.next hb)
        have Zr8 := Lib.hid (Zr7.out.next hb)
        have Br8 := Lib.hid (Br7.out.next hb)
        clear hb Bel7 Zx7 Ba7 Zl7 Bw7 Zr7 Br7
        try simp only [Act.put, List.setIfInBounds_toArray, List.set_cons_zero, List.set_cons_succ, List.getElem_toArray, List.getElem_cons_succ, List.getElem_cons_zero]
        refine wpAnyH_ready (rs := [10]) (by kernel_rfl) (by simp) ?_
        refine AllReadyH.cons rfl (fun K hK => ?_) AllReadyH.nil
        go_simp
        refine (specCmpZ_any ((rt V : Int) * (rt V : Int)) (V : Int) S8 S4 A8 A4 n8 n4 c8 c4 w8 Zm8.out Zl8.out (by have := Hn8.out; omega) (by have := Hn4.out; omega)).mono ?_
        rintro e w9 ⟨rfl, hb0⟩
        have hb : Below w8.heap.size w8 w9 := hb0
        obtain ⟨cm, hcm⟩ : ∃ cm, cm = cmpI ((rt V : Int) * (rt V : Int)) (V : Int) := ⟨_, rfl⟩
        rw [← hcm]
        have hcm2 : (cm != 0) = true := by
          have h : cm ≠ 0 := by
            rw [hcm, ← Int.natCast_mul]
            have := HR.out
            generalize rt V * rt V = Y at *
            unfold cmpI
            split
            · omega
            · rw [if_neg (by omega)]; omega
          simp [h]
        clear hcm
        refine hK.out _ _ ⟨(Ba8.out.next hb).1, (Bw8.out.next hb).1, (Br8.out.next hb).1⟩ (fun hHeld => ?_)
        clear hK K hb0
        have Sz9 := Lib.hid (Below.size hb)
        have Bel9 := Lib.hid (belNext Bel8.out hb)
        have Zx9 := Lib.hid (Zx8.out.next hb)
        have Ba9 := Lib.hid (Ba8.out.next hb)
        have Zl9 := Lib.hid (Zl8.out.next hb)
        have Bw9 := Lib.hid (Bw8.out.next hb)
        have Zr9 := Lib.hid (Zr8.out.next hb)
        have Br9 := Lib.hid (Br8.out.next hb)
        have Zm9 := Lib.hid (Zm8.out.next hb)
        clear hb Bel8 Zx8 Ba8 Zl8 Bw8 Zr8 Br8 Zm8
        try simp only [Act.put, List.setIfInBounds_toArray, List.set_cons_zero, List.set_cons_succ, List.getElem_toArray, List.getElem_cons_succ, List.getElem_cons_zero]
        refine wpAnyH_ready (rs := [11]) (by kernel_rfl) (by simp) ?_
        refine AllReadyH.cons rfl (fun K hK => ?_) AllReadyH.nil
        go_simp
        refine hK.out _ _ hHeld (fun hHeld => ?_)
        clear hK K
        try simp only [Act.put, List.setIfInBounds_toArray, List.set_cons_zero, List.set_cons_succ, List.getElem_toArray, List.getElem_cons_succ, List.getElem_cons_zero]
        refine wpAnyH_ready (rs := [12]) (by kernel_rfl) (by simp) ?_
        refine AllReadyH.cons rfl (fun K hK => ?_) AllReadyH.nil
        go_simp
        refine (specMark_any (rt V : Int) S6 X true A6 n6 c6 w9 Zr9.out (by have := Hn6.out; omega) (by omega) (by omega)).mono ?_
        rintro e w10 ⟨S10, A10, n10, c10, rfl, hzo, hb0⟩
        have hb : Below w9.heap.size w9 w10 := hb0
        rw [Hmk.out] at hzo ⊢
        have Zk10 : Hid (ZV w10 (nz (rk V : Int)) S10 A10 n10 c10) := Lib.hid hzo.zv
        have Hkl : Hid ((limbs (rk V : Int).natAbs).length ≤ 9) := Lib.hid (by rw [Int.natAbs_natCast]; exact rk_len (n := 8) (by have e := Zl9.out.lenN; have := Hn4.out; omega))
        have Hn10 : Hid ((n10 : Int) ≤ 9) := Lib.hid (by have h := hzo.zv.len; have h2 := limbs_len_mono (nz_le (rk V : Int)); have h3 := Hkl.out; omega)
        have Hodd : Hid (nz (rk V : Int) ≠ 0 → (nz (rk V : Int)).natAbs % 2 = 1) := Lib.hid (fun h => nz_odd (fun e => h (nz_eq_zero.2 e)))
        obtain ⟨vv, hvv⟩ : ∃ vv, vv = nx (rk V : Int) (X - 1) := ⟨_, rfl⟩
        rw [← hvv]
        have Hvv := Lib.hid hvv
        have hv1 : -2000 ≤ vv ∧ vv ≤ 2000 := by
          rw [hvv]
          by_cases h0 : (rk V : Int) = 0
          · rw [h0, nx_zero]; omega
          · rw [nx_ne h0]; have h := tz_le (v := (rk V : Int).natAbs) rfl; have h3 := Hkl.out; omega
        obtain ⟨hv1, hv2⟩ := hv1
        clear hzo hvv
        refine hK.out _ _ ⟨(Ba9.out.next hb).1, (Bw9.out.next hb).1, (Br9.out.next hb).1⟩ (fun hHeld => ?_)
        clear hK K hb0
        have Sz10 := Lib.hid (Below.size hb)
        have Bel10 := Lib.hid (belNext Bel9.out hb)
        have Zx10 := Lib.hid (Zx9.out.next hb)
        have Ba10 := Lib.hid (Ba9.out.next hb)
        have Zl10 := Lib.hid (Zl9.out.next hb)
        have Bw10 := Lib.hid (Bw9.out.next hb)
        have Zr10 := Lib.hid (Zr9.out.next hb)
        have Br10 := Lib.hid (Br9.out.next hb)
        clear hb Bel9 Zx9 Ba9 Zl9 Bw9 Zr9 Br9
        try simp only [Act.put, List.setIfInBounds_toArray, List.set_cons_zero, List.set_cons_succ, List.getElem_toArray, List.getElem_cons_succ, List.getElem_cons_zero]
        refine wpAnyH_ready (rs := [14]) (by kernel_rfl) (by simp) ?_
        refine AllReadyH.cons rfl (fun K hK => ?_) AllReadyH.nil
        go_simp
        refine (specRound_any (nz (rk V : Int)) S10 vv mode A10 n10 c10 w10 Zk10.out Hodd.out (by have := Hn10.out; omega) (by omega) (by omega) Hmo.out.1 Hmo.out.2).mono ?_
        rintro e w11 ⟨rfl, hb0⟩
        have hb : Below w10.heap.size w10 w11 := hb0
        rw [Hvv.out, ← Hrq.out.1, ← Hrq.out.2]
        refine hK.out _ _ ⟨(Ba10.out.next hb).1, (Bw10.out.next hb).1, (Br10.out.next hb).1⟩ (fun hHeld => ?_)
        clear hK K hb0
        have Sz11 := Lib.hid (Below.size hb)
        have Bel11 := Lib.hid (belNext Bel10.out hb)
        have Zx11 := Lib.hid (Zx10.out.next hb)
        have Ba11 := Lib.hid (Ba10.out.next hb)
        have Zl11 := Lib.hid (Zl10.out.next hb)
        have Bw11 := Lib.hid (Bw10.out.next hb)
        have Zr11 := Lib.hid (Zr10.out.next hb)
        have Br11 := Lib.hid (Br10.out.next hb)
        have Zk11 := Lib.hid (Zk10.out.next hb)
        clear hb Bel10 Zx10 Ba10 Zl10 Bw10 Zr10 Br10 Zk10
        try simp only [Act.put, List.setIfInBounds_toArray, List.set_cons_zero, List.set_cons_succ, List.getElem_toArray, List.getElem_cons_succ, List.getElem_cons_zero]
        refine wpAnyH_take (i := 15) (v := ?_) rfl (by kernel_rfl) (by kernel_rfl) (by kernel_rfl) (fun _ _ _ h => h) (Or.inl ⟨by rfl, ?_⟩) (by assumption) ?_
        rotate_left
        · (intro w hSw; (try dsimp only at hSw); go_simp; (try with_reducible rfl))
        try simp only [Act.put, List.setIfInBounds_toArray, List.set_cons_zero, List.set_cons_succ, List.getElem_toArray, List.getElem_cons_succ, List.getElem_cons_zero]
        refine wpAnyH_take (i := 16) (v := ?_) rfl (by kernel_rfl) (by kernel_rfl) (by kernel_rfl) (fun _ _ _ h => h) (Or.inl ⟨by rfl, ?_⟩) (by assumption) ?_
        rotate_left
        · (intro w hSw; (try dsimp only at hSw); go_simp; (try with_reducible rfl))
        try simp only [Act.put, List.setIfInBounds_toArray, List.set_cons_zero, List.set_cons_succ, List.getElem_toArray, List.getElem_cons_succ, List.getElem_cons_zero]
        refine wpAnyH_take (i := 17) (v := ?_) rfl (by kernel_rfl) (by kernel_rfl) (by kernel_rfl) (fun _ _ _ h => h) (Or.inl ⟨by rfl, ?_⟩) (by assumption) ?_
        rotate_left
        · (intro w hSw; (try dsimp only at hSw); go_simp; (try with_reducible rfl))
        try simp only [Act.put, List.setIfInBounds_toArray, List.set_cons_zero, List.set_cons_succ, List.getElem_toArray, List.getElem_cons_succ, List.getElem_cons_zero]
        refine wpAnyH_ready (rs := [18]) (by kernel_rfl) (by simp) ?_
        refine AllReadyH.cons rfl (fun K hK => ?_) AllReadyH.nil
        go_simp
        refine hK.out _ _ hHeld (fun hHeld => ?_)
        clear hK K
        try simp only [Act.put, List.setIfInBounds_toArray, List.set_cons_zero, List.set_cons_succ, List.getElem_toArray, List.getElem_cons_succ, List.getElem_cons_zero]
        refine wpAnyH_ready (rs := [19]) (by kernel_rfl) (by simp) ?_
        refine AllReadyH.cons rfl (fun K hK => ?_) AllReadyH.nil
        go_simp
        refine hK.out _ _ hHeld (fun hHeld => ?_)
        clear hK K
        try simp only [Act.put, List.setIfInBounds_toArray, List.set_cons_zero, List.set_cons_succ, List.getElem_toArray, List.getElem_cons_succ, List.getElem_cons_zero]
        clear hHeld
        refine wpAnyH_done (by kernel_rfl) ?_ _
        go_wp2_with fail
        go_ret2
        exact ⟨rfl, Bel11.out⟩

end Go.Proofs.YtcjamfoiilgfoaaGreatDoor
/- RootIn, of the model and of the program. -/
namespace Go.Proofs.YtcjamfoiilgfoaaGreatDoor
set_option maxRecDepth 100000
open Go.RowKit
set_option linter.unusedSimpArgs false
set_option linter.unusedVariables false
attribute [local go_sem ↓] Go.wp_at_zero Go.wp_at_succ

theorem rd_onef (w : World) (x : Nat) (t : TypeId) : Rd (w.alloc (.cells #[.float .f32 x] t)) (w.alloc (.cells #[.float .f32 x] t)).heap.size (some ⟨w.heap.size, 0, none⟩) (fs [x]) := by
  intro k u hu
  have hk : k < 1 := by simpa [fs] using (List.getElem?_eq_some_iff.1 hu).1
  refine ⟨_, rfl, by simp, ?_⟩
  rw [add_zero_off]
  obtain rfl : k = 0 := by omega
  simp [fs] at hu
  subst hu
  go_simp
theorem ckE_one (x : Nat) (mode : Int) : ckE [x, 0] mode = ckE [x] mode := by
  have h0 : fin32 0 = true := by decide
  unfold ckE
  simp [h0]
noncomputable def rtC (x : Nat) (mode : Int) : Int := if ckE [x, 0] mode = 0 then (if place32 x < 0 then 5 else 0) else ckE [x, 0] mode
noncomputable def rtF (x : Nat) (mode : Int) : Nat := if rtC x mode = 0 then rqF x mode else 0
noncomputable def rtL (x : Nat) (mode : Int) : Int := if rtC x mode = 0 then rqL x mode else 0
theorem ro_len {x : Nat} (hf : fin32 x = true) (h : 0 ≤ fz x) : (limbs (roZ (fz x) (fe x)).natAbs).length ≤ 10 := by
  rcases Int.lt_or_eq_of_le h with h | h
  · obtain ⟨m, hm, hm2⟩ := ro_places hf h
    have hq := (ro_test h hm).1
    have h1 := fz_len hf rfl
    have h2 := shl_len (v := (fz x).natAbs) rfl m
    have h3 : (limbs (roQ (fz x) (fe x)).natAbs).length ≤ 8 := by
      rw [hq, Int.natAbs_natCast]
      exact rt_len (by omega)
    unfold roZ
    split
    · omega
    · refine Nat.le_trans (twice_len (v := (roQ (fz x) (fe x)).natAbs) ?_ h3) (by omega)
      generalize roQ (fz x) (fe x) = Q
      generalize roK (fz x) (fe x) = K
      rw [sumZ_ge (by omega), show -K - (-K - 1) = 1 by omega]
      rw [show (2 : Int) ^ (1 : Int).toNat = 2 from rfl]
      omega
  · rw [← h, ro_zero]; simp [limbs_zero]
theorem ro_exp {x : Nat} (hf : fin32 x = true) : -1000 ≤ roE (fz x) (fe x) ∧ roE (fz x) (fe x) ≤ 1000 := by
  obtain ⟨e1, e2⟩ := fe_small hf
  have hb := blen_small hf
  have h3 := td2 ((blen (fz x).natAbs : Int) + fe x)
  unfold roE roK
  split <;> omega
theorem fz_nonneg {b : Nat} (h : ¬ place32 b < 0) : 0 ≤ fz b := by
  by_cases h0 : place32 b = 0
  · rw [fz_zero.2 h0]; omega
  · have := fz_pos h h0; omega

set_option maxHeartbeats 4000000 in
theorem implRootIn_any (x : Nat) (mode : Int) (w : World) (hx : x < 4294967296) (hT : TabZ w) :
    Calls Tryz.prog 19 #[.float .f32 x, .int .i64 mode] w fun e w' => e = .returned (.tuple #[.float .f32 (rtF x mode), .int .i64 (rtL x mode), .int .i64 (rtC x mode)]) ∧ Below w.heap.size w w' := by
  have Hx := Lib.hid hx
  obtain ⟨w1, hw1⟩ : ∃ w1, w1 = w.alloc (.cells #[.float .f32 x] 37) := ⟨_, rfl⟩
  have Hr : Hid (Rd w1 w1.heap.size (some ⟨w.heap.size, 0, none⟩) (fs [x])) := Lib.hid (by rw [hw1]; exact rd_onef _ _ _)
  have Bel1 : Hid (Below w.heap.size w w1) := Lib.hid (by rw [hw1]; exact belAlloc1 _ _)
  have Tb1 := Lib.hid (hT.next Bel1.out)
  have Hw := Lib.hid hw1
  clear hx hw1 hT
  go_enter Tryz.func19, Tryz.ntmps19
  go_wp2_with fail
  rw [← Hw.out]
  refine (check_any mode [x] _ 1 1 _ w1 Hr.out rfl (by omega) (by have h := Hx.out; simp; exact h)).mono ?_
  rintro e w9 ⟨rfl, rfl⟩
  rw [← ckE_one]
  by_cases hc : ckE [x, 0] mode = 0
  · have Hc := Lib.hid hc
    obtain ⟨hf1, _, hm1, hm2⟩ := ckE_zero hc
    have Hf := Lib.hid hf1
    have Hmo := Lib.hid (And.intro hm1 hm2)
    have hE := lt_zero32 x Hx.out (fin_nan hf1)
    obtain ⟨e1, e2⟩ := fe_small hf1
    rw [hc]
    clear hc hf1 hm1 hm2
    by_cases h0 : place32 x < 0
    · rw [decide_eq_true h0] at hE
      have Hres : Hid (rtC x mode = 5) := Lib.hid (by unfold rtC; rw [if_pos Hc.out, if_pos h0])
      have Hr2 : Hid (rtF x mode = 0 ∧ rtL x mode = 0) := Lib.hid (by unfold rtF rtL; rw [if_neg (by rw [Hres.out]; omega), if_neg (by rw [Hres.out]; omega)]; exact ⟨rfl, rfl⟩)
      clear h0
      go_wp2_with fail
      go_ret3
      exact ⟨ret_flo Hr2.out.1.symm Hr2.out.2.symm Hres.out.symm, Bel1.out⟩
    · rw [decide_eq_false h0] at hE
      have Hres : Hid (rtC x mode = 0) := Lib.hid (by unfold rtC; rw [if_pos Hc.out, if_neg h0])
      have Hr2 : Hid (rtF x mode = rqF x mode ∧ rtL x mode = rqL x mode) := Lib.hid (by unfold rtF rtL; rw [if_pos Hres.out, if_pos Hres.out]; exact ⟨rfl, rfl⟩)
      have H0 := Lib.hid h0
      clear h0
      go_wp2_with fail
      refine (exactOf_any x _ Hx.out Hf.out Tb1.out).mono ?_
      rintro e w2 ⟨S2, A2, n2, c2, rfl, hzo, hb⟩
      rw [show nx (ofM x) (ofP x) = fe x from rfl]
      have Zx2 : Hid (ZV w2 (fz x) S2 A2 n2 c2) := Lib.hid hzo.zv
      have Hn2 : Hid ((n2 : Int) ≤ 1) := Lib.hid (fz_len Hf.out hzo.zv.len)
      clear hzo
      have Sz2 := Lib.hid (Below.size hb)
      have Bel2 := Lib.hid (belNext Bel1.out hb)
      have Tb2 := Lib.hid (Tb1.out.next hb)
      clear hb Bel1 Tb1
      go_wp2_with fail
      refine (exRoot_any (fz x) S2 (fe x) (sgn x) A2 n2 c2 _ Zx2.out (fz_nonneg (by have := H0.out; omega)) (by have := Hn2.out; omega) (by omega) (by omega) Tb2.out).mono ?_
      rintro e w3 ⟨S4, A4, n4, c4, rfl, hzo, hb⟩
      have Zr3 : Hid (ZV w3 (roZ (fz x) (fe x)) S4 A4 n4 c4) := Lib.hid hzo.zv
      have Hn4 : Hid ((n4 : Int) ≤ 10) := Lib.hid (by have h := ro_len Hf.out (fz_nonneg (by have := H0.out; omega)); rw [hzo.zv.len] at h; omega)
      obtain ⟨v1, v2⟩ := ro_exp Hf.out
      obtain ⟨E4, hE4⟩ : ∃ E4, E4 = roE (fz x) (fe x) := ⟨_, rfl⟩
      obtain ⟨z4, hz4⟩ : ∃ z4, z4 = roZ (fz x) (fe x) := ⟨_, rfl⟩
      rw [← hE4] at v1 v2 ⊢
      rw [← hz4] at Zr3
      have Hr3 : Hid (xF z4 E4 (sgn x) mode = rqF x mode ∧ xL z4 E4 mode = rqL x mode) := Lib.hid (by rw [hz4, hE4]; exact ⟨rfl, rfl⟩)
      clear hzo hE4 hz4
      have Sz3 := Lib.hid (Below.size hb)
      have Bel3 := Lib.hid (belNext Bel2.out hb)
      have Tb3 := Lib.hid (Tb2.out.next hb)
      have Zx3 := Lib.hid (Zx2.out.next hb)
      clear hb Bel2 Tb2 Zx2
      go_wp2_with fail
      refine (exRounded_any z4 S4 E4 (sgn x) mode A4 n4 c4 _ Zr3.out (by have := Hn4.out; omega) (by omega) (by omega) Hmo.out.1 Hmo.out.2 Tb3.out).mono ?_
      rintro e w4 ⟨rfl, hb⟩
      rw [Hr3.out.1, Hr3.out.2]
      have Sz4 := Lib.hid (Below.size hb)
      have Bel4 := Lib.hid (belNext Bel3.out hb)
      have Tb4 := Lib.hid (Tb3.out.next hb)
      have Zx4 := Lib.hid (Zx3.out.next hb)
      have Zr4 := Lib.hid (Zr3.out.next hb)
      clear hb Bel3 Tb3 Zx3 Zr3
      go_wp2_with fail
      go_ret3
      exact ⟨ret_flo Hr2.out.1.symm Hr2.out.2.symm Hres.out.symm, Bel4.out⟩
  · obtain ⟨cd, hcd⟩ : ∃ cd, cd = ckE [x, 0] mode := ⟨_, rfl⟩
    rw [← hcd] at hc
    have hc2 : (cd == 0) = false := beq_false_of_ne hc
    have hc3 : (cd != 0) = true := by simp [hc]
    have Hres : Hid (rtC x mode = cd) := Lib.hid (by unfold rtC; rw [if_neg (by rw [← hcd]; exact hc), hcd])
    have Hr2 : Hid (rtF x mode = 0 ∧ rtL x mode = 0) := Lib.hid (by unfold rtF rtL; rw [if_neg (by rw [Hres.out]; exact hc), if_neg (by rw [Hres.out]; exact hc)]; exact ⟨rfl, rfl⟩)
    rw [← hcd]
    clear hcd
    go_wp2_with fail
    go_ret3
    exact ⟨ret_flo Hr2.out.1.symm Hr2.out.2.symm Hres.out.symm, Bel1.out⟩

set_option maxHeartbeats 4000000 in
theorem specRootIn_any (x : Nat) (mode : Int) (w : World) (hx : x < 4294967296) :
    Calls Tryz.prog 18 #[.float .f32 x, .int .i64 mode] w fun e w' => e = .returned (.tuple #[.float .f32 (rtF x mode), .int .i64 (rtL x mode), .int .i64 (rtC x mode)]) ∧ Below w.heap.size w w' := by
  have Hx := Lib.hid hx
  obtain ⟨w1, hw1⟩ : ∃ w1, w1 = w := ⟨_, rfl⟩
  have Bel1 : Hid (Below w.heap.size w w1) := Lib.hid (by rw [hw1]; exact Below.refl _ _)
  have Hw := Lib.hid hw1
  clear hx hw1
  go_enter Tryz.func18, Tryz.ntmps18
  go_wp2_with fail
  rw [← Hw.out]
  refine (specTwo_any x 0 mode _ Hx.out (by omega)).mono ?_
  rintro e w2 ⟨rfl, hb⟩
  have Sz2 := Lib.hid (Below.size hb)
  have Bel2 := Lib.hid (belNext Bel1.out hb)
  clear hb Bel1
  by_cases hc : ckE [x, 0] mode = 0
  · have Hc := Lib.hid hc
    obtain ⟨hf1, _, hm1, hm2⟩ := ckE_zero hc
    have Hf := Lib.hid hf1
    have Hmo := Lib.hid (And.intro hm1 hm2)
    have hE := lt_zero32 x Hx.out (fin_nan hf1)
    obtain ⟨e1, e2⟩ := fe_small hf1
    rw [hc]
    clear hc hf1 hm1 hm2
    by_cases h0 : place32 x < 0
    · rw [decide_eq_true h0] at hE
      have Hres : Hid (rtC x mode = 5) := Lib.hid (by unfold rtC; rw [if_pos Hc.out, if_pos h0])
      have Hr2 : Hid (rtF x mode = 0 ∧ rtL x mode = 0) := Lib.hid (by unfold rtF rtL; rw [if_neg (by rw [Hres.out]; omega), if_neg (by rw [Hres.out]; omega)]; exact ⟨rfl, rfl⟩)
      clear h0
      go_wp2_with fail
      go_ret3
      exact ⟨ret_flo Hr2.out.1.symm Hr2.out.2.symm Hres.out.symm, Bel2.out⟩
    · rw [decide_eq_false h0] at hE
      have Hres : Hid (rtC x mode = 0) := Lib.hid (by unfold rtC; rw [if_pos Hc.out, if_neg h0])
      have Hr2 : Hid (rtF x mode = rqF x mode ∧ rtL x mode = rqL x mode) := Lib.hid (by unfold rtF rtL; rw [if_pos Hres.out, if_pos Hres.out]; exact ⟨rfl, rfl⟩)
      have H0 := Lib.hid h0
      clear h0
      go_wp2_with fail
      refine (specRootF_any x mode _ Hx.out Hf.out (by have := H0.out; omega) Hmo.out.1 Hmo.out.2).mono ?_
      rintro e w3 ⟨rfl, hb⟩
      have Sz3 := Lib.hid (Below.size hb)
      have Bel3 := Lib.hid (belNext Bel2.out hb)
      clear hb Bel2
      go_wp2_with fail
      go_ret3
      exact ⟨ret_flo Hr2.out.1.symm Hr2.out.2.symm Hres.out.symm, Bel3.out⟩
  · obtain ⟨cd, hcd⟩ : ∃ cd, cd = ckE [x, 0] mode := ⟨_, rfl⟩
    rw [← hcd] at hc
    have hc2 : (cd == 0) = false := beq_false_of_ne hc
    have hc3 : (cd != 0) = true := by simp [hc]
    have Hres : Hid (rtC x mode = cd) := Lib.hid (by unfold rtC; rw [if_neg (by rw [← hcd]; exact hc), hcd])
    have Hr2 : Hid (rtF x mode = 0 ∧ rtL x mode = 0) := Lib.hid (by unfold rtF rtL; rw [if_neg (by rw [Hres.out]; exact hc), if_neg (by rw [Hres.out]; exact hc)]; exact ⟨rfl, rfl⟩)
    rw [← hcd]
    clear hcd
    go_wp2_with fail
    go_ret3
    exact ⟨ret_flo Hr2.out.1.symm Hr2.out.2.symm Hres.out.symm, Bel2.out⟩

end Go.Proofs.YtcjamfoiilgfoaaGreatDoor
