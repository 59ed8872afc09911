/- Shifts of a whole number, of the program. -/
import Derived.Test.YtnnoobdcdfcdaaaDoorDy
import Derived.Test.YtnnoobdcdfcdaaaDoorSd
import Derived.Test.YtnnoobdcdfcdaaaDoorWp
namespace Go.Proofs.YtnnoobdcdfcdaaaDoor
set_option maxRecDepth 100000
open Go.RowKit
set_option linter.unusedSimpArgs false
set_option linter.unusedVariables false

theorem sgn_or {S z : Int} (hS : S = z.sign) {v : Nat} (h : z = 0 → v = 0) : S = 1 ∨ S = -1 ∨ v = 0 := by
  subst hS
  rcases Int.lt_trichotomy z 0 with h1 | h1 | h1
  · exact .inr (.inl (Int.sign_eq_neg_one_of_neg h1))
  · exact .inr (.inr (h h1))
  · exact .inl (Int.sign_eq_one_of_pos h1)
theorem shl_len {v n : Nat} (hn : (limbs v).length = n) (m : Nat) : (limbs (2 ^ m * v)).length ≤ n + m / 24 + 1 := by
  rw [limbs_len_le]
  have h1 := limbs_len_le.1 (show (limbs v).length ≤ n by omega)
  have h2 : 2 ^ m ≤ Bs ^ (m / 24 + 1) := by rw [Bs_pow]; exact Nat.pow_le_pow_right (by omega) (by omega)
  have e : Bs ^ (n + m / 24 + 1) = Bs ^ (m / 24 + 1) * Bs ^ n := by rw [← Nat.pow_add]; congr 1; omega
  rw [e]
  exact Nat.mul_lt_mul_of_le_of_lt h2 h1 (Bs_pow_pos _)
theorem sh_up {z S : Int} (hS : S = z.sign) (m : Nat) : S * ((2 ^ m * z.natAbs : Nat) : Int) = shZ z m := by
  rw [shZ_up (by omega), Int.toNat_natCast, Int.natCast_mul, Int.mul_left_comm, hS, Int.sign_mul_natAbs, pow_cast]
theorem shZ_nat {z : Int} {m : Nat} (hm : 0 < m) : shZ z (-(m : Int)) = z / (2 : Int) ^ m := by
  rw [shZ_down (by omega)]
  congr 2
  omega
theorem sh_down_nonneg {z S : Int} (hS : S = z.sign) (h0 : ¬ S < 0) {m : Nat} (hm : 0 < m) : S * ((z.natAbs / 2 ^ m : Nat) : Int) = shZ z (-(m : Int)) := by
  rw [shZ_nat hm]
  subst hS
  rcases Int.lt_trichotomy z 0 with h1 | h1 | h1
  · rw [Int.sign_eq_neg_one_of_neg h1] at h0; omega
  · subst h1; simp
  · rw [Int.sign_eq_one_of_pos h1, Int.one_mul, ← shr_pos]
    congr 1
    omega
theorem sgn_m1 {z S : Int} (hS : S = z.sign) (h : S < 0) : S = -1 := by
  subst hS
  rcases Int.lt_trichotomy z 0 with h1 | h1 | h1
  · exact Int.sign_eq_neg_one_of_neg h1
  · subst h1; simp at h
  · rw [Int.sign_eq_one_of_pos h1] at h; omega
theorem neg_of {z : Int} (h : z < 0) : z = -(z.natAbs : Int) := by omega
theorem sign_neg_iff {z S : Int} (hS : S = z.sign) : S < 0 ↔ z < 0 := by
  subst hS
  rcases Int.lt_trichotomy z 0 with h1 | h1 | h1
  · rw [Int.sign_eq_neg_one_of_neg h1]; omega
  · subst h1; simp
  · rw [Int.sign_eq_one_of_pos h1]; omega
theorem sh_down_exact {z S : Int} (hS : S = z.sign) (h0 : S < 0) {m : Nat} (hm : 0 < m) (ht : ¬ tz z.natAbs < m) : S * ((z.natAbs / 2 ^ m : Nat) : Int) = shZ z (-(m : Int)) := by
  have hz := (sign_neg_iff hS).1 h0
  have h1 := (tz_dvd (v := z.natAbs) (k := m) (by omega)).1 (by omega)
  rw [shZ_nat hm, hS, Int.sign_eq_neg_one_of_neg hz]
  conv => rhs; rw [neg_of hz]
  rw [shr_neg, if_pos h1]
  omega
theorem sh_down_more {z S : Int} (hS : S = z.sign) (h0 : S < 0) {m : Nat} (hm : 0 < m) (ht : tz z.natAbs < m) : S * ((z.natAbs / 2 ^ m + 1 : Nat) : Int) = shZ z (-(m : Int)) := by
  have hz := (sign_neg_iff hS).1 h0
  have h1 := (tz_lt_dvd (v := z.natAbs) (k := m) (by omega)).1 ht
  rw [shZ_nat hm, hS, Int.sign_eq_neg_one_of_neg hz]
  conv => rhs; rw [neg_of hz]
  rw [shr_neg, if_neg h1]
  omega
theorem limbs_1 : limbs 1 = [1] := by rw [limbs_pos (by omega)]; rw [Bs_eq, show 1 / 16777216 = 0 from rfl, limbs_zero]
theorem rd_one (w : World) (t : TypeId) : Rd (w.alloc (.cells #[.int .i64 1] t)) (w.alloc (.cells #[.int .i64 1] t)).heap.size (some ⟨w.heap.size, 0, none⟩) (vs (limbs 1)) := by
  rw [limbs_1]
  intro k u hu
  have hk : k < 1 := by simpa [vs, li, vi] using (List.getElem?_eq_some_iff.1 hu).1
  obtain rfl : k = 0 := by omega
  refine ⟨_, rfl, by simp, ?_⟩
  rw [add_zero_off]
  simp [vs, li, vi] at hu
  subst hu
  simp

set_option maxHeartbeats 1000000 in
theorem implShiftedU_any (z S : Int) (A : Option Addr) (n c m : Nat) (w : World) (hz : ZV w z S A n c) (hm : (n : Int) ≤ 50000) (hk : (m : Int) ≤ 100000) (hT : TabZ w) :
    Calls Tryd.prog 56 #[.agg #[.int .i64 S, .slice A n c], .int .i64 m] w fun e w' => ∃ S' A' n' c', e = .returned (.agg #[.int .i64 S', .slice A' n' c']) ∧ ZO w' w.heap.size w'.heap.size (shZ z m) S' A' n' c' ∧ Below w.heap.size w w' := by
  have hst := store_int Tryd.prog
  have hst2 := store_slice Tryd.prog
  obtain ⟨w1, hw1, hb1, hb3, hb4⟩ := box_res w S A n c 26 26
  have Zv1 := Lib.hid (hz.next hb4)
  have Tb1 := Lib.hid (hT.next hb4)
  have Hw := Lib.hid hw1
  have Bx1 := Lib.hid hb1
  have Rs1 := Lib.hid hb3
  have Bel1 := Lib.hid hb4
  have HS : Hid (S = z.sign) := Lib.hid hz.1
  have Hn : Hid ((limbs z.natAbs).length = n) := Lib.hid hz.2.1
  have Hl : Hid (((limbs (2 ^ m * z.natAbs)).length : Int) ≤ 1000000) := Lib.hid (by have := shl_len Hn.out m; omega)
  have Hm : Hid ((n : Int) ≤ 100000 ∧ (m : Int) ≤ 1000000) := Lib.hid (by omega)
  have hm0 : (0 : Int) ≤ m := by omega
  clear hz hT hw1 hb1 hb3 hb4 Tb1
  go_enter Tryd.func56, Tryd.ntmps56
  go_wp2_with fail
  rw [← Hw.out]
  have Hlt : Hid (w.heap.size + 1 < w1.heap.size) := Lib.hid Rs1.out.2
  refine wp_region_held_drew (S := fun w' => (w'.cell? ⟨w.heap.size, 0, none⟩ = some (.int .i64 S) ∧ w'.cell? ⟨w.heap.size, 1, none⟩ = some (.slice A n c))) (by kernel_rfl) Bx1.out.1 (fun hHeld => ?_)
  refine wpAnyH_take (i := 0) (v := ?_) rfl (by kernel_rfl) (by kernel_rfl) (by kernel_rfl) (fun _ _ _ h => h) (Or.inl ⟨by rfl, ?_⟩) (by assumption) ?_
  rotate_left
  · (intro w hSw; (try dsimp only at hSw); go_simp; (try with_reducible rfl))
  try simp only [Act.put, List.setIfInBounds_toArray, List.set_cons_zero, List.set_cons_succ]
  refine wpAnyH_take (i := 1) (v := ?_) rfl (by kernel_rfl) (by kernel_rfl) (by kernel_rfl) (fun _ _ _ h => h) (Or.inl ⟨by rfl, ?_⟩) (by assumption) ?_
  rotate_left
  · (intro w hSw; (try dsimp only at hSw); go_simp; (try with_reducible rfl))
  try simp only [Act.put, List.setIfInBounds_toArray, List.set_cons_zero, List.set_cons_succ]
  refine wpAnyH_take (i := 2) (v := ?_) rfl (by kernel_rfl) (by kernel_rfl) (by kernel_rfl) (fun _ _ _ h => h) (Or.inl ⟨by rfl, ?_⟩) (by assumption) ?_
  rotate_left
  · (intro w hSw; (try dsimp only at hSw); go_simp; (try with_reducible rfl))
  try simp only [Act.put, List.setIfInBounds_toArray, List.set_cons_zero, List.set_cons_succ]
  refine wpAnyH_take (i := 3) (v := ?_) rfl (by kernel_rfl) (by kernel_rfl) (by kernel_rfl) (fun _ _ _ h => h) (Or.inl ⟨by rfl, ?_⟩) (by assumption) ?_
  rotate_left
  · (intro w hSw; (try dsimp only at hSw); go_simp; (try with_reducible rfl))
  try simp only [Act.put, List.setIfInBounds_toArray, List.set_cons_zero, List.set_cons_succ]
  refine wpAnyH_ready (rs := [4]) (by kernel_rfl) (by simp) ?_
  refine AllReadyH.cons rfl (fun K hK => ?_) AllReadyH.nil
  go_simp
  refine (natShl_any z.natAbs m A n c _ w1.drew Zv1.out.rd (Nat.le_refl _) Hn.out Hm.out.1 Hm.out.2).mono ?_
  rintro e w2 ⟨A8, rfl, ho8, hb0⟩
  have hb : Below w1.heap.size w1 w2 := belDrew hb0
  have O8 := Lib.hid ho8
  clear ho8
  refine hK.out _ _ ((Bx1.out.next hb).1) (fun hHeld => ?_)
  clear hK K hb0
  have Sz2 := Lib.hid (Below.size hb)
  have Bel2 := Lib.hid (belNext Bel1.out hb)
  have Bx2 := Lib.hid (Bx1.out.next hb)
  have Rs2 := Lib.hid (Rs1.out.next hb)
  have Zv2 := Lib.hid (Zv1.out.next hb)
  clear hb Bel1 Bx1 Rs1 Zv1
  try simp only [Act.put, List.setIfInBounds_toArray, List.set_cons_zero, List.set_cons_succ]
  refine wpAnyH_ready (rs := [5]) (by kernel_rfl) (by simp) ?_
  refine AllReadyH.cons rfl (fun K hK => ?_) AllReadyH.nil
  go_simp
  refine (signed_any S (2 ^ m * z.natAbs) A8 _ _ _ _ _ O8.out rfl Hl.out (Nat.le_refl _)).mono ?_
  rintro e w3 ⟨val, rfl, hv, hb0⟩
  have hb : Below w2.heap.size w2 w3 := hb0
  obtain ⟨S9, A9, n9, c9, rfl, hzo⟩ := Wz.zo (((hv.z (sgn_or HS.out (fun e => by rw [e]; simp))).wide (Nat.le_refl _) hb0.size).cast_ (sh_up HS.out m)) (Nat.le_refl _)
  have Zo3 := Lib.hid hzo
  clear hv hzo
  refine hK.out _ _ ((Bx2.out.next hb).1) (fun hHeld => ?_)
  clear hK K hb0
  have Sz3 := Lib.hid (Below.size hb)
  have Bel3 := Lib.hid (belNext Bel2.out hb)
  have Bx3 := Lib.hid (Bx2.out.next hb)
  have Rs3 := Lib.hid (Rs2.out.next hb)
  have Zv3 := Lib.hid (Zv2.out.next hb)
  clear hb Bel2 Bx2 Rs2 Zv2
  try simp only [Act.put, List.setIfInBounds_toArray, List.set_cons_zero, List.set_cons_succ]
  obtain ⟨⟨hRs0, hRs1, hRs2, hRs3⟩, hRs4⟩ := Rs3.out
  refine wpAnyH_ready (rs := [6]) (by kernel_rfl) (by simp) ?_
  refine AllReadyH.cons rfl (fun K hK => ?_) AllReadyH.nil
  go_simp
  refine hK.out _ _ (((Bx3.out.keep (by first | (simp; done) | (simp; omega)) _).keep (by first | (simp; done) | (simp; omega)) _).1) (fun hHeld => ?_)
  clear hK K hHeld
  try simp only [Act.put, List.setIfInBounds_toArray, List.set_cons_zero, List.set_cons_succ]
  refine wpAnyH_done (by kernel_rfl) ?_ _
  go_wp2_with fail
  refine bodyPost_ret (v := .agg #[.int .i64 S9, .slice A9 n9 c9]) (by simp [results, Tryd.results56, go_sem, hRs0, hRs1]) rfl ⟨S9, A9, n9, c9, rfl, ?_, ?_⟩
  · exact ((Zo3.out.setCell (.inl (by have zz0 := Hlt.out; have zz1 := Sz2.out; have zz2 := Sz3.out; first | omega | (simp; omega))) _).setCell (.inl (by have zz0 := Hlt.out; have zz1 := Sz2.out; have zz2 := Sz3.out; first | omega | (simp; omega))) _).wide (by have zz0 := Hlt.out; have zz1 := Sz2.out; have zz2 := Sz3.out; first | omega | (simp; omega)) (by simp) (by simp)
  · exact (Bel3.out.setCell (by simp; try omega) _).setCell (by simp; try omega) _

set_option maxHeartbeats 2000000 in
theorem implShiftedD_any (z S k : Int) (A : Option Addr) (n c m : Nat) (w : World) (hz : ZV w z S A n c) (hm : (n : Int) ≤ 50000) (hk : (m : Int) ≤ 100000) (h1 : (1 : Int) ≤ m) (hkm : k = -(m : Int)) (hT : TabZ w) :
    Calls Tryd.prog 56 #[.agg #[.int .i64 S, .slice A n c], .int .i64 k] w fun e w' => ∃ S' A' n' c', e = .returned (.agg #[.int .i64 S', .slice A' n' c']) ∧ ZO w' w.heap.size w'.heap.size (shZ z (-(m : Int))) S' A' n' c' ∧ Below w.heap.size w w' := by
  have hst := store_int Tryd.prog
  have hst2 := store_slice Tryd.prog
  obtain ⟨w1, hw1, hb1, hb3, hb4⟩ := box_res w S A n c 26 26
  have Zv1 := Lib.hid (hz.next hb4)
  have Tb1 := Lib.hid (hT.next hb4)
  have Hw := Lib.hid hw1
  have Bx1 := Lib.hid hb1
  have Rs1 := Lib.hid hb3
  have Bel1 := Lib.hid hb4
  have HS : Hid (S = z.sign) := Lib.hid hz.1
  have Hn : Hid ((limbs z.natAbs).length = n) := Lib.hid hz.2.1
  have Hl : Hid ((limbs (z.natAbs / 2 ^ m)).length ≤ n) := Lib.hid (by rw [← Hn.out]; exact limbs_len_mono (Nat.div_le_self _ _))
  have Hm : Hid ((n : Int) ≤ 100000 ∧ (m : Int) ≤ 1000000 ∧ 0 < m) := Lib.hid (by omega)
  have hk0 : ¬ 0 ≤ k := by omega
  have hnk : -k = (m : Int) := by omega
  clear hkm
  clear hz hT hw1 hb1 hb3 hb4
  go_enter Tryd.func56, Tryd.ntmps56
  go_wp2_with fail
  rw [← Hw.out]
  try rw [hnk]
  have Hlt : Hid (w.heap.size + 1 < w1.heap.size) := Lib.hid Rs1.out.2
  obtain ⟨⟨hBx0, hBx1⟩, hBx2⟩ := Bx1.out
  obtain ⟨⟨hRs0, hRs1, hRs2, hRs3⟩, hRs4⟩ := Rs1.out
  refine (natShr_any z.natAbs m A n c _ _ Zv1.out.rd (Nat.le_refl _) Hn.out Hm.out.1 Hm.out.2.1).mono ?_
  rintro e w2 ⟨A8, rfl, ho8, hb⟩
  have O8 := Lib.hid ho8
  clear ho8
  have Sz2 := Lib.hid (Below.size hb)
  have Bel2 := Lib.hid (belNext Bel1.out hb)
  have Bx2 := Lib.hid (Bx1.out.next hb)
  have Rs2 := Lib.hid (Rs1.out.next hb)
  have Zv2 := Lib.hid (Zv1.out.next hb)
  have Tb2 := Lib.hid (Tb1.out.next hb)
  clear hb Bel1 Bx1 Rs1 Zv1 Tb1 hBx0 hBx1 hBx2 hRs0 hRs1 hRs2 hRs3 hRs4
  obtain ⟨⟨hBx0, hBx1⟩, hBx2⟩ := Bx2.out
  obtain ⟨⟨hRs0, hRs1, hRs2, hRs3⟩, hRs4⟩ := Rs2.out
  obtain ⟨q, hq⟩ : ∃ q, q = z.natAbs / 2 ^ m := ⟨_, rfl⟩
  rw [← hq] at O8 Hl ⊢
  obtain ⟨nq, hnq⟩ : ∃ nq, nq = (limbs q).length := ⟨_, rfl⟩
  rw [← hnq] at Hl ⊢
  have Hq := Lib.hid hq
  have Hnq := Lib.hid hnq
  clear hq hnq
  by_cases hs : S < 0
  · have HSn := Lib.hid hs
    go_wp2_with fail
    refine (natZeros_any z.natAbs A n c _ _ Zv2.out.rd Hn.out Hm.out.1 Tb2.out).mono ?_
    rintro e w9 ⟨rfl, rfl⟩
    obtain ⟨zt, hzt⟩ : ∃ zt, zt = tz z.natAbs := ⟨_, rfl⟩
    rw [← hzt]
    have Hzt := Lib.hid hzt
    clear hzt
    by_cases htl : zt < m
    · have htl2 : (zt : Int) < m := by omega
      have Htl := Lib.hid htl
      clear htl
      go_wp2_with fail
      obtain ⟨wa, hwa⟩ : ∃ wa, wa = w2.alloc (.cells #[.int .i64 1] 2) := ⟨_, rfl⟩
      have Rd1 : Hid (Rd wa wa.heap.size (some ⟨w2.heap.size, 0, none⟩) (vs (limbs 1))) := Lib.hid (by rw [hwa]; exact rd_one _ _)
      have hb : Below w2.heap.size w2 wa := by rw [hwa]; exact belAlloc1 _ _
      rw [← hwa]
      clear hwa
      obtain ⟨w3, hw3⟩ : ∃ w3, w3 = wa := ⟨_, rfl⟩
      rw [← hw3] at hb Rd1 ⊢
      clear hw3
      have O8b := Lib.hid (O8.out.below' hb)
      have Hs23 := Lib.hid hb.size
      have Sz3 := Lib.hid (Below.size hb)
      have Bel3 := Lib.hid (belNext Bel2.out hb)
      have Bx3 := Lib.hid (Bx2.out.next hb)
      have Rs3 := Lib.hid (Rs2.out.next hb)
      have Zv3 := Lib.hid (Zv2.out.next hb)
      have Tb3 := Lib.hid (Tb2.out.next hb)
      clear hb Bel2 Bx2 Rs2 Zv2 Tb2 hBx0 hBx1 hBx2 hRs0 hRs1 hRs2 hRs3 hRs4
      obtain ⟨⟨hBx0, hBx1⟩, hBx2⟩ := Bx3.out
      obtain ⟨⟨hRs0, hRs1, hRs2, hRs3⟩, hRs4⟩ := Rs3.out
      refine (natPlus_any q 1 A8 _ nq 1 nq 1 _ _ w3 (O8b.out.rd) Rd1.out (Hs23.out) (Nat.le_refl _) Hnq.out.symm (by rw [limbs_1]; rfl) (by have := Hl.out; have := Hm.out; omega) (by omega)).mono ?_
      rintro e w4 ⟨A7, rfl, ho7, hb⟩
      have O7 := Lib.hid ho7
      clear ho7
      have Sz4 := Lib.hid (Below.size hb)
      have Bel4 := Lib.hid (belNext Bel3.out hb)
      have Bx4 := Lib.hid (Bx3.out.next hb)
      have Rs4 := Lib.hid (Rs3.out.next hb)
      have Zv4 := Lib.hid (Zv3.out.next hb)
      have Tb4 := Lib.hid (Tb3.out.next hb)
      clear hb Bel3 Bx3 Rs3 Zv3 Tb3 hBx0 hBx1 hBx2 hRs0 hRs1 hRs2 hRs3 hRs4
      obtain ⟨⟨hBx0, hBx1⟩, hBx2⟩ := Bx4.out
      obtain ⟨⟨hRs0, hRs1, hRs2, hRs3⟩, hRs4⟩ := Rs4.out
      go_wp2_with fail
      refine (signed_any S (q + 1) A7 _ _ _ _ _ O7.out rfl (by have h := limbs_len_sum q 1 Hnq.out.symm (show (limbs 1).length = 1 by rw [limbs_1]; rfl); have := Hl.out; have := Hm.out; omega) (Nat.le_refl _)).mono ?_
      rintro e w5 ⟨val, rfl, hv, hb⟩
      obtain ⟨S9, A9, n9, c9, rfl, hzo⟩ := Wz.zo (((hv.z (.inr (.inl (sgn_m1 HS.out HSn.out)))).wide (Nat.le_refl _) hb.size).cast_ (z' := shZ z (-(m : Int))) (by rw [Hq.out]; exact sh_down_more HS.out HSn.out Hm.out.2.2 (by rw [← Hzt.out]; exact Htl.out))) (Nat.le_refl _)
      have Zo5 := Lib.hid hzo
      clear hv hzo
      have Sz5 := Lib.hid (Below.size hb)
      have Bel5 := Lib.hid (belNext Bel4.out hb)
      have Bx5 := Lib.hid (Bx4.out.next hb)
      have Rs5 := Lib.hid (Rs4.out.next hb)
      have Zv5 := Lib.hid (Zv4.out.next hb)
      have Tb5 := Lib.hid (Tb4.out.next hb)
      clear hb Bel4 Bx4 Rs4 Zv4 Tb4 hBx0 hBx1 hBx2 hRs0 hRs1 hRs2 hRs3 hRs4
      obtain ⟨⟨hBx0, hBx1⟩, hBx2⟩ := Bx5.out
      obtain ⟨⟨hRs0, hRs1, hRs2, hRs3⟩, hRs4⟩ := Rs5.out
      go_wp2_with fail
      refine bodyPost_ret (v := .agg #[.int .i64 S9, .slice A9 n9 c9]) (by simp [results, Tryd.results56, go_sem, hRs0, hRs1]) rfl ⟨S9, A9, n9, c9, rfl, ?_, ?_⟩
      · exact ((Zo5.out.setCell (.inl (by have zz0 := Hlt.out; have zz1 := Sz2.out; have zz2 := Sz3.out; have zz3 := Sz4.out; have zz4 := Sz5.out; first | omega | (simp; omega))) _).setCell (.inl (by have zz0 := Hlt.out; have zz1 := Sz2.out; have zz2 := Sz3.out; have zz3 := Sz4.out; have zz4 := Sz5.out; first | omega | (simp; omega))) _).wide (by have zz0 := Hlt.out; have zz1 := Sz2.out; have zz2 := Sz3.out; have zz3 := Sz4.out; have zz4 := Sz5.out; first | omega | (simp; omega)) (by simp) (by simp)
      · exact (Bel5.out.setCell (by simp; try omega) _).setCell (by simp; try omega) _
    · have htl2 : ¬ (zt : Int) < m := by omega
      have Htl := Lib.hid htl
      clear htl
      go_wp2_with fail
      refine (signed_any S q A8 _ _ _ _ _ O8.out Hnq.out.symm (by have := Hl.out; have := Hm.out; omega) (Nat.le_refl _)).mono ?_
      rintro e w3 ⟨val, rfl, hv, hb⟩
      obtain ⟨S9, A9, n9, c9, rfl, hzo⟩ := Wz.zo (((hv.z (sgn_or HS.out (fun e => by rw [Hq.out, e]; simp))).wide (Nat.le_refl _) hb.size).cast_ (z' := shZ z (-(m : Int))) (by rw [Hq.out]; exact sh_down_exact HS.out HSn.out Hm.out.2.2 (by rw [← Hzt.out]; exact Htl.out))) (Nat.le_refl _)
      have Zo3 := Lib.hid hzo
      clear hv hzo
      have Sz3 := Lib.hid (Below.size hb)
      have Bel3 := Lib.hid (belNext Bel2.out hb)
      have Bx3 := Lib.hid (Bx2.out.next hb)
      have Rs3 := Lib.hid (Rs2.out.next hb)
      have Zv3 := Lib.hid (Zv2.out.next hb)
      have Tb3 := Lib.hid (Tb2.out.next hb)
      clear hb Bel2 Bx2 Rs2 Zv2 Tb2 hBx0 hBx1 hBx2 hRs0 hRs1 hRs2 hRs3 hRs4
      obtain ⟨⟨hBx0, hBx1⟩, hBx2⟩ := Bx3.out
      obtain ⟨⟨hRs0, hRs1, hRs2, hRs3⟩, hRs4⟩ := Rs3.out
      go_wp2_with fail
      refine bodyPost_ret (v := .agg #[.int .i64 S9, .slice A9 n9 c9]) (by simp [results, Tryd.results56, go_sem, hRs0, hRs1]) rfl ⟨S9, A9, n9, c9, rfl, ?_, ?_⟩
      · exact ((Zo3.out.setCell (.inl (by have zz0 := Hlt.out; have zz1 := Sz2.out; have zz2 := Sz3.out; first | omega | (simp; omega))) _).setCell (.inl (by have zz0 := Hlt.out; have zz1 := Sz2.out; have zz2 := Sz3.out; first | omega | (simp; omega))) _).wide (by have zz0 := Hlt.out; have zz1 := Sz2.out; have zz2 := Sz3.out; first | omega | (simp; omega)) (by simp) (by simp)
      · exact (Bel3.out.setCell (by simp; try omega) _).setCell (by simp; try omega) _
  · have HSn := Lib.hid hs
    have hsb : decide (S < 0) = false := decide_eq_false hs
    go_wp2_with fail
    refine (signed_any S q A8 _ _ _ _ _ O8.out Hnq.out.symm (by have := Hl.out; have := Hm.out; omega) (Nat.le_refl _)).mono ?_
    rintro e w3 ⟨val, rfl, hv, hb⟩
    obtain ⟨S9, A9, n9, c9, rfl, hzo⟩ := Wz.zo (((hv.z (sgn_or HS.out (fun e => by rw [Hq.out, e]; simp))).wide (Nat.le_refl _) hb.size).cast_ (z' := shZ z (-(m : Int))) (by rw [Hq.out]; exact sh_down_nonneg HS.out (Int.not_lt.2 HSn.out) Hm.out.2.2)) (Nat.le_refl _)
    have Zo3 := Lib.hid hzo
    clear hv hzo
    have Sz3 := Lib.hid (Below.size hb)
    have Bel3 := Lib.hid (belNext Bel2.out hb)
    have Bx3 := Lib.hid (Bx2.out.next hb)
    have Rs3 := Lib.hid (Rs2.out.next hb)
    have Zv3 := Lib.hid (Zv2.out.next hb)
    have Tb3 := Lib.hid (Tb2.out.next hb)
    clear hb Bel2 Bx2 Rs2 Zv2 Tb2 hBx0 hBx1 hBx2 hRs0 hRs1 hRs2 hRs3 hRs4
    obtain ⟨⟨hBx0, hBx1⟩, hBx2⟩ := Bx3.out
    obtain ⟨⟨hRs0, hRs1, hRs2, hRs3⟩, hRs4⟩ := Rs3.out
    go_wp2_with fail
    refine bodyPost_ret (v := .agg #[.int .i64 S9, .slice A9 n9 c9]) (by simp [results, Tryd.results56, go_sem, hRs0, hRs1]) rfl ⟨S9, A9, n9, c9, rfl, ?_, ?_⟩
    · exact ((Zo3.out.setCell (.inl (by have zz0 := Hlt.out; have zz1 := Sz2.out; have zz2 := Sz3.out; first | omega | (simp; omega))) _).setCell (.inl (by have zz0 := Hlt.out; have zz1 := Sz2.out; have zz2 := Sz3.out; first | omega | (simp; omega))) _).wide (by have zz0 := Hlt.out; have zz1 := Sz2.out; have zz2 := Sz3.out; first | omega | (simp; omega)) (by simp) (by simp)
    · exact (Bel3.out.setCell (by simp; try omega) _).setCell (by simp; try omega) _

theorem implShifted_any (z S k : Int) (A : Option Addr) (n c : Nat) (w : World) (hz : ZV w z S A n c) (hm : (n : Int) ≤ 50000) (hk1 : -100000 ≤ k) (hk2 : k ≤ 100000) (hT : TabZ w) :
    Calls Tryd.prog 56 #[.agg #[.int .i64 S, .slice A n c], .int .i64 k] w fun e w' => ∃ S' A' n' c', e = .returned (.agg #[.int .i64 S', .slice A' n' c']) ∧ ZO w' w.heap.size w'.heap.size (shZ z k) S' A' n' c' ∧ Below w.heap.size w w' := by
  by_cases h : 0 ≤ k
  · obtain ⟨m, rfl⟩ : ∃ m : Nat, k = m := ⟨k.toNat, by omega⟩
    exact implShiftedU_any z S A n c m w hz hm (by omega) hT
  · obtain ⟨m, hmk⟩ : ∃ m : Nat, k = -(m : Int) := ⟨(-k).toNat, by omega⟩
    have h2 := implShiftedD_any z S k A n c m w hz hm (by omega) (by omega) hmk hT
    rw [← hmk] at h2
    exact h2
end Go.Proofs.YtnnoobdcdfcdaaaDoor
