/- Texts of this seat, joined: Rw Rx Ry -/
import Derived.Test.YtnecnbonnidijaaDoorGA16
import Derived.Test.YtnecnbonnidijaaDoorGA7
import Derived.Test.YtnecnbonnidijaaDoorGA6
import Derived.Test.YtnecnbonnidijaaDoorGA4
import Derived.Test.YtnecnbonnidijaaDoorGA10
/- Roots from above: plain mathematics. -/
namespace Go.Proofs.YtnecnbonnidijaaDoor
set_option maxRecDepth 100000
open Go.RowKit
set_option linter.unusedSimpArgs false
set_option linter.unusedVariables false

/-- the steps from above -/
def ceZ (z s : Int) : Int := -(shZ (-z) s)
/-- the least number whose square is not less than v -/
noncomputable def ru (v : Nat) : Nat := if rt v * rt v = v then rt v else rt v + 1
theorem ru_spec (v : Nat) : v ≤ ru v * ru v ∧ ∀ r, v ≤ r * r → ru v ≤ r := by
  obtain ⟨h1, h2⟩ := rt_spec v
  unfold ru
  by_cases h : rt v * rt v = v
  · rw [if_pos h]
    refine ⟨by omega, fun r hr => ?_⟩
    rcases Nat.lt_or_ge r (rt v) with h3 | h3
    · have := Nat.mul_lt_mul'' h3 h3; omega
    · exact h3
  · rw [if_neg h]
    refine ⟨by omega, fun r hr => ?_⟩
    rcases Nat.lt_or_ge r (rt v + 1) with h3 | h3
    · have := Nat.mul_le_mul (show r ≤ rt v by omega) (show r ≤ rt v by omega); omega
    · exact h3
/-- a number that is not a number of steps lies between two of them -/
theorem ce_cases (z s : Int) : (ceZ z s = shZ z s ∧ (s < 0 → z = (2 : Int) ^ (-s).toNat * shZ z s)) ∨ (s < 0 ∧ ceZ z s = shZ z s + 1 ∧ (2 : Int) ^ (-s).toNat * shZ z s < z) := by
  unfold ceZ
  by_cases hs : 0 ≤ s
  · left
    rw [shZ_up hs, shZ_up hs, Int.mul_neg, Int.neg_neg]
    exact ⟨rfl, fun h => by omega⟩
  · have hs2 : s < 0 := by omega
    rw [shZ_down hs2, shZ_down hs2]
    have hp : (0 : Int) < (2 : Int) ^ (-s).toNat := Int.pow_pos (by omega)
    generalize (2 : Int) ^ (-s).toNat = D at hp ⊢
    have e1 := Int.mul_ediv_add_emod z D
    have e2 := Int.emod_nonneg z (show D ≠ 0 by omega)
    have e3 := Int.emod_lt_of_pos z hp
    by_cases h0 : z % D = 0
    · left
      have hz : z = D * (z / D) := by omega
      have hn : -z = D * -(z / D) := by rw [Int.mul_neg, ← hz]
      have hd : -z / D = -(z / D) := by
        conv => lhs; rw [hn]
        exact Int.mul_ediv_cancel_left _ (by omega)
      rw [hd, Int.neg_neg]
      exact ⟨rfl, fun _ => hz⟩
    · right
      refine ⟨hs2, ?_, by omega⟩
      have hn : -z = D * (-(z / D) - 1) + (D - z % D) := by rw [Int.mul_sub, Int.mul_neg, Int.mul_one]; omega
      have hd : -z / D = -(z / D) - 1 := by
        rw [hn, Int.mul_comm, Int.add_comm, Int.add_mul_ediv_right _ _ (show D ≠ 0 by omega), Int.ediv_eq_zero_of_lt (by omega) (by omega)]
        omega
      rw [hd]; omega
/-- one more step behind a root that is not whole -/
theorem ru_next {v : Nat} : ru (v + 1) = rt v + 1 := by
  obtain ⟨h1, h2⟩ := rt_spec v
  obtain ⟨h3, h4⟩ := ru_spec (v + 1)
  have h5 := h4 (rt v + 1) (by omega)
  rcases Nat.lt_or_ge (ru (v + 1)) (rt v + 1) with h6 | h6
  · have := Nat.mul_le_mul (show ru (v + 1) ≤ rt v by omega) (show ru (v + 1) ≤ rt v by omega); omega
  · omega
theorem ru_same {v : Nat} : ((ru v : Nat) : Int) = if rt v * rt v < v then (rt v : Int) + 1 else (rt v : Int) := by
  have h := (rt_spec v).1
  unfold ru
  by_cases h0 : rt v * rt v = v
  · rw [if_pos h0, if_neg (by omega)]
  · rw [if_neg h0, if_pos (by omega)]; rfl
/-- the program's root from above: the root from below, and a step more if its square is less -/
noncomputable def raR (z E k : Int) : Int := if (sumZ (((rt (shZ z (E + 2 * k)).natAbs : Nat) : Int) * ((rt (shZ z (E + 2 * k)).natAbs : Nat) : Int)) (-k + -k) (-z) E).sign < 0 then ((rt (shZ z (E + 2 * k)).natAbs : Nat) : Int) + 1 else ((rt (shZ z (E + 2 * k)).natAbs : Nat) : Int)
theorem sgnlt_iff {x : Int} : x.sign < 0 ↔ x < 0 := by
  rcases Int.lt_trichotomy x 0 with a | a | a
  · rw [Int.sign_eq_neg_one_of_neg a]; omega
  · rw [a]; simp
  · rw [Int.sign_eq_one_of_pos a]; omega
theorem ra_eq {z E k : Int} (hp : 0 ≤ z) : raR z E k = ((ru (ceZ z (E + 2 * k)).natAbs : Nat) : Int) := by
  have hX := shZ_nonneg (s := E + 2 * k) hp
  unfold raR
  obtain ⟨X, hX2⟩ : ∃ X : Nat, shZ z (E + 2 * k) = (X : Int) := ⟨(shZ z (E + 2 * k)).toNat, by omega⟩
  have hsq := (rt_spec X).1
  rcases ce_cases z (E + 2 * k) with ⟨h1, h2⟩ | ⟨h1, h2, h3⟩
  · rw [h1, hX2, Int.natAbs_natCast, ru_same]
    have key : (sumZ ((rt X : Int) * (rt X : Int)) (-k + -k) (-z) E).sign < 0 ↔ rt X * rt X < X := by
      rw [sgnlt_iff]
      by_cases hs : 0 ≤ E + 2 * k
      · rw [sumZ_le (by omega), show E - (-k + -k) = E + 2 * k by omega, Int.mul_neg, ← shZ_up hs, hX2, ← Int.natCast_mul]
        omega
      · have hz := h2 (by omega)
        rw [hX2] at hz
        rw [sumZ_ge (by omega), show -k + -k - E = -(E + 2 * k) by omega]
        have hD : (0 : Int) < (2 : Int) ^ (-(E + 2 * k)).toNat := Int.pow_pos (by omega)
        generalize (2 : Int) ^ (-(E + 2 * k)).toNat = D at hz hD ⊢
        rw [hz, ← Int.natCast_mul]
        constructor
        · intro h
          rcases Nat.lt_or_ge (rt X * rt X) X with h4 | h4
          · exact h4
          · have := Int.mul_le_mul_of_nonneg_left (show (X : Int) ≤ ((rt X * rt X : Nat) : Int) by omega) (Int.le_of_lt hD); omega
        · intro h
          have := Int.mul_lt_mul_of_pos_left (show ((rt X * rt X : Nat) : Int) < (X : Int) by omega) hD; omega
    by_cases h : rt X * rt X < X
    · rw [if_pos h, if_pos (key.2 h)]
    · rw [if_neg h, if_neg (fun e => h (key.1 e))]
  · rw [h2, hX2, show ((X : Int) + 1).natAbs = X + 1 by omega, ru_next, Int.natAbs_natCast]
    rw [hX2] at h3
    rw [if_pos]
    · rfl
    · rw [sgnlt_iff, sumZ_ge (by omega), show -k + -k - E = -(E + 2 * k) by omega]
      have hD : (0 : Int) < (2 : Int) ^ (-(E + 2 * k)).toNat := Int.pow_pos (by omega)
      generalize (2 : Int) ^ (-(E + 2 * k)).toNat = D at h3 hD ⊢
      rw [← Int.natCast_mul]
      have := Int.mul_le_mul_of_nonneg_left (show ((rt X * rt X : Nat) : Int) ≤ (X : Int) by omega) (Int.le_of_lt hD)
      omega

end Go.Proofs.YtnecnbonnidijaaDoor
/- RootAbove, of the program. -/
namespace Go.Proofs.YtnecnbonnidijaaDoor
set_option maxRecDepth 100000
open Go.RowKit
set_option linter.unusedSimpArgs false
set_option linter.unusedVariables false

noncomputable def raZ (S : Int) (xs : List Int) (E k : Int) : Int := if isD S xs E = true then if rbC S xs E k then nz (raR (S * magW S xs) E k) else 0 else 0
noncomputable def raX (S : Int) (xs : List Int) (E k : Int) : Int := if isD S xs E = true then if rbC S xs E k then nx (raR (S * magW S xs) E k) (-k) else 0 else 0
theorem ra_yes {S z E k : Int} {xs : List Int} (h : isD S xs E = true) (hz : isZ z S xs) (hk : rbC S xs E k) : raZ S xs E k = nz (raR z E k) ∧ raX S xs E k = nx (raR z E k) (-k) ∧ rbE S xs E k = 0 := by
  unfold raZ raX; rw [if_pos h, if_pos h, if_pos hk, if_pos hk, val_isZ hz]; exact ⟨rfl, rfl, (rb_yes h hz hk).2.2⟩
theorem ra_range {S E k : Int} {xs : List Int} (h : isD S xs E = true) (hk : ¬ rbC S xs E k) : raZ S xs E k = 0 ∧ raX S xs E k = 0 ∧ rbE S xs E k = 2 := by
  unfold raZ raX; rw [if_pos h, if_pos h, if_neg hk, if_neg hk]; exact ⟨rfl, rfl, (rb_range h hk).2.2⟩
theorem ra_no {S E k : Int} {xs : List Int} (h : isD S xs E = false) : raZ S xs E k = 0 ∧ raX S xs E k = 0 ∧ rbE S xs E k = 1 := by
  unfold raZ raX; rw [h]; exact ⟨rfl, rfl, (rb_no h).2.2⟩
theorem ra_cases (z E k : Int) : raR z E k = ((rt (shZ z (E + 2 * k)).natAbs : Nat) : Int) ∨ raR z E k = ((rt (shZ z (E + 2 * k)).natAbs + 1 : Nat) : Int) := by
  unfold raR; split
  · exact .inr rfl
  · exact .inl rfl
theorem ra_small {S z E k : Int} {xs : List Int} (hz : isZ z S xs) (hn : (limbs z.natAbs).length ≤ 100) (hk : rbC S xs E k) : (limbs (raR z E k).natAbs).length ≤ 100 := by
  obtain ⟨h1, h2, h3, h4⟩ := hk
  rw [rt_mag hz] at h4
  have h5 := shZ_small (s := E + 2 * k) hn (by omega)
  obtain ⟨X, hX⟩ : ∃ X, X = (shZ z (E + 2 * k)).natAbs := ⟨_, rfl⟩
  have hc := ra_cases z E k
  rw [← hX] at h5 hc
  rw [limbs_len_le, show (100 : Nat) = 50 + 50 from rfl, Nat.pow_add] at h5
  have h6 : rt X < Bs ^ 50 := sq_lt (Nat.lt_of_le_of_lt (rt_spec X).1 h5)
  have h7 : (raR z E k).natAbs ≤ Bs ^ 50 := by rcases hc with h | h <;> rw [h] <;> omega
  rw [limbs_len_le]
  refine Nat.lt_of_le_of_lt h7 (Nat.pow_lt_pow_right (by decide) (by omega))
theorem ra_ok {S z E k : Int} {xs : List Int} (hz : isZ z S xs) (hn : (limbs z.natAbs).length ≤ 100) (hk : rbC S xs E k) : okN (raR z E k) (-k) := by
  have h6 := ra_small hz hn hk
  obtain ⟨h1, h2, h3, h4⟩ := hk
  obtain ⟨r, hr⟩ : ∃ r : Nat, raR z E k = (r : Int) := by rcases ra_cases z E k with h | h <;> exact ⟨_, h⟩
  rw [hr] at h6 ⊢
  rw [Int.natAbs_natCast] at h6
  refine ⟨Nat.le_trans (limbs_len_mono (nz_le _)) (by rw [Int.natAbs_natCast]; exact h6), ?_⟩
  by_cases h0 : (r : Int) = 0
  · rw [h0, nx_zero]; omega
  · rw [nx_ne h0, Int.natAbs_natCast]
    have := tz_le (v := r) rfl
    omega
theorem ra_len (S : Int) (xs : List Int) (E k : Int) : (limbs (raZ S xs E k).natAbs).length ≤ 100 := by
  by_cases h : isD S xs E = true
  · by_cases hk : rbC S xs E k
    · obtain ⟨z, hz, ho⟩ := isD_of h
      rw [(ra_yes h hz hk).1]
      have hl : (limbs z.natAbs).length ≤ 100 := ho.1
      exact (ra_ok hz hl hk).1
    · rw [(ra_range h hk).1]; simp [limbs_zero]
  · rw [(ra_no (by simpa using h)).1]; simp [limbs_zero]

set_option maxHeartbeats 8000000 in
theorem implRootAW_any (S : Int) (A : Option Addr) (n c : Nat) (xs : List Int) (E k : Int) (w : World) (hr : Rd w w.heap.size A (vi xs)) (hn : xs.length = n) (hm : n ≤ 1048580) (hc : n ≤ c) (hT : TabZ w) :
    Calls Tryd.prog 20 #[.agg #[.int .i64 S, .slice A n c, .int .i64 E], .int .i64 k] w fun e w' => ∃ Sr Ar nr cr, e = .returned (.tuple #[.agg #[.int .i64 Sr, .slice Ar nr cr, .int .i64 (raX S xs E k)], .int .i64 (rbE S xs E k)]) ∧ ZO w' w.heap.size w'.heap.size (raZ S xs E k) Sr Ar nr cr ∧ Below w.heap.size w w' := by
  have hst := store_int Tryd.prog
  have hst2 := store_slice Tryd.prog
  obtain ⟨w1, hw1, hb1, hb3, hb4⟩ := dbox_res w S A n c E 30 30
  have RsD1 := Lib.hid hb3
  have Hlt : Hid (w.heap.size + 1 < w1.heap.size) := Lib.hid hb3.2
  have Hr := Lib.hid hr
  have Hn := Lib.hid hn
  have Hm := Lib.hid hm
  have Hc := Lib.hid hc
  have Hw := Lib.hid hw1
  have Bx1 := Lib.hid hb1
  have Bel1 := Lib.hid hb4
  clear hr hn hw1 hb1 hb3 hb4 hc
  have HT := Lib.hid hT
  clear hT
  go_enter Tryd.func20, Tryd.ntmps20
  go_wp2_with fail
  rw [← Hw.out]
  obtain ⟨⟨hBx0, hBx1, hBx2⟩, hBx3⟩ := Bx1.out
  obtain ⟨⟨hRsD0, hRsD1, hRsD2, hRsD3, hRsD4, hRsD5⟩, hRsD6⟩ := RsD1.out
  refine (implCheckR_any S A n c xs E k _ ((Hr.out.below Bel1.out).up Bel1.out.size) Hn.out Hm.out Hc.out).mono ?_
  rintro e w2 ⟨rfl, hb⟩
  have Sz2 := Lib.hid (Below.size hb)
  have Bel2 := Lib.hid (belNext Bel1.out hb)
  have Bx2 := Lib.hid (Bx1.out.next hb)
  have RsD2 := Lib.hid (RsD1.out.next hb)
  clear hb Bel1 Bx1 RsD1 hBx0 hBx1 hBx2 hBx3 hRsD0 hRsD1 hRsD2 hRsD3 hRsD4 hRsD5 hRsD6
  obtain ⟨⟨hBx0, hBx1, hBx2⟩, hBx3⟩ := Bx2.out
  obtain ⟨⟨hRsD0, hRsD1, hRsD2, hRsD3, hRsD4, hRsD5⟩, hRsD6⟩ := RsD2.out
  by_cases hW : isD S xs E = true
  · by_cases hk : rbC S xs E k
    · obtain ⟨z, hz, hok, hzv, hn100⟩ := isD_data hW Hr.out Hn.out Hc.out
      have hrb := ra_yes hW hz hk
      have Hfd := Lib.hid (fd_yes (ra_ok hz (by rw [hzv.2.1]; omega) hk))
      have Hsm : Hid ((limbs (raR z E k).natAbs).length ≤ 100) := Lib.hid (ra_small hz (by rw [hzv.2.1]; omega) hk)
      have Hres := Lib.hid hrb
      have Hz := Lib.hid hzv
      have Hp : Hid (0 ≤ z) := Lib.hid (by have h1 := hzv.1; have h2 := hk.2.2.1; exact Int.not_lt.1 (fun h => by rw [Int.sign_eq_neg_one_of_neg h] at h1; omega))
      have hE1 := hok.2.1
      have hE2 := hok.2.2.1
      have hk1 := hk.1
      have hk2 := hk.2.1
      have Hn100 : Hid ((n : Int) ≤ 100) := Lib.hid (by omega)
      rw [hrb.2.2]
      clear hz hzv hok hrb hk hW
      go_wp2_with fail
      refine (implRootB_any z S E A n c k _ (Hz.out.next Bel2.out) Hp.out (by omega) (by omega) (by omega) hk1 hk2 (HT.out.next Bel2.out)).mono ?_
      rintro e w3 ⟨S2, A2, n2, c2, rfl, hzo, hb⟩
      obtain ⟨Q, hQ⟩ : ∃ Q : Int, Q = ((rt (shZ z (E + 2 * k)).natAbs : Nat) : Int) := ⟨_, rfl⟩
      rw [← hQ] at hzo
      have HQ := Lib.hid hQ
      have Zo3 := Lib.hid hzo
      have Hn2 : Hid ((n2 : Int) ≤ 450) := Lib.hid (by have e := hzo.2.1; rw [hQ, Int.natAbs_natCast] at e; have h := limbs_len_mono (rt_le (shZ z (E + 2 * k)).natAbs); have h2 := shl_len4 (k := E + 2 * k) Hz.out.2.1 (by omega); rw [e] at h; have := Hn100.out; omega)
      obtain ⟨K2, hK2⟩ : ∃ K2, K2 = -k := ⟨_, rfl⟩
      rw [← hK2]
      have HK2 := Lib.hid hK2
      have hk3 : -200 ≤ K2 ∧ K2 ≤ 0 := by omega
      obtain ⟨hk3, hk4⟩ := hk3
      clear hzo hQ hK2
      have Sz3 := Lib.hid (Below.size hb)
      have Bel3 := Lib.hid (belNext Bel2.out hb)
      have Bx3 := Lib.hid (Bx2.out.next hb)
      have RsD3 := Lib.hid (RsD2.out.next hb)
      clear hb Bel2 Bx2 RsD2 hBx0 hBx1 hBx2 hBx3 hRsD0 hRsD1 hRsD2 hRsD3 hRsD4 hRsD5 hRsD6
      obtain ⟨⟨hBx0, hBx1, hBx2⟩, hBx3⟩ := Bx3.out
      obtain ⟨⟨hRsD0, hRsD1, hRsD2, hRsD3, hRsD4, hRsD5⟩, hRsD6⟩ := RsD3.out
      go_upto_region 5 with fail
      obtain ⟨w4, hw4⟩ : ∃ w4, w4 = w3.alloc (.cells #[.int .i64 S2, .slice A2 n2 c2, .int .i64 K2] 30) := ⟨_, rfl⟩
      rw [← hw4]
      obtain ⟨f, hf⟩ : ∃ f, f = w3.heap.size := ⟨_, rfl⟩
      have hb : Below w3.heap.size w3 w4 := by rw [hw4]; exact belAlloc1 _ _
      have Ba4 : Hid (DBox w4 f S2 A2 n2 c2 K2) := Lib.hid (by rw [hw4, hf]; exact DBox.new _ _ _ _ _ _ _)
      have Fr4 : Hid (Fr3 w4 f) := Lib.hid (by rw [hw4, hf]; exact Fr3.new _ _ _ _ _ _ _)
      have Hf : Hid (w3.heap.size ≤ f) := Lib.hid (by omega)
      have Hf2 : Hid (f < w4.heap.size) := Lib.hid Ba4.out.2
      rw [← hf]
      clear hw4 hf
      have Sz4 := Lib.hid (Below.size hb)
      have Bel4 := Lib.hid (belNext Bel3.out hb)
      have Bx4 := Lib.hid (Bx3.out.next hb)
      have RsD4 := Lib.hid (RsD3.out.next hb)
      have Zo4 := Lib.hid (Zo3.out.next hb)
      clear hb Bel3 Bx3 RsD3 Zo3 hBx0 hBx1 hBx2 hBx3 hRsD0 hRsD1 hRsD2 hRsD3 hRsD4 hRsD5 hRsD6
      obtain ⟨⟨hBx0, hBx1, hBx2⟩, hBx3⟩ := Bx4.out
      obtain ⟨⟨hBa0, hBa1, hBa2⟩, hBa3⟩ := Ba4.out
      obtain ⟨⟨hRsD0, hRsD1, hRsD2, hRsD3, hRsD4, hRsD5⟩, hRsD6⟩ := RsD4.out
      refine wp_region_held_drew (S := fun w' => (w'.cell? ⟨f, 0, none⟩ = some (.int .i64 S2) ∧ w'.cell? ⟨f, 1, none⟩ = some (.slice A2 n2 c2) ∧ w'.cell? ⟨f, 2, none⟩ = some (.int .i64 K2)) ∧ (w'.cell? ⟨w.heap.size, 0, none⟩ = some (.int .i64 S) ∧ w'.cell? ⟨w.heap.size, 1, none⟩ = some (.slice A n c) ∧ w'.cell? ⟨w.heap.size, 2, none⟩ = some (.int .i64 E))) (by kernel_rfl) ⟨Ba4.out.1, Bx4.out.1⟩ (fun hHeld => ?_)
      clear hBx0 hBx1 hBx2 hBx3 hBa0 hBa1 hBa2 hBa3 hRsD0 hRsD1 hRsD2 hRsD3 hRsD4 hRsD5 hRsD6
      refine wpAnyH_take (i := 0) (v := ?_) rfl (by kernel_rfl) (by kernel_rfl) (by kernel_rfl) (fun _ _ _ h => h) (Or.inl ⟨by rfl, ?_⟩) (by assumption) ?_
      rotate_left
      · (intro w hSw; (try dsimp only at hSw); go_simp; (try with_reducible rfl))
      try simp only [Act.put, List.setIfInBounds_toArray, List.set_cons_zero, List.set_cons_succ, List.getElem_toArray, List.getElem_cons_succ, List.getElem_cons_zero]
      refine wpAnyH_take (i := 1) (v := ?_) rfl (by kernel_rfl) (by kernel_rfl) (by kernel_rfl) (fun _ _ _ h => h) (Or.inl ⟨by rfl, ?_⟩) (by assumption) ?_
      rotate_left
      · (intro w hSw; (try dsimp only at hSw); go_simp; (try with_reducible rfl))
      try simp only [Act.put, List.setIfInBounds_toArray, List.set_cons_zero, List.set_cons_succ, List.getElem_toArray, List.getElem_cons_succ, List.getElem_cons_zero]
      refine wpAnyH_take (i := 3) (v := ?_) rfl (by kernel_rfl) (by kernel_rfl) (by kernel_rfl) (fun _ _ _ h => h) (Or.inl ⟨by rfl, ?_⟩) (by assumption) ?_
      rotate_left
      · (intro w hSw; (try dsimp only at hSw); go_simp; (try with_reducible rfl))
      try simp only [Act.put, List.setIfInBounds_toArray, List.set_cons_zero, List.set_cons_succ, List.getElem_toArray, List.getElem_cons_succ, List.getElem_cons_zero]
      refine wpAnyH_ready (rs := [2]) (by kernel_rfl) (by simp) ?_
      refine AllReadyH.cons rfl (fun K hK => ?_) AllReadyH.nil
      go_simp
      refine (implMulD_any Q S2 K2 Q S2 K2 A2 A2 n2 c2 n2 c2 w4.drew Zo4.out.zv Zo4.out.zv (by have := Hn2.out; omega) (by have := Hn2.out; omega) (by omega) (by omega) (by omega) (by omega)).mono ?_
      rintro e w5 ⟨Sm, Am, nm, cm, rfl, hzo, hb0⟩
      have hb : Below w4.heap.size w4 w5 := belDrew hb0
      have Zm5 := Lib.hid hzo
      have Hnm : Hid ((nm : Int) ≤ 910) := Lib.hid (by have h := mulZ_len (z := Q) (z' := Q) Zo4.out.2.1 Zo4.out.2.1; rw [hzo.2.1] at h; have := Hn2.out; omega)
      clear hzo
      refine hK.out _ _ ⟨(Ba4.out.next hb).1, (Bx4.out.next hb).1⟩ (fun hHeld => ?_)
      clear hK K hb0
      have Sz5 := Lib.hid (Below.size hb)
      have Bel5 := Lib.hid (belNext Bel4.out hb)
      have Bx5 := Lib.hid (Bx4.out.next hb)
      have RsD5 := Lib.hid (RsD4.out.next hb)
      have Zo5 := Lib.hid (Zo4.out.next hb)
      have Ba5 := Lib.hid (Ba4.out.next hb)
      have Fr5 := Lib.hid (Fr4.out.next hb)
      clear hb Bel4 Bx4 RsD4 Zo4 Ba4 Fr4
      try simp only [Act.put, List.setIfInBounds_toArray, List.set_cons_zero, List.set_cons_succ, List.getElem_toArray, List.getElem_cons_succ, List.getElem_cons_zero]
      refine wpAnyH_ready (rs := [4]) (by kernel_rfl) (by simp) ?_
      refine AllReadyH.cons rfl (fun K hK => ?_) AllReadyH.nil
      go_simp
      refine (implCmpD_any (Q * Q) Sm (K2 + K2) z S E Am A nm cm n c w5 Zm5.out.zv (Hz.out.next Bel5.out) (by have := Hnm.out; omega) (by have := Hn100.out; omega) (by omega) (by omega) (by omega) (by omega) (HT.out.next Bel5.out)).mono ?_
      rintro e w6 ⟨rfl, hb0⟩
      have hb : Below w5.heap.size w5 w6 := hb0
      obtain ⟨tt, htt⟩ : ∃ tt, tt = (sumZ (Q * Q) (K2 + K2) (-z) E).sign := ⟨_, rfl⟩
      rw [← htt]
      have Htt : Hid (tt = (sumZ (Q * Q) (-k + -k) (-z) E).sign) := Lib.hid (by rw [htt, HK2.out])
      clear htt
      refine hK.out _ _ ⟨(Ba5.out.next hb).1, (Bx5.out.next hb).1⟩ (fun hHeld => ?_)
      clear hK K hb0
      have Sz6 := Lib.hid (Below.size hb)
      have Bel6 := Lib.hid (belNext Bel5.out hb)
      have Bx6 := Lib.hid (Bx5.out.next hb)
      have RsD6 := Lib.hid (RsD5.out.next hb)
      have Zo6 := Lib.hid (Zo5.out.next hb)
      have Ba6 := Lib.hid (Ba5.out.next hb)
      have Fr6 := Lib.hid (Fr5.out.next hb)
      have Zm6 := Lib.hid (Zm5.out.next hb)
      clear hb Bel5 Bx5 RsD5 Zo5 Ba5 Fr5 Zm5
      try simp only [Act.put, List.setIfInBounds_toArray, List.set_cons_zero, List.set_cons_succ, List.getElem_toArray, List.getElem_cons_succ, List.getElem_cons_zero]
      refine wpAnyH_ready (rs := [5]) (by kernel_rfl) (by simp) ?_
      refine AllReadyH.cons rfl (fun K hK => ?_) AllReadyH.nil
      go_simp
      refine hK.out _ _ hHeld (fun hHeld => ?_)
      clear hK K
      try simp only [Act.put, List.setIfInBounds_toArray, List.set_cons_zero, List.set_cons_succ, List.getElem_toArray, List.getElem_cons_succ, List.getElem_cons_zero]
      clear hHeld
      refine wpAnyH_done (by kernel_rfl) ?_ _
      by_cases ht0 : tt < 0
      · have hd : decide (tt < 0) = true := decide_eq_true ht0
        have Hra : Hid (raR z E k = Q + 1) := Lib.hid (by unfold raR; rw [← HQ.out, if_pos (by rw [← Htt.out]; exact ht0)])
        rw [hd]
        clear ht0 hd
        obtain ⟨⟨hBx0, hBx1, hBx2⟩, hBx3⟩ := Bx6.out
        obtain ⟨⟨hBa0, hBa1, hBa2⟩, hBa3⟩ := Ba6.out
        obtain ⟨⟨hRsD0, hRsD1, hRsD2, hRsD3, hRsD4, hRsD5⟩, hRsD6⟩ := RsD6.out
        go_wp2_with fail
        clear hBx0 hBx1 hBx2 hBx3 hBa0 hBa1 hBa2 hBa3 hRsD0 hRsD1 hRsD2 hRsD3 hRsD4 hRsD5 hRsD6
        have hwk : IntKind.i64.wrap (-k) = -k := IntWalk.i64_in _ (by omega)
        refine wp_region_held_drew (S := fun w' => (w'.cell? ⟨w.heap.size, 0, none⟩ = some (.int .i64 S) ∧ w'.cell? ⟨w.heap.size, 1, none⟩ = some (.slice A n c) ∧ w'.cell? ⟨w.heap.size, 2, none⟩ = some (.int .i64 E))) (by kernel_rfl) Bx6.out.1 (fun hHeld => ?_)
        refine wpAnyH_take (i := 2) (v := ?_) rfl (by kernel_rfl) (by kernel_rfl) (by kernel_rfl) (fun _ _ _ h => h) (Or.inl ⟨by rfl, ?_⟩) (by assumption) ?_
        rotate_left
        · (intro w hSw; (try dsimp only at hSw); go_simp; (try with_reducible rfl))
        try simp only [Act.put, List.setIfInBounds_toArray, List.set_cons_zero, List.set_cons_succ, List.getElem_toArray, List.getElem_cons_succ, List.getElem_cons_zero]
        refine wpAnyH_take (i := 3) (v := ?_) rfl (by kernel_rfl) (by kernel_rfl) (by kernel_rfl) (fun _ _ _ h => h) (Or.inl ⟨by rfl, ?_⟩) (by assumption) ?_
        rotate_left
        · (intro w hSw; (try dsimp only at hSw); go_simp; (try with_reducible rfl))
        try simp only [Act.put, List.setIfInBounds_toArray, List.set_cons_zero, List.set_cons_succ, List.getElem_toArray, List.getElem_cons_succ, List.getElem_cons_zero]
        obtain ⟨⟨ba0, ba1, ba2⟩, ba3⟩ := Ba6.out
        refine wpAnyH_ready (rs := [0, 1]) (by kernel_rfl) (by simp) ?_
        refine AllReadyH.cons rfl (fun K hK => ?_) (AllReadyH.cons rfl (fun K hK => ?_) AllReadyH.nil)
        · go_simp
          refine hK.out _ _ hHeld (fun hHeld => ?_)
          clear hK K
          try simp only [Act.put, List.setIfInBounds_toArray, List.set_cons_zero, List.set_cons_succ, List.getElem_toArray, List.getElem_cons_succ, List.getElem_cons_zero]
          clear ba0 ba1 ba2 ba3
          refine wpAnyH_ready (rs := [1]) (by kernel_rfl) (by simp) ?_
          refine AllReadyH.cons rfl (fun K hK => ?_) AllReadyH.nil
          go_simp
          refine (wholeOf_any 1 w6.drew (by omega) (by omega)).mono ?_
          rintro e w7 ⟨val, rfl, hv, hb0⟩
          obtain ⟨S7, A7, n7, c7, rfl, hzo⟩ := Wz.zo hv (Nat.le_refl _)
          have hb : Below w6.heap.size w6 w7 := belDrew hb0
          have Zy7 := Lib.hid hzo.zv
          have Hn7 : Hid ((n7 : Int) ≤ 1) := Lib.hid (by
            have h := limbs_len_le.2 (show (1 : Int).natAbs < Bs ^ 1 by decide)
            have e := hzo.zv.len
            omega)
          clear hzo hv
          refine hK.out _ _ (Bx6.out.next hb).1 (fun hHeld => ?_)
          clear hK K hb0
          have Sz7 := Lib.hid (Below.size hb)
          have Bel7 := Lib.hid (belNext Bel6.out hb)
          have Bx7 := Lib.hid (Bx6.out.next hb)
          have RsD7 := Lib.hid (RsD6.out.next hb)
          have Zo7 := Lib.hid (Zo6.out.next hb)
          have Ba7 := Lib.hid (Ba6.out.next hb)
          have Fr7 := Lib.hid (Fr6.out.next hb)
          clear hb Bel6 Bx6 RsD6 Zo6 Ba6 Fr6
          try simp only [Act.put, List.setIfInBounds_toArray, List.set_cons_zero, List.set_cons_succ, List.getElem_toArray, List.getElem_cons_succ, List.getElem_cons_zero]
          refine wpAnyH_take (i := 4) (v := ?_) rfl (by kernel_rfl) (by kernel_rfl) (by kernel_rfl) (fun _ _ _ h => h) (Or.inl ⟨by rfl, ?_⟩) (by assumption) ?_
          rotate_left
          · (intro w hSw; (try dsimp only at hSw); go_simp; (try with_reducible rfl))
          try simp only [Act.put, List.setIfInBounds_toArray, List.set_cons_zero, List.set_cons_succ, List.getElem_toArray, List.getElem_cons_succ, List.getElem_cons_zero]
          refine wpAnyH_ready (rs := [5]) (by kernel_rfl) (by simp) ?_
          refine AllReadyH.cons rfl (fun K hK => ?_) AllReadyH.nil
          go_simp
          refine (implPlusD_any Q S2 K2 1 S7 (-k) A2 A7 n2 c2 n7 c7 w7 Zo7.out.zv Zy7.out (by have := Hn2.out; omega) (by have := Hn7.out; omega) (by omega) (by omega) (by omega) (by omega) (HT.out.next Bel7.out)).mono ?_
          rintro e w8 ⟨S8, A8, n8, c8, rfl, hzo, hb0⟩
          have hb : Below w7.heap.size w7 w8 := hb0
          have Zs8 := Lib.hid (hzo.cast_ (z' := raR z E k) (by rw [Hra.out, HK2.out, sumZ_le (Int.le_refl _), Int.sub_self]; simp))
          rw [show min K2 (-k) = -k by rw [HK2.out]; exact Int.min_self _]
          have Hn8 : Hid ((n8 : Int) ≤ 100) := Lib.hid (by have h := Hsm.out; rw [Zs8.out.2.1] at h; omega)
          clear hzo
          refine hK.out _ _ ((Bx7.out.next hb).1) (fun hHeld => ?_)
          clear hK K hb0
          have Sz8 := Lib.hid (Below.size hb)
          have Bel8 := Lib.hid (belNext Bel7.out hb)
          have Bx8 := Lib.hid (Bx7.out.next hb)
          have RsD8 := Lib.hid (RsD7.out.next hb)
          have Zo8 := Lib.hid (Zo7.out.next hb)
          have Ba8 := Lib.hid (Ba7.out.next hb)
          have Fr8 := Lib.hid (Fr7.out.next hb)
          have Zy8 := Lib.hid (Zy7.out.next hb)
          clear hb Bel7 Bx7 RsD7 Zo7 Ba7 Fr7 Zy7
          try simp only [Act.put, List.setIfInBounds_toArray, List.set_cons_zero, List.set_cons_succ, List.getElem_toArray, List.getElem_cons_succ, List.getElem_cons_zero]
          obtain ⟨⟨fr1, fr2, fr3⟩, fr4⟩ := Fr8.out
          obtain ⟨⟨ba0, ba1, ba2⟩, ba3⟩ := Ba8.out
          refine wpAnyH_ready (rs := [6]) (by kernel_rfl) (by simp) ?_
          refine AllReadyH.cons rfl (fun K hK => ?_) AllReadyH.nil
          go_simp
          refine hK.out _ (st3 w8 f S8 A8 n8 c8 (-k)) (((Bx8.out.keep (by have zz0 := Hlt.out; have zz1 := Sz2.out; have zz2 := Sz3.out; have zz3 := Sz4.out; have zz4 := Hf.out; have zz5 := Hf2.out; have zz6 := Sz5.out; have zz7 := Sz6.out; have zz8 := Sz7.out; have zz9 := Sz8.out; first | omega | (simp; done) | (simp; omega)) _).keep (by have zz0 := Hlt.out; have zz1 := Sz2.out; have zz2 := Sz3.out; have zz3 := Sz4.out; have zz4 := Hf.out; have zz5 := Hf2.out; have zz6 := Sz5.out; have zz7 := Sz6.out; have zz8 := Sz7.out; have zz9 := Sz8.out; first | omega | (simp; done) | (simp; omega)) _).keep (by have zz0 := Hlt.out; have zz1 := Sz2.out; have zz2 := Sz3.out; have zz3 := Sz4.out; have zz4 := Hf.out; have zz5 := Hf2.out; have zz6 := Sz5.out; have zz7 := Sz6.out; have zz8 := Sz7.out; have zz9 := Sz8.out; first | omega | (simp; done) | (simp; omega)) _).1 (fun hHeld => ?_)
          clear hK K hHeld
          try simp only [Act.put, List.setIfInBounds_toArray, List.set_cons_zero, List.set_cons_succ, List.getElem_toArray, List.getElem_cons_succ, List.getElem_cons_zero]
          refine wpAnyH_done (by kernel_rfl) ?_ _
          obtain ⟨w9, hw⟩ : ∃ w9, w9 = st3 w8 f S8 A8 n8 c8 (-k) := ⟨_, rfl⟩
          rw [← hw]
          have Ba9 : Hid (DBox w9 f S8 A8 n8 c8 (-k)) := Lib.hid (by rw [hw]; exact DBox.made ba3 ⟨_, ba0⟩ ⟨_, ba1⟩ ⟨_, ba2⟩)
          clear ba0 ba1 ba2 ba3
          have Zs9 := Lib.hid (show ZO w9 _ _ _ _ _ _ _ by rw [hw]; exact Zs8.out.st3_ (.inl (by have zz0 := Hlt.out; have zz1 := Sz2.out; have zz2 := Sz3.out; have zz3 := Sz4.out; have zz4 := Hf.out; have zz5 := Hf2.out; have zz6 := Sz5.out; have zz7 := Sz6.out; have zz8 := Sz7.out; have zz9 := Sz8.out; first | omega | (simp; done) | (simp; omega))))
          have Sz9 : Hid (w8.heap.size ≤ w9.heap.size) := Lib.hid (by rw [hw, st3_size]; exact Nat.le_refl _)
          have Bel9 : Hid (Below w.heap.size w w9) := Lib.hid (by rw [hw]; exact belSt3 Bel8.out (by have zz0 := Hlt.out; have zz1 := Sz2.out; have zz2 := Sz3.out; have zz3 := Sz4.out; have zz4 := Hf.out; have zz5 := Hf2.out; have zz6 := Sz5.out; have zz7 := Sz6.out; have zz8 := Sz7.out; have zz9 := Sz8.out; first | omega | (simp; done) | (simp; omega)))
          have RsD9 : Hid (DRes w9 (w.heap.size + 1)) := Lib.hid (by rw [hw]; exact RsD8.out.st3_ (by have zz0 := Hlt.out; have zz1 := Sz2.out; have zz2 := Sz3.out; have zz3 := Sz4.out; have zz4 := Hf.out; have zz5 := Hf2.out; have zz6 := Sz5.out; have zz7 := Sz6.out; have zz8 := Sz7.out; have zz9 := Sz8.out; first | omega | (simp; done) | (simp; omega)))
          clear hw fr1 fr2 fr3 fr4 Zs8 Ba8 Bel8 RsD8
          obtain ⟨⟨hBa0, hBa1, hBa2⟩, hBa3⟩ := Ba9.out
          obtain ⟨⟨hRsD0, hRsD1, hRsD2, hRsD3, hRsD4, hRsD5⟩, hRsD6⟩ := RsD9.out
          go_wp2_with fail
          refine (implLimD_any (raR z E k) S8 (-k) A8 n8 c8 _ Zs9.out.zv (by have := Hn8.out; omega) (by omega) (by omega) (HT.out.next Bel9.out)).mono ?_
          rintro e w10 ⟨S9, A9, n9, c9, rfl, hzo, hb⟩
          rw [Hfd.out.1] at hzo
          rw [Hfd.out.2.1, Hfd.out.2.2]
          have Zp10 := Lib.hid hzo
          clear hzo
          have Sz10 := Lib.hid (Below.size hb)
          have Bel10 := Lib.hid (belNext Bel9.out hb)
          have Ba10 := Lib.hid (Ba9.out.next hb)
          have RsD10 := Lib.hid (RsD9.out.next hb)
          have Zs10 := Lib.hid (Zs9.out.next hb)
          clear hb Bel9 Ba9 RsD9 Zs9 hBa0 hBa1 hBa2 hBa3 hRsD0 hRsD1 hRsD2 hRsD3 hRsD4 hRsD5 hRsD6
          obtain ⟨⟨hBa0, hBa1, hBa2⟩, hBa3⟩ := Ba10.out
          obtain ⟨⟨hRsD0, hRsD1, hRsD2, hRsD3, hRsD4, hRsD5⟩, hRsD6⟩ := RsD10.out
          go_wp2_with fail
          refine bodyPost_ret (v := .tuple #[.agg #[.int .i64 S9, .slice A9 n9 c9, .int .i64 (nx (raR z E k) (-k))], .int .i64 0]) (by simp [results, Tryd.results20, go_sem, hRsD0, hRsD1, hRsD2]) rfl ⟨S9, A9, n9, c9, by rw [Hres.out.2.1, Hres.out.2.2], ?_, ?_⟩
          · rw [Hres.out.1]; exact (((Zp10.out.setCell (.inl (by have zz0 := Hlt.out; have zz1 := Sz2.out; have zz2 := Sz3.out; have zz3 := Sz4.out; have zz4 := Hf.out; have zz5 := Hf2.out; have zz6 := Sz5.out; have zz7 := Sz6.out; have zz8 := Sz7.out; have zz9 := Sz8.out; have zz10 := Sz9.out; have zz11 := Sz10.out; first | omega | (simp; done) | (simp; omega))) _).setCell (.inl (by have zz0 := Hlt.out; have zz1 := Sz2.out; have zz2 := Sz3.out; have zz3 := Sz4.out; have zz4 := Hf.out; have zz5 := Hf2.out; have zz6 := Sz5.out; have zz7 := Sz6.out; have zz8 := Sz7.out; have zz9 := Sz8.out; have zz10 := Sz9.out; have zz11 := Sz10.out; first | omega | (simp; done) | (simp; omega))) _).setCell (.inl (by have zz0 := Hlt.out; have zz1 := Sz2.out; have zz2 := Sz3.out; have zz3 := Sz4.out; have zz4 := Hf.out; have zz5 := Hf2.out; have zz6 := Sz5.out; have zz7 := Sz6.out; have zz8 := Sz7.out; have zz9 := Sz8.out; have zz10 := Sz9.out; have zz11 := Sz10.out; first | omega | (simp; done) | (simp; omega))) _).wide (by have zz0 := Hlt.out; have zz1 := Sz2.out; have zz2 := Sz3.out; have zz3 := Sz4.out; have zz4 := Hf.out; have zz5 := Hf2.out; have zz6 := Sz5.out; have zz7 := Sz6.out; have zz8 := Sz7.out; have zz9 := Sz8.out; have zz10 := Sz9.out; have zz11 := Sz10.out; first | omega | (simp; done) | (simp; omega)) (by have zz0 := Hlt.out; have zz1 := Sz2.out; have zz2 := Sz3.out; have zz3 := Sz4.out; have zz4 := Hf.out; have zz5 := Hf2.out; have zz6 := Sz5.out; have zz7 := Sz6.out; have zz8 := Sz7.out; have zz9 := Sz8.out; have zz10 := Sz9.out; have zz11 := Sz10.out; first | omega | (simp; done) | (simp; omega)) (by have zz0 := Hlt.out; have zz1 := Sz2.out; have zz2 := Sz3.out; have zz3 := Sz4.out; have zz4 := Hf.out; have zz5 := Hf2.out; have zz6 := Sz5.out; have zz7 := Sz6.out; have zz8 := Sz7.out; have zz9 := Sz8.out; have zz10 := Sz9.out; have zz11 := Sz10.out; first | omega | (simp; done) | (simp; omega))
          · exact ((Bel10.out.setCell (by have zz0 := Hlt.out; have zz1 := Sz2.out; have zz2 := Sz3.out; have zz3 := Sz4.out; have zz4 := Hf.out; have zz5 := Hf2.out; have zz6 := Sz5.out; have zz7 := Sz6.out; have zz8 := Sz7.out; have zz9 := Sz8.out; have zz10 := Sz9.out; have zz11 := Sz10.out; first | omega | (simp; done) | (simp; omega)) _).setCell (by have zz0 := Hlt.out; have zz1 := Sz2.out; have zz2 := Sz3.out; have zz3 := Sz4.out; have zz4 := Hf.out; have zz5 := Hf2.out; have zz6 := Sz5.out; have zz7 := Sz6.out; have zz8 := Sz7.out; have zz9 := Sz8.out; have zz10 := Sz9.out; have zz11 := Sz10.out; first | omega | (simp; done) | (simp; omega)) _).setCell (by have zz0 := Hlt.out; have zz1 := Sz2.out; have zz2 := Sz3.out; have zz3 := Sz4.out; have zz4 := Hf.out; have zz5 := Hf2.out; have zz6 := Sz5.out; have zz7 := Sz6.out; have zz8 := Sz7.out; have zz9 := Sz8.out; have zz10 := Sz9.out; have zz11 := Sz10.out; first | omega | (simp; done) | (simp; omega)) _
        · go_simp
          clear ba0 ba1 ba2 ba3
          refine (wholeOf_any 1 w6.drew (by omega) (by omega)).mono ?_
          rintro e w7 ⟨val, rfl, hv, hb0⟩
          obtain ⟨S7, A7, n7, c7, rfl, hzo⟩ := Wz.zo hv (Nat.le_refl _)
          have hb : Below w6.heap.size w6 w7 := belDrew hb0
          have Zy7 := Lib.hid hzo.zv
          have Hn7 : Hid ((n7 : Int) ≤ 1) := Lib.hid (by
            have h := limbs_len_le.2 (show (1 : Int).natAbs < Bs ^ 1 by decide)
            have e := hzo.zv.len
            omega)
          clear hzo hv
          refine hK.out _ _ (Bx6.out.next hb).1 (fun hHeld => ?_)
          clear hK K hb0
          have Sz7 := Lib.hid (Below.size hb)
          have Bel7 := Lib.hid (belNext Bel6.out hb)
          have Bx7 := Lib.hid (Bx6.out.next hb)
          have RsD7 := Lib.hid (RsD6.out.next hb)
          have Zo7 := Lib.hid (Zo6.out.next hb)
          have Ba7 := Lib.hid (Ba6.out.next hb)
          have Fr7 := Lib.hid (Fr6.out.next hb)
          clear hb Bel6 Bx6 RsD6 Zo6 Ba6 Fr6
          try simp only [Act.put, List.setIfInBounds_toArray, List.set_cons_zero, List.set_cons_succ, List.getElem_toArray, List.getElem_cons_succ, List.getElem_cons_zero]
          refine wpAnyH_take (i := 4) (v := ?_) rfl (by kernel_rfl) (by kernel_rfl) (by kernel_rfl) (fun _ _ _ h => h) (Or.inl ⟨by rfl, ?_⟩) (by assumption) ?_
          rotate_left
          · (intro w hSw; (try dsimp only at hSw); go_simp; (try with_reducible rfl))
          try simp only [Act.put, List.setIfInBounds_toArray, List.set_cons_zero, List.set_cons_succ, List.getElem_toArray, List.getElem_cons_succ, List.getElem_cons_zero]
          obtain ⟨⟨ba0, ba1, ba2⟩, ba3⟩ := Ba7.out
          refine wpAnyH_ready (rs := [0]) (by kernel_rfl) (by simp) ?_
          refine AllReadyH.cons rfl (fun K hK => ?_) AllReadyH.nil
          go_simp
          refine hK.out _ _ hHeld (fun hHeld => ?_)
          clear hK K
          try simp only [Act.put, List.setIfInBounds_toArray, List.set_cons_zero, List.set_cons_succ, List.getElem_toArray, List.getElem_cons_succ, List.getElem_cons_zero]
          clear ba0 ba1 ba2 ba3
          refine wpAnyH_ready (rs := [5]) (by kernel_rfl) (by simp) ?_
          refine AllReadyH.cons rfl (fun K hK => ?_) AllReadyH.nil
          go_simp
          refine (implPlusD_any Q S2 K2 1 S7 (-k) A2 A7 n2 c2 n7 c7 w7 Zo7.out.zv Zy7.out (by have := Hn2.out; omega) (by have := Hn7.out; omega) (by omega) (by omega) (by omega) (by omega) (HT.out.next Bel7.out)).mono ?_
          rintro e w8 ⟨S8, A8, n8, c8, rfl, hzo, hb0⟩
          have hb : Below w7.heap.size w7 w8 := hb0
          have Zs8 := Lib.hid (hzo.cast_ (z' := raR z E k) (by rw [Hra.out, HK2.out, sumZ_le (Int.le_refl _), Int.sub_self]; simp))
          rw [show min K2 (-k) = -k by rw [HK2.out]; exact Int.min_self _]
          have Hn8 : Hid ((n8 : Int) ≤ 100) := Lib.hid (by have h := Hsm.out; rw [Zs8.out.2.1] at h; omega)
          clear hzo
          refine hK.out _ _ ((Bx7.out.next hb).1) (fun hHeld => ?_)
          clear hK K hb0
          have Sz8 := Lib.hid (Below.size hb)
          have Bel8 := Lib.hid (belNext Bel7.out hb)
          have Bx8 := Lib.hid (Bx7.out.next hb)
          have RsD8 := Lib.hid (RsD7.out.next hb)
          have Zo8 := Lib.hid (Zo7.out.next hb)
          have Ba8 := Lib.hid (Ba7.out.next hb)
          have Fr8 := Lib.hid (Fr7.out.next hb)
          have Zy8 := Lib.hid (Zy7.out.next hb)
          clear hb Bel7 Bx7 RsD7 Zo7 Ba7 Fr7 Zy7
          try simp only [Act.put, List.setIfInBounds_toArray, List.set_cons_zero, List.set_cons_succ, List.getElem_toArray, List.getElem_cons_succ, List.getElem_cons_zero]
          obtain ⟨⟨fr1, fr2, fr3⟩, fr4⟩ := Fr8.out
          obtain ⟨⟨ba0, ba1, ba2⟩, ba3⟩ := Ba8.out
          refine wpAnyH_ready (rs := [6]) (by kernel_rfl) (by simp) ?_
          refine AllReadyH.cons rfl (fun K hK => ?_) AllReadyH.nil
          go_simp
          refine hK.out _ (st3 w8 f S8 A8 n8 c8 (-k)) (((Bx8.out.keep (by have zz0 := Hlt.out; have zz1 := Sz2.out; have zz2 := Sz3.out; have zz3 := Sz4.out; have zz4 := Hf.out; have zz5 := Hf2.out; have zz6 := Sz5.out; have zz7 := Sz6.out; have zz8 := Sz7.out; have zz9 := Sz8.out; first | omega | (simp; done) | (simp; omega)) _).keep (by have zz0 := Hlt.out; have zz1 := Sz2.out; have zz2 := Sz3.out; have zz3 := Sz4.out; have zz4 := Hf.out; have zz5 := Hf2.out; have zz6 := Sz5.out; have zz7 := Sz6.out; have zz8 := Sz7.out; have zz9 := Sz8.out; first | omega | (simp; done) | (simp; omega)) _).keep (by have zz0 := Hlt.out; have zz1 := Sz2.out; have zz2 := Sz3.out; have zz3 := Sz4.out; have zz4 := Hf.out; have zz5 := Hf2.out; have zz6 := Sz5.out; have zz7 := Sz6.out; have zz8 := Sz7.out; have zz9 := Sz8.out; first | omega | (simp; done) | (simp; omega)) _).1 (fun hHeld => ?_)
          clear hK K hHeld
          try simp only [Act.put, List.setIfInBounds_toArray, List.set_cons_zero, List.set_cons_succ, List.getElem_toArray, List.getElem_cons_succ, List.getElem_cons_zero]
          refine wpAnyH_done (by kernel_rfl) ?_ _
          obtain ⟨w9, hw⟩ : ∃ w9, w9 = st3 w8 f S8 A8 n8 c8 (-k) := ⟨_, rfl⟩
          rw [← hw]
          have Ba9 : Hid (DBox w9 f S8 A8 n8 c8 (-k)) := Lib.hid (by rw [hw]; exact DBox.made ba3 ⟨_, ba0⟩ ⟨_, ba1⟩ ⟨_, ba2⟩)
          clear ba0 ba1 ba2 ba3
          have Zs9 := Lib.hid (show ZO w9 _ _ _ _ _ _ _ by rw [hw]; exact Zs8.out.st3_ (.inl (by have zz0 := Hlt.out; have zz1 := Sz2.out; have zz2 := Sz3.out; have zz3 := Sz4.out; have zz4 := Hf.out; have zz5 := Hf2.out; have zz6 := Sz5.out; have zz7 := Sz6.out; have zz8 := Sz7.out; have zz9 := Sz8.out; first | omega | (simp; done) | (simp; omega))))
          have Sz9 : Hid (w8.heap.size ≤ w9.heap.size) := Lib.hid (by rw [hw, st3_size]; exact Nat.le_refl _)
          have Bel9 : Hid (Below w.heap.size w w9) := Lib.hid (by rw [hw]; exact belSt3 Bel8.out (by have zz0 := Hlt.out; have zz1 := Sz2.out; have zz2 := Sz3.out; have zz3 := Sz4.out; have zz4 := Hf.out; have zz5 := Hf2.out; have zz6 := Sz5.out; have zz7 := Sz6.out; have zz8 := Sz7.out; have zz9 := Sz8.out; first | omega | (simp; done) | (simp; omega)))
          have RsD9 : Hid (DRes w9 (w.heap.size + 1)) := Lib.hid (by rw [hw]; exact RsD8.out.st3_ (by have zz0 := Hlt.out; have zz1 := Sz2.out; have zz2 := Sz3.out; have zz3 := Sz4.out; have zz4 := Hf.out; have zz5 := Hf2.out; have zz6 := Sz5.out; have zz7 := Sz6.out; have zz8 := Sz7.out; have zz9 := Sz8.out; first | omega | (simp; done) | (simp; omega)))
          clear hw fr1 fr2 fr3 fr4 Zs8 Ba8 Bel8 RsD8
          obtain ⟨⟨hBa0, hBa1, hBa2⟩, hBa3⟩ := Ba9.out
          obtain ⟨⟨hRsD0, hRsD1, hRsD2, hRsD3, hRsD4, hRsD5⟩, hRsD6⟩ := RsD9.out
          go_wp2_with fail
          refine (implLimD_any (raR z E k) S8 (-k) A8 n8 c8 _ Zs9.out.zv (by have := Hn8.out; omega) (by omega) (by omega) (HT.out.next Bel9.out)).mono ?_
          rintro e w10 ⟨S9, A9, n9, c9, rfl, hzo, hb⟩
          rw [Hfd.out.1] at hzo
          rw [Hfd.out.2.1, Hfd.out.2.2]
          have Zp10 := Lib.hid hzo
          clear hzo
          have Sz10 := Lib.hid (Below.size hb)
          have Bel10 := Lib.hid (belNext Bel9.out hb)
          have Ba10 := Lib.hid (Ba9.out.next hb)
          have RsD10 := Lib.hid (RsD9.out.next hb)
          have Zs10 := Lib.hid (Zs9.out.next hb)
          clear hb Bel9 Ba9 RsD9 Zs9 hBa0 hBa1 hBa2 hBa3 hRsD0 hRsD1 hRsD2 hRsD3 hRsD4 hRsD5 hRsD6
          obtain ⟨⟨hBa0, hBa1, hBa2⟩, hBa3⟩ := Ba10.out
          obtain ⟨⟨hRsD0, hRsD1, hRsD2, hRsD3, hRsD4, hRsD5⟩, hRsD6⟩ := RsD10.out
          go_wp2_with fail
          refine bodyPost_ret (v := .tuple #[.agg #[.int .i64 S9, .slice A9 n9 c9, .int .i64 (nx (raR z E k) (-k))], .int .i64 0]) (by simp [results, Tryd.results20, go_sem, hRsD0, hRsD1, hRsD2]) rfl ⟨S9, A9, n9, c9, by rw [Hres.out.2.1, Hres.out.2.2], ?_, ?_⟩
          · rw [Hres.out.1]; exact (((Zp10.out.setCell (.inl (by have zz0 := Hlt.out; have zz1 := Sz2.out; have zz2 := Sz3.out; have zz3 := Sz4.out; have zz4 := Hf.out; have zz5 := Hf2.out; have zz6 := Sz5.out; have zz7 := Sz6.out; have zz8 := Sz7.out; have zz9 := Sz8.out; have zz10 := Sz9.out; have zz11 := Sz10.out; first | omega | (simp; done) | (simp; omega))) _).setCell (.inl (by have zz0 := Hlt.out; have zz1 := Sz2.out; have zz2 := Sz3.out; have zz3 := Sz4.out; have zz4 := Hf.out; have zz5 := Hf2.out; have zz6 := Sz5.out; have zz7 := Sz6.out; have zz8 := Sz7.out; have zz9 := Sz8.out; have zz10 := Sz9.out; have zz11 := Sz10.out; first | omega | (simp; done) | (simp; omega))) _).setCell (.inl (by have zz0 := Hlt.out; have zz1 := Sz2.out; have zz2 := Sz3.out; have zz3 := Sz4.out; have zz4 := Hf.out; have zz5 := Hf2.out; have zz6 := Sz5.out; have zz7 := Sz6.out; have zz8 := Sz7.out; have zz9 := Sz8.out; have zz10 := Sz9.out; have zz11 := Sz10.out; first | omega | (simp; done) | (simp; omega))) _).wide (by have zz0 := Hlt.out; have zz1 := Sz2.out; have zz2 := Sz3.out; have zz3 := Sz4.out; have zz4 := Hf.out; have zz5 := Hf2.out; have zz6 := Sz5.out; have zz7 := Sz6.out; have zz8 := Sz7.out; have zz9 := Sz8.out; have zz10 := Sz9.out; have zz11 := Sz10.out; first | omega | (simp; done) | (simp; omega)) (by have zz0 := Hlt.out; have zz1 := Sz2.out; have zz2 := Sz3.out; have zz3 := Sz4.out; have zz4 := Hf.out; have zz5 := Hf2.out; have zz6 := Sz5.out; have zz7 := Sz6.out; have zz8 := Sz7.out; have zz9 := Sz8.out; have zz10 := Sz9.out; have zz11 := Sz10.out; first | omega | (simp; done) | (simp; omega)) (by have zz0 := Hlt.out; have zz1 := Sz2.out; have zz2 := Sz3.out; have zz3 := Sz4.out; have zz4 := Hf.out; have zz5 := Hf2.out; have zz6 := Sz5.out; have zz7 := Sz6.out; have zz8 := Sz7.out; have zz9 := Sz8.out; have zz10 := Sz9.out; have zz11 := Sz10.out; first | omega | (simp; done) | (simp; omega))
          · exact ((Bel10.out.setCell (by have zz0 := Hlt.out; have zz1 := Sz2.out; have zz2 := Sz3.out; have zz3 := Sz4.out; have zz4 := Hf.out; have zz5 := Hf2.out; have zz6 := Sz5.out; have zz7 := Sz6.out; have zz8 := Sz7.out; have zz9 := Sz8.out; have zz10 := Sz9.out; have zz11 := Sz10.out; first | omega | (simp; done) | (simp; omega)) _).setCell (by have zz0 := Hlt.out; have zz1 := Sz2.out; have zz2 := Sz3.out; have zz3 := Sz4.out; have zz4 := Hf.out; have zz5 := Hf2.out; have zz6 := Sz5.out; have zz7 := Sz6.out; have zz8 := Sz7.out; have zz9 := Sz8.out; have zz10 := Sz9.out; have zz11 := Sz10.out; first | omega | (simp; done) | (simp; omega)) _).setCell (by have zz0 := Hlt.out; have zz1 := Sz2.out; have zz2 := Sz3.out; have zz3 := Sz4.out; have zz4 := Hf.out; have zz5 := Hf2.out; have zz6 := Sz5.out; have zz7 := Sz6.out; have zz8 := Sz7.out; have zz9 := Sz8.out; have zz10 := Sz9.out; have zz11 := Sz10.out; first | omega | (simp; done) | (simp; omega)) _
      · have hd : decide (tt < 0) = false := decide_eq_false ht0
        have Hra : Hid (raR z E k = Q) := Lib.hid (by unfold raR; rw [← HQ.out, if_neg (by rw [← Htt.out]; exact ht0)])
        rw [hd]
        clear ht0 hd
        obtain ⟨⟨hBx0, hBx1, hBx2⟩, hBx3⟩ := Bx6.out
        obtain ⟨⟨hBa0, hBa1, hBa2⟩, hBa3⟩ := Ba6.out
        obtain ⟨⟨hRsD0, hRsD1, hRsD2, hRsD3, hRsD4, hRsD5⟩, hRsD6⟩ := RsD6.out
        go_wp2_with fail
        rw [HK2.out]
        refine (implLimD_any (raR z E k) S2 (-k) A2 n2 c2 _ (Zo6.out.cast_ Hra.out.symm).zv (by have := Hn2.out; omega) (by omega) (by omega) (HT.out.next Bel6.out)).mono ?_
        rintro e w7 ⟨S9, A9, n9, c9, rfl, hzo, hb⟩
        rw [Hfd.out.1] at hzo
        rw [Hfd.out.2.1, Hfd.out.2.2]
        have Zp7 := Lib.hid hzo
        clear hzo
        have Sz7 := Lib.hid (Below.size hb)
        have Bel7 := Lib.hid (belNext Bel6.out hb)
        have Bx7 := Lib.hid (Bx6.out.next hb)
        have RsD7 := Lib.hid (RsD6.out.next hb)
        have Zo7 := Lib.hid (Zo6.out.next hb)
        have Ba7 := Lib.hid (Ba6.out.next hb)
        have Fr7 := Lib.hid (Fr6.out.next hb)
        clear hb Bel6 Bx6 RsD6 Zo6 Ba6 Fr6 hBx0 hBx1 hBx2 hBx3 hBa0 hBa1 hBa2 hBa3 hRsD0 hRsD1 hRsD2 hRsD3 hRsD4 hRsD5 hRsD6
        obtain ⟨⟨hBx0, hBx1, hBx2⟩, hBx3⟩ := Bx7.out
        obtain ⟨⟨hBa0, hBa1, hBa2⟩, hBa3⟩ := Ba7.out
        obtain ⟨⟨hRsD0, hRsD1, hRsD2, hRsD3, hRsD4, hRsD5⟩, hRsD6⟩ := RsD7.out
        go_wp2_with fail
        refine bodyPost_ret (v := .tuple #[.agg #[.int .i64 S9, .slice A9 n9 c9, .int .i64 (nx (raR z E k) (-k))], .int .i64 0]) (by simp [results, Tryd.results20, go_sem, hRsD0, hRsD1, hRsD2]) rfl ⟨S9, A9, n9, c9, by rw [Hres.out.2.1, Hres.out.2.2], ?_, ?_⟩
        · rw [Hres.out.1]; exact (((Zp7.out.setCell (.inl (by have zz0 := Hlt.out; have zz1 := Sz2.out; have zz2 := Sz3.out; have zz3 := Sz4.out; have zz4 := Hf.out; have zz5 := Hf2.out; have zz6 := Sz5.out; have zz7 := Sz6.out; have zz8 := Sz7.out; first | omega | (simp; done) | (simp; omega))) _).setCell (.inl (by have zz0 := Hlt.out; have zz1 := Sz2.out; have zz2 := Sz3.out; have zz3 := Sz4.out; have zz4 := Hf.out; have zz5 := Hf2.out; have zz6 := Sz5.out; have zz7 := Sz6.out; have zz8 := Sz7.out; first | omega | (simp; done) | (simp; omega))) _).setCell (.inl (by have zz0 := Hlt.out; have zz1 := Sz2.out; have zz2 := Sz3.out; have zz3 := Sz4.out; have zz4 := Hf.out; have zz5 := Hf2.out; have zz6 := Sz5.out; have zz7 := Sz6.out; have zz8 := Sz7.out; first | omega | (simp; done) | (simp; omega))) _).wide (by have zz0 := Hlt.out; have zz1 := Sz2.out; have zz2 := Sz3.out; have zz3 := Sz4.out; have zz4 := Hf.out; have zz5 := Hf2.out; have zz6 := Sz5.out; have zz7 := Sz6.out; have zz8 := Sz7.out; first | omega | (simp; done) | (simp; omega)) (by have zz0 := Hlt.out; have zz1 := Sz2.out; have zz2 := Sz3.out; have zz3 := Sz4.out; have zz4 := Hf.out; have zz5 := Hf2.out; have zz6 := Sz5.out; have zz7 := Sz6.out; have zz8 := Sz7.out; first | omega | (simp; done) | (simp; omega)) (by have zz0 := Hlt.out; have zz1 := Sz2.out; have zz2 := Sz3.out; have zz3 := Sz4.out; have zz4 := Hf.out; have zz5 := Hf2.out; have zz6 := Sz5.out; have zz7 := Sz6.out; have zz8 := Sz7.out; first | omega | (simp; done) | (simp; omega))
        · exact ((Bel7.out.setCell (by have zz0 := Hlt.out; have zz1 := Sz2.out; have zz2 := Sz3.out; have zz3 := Sz4.out; have zz4 := Hf.out; have zz5 := Hf2.out; have zz6 := Sz5.out; have zz7 := Sz6.out; have zz8 := Sz7.out; first | omega | (simp; done) | (simp; omega)) _).setCell (by have zz0 := Hlt.out; have zz1 := Sz2.out; have zz2 := Sz3.out; have zz3 := Sz4.out; have zz4 := Hf.out; have zz5 := Hf2.out; have zz6 := Sz5.out; have zz7 := Sz6.out; have zz8 := Sz7.out; first | omega | (simp; done) | (simp; omega)) _).setCell (by have zz0 := Hlt.out; have zz1 := Sz2.out; have zz2 := Sz3.out; have zz3 := Sz4.out; have zz4 := Hf.out; have zz5 := Hf2.out; have zz6 := Sz5.out; have zz7 := Sz6.out; have zz8 := Sz7.out; first | omega | (simp; done) | (simp; omega)) _
    · have hrb := ra_range hW hk
      have Hres := Lib.hid hrb
      rw [hrb.2.2]
      clear hrb hk hW
      go_wp2_with fail
      refine bodyPost_ret (v := .tuple #[.agg #[.int .i64 0, .slice none 0 0, .int .i64 0], .int .i64 2]) (by simp [results, Tryd.results20, go_sem, hRsD0, hRsD1, hRsD2]) rfl ⟨0, none, 0, 0, by rw [Hres.out.2.1, Hres.out.2.2], ?_, ?_⟩
      · rw [Hres.out.1]; exact ZO.zero (Nat.le_refl _)
      · exact ((Bel2.out.setCell (by have zz0 := Hlt.out; have zz1 := Sz2.out; first | omega | (simp; done) | (simp; omega)) _).setCell (by have zz0 := Hlt.out; have zz1 := Sz2.out; first | omega | (simp; done) | (simp; omega)) _).setCell (by have zz0 := Hlt.out; have zz1 := Sz2.out; first | omega | (simp; done) | (simp; omega)) _
  · have hW2 : isD S xs E = false := by simpa using hW
    have hrb := ra_no (k := k) hW2
    have Hres := Lib.hid hrb
    rw [hrb.2.2]
    clear hrb hW hW2
    go_wp2_with fail
    refine bodyPost_ret (v := .tuple #[.agg #[.int .i64 0, .slice none 0 0, .int .i64 0], .int .i64 1]) (by simp [results, Tryd.results20, go_sem, hRsD0, hRsD1, hRsD2]) rfl ⟨0, none, 0, 0, by rw [Hres.out.2.1, Hres.out.2.2], ?_, ?_⟩
    · rw [Hres.out.1]; exact ZO.zero (Nat.le_refl _)
    · exact ((Bel2.out.setCell (by have zz0 := Hlt.out; have zz1 := Sz2.out; first | omega | (simp; done) | (simp; omega)) _).setCell (by have zz0 := Hlt.out; have zz1 := Sz2.out; first | omega | (simp; done) | (simp; omega)) _).setCell (by have zz0 := Hlt.out; have zz1 := Sz2.out; first | omega | (simp; done) | (simp; omega)) _

end Go.Proofs.YtnecnbonnidijaaDoor
/- RootAbove, of the model. -/
namespace Go.Proofs.YtnecnbonnidijaaDoor
set_option maxRecDepth 100000
open Go.RowKit
set_option linter.unusedSimpArgs false
set_option linter.unusedVariables false

theorem blen_shZ {z s : Int} (hp : 0 ≤ z) (h : (blen z.natAbs : Int) + s ≤ 800) : blen (shZ z s).natAbs ≤ 800 := by
  by_cases h0 : z = 0
  · subst h0
    have e : shZ 0 s = 0 := by unfold shZ; split <;> simp
    rw [e, Int.natAbs_zero, blen_zero]; omega
  · by_cases hs : 0 ≤ s
    · rw [shZ_up hs, abs_pow_mul, blen_shl (by omega)]; omega
    · rw [shZ_down (by omega)]
      obtain ⟨v, rfl⟩ : ∃ v : Nat, z = (v : Int) := ⟨z.toNat, by omega⟩
      rw [shr_pos, Int.natAbs_natCast, blen_shr]
      rw [Int.natAbs_natCast] at h
      omega
theorem ce_small {z s : Int} (hp : 0 ≤ z) (h : (blen z.natAbs : Int) + s ≤ 800) : (limbs (ceZ z s).natAbs).length ≤ 100 := by
  have hX := shZ_nonneg (s := s) hp
  obtain ⟨b, hb⟩ : ∃ b, b = blen (shZ z s).natAbs := ⟨_, rfl⟩
  have h1 := blen_shZ hp h
  rw [← hb] at h1
  have h2 := blen_lt.1 (show blen (shZ z s).natAbs ≤ b by omega)
  have h3 : (ceZ z s).natAbs ≤ (shZ z s).natAbs + 1 := by
    rcases ce_cases z s with ⟨e, _⟩ | ⟨_, e, _⟩ <;> rw [e] <;> omega
  obtain ⟨m, hm⟩ : ∃ m, m = 100 := ⟨_, rfl⟩
  rw [← hm, limbs_len_le, Bs_pow]
  exact Nat.lt_of_le_of_lt (Nat.le_trans h3 h2) (Nat.pow_lt_pow_right (by omega) (by omega))
theorem ce_nonneg {z s : Int} (hp : 0 ≤ z) : 0 ≤ ceZ z s := by
  have hX := shZ_nonneg (s := s) hp
  rcases ce_cases z s with ⟨e, _⟩ | ⟨_, e, _⟩ <;> rw [e] <;> omega
theorem shZ_norm {U k : Int} (hk : 0 ≤ k) : shZ (nz U) (nx U (-k) + k) = U := by
  by_cases h : U = 0
  · subst h; rw [nz_zero, nx_zero]; unfold shZ; split <;> simp
  · have e := left_back (e := k) h
    rw [shZ_up (by rw [nx_ne h]; omega)]
    exact e
/-- squares of roots of steps against the steps -/
theorem root_cmp {R U k : Int} (hk : 0 ≤ k) : (sumZ (nz (nz R * nz R)) (nx (nz R * nz R) (nx R (-k) + nx R (-k))) (-(nz U)) (nx U (-(2 * k)))).sign = (R * R - U).sign := by
  have g := nx_ge (B := -k) (z := R) (e := -k) (Int.le_refl _) (by omega)
  have g1 : -(2 * k) ≤ nx R (-k) + nx R (-k) := by omega
  have g2 := nx_ge (B := -(2 * k)) (z := nz R * nz R) g1 (by omega)
  have g3 := nx_ge (B := -(2 * k)) (z := U) (e := -(2 * k)) (Int.le_refl _) (by omega)
  rw [← sign_uV (-(2 * k)) _ (min (nx (nz R * nz R) (nx R (-k) + nx R (-k))) (nx U (-(2 * k)))), uV_sum g2 g3, uV_nz g1, uV_neg, uV_nz (Int.le_refl _), uV_one]
  have h := uV_mul (z := nz R) (z' := nz R) g g
  rw [uV_nz (Int.le_refl _), uV_one, show -k + -k = -(2 * k) by omega] at h
  rw [h, ← Int.sub_eq_add_neg]
theorem root_add {R k : Int} (hk : 0 ≤ k) : nz (sumZ (nz R) (nx R (-k)) (nz 1) (nx 1 (-k))) = nz (R + 1) ∧ nx (sumZ (nz R) (nx R (-k)) (nz 1) (nx 1 (-k))) (min (nx R (-k)) (nx 1 (-k))) = nx (R + 1) (-k) := by
  have g := nx_ge (B := -k) (z := R) (e := -k) (Int.le_refl _) (by omega)
  have g1 := nx_ge (B := -k) (z := 1) (e := -k) (Int.le_refl _) (by omega)
  refine nzx_same (B := -k) (by omega) (Int.le_refl _) ?_
  rw [uV_sum g g1, uV_nz (Int.le_refl _), uV_nz (Int.le_refl _), uV_one, uV_one, uV_one]
theorem nz_sq_odd {z : Int} (h : z ≠ 0) : (nz z).natAbs % 2 = 1 := by
  rw [(nz_facts z).2]; exact (tz_spec (v := z.natAbs) (by omega)).2
theorem nz_sq_tz {R : Int} (h : nz R * nz R ≠ 0) : tz (nz R * nz R).natAbs = 0 := by
  have hR : R ≠ 0 := fun e => h (by rw [e, nz_zero]; rfl)
  have h1 := nz_sq_odd hR
  refine tz_odd ?_
  rw [Int.natAbs_mul, Nat.mul_mod, h1]
theorem ra_rt {z E k : Int} (hp : 0 ≤ z) (U : Int) (hU : U = ceZ z (E + 2 * k)) : raR z E k = if ((rt U.natAbs : Nat) : Int) * ((rt U.natAbs : Nat) : Int) - U < 0 then ((rt U.natAbs : Nat) : Int) + 1 else ((rt U.natAbs : Nat) : Int) := by
  have h0 : 0 ≤ U := by rw [hU]; exact ce_nonneg hp
  rw [ra_eq hp, ← hU, ru_same]
  obtain ⟨v, rfl⟩ : ∃ v : Nat, U = (v : Int) := ⟨U.toNat, by omega⟩
  rw [Int.natAbs_natCast, ← Int.natCast_mul]
  by_cases h : rt v * rt v < v
  · rw [if_pos h, if_pos (by omega)]
  · rw [if_neg h, if_neg (by omega)]

set_option maxHeartbeats 8000000 in
theorem specRootA_any (z S E : Int) (A : Option Addr) (n c : Nat) (k : Int) (w : World) (hz : ZV w z S A n c) (hp : 0 ≤ z) (hm : (n : Int) ≤ 100) (h1 : -4000 ≤ E) (h2 : E ≤ 4000) (h3 : 0 ≤ k) (h4 : k ≤ 200) (hsm : (limbs (ceZ z (E + 2 * k)).natAbs).length ≤ 100) :
    Calls Tryd.prog 57 #[.agg #[.int .i64 S, .slice A n c, .int .i64 E], .int .i64 k] w fun e w' => ∃ Sr Ar nr cr, e = .returned (.agg #[.int .i64 Sr, .slice Ar nr cr, .int .i64 (nx (raR z E k) (-k))]) ∧ ZO w' w.heap.size w'.heap.size (nz (raR z E k)) Sr Ar nr cr ∧ Below w.heap.size w w' := by
  have hst := store_int Tryd.prog
  have hst2 := store_slice Tryd.prog
  obtain ⟨w1, hw1, hb1, hb3, hb4⟩ := dbox_res w S A n c E 30 30
  have RsD1 := Lib.hid hb3
  have Hlt : Hid (w.heap.size + 1 < w1.heap.size) := Lib.hid hb3.2
  have Zv1 := Lib.hid (hz.next hb4)
  have Hp := Lib.hid hp
  have Hsm := Lib.hid hsm
  clear hp hsm
  have Hw := Lib.hid hw1
  have Bx1 := Lib.hid hb1
  have Bel1 := Lib.hid hb4
  have HS : Hid (S = z.sign) := Lib.hid hz.1
  have Hn : Hid ((limbs z.natAbs).length = n) := Lib.hid hz.2.1
  have Hm : Hid ((n : Int) ≤ 100) := Lib.hid hm
  clear hz hw1 hb1 hb4 hb3
  go_enter Tryd.func57, Tryd.ntmps57
  go_wp2_with fail
  rw [← Hw.out]
  obtain ⟨⟨hBx0, hBx1, hBx2⟩, hBx3⟩ := Bx1.out
  obtain ⟨⟨hRsD0, hRsD1, hRsD2, hRsD3, hRsD4, hRsD5⟩, hRsD6⟩ := RsD1.out
  refine (specCeilD_any z S E A n c (2 * k) _ (Zv1.out) (by omega) (by omega) (by omega) (by omega) (by omega)).mono ?_
  rintro e w2 ⟨S2, A2, n2, c2, rfl, hzo, hb⟩
  have hzo : ZO w2 w1.heap.size w2.heap.size (nz (ceZ z (E + 2 * k))) S2 A2 n2 c2 := hzo
  obtain ⟨U, hU⟩ : ∃ U, U = ceZ z (E + 2 * k) := ⟨_, rfl⟩
  obtain ⟨X, hX⟩ : ∃ X, X = nx U (-(2 * k)) := ⟨_, rfl⟩
  rw [show -(shZ (-z) (E + 2 * k)) = U from hU.symm, ← hX]
  rw [← hU] at hzo
  have HU := Lib.hid hU
  have HX := Lib.hid hX
  have Zo2 := Lib.hid hzo
  have Hup : Hid (0 ≤ U) := Lib.hid (by rw [hU]; exact ce_nonneg Hp.out)
  have Hul : Hid ((limbs U.natAbs).length ≤ 100) := Lib.hid (by rw [hU]; exact Hsm.out)
  have Hn2 : Hid ((n2 : Int) ≤ 100) := Lib.hid (by have h := limbs_len_mono (nz_le U); have e := hzo.2.1; have := Hul.out; omega)
  have Hx : Hid (-400 ≤ X ∧ X ≤ 2400) := Lib.hid (by
    rw [hX]
    by_cases h0 : U = 0
    · rw [h0, nx_zero]; omega
    · rw [nx_ne h0]; have := tz_le (v := U.natAbs) rfl; have := Hul.out; omega)
  obtain ⟨R, hR⟩ : ∃ R : Int, R = ((rt U.natAbs : Nat) : Int) := ⟨_, rfl⟩
  obtain ⟨Y, hY⟩ : ∃ Y, Y = nx R (-k) := ⟨_, rfl⟩
  have HR := Lib.hid hR
  have HY := Lib.hid hY
  have HRl : Hid ((limbs R.natAbs).length ≤ 50) := Lib.hid (by
    rw [hR, Int.natAbs_natCast]
    have h5 := Hul.out
    rw [limbs_len_le, show (100 : Nat) = 50 + 50 from rfl, Nat.pow_add] at h5
    rw [limbs_len_le]
    exact sq_lt (Nat.lt_of_le_of_lt (rt_spec _).1 h5))
  have Hy : Hid (-200 ≤ Y ∧ Y ≤ 1200) := Lib.hid (by
    rw [hY]
    by_cases h0 : R = 0
    · rw [h0, nx_zero]; omega
    · rw [nx_ne h0]; have := tz_le (v := R.natAbs) rfl; have := HRl.out; omega)
  clear hzo hX hU hR hY
  have Sz2 := Lib.hid (Below.size hb)
  have Bel2 := Lib.hid (belNext Bel1.out hb)
  have Bx2 := Lib.hid (Bx1.out.next hb)
  have RsD2 := Lib.hid (RsD1.out.next hb)
  clear hb Bel1 Bx1 RsD1 hBx0 hBx1 hBx2 hBx3 hRsD0 hRsD1 hRsD2 hRsD3 hRsD4 hRsD5 hRsD6
  obtain ⟨⟨hBx0, hBx1, hBx2⟩, hBx3⟩ := Bx2.out
  obtain ⟨⟨hRsD0, hRsD1, hRsD2, hRsD3, hRsD4, hRsD5⟩, hRsD6⟩ := RsD2.out
  go_upto_region 2 with fail
  obtain ⟨w3, hw3⟩ : ∃ w3, w3 = w2.alloc (.cells #[.int .i64 S2, .slice A2 n2 c2, .int .i64 X] 30) := ⟨_, rfl⟩
  rw [← hw3]
  obtain ⟨fu, hfu⟩ : ∃ f, f = w2.heap.size := ⟨_, rfl⟩
  have hb : Below w2.heap.size w2 w3 := by rw [hw3]; exact belAlloc1 _ _
  have Bu3 : Hid (DBox w3 fu S2 A2 n2 c2 X) := Lib.hid (by rw [hw3, hfu]; exact DBox.new _ _ _ _ _ _ _)
  have Hfu : Hid (w2.heap.size ≤ fu ∧ fu < w3.heap.size) := Lib.hid ⟨by omega, by rw [hfu, hw3]; simp⟩
  rw [← hfu]
  clear hw3 hfu
  have Sz3 := Lib.hid (Below.size hb)
  have Bel3 := Lib.hid (belNext Bel2.out hb)
  have Bx3 := Lib.hid (Bx2.out.next hb)
  have RsD3 := Lib.hid (RsD2.out.next hb)
  have Zo3 := Lib.hid (Zo2.out.next hb)
  clear hb Bel2 Bx2 RsD2 Zo2 hBx0 hBx1 hBx2 hBx3 hRsD0 hRsD1 hRsD2 hRsD3 hRsD4 hRsD5 hRsD6
  obtain ⟨⟨hBx0, hBx1, hBx2⟩, hBx3⟩ := Bx3.out
  obtain ⟨⟨hBu0, hBu1, hBu2⟩, hBu3⟩ := Bu3.out
  obtain ⟨⟨hRsD0, hRsD1, hRsD2, hRsD3, hRsD4, hRsD5⟩, hRsD6⟩ := RsD3.out
  go_wp2_with fail
  refine (specRootB_any (nz U) S2 X A2 n2 c2 k _ Zo3.out.zv (Int.sign_nonneg_iff.1 (by rw [(nz_facts U).1]; exact Int.sign_nonneg_iff.2 Hup.out)) Hn2.out (by have := Hx.out; omega) (by have := Hx.out; omega) (by omega) (by omega)).mono ?_
  rintro e w4 ⟨S3, A3, n3, c3, rfl, hzo, hb⟩
  have e3 : shZ (nz U) (X + 2 * k) = U := by rw [HX.out]; exact shZ_norm (by omega)
  rw [e3] at hzo ⊢
  rw [← HR.out] at hzo ⊢
  rw [← HY.out]
  have Zr4 := Lib.hid hzo
  have Hn3 : Hid ((n3 : Int) ≤ 100) := Lib.hid (by have h := limbs_len_mono (nz_le R); have e := hzo.2.1; have := HRl.out; omega)
  clear hzo e3
  have Sz4 := Lib.hid (Below.size hb)
  have Bel4 := Lib.hid (belNext Bel3.out hb)
  have Bx4 := Lib.hid (Bx3.out.next hb)
  have RsD4 := Lib.hid (RsD3.out.next hb)
  have Zo4 := Lib.hid (Zo3.out.next hb)
  have Bu4 := Lib.hid (Bu3.out.next hb)
  clear hb Bel3 Bx3 RsD3 Zo3 Bu3 hBx0 hBx1 hBx2 hBx3 hBu0 hBu1 hBu2 hBu3 hRsD0 hRsD1 hRsD2 hRsD3 hRsD4 hRsD5 hRsD6
  obtain ⟨⟨hBx0, hBx1, hBx2⟩, hBx3⟩ := Bx4.out
  obtain ⟨⟨hBu0, hBu1, hBu2⟩, hBu3⟩ := Bu4.out
  obtain ⟨⟨hRsD0, hRsD1, hRsD2, hRsD3, hRsD4, hRsD5⟩, hRsD6⟩ := RsD4.out
  go_upto_region 3 with fail
  obtain ⟨w5, hw5⟩ : ∃ w5, w5 = w4.alloc (.cells #[.int .i64 S3, .slice A3 n3 c3, .int .i64 Y] 30) := ⟨_, rfl⟩
  rw [← hw5]
  obtain ⟨fr, hfr⟩ : ∃ f, f = w4.heap.size := ⟨_, rfl⟩
  have hb : Below w4.heap.size w4 w5 := by rw [hw5]; exact belAlloc1 _ _
  have Br5 : Hid (DBox w5 fr S3 A3 n3 c3 Y) := Lib.hid (by rw [hw5, hfr]; exact DBox.new _ _ _ _ _ _ _)
  have Hfr : Hid (w4.heap.size ≤ fr ∧ fr < w5.heap.size) := Lib.hid ⟨by omega, by rw [hfr, hw5]; simp⟩
  rw [← hfr]
  clear hw5 hfr
  have Sz5 := Lib.hid (Below.size hb)
  have Bel5 := Lib.hid (belNext Bel4.out hb)
  have Bx5 := Lib.hid (Bx4.out.next hb)
  have RsD5 := Lib.hid (RsD4.out.next hb)
  have Zo5 := Lib.hid (Zo4.out.next hb)
  have Bu5 := Lib.hid (Bu4.out.next hb)
  have Zr5 := Lib.hid (Zr4.out.next hb)
  clear hb Bel4 Bx4 RsD4 Zo4 Bu4 Zr4 hBx0 hBx1 hBx2 hBx3 hBu0 hBu1 hBu2 hBu3 hRsD0 hRsD1 hRsD2 hRsD3 hRsD4 hRsD5 hRsD6
  obtain ⟨⟨hBx0, hBx1, hBx2⟩, hBx3⟩ := Bx5.out
  obtain ⟨⟨hBu0, hBu1, hBu2⟩, hBu3⟩ := Bu5.out
  obtain ⟨⟨hBr0, hBr1, hBr2⟩, hBr3⟩ := Br5.out
  obtain ⟨⟨hRsD0, hRsD1, hRsD2, hRsD3, hRsD4, hRsD5⟩, hRsD6⟩ := RsD5.out
  refine wp_region_held_drew (S := fun w' => (w'.cell? ⟨fu, 0, none⟩ = some (.int .i64 S2) ∧ w'.cell? ⟨fu, 1, none⟩ = some (.slice A2 n2 c2) ∧ w'.cell? ⟨fu, 2, none⟩ = some (.int .i64 X)) ∧ (w'.cell? ⟨fr, 0, none⟩ = some (.int .i64 S3) ∧ w'.cell? ⟨fr, 1, none⟩ = some (.slice A3 n3 c3) ∧ w'.cell? ⟨fr, 2, none⟩ = some (.int .i64 Y))) (by kernel_rfl) ⟨Bu5.out.1, Br5.out.1⟩ (fun hHeld => ?_)
  clear hBx0 hBx1 hBx2 hBx3 hBu0 hBu1 hBu2 hBu3 hBr0 hBr1 hBr2 hBr3 hRsD0 hRsD1 hRsD2 hRsD3 hRsD4 hRsD5 hRsD6
  refine wpAnyH_take (i := 0) (v := ?_) rfl (by kernel_rfl) (by kernel_rfl) (by kernel_rfl) (fun _ _ _ h => h) (Or.inl ⟨by rfl, ?_⟩) (by assumption) ?_
  rotate_left
  · (intro w hSw; (try dsimp only at hSw); go_simp; (try with_reducible rfl))
  try simp only [Act.put, List.setIfInBounds_toArray, List.set_cons_zero, List.set_cons_succ, List.getElem_toArray, List.getElem_cons_succ, List.getElem_cons_zero]
  refine wpAnyH_take (i := 1) (v := ?_) rfl (by kernel_rfl) (by kernel_rfl) (by kernel_rfl) (fun _ _ _ h => h) (Or.inl ⟨by rfl, ?_⟩) (by assumption) ?_
  rotate_left
  · (intro w hSw; (try dsimp only at hSw); go_simp; (try with_reducible rfl))
  try simp only [Act.put, List.setIfInBounds_toArray, List.set_cons_zero, List.set_cons_succ, List.getElem_toArray, List.getElem_cons_succ, List.getElem_cons_zero]
  refine wpAnyH_take (i := 3) (v := ?_) rfl (by kernel_rfl) (by kernel_rfl) (by kernel_rfl) (fun _ _ _ h => h) (Or.inl ⟨by rfl, ?_⟩) (by assumption) ?_
  rotate_left
  · (intro w hSw; (try dsimp only at hSw); go_simp; (try with_reducible rfl))
  try simp only [Act.put, List.setIfInBounds_toArray, List.set_cons_zero, List.set_cons_succ, List.getElem_toArray, List.getElem_cons_succ, List.getElem_cons_zero]
  refine wpAnyH_ready (rs := [2]) (by kernel_rfl) (by simp) ?_
  refine AllReadyH.cons rfl (fun K hK => ?_) AllReadyH.nil
  go_simp
  refine (specMulD_any (nz R) S3 Y (nz R) S3 Y A3 A3 n3 c3 n3 c3 w5.drew Zr5.out.zv Zr5.out.zv (by have := Hn3.out; omega) (by have := Hn3.out; omega) (by have := Hy.out; omega) (by have := Hy.out; omega) (by have := Hy.out; omega) (by have := Hy.out; omega)).mono ?_
  rintro e w6 ⟨Sm, Am, nm, cm, rfl, hzo, hb0⟩
  have hb : Below w5.heap.size w5 w6 := belDrew hb0
  obtain ⟨M, hM⟩ : ∃ M, M = nx (nz R * nz R) (Y + Y) := ⟨_, rfl⟩
  rw [← hM]
  have HM := Lib.hid hM
  have Zm6 := Lib.hid hzo
  have Hnm : Hid ((nm : Int) ≤ 210) := Lib.hid (by have h := mulZ_len (z := nz R) (z' := nz R) Zr5.out.2.1 Zr5.out.2.1; have h2 := limbs_len_mono (nz_le (nz R * nz R)); rw [hzo.2.1] at h2; have := Hn3.out; omega)
  have Hmb : Hid (-400 ≤ M ∧ M ≤ 4000) := Lib.hid (by
    rw [hM]
    have := Hy.out
    by_cases h0 : nz R * nz R = 0
    · rw [h0, nx_zero]; omega
    · rw [nx_ne h0, nz_sq_tz h0]
      omega)
  clear hzo hM
  refine hK.out _ _ ⟨(Bu5.out.next hb).1, (Br5.out.next hb).1⟩ (fun hHeld => ?_)
  clear hK K hb0
  have Sz6 := Lib.hid (Below.size hb)
  have Bel6 := Lib.hid (belNext Bel5.out hb)
  have Bx6 := Lib.hid (Bx5.out.next hb)
  have RsD6 := Lib.hid (RsD5.out.next hb)
  have Zo6 := Lib.hid (Zo5.out.next hb)
  have Bu6 := Lib.hid (Bu5.out.next hb)
  have Zr6 := Lib.hid (Zr5.out.next hb)
  have Br6 := Lib.hid (Br5.out.next hb)
  clear hb Bel5 Bx5 RsD5 Zo5 Bu5 Zr5 Br5
  try simp only [Act.put, List.setIfInBounds_toArray, List.set_cons_zero, List.set_cons_succ, List.getElem_toArray, List.getElem_cons_succ, List.getElem_cons_zero]
  refine wpAnyH_ready (rs := [4]) (by kernel_rfl) (by simp) ?_
  refine AllReadyH.cons rfl (fun K hK => ?_) AllReadyH.nil
  go_simp
  refine (specCmpD_any (nz (nz R * nz R)) Sm M (nz U) S2 X Am A2 nm cm n2 c2 w6 Zm6.out.zv Zo6.out.zv (by have := Hnm.out; omega) (by have := Hn2.out; omega) (by have := Hmb.out; omega) (by have := Hmb.out; omega) (by have := Hx.out; omega) (by have := Hx.out; omega)).mono ?_
  rintro e w7 ⟨rfl, hb0⟩
  have hb : Below w6.heap.size w6 w7 := hb0
  obtain ⟨tt, htt⟩ : ∃ tt, tt = (sumZ (nz (nz R * nz R)) M (-(nz U)) X).sign := ⟨_, rfl⟩
  rw [← htt]
  have Htt : Hid (tt = (R * R - U).sign) := Lib.hid (by rw [htt, HM.out, HX.out, HY.out]; exact root_cmp (by omega))
  clear htt
  refine hK.out _ _ ⟨(Bu6.out.next hb).1, (Br6.out.next hb).1⟩ (fun hHeld => ?_)
  clear hK K hb0
  have Sz7 := Lib.hid (Below.size hb)
  have Bel7 := Lib.hid (belNext Bel6.out hb)
  have Bx7 := Lib.hid (Bx6.out.next hb)
  have RsD7 := Lib.hid (RsD6.out.next hb)
  have Zo7 := Lib.hid (Zo6.out.next hb)
  have Bu7 := Lib.hid (Bu6.out.next hb)
  have Zr7 := Lib.hid (Zr6.out.next hb)
  have Br7 := Lib.hid (Br6.out.next hb)
  have Zm7 := Lib.hid (Zm6.out.next hb)
  clear hb Bel6 Bx6 RsD6 Zo6 Bu6 Zr6 Br6 Zm6
  try simp only [Act.put, List.setIfInBounds_toArray, List.set_cons_zero, List.set_cons_succ, List.getElem_toArray, List.getElem_cons_succ, List.getElem_cons_zero]
  refine wpAnyH_ready (rs := [5]) (by kernel_rfl) (by simp) ?_
  refine AllReadyH.cons rfl (fun K hK => ?_) AllReadyH.nil
  go_simp
  refine hK.out _ _ hHeld (fun hHeld => ?_)
  clear hK K
  try simp only [Act.put, List.setIfInBounds_toArray, List.set_cons_zero, List.set_cons_succ, List.getElem_toArray, List.getElem_cons_succ, List.getElem_cons_zero]
  clear hHeld
  refine wpAnyH_done (by kernel_rfl) ?_ _
  by_cases ht0 : tt < 0
  · have hd : decide (tt < 0) = true := decide_eq_true ht0
    have Hra : Hid (raR z E k = R + 1) := Lib.hid (by rw [ra_rt Hp.out U HU.out, ← HR.out, if_pos (by rw [← sgnlt_iff, ← Htt.out]; exact ht0)])
    rw [hd]
    clear ht0 hd
    obtain ⟨⟨hBx0, hBx1, hBx2⟩, hBx3⟩ := Bx7.out
    obtain ⟨⟨hBu0, hBu1, hBu2⟩, hBu3⟩ := Bu7.out
    obtain ⟨⟨hBr0, hBr1, hBr2⟩, hBr3⟩ := Br7.out
    obtain ⟨⟨hRsD0, hRsD1, hRsD2, hRsD3, hRsD4, hRsD5⟩, hRsD6⟩ := RsD7.out
    go_wp2_with fail
    clear hBx0 hBx1 hBx2 hBx3 hBu0 hBu1 hBu2 hBu3 hBr0 hBr1 hBr2 hBr3 hRsD0 hRsD1 hRsD2 hRsD3 hRsD4 hRsD5 hRsD6
    have hwk : IntKind.i64.wrap (-k) = -k := IntWalk.i64_in _ (by omega)
    refine wp_region_held_drew (S := fun w' => (w'.cell? ⟨fr, 0, none⟩ = some (.int .i64 S3) ∧ w'.cell? ⟨fr, 1, none⟩ = some (.slice A3 n3 c3) ∧ w'.cell? ⟨fr, 2, none⟩ = some (.int .i64 Y))) (by kernel_rfl) Br7.out.1 (fun hHeld => ?_)
    refine wpAnyH_take (i := 0) (v := ?_) rfl (by kernel_rfl) (by kernel_rfl) (by kernel_rfl) (fun _ _ _ h => h) (Or.inl ⟨by rfl, ?_⟩) (by assumption) ?_
    rotate_left
    · (intro w hSw; (try dsimp only at hSw); go_simp; (try with_reducible rfl))
    try simp only [Act.put, List.setIfInBounds_toArray, List.set_cons_zero, List.set_cons_succ, List.getElem_toArray, List.getElem_cons_succ, List.getElem_cons_zero]
    refine wpAnyH_take (i := 2) (v := ?_) rfl (by kernel_rfl) (by kernel_rfl) (by kernel_rfl) (fun _ _ _ h => h) (Or.inl ⟨by rfl, ?_⟩) (by assumption) ?_
    rotate_left
    · (intro w hSw; (try dsimp only at hSw); go_simp; (try with_reducible rfl))
    try simp only [Act.put, List.setIfInBounds_toArray, List.set_cons_zero, List.set_cons_succ, List.getElem_toArray, List.getElem_cons_succ, List.getElem_cons_zero]
    refine wpAnyH_take (i := 3) (v := ?_) rfl (by kernel_rfl) (by kernel_rfl) (by kernel_rfl) (fun _ _ _ h => h) (Or.inl ⟨by rfl, ?_⟩) (by assumption) ?_
    rotate_left
    · (intro w hSw; (try dsimp only at hSw); go_simp; (try with_reducible rfl))
    try simp only [Act.put, List.setIfInBounds_toArray, List.set_cons_zero, List.set_cons_succ, List.getElem_toArray, List.getElem_cons_succ, List.getElem_cons_zero]
    refine wpAnyH_ready (rs := [1]) (by kernel_rfl) (by simp) ?_
    refine AllReadyH.cons rfl (fun K hK => ?_) AllReadyH.nil
    go_simp
    refine (specOne_any w7.drew).mono ?_
    rintro e w8 ⟨S7, A7, n7, c7, rfl, hzo, hn7, hb0⟩
    have hb : Below w7.heap.size w7 w8 := belDrew hb0
    have Zy8 := Lib.hid hzo
    have Hn7 := Lib.hid hn7
    clear hzo hn7
    refine hK.out _ _ (Br7.out.next hb).1 (fun hHeld => ?_)
    clear hK K hb0
    have Sz8 := Lib.hid (Below.size hb)
    have Bel8 := Lib.hid (belNext Bel7.out hb)
    have Bx8 := Lib.hid (Bx7.out.next hb)
    have RsD8 := Lib.hid (RsD7.out.next hb)
    have Zo8 := Lib.hid (Zo7.out.next hb)
    have Bu8 := Lib.hid (Bu7.out.next hb)
    have Zr8 := Lib.hid (Zr7.out.next hb)
    have Br8 := Lib.hid (Br7.out.next hb)
    clear hb Bel7 Bx7 RsD7 Zo7 Bu7 Zr7 Br7
    try simp only [Act.put, List.setIfInBounds_toArray, List.set_cons_zero, List.set_cons_succ, List.getElem_toArray, List.getElem_cons_succ, List.getElem_cons_zero]
    refine wpAnyH_ready (rs := [4]) (by kernel_rfl) (by simp) ?_
    refine AllReadyH.cons rfl (fun K hK => ?_) AllReadyH.nil
    go_simp
    refine (specMakeD_any ((1 : Nat) : Int) S7 (-k) A7 n7 c7 w8 Zy8.out.zv (by have := Hn7.out; omega) (by omega) (by omega)).mono ?_
    rintro e w9 ⟨S8, A8, n8, c8, rfl, hzo, hb0⟩
    have hb : Below w8.heap.size w8 w9 := hb0
    have Zt9 := Lib.hid hzo
    have Hn8 : Hid ((n8 : Int) ≤ 1) := Lib.hid (by have h := limbs_len_mono (nz_le ((1 : Nat) : Int)); have e := hzo.2.1; have e7 := Zy8.out.2.1; have := Hn7.out; omega)
    clear hzo
    refine hK.out _ _ ((Br8.out.next hb).1) (fun hHeld => ?_)
    clear hK K hb0
    have Sz9 := Lib.hid (Below.size hb)
    have Bel9 := Lib.hid (belNext Bel8.out hb)
    have Bx9 := Lib.hid (Bx8.out.next hb)
    have RsD9 := Lib.hid (RsD8.out.next hb)
    have Zo9 := Lib.hid (Zo8.out.next hb)
    have Bu9 := Lib.hid (Bu8.out.next hb)
    have Zr9 := Lib.hid (Zr8.out.next hb)
    have Br9 := Lib.hid (Br8.out.next hb)
    have Zy9 := Lib.hid (Zy8.out.next hb)
    clear hb Bel8 Bx8 RsD8 Zo8 Bu8 Zr8 Br8 Zy8
    try simp only [Act.put, List.setIfInBounds_toArray, List.set_cons_zero, List.set_cons_succ, List.getElem_toArray, List.getElem_cons_succ, List.getElem_cons_zero]
    refine wpAnyH_ready (rs := [5]) (by kernel_rfl) (by simp) ?_
    refine AllReadyH.cons rfl (fun K hK => ?_) AllReadyH.nil
    go_simp
    refine (specAddD_any (nz R) S3 Y (nz ((1 : Nat) : Int)) S8 (nx ((1 : Nat) : Int) (-k)) A3 A8 n3 c3 n8 c8 w9 Zr9.out.zv Zt9.out.zv (by have := Hn3.out; omega) (by have := Hn8.out; omega) (by have := Hy.out; omega) (by have := Hy.out; omega) (by rw [nx_ne (by decide), show tz (((1 : Nat) : Int)).natAbs = 0 from tz_odd rfl]; omega) (by rw [nx_ne (by decide), show tz (((1 : Nat) : Int)).natAbs = 0 from tz_odd rfl]; omega)).mono ?_
    rintro e w10 ⟨S9, A9, n9, c9, rfl, hzo, hb0⟩
    have hb : Below w9.heap.size w9 w10 := hb0
    have hra := root_add (R := R) (k := k) (by omega)
    rw [← HY.out] at hra
    rw [show (((1 : Nat) : Int)) = 1 from rfl, hra.1] at hzo
    rw [show (((1 : Nat) : Int)) = 1 from rfl, hra.2]
    have Zp10 := Lib.hid hzo
    clear hzo hra
    refine hK.out _ _ ((Br9.out.next hb).1) (fun hHeld => ?_)
    clear hK K hb0
    have Sz10 := Lib.hid (Below.size hb)
    have Bel10 := Lib.hid (belNext Bel9.out hb)
    have Bx10 := Lib.hid (Bx9.out.next hb)
    have RsD10 := Lib.hid (RsD9.out.next hb)
    have Zo10 := Lib.hid (Zo9.out.next hb)
    have Bu10 := Lib.hid (Bu9.out.next hb)
    have Zr10 := Lib.hid (Zr9.out.next hb)
    have Br10 := Lib.hid (Br9.out.next hb)
    have Zy10 := Lib.hid (Zy9.out.next hb)
    have Zt10 := Lib.hid (Zt9.out.next hb)
    clear hb Bel9 Bx9 RsD9 Zo9 Bu9 Zr9 Br9 Zy9 Zt9
    try simp only [Act.put, List.setIfInBounds_toArray, List.set_cons_zero, List.set_cons_succ, List.getElem_toArray, List.getElem_cons_succ, List.getElem_cons_zero]
    obtain ⟨⟨hRsD0, hRsD1, hRsD2, hRsD3, hRsD4, hRsD5⟩, hRsD6⟩ := RsD10.out
    refine wpAnyH_ready (rs := [6]) (by kernel_rfl) (by simp) ?_
    refine AllReadyH.cons rfl (fun K hK => ?_) AllReadyH.nil
    go_simp
    refine hK.out _ _ ((((Br10.out.keep (by have zz0 := Hlt.out; have zz1 := Sz2.out; have zz2 := Sz3.out; have zz3 := Hfu.out; have zz4 := Sz4.out; have zz5 := Sz5.out; have zz6 := Hfr.out; have zz7 := Sz6.out; have zz8 := Sz7.out; have zz9 := Sz8.out; have zz10 := Sz9.out; have zz11 := Sz10.out; first | omega | (simp; done) | (simp; omega)) _).keep (by have zz0 := Hlt.out; have zz1 := Sz2.out; have zz2 := Sz3.out; have zz3 := Hfu.out; have zz4 := Sz4.out; have zz5 := Sz5.out; have zz6 := Hfr.out; have zz7 := Sz6.out; have zz8 := Sz7.out; have zz9 := Sz8.out; have zz10 := Sz9.out; have zz11 := Sz10.out; first | omega | (simp; done) | (simp; omega)) _).keep (by have zz0 := Hlt.out; have zz1 := Sz2.out; have zz2 := Sz3.out; have zz3 := Hfu.out; have zz4 := Sz4.out; have zz5 := Sz5.out; have zz6 := Hfr.out; have zz7 := Sz6.out; have zz8 := Sz7.out; have zz9 := Sz8.out; have zz10 := Sz9.out; have zz11 := Sz10.out; first | omega | (simp; done) | (simp; omega)) _).1) (fun hHeld => ?_)
    clear hK K hHeld
    try simp only [Act.put, List.setIfInBounds_toArray, List.set_cons_zero, List.set_cons_succ, List.getElem_toArray, List.getElem_cons_succ, List.getElem_cons_zero]
    refine wpAnyH_done (by kernel_rfl) ?_ _
    go_wp2_with fail
    refine bodyPost_ret (v := .agg #[.int .i64 S9, .slice A9 n9 c9, .int .i64 (nx (R + 1) (-k))]) (by simp [results, Tryd.results57, go_sem, hRsD0, hRsD1, hRsD2]) rfl ⟨S9, A9, n9, c9, by rw [Hra.out], ?_, ?_⟩
    · rw [Hra.out]; exact (((Zp10.out.setCell (.inl (by have zz0 := Hlt.out; have zz1 := Sz2.out; have zz2 := Sz3.out; have zz3 := Hfu.out; have zz4 := Sz4.out; have zz5 := Sz5.out; have zz6 := Hfr.out; have zz7 := Sz6.out; have zz8 := Sz7.out; have zz9 := Sz8.out; have zz10 := Sz9.out; have zz11 := Sz10.out; first | omega | (simp; done) | (simp; omega))) _).setCell (.inl (by have zz0 := Hlt.out; have zz1 := Sz2.out; have zz2 := Sz3.out; have zz3 := Hfu.out; have zz4 := Sz4.out; have zz5 := Sz5.out; have zz6 := Hfr.out; have zz7 := Sz6.out; have zz8 := Sz7.out; have zz9 := Sz8.out; have zz10 := Sz9.out; have zz11 := Sz10.out; first | omega | (simp; done) | (simp; omega))) _).setCell (.inl (by have zz0 := Hlt.out; have zz1 := Sz2.out; have zz2 := Sz3.out; have zz3 := Hfu.out; have zz4 := Sz4.out; have zz5 := Sz5.out; have zz6 := Hfr.out; have zz7 := Sz6.out; have zz8 := Sz7.out; have zz9 := Sz8.out; have zz10 := Sz9.out; have zz11 := Sz10.out; first | omega | (simp; done) | (simp; omega))) _).wide (by have zz0 := Hlt.out; have zz1 := Sz2.out; have zz2 := Sz3.out; have zz3 := Hfu.out; have zz4 := Sz4.out; have zz5 := Sz5.out; have zz6 := Hfr.out; have zz7 := Sz6.out; have zz8 := Sz7.out; have zz9 := Sz8.out; have zz10 := Sz9.out; have zz11 := Sz10.out; first | omega | (simp; done) | (simp; omega)) (by have zz0 := Hlt.out; have zz1 := Sz2.out; have zz2 := Sz3.out; have zz3 := Hfu.out; have zz4 := Sz4.out; have zz5 := Sz5.out; have zz6 := Hfr.out; have zz7 := Sz6.out; have zz8 := Sz7.out; have zz9 := Sz8.out; have zz10 := Sz9.out; have zz11 := Sz10.out; first | omega | (simp; done) | (simp; omega)) (by have zz0 := Hlt.out; have zz1 := Sz2.out; have zz2 := Sz3.out; have zz3 := Hfu.out; have zz4 := Sz4.out; have zz5 := Sz5.out; have zz6 := Hfr.out; have zz7 := Sz6.out; have zz8 := Sz7.out; have zz9 := Sz8.out; have zz10 := Sz9.out; have zz11 := Sz10.out; first | omega | (simp; done) | (simp; omega))
    · exact ((Bel10.out.setCell (by have zz0 := Hlt.out; have zz1 := Sz2.out; have zz2 := Sz3.out; have zz3 := Hfu.out; have zz4 := Sz4.out; have zz5 := Sz5.out; have zz6 := Hfr.out; have zz7 := Sz6.out; have zz8 := Sz7.out; have zz9 := Sz8.out; have zz10 := Sz9.out; have zz11 := Sz10.out; first | omega | (simp; done) | (simp; omega)) _).setCell (by have zz0 := Hlt.out; have zz1 := Sz2.out; have zz2 := Sz3.out; have zz3 := Hfu.out; have zz4 := Sz4.out; have zz5 := Sz5.out; have zz6 := Hfr.out; have zz7 := Sz6.out; have zz8 := Sz7.out; have zz9 := Sz8.out; have zz10 := Sz9.out; have zz11 := Sz10.out; first | omega | (simp; done) | (simp; omega)) _).setCell (by have zz0 := Hlt.out; have zz1 := Sz2.out; have zz2 := Sz3.out; have zz3 := Hfu.out; have zz4 := Sz4.out; have zz5 := Sz5.out; have zz6 := Hfr.out; have zz7 := Sz6.out; have zz8 := Sz7.out; have zz9 := Sz8.out; have zz10 := Sz9.out; have zz11 := Sz10.out; first | omega | (simp; done) | (simp; omega)) _
  · have hd : decide (tt < 0) = false := decide_eq_false ht0
    have Hra : Hid (raR z E k = R) := Lib.hid (by rw [ra_rt Hp.out U HU.out, ← HR.out, if_neg (by rw [← sgnlt_iff, ← Htt.out]; exact ht0)])
    rw [hd]
    clear ht0 hd
    obtain ⟨⟨hBx0, hBx1, hBx2⟩, hBx3⟩ := Bx7.out
    obtain ⟨⟨hBu0, hBu1, hBu2⟩, hBu3⟩ := Bu7.out
    obtain ⟨⟨hBr0, hBr1, hBr2⟩, hBr3⟩ := Br7.out
    obtain ⟨⟨hRsD0, hRsD1, hRsD2, hRsD3, hRsD4, hRsD5⟩, hRsD6⟩ := RsD7.out
    go_wp2_with fail
    refine bodyPost_ret (v := .agg #[.int .i64 S3, .slice A3 n3 c3, .int .i64 Y]) (by simp [results, Tryd.results57, go_sem, hRsD0, hRsD1, hRsD2]) rfl ⟨S3, A3, n3, c3, by rw [Hra.out, HY.out], ?_, ?_⟩
    · rw [Hra.out]; exact (((Zr7.out.setCell (.inl (by have zz0 := Hlt.out; have zz1 := Sz2.out; have zz2 := Sz3.out; have zz3 := Hfu.out; have zz4 := Sz4.out; have zz5 := Sz5.out; have zz6 := Hfr.out; have zz7 := Sz6.out; have zz8 := Sz7.out; first | omega | (simp; done) | (simp; omega))) _).setCell (.inl (by have zz0 := Hlt.out; have zz1 := Sz2.out; have zz2 := Sz3.out; have zz3 := Hfu.out; have zz4 := Sz4.out; have zz5 := Sz5.out; have zz6 := Hfr.out; have zz7 := Sz6.out; have zz8 := Sz7.out; first | omega | (simp; done) | (simp; omega))) _).setCell (.inl (by have zz0 := Hlt.out; have zz1 := Sz2.out; have zz2 := Sz3.out; have zz3 := Hfu.out; have zz4 := Sz4.out; have zz5 := Sz5.out; have zz6 := Hfr.out; have zz7 := Sz6.out; have zz8 := Sz7.out; first | omega | (simp; done) | (simp; omega))) _).wide (by have zz0 := Hlt.out; have zz1 := Sz2.out; have zz2 := Sz3.out; have zz3 := Hfu.out; have zz4 := Sz4.out; have zz5 := Sz5.out; have zz6 := Hfr.out; have zz7 := Sz6.out; have zz8 := Sz7.out; first | omega | (simp; done) | (simp; omega)) (by have zz0 := Hlt.out; have zz1 := Sz2.out; have zz2 := Sz3.out; have zz3 := Hfu.out; have zz4 := Sz4.out; have zz5 := Sz5.out; have zz6 := Hfr.out; have zz7 := Sz6.out; have zz8 := Sz7.out; first | omega | (simp; done) | (simp; omega)) (by have zz0 := Hlt.out; have zz1 := Sz2.out; have zz2 := Sz3.out; have zz3 := Hfu.out; have zz4 := Sz4.out; have zz5 := Sz5.out; have zz6 := Hfr.out; have zz7 := Sz6.out; have zz8 := Sz7.out; first | omega | (simp; done) | (simp; omega))
    · exact ((Bel7.out.setCell (by have zz0 := Hlt.out; have zz1 := Sz2.out; have zz2 := Sz3.out; have zz3 := Hfu.out; have zz4 := Sz4.out; have zz5 := Sz5.out; have zz6 := Hfr.out; have zz7 := Sz6.out; have zz8 := Sz7.out; first | omega | (simp; done) | (simp; omega)) _).setCell (by have zz0 := Hlt.out; have zz1 := Sz2.out; have zz2 := Sz3.out; have zz3 := Hfu.out; have zz4 := Sz4.out; have zz5 := Sz5.out; have zz6 := Hfr.out; have zz7 := Sz6.out; have zz8 := Sz7.out; first | omega | (simp; done) | (simp; omega)) _).setCell (by have zz0 := Hlt.out; have zz1 := Sz2.out; have zz2 := Sz3.out; have zz3 := Hfu.out; have zz4 := Sz4.out; have zz5 := Sz5.out; have zz6 := Hfr.out; have zz7 := Sz6.out; have zz8 := Sz7.out; first | omega | (simp; done) | (simp; omega)) _

set_option maxHeartbeats 4000000 in
theorem specRootAW_any (S : Int) (A : Option Addr) (n c : Nat) (xs : List Int) (E k : Int) (w : World) (hr : Rd w w.heap.size A (vi xs)) (hn : xs.length = n) (hm : n ≤ 1048580) (hc : n ≤ c) :
    Calls Tryd.prog 19 #[.agg #[.int .i64 S, .slice A n c, .int .i64 E], .int .i64 k] w fun e w' => ∃ Sr Ar nr cr, e = .returned (.tuple #[.agg #[.int .i64 Sr, .slice Ar nr cr, .int .i64 (raX S xs E k)], .int .i64 (rbE S xs E k)]) ∧ ZO w' w.heap.size w'.heap.size (raZ S xs E k) Sr Ar nr cr ∧ Below w.heap.size w w' := by
  have hst := store_int Tryd.prog
  have hst2 := store_slice Tryd.prog
  obtain ⟨w1, hw1, hb1, hb3, hb4⟩ := dbox_res w S A n c E 30 30
  have RsD1 := Lib.hid hb3
  have Hlt : Hid (w.heap.size + 1 < w1.heap.size) := Lib.hid hb3.2
  have Hr := Lib.hid hr
  have Hn := Lib.hid hn
  have Hm := Lib.hid hm
  have Hc := Lib.hid hc
  have Hw := Lib.hid hw1
  have Bx1 := Lib.hid hb1
  have Bel1 := Lib.hid hb4
  clear hr hn hw1 hb1 hb3 hb4 hc
  go_enter Tryd.func19, Tryd.ntmps19
  go_wp2_with fail
  rw [← Hw.out]
  obtain ⟨⟨hBx0, hBx1, hBx2⟩, hBx3⟩ := Bx1.out
  obtain ⟨⟨hRsD0, hRsD1, hRsD2, hRsD3, hRsD4, hRsD5⟩, hRsD6⟩ := RsD1.out
  refine (specCheckR_any S A n c xs E k _ ((Hr.out.below Bel1.out).up Bel1.out.size) Hn.out Hm.out Hc.out).mono ?_
  rintro e w2 ⟨rfl, hb⟩
  have Sz2 := Lib.hid (Below.size hb)
  have Bel2 := Lib.hid (belNext Bel1.out hb)
  have Bx2 := Lib.hid (Bx1.out.next hb)
  have RsD2 := Lib.hid (RsD1.out.next hb)
  clear hb Bel1 Bx1 RsD1 hBx0 hBx1 hBx2 hBx3 hRsD0 hRsD1 hRsD2 hRsD3 hRsD4 hRsD5 hRsD6
  obtain ⟨⟨hBx0, hBx1, hBx2⟩, hBx3⟩ := Bx2.out
  obtain ⟨⟨hRsD0, hRsD1, hRsD2, hRsD3, hRsD4, hRsD5⟩, hRsD6⟩ := RsD2.out
  by_cases hW : isD S xs E = true
  · by_cases hk : rbC S xs E k
    · obtain ⟨z, hz, hok, hzv, hn100⟩ := isD_data hW Hr.out Hn.out Hc.out
      have hrb := ra_yes hW hz hk
      have Hres := Lib.hid hrb
      have Hz := Lib.hid hzv
      have hp0 : 0 ≤ z := by have h1 := hzv.1; have h2 := hk.2.2.1; exact Int.not_lt.1 (fun h => by rw [Int.sign_eq_neg_one_of_neg h] at h1; omega)
      have Hp := Lib.hid hp0
      have Hcs : Hid ((limbs (ceZ z (E + 2 * k)).natAbs).length ≤ 100) := Lib.hid (ce_small hp0 (by have h4 := hk.2.2.2; rw [rt_mag hz] at h4; have := hk.2.1; omega))
      have hE1 := hok.2.1
      have hE2 := hok.2.2.1
      have hk1 := hk.1
      have hk2 := hk.2.1
      rw [hrb.2.2]
      clear hz hzv hok hrb hk hW hp0
      go_wp2_with fail
      refine (specRootA_any z S E A n c k _ (Hz.out.next Bel2.out) Hp.out (by omega) (by omega) (by omega) hk1 hk2 Hcs.out).mono ?_
      rintro e w3 ⟨S9, A9, n9, c9, rfl, hzo, hb⟩
      have Zp3 : Hid (ZO w3 w2.heap.size w3.heap.size (nz (raR z E k)) S9 A9 n9 c9) := Lib.hid hzo
      clear hzo
      have Sz3 := Lib.hid (Below.size hb)
      have Bel3 := Lib.hid (belNext Bel2.out hb)
      have Bx3 := Lib.hid (Bx2.out.next hb)
      have RsD3 := Lib.hid (RsD2.out.next hb)
      clear hb Bel2 Bx2 RsD2 hBx0 hBx1 hBx2 hBx3 hRsD0 hRsD1 hRsD2 hRsD3 hRsD4 hRsD5 hRsD6
      obtain ⟨⟨hBx0, hBx1, hBx2⟩, hBx3⟩ := Bx3.out
      obtain ⟨⟨hRsD0, hRsD1, hRsD2, hRsD3, hRsD4, hRsD5⟩, hRsD6⟩ := RsD3.out
      go_wp2_with fail
      refine bodyPost_ret (v := .tuple #[.agg #[.int .i64 S9, .slice A9 n9 c9, .int .i64 (nx (raR z E k) (-k))], .int .i64 0]) (by simp [results, Tryd.results19, go_sem, hRsD0, hRsD1, hRsD2]) rfl ⟨S9, A9, n9, c9, by rw [Hres.out.2.1, Hres.out.2.2], ?_, ?_⟩
      · rw [Hres.out.1]; exact (((Zp3.out.setCell (.inl (by have zz0 := Hlt.out; have zz1 := Sz2.out; have zz2 := Sz3.out; first | omega | (simp; done) | (simp; omega))) _).setCell (.inl (by have zz0 := Hlt.out; have zz1 := Sz2.out; have zz2 := Sz3.out; first | omega | (simp; done) | (simp; omega))) _).setCell (.inl (by have zz0 := Hlt.out; have zz1 := Sz2.out; have zz2 := Sz3.out; first | omega | (simp; done) | (simp; omega))) _).wide (by have zz0 := Hlt.out; have zz1 := Sz2.out; have zz2 := Sz3.out; first | omega | (simp; done) | (simp; omega)) (by have zz0 := Hlt.out; have zz1 := Sz2.out; have zz2 := Sz3.out; first | omega | (simp; done) | (simp; omega)) (by have zz0 := Hlt.out; have zz1 := Sz2.out; have zz2 := Sz3.out; first | omega | (simp; done) | (simp; omega))
      · exact ((Bel3.out.setCell (by have zz0 := Hlt.out; have zz1 := Sz2.out; have zz2 := Sz3.out; first | omega | (simp; done) | (simp; omega)) _).setCell (by have zz0 := Hlt.out; have zz1 := Sz2.out; have zz2 := Sz3.out; first | omega | (simp; done) | (simp; omega)) _).setCell (by have zz0 := Hlt.out; have zz1 := Sz2.out; have zz2 := Sz3.out; first | omega | (simp; done) | (simp; omega)) _
    · have hrb := ra_range hW hk
      have Hres := Lib.hid hrb
      rw [hrb.2.2]
      clear hrb hk hW
      go_wp2_with fail
      refine bodyPost_ret (v := .tuple #[.agg #[.int .i64 0, .slice none 0 0, .int .i64 0], .int .i64 2]) (by simp [results, Tryd.results19, go_sem, hRsD0, hRsD1, hRsD2]) rfl ⟨0, none, 0, 0, by rw [Hres.out.2.1, Hres.out.2.2], ?_, ?_⟩
      · rw [Hres.out.1]; exact ZO.zero (Nat.le_refl _)
      · exact ((Bel2.out.setCell (by have zz0 := Hlt.out; have zz1 := Sz2.out; first | omega | (simp; done) | (simp; omega)) _).setCell (by have zz0 := Hlt.out; have zz1 := Sz2.out; first | omega | (simp; done) | (simp; omega)) _).setCell (by have zz0 := Hlt.out; have zz1 := Sz2.out; first | omega | (simp; done) | (simp; omega)) _
  · have hW2 : isD S xs E = false := by simpa using hW
    have hrb := ra_no (k := k) hW2
    have Hres := Lib.hid hrb
    rw [hrb.2.2]
    clear hrb hW hW2
    go_wp2_with fail
    refine bodyPost_ret (v := .tuple #[.agg #[.int .i64 0, .slice none 0 0, .int .i64 0], .int .i64 1]) (by simp [results, Tryd.results19, go_sem, hRsD0, hRsD1, hRsD2]) rfl ⟨0, none, 0, 0, by rw [Hres.out.2.1, Hres.out.2.2], ?_, ?_⟩
    · rw [Hres.out.1]; exact ZO.zero (Nat.le_refl _)
    · exact ((Bel2.out.setCell (by have zz0 := Hlt.out; have zz1 := Sz2.out; first | omega | (simp; done) | (simp; omega)) _).setCell (by have zz0 := Hlt.out; have zz1 := Sz2.out; first | omega | (simp; done) | (simp; omega)) _).setCell (by have zz0 := Hlt.out; have zz1 := Sz2.out; first | omega | (simp; done) | (simp; omega)) _

end Go.Proofs.YtnecnbonnidijaaDoor
