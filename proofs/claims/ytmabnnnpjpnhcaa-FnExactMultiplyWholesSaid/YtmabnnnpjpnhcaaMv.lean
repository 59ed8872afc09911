/- MultiplyWholes, of the program and of the model. -/
import Derived.Test.YtmabnnnpjpnhcaaMu
namespace Go.Proofs.Ytmabnnnpjpnhcaa
open Go.RowKit
set_option linter.unusedSimpArgs false
set_option linter.unusedVariables false

theorem mul_len {s s' : Int} {a b n n' : Nat} (hs : Sg s a) (hs' : Sg s' b) (hn : (limbs a).length = n) (hn' : (limbs b).length = n') : (limbs (s * (a : Int) * (s' * b)).natAbs).length ≤ n + n' := by
  refine limbs_len_le.2 (Nat.lt_of_le_of_lt ?_ (prod_lt hn hn'))
  rw [← (sign_prod hs hs').2.2, Int.natAbs_mul, Int.natAbs_natCast]
  have h := (sign_prod hs hs').2.1
  have h2 : (s * s').natAbs ≤ 1 := by omega
  have := Nat.mul_le_mul_right (a * b) h2
  omega

set_option maxHeartbeats 4000000 in
theorem implMulW_any (s0 : Int) (A0 : Option Addr) (n0 c0 : Nat) (xs0 : List Int) (s1 : Int) (A1 : Option Addr) (n1 c1 : Nat) (xs1 : List Int) (w : World) (hr0 : Rd w w.heap.size A0 (vi xs0)) (hn0 : xs0.length = n0) (hm0 : n0 ≤ 1048580) (hc0 : n0 ≤ c0) (hr1 : Rd w w.heap.size A1 (vi xs1)) (hn1 : xs1.length = n1) (hm1 : n1 ≤ 1048580) (hc1 : n1 ≤ c1) :
    Calls Try.prog 34 #[.agg #[.int .i64 s0, .slice A0 n0 c0], .agg #[.int .i64 s1, .slice A1 n1 c1]] w fun e w' => ∃ val, e = .returned (.tuple #[val, .int .i64 (opE (s0 * magW s0 xs0 * (s1 * magW s1 xs1)) (both s0 xs0 s1 xs1))]) ∧ Wz w' w.heap.size w'.heap.size (opZ (s0 * magW s0 xs0 * (s1 * magW s1 xs1)) (both s0 xs0 s1 xs1)) val ∧ Below w.heap.size w w' := by
  have hst := store_int Try.prog
  have hst2 := store_slice Try.prog
  obtain ⟨w1, hw1, hb1, hb2, hb3, hb4⟩ := three_boxes w s0 s1 A0 A1 n0 n1 c0 c1 27 27 27
  have Ra1 : Hid (Rt w1 w.heap.size A0 (vi xs0)) := Lib.hid ⟨hr0.below hb4, hb4.size⟩
  have Rb1 : Hid (Rt w1 w.heap.size A1 (vi xs1)) := Lib.hid ⟨hr1.below hb4, hb4.size⟩
  have Hn0 := Lib.hid hn0
  have Hn1 := Lib.hid hn1
  have Hm0 := Lib.hid hm0
  have Hm1 := Lib.hid hm1
  have Hc := Lib.hid (And.intro hc0 hc1)
  have Hw := Lib.hid hw1
  have Bx1 := Lib.hid hb1
  have By1 := Lib.hid hb2
  have Rs1 := Lib.hid hb3
  have Bel1 := Lib.hid hb4
  clear hr0 hr1 hn0 hn1 hm0 hm1 hw1 hb1 hb2 hb3 hb4 hc0 hc1
  go_enter Try.func34, Try.ntmps34
  go_wp2_with fail
  rw [← Hw.out]
  obtain ⟨⟨hx1, hx2⟩, hx3⟩ := Bx1.out
  obtain ⟨⟨hy1, hy2⟩, hy3⟩ := By1.out
  refine (implIsW_any s0 A0 n0 c0 xs0 _ Ra1.out.all Hn0.out Hm0.out).mono ?_
  rintro e w2 ⟨rfl, hb⟩
  clear hx1 hx2 hx3 hy1 hy2 hy3
  have Bel2 := Lib.hid (belNext Bel1.out hb)
  have Bx2 := Lib.hid (Bx1.out.next hb)
  have By2 := Lib.hid (By1.out.next hb)
  have Rs2 := Lib.hid (Rs1.out.next hb)
  have Ra2 := Lib.hid (Ra1.out.next hb)
  have Rb2 := Lib.hid (Rb1.out.next hb)
  clear hb Bel1 Bx1 By1 Rs1 Ra1 Rb1
  obtain ⟨⟨hx1, hx2⟩, hx3⟩ := Bx2.out
  obtain ⟨⟨hy1, hy2⟩, hy3⟩ := By2.out
  by_cases h0 : isW s0 xs0 = true
  · rw [h0]
    go_wp2_with fail
    refine (implIsW_any s1 A1 n1 c1 xs1 _ Rb2.out.all Hn1.out Hm1.out).mono ?_
    rintro e w3 ⟨rfl, hb⟩
    clear hx1 hx2 hx3 hy1 hy2 hy3
    have Bel3 := Lib.hid (belNext Bel2.out hb)
    have Bx3 := Lib.hid (Bx2.out.next hb)
    have By3 := Lib.hid (By2.out.next hb)
    have Rs3 := Lib.hid (Rs2.out.next hb)
    have Ra3 := Lib.hid (Ra2.out.next hb)
    have Rb3 := Lib.hid (Rb2.out.next hb)
    clear hb Bel2 Bx2 By2 Rs2 Ra2 Rb2
    obtain ⟨⟨hx1, hx2⟩, hx3⟩ := Bx3.out
    obtain ⟨⟨hy1, hy2⟩, hy3⟩ := By3.out
    by_cases h1 : isW s1 xs1 = true
    · rw [h1]
      obtain ⟨v0, hv0, hs0, hx0, hl0, hh0⟩ := okW_data Hn0.out h0
      obtain ⟨v1, hv1, hs1, hx1b, hl1, hh1⟩ := okW_data Hn1.out h1
      obtain ⟨zz, hzz⟩ : ∃ zz : Int, zz = s0 * (v0 : Int) * (s1 * v1) := ⟨_, rfl⟩
      have Hzz := Lib.hid hzz
      have hbo := both_yes h0 h1
      have Hres : Hid (opZ (s0 * magW s0 xs0 * (s1 * magW s1 xs1)) (both s0 xs0 s1 xs1) = fitZ (zz) ∧ opE (s0 * magW s0 xs0 * (s1 * magW s1 xs1)) (both s0 xs0 s1 xs1) = fitE (zz)) := Lib.hid (by unfold opZ opE; rw [if_pos hbo, if_pos hbo, hv0, hv1, ← hzz]; exact ⟨rfl, rfl⟩)
      have Hd : Hid (Sg s0 v0 ∧ Sg s1 v1 ∧ (limbs v0).length = n0 ∧ (limbs v1).length = n1 ∧ (n0 : Int) ≤ 100 ∧ (n1 : Int) ≤ 100) := Lib.hid ⟨hs0, hs1, hl0, hl1, by omega, by omega⟩
      have Hx0 := Lib.hid hx0
      have Hx1 := Lib.hid hx1b
      have H90 : Hid ((n0 : Int) ≤ 90000 ∧ (n1 : Int) ≤ 90000) := Lib.hid (by omega)
      clear hzz h0 h1 hv0 hs0 hx0 hl0 hh0 hv1 hs1 hx1b hl1 hh1 hbo
      go_wp2_with fail
      refine (implMul_any s0 s1 v0 v1 A0 A1 n0 n1 c0 c1 _ Hd.out.1 Hd.out.2.1 (Ra3.out.all.eq_ Hx0.out) (Rb3.out.all.eq_ Hx1.out) Hd.out.2.2.1 Hd.out.2.2.2.1 (by have := Hd.out; omega) (by have := Hd.out; omega)).mono ?_
      rintro e w4 ⟨val, rfl, hv, hb⟩
      rw [← Hzz.out] at hv
      have Z := Lib.hid (And.intro hv hb.size)
      have Hlt := Lib.hid Rs3.out.2
      clear hx1 hx2 hx3 hy1 hy2 hy3
      have Bel4 := Lib.hid (belNext Bel3.out hb)
      have Bx4 := Lib.hid (Bx3.out.next hb)
      have By4 := Lib.hid (By3.out.next hb)
      have Rs4 := Lib.hid (Rs3.out.next hb)
      have Ra4 := Lib.hid (Ra3.out.next hb)
      have Rb4 := Lib.hid (Rb3.out.next hb)
      clear hb Bel3 Bx3 By3 Rs3 Ra3 Rb3
      clear hv
      obtain ⟨Az, cz, hval, hoz, hcz⟩ := Z.out.1
      subst hval
      have Oz := Lib.hid hoz
      have Cz := Lib.hid hcz
      clear hoz hcz
      go_wp2_with fail
      refine (implLim_any (zz) _ Az _ cz _ _ _ Oz.out (Nat.le_refl _) rfl rfl Cz.out (by have := (show (limbs zz.natAbs).length ≤ n0 + n1 by rw [Hzz.out]; exact mul_len Hd.out.1 Hd.out.2.1 Hd.out.2.2.1 Hd.out.2.2.2.1); have := H90.out; omega)).mono ?_
      rintro e w5 ⟨val, rfl, hv, hb⟩
      have Hz : Hid (Wz w5 _ w5.heap.size (fitZ (zz)) val) := Lib.hid (hv.wide (Nat.le_refl _) hb.size)
      have Bel5 := Lib.hid (belNext Bel4.out hb)
      have Bx5 := Lib.hid (Bx4.out.next hb)
      have By5 := Lib.hid (By4.out.next hb)
      have Rs5 := Lib.hid (Rs4.out.next hb)
      have Ra5 := Lib.hid (Ra4.out.next hb)
      have Rb5 := Lib.hid (Rb4.out.next hb)
      clear hb Bel4 Bx4 By4 Rs4 Ra4 Rb4
      clear hv
      obtain ⟨A9, c9, hval, _⟩ := Hz.out
      subst hval
      obtain ⟨⟨r1, r2, r3, r4⟩, _⟩ := Rs5.out
      go_wp2_with fail
      refine bodyPost_ret (v := .tuple #[.agg #[.int .i64 (fitZ (zz)).sign, .slice A9 (limbs (fitZ (zz)).natAbs).length c9], .int .i64 (fitE (zz))]) (by simp [results, Try.results34, go_sem, r1, r2]) rfl ⟨_, ret_val Hres.out.2.symm rfl, ?_, ?_⟩
      · rw [Hres.out.1]
        exact ((Hz.out.setCell (by have := Hlt.out; simp; omega) _).setCell (by have := Hlt.out; simp; omega) _).wide (by have := Hlt.out; omega) (by first | (simp; done) | (simp; omega))
      · exact (Bel5.out.setCell (by simp; omega) _).setCell (by simp; omega) _
    · have h1' : isW s1 xs1 = false := by simpa using h1
      rw [h1']
      have Hres : Hid (opZ (s0 * magW s0 xs0 * (s1 * magW s1 xs1)) (both s0 xs0 s1 xs1) = 0 ∧ opE (s0 * magW s0 xs0 * (s1 * magW s1 xs1)) (both s0 xs0 s1 xs1) = 1) := Lib.hid (by unfold opZ opE; rw [if_neg (both_no1 h1'), if_neg (both_no1 h1')]; exact ⟨rfl, rfl⟩)
      clear h1 h1'
      obtain ⟨⟨r1, r2, r3, r4⟩, _⟩ := Rs3.out
      go_wp2_with fail
      refine bodyPost_ret (v := .tuple #[.agg #[.int .i64 0, .slice none 0 0], .int .i64 1]) (by simp [results, Try.results34, go_sem, r1, r2]) rfl ⟨_, ret_val Hres.out.2.symm rfl, ?_, ?_⟩
      · rw [Hres.out.1]; exact Wz.zero_ _ _ _
      · exact (Bel3.out.setCell (by simp; omega) _).setCell (by simp; omega) _
  · have h0' : isW s0 xs0 = false := by simpa using h0
    rw [h0']
    have Hres : Hid (opZ (s0 * magW s0 xs0 * (s1 * magW s1 xs1)) (both s0 xs0 s1 xs1) = 0 ∧ opE (s0 * magW s0 xs0 * (s1 * magW s1 xs1)) (both s0 xs0 s1 xs1) = 1) := Lib.hid (by unfold opZ opE; rw [if_neg (both_no0 h0'), if_neg (both_no0 h0')]; exact ⟨rfl, rfl⟩)
    clear h0 h0'
    obtain ⟨⟨r1, r2, r3, r4⟩, _⟩ := Rs2.out
    go_wp2_with fail
    refine bodyPost_ret (v := .tuple #[.agg #[.int .i64 0, .slice none 0 0], .int .i64 1]) (by simp [results, Try.results34, go_sem, r1, r2]) rfl ⟨_, ret_val Hres.out.2.symm rfl, ?_, ?_⟩
    · rw [Hres.out.1]; exact Wz.zero_ _ _ _
    · exact (Bel2.out.setCell (by simp; omega) _).setCell (by simp; omega) _

set_option maxHeartbeats 4000000 in
theorem specMulW_any (s0 : Int) (A0 : Option Addr) (n0 c0 : Nat) (xs0 : List Int) (s1 : Int) (A1 : Option Addr) (n1 c1 : Nat) (xs1 : List Int) (w : World) (hr0 : Rd w w.heap.size A0 (vi xs0)) (hn0 : xs0.length = n0) (hm0 : n0 ≤ 1048580) (hc0 : n0 ≤ c0) (hr1 : Rd w w.heap.size A1 (vi xs1)) (hn1 : xs1.length = n1) (hm1 : n1 ≤ 1048580) (hc1 : n1 ≤ c1) :
    Calls Try.prog 33 #[.agg #[.int .i64 s0, .slice A0 n0 c0], .agg #[.int .i64 s1, .slice A1 n1 c1]] w fun e w' => ∃ val, e = .returned (.tuple #[val, .int .i64 (opE (s0 * magW s0 xs0 * (s1 * magW s1 xs1)) (both s0 xs0 s1 xs1))]) ∧ Wz w' w.heap.size w'.heap.size (opZ (s0 * magW s0 xs0 * (s1 * magW s1 xs1)) (both s0 xs0 s1 xs1)) val ∧ Below w.heap.size w w' := by
  have hst := store_int Try.prog
  have hst2 := store_slice Try.prog
  obtain ⟨w1, hw1, hb1, hb2, hb3, hb4⟩ := three_boxes w s0 s1 A0 A1 n0 n1 c0 c1 27 27 27
  have Ra1 : Hid (Rt w1 w.heap.size A0 (vi xs0)) := Lib.hid ⟨hr0.below hb4, hb4.size⟩
  have Rb1 : Hid (Rt w1 w.heap.size A1 (vi xs1)) := Lib.hid ⟨hr1.below hb4, hb4.size⟩
  have Hn0 := Lib.hid hn0
  have Hn1 := Lib.hid hn1
  have Hm0 := Lib.hid hm0
  have Hm1 := Lib.hid hm1
  have Hc := Lib.hid (And.intro hc0 hc1)
  have Hw := Lib.hid hw1
  have Bx1 := Lib.hid hb1
  have By1 := Lib.hid hb2
  have Rs1 := Lib.hid hb3
  have Bel1 := Lib.hid hb4
  clear hr0 hr1 hn0 hn1 hm0 hm1 hw1 hb1 hb2 hb3 hb4 hc0 hc1
  go_enter Try.func33, Try.ntmps33
  go_wp2_with fail
  rw [← Hw.out]
  obtain ⟨⟨hx1, hx2⟩, hx3⟩ := Bx1.out
  obtain ⟨⟨hy1, hy2⟩, hy3⟩ := By1.out
  refine (specBoth_any s0 A0 n0 c0 xs0 s1 A1 n1 c1 xs1 _ Ra1.out.all Hn0.out Hm0.out Rb1.out.all Hn1.out Hm1.out).mono ?_
  rintro e w2 ⟨rfl, hb⟩
  clear hx1 hx2 hx3 hy1 hy2 hy3
  have Bel2 := Lib.hid (belNext Bel1.out hb)
  have Bx2 := Lib.hid (Bx1.out.next hb)
  have By2 := Lib.hid (By1.out.next hb)
  have Rs2 := Lib.hid (Rs1.out.next hb)
  have Ra2 := Lib.hid (Ra1.out.next hb)
  have Rb2 := Lib.hid (Rb1.out.next hb)
  clear hb Bel1 Bx1 By1 Rs1 Ra1 Rb1
  obtain ⟨⟨hx1, hx2⟩, hx3⟩ := Bx2.out
  obtain ⟨⟨hy1, hy2⟩, hy3⟩ := By2.out
  by_cases hbo : both s0 xs0 s1 xs1 = true
  · have he : errB s0 xs0 s1 xs1 = 0 := if_pos hbo
    rw [he]
    have h0 := both_1 hbo
    have h1 := both_2 hbo
    clear hbo he
    obtain ⟨v0, hv0, hs0, hx0, hl0, hh0⟩ := okW_data Hn0.out h0
    obtain ⟨v1, hv1, hs1, hx1b, hl1, hh1⟩ := okW_data Hn1.out h1
    obtain ⟨zz, hzz⟩ : ∃ zz : Int, zz = s0 * (v0 : Int) * (s1 * v1) := ⟨_, rfl⟩
    have Hzz := Lib.hid hzz
    have hbo := both_yes h0 h1
    have Hres : Hid (opZ (s0 * magW s0 xs0 * (s1 * magW s1 xs1)) (both s0 xs0 s1 xs1) = fitZ (zz) ∧ opE (s0 * magW s0 xs0 * (s1 * magW s1 xs1)) (both s0 xs0 s1 xs1) = fitE (zz)) := Lib.hid (by unfold opZ opE; rw [if_pos hbo, if_pos hbo, hv0, hv1, ← hzz]; exact ⟨rfl, rfl⟩)
    have Hd : Hid (Sg s0 v0 ∧ Sg s1 v1 ∧ (limbs v0).length = n0 ∧ (limbs v1).length = n1 ∧ (n0 : Int) ≤ 100 ∧ (n1 : Int) ≤ 100) := Lib.hid ⟨hs0, hs1, hl0, hl1, by omega, by omega⟩
    have Hx0 := Lib.hid hx0
    have Hx1 := Lib.hid hx1b
    have H90 : Hid ((n0 : Int) ≤ 90000 ∧ (n1 : Int) ≤ 90000) := Lib.hid (by omega)
    clear hzz h0 h1 hv0 hs0 hx0 hl0 hh0 hv1 hs1 hx1b hl1 hh1 hbo
    go_wp2_with fail
    refine (specMul_any s0 s1 v0 v1 A0 A1 n0 n1 c0 c1 _ Hd.out.1 Hd.out.2.1 (Ra2.out.all.eq_ Hx0.out) (Rb2.out.all.eq_ Hx1.out) Hd.out.2.2.1 Hd.out.2.2.2.1 (by have := Hd.out; omega) (by have := Hd.out; omega) Hc.out.1 Hc.out.2).mono ?_
    rintro e w3 ⟨val, rfl, hv, hb⟩
    rw [← Hzz.out] at hv
    have Z := Lib.hid (And.intro hv hb.size)
    have Hlt := Lib.hid Rs2.out.2
    clear hx1 hx2 hx3 hy1 hy2 hy3
    have Bel3 := Lib.hid (belNext Bel2.out hb)
    have Bx3 := Lib.hid (Bx2.out.next hb)
    have By3 := Lib.hid (By2.out.next hb)
    have Rs3 := Lib.hid (Rs2.out.next hb)
    have Ra3 := Lib.hid (Ra2.out.next hb)
    have Rb3 := Lib.hid (Rb2.out.next hb)
    clear hb Bel2 Bx2 By2 Rs2 Ra2 Rb2
    clear hv
    obtain ⟨Az, cz, hval, hoz, hcz⟩ := Z.out.1
    subst hval
    have Oz := Lib.hid hoz
    have Cz := Lib.hid hcz
    clear hoz hcz
    go_wp2_with fail
    refine (specFit_any (zz) _ Az _ cz _ _ _ Oz.out (Nat.le_refl _) rfl rfl Cz.out (by have := (show (limbs zz.natAbs).length ≤ n0 + n1 by rw [Hzz.out]; exact mul_len Hd.out.1 Hd.out.2.1 Hd.out.2.2.1 Hd.out.2.2.2.1); have := H90.out; omega)).mono ?_
    rintro e w4 ⟨val, rfl, hv, hb⟩
    have Hz : Hid (Wz w4 _ w4.heap.size (fitZ (zz)) val) := Lib.hid (hv.wide (Nat.le_refl _) hb.size)
    have Bel4 := Lib.hid (belNext Bel3.out hb)
    have Bx4 := Lib.hid (Bx3.out.next hb)
    have By4 := Lib.hid (By3.out.next hb)
    have Rs4 := Lib.hid (Rs3.out.next hb)
    have Ra4 := Lib.hid (Ra3.out.next hb)
    have Rb4 := Lib.hid (Rb3.out.next hb)
    clear hb Bel3 Bx3 By3 Rs3 Ra3 Rb3
    clear hv
    obtain ⟨A9, c9, hval, _⟩ := Hz.out
    subst hval
    go_upto_region 5 with (fail)
    obtain ⟨w5, hw5⟩ : ∃ w5, w5 = w4.alloc (.cells #[.int .i64 (fitZ (zz)).sign, .slice A9 (limbs (fitZ (zz)).natAbs).length c9] 27) := ⟨_, rfl⟩
    rw [← hw5]
    have hb : Below w4.heap.size w4 w5 := by rw [hw5]; exact belAlloc1 _ _
    have Bn : Hid (Box w5 w4.heap.size (fitZ (zz)).sign A9 (limbs (fitZ (zz)).natAbs).length c9) := Lib.hid (by rw [hw5]; exact Box.new _ _ _ _ _ _)
    have Hz5 := Lib.hid (Hz.out.keep hb)
    clear hw5 Hz
    have Bel5 := Lib.hid (belNext Bel4.out hb)
    have Bx5 := Lib.hid (Bx4.out.next hb)
    have By5 := Lib.hid (By4.out.next hb)
    have Rs5 := Lib.hid (Rs4.out.next hb)
    have Ra5 := Lib.hid (Ra4.out.next hb)
    have Rb5 := Lib.hid (Rb4.out.next hb)
    clear hb Bel4 Bx4 By4 Rs4 Ra4 Rb4
    have Hz := Hz5
    clear Hz5
    obtain ⟨⟨r1, r2, r3, r4⟩, _⟩ := Rs5.out
    obtain ⟨⟨hx1, hx2⟩, hx3⟩ := Bn.out
    go_wp2_with fail
    refine bodyPost_ret (v := .tuple #[.agg #[.int .i64 (fitZ (zz)).sign, .slice A9 (limbs (fitZ (zz)).natAbs).length c9], .int .i64 (fitE (zz))]) (by simp [results, Try.results33, go_sem, r1, r2]) rfl ⟨_, ret_val Hres.out.2.symm rfl, ?_, ?_⟩
    · rw [Hres.out.1]
      exact ((Hz.out.setCell (by have := Hlt.out; simp; omega) _).setCell (by have := Hlt.out; simp; omega) _).wide (by have := Hlt.out; omega) (by first | (simp; done) | (simp; omega))
    · exact (Bel5.out.setCell (by simp; omega) _).setCell (by simp; omega) _
  · have he : errB s0 xs0 s1 xs1 = 1 := if_neg hbo
    rw [he]
    have Hres : Hid (opZ (s0 * magW s0 xs0 * (s1 * magW s1 xs1)) (both s0 xs0 s1 xs1) = 0 ∧ opE (s0 * magW s0 xs0 * (s1 * magW s1 xs1)) (both s0 xs0 s1 xs1) = 1) := Lib.hid (by unfold opZ opE; rw [if_neg hbo, if_neg hbo]; exact ⟨rfl, rfl⟩)
    clear hbo he
    obtain ⟨⟨r1, r2, r3, r4⟩, _⟩ := Rs2.out
    go_wp2_with fail
    refine bodyPost_ret (v := .tuple #[.agg #[.int .i64 0, .slice none 0 0], .int .i64 1]) (by simp [results, Try.results33, go_sem, r1, r2]) rfl ⟨_, ret_val Hres.out.2.symm rfl, ?_, ?_⟩
    · rw [Hres.out.1]; exact Wz.zero_ _ _ _
    · exact (Bel2.out.setCell (by simp; omega) _).setCell (by simp; omega) _
end Go.Proofs.Ytmabnnnpjpnhcaa
