/- Roots of limbs, of the program: Newton's steps. -/
import Derived.Test.YtnnoobdcdfcdaaaDf
import Derived.Test.YtnnoobdcdfcdaaaHa
import Derived.Test.YtnnoobdcdfcdaaaPl
import Derived.Deep.LoopGhost
namespace Go.Proofs.Ytnnoobdcdfcdaaa
set_option maxRecDepth 100000
open Go.RowKit
set_option linter.unusedSimpArgs false
set_option linter.unusedVariables false

/-- the greatest number whose square is not greater -/
theorem root_exists (v : Nat) : ∃ r, r * r ≤ v ∧ v < (r + 1) * (r + 1) := by
  induction v with
  | zero => exact ⟨0, by omega, by omega⟩
  | succ v ih =>
    obtain ⟨r, h1, h2⟩ := ih
    by_cases h : v + 1 < (r + 1) * (r + 1)
    · exact ⟨r, by omega, h⟩
    · refine ⟨r + 1, by omega, ?_⟩
      have e : (r + 1 + 1) * (r + 1 + 1) = (r + 1) * (r + 1) + 2 * r + 3 := by
        simp only [Nat.add_mul, Nat.mul_add]; omega
      omega
noncomputable def rt (v : Nat) : Nat := Classical.choose (root_exists v)
theorem rt_spec (v : Nat) : rt v * rt v ≤ v ∧ v < (rt v + 1) * (rt v + 1) := Classical.choose_spec (root_exists v)
theorem sq_lt {a b : Nat} (h : a * a < b * b) : a < b := by
  rcases Nat.lt_or_ge a b with h1 | h1
  · exact h1
  · have := Nat.mul_le_mul h1 h1; omega
theorem rt_unique {v r : Nat} (h1 : r * r ≤ v) (h2 : v < (r + 1) * (r + 1)) : rt v = r := by
  obtain ⟨g1, g2⟩ := rt_spec v
  have a := sq_lt (Nat.lt_of_le_of_lt h1 g2)
  have b := sq_lt (Nat.lt_of_le_of_lt g1 h2)
  omega
theorem rt_zero : rt 0 = 0 := rt_unique (by omega) (by omega)
theorem rt_le (v : Nat) : rt v ≤ v := by
  have h := (rt_spec v).1
  rcases Nat.eq_zero_or_pos (rt v) with h0 | h0
  · omega
  · exact Nat.le_trans (Nat.le_mul_of_pos_left _ h0) h
/-- a step is not below the root -/
theorem newton_ge {v g r : Nat} (hg : 0 < g) (h : r * r ≤ v) : r ≤ (g + v / g) / 2 := by
  have key : 2 * r ≤ g + v / g := by
    rcases Nat.lt_or_ge (g + v / g) (2 * r) with hlt | hge
    · exfalso
      have hg2r : g < 2 * r := Nat.lt_of_le_of_lt (Nat.le_add_right _ _) hlt
      have h1 : v < g * (v / g + 1) := by
        have := Nat.div_add_mod v g
        have := Nat.mod_lt v hg
        rw [Nat.mul_add]; omega
      have h2 : v / g + 1 ≤ 2 * r - g := by omega
      have h3 : g * (v / g + 1) ≤ g * (2 * r - g) := Nat.mul_le_mul_left _ h2
      have h4 : g * (2 * r - g) ≤ r * r := by
        obtain ⟨m, hm⟩ : ∃ m, m = 2 * r - g := ⟨_, rfl⟩
        rw [← hm]
        rcases Nat.le_total g r with hgr | hgr
        · obtain ⟨d, rfl⟩ : ∃ d, r = g + d := ⟨r - g, by omega⟩
          have e : m = g + 2 * d := by omega
          subst e
          simp only [Nat.add_mul, Nat.mul_add, Nat.mul_comm d g, Nat.mul_left_comm, Nat.two_mul]
          omega
        · obtain ⟨d, rfl⟩ : ∃ d, g = r + d := ⟨g - r, by omega⟩
          have hd : d ≤ r := by omega
          obtain ⟨q, rfl⟩ : ∃ q, r = d + q := ⟨r - d, by omega⟩
          have e : m = q := by omega
          subst e
          simp only [Nat.add_mul, Nat.mul_add, Nat.mul_comm m d]
          have : 0 ≤ d * d := Nat.zero_le _
          omega
      omega
    · exact hge
  omega
/-- a step from above the root goes down -/
theorem newton_lt {v g : Nat} (h : rt v < g) : (g + v / g) / 2 < g := by
  have h1 : v < g * g := Nat.lt_of_lt_of_le (rt_spec v).2 (Nat.mul_le_mul h h)
  have h2 : v / g < g := Nat.div_lt_of_lt_mul h1
  omega
theorem newton_start (v : Nat) : rt v ≤ 2 ^ ((blen v + 1) / 2) := by
  have h1 := blen_lt.1 (Nat.le_refl (blen v))
  have h2 : 2 ^ blen v ≤ 2 ^ ((blen v + 1) / 2) * 2 ^ ((blen v + 1) / 2) := by
    rw [← Nat.pow_add]; exact Nat.pow_le_pow_right (by omega) (by omega)
  exact Nat.le_of_lt (sq_lt (Nat.lt_of_le_of_lt (rt_spec v).1 (Nat.lt_of_lt_of_le h1 h2)))
theorem newton_bound {v g n : Nat} (hn : (limbs v).length = n) (hg : (limbs g).length ≤ n + 1) : (limbs (g + v / g)).length ≤ 2 * n + 2 := by
  have h1 := limbs_len_mono (Nat.div_le_self v g)
  have h := limbs_len_sum g (v / g) rfl rfl
  omega

set_option maxHeartbeats 4000000 in
theorem natRoot_any (v : Nat) (A : Option Addr) (n c B : Nat) (w : World) (hr : Rd w B A (vs (limbs v))) (hB : B ≤ w.heap.size) (hn : (limbs v).length = n) (hm : (n : Int) ≤ 4000) :
    Calls Try.prog 49 #[.slice A n c] w fun e w' => ∃ A2 c2, e = .returned (.slice A2 (limbs (rt v)).length c2) ∧ Ow w' w.heap.size w'.heap.size A2 (vs (limbs (rt v))) ∧ (limbs (rt v)).length ≤ c2 ∧ Below w.heap.size w w' := by
  have Hr := Lib.hid (hr.up hB)
  have Hn := Lib.hid hn
  have Hm := Lib.hid hm
  by_cases h0 : n = 0
  · have hv : v = 0 := limbs_len_zero.1 (by omega)
    clear hr hn hB
    subst h0 hv
    go_enter Try.func49, Try.ntmps49
    go_wp2_with fail
    go_ret
    rw [rt_zero, limbs_zero]
    exact ⟨none, 0, rfl, .inl rfl, Nat.le_refl _, Below.refl _ _⟩
  · have hn0 : ((n : Int) == 0) = false := beq_false_of_ne (by omega)
    have Hv : Hid (0 < v) := Lib.hid (Nat.pos_of_ne_zero (fun e => h0 (by rw [← hn, e, limbs_zero]; rfl)))
    have Hrt : Hid (0 < rt v) := Lib.hid (by
      rcases Nat.eq_zero_or_pos (rt v) with h | h
      · have := (rt_spec v).2; rw [h] at this; have := Hv.out; omega
      · exact h)
    have Hbl : Hid ((blen v : Int) ≤ 96000) := Lib.hid (by have h := blen_lt.2 (by have h := limbs_len_le.1 (show (limbs v).length ≤ n by omega); rw [Bs_pow] at h; exact h); omega)
    clear hr hn hB h0
    go_enter Try.func49, Try.ntmps49
    go_wp2_with fail
    obtain ⟨w1, hw1⟩ : ∃ w1, w1 = w.alloc (.cells #[.int .i64 1] 2) := ⟨_, rfl⟩
    have Rd1 : Hid (Rd w1 w1.heap.size (some ⟨w.heap.size, 0, none⟩) (vs (limbs 1))) := Lib.hid (by rw [hw1]; exact rd_one _ _)
    have Bel1 : Hid (Below w.heap.size w w1) := Lib.hid (by rw [hw1]; exact belAlloc1 _ _)
    rw [← hw1]
    clear hw1
    refine (natLen_any v A n c _ _ (Hr.out.below Bel1.out) Hn.out (by have := Hm.out; omega)).mono ?_
    rintro e w9 ⟨rfl, rfl⟩
    obtain ⟨k, hk⟩ : ∃ k, k = (blen v + 1) / 2 := ⟨_, rfl⟩
    obtain ⟨bl, hbl⟩ : ∃ bl, bl = blen v := ⟨_, rfl⟩
    rw [← hbl] at hk Hbl ⊢
    have Hk : Hid (k = (blen v + 1) / 2 ∧ (k : Int) ≤ 48001) := Lib.hid ⟨by rw [hk, hbl], by have := Hbl.out; omega⟩
    have hbl1 : (bl : Int) ≤ 96000 := Hbl.out
    have hki : ((bl : Int) + 1) / 2 = k := by omega
    clear hk hbl
    go_wp2_with fail
    refine (natShl_any 1 k _ 1 1 _ _ Rd1.out (Nat.le_refl _) (by rw [limbs_1]; rfl) (by omega) (by have := Hk.out.2; omega)).mono ?_
    rintro e w2 ⟨A2, rfl, ho, hb⟩
    have Ho2 := Lib.hid ho
    have Bel2 := Lib.hid (belNext Bel1.out hb)
    have Hs12 : Hid (w.heap.size ≤ w1.heap.size) := Lib.hid Bel1.out.size
    have Hst : Hid (rt v ≤ 2 ^ k * 1 ∧ (limbs (2 ^ k * 1)).length ≤ n + 1) := Lib.hid ⟨by rw [Nat.mul_one, Hk.out.1]; exact newton_start v, by
      rw [limbs_len_le, Nat.mul_one, Bs_pow]
      refine Nat.pow_lt_pow_right (by omega) ?_
      have h := blen_lt.2 (by have h := limbs_len_le.1 (show (limbs v).length ≤ n by rw [Hn.out]; exact Nat.le_refl _); rw [Bs_pow] at h; exact h)
      rw [Hk.out.1]; omega⟩
    clear ho hb
    go_wp2_with fail
    go_loopg [3, 4, 5, 6] (2 ^ k * 1) (fun gk gv _ _ _ wr => ∃ (A3 : Option Addr) (c3 : Nat), gv = .slice A3 (limbs gk).length c3 ∧ rt v ≤ gk ∧ (limbs gk).length ≤ n + 1 ∧ (limbs gk).length ≤ c3 ∧ Ow wr w.heap.size wr.heap.size A3 (vs (limbs gk)) ∧ Below w.heap.size w wr)
    case atStart => exact ⟨A2, _, by rw [Nat.mul_one], Hst.out.1, Hst.out.2, Nat.le_refl _, Ho2.out.wide Hs12.out (Nat.le_refl _), Bel2.out⟩
    case round =>
      obtain ⟨A3, c3, hgv, hh1, hh2, hh3, hh4, hh5⟩ := hrel
      subst hgv
      obtain ⟨m, hm⟩ : ∃ m, m = (limbs gk).length := ⟨_, rfl⟩
      rw [← hm] at hh2 hh3 ⊢
      have Hm3 := Lib.hid hm
      have HC3 := Lib.hid hh3
      have Hge := Lib.hid hh1
      have Hml := Lib.hid hh2
      have Ho3 := Lib.hid hh4
      have Bel3 := Lib.hid hh5
      have Hgp : Hid (0 < gk) := Lib.hid (by have := Hrt.out; omega)
      clear hm hh1 hh2 hh3 hh4 hh5
      go_wp2_with fail
      refine (natDiv_any v gk A A3 n m c c3 _ _ wr (Hr.out.below Bel3.out) Ho3.out.rd Bel3.out.size (Nat.le_refl _) Hn.out Hm3.out.symm (by have := Hm.out; omega) (by have := Hm.out; have := Hml.out; omega) Hgp.out).mono ?_
      rintro e w3 ⟨A4, A5, c4, c5, mid, rfl, hc4, hc5, hm1, hm2, ho4, ho5, hb3⟩
      obtain ⟨q, hq⟩ : ∃ q, q = v / gk := ⟨_, rfl⟩
      rw [← hq] at hc4 ho4 ⊢
      obtain ⟨lq, hlq⟩ : ∃ l, l = (limbs q).length := ⟨_, rfl⟩
      obtain ⟨rr, hrr⟩ : ∃ l, l = (limbs (v % gk)).length := ⟨_, rfl⟩
      rw [← hlq, ← hrr]
      have Hq := Lib.hid hq
      have Hlq := Lib.hid hlq
      have Hlql : Hid (lq ≤ n) := Lib.hid (by rw [hlq, hq, ← Hn.out]; exact limbs_len_mono (Nat.div_le_self v gk))
      have Ho4 := Lib.hid ho4
      have Hb3 := Lib.hid hb3
      have Hmid := Lib.hid hm2
      clear hq hlq hrr hc4 hc5 hm1 hm2 ho4 ho5 hb3
      go_wp2_with fail
      refine (natPlus_any gk q A3 A4 m lq c3 c4 _ _ w3 (Ho3.out.below' Hb3.out).rd Ho4.out.rd Hb3.out.size Hmid.out Hm3.out.symm Hlq.out.symm (by have := Hm.out; have := Hml.out; omega) (by have := Hm.out; have := Hlql.out; omega)).mono ?_
      rintro e w4 ⟨A6, rfl, ho6, hb4⟩
      obtain ⟨s, hs⟩ : ∃ s, s = gk + q := ⟨_, rfl⟩
      rw [← hs] at ho6 ⊢
      obtain ⟨ls, hls⟩ : ∃ l, l = (limbs s).length := ⟨_, rfl⟩
      rw [← hls]
      have Hs := Lib.hid hs
      have Hls := Lib.hid hls
      have Hlsl : Hid (ls ≤ 2 * n + 2) := Lib.hid (by have h := limbs_len_sum gk q Hm3.out.symm Hlq.out.symm; rw [hls, hs]; have := Hml.out; have := Hlql.out; omega)
      have Ho6 := Lib.hid ho6
      have Hb4 := Lib.hid hb4
      clear hs hls ho6 hb4
      go_wp2_with fail
      refine (natShr_any s 1 A6 ls ls _ w4 Ho6.out.rd (Nat.le_refl _) Hls.out.symm (by have := Hm.out; have := Hlsl.out; omega) (by omega)).mono ?_
      rintro e w5 ⟨A7, rfl, ho7, hb5⟩
      obtain ⟨g2, hg2⟩ : ∃ g, g = s / 2 ^ 1 := ⟨_, rfl⟩
      rw [← hg2] at ho7 ⊢
      obtain ⟨l2, hl2⟩ : ∃ l, l = (limbs g2).length := ⟨_, rfl⟩
      rw [← hl2]
      have hg3 : g2 = (gk + v / gk) / 2 := by rw [hg2, Hs.out, Hq.out]
      have Hg2 := Lib.hid hg3
      have Hl2 := Lib.hid hl2
      have Hl2l : Hid (l2 ≤ 2 * n + 2) := Lib.hid (by have h := limbs_len_mono (Nat.div_le_self s (2 ^ 1)); rw [hl2, hg2]; have := Hls.out; have := Hlsl.out; omega)
      have Ho7 := Lib.hid ho7
      have Bel5 := Lib.hid (belNext (belNext (belNext Bel3.out Hb3.out) Hb4.out) hb5)
      have Ho35 : Hid (Ow w5 w.heap.size wr.heap.size A3 (vs (limbs gk))) := Lib.hid (((Ho3.out.below' Hb3.out).below' Hb4.out).below' hb5)
      have Hw4 : Hid (w.heap.size ≤ w4.heap.size) := Lib.hid (by have := Bel3.out.size; have := Hb3.out.size; have := Hb4.out.size; omega)
      have Hwr : Hid (wr.heap.size ≤ w5.heap.size) := Lib.hid (by have := Hb3.out.size; have := Hb4.out.size; have := hb5.size; omega)
      clear hg2 hg3 hl2 ho7 hb5
      go_wp2_with fail
      by_cases hlt : g2 < gk
      · have hcv : cmpI (g2 : Int) (gk : Int) = -1 := cmpI_lt (by omega)
        have Hcv := Lib.hid hcv
        have Hlt := Lib.hid hlt
        clear hcv hlt
        refine (natCmp_any g2 gk A7 A3 l2 m _ c3 _ _ w5 Ho7.out.rd Ho35.out.rd Hl2.out.symm Hm3.out.symm (by have := Hm.out; have := Hl2l.out; omega) (by have := Hm.out; have := Hml.out; omega)).mono ?_
        rintro e w6 ⟨rfl, q6, rfl⟩
        rw [Hcv.out]
        go_wp2_with fail
        go_roundg g2
        case measure => have := Hlt.out; omega
        case rel => exact ⟨A7, _, by rw [Hl2.out], by rw [Hg2.out]; exact newton_ge Hgp.out (rt_spec v).1, Nat.le_trans (limbs_len_mono (Nat.le_of_lt Hlt.out)) (by rw [← Hm3.out]; exact Hml.out), by rw [← Hl2.out]; exact Nat.le_refl _, (Ho7.out.wide Hw4.out (Nat.le_refl _)).drewN _, below_drewN Bel5.out _⟩
      · have hcv : ∃ k : Int, cmpI (g2 : Int) (gk : Int) = k ∧ 0 ≤ k ∧ k ≤ 1 := ⟨_, rfl, by unfold cmpI; rw [if_neg (by omega)]; split <;> omega, (cmpI_small _ _).2⟩
        obtain ⟨k6, hk1, hk2, hk3⟩ := hcv
        have Hcv := Lib.hid hk1
        have hkb : decide (0 ≤ k6) = true := decide_eq_true hk2
        have Heq : Hid (gk = rt v) := Lib.hid (by
          rcases Nat.lt_or_ge (rt v) gk with h | h
          · have h1 := newton_lt h
            rw [← Hg2.out] at h1; omega
          · have := Hge.out; omega)
        clear hk1 hk3 hlt
        refine (natCmp_any g2 gk A7 A3 l2 m _ c3 _ _ w5 Ho7.out.rd Ho35.out.rd Hl2.out.symm Hm3.out.symm (by have := Hm.out; have := Hl2l.out; omega) (by have := Hm.out; have := Hml.out; omega)).mono ?_
        rintro e w6 ⟨rfl, q6, rfl⟩
        rw [Hcv.out]
        go_wp2_with fail
        go_ret
        rw [← Heq.out, ← Hm3.out]
        exact ⟨A3, c3, rfl, (Ho35.out.wide (Nat.le_refl _) Hwr.out).drewN _, HC3.out, below_drewN Bel5.out _⟩
end Go.Proofs.Ytnnoobdcdfcdaaa
