/- Texts of this seat, joined: Ro Rp Kj Kk Kl -/
import Derived.Test.YtcjamfoiilgfoaaDoorG4
import Derived.Test.YtcjamfoiilgfoaaDoorG3
import Derived.Deep.LoopGhost
import Derived.Test.YtcjamfoiilgfoaaDoorG6
import Derived.Test.YtcjamfoiilgfoaaDoorG1
import Derived.Deep.DeepCutAuto
/- Roots of limbs, of the program: Newton's steps. -/
namespace Go.Proofs.YtcjamfoiilgfoaaDoor
set_option maxRecDepth 100000
open Go.RowKit
set_option linter.unusedSimpArgs false
set_option linter.unusedVariables false

/-- the greatest number whose square is not greater -/
theorem root_exists (v : Nat) : ∃ r, r * r ≤ v ∧ v < (r + 1) * (r + 1) := by
  induction v with
  | zero => exact ⟨0, by omega, by omega⟩
  | succ v ih =>
    obtain ⟨r, h1, h2⟩ := ih
    by_cases h : v + 1 < (r + 1) * (r + 1)
    · exact ⟨r, by omega, h⟩
    · refine ⟨r + 1, by omega, ?_⟩
      have e : (r + 1 + 1) * (r + 1 + 1) = (r + 1) * (r + 1) + 2 * r + 3 := by
        simp only [Nat.add_mul, Nat.mul_add]; omega
      omega
noncomputable def rt (v : Nat) : Nat := Classical.choose (root_exists v)
theorem rt_spec (v : Nat) : rt v * rt v ≤ v ∧ v < (rt v + 1) * (rt v + 1) := Classical.choose_spec (root_exists v)
theorem sq_lt {a b : Nat} (h : a * a < b * b) : a < b := by
  rcases Nat.lt_or_ge a b with h1 | h1
  · exact h1
  · have := Nat.mul_le_mul h1 h1; omega
theorem rt_unique {v r : Nat} (h1 : r * r ≤ v) (h2 : v < (r + 1) * (r + 1)) : rt v = r := by
  obtain ⟨g1, g2⟩ := rt_spec v
  have a := sq_lt (Nat.lt_of_le_of_lt h1 g2)
  have b := sq_lt (Nat.lt_of_le_of_lt g1 h2)
  omega
theorem rt_zero : rt 0 = 0 := rt_unique (by omega) (by omega)
theorem rt_le (v : Nat) : rt v ≤ v := by
  have h := (rt_spec v).1
  rcases Nat.eq_zero_or_pos (rt v) with h0 | h0
  · omega
  · exact Nat.le_trans (Nat.le_mul_of_pos_left _ h0) h
/-- a step is not below the root -/
theorem newton_ge {v g r : Nat} (hg : 0 < g) (h : r * r ≤ v) : r ≤ (g + v / g) / 2 := by
  have key : 2 * r ≤ g + v / g := by
    rcases Nat.lt_or_ge (g + v / g) (2 * r) with hlt | hge
    · exfalso
      have hg2r : g < 2 * r := Nat.lt_of_le_of_lt (Nat.le_add_right _ _) hlt
      have h1 : v < g * (v / g + 1) := by
        have := Nat.div_add_mod v g
        have := Nat.mod_lt v hg
        rw [Nat.mul_add]; omega
      have h2 : v / g + 1 ≤ 2 * r - g := by omega
      have h3 : g * (v / g + 1) ≤ g * (2 * r - g) := Nat.mul_le_mul_left _ h2
      have h4 : g * (2 * r - g) ≤ r * r := by
        obtain ⟨m, hm⟩ : ∃ m, m = 2 * r - g := ⟨_, rfl⟩
        rw [← hm]
        rcases Nat.le_total g r with hgr | hgr
        · obtain ⟨d, rfl⟩ : ∃ d, r = g + d := ⟨r - g, by omega⟩
          have e : m = g + 2 * d := by omega
          subst e
          simp only [Nat.add_mul, Nat.mul_add, Nat.mul_comm d g, Nat.mul_left_comm, Nat.two_mul]
          omega
        · obtain ⟨d, rfl⟩ : ∃ d, g = r + d := ⟨g - r, by omega⟩
          have hd : d ≤ r := by omega
          obtain ⟨q, rfl⟩ : ∃ q, r = d + q := ⟨r - d, by omega⟩
          have e : m = q := by omega
          subst e
          simp only [Nat.add_mul, Nat.mul_add, Nat.mul_comm m d]
          have : 0 ≤ d * d := Nat.zero_le _
          omega
      omega
    · exact hge
  omega
/-- a step from above the root goes down -/
theorem newton_lt {v g : Nat} (h : rt v < g) : (g + v / g) / 2 < g := by
  have h1 : v < g * g := Nat.lt_of_lt_of_le (rt_spec v).2 (Nat.mul_le_mul h h)
  have h2 : v / g < g := Nat.div_lt_of_lt_mul h1
  omega
theorem newton_start (v : Nat) : rt v ≤ 2 ^ ((blen v + 1) / 2) := by
  have h1 := blen_lt.1 (Nat.le_refl (blen v))
  have h2 : 2 ^ blen v ≤ 2 ^ ((blen v + 1) / 2) * 2 ^ ((blen v + 1) / 2) := by
    rw [← Nat.pow_add]; exact Nat.pow_le_pow_right (by omega) (by omega)
  exact Nat.le_of_lt (sq_lt (Nat.lt_of_le_of_lt (rt_spec v).1 (Nat.lt_of_lt_of_le h1 h2)))
set_option maxHeartbeats 4000000 in
theorem natRoot_any (v : Nat) (A : Option Addr) (n c B : Nat) (w : World) (hr : Rd w B A (vs (limbs v))) (hB : B ≤ w.heap.size) (hn : (limbs v).length = n) (hm : (n : Int) ≤ 4000) :
    Calls Tryd.prog 80 #[.slice A n c] w fun e w' => ∃ A2 c2, e = .returned (.slice A2 (limbs (rt v)).length c2) ∧ Ow w' w.heap.size w'.heap.size A2 (vs (limbs (rt v))) ∧ (limbs (rt v)).length ≤ c2 ∧ Below w.heap.size w w' := by
  have Hr := Lib.hid (hr.up hB)
  have Hn := Lib.hid hn
  have Hm := Lib.hid hm
  by_cases h0 : n = 0
  · have hv : v = 0 := limbs_len_zero.1 (by omega)
    clear hr hn hB
    subst h0 hv
    go_enter Tryd.func80, Tryd.ntmps80
    go_wp2_with fail
    go_ret
    rw [rt_zero, limbs_zero]
    exact ⟨none, 0, rfl, .inl rfl, Nat.le_refl _, Below.refl _ _⟩
  · have hn0 : ((n : Int) == 0) = false := beq_false_of_ne (by omega)
    have Hv : Hid (0 < v) := Lib.hid (Nat.pos_of_ne_zero (fun e => h0 (by rw [← hn, e, limbs_zero]; rfl)))
    have Hrt : Hid (0 < rt v) := Lib.hid (by
      rcases Nat.eq_zero_or_pos (rt v) with h | h
      · have := (rt_spec v).2; rw [h] at this; have := Hv.out; omega
      · exact h)
    have Hbl : Hid ((blen v : Int) ≤ 96000) := Lib.hid (by have h := blen_lt.2 (by have h := limbs_len_le.1 (show (limbs v).length ≤ n by omega); rw [Bs_pow] at h; exact h); omega)
    clear hr hn hB h0
    go_enter Tryd.func80, Tryd.ntmps80
    go_wp2_with fail
    obtain ⟨w1, hw1⟩ : ∃ w1, w1 = w.alloc (.cells #[.int .i64 1] 2) := ⟨_, rfl⟩
    have Rd1 : Hid (Rd w1 w1.heap.size (some ⟨w.heap.size, 0, none⟩) (vs (limbs 1))) := Lib.hid (by rw [hw1]; exact rd_one _ _)
    have Bel1 : Hid (Below w.heap.size w w1) := Lib.hid (by rw [hw1]; exact belAlloc1 _ _)
    rw [← hw1]
    clear hw1
    refine (natLen_any v A n c _ _ (Hr.out.below Bel1.out) Hn.out (by have := Hm.out; omega)).mono ?_
    rintro e w9 ⟨rfl, rfl⟩
    obtain ⟨k, hk⟩ : ∃ k, k = (blen v + 1) / 2 := ⟨_, rfl⟩
    obtain ⟨bl, hbl⟩ : ∃ bl, bl = blen v := ⟨_, rfl⟩
    rw [← hbl] at hk Hbl ⊢
    have Hk : Hid (k = (blen v + 1) / 2 ∧ (k : Int) ≤ 48001) := Lib.hid ⟨by rw [hk, hbl], by have := Hbl.out; omega⟩
    have hbl1 : (bl : Int) ≤ 96000 := Hbl.out
    have hki : ((bl : Int) + 1) / 2 = k := by omega
    clear hk hbl
    go_wp2_with fail
    refine (natShl_any 1 k _ 1 1 _ _ Rd1.out (Nat.le_refl _) (by rw [limbs_1]; rfl) (by omega) (by have := Hk.out.2; omega)).mono ?_
    rintro e w2 ⟨A2, rfl, ho, hb⟩
    have Ho2 := Lib.hid ho
    have Bel2 := Lib.hid (belNext Bel1.out hb)
    have Hs12 : Hid (w.heap.size ≤ w1.heap.size) := Lib.hid Bel1.out.size
    have Hst : Hid (rt v ≤ 2 ^ k * 1 ∧ (limbs (2 ^ k * 1)).length ≤ n + 1) := Lib.hid ⟨by rw [Nat.mul_one, Hk.out.1]; exact newton_start v, by
      rw [limbs_len_le, Nat.mul_one, Bs_pow]
      refine Nat.pow_lt_pow_right (by omega) ?_
      have h := blen_lt.2 (by have h := limbs_len_le.1 (show (limbs v).length ≤ n by rw [Hn.out]; exact Nat.le_refl _); rw [Bs_pow] at h; exact h)
      rw [Hk.out.1]; omega⟩
    clear ho hb
    go_wp2_with fail
    go_loopg [3, 4, 5, 6] (2 ^ k * 1) (fun gk gv _ _ _ wr => ∃ (A3 : Option Addr) (c3 : Nat), gv = .slice A3 (limbs gk).length c3 ∧ rt v ≤ gk ∧ (limbs gk).length ≤ n + 1 ∧ (limbs gk).length ≤ c3 ∧ Ow wr w.heap.size wr.heap.size A3 (vs (limbs gk)) ∧ Below w.heap.size w wr)
    case atStart => exact ⟨A2, _, by rw [Nat.mul_one], Hst.out.1, Hst.out.2, Nat.le_refl _, Ho2.out.wide Hs12.out (Nat.le_refl _), Bel2.out⟩
    case round =>
      obtain ⟨A3, c3, hgv, hh1, hh2, hh3, hh4, hh5⟩ := hrel
      subst hgv
      obtain ⟨m, hm⟩ : ∃ m, m = (limbs gk).length := ⟨_, rfl⟩
      rw [← hm] at hh2 hh3 ⊢
      have Hm3 := Lib.hid hm
      have HC3 := Lib.hid hh3
      have Hge := Lib.hid hh1
      have Hml := Lib.hid hh2
      have Ho3 := Lib.hid hh4
      have Bel3 := Lib.hid hh5
      have Hgp : Hid (0 < gk) := Lib.hid (by have := Hrt.out; omega)
      clear hm hh1 hh2 hh3 hh4 hh5
      go_wp2_with fail
      refine (natDiv_any v gk A A3 n m c c3 _ _ wr (Hr.out.below Bel3.out) Ho3.out.rd Bel3.out.size (Nat.le_refl _) Hn.out Hm3.out.symm (by have := Hm.out; omega) (by have := Hm.out; have := Hml.out; omega) Hgp.out).mono ?_
      rintro e w3 ⟨A4, A5, c4, c5, mid, rfl, hc4, hc5, hm1, hm2, ho4, ho5, hb3⟩
      obtain ⟨q, hq⟩ : ∃ q, q = v / gk := ⟨_, rfl⟩
      rw [← hq] at hc4 ho4 ⊢
      obtain ⟨lq, hlq⟩ : ∃ l, l = (limbs q).length := ⟨_, rfl⟩
      obtain ⟨rr, hrr⟩ : ∃ l, l = (limbs (v % gk)).length := ⟨_, rfl⟩
      rw [← hlq, ← hrr]
      have Hq := Lib.hid hq
      have Hlq := Lib.hid hlq
      have Hlql : Hid (lq ≤ n) := Lib.hid (by rw [hlq, hq, ← Hn.out]; exact limbs_len_mono (Nat.div_le_self v gk))
      have Ho4 := Lib.hid ho4
      have Hb3 := Lib.hid hb3
      have Hmid := Lib.hid hm2
      clear hq hlq hrr hc4 hc5 hm1 hm2 ho4 ho5 hb3
      go_wp2_with fail
      refine (natPlus_any gk q A3 A4 m lq c3 c4 _ _ w3 (Ho3.out.below' Hb3.out).rd Ho4.out.rd Hb3.out.size Hmid.out Hm3.out.symm Hlq.out.symm (by have := Hm.out; have := Hml.out; omega) (by have := Hm.out; have := Hlql.out; omega)).mono ?_
      rintro e w4 ⟨A6, rfl, ho6, hb4⟩
      obtain ⟨s, hs⟩ : ∃ s, s = gk + q := ⟨_, rfl⟩
      rw [← hs] at ho6 ⊢
      obtain ⟨ls, hls⟩ : ∃ l, l = (limbs s).length := ⟨_, rfl⟩
      rw [← hls]
      have Hs := Lib.hid hs
      have Hls := Lib.hid hls
      have Hlsl : Hid (ls ≤ 2 * n + 2) := Lib.hid (by have h := limbs_len_sum gk q Hm3.out.symm Hlq.out.symm; rw [hls, hs]; have := Hml.out; have := Hlql.out; omega)
      have Ho6 := Lib.hid ho6
      have Hb4 := Lib.hid hb4
      clear hs hls ho6 hb4
      go_wp2_with fail
      refine (natShr_any s 1 A6 ls ls _ w4 Ho6.out.rd (Nat.le_refl _) Hls.out.symm (by have := Hm.out; have := Hlsl.out; omega) (by omega)).mono ?_
      rintro e w5 ⟨A7, rfl, ho7, hb5⟩
      obtain ⟨g2, hg2⟩ : ∃ g, g = s / 2 ^ 1 := ⟨_, rfl⟩
      rw [← hg2] at ho7 ⊢
      obtain ⟨l2, hl2⟩ : ∃ l, l = (limbs g2).length := ⟨_, rfl⟩
      rw [← hl2]
      have hg3 : g2 = (gk + v / gk) / 2 := by rw [hg2, Hs.out, Hq.out]
      have Hg2 := Lib.hid hg3
      have Hl2 := Lib.hid hl2
      have Hl2l : Hid (l2 ≤ 2 * n + 2) := Lib.hid (by have h := limbs_len_mono (Nat.div_le_self s (2 ^ 1)); rw [hl2, hg2]; have := Hls.out; have := Hlsl.out; omega)
      have Ho7 := Lib.hid ho7
      have Bel5 := Lib.hid (belNext (belNext (belNext Bel3.out Hb3.out) Hb4.out) hb5)
      have Ho35 : Hid (Ow w5 w.heap.size wr.heap.size A3 (vs (limbs gk))) := Lib.hid (((Ho3.out.below' Hb3.out).below' Hb4.out).below' hb5)
      have Hw4 : Hid (w.heap.size ≤ w4.heap.size) := Lib.hid (by have := Bel3.out.size; have := Hb3.out.size; have := Hb4.out.size; omega)
      have Hwr : Hid (wr.heap.size ≤ w5.heap.size) := Lib.hid (by have := Hb3.out.size; have := Hb4.out.size; have := hb5.size; omega)
      clear hg2 hg3 hl2 ho7 hb5
      go_wp2_with fail
      by_cases hlt : g2 < gk
      · have hcv : cmpI (g2 : Int) (gk : Int) = -1 := cmpI_lt (by omega)
        have Hcv := Lib.hid hcv
        have Hlt := Lib.hid hlt
        clear hcv hlt
        refine (natCmp_any g2 gk A7 A3 l2 m _ c3 _ _ w5 Ho7.out.rd Ho35.out.rd Hl2.out.symm Hm3.out.symm (by have := Hm.out; have := Hl2l.out; omega) (by have := Hm.out; have := Hml.out; omega)).mono ?_
        rintro e w6 ⟨rfl, q6, rfl⟩
        rw [Hcv.out]
        go_wp2_with fail
        go_roundg g2
        case measure => have := Hlt.out; omega
        case rel => exact ⟨A7, _, by rw [Hl2.out], by rw [Hg2.out]; exact newton_ge Hgp.out (rt_spec v).1, Nat.le_trans (limbs_len_mono (Nat.le_of_lt Hlt.out)) (by rw [← Hm3.out]; exact Hml.out), by rw [← Hl2.out]; exact Nat.le_refl _, (Ho7.out.wide Hw4.out (Nat.le_refl _)).drewN _, below_drewN Bel5.out _⟩
      · have hcv : ∃ k : Int, cmpI (g2 : Int) (gk : Int) = k ∧ 0 ≤ k ∧ k ≤ 1 := ⟨_, rfl, by unfold cmpI; rw [if_neg (by omega)]; split <;> omega, (cmpI_small _ _).2⟩
        obtain ⟨k6, hk1, hk2, hk3⟩ := hcv
        have Hcv := Lib.hid hk1
        have hkb : decide (0 ≤ k6) = true := decide_eq_true hk2
        have Heq : Hid (gk = rt v) := Lib.hid (by
          rcases Nat.lt_or_ge (rt v) gk with h | h
          · have h1 := newton_lt h
            rw [← Hg2.out] at h1; omega
          · have := Hge.out; omega)
        clear hk1 hk3 hlt
        refine (natCmp_any g2 gk A7 A3 l2 m _ c3 _ _ w5 Ho7.out.rd Ho35.out.rd Hl2.out.symm Hm3.out.symm (by have := Hm.out; have := Hl2l.out; omega) (by have := Hm.out; have := Hml.out; omega)).mono ?_
        rintro e w6 ⟨rfl, q6, rfl⟩
        rw [Hcv.out]
        go_wp2_with fail
        go_ret
        rw [← Heq.out, ← Hm3.out]
        exact ⟨A3, c3, rfl, (Ho35.out.wide (Nat.le_refl _) Hwr.out).drewN _, HC3.out, below_drewN Bel5.out _⟩
end Go.Proofs.YtcjamfoiilgfoaaDoor
/- Roots of whole numbers, of the model: bit by bit. -/
namespace Go.Proofs.YtcjamfoiilgfoaaDoor
set_option maxRecDepth 100000
open Go.RowKit
set_option linter.unusedSimpArgs false
set_option linter.unusedVariables false

/-- a box that may be written -/
def MB (w : World) (b : Nat) (s : Int) (A : Option Addr) (n c : Nat) : Prop := (w.cell? ⟨b, 0, none⟩ = some (.int .i64 s) ∧ w.cell? ⟨b, 1, none⟩ = some (.slice A n c) ∧ w.frozen? ⟨b, 0, none⟩ = false ∧ w.frozen? ⟨b, 1, none⟩ = false) ∧ b < w.heap.size
section
variable {w w' : World} {b n c n' c' : Nat} {s s' : Int} {A A' : Option Addr}
theorem MB.next (h : MB w b s A n c) (hb : Below w.heap.size w w') : MB w' b s A n c :=
  ⟨⟨(hb.cell (p := ⟨b, 0, none⟩) h.2).trans h.1.1, (hb.cell (p := ⟨b, 1, none⟩) h.2).trans h.1.2.1, (hb.frozen (p := ⟨b, 0, none⟩) h.2).trans h.1.2.2.1, (hb.frozen (p := ⟨b, 1, none⟩) h.2).trans h.1.2.2.2⟩, Nat.lt_of_lt_of_le h.2 hb.size⟩
theorem MB.box (h : MB w b s A n c) : Box w b s A n c := ⟨⟨h.1.1, h.1.2.1⟩, h.2⟩
theorem MB.over (h : MB w b s A n c) : MB (st w b s' A' n' c') b s' A' n' c' := by
  obtain ⟨⟨h0, h1, h2, h3⟩, h4⟩ := h
  refine ⟨⟨?_, ?_, ?_, ?_⟩, by rw [st_size]; exact h4⟩ <;> · unfold st; go_simp
theorem MB.st_ {b' : Nat} (h : MB w b s A n c) (hne : b ≠ b') : MB (st w b' s' A' n' c') b s A n c := by
  obtain ⟨⟨h0, h1, h2, h3⟩, h4⟩ := h
  refine ⟨⟨?_, ?_, ?_, ?_⟩, by rw [st_size]; exact h4⟩
  · exact (World.cell?_of_block (a := ⟨b, 0, none⟩) (st_heap hne)).trans h0
  · exact (World.cell?_of_block (a := ⟨b, 1, none⟩) (st_heap hne)).trans h1
  · rw [← h2]; unfold World.frozen?; rw [st_heap hne]
  · rw [← h3]; unfold World.frozen?; rw [st_heap hne]
theorem ZO.st_ {lo hi : Nat} {z : Int} (h : ZO w lo hi z s A n c) (hne : b < lo ∨ hi ≤ b) : ZO (st w b s' A' n' c') lo hi z s A n c :=
  (h.setCell hne _).setCell hne _
theorem ResB.st_ {b' : Nat} (h : ResB w b) (hne : b ≠ b') : ResB (st w b' s' A' n' c') b := by
  obtain ⟨⟨h0, h1, h2, h3⟩, h4⟩ := h
  refine ⟨⟨?_, ?_, ?_, ?_⟩, by rw [st_size]; exact h4⟩
  · exact (World.cell?_of_block (a := ⟨b, 0, none⟩) (st_heap hne)).trans h0
  · exact (World.cell?_of_block (a := ⟨b, 1, none⟩) (st_heap hne)).trans h1
  · rw [← h2]; unfold World.frozen?; rw [st_heap hne]
  · rw [← h3]; unfold World.frozen?; rw [st_heap hne]
theorem ZO.lenN {lo hi X : Nat} (h : ZO w lo hi (X : Int) s A n c) : (limbs X).length = n := by have := h.2.1; simpa using this
end
theorem specLeftJ_any (z S k : Int) (A : Option Addr) (n c : Nat) (w : World) (hz : ZV w z S A n c) (hm : (n : Int) ≤ 4000) (hk0 : 0 ≤ k) (hk : k ≤ 100000) :
    Calls Tryd.prog 56 #[.agg #[.int .i64 S, .slice A n c], .int .i64 k] w fun e w' => ∃ Sr Ar nr cr, e = .returned (.agg #[.int .i64 Sr, .slice Ar nr cr]) ∧ ZO w' w.heap.size w'.heap.size ((2 : Int) ^ k.toNat * z) Sr Ar nr cr ∧ Below w.heap.size w w' := by
  obtain ⟨m, rfl⟩ : ∃ m : Nat, k = m := ⟨k.toNat, by omega⟩
  have h := specLeft_any z S A n c m w hz hm hk
  rw [Int.toNat_natCast]
  exact h
theorem specAddZ_any (z z' S S' : Int) (A A' : Option Addr) (n n' c c' : Nat) (w : World) (hz : ZV w z S A n c) (hz' : ZV w z' S' A' n' c') (hm : (n : Int) ≤ 90000) (hm' : (n' : Int) ≤ 90000) :
    Calls Tryd.prog 102 #[.agg #[.int .i64 S, .slice A n c], .agg #[.int .i64 S', .slice A' n' c']] w fun e w' => ∃ Sr Ar nr cr, e = .returned (.agg #[.int .i64 Sr, .slice Ar nr cr]) ∧ ZO w' w.heap.size w'.heap.size (z + z') Sr Ar nr cr ∧ Below w.heap.size w w' := by
  refine (specAdd_any S S' z.natAbs z'.natAbs A A' n n' c c' w hz.sg hz'.sg hz.rd hz'.rd hz.len hz'.len hm hm' hz.cap hz'.cap).mono ?_
  rintro e w' ⟨val, rfl, hv, hb⟩
  obtain ⟨S8, A8, n8, c8, rfl, hzo⟩ := Wz.zo (hv.cast_ (z' := z + z') (by rw [hz.val, hz'.val])) (Nat.le_refl _)
  exact ⟨S8, A8, n8, c8, rfl, hzo, hb⟩
theorem specCmpZ_any (z z' S S' : Int) (A A' : Option Addr) (n n' c c' : Nat) (w : World) (hz : ZV w z S A n c) (hz' : ZV w z' S' A' n' c') (hm : (n : Int) ≤ 100000) (hm' : (n' : Int) ≤ 100000) :
    Calls Tryd.prog 121 #[.agg #[.int .i64 S, .slice A n c], .agg #[.int .i64 S', .slice A' n' c']] w fun e w' => e = .returned (.int .i64 (cmpI z z')) ∧ Below w.heap.size w w' := by
  have h := specCmp_any S S' z.natAbs z'.natAbs A A' n n' c c' w hz.sg hz'.sg hz.rd hz'.rd hz.len hz'.len hm hm'
  rw [hz.val, hz'.val] at h
  exact h
theorem root_next (R k : Nat) : R * R + 2 ^ (k + 1) * R + 2 ^ (2 * k) = (R + 2 ^ k) * (R + 2 ^ k) := by
  have e : 2 ^ (2 * k) = 2 ^ k * 2 ^ k := by rw [← Nat.pow_add]; congr 1; omega
  rw [e, Nat.pow_succ]
  simp only [Nat.add_mul, Nat.mul_add]
  have := Nat.mul_comm R (2 ^ k)
  have e2 : 2 ^ k * 2 * R = 2 ^ k * R + 2 ^ k * R := by rw [Nat.mul_right_comm, Nat.mul_two]
  omega
theorem root_len {v n R k : Nat} (hn : (limbs v).length = n) (hR : R * R ≤ v) (hk : k ≤ (blen v + 1) / 2) {X : Nat} (hX : X ≤ (R + 2 ^ k) * (R + 2 ^ k)) : (limbs X).length ≤ n + 1 := by
  have hb := blen_lt.2 (by have h := limbs_len_le.1 (show (limbs v).length ≤ n by omega); rw [Bs_pow] at h; exact h)
  have h1 : R ≤ 2 ^ ((blen v + 1) / 2) := by
    have h2 := newton_start v
    have h3 : R ≤ rt v := by
      rcases Nat.lt_or_ge (rt v) R with h | h
      · have := Nat.mul_le_mul h h
        have := (rt_spec v).2
        simp only [Nat.succ_eq_add_one] at *
        omega
      · exact h
    omega
  have h2 : 2 ^ k ≤ 2 ^ ((blen v + 1) / 2) := Nat.pow_le_pow_right (by omega) hk
  have h3 : R + 2 ^ k ≤ 2 ^ ((blen v + 1) / 2 + 1) := by rw [Nat.pow_succ]; omega
  have h4 := Nat.mul_le_mul h3 h3
  rw [← Nat.pow_add] at h4
  rw [limbs_len_le, Bs_pow]
  exact Nat.lt_of_le_of_lt (Nat.le_trans hX h4) (Nat.pow_lt_pow_right (by omega) (by omega))
theorem mul_le_next (R k : Nat) : 2 ^ (k + 1) * R ≤ (R + 2 ^ k) * (R + 2 ^ k) ∧ R * R + 2 ^ (k + 1) * R ≤ (R + 2 ^ k) * (R + 2 ^ k) ∧ 2 ^ (2 * k) ≤ (R + 2 ^ k) * (R + 2 ^ k) ∧ R * R ≤ (R + 2 ^ k) * (R + 2 ^ k) := by
  have h := root_next R k
  rw [← h]
  exact ⟨Nat.le_trans (Nat.le_add_left _ _) (Nat.le_add_right _ _), Nat.le_add_right _ _, Nat.le_add_left _ _, Nat.le_trans (Nat.le_add_right _ _) (Nat.le_add_right _ _)⟩
theorem left_cast1 (R k : Nat) : (2 : Int) ^ ((k : Int) + 1).toNat * (R : Int) = ((2 ^ (k + 1) * R : Nat) : Int) := by
  have e : ((k : Int) + 1).toNat = k + 1 := by omega
  rw [e, Int.natCast_mul, Int.natCast_pow]; rfl
theorem left_cast2 (k : Nat) : (2 : Int) ^ (2 * (k : Int)).toNat * 1 = ((2 ^ (2 * k) : Nat) : Int) := by
  have e : (2 * (k : Int)).toNat = 2 * k := by omega
  rw [e, Int.mul_one, Int.natCast_pow]; rfl
theorem left_cast3 (k : Nat) : (2 : Int) ^ (k : Int).toNat * 1 = ((2 ^ k : Nat) : Int) := by
  rw [Int.toNat_natCast, Int.mul_one, Int.natCast_pow]; rfl
theorem root_end {v R : Nat} (h1 : R * R ≤ v) (h2 : v < (R + 2 ^ 0) * (R + 2 ^ 0)) : rt v = R := rt_unique h1 (by simpa using h2)
theorem root_down {v R k : Nat} (h2 : v < (R + 2 ^ (k + 1)) * (R + 2 ^ (k + 1))) : v < (R + 2 ^ k + 2 ^ k) * (R + 2 ^ k + 2 ^ k) := by
  have e : R + 2 ^ k + 2 ^ k = R + 2 ^ (k + 1) := by rw [Nat.pow_succ]; omega
  rw [e]; exact h2
theorem root_start (v : Nat) : v < (0 + 2 ^ ((blen v + 1) / 2 + 1)) * (0 + 2 ^ ((blen v + 1) / 2 + 1)) := by
  have h1 := blen_lt.1 (Nat.le_refl (blen v))
  rw [Nat.zero_add, ← Nat.pow_add]
  exact Nat.lt_of_lt_of_le h1 (Nat.pow_le_pow_right (by omega) (by omega))
theorem le_next (R k : Nat) : R ≤ (R + 2 ^ k) * (R + 2 ^ k) ∧ R + 2 ^ k ≤ (R + 2 ^ k) * (R + 2 ^ k) ∧ 2 ^ k ≤ (R + 2 ^ k) * (R + 2 ^ k) := by
  have h1 : 0 < 2 ^ k := Nat.two_pow_pos k
  have h := Nat.le_mul_of_pos_left (R + 2 ^ k) (show 0 < R + 2 ^ k by omega)
  omega

/-- the world of the loop -/
def RtS (W w : World) (Sa : Int) (Aa : Option Addr) (na ca B R : Nat) (S : Int) (A : Option Addr) (n c : Nat) (S' : Int) (A' : Option Addr) (n' c' : Nat) (S1 : Int) (A1 : Option Addr) (n1 c1 : Nat) : Prop :=
  MB w B S A n c ∧ MB w (B + 1) S' A' n' c' ∧ Box w (B + 2) S1 A1 n1 c1 ∧ ZO w (B + 3) w.heap.size (R : Int) S A n c ∧ ZO w (B + 3) w.heap.size ((R * R : Nat) : Int) S' A' n' c' ∧ ZO w W.heap.size B 1 S1 A1 n1 c1 ∧ ResB w (W.heap.size + 1) ∧ Box w W.heap.size Sa Aa na ca ∧ Below W.heap.size W w ∧ W.heap.size + 1 < B
theorem RtS.next {W w w' : World} {Sa : Int} {Aa : Option Addr} {na ca B R : Nat} {S : Int} {A : Option Addr} {n c : Nat} {S' : Int} {A' : Option Addr} {n' c' : Nat} {S1 : Int} {A1 : Option Addr} {n1 c1 : Nat} (h : RtS W w Sa Aa na ca B R S A n c S' A' n' c' S1 A1 n1 c1) (hb : Below w.heap.size w w') : RtS W w' Sa Aa na ca B R S A n c S' A' n' c' S1 A1 n1 c1 := by
  obtain ⟨h1, h2, h3, h4, h5, h6, h7, h8, h9, h10⟩ := h
  exact ⟨h1.next hb, h2.next hb, h3.next hb, (h4.next hb).wide (Nat.le_refl _) hb.size (Nat.le_refl _), (h5.next hb).wide (Nat.le_refl _) hb.size (Nat.le_refl _), h6.next hb, h7.next hb, h8.next hb, belNext h9 hb, h10⟩
theorem RtS.both {W w : World} {Sa : Int} {Aa : Option Addr} {na ca B R R2 : Nat} {S : Int} {A : Option Addr} {n c : Nat} {S' : Int} {A' : Option Addr} {n' c' : Nat} {S1 : Int} {A1 : Option Addr} {n1 c1 : Nat} {T T' : Int} {A2 A3 : Option Addr} {n2 c2 n3 c3 : Nat} (h : RtS W w Sa Aa na ca B R S A n c S' A' n' c' S1 A1 n1 c1) (hz : ZO w (B + 3) w.heap.size (R2 : Int) T A2 n2 c2) (hz' : ZO w (B + 3) w.heap.size ((R2 * R2 : Nat) : Int) T' A3 n3 c3) : RtS W (st (st w B T A2 n2 c2) (B + 1) T' A3 n3 c3) Sa Aa na ca B R2 T A2 n2 c2 T' A3 n3 c3 S1 A1 n1 c1 := by
  obtain ⟨h1, h2, h3, h4, h5, h6, h7, h8, h9, h10⟩ := h
  refine ⟨(h1.over).st_ (by omega), (h2.st_ (by omega)).over, (h3.st_ (by omega)).st_ (by omega), ?_, ?_, (h6.st_ (.inr (Nat.le_refl _))).st_ (.inr (by omega)), (h7.st_ (by omega)).st_ (by omega), (h8.st_ (by omega)).st_ (by omega), belSt (belSt h9 (by omega)) (by omega), h10⟩
  · rw [st_size, st_size]; exact (hz.st_ (.inl (by omega))).st_ (.inl (by omega))
  · rw [st_size, st_size]; exact (hz'.st_ (.inl (by omega))).st_ (.inl (by omega))
theorem rtS_new {W w2 w3 : World} {Sa : Int} {Aa : Option Addr} {na ca : Nat} {S1 : Int} {A1 : Option Addr} {n1 c1 lo : Nat} {t : TypeId} (hB : Box w2 W.heap.size Sa Aa na ca) (hR : ResB w2 (W.heap.size + 1)) (hZ : ZO w2 lo w2.heap.size 1 S1 A1 n1 c1) (hlo : W.heap.size ≤ lo) (hb : Below W.heap.size W w2) (hlt : W.heap.size + 1 < w2.heap.size)
    (h3 : w3 = ((w2.alloc (.cells #[.int .i64 0, .slice none 0 0] t)).alloc (.cells #[.int .i64 0, .slice none 0 0] t)).alloc (.cells #[.int .i64 S1, .slice A1 n1 c1] t)) : RtS W w3 Sa Aa na ca w2.heap.size 0 0 none 0 0 0 none 0 0 S1 A1 n1 c1 := by
  obtain ⟨u1, hu1⟩ : ∃ u1, u1 = w2.alloc (.cells #[.int .i64 0, .slice none 0 0] t) := ⟨_, rfl⟩
  obtain ⟨u2, hu2⟩ : ∃ u2, u2 = u1.alloc (.cells #[.int .i64 0, .slice none 0 0] t) := ⟨_, rfl⟩
  rw [← hu1, ← hu2] at h3
  have b1 : Below w2.heap.size w2 u1 := by rw [hu1]; exact belAlloc1 _ _
  have b2 : Below u1.heap.size u1 u2 := by rw [hu2]; exact belAlloc1 _ _
  have b3 : Below u2.heap.size u2 w3 := by rw [h3]; exact belAlloc1 _ _
  have s1 : u1.heap.size = w2.heap.size + 1 := by rw [hu1]; simp
  have s2 : u2.heap.size = w2.heap.size + 2 := by rw [hu2]; simp [s1]
  have s3 : w3.heap.size = w2.heap.size + 3 := by rw [h3]; simp [s2]
  have bb := belNext (belNext b1 b2) b3
  have r1 : ResB u1 w2.heap.size := by rw [hu1]; exact resBox_new _ _
  have r2 : ResB u2 (w2.heap.size + 1) := by rw [← s1, hu2]; exact resBox_new _ _
  have r3 : Box w3 (w2.heap.size + 2) S1 A1 n1 c1 := by rw [← s2, h3]; exact Box.new _ _ _ _ _ _
  refine ⟨MB.next r1 (belNext b2 b3), MB.next r2 b3, r3, ZO.zero (lo := w2.heap.size + 3) (hi := w3.heap.size) (Nat.le_refl _), ?_, (hZ.next bb).wide hlo (Nat.le_refl _) (by omega), hR.next bb, hB.next bb, belNext hb bb, hlt⟩
  exact ZO.zero (lo := w2.heap.size + 3) (hi := w3.heap.size) (Nat.le_refl _)

set_option maxHeartbeats 4000000 in
theorem specRoot_any (v : Nat) (S : Int) (A : Option Addr) (n c : Nat) (w : World) (hz : ZV w (v : Int) S A n c) (hm : (n : Int) ≤ 1000) :
    Calls Tryd.prog 87 #[.agg #[.int .i64 S, .slice A n c]] w fun e w' => ∃ Sr Ar nr cr, e = .returned (.agg #[.int .i64 Sr, .slice Ar nr cr]) ∧ ZO w' w.heap.size w'.heap.size (rt v : Int) Sr Ar nr cr ∧ Below w.heap.size w w' := by
  have hst := store_int Tryd.prog
  have hst2 := store_slice Tryd.prog
  obtain ⟨w1, hw1, hb1, hb3, hb4⟩ := box_res w S A n c 28 28
  have Hz := Lib.hid hz
  have Hm := Lib.hid hm
  have Hw := Lib.hid hw1
  have Ba1 := Lib.hid hb1
  have Rs1 := Lib.hid hb3
  have Bel1 := Lib.hid hb4
  have Hln : Hid ((limbs v).length = n) := Lib.hid (by have := hz.2.1; simpa using this)
  have Hlt : Hid (w.heap.size + 1 < w1.heap.size) := Lib.hid hb3.2
  clear hz hm hw1 hb1 hb3 hb4
  go_enter Tryd.func87, Tryd.ntmps87
  go_wp2_with fail
  rw [← Hw.out]
  refine (specOf_any 1 w1 (by omega) (by omega)).mono ?_
  rintro e w2 ⟨val, rfl, hv, hb⟩
  obtain ⟨S1, A1, n1, c1, rfl, hzo⟩ := Wz.zo hv (Nat.le_refl _)
  have Z1 := Lib.hid hzo
  have Ba2 := Lib.hid (Ba1.out.next hb)
  have Rs2 := Lib.hid (Rs1.out.next hb)
  have Bel2 := Lib.hid (belNext Bel1.out hb)
  have Sz2 := Lib.hid hb.size
  clear hv hzo hb
  have hR3 := rtS_new (t := 28) Ba2.out Rs2.out Z1.out (by have := Hlt.out; omega) Bel2.out (by have := Hlt.out; have := Sz2.out; omega) rfl
  obtain ⟨-, -, -, -, -, -, -, ⟨⟨hBa0, hBa1⟩, hBa2⟩, -, -⟩ := hR3
  go_wp2_with fail
  obtain ⟨w3, hw3⟩ : ∃ w3, w3 = ((w2.alloc (.cells #[.int .i64 0, .slice none 0 0] 28)).alloc (.cells #[.int .i64 0, .slice none 0 0] 28)).alloc (.cells #[.int .i64 S1, .slice A1 n1 c1] 28) := ⟨_, rfl⟩
  have Rt3 := Lib.hid (rtS_new Ba2.out Rs2.out Z1.out (by have := Hlt.out; omega) Bel2.out (by have := Hlt.out; have := Sz2.out; omega) hw3)
  rw [← hw3]
  obtain ⟨B, hB⟩ : ∃ B, B = w2.heap.size := ⟨_, rfl⟩
  rw [← hB] at Rt3
  try rw [← hB]
  clear hw3 hBa0 hBa1 hBa2 Z1 Ba2 Rs2 Bel2 Sz2 Ba1 Rs1 Bel1 Hlt Hw hB
  refine (specLen_any S v A n c _ w3 (by have h := (Hz.out.next Rt3.out.2.2.2.2.2.2.2.2.1).rd; simpa using h) (Nat.le_refl _) Hln.out (by have := Hm.out; omega)).mono ?_
  rintro e w4 ⟨rfl, hb⟩
  have Rt4 := Lib.hid (Rt3.out.next hb)
  clear Rt3 hb
  have Hbl : Hid ((blen v : Int) ≤ 24000) := Lib.hid (by have h := blen_lt.2 (by have h := limbs_len_le.1 (show (limbs v).length ≤ n by rw [Hln.out]; exact Nat.le_refl _); rw [Bs_pow] at h; exact h); have := Hm.out; omega)
  obtain ⟨bl, hbl⟩ : ∃ bl, bl = blen v := ⟨_, rfl⟩
  obtain ⟨k0, hk0⟩ : ∃ k0, k0 = (bl + 1) / 2 := ⟨_, rfl⟩
  rw [← hbl] at Hbl ⊢
  have Hk0 : Hid (k0 = (blen v + 1) / 2 ∧ (k0 : Int) ≤ 12001) := Lib.hid ⟨by rw [hk0, hbl], by have := Hbl.out; omega⟩
  have hbl1 : (bl : Int) ≤ 24000 := Hbl.out
  have hki : ((bl : Int) + 1) / 2 = k0 := by omega
  clear hk0 hbl
  go_wp2_with fail
  rw [hki]
  clear hki hbl1
  go_loopg [6] (k0 + 1) (fun gk gv wr => ∃ (K : Int) (R : Nat) (So : Int) (Ao : Option Addr) (no co : Nat) (Sq : Int) (Aq : Option Addr) (nq cq : Nat), gv = .int .i64 K ∧ K = (gk : Int) - 1 ∧ gk ≤ k0 + 1 ∧ R * R ≤ v ∧ v < (R + 2 ^ gk) * (R + 2 ^ gk) ∧ RtS w wr S A n c B R So Ao no co Sq Aq nq cq S1 A1 n1 c1)
  case atStart => exact ⟨k0, 0, 0, none, 0, 0, 0, none, 0, 0, rfl, by omega, Nat.le_refl _, by omega, by rw [Hk0.out.1]; exact root_start v, Rt4.out⟩
  case round =>
    obtain ⟨K, R, So, Ao, no, co, Sq, Aq, nq, cq, hgv, hK, hg, hR1, hR2, hs⟩ := hrel
    subst hgv
    have Hs := Lib.hid hs
    have HR1 := Lib.hid hR1
    have HR2 := Lib.hid hR2
    have Hg := Lib.hid hg
    clear hg hR1 hR2
    obtain ⟨⟨⟨ho0, ho1, ho2, ho3⟩, ho4⟩, ⟨⟨hq0, hq1, hq2, hq3⟩, hq4⟩, ⟨⟨h10, h11⟩, h12⟩, -, -, -, ⟨⟨hr0, hr1, hr2, hr3⟩, hr4⟩, ⟨⟨ha0, ha1⟩, ha2⟩, -, hlt⟩ := hs
    rcases gk with _ | kn
    · have hK1 : K = -1 := by rw [hK]; rfl
      subst hK1
      clear hK
      go_wp2_with fail
      refine bodyPost_ret (v := .agg #[.int .i64 So, .slice Ao no co]) (by simp [results, Tryd.results87, go_sem, hr0, hr1, hr2, hr3]) rfl ⟨So, Ao, no, co, rfl, ?_, ?_⟩
      · rw [root_end HR1.out HR2.out]
        exact ((Hs.out.2.2.2.1.st_ (.inl (by omega))).wide (by omega) (by simp) (Nat.le_refl _))
      · exact belSt Hs.out.2.2.2.2.2.2.2.2.1 (by omega)
    · have hK1 : K = (kn : Int) := by rw [hK]; simp
      subst hK1
      clear hK
      have hkb : decide ((0 : Int) ≤ kn) = true := by simp
      have Hkn : Hid ((kn : Int) ≤ 12001 ∧ kn ≤ (blen v + 1) / 2) := Lib.hid (by have h1 := Hg.out; have h2 := Hk0.out; refine ⟨by omega, by rw [← h2.1]; omega⟩)
      have hkn := Hkn.out.1
      have Hlen : Hid (∀ X, X ≤ (R + 2 ^ kn) * (R + 2 ^ kn) → ((limbs X).length : Int) ≤ 1001) := Lib.hid (fun X hX => by have h := root_len Hln.out HR1.out Hkn.out.2 hX; have := Hm.out; omega)
      have Hno : Hid ((no : Int) ≤ 1001) := Lib.hid (by rw [← Hs.out.2.2.2.1.lenN]; exact Hlen.out _ (le_next R kn).1)
      have Hnq : Hid ((nq : Int) ≤ 1001) := Lib.hid (by rw [← Hs.out.2.2.2.2.1.lenN]; exact Hlen.out _ (mul_le_next R kn).2.2.2)
      have Hn1 : Hid ((n1 : Int) ≤ 1001) := Lib.hid (by rw [← ZO.lenN (X := 1) Hs.out.2.2.2.2.2.1]; exact Hlen.out _ (Nat.le_trans (Nat.two_pow_pos kn) (le_next R kn).2.2))
      have hwr1 : IntKind.i64.wrap ((kn : Int) + 1) = kn + 1 := IntWalk.i64_in _ (by omega)
      have hwr2 : IntKind.i64.wrap (2 * (kn : Int)) = 2 * kn := IntWalk.i64_in _ (by omega)
      go_wp2_with fail
      go_cut [7] from 15 to 39 (fun t7 wx => ∃ (b7 : Nat) (S8 : Int) (A8 : Option Addr) (n8 c8 : Nat), t7 = .pointer (some ⟨b7, 0, none⟩) ∧ Box wx b7 S8 A8 n8 c8 ∧ ZO wx (B + 3) wx.heap.size (((R + 2 ^ kn) * (R + 2 ^ kn) : Nat) : Int) S8 A8 n8 c8 ∧ wr.heap.size ≤ b7 ∧ Below wr.heap.size wr wx)
      case first =>
        have HB0 : Hid (Below wr.heap.size wr wr) := Lib.hid (Below.refl _ _)
        refine wp_region_held_drew (S := fun w' => (w'.cell? ⟨B, 0, none⟩ = some (.int .i64 So) ∧ w'.cell? ⟨B, 1, none⟩ = some (.slice Ao no co)) ∧ (w'.cell? ⟨B + 1, 0, none⟩ = some (.int .i64 Sq) ∧ w'.cell? ⟨B + 1, 1, none⟩ = some (.slice Aq nq cq)) ∧ (w'.cell? ⟨B + 2, 0, none⟩ = some (.int .i64 S1) ∧ w'.cell? ⟨B + 2, 1, none⟩ = some (.slice A1 n1 c1))) (by kernel_rfl) ⟨Hs.out.1.box.1, Hs.out.2.1.box.1, Hs.out.2.2.1.1⟩ (fun hHeld => ?_)
        clear ho0 ho1 ho2 ho3 ho4 hq0 hq1 hq2 hq3 hq4 h10 h11 h12 hr0 hr1 hr2 hr3 hr4 ha0 ha1 ha2
        refine wpAnyH_take (i := 0) (v := ?_) rfl (by kernel_rfl) (by kernel_rfl) (by kernel_rfl) (fun _ _ _ h => h) (Or.inl ⟨by rfl, ?_⟩) (by assumption) ?_
        rotate_left
        · (intro w hSw; (try dsimp only at hSw); go_simp; (try with_reducible rfl))
        try simp only [Act.put, List.setIfInBounds_toArray, List.set_cons_zero, List.set_cons_succ]
        refine wpAnyH_take (i := 1) (v := ?_) rfl (by kernel_rfl) (by kernel_rfl) (by kernel_rfl) (fun _ _ _ h => h) (Or.inl ⟨by rfl, ?_⟩) (by assumption) ?_
        rotate_left
        · (intro w hSw; (try dsimp only at hSw); go_simp; (try with_reducible rfl))
        try simp only [Act.put, List.setIfInBounds_toArray, List.set_cons_zero, List.set_cons_succ]
        refine wpAnyH_take (i := 2) (v := ?_) rfl (by kernel_rfl) (by kernel_rfl) (by kernel_rfl) (fun _ _ _ h => h) (Or.inl ⟨by rfl, ?_⟩) (by assumption) ?_
        rotate_left
        · (intro w hSw; (try dsimp only at hSw); go_simp; (try with_reducible rfl))
        try simp only [Act.put, List.setIfInBounds_toArray, List.set_cons_zero, List.set_cons_succ]
        refine wpAnyH_take (i := 3) (v := ?_) rfl (by kernel_rfl) (by kernel_rfl) (by kernel_rfl) (fun _ _ _ h => h) (Or.inl ⟨by rfl, ?_⟩) (by assumption) ?_
        rotate_left
        · (intro w hSw; (try dsimp only at hSw); go_simp; (try with_reducible rfl))
        try simp only [Act.put, List.setIfInBounds_toArray, List.set_cons_zero, List.set_cons_succ]
        refine wpAnyH_take (i := 6) (v := ?_) rfl (by kernel_rfl) (by kernel_rfl) (by kernel_rfl) (fun _ _ _ h => h) (Or.inl ⟨by rfl, ?_⟩) (by assumption) ?_
        rotate_left
        · (intro w hSw; (try dsimp only at hSw); go_simp; (try with_reducible rfl))
        try simp only [Act.put, List.setIfInBounds_toArray, List.set_cons_zero, List.set_cons_succ]
        refine wpAnyH_take (i := 7) (v := ?_) rfl (by kernel_rfl) (by kernel_rfl) (by kernel_rfl) (fun _ _ _ h => h) (Or.inl ⟨by rfl, ?_⟩) (by assumption) ?_
        rotate_left
        · (intro w hSw; (try dsimp only at hSw); go_simp; (try with_reducible rfl))
        try simp only [Act.put, List.setIfInBounds_toArray, List.set_cons_zero, List.set_cons_succ]
        refine wpAnyH_take (i := 8) (v := ?_) rfl (by kernel_rfl) (by kernel_rfl) (by kernel_rfl) (fun _ _ _ h => h) (Or.inl ⟨by rfl, ?_⟩) (by assumption) ?_
        rotate_left
        · (intro w hSw; (try dsimp only at hSw); go_simp; (try with_reducible rfl))
        try simp only [Act.put, List.setIfInBounds_toArray, List.set_cons_zero, List.set_cons_succ]
        refine wpAnyH_ready (rs := [4, 11]) (by kernel_rfl) (by simp) ?_
        refine AllReadyH.cons rfl (fun K hK => ?_) (AllReadyH.cons rfl (fun K hK => ?_) AllReadyH.nil)
        · go_simp
          refine (specLeftJ_any (R : Int) So ((kn : Int) + 1) Ao no co wr.drew Hs.out.2.2.2.1.zv.drew (by have := Hno.out; omega) (by omega) (by omega)).mono ?_
          rintro e y1 ⟨Ta, Aa, na, ca, rfl, hzo0, hb0⟩
          have hzo := hzo0.cast_ (z' := ((2 ^ (kn + 1) * R : Nat) : Int)) (left_cast1 R kn)
          have hb : Below wr.heap.size wr y1 := belDrew hb0
          refine hK.out _ _ ⟨(Hs.out.1.box.next (belNext HB0.out hb)).1, (Hs.out.2.1.box.next (belNext HB0.out hb)).1, (Hs.out.2.2.1.next (belNext HB0.out hb)).1⟩ (fun hHeld => ?_)
          have X0_1 := Lib.hid hzo
          have N0 : Hid ((na : Int) ≤ 1001) := Lib.hid (by rw [← hzo.lenN]; exact Hlen.out _ ((mul_le_next R kn).1))
          clear hK K hb0 hzo hzo0
          have HB1 := Lib.hid (belNext HB0.out hb)
          have Sz1 : Hid (wr.heap.size ≤ y1.heap.size) := Lib.hid hb.size
          clear hb
          try simp only [Act.put, List.setIfInBounds_toArray, List.set_cons_zero, List.set_cons_succ]
          refine wpAnyH_ready (rs := [5, 11]) (by kernel_rfl) (by simp) ?_
          refine AllReadyH.cons rfl (fun K hK => ?_) (AllReadyH.cons rfl (fun K hK => ?_) AllReadyH.nil)
          · go_simp
            refine (specAddZ_any ((R * R : Nat) : Int) ((2 ^ (kn + 1) * R : Nat) : Int) Sq Ta Aq Aa nq na cq ca y1 (Hs.out.2.2.2.2.1.zv.next HB1.out) X0_1.out.zv (by have := Hnq.out; omega) (by have := N0.out; omega)).mono ?_
            rintro e y2 ⟨Tb, Ab, nb, cb, rfl, hzo0, hb0⟩
            have hzo := hzo0.cast_ (z' := ((R * R + 2 ^ (kn + 1) * R : Nat) : Int)) ((Int.natCast_add _ _).symm)
            have hb : Below y1.heap.size y1 y2 := hb0
            refine hK.out _ _ ⟨(Hs.out.1.box.next (belNext HB1.out hb)).1, (Hs.out.2.1.box.next (belNext HB1.out hb)).1, (Hs.out.2.2.1.next (belNext HB1.out hb)).1⟩ (fun hHeld => ?_)
            have X1_2 := Lib.hid hzo
            have N1 : Hid ((nb : Int) ≤ 1001) := Lib.hid (by rw [← hzo.lenN]; exact Hlen.out _ ((mul_le_next R kn).2.1))
            clear hK K hb0 hzo hzo0
            have HB2 := Lib.hid (belNext HB1.out hb)
            have Sz2 : Hid (y1.heap.size ≤ y2.heap.size) := Lib.hid hb.size
            have X0_2 := Lib.hid (X0_1.out.next hb)
            clear hb X0_1
            try simp only [Act.put, List.setIfInBounds_toArray, List.set_cons_zero, List.set_cons_succ]
            refine wpAnyH_ready (rs := [9, 11]) (by kernel_rfl) (by simp) ?_
            refine AllReadyH.cons rfl (fun K hK => ?_) (AllReadyH.cons rfl (fun K hK => ?_) AllReadyH.nil)
            · go_simp
              refine (specLeftJ_any 1 S1 (2 * (kn : Int)) A1 n1 c1 y2 (Hs.out.2.2.2.2.2.1.zv.next HB2.out) (by have := Hn1.out; omega) (by omega) (by omega)).mono ?_
              rintro e y3 ⟨Tc, Ac, nc, cc, rfl, hzo0, hb0⟩
              have hzo := hzo0.cast_ (z' := ((2 ^ (2 * kn) : Nat) : Int)) (left_cast2 kn)
              have hb : Below y2.heap.size y2 y3 := hb0
              refine hK.out _ _ ⟨(Hs.out.1.box.next (belNext HB2.out hb)).1, (Hs.out.2.1.box.next (belNext HB2.out hb)).1, (Hs.out.2.2.1.next (belNext HB2.out hb)).1⟩ (fun hHeld => ?_)
              have X2_3 := Lib.hid hzo
              have N2 : Hid ((nc : Int) ≤ 1001) := Lib.hid (by rw [← hzo.lenN]; exact Hlen.out _ ((mul_le_next R kn).2.2.1))
              clear hK K hb0 hzo hzo0
              have HB3 := Lib.hid (belNext HB2.out hb)
              have Sz3 : Hid (y2.heap.size ≤ y3.heap.size) := Lib.hid hb.size
              have X0_3 := Lib.hid (X0_2.out.next hb)
              have X1_3 := Lib.hid (X1_2.out.next hb)
              clear hb X0_2 X1_2
              try simp only [Act.put, List.setIfInBounds_toArray, List.set_cons_zero, List.set_cons_succ]
              refine wpAnyH_ready (rs := [10, 11]) (by kernel_rfl) (by simp) ?_
              refine AllReadyH.cons rfl (fun K hK => ?_) (AllReadyH.cons rfl (fun K hK => ?_) AllReadyH.nil)
              · go_simp
                refine (specAddZ_any ((R * R + 2 ^ (kn + 1) * R : Nat) : Int) ((2 ^ (2 * kn) : Nat) : Int) Tb Tc Ab Ac nb nc cb cc y3 X1_3.out.zv X2_3.out.zv (by have := N1.out; omega) (by have := N2.out; omega)).mono ?_
                rintro e y4 ⟨Td, Ad, nd, cd, rfl, hzo0, hb0⟩
                have hzo := hzo0.cast_ (z' := (((R + 2 ^ kn) * (R + 2 ^ kn) : Nat) : Int)) (by rw [← Int.natCast_add, root_next])
                have hb : Below y3.heap.size y3 y4 := hb0
                refine hK.out _ _ ⟨(Hs.out.1.box.next (belNext HB3.out hb)).1, (Hs.out.2.1.box.next (belNext HB3.out hb)).1, (Hs.out.2.2.1.next (belNext HB3.out hb)).1⟩ (fun hHeld => ?_)
                have X3_4 := Lib.hid hzo
                have N3 : Hid ((nd : Int) ≤ 1001) := Lib.hid (by rw [← hzo.lenN]; exact Hlen.out _ (Nat.le_refl _))
                clear hK K hb0 hzo hzo0
                have HB4 := Lib.hid (belNext HB3.out hb)
                have Sz4 : Hid (y3.heap.size ≤ y4.heap.size) := Lib.hid hb.size
                have X0_4 := Lib.hid (X0_3.out.next hb)
                have X1_4 := Lib.hid (X1_3.out.next hb)
                have X2_4 := Lib.hid (X2_3.out.next hb)
                clear hb X0_3 X1_3 X2_3
                try simp only [Act.put, List.setIfInBounds_toArray, List.set_cons_zero, List.set_cons_succ]
                refine wpAnyH_ready (rs := [11]) (by kernel_rfl) (by simp) ?_
                refine AllReadyH.cons rfl (fun K hK => ?_) AllReadyH.nil
                · go_simp
                  obtain ⟨y5, hw⟩ : ∃ y5, y5 = y4.alloc (.cells #[.int .i64 0, .slice none 0 0] 28) := ⟨_, rfl⟩
                  have hb : Below y4.heap.size y4 y5 := by rw [hw]; exact belAlloc1 _ _
                  have Sb : Hid (y4.heap.size + 1 = y5.heap.size) := Lib.hid (by rw [hw]; simp)
                  have Rs_5 : Hid (ResB y5 y4.heap.size) := Lib.hid (by rw [hw]; exact resBox_new y4 _)
                  rw [← hw]
                  refine hK.out _ _ ⟨(Hs.out.1.box.next (belNext HB4.out hb)).1, (Hs.out.2.1.box.next (belNext HB4.out hb)).1, (Hs.out.2.2.1.next (belNext HB4.out hb)).1⟩ (fun hHeld => ?_)
                  clear hK K hw
                  have HB5 := Lib.hid (belNext HB4.out hb)
                  have Sz5 : Hid (y4.heap.size ≤ y5.heap.size) := Lib.hid hb.size
                  have X0_5 := Lib.hid (X0_4.out.next hb)
                  have X1_5 := Lib.hid (X1_4.out.next hb)
                  have X2_5 := Lib.hid (X2_4.out.next hb)
                  have X3_5 := Lib.hid (X3_4.out.next hb)
                  clear hb X0_4 X1_4 X2_4 X3_4
                  try simp only [Act.put, List.setIfInBounds_toArray, List.set_cons_zero, List.set_cons_succ]
                  refine wpAnyH_ready (rs := [12]) (by kernel_rfl) (by simp) ?_
                  refine AllReadyH.cons rfl (fun K hK => ?_) AllReadyH.nil
                  · obtain ⟨⟨r1, r2, r3, r4⟩, r5⟩ := Rs_5.out
                    go_simp
                    refine hK.out _ (st y5 (y4.heap.size) Td Ad nd cd) ⟨((Hs.out.1.box.next HB5.out).st_ (by have z0 := Hs.out.2.2.2.2.2.2.2.2.2; have zb := Hs.out.2.2.1.2; have zc := Sb.out; have z1 := Sz1.out; have z2 := Sz2.out; have z3 := Sz3.out; have z4 := Sz4.out; have z5 := Sz5.out; omega)).1, ((Hs.out.2.1.box.next HB5.out).st_ (by have z0 := Hs.out.2.2.2.2.2.2.2.2.2; have zb := Hs.out.2.2.1.2; have zc := Sb.out; have z1 := Sz1.out; have z2 := Sz2.out; have z3 := Sz3.out; have z4 := Sz4.out; have z5 := Sz5.out; omega)).1, ((Hs.out.2.2.1.next HB5.out).st_ (by have z0 := Hs.out.2.2.2.2.2.2.2.2.2; have zb := Hs.out.2.2.1.2; have zc := Sb.out; have z1 := Sz1.out; have z2 := Sz2.out; have z3 := Sz3.out; have z4 := Sz4.out; have z5 := Sz5.out; omega)).1⟩ (fun hHeld => ?_)
                    clear hK K hHeld
                    try simp only [Act.put, List.setIfInBounds_toArray, List.set_cons_zero, List.set_cons_succ]
                    refine wpAnyH_done (by kernel_rfl) ?_ _
                    go_wp2_with fail
                    go_meet
                    exact ⟨y4.heap.size, Td, Ad, nd, cd, rfl, Box.made ⟨r1, r2⟩ r5, (X3_5.out.st_ (by have z0 := Hs.out.2.2.2.2.2.2.2.2.2; have zb := Hs.out.2.2.1.2; have zc := Sb.out; have z1 := Sz1.out; have z2 := Sz2.out; have z3 := Sz3.out; have z4 := Sz4.out; have z5 := Sz5.out; omega)).wide (by have z0 := Hs.out.2.2.2.2.2.2.2.2.2; have zb := Hs.out.2.2.1.2; have zc := Sb.out; have z1 := Sz1.out; have z2 := Sz2.out; have z3 := Sz3.out; have z4 := Sz4.out; have z5 := Sz5.out; omega) (by rw [st_size]; exact (by have z0 := Hs.out.2.2.2.2.2.2.2.2.2; have zb := Hs.out.2.2.1.2; have zc := Sb.out; have z1 := Sz1.out; have z2 := Sz2.out; have z3 := Sz3.out; have z4 := Sz4.out; have z5 := Sz5.out; omega)) (Nat.le_refl _), (by have z0 := Hs.out.2.2.2.2.2.2.2.2.2; have zb := Hs.out.2.2.1.2; have zc := Sb.out; have z1 := Sz1.out; have z2 := Sz2.out; have z3 := Sz3.out; have z4 := Sz4.out; have z5 := Sz5.out; omega), belSt HB5.out (by have z0 := Hs.out.2.2.2.2.2.2.2.2.2; have zb := Hs.out.2.2.1.2; have zc := Sb.out; have z1 := Sz1.out; have z2 := Sz2.out; have z3 := Sz3.out; have z4 := Sz4.out; have z5 := Sz5.out; omega)⟩
              · go_simp
                obtain ⟨y4, hw⟩ : ∃ y4, y4 = y3.alloc (.cells #[.int .i64 0, .slice none 0 0] 28) := ⟨_, rfl⟩
                have hb : Below y3.heap.size y3 y4 := by rw [hw]; exact belAlloc1 _ _
                have Sb : Hid (y3.heap.size + 1 = y4.heap.size) := Lib.hid (by rw [hw]; simp)
                have Rs_4 : Hid (ResB y4 y3.heap.size) := Lib.hid (by rw [hw]; exact resBox_new y3 _)
                rw [← hw]
                refine hK.out _ _ ⟨(Hs.out.1.box.next (belNext HB3.out hb)).1, (Hs.out.2.1.box.next (belNext HB3.out hb)).1, (Hs.out.2.2.1.next (belNext HB3.out hb)).1⟩ (fun hHeld => ?_)
                clear hK K hw
                have HB4 := Lib.hid (belNext HB3.out hb)
                have Sz4 : Hid (y3.heap.size ≤ y4.heap.size) := Lib.hid hb.size
                have X0_4 := Lib.hid (X0_3.out.next hb)
                have X1_4 := Lib.hid (X1_3.out.next hb)
                have X2_4 := Lib.hid (X2_3.out.next hb)
                clear hb X0_3 X1_3 X2_3
                try simp only [Act.put, List.setIfInBounds_toArray, List.set_cons_zero, List.set_cons_succ]
                refine wpAnyH_ready (rs := [10]) (by kernel_rfl) (by simp) ?_
                refine AllReadyH.cons rfl (fun K hK => ?_) AllReadyH.nil
                · go_simp
                  refine (specAddZ_any ((R * R + 2 ^ (kn + 1) * R : Nat) : Int) ((2 ^ (2 * kn) : Nat) : Int) Tb Tc Ab Ac nb nc cb cc y4 X1_4.out.zv X2_4.out.zv (by have := N1.out; omega) (by have := N2.out; omega)).mono ?_
                  rintro e y5 ⟨Td, Ad, nd, cd, rfl, hzo0, hb0⟩
                  have hzo := hzo0.cast_ (z' := (((R + 2 ^ kn) * (R + 2 ^ kn) : Nat) : Int)) (by rw [← Int.natCast_add, root_next])
                  have hb : Below y4.heap.size y4 y5 := hb0
                  refine hK.out _ _ ⟨(Hs.out.1.box.next (belNext HB4.out hb)).1, (Hs.out.2.1.box.next (belNext HB4.out hb)).1, (Hs.out.2.2.1.next (belNext HB4.out hb)).1⟩ (fun hHeld => ?_)
                  have X3_5 := Lib.hid hzo
                  have N3 : Hid ((nd : Int) ≤ 1001) := Lib.hid (by rw [← hzo.lenN]; exact Hlen.out _ (Nat.le_refl _))
                  clear hK K hb0 hzo hzo0
                  have HB5 := Lib.hid (belNext HB4.out hb)
                  have Sz5 : Hid (y4.heap.size ≤ y5.heap.size) := Lib.hid hb.size
                  have X0_5 := Lib.hid (X0_4.out.next hb)
                  have X1_5 := Lib.hid (X1_4.out.next hb)
                  have X2_5 := Lib.hid (X2_4.out.next hb)
                  have Rs_5 := Lib.hid (Rs_4.out.next hb)
                  clear hb X0_4 X1_4 X2_4
                  try simp only [Act.put, List.setIfInBounds_toArray, List.set_cons_zero, List.set_cons_succ]
                  refine wpAnyH_ready (rs := [12]) (by kernel_rfl) (by simp) ?_
                  refine AllReadyH.cons rfl (fun K hK => ?_) AllReadyH.nil
                  · obtain ⟨⟨r1, r2, r3, r4⟩, r5⟩ := Rs_5.out
                    go_simp
                    refine hK.out _ (st y5 (y3.heap.size) Td Ad nd cd) ⟨((Hs.out.1.box.next HB5.out).st_ (by have z0 := Hs.out.2.2.2.2.2.2.2.2.2; have zb := Hs.out.2.2.1.2; have zc := Sb.out; have z1 := Sz1.out; have z2 := Sz2.out; have z3 := Sz3.out; have z4 := Sz4.out; have z5 := Sz5.out; omega)).1, ((Hs.out.2.1.box.next HB5.out).st_ (by have z0 := Hs.out.2.2.2.2.2.2.2.2.2; have zb := Hs.out.2.2.1.2; have zc := Sb.out; have z1 := Sz1.out; have z2 := Sz2.out; have z3 := Sz3.out; have z4 := Sz4.out; have z5 := Sz5.out; omega)).1, ((Hs.out.2.2.1.next HB5.out).st_ (by have z0 := Hs.out.2.2.2.2.2.2.2.2.2; have zb := Hs.out.2.2.1.2; have zc := Sb.out; have z1 := Sz1.out; have z2 := Sz2.out; have z3 := Sz3.out; have z4 := Sz4.out; have z5 := Sz5.out; omega)).1⟩ (fun hHeld => ?_)
                    clear hK K hHeld
                    try simp only [Act.put, List.setIfInBounds_toArray, List.set_cons_zero, List.set_cons_succ]
                    refine wpAnyH_done (by kernel_rfl) ?_ _
                    go_wp2_with fail
                    go_meet
                    exact ⟨y3.heap.size, Td, Ad, nd, cd, rfl, Box.made ⟨r1, r2⟩ r5, (X3_5.out.st_ (by have z0 := Hs.out.2.2.2.2.2.2.2.2.2; have zb := Hs.out.2.2.1.2; have zc := Sb.out; have z1 := Sz1.out; have z2 := Sz2.out; have z3 := Sz3.out; have z4 := Sz4.out; have z5 := Sz5.out; omega)).wide (by have z0 := Hs.out.2.2.2.2.2.2.2.2.2; have zb := Hs.out.2.2.1.2; have zc := Sb.out; have z1 := Sz1.out; have z2 := Sz2.out; have z3 := Sz3.out; have z4 := Sz4.out; have z5 := Sz5.out; omega) (by rw [st_size]; exact (by have z0 := Hs.out.2.2.2.2.2.2.2.2.2; have zb := Hs.out.2.2.1.2; have zc := Sb.out; have z1 := Sz1.out; have z2 := Sz2.out; have z3 := Sz3.out; have z4 := Sz4.out; have z5 := Sz5.out; omega)) (Nat.le_refl _), (by have z0 := Hs.out.2.2.2.2.2.2.2.2.2; have zb := Hs.out.2.2.1.2; have zc := Sb.out; have z1 := Sz1.out; have z2 := Sz2.out; have z3 := Sz3.out; have z4 := Sz4.out; have z5 := Sz5.out; omega), belSt HB5.out (by have z0 := Hs.out.2.2.2.2.2.2.2.2.2; have zb := Hs.out.2.2.1.2; have zc := Sb.out; have z1 := Sz1.out; have z2 := Sz2.out; have z3 := Sz3.out; have z4 := Sz4.out; have z5 := Sz5.out; omega)⟩
            · go_simp
              obtain ⟨y3, hw⟩ : ∃ y3, y3 = y2.alloc (.cells #[.int .i64 0, .slice none 0 0] 28) := ⟨_, rfl⟩
              have hb : Below y2.heap.size y2 y3 := by rw [hw]; exact belAlloc1 _ _
              have Sb : Hid (y2.heap.size + 1 = y3.heap.size) := Lib.hid (by rw [hw]; simp)
              have Rs_3 : Hid (ResB y3 y2.heap.size) := Lib.hid (by rw [hw]; exact resBox_new y2 _)
              rw [← hw]
              refine hK.out _ _ ⟨(Hs.out.1.box.next (belNext HB2.out hb)).1, (Hs.out.2.1.box.next (belNext HB2.out hb)).1, (Hs.out.2.2.1.next (belNext HB2.out hb)).1⟩ (fun hHeld => ?_)
              clear hK K hw
              have HB3 := Lib.hid (belNext HB2.out hb)
              have Sz3 : Hid (y2.heap.size ≤ y3.heap.size) := Lib.hid hb.size
              have X0_3 := Lib.hid (X0_2.out.next hb)
              have X1_3 := Lib.hid (X1_2.out.next hb)
              clear hb X0_2 X1_2
              try simp only [Act.put, List.setIfInBounds_toArray, List.set_cons_zero, List.set_cons_succ]
              refine wpAnyH_ready (rs := [9]) (by kernel_rfl) (by simp) ?_
              refine AllReadyH.cons rfl (fun K hK => ?_) AllReadyH.nil
              · go_simp
                refine (specLeftJ_any 1 S1 (2 * (kn : Int)) A1 n1 c1 y3 (Hs.out.2.2.2.2.2.1.zv.next HB3.out) (by have := Hn1.out; omega) (by omega) (by omega)).mono ?_
                rintro e y4 ⟨Tc, Ac, nc, cc, rfl, hzo0, hb0⟩
                have hzo := hzo0.cast_ (z' := ((2 ^ (2 * kn) : Nat) : Int)) (left_cast2 kn)
                have hb : Below y3.heap.size y3 y4 := hb0
                refine hK.out _ _ ⟨(Hs.out.1.box.next (belNext HB3.out hb)).1, (Hs.out.2.1.box.next (belNext HB3.out hb)).1, (Hs.out.2.2.1.next (belNext HB3.out hb)).1⟩ (fun hHeld => ?_)
                have X2_4 := Lib.hid hzo
                have N2 : Hid ((nc : Int) ≤ 1001) := Lib.hid (by rw [← hzo.lenN]; exact Hlen.out _ ((mul_le_next R kn).2.2.1))
                clear hK K hb0 hzo hzo0
                have HB4 := Lib.hid (belNext HB3.out hb)
                have Sz4 : Hid (y3.heap.size ≤ y4.heap.size) := Lib.hid hb.size
                have X0_4 := Lib.hid (X0_3.out.next hb)
                have X1_4 := Lib.hid (X1_3.out.next hb)
                have Rs_4 := Lib.hid (Rs_3.out.next hb)
                clear hb X0_3 X1_3
                try simp only [Act.put, List.setIfInBounds_toArray, List.set_cons_zero, List.set_cons_succ]
                refine wpAnyH_ready (rs := [10]) (by kernel_rfl) (by simp) ?_
                refine AllReadyH.cons rfl (fun K hK => ?_) AllReadyH.nil
                · go_simp
                  refine (specAddZ_any ((R * R + 2 ^ (kn + 1) * R : Nat) : Int) ((2 ^ (2 * kn) : Nat) : Int) Tb Tc Ab Ac nb nc cb cc y4 X1_4.out.zv X2_4.out.zv (by have := N1.out; omega) (by have := N2.out; omega)).mono ?_
                  rintro e y5 ⟨Td, Ad, nd, cd, rfl, hzo0, hb0⟩
                  have hzo := hzo0.cast_ (z' := (((R + 2 ^ kn) * (R + 2 ^ kn) : Nat) : Int)) (by rw [← Int.natCast_add, root_next])
                  have hb : Below y4.heap.size y4 y5 := hb0
                  refine hK.out _ _ ⟨(Hs.out.1.box.next (belNext HB4.out hb)).1, (Hs.out.2.1.box.next (belNext HB4.out hb)).1, (Hs.out.2.2.1.next (belNext HB4.out hb)).1⟩ (fun hHeld => ?_)
                  have X3_5 := Lib.hid hzo
                  have N3 : Hid ((nd : Int) ≤ 1001) := Lib.hid (by rw [← hzo.lenN]; exact Hlen.out _ (Nat.le_refl _))
                  clear hK K hb0 hzo hzo0
                  have HB5 := Lib.hid (belNext HB4.out hb)
                  have Sz5 : Hid (y4.heap.size ≤ y5.heap.size) := Lib.hid hb.size
                  have X0_5 := Lib.hid (X0_4.out.next hb)
                  have X1_5 := Lib.hid (X1_4.out.next hb)
                  have X2_5 := Lib.hid (X2_4.out.next hb)
                  have Rs_5 := Lib.hid (Rs_4.out.next hb)
                  clear hb X0_4 X1_4 X2_4
                  try simp only [Act.put, List.setIfInBounds_toArray, List.set_cons_zero, List.set_cons_succ]
                  refine wpAnyH_ready (rs := [12]) (by kernel_rfl) (by simp) ?_
                  refine AllReadyH.cons rfl (fun K hK => ?_) AllReadyH.nil
                  · obtain ⟨⟨r1, r2, r3, r4⟩, r5⟩ := Rs_5.out
                    go_simp
                    refine hK.out _ (st y5 (y2.heap.size) Td Ad nd cd) ⟨((Hs.out.1.box.next HB5.out).st_ (by have z0 := Hs.out.2.2.2.2.2.2.2.2.2; have zb := Hs.out.2.2.1.2; have zc := Sb.out; have z1 := Sz1.out; have z2 := Sz2.out; have z3 := Sz3.out; have z4 := Sz4.out; have z5 := Sz5.out; omega)).1, ((Hs.out.2.1.box.next HB5.out).st_ (by have z0 := Hs.out.2.2.2.2.2.2.2.2.2; have zb := Hs.out.2.2.1.2; have zc := Sb.out; have z1 := Sz1.out; have z2 := Sz2.out; have z3 := Sz3.out; have z4 := Sz4.out; have z5 := Sz5.out; omega)).1, ((Hs.out.2.2.1.next HB5.out).st_ (by have z0 := Hs.out.2.2.2.2.2.2.2.2.2; have zb := Hs.out.2.2.1.2; have zc := Sb.out; have z1 := Sz1.out; have z2 := Sz2.out; have z3 := Sz3.out; have z4 := Sz4.out; have z5 := Sz5.out; omega)).1⟩ (fun hHeld => ?_)
                    clear hK K hHeld
                    try simp only [Act.put, List.setIfInBounds_toArray, List.set_cons_zero, List.set_cons_succ]
                    refine wpAnyH_done (by kernel_rfl) ?_ _
                    go_wp2_with fail
                    go_meet
                    exact ⟨y2.heap.size, Td, Ad, nd, cd, rfl, Box.made ⟨r1, r2⟩ r5, (X3_5.out.st_ (by have z0 := Hs.out.2.2.2.2.2.2.2.2.2; have zb := Hs.out.2.2.1.2; have zc := Sb.out; have z1 := Sz1.out; have z2 := Sz2.out; have z3 := Sz3.out; have z4 := Sz4.out; have z5 := Sz5.out; omega)).wide (by have z0 := Hs.out.2.2.2.2.2.2.2.2.2; have zb := Hs.out.2.2.1.2; have zc := Sb.out; have z1 := Sz1.out; have z2 := Sz2.out; have z3 := Sz3.out; have z4 := Sz4.out; have z5 := Sz5.out; omega) (by rw [st_size]; exact (by have z0 := Hs.out.2.2.2.2.2.2.2.2.2; have zb := Hs.out.2.2.1.2; have zc := Sb.out; have z1 := Sz1.out; have z2 := Sz2.out; have z3 := Sz3.out; have z4 := Sz4.out; have z5 := Sz5.out; omega)) (Nat.le_refl _), (by have z0 := Hs.out.2.2.2.2.2.2.2.2.2; have zb := Hs.out.2.2.1.2; have zc := Sb.out; have z1 := Sz1.out; have z2 := Sz2.out; have z3 := Sz3.out; have z4 := Sz4.out; have z5 := Sz5.out; omega), belSt HB5.out (by have z0 := Hs.out.2.2.2.2.2.2.2.2.2; have zb := Hs.out.2.2.1.2; have zc := Sb.out; have z1 := Sz1.out; have z2 := Sz2.out; have z3 := Sz3.out; have z4 := Sz4.out; have z5 := Sz5.out; omega)⟩
          · go_simp
            obtain ⟨y2, hw⟩ : ∃ y2, y2 = y1.alloc (.cells #[.int .i64 0, .slice none 0 0] 28) := ⟨_, rfl⟩
            have hb : Below y1.heap.size y1 y2 := by rw [hw]; exact belAlloc1 _ _
            have Sb : Hid (y1.heap.size + 1 = y2.heap.size) := Lib.hid (by rw [hw]; simp)
            have Rs_2 : Hid (ResB y2 y1.heap.size) := Lib.hid (by rw [hw]; exact resBox_new y1 _)
            rw [← hw]
            refine hK.out _ _ ⟨(Hs.out.1.box.next (belNext HB1.out hb)).1, (Hs.out.2.1.box.next (belNext HB1.out hb)).1, (Hs.out.2.2.1.next (belNext HB1.out hb)).1⟩ (fun hHeld => ?_)
            clear hK K hw
            have HB2 := Lib.hid (belNext HB1.out hb)
            have Sz2 : Hid (y1.heap.size ≤ y2.heap.size) := Lib.hid hb.size
            have X0_2 := Lib.hid (X0_1.out.next hb)
            clear hb X0_1
            try simp only [Act.put, List.setIfInBounds_toArray, List.set_cons_zero, List.set_cons_succ]
            refine wpAnyH_ready (rs := [5]) (by kernel_rfl) (by simp) ?_
            refine AllReadyH.cons rfl (fun K hK => ?_) AllReadyH.nil
            · go_simp
              refine (specAddZ_any ((R * R : Nat) : Int) ((2 ^ (kn + 1) * R : Nat) : Int) Sq Ta Aq Aa nq na cq ca y2 (Hs.out.2.2.2.2.1.zv.next HB2.out) X0_2.out.zv (by have := Hnq.out; omega) (by have := N0.out; omega)).mono ?_
              rintro e y3 ⟨Tb, Ab, nb, cb, rfl, hzo0, hb0⟩
              have hzo := hzo0.cast_ (z' := ((R * R + 2 ^ (kn + 1) * R : Nat) : Int)) ((Int.natCast_add _ _).symm)
              have hb : Below y2.heap.size y2 y3 := hb0
              refine hK.out _ _ ⟨(Hs.out.1.box.next (belNext HB2.out hb)).1, (Hs.out.2.1.box.next (belNext HB2.out hb)).1, (Hs.out.2.2.1.next (belNext HB2.out hb)).1⟩ (fun hHeld => ?_)
              have X1_3 := Lib.hid hzo
              have N1 : Hid ((nb : Int) ≤ 1001) := Lib.hid (by rw [← hzo.lenN]; exact Hlen.out _ ((mul_le_next R kn).2.1))
              clear hK K hb0 hzo hzo0
              have HB3 := Lib.hid (belNext HB2.out hb)
              have Sz3 : Hid (y2.heap.size ≤ y3.heap.size) := Lib.hid hb.size
              have X0_3 := Lib.hid (X0_2.out.next hb)
              have Rs_3 := Lib.hid (Rs_2.out.next hb)
              clear hb X0_2
              try simp only [Act.put, List.setIfInBounds_toArray, List.set_cons_zero, List.set_cons_succ]
              refine wpAnyH_ready (rs := [9]) (by kernel_rfl) (by simp) ?_
              refine AllReadyH.cons rfl (fun K hK => ?_) AllReadyH.nil
              · go_simp
                refine (specLeftJ_any 1 S1 (2 * (kn : Int)) A1 n1 c1 y3 (Hs.out.2.2.2.2.2.1.zv.next HB3.out) (by have := Hn1.out; omega) (by omega) (by omega)).mono ?_
                rintro e y4 ⟨Tc, Ac, nc, cc, rfl, hzo0, hb0⟩
                have hzo := hzo0.cast_ (z' := ((2 ^ (2 * kn) : Nat) : Int)) (left_cast2 kn)
                have hb : Below y3.heap.size y3 y4 := hb0
                refine hK.out _ _ ⟨(Hs.out.1.box.next (belNext HB3.out hb)).1, (Hs.out.2.1.box.next (belNext HB3.out hb)).1, (Hs.out.2.2.1.next (belNext HB3.out hb)).1⟩ (fun hHeld => ?_)
                have X2_4 := Lib.hid hzo
                have N2 : Hid ((nc : Int) ≤ 1001) := Lib.hid (by rw [← hzo.lenN]; exact Hlen.out _ ((mul_le_next R kn).2.2.1))
                clear hK K hb0 hzo hzo0
                have HB4 := Lib.hid (belNext HB3.out hb)
                have Sz4 : Hid (y3.heap.size ≤ y4.heap.size) := Lib.hid hb.size
                have X0_4 := Lib.hid (X0_3.out.next hb)
                have X1_4 := Lib.hid (X1_3.out.next hb)
                have Rs_4 := Lib.hid (Rs_3.out.next hb)
                clear hb X0_3 X1_3
                try simp only [Act.put, List.setIfInBounds_toArray, List.set_cons_zero, List.set_cons_succ]
                refine wpAnyH_ready (rs := [10]) (by kernel_rfl) (by simp) ?_
                refine AllReadyH.cons rfl (fun K hK => ?_) AllReadyH.nil
                · go_simp
                  refine (specAddZ_any ((R * R + 2 ^ (kn + 1) * R : Nat) : Int) ((2 ^ (2 * kn) : Nat) : Int) Tb Tc Ab Ac nb nc cb cc y4 X1_4.out.zv X2_4.out.zv (by have := N1.out; omega) (by have := N2.out; omega)).mono ?_
                  rintro e y5 ⟨Td, Ad, nd, cd, rfl, hzo0, hb0⟩
                  have hzo := hzo0.cast_ (z' := (((R + 2 ^ kn) * (R + 2 ^ kn) : Nat) : Int)) (by rw [← Int.natCast_add, root_next])
                  have hb : Below y4.heap.size y4 y5 := hb0
                  refine hK.out _ _ ⟨(Hs.out.1.box.next (belNext HB4.out hb)).1, (Hs.out.2.1.box.next (belNext HB4.out hb)).1, (Hs.out.2.2.1.next (belNext HB4.out hb)).1⟩ (fun hHeld => ?_)
                  have X3_5 := Lib.hid hzo
                  have N3 : Hid ((nd : Int) ≤ 1001) := Lib.hid (by rw [← hzo.lenN]; exact Hlen.out _ (Nat.le_refl _))
                  clear hK K hb0 hzo hzo0
                  have HB5 := Lib.hid (belNext HB4.out hb)
                  have Sz5 : Hid (y4.heap.size ≤ y5.heap.size) := Lib.hid hb.size
                  have X0_5 := Lib.hid (X0_4.out.next hb)
                  have X1_5 := Lib.hid (X1_4.out.next hb)
                  have X2_5 := Lib.hid (X2_4.out.next hb)
                  have Rs_5 := Lib.hid (Rs_4.out.next hb)
                  clear hb X0_4 X1_4 X2_4
                  try simp only [Act.put, List.setIfInBounds_toArray, List.set_cons_zero, List.set_cons_succ]
                  refine wpAnyH_ready (rs := [12]) (by kernel_rfl) (by simp) ?_
                  refine AllReadyH.cons rfl (fun K hK => ?_) AllReadyH.nil
                  · obtain ⟨⟨r1, r2, r3, r4⟩, r5⟩ := Rs_5.out
                    go_simp
                    refine hK.out _ (st y5 (y1.heap.size) Td Ad nd cd) ⟨((Hs.out.1.box.next HB5.out).st_ (by have z0 := Hs.out.2.2.2.2.2.2.2.2.2; have zb := Hs.out.2.2.1.2; have zc := Sb.out; have z1 := Sz1.out; have z2 := Sz2.out; have z3 := Sz3.out; have z4 := Sz4.out; have z5 := Sz5.out; omega)).1, ((Hs.out.2.1.box.next HB5.out).st_ (by have z0 := Hs.out.2.2.2.2.2.2.2.2.2; have zb := Hs.out.2.2.1.2; have zc := Sb.out; have z1 := Sz1.out; have z2 := Sz2.out; have z3 := Sz3.out; have z4 := Sz4.out; have z5 := Sz5.out; omega)).1, ((Hs.out.2.2.1.next HB5.out).st_ (by have z0 := Hs.out.2.2.2.2.2.2.2.2.2; have zb := Hs.out.2.2.1.2; have zc := Sb.out; have z1 := Sz1.out; have z2 := Sz2.out; have z3 := Sz3.out; have z4 := Sz4.out; have z5 := Sz5.out; omega)).1⟩ (fun hHeld => ?_)
                    clear hK K hHeld
                    try simp only [Act.put, List.setIfInBounds_toArray, List.set_cons_zero, List.set_cons_succ]
                    refine wpAnyH_done (by kernel_rfl) ?_ _
                    go_wp2_with fail
                    go_meet
                    exact ⟨y1.heap.size, Td, Ad, nd, cd, rfl, Box.made ⟨r1, r2⟩ r5, (X3_5.out.st_ (by have z0 := Hs.out.2.2.2.2.2.2.2.2.2; have zb := Hs.out.2.2.1.2; have zc := Sb.out; have z1 := Sz1.out; have z2 := Sz2.out; have z3 := Sz3.out; have z4 := Sz4.out; have z5 := Sz5.out; omega)).wide (by have z0 := Hs.out.2.2.2.2.2.2.2.2.2; have zb := Hs.out.2.2.1.2; have zc := Sb.out; have z1 := Sz1.out; have z2 := Sz2.out; have z3 := Sz3.out; have z4 := Sz4.out; have z5 := Sz5.out; omega) (by rw [st_size]; exact (by have z0 := Hs.out.2.2.2.2.2.2.2.2.2; have zb := Hs.out.2.2.1.2; have zc := Sb.out; have z1 := Sz1.out; have z2 := Sz2.out; have z3 := Sz3.out; have z4 := Sz4.out; have z5 := Sz5.out; omega)) (Nat.le_refl _), (by have z0 := Hs.out.2.2.2.2.2.2.2.2.2; have zb := Hs.out.2.2.1.2; have zc := Sb.out; have z1 := Sz1.out; have z2 := Sz2.out; have z3 := Sz3.out; have z4 := Sz4.out; have z5 := Sz5.out; omega), belSt HB5.out (by have z0 := Hs.out.2.2.2.2.2.2.2.2.2; have zb := Hs.out.2.2.1.2; have zc := Sb.out; have z1 := Sz1.out; have z2 := Sz2.out; have z3 := Sz3.out; have z4 := Sz4.out; have z5 := Sz5.out; omega)⟩
        · go_simp
          obtain ⟨y1, hw⟩ : ∃ y1, y1 = (wr.alloc (.cells #[.int .i64 0, .slice none 0 0] 28)).drew := ⟨_, rfl⟩
          have hb : Below wr.heap.size wr y1 := by rw [hw]; exact (belAlloc1 _ _).drew
          have Sb : Hid (wr.heap.size + 1 = y1.heap.size) := Lib.hid (by rw [hw]; simp)
          have Rs_1 : Hid (ResB y1 wr.heap.size) := Lib.hid (by rw [hw]; exact resBox_new wr _)
          rw [← hw]
          refine hK.out _ _ ⟨(Hs.out.1.box.next (belNext HB0.out hb)).1, (Hs.out.2.1.box.next (belNext HB0.out hb)).1, (Hs.out.2.2.1.next (belNext HB0.out hb)).1⟩ (fun hHeld => ?_)
          clear hK K hw
          have HB1 := Lib.hid (belNext HB0.out hb)
          have Sz1 : Hid (wr.heap.size ≤ y1.heap.size) := Lib.hid hb.size
          clear hb
          try simp only [Act.put, List.setIfInBounds_toArray, List.set_cons_zero, List.set_cons_succ]
          refine wpAnyH_ready (rs := [4]) (by kernel_rfl) (by simp) ?_
          refine AllReadyH.cons rfl (fun K hK => ?_) AllReadyH.nil
          · go_simp
            refine (specLeftJ_any (R : Int) So ((kn : Int) + 1) Ao no co y1 (Hs.out.2.2.2.1.zv.next HB1.out) (by have := Hno.out; omega) (by omega) (by omega)).mono ?_
            rintro e y2 ⟨Ta, Aa, na, ca, rfl, hzo0, hb0⟩
            have hzo := hzo0.cast_ (z' := ((2 ^ (kn + 1) * R : Nat) : Int)) (left_cast1 R kn)
            have hb : Below y1.heap.size y1 y2 := hb0
            refine hK.out _ _ ⟨(Hs.out.1.box.next (belNext HB1.out hb)).1, (Hs.out.2.1.box.next (belNext HB1.out hb)).1, (Hs.out.2.2.1.next (belNext HB1.out hb)).1⟩ (fun hHeld => ?_)
            have X0_2 := Lib.hid hzo
            have N0 : Hid ((na : Int) ≤ 1001) := Lib.hid (by rw [← hzo.lenN]; exact Hlen.out _ ((mul_le_next R kn).1))
            clear hK K hb0 hzo hzo0
            have HB2 := Lib.hid (belNext HB1.out hb)
            have Sz2 : Hid (y1.heap.size ≤ y2.heap.size) := Lib.hid hb.size
            have Rs_2 := Lib.hid (Rs_1.out.next hb)
            clear hb
            try simp only [Act.put, List.setIfInBounds_toArray, List.set_cons_zero, List.set_cons_succ]
            refine wpAnyH_ready (rs := [5]) (by kernel_rfl) (by simp) ?_
            refine AllReadyH.cons rfl (fun K hK => ?_) AllReadyH.nil
            · go_simp
              refine (specAddZ_any ((R * R : Nat) : Int) ((2 ^ (kn + 1) * R : Nat) : Int) Sq Ta Aq Aa nq na cq ca y2 (Hs.out.2.2.2.2.1.zv.next HB2.out) X0_2.out.zv (by have := Hnq.out; omega) (by have := N0.out; omega)).mono ?_
              rintro e y3 ⟨Tb, Ab, nb, cb, rfl, hzo0, hb0⟩
              have hzo := hzo0.cast_ (z' := ((R * R + 2 ^ (kn + 1) * R : Nat) : Int)) ((Int.natCast_add _ _).symm)
              have hb : Below y2.heap.size y2 y3 := hb0
              refine hK.out _ _ ⟨(Hs.out.1.box.next (belNext HB2.out hb)).1, (Hs.out.2.1.box.next (belNext HB2.out hb)).1, (Hs.out.2.2.1.next (belNext HB2.out hb)).1⟩ (fun hHeld => ?_)
              have X1_3 := Lib.hid hzo
              have N1 : Hid ((nb : Int) ≤ 1001) := Lib.hid (by rw [← hzo.lenN]; exact Hlen.out _ ((mul_le_next R kn).2.1))
              clear hK K hb0 hzo hzo0
              have HB3 := Lib.hid (belNext HB2.out hb)
              have Sz3 : Hid (y2.heap.size ≤ y3.heap.size) := Lib.hid hb.size
              have X0_3 := Lib.hid (X0_2.out.next hb)
              have Rs_3 := Lib.hid (Rs_2.out.next hb)
              clear hb X0_2
              try simp only [Act.put, List.setIfInBounds_toArray, List.set_cons_zero, List.set_cons_succ]
              refine wpAnyH_ready (rs := [9]) (by kernel_rfl) (by simp) ?_
              refine AllReadyH.cons rfl (fun K hK => ?_) AllReadyH.nil
              · go_simp
                refine (specLeftJ_any 1 S1 (2 * (kn : Int)) A1 n1 c1 y3 (Hs.out.2.2.2.2.2.1.zv.next HB3.out) (by have := Hn1.out; omega) (by omega) (by omega)).mono ?_
                rintro e y4 ⟨Tc, Ac, nc, cc, rfl, hzo0, hb0⟩
                have hzo := hzo0.cast_ (z' := ((2 ^ (2 * kn) : Nat) : Int)) (left_cast2 kn)
                have hb : Below y3.heap.size y3 y4 := hb0
                refine hK.out _ _ ⟨(Hs.out.1.box.next (belNext HB3.out hb)).1, (Hs.out.2.1.box.next (belNext HB3.out hb)).1, (Hs.out.2.2.1.next (belNext HB3.out hb)).1⟩ (fun hHeld => ?_)
                have X2_4 := Lib.hid hzo
                have N2 : Hid ((nc : Int) ≤ 1001) := Lib.hid (by rw [← hzo.lenN]; exact Hlen.out _ ((mul_le_next R kn).2.2.1))
                clear hK K hb0 hzo hzo0
                have HB4 := Lib.hid (belNext HB3.out hb)
                have Sz4 : Hid (y3.heap.size ≤ y4.heap.size) := Lib.hid hb.size
                have X0_4 := Lib.hid (X0_3.out.next hb)
                have X1_4 := Lib.hid (X1_3.out.next hb)
                have Rs_4 := Lib.hid (Rs_3.out.next hb)
                clear hb X0_3 X1_3
                try simp only [Act.put, List.setIfInBounds_toArray, List.set_cons_zero, List.set_cons_succ]
                refine wpAnyH_ready (rs := [10]) (by kernel_rfl) (by simp) ?_
                refine AllReadyH.cons rfl (fun K hK => ?_) AllReadyH.nil
                · go_simp
                  refine (specAddZ_any ((R * R + 2 ^ (kn + 1) * R : Nat) : Int) ((2 ^ (2 * kn) : Nat) : Int) Tb Tc Ab Ac nb nc cb cc y4 X1_4.out.zv X2_4.out.zv (by have := N1.out; omega) (by have := N2.out; omega)).mono ?_
                  rintro e y5 ⟨Td, Ad, nd, cd, rfl, hzo0, hb0⟩
                  have hzo := hzo0.cast_ (z' := (((R + 2 ^ kn) * (R + 2 ^ kn) : Nat) : Int)) (by rw [← Int.natCast_add, root_next])
                  have hb : Below y4.heap.size y4 y5 := hb0
                  refine hK.out _ _ ⟨(Hs.out.1.box.next (belNext HB4.out hb)).1, (Hs.out.2.1.box.next (belNext HB4.out hb)).1, (Hs.out.2.2.1.next (belNext HB4.out hb)).1⟩ (fun hHeld => ?_)
                  have X3_5 := Lib.hid hzo
                  have N3 : Hid ((nd : Int) ≤ 1001) := Lib.hid (by rw [← hzo.lenN]; exact Hlen.out _ (Nat.le_refl _))
                  clear hK K hb0 hzo hzo0
                  have HB5 := Lib.hid (belNext HB4.out hb)
                  have Sz5 : Hid (y4.heap.size ≤ y5.heap.size) := Lib.hid hb.size
                  have X0_5 := Lib.hid (X0_4.out.next hb)
                  have X1_5 := Lib.hid (X1_4.out.next hb)
                  have X2_5 := Lib.hid (X2_4.out.next hb)
                  have Rs_5 := Lib.hid (Rs_4.out.next hb)
                  clear hb X0_4 X1_4 X2_4
                  try simp only [Act.put, List.setIfInBounds_toArray, List.set_cons_zero, List.set_cons_succ]
                  refine wpAnyH_ready (rs := [12]) (by kernel_rfl) (by simp) ?_
                  refine AllReadyH.cons rfl (fun K hK => ?_) AllReadyH.nil
                  · obtain ⟨⟨r1, r2, r3, r4⟩, r5⟩ := Rs_5.out
                    go_simp
                    refine hK.out _ (st y5 (wr.heap.size) Td Ad nd cd) ⟨((Hs.out.1.box.next HB5.out).st_ (by have z0 := Hs.out.2.2.2.2.2.2.2.2.2; have zb := Hs.out.2.2.1.2; have zc := Sb.out; have z1 := Sz1.out; have z2 := Sz2.out; have z3 := Sz3.out; have z4 := Sz4.out; have z5 := Sz5.out; omega)).1, ((Hs.out.2.1.box.next HB5.out).st_ (by have z0 := Hs.out.2.2.2.2.2.2.2.2.2; have zb := Hs.out.2.2.1.2; have zc := Sb.out; have z1 := Sz1.out; have z2 := Sz2.out; have z3 := Sz3.out; have z4 := Sz4.out; have z5 := Sz5.out; omega)).1, ((Hs.out.2.2.1.next HB5.out).st_ (by have z0 := Hs.out.2.2.2.2.2.2.2.2.2; have zb := Hs.out.2.2.1.2; have zc := Sb.out; have z1 := Sz1.out; have z2 := Sz2.out; have z3 := Sz3.out; have z4 := Sz4.out; have z5 := Sz5.out; omega)).1⟩ (fun hHeld => ?_)
                    clear hK K hHeld
                    try simp only [Act.put, List.setIfInBounds_toArray, List.set_cons_zero, List.set_cons_succ]
                    refine wpAnyH_done (by kernel_rfl) ?_ _
                    go_wp2_with fail
                    go_meet
                    exact ⟨wr.heap.size, Td, Ad, nd, cd, rfl, Box.made ⟨r1, r2⟩ r5, (X3_5.out.st_ (by have z0 := Hs.out.2.2.2.2.2.2.2.2.2; have zb := Hs.out.2.2.1.2; have zc := Sb.out; have z1 := Sz1.out; have z2 := Sz2.out; have z3 := Sz3.out; have z4 := Sz4.out; have z5 := Sz5.out; omega)).wide (by have z0 := Hs.out.2.2.2.2.2.2.2.2.2; have zb := Hs.out.2.2.1.2; have zc := Sb.out; have z1 := Sz1.out; have z2 := Sz2.out; have z3 := Sz3.out; have z4 := Sz4.out; have z5 := Sz5.out; omega) (by rw [st_size]; exact (by have z0 := Hs.out.2.2.2.2.2.2.2.2.2; have zb := Hs.out.2.2.1.2; have zc := Sb.out; have z1 := Sz1.out; have z2 := Sz2.out; have z3 := Sz3.out; have z4 := Sz4.out; have z5 := Sz5.out; omega)) (Nat.le_refl _), (by have z0 := Hs.out.2.2.2.2.2.2.2.2.2; have zb := Hs.out.2.2.1.2; have zc := Sb.out; have z1 := Sz1.out; have z2 := Sz2.out; have z3 := Sz3.out; have z4 := Sz4.out; have z5 := Sz5.out; omega), belSt HB5.out (by have z0 := Hs.out.2.2.2.2.2.2.2.2.2; have zb := Hs.out.2.2.1.2; have zc := Sb.out; have z1 := Sz1.out; have z2 := Sz2.out; have z3 := Sz3.out; have z4 := Sz4.out; have z5 := Sz5.out; omega)⟩
      case rest =>
        obtain ⟨b7, S8, A8, n8, c8, hu7, hx, hzo, hb7, hbw⟩ := hcut
        subst hu7
        have Hs2 := Lib.hid (Hs.out.next hbw)
        have Bx8 := Lib.hid hx
        have Zn := Lib.hid hzo
        have N8 : Hid ((n8 : Int) ≤ 1001) := Lib.hid (by rw [← hzo.lenN]; exact Hlen.out _ (Nat.le_refl _))
        have Hb7 : Hid (B + 2 < b7) := Lib.hid (by have h := Hs.out.2.2.1.2; omega)
        clear ho0 ho1 ho2 ho3 ho4 hq0 hq1 hq2 hq3 hq4 h10 h11 h12 hr0 hr1 hr2 hr3 hr4 ha0 ha1 ha2 hx hzo hb7 hbw Hs
        obtain ⟨⟨h80, h81⟩, h82⟩ := Bx8.out
        obtain ⟨⟨ha0, ha1⟩, ha2⟩ := Hs2.out.2.2.2.2.2.2.2.1
        go_wp2_with fail
        refine (specCmpZ_any (((R + 2 ^ kn) * (R + 2 ^ kn) : Nat) : Int) (v : Int) S8 S A8 A n8 n c8 c wc Zn.out.zv (Hz.out.next Hs2.out.2.2.2.2.2.2.2.2.1) (by have := N8.out; omega) (by have := Hm.out; omega)).mono ?_
        rintro e w5 ⟨rfl, hb⟩
        have Hs5 := Lib.hid (Hs2.out.next hb)
        have Bx5 := Lib.hid (Bx8.out.next hb)
        have Zn5 := Lib.hid ((Zn.out.next hb).wide (Nat.le_refl _) hb.size (Nat.le_refl _))
        clear hb Hs2 Bx8 Zn h80 h81 h82 ha0 ha1 ha2
        by_cases hle : (R + 2 ^ kn) * (R + 2 ^ kn) ≤ v
        · have hcv : ∃ k6 : Int, cmpI (((R + 2 ^ kn) * (R + 2 ^ kn) : Nat) : Int) (v : Int) = k6 ∧ k6 ≤ 0 := ⟨_, rfl, by unfold cmpI; split <;> (try split) <;> omega⟩
          have Hle := Lib.hid hle
          obtain ⟨k6, hk1, hk2⟩ := hcv
          rw [hk1]
          have hkb2 : decide (k6 ≤ 0) = true := decide_eq_true hk2
          clear hk1 hle
          obtain ⟨⟨ho0, ho1, ho2, ho3⟩, ho4⟩ := Hs5.out.1
          go_wp2_with fail
          have P5 : Hid ((w5.cell? ⟨B + 2, 0, none⟩ = some (.int .i64 S1) ∧ w5.cell? ⟨B + 2, 1, none⟩ = some (.slice A1 n1 c1))) := Lib.hid Hs5.out.2.2.1.1
          refine wp_region_held_drew (S := fun w' => (w'.cell? ⟨B + 2, 0, none⟩ = some (.int .i64 S1) ∧ w'.cell? ⟨B + 2, 1, none⟩ = some (.slice A1 n1 c1))) (by kernel_rfl) P5.out (fun hHeld => ?_)
          refine wpAnyH_take (i := 1) (v := ?_) rfl (by kernel_rfl) (by kernel_rfl) (by kernel_rfl) (fun _ _ _ h => h) (Or.inl ⟨by rfl, ?_⟩) (by assumption) ?_
          rotate_left
          · (intro w hSw; (try dsimp only at hSw); go_simp; (try with_reducible rfl))
          try simp only [Act.put, List.setIfInBounds_toArray, List.set_cons_zero, List.set_cons_succ]
          refine wpAnyH_take (i := 2) (v := ?_) rfl (by kernel_rfl) (by kernel_rfl) (by kernel_rfl) (fun _ _ _ h => h) (Or.inl ⟨by rfl, ?_⟩) (by assumption) ?_
          rotate_left
          · (intro w hSw; (try dsimp only at hSw); go_simp; (try with_reducible rfl))
          try simp only [Act.put, List.setIfInBounds_toArray, List.set_cons_zero, List.set_cons_succ]
          refine wpAnyH_ready (rs := [0, 3]) (by kernel_rfl) (by simp) ?_
          refine AllReadyH.cons rfl (fun K hK => ?_) (AllReadyH.cons rfl (fun K hK => ?_) AllReadyH.nil)
          · go_simp
            refine hK.out _ _ hHeld (fun hHeld => ?_)
            clear hK K
            try simp only [Act.put, List.setIfInBounds_toArray, List.set_cons_zero, List.set_cons_succ]
            refine wpAnyH_ready (rs := [3]) (by kernel_rfl) (by simp) ?_
            refine AllReadyH.cons rfl (fun K hK => ?_) AllReadyH.nil
            go_simp
            refine (specLeftJ_any 1 S1 (kn : Int) A1 n1 c1 w5.drew Hs5.out.2.2.2.2.2.1.zv.drew (by have := Hn1.out; omega) (by omega) (by omega)).mono ?_
            rintro e y6 ⟨Ta, Aa, na, ca, rfl, hzo0, hb0⟩
            have hzo := hzo0.cast_ (z' := ((2 ^ kn : Nat) : Int)) (left_cast3 kn)
            have hb : Below w5.heap.size w5 y6 := belDrew hb0
            refine hK.out _ _ (Hs5.out.2.2.1.next hb).1 (fun hHeld => ?_)
            have X6 := Lib.hid hzo
            have N6 : Hid ((na : Int) ≤ 1001) := Lib.hid (by rw [← hzo.lenN]; exact Hlen.out _ (le_next R kn).2.2)
            clear hK K hb0 hzo hzo0
            have Hs6 := Lib.hid (Hs5.out.next hb)
            have Bx6 := Lib.hid (Bx5.out.next hb)
            have Zn6 := Lib.hid ((Zn5.out.next hb).wide (Nat.le_refl _) hb.size (Nat.le_refl _))
            clear hb ho0 ho1 ho2 ho3 ho4
            try simp only [Act.put, List.setIfInBounds_toArray, List.set_cons_zero, List.set_cons_succ]
            refine wpAnyH_ready (rs := [4]) (by kernel_rfl) (by simp) ?_
            refine AllReadyH.cons rfl (fun K hK => ?_) AllReadyH.nil
            go_simp
            refine (specAddZ_any (R : Int) ((2 ^ kn : Nat) : Int) So Ta Ao Aa no na co ca y6 Hs6.out.2.2.2.1.zv X6.out.zv (by have := Hno.out; omega) (by have := N6.out; omega)).mono ?_
            rintro e y7 ⟨Tb, Ab, nb, cb, rfl, hzo0, hb⟩
            have hzo := hzo0.cast_ (z' := ((R + 2 ^ kn : Nat) : Int)) (Int.natCast_add _ _).symm
            refine hK.out _ _ (Hs6.out.2.2.1.next hb).1 (fun hHeld => ?_)
            clear hK K hzo0
            have X7 := Lib.hid (hzo.wide (lo' := B + 3) (by have := Hs6.out.2.2.1.2; omega) (Nat.le_refl _) (Nat.le_refl _))
            have Hs7 := Lib.hid (Hs6.out.next hb)
            have Bx7 := Lib.hid (Bx6.out.next hb)
            have Zn7 := Lib.hid ((Zn6.out.next hb).wide (Nat.le_refl _) hb.size (Nat.le_refl _))
            clear hb hzo
            try simp only [Act.put, List.setIfInBounds_toArray, List.set_cons_zero, List.set_cons_succ]
            obtain ⟨⟨ho0, ho1, ho2, ho3⟩, ho4⟩ := Hs7.out.1
            refine wpAnyH_ready (rs := [5]) (by kernel_rfl) (by simp) ?_
            refine AllReadyH.cons rfl (fun K hK => ?_) AllReadyH.nil
            go_simp
            refine hK.out _ (st y7 B Tb Ab nb cb) (Hs7.out.2.2.1.st_ (by omega)).1 (fun hHeld => ?_)
            clear hK K hHeld
            try simp only [Act.put, List.setIfInBounds_toArray, List.set_cons_zero, List.set_cons_succ]
            refine wpAnyH_done (by kernel_rfl) ?_ _
            clear ho0 ho1 ho2 ho3 ho4
            obtain ⟨⟨hq0, hq1, hq2, hq3⟩, hq4⟩ := Hs7.out.2.1.st_ (b' := B) (s' := Tb) (A' := Ab) (n' := nb) (c' := cb) (by omega)
            obtain ⟨⟨h80, h81⟩, h82⟩ := Bx7.out.st_ (b := B) (s := Tb) (A := Ab) (n := nb) (c := cb) (by have := Hb7.out; omega)
            go_wp2_with fail
            go_roundg kn
            case measure => omega
            case rel => exact ⟨(kn : Int) - 1, R + 2 ^ kn, Tb, Ab, nb, cb, S8, A8, n8, c8, rfl, rfl, by have := Hg.out; omega, Hle.out, root_down HR2.out, Hs7.out.both X7.out Zn7.out⟩
          · go_simp
            refine (specLeftJ_any 1 S1 (kn : Int) A1 n1 c1 w5.drew Hs5.out.2.2.2.2.2.1.zv.drew (by have := Hn1.out; omega) (by omega) (by omega)).mono ?_
            rintro e y6 ⟨Ta, Aa, na, ca, rfl, hzo0, hb0⟩
            have hzo := hzo0.cast_ (z' := ((2 ^ kn : Nat) : Int)) (left_cast3 kn)
            have hb : Below w5.heap.size w5 y6 := belDrew hb0
            refine hK.out _ _ (Hs5.out.2.2.1.next hb).1 (fun hHeld => ?_)
            have X6 := Lib.hid hzo
            have N6 : Hid ((na : Int) ≤ 1001) := Lib.hid (by rw [← hzo.lenN]; exact Hlen.out _ (le_next R kn).2.2)
            clear hK K hb0 hzo hzo0
            have Hs6 := Lib.hid (Hs5.out.next hb)
            have Bx6 := Lib.hid (Bx5.out.next hb)
            have Zn6 := Lib.hid ((Zn5.out.next hb).wide (Nat.le_refl _) hb.size (Nat.le_refl _))
            clear hb ho0 ho1 ho2 ho3 ho4
            try simp only [Act.put, List.setIfInBounds_toArray, List.set_cons_zero, List.set_cons_succ]
            obtain ⟨⟨ho0, ho1, ho2, ho3⟩, ho4⟩ := Hs6.out.1
            refine wpAnyH_ready (rs := [0]) (by kernel_rfl) (by simp) ?_
            refine AllReadyH.cons rfl (fun K hK => ?_) AllReadyH.nil
            go_simp
            refine hK.out _ _ hHeld (fun hHeld => ?_)
            clear hK K
            try simp only [Act.put, List.setIfInBounds_toArray, List.set_cons_zero, List.set_cons_succ]
            clear ho0 ho1 ho2 ho3 ho4
            refine wpAnyH_ready (rs := [4]) (by kernel_rfl) (by simp) ?_
            refine AllReadyH.cons rfl (fun K hK => ?_) AllReadyH.nil
            go_simp
            refine (specAddZ_any (R : Int) ((2 ^ kn : Nat) : Int) So Ta Ao Aa no na co ca y6 Hs6.out.2.2.2.1.zv X6.out.zv (by have := Hno.out; omega) (by have := N6.out; omega)).mono ?_
            rintro e y7 ⟨Tb, Ab, nb, cb, rfl, hzo0, hb⟩
            have hzo := hzo0.cast_ (z' := ((R + 2 ^ kn : Nat) : Int)) (Int.natCast_add _ _).symm
            refine hK.out _ _ (Hs6.out.2.2.1.next hb).1 (fun hHeld => ?_)
            clear hK K hzo0
            have X7 := Lib.hid (hzo.wide (lo' := B + 3) (by have := Hs6.out.2.2.1.2; omega) (Nat.le_refl _) (Nat.le_refl _))
            have Hs7 := Lib.hid (Hs6.out.next hb)
            have Bx7 := Lib.hid (Bx6.out.next hb)
            have Zn7 := Lib.hid ((Zn6.out.next hb).wide (Nat.le_refl _) hb.size (Nat.le_refl _))
            clear hb hzo
            try simp only [Act.put, List.setIfInBounds_toArray, List.set_cons_zero, List.set_cons_succ]
            obtain ⟨⟨ho0, ho1, ho2, ho3⟩, ho4⟩ := Hs7.out.1
            refine wpAnyH_ready (rs := [5]) (by kernel_rfl) (by simp) ?_
            refine AllReadyH.cons rfl (fun K hK => ?_) AllReadyH.nil
            go_simp
            refine hK.out _ (st y7 B Tb Ab nb cb) (Hs7.out.2.2.1.st_ (by omega)).1 (fun hHeld => ?_)
            clear hK K hHeld
            try simp only [Act.put, List.setIfInBounds_toArray, List.set_cons_zero, List.set_cons_succ]
            refine wpAnyH_done (by kernel_rfl) ?_ _
            clear ho0 ho1 ho2 ho3 ho4
            obtain ⟨⟨hq0, hq1, hq2, hq3⟩, hq4⟩ := Hs7.out.2.1.st_ (b' := B) (s' := Tb) (A' := Ab) (n' := nb) (c' := cb) (by omega)
            obtain ⟨⟨h80, h81⟩, h82⟩ := Bx7.out.st_ (b := B) (s := Tb) (A := Ab) (n := nb) (c := cb) (by have := Hb7.out; omega)
            go_wp2_with fail
            go_roundg kn
            case measure => omega
            case rel => exact ⟨(kn : Int) - 1, R + 2 ^ kn, Tb, Ab, nb, cb, S8, A8, n8, c8, rfl, rfl, by have := Hg.out; omega, Hle.out, root_down HR2.out, Hs7.out.both X7.out Zn7.out⟩
        · have hcv : cmpI (((R + 2 ^ kn) * (R + 2 ^ kn) : Nat) : Int) (v : Int) = 1 := cmpI_gt (by omega)
          have Hle : Hid (v < (R + 2 ^ kn) * (R + 2 ^ kn)) := Lib.hid (by omega)
          rw [hcv]
          clear hcv hle
          go_wp2_with fail
          go_roundg kn
          case measure => omega
          case rel => exact ⟨(kn : Int) - 1, R, So, Ao, no, co, Sq, Aq, nq, cq, rfl, rfl, by have := Hg.out; omega, HR1.out, Hle.out, Hs5.out⟩
end Go.Proofs.YtcjamfoiilgfoaaDoor
