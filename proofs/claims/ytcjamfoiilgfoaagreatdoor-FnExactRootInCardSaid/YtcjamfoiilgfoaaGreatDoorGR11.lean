/- Texts of this seat, joined: Dm Do Dn Qa Qb Qc Qd Qe -/
import Derived.Test.YtcjamfoiilgfoaaGreatDoorGR6
import Derived.Test.YtcjamfoiilgfoaaGreatDoorGR4
import Derived.Test.YtcjamfoiilgfoaaGreatDoorGR1
import Derived.Deep.DeepCutAuto
import Derived.Deep.OwnRows
import Derived.Deep.DrawnRows
import Derived.Test.YtcjamfoiilgfoaaGreatDoorGR2
import Derived.Test.YtcjamfoiilgfoaaGreatDoorGR7
import Derived.Test.YtcjamfoiilgfoaaGreatDoorGR9
/- Quotients bit by bit: plain mathematics. -/
namespace Go.Proofs.YtcjamfoiilgfoaaGreatDoor
set_option maxRecDepth 100000
open Go.RowKit

end Go.Proofs.YtcjamfoiilgfoaaGreatDoor
/- Quotient and remainder of whole numbers, of the model: bit by bit. -/
namespace Go.Proofs.YtcjamfoiilgfoaaGreatDoor
set_option maxRecDepth 100000
open Go.RowKit
set_option linter.unusedSimpArgs false
set_option linter.unusedVariables false
attribute [local go_sem ↓] Go.wp_at_zero Go.wp_at_succ

/-- the rows of the division: what is left, and the quotient so far -/
def DvW (w1 wr : World) (g q : Nat) (ws qs : List Nat) : Prop := (g ≠ q ∧ w1.heap.size ≤ g ∧ w1.heap.size ≤ q) ∧ Ow wr g (g + 1) (some ⟨g, 0, none⟩) (vs ws) ∧ Ow wr q (q + 1) (some ⟨q, 0, none⟩) (vs qs) ∧ Below w1.heap.size w1 wr
section
variable {w1 wr wr' : World} {g q : Nat} {ws qs : List Nat}
theorem DvW.next (h : DvW w1 wr g q ws qs) (hb : Below wr.heap.size wr wr') : DvW w1 wr' g q ws qs := ⟨h.1, h.2.1.below' hb, h.2.2.1.below' hb, belNext h.2.2.2 hb⟩
theorem DvW.drewN (h : DvW w1 wr g q ws qs) (k : Nat) : DvW w1 (wr.drewN k) g q ws qs := ⟨h.1, h.2.1.drewN k, h.2.2.1.drewN k, below_drewN h.2.2.2 k⟩
theorem DvW.row (h : DvW w1 wr g q ws qs) {k : Nat} (hk : k < ws.length) : wr.cell? ⟨g, k, none⟩ = some (.int .i64 (ws[k] : Nat)) ∧ wr.frozen? ⟨g, k, none⟩ = false ∧ ∀ d : Nat, DvW w1 (wr.setCell ⟨g, k, none⟩ (.int .i64 (d : Int))) g q (ws.set k d) qs := by
  have h0 : Ow wr g (g + 1) (some ⟨g, 0, none⟩) (vi (li ws)) := h.2.1
  obtain ⟨h1, h2, h3⟩ := ow_row h0 (k := k) (by rw [li_len]; exact hk)
  rw [li_get hk] at h1
  refine ⟨h1, h2, fun d => ?_⟩
  obtain ⟨h4, h5⟩ := h3 d
  have e : (li ws).set k (d : Int) = li (ws.set k d) := by unfold li; rw [List.map_set]
  rw [e] at h4
  exact ⟨h.1, h4, h.2.2.1.grown h5 (by intro x e; injection e with e; have := h.1.1; omega), h.2.2.2.grown h5 h.2.2.2.size (by intro x e; injection e with e; have := h.1.2.1; omega)⟩
theorem DvW.quo (h : DvW w1 wr g q ws qs) {k : Nat} (hk : k < qs.length) : wr.cell? ⟨q, k, none⟩ = some (.int .i64 (qs[k] : Nat)) ∧ wr.frozen? ⟨q, k, none⟩ = false ∧ ∀ d : Nat, DvW w1 (wr.setCell ⟨q, k, none⟩ (.int .i64 (d : Int))) g q ws (qs.set k d) := by
  have h0 : Ow wr q (q + 1) (some ⟨q, 0, none⟩) (vi (li qs)) := h.2.2.1
  obtain ⟨h1, h2, h3⟩ := ow_row h0 (k := k) (by rw [li_len]; exact hk)
  rw [li_get hk] at h1
  refine ⟨h1, h2, fun d => ?_⟩
  obtain ⟨h4, h5⟩ := h3 d
  have e : (li qs).set k (d : Int) = li (qs.set k d) := by unfold li; rw [List.map_set]
  rw [e] at h4
  exact ⟨h.1, h.2.1.grown h5 (by intro x e; injection e with e; have := h.1.1; omega), h4, h.2.2.2.grown h5 h.2.2.2.size (by intro x e; injection e with e; have := h.1.2.2; omega)⟩
end
end Go.Proofs.YtcjamfoiilgfoaaGreatDoor
/- A number with a mark for what is left behind is rounded as the number: plain mathematics. -/
namespace Go.Proofs.YtcjamfoiilgfoaaGreatDoor
set_option maxRecDepth 100000
open Go.RowKit

/-- a number cut by i bits, and a bit that tells whether something is lost -/
def mk (v i : Nat) : Nat := 2 * (v / 2 ^ i) + (if v % 2 ^ i = 0 then 0 else 1)
theorem mk_half (v i : Nat) : mk v i / 2 = v / 2 ^ i := by unfold mk; split <;> omega
theorem mk_ne {v i : Nat} (h : v ≠ 0) : mk v i ≠ 0 := by
  unfold mk
  split
  · rename_i h0
    intro e
    have h1 : v / 2 ^ i = 0 := by omega
    have := Nat.div_add_mod v (2 ^ i)
    rw [h0, h1, Nat.mul_zero] at this
    omega
  · omega
theorem mk_div {v i L : Nat} (h : i ≤ L) : mk v i / 2 ^ (L - i + 1) = v / 2 ^ L := by
  rw [Nat.pow_succ', ← Nat.div_div_eq_div_mul, mk_half, Nat.div_div_eq_div_mul, ← Nat.pow_add, show i + (L - i) = L by omega]
theorem mk_mod {v i L : Nat} (h : i ≤ L) : mk v i % 2 ^ (L - i + 1) = 0 ↔ v % 2 ^ L = 0 := by
  have e1 : v % 2 ^ L = v % 2 ^ i + 2 ^ i * (v / 2 ^ i % 2 ^ (L - i)) := by
    conv => lhs; rw [show L = i + (L - i) by omega, Nat.pow_add]
    rw [Nat.mod_mul]
  have e2 : mk v i % 2 ^ (L - i + 1) = mk v i % 2 + 2 * (mk v i / 2 % 2 ^ (L - i)) := by
    rw [Nat.pow_succ', Nat.mod_mul]
  rw [e1, e2, mk_half]
  have e3 : mk v i % 2 = if v % 2 ^ i = 0 then 0 else 1 := by unfold mk; split <;> omega
  rw [e3]
  have h2 := Nat.two_pow_pos i
  generalize v / 2 ^ i % 2 ^ (L - i) = y
  generalize v % 2 ^ i = x
  generalize 2 ^ i = q at *
  constructor
  · intro hh
    split at hh
    · rename_i hx
      have : y = 0 := by omega
      rw [hx, this]; simp
    · omega
  · intro hh
    have hx : x = 0 := by omega
    rw [if_pos hx]
    have hy : q * y = 0 := by omega
    rcases Nat.mul_eq_zero.1 hy with h3 | h3
    · omega
    · rw [h3]
theorem tz_mk {v i L : Nat} (hv : v ≠ 0) (h : i ≤ L) : tz (mk v i) < L - i + 1 ↔ tz v < L := by
  rw [tz_lt_dvd (mk_ne hv), tz_lt_dvd hv]
  exact not_congr (mk_mod h)
theorem mk_blen {v i : Nat} (h : v / 2 ^ i ≠ 0) : blen (mk v i) = blen v - i + 1 := by
  obtain ⟨h1, h2, h3⟩ := blen_bounds h
  have e := blen_eq (v := mk v i) (k := blen (v / 2 ^ i)) (by
    have : 2 ^ blen (v / 2 ^ i) = 2 * 2 ^ (blen (v / 2 ^ i) - 1) := by rw [← Nat.pow_succ', show (blen (v / 2 ^ i) - 1).succ = blen (v / 2 ^ i) by omega]
    rw [this]; unfold mk; split <;> omega) (by rw [Nat.pow_succ]; unfold mk; split <;> omega)
  rw [e, blen_shr]
theorem rQ_mk {v i : Nat} (h : 1 ≤ v / 2 ^ i) (E : Int) : rQ (mk v i) (E + i - 1) = rQ v E := by
  have hi : i < blen v := by
    have h2 := blen_shr v i
    obtain ⟨h3, _, _⟩ := blen_bounds (show v / 2 ^ i ≠ 0 by omega)
    omega
  unfold rQ
  rw [mk_blen (by omega)]
  congr 1
  omega
theorem rT_mk {v i : Nat} {l : Int} (h : (i : Int) + 1 ≤ l) : rT (mk v i) (l - i + 1) = rT v l := by
  unfold rT
  rw [if_neg (by omega), if_neg (by omega), show (l - (i : Int) + 1).toNat = l.toNat - i + 1 by omega]
  exact mk_div (by omega)
theorem rB_mk {v i : Nat} (hv : v ≠ 0) {l : Int} (h : (i : Int) + 1 ≤ l) : rB (mk v i) (l - i + 1) = rB v l := by
  unfold rB
  have := tz_mk (L := l.toNat) hv (show i ≤ l.toNat by omega)
  congr 1
  apply propext
  rw [show (l - (i : Int) + 1).toNat = l.toNat - i + 1 by omega]
  constructor <;> rintro ⟨h1, h2⟩
  · exact ⟨by omega, this.1 h2⟩
  · exact ⟨by omega, this.2 h2⟩
theorem rH_mk {v i : Nat} (hv : v ≠ 0) {l : Int} (h : (i : Int) + 1 ≤ l) : rH (mk v i) (l - i + 1) = rH v l := by
  unfold rH
  obtain ⟨L, hL⟩ : ∃ L, l.toNat = L + 1 := ⟨l.toNat - 1, by omega⟩
  have hi : i ≤ L := by omega
  rw [show (l - (i : Int) + 1).toNat - 1 = L - i + 1 by omega, hL, Nat.add_sub_cancel, mk_div hi]
  have h1 := tz_mk (L := L) hv hi
  by_cases hb : v / 2 ^ L % 2 = 1
  · rw [if_pos hb, if_pos hb]
    have g1 : tz v ≤ L := by
      rcases Nat.lt_or_ge L (tz v) with h2 | h2
      · have := bit_below h2; omega
      · exact h2
    have g2 : tz (mk v i) ≤ L - i + 1 := by
      rcases Nat.lt_or_ge (L - i + 1) (tz (mk v i)) with h2 | h2
      · have := bit_below h2; rw [mk_div hi] at this; omega
      · exact h2
    have e : (tz (mk v i) = L - i + 1) = (tz v = L) := by apply propext; constructor <;> intro hh <;> omega
    simp only [e]
  · rw [if_neg hb, if_neg hb]
theorem rM_mk {v i : Nat} (hv : v ≠ 0) {l : Int} (h : (i : Int) + 1 ≤ l) (mode S : Int) : rM mode S (mk v i) (l - i + 1) = rM mode S v l := by
  unfold rM; rw [rT_mk h, rB_mk hv h, rH_mk hv h]
/-- a number cut by i bits, with a mark -/
def mkZ (z : Int) (i : Nat) : Int := z.sign * (mk z.natAbs i : Int)
theorem mkZ_facts {z : Int} (hz : z ≠ 0) (i : Nat) : mkZ z i ≠ 0 ∧ (mkZ z i).sign = z.sign ∧ (mkZ z i).natAbs = mk z.natAbs i := by
  have h0 : mk z.natAbs i ≠ 0 := mk_ne (by omega)
  unfold mkZ
  generalize mk z.natAbs i = m at *
  rcases Int.lt_trichotomy z 0 with h | h | h
  · rw [Int.sign_eq_neg_one_of_neg h]
    refine ⟨by omega, Int.sign_eq_neg_one_of_neg (by omega), by omega⟩
  · exact absurd h hz
  · rw [Int.sign_eq_one_of_pos h]
    refine ⟨by omega, Int.sign_eq_one_of_pos (by omega), by omega⟩
theorem rd_mk {z : Int} {i : Nat} (h : 16777216 ≤ z.natAbs / 2 ^ i) (E mode : Int) : rdF (mkZ z i) (E + i - 1) mode = rdF z E mode ∧ rdL (mkZ z i) (E + i - 1) mode = rdL z E mode := by
  have hv : z.natAbs ≠ 0 := fun e => by rw [e] at h; simp at h
  have hz : z ≠ 0 := by omega
  obtain ⟨f1, f2, f3⟩ := mkZ_facts hz i
  have hq := rQ_mk (v := z.natAbs) (i := i) (by omega) E
  have hbl : i + 25 ≤ blen z.natAbs := by
    have h2 := blen_shr z.natAbs i
    obtain ⟨h3, h4, h5⟩ := blen_bounds (show z.natAbs / 2 ^ i ≠ 0 by omega)
    have h6 : 24 < blen (z.natAbs / 2 ^ i) := by
      apply Decidable.byContradiction; intro hc
      have := blen_lt.1 (Nat.le_of_not_lt hc)
      omega
    omega
  have hl : (i : Int) + 1 ≤ rQ z.natAbs E - E := by unfold rQ; omega
  have el : rQ z.natAbs E - (E + i - 1) = rQ z.natAbs E - E - i + 1 := by omega
  have hn : (mkZ z i < 0) = (z < 0) := by
    apply propext; rw [← Int.sign_eq_neg_one_iff_neg, ← Int.sign_eq_neg_one_iff_neg, f2]
  have eo : rO mode (mkZ z i) (E + i - 1) = rO mode z E := by
    unfold rO; rw [f2, f3, hq, el, rM_mk hv hl]
  unfold rdF rdL
  rw [if_neg hz, if_neg f1, if_neg hz, if_neg f1, eo, f2, f3, hq, el, rM_mk hv hl, rB_mk hv hl, mk_blen (show z.natAbs / 2 ^ i ≠ 0 by omega)]
  simp only [hn]
  refine ⟨trivial, ?_⟩
  have e3 : (((blen z.natAbs - i + 1 : Nat) : Int) + (E + i - 1) ≤ -126) = ((blen z.natAbs : Int) + E ≤ -126) := by apply propext; constructor <;> intro hh <;> omega
  simp only [e3]
/-- a quotient with a mark -/
def qk (N D : Nat) : Nat := 2 * (N / D) + (if N % D = 0 then 0 else 1)
/-- a root with a mark -/
noncomputable def rk (X : Nat) : Nat := 2 * rt X + (if rt X * rt X = X then 0 else 1)
theorem rt_shl (X j : Nat) : rt (X * 2 ^ (2 * j)) / 2 ^ j = rt X := by
  have e : (2 : Nat) ^ (2 * j) = 2 ^ j * 2 ^ j := by rw [← Nat.pow_add]; congr 1; omega
  obtain ⟨h1, h2⟩ := rt_spec (X * 2 ^ (2 * j))
  have h3 := Nat.two_pow_pos j
  have h4 := Nat.div_add_mod (rt (X * 2 ^ (2 * j))) (2 ^ j)
  have h5 := Nat.mod_lt (rt (X * 2 ^ (2 * j))) h3
  rw [e] at *
  generalize rt (X * (2 ^ j * 2 ^ j)) = R at *
  generalize R / 2 ^ j = Q at *
  generalize R % 2 ^ j = S at *
  generalize 2 ^ j = P at *
  refine (rt_unique ?_ ?_).symm
  · have a1 : P * Q * (P * Q) ≤ X * (P * P) := Nat.le_trans (Nat.mul_le_mul (by omega) (by omega)) h1
    have a2 : P * Q * (P * Q) = Q * Q * (P * P) := by simp only [Nat.mul_assoc, Nat.mul_left_comm, Nat.mul_comm]
    rw [a2] at a1
    exact Nat.le_of_mul_le_mul_right a1 (Nat.mul_pos h3 h3)
  · have a0 : R + 1 ≤ P * (Q + 1) := by rw [Nat.mul_add]; omega
    have a1 : X * (P * P) < P * (Q + 1) * (P * (Q + 1)) := Nat.lt_of_lt_of_le h2 (Nat.mul_le_mul a0 a0)
    have a2 : P * (Q + 1) * (P * (Q + 1)) = (Q + 1) * (Q + 1) * (P * P) := by simp only [Nat.mul_assoc, Nat.mul_left_comm, Nat.mul_comm]
    rw [a2] at a1
    exact Nat.lt_of_mul_lt_mul_right a1
theorem rk_mk (X j : Nat) : mk (rk (X * 2 ^ (2 * j))) (j + 1) = rk X := by
  have e : (2 : Nat) ^ (2 * j) = 2 ^ j * 2 ^ j := by rw [← Nat.pow_add]; congr 1; omega
  have h2 := Nat.two_pow_pos j
  have hs := rt_shl X j
  have h4 := Nat.div_add_mod (rt (X * 2 ^ (2 * j))) (2 ^ j)
  rw [hs] at h4
  have e0 : rk (X * 2 ^ (2 * j)) / 2 = rt (X * 2 ^ (2 * j)) := by unfold rk; split <;> omega
  have e1 : rk (X * 2 ^ (2 * j)) / 2 ^ (j + 1) = rt X := by
    rw [Nat.pow_succ', ← Nat.div_div_eq_div_mul, e0, hs]
  have e2 : rk (X * 2 ^ (2 * j)) % 2 ^ (j + 1) = 0 ↔ rt X * rt X = X := by
    have h3 : rk (X * 2 ^ (2 * j)) % 2 = if rt (X * 2 ^ (2 * j)) * rt (X * 2 ^ (2 * j)) = X * 2 ^ (2 * j) then 0 else 1 := by unfold rk; split <;> omega
    rw [Nat.pow_succ', Nat.mod_mul, h3, e0]
    constructor
    · intro hh
      split at hh
      · rename_i h5
        have h6 : rt (X * 2 ^ (2 * j)) % 2 ^ j = 0 := by omega
        rw [h6, Nat.add_zero] at h4
        rw [← h4, e] at h5
        have h7 : rt X * rt X * (2 ^ j * 2 ^ j) = X * (2 ^ j * 2 ^ j) := by rw [← h5]; simp only [Nat.mul_assoc, Nat.mul_left_comm, Nat.mul_comm]
        exact Nat.eq_of_mul_eq_mul_right (Nat.mul_pos h2 h2) h7
      · omega
    · intro hh
      have h5 : rt (X * 2 ^ (2 * j)) = rt X * 2 ^ j := by
        refine rt_unique ?_ ?_
        · rw [e]; conv => rhs; rw [← hh]
          refine Nat.le_of_eq ?_
          simp only [Nat.mul_assoc, Nat.mul_left_comm, Nat.mul_comm]
        · have h6 : X * 2 ^ (2 * j) = rt X * 2 ^ j * (rt X * 2 ^ j) := by
            rw [e]; conv => lhs; rw [← hh]
            simp only [Nat.mul_assoc, Nat.mul_left_comm, Nat.mul_comm]
          rw [h6]
          exact Nat.mul_lt_mul'' (by omega) (by omega)
      rw [h5, Nat.mul_mod_left, if_pos]
      rw [e]; conv => rhs; rw [← hh]
      simp only [Nat.mul_assoc, Nat.mul_left_comm, Nat.mul_comm]
  unfold mk
  rw [e1]
  conv => rhs; unfold rk
  by_cases h : rt X * rt X = X
  · rw [if_pos (e2.2 h), if_pos h]
  · rw [if_neg (fun hh => h (e2.1 hh)), if_neg h]
end Go.Proofs.YtcjamfoiilgfoaaGreatDoor
/- Quotients of exact numbers from below, of the program. -/
namespace Go.Proofs.YtcjamfoiilgfoaaGreatDoor
set_option maxRecDepth 100000
open Go.RowKit
set_option linter.unusedSimpArgs false
set_option linter.unusedVariables false
attribute [local go_sem ↓] Go.wp_at_zero Go.wp_at_succ

/-- the numerator and the denominator of a quotient of steps -/
def qN (z s : Int) : Nat := 2 ^ s.toNat * z.natAbs
def qD (z s : Int) : Nat := 2 ^ (-s).toNat * z.natAbs
/-- the quotient from below -/
def quZ (z z' s : Int) : Int := if z.sign * z'.sign < 0 ∧ 0 < qN z s % qD z' s then z.sign * z'.sign * ((qN z s / qD z' s + 1 : Nat) : Int) else z.sign * z'.sign * ((qN z s / qD z' s : Nat) : Int)
end Go.Proofs.YtcjamfoiilgfoaaGreatDoor
/- The middle behind a multiple, quotients of exact results, of the program. -/
namespace Go.Proofs.YtcjamfoiilgfoaaGreatDoor
set_option maxRecDepth 100000
open Go.RowKit
set_option linter.unusedSimpArgs false
set_option linter.unusedVariables false
attribute [local go_sem ↓] Go.wp_at_zero Go.wp_at_succ

set_option maxHeartbeats 4000000 in
theorem implBehind_any (z S E : Int) (A : Option Addr) (n c : Nat) (k : Int) (w : World) (hz : ZV w z S A n c) (hm : (n : Int) ≤ 4000) (h1 : -9000 ≤ E) (h2 : E ≤ 9000) (h3 : -9000 ≤ k) (h4 : k ≤ 9000) (hT : TabZ w) :
    Calls Tryz.prog 94 #[.agg #[.int .i64 S, .slice A n c, .int .i64 E], .int .i64 k] w fun e w' => ∃ Sr Ar nr cr, e = .returned (.agg #[.int .i64 Sr, .slice Ar nr cr, .int .i64 (min E (-k - 1))]) ∧ ZO w' w.heap.size w'.heap.size (sumZ z E 1 (-k - 1)) Sr Ar nr cr ∧ Below w.heap.size w w' := by
  have hst := store_int Tryz.prog
  have hst2 := store_slice Tryz.prog
  obtain ⟨w1, hw1, hb1, hb3, hb4⟩ := dbox_res w S A n c E 30 30
  have RsD1 := Lib.hid hb3
  have Hlt : Hid (w.heap.size + 1 < w1.heap.size) := Lib.hid hb3.2
  have Zv1 := Lib.hid (hz.next hb4)
  have Hw := Lib.hid hw1
  have Bx1 := Lib.hid hb1
  have Bel1 := Lib.hid hb4
  have HS : Hid (S = z.sign) := Lib.hid hz.1
  have Hn : Hid ((limbs z.natAbs).length = n) := Lib.hid hz.2.1
  have Hm : Hid ((n : Int) ≤ 4000) := Lib.hid hm
  have Tb1 := Lib.hid (hT.next hb4)
  clear hT
  clear hz hw1 hb1 hb4 hb3
  go_enter Tryz.func94, Tryz.ntmps94
  go_wp2_with fail
  rw [← Hw.out]
  obtain ⟨⟨hBx0, hBx1, hBx2⟩, hBx3⟩ := Bx1.out
  obtain ⟨⟨hRsD0, hRsD1, hRsD2, hRsD3, hRsD4, hRsD5⟩, hRsD6⟩ := RsD1.out
  have hwr1 : IntKind.i64.wrap (-k) = -k := IntWalk.i64_in _ (by omega)
  have hwr2 : IntKind.i64.wrap (-k - 1) = -k - 1 := IntWalk.i64_in _ (by omega)
  refine wp_region_held_drew (S := fun w' => (w'.cell? ⟨w.heap.size, 0, none⟩ = some (.int .i64 S) ∧ w'.cell? ⟨w.heap.size, 1, none⟩ = some (.slice A n c) ∧ w'.cell? ⟨w.heap.size, 2, none⟩ = some (.int .i64 E))) (by kernel_rfl) Bx1.out.1 (fun hHeld => ?_)
  clear hBx0 hBx1 hBx2 hBx3 hRsD0 hRsD1 hRsD2 hRsD3 hRsD4 hRsD5 hRsD6
  refine wpAnyH_take (i := 0) (v := ?_) rfl (by kernel_rfl) (by kernel_rfl) (by kernel_rfl) (fun _ _ _ h => h) (Or.inl ⟨by rfl, ?_⟩) (by assumption) ?_
  rotate_left
  · (intro w hSw; (try dsimp only at hSw); go_simp; (try with_reducible rfl))
  try simp only [Act.put, List.setIfInBounds_toArray, List.set_cons_zero, List.set_cons_succ, List.getElem_toArray, List.getElem_cons_succ, List.getElem_cons_zero]
  refine wpAnyH_take (i := 2) (v := ?_) rfl (by kernel_rfl) (by kernel_rfl) (by kernel_rfl) (fun _ _ _ h => h) (Or.inl ⟨by rfl, ?_⟩) (by assumption) ?_
  rotate_left
  · (intro w hSw; (try dsimp only at hSw); go_simp; (try with_reducible rfl))
  try simp only [Act.put, List.setIfInBounds_toArray, List.set_cons_zero, List.set_cons_succ, List.getElem_toArray, List.getElem_cons_succ, List.getElem_cons_zero]
  refine wpAnyH_take (i := 3) (v := ?_) rfl (by kernel_rfl) (by kernel_rfl) (by kernel_rfl) (fun _ _ _ h => h) (Or.inl ⟨by rfl, ?_⟩) (by assumption) ?_
  rotate_left
  · (intro w hSw; (try dsimp only at hSw); go_simp; (try with_reducible rfl))
  try simp only [Act.put, List.setIfInBounds_toArray, List.set_cons_zero, List.set_cons_succ, List.getElem_toArray, List.getElem_cons_succ, List.getElem_cons_zero]
  refine wpAnyH_take (i := 4) (v := ?_) rfl (by kernel_rfl) (by kernel_rfl) (by kernel_rfl) (fun _ _ _ h => h) (Or.inl ⟨by rfl, ?_⟩) (by assumption) ?_
  rotate_left
  · (intro w hSw; (try dsimp only at hSw); go_simp; (try with_reducible rfl))
  try simp only [Act.put, List.setIfInBounds_toArray, List.set_cons_zero, List.set_cons_succ, List.getElem_toArray, List.getElem_cons_succ, List.getElem_cons_zero]
  refine wpAnyH_ready (rs := [1]) (by kernel_rfl) (by simp) ?_
  refine AllReadyH.cons rfl (fun K hK => ?_) AllReadyH.nil
  go_simp
  refine (wholeOf_any 1 w1.drew (by omega) (by omega)).mono ?_
  rintro e w2 ⟨val, rfl, hv, hb0⟩
  have hb : Below w1.heap.size w1 w2 := belDrew hb0
  obtain ⟨S2, A2, n2, c2, rfl, hzo⟩ := Wz.zo hv (Nat.le_refl _)
  have Zo2 := Lib.hid hzo.zv
  have Hn2 : Hid ((n2 : Int) ≤ 1) := Lib.hid (len_of_lt (k := 1) hzo.zv.len (by decide +kernel))
  clear hv hzo hwr1 hwr2
  refine hK.out _ _ ((Bx1.out.next hb).1) (fun hHeld => ?_)
  clear hK K hb0
  have Sz2 := Lib.hid (Below.size hb)
  have Bel2 := Lib.hid (belNext Bel1.out hb)
  have Bx2 := Lib.hid (Bx1.out.next hb)
  have RsD2 := Lib.hid (RsD1.out.next hb)
  have Zv2 := Lib.hid (Zv1.out.next hb)
  have Tb2 := Lib.hid (Tb1.out.next hb)
  clear hb Bel1 Bx1 RsD1 Zv1 Tb1
  try simp only [Act.put, List.setIfInBounds_toArray, List.set_cons_zero, List.set_cons_succ, List.getElem_toArray, List.getElem_cons_succ, List.getElem_cons_zero]
  refine wpAnyH_take (i := 5) (v := ?_) rfl (by kernel_rfl) (by kernel_rfl) (by kernel_rfl) (fun _ _ _ h => h) (Or.inl ⟨by rfl, ?_⟩) (by assumption) ?_
  rotate_left
  · (intro w hSw; (try dsimp only at hSw); go_simp; (try with_reducible rfl))
  try simp only [Act.put, List.setIfInBounds_toArray, List.set_cons_zero, List.set_cons_succ, List.getElem_toArray, List.getElem_cons_succ, List.getElem_cons_zero]
  refine wpAnyH_ready (rs := [6]) (by kernel_rfl) (by simp) ?_
  refine AllReadyH.cons rfl (fun K hK => ?_) AllReadyH.nil
  go_simp
  refine (implPlusD_any z S E 1 S2 (-k - 1) A A2 n c n2 c2 w2 Zv2.out Zo2.out (by have := Hm.out; omega) (by have := Hn2.out; omega) (by omega) (by omega) (by omega) (by omega) Tb2.out).mono ?_
  rintro e w3 ⟨S9, A9, n9, c9, rfl, hzo, hb0⟩
  have hb : Below w2.heap.size w2 w3 := hb0
  obtain ⟨q, hq⟩ : ∃ q, q = min E (-k - 1) := ⟨_, rfl⟩
  rw [← hq]
  have Hq := Lib.hid hq
  have Zp3 := Lib.hid hzo
  clear hzo hq
  refine hK.out _ _ ((Bx2.out.next hb).1) (fun hHeld => ?_)
  clear hK K hb0
  have Sz3 := Lib.hid (Below.size hb)
  have Bel3 := Lib.hid (belNext Bel2.out hb)
  have Bx3 := Lib.hid (Bx2.out.next hb)
  have RsD3 := Lib.hid (RsD2.out.next hb)
  have Zv3 := Lib.hid (Zv2.out.next hb)
  have Tb3 := Lib.hid (Tb2.out.next hb)
  have Zo3 := Lib.hid (Zo2.out.next hb)
  clear hb Bel2 Bx2 RsD2 Zv2 Tb2 Zo2
  try simp only [Act.put, List.setIfInBounds_toArray, List.set_cons_zero, List.set_cons_succ, List.getElem_toArray, List.getElem_cons_succ, List.getElem_cons_zero]
  obtain ⟨⟨hRsD0, hRsD1, hRsD2, hRsD3, hRsD4, hRsD5⟩, hRsD6⟩ := RsD3.out
  refine wpAnyH_ready (rs := [7]) (by kernel_rfl) (by simp) ?_
  refine AllReadyH.cons rfl (fun K hK => ?_) AllReadyH.nil
  go_simp
  refine hK.out _ _ ((((Bx3.out.keep (by have zz0 := Hlt.out; have zz1 := Sz2.out; have zz2 := Sz3.out; first | omega | (simp; done) | (simp; omega)) _).keep (by have zz0 := Hlt.out; have zz1 := Sz2.out; have zz2 := Sz3.out; first | omega | (simp; done) | (simp; omega)) _).keep (by have zz0 := Hlt.out; have zz1 := Sz2.out; have zz2 := Sz3.out; first | omega | (simp; done) | (simp; omega)) _).1) (fun hHeld => ?_)
  clear hK K hHeld
  try simp only [Act.put, List.setIfInBounds_toArray, List.set_cons_zero, List.set_cons_succ, List.getElem_toArray, List.getElem_cons_succ, List.getElem_cons_zero]
  refine wpAnyH_done (by kernel_rfl) ?_ _
  go_wp2_with fail
  refine bodyPost_ret (v := .agg #[.int .i64 S9, .slice A9 n9 c9, .int .i64 q]) (by simp [results, Tryz.results94, go_sem, hRsD0, hRsD1, hRsD2]) rfl ⟨S9, A9, n9, c9, by rw [Hq.out], ?_, ?_⟩
  · exact (((Zp3.out.setCell (.inl (by have zz0 := Hlt.out; have zz1 := Sz2.out; have zz2 := Sz3.out; first | omega | (simp; done) | (simp; omega))) _).setCell (.inl (by have zz0 := Hlt.out; have zz1 := Sz2.out; have zz2 := Sz3.out; first | omega | (simp; done) | (simp; omega))) _).setCell (.inl (by have zz0 := Hlt.out; have zz1 := Sz2.out; have zz2 := Sz3.out; first | omega | (simp; done) | (simp; omega))) _).wide (by have zz0 := Hlt.out; have zz1 := Sz2.out; have zz2 := Sz3.out; first | omega | (simp; done) | (simp; omega)) (by have zz0 := Hlt.out; have zz1 := Sz2.out; have zz2 := Sz3.out; first | omega | (simp; done) | (simp; omega)) (by have zz0 := Hlt.out; have zz1 := Sz2.out; have zz2 := Sz3.out; first | omega | (simp; done) | (simp; omega))
  · exact ((Bel3.out.setCell (by have zz0 := Hlt.out; have zz1 := Sz2.out; have zz2 := Sz3.out; first | omega | (simp; done) | (simp; omega)) _).setCell (by have zz0 := Hlt.out; have zz1 := Sz2.out; have zz2 := Sz3.out; first | omega | (simp; done) | (simp; omega)) _).setCell (by have zz0 := Hlt.out; have zz1 := Sz2.out; have zz2 := Sz3.out; first | omega | (simp; done) | (simp; omega)) _

/-- the places of a quotient, its value, its exponent -/
def ovK (z E z' E' : Int) : Int := 25 + ((blen z'.natAbs : Int) + E') - ((blen z.natAbs : Int) + E)
def ovQ (z E z' E' : Int) : Int := quZ z z' (E - E' + ovK z E z' E')
def ovT (z E z' E' : Int) : Int := sumZ (ovQ z E z' E' * z') (-ovK z E z' E' + E') (-z) E
def ovZ (z E z' E' : Int) : Int := if (ovT z E z' E').sign = 0 then ovQ z E z' E' else sumZ (ovQ z E z' E') (-ovK z E z' E') 1 (-ovK z E z' E' - 1)
def ovE (z E z' E' : Int) : Int := if (ovT z E z' E').sign = 0 then -ovK z E z' E' else min (-ovK z E z' E') (-ovK z E z' E' - 1)

end Go.Proofs.YtcjamfoiilgfoaaGreatDoor
/- What quotients are rounded to; a number with a mark, of the model. -/
namespace Go.Proofs.YtcjamfoiilgfoaaGreatDoor
set_option maxRecDepth 100000
open Go.RowKit
set_option linter.unusedSimpArgs false
set_option linter.unusedVariables false
attribute [local go_sem ↓] Go.wp_at_zero Go.wp_at_succ

/-- the quotient with a mark -/
def dvV (z z' s : Int) : Int := z.sign * z'.sign * (qk (qN z s) (qD z' s) : Int)
/-- a number with one more bit, 1 if something is left behind it -/
def mkV (z : Int) (r : Bool) : Int := 2 * z + (if r = true then z.sign else 0)

theorem dres_st {w : World} {b b' n c : Nat} {s : Int} {A : Option Addr} (h : DRes w b) (hne : b ≠ b') : DRes (st w b' s A n c) b := by
  obtain ⟨⟨h0, h1, h2, h3, h4, h5⟩, h6⟩ := h
  refine ⟨⟨?_, ?_, ?_, ?_, ?_, ?_⟩, by rw [st_size]; exact h6⟩
  · exact (World.cell?_of_block (a := ⟨b, 0, none⟩) (st_heap hne)).trans h0
  · exact (World.cell?_of_block (a := ⟨b, 1, none⟩) (st_heap hne)).trans h1
  · exact (World.cell?_of_block (a := ⟨b, 2, none⟩) (st_heap hne)).trans h2
  · rw [← h3]; unfold World.frozen?; rw [st_heap hne]
  · rw [← h4]; unfold World.frozen?; rw [st_heap hne]
  · rw [← h5]; unfold World.frozen?; rw [st_heap hne]
set_option maxHeartbeats 8000000 in
theorem specMark_any (z S x : Int) (r : Bool) (A : Option Addr) (n c : Nat) (w : World) (hz : ZV w z S A n c) (hm : (n : Int) ≤ 300) (h1 : -5000 ≤ x) (h2 : x ≤ 5000) :
    Calls Tryz.prog 98 #[.agg #[.int .i64 S, .slice A n c], .int .i64 x, .bool r] w fun e w' => ∃ Sr Ar nr cr, e = .returned (.agg #[.int .i64 Sr, .slice Ar nr cr, .int .i64 (nx (mkV z r) (x - 1))]) ∧ ZO w' w.heap.size w'.heap.size (nz (mkV z r)) Sr Ar nr cr ∧ Below w.heap.size w w' := by
  have hst := store_int Tryz.prog
  have hst2 := store_slice Tryz.prog
  obtain ⟨w1, hw1⟩ : ∃ w1, w1 = (w.alloc (.cells #[.int .i64 S, .slice A n c] 28)).alloc (.cells #[.int .i64 0, .slice none 0 0, .int .i64 0] 30) := ⟨_, rfl⟩
  have Ma1 : Hid (MB w1 w.heap.size S A n c) := Lib.hid (by rw [hw1]; exact (MB.new _ _ _ _ _ _).next (belAlloc1 _ _))
  have RsD1 : Hid (DRes w1 (w.heap.size + 1)) := Lib.hid (by rw [hw1]; have h := DRes.new (w.alloc (.cells #[.int .i64 S, .slice A n c] 28)) 30; simpa using h)
  have Bel1 : Hid (Below w.heap.size w w1) := Lib.hid (by rw [hw1]; exact belNext (belAlloc1 _ _) (belAlloc1 _ _))
  have Hlt : Hid (w.heap.size + 1 < w1.heap.size) := Lib.hid RsD1.out.2
  have Zv1 := Lib.hid (hz.next Bel1.out)
  have Hm := Lib.hid hm
  have Hw := Lib.hid hw1
  have HS : Hid (S = z.sign) := Lib.hid hz.1
  clear hz hw1 hm
  go_enter Tryz.func98, Tryz.ntmps98
  go_wp2_with fail
  rw [← Hw.out]
  obtain ⟨⟨hMa0, hMa1, hMa2, hMa3⟩, hMa4⟩ := Ma1.out
  obtain ⟨⟨hRsD0, hRsD1, hRsD2, hRsD3, hRsD4, hRsD5⟩, hRsD6⟩ := RsD1.out
  refine (specLeftJ_any z S 1 A n c _ Zv1.out (by have := Hm.out; omega) (by omega) (by omega)).mono ?_
  rintro e w2 ⟨S2, A2, n2, c2, rfl, hzo, hb⟩
  have hzo2 := hzo.cast_ (z' := 2 * z) (by rw [show (1 : Int).toNat = 1 from rfl]; rfl)
  have Zo2 := Lib.hid hzo2
  have Hn2 : Hid ((n2 : Int) ≤ 302) := Lib.hid (by have h := shl_len Zv1.out.2.1 1; have e := hzo.2.1; rw [abs_pow_mul, show (1 : Int).toNat = 1 from rfl] at e; rw [e] at h; have := Hm.out; omega)
  have HS2 : Hid (S2 = z.sign) := Lib.hid (by rw [hzo.1]; exact sign_pow_mul _ _)
  have hs21 : -1 ≤ S2 ∧ S2 ≤ 1 := by rw [HS2.out, ← HS.out]; exact ⟨Zv1.out.sg.1, Zv1.out.sg.2.1⟩
  obtain ⟨hs21, hs22⟩ := hs21
  clear hzo hzo2
  have Sz2 := Lib.hid (Below.size hb)
  have Bel2 := Lib.hid (belNext Bel1.out hb)
  have Ma2 := Lib.hid (Ma1.out.next hb)
  have RsD2 := Lib.hid (RsD1.out.next hb)
  have Zv2 := Lib.hid (Zv1.out.next hb)
  clear hb Bel1 Ma1 RsD1 Zv1 hMa0 hMa1 hMa2 hMa3 hMa4 hRsD0 hRsD1 hRsD2 hRsD3 hRsD4 hRsD5 hRsD6
  obtain ⟨⟨hMa0, hMa1, hMa2, hMa3⟩, hMa4⟩ := Ma2.out
  obtain ⟨⟨hRsD0, hRsD1, hRsD2, hRsD3, hRsD4, hRsD5⟩, hRsD6⟩ := RsD2.out
  clear Zv2
  go_upto_region 2 with fail
  obtain ⟨w3, hw⟩ : ∃ w3, w3 = (w2.setCell ⟨w.heap.size, 0, none⟩ (.int .i64 S2)).setCell ⟨w.heap.size, 1, none⟩ (.slice A2 n2 c2) := ⟨_, rfl⟩
  rw [← hw]
  have hst1 : w3 = st w2 w.heap.size S2 A2 n2 c2 := hw
  clear hMa0 hMa1 hMa2 hMa3 hMa4 hRsD0 hRsD1 hRsD2 hRsD3 hRsD4 hRsD5 hRsD6
  have Ma3 : Hid (MB w3 w.heap.size S2 A2 n2 c2) := Lib.hid (by rw [hst1]; exact Ma2.out.over)
  have RsD3 : Hid (DRes w3 (w.heap.size + 1)) := Lib.hid (by rw [hst1]; exact (dres_st RsD2.out (by omega)))
  have Zo3 := Lib.hid (show ZO w3 _ _ _ _ _ _ _ by rw [hst1]; exact Zo2.out.st_ (.inl (by have zz0 := Hlt.out; have zz1 := Sz2.out; first | omega | (simp; done) | (simp; omega))))
  have Sz3 : Hid (w2.heap.size ≤ w3.heap.size) := Lib.hid (by rw [hst1, st_size]; exact Nat.le_refl _)
  have Bel3 : Hid (Below w.heap.size w w3) := Lib.hid (by rw [hst1]; exact belSt Bel2.out (Nat.le_refl _))
  clear Ma2 RsD2 Zo2 Bel2 hst1
  clear hw
  rcases r with _ | _
  · have Hv : Hid (mkV z false = 2 * z) := Lib.hid (by unfold mkV; simp)
    obtain ⟨⟨hMa0, hMa1, hMa2, hMa3⟩, hMa4⟩ := Ma3.out
    obtain ⟨⟨hRsD0, hRsD1, hRsD2, hRsD3, hRsD4, hRsD5⟩, hRsD6⟩ := RsD3.out
    go_wp2_with fail
    refine (specMakeD_any (2 * z) S2 (x - 1) A2 n2 c2 _ Zo3.out.zv (by have := Hn2.out; omega) (by omega) (by omega)).mono ?_
    rintro e w4 ⟨S9, A9, n9, c9, rfl, hzo, hb⟩
    rw [← Hv.out] at hzo ⊢
    have Zp4 := Lib.hid hzo
    clear hzo
    have Sz4 := Lib.hid (Below.size hb)
    have Bel4 := Lib.hid (belNext Bel3.out hb)
    have Ma4 := Lib.hid (Ma3.out.next hb)
    have RsD4 := Lib.hid (RsD3.out.next hb)
    have Zo4 := Lib.hid (Zo3.out.next hb)
    clear hb Bel3 Ma3 RsD3 Zo3 hMa0 hMa1 hMa2 hMa3 hMa4 hRsD0 hRsD1 hRsD2 hRsD3 hRsD4 hRsD5 hRsD6
    obtain ⟨⟨hMa0, hMa1, hMa2, hMa3⟩, hMa4⟩ := Ma4.out
    obtain ⟨⟨hRsD0, hRsD1, hRsD2, hRsD3, hRsD4, hRsD5⟩, hRsD6⟩ := RsD4.out
    go_wp2_with fail
    refine bodyPost_ret (v := .agg #[.int .i64 S9, .slice A9 n9 c9, .int .i64 (nx (mkV z false) (x - 1))]) (by simp [results, Tryz.results98, go_sem, hRsD0, hRsD1, hRsD2]) rfl ⟨S9, A9, n9, c9, rfl, ?_, ?_⟩
    · exact (((Zp4.out.setCell (.inl (by have zz0 := Hlt.out; have zz1 := Sz2.out; have zz2 := Sz3.out; have zz3 := Sz4.out; first | omega | (simp; done) | (simp; omega))) _).setCell (.inl (by have zz0 := Hlt.out; have zz1 := Sz2.out; have zz2 := Sz3.out; have zz3 := Sz4.out; first | omega | (simp; done) | (simp; omega))) _).setCell (.inl (by have zz0 := Hlt.out; have zz1 := Sz2.out; have zz2 := Sz3.out; have zz3 := Sz4.out; first | omega | (simp; done) | (simp; omega))) _).wide (by have zz0 := Hlt.out; have zz1 := Sz2.out; have zz2 := Sz3.out; have zz3 := Sz4.out; first | omega | (simp; done) | (simp; omega)) (by have zz0 := Hlt.out; have zz1 := Sz2.out; have zz2 := Sz3.out; have zz3 := Sz4.out; first | omega | (simp; done) | (simp; omega)) (by have zz0 := Hlt.out; have zz1 := Sz2.out; have zz2 := Sz3.out; have zz3 := Sz4.out; first | omega | (simp; done) | (simp; omega))
    · exact ((Bel4.out.setCell (by have zz0 := Hlt.out; have zz1 := Sz2.out; have zz2 := Sz3.out; have zz3 := Sz4.out; first | omega | (simp; done) | (simp; omega)) _).setCell (by have zz0 := Hlt.out; have zz1 := Sz2.out; have zz2 := Sz3.out; have zz3 := Sz4.out; first | omega | (simp; done) | (simp; omega)) _).setCell (by have zz0 := Hlt.out; have zz1 := Sz2.out; have zz2 := Sz3.out; have zz3 := Sz4.out; first | omega | (simp; done) | (simp; omega)) _
  · have Hv : Hid (mkV z true = 2 * z + z.sign) := Lib.hid (by unfold mkV; simp)
    obtain ⟨⟨hMa0, hMa1, hMa2, hMa3⟩, hMa4⟩ := Ma3.out
    obtain ⟨⟨hRsD0, hRsD1, hRsD2, hRsD3, hRsD4, hRsD5⟩, hRsD6⟩ := RsD3.out
    go_wp2_with fail
    refine wp_region_held_drew (S := fun w' => (w'.cell? ⟨w.heap.size + 1, 0, none⟩ = some (.int .i64 0))) (by kernel_rfl) RsD3.out.1.1 (fun hHeld => ?_)
    refine wpAnyH_take (i := 1) (v := ?_) rfl (by kernel_rfl) (by kernel_rfl) (by kernel_rfl) (fun _ _ _ h => h) (Or.inl ⟨by rfl, ?_⟩) (by assumption) ?_
    rotate_left
    · (intro w hSw; (try dsimp only at hSw); go_simp; (try with_reducible rfl))
    try simp only [Act.put, List.setIfInBounds_toArray, List.set_cons_zero, List.set_cons_succ, List.getElem_toArray, List.getElem_cons_succ, List.getElem_cons_zero]
    refine wpAnyH_ready (rs := [0, 2]) (by kernel_rfl) (by simp) ?_
    refine AllReadyH.cons rfl (fun K hK => ?_) (AllReadyH.cons rfl (fun K hK => ?_) AllReadyH.nil)
    · go_simp
      refine hK.out _ _ hHeld (fun hHeld => ?_)
      clear hK K
      try simp only [Act.put, List.setIfInBounds_toArray, List.set_cons_zero, List.set_cons_succ, List.getElem_toArray, List.getElem_cons_succ, List.getElem_cons_zero]
      refine wpAnyH_ready (rs := [2]) (by kernel_rfl) (by simp) ?_
      refine AllReadyH.cons rfl (fun K hK => ?_) AllReadyH.nil
      · go_simp
        refine hK.out _ _ hHeld (fun hHeld => ?_)
        clear hK K
        try simp only [Act.put, List.setIfInBounds_toArray, List.set_cons_zero, List.set_cons_succ, List.getElem_toArray, List.getElem_cons_succ, List.getElem_cons_zero]
        refine wpAnyH_ready (rs := [3]) (by kernel_rfl) (by simp) ?_
        refine AllReadyH.cons rfl (fun K hK => ?_) AllReadyH.nil
        · go_simp
          refine (specOf_any S2 w3.drew (by omega) (by omega)).mono ?_
          rintro e w4 ⟨val, rfl, hv, hb0⟩
          have hb : Below w3.heap.size w3 w4 := belDrew hb0
          obtain ⟨S3, A3, n3, c3, rfl, hzo⟩ := Wz.zo hv (Nat.le_refl _)
          refine hK.out _ _ (RsD3.out.next hb).1.1 (fun hHeld => ?_)
          have Zs4 := Lib.hid hzo.zv
          have Hn3 : Hid ((n3 : Int) ≤ 1) := Lib.hid (len_of_lt (k := 1) hzo.zv.len (by omega))
          clear hK K hb0 hv hzo
          have Sz4 := Lib.hid (Below.size hb)
          have Bel4 := Lib.hid (belNext Bel3.out hb)
          have Ma4 := Lib.hid (Ma3.out.next hb)
          have RsD4 := Lib.hid (RsD3.out.next hb)
          have Zo4 := Lib.hid (Zo3.out.next hb)
          clear hb Bel3 Ma3 RsD3 Zo3 hMa0 hMa1 hMa2 hMa3 hMa4 hRsD0 hRsD1 hRsD2 hRsD3 hRsD4 hRsD5 hRsD6
          obtain ⟨⟨hMa0, hMa1, hMa2, hMa3⟩, hMa4⟩ := Ma4.out
          obtain ⟨⟨hRsD0, hRsD1, hRsD2, hRsD3, hRsD4, hRsD5⟩, hRsD6⟩ := RsD4.out
          try simp only [Act.put, List.setIfInBounds_toArray, List.set_cons_zero, List.set_cons_succ, List.getElem_toArray, List.getElem_cons_succ, List.getElem_cons_zero]
          refine wpAnyH_ready (rs := [4]) (by kernel_rfl) (by simp) ?_
          refine AllReadyH.cons rfl (fun K hK => ?_) AllReadyH.nil
          go_simp
          refine (specAddZ_any (2 * z) S2 S2 S3 A2 A3 n2 n3 c2 c3 w4 Zo4.out.zv Zs4.out (by have := Hn2.out; omega) (by have := Hn3.out; omega)).mono ?_
          rintro e w5 ⟨S4, A4, n4, c4, rfl, hzo0, hb⟩
          have hzo := hzo0.cast_ (z' := mkV z true) (by rw [Hv.out, HS2.out])
          refine hK.out _ _ (RsD4.out.next hb).1.1 (fun hHeld => ?_)
          clear hK K hzo0
          have Hn4 : Hid ((n4 : Int) ≤ 400) := Lib.hid (by have h := sum_sg (a := 2 * z) (b := S2) Zo4.out.2.1 Zs4.out.2.1; have e := hzo.2.1; rw [Hv.out, ← HS2.out] at e; have := Hn2.out; have := Hn3.out; omega)
          have Zo5 := Lib.hid hzo
          clear hzo Zo4 Zs4
          have Sz5 := Lib.hid (Below.size hb)
          have Bel5 := Lib.hid (belNext Bel4.out hb)
          have Ma5 := Lib.hid (Ma4.out.next hb)
          have RsD5 := Lib.hid (RsD4.out.next hb)
          clear hb Bel4 Ma4 RsD4 hMa0 hMa1 hMa2 hMa3 hMa4 hRsD0 hRsD1 hRsD2 hRsD3 hRsD4 hRsD5 hRsD6
          obtain ⟨⟨hMa0, hMa1, hMa2, hMa3⟩, hMa4⟩ := Ma5.out
          obtain ⟨⟨hRsD0, hRsD1, hRsD2, hRsD3, hRsD4, hRsD5⟩, hRsD6⟩ := RsD5.out
          try simp only [Act.put, List.setIfInBounds_toArray, List.set_cons_zero, List.set_cons_succ, List.getElem_toArray, List.getElem_cons_succ, List.getElem_cons_zero]
          refine wpAnyH_ready (rs := [5]) (by kernel_rfl) (by simp) ?_
          refine AllReadyH.cons rfl (fun K hK => ?_) AllReadyH.nil
          go_simp
          refine hK.out _ (st w5 w.heap.size S4 A4 n4 c4) (dres_st RsD5.out (by omega)).1.1 (fun hHeld => ?_)
          clear hK K hHeld
          try simp only [Act.put, List.setIfInBounds_toArray, List.set_cons_zero, List.set_cons_succ, List.getElem_toArray, List.getElem_cons_succ, List.getElem_cons_zero]
          refine wpAnyH_done (by kernel_rfl) ?_ _
          obtain ⟨w6, hst1⟩ : ∃ w6, w6 = st w5 w.heap.size S4 A4 n4 c4 := ⟨_, rfl⟩
          rw [← hst1]
          clear hMa0 hMa1 hMa2 hMa3 hMa4 hRsD0 hRsD1 hRsD2 hRsD3 hRsD4 hRsD5 hRsD6
          have Ma6 : Hid (MB w6 w.heap.size S4 A4 n4 c4) := Lib.hid (by rw [hst1]; exact Ma5.out.over)
          have RsD6 : Hid (DRes w6 (w.heap.size + 1)) := Lib.hid (by rw [hst1]; exact (dres_st RsD5.out (by omega)))
          have Zo6 := Lib.hid (show ZO w6 _ _ _ _ _ _ _ by rw [hst1]; exact Zo5.out.st_ (.inl (by have zz0 := Hlt.out; have zz1 := Sz2.out; have zz2 := Sz3.out; have zz3 := Sz4.out; have zz4 := Sz5.out; first | omega | (simp; done) | (simp; omega))))
          have Sz6 : Hid (w5.heap.size ≤ w6.heap.size) := Lib.hid (by rw [hst1, st_size]; exact Nat.le_refl _)
          have Bel6 : Hid (Below w.heap.size w w6) := Lib.hid (by rw [hst1]; exact belSt Bel5.out (Nat.le_refl _))
          clear Ma5 RsD5 Zo5 Bel5 hst1
          obtain ⟨⟨hMa0, hMa1, hMa2, hMa3⟩, hMa4⟩ := Ma6.out
          obtain ⟨⟨hRsD0, hRsD1, hRsD2, hRsD3, hRsD4, hRsD5⟩, hRsD6⟩ := RsD6.out
          go_wp2_with fail
          refine (specMakeD_any (mkV z true) S4 (x - 1) A4 n4 c4 _ Zo6.out.zv (by have := Hn4.out; omega) (by omega) (by omega)).mono ?_
          rintro e w7 ⟨S9, A9, n9, c9, rfl, hzo, hb⟩
          have Zp7 := Lib.hid hzo
          clear hzo
          have Sz7 := Lib.hid (Below.size hb)
          have Bel7 := Lib.hid (belNext Bel6.out hb)
          have Ma7 := Lib.hid (Ma6.out.next hb)
          have RsD7 := Lib.hid (RsD6.out.next hb)
          have Zo7 := Lib.hid (Zo6.out.next hb)
          clear hb Bel6 Ma6 RsD6 Zo6 hMa0 hMa1 hMa2 hMa3 hMa4 hRsD0 hRsD1 hRsD2 hRsD3 hRsD4 hRsD5 hRsD6
          obtain ⟨⟨hMa0, hMa1, hMa2, hMa3⟩, hMa4⟩ := Ma7.out
          obtain ⟨⟨hRsD0, hRsD1, hRsD2, hRsD3, hRsD4, hRsD5⟩, hRsD6⟩ := RsD7.out
          go_wp2_with fail
          refine bodyPost_ret (v := .agg #[.int .i64 S9, .slice A9 n9 c9, .int .i64 (nx (mkV z true) (x - 1))]) (by simp [results, Tryz.results98, go_sem, hRsD0, hRsD1, hRsD2]) rfl ⟨S9, A9, n9, c9, rfl, ?_, ?_⟩
          · exact (((Zp7.out.setCell (.inl (by have zz0 := Hlt.out; have zz1 := Sz2.out; have zz2 := Sz3.out; have zz3 := Sz4.out; have zz4 := Sz5.out; have zz5 := Sz6.out; have zz6 := Sz7.out; first | omega | (simp; done) | (simp; omega))) _).setCell (.inl (by have zz0 := Hlt.out; have zz1 := Sz2.out; have zz2 := Sz3.out; have zz3 := Sz4.out; have zz4 := Sz5.out; have zz5 := Sz6.out; have zz6 := Sz7.out; first | omega | (simp; done) | (simp; omega))) _).setCell (.inl (by have zz0 := Hlt.out; have zz1 := Sz2.out; have zz2 := Sz3.out; have zz3 := Sz4.out; have zz4 := Sz5.out; have zz5 := Sz6.out; have zz6 := Sz7.out; first | omega | (simp; done) | (simp; omega))) _).wide (by have zz0 := Hlt.out; have zz1 := Sz2.out; have zz2 := Sz3.out; have zz3 := Sz4.out; have zz4 := Sz5.out; have zz5 := Sz6.out; have zz6 := Sz7.out; first | omega | (simp; done) | (simp; omega)) (by have zz0 := Hlt.out; have zz1 := Sz2.out; have zz2 := Sz3.out; have zz3 := Sz4.out; have zz4 := Sz5.out; have zz5 := Sz6.out; have zz6 := Sz7.out; first | omega | (simp; done) | (simp; omega)) (by have zz0 := Hlt.out; have zz1 := Sz2.out; have zz2 := Sz3.out; have zz3 := Sz4.out; have zz4 := Sz5.out; have zz5 := Sz6.out; have zz6 := Sz7.out; first | omega | (simp; done) | (simp; omega))
          · exact ((Bel7.out.setCell (by have zz0 := Hlt.out; have zz1 := Sz2.out; have zz2 := Sz3.out; have zz3 := Sz4.out; have zz4 := Sz5.out; have zz5 := Sz6.out; have zz6 := Sz7.out; first | omega | (simp; done) | (simp; omega)) _).setCell (by have zz0 := Hlt.out; have zz1 := Sz2.out; have zz2 := Sz3.out; have zz3 := Sz4.out; have zz4 := Sz5.out; have zz5 := Sz6.out; have zz6 := Sz7.out; first | omega | (simp; done) | (simp; omega)) _).setCell (by have zz0 := Hlt.out; have zz1 := Sz2.out; have zz2 := Sz3.out; have zz3 := Sz4.out; have zz4 := Sz5.out; have zz5 := Sz6.out; have zz6 := Sz7.out; first | omega | (simp; done) | (simp; omega)) _
    · go_simp
      refine hK.out _ _ hHeld (fun hHeld => ?_)
      clear hK K
      try simp only [Act.put, List.setIfInBounds_toArray, List.set_cons_zero, List.set_cons_succ, List.getElem_toArray, List.getElem_cons_succ, List.getElem_cons_zero]
      refine wpAnyH_ready (rs := [0, 3]) (by kernel_rfl) (by simp) ?_
      refine AllReadyH.cons rfl (fun K hK => ?_) (AllReadyH.cons rfl (fun K hK => ?_) AllReadyH.nil)
      · go_simp
        refine hK.out _ _ hHeld (fun hHeld => ?_)
        clear hK K
        try simp only [Act.put, List.setIfInBounds_toArray, List.set_cons_zero, List.set_cons_succ, List.getElem_toArray, List.getElem_cons_succ, List.getElem_cons_zero]
        refine wpAnyH_ready (rs := [3]) (by kernel_rfl) (by simp) ?_
        refine AllReadyH.cons rfl (fun K hK => ?_) AllReadyH.nil
        · go_simp
          refine (specOf_any S2 w3.drew (by omega) (by omega)).mono ?_
          rintro e w4 ⟨val, rfl, hv, hb0⟩
          have hb : Below w3.heap.size w3 w4 := belDrew hb0
          obtain ⟨S3, A3, n3, c3, rfl, hzo⟩ := Wz.zo hv (Nat.le_refl _)
          refine hK.out _ _ (RsD3.out.next hb).1.1 (fun hHeld => ?_)
          have Zs4 := Lib.hid hzo.zv
          have Hn3 : Hid ((n3 : Int) ≤ 1) := Lib.hid (len_of_lt (k := 1) hzo.zv.len (by omega))
          clear hK K hb0 hv hzo
          have Sz4 := Lib.hid (Below.size hb)
          have Bel4 := Lib.hid (belNext Bel3.out hb)
          have Ma4 := Lib.hid (Ma3.out.next hb)
          have RsD4 := Lib.hid (RsD3.out.next hb)
          have Zo4 := Lib.hid (Zo3.out.next hb)
          clear hb Bel3 Ma3 RsD3 Zo3 hMa0 hMa1 hMa2 hMa3 hMa4 hRsD0 hRsD1 hRsD2 hRsD3 hRsD4 hRsD5 hRsD6
          obtain ⟨⟨hMa0, hMa1, hMa2, hMa3⟩, hMa4⟩ := Ma4.out
          obtain ⟨⟨hRsD0, hRsD1, hRsD2, hRsD3, hRsD4, hRsD5⟩, hRsD6⟩ := RsD4.out
          try simp only [Act.put, List.setIfInBounds_toArray, List.set_cons_zero, List.set_cons_succ, List.getElem_toArray, List.getElem_cons_succ, List.getElem_cons_zero]
          refine wpAnyH_ready (rs := [4]) (by kernel_rfl) (by simp) ?_
          refine AllReadyH.cons rfl (fun K hK => ?_) AllReadyH.nil
          go_simp
          refine (specAddZ_any (2 * z) S2 S2 S3 A2 A3 n2 n3 c2 c3 w4 Zo4.out.zv Zs4.out (by have := Hn2.out; omega) (by have := Hn3.out; omega)).mono ?_
          rintro e w5 ⟨S4, A4, n4, c4, rfl, hzo0, hb⟩
          have hzo := hzo0.cast_ (z' := mkV z true) (by rw [Hv.out, HS2.out])
          refine hK.out _ _ (RsD4.out.next hb).1.1 (fun hHeld => ?_)
          clear hK K hzo0
          have Hn4 : Hid ((n4 : Int) ≤ 400) := Lib.hid (by have h := sum_sg (a := 2 * z) (b := S2) Zo4.out.2.1 Zs4.out.2.1; have e := hzo.2.1; rw [Hv.out, ← HS2.out] at e; have := Hn2.out; have := Hn3.out; omega)
          have Zo5 := Lib.hid hzo
          clear hzo Zo4 Zs4
          have Sz5 := Lib.hid (Below.size hb)
          have Bel5 := Lib.hid (belNext Bel4.out hb)
          have Ma5 := Lib.hid (Ma4.out.next hb)
          have RsD5 := Lib.hid (RsD4.out.next hb)
          clear hb Bel4 Ma4 RsD4 hMa0 hMa1 hMa2 hMa3 hMa4 hRsD0 hRsD1 hRsD2 hRsD3 hRsD4 hRsD5 hRsD6
          obtain ⟨⟨hMa0, hMa1, hMa2, hMa3⟩, hMa4⟩ := Ma5.out
          obtain ⟨⟨hRsD0, hRsD1, hRsD2, hRsD3, hRsD4, hRsD5⟩, hRsD6⟩ := RsD5.out
          try simp only [Act.put, List.setIfInBounds_toArray, List.set_cons_zero, List.set_cons_succ, List.getElem_toArray, List.getElem_cons_succ, List.getElem_cons_zero]
          refine wpAnyH_ready (rs := [5]) (by kernel_rfl) (by simp) ?_
          refine AllReadyH.cons rfl (fun K hK => ?_) AllReadyH.nil
          go_simp
          refine hK.out _ (st w5 w.heap.size S4 A4 n4 c4) (dres_st RsD5.out (by omega)).1.1 (fun hHeld => ?_)
          clear hK K hHeld
          try simp only [Act.put, List.setIfInBounds_toArray, List.set_cons_zero, List.set_cons_succ, List.getElem_toArray, List.getElem_cons_succ, List.getElem_cons_zero]
          refine wpAnyH_done (by kernel_rfl) ?_ _
          obtain ⟨w6, hst1⟩ : ∃ w6, w6 = st w5 w.heap.size S4 A4 n4 c4 := ⟨_, rfl⟩
          rw [← hst1]
          clear hMa0 hMa1 hMa2 hMa3 hMa4 hRsD0 hRsD1 hRsD2 hRsD3 hRsD4 hRsD5 hRsD6
          have Ma6 : Hid (MB w6 w.heap.size S4 A4 n4 c4) := Lib.hid (by rw [hst1]; exact Ma5.out.over)
          have RsD6 : Hid (DRes w6 (w.heap.size + 1)) := Lib.hid (by rw [hst1]; exact (dres_st RsD5.out (by omega)))
          have Zo6 := Lib.hid (show ZO w6 _ _ _ _ _ _ _ by rw [hst1]; exact Zo5.out.st_ (.inl (by have zz0 := Hlt.out; have zz1 := Sz2.out; have zz2 := Sz3.out; have zz3 := Sz4.out; have zz4 := Sz5.out; first | omega | (simp; done) | (simp; omega))))
          have Sz6 : Hid (w5.heap.size ≤ w6.heap.size) := Lib.hid (by rw [hst1, st_size]; exact Nat.le_refl _)
          have Bel6 : Hid (Below w.heap.size w w6) := Lib.hid (by rw [hst1]; exact belSt Bel5.out (Nat.le_refl _))
          clear Ma5 RsD5 Zo5 Bel5 hst1
          obtain ⟨⟨hMa0, hMa1, hMa2, hMa3⟩, hMa4⟩ := Ma6.out
          obtain ⟨⟨hRsD0, hRsD1, hRsD2, hRsD3, hRsD4, hRsD5⟩, hRsD6⟩ := RsD6.out
          go_wp2_with fail
          refine (specMakeD_any (mkV z true) S4 (x - 1) A4 n4 c4 _ Zo6.out.zv (by have := Hn4.out; omega) (by omega) (by omega)).mono ?_
          rintro e w7 ⟨S9, A9, n9, c9, rfl, hzo, hb⟩
          have Zp7 := Lib.hid hzo
          clear hzo
          have Sz7 := Lib.hid (Below.size hb)
          have Bel7 := Lib.hid (belNext Bel6.out hb)
          have Ma7 := Lib.hid (Ma6.out.next hb)
          have RsD7 := Lib.hid (RsD6.out.next hb)
          have Zo7 := Lib.hid (Zo6.out.next hb)
          clear hb Bel6 Ma6 RsD6 Zo6 hMa0 hMa1 hMa2 hMa3 hMa4 hRsD0 hRsD1 hRsD2 hRsD3 hRsD4 hRsD5 hRsD6
          obtain ⟨⟨hMa0, hMa1, hMa2, hMa3⟩, hMa4⟩ := Ma7.out
          obtain ⟨⟨hRsD0, hRsD1, hRsD2, hRsD3, hRsD4, hRsD5⟩, hRsD6⟩ := RsD7.out
          go_wp2_with fail
          refine bodyPost_ret (v := .agg #[.int .i64 S9, .slice A9 n9 c9, .int .i64 (nx (mkV z true) (x - 1))]) (by simp [results, Tryz.results98, go_sem, hRsD0, hRsD1, hRsD2]) rfl ⟨S9, A9, n9, c9, rfl, ?_, ?_⟩
          · exact (((Zp7.out.setCell (.inl (by have zz0 := Hlt.out; have zz1 := Sz2.out; have zz2 := Sz3.out; have zz3 := Sz4.out; have zz4 := Sz5.out; have zz5 := Sz6.out; have zz6 := Sz7.out; first | omega | (simp; done) | (simp; omega))) _).setCell (.inl (by have zz0 := Hlt.out; have zz1 := Sz2.out; have zz2 := Sz3.out; have zz3 := Sz4.out; have zz4 := Sz5.out; have zz5 := Sz6.out; have zz6 := Sz7.out; first | omega | (simp; done) | (simp; omega))) _).setCell (.inl (by have zz0 := Hlt.out; have zz1 := Sz2.out; have zz2 := Sz3.out; have zz3 := Sz4.out; have zz4 := Sz5.out; have zz5 := Sz6.out; have zz6 := Sz7.out; first | omega | (simp; done) | (simp; omega))) _).wide (by have zz0 := Hlt.out; have zz1 := Sz2.out; have zz2 := Sz3.out; have zz3 := Sz4.out; have zz4 := Sz5.out; have zz5 := Sz6.out; have zz6 := Sz7.out; first | omega | (simp; done) | (simp; omega)) (by have zz0 := Hlt.out; have zz1 := Sz2.out; have zz2 := Sz3.out; have zz3 := Sz4.out; have zz4 := Sz5.out; have zz5 := Sz6.out; have zz6 := Sz7.out; first | omega | (simp; done) | (simp; omega)) (by have zz0 := Hlt.out; have zz1 := Sz2.out; have zz2 := Sz3.out; have zz3 := Sz4.out; have zz4 := Sz5.out; have zz5 := Sz6.out; have zz6 := Sz7.out; first | omega | (simp; done) | (simp; omega))
          · exact ((Bel7.out.setCell (by have zz0 := Hlt.out; have zz1 := Sz2.out; have zz2 := Sz3.out; have zz3 := Sz4.out; have zz4 := Sz5.out; have zz5 := Sz6.out; have zz6 := Sz7.out; first | omega | (simp; done) | (simp; omega)) _).setCell (by have zz0 := Hlt.out; have zz1 := Sz2.out; have zz2 := Sz3.out; have zz3 := Sz4.out; have zz4 := Sz5.out; have zz5 := Sz6.out; have zz6 := Sz7.out; first | omega | (simp; done) | (simp; omega)) _).setCell (by have zz0 := Hlt.out; have zz1 := Sz2.out; have zz2 := Sz3.out; have zz3 := Sz4.out; have zz4 := Sz5.out; have zz5 := Sz6.out; have zz6 := Sz7.out; first | omega | (simp; done) | (simp; omega)) _
      · go_simp
        refine (specOf_any S2 w3.drew (by omega) (by omega)).mono ?_
        rintro e w4 ⟨val, rfl, hv, hb0⟩
        have hb : Below w3.heap.size w3 w4 := belDrew hb0
        obtain ⟨S3, A3, n3, c3, rfl, hzo⟩ := Wz.zo hv (Nat.le_refl _)
        refine hK.out _ _ (RsD3.out.next hb).1.1 (fun hHeld => ?_)
        have Zs4 := Lib.hid hzo.zv
        have Hn3 : Hid ((n3 : Int) ≤ 1) := Lib.hid (len_of_lt (k := 1) hzo.zv.len (by omega))
        clear hK K hb0 hv hzo
        have Sz4 := Lib.hid (Below.size hb)
        have Bel4 := Lib.hid (belNext Bel3.out hb)
        have Ma4 := Lib.hid (Ma3.out.next hb)
        have RsD4 := Lib.hid (RsD3.out.next hb)
        have Zo4 := Lib.hid (Zo3.out.next hb)
        clear hb Bel3 Ma3 RsD3 Zo3 hMa0 hMa1 hMa2 hMa3 hMa4 hRsD0 hRsD1 hRsD2 hRsD3 hRsD4 hRsD5 hRsD6
        obtain ⟨⟨hMa0, hMa1, hMa2, hMa3⟩, hMa4⟩ := Ma4.out
        obtain ⟨⟨hRsD0, hRsD1, hRsD2, hRsD3, hRsD4, hRsD5⟩, hRsD6⟩ := RsD4.out
        try simp only [Act.put, List.setIfInBounds_toArray, List.set_cons_zero, List.set_cons_succ, List.getElem_toArray, List.getElem_cons_succ, List.getElem_cons_zero]
        refine wpAnyH_ready (rs := [0]) (by kernel_rfl) (by simp) ?_
        refine AllReadyH.cons rfl (fun K hK => ?_) AllReadyH.nil
        · go_simp
          refine hK.out _ _ hHeld (fun hHeld => ?_)
          clear hK K
          try simp only [Act.put, List.setIfInBounds_toArray, List.set_cons_zero, List.set_cons_succ, List.getElem_toArray, List.getElem_cons_succ, List.getElem_cons_zero]
          refine wpAnyH_ready (rs := [4]) (by kernel_rfl) (by simp) ?_
          refine AllReadyH.cons rfl (fun K hK => ?_) AllReadyH.nil
          go_simp
          refine (specAddZ_any (2 * z) S2 S2 S3 A2 A3 n2 n3 c2 c3 w4 Zo4.out.zv Zs4.out (by have := Hn2.out; omega) (by have := Hn3.out; omega)).mono ?_
          rintro e w5 ⟨S4, A4, n4, c4, rfl, hzo0, hb⟩
          have hzo := hzo0.cast_ (z' := mkV z true) (by rw [Hv.out, HS2.out])
          refine hK.out _ _ (RsD4.out.next hb).1.1 (fun hHeld => ?_)
          clear hK K hzo0
          have Hn4 : Hid ((n4 : Int) ≤ 400) := Lib.hid (by have h := sum_sg (a := 2 * z) (b := S2) Zo4.out.2.1 Zs4.out.2.1; have e := hzo.2.1; rw [Hv.out, ← HS2.out] at e; have := Hn2.out; have := Hn3.out; omega)
          have Zo5 := Lib.hid hzo
          clear hzo Zo4 Zs4
          have Sz5 := Lib.hid (Below.size hb)
          have Bel5 := Lib.hid (belNext Bel4.out hb)
          have Ma5 := Lib.hid (Ma4.out.next hb)
          have RsD5 := Lib.hid (RsD4.out.next hb)
          clear hb Bel4 Ma4 RsD4 hMa0 hMa1 hMa2 hMa3 hMa4 hRsD0 hRsD1 hRsD2 hRsD3 hRsD4 hRsD5 hRsD6
          obtain ⟨⟨hMa0, hMa1, hMa2, hMa3⟩, hMa4⟩ := Ma5.out
          obtain ⟨⟨hRsD0, hRsD1, hRsD2, hRsD3, hRsD4, hRsD5⟩, hRsD6⟩ := RsD5.out
          try simp only [Act.put, List.setIfInBounds_toArray, List.set_cons_zero, List.set_cons_succ, List.getElem_toArray, List.getElem_cons_succ, List.getElem_cons_zero]
          refine wpAnyH_ready (rs := [5]) (by kernel_rfl) (by simp) ?_
          refine AllReadyH.cons rfl (fun K hK => ?_) AllReadyH.nil
          go_simp
          refine hK.out _ (st w5 w.heap.size S4 A4 n4 c4) (dres_st RsD5.out (by omega)).1.1 (fun hHeld => ?_)
          clear hK K hHeld
          try simp only [Act.put, List.setIfInBounds_toArray, List.set_cons_zero, List.set_cons_succ, List.getElem_toArray, List.getElem_cons_succ, List.getElem_cons_zero]
          refine wpAnyH_done (by kernel_rfl) ?_ _
          obtain ⟨w6, hst1⟩ : ∃ w6, w6 = st w5 w.heap.size S4 A4 n4 c4 := ⟨_, rfl⟩
          rw [← hst1]
          clear hMa0 hMa1 hMa2 hMa3 hMa4 hRsD0 hRsD1 hRsD2 hRsD3 hRsD4 hRsD5 hRsD6
          have Ma6 : Hid (MB w6 w.heap.size S4 A4 n4 c4) := Lib.hid (by rw [hst1]; exact Ma5.out.over)
          have RsD6 : Hid (DRes w6 (w.heap.size + 1)) := Lib.hid (by rw [hst1]; exact (dres_st RsD5.out (by omega)))
          have Zo6 := Lib.hid (show ZO w6 _ _ _ _ _ _ _ by rw [hst1]; exact Zo5.out.st_ (.inl (by have zz0 := Hlt.out; have zz1 := Sz2.out; have zz2 := Sz3.out; have zz3 := Sz4.out; have zz4 := Sz5.out; first | omega | (simp; done) | (simp; omega))))
          have Sz6 : Hid (w5.heap.size ≤ w6.heap.size) := Lib.hid (by rw [hst1, st_size]; exact Nat.le_refl _)
          have Bel6 : Hid (Below w.heap.size w w6) := Lib.hid (by rw [hst1]; exact belSt Bel5.out (Nat.le_refl _))
          clear Ma5 RsD5 Zo5 Bel5 hst1
          obtain ⟨⟨hMa0, hMa1, hMa2, hMa3⟩, hMa4⟩ := Ma6.out
          obtain ⟨⟨hRsD0, hRsD1, hRsD2, hRsD3, hRsD4, hRsD5⟩, hRsD6⟩ := RsD6.out
          go_wp2_with fail
          refine (specMakeD_any (mkV z true) S4 (x - 1) A4 n4 c4 _ Zo6.out.zv (by have := Hn4.out; omega) (by omega) (by omega)).mono ?_
          rintro e w7 ⟨S9, A9, n9, c9, rfl, hzo, hb⟩
          have Zp7 := Lib.hid hzo
          clear hzo
          have Sz7 := Lib.hid (Below.size hb)
          have Bel7 := Lib.hid (belNext Bel6.out hb)
          have Ma7 := Lib.hid (Ma6.out.next hb)
          have RsD7 := Lib.hid (RsD6.out.next hb)
          have Zo7 := Lib.hid (Zo6.out.next hb)
          clear hb Bel6 Ma6 RsD6 Zo6 hMa0 hMa1 hMa2 hMa3 hMa4 hRsD0 hRsD1 hRsD2 hRsD3 hRsD4 hRsD5 hRsD6
          obtain ⟨⟨hMa0, hMa1, hMa2, hMa3⟩, hMa4⟩ := Ma7.out
          obtain ⟨⟨hRsD0, hRsD1, hRsD2, hRsD3, hRsD4, hRsD5⟩, hRsD6⟩ := RsD7.out
          go_wp2_with fail
          refine bodyPost_ret (v := .agg #[.int .i64 S9, .slice A9 n9 c9, .int .i64 (nx (mkV z true) (x - 1))]) (by simp [results, Tryz.results98, go_sem, hRsD0, hRsD1, hRsD2]) rfl ⟨S9, A9, n9, c9, rfl, ?_, ?_⟩
          · exact (((Zp7.out.setCell (.inl (by have zz0 := Hlt.out; have zz1 := Sz2.out; have zz2 := Sz3.out; have zz3 := Sz4.out; have zz4 := Sz5.out; have zz5 := Sz6.out; have zz6 := Sz7.out; first | omega | (simp; done) | (simp; omega))) _).setCell (.inl (by have zz0 := Hlt.out; have zz1 := Sz2.out; have zz2 := Sz3.out; have zz3 := Sz4.out; have zz4 := Sz5.out; have zz5 := Sz6.out; have zz6 := Sz7.out; first | omega | (simp; done) | (simp; omega))) _).setCell (.inl (by have zz0 := Hlt.out; have zz1 := Sz2.out; have zz2 := Sz3.out; have zz3 := Sz4.out; have zz4 := Sz5.out; have zz5 := Sz6.out; have zz6 := Sz7.out; first | omega | (simp; done) | (simp; omega))) _).wide (by have zz0 := Hlt.out; have zz1 := Sz2.out; have zz2 := Sz3.out; have zz3 := Sz4.out; have zz4 := Sz5.out; have zz5 := Sz6.out; have zz6 := Sz7.out; first | omega | (simp; done) | (simp; omega)) (by have zz0 := Hlt.out; have zz1 := Sz2.out; have zz2 := Sz3.out; have zz3 := Sz4.out; have zz4 := Sz5.out; have zz5 := Sz6.out; have zz6 := Sz7.out; first | omega | (simp; done) | (simp; omega)) (by have zz0 := Hlt.out; have zz1 := Sz2.out; have zz2 := Sz3.out; have zz3 := Sz4.out; have zz4 := Sz5.out; have zz5 := Sz6.out; have zz6 := Sz7.out; first | omega | (simp; done) | (simp; omega))
          · exact ((Bel7.out.setCell (by have zz0 := Hlt.out; have zz1 := Sz2.out; have zz2 := Sz3.out; have zz3 := Sz4.out; have zz4 := Sz5.out; have zz5 := Sz6.out; have zz6 := Sz7.out; first | omega | (simp; done) | (simp; omega)) _).setCell (by have zz0 := Hlt.out; have zz1 := Sz2.out; have zz2 := Sz3.out; have zz3 := Sz4.out; have zz4 := Sz5.out; have zz5 := Sz6.out; have zz6 := Sz7.out; first | omega | (simp; done) | (simp; omega)) _).setCell (by have zz0 := Hlt.out; have zz1 := Sz2.out; have zz2 := Sz3.out; have zz3 := Sz4.out; have zz4 := Sz5.out; have zz5 := Sz6.out; have zz6 := Sz7.out; first | omega | (simp; done) | (simp; omega)) _

end Go.Proofs.YtcjamfoiilgfoaaGreatDoor
/- Quotients of floats, of the model and of the program. -/
namespace Go.Proofs.YtcjamfoiilgfoaaGreatDoor
set_option maxRecDepth 100000
open Go.RowKit
set_option linter.unusedSimpArgs false
set_option linter.unusedVariables false
attribute [local go_sem ↓] Go.wp_at_zero Go.wp_at_succ

end Go.Proofs.YtcjamfoiilgfoaaGreatDoor
/- DivideIn, of the model and of the program. -/
namespace Go.Proofs.YtcjamfoiilgfoaaGreatDoor
set_option maxRecDepth 100000
open Go.RowKit
set_option linter.unusedSimpArgs false
set_option linter.unusedVariables false
attribute [local go_sem ↓] Go.wp_at_zero Go.wp_at_succ

/-- a quotient of floats -/
def diF (x y : Nat) (mode : Int) : Nat := xF (ovZ (fz x) (fe x) (fz y) (fe y)) (ovE (fz x) (fe x) (fz y) (fe y)) (sgn x * sgn y) mode
def diL (x y : Nat) (mode : Int) : Int := xL (ovZ (fz x) (fe x) (fz y) (fe y)) (ovE (fz x) (fe x) (fz y) (fe y)) mode
def dqC (x y : Nat) (mode : Int) : Int := if ckE [x, y] mode = 0 then (if fz y = 0 then 5 else 0) else ckE [x, y] mode
def dqF (x y : Nat) (mode : Int) : Nat := if dqC x y mode = 0 then diF x y mode else 0
def dqL (x y : Nat) (mode : Int) : Int := if dqC x y mode = 0 then diL x y mode else 0
theorem fz_zero {b : Nat} : fz b = 0 ↔ place32 b = 0 := by
  have h1 := place_cases b
  have h2 := mant_zero (b % 2147483648)
  unfold fz ofM smant32
  rw [nz_eq_zero]
  split <;> omega
theorem blen_small {b : Nat} (hf : fin32 b = true) : (blen (fz b).natAbs : Int) ≤ 24 := by
  have h1 := fz_len hf rfl
  have h2 := blen_bound (z := fz b) rfl
  omega
theorem twice_len {v u n : Nat} (h : u ≤ 2 * v + 1) (hn : (limbs v).length ≤ n) : (limbs u).length ≤ n + 1 := by
  rw [limbs_len_le] at hn ⊢
  have hB : Bs ^ (n + 1) = Bs ^ n * Bs := Nat.pow_succ _ _
  have hb : Bs = 16777216 := rfl
  rw [hb] at hB hn ⊢
  generalize (16777216 : Nat) ^ n = p at *
  omega
end Go.Proofs.YtcjamfoiilgfoaaGreatDoor
