/- Texts of this seat, joined: Dm Do Dn Qa Qb -/
import Derived.Test.YtnecnbonnidijaaDoorGQ6
import Derived.Test.YtnecnbonnidijaaDoorGQ4
import Derived.Test.YtnecnbonnidijaaDoorGQ1
import Derived.Deep.DeepCutAuto
import Derived.Deep.OwnRows
import Derived.Deep.DrawnRows
import Derived.Test.YtnecnbonnidijaaDoorGQ2
import Derived.Test.YtnecnbonnidijaaDoorGQ7
import Derived.Test.YtnecnbonnidijaaDoorGQ9
/- Quotients bit by bit: plain mathematics. -/
namespace Go.Proofs.YtnecnbonnidijaaDoor
set_option maxRecDepth 100000
open Go.RowKit

/-- one bit more -/
theorem bit_more (a m : Nat) : a / 2 ^ m = 2 * (a / 2 ^ (m + 1)) + bt a m := by
  unfold bt
  rw [Nat.pow_succ, ← Nat.div_div_eq_div_mul]
  omega
theorem dv_parts {a b m R : Nat} (hb : 0 < b) (hR : R = 2 * (a / 2 ^ (m + 1) % b) + bt a m) : a / 2 ^ m = b * (2 * (a / 2 ^ (m + 1) / b)) + R ∧ R < 2 * b := by
  have h1 := bit_more a m
  have h2 := Nat.div_add_mod (a / 2 ^ (m + 1)) b
  have h3 := Nat.mod_lt (a / 2 ^ (m + 1)) hb
  have h4 := bt_le a m
  rw [h1]
  generalize a / 2 ^ (m + 1) = T at *
  refine ⟨?_, by omega⟩
  rw [Nat.mul_left_comm, hR]
  conv => lhs; rw [← h2]
  rw [Nat.mul_add]
  omega
theorem dv_less {a b m R : Nat} (hb : 0 < b) (hR : R = 2 * (a / 2 ^ (m + 1) % b) + bt a m) (h : R < b) : R = a / 2 ^ m % b ∧ a / 2 ^ (m + 1) / b * 2 ^ (m + 1) = a / 2 ^ m / b * 2 ^ m := by
  obtain ⟨h1, h2⟩ := dv_parts hb hR
  have h3 : a / 2 ^ m / b = 2 * (a / 2 ^ (m + 1) / b) := by rw [h1, Nat.mul_add_div hb, Nat.div_eq_of_lt h, Nat.add_zero]
  refine ⟨by rw [h1, Nat.mul_add_mod, Nat.mod_eq_of_lt h], ?_⟩
  rw [h3]
  generalize a / 2 ^ (m + 1) / b = Q
  rw [Nat.pow_succ, Nat.mul_comm (2 ^ m) 2, ← Nat.mul_assoc, Nat.mul_comm Q 2]
theorem dv_more {a b m R : Nat} (hb : 0 < b) (hR : R = 2 * (a / 2 ^ (m + 1) % b) + bt a m) (h : b ≤ R) : R - b = a / 2 ^ m % b ∧ a / 2 ^ (m + 1) / b * 2 ^ (m + 1) + 2 ^ m = a / 2 ^ m / b * 2 ^ m := by
  obtain ⟨h1, h2⟩ := dv_parts hb hR
  have e : b * (2 * (a / 2 ^ (m + 1) / b)) + R = b * (2 * (a / 2 ^ (m + 1) / b) + 1) + (R - b) := by rw [Nat.mul_add]; omega
  have h3 : a / 2 ^ m / b = 2 * (a / 2 ^ (m + 1) / b) + 1 := by rw [h1, e, Nat.mul_add_div hb, Nat.div_eq_of_lt (show R - b < b by omega), Nat.add_zero]
  refine ⟨by rw [h1, e, Nat.mul_add_mod, Nat.mod_eq_of_lt (show R - b < b by omega)], ?_⟩
  rw [h3]
  generalize a / 2 ^ (m + 1) / b = Q
  rw [Nat.pow_succ, Nat.mul_comm (2 ^ m) 2, ← Nat.mul_assoc, Nat.mul_comm Q 2, Nat.add_mul, Nat.one_mul]

theorem V_set_eq {ys : List Nat} {k d : Nat} (hk : k < ys.length) : V (ys.set k d) + Bs ^ k * ys[k] = V ys + Bs ^ k * d := by
  rw [V_take_drop (ys.set k d) (k + 1) (by rw [List.length_set]; omega), V_set_take hk, List.drop_set_of_lt (by omega), V_take_drop ys (k + 1) (by omega), V_take_succ hk]
  omega
/-- a digit doubled -/
theorem dbl_step {ws zs : List Nat} {i c d e t : Nat} (hi : i < zs.length) (hw : i < ws.length) (h0 : zs[i] = ws[i]) (hv : V zs + Bs ^ i * c = V ws + V (ws.take i) + t) (hd : d = (2 * zs[i] + c) % Bs) (he : e = (2 * zs[i] + c) / Bs) : V (zs.set i d) + Bs ^ (i + 1) * e = V ws + V (ws.take (i + 1)) + t := by
  have e1 : 2 * zs[i] + c = c + zs[i] + zs[i] := by omega
  rw [e1] at hd he
  rw [V_set_digit hi hd he, V_take_succ hw, Nat.mul_add, h0]
  omega
theorem dbl_end {ws zs : List Nat} {n b c t : Nat} (hl : ws.length = n + 1) (hv : V zs + Bs ^ (n + 1) * c = V ws + V (ws.take (n + 1)) + t) (hw : V ws < b) (hb : b < Bs ^ n) (ht : t ≤ 1) : V zs = 2 * V ws + t := by
  rw [List.take_of_length_le (by omega)] at hv
  rcases Nat.eq_zero_or_pos c with h | h
  · subst h; rw [Nat.mul_zero] at hv; omega
  · exfalso
    have h1 : Bs ^ (n + 1) * 1 ≤ Bs ^ (n + 1) * c := Nat.mul_le_mul_left _ h
    rw [Nat.pow_succ] at h1 hv
    have h2 : Bs ^ n * 2 ≤ Bs ^ n * Bs := Nat.mul_le_mul_left _ (by rw [Bs_eq]; omega)
    omega
/-- a digit taken off -/
theorem off_step {ys zs ds : List Nat} {i n o d e x : Nat} (hi : i < zs.length) (hn : ds.length = n) (hx : x = if h : i < ds.length then ds[i] else 0) (hv : V zs + V (ds.take i) = V ys + Bs ^ i * o) (hd : d + x + o = zs[i] + Bs * e) : V (zs.set i d) + V (ds.take (i + 1)) = V ys + Bs ^ (i + 1) * e := by
  have h1 := V_set_eq (d := d) hi
  have h2 : V (ds.take (i + 1)) = V (ds.take i) + Bs ^ i * x := by
    by_cases h : i < ds.length
    · rw [V_take_succ h, hx, dif_pos h]
    · rw [hx, dif_neg h, List.take_of_length_le (by omega), List.take_of_length_le (by omega), Nat.mul_zero, Nat.add_zero]
  have h3 : Bs ^ i * d + Bs ^ i * x + Bs ^ i * o = Bs ^ i * zs[i] + Bs ^ (i + 1) * e := by rw [← Nat.mul_add, ← Nat.mul_add, hd, Nat.mul_add, Nat.pow_succ, Nat.mul_assoc]
  omega
theorem off_end {ys zs ds : List Nat} {n o : Nat} (hz : Lim zs) (hl : zs.length = n + 1) (hn : ds.length = n) (hv : V zs + V (ds.take (n + 1)) = V ys + Bs ^ (n + 1) * o) (hb : V ds ≤ V ys) : V zs = V ys - V ds := by
  rw [List.take_of_length_le (by omega)] at hv
  have h1 := V_lt hz
  rw [hl] at h1
  rcases Nat.eq_zero_or_pos o with h | h
  · subst h; rw [Nat.mul_zero] at hv; omega
  · exfalso
    have h2 : Bs ^ (n + 1) * 1 ≤ Bs ^ (n + 1) * o := Nat.mul_le_mul_left _ h
    omega
/-- a bit set in a quotient -/
theorem quo_bit {qs : List Nat} {Q k m q : Nat} (hl : Lim qs) (hk : k = 24 * m + q) (hq : q < 24) (hm : m < qs.length) (hv : V qs = Q * 2 ^ (k + 1)) : qs[m] + 2 ^ q < Bs ∧ V (qs.set m (qs[m] + 2 ^ q)) = V qs + 2 ^ k := by
  refine ⟨?_, by rw [V_set_add hm, Bs_pow, ← Nat.pow_add, hk]⟩
  have h1 := V_drop_div hl (m := m) (by omega)
  rw [V_drop hm, hv, Bs_pow, show k + 1 = (q + 1) + 24 * m by omega, Nat.pow_add, ← Nat.mul_assoc, Nat.mul_div_cancel _ (Nat.two_pow_pos _)] at h1
  have h2 := hl.getElem hm
  have e3 : Bs = 2 ^ (q + 1) * 2 ^ (23 - q) := by
    rw [← Nat.pow_add, show q + 1 + (23 - q) = 24 by omega]; rfl
  have h4 : qs[m] % 2 ^ (q + 1) = 0 := by
    have h5 : (qs[m] + Bs * V (qs.drop (m + 1))) % 2 ^ (q + 1) = (Q * 2 ^ (q + 1)) % 2 ^ (q + 1) := by rw [h1]
    rw [e3, Nat.mul_assoc, Nat.add_mul_mod_self_left, Nat.mul_mod_left] at h5
    exact h5
  have h6 := Nat.div_add_mod qs[m] (2 ^ (q + 1))
  rw [h4, Nat.add_zero] at h6
  have h7 : qs[m] / 2 ^ (q + 1) < 2 ^ (23 - q) := by
    rw [Nat.div_lt_iff_lt_mul (Nat.two_pow_pos _), Nat.mul_comm, ← e3]; exact h2
  have h8 : 2 ^ (q + 1) * (qs[m] / 2 ^ (q + 1) + 1) ≤ 2 ^ (q + 1) * 2 ^ (23 - q) := Nat.mul_le_mul_left _ h7
  rw [← e3, Nat.mul_add, h6, Nat.pow_succ] at h8
  have := Nat.two_pow_pos q
  omega
/-- the first digit that differs, from the end -/
theorem less_at {xs ys : List Nat} {j : Nat} (hx : Lim xs) (hj : j < xs.length) (hj' : j < ys.length) (hs : V (xs.drop (j + 1)) = V (ys.drop (j + 1))) (h : xs[j] < ys[j]) : V xs < V ys := by
  rw [V_take_drop xs (j + 1) (by omega), V_take_drop ys (j + 1) (by omega), V_take_succ hj, V_take_succ hj', hs]
  have h1 := V_lt (hx.take j)
  rw [List.length_take, Nat.min_eq_left (by omega)] at h1
  have h2 : Bs ^ j * (xs[j] + 1) ≤ Bs ^ j * ys[j] := Nat.mul_le_mul_left _ h
  rw [Nat.mul_add] at h2
  omega
theorem more_top {xs : List Nat} {n b : Nat} (hl : xs.length = n + 1) (hn : n < xs.length) (h : xs[n] ≠ 0) (hb : b < Bs ^ n) : b ≤ V xs := by
  rw [V_take_drop xs (n + 1) (by omega), V_take_succ hn]
  have h2 : Bs ^ n * 1 ≤ Bs ^ n * xs[n] := Nat.mul_le_mul_left _ (by omega)
  omega
theorem same_drop {xs ys : List Nat} {j : Nat} (hj : j < xs.length) (hj' : j < ys.length) (hs : V (xs.drop (j + 1)) = V (ys.drop (j + 1))) (h : xs[j] = ys[j]) : V (xs.drop j) = V (ys.drop j) := by
  rw [V_drop hj, V_drop hj', hs, h]
theorem top_drop {xs ys : List Nat} {n : Nat} (hl : xs.length = n + 1) (hl' : ys.length = n) (hn : n < xs.length) (h : xs[n] = 0) : V (xs.drop n) = V (ys.drop n) := by
  rw [V_drop hn, h, List.drop_eq_nil_of_le (by omega), List.drop_eq_nil_of_le (by omega)]
  simp [V]
end Go.Proofs.YtnecnbonnidijaaDoor
/- Quotient and remainder of whole numbers, of the model: bit by bit. -/
namespace Go.Proofs.YtnecnbonnidijaaDoor
set_option maxRecDepth 100000
open Go.RowKit
set_option linter.unusedSimpArgs false
set_option linter.unusedVariables false
attribute [local go_sem ↓] Go.wp_at_zero Go.wp_at_succ

/-- the rows of the division: what is left, and the quotient so far -/
def DvW (w1 wr : World) (g q : Nat) (ws qs : List Nat) : Prop := (g ≠ q ∧ w1.heap.size ≤ g ∧ w1.heap.size ≤ q) ∧ Ow wr g (g + 1) (some ⟨g, 0, none⟩) (vs ws) ∧ Ow wr q (q + 1) (some ⟨q, 0, none⟩) (vs qs) ∧ Below w1.heap.size w1 wr
section
variable {w1 wr wr' : World} {g q : Nat} {ws qs : List Nat}
theorem DvW.next (h : DvW w1 wr g q ws qs) (hb : Below wr.heap.size wr wr') : DvW w1 wr' g q ws qs := ⟨h.1, h.2.1.below' hb, h.2.2.1.below' hb, belNext h.2.2.2 hb⟩
theorem DvW.drewN (h : DvW w1 wr g q ws qs) (k : Nat) : DvW w1 (wr.drewN k) g q ws qs := ⟨h.1, h.2.1.drewN k, h.2.2.1.drewN k, below_drewN h.2.2.2 k⟩
theorem DvW.row (h : DvW w1 wr g q ws qs) {k : Nat} (hk : k < ws.length) : wr.cell? ⟨g, k, none⟩ = some (.int .i64 (ws[k] : Nat)) ∧ wr.frozen? ⟨g, k, none⟩ = false ∧ ∀ d : Nat, DvW w1 (wr.setCell ⟨g, k, none⟩ (.int .i64 (d : Int))) g q (ws.set k d) qs := by
  have h0 : Ow wr g (g + 1) (some ⟨g, 0, none⟩) (vi (li ws)) := h.2.1
  obtain ⟨h1, h2, h3⟩ := ow_row h0 (k := k) (by rw [li_len]; exact hk)
  rw [li_get hk] at h1
  refine ⟨h1, h2, fun d => ?_⟩
  obtain ⟨h4, h5⟩ := h3 d
  have e : (li ws).set k (d : Int) = li (ws.set k d) := by unfold li; rw [List.map_set]
  rw [e] at h4
  exact ⟨h.1, h4, h.2.2.1.grown h5 (by intro x e; injection e with e; have := h.1.1; omega), h.2.2.2.grown h5 h.2.2.2.size (by intro x e; injection e with e; have := h.1.2.1; omega)⟩
theorem DvW.quo (h : DvW w1 wr g q ws qs) {k : Nat} (hk : k < qs.length) : wr.cell? ⟨q, k, none⟩ = some (.int .i64 (qs[k] : Nat)) ∧ wr.frozen? ⟨q, k, none⟩ = false ∧ ∀ d : Nat, DvW w1 (wr.setCell ⟨q, k, none⟩ (.int .i64 (d : Int))) g q ws (qs.set k d) := by
  have h0 : Ow wr q (q + 1) (some ⟨q, 0, none⟩) (vi (li qs)) := h.2.2.1
  obtain ⟨h1, h2, h3⟩ := ow_row h0 (k := k) (by rw [li_len]; exact hk)
  rw [li_get hk] at h1
  refine ⟨h1, h2, fun d => ?_⟩
  obtain ⟨h4, h5⟩ := h3 d
  have e : (li qs).set k (d : Int) = li (qs.set k d) := by unfold li; rw [List.map_set]
  rw [e] at h4
  exact ⟨h.1, h.2.1.grown h5 (by intro x e; injection e with e; have := h.1.1; omega), h4, h.2.2.2.grown h5 h.2.2.2.size (by intro x e; injection e with e; have := h.1.2.2; omega)⟩
end
theorem dv_start (a b : Nat) : a / 2 ^ blen a % b = 0 ∧ a / 2 ^ blen a / b * 2 ^ blen a = 0 := by
  rw [Nat.div_eq_of_lt (blen_lt.1 (Nat.le_refl _))]; simp
theorem dbl_nums {u c : Nat} (hu : u < Bs) (hc : c ≤ 1) : ∃ d e : Nat, d = (2 * u + c) % Bs ∧ e = (2 * u + c) / Bs ∧ d < Bs ∧ e ≤ 1 ∧ ((2 * (u : Int) + c) % 16777216 = (d : Nat)) ∧ ((2 * (u : Int) + c) / 16777216 = (e : Nat)) ∧ (0 : Int) ≤ u ∧ (u : Int) ≤ 16777215 ∧ (0 : Int) ≤ c ∧ (c : Int) ≤ 1 ∧ (0 : Int) ≤ 2 * (u : Int) + c := by
  rw [Bs_eq] at hu
  refine ⟨_, _, rfl, rfl, ?_, ?_, ?_, ?_, ?_, ?_, ?_, ?_, ?_⟩
  · rw [Bs_eq]; omega
  · rw [Bs_eq]; omega
  · rw [Bs_eq]; omega
  · rw [Bs_eq]; omega
  · omega
  · omega
  · omega
  · omega
  · omega
/-- a digit less another and a borrow -/
theorem off_nums {u x o : Nat} (hu : u < Bs) (hx : x < Bs) (ho : o ≤ 1) : ∃ d e : Nat, d + x + o = u + Bs * e ∧ d < Bs ∧ e ≤ 1 ∧ ((u : Int) - o - x < 0 → e = 1 ∧ (u : Int) - o - x + 16777216 = d) ∧ (¬ (u : Int) - o - x < 0 → e = 0 ∧ (u : Int) - o - x = d) := by
  rw [Bs_eq] at *
  by_cases h : (u : Int) - o - x < 0
  · exact ⟨u + 16777216 - o - x, 1, by omega, by omega, by omega, fun _ => ⟨rfl, by omega⟩, fun h2 => absurd h h2⟩
  · exact ⟨u - o - x, 0, by omega, by omega, by omega, fun h2 => absurd h2 h, fun _ => ⟨rfl, by omega⟩⟩
theorem dv_pow {q : Nat} (hq : q ≤ 23) : wrap64 (1 * (2 : Int) ^ q) = ((2 ^ q : Nat) : Int) ∧ wrap64 ((2 : Int) ^ q) = ((2 ^ q : Nat) : Int) ∧ ((2 ^ q : Nat) : Int) ≤ 8388608 := by
  have h23 : 2 ^ q ≤ 2 ^ 23 := Nat.pow_le_pow_right (by omega) hq
  have h22 : 0 < 2 ^ q := Nat.two_pow_pos q
  have h24 : (2 : Nat) ^ 23 = 8388608 := by decide
  have e : wrap64 ((2 ^ q : Nat) : Int) = ((2 ^ q : Nat) : Int) := by
    generalize 2 ^ q = P at *
    exact wrap64_small (by omega) (by omega)
  rw [Int.one_mul, pow_cast]
  generalize 2 ^ q = P at *
  exact ⟨e, e, by omega⟩
theorem sub_end {a b k n n' o : Nat} {ys zs qs : List Nat} (hb : 0 < b) (hR : V ys = 2 * (a / 2 ^ (k + 1) % b) + bt a k) (hge : b ≤ V ys) (hz : Lim zs) (hl : zs.length = n' + 1) (hn : (limbs b).length = n') (hv : V zs + V ((limbs b).take (n' + 1)) = V ys + Bs ^ (n' + 1) * o) (hq : Lim qs) (hql : qs.length = n) (hk : k < 24 * n) (hqv : V qs = a / 2 ^ (k + 1) / b * 2 ^ (k + 1)) :
    ∃ (mq rq P : Nat) (h : mq < qs.length), (k : Int) / 24 = mq ∧ (k : Int) % 24 = rq ∧ (rq : Int) ≤ 23 ∧ (mq : Int) < n ∧ wrap64 (1 * (2 : Int) ^ rq) = (P : Nat) ∧ wrap64 ((2 : Int) ^ rq) = (P : Nat) ∧ (P : Int) ≤ 8388608 ∧ V zs = a / 2 ^ k % b ∧ V (qs.set mq (qs[mq] + P)) = a / 2 ^ k / b * 2 ^ k ∧ qs[mq] + P < Bs := by
  have hE := off_end hz hl hn hv (by rw [V_limbs]; exact hge)
  rw [V_limbs] at hE
  obtain ⟨hm1, hm2⟩ := dv_more hb hR hge
  have hq23 : k % 24 < 24 := Nat.mod_lt _ (by decide)
  have hkq : k / 24 < qs.length := by rw [hql]; exact (Nat.div_lt_iff_lt_mul (by decide)).2 (by rw [Nat.mul_comm]; exact hk)
  have hdm : k = 24 * (k / 24) + k % 24 := (Nat.div_add_mod k 24).symm
  obtain ⟨hqb, hqv2⟩ := quo_bit (Q := a / 2 ^ (k + 1) / b) hq hdm hq23 hkq hqv
  obtain ⟨h1, h2, h3⟩ := dv_pow (q := k % 24) (Nat.le_of_lt_succ hq23)
  refine ⟨k / 24, k % 24, 2 ^ (k % 24), hkq, ?_, ?_, ?_, ?_, h1, h2, h3, by rw [hE, hm1], by rw [hqv2, hqv, hm2], hqb⟩
  · exact (Int.natCast_ediv k 24).symm
  · exact (Int.natCast_emod k 24).symm
  · exact Int.ofNat_le.2 (Nat.le_of_lt_succ hq23)
  · exact Int.ofNat_lt.2 (by rw [← hql]; exact hkq)
theorem Ow.rdAll {w : World} {lo hi : Nat} {A : Option Addr} {xs : List Value} (h : Ow w lo hi A xs) : Rd w w.heap.size A xs := fun k u hu => by
  have hx : xs ≠ [] := by intro e; rw [e] at hu; simp at hu
  obtain ⟨p, hp, _, hc⟩ := h.rd k u hu
  obtain ⟨g, h1, _, _, h4⟩ := h.lt hx
  refine ⟨p, hp, ?_, hc⟩
  rw [h1] at hp
  injection hp with hp
  rw [← hp]; exact h4
theorem resB_st {w : World} {b b' n c : Nat} {s : Int} {A : Option Addr} (h : ResB w b) (hne : b ≠ b') : ResB (st w b' s A n c) b := by
  obtain ⟨⟨h0, h1, h2, h3⟩, h4⟩ := h
  refine ⟨⟨?_, ?_, ?_, ?_⟩, by rw [st_size]; exact h4⟩
  · exact (World.cell?_of_block (a := ⟨b, 0, none⟩) (st_heap hne)).trans h0
  · exact (World.cell?_of_block (a := ⟨b, 1, none⟩) (st_heap hne)).trans h1
  · rw [← h2]; unfold World.frozen?; rw [st_heap hne]
  · rw [← h3]; unfold World.frozen?; rw [st_heap hne]
theorem four_boxes (w : World) (s s' : Int) (A A' : Option Addr) (n n' c c' : Nat) (t : TypeId) :
    ∃ w1, w1 = (((w.alloc (.cells #[.int .i64 s, .slice A n c] t)).alloc (.cells #[.int .i64 s', .slice A' n' c'] t)).alloc (.cells #[.int .i64 0, .slice none 0 0] t)).alloc (.cells #[.int .i64 0, .slice none 0 0] t) ∧ Box w1 w.heap.size s A n c ∧ Box w1 (w.heap.size + 1) s' A' n' c' ∧ ResB w1 (w.heap.size + 1 + 1) ∧ ResB w1 (w.heap.size + 1 + 1 + 1) ∧ Below w.heap.size w w1 := by
  obtain ⟨w0, hw0, hb1, hb2, hb3, hb4⟩ := three_boxes w s s' A A' n n' c c' t t t
  obtain ⟨w1, hw1⟩ : ∃ w1, w1 = w0.alloc (.cells #[.int .i64 0, .slice none 0 0] t) := ⟨_, rfl⟩
  have hb : Below w0.heap.size w0 w1 := by rw [hw1]; exact belAlloc1 _ _
  have hs : w0.heap.size = w.heap.size + 1 + 1 + 1 := by rw [hw0]; simp
  refine ⟨w1, by rw [hw1, hw0], hb1.next hb, hb2.next hb, hb3.next hb, ?_, belNext hb4 hb⟩
  rw [hw1, ← hs]; exact resBox_new _ _

theorem ow_made (w : World) (n : Nat) : Ow (w.alloc (.cells (madeCells #[.int .i64 0] n) 2)) w.heap.size (w.heap.size + 1) (some ⟨w.heap.size, 0, none⟩) (vs (List.replicate n 0)) := by
  have h := made_zeros n
  rw [Nat.mul_one, show (Value.int .i64 0).cells = #[.int .i64 0] from rfl] at h
  refine .inr ⟨w.heap.size, _, rfl, Nat.le_refl _, by omega, heap_alloc_new _ _, ?_⟩
  rw [h, List.take_of_length_le (Nat.le_refl _)]

set_option maxHeartbeats 4000000 in
theorem specDivMod_any (z z' S S' : Int) (A A' : Option Addr) (n n' c c' : Nat) (w : World) (hz : ZV w z S A n c) (hz' : ZV w z' S' A' n' c') (h0 : z' ≠ 0) (hm : (n : Int) ≤ 4000) (hm' : (n' : Int) ≤ 4000) :
    Calls Tryd.prog 92 #[.agg #[.int .i64 S, .slice A n c], .agg #[.int .i64 S', .slice A' n' c']] w fun e w' => ∃ Sq Aq nq cq Sr Ar nr cr, e = .returned (.tuple #[.agg #[.int .i64 Sq, .slice Aq nq cq], .agg #[.int .i64 Sr, .slice Ar nr cr]]) ∧ ZO w' w.heap.size w'.heap.size (S * S' * ((z.natAbs / z'.natAbs : Nat) : Int)) Sq Aq nq cq ∧ ZO w' w.heap.size w'.heap.size (S * ((z.natAbs % z'.natAbs : Nat) : Int)) Sr Ar nr cr ∧ Below w.heap.size w w' := by
  have hst := store_int Tryd.prog
  have hst2 := store_slice Tryd.prog
  obtain ⟨i0, hi0, hz0, hz1, hz2⟩ := info_parts infoI
  obtain ⟨w1, hw1, hb1, hb2, hb3, hb4, hb5⟩ := four_boxes w S S' A A' n n' c c' 28
  obtain ⟨N, hN⟩ : ∃ N, N = n' + 1 := ⟨_, rfl⟩
  have hNi : (n' : Int) + 1 = N := by omega
  have hmk1 := fun w => run_make_row (P := Tryd.prog) 22 2 i0 (.int .i64 0) Tryd.underlying22 hi0 hz0 hz1 rfl .i64 .i64 N (by rw [hz2]; omega) (by omega) w
  have hmk2 := fun w => run_make_row (P := Tryd.prog) 22 2 i0 (.int .i64 0) Tryd.underlying22 hi0 hz0 hz1 rfl .i64 .i64 n (by rw [hz2]; omega) (by omega) w
  have Hz := Lib.hid hz
  have Hz' := Lib.hid hz'
  have HN := Lib.hid hN
  have Hw := Lib.hid hw1
  have Bx1 := Lib.hid hb1
  have By1 := Lib.hid hb2
  have Rq1 := Lib.hid hb3
  have Rr1 := Lib.hid hb4
  have Bel1 := Lib.hid hb5
  clear hz hz' hw1 hb1 hb2 hb3 hb4 hb5 hN
  go_enter Tryd.func92, Tryd.ntmps92
  go_upto_region 1 with (fail)
  rw [← Hw.out]
  obtain ⟨⟨hx1, hx2⟩, hx3⟩ := Bx1.out
  obtain ⟨⟨hy1, hy2⟩, hy3⟩ := By1.out
  go_wp2_with fail
  have hwr : IntKind.i64.wrap (N : Int) = N := IntWalk.i64_in _ (by omega)
  go_cut [7, 8] from 21 to 27 (fun t7 t8 wx => ∃ g q : Nat, t7 = .slice (some ⟨g, 0, none⟩) N N ∧ t8 = .slice (some ⟨q, 0, none⟩) n n ∧ g ≠ q ∧ w1.heap.size ≤ g ∧ w1.heap.size ≤ q ∧ Ow wx g (g + 1) (some ⟨g, 0, none⟩) (vs (List.replicate N 0)) ∧ Ow wx q (q + 1) (some ⟨q, 0, none⟩) (vs (List.replicate n 0)) ∧ Below w1.heap.size w1 wx)
  case first =>
    refine wp_region_held_drew (S := fun w' => w'.cell? ⟨w.heap.size, 0, none⟩ = some (.int .i64 S) ∧ w'.cell? ⟨w.heap.size, 1, none⟩ = some (.slice A n c)) (by kernel_rfl) Bx1.out.1 (fun hHeld => ?_)
    clear hx1 hx2 hx3 hy1 hy2 hy3
    refine wpAnyH_take (i := 0) (v := ?_) rfl (by kernel_rfl) (by kernel_rfl) (by kernel_rfl) (fun _ _ _ h => h) (Or.inl ⟨by rfl, ?_⟩) (by assumption) ?_
    rotate_left
    · (intro w hSw; (try dsimp only at hSw); go_simp; (try with_reducible rfl))
    try simp only [Act.put, List.setIfInBounds_toArray, List.set_cons_zero, List.set_cons_succ, List.getElem_toArray, List.getElem_cons_succ, List.getElem_cons_zero]
    refine wpAnyH_take (i := 1) (v := ?_) rfl (by kernel_rfl) (by kernel_rfl) (by kernel_rfl) (fun _ _ _ h => h) (Or.inl ⟨by rfl, ?_⟩) (by assumption) ?_
    rotate_left
    · (intro w hSw; (try dsimp only at hSw); go_simp; (try with_reducible rfl))
    try simp only [Act.put, List.setIfInBounds_toArray, List.set_cons_zero, List.set_cons_succ, List.getElem_toArray, List.getElem_cons_succ, List.getElem_cons_zero]
    refine wpAnyH_take (i := 3) (v := ?_) rfl (by kernel_rfl) (by kernel_rfl) (by kernel_rfl) (fun _ _ _ h => h) (Or.inl ⟨by rfl, ?_⟩) (by assumption) ?_
    rotate_left
    · (intro w hSw; (try dsimp only at hSw); go_simp; (try with_reducible rfl))
    try simp only [Act.put, List.setIfInBounds_toArray, List.set_cons_zero, List.set_cons_succ, List.getElem_toArray, List.getElem_cons_succ, List.getElem_cons_zero]
    refine wpAnyH_take (i := 4) (v := ?_) rfl (by kernel_rfl) (by kernel_rfl) (by kernel_rfl) (fun _ _ _ h => h) (Or.inl ⟨by rfl, ?_⟩) (by assumption) ?_
    rotate_left
    · (intro w hSw; (try dsimp only at hSw); go_simp; (try with_reducible rfl))
    try simp only [Act.put, List.setIfInBounds_toArray, List.set_cons_zero, List.set_cons_succ, List.getElem_toArray, List.getElem_cons_succ, List.getElem_cons_zero]
    refine wpAnyH_take (i := 5) (v := ?_) rfl (by kernel_rfl) (by kernel_rfl) (by kernel_rfl) (fun _ _ _ h => h) (Or.inl ⟨by rfl, ?_⟩) (by assumption) ?_
    rotate_left
    · (intro w hSw; (try dsimp only at hSw); go_simp; (try with_reducible rfl))
    try simp only [Act.put, List.setIfInBounds_toArray, List.set_cons_zero, List.set_cons_succ, List.getElem_toArray, List.getElem_cons_succ, List.getElem_cons_zero]
    refine wpAnyH_ready (rs := [2, 6]) (by kernel_rfl) (by simp) ?_
    refine AllReadyH.cons rfl (fun K hK => ?_) (AllReadyH.cons rfl (fun K hK => ?_) AllReadyH.nil)
    · go_simp
      obtain ⟨y1, hw⟩ : ∃ y1, y1 = (w1.alloc (.cells (madeCells #[.int .i64 0] N) 2)).drew := ⟨_, rfl⟩
      have hb : Below w1.heap.size w1 y1 := by rw [hw]; exact (belAlloc1 _ _).drew
      have Sb : Hid (w1.heap.size + 1 = y1.heap.size) := Lib.hid (by rw [hw]; simp)
      have O1 : Hid (Ow y1 w1.heap.size (w1.heap.size + 1) (some ⟨w1.heap.size, 0, none⟩) (vs (List.replicate N 0))) := Lib.hid (by rw [hw]; exact (ow_made w1 N).drewN 1)
      have HB1 := Lib.hid hb
      rw [← hw]
      refine hK.out _ _ (Bx1.out.next hb).1 (fun hHeld => ?_)
      clear hK K hw hb
      try simp only [Act.put, List.setIfInBounds_toArray, List.set_cons_zero, List.set_cons_succ, List.getElem_toArray, List.getElem_cons_succ, List.getElem_cons_zero]
      refine wpAnyH_take (i := 7) (v := ?_) rfl (by kernel_rfl) (by kernel_rfl) (by kernel_rfl) (fun _ _ _ h => h) (Or.inl ⟨by rfl, ?_⟩) (by assumption) ?_
      rotate_left
      · (intro w hSw; (try dsimp only at hSw); go_simp; (try with_reducible rfl))
      try simp only [Act.put, List.setIfInBounds_toArray, List.set_cons_zero, List.set_cons_succ, List.getElem_toArray, List.getElem_cons_succ, List.getElem_cons_zero]
      refine wpAnyH_ready (rs := [6]) (by kernel_rfl) (by simp) ?_
      refine AllReadyH.cons rfl (fun K hK => ?_) AllReadyH.nil
      go_simp
      obtain ⟨y2, hw⟩ : ∃ y2, y2 = y1.alloc (.cells (madeCells #[.int .i64 0] n) 2) := ⟨_, rfl⟩
      have hb : Below y1.heap.size y1 y2 := by rw [hw]; exact belAlloc1 _ _
      have O2 : Hid (Ow y2 y1.heap.size (y1.heap.size + 1) (some ⟨y1.heap.size, 0, none⟩) (vs (List.replicate n 0))) := Lib.hid (by rw [hw]; exact ow_made y1 n)
      have HB2 := Lib.hid hb
      rw [← hw]
      refine hK.out _ _ (Bx1.out.next (belNext HB1.out hb)).1 (fun hHeld => ?_)
      clear hK K hw hb
      try simp only [Act.put, List.setIfInBounds_toArray, List.set_cons_zero, List.set_cons_succ, List.getElem_toArray, List.getElem_cons_succ, List.getElem_cons_zero]
      refine wpAnyH_ready (rs := [8]) (by kernel_rfl) (by simp) ?_
      refine AllReadyH.cons rfl (fun K hK => ?_) AllReadyH.nil
      go_simp
      refine hK.out _ _ hHeld (fun hHeld => ?_)
      clear hK K hHeld
      try simp only [Act.put, List.setIfInBounds_toArray, List.set_cons_zero, List.set_cons_succ, List.getElem_toArray, List.getElem_cons_succ, List.getElem_cons_zero]
      refine wpAnyH_done (by kernel_rfl) ?_ _
      go_wp2_with fail
      go_meet
      exact ⟨w1.heap.size, y1.heap.size, rfl, rfl, by have := Sb.out; omega, by have := Sb.out; omega, by have := Sb.out; omega, (O1.out.below' HB2.out), O2.out, belNext HB1.out HB2.out⟩
    · go_simp
      obtain ⟨y1, hw⟩ : ∃ y1, y1 = (w1.alloc (.cells (madeCells #[.int .i64 0] n) 2)).drew := ⟨_, rfl⟩
      have hb : Below w1.heap.size w1 y1 := by rw [hw]; exact (belAlloc1 _ _).drew
      have Sb : Hid (w1.heap.size + 1 = y1.heap.size) := Lib.hid (by rw [hw]; simp)
      have O1 : Hid (Ow y1 w1.heap.size (w1.heap.size + 1) (some ⟨w1.heap.size, 0, none⟩) (vs (List.replicate n 0))) := Lib.hid (by rw [hw]; exact (ow_made w1 n).drewN 1)
      have HB1 := Lib.hid hb
      rw [← hw]
      refine hK.out _ _ (Bx1.out.next hb).1 (fun hHeld => ?_)
      clear hK K hw hb
      try simp only [Act.put, List.setIfInBounds_toArray, List.set_cons_zero, List.set_cons_succ, List.getElem_toArray, List.getElem_cons_succ, List.getElem_cons_zero]
      refine wpAnyH_ready (rs := [2]) (by kernel_rfl) (by simp) ?_
      refine AllReadyH.cons rfl (fun K hK => ?_) AllReadyH.nil
      go_simp
      obtain ⟨y2, hw⟩ : ∃ y2, y2 = y1.alloc (.cells (madeCells #[.int .i64 0] N) 2) := ⟨_, rfl⟩
      have hb : Below y1.heap.size y1 y2 := by rw [hw]; exact belAlloc1 _ _
      have O2 : Hid (Ow y2 y1.heap.size (y1.heap.size + 1) (some ⟨y1.heap.size, 0, none⟩) (vs (List.replicate N 0))) := Lib.hid (by rw [hw]; exact ow_made y1 N)
      have HB2 := Lib.hid hb
      rw [← hw]
      refine hK.out _ _ (Bx1.out.next (belNext HB1.out hb)).1 (fun hHeld => ?_)
      clear hK K hw hb
      try simp only [Act.put, List.setIfInBounds_toArray, List.set_cons_zero, List.set_cons_succ, List.getElem_toArray, List.getElem_cons_succ, List.getElem_cons_zero]
      refine wpAnyH_take (i := 7) (v := ?_) rfl (by kernel_rfl) (by kernel_rfl) (by kernel_rfl) (fun _ _ _ h => h) (Or.inl ⟨by rfl, ?_⟩) (by assumption) ?_
      rotate_left
      · (intro w hSw; (try dsimp only at hSw); go_simp; (try with_reducible rfl))
      try simp only [Act.put, List.setIfInBounds_toArray, List.set_cons_zero, List.set_cons_succ, List.getElem_toArray, List.getElem_cons_succ, List.getElem_cons_zero]
      refine wpAnyH_ready (rs := [8]) (by kernel_rfl) (by simp) ?_
      refine AllReadyH.cons rfl (fun K hK => ?_) AllReadyH.nil
      go_simp
      refine hK.out _ _ hHeld (fun hHeld => ?_)
      clear hK K hHeld
      try simp only [Act.put, List.setIfInBounds_toArray, List.set_cons_zero, List.set_cons_succ, List.getElem_toArray, List.getElem_cons_succ, List.getElem_cons_zero]
      refine wpAnyH_done (by kernel_rfl) ?_ _
      go_wp2_with fail
      go_meet
      exact ⟨y1.heap.size, w1.heap.size, rfl, rfl, by have := Sb.out; omega, by have := Sb.out; omega, by have := Sb.out; omega, O2.out, (O1.out.below' HB2.out), belNext HB1.out HB2.out⟩
  case rest =>
    obtain ⟨g, q, ht7, ht8, hgq, hg1, hq1, howg, howq, hbc⟩ := hcut
    subst ht7 ht8
    have HD : Hid (DvW w1 wc g q (List.replicate N 0) (List.replicate n 0)) := Lib.hid ⟨⟨hgq, hg1, hq1⟩, howg, howq, hbc⟩
    clear hgq hg1 hq1 howg howq hbc hx1 hx2 hx3 hy1 hy2 hy3 hmk1 hmk2 hwr
    obtain ⟨⟨hx1, hx2⟩, hx3⟩ := Bx1.out.next HD.out.2.2.2
    go_wp2_with fail
    refine (specLen_any S z.natAbs A n c _ wc (Hz.out.next (belNext Bel1.out HD.out.2.2.2)).rd (Nat.le_refl _) Hz.out.len (by omega)).mono ?_
    rintro e w4 ⟨rfl, hb⟩
    have HD4 := Lib.hid (HD.out.next hb)
    clear hx1 hx2 hx3 hb HD
    obtain ⟨a, ha⟩ : ∃ a, a = z.natAbs := ⟨_, rfl⟩
    obtain ⟨b, hb⟩ : ∃ b, b = z'.natAbs := ⟨_, rfl⟩
    obtain ⟨bl, hbl⟩ : ∃ bl, bl = blen a := ⟨_, rfl⟩
    have Hab : Hid (a = z.natAbs ∧ b = z'.natAbs) := Lib.hid ⟨ha, hb⟩
    have Hla : Hid ((limbs a).length = n) := Lib.hid (by rw [ha]; exact Hz.out.len)
    have Hlb : Hid ((limbs b).length = n') := Lib.hid (by rw [hb]; exact Hz'.out.len)
    have Hb0 : Hid (0 < b) := Lib.hid (by omega)
    have Hbn : Hid (b < Bs ^ n') := Lib.hid (limbs_len_le.1 (by rw [Hlb.out]; exact Nat.le_refl _))
    have hn1 : (1 : Int) ≤ n' := by
      have h := Hlb.out
      rcases Nat.eq_zero_or_pos n' with e | e
      · rw [e] at h; have := limbs_len_zero.1 h; have := Hb0.out; omega
      · omega
    have Hbl : Hid (bl = blen a) := Lib.hid hbl
    have hbl1 : (bl : Int) ≤ 96000 := by
      have h := blen_lt.2 (by have h := limbs_len_le.1 (show (limbs a).length ≤ n by rw [Hla.out]; exact Nat.le_refl _); rw [Bs_pow] at h; exact h)
      omega
    rw [← ha, ← hbl]
    clear ha hb hbl h0
    go_wp2_with fail
    go_loopw [9] (fun kv wr => ∃ (m : Nat) (ws qs : List Nat), m ≤ bl ∧ kv = .int .i64 ((m : Int) - 1) ∧ ws.length = N ∧ qs.length = n ∧ Lim ws ∧ Lim qs ∧ V ws = a / 2 ^ m % b ∧ V qs = a / 2 ^ m / b * 2 ^ m ∧ DvW w1 wr g q ws qs) (fun kv _ => (intOf kv + 1).toNat)
    case atStart => exact ⟨bl, List.replicate N 0, List.replicate n 0, Nat.le_refl _, rfl, List.length_replicate, List.length_replicate, Lim_zeros _, Lim_zeros _, by rw [V_replicate, Hbl.out, (dv_start a b).1], by rw [V_replicate, Hbl.out, (dv_start a b).2], HD4.out⟩
    case round =>
      clear HD4
      obtain ⟨m, ws, qs, hm0, rfl, hwl, hql, hwlim, hqlim, hwv, hqv, hD⟩ := hrel
      have Hwl := Lib.hid hwl
      have Hql := Lib.hid hql
      have Hwlim := Lib.hid hwlim
      have Hqlim := Lib.hid hqlim
      have Hwv := Lib.hid hwv
      have Hqv := Lib.hid hqv
      have HD := Lib.hid hD
      clear hwl hql hwlim hqlim hwv hqv hD
      by_cases h0 : m = 0
      · subst h0
        obtain ⟨⟨hx1, hx2⟩, hx3⟩ := Bx1.out.next HD.out.2.2.2
        obtain ⟨⟨hy1, hy2⟩, hy3⟩ := By1.out.next HD.out.2.2.2
        go_wp2_with fail
        have HA : Hid (V ws = a % b ∧ V qs = a / b) := Lib.hid ⟨by rw [Hwv.out, Nat.pow_zero, Nat.div_one], by rw [Hqv.out, Nat.pow_zero, Nat.div_one, Nat.mul_one]⟩
        obtain ⟨t, ht⟩ : ∃ t, t = S * S' := ⟨_, rfl⟩
        have hsp := sign_prod Hz.out.sg Hz'.out.sg
        rw [← Hab.out.1, ← Hab.out.2, ← ht] at hsp
        have Ht : Hid (t = S * S') := Lib.hid ht
        have Hs1 : Hid (t = 1 ∨ t = -1 ∨ V qs = 0) := Lib.hid (by
          rcases hsp.1 with h | h | h
          · exact .inl h
          · exact .inr (.inl h)
          · refine .inr (.inr ?_)
            rcases Nat.mul_eq_zero.1 h with h2 | h2
            · rw [HA.out.2, h2, Nat.zero_div]
            · have := Hb0.out; omega)
        have Hs2 : Hid (S = 1 ∨ S = -1 ∨ V ws = 0) := Lib.hid (sgn_or Hz.out.1 (fun h => by rw [HA.out.1, Hab.out.1, h]; exact Nat.zero_mod _))
        have Hlt : Hid (w.heap.size + 1 + 1 + 1 < wr.heap.size) := Lib.hid (Nat.lt_of_lt_of_le Rr1.out.2 HD.out.2.2.2.size)
        have Rq2 := Lib.hid (Rq1.out.next HD.out.2.2.2)
        have Rr2 := Lib.hid (Rr1.out.next HD.out.2.2.2)
        have Bx2 := Lib.hid (Bx1.out.next HD.out.2.2.2)
        have By2 := Lib.hid (By1.out.next HD.out.2.2.2)
        have Bel2 := Lib.hid (belNext Bel1.out HD.out.2.2.2)
        have hss : IntKind.i64.wrap (S * S') = t := by rw [← ht]; exact IntWalk.i64_in _ (by have := hsp.2.1; omega)
        clear ht hsp
        refine wp_region_held_drew (S := fun w' => (w'.cell? ⟨w.heap.size, 0, none⟩ = some (.int .i64 S) ∧ w'.cell? ⟨w.heap.size, 1, none⟩ = some (.slice A n c)) ∧ (w'.cell? ⟨w.heap.size + 1, 0, none⟩ = some (.int .i64 S') ∧ w'.cell? ⟨w.heap.size + 1, 1, none⟩ = some (.slice A' n' c'))) (by kernel_rfl) ⟨Bx2.out.1, By2.out.1⟩ (fun hHeld => ?_)
        clear hx1 hx2 hx3 hy1 hy2 hy3
        refine wpAnyH_take (i := 0) (v := ?_) rfl (by kernel_rfl) (by kernel_rfl) (by kernel_rfl) (fun _ _ _ h => h) (Or.inl ⟨by rfl, ?_⟩) (by assumption) ?_
        rotate_left
        · (intro w hSw; (try dsimp only at hSw); go_simp; (try with_reducible rfl))
        try simp only [Act.put, List.setIfInBounds_toArray, List.set_cons_zero, List.set_cons_succ, List.getElem_toArray, List.getElem_cons_succ, List.getElem_cons_zero]
        refine wpAnyH_take (i := 1) (v := ?_) rfl (by kernel_rfl) (by kernel_rfl) (by kernel_rfl) (fun _ _ _ h => h) (Or.inl ⟨by rfl, ?_⟩) (by assumption) ?_
        rotate_left
        · (intro w hSw; (try dsimp only at hSw); go_simp; (try with_reducible rfl))
        try simp only [Act.put, List.setIfInBounds_toArray, List.set_cons_zero, List.set_cons_succ, List.getElem_toArray, List.getElem_cons_succ, List.getElem_cons_zero]
        refine wpAnyH_take (i := 2) (v := ?_) rfl (by kernel_rfl) (by kernel_rfl) (by kernel_rfl) (fun _ _ _ h => h) (Or.inl ⟨by rfl, ?_⟩) (by assumption) ?_
        rotate_left
        · (intro w hSw; (try dsimp only at hSw); go_simp; (try with_reducible rfl))
        try simp only [Act.put, List.setIfInBounds_toArray, List.set_cons_zero, List.set_cons_succ, List.getElem_toArray, List.getElem_cons_succ, List.getElem_cons_zero]
        refine wpAnyH_take (i := 3) (v := ?_) rfl (by kernel_rfl) (by kernel_rfl) (by kernel_rfl) (fun _ _ _ h => h) (Or.inl ⟨by rfl, ?_⟩) (by assumption) ?_
        rotate_left
        · (intro w hSw; (try dsimp only at hSw); go_simp; (try with_reducible rfl))
        try simp only [Act.put, List.setIfInBounds_toArray, List.set_cons_zero, List.set_cons_succ, List.getElem_toArray, List.getElem_cons_succ, List.getElem_cons_zero]
        refine wpAnyH_take (i := 4) (v := ?_) rfl (by kernel_rfl) (by kernel_rfl) (by kernel_rfl) (fun _ _ _ h => h) (Or.inl ⟨by rfl, ?_⟩) (by assumption) ?_
        rotate_left
        · (intro w hSw; (try dsimp only at hSw); go_simp; (try with_reducible rfl))
        try simp only [Act.put, List.setIfInBounds_toArray, List.set_cons_zero, List.set_cons_succ, List.getElem_toArray, List.getElem_cons_succ, List.getElem_cons_zero]
        refine wpAnyH_take (i := 5) (v := ?_) rfl (by kernel_rfl) (by kernel_rfl) (by kernel_rfl) (fun _ _ _ h => h) (Or.inl ⟨by rfl, ?_⟩) (by assumption) ?_
        rotate_left
        · (intro w hSw; (try dsimp only at hSw); go_simp; (try with_reducible rfl))
        try simp only [Act.put, List.setIfInBounds_toArray, List.set_cons_zero, List.set_cons_succ, List.getElem_toArray, List.getElem_cons_succ, List.getElem_cons_zero]
        refine wpAnyH_take (i := 7) (v := ?_) rfl (by kernel_rfl) (by kernel_rfl) (by kernel_rfl) (fun _ _ _ h => h) (Or.inl ⟨by rfl, ?_⟩) (by assumption) ?_
        rotate_left
        · (intro w hSw; (try dsimp only at hSw); go_simp; (try with_reducible rfl))
        try simp only [Act.put, List.setIfInBounds_toArray, List.set_cons_zero, List.set_cons_succ, List.getElem_toArray, List.getElem_cons_succ, List.getElem_cons_zero]
        refine wpAnyH_take (i := 8) (v := ?_) rfl (by kernel_rfl) (by kernel_rfl) (by kernel_rfl) (fun _ _ _ h => h) (Or.inl ⟨by rfl, ?_⟩) (by assumption) ?_
        rotate_left
        · (intro w hSw; (try dsimp only at hSw); go_simp; (try with_reducible rfl))
        try simp only [Act.put, List.setIfInBounds_toArray, List.set_cons_zero, List.set_cons_succ, List.getElem_toArray, List.getElem_cons_succ, List.getElem_cons_zero]
        refine wpAnyH_take (i := 9) (v := ?_) rfl (by kernel_rfl) (by kernel_rfl) (by kernel_rfl) (fun _ _ _ h => h) (Or.inl ⟨by rfl, ?_⟩) (by assumption) ?_
        rotate_left
        · (intro w hSw; (try dsimp only at hSw); go_simp; (try with_reducible rfl))
        try simp only [Act.put, List.setIfInBounds_toArray, List.set_cons_zero, List.set_cons_succ, List.getElem_toArray, List.getElem_cons_succ, List.getElem_cons_zero]
        clear hss
        refine wpAnyH_ready (rs := [6]) (by kernel_rfl) (by simp) ?_
        refine AllReadyH.cons rfl (fun K hK => ?_) AllReadyH.nil
        go_simp
        refine (make_any t (some ⟨q, 0, none⟩) n n wr.heap.size qs wr.drew (HD.out.2.2.1.rdAll.drewN 1) (Nat.le_refl _) Hql.out Hqlim.out (Int.le_refl _) (by omega)).mono ?_
        rintro e y1 ⟨val, rfl, hv, hb0⟩
        have hb : Below wr.heap.size wr y1 := belDrew hb0
        obtain ⟨Sq, Aq, nq, cq, rfl, hzo⟩ := Wz.zo ((hv.z Hs1.out).cast_ (z' := S * S' * ((z.natAbs / z'.natAbs : Nat) : Int)) (by rw [Ht.out, HA.out.2, Hab.out.1, Hab.out.2])) (Nat.le_refl _)
        refine hK.out _ _ ⟨(Bx2.out.next hb).1, (By2.out.next hb).1⟩ (fun hHeld => ?_)
        have Zq3 := Lib.hid (hzo.wide (lo' := w.heap.size + 1 + 1 + 1 + 1) (by have := Hlt.out; simp; omega) (Nat.le_refl _) (Nat.le_refl _))
        have HD3 := Lib.hid (HD.out.next hb)
        have Rq3 := Lib.hid (Rq2.out.next hb)
        have Rr3 := Lib.hid (Rr2.out.next hb)
        have Bx3 := Lib.hid (Bx2.out.next hb)
        have By3 := Lib.hid (By2.out.next hb)
        have Bel3 := Lib.hid (belNext Bel2.out hb)
        have Sz3 := Lib.hid hb.size
        clear hK K hb0 hb hv hzo HD Rq2 Rr2 Bx2 By2 Bel2
        try simp only [Act.put, List.setIfInBounds_toArray, List.set_cons_zero, List.set_cons_succ, List.getElem_toArray, List.getElem_cons_succ, List.getElem_cons_zero]
        refine wpAnyH_ready (rs := [10]) (by kernel_rfl) (by simp) ?_
        refine AllReadyH.cons rfl (fun K hK => ?_) AllReadyH.nil
        go_simp
        refine (make_any S (some ⟨g, 0, none⟩) N N y1.heap.size ws y1 HD3.out.2.1.rdAll (Nat.le_refl _) Hwl.out Hwlim.out (Int.le_refl _) (by omega)).mono ?_
        rintro e y2 ⟨val, rfl, hv, hb⟩
        obtain ⟨Sr, Ar, nr, cr, rfl, hzo⟩ := Wz.zo ((hv.z Hs2.out).cast_ (z' := S * ((z.natAbs % z'.natAbs : Nat) : Int)) (by rw [HA.out.1, Hab.out.1, Hab.out.2])) (Nat.le_refl _)
        refine hK.out _ _ ⟨(Bx3.out.next hb).1, (By3.out.next hb).1⟩ (fun hHeld => ?_)
        have Zr4 := Lib.hid (hzo.wide (lo' := w.heap.size + 1 + 1 + 1 + 1) (by have := Hlt.out; have := Sz3.out; omega) (Nat.le_refl _) (Nat.le_refl _))
        have Zq4 := Lib.hid ((Zq3.out.next hb).wide (Nat.le_refl _) hb.size (Nat.le_refl _))
        have Rq4 := Lib.hid (Rq3.out.next hb)
        have Rr4 := Lib.hid (Rr3.out.next hb)
        have Bx4 := Lib.hid (Bx3.out.next hb)
        have By4 := Lib.hid (By3.out.next hb)
        have Bel4 := Lib.hid (belNext Bel3.out hb)
        clear hK K hb hv hzo HD3 Rq3 Rr3 Bx3 By3 Bel3 Zq3
        try simp only [Act.put, List.setIfInBounds_toArray, List.set_cons_zero, List.set_cons_succ, List.getElem_toArray, List.getElem_cons_succ, List.getElem_cons_zero]
        obtain ⟨⟨r1, r2, r3, r4⟩, r5⟩ := Rq4.out
        refine wpAnyH_ready (rs := [11]) (by kernel_rfl) (by simp) ?_
        refine AllReadyH.cons rfl (fun K hK => ?_) AllReadyH.nil
        go_simp
        refine hK.out _ (st y2 (w.heap.size + 1 + 1) Sq Aq nq cq) ⟨(Bx4.out.st_ (by omega)).1, (By4.out.st_ (by omega)).1⟩ (fun hHeld => ?_)
        have Bq5 := Lib.hid (Box.made (s := Sq) (A := Aq) (n := nq) (c := cq) ⟨r1, r2⟩ r5)
        have Rr5 := Lib.hid (resB_st (b' := w.heap.size + 1 + 1) (s := Sq) (A := Aq) (n := nq) (c := cq) Rr4.out (by omega))
        have Bx5 := Lib.hid (Bx4.out.st_ (b := w.heap.size + 1 + 1) (s := Sq) (A := Aq) (n := nq) (c := cq) (by omega))
        have By5 := Lib.hid (By4.out.st_ (b := w.heap.size + 1 + 1) (s := Sq) (A := Aq) (n := nq) (c := cq) (by omega))
        have Zq5 := Lib.hid ((Zq4.out.setCell (p := ⟨w.heap.size + 1 + 1, 0, none⟩) (.inl (by simp)) (.int .i64 Sq)).setCell (p := ⟨w.heap.size + 1 + 1, 1, none⟩) (.inl (by simp)) (.slice Aq nq cq))
        have Zr5 := Lib.hid ((Zr4.out.setCell (p := ⟨w.heap.size + 1 + 1, 0, none⟩) (.inl (by simp)) (.int .i64 Sq)).setCell (p := ⟨w.heap.size + 1 + 1, 1, none⟩) (.inl (by simp)) (.slice Aq nq cq))
        have Bel5 := Lib.hid (belSt (b := w.heap.size + 1 + 1) (s := Sq) (A := Aq) (n := nq) (c := cq) Bel4.out (by omega))
        have Hsz : Hid ((st y2 (w.heap.size + 1 + 1) Sq Aq nq cq).heap.size = y2.heap.size) := Lib.hid st_size
        obtain ⟨y3, hy3⟩ : ∃ y3, y3 = st y2 (w.heap.size + 1 + 1) Sq Aq nq cq := ⟨_, rfl⟩
        change Hid (ZO (st y2 (w.heap.size + 1 + 1) Sq Aq nq cq) _ _ _ _ _ _ _) at Zq5 Zr5
        rw [← hy3] at Bq5 Rr5 Bx5 By5 Zq5 Zr5 Bel5 Hsz
        rw [← hy3]
        clear hK K r1 r2 r3 r4 r5 Rq4 Rr4 Bx4 By4 Zq4 Zr4 Bel4 hy3
        try simp only [Act.put, List.setIfInBounds_toArray, List.set_cons_zero, List.set_cons_succ, List.getElem_toArray, List.getElem_cons_succ, List.getElem_cons_zero]
        obtain ⟨⟨r1, r2, r3, r4⟩, r5⟩ := Rr5.out
        refine wpAnyH_ready (rs := [12]) (by kernel_rfl) (by simp) ?_
        refine AllReadyH.cons rfl (fun K hK => ?_) AllReadyH.nil
        go_simp
        refine hK.out _ (st y3 (w.heap.size + 1 + 1 + 1) Sr Ar nr cr) ⟨(Bx5.out.st_ (by omega)).1, (By5.out.st_ (by omega)).1⟩ (fun hHeld => ?_)
        clear hK K hHeld
        try simp only [Act.put, List.setIfInBounds_toArray, List.set_cons_zero, List.set_cons_succ, List.getElem_toArray, List.getElem_cons_succ, List.getElem_cons_zero]
        refine wpAnyH_done (by kernel_rfl) ?_ _
        obtain ⟨⟨q1, q2⟩, _⟩ := Bq5.out.st_ (b := w.heap.size + 1 + 1 + 1) (s := Sr) (A := Ar) (n := nr) (c := cr) (by omega)
        obtain ⟨⟨q3, q4⟩, _⟩ := Box.made (s := Sr) (A := Ar) (n := nr) (c := cr) ⟨r1, r2⟩ r5
        clear r1 r2 r3 r4 r5
        go_wp2_with fail
        refine bodyPost_ret (v := .tuple #[.agg #[.int .i64 Sq, .slice Aq nq cq], .agg #[.int .i64 Sr, .slice Ar nr cr]]) (by simp [results, Tryd.results92, go_sem, q1, q2, q3, q4]) rfl ⟨Sq, Aq, nq, cq, Sr, Ar, nr, cr, rfl, ?_, ?_, belSt Bel5.out (by omega)⟩
        · exact ((Zq5.out.setCell (p := ⟨w.heap.size + 1 + 1 + 1, 0, none⟩) (.inl (by simp)) (.int .i64 Sr)).setCell (p := ⟨w.heap.size + 1 + 1 + 1, 1, none⟩) (.inl (by simp)) (.slice Ar nr cr)).wide (by omega) (by rw [st_size, Hsz.out]; exact Nat.le_refl _) (Nat.le_refl _)
        · exact ((Zr5.out.setCell (p := ⟨w.heap.size + 1 + 1 + 1, 0, none⟩) (.inl (by simp)) (.int .i64 Sr)).setCell (p := ⟨w.heap.size + 1 + 1 + 1, 1, none⟩) (.inl (by simp)) (.slice Ar nr cr)).wide (by omega) (by rw [st_size, Hsz.out]; exact Nat.le_refl _) (Nat.le_refl _)
      · obtain ⟨k, rfl⟩ : ∃ k, m = k + 1 := ⟨m - 1, by omega⟩
        have hj : ((k + 1 : Nat) : Int) - 1 = k := by omega
        rw [hj]
        have hk0 : (k : Int) < bl := by omega
        have Hkn : Hid (k < 24 * n) := Lib.hid (by
          have h := blen_lt.2 (by have h := limbs_len_le.1 (show (limbs a).length ≤ n by rw [Hla.out]; exact Nat.le_refl _); rw [Bs_pow] at h; exact h)
          have := Hbl.out
          omega)
        clear hj h0
        obtain ⟨⟨hx1, hx2⟩, hx3⟩ := Bx1.out.next HD.out.2.2.2
        go_wp2_with fail
        refine (specBit_any z S A n c k wr (Hz.out.next (belNext Bel1.out HD.out.2.2.2)) (by omega) (by omega)).mono ?_
        rintro e w5 ⟨rfl, hb⟩
        rw [← Hab.out.1]
        have HD5 := Lib.hid (HD.out.next hb)
        clear hx1 hx2 hx3 hb HD
        obtain ⟨t, ht⟩ : ∃ t, t = bt a k := ⟨_, rfl⟩
        have Ht : Hid (t = bt a k) := Lib.hid ht
        have ht1 : (t : Int) ≤ 1 := by have := bt_le a k; omega
        rw [← ht]
        clear ht
        go_wp2_with fail
        go_loopw [10, 11] (fun cv iv wq => ∃ (i cc : Nat) (ys : List Nat), i ≤ N ∧ iv = .int .i64 i ∧ cv = .int .i64 cc ∧ cc ≤ 1 ∧ ys.length = N ∧ Lim ys ∧ (∀ p, i ≤ p → ys[p]? = ws[p]?) ∧ V ys + Bs ^ i * cc = V ws + V (ws.take i) + t ∧ DvW w1 wq g q ys qs) (fun _ iv _ => N + 1 - (intOf iv).toNat)
        case atStart => exact ⟨0, t, ws, Nat.zero_le _, rfl, rfl, by omega, Hwl.out, Hwlim.out, fun _ _ => rfl, by simp [V], HD5.out⟩
        case round =>
          clear HD5
          obtain ⟨i, cc, ys, hi, rfl, rfl, hcc, hyl, hylim, hfar, hyv, hD⟩ := hrel
          have Hyl := Lib.hid hyl
          have Hylim := Lib.hid hylim
          have Hfar := Lib.hid hfar
          have Hyv := Lib.hid hyv
          have HD := Lib.hid hD
          clear hyl hylim hfar hyv hD
          by_cases hlt : i < N
          · have hky : i < ys.length := by rw [Hyl.out]; exact hlt
            have hkw : i < ws.length := by rw [Hwl.out]; exact hlt
            have hyw : ys[i] = ws[i] := by
              have h := Hfar.out i (Nat.le_refl _)
              rw [List.getElem?_eq_getElem hky, List.getElem?_eq_getElem hkw] at h
              exact Option.some.inj h
            obtain ⟨hcz, hfz, hset⟩ := HD.out.row hky
            obtain ⟨d, e, hd, he, hdb, heb, hrem, hquo, hu0, hu1, hc0, hc1, hs0⟩ := dbl_nums (Hylim.out.getElem hky) hcc
            have Hs := Lib.hid (dbl_step hky hkw hyw Hyv.out hd he)
            have Hset := Lib.hid (hset d)
            have Hdb := Lib.hid (And.intro hdb heb)
            have hin : (i : Int) ≤ n' := by omega
            have hiN : (i : Int) < N := by omega
            clear hyw hset hd he hdb heb
            generalize ys[i] = u at *
            go_wp2_with fail
            go_roundw
            case rel => exact ⟨i + 1, e, ys.set i d, by omega, by go_num, by first | rfl | rw [hquo], Hdb.out.2, by rw [List.length_set]; exact Hyl.out, Hylim.out.set Hdb.out.1, fun p hp => by rw [List.getElem?_set_ne (by omega)]; exact Hfar.out p (by omega), Hs.out, Hset.out⟩
            case measure => simp [intOf]; omega
          · have hiN : i = n' + 1 := by have := HN.out; omega
            subst hiN
            have HR : Hid (V ys = 2 * V ws + t) := Lib.hid (dbl_end (by rw [Hwl.out]; exact HN.out) Hyv.out (by rw [Hwv.out]; exact Nat.mod_lt _ Hb0.out) Hbn.out (by omega))
            have hky : n' < ys.length := by rw [Hyl.out]; omega
            have hnot : ¬ ((n' + 1 : Nat) : Int) ≤ n' := by omega
            obtain ⟨hcz, hfz, hset⟩ := HD.out.row hky
            have HyN : Hid (ys.length = n' + 1) := Lib.hid (by rw [Hyl.out]; exact HN.out)
            have Htop : Hid ((ys[n'] == 0) = true → V (ys.drop n') = V ((limbs b).drop n')) := Lib.hid (fun h => top_drop HyN.out Hlb.out hky (by simpa using h))
            have Htop2 : Hid ((ys[n'] == 0) = false → b ≤ V ys) := Lib.hid (fun h => more_top HyN.out hky (by simpa using h) Hbn.out)
            have hbq : (((ys[n'] : Nat) : Int) == 0) = (ys[n'] == 0) := by
              by_cases h : ys[n'] = 0
              · rw [h]; rfl
              · rw [beq_false_of_ne h, beq_false_of_ne (by omega)]
            obtain ⟨l0, hl0⟩ : ∃ l0, l0 = (ys[n'] == 0) := ⟨_, rfl⟩
            rw [← hl0] at hbq Htop Htop2
            have hnN : (n' : Int) < N := by omega
            clear hset hl0
            generalize ys[n'] = u at *
            go_wp2_with fail
            go_loopw [13, 14] (fun lv iv wq => ∃ (i : Nat) (l : Bool), i ≤ n' ∧ iv = .int .i64 ((i : Int) - 1) ∧ lv = .bool l ∧ (l = true → V (ys.drop i) = V ((limbs b).drop i)) ∧ (l = true → 0 < i) ∧ (l = false → b ≤ V ys) ∧ DvW w1 wq g q ys qs) (fun _ iv _ => (intOf iv + 1).toNat)
            case atStart => exact ⟨n', l0, Nat.le_refl _, rfl, by first | rfl | rw [hbq], Htop.out, fun _ => by omega, Htop2.out, HD.out⟩
            case round =>
              clear HD hcz hfz hbq Htop Htop2
              obtain ⟨i, l, hi, rfl, rfl, hl1, hl2, hl3, hD⟩ := hrel
              have HD := Lib.hid hD
              have Hl3 := Lib.hid hl3
              have Hl1 := Lib.hid hl1
              clear hD hl3 hl1
              rcases l with _ | _
              · have HGe : Hid (b ≤ V ys) := Lib.hid (Hl3.out rfl)
                clear hl2 Hl1 Hl3
                by_cases hi0 : (0 : Int) ≤ (i : Int) - 1
                · go_wp2_with fail
                  go_loopw [15, 16] (fun ov iv wq => ∃ (i o : Nat) (zs : List Nat), i ≤ N ∧ iv = .int .i64 i ∧ ov = .int .i64 o ∧ o ≤ 1 ∧ zs.length = N ∧ Lim zs ∧ V zs + V ((limbs b).take i) = V ys + Bs ^ i * o ∧ DvW w1 wq g q zs qs) (fun _ iv _ => N + 1 - (intOf iv).toNat)
                  case atStart => exact ⟨0, 0, ys, Nat.zero_le _, rfl, rfl, by omega, Hyl.out, Hylim.out, by simp [V], by first | exact HD.out | exact HD.out.drewN _ | exact (HD.out.drewN _).drewN _⟩
                  case round =>
                    clear HD
                    obtain ⟨i, o, zs, hi, rfl, rfl, ho, hzl, hzlim, hzv, hD⟩ := hrel
                    have Hzl := Lib.hid hzl
                    have Hzlim := Lib.hid hzlim
                    have Hzv := Lib.hid hzv
                    have HD := Lib.hid hD
                    have ho0 : (0 : Int) ≤ o := by omega
                    have ho1 : (o : Int) ≤ 1 := by omega
                    clear hzl hzlim hzv hD
                    obtain ⟨⟨hy1, hy2⟩, hy3⟩ := By1.out.next HD.out.2.2.2
                    by_cases hlt : i < N
                    · have hkz : i < zs.length := by rw [Hzl.out]; exact hlt
                      obtain ⟨hcz, hfz, hset⟩ := HD.out.row hkz
                      have Hub := Lib.hid (Hzlim.out.getElem hkz)
                      have hu0 : (0 : Int) ≤ (zs[i] : Nat) := by omega
                      have hu1 : ((zs[i] : Nat) : Int) ≤ 16777215 := by have := Hub.out; rw [Bs_eq] at this; omega
                      have hin : (i : Int) ≤ n' := by have := HN.out; omega
                      have hiN : (i : Int) < N := by omega
                      by_cases hlx : i < n'
                      · have hkd : i < (limbs b).length := by rw [Hlb.out]; exact hlx
                        have hrb := (Hz'.out.next (belNext Bel1.out HD.out.2.2.2)).rd
                        rw [← Hab.out.2] at hrb
                        obtain ⟨p', hp', _⟩ := hrb.some_ (by rw [vs_len]; omega)
                        first | subst hp' | (injection hp' with hp'; subst hp')
                        have hcy := hrb.cell (k := i) (by rw [vs_len]; exact hkd)
                        rw [vs_get hkd] at hcy
                        have Hxb := Lib.hid ((Lim_limbs b).getElem hkd)
                        have hx0 : (0 : Int) ≤ ((limbs b)[i] : Nat) := by omega
                        have hx1 : (((limbs b)[i] : Nat) : Int) ≤ 16777215 := by have := Hxb.out; rw [Bs_eq] at this; omega
                        obtain ⟨d, e, hde, hdb, heb, hneg, hpos⟩ := off_nums (x := (limbs b)[i]) Hub.out Hxb.out ho
                        have Hs := Lib.hid (off_step (n := n') (x := (limbs b)[i]) hkz Hlb.out (by rw [dif_pos hkd]) Hzv.out hde)
                        have Hset := Lib.hid (hset d)
                        have Hdb := Lib.hid (And.intro hdb heb)
                        have hilt : (i : Int) < n' := by omega
                        clear hset hde hdb heb hrb
                        generalize zs[i] = u at *
                        generalize (limbs b)[i] = x at *
                        by_cases hng : (u : Int) - o - x < 0
                        · obtain ⟨he, hdv⟩ := hneg hng
                          subst he
                          clear hneg hpos
                          go_wp2_with fail
                          go_roundw
                          case rel => exact ⟨i + 1, 1, zs.set i d, by omega, by go_num, rfl, Nat.le_refl _, by rw [List.length_set]; exact Hzl.out, Hzlim.out.set Hdb.out.1, Hs.out, by first | exact Hset.out | (have h := Hset.out; rw [← hdv] at h; exact h)⟩
                          case measure => first | (simp [intOf]; done) | (simp [intOf]; omega)
                        · obtain ⟨he, hdv⟩ := hpos hng
                          subst he
                          clear hneg hpos
                          go_wp2_with fail
                          go_roundw
                          case rel => exact ⟨i + 1, 0, zs.set i d, by omega, by go_num, rfl, by omega, by rw [List.length_set]; exact Hzl.out, Hzlim.out.set Hdb.out.1, Hs.out, by first | exact Hset.out | (have h := Hset.out; rw [← hdv] at h; exact h)⟩
                          case measure => first | (simp [intOf]; done) | (simp [intOf]; omega)
                      · have hnlt : ¬ (i : Int) < n' := by omega
                        obtain ⟨d, e, hde, hdb, heb, hneg, hpos⟩ := off_nums (x := 0) Hub.out (by rw [Bs_eq]; omega) ho
                        have Hs := Lib.hid (off_step (n := n') (x := 0) hkz Hlb.out (by rw [dif_neg (by rw [Hlb.out]; exact hlx)]) Hzv.out hde)
                        have Hset := Lib.hid (hset d)
                        have Hdb := Lib.hid (And.intro hdb heb)
                        rw [show ((0 : Nat) : Int) = 0 from rfl, Int.sub_zero] at hneg hpos
                        clear hset hde hdb heb
                        generalize zs[i] = u at *
                        by_cases hng : (u : Int) - o < 0
                        · obtain ⟨he, hdv⟩ := hneg hng
                          subst he
                          clear hneg hpos
                          go_wp2_with fail
                          go_roundw
                          case rel => exact ⟨i + 1, 1, zs.set i d, by omega, by go_num, rfl, Nat.le_refl _, by rw [List.length_set]; exact Hzl.out, Hzlim.out.set Hdb.out.1, Hs.out, by first | exact Hset.out | (have h := Hset.out; rw [← hdv] at h; exact h)⟩
                          case measure => first | (simp [intOf]; done) | (simp [intOf]; omega)
                        · obtain ⟨he, hdv⟩ := hpos hng
                          subst he
                          clear hneg hpos
                          go_wp2_with fail
                          go_roundw
                          case rel => exact ⟨i + 1, 0, zs.set i d, by omega, by go_num, rfl, by omega, by rw [List.length_set]; exact Hzl.out, Hzlim.out.set Hdb.out.1, Hs.out, by first | exact Hset.out | (have h := Hset.out; rw [← hdv] at h; exact h)⟩
                          case measure => first | (simp [intOf]; done) | (simp [intOf]; omega)
                    · have hiN : i = n' + 1 := by have := HN.out; omega
                      subst hiN
                      have hnot : ¬ ((n' + 1 : Nat) : Int) ≤ n' := by omega
                      have hlen : ws.length = N := Hwl.out
                      obtain ⟨mq, rq, P, hkq, hkm, hkr, hr23, hmn, hsw1, hsw2, hP1, hf1, hf2, hqb⟩ := sub_end (ys := ys) (zs := zs) (qs := qs) (a := a) (b := b) (k := k) (n := n) Hb0.out (by rw [HR.out, Hwv.out, Ht.out]) HGe.out Hzlim.out (by rw [Hzl.out]; exact HN.out) Hlb.out Hzv.out Hqlim.out Hql.out Hkn.out Hqv.out
                      have Hsw := Lib.hid (And.intro hsw1 hsw2)
                      clear hsw1 hsw2
                      obtain ⟨hcq, hfq, hset⟩ := HD.out.quo hkq
                      have Hfin : Hid (V zs = a / 2 ^ k % b ∧ V (qs.set mq (qs[mq] + P)) = a / 2 ^ k / b * 2 ^ k) := Lib.hid ⟨hf1, hf2⟩
                      have Hset := Lib.hid (hset (qs[mq] + P))
                      have Hqb := Lib.hid hqb
                      clear hf1 hf2
                      have hp0 : (0 : Int) ≤ P := by omega
                      have hu0 : (0 : Int) ≤ (qs[mq] : Nat) := by omega
                      have hu1 : ((qs[mq] : Nat) : Int) ≤ 16777215 := by have := hqb; rw [Bs_eq] at this; omega
                      have hadd : (((qs[mq] + P : Nat)) : Int) = (qs[mq] : Nat) + (P : Int) := by omega
                      rw [hadd] at Hset
                      clear hset hqb hadd hlen
                      have Hqs : Hid (∀ x : Nat, (qs.set mq x).length = n) := Lib.hid (fun x => by rw [List.length_set]; exact Hql.out)
                      have Hqls : Hid (Lim (qs.set mq (qs[mq] + P))) := Lib.hid (Hqlim.out.set Hqb.out)
                      generalize hu : qs[mq] = u at *
                      clear hu
                      have hsw3 : ∀ x : Int, x = u → wrap64 (x + P) = x + P := fun x hx => wrap64_small (by omega) (by omega)
                      have hsw1 : ∀ x : Nat, x = rq → wrap64 (1 * (2 : Int) ^ x) = P := fun x hx => by rw [hx]; exact Hsw.out.1
                      have hsw2 : ∀ x : Nat, x = rq → wrap64 ((2 : Int) ^ x) = P := fun x hx => by rw [hx]; exact Hsw.out.2
                      go_wp2_with fail
                      clear hsw1 hsw2 hsw3
                      go_roundw
                      case rel => exact ⟨k, zs, qs.set mq (u + P), by omega, rfl, Hzl.out, Hqs.out _, Hzlim.out, Hqls.out, Hfin.out.1, Hfin.out.2, Hset.out⟩
                      case measure => first | (simp [intOf]; done) | (simp [intOf]; omega)
                · go_wp2_with fail
                  go_loopw [15, 16] (fun ov iv wq => ∃ (i o : Nat) (zs : List Nat), i ≤ N ∧ iv = .int .i64 i ∧ ov = .int .i64 o ∧ o ≤ 1 ∧ zs.length = N ∧ Lim zs ∧ V zs + V ((limbs b).take i) = V ys + Bs ^ i * o ∧ DvW w1 wq g q zs qs) (fun _ iv _ => N + 1 - (intOf iv).toNat)
                  case atStart => exact ⟨0, 0, ys, Nat.zero_le _, rfl, rfl, by omega, Hyl.out, Hylim.out, by simp [V], by first | exact HD.out | exact HD.out.drewN _ | exact (HD.out.drewN _).drewN _⟩
                  case round =>
                    clear HD
                    obtain ⟨i, o, zs, hi, rfl, rfl, ho, hzl, hzlim, hzv, hD⟩ := hrel
                    have Hzl := Lib.hid hzl
                    have Hzlim := Lib.hid hzlim
                    have Hzv := Lib.hid hzv
                    have HD := Lib.hid hD
                    have ho0 : (0 : Int) ≤ o := by omega
                    have ho1 : (o : Int) ≤ 1 := by omega
                    clear hzl hzlim hzv hD
                    obtain ⟨⟨hy1, hy2⟩, hy3⟩ := By1.out.next HD.out.2.2.2
                    by_cases hlt : i < N
                    · have hkz : i < zs.length := by rw [Hzl.out]; exact hlt
                      obtain ⟨hcz, hfz, hset⟩ := HD.out.row hkz
                      have Hub := Lib.hid (Hzlim.out.getElem hkz)
                      have hu0 : (0 : Int) ≤ (zs[i] : Nat) := by omega
                      have hu1 : ((zs[i] : Nat) : Int) ≤ 16777215 := by have := Hub.out; rw [Bs_eq] at this; omega
                      have hin : (i : Int) ≤ n' := by have := HN.out; omega
                      have hiN : (i : Int) < N := by omega
                      by_cases hlx : i < n'
                      · have hkd : i < (limbs b).length := by rw [Hlb.out]; exact hlx
                        have hrb := (Hz'.out.next (belNext Bel1.out HD.out.2.2.2)).rd
                        rw [← Hab.out.2] at hrb
                        obtain ⟨p', hp', _⟩ := hrb.some_ (by rw [vs_len]; omega)
                        first | subst hp' | (injection hp' with hp'; subst hp')
                        have hcy := hrb.cell (k := i) (by rw [vs_len]; exact hkd)
                        rw [vs_get hkd] at hcy
                        have Hxb := Lib.hid ((Lim_limbs b).getElem hkd)
                        have hx0 : (0 : Int) ≤ ((limbs b)[i] : Nat) := by omega
                        have hx1 : (((limbs b)[i] : Nat) : Int) ≤ 16777215 := by have := Hxb.out; rw [Bs_eq] at this; omega
                        obtain ⟨d, e, hde, hdb, heb, hneg, hpos⟩ := off_nums (x := (limbs b)[i]) Hub.out Hxb.out ho
                        have Hs := Lib.hid (off_step (n := n') (x := (limbs b)[i]) hkz Hlb.out (by rw [dif_pos hkd]) Hzv.out hde)
                        have Hset := Lib.hid (hset d)
                        have Hdb := Lib.hid (And.intro hdb heb)
                        have hilt : (i : Int) < n' := by omega
                        clear hset hde hdb heb hrb
                        generalize zs[i] = u at *
                        generalize (limbs b)[i] = x at *
                        by_cases hng : (u : Int) - o - x < 0
                        · obtain ⟨he, hdv⟩ := hneg hng
                          subst he
                          clear hneg hpos
                          go_wp2_with fail
                          go_roundw
                          case rel => exact ⟨i + 1, 1, zs.set i d, by omega, by go_num, rfl, Nat.le_refl _, by rw [List.length_set]; exact Hzl.out, Hzlim.out.set Hdb.out.1, Hs.out, by first | exact Hset.out | (have h := Hset.out; rw [← hdv] at h; exact h)⟩
                          case measure => first | (simp [intOf]; done) | (simp [intOf]; omega)
                        · obtain ⟨he, hdv⟩ := hpos hng
                          subst he
                          clear hneg hpos
                          go_wp2_with fail
                          go_roundw
                          case rel => exact ⟨i + 1, 0, zs.set i d, by omega, by go_num, rfl, by omega, by rw [List.length_set]; exact Hzl.out, Hzlim.out.set Hdb.out.1, Hs.out, by first | exact Hset.out | (have h := Hset.out; rw [← hdv] at h; exact h)⟩
                          case measure => first | (simp [intOf]; done) | (simp [intOf]; omega)
                      · have hnlt : ¬ (i : Int) < n' := by omega
                        obtain ⟨d, e, hde, hdb, heb, hneg, hpos⟩ := off_nums (x := 0) Hub.out (by rw [Bs_eq]; omega) ho
                        have Hs := Lib.hid (off_step (n := n') (x := 0) hkz Hlb.out (by rw [dif_neg (by rw [Hlb.out]; exact hlx)]) Hzv.out hde)
                        have Hset := Lib.hid (hset d)
                        have Hdb := Lib.hid (And.intro hdb heb)
                        rw [show ((0 : Nat) : Int) = 0 from rfl, Int.sub_zero] at hneg hpos
                        clear hset hde hdb heb
                        generalize zs[i] = u at *
                        by_cases hng : (u : Int) - o < 0
                        · obtain ⟨he, hdv⟩ := hneg hng
                          subst he
                          clear hneg hpos
                          go_wp2_with fail
                          go_roundw
                          case rel => exact ⟨i + 1, 1, zs.set i d, by omega, by go_num, rfl, Nat.le_refl _, by rw [List.length_set]; exact Hzl.out, Hzlim.out.set Hdb.out.1, Hs.out, by first | exact Hset.out | (have h := Hset.out; rw [← hdv] at h; exact h)⟩
                          case measure => first | (simp [intOf]; done) | (simp [intOf]; omega)
                        · obtain ⟨he, hdv⟩ := hpos hng
                          subst he
                          clear hneg hpos
                          go_wp2_with fail
                          go_roundw
                          case rel => exact ⟨i + 1, 0, zs.set i d, by omega, by go_num, rfl, by omega, by rw [List.length_set]; exact Hzl.out, Hzlim.out.set Hdb.out.1, Hs.out, by first | exact Hset.out | (have h := Hset.out; rw [← hdv] at h; exact h)⟩
                          case measure => first | (simp [intOf]; done) | (simp [intOf]; omega)
                    · have hiN : i = n' + 1 := by have := HN.out; omega
                      subst hiN
                      have hnot : ¬ ((n' + 1 : Nat) : Int) ≤ n' := by omega
                      have hlen : ws.length = N := Hwl.out
                      obtain ⟨mq, rq, P, hkq, hkm, hkr, hr23, hmn, hsw1, hsw2, hP1, hf1, hf2, hqb⟩ := sub_end (ys := ys) (zs := zs) (qs := qs) (a := a) (b := b) (k := k) (n := n) Hb0.out (by rw [HR.out, Hwv.out, Ht.out]) HGe.out Hzlim.out (by rw [Hzl.out]; exact HN.out) Hlb.out Hzv.out Hqlim.out Hql.out Hkn.out Hqv.out
                      have Hsw := Lib.hid (And.intro hsw1 hsw2)
                      clear hsw1 hsw2
                      obtain ⟨hcq, hfq, hset⟩ := HD.out.quo hkq
                      have Hfin : Hid (V zs = a / 2 ^ k % b ∧ V (qs.set mq (qs[mq] + P)) = a / 2 ^ k / b * 2 ^ k) := Lib.hid ⟨hf1, hf2⟩
                      have Hset := Lib.hid (hset (qs[mq] + P))
                      have Hqb := Lib.hid hqb
                      clear hf1 hf2
                      have hp0 : (0 : Int) ≤ P := by omega
                      have hu0 : (0 : Int) ≤ (qs[mq] : Nat) := by omega
                      have hu1 : ((qs[mq] : Nat) : Int) ≤ 16777215 := by have := hqb; rw [Bs_eq] at this; omega
                      have hadd : (((qs[mq] + P : Nat)) : Int) = (qs[mq] : Nat) + (P : Int) := by omega
                      rw [hadd] at Hset
                      clear hset hqb hadd hlen
                      have Hqs : Hid (∀ x : Nat, (qs.set mq x).length = n) := Lib.hid (fun x => by rw [List.length_set]; exact Hql.out)
                      have Hqls : Hid (Lim (qs.set mq (qs[mq] + P))) := Lib.hid (Hqlim.out.set Hqb.out)
                      generalize hu : qs[mq] = u at *
                      clear hu
                      have hsw3 : ∀ x : Int, x = u → wrap64 (x + P) = x + P := fun x hx => wrap64_small (by omega) (by omega)
                      have hsw1 : ∀ x : Nat, x = rq → wrap64 (1 * (2 : Int) ^ x) = P := fun x hx => by rw [hx]; exact Hsw.out.1
                      have hsw2 : ∀ x : Nat, x = rq → wrap64 ((2 : Int) ^ x) = P := fun x hx => by rw [hx]; exact Hsw.out.2
                      go_wp2_with fail
                      clear hsw1 hsw2 hsw3
                      go_roundw
                      case rel => exact ⟨k, zs, qs.set mq (u + P), by omega, rfl, Hzl.out, Hqs.out _, Hzlim.out, Hqls.out, Hfin.out.1, Hfin.out.2, Hset.out⟩
                      case measure => first | (simp [intOf]; done) | (simp [intOf]; omega)
              · obtain ⟨j, rfl⟩ : ∃ j, i = j + 1 := ⟨i - 1, by have := hl2 rfl; omega⟩
                have hj : ((j + 1 : Nat) : Int) - 1 = j := by omega
                rw [hj]
                have hj0 : (0 : Int) ≤ j := by omega
                have hjn : (j : Int) < n' := by omega
                have hjN : (j : Int) < N := by omega
                have Heq : Hid (V (ys.drop (j + 1)) = V ((limbs b).drop (j + 1))) := Lib.hid (Hl1.out rfl)
                clear hj hl2 Hl1 Hl3
                have hky : j < ys.length := by rw [Hyl.out]; omega
                have hkd : j < (limbs b).length := by rw [Hlb.out]; omega
                obtain ⟨hcz, hfz, hset⟩ := HD.out.row hky
                obtain ⟨⟨hy1, hy2⟩, hy3⟩ := By1.out.next HD.out.2.2.2
                have hrb := (Hz'.out.next (belNext Bel1.out HD.out.2.2.2)).rd
                rw [← Hab.out.2] at hrb
                obtain ⟨p', hp', _⟩ := hrb.some_ (by rw [vs_len]; omega)
                first | subst hp' | (injection hp' with hp'; subst hp')
                have hcy := hrb.cell (k := j) (by rw [vs_len]; exact hkd)
                rw [vs_get hkd] at hcy
                have Hsame := Lib.hid (same_drop hky hkd Heq.out)
                have Hless := Lib.hid (less_at Hylim.out hky hkd Heq.out)
                have Hmore := Lib.hid (less_at (Lim_limbs b) hkd hky Heq.out.symm)
                clear hset hrb
                rw [V_limbs] at Hless Hmore
                generalize ys[j] = u at *
                generalize (limbs b)[j] = x at *
                by_cases hux : u = x
                · subst hux
                  have hne : ((u : Int) != (u : Int)) = false := by simp
                  have Hnow : Hid (V (ys.drop j) = V ((limbs b).drop j)) := Lib.hid (Hsame.out rfl)
                  clear Hsame Hless Hmore
                  go_wp2_with fail
                  go_quiet (fail)
                  by_cases hz0 : j = 0
                  · subst hz0
                    have HGe : Hid (b ≤ V ys) := Lib.hid (by have h := Hnow.out; rw [List.drop_zero, List.drop_zero, V_limbs] at h; omega)
                    go_wp2_with fail
                    go_roundw
                    case rel => exact ⟨0, false, Nat.zero_le _, by first | rfl | go_num, rfl, (fun h => nomatch h), (fun h => nomatch h), fun _ => HGe.out, HD.out.drewN _⟩
                    case measure => first | (simp [intOf]; done) | (simp [intOf]; omega)
                  · have hz1 : ((j : Int) == 0) = false := beq_false_of_ne (by omega)
                    go_wp2_with fail
                    go_roundw
                    case rel => exact ⟨j, true, by omega, by first | rfl | go_num, rfl, (fun _ => Hnow.out), (fun _ => by omega), (fun h => nomatch h), HD.out.drewN _⟩
                    case measure => first | (simp [intOf]; done) | (simp [intOf]; omega)
                · have hne : ((u : Int) != (x : Int)) = true := by simp; omega
                  clear Hsame
                  by_cases hlt2 : u < x
                  · have HLe : Hid (V ys < b) := Lib.hid (Hless.out hlt2)
                    have hlt3 : decide ((u : Int) < x) = true := decide_eq_true (by omega)
                    clear Hless Hmore
                    go_wp2_with fail
                    go_quiet (fail)
                    go_wp2_with fail
                    go_quiet (fail)
                    go_wp2_with fail
                    obtain ⟨hm1, hm2⟩ := dv_less Hb0.out (show V ys = 2 * (a / 2 ^ (k + 1) % b) + bt a k by rw [HR.out, Hwv.out, Ht.out]) HLe.out
                    go_roundw
                    case rel => exact ⟨k, ys, qs, by omega, rfl, Hyl.out, Hql.out, Hylim.out, Hqlim.out, hm1, by rw [Hqv.out, hm2], HD.out.drewN _⟩
                    case measure => first | (simp [intOf]; done) | (simp [intOf]; omega)
                  · have HGe : Hid (b ≤ V ys) := Lib.hid (Nat.le_of_lt (Hmore.out (by omega)))
                    have hlt3 : decide ((u : Int) < x) = false := decide_eq_false (by omega)
                    clear Hless Hmore
                    go_wp2_with fail
                    go_quiet (fail)
                    go_wp2_with fail
                    go_quiet (fail)
                    clear hcz hfz hcy hy1 hy2 hy3
                    go_wp2_with fail
                    go_loopw [15, 16] (fun ov iv wq => ∃ (i o : Nat) (zs : List Nat), i ≤ N ∧ iv = .int .i64 i ∧ ov = .int .i64 o ∧ o ≤ 1 ∧ zs.length = N ∧ Lim zs ∧ V zs + V ((limbs b).take i) = V ys + Bs ^ i * o ∧ DvW w1 wq g q zs qs) (fun _ iv _ => N + 1 - (intOf iv).toNat)
                    case atStart => exact ⟨0, 0, ys, Nat.zero_le _, rfl, rfl, by omega, Hyl.out, Hylim.out, by simp [V], by first | exact HD.out | exact HD.out.drewN _ | exact (HD.out.drewN _).drewN _⟩
                    case round =>
                      clear HD
                      obtain ⟨i, o, zs, hi, rfl, rfl, ho, hzl, hzlim, hzv, hD⟩ := hrel
                      have Hzl := Lib.hid hzl
                      have Hzlim := Lib.hid hzlim
                      have Hzv := Lib.hid hzv
                      have HD := Lib.hid hD
                      have ho0 : (0 : Int) ≤ o := by omega
                      have ho1 : (o : Int) ≤ 1 := by omega
                      clear hzl hzlim hzv hD
                      obtain ⟨⟨hy1, hy2⟩, hy3⟩ := By1.out.next HD.out.2.2.2
                      by_cases hlt : i < N
                      · have hkz : i < zs.length := by rw [Hzl.out]; exact hlt
                        obtain ⟨hcz, hfz, hset⟩ := HD.out.row hkz
                        have Hub := Lib.hid (Hzlim.out.getElem hkz)
                        have hu0 : (0 : Int) ≤ (zs[i] : Nat) := by omega
                        have hu1 : ((zs[i] : Nat) : Int) ≤ 16777215 := by have := Hub.out; rw [Bs_eq] at this; omega
                        have hin : (i : Int) ≤ n' := by have := HN.out; omega
                        have hiN : (i : Int) < N := by omega
                        by_cases hlx : i < n'
                        · have hkd : i < (limbs b).length := by rw [Hlb.out]; exact hlx
                          have hrb := (Hz'.out.next (belNext Bel1.out HD.out.2.2.2)).rd
                          rw [← Hab.out.2] at hrb
                          obtain ⟨p', hp', _⟩ := hrb.some_ (by rw [vs_len]; omega)
                          first | subst hp' | (injection hp' with hp'; subst hp')
                          have hcy := hrb.cell (k := i) (by rw [vs_len]; exact hkd)
                          rw [vs_get hkd] at hcy
                          have Hxb := Lib.hid ((Lim_limbs b).getElem hkd)
                          have hx0 : (0 : Int) ≤ ((limbs b)[i] : Nat) := by omega
                          have hx1 : (((limbs b)[i] : Nat) : Int) ≤ 16777215 := by have := Hxb.out; rw [Bs_eq] at this; omega
                          obtain ⟨d, e, hde, hdb, heb, hneg, hpos⟩ := off_nums (x := (limbs b)[i]) Hub.out Hxb.out ho
                          have Hs := Lib.hid (off_step (n := n') (x := (limbs b)[i]) hkz Hlb.out (by rw [dif_pos hkd]) Hzv.out hde)
                          have Hset := Lib.hid (hset d)
                          have Hdb := Lib.hid (And.intro hdb heb)
                          have hilt : (i : Int) < n' := by omega
                          clear hset hde hdb heb hrb
                          generalize zs[i] = u at *
                          generalize (limbs b)[i] = x at *
                          by_cases hng : (u : Int) - o - x < 0
                          · obtain ⟨he, hdv⟩ := hneg hng
                            subst he
                            clear hneg hpos
                            go_wp2_with fail
                            go_roundw
                            case rel => exact ⟨i + 1, 1, zs.set i d, by omega, by go_num, rfl, Nat.le_refl _, by rw [List.length_set]; exact Hzl.out, Hzlim.out.set Hdb.out.1, Hs.out, by first | exact Hset.out | (have h := Hset.out; rw [← hdv] at h; exact h)⟩
                            case measure => first | (simp [intOf]; done) | (simp [intOf]; omega)
                          · obtain ⟨he, hdv⟩ := hpos hng
                            subst he
                            clear hneg hpos
                            go_wp2_with fail
                            go_roundw
                            case rel => exact ⟨i + 1, 0, zs.set i d, by omega, by go_num, rfl, by omega, by rw [List.length_set]; exact Hzl.out, Hzlim.out.set Hdb.out.1, Hs.out, by first | exact Hset.out | (have h := Hset.out; rw [← hdv] at h; exact h)⟩
                            case measure => first | (simp [intOf]; done) | (simp [intOf]; omega)
                        · have hnlt : ¬ (i : Int) < n' := by omega
                          obtain ⟨d, e, hde, hdb, heb, hneg, hpos⟩ := off_nums (x := 0) Hub.out (by rw [Bs_eq]; omega) ho
                          have Hs := Lib.hid (off_step (n := n') (x := 0) hkz Hlb.out (by rw [dif_neg (by rw [Hlb.out]; exact hlx)]) Hzv.out hde)
                          have Hset := Lib.hid (hset d)
                          have Hdb := Lib.hid (And.intro hdb heb)
                          rw [show ((0 : Nat) : Int) = 0 from rfl, Int.sub_zero] at hneg hpos
                          clear hset hde hdb heb
                          generalize zs[i] = u at *
                          by_cases hng : (u : Int) - o < 0
                          · obtain ⟨he, hdv⟩ := hneg hng
                            subst he
                            clear hneg hpos
                            go_wp2_with fail
                            go_roundw
                            case rel => exact ⟨i + 1, 1, zs.set i d, by omega, by go_num, rfl, Nat.le_refl _, by rw [List.length_set]; exact Hzl.out, Hzlim.out.set Hdb.out.1, Hs.out, by first | exact Hset.out | (have h := Hset.out; rw [← hdv] at h; exact h)⟩
                            case measure => first | (simp [intOf]; done) | (simp [intOf]; omega)
                          · obtain ⟨he, hdv⟩ := hpos hng
                            subst he
                            clear hneg hpos
                            go_wp2_with fail
                            go_roundw
                            case rel => exact ⟨i + 1, 0, zs.set i d, by omega, by go_num, rfl, by omega, by rw [List.length_set]; exact Hzl.out, Hzlim.out.set Hdb.out.1, Hs.out, by first | exact Hset.out | (have h := Hset.out; rw [← hdv] at h; exact h)⟩
                            case measure => first | (simp [intOf]; done) | (simp [intOf]; omega)
                      · have hiN : i = n' + 1 := by have := HN.out; omega
                        subst hiN
                        have hnot : ¬ ((n' + 1 : Nat) : Int) ≤ n' := by omega
                        have hlen : ws.length = N := Hwl.out
                        obtain ⟨mq, rq, P, hkq, hkm, hkr, hr23, hmn, hsw1, hsw2, hP1, hf1, hf2, hqb⟩ := sub_end (ys := ys) (zs := zs) (qs := qs) (a := a) (b := b) (k := k) (n := n) Hb0.out (by rw [HR.out, Hwv.out, Ht.out]) HGe.out Hzlim.out (by rw [Hzl.out]; exact HN.out) Hlb.out Hzv.out Hqlim.out Hql.out Hkn.out Hqv.out
                        have Hsw := Lib.hid (And.intro hsw1 hsw2)
                        clear hsw1 hsw2
                        obtain ⟨hcq, hfq, hset⟩ := HD.out.quo hkq
                        have Hfin : Hid (V zs = a / 2 ^ k % b ∧ V (qs.set mq (qs[mq] + P)) = a / 2 ^ k / b * 2 ^ k) := Lib.hid ⟨hf1, hf2⟩
                        have Hset := Lib.hid (hset (qs[mq] + P))
                        have Hqb := Lib.hid hqb
                        clear hf1 hf2
                        have hp0 : (0 : Int) ≤ P := by omega
                        have hu0 : (0 : Int) ≤ (qs[mq] : Nat) := by omega
                        have hu1 : ((qs[mq] : Nat) : Int) ≤ 16777215 := by have := hqb; rw [Bs_eq] at this; omega
                        have hadd : (((qs[mq] + P : Nat)) : Int) = (qs[mq] : Nat) + (P : Int) := by omega
                        rw [hadd] at Hset
                        clear hset hqb hadd hlen
                        have Hqs : Hid (∀ x : Nat, (qs.set mq x).length = n) := Lib.hid (fun x => by rw [List.length_set]; exact Hql.out)
                        have Hqls : Hid (Lim (qs.set mq (qs[mq] + P))) := Lib.hid (Hqlim.out.set Hqb.out)
                        generalize hu : qs[mq] = u at *
                        clear hu
                        have hsw3 : ∀ x : Int, x = u → wrap64 (x + P) = x + P := fun x hx => wrap64_small (by omega) (by omega)
                        have hsw1 : ∀ x : Nat, x = rq → wrap64 (1 * (2 : Int) ^ x) = P := fun x hx => by rw [hx]; exact Hsw.out.1
                        have hsw2 : ∀ x : Nat, x = rq → wrap64 ((2 : Int) ^ x) = P := fun x hx => by rw [hx]; exact Hsw.out.2
                        go_wp2_with fail
                        clear hsw1 hsw2 hsw3
                        go_roundw
                        case rel => exact ⟨k, zs, qs.set mq (u + P), by omega, rfl, Hzl.out, Hqs.out _, Hzlim.out, Hqls.out, Hfin.out.1, Hfin.out.2, Hset.out⟩
                        case measure => first | (simp [intOf]; done) | (simp [intOf]; omega)
end Go.Proofs.YtnecnbonnidijaaDoor
/- A number with a mark for what is left behind is rounded as the number: plain mathematics. -/
namespace Go.Proofs.YtnecnbonnidijaaDoor
set_option maxRecDepth 100000
open Go.RowKit

/-- a number cut by i bits, and a bit that tells whether something is lost -/
def mk (v i : Nat) : Nat := 2 * (v / 2 ^ i) + (if v % 2 ^ i = 0 then 0 else 1)
/-- a number cut by i bits, with a mark -/
def mkZ (z : Int) (i : Nat) : Int := z.sign * (mk z.natAbs i : Int)
/-- a quotient with a mark -/
def qk (N D : Nat) : Nat := 2 * (N / D) + (if N % D = 0 then 0 else 1)
/-- a root with a mark -/
noncomputable def rk (X : Nat) : Nat := 2 * rt X + (if rt X * rt X = X then 0 else 1)
end Go.Proofs.YtnecnbonnidijaaDoor
/- Quotients of exact numbers from below, of the program. -/
namespace Go.Proofs.YtnecnbonnidijaaDoor
set_option maxRecDepth 100000
open Go.RowKit
set_option linter.unusedSimpArgs false
set_option linter.unusedVariables false
attribute [local go_sem ↓] Go.wp_at_zero Go.wp_at_succ

/-- the numerator and the denominator of a quotient of steps -/
def qN (z s : Int) : Nat := 2 ^ s.toNat * z.natAbs
def qD (z s : Int) : Nat := 2 ^ (-s).toNat * z.natAbs
theorem qN_up (z : Int) (m : Nat) : qN z (m : Int) = 2 ^ m * z.natAbs := rfl
theorem qD_up (z : Int) (m : Nat) : qD z (m : Int) = z.natAbs := by
  unfold qD
  have e : (-(m : Int)).toNat = 0 := by omega
  rw [e, Nat.pow_zero, Nat.one_mul]
theorem qN_down (z : Int) (m : Nat) : qN z (-(m : Int)) = z.natAbs := by
  unfold qN
  have e : (-(m : Int)).toNat = 0 := by omega
  rw [e, Nat.pow_zero, Nat.one_mul]
theorem qD_down (z : Int) (m : Nat) : qD z (-(m : Int)) = 2 ^ m * z.natAbs := by
  unfold qD; rw [Int.neg_neg]; rfl
/-- the quotient from below -/
def quZ (z z' s : Int) : Int := if z.sign * z'.sign < 0 ∧ 0 < qN z s % qD z' s then z.sign * z'.sign * ((qN z s / qD z' s + 1 : Nat) : Int) else z.sign * z'.sign * ((qN z s / qD z' s : Nat) : Int)
theorem len_pos {v : Nat} : (0 < (limbs v).length) ↔ 0 < v := by
  have := limbs_len_zero (v := v)
  omega
theorem quo_len (a b : Nat) : (limbs (a / b)).length ≤ (limbs a).length := limbs_len_mono (Nat.div_le_self a b)
theorem rem_len (a b : Nat) : (limbs (a % b)).length ≤ (limbs a).length := limbs_len_mono (Nat.mod_le a b)

set_option maxHeartbeats 8000000 in
theorem implQuo_any (z S E z' S' E' k : Int) (A A' : Option Addr) (n c n' c' : Nat) (w : World) (hz : ZV w z S A n c) (hz' : ZV w z' S' A' n' c') (h0 : z' ≠ 0) (hm : (n : Int) ≤ 1000) (hm' : (n' : Int) ≤ 1000) (h1 : -10000 ≤ E) (h2 : E ≤ 10000) (h3 : -10000 ≤ E') (h4 : E' ≤ 10000) (h5 : -10000 ≤ k) (h6 : k ≤ 10000) :
    Calls Tryd.prog 51 #[.agg #[.int .i64 S, .slice A n c, .int .i64 E], .agg #[.int .i64 S', .slice A' n' c', .int .i64 E'], .int .i64 k] w fun e w' => ∃ Sr Ar nr cr, e = .returned (.agg #[.int .i64 Sr, .slice Ar nr cr, .int .i64 (-k)]) ∧ ZO w' w.heap.size w'.heap.size (quZ z z' (E - E' + k)) Sr Ar nr cr ∧ Below w.heap.size w w' := by
  have hst := store_int Tryd.prog
  have hst2 := store_slice Tryd.prog
  obtain ⟨w1, hw1, hb1, hb2, hb3, hb4⟩ := dbox2_res w S S' A A' n n' c c' E E' 30 30 30
  have RsD1 := Lib.hid hb3
  have Hlt : Hid (w.heap.size + 1 + 1 < w1.heap.size) := Lib.hid hb3.2
  have Zv1 := Lib.hid (hz.next hb4)
  have Zw1 := Lib.hid (hz'.next hb4)
  have Hw := Lib.hid hw1
  have Bx1 := Lib.hid hb1
  have By1 := Lib.hid hb2
  have Bel1 := Lib.hid hb4
  have Hn : Hid ((limbs z.natAbs).length = n) := Lib.hid hz.2.1
  have Hn' : Hid ((limbs z'.natAbs).length = n') := Lib.hid hz'.2.1
  have Hm : Hid ((n : Int) ≤ 1000 ∧ (n' : Int) ≤ 1000) := Lib.hid ⟨hm, hm'⟩
  have H0 := Lib.hid h0
  obtain ⟨t, ht⟩ : ∃ t, t = S * S' := ⟨_, rfl⟩
  have hsp := sign_prod hz.sg hz'.sg
  rw [← ht] at hsp
  have Hsp := Lib.hid hsp
  have Ht : Hid (t = z.sign * z'.sign) := Lib.hid (by rw [ht, hz.1, hz'.1])
  have hss : wrap64 (S * S') = t := by rw [← ht]; exact wrap64_small (by have := hsp.2.1; omega) (by have := hsp.2.1; omega)
  have Hss := Lib.hid hss
  obtain ⟨s, hs⟩ : ∃ s, s = E - E' + k := ⟨_, rfl⟩
  have Hs := Lib.hid hs
  have hs1 : -30000 ≤ s := by omega
  have hs2 : s ≤ 30000 := by omega
  have hse : E - E' + k = s := hs.symm
  rw [← hs]
  clear hz hz' hw1 hb1 hb2 hb3 hb4 hm hm' h0 ht hsp hss hs
  go_enter Tryd.func51, Tryd.ntmps51
  go_wp2_with fail
  rw [← Hw.out]
  obtain ⟨⟨hBx0, hBx1, hBx2⟩, hBx3⟩ := Bx1.out
  obtain ⟨⟨hBy0, hBy1, hBy2⟩, hBy3⟩ := By1.out
  obtain ⟨⟨hRsD0, hRsD1, hRsD2, hRsD3, hRsD4, hRsD5⟩, hRsD6⟩ := RsD1.out
  go_quiet (fail)
  obtain ⟨w2, hw2⟩ : ∃ w2, w2 = w1.drewN nq := ⟨_, rfl⟩
  rw [← hw2]
  have hb : Below w1.heap.size w1 w2 := by rw [hw2]; exact below_drewN (Below.refl _ _) nq
  clear hw2
  have Sz2 := Lib.hid (Below.size hb)
  have Bel2 := Lib.hid (belNext Bel1.out hb)
  have Bx2 := Lib.hid (Bx1.out.next hb)
  have By2 := Lib.hid (By1.out.next hb)
  have RsD2 := Lib.hid (RsD1.out.next hb)
  have Zv2 := Lib.hid (Zv1.out.next hb)
  have Zw2 := Lib.hid (Zw1.out.next hb)
  clear hb Bel1 Bx1 By1 RsD1 Zv1 Zw1 hBx0 hBx1 hBx2 hBx3 hBy0 hBy1 hBy2 hBy3 hRsD0 hRsD1 hRsD2 hRsD3 hRsD4 hRsD5 hRsD6
  obtain ⟨⟨hBx0, hBx1, hBx2⟩, hBx3⟩ := Bx2.out
  obtain ⟨⟨hBy0, hBy1, hBy2⟩, hBy3⟩ := By2.out
  obtain ⟨⟨hRsD0, hRsD1, hRsD2, hRsD3, hRsD4, hRsD5⟩, hRsD6⟩ := RsD2.out
  by_cases h0 : 0 ≤ s
  · obtain ⟨m, rfl⟩ : ∃ m : Nat, s = m := ⟨s.toNat, by omega⟩
    go_wp2_with fail
    refine (natShl_any z.natAbs m A n c _ w2 Zv2.out.rd (Nat.le_refl _) Hn.out (by have := Hm.out; omega) (by omega)).mono ?_
    rintro e w3 ⟨AN, rfl, hoN, hb⟩
    obtain ⟨N, hN⟩ : ∃ N, N = 2 ^ m * z.natAbs := ⟨_, rfl⟩
    obtain ⟨D, hD⟩ : ∃ D, D = z'.natAbs := ⟨_, rfl⟩
    have HNn : Hid (N = qN z (m : Int)) := Lib.hid (by rw [hN, qN_up])
    have HDd : Hid (D = qD z' (m : Int)) := Lib.hid (by rw [hD, qD_up])
    have HD' := Lib.hid hD
    have Hnl : Hid (((limbs N).length : Int) ≤ 3000) := Lib.hid (by rw [hN]; have h := shl_len Hn.out m; have := Hm.out; omega)
    rw [← hN] at hoN ⊢
    obtain ⟨ln, hln⟩ : ∃ ln, ln = (limbs N).length := ⟨_, rfl⟩
    rw [← hln]
    have Hln := Lib.hid hln
    have OwN := Lib.hid hoN
    have HD0 : Hid (0 < D) := Lib.hid (by rw [hD]; have := H0.out; omega)
    clear hN hD hoN hln
    have Sz3 := Lib.hid (Below.size hb)
    have Bel3 := Lib.hid (belNext Bel2.out hb)
    have Bx3 := Lib.hid (Bx2.out.next hb)
    have By3 := Lib.hid (By2.out.next hb)
    have RsD3 := Lib.hid (RsD2.out.next hb)
    have Zv3 := Lib.hid (Zv2.out.next hb)
    have Zw3 := Lib.hid (Zw2.out.next hb)
    clear hb Bel2 Bx2 By2 RsD2 Zv2 Zw2 hBx0 hBx1 hBx2 hBx3 hBy0 hBy1 hBy2 hBy3 hRsD0 hRsD1 hRsD2 hRsD3 hRsD4 hRsD5 hRsD6
    obtain ⟨⟨hBx0, hBx1, hBx2⟩, hBx3⟩ := Bx3.out
    obtain ⟨⟨hBy0, hBy1, hBy2⟩, hBy3⟩ := By3.out
    obtain ⟨⟨hRsD0, hRsD1, hRsD2, hRsD3, hRsD4, hRsD5⟩, hRsD6⟩ := RsD3.out
    go_wp2_with fail
    refine (natDiv_any N D AN A' ln n' ln c' _ _ w3 OwN.out.rd (by rw [HD'.out]; exact Zw3.out.rd) (Nat.le_refl _) (Nat.le_refl _) Hln.out.symm (by rw [HD'.out]; exact Hn'.out) (by have := Hnl.out; have := Hln.out; omega) (by have := Hm.out; omega) HD0.out).mono ?_
    rintro e w4 ⟨A2, A3, c2, c3, mid, rfl, k1, k2, k3, k4, ho2, ho3, hb⟩
    obtain ⟨Q, hQ⟩ : ∃ Q, Q = N / D := ⟨_, rfl⟩
    obtain ⟨R, hR⟩ : ∃ R, R = N % D := ⟨_, rfl⟩
    rw [← hQ] at k1 ho2 ⊢
    rw [← hR] at k2 ho3 ⊢
    obtain ⟨lq, hlq⟩ : ∃ lq, lq = (limbs Q).length := ⟨_, rfl⟩
    obtain ⟨lr, hlr⟩ : ∃ lr, lr = (limbs R).length := ⟨_, rfl⟩
    rw [← hlq] at k1 ⊢
    rw [← hlr] at k2 ⊢
    have Hlq : Hid (lq = (limbs Q).length ∧ (lq : Int) ≤ 90000) := Lib.hid ⟨hlq, by rw [hlq, hQ]; have h := quo_len N D; have h2 := Hnl.out; omega⟩
    have Hlr : Hid (0 < lr ↔ 0 < N % D) := Lib.hid (by rw [hlr, len_pos, hR])
    have hlr1 : (lr : Int) ≤ 90000 := by rw [hlr, hR]; have h := rem_len N D; have h2 := Hnl.out; omega
    have HQ := Lib.hid hQ
    have Ho2 := Lib.hid ho2
    have Hk := Lib.hid k1
    have Hmid := Lib.hid (And.intro k3 k4)
    clear hQ hR hlq hlr k1 k2 k3 k4 ho2 ho3
    have Sz4 := Lib.hid (Below.size hb)
    have Bel4 := Lib.hid (belNext Bel3.out hb)
    have Bx4 := Lib.hid (Bx3.out.next hb)
    have By4 := Lib.hid (By3.out.next hb)
    have RsD4 := Lib.hid (RsD3.out.next hb)
    have Zv4 := Lib.hid (Zv3.out.next hb)
    have Zw4 := Lib.hid (Zw3.out.next hb)
    clear hb Bel3 Bx3 By3 RsD3 Zv3 Zw3 hBx0 hBx1 hBx2 hBx3 hBy0 hBy1 hBy2 hBy3 hRsD0 hRsD1 hRsD2 hRsD3 hRsD4 hRsD5 hRsD6
    obtain ⟨⟨hBx0, hBx1, hBx2⟩, hBx3⟩ := Bx4.out
    obtain ⟨⟨hBy0, hBy1, hBy2⟩, hBy3⟩ := By4.out
    obtain ⟨⟨hRsD0, hRsD1, hRsD2, hRsD3, hRsD4, hRsD5⟩, hRsD6⟩ := RsD4.out
    by_cases ht0 : t < 0
    · have Ht0 := Lib.hid ht0
      by_cases hr0 : 0 < lr
      · have Hq1 : Hid (quZ z z' (m : Int) = t * ((Q + 1 : Nat) : Int)) := Lib.hid (by unfold quZ; rw [← Ht.out, ← HNn.out, ← HDd.out, if_pos ⟨Ht0.out, Hlr.out.1 hr0⟩, HQ.out])
        have Hr0 := Lib.hid hr0
        have hd1 : decide (wrap64 (S * S') < 0) = true := decide_eq_true (by rw [Hss.out]; exact ht0)
        clear ht0 hr0
        go_wp2_with fail
        clear hd1
        rw [Hss.out]
        obtain ⟨w5, hw⟩ : ∃ w5, w5 = w4.alloc (.cells #[.int .i64 1] 2) := ⟨_, rfl⟩
        have Rd1 : Hid (Rd w5 w5.heap.size (some ⟨w4.heap.size, 0, none⟩) (vs (limbs 1))) := Lib.hid (by rw [hw]; exact rd_one _ _)
        have hb : Below w4.heap.size w4 w5 := by rw [hw]; exact belAlloc1 _ _
        rw [← hw]
        clear hw
        have Ho2b := Lib.hid (Ho2.out.below hb Hmid.out.2)
        have Hmb : Hid (mid ≤ w5.heap.size) := Lib.hid (Nat.le_trans Hmid.out.2 hb.size)
        have Sz5 := Lib.hid (Below.size hb)
        have Bel5 := Lib.hid (belNext Bel4.out hb)
        have Bx5 := Lib.hid (Bx4.out.next hb)
        have By5 := Lib.hid (By4.out.next hb)
        have RsD5 := Lib.hid (RsD4.out.next hb)
        have Zv5 := Lib.hid (Zv4.out.next hb)
        have Zw5 := Lib.hid (Zw4.out.next hb)
        clear hb Bel4 Bx4 By4 RsD4 Zv4 Zw4 hBx0 hBx1 hBx2 hBx3 hBy0 hBy1 hBy2 hBy3 hRsD0 hRsD1 hRsD2 hRsD3 hRsD4 hRsD5 hRsD6
        obtain ⟨⟨hBx0, hBx1, hBx2⟩, hBx3⟩ := Bx5.out
        obtain ⟨⟨hBy0, hBy1, hBy2⟩, hBy3⟩ := By5.out
        obtain ⟨⟨hRsD0, hRsD1, hRsD2, hRsD3, hRsD4, hRsD5⟩, hRsD6⟩ := RsD5.out
        refine (natPlus_any Q 1 A2 _ lq 1 c2 1 _ _ w5 Ho2b.out.rd Rd1.out Hmb.out (Nat.le_refl _) Hlq.out.1.symm (by rw [limbs_1]; rfl) (by have := Hlq.out.2; omega) (by omega)).mono ?_
        rintro e w6 ⟨A7, rfl, ho7, hb⟩
        obtain ⟨Q1, hQ1⟩ : ∃ Q1, Q1 = Q + 1 := ⟨_, rfl⟩
        rw [← hQ1] at ho7 ⊢
        obtain ⟨l7, hl7⟩ : ∃ l7, l7 = (limbs Q1).length := ⟨_, rfl⟩
        rw [← hl7]
        have Hl7 : Hid (l7 = (limbs Q1).length ∧ (l7 : Int) ≤ 90010) := Lib.hid ⟨hl7, by rw [hl7, hQ1]; have h := limbs_len_sum Q 1 Hlq.out.1.symm (show (limbs 1).length = 1 by rw [limbs_1]; rfl); have := Hlq.out.2; omega⟩
        have HQ1 := Lib.hid hQ1
        have O7 := Lib.hid ho7
        clear ho7 hQ1 hl7
        have Sz6 := Lib.hid (Below.size hb)
        have Bel6 := Lib.hid (belNext Bel5.out hb)
        have Bx6 := Lib.hid (Bx5.out.next hb)
        have By6 := Lib.hid (By5.out.next hb)
        have RsD6 := Lib.hid (RsD5.out.next hb)
        have Zv6 := Lib.hid (Zv5.out.next hb)
        have Zw6 := Lib.hid (Zw5.out.next hb)
        clear hb Bel5 Bx5 By5 RsD5 Zv5 Zw5 hBx0 hBx1 hBx2 hBx3 hBy0 hBy1 hBy2 hBy3 hRsD0 hRsD1 hRsD2 hRsD3 hRsD4 hRsD5 hRsD6
        obtain ⟨⟨hBx0, hBx1, hBx2⟩, hBx3⟩ := Bx6.out
        obtain ⟨⟨hBy0, hBy1, hBy2⟩, hBy3⟩ := By6.out
        obtain ⟨⟨hRsD0, hRsD1, hRsD2, hRsD3, hRsD4, hRsD5⟩, hRsD6⟩ := RsD6.out
        go_wp2_with fail
        refine (signed_any t (Q1) A7 l7 l7 _ _ _ O7.out Hl7.out.1.symm (by have := Hl7.out.2; omega) (Nat.le_refl _)).mono ?_
        rintro e w7 ⟨val, rfl, hv, hb⟩
        obtain ⟨S9, A9, n9, c9, rfl, hzo⟩ := Wz.zo (((hv.z (.inr (.inl (by have := Hsp.out.2.1; have := Ht0.out; omega)))).wide (Nat.le_refl _) (hb.size)).cast_ (z' := quZ z z' (m : Int)) (by rw [HQ1.out]; exact Hq1.out.symm)) (Nat.le_refl _)
        have Zp7 := Lib.hid hzo
        clear hv hzo
        have Sz7 := Lib.hid (Below.size hb)
        have Bel7 := Lib.hid (belNext Bel6.out hb)
        have Bx7 := Lib.hid (Bx6.out.next hb)
        have By7 := Lib.hid (By6.out.next hb)
        have RsD7 := Lib.hid (RsD6.out.next hb)
        have Zv7 := Lib.hid (Zv6.out.next hb)
        have Zw7 := Lib.hid (Zw6.out.next hb)
        clear hb Bel6 Bx6 By6 RsD6 Zv6 Zw6 hBx0 hBx1 hBx2 hBx3 hBy0 hBy1 hBy2 hBy3 hRsD0 hRsD1 hRsD2 hRsD3 hRsD4 hRsD5 hRsD6
        obtain ⟨⟨hBx0, hBx1, hBx2⟩, hBx3⟩ := Bx7.out
        obtain ⟨⟨hBy0, hBy1, hBy2⟩, hBy3⟩ := By7.out
        obtain ⟨⟨hRsD0, hRsD1, hRsD2, hRsD3, hRsD4, hRsD5⟩, hRsD6⟩ := RsD7.out
        go_wp2_with fail
        refine bodyPost_ret (v := .agg #[.int .i64 S9, .slice A9 n9 c9, .int .i64 (-k)]) (by simp [results, Tryd.results51, go_sem, hRsD0, hRsD1, hRsD2]) rfl ⟨S9, A9, n9, c9, rfl, ?_, ?_⟩
        · exact (((Zp7.out.setCell (.inl (by have zz0 := Hlt.out; have zz1 := Sz2.out; have zz2 := Sz3.out; have zz3 := Sz4.out; have zz4 := Sz5.out; have zz5 := Sz6.out; have zz6 := Sz7.out; first | omega | (simp; done) | (simp; omega))) _).setCell (.inl (by have zz0 := Hlt.out; have zz1 := Sz2.out; have zz2 := Sz3.out; have zz3 := Sz4.out; have zz4 := Sz5.out; have zz5 := Sz6.out; have zz6 := Sz7.out; first | omega | (simp; done) | (simp; omega))) _).setCell (.inl (by have zz0 := Hlt.out; have zz1 := Sz2.out; have zz2 := Sz3.out; have zz3 := Sz4.out; have zz4 := Sz5.out; have zz5 := Sz6.out; have zz6 := Sz7.out; first | omega | (simp; done) | (simp; omega))) _).wide (by have zz0 := Hlt.out; have zz1 := Sz2.out; have zz2 := Sz3.out; have zz3 := Sz4.out; have zz4 := Sz5.out; have zz5 := Sz6.out; have zz6 := Sz7.out; first | omega | (simp; done) | (simp; omega)) (by have zz0 := Hlt.out; have zz1 := Sz2.out; have zz2 := Sz3.out; have zz3 := Sz4.out; have zz4 := Sz5.out; have zz5 := Sz6.out; have zz6 := Sz7.out; first | omega | (simp; done) | (simp; omega)) (by have zz0 := Hlt.out; have zz1 := Sz2.out; have zz2 := Sz3.out; have zz3 := Sz4.out; have zz4 := Sz5.out; have zz5 := Sz6.out; have zz6 := Sz7.out; first | omega | (simp; done) | (simp; omega))
        · exact ((Bel7.out.setCell (by have zz0 := Hlt.out; have zz1 := Sz2.out; have zz2 := Sz3.out; have zz3 := Sz4.out; have zz4 := Sz5.out; have zz5 := Sz6.out; have zz6 := Sz7.out; first | omega | (simp; done) | (simp; omega)) _).setCell (by have zz0 := Hlt.out; have zz1 := Sz2.out; have zz2 := Sz3.out; have zz3 := Sz4.out; have zz4 := Sz5.out; have zz5 := Sz6.out; have zz6 := Sz7.out; first | omega | (simp; done) | (simp; omega)) _).setCell (by have zz0 := Hlt.out; have zz1 := Sz2.out; have zz2 := Sz3.out; have zz3 := Sz4.out; have zz4 := Sz5.out; have zz5 := Sz6.out; have zz6 := Sz7.out; first | omega | (simp; done) | (simp; omega)) _
      · have Hq1 : Hid (quZ z z' (m : Int) = t * (Q : Int)) := Lib.hid (by unfold quZ; rw [← Ht.out, ← HNn.out, ← HDd.out, if_neg (fun h => hr0 (Hlr.out.2 h.2)), HQ.out])
        have hl0 : lr = 0 := by omega
        subst hl0
        clear hr0
        have hd1 : decide (wrap64 (S * S') < 0) = true := decide_eq_true (by rw [Hss.out]; exact ht0)
        clear ht0
        go_wp2_with fail
        clear hd1
        rw [Hss.out]
        refine (signed_any t (Q) A2 lq c2 _ _ _ Ho2.out Hlq.out.1.symm (by have := Hlq.out.2; omega) Hk.out).mono ?_
        rintro e w5 ⟨val, rfl, hv, hb⟩
        obtain ⟨S9, A9, n9, c9, rfl, hzo⟩ := Wz.zo (((hv.z (.inr (.inl (by have := Hsp.out.2.1; have := Ht0.out; omega)))).wide (Nat.le_refl _) (Nat.le_trans Hmid.out.2 hb.size)).cast_ (z' := quZ z z' (m : Int)) (by exact Hq1.out.symm)) (Nat.le_refl _)
        have Zp5 := Lib.hid hzo
        clear hv hzo
        have Sz5 := Lib.hid (Below.size hb)
        have Bel5 := Lib.hid (belNext Bel4.out hb)
        have Bx5 := Lib.hid (Bx4.out.next hb)
        have By5 := Lib.hid (By4.out.next hb)
        have RsD5 := Lib.hid (RsD4.out.next hb)
        have Zv5 := Lib.hid (Zv4.out.next hb)
        have Zw5 := Lib.hid (Zw4.out.next hb)
        clear hb Bel4 Bx4 By4 RsD4 Zv4 Zw4 hBx0 hBx1 hBx2 hBx3 hBy0 hBy1 hBy2 hBy3 hRsD0 hRsD1 hRsD2 hRsD3 hRsD4 hRsD5 hRsD6
        obtain ⟨⟨hBx0, hBx1, hBx2⟩, hBx3⟩ := Bx5.out
        obtain ⟨⟨hBy0, hBy1, hBy2⟩, hBy3⟩ := By5.out
        obtain ⟨⟨hRsD0, hRsD1, hRsD2, hRsD3, hRsD4, hRsD5⟩, hRsD6⟩ := RsD5.out
        go_wp2_with fail
        refine bodyPost_ret (v := .agg #[.int .i64 S9, .slice A9 n9 c9, .int .i64 (-k)]) (by simp [results, Tryd.results51, go_sem, hRsD0, hRsD1, hRsD2]) rfl ⟨S9, A9, n9, c9, rfl, ?_, ?_⟩
        · exact (((Zp5.out.setCell (.inl (by have zz0 := Hlt.out; have zz1 := Sz2.out; have zz2 := Sz3.out; have zz3 := Sz4.out; have zz4 := Sz5.out; first | omega | (simp; done) | (simp; omega))) _).setCell (.inl (by have zz0 := Hlt.out; have zz1 := Sz2.out; have zz2 := Sz3.out; have zz3 := Sz4.out; have zz4 := Sz5.out; first | omega | (simp; done) | (simp; omega))) _).setCell (.inl (by have zz0 := Hlt.out; have zz1 := Sz2.out; have zz2 := Sz3.out; have zz3 := Sz4.out; have zz4 := Sz5.out; first | omega | (simp; done) | (simp; omega))) _).wide (by have zz0 := Hlt.out; have zz1 := Sz2.out; have zz2 := Sz3.out; have zz3 := Sz4.out; have zz4 := Sz5.out; first | omega | (simp; done) | (simp; omega)) (by have zz0 := Hlt.out; have zz1 := Sz2.out; have zz2 := Sz3.out; have zz3 := Sz4.out; have zz4 := Sz5.out; first | omega | (simp; done) | (simp; omega)) (by have zz0 := Hlt.out; have zz1 := Sz2.out; have zz2 := Sz3.out; have zz3 := Sz4.out; have zz4 := Sz5.out; first | omega | (simp; done) | (simp; omega))
        · exact ((Bel5.out.setCell (by have zz0 := Hlt.out; have zz1 := Sz2.out; have zz2 := Sz3.out; have zz3 := Sz4.out; have zz4 := Sz5.out; first | omega | (simp; done) | (simp; omega)) _).setCell (by have zz0 := Hlt.out; have zz1 := Sz2.out; have zz2 := Sz3.out; have zz3 := Sz4.out; have zz4 := Sz5.out; first | omega | (simp; done) | (simp; omega)) _).setCell (by have zz0 := Hlt.out; have zz1 := Sz2.out; have zz2 := Sz3.out; have zz3 := Sz4.out; have zz4 := Sz5.out; first | omega | (simp; done) | (simp; omega)) _
    · have ht1 : decide (wrap64 (S * S') < 0) = false := decide_eq_false (by rw [Hss.out]; exact ht0)
      have Hq1 : Hid (quZ z z' (m : Int) = t * (Q : Int)) := Lib.hid (by unfold quZ; rw [← Ht.out, ← HNn.out, ← HDd.out, if_neg (fun h => ht0 h.1), HQ.out])
      have Hq2 : Hid (t = 1 ∨ t = -1 ∨ Q = 0) := Lib.hid (by
        rcases Hsp.out.1 with h | h | h
        · exact .inl h
        · exact .inr (.inl h)
        · rcases Nat.mul_eq_zero.1 h with h7 | h7
          · refine .inr (.inr ?_)
            rw [HQ.out, HNn.out]; unfold qN; rw [h7, Nat.mul_zero, Nat.zero_div]
          · exact absurd h7 (by have := H0.out; omega))
      clear ht0
      go_wp2_with fail
      clear ht1
      rw [Hss.out]
      refine (signed_any t (Q) A2 lq c2 _ _ _ Ho2.out Hlq.out.1.symm (by have := Hlq.out.2; omega) Hk.out).mono ?_
      rintro e w5 ⟨val, rfl, hv, hb⟩
      obtain ⟨S9, A9, n9, c9, rfl, hzo⟩ := Wz.zo (((hv.z Hq2.out).wide (Nat.le_refl _) (Nat.le_trans Hmid.out.2 hb.size)).cast_ (z' := quZ z z' (m : Int)) (by exact Hq1.out.symm)) (Nat.le_refl _)
      have Zp5 := Lib.hid hzo
      clear hv hzo
      have Sz5 := Lib.hid (Below.size hb)
      have Bel5 := Lib.hid (belNext Bel4.out hb)
      have Bx5 := Lib.hid (Bx4.out.next hb)
      have By5 := Lib.hid (By4.out.next hb)
      have RsD5 := Lib.hid (RsD4.out.next hb)
      have Zv5 := Lib.hid (Zv4.out.next hb)
      have Zw5 := Lib.hid (Zw4.out.next hb)
      clear hb Bel4 Bx4 By4 RsD4 Zv4 Zw4 hBx0 hBx1 hBx2 hBx3 hBy0 hBy1 hBy2 hBy3 hRsD0 hRsD1 hRsD2 hRsD3 hRsD4 hRsD5 hRsD6
      obtain ⟨⟨hBx0, hBx1, hBx2⟩, hBx3⟩ := Bx5.out
      obtain ⟨⟨hBy0, hBy1, hBy2⟩, hBy3⟩ := By5.out
      obtain ⟨⟨hRsD0, hRsD1, hRsD2, hRsD3, hRsD4, hRsD5⟩, hRsD6⟩ := RsD5.out
      go_wp2_with fail
      refine bodyPost_ret (v := .agg #[.int .i64 S9, .slice A9 n9 c9, .int .i64 (-k)]) (by simp [results, Tryd.results51, go_sem, hRsD0, hRsD1, hRsD2]) rfl ⟨S9, A9, n9, c9, rfl, ?_, ?_⟩
      · exact (((Zp5.out.setCell (.inl (by have zz0 := Hlt.out; have zz1 := Sz2.out; have zz2 := Sz3.out; have zz3 := Sz4.out; have zz4 := Sz5.out; first | omega | (simp; done) | (simp; omega))) _).setCell (.inl (by have zz0 := Hlt.out; have zz1 := Sz2.out; have zz2 := Sz3.out; have zz3 := Sz4.out; have zz4 := Sz5.out; first | omega | (simp; done) | (simp; omega))) _).setCell (.inl (by have zz0 := Hlt.out; have zz1 := Sz2.out; have zz2 := Sz3.out; have zz3 := Sz4.out; have zz4 := Sz5.out; first | omega | (simp; done) | (simp; omega))) _).wide (by have zz0 := Hlt.out; have zz1 := Sz2.out; have zz2 := Sz3.out; have zz3 := Sz4.out; have zz4 := Sz5.out; first | omega | (simp; done) | (simp; omega)) (by have zz0 := Hlt.out; have zz1 := Sz2.out; have zz2 := Sz3.out; have zz3 := Sz4.out; have zz4 := Sz5.out; first | omega | (simp; done) | (simp; omega)) (by have zz0 := Hlt.out; have zz1 := Sz2.out; have zz2 := Sz3.out; have zz3 := Sz4.out; have zz4 := Sz5.out; first | omega | (simp; done) | (simp; omega))
      · exact ((Bel5.out.setCell (by have zz0 := Hlt.out; have zz1 := Sz2.out; have zz2 := Sz3.out; have zz3 := Sz4.out; have zz4 := Sz5.out; first | omega | (simp; done) | (simp; omega)) _).setCell (by have zz0 := Hlt.out; have zz1 := Sz2.out; have zz2 := Sz3.out; have zz3 := Sz4.out; have zz4 := Sz5.out; first | omega | (simp; done) | (simp; omega)) _).setCell (by have zz0 := Hlt.out; have zz1 := Sz2.out; have zz2 := Sz3.out; have zz3 := Sz4.out; have zz4 := Sz5.out; first | omega | (simp; done) | (simp; omega)) _
  · obtain ⟨m, rfl⟩ : ∃ m : Nat, s = -(m : Int) := ⟨(-s).toNat, by omega⟩
    have hneg : -(-(m : Int)) = m := by omega
    go_wp2_with fail
    refine (natShl_any z'.natAbs m A' n' c' _ w2 Zw2.out.rd (Nat.le_refl _) Hn'.out (by have := Hm.out; omega) (by omega)).mono ?_
    rintro e w3 ⟨AN, rfl, hoN, hb⟩
    obtain ⟨D, hD⟩ : ∃ D, D = 2 ^ m * z'.natAbs := ⟨_, rfl⟩
    obtain ⟨N, hN⟩ : ∃ N, N = z.natAbs := ⟨_, rfl⟩
    have HNn : Hid (N = qN z (-(m : Int))) := Lib.hid (by rw [hN, qN_down])
    have HDd : Hid (D = qD z' (-(m : Int))) := Lib.hid (by rw [hD, qD_down])
    have HN' := Lib.hid hN
    have Hnl : Hid (((limbs N).length : Int) ≤ 3000) := Lib.hid (by rw [hN, Hn.out]; have := Hm.out; omega)
    have HDl : Hid (((limbs D).length : Int) ≤ 3000) := Lib.hid (by rw [hD]; have h := shl_len Hn'.out m; have := Hm.out; omega)
    rw [← hD] at hoN ⊢
    obtain ⟨ln, hln⟩ : ∃ ln, ln = (limbs D).length := ⟨_, rfl⟩
    rw [← hln]
    have Hln := Lib.hid hln
    have OwN := Lib.hid hoN
    have HD0 : Hid (0 < D) := Lib.hid (by rw [hD]; exact Nat.mul_pos (Nat.two_pow_pos _) (by have := H0.out; omega))
    clear hN hD hoN hln hneg
    have Sz3 := Lib.hid (Below.size hb)
    have Bel3 := Lib.hid (belNext Bel2.out hb)
    have Bx3 := Lib.hid (Bx2.out.next hb)
    have By3 := Lib.hid (By2.out.next hb)
    have RsD3 := Lib.hid (RsD2.out.next hb)
    have Zv3 := Lib.hid (Zv2.out.next hb)
    have Zw3 := Lib.hid (Zw2.out.next hb)
    clear hb Bel2 Bx2 By2 RsD2 Zv2 Zw2 hBx0 hBx1 hBx2 hBx3 hBy0 hBy1 hBy2 hBy3 hRsD0 hRsD1 hRsD2 hRsD3 hRsD4 hRsD5 hRsD6
    obtain ⟨⟨hBx0, hBx1, hBx2⟩, hBx3⟩ := Bx3.out
    obtain ⟨⟨hBy0, hBy1, hBy2⟩, hBy3⟩ := By3.out
    obtain ⟨⟨hRsD0, hRsD1, hRsD2, hRsD3, hRsD4, hRsD5⟩, hRsD6⟩ := RsD3.out
    go_wp2_with fail
    refine (natDiv_any N D A AN n ln c ln _ _ w3 (by rw [HN'.out]; exact Zv3.out.rd) OwN.out.rd (Nat.le_refl _) (Nat.le_refl _) (by rw [HN'.out]; exact Hn.out) Hln.out.symm (by have := Hm.out; omega) (by have := HDl.out; have := Hln.out; omega) HD0.out).mono ?_
    rintro e w4 ⟨A2, A3, c2, c3, mid, rfl, k1, k2, k3, k4, ho2, ho3, hb⟩
    obtain ⟨Q, hQ⟩ : ∃ Q, Q = N / D := ⟨_, rfl⟩
    obtain ⟨R, hR⟩ : ∃ R, R = N % D := ⟨_, rfl⟩
    rw [← hQ] at k1 ho2 ⊢
    rw [← hR] at k2 ho3 ⊢
    obtain ⟨lq, hlq⟩ : ∃ lq, lq = (limbs Q).length := ⟨_, rfl⟩
    obtain ⟨lr, hlr⟩ : ∃ lr, lr = (limbs R).length := ⟨_, rfl⟩
    rw [← hlq] at k1 ⊢
    rw [← hlr] at k2 ⊢
    have Hlq : Hid (lq = (limbs Q).length ∧ (lq : Int) ≤ 90000) := Lib.hid ⟨hlq, by rw [hlq, hQ]; have h := quo_len N D; have h2 := Hnl.out; omega⟩
    have Hlr : Hid (0 < lr ↔ 0 < N % D) := Lib.hid (by rw [hlr, len_pos, hR])
    have hlr1 : (lr : Int) ≤ 90000 := by rw [hlr, hR]; have h := rem_len N D; have h2 := Hnl.out; omega
    have HQ := Lib.hid hQ
    have Ho2 := Lib.hid ho2
    have Hk := Lib.hid k1
    have Hmid := Lib.hid (And.intro k3 k4)
    clear hQ hR hlq hlr k1 k2 k3 k4 ho2 ho3
    have Sz4 := Lib.hid (Below.size hb)
    have Bel4 := Lib.hid (belNext Bel3.out hb)
    have Bx4 := Lib.hid (Bx3.out.next hb)
    have By4 := Lib.hid (By3.out.next hb)
    have RsD4 := Lib.hid (RsD3.out.next hb)
    have Zv4 := Lib.hid (Zv3.out.next hb)
    have Zw4 := Lib.hid (Zw3.out.next hb)
    clear hb Bel3 Bx3 By3 RsD3 Zv3 Zw3 hBx0 hBx1 hBx2 hBx3 hBy0 hBy1 hBy2 hBy3 hRsD0 hRsD1 hRsD2 hRsD3 hRsD4 hRsD5 hRsD6
    obtain ⟨⟨hBx0, hBx1, hBx2⟩, hBx3⟩ := Bx4.out
    obtain ⟨⟨hBy0, hBy1, hBy2⟩, hBy3⟩ := By4.out
    obtain ⟨⟨hRsD0, hRsD1, hRsD2, hRsD3, hRsD4, hRsD5⟩, hRsD6⟩ := RsD4.out
    by_cases ht0 : t < 0
    · have Ht0 := Lib.hid ht0
      by_cases hr0 : 0 < lr
      · have Hq1 : Hid (quZ z z' (-(m : Int)) = t * ((Q + 1 : Nat) : Int)) := Lib.hid (by unfold quZ; rw [← Ht.out, ← HNn.out, ← HDd.out, if_pos ⟨Ht0.out, Hlr.out.1 hr0⟩, HQ.out])
        have Hr0 := Lib.hid hr0
        have hd1 : decide (wrap64 (S * S') < 0) = true := decide_eq_true (by rw [Hss.out]; exact ht0)
        clear ht0 hr0
        go_wp2_with fail
        clear hd1
        rw [Hss.out]
        obtain ⟨w5, hw⟩ : ∃ w5, w5 = w4.alloc (.cells #[.int .i64 1] 2) := ⟨_, rfl⟩
        have Rd1 : Hid (Rd w5 w5.heap.size (some ⟨w4.heap.size, 0, none⟩) (vs (limbs 1))) := Lib.hid (by rw [hw]; exact rd_one _ _)
        have hb : Below w4.heap.size w4 w5 := by rw [hw]; exact belAlloc1 _ _
        rw [← hw]
        clear hw
        have Ho2b := Lib.hid (Ho2.out.below hb Hmid.out.2)
        have Hmb : Hid (mid ≤ w5.heap.size) := Lib.hid (Nat.le_trans Hmid.out.2 hb.size)
        have Sz5 := Lib.hid (Below.size hb)
        have Bel5 := Lib.hid (belNext Bel4.out hb)
        have Bx5 := Lib.hid (Bx4.out.next hb)
        have By5 := Lib.hid (By4.out.next hb)
        have RsD5 := Lib.hid (RsD4.out.next hb)
        have Zv5 := Lib.hid (Zv4.out.next hb)
        have Zw5 := Lib.hid (Zw4.out.next hb)
        clear hb Bel4 Bx4 By4 RsD4 Zv4 Zw4 hBx0 hBx1 hBx2 hBx3 hBy0 hBy1 hBy2 hBy3 hRsD0 hRsD1 hRsD2 hRsD3 hRsD4 hRsD5 hRsD6
        obtain ⟨⟨hBx0, hBx1, hBx2⟩, hBx3⟩ := Bx5.out
        obtain ⟨⟨hBy0, hBy1, hBy2⟩, hBy3⟩ := By5.out
        obtain ⟨⟨hRsD0, hRsD1, hRsD2, hRsD3, hRsD4, hRsD5⟩, hRsD6⟩ := RsD5.out
        refine (natPlus_any Q 1 A2 _ lq 1 c2 1 _ _ w5 Ho2b.out.rd Rd1.out Hmb.out (Nat.le_refl _) Hlq.out.1.symm (by rw [limbs_1]; rfl) (by have := Hlq.out.2; omega) (by omega)).mono ?_
        rintro e w6 ⟨A7, rfl, ho7, hb⟩
        obtain ⟨Q1, hQ1⟩ : ∃ Q1, Q1 = Q + 1 := ⟨_, rfl⟩
        rw [← hQ1] at ho7 ⊢
        obtain ⟨l7, hl7⟩ : ∃ l7, l7 = (limbs Q1).length := ⟨_, rfl⟩
        rw [← hl7]
        have Hl7 : Hid (l7 = (limbs Q1).length ∧ (l7 : Int) ≤ 90010) := Lib.hid ⟨hl7, by rw [hl7, hQ1]; have h := limbs_len_sum Q 1 Hlq.out.1.symm (show (limbs 1).length = 1 by rw [limbs_1]; rfl); have := Hlq.out.2; omega⟩
        have HQ1 := Lib.hid hQ1
        have O7 := Lib.hid ho7
        clear ho7 hQ1 hl7
        have Sz6 := Lib.hid (Below.size hb)
        have Bel6 := Lib.hid (belNext Bel5.out hb)
        have Bx6 := Lib.hid (Bx5.out.next hb)
        have By6 := Lib.hid (By5.out.next hb)
        have RsD6 := Lib.hid (RsD5.out.next hb)
        have Zv6 := Lib.hid (Zv5.out.next hb)
        have Zw6 := Lib.hid (Zw5.out.next hb)
        clear hb Bel5 Bx5 By5 RsD5 Zv5 Zw5 hBx0 hBx1 hBx2 hBx3 hBy0 hBy1 hBy2 hBy3 hRsD0 hRsD1 hRsD2 hRsD3 hRsD4 hRsD5 hRsD6
        obtain ⟨⟨hBx0, hBx1, hBx2⟩, hBx3⟩ := Bx6.out
        obtain ⟨⟨hBy0, hBy1, hBy2⟩, hBy3⟩ := By6.out
        obtain ⟨⟨hRsD0, hRsD1, hRsD2, hRsD3, hRsD4, hRsD5⟩, hRsD6⟩ := RsD6.out
        go_wp2_with fail
        refine (signed_any t (Q1) A7 l7 l7 _ _ _ O7.out Hl7.out.1.symm (by have := Hl7.out.2; omega) (Nat.le_refl _)).mono ?_
        rintro e w7 ⟨val, rfl, hv, hb⟩
        obtain ⟨S9, A9, n9, c9, rfl, hzo⟩ := Wz.zo (((hv.z (.inr (.inl (by have := Hsp.out.2.1; have := Ht0.out; omega)))).wide (Nat.le_refl _) (hb.size)).cast_ (z' := quZ z z' (-(m : Int))) (by rw [HQ1.out]; exact Hq1.out.symm)) (Nat.le_refl _)
        have Zp7 := Lib.hid hzo
        clear hv hzo
        have Sz7 := Lib.hid (Below.size hb)
        have Bel7 := Lib.hid (belNext Bel6.out hb)
        have Bx7 := Lib.hid (Bx6.out.next hb)
        have By7 := Lib.hid (By6.out.next hb)
        have RsD7 := Lib.hid (RsD6.out.next hb)
        have Zv7 := Lib.hid (Zv6.out.next hb)
        have Zw7 := Lib.hid (Zw6.out.next hb)
        clear hb Bel6 Bx6 By6 RsD6 Zv6 Zw6 hBx0 hBx1 hBx2 hBx3 hBy0 hBy1 hBy2 hBy3 hRsD0 hRsD1 hRsD2 hRsD3 hRsD4 hRsD5 hRsD6
        obtain ⟨⟨hBx0, hBx1, hBx2⟩, hBx3⟩ := Bx7.out
        obtain ⟨⟨hBy0, hBy1, hBy2⟩, hBy3⟩ := By7.out
        obtain ⟨⟨hRsD0, hRsD1, hRsD2, hRsD3, hRsD4, hRsD5⟩, hRsD6⟩ := RsD7.out
        go_wp2_with fail
        refine bodyPost_ret (v := .agg #[.int .i64 S9, .slice A9 n9 c9, .int .i64 (-k)]) (by simp [results, Tryd.results51, go_sem, hRsD0, hRsD1, hRsD2]) rfl ⟨S9, A9, n9, c9, rfl, ?_, ?_⟩
        · exact (((Zp7.out.setCell (.inl (by have zz0 := Hlt.out; have zz1 := Sz2.out; have zz2 := Sz3.out; have zz3 := Sz4.out; have zz4 := Sz5.out; have zz5 := Sz6.out; have zz6 := Sz7.out; first | omega | (simp; done) | (simp; omega))) _).setCell (.inl (by have zz0 := Hlt.out; have zz1 := Sz2.out; have zz2 := Sz3.out; have zz3 := Sz4.out; have zz4 := Sz5.out; have zz5 := Sz6.out; have zz6 := Sz7.out; first | omega | (simp; done) | (simp; omega))) _).setCell (.inl (by have zz0 := Hlt.out; have zz1 := Sz2.out; have zz2 := Sz3.out; have zz3 := Sz4.out; have zz4 := Sz5.out; have zz5 := Sz6.out; have zz6 := Sz7.out; first | omega | (simp; done) | (simp; omega))) _).wide (by have zz0 := Hlt.out; have zz1 := Sz2.out; have zz2 := Sz3.out; have zz3 := Sz4.out; have zz4 := Sz5.out; have zz5 := Sz6.out; have zz6 := Sz7.out; first | omega | (simp; done) | (simp; omega)) (by have zz0 := Hlt.out; have zz1 := Sz2.out; have zz2 := Sz3.out; have zz3 := Sz4.out; have zz4 := Sz5.out; have zz5 := Sz6.out; have zz6 := Sz7.out; first | omega | (simp; done) | (simp; omega)) (by have zz0 := Hlt.out; have zz1 := Sz2.out; have zz2 := Sz3.out; have zz3 := Sz4.out; have zz4 := Sz5.out; have zz5 := Sz6.out; have zz6 := Sz7.out; first | omega | (simp; done) | (simp; omega))
        · exact ((Bel7.out.setCell (by have zz0 := Hlt.out; have zz1 := Sz2.out; have zz2 := Sz3.out; have zz3 := Sz4.out; have zz4 := Sz5.out; have zz5 := Sz6.out; have zz6 := Sz7.out; first | omega | (simp; done) | (simp; omega)) _).setCell (by have zz0 := Hlt.out; have zz1 := Sz2.out; have zz2 := Sz3.out; have zz3 := Sz4.out; have zz4 := Sz5.out; have zz5 := Sz6.out; have zz6 := Sz7.out; first | omega | (simp; done) | (simp; omega)) _).setCell (by have zz0 := Hlt.out; have zz1 := Sz2.out; have zz2 := Sz3.out; have zz3 := Sz4.out; have zz4 := Sz5.out; have zz5 := Sz6.out; have zz6 := Sz7.out; first | omega | (simp; done) | (simp; omega)) _
      · have Hq1 : Hid (quZ z z' (-(m : Int)) = t * (Q : Int)) := Lib.hid (by unfold quZ; rw [← Ht.out, ← HNn.out, ← HDd.out, if_neg (fun h => hr0 (Hlr.out.2 h.2)), HQ.out])
        have hl0 : lr = 0 := by omega
        subst hl0
        clear hr0
        have hd1 : decide (wrap64 (S * S') < 0) = true := decide_eq_true (by rw [Hss.out]; exact ht0)
        clear ht0
        go_wp2_with fail
        clear hd1
        rw [Hss.out]
        refine (signed_any t (Q) A2 lq c2 _ _ _ Ho2.out Hlq.out.1.symm (by have := Hlq.out.2; omega) Hk.out).mono ?_
        rintro e w5 ⟨val, rfl, hv, hb⟩
        obtain ⟨S9, A9, n9, c9, rfl, hzo⟩ := Wz.zo (((hv.z (.inr (.inl (by have := Hsp.out.2.1; have := Ht0.out; omega)))).wide (Nat.le_refl _) (Nat.le_trans Hmid.out.2 hb.size)).cast_ (z' := quZ z z' (-(m : Int))) (by exact Hq1.out.symm)) (Nat.le_refl _)
        have Zp5 := Lib.hid hzo
        clear hv hzo
        have Sz5 := Lib.hid (Below.size hb)
        have Bel5 := Lib.hid (belNext Bel4.out hb)
        have Bx5 := Lib.hid (Bx4.out.next hb)
        have By5 := Lib.hid (By4.out.next hb)
        have RsD5 := Lib.hid (RsD4.out.next hb)
        have Zv5 := Lib.hid (Zv4.out.next hb)
        have Zw5 := Lib.hid (Zw4.out.next hb)
        clear hb Bel4 Bx4 By4 RsD4 Zv4 Zw4 hBx0 hBx1 hBx2 hBx3 hBy0 hBy1 hBy2 hBy3 hRsD0 hRsD1 hRsD2 hRsD3 hRsD4 hRsD5 hRsD6
        obtain ⟨⟨hBx0, hBx1, hBx2⟩, hBx3⟩ := Bx5.out
        obtain ⟨⟨hBy0, hBy1, hBy2⟩, hBy3⟩ := By5.out
        obtain ⟨⟨hRsD0, hRsD1, hRsD2, hRsD3, hRsD4, hRsD5⟩, hRsD6⟩ := RsD5.out
        go_wp2_with fail
        refine bodyPost_ret (v := .agg #[.int .i64 S9, .slice A9 n9 c9, .int .i64 (-k)]) (by simp [results, Tryd.results51, go_sem, hRsD0, hRsD1, hRsD2]) rfl ⟨S9, A9, n9, c9, rfl, ?_, ?_⟩
        · exact (((Zp5.out.setCell (.inl (by have zz0 := Hlt.out; have zz1 := Sz2.out; have zz2 := Sz3.out; have zz3 := Sz4.out; have zz4 := Sz5.out; first | omega | (simp; done) | (simp; omega))) _).setCell (.inl (by have zz0 := Hlt.out; have zz1 := Sz2.out; have zz2 := Sz3.out; have zz3 := Sz4.out; have zz4 := Sz5.out; first | omega | (simp; done) | (simp; omega))) _).setCell (.inl (by have zz0 := Hlt.out; have zz1 := Sz2.out; have zz2 := Sz3.out; have zz3 := Sz4.out; have zz4 := Sz5.out; first | omega | (simp; done) | (simp; omega))) _).wide (by have zz0 := Hlt.out; have zz1 := Sz2.out; have zz2 := Sz3.out; have zz3 := Sz4.out; have zz4 := Sz5.out; first | omega | (simp; done) | (simp; omega)) (by have zz0 := Hlt.out; have zz1 := Sz2.out; have zz2 := Sz3.out; have zz3 := Sz4.out; have zz4 := Sz5.out; first | omega | (simp; done) | (simp; omega)) (by have zz0 := Hlt.out; have zz1 := Sz2.out; have zz2 := Sz3.out; have zz3 := Sz4.out; have zz4 := Sz5.out; first | omega | (simp; done) | (simp; omega))
        · exact ((Bel5.out.setCell (by have zz0 := Hlt.out; have zz1 := Sz2.out; have zz2 := Sz3.out; have zz3 := Sz4.out; have zz4 := Sz5.out; first | omega | (simp; done) | (simp; omega)) _).setCell (by have zz0 := Hlt.out; have zz1 := Sz2.out; have zz2 := Sz3.out; have zz3 := Sz4.out; have zz4 := Sz5.out; first | omega | (simp; done) | (simp; omega)) _).setCell (by have zz0 := Hlt.out; have zz1 := Sz2.out; have zz2 := Sz3.out; have zz3 := Sz4.out; have zz4 := Sz5.out; first | omega | (simp; done) | (simp; omega)) _
    · have ht1 : decide (wrap64 (S * S') < 0) = false := decide_eq_false (by rw [Hss.out]; exact ht0)
      have Hq1 : Hid (quZ z z' (-(m : Int)) = t * (Q : Int)) := Lib.hid (by unfold quZ; rw [← Ht.out, ← HNn.out, ← HDd.out, if_neg (fun h => ht0 h.1), HQ.out])
      have Hq2 : Hid (t = 1 ∨ t = -1 ∨ Q = 0) := Lib.hid (by
        rcases Hsp.out.1 with h | h | h
        · exact .inl h
        · exact .inr (.inl h)
        · rcases Nat.mul_eq_zero.1 h with h7 | h7
          · refine .inr (.inr ?_)
            rw [HQ.out, HNn.out]; unfold qN; rw [h7, Nat.mul_zero, Nat.zero_div]
          · exact absurd h7 (by have := H0.out; omega))
      clear ht0
      go_wp2_with fail
      clear ht1
      rw [Hss.out]
      refine (signed_any t (Q) A2 lq c2 _ _ _ Ho2.out Hlq.out.1.symm (by have := Hlq.out.2; omega) Hk.out).mono ?_
      rintro e w5 ⟨val, rfl, hv, hb⟩
      obtain ⟨S9, A9, n9, c9, rfl, hzo⟩ := Wz.zo (((hv.z Hq2.out).wide (Nat.le_refl _) (Nat.le_trans Hmid.out.2 hb.size)).cast_ (z' := quZ z z' (-(m : Int))) (by exact Hq1.out.symm)) (Nat.le_refl _)
      have Zp5 := Lib.hid hzo
      clear hv hzo
      have Sz5 := Lib.hid (Below.size hb)
      have Bel5 := Lib.hid (belNext Bel4.out hb)
      have Bx5 := Lib.hid (Bx4.out.next hb)
      have By5 := Lib.hid (By4.out.next hb)
      have RsD5 := Lib.hid (RsD4.out.next hb)
      have Zv5 := Lib.hid (Zv4.out.next hb)
      have Zw5 := Lib.hid (Zw4.out.next hb)
      clear hb Bel4 Bx4 By4 RsD4 Zv4 Zw4 hBx0 hBx1 hBx2 hBx3 hBy0 hBy1 hBy2 hBy3 hRsD0 hRsD1 hRsD2 hRsD3 hRsD4 hRsD5 hRsD6
      obtain ⟨⟨hBx0, hBx1, hBx2⟩, hBx3⟩ := Bx5.out
      obtain ⟨⟨hBy0, hBy1, hBy2⟩, hBy3⟩ := By5.out
      obtain ⟨⟨hRsD0, hRsD1, hRsD2, hRsD3, hRsD4, hRsD5⟩, hRsD6⟩ := RsD5.out
      go_wp2_with fail
      refine bodyPost_ret (v := .agg #[.int .i64 S9, .slice A9 n9 c9, .int .i64 (-k)]) (by simp [results, Tryd.results51, go_sem, hRsD0, hRsD1, hRsD2]) rfl ⟨S9, A9, n9, c9, rfl, ?_, ?_⟩
      · exact (((Zp5.out.setCell (.inl (by have zz0 := Hlt.out; have zz1 := Sz2.out; have zz2 := Sz3.out; have zz3 := Sz4.out; have zz4 := Sz5.out; first | omega | (simp; done) | (simp; omega))) _).setCell (.inl (by have zz0 := Hlt.out; have zz1 := Sz2.out; have zz2 := Sz3.out; have zz3 := Sz4.out; have zz4 := Sz5.out; first | omega | (simp; done) | (simp; omega))) _).setCell (.inl (by have zz0 := Hlt.out; have zz1 := Sz2.out; have zz2 := Sz3.out; have zz3 := Sz4.out; have zz4 := Sz5.out; first | omega | (simp; done) | (simp; omega))) _).wide (by have zz0 := Hlt.out; have zz1 := Sz2.out; have zz2 := Sz3.out; have zz3 := Sz4.out; have zz4 := Sz5.out; first | omega | (simp; done) | (simp; omega)) (by have zz0 := Hlt.out; have zz1 := Sz2.out; have zz2 := Sz3.out; have zz3 := Sz4.out; have zz4 := Sz5.out; first | omega | (simp; done) | (simp; omega)) (by have zz0 := Hlt.out; have zz1 := Sz2.out; have zz2 := Sz3.out; have zz3 := Sz4.out; have zz4 := Sz5.out; first | omega | (simp; done) | (simp; omega))
      · exact ((Bel5.out.setCell (by have zz0 := Hlt.out; have zz1 := Sz2.out; have zz2 := Sz3.out; have zz3 := Sz4.out; have zz4 := Sz5.out; first | omega | (simp; done) | (simp; omega)) _).setCell (by have zz0 := Hlt.out; have zz1 := Sz2.out; have zz2 := Sz3.out; have zz3 := Sz4.out; have zz4 := Sz5.out; first | omega | (simp; done) | (simp; omega)) _).setCell (by have zz0 := Hlt.out; have zz1 := Sz2.out; have zz2 := Sz3.out; have zz3 := Sz4.out; have zz4 := Sz5.out; first | omega | (simp; done) | (simp; omega)) _

end Go.Proofs.YtnecnbonnidijaaDoor
/- The middle behind a multiple, quotients of exact results, of the program. -/
namespace Go.Proofs.YtnecnbonnidijaaDoor
set_option maxRecDepth 100000
open Go.RowKit
set_option linter.unusedSimpArgs false
set_option linter.unusedVariables false
attribute [local go_sem ↓] Go.wp_at_zero Go.wp_at_succ

theorem quZ_len {z z' s : Int} {n : Nat} (hn : (limbs z.natAbs).length = n) : ((limbs (quZ z z' s).natAbs).length : Int) ≤ n + (s.toNat : Int) / 24 + 3 := by
  have h1 : (quZ z z' s).natAbs ≤ qN z s + 1 := by
    have hd := Nat.div_le_self (qN z s) (qD z' s)
    have hg : (z.sign * z'.sign).natAbs ≤ 1 := by
      rw [Int.natAbs_mul]
      have a : ∀ x : Int, x.sign.natAbs ≤ 1 := fun x => by
        rcases Int.lt_trichotomy x 0 with h | h | h
        · rw [Int.sign_eq_neg_one_of_neg h]; decide
        · rw [h]; decide
        · rw [Int.sign_eq_one_of_pos h]; decide
      exact Nat.mul_le_mul (a z) (a z')
    unfold quZ
    split
    · rw [Int.natAbs_mul, Int.natAbs_natCast]
      calc (z.sign * z'.sign).natAbs * (qN z s / qD z' s + 1) ≤ 1 * (qN z s / qD z' s + 1) := Nat.mul_le_mul_right _ hg
        _ ≤ _ := by omega
    · rw [Int.natAbs_mul, Int.natAbs_natCast]
      calc (z.sign * z'.sign).natAbs * (qN z s / qD z' s) ≤ 1 * (qN z s / qD z' s) := Nat.mul_le_mul_right _ hg
        _ ≤ _ := by omega
  have h2 := limbs_len_mono h1
  have h3 := limbs_len_sum (qN z s) 1 rfl (show (limbs 1).length = 1 by rw [limbs_1]; rfl)
  have h4 := shl_len hn s.toNat
  unfold qN at h2 h3
  omega
/-- the places of a quotient, its value, its exponent -/
def ovK (z E z' E' : Int) : Int := 25 + ((blen z'.natAbs : Int) + E') - ((blen z.natAbs : Int) + E)
def ovQ (z E z' E' : Int) : Int := quZ z z' (E - E' + ovK z E z' E')
def ovT (z E z' E' : Int) : Int := sumZ (ovQ z E z' E' * z') (-ovK z E z' E' + E') (-z) E
def ovZ (z E z' E' : Int) : Int := if (ovT z E z' E').sign = 0 then ovQ z E z' E' else sumZ (ovQ z E z' E') (-ovK z E z' E') 1 (-ovK z E z' E' - 1)
def ovE (z E z' E' : Int) : Int := if (ovT z E z' E').sign = 0 then -ovK z E z' E' else min (-ovK z E z' E') (-ovK z E z' E' - 1)

end Go.Proofs.YtnecnbonnidijaaDoor
