/- Long division: the mathematics. -/
import Derived.Test.YtnnoobdcdfcdaaaDc
namespace Go.Proofs.Ytnnoobdcdfcdaaa
set_option maxRecDepth 100000
open Go.RowKit
set_option linter.unusedSimpArgs false
set_option linter.unusedVariables false

/-- the divisor's limbs when its missing bits are put in -/
theorem norm_facts {b n k : Nat} (hb : 0 < b) (hn : (limbs b).length = n) (hk : k = 24 * n - blen b) : k ≤ 23 ∧ blen b ≤ 24 * n ∧ (limbs (2 ^ k * b)).length = n := by
  have h1 : b < Bs ^ n := limbs_len_le.1 (by omega)
  rw [Bs_pow] at h1
  have h2 := blen_lt.2 h1
  have h3 : ¬ blen b ≤ 24 * (n - 1) := fun h => by
    have h4 := blen_lt.1 h
    rw [← Bs_pow] at h4
    have h5 := limbs_len_le.2 h4
    have h6 : n ≠ 0 := fun e => by rw [e] at hn; have := limbs_len_zero.1 hn; omega
    omega
  refine ⟨by omega, h2, ?_⟩
  have h7 : b < 2 ^ blen b := blen_lt.1 (Nat.le_refl _)
  have h8 : 2 ^ k * b < Bs ^ n := by
    rw [Bs_pow, show 24 * n = k + blen b by omega, Nat.pow_add]
    exact Nat.mul_lt_mul_of_pos_left h7 (Nat.two_pow_pos k)
  have h9 := limbs_len_le.2 h8
  have h10 : ¬ (limbs (2 ^ k * b)).length ≤ n - 1 := fun h => by
    have h11 := limbs_len_le.1 h
    have h12 : b ≤ 2 ^ k * b := Nat.le_mul_of_pos_left _ (Nat.two_pow_pos k)
    have h13 := limbs_len_le.2 (Nat.lt_of_le_of_lt h12 h11)
    have h6 : n ≠ 0 := fun e => by rw [e] at hn; have := limbs_len_zero.1 hn; omega
    omega
  omega
theorem last_pos {v m : Nat} (h : m < (limbs v).length) (h2 : (limbs v).length = m + 1) : 0 < (limbs v)[m] := by
  have hne : limbs v ≠ [] := fun e => by rw [e] at h; simp at h
  have h3 := limbs_last v hne
  rw [List.getLast_eq_getElem] at h3
  have h4 : (limbs v)[m] = (limbs v)[(limbs v).length - 1] := by congr 1; omega
  rw [h4]; omega

/-- what is kept while the quotient's limbs are found, from the last to the first -/
structure Ld (M D i L : Nat) (ws qs : List Nat) : Prop where
  lim : Lim ws
  limq : Lim qs
  lenq : qs.length = L
  sum : V ws + Bs ^ i * (V (qs.drop i) * D) = M
  less : V (ws.drop i) < D

theorem ld_step {M D j L : Nat} {ws qs zs : List Nat} (h : Ld M D (j + 1) L ws qs) (hj : j < ws.length) (hjq : j < L) (hl : zs.length = ws.length) (hz : Lim zs) (ht : zs.take j = ws.take j) (hv : V (zs.drop j) = V (ws.drop j) % D) : V (ws.drop j) < Bs * D ∧ Ld M D j L zs (qs.set j (V (ws.drop j) / D)) := by
  have hless := h.less
  have hw : V (ws.drop j) < Bs * D := by
    have h1 := V_drop hj
    have h2 := h.lim.getElem hj
    have h3 : Bs * (V (ws.drop (j + 1)) + 1) ≤ Bs * D := Nat.mul_le_mul_left _ hless
    rw [Nat.mul_add] at h3
    omega
  have hq : V (ws.drop j) / D < Bs := by rw [Nat.div_lt_iff_lt_mul (show 0 < D by omega)]; exact hw
  refine ⟨hw, hz, h.limq.set hq, by rw [List.length_set]; exact h.lenq, ?_, by rw [hv]; exact Nat.mod_lt _ (by omega)⟩
  have h1 := V_take_drop ws j (by omega)
  have h2 := V_take_drop zs j (by omega)
  rw [ht, hv] at h2
  have hjq' : j < (qs.set j (V (ws.drop j) / D)).length := by rw [List.length_set, h.lenq]; exact hjq
  have h3 := V_drop hjq'
  have hd2 : (qs.set j (V (ws.drop j) / D)).drop (j + 1) = qs.drop (j + 1) := List.drop_set_of_lt (by omega)
  rw [List.getElem_set_self, hd2] at h3
  have h4 := h.sum
  have h5 := Nat.mod_add_div (V (ws.drop j)) D
  generalize V (ws.drop j) / D = q at *
  generalize V (ws.drop j) % D = r at *
  rw [h3, h2, Nat.add_mul, Nat.mul_add, Nat.mul_assoc Bs, ← Nat.mul_assoc (Bs ^ j) Bs, ← Nat.pow_succ, ← h4, h1, ← h5, Nat.mul_add, Nat.mul_comm q D]
  show _ + (_ + Bs ^ (j + 1) * _) = _
  omega
theorem ld_first {a b k n n' : Nat} {ws : List Nat} (hb : 0 < b) (hn : (limbs a).length = n) (hn' : (limbs b).length = n') (hle : n' ≤ n) (hl : Lim ws) (hwl : ws.length = n + 1) (hv : V ws = 2 ^ k * a) : Ld (2 ^ k * a) (2 ^ k * b) (n - n' + 1) (n - n' + 1) ws (List.replicate (n - n' + 1) 0) := by
  refine ⟨hl, Lim_zeros _, List.length_replicate, ?_, ?_⟩
  · rw [List.drop_of_length_le (by rw [List.length_replicate]; omega), hv]; simp [V]
  · rw [V_drop_div hl (by omega), hv, Nat.div_lt_iff_lt_mul (Bs_pow_pos _)]
    have h1 : a < Bs ^ n := limbs_len_le.1 (by omega)
    have h0 : n' ≠ 0 := fun e => by rw [e] at hn'; have := limbs_len_zero.1 hn'; omega
    have h2 : Bs ^ (n' - 1) ≤ b := Nat.le_of_not_lt fun h => by have := limbs_len_le.2 h; omega
    have h3 : b * Bs ^ (n - n' + 1) ≥ Bs ^ (n' - 1) * Bs ^ (n - n' + 1) := Nat.mul_le_mul_right _ h2
    rw [← Nat.pow_add, show n' - 1 + (n - n' + 1) = n by omega] at h3
    rw [Nat.mul_assoc]
    exact Nat.mul_lt_mul_of_pos_left (by omega) (Nat.two_pow_pos k)
theorem ld_last {a b k L : Nat} {ws qs : List Nat} (hb : 0 < b) (h : Ld (2 ^ k * a) (2 ^ k * b) 0 L ws qs) : V qs = a / b ∧ V ws / 2 ^ k = a % b := by
  have h1 := h.sum
  have h2 := h.less
  rw [List.drop_zero, Nat.pow_zero, Nat.one_mul] at h1
  rw [List.drop_zero] at h2
  have hp := Nat.two_pow_pos k
  have h3 : 2 ^ k * a = (2 ^ k * b) * V qs + V ws := by rw [Nat.mul_comm (2 ^ k * b)]; omega
  have h4 : (2 ^ k * a) / (2 ^ k * b) = V qs := by rw [h3, Nat.mul_add_div (by omega), Nat.div_eq_of_lt h2, Nat.add_zero]
  have h5 : (2 ^ k * a) % (2 ^ k * b) = V ws := by rw [h3, Nat.mul_add_mod, Nat.mod_eq_of_lt h2]
  rw [Nat.mul_div_mul_left _ _ hp] at h4
  rw [Nat.mul_mod_mul_left] at h5
  exact ⟨h4.symm, by rw [← h5, Nat.mul_div_cancel_left _ hp]⟩
end Go.Proofs.Ytnnoobdcdfcdaaa
