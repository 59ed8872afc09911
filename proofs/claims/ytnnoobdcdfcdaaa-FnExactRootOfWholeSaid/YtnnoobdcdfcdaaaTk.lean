/- Taking a divisor off a rest: the mathematics. -/
import Derived.Test.YtnnoobdcdfcdaaaTo
namespace Go.Proofs.Ytnnoobdcdfcdaaa
set_option maxRecDepth 100000
open Go.RowKit
set_option linter.unusedSimpArgs false
set_option linter.unusedVariables false

theorem VI_append : ∀ (a b : List Int), VI (a ++ b) = VI a + (Bs : Int) ^ a.length * VI b
  | [], b => by simp [VI]
  | x :: r, b => by
    have ih := VI_append r b
    rw [List.cons_append]
    simp only [VI, List.length_cons]
    rw [ih, Int.mul_add, ← Int.mul_assoc, Int.pow_succ, Int.mul_comm (Bs : Int) ((Bs : Int) ^ r.length)]
    omega
theorem li_take (xs : List Nat) (k : Nat) : li (xs.take k) = (li xs).take k := by unfold li; rw [List.map_take]
theorem li_drop (xs : List Nat) (k : Nat) : li (xs.drop k) = (li xs).drop k := by unfold li; rw [List.map_drop]
theorem pow_posI (n : Nat) : 0 < (Bs : Int) ^ n := Int.pow_pos (by rw [Bs_eq]; decide)

/-- a rest while a divisor is taken off its cells from o to o + n -/
structure Tk (ws ds : List Nat) (o n : Nat) (g : Int) (ys : List Int) : Prop where
  len : ys.length = ws.length
  far : ∀ p, p < o ∨ o + n < p → ys[p]? = (li ws)[p]?
  near : ∀ j, j < n → ∃ t : Nat, t < Bs ∧ ys[o + j]? = some (t : Int)
  val : VI (ys.drop o) = (V (ws.drop o) : Int) - g * V ds
  low : 0 ≤ g
  high : g ≤ 16777215
  over : (V (ws.drop o) : Int) < (g + 1) * V ds

section
variable {ws ds : List Nat} {o n : Nat} {g : Int} {ys : List Int}
theorem tk_zero (hl : Lim ds) (hd : ds.length = n) (ho : o + n < ws.length) (hw : V (ws.drop o) < Bs * V ds) : V (ws.drop (o + n + 1)) = 0 := by
  have h1 := V_take_drop (ws.drop o) (n + 1) (by rw [List.length_drop]; omega)
  rw [List.drop_drop] at h1
  have h2 := V_lt hl
  rw [hd] at h2
  have h3 : Bs * V ds ≤ Bs * Bs ^ n := Nat.mul_le_mul_left _ (Nat.le_of_lt h2)
  rcases Nat.eq_zero_or_pos (V (ws.drop (o + n + 1))) with h | h
  · exact h
  · exfalso
    have h4 : Bs ^ (n + 1) * 1 ≤ Bs ^ (n + 1) * V (ws.drop (o + n + 1)) := Nat.mul_le_mul_left _ h
    rw [show o + (n + 1) = o + n + 1 by omega] at h1
    rw [Nat.pow_succ, Nat.mul_comm (Bs ^ n) Bs] at h4 h1
    omega
theorem Tk.open_ (h : Tk ws ds o n g ys) (hl : Lim ds) (hd : ds.length = n) (ho : o + n < ws.length) (hw : V (ws.drop o) < Bs * V ds) :
    ∃ (lows : List Nat) (last : Int), Lim lows ∧ lows.length = n ∧ ys[o + n]? = some last ∧ ys = li (ws.take o) ++ (li lows ++ last :: li (ws.drop (o + n + 1))) ∧ (V lows : Int) + (Bs : Int) ^ n * last = (V (ws.drop o) : Int) - g * V ds ∧ -16777217 ≤ last ∧ last ≤ 16777216 := by
  have hon : o + n < ys.length := by rw [h.len]; exact ho
  have e1 : ys.take o = li (ws.take o) := by
    rw [li_take]
    apply List.ext_getElem?
    intro p
    rw [List.getElem?_take, List.getElem?_take]
    split
    · exact h.far p (by omega)
    · rfl
  have e2 : ys.drop (o + n + 1) = li (ws.drop (o + n + 1)) := by
    rw [li_drop]
    apply List.ext_getElem?
    intro p
    rw [List.getElem?_drop, List.getElem?_drop]
    exact h.far _ (by omega)
  obtain ⟨lows, hlows⟩ : ∃ lows, lows = ((ys.drop o).take n).map Int.toNat := ⟨_, rfl⟩
  have hlen : lows.length = n := by rw [hlows, List.length_map, List.length_take, List.length_drop]; omega
  have hcell : ∀ j (hj : j < lows.length), lows[j] < Bs ∧ ys[o + j]? = some (lows[j] : Int) := by
    intro j hj
    obtain ⟨t, ht, hy⟩ := h.near j (by omega)
    have hjy : o + j < ys.length := by omega
    have h1 : ys[o + j] = (t : Int) := by rw [List.getElem?_eq_getElem hjy] at hy; exact Option.some.inj hy
    have h2 : lows[j] = t := by subst hlows; simp [h1]
    rw [h2]
    exact ⟨ht, hy⟩
  have e3 : (ys.drop o).take n = li lows := by
    apply List.ext_getElem
    · rw [li_len, hlen, List.length_take, List.length_drop]; omega
    · intro j h1 h2
      rw [li_len] at h2
      have h3 := (hcell j h2).2
      rw [li_get h2]
      rw [List.getElem?_eq_getElem (by omega)] at h3
      have h4 := Option.some.inj h3
      rw [← h4]
      simp
  have hlim : Lim lows := fun x hx => by
    obtain ⟨j, hj, rfl⟩ := List.getElem_of_mem hx
    exact (hcell j hj).1
  have e4 : ys.drop o = li lows ++ ys[o + n] :: li (ws.drop (o + n + 1)) := by
    rw [← e2, ← List.drop_eq_getElem_cons hon, ← e3, ← List.drop_drop, List.take_append_drop]
  have hz := tk_zero hl hd ho hw
  have hv := h.val
  rw [e4, VI_append, VI_li, li_len, hlen] at hv
  simp only [VI] at hv
  rw [VI_li, hz] at hv
  have hv2 : (V lows : Int) + (Bs : Int) ^ n * ys[o + n] = (V (ws.drop o) : Int) - g * V ds := by rw [← hv]; simp
  have h5 := V_lt hl
  have h6 := V_lt hlim
  rw [hd] at h5
  rw [hlen] at h6
  have hP := pow_posI n
  have h7 : (V ds : Int) < (Bs : Int) ^ n := by have : ((V ds : Nat) : Int) < ((Bs ^ n : Nat) : Int) := by omega
                                                rwa [Int.natCast_pow] at this
  have h8 : (V lows : Int) < (Bs : Int) ^ n := by have : ((V lows : Nat) : Int) < ((Bs ^ n : Nat) : Int) := by omega
                                                  rwa [Int.natCast_pow] at this
  have hw' : (V (ws.drop o) : Int) < 16777216 * V ds := by rw [Bs_eq] at hw; omega
  have hg1 := Int.mul_le_mul_of_nonneg_right h.high (show (0 : Int) ≤ V ds by omega)
  have hg0 := Int.mul_nonneg h.low (show (0 : Int) ≤ V ds by omega)
  refine ⟨lows, ys[o + n], hlim, hlen, List.getElem?_eq_getElem hon, by rw [← e1, ← e4, List.take_append_drop], hv2, ?_, ?_⟩
  · by_cases h9 : ys[o + n] < -16777217
    · exfalso
      have h10 := Int.mul_le_mul_of_nonneg_left (show ys[o + n] ≤ -16777218 by omega) (Int.le_of_lt hP)
      omega
    · omega
  · by_cases h9 : 16777216 < ys[o + n]
    · exfalso
      have h10 := Int.mul_le_mul_of_nonneg_left (show 16777217 ≤ ys[o + n] by omega) (Int.le_of_lt hP)
      omega
    · omega
theorem tk_sign {P l v X : Int} (hP : 0 < P) (h0 : 0 ≤ v) (h1 : v < P) (e : v + P * l = X) : (l < 0 → X < 0) ∧ (0 ≤ l → 0 ≤ X) ∧ (0 < l → P ≤ X) := by
  refine ⟨fun h => ?_, fun h => ?_, fun h => ?_⟩
  · have := Int.mul_le_mul_of_nonneg_left (show l ≤ -1 by omega) (Int.le_of_lt hP); omega
  · have := Int.mul_nonneg (Int.le_of_lt hP) h; omega
  · have := Int.mul_le_mul_of_nonneg_left (show 1 ≤ l by omega) (Int.le_of_lt hP); omega
/-- the guess is not too small -/
theorem tk_guess {m : Nat} (hl : Lim ds) (hws : Lim ws) (hd : ds.length = m + 1) (ho : o + (m + 1) < ws.length) (hw : V (ws.drop o) < Bs * V ds) (h0 : 0 < ds[m]) :
    V (ws.drop o) < ((ws[o + (m + 1)] * Bs + ws[o + m]) / ds[m] + 1) * V ds := by
  have hz := tk_zero hl hd ho hw
  have h1 := V_take_drop (ws.drop o) m (by rw [List.length_drop]; omega)
  rw [List.drop_drop, V_drop (show o + m < ws.length by omega), V_drop (show o + m + 1 < ws.length by omega)] at h1
  have hz' : V (ws.drop (o + m + 1 + 1)) = 0 := hz
  rw [hz'] at h1
  have h2 := V_lt ((hws.drop o).take m)
  rw [List.length_take, List.length_drop, Nat.min_eq_left (by omega)] at h2
  have h3 := V_take_drop ds m (by omega)
  rw [V_drop (show m < ds.length by omega), List.drop_of_length_le (show ds.length ≤ m + 1 by omega), V_nil] at h3
  have h4 := Nat.lt_mul_div_succ (ws[o + (m + 1)] * Bs + ws[o + m]) h0
  obtain ⟨q, hq⟩ : ∃ q, q = (ws[o + (m + 1)] * Bs + ws[o + m]) / ds[m] := ⟨_, rfl⟩
  rw [← hq] at h4 ⊢
  have h5 : Bs ^ m * (ws[o + (m + 1)] * Bs + ws[o + m] + 1) ≤ Bs ^ m * (ds[m] * (q + 1)) := Nat.mul_le_mul_left _ h4
  have h6 : Bs ^ m * ds[m] * (q + 1) ≤ V ds * (q + 1) := Nat.mul_le_mul_right _ (by rw [h3]; simp)
  rw [Nat.mul_comm (q + 1)]
  rw [Nat.mul_assoc] at h6
  have h7 : ws[o + m] + Bs * (ws[o + m + 1] + Bs * 0) = ws[o + (m + 1)] * Bs + ws[o + m] := by
    rw [Nat.mul_zero, Nat.add_zero, Nat.mul_comm]
    exact Nat.add_comm _ _
  rw [h7] at h1
  rw [Nat.mul_add, Nat.mul_one] at h5
  omega
/-- what was added -/
theorem tk_added {f : Int} {zs : List Int} (hlen : ys.length = ws.length) (hfar : ∀ p, p < o ∨ o + n < p → ys[p]? = (li ws)[p]?) (hval : VI (ys.drop o) = (V (ws.drop o) : Int) - g * V ds) (hl : zs.length = ys.length) (hv : VI zs = VI ys + (Bs : Int) ^ o * (f * V ds)) (hf : ∀ p, p < o ∨ o + n < p → zs[p]? = ys[p]?) (hn : ∀ j, j < n → ∃ t : Nat, t < Bs ∧ zs[o + j]? = some (t : Int)) (ho : o ≤ ws.length) (h0 : 0 ≤ g - f) (h1 : g - f ≤ 16777215) (h2 : (V (ws.drop o) : Int) < (g - f + 1) * V ds) : Tk ws ds o n (g - f) zs := by
  refine ⟨hl.trans hlen, fun p hp => (hf p hp).trans (hfar p hp), hn, ?_, h0, h1, h2⟩
  have e1 : zs.take o = ys.take o := by
    apply List.ext_getElem?
    intro p
    rw [List.getElem?_take, List.getElem?_take]
    split
    · exact hf p (by omega)
    · rfl
  have hz := VI_append (zs.take o) (zs.drop o)
  have hy := VI_append (ys.take o) (ys.drop o)
  rw [List.take_append_drop, List.length_take, hl, hlen, Nat.min_eq_left ho, e1] at hz
  rw [List.take_append_drop, List.length_take, hlen, Nat.min_eq_left ho] at hy
  have h3 : (Bs : Int) ^ o * VI (zs.drop o) = (Bs : Int) ^ o * (VI (ys.drop o) + f * V ds) := by rw [Int.mul_add]; omega
  have h4 := Int.eq_of_mul_eq_mul_left (Int.ne_of_gt (pow_posI o)) h3
  rw [h4, hval, Int.sub_mul]
  omega
theorem Tk.added {f : Int} {zs : List Int} (h : Tk ws ds o n g ys) (hl : zs.length = ys.length) (hv : VI zs = VI ys + (Bs : Int) ^ o * (f * V ds)) (hf : ∀ p, p < o ∨ o + n < p → zs[p]? = ys[p]?) (hn : ∀ j, j < n → ∃ t : Nat, t < Bs ∧ zs[o + j]? = some (t : Int)) (ho : o ≤ ws.length) (h0 : 0 ≤ g - f) (h1 : g - f ≤ 16777215) (h2 : (V (ws.drop o) : Int) < (g - f + 1) * V ds) : Tk ws ds o n (g - f) zs :=
  tk_added h.len h.far h.val hl hv hf hn ho h0 h1 h2
theorem tk_first {G : Int} {zs : List Int} (hlw : Lim ws) (hl : zs.length = (li ws).length) (hv : VI zs = VI (li ws) + (Bs : Int) ^ o * (-G * V ds)) (hf : ∀ p, p < o ∨ o + n < p → zs[p]? = (li ws)[p]?) (hn : ∀ j, j < n → ∃ t : Nat, t < Bs ∧ zs[o + j]? = some (t : Int)) (ho : o ≤ ws.length) (h0 : 0 ≤ G) (h1 : G ≤ 16777215) (h2 : (V (ws.drop o) : Int) < (G + 1) * V ds) : Tk ws ds o n G zs := by
  have h := tk_added (g := 0) (f := -G) (li_len ws) (fun _ _ => rfl) (by rw [← li_drop, VI_li]; simp) hl hv hf hn ho (by omega) (by omega) (by rw [show (0 : Int) - -G + 1 = G + 1 by omega]; exact h2)
  rwa [show (0 : Int) - -G = G by omega] at h
theorem tk_done (h : Tk ws ds o n g ys) (hl : Lim ds) (hlw : Lim ws) (hd : ds.length = n) (ho : o + n < ws.length) (hw : V (ws.drop o) < Bs * V ds) {lows : List Nat} {last : Int} (h1 : Lim lows) (h2 : lows.length = n) (h4 : ys = li (ws.take o) ++ (li lows ++ last :: li (ws.drop (o + n + 1)))) (h5 : (V lows : Int) + (Bs : Int) ^ n * last = (V (ws.drop o) : Int) - g * V ds) (h0 : 0 ≤ last) :
    ∃ zs : List Nat, ys = li zs ∧ zs.length = ws.length ∧ Lim zs ∧ zs.take o = ws.take o ∧ V (zs.drop o) = V (ws.drop o) % V ds ∧ g = ((V (ws.drop o) / V ds : Nat) : Int) := by
  have hP := pow_posI n
  have h6 := V_lt h1
  have h7 := V_lt hl
  rw [h2] at h6
  rw [hd] at h7
  have h8 : ((V lows : Nat) : Int) < (Bs : Int) ^ n := by rw [← Int.natCast_pow]; omega
  have h9 : ((V ds : Nat) : Int) < (Bs : Int) ^ n := by rw [← Int.natCast_pow]; omega
  have hs := tk_sign hP (by omega) h8 h5
  have hov := h.over
  rw [Int.add_mul, Int.one_mul] at hov
  have hz : last = 0 := by
    by_cases hl0 : 0 < last
    · have := hs.2.2 hl0; omega
    · omega
  subst hz
  rw [Int.mul_zero, Int.add_zero] at h5
  obtain ⟨G, rfl⟩ : ∃ G : Nat, g = (G : Int) := ⟨g.toNat, by have := h.low; omega⟩
  have hq : V (ws.drop o) = V ds * G + V lows := by
    have e : ((V ds * G + V lows : Nat) : Int) = (G : Int) * V ds + V lows := by rw [Int.natCast_add, Int.natCast_mul, Int.mul_comm]
    omega
  have hlt : V lows < V ds := by omega
  have htl : (ws.take o).length = o := by rw [List.length_take]; omega
  refine ⟨ws.take o ++ (lows ++ 0 :: ws.drop (o + n + 1)), ?_, ?_, ?_, ?_, ?_, ?_⟩
  · rw [h4]; unfold li; simp
  · rw [List.length_append, List.length_append, List.length_cons, htl, h2, List.length_drop]; omega
  · exact (hlw.take o).append (h1.append (fun x hx => by
      rcases List.mem_cons.1 hx with rfl | hx
      · rw [Bs_eq]; omega
      · exact hlw.drop _ x hx))
  · rw [List.take_append_of_le_length (by omega), List.take_of_length_le (by omega)]
  · rw [List.drop_append_of_le_length (by omega), List.drop_of_length_le (by omega), List.nil_append, V_append]
    have hz := tk_zero hl hd ho hw
    simp only [V, hz, Nat.mul_zero, Nat.add_zero]
    rw [hq, Nat.mul_add_mod, Nat.mod_eq_of_lt hlt]
  · rw [hq, Nat.mul_add_div (by omega), Nat.div_eq_of_lt hlt, Nat.add_zero]
end
end Go.Proofs.Ytnnoobdcdfcdaaa
