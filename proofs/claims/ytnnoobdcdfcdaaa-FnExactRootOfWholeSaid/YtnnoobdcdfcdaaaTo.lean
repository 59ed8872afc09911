/- Multiples of a divisor added to a part of a row, of the program. -/
import Derived.Test.YtnnoobdcdfcdaaaSd
namespace Go.Proofs.Ytnnoobdcdfcdaaa
set_option maxRecDepth 100000
open Go.RowKit
set_option linter.unusedSimpArgs false
set_option linter.unusedVariables false

/-- the value of cells that may be below zero -/
def VI : List Int → Int
  | [] => 0
  | x :: r => x + (Bs : Int) * VI r
theorem VI_set : ∀ (xs : List Int) (k : Nat) (h : k < xs.length) (d : Int), VI (xs.set k d) = VI xs + (Bs : Int) ^ k * (d - xs[k])
  | [], k, h, _ => by simp at h
  | x :: r, 0, _, d => by simp only [List.set_cons_zero, VI, List.getElem_cons_zero, Int.pow_zero, Int.one_mul]; omega
  | x :: r, k + 1, h, d => by
    have ih := VI_set r k (by simpa using h) d
    simp only [List.set_cons_succ, VI, List.getElem_cons_succ]
    rw [ih, Int.mul_add, ← Int.mul_assoc, Int.pow_succ, Int.mul_comm (Bs : Int) ((Bs : Int) ^ k)]
    omega
theorem VI_li : ∀ (xs : List Nat), VI (li xs) = (V xs : Int)
  | [] => rfl
  | x :: r => by
    have ih := VI_li r
    show (x : Int) + (Bs : Int) * VI (li r) = ((x + Bs * V r : Nat) : Int)
    rw [ih, Int.natCast_add, Int.natCast_mul]
theorem add_step {Y Y' M d r e cc q b : Int} (hY : Y' = Y + M * (d - r)) (hd : d + b * e = cc + (r + q)) : Y' + (M * b) * e = (Y + M * cc) + M * q := by
  have h1 : M * (d - r) + M * (b * e) = M * (cc + q) := by rw [← Int.mul_add]; congr 1; omega
  rw [Int.mul_add] at h1
  rw [hY, Int.mul_assoc]
  omega
theorem fac_bound {f x : Int} (h0 : -16777215 ≤ f) (h1 : f ≤ 1) (hx0 : 0 ≤ x) (hx1 : x ≤ 16777215) : -281474943156225 ≤ f * x ∧ f * x ≤ 16777215 := by
  have h2 := Int.mul_le_mul_of_nonneg_right h0 hx0
  have h3 := Int.mul_le_mul_of_nonneg_right h1 hx0
  omega
theorem ow_row {w : World} {g k : Nat} {xs : List Int} (h : Ow w g (g + 1) (some ⟨g, 0, none⟩) (vi xs)) (hk : k < xs.length) : w.cell? ⟨g, k, none⟩ = some (.int .i64 xs[k]) ∧ w.frozen? ⟨g, k, none⟩ = false ∧ ∀ d : Int, Ow (w.setCell ⟨g, k, none⟩ (.int .i64 d)) g (g + 1) (some ⟨g, 0, none⟩) (vi (xs.set k d)) ∧ w.grownBy (w.setCell ⟨g, k, none⟩ (.int .i64 d)) (some g) := by
  have hk' : k < (vi xs).length := by rw [vi_len]; exact hk
  refine ⟨?_, ?_, fun d => ?_⟩
  · obtain ⟨g', hA, _, _, h1, h2, _⟩ := h.stored hk' (.int .i64 0)
    injection hA with hA; injection hA with hA
    subst hA
    rw [h1, vi_get hk]
  · obtain ⟨g', hA, _, _, h1, h2, _⟩ := h.stored hk' (.int .i64 0)
    injection hA with hA; injection hA with hA
    subst hA
    exact h2
  · obtain ⟨g', hA, _, _, h1, h2, h3, h4⟩ := h.stored hk' (.int .i64 d)
    injection hA with hA; injection hA with hA
    subst hA
    rw [vi_set] at h3
    exact ⟨h3, h4⟩
theorem gtrans {a w w' : World} {row : Option Nat} (h : a.grownBy w row) (k : w.grownBy w' row) : a.grownBy w' row :=
  ⟨k.os.trans h.os, k.tape.trans h.tape, k.output.trans h.output, Nat.le_trans h.size k.size, fun b hb hne => (k.block b (Nat.lt_of_lt_of_le hb h.size) hne).trans (h.block b hb hne)⟩
theorem Rd.by_grown {w w' : World} {B g : Nat} {A : Option Addr} {xs : List Value} (h : Rd w B A xs) (hB : B ≤ g) (hg : w.grownBy w' (some g)) (hs : B ≤ w.heap.size) : Rd w' B A xs :=
  h.carry fun p hp => hg.cell_far p (by omega) (fun e => by injection e with e; omega)

set_option maxHeartbeats 1000000 in
theorem addTimes_any (ds : List Nat) (xs : List Int) (f : Int) (A : Option Addr) (n cA c o g B : Nat) (w : World) (hr : Rd w B A (vs ds)) (hB : B ≤ g) (hBs : B ≤ w.heap.size) (hown : Ow w g (g + 1) (some ⟨g, 0, none⟩) (vi xs)) (hn : ds.length = n) (hl : Lim ds) (ho : o + n < xs.length) (hm : (xs.length : Int) ≤ 200000) (hf0 : -16777215 ≤ f) (hf1 : f ≤ 1) (hx : ∀ k (h : o + k < xs.length), k < n → 0 ≤ xs[o + k] ∧ xs[o + k] ≤ 16777215) (ht0 : -1099511627776 ≤ xs[o + n]) (ht1 : xs[o + n] ≤ 1099511627776) :
    Calls Try.prog 97 #[.slice (some ⟨g, o, none⟩) (n + 1) c, .slice A n cA, .int .i64 f] w fun e w' => e = .returned (.tuple #[]) ∧ w.grownBy w' (some g) ∧ ∃ ys : List Int, Ow w' g (g + 1) (some ⟨g, 0, none⟩) (vi ys) ∧ ys.length = xs.length ∧ VI ys = VI xs + (Bs : Int) ^ o * (f * V ds) ∧ (∀ p, p < o ∨ o + n < p → ys[p]? = xs[p]?) ∧ (∀ j, j < n → ∃ t : Nat, t < Bs ∧ ys[o + j]? = some (t : Int)) := by
  have hst := store_int Try.prog
  have Hr := Lib.hid hr
  have Hn := Lib.hid hn
  have Hl := Lib.hid hl
  have Ho := Lib.hid ho
  have Hx := Lib.hid hx
  have Hown := Lib.hid hown
  have HB := Lib.hid hB
  have HBs := Lib.hid hBs
  obtain ⟨u0, hu0⟩ : ∃ u0, xs[o + n]? = some u0 := ⟨_, List.getElem?_eq_getElem ho⟩
  have hu1 : -1099511627776 ≤ u0 ∧ u0 ≤ 1099511627776 := by rw [List.getElem?_eq_getElem ho] at hu0; have := Option.some.inj hu0; omega
  have Hu := Lib.hid (And.intro hu0 hu1)
  have hob : (o : Int) + n ≤ 199999 := by omega
  clear ht0 ht1 hx hr hn hl ho hown hB hBs hu0 hu1
  go_enter Try.func97, Try.ntmps97
  go_wp2_with fail
  go_loopw [6, 7, 8, 11] (fun cv _ _ iv wr => ∃ (k : Nat) (cc : Int) (ys : List Int), k ≤ n ∧ iv = .int .i64 k ∧ cv = .int .i64 cc ∧ (-16777216 ≤ cc ∧ cc ≤ 16777216) ∧ ys.length = xs.length ∧ VI ys + (Bs : Int) ^ (o + k) * cc = VI xs + (Bs : Int) ^ o * (f * V (ds.take k)) ∧ (∀ p, p < o ∨ o + k ≤ p → ys[p]? = xs[p]?) ∧ (∀ j, j < k → ∃ t : Nat, t < Bs ∧ ys[o + j]? = some (t : Int)) ∧ Ow wr g (g + 1) (some ⟨g, 0, none⟩) (vi ys) ∧ w.grownBy wr (some g)) (fun _ _ _ iv _ => n - (intOf iv).toNat)
  case atStart => exact ⟨0, 0, xs, Nat.zero_le _, rfl, rfl, by omega, rfl, by simp [V], fun _ _ => rfl, fun j h => absurd h (by omega), Hown.out, World.grownBy.refl _ _⟩
  case round =>
    clear Hown
    obtain ⟨k, cc, ys, hk, rfl, rfl, hcc, hyl, hv, hfar, hnear, hown, hg⟩ := hrel
    obtain ⟨hcc0, hcc1⟩ := hcc
    have Hyl := Lib.hid hyl
    have Hv := Lib.hid hv
    have Hfar := Lib.hid hfar
    have Hnear := Lib.hid hnear
    have Hown := Lib.hid hown
    have Hg := Lib.hid hg
    clear hyl hv hfar hnear hown hg
    by_cases hlt : k < n
    · have hkx : k < ds.length := by rw [Hn.out]; exact hlt
      have hra := Hr.out.by_grown HB.out Hg.out HBs.out
      obtain ⟨q, hq, _⟩ := hra.some_ (by rw [vs_len]; omega)
      subst hq
      have hcx := hra.cell (k := k) (by rw [vs_len]; exact hkx)
      rw [vs_get hkx] at hcx
      have Hva := Lib.hid (V_take_succ hkx)
      have Hxb := Lib.hid (Hl.out.getElem hkx)
      have hx0 : (0 : Int) ≤ (ds[k] : Nat) := by omega
      have hx1 : ((ds[k] : Nat) : Int) ≤ 16777215 := by have := Hxb.out; rw [Bs_eq] at this; omega
      have hky : o + k < ys.length := by rw [Hyl.out]; have := Ho.out; omega
      have hkxs : o + k < xs.length := by have := Ho.out; omega
      have hyx : ys[o + k] = xs[o + k] := by
        have h := Hfar.out (o + k) (.inr (Nat.le_refl _))
        rw [List.getElem?_eq_getElem hky, List.getElem?_eq_getElem hkxs] at h
        exact Option.some.inj h
      have hr01 := Hx.out k hkxs hlt
      rw [← hyx] at hr01
      obtain ⟨hr0, hr1⟩ := hr01
      obtain ⟨hcz, hfz, hset⟩ := ow_row Hown.out hky
      have HV := Lib.hid (fun d => VI_set ys (o + k) hky d)
      clear hra hyx
      generalize ds[k] = x at *
      generalize ys[o + k] = r at *
      obtain ⟨hq0, hq1⟩ := fac_bound hf0 hf1 hx0 hx1
      obtain ⟨q1, hq⟩ : ∃ q1, q1 = f * (x : Int) := ⟨_, rfl⟩
      rw [← hq] at hq0 hq1
      have Hq := Lib.hid hq
      have hq' := hq.symm
      obtain ⟨t, ht⟩ : ∃ t, t = cc + (r + q1) := ⟨_, rfl⟩
      have hand : bits .and .i64 t 16777215 = t % 16777216 := and24_i64 t
      obtain ⟨d, hd⟩ : ∃ d, d = t % 16777216 := ⟨_, rfl⟩
      obtain ⟨e, he⟩ : ∃ e, e = t / 16777216 := ⟨_, rfl⟩
      have He : Hid (-16777216 ≤ e ∧ e ≤ 16777216 ∧ 0 ≤ d ∧ d < 16777216 ∧ d + 16777216 * e = cc + (r + q1)) := Lib.hid (by omega)
      have htt := ht.symm
      rw [← hd] at hand
      have hshr := he.symm
      have Hset := Lib.hid (hset d)
      have hkn : (k : Int) < n := by omega
      clear hq ht hd he hset
      go_wp2_with fail
      go_roundw
      case rel =>
        refine ⟨k + 1, e, ys.set (o + k) d, by omega, by go_num, rfl, ⟨He.out.1, He.out.2.1⟩, by rw [List.length_set]; exact Hyl.out, ?_, ?_, ?_, Hset.out.1, gtrans Hg.out Hset.out.2⟩
        · have h1 := add_step (HV.out d) (b := (Bs : Int)) (by rw [Bs_eq]; exact He.out.2.2.2.2)
          rw [← Int.pow_succ] at h1
          show VI _ + (Bs : Int) ^ (o + k + 1) * e = _
          rw [h1, Hv.out, Hva.out, Int.pow_add, Int.natCast_add, Int.natCast_mul, Int.natCast_pow, Int.mul_add f, Int.mul_add, Int.mul_left_comm f, ← Hq.out, ← Int.mul_assoc ((Bs : Int) ^ o) ((Bs : Int) ^ k), Int.add_assoc]
        · intro p hp
          rw [List.getElem?_set_ne (by omega)]
          exact Hfar.out p (by omega)
        · intro j hj
          by_cases hjk : j = k
          · subst hjk
            have h1 := He.out
            exact ⟨d.toNat, by rw [Bs_eq]; omega, by rw [List.getElem?_set_self hky]; congr 1; omega⟩
          · rw [List.getElem?_set_ne (by omega)]
            exact Hnear.out j (by omega)
      case measure => simp [intOf]; omega
    · have hkn : k = n := by omega
      subst hkn
      have hky : o + k < ys.length := by rw [Hyl.out]; exact Ho.out
      have hyx : ys[o + k] = u0 := by
        have h := Hfar.out (o + k) (.inr (Nat.le_refl _))
        rw [List.getElem?_eq_getElem hky, Hu.out.1] at h
        exact Option.some.inj h
      obtain ⟨hcz, hfz, hset⟩ := ow_row Hown.out hky
      have HV := Lib.hid (VI_set ys (o + k) hky (u0 + cc))
      rw [hyx] at hcz HV
      obtain ⟨hu0, hu1⟩ := Hu.out.2
      have Hset := Lib.hid (hset (u0 + cc))
      clear hset hyx
      go_wp2_with fail
      go_end0
      refine ⟨rfl, gtrans Hg.out Hset.out.2, ys.set (o + k) (u0 + cc), Hset.out.1, by rw [List.length_set]; exact Hyl.out, ?_, ?_, ?_⟩
      · have hv := Hv.out
        rw [take_all (by have := Hn.out; omega)] at hv
        rw [← hv, HV.out, show u0 + cc - u0 = cc by omega]
      · intro p hp
        rw [List.getElem?_set_ne (by omega)]
        exact Hfar.out p (by omega)
      · intro j hj
        rw [List.getElem?_set_ne (by omega)]
        exact Hnear.out j hj
end Go.Proofs.Ytnnoobdcdfcdaaa
