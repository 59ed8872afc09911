/- Products of limbs, of the program. -/
import Derived.Test.YtnnoobdcdfcdaaaPl
namespace Go.Proofs.Ytnnoobdcdfcdaaa
set_option maxRecDepth 100000
open Go.RowKit
set_option linter.unusedSimpArgs false
set_option linter.unusedVariables false

/-- the greatest product of two limbs -/
def Mx : Nat := 281474943156225
theorem mul_le_Mx {x y : Nat} (hx : x < Bs) (hy : y < Bs) : x * y ≤ Mx := by
  rw [Bs_eq] at *
  exact Nat.mul_le_mul (show x ≤ 16777215 by omega) (show y ≤ 16777215 by omega)
theorem V_set_add {ys : List Nat} {k d : Nat} (hk : k < ys.length) : V (ys.set k (ys[k] + d)) = V ys + Bs ^ k * d := by
  rw [V_take_drop (ys.set k (ys[k] + d)) (k + 1) (by rw [List.length_set]; omega), V_set_take hk, List.drop_set_of_lt (by omega), V_take_drop ys (k + 1) (by omega), V_take_succ hk, Nat.mul_add]
  omega
theorem made_zeros (n : Nat) : (madeCells (Value.int .i64 0).cells (n * 1)).toList = vs (List.replicate n 0) := by
  rw [Nat.mul_one]
  apply List.ext_getElem
  · rw [vs_len, List.length_replicate]; simp [size_madeCells]
  · intro i h1 h2
    rw [vs_len, List.length_replicate] at h2
    rw [vs_get (by rw [List.length_replicate]; exact h2)]
    simp [madeCells, Value.cells, Nat.mod_one]
theorem mul_step (i j x P y : Nat) : Bs ^ i * (x * (P + Bs ^ j * y)) = Bs ^ i * (x * P) + Bs ^ (i + j) * (x * y) := by
  rw [Nat.mul_add, Nat.mul_add, Nat.pow_add, Nat.mul_left_comm x, Nat.mul_assoc]
theorem row_step (P i x b : Nat) : P * b + Bs ^ i * (x * b) = (P + Bs ^ i * x) * b := by rw [Nat.add_mul, Nat.mul_assoc]
theorem carry_gone {v c n T : Nat} (h : v + Bs ^ n * c = T) (hT : T < Bs ^ n) : v = T ∧ c = 0 := by
  rcases Nat.eq_zero_or_pos c with h0 | h0
  · subst h0; exact ⟨by simpa using h, rfl⟩
  · exfalso
    have := Nat.mul_le_mul_left (Bs ^ n) h0
    omega
theorem prod_lt {a b n n' : Nat} (hn : (limbs a).length = n) (hn' : (limbs b).length = n') : a * b < Bs ^ (n + n') := by
  have h1 := (limbs_len_le (v := a) (n := n)).1 (by omega)
  have h2 := (limbs_len_le (v := b) (n := n')).1 (by omega)
  rw [Nat.pow_add]
  exact Nat.mul_lt_mul'' h1 h2
theorem prod_carry {ys : List Nat} {k c d e T : Nat} (hk : k < ys.length) (hl : Lim (ys.take k)) (hv : V (ys.take k) + Bs ^ k * c + Bs ^ k * V (ys.drop k) = T) (hd : d = (c + ys[k]) % Bs) (he : e = (c + ys[k]) / Bs) :
    Lim ((ys.set k d).take (k + 1)) ∧ V ((ys.set k d).take (k + 1)) + Bs ^ (k + 1) * e + Bs ^ (k + 1) * V ((ys.set k d).drop (k + 1)) = T := by
  have h1 := V_drop hk
  have h2 : d < Bs := by rw [hd]; exact Nat.mod_lt _ (by rw [Bs_eq]; omega)
  refine ⟨?_, ?_⟩
  · rw [List.take_succ_eq_append_getElem (by rw [List.length_set]; exact hk), List.getElem_set_self, List.take_set_of_le (Nat.le_refl k)]
    exact hl.append (Lim_one h2)
  · rw [V_set_take hk, List.drop_set_of_lt (by omega)]
    have h3 := carry_step (P := V (ys.take k)) (T := V (ys.take k) + Bs ^ k * c) (x := ys[k]) k rfl
    rw [← hd, ← he] at h3
    rw [h1, Nat.mul_add, ← Nat.mul_assoc, ← Nat.pow_succ, Nat.succ_eq_add_one] at hv
    omega

set_option maxHeartbeats 4000000 in
theorem natTimes_any (a b : Nat) (A A' : Option Addr) (n n' c c' B B' : Nat) (w : World) (hr : Rd w B A (vs (limbs a))) (hr' : Rd w B' A' (vs (limbs b))) (hB : B ≤ w.heap.size) (hB' : B' ≤ w.heap.size) (hn : (limbs a).length = n) (hn' : (limbs b).length = n') (hm : (n : Int) ≤ 1000) (hm' : (n' : Int) ≤ 1000) :
    Calls Try.prog 86 #[.slice A n c, .slice A' n' c'] w fun e w' => ∃ A2, e = .returned (.slice A2 (limbs (a * b)).length (limbs (a * b)).length) ∧ Ow w' w.heap.size w'.heap.size A2 (vs (limbs (a * b))) ∧ Below w.heap.size w w' := by
  obtain ⟨i0, hi0, hz0, hz1, hz2⟩ := info_parts infoI
  have hst := store_int Try.prog
  have Hr := Lib.hid (hr.up hB)
  have Hr' := Lib.hid (hr'.up hB')
  have Hn := Lib.hid hn
  have Hn' := Lib.hid hn'
  obtain ⟨L, hL⟩ : ∃ L, L = n + n' := ⟨_, rfl⟩
  have HL := Lib.hid hL
  have hLi : (n : Int) + n' = L := by omega
  have hLb : (L : Int) ≤ 2000 := by omega
  have hbytes : i0.bytes * L ≤ 281474976710656 := by rw [hz2]; omega
  clear hr hr' hn hn' hB hB' hL
  go_enter Try.func86, Try.ntmps86
  go_wp2_with (refine wpList_make_full _ rfl _ _ _ rfl w.heap.size 2 i0 _ 1 Try.underlying61 hi0 hz0 hz1 _ _ _ _ L rfl rfl rfl rfl hbytes (by unfold maxLen; omega) (Nat.le_refl _) ?_; intro w1 hown hg)
  rw [made_zeros] at hown
  have Hown := Lib.hid hown
  have Hb1 : Hid (Below w.heap.size w w1) := Lib.hid ((Below.refl _ _).grown hg (Nat.le_refl _) (by simp))
  clear hown hg hbytes
  go_loopw [22] (fun iv wr => ∃ (i : Nat) (ys : List Nat), i ≤ n ∧ iv = .int .i64 i ∧ ys.length = L ∧ V ys = V ((limbs a).take i) * b ∧ (∀ p (h : p < ys.length), ys[p] ≤ i * Mx) ∧ wr.ownsRow w.heap.size 2 1 (.slice (some ⟨w.heap.size, 0, none⟩) L L) L (vs ys) ∧ Below w.heap.size w wr) (fun iv _ => n - (intOf iv).toNat)
  case atStart => exact ⟨0, List.replicate L 0, Nat.zero_le _, rfl, List.length_replicate, by rw [V_replicate]; simp [V], fun p h => by simp, Hown.out, Hb1.out⟩
  case round =>
    clear Hown Hb1
    obtain ⟨i, ys, hi, rfl, hyl, hv, hbd, hown, hb⟩ := hrel
    have Hyl := Lib.hid hyl
    have Hv := Lib.hid hv
    have Hbd := Lib.hid hbd
    have Hown := Lib.hid hown
    have Hb := Lib.hid hb
    clear hyl hv hbd hown hb
    by_cases hlt : i < n
    · have hkx : i < (limbs a).length := by rw [Hn.out]; exact hlt
      have hra := Hr.out.below Hb.out
      obtain ⟨p, hp, _⟩ := hra.some_ (by rw [vs_len]; omega)
      subst hp
      have hcx := hra.cell (k := i) (by rw [vs_len]; exact hkx)
      rw [vs_get hkx] at hcx
      have Hva := Lib.hid (V_take_succ hkx)
      have Hxb := Lib.hid ((Lim_limbs a).getElem hkx)
      have hx0 : (0 : Int) ≤ ((limbs a)[i] : Nat) := by omega
      have hx1 : (((limbs a)[i] : Nat) : Int) ≤ 16777215 := by have := Hxb.out; rw [Bs_eq] at this; omega
      have hiL : (i : Int) < L := by have := HL.out; omega
      have hin : (i : Int) < n := by omega
      have hLne : ¬ L = i := by omega
      clear hra
      generalize (limbs a)[i] = x at *
      go_wp2
      go_loopw [32] (fun jv wq => ∃ (j : Nat) (zs : List Nat), j ≤ n' ∧ jv = .int .i64 j ∧ zs.length = L ∧ V zs = V ((limbs a).take i) * b + Bs ^ i * (x * V ((limbs b).take j)) ∧ (∀ p (h : p < zs.length), zs[p] ≤ (i + 1) * Mx) ∧ (∀ p (h : p < zs.length), i + j ≤ p → zs[p] ≤ i * Mx) ∧ wq.ownsRow w.heap.size 2 1 (.slice (some ⟨w.heap.size, 0, none⟩) L L) L (vs zs) ∧ Below w.heap.size w wq) (fun jv _ => n' - (intOf jv).toNat)
      case atStart => exact ⟨0, ys, Nat.zero_le _, rfl, Hyl.out, by rw [Hv.out]; simp [V], fun p h => by have := Hbd.out p h; rw [Nat.add_mul]; omega, fun p h _ => Hbd.out p h, Hown.out, Hb.out⟩
      case round =>
        clear Hown Hb Hyl Hv Hbd
        obtain ⟨j, zs, hj, rfl, hzl, hzv, hz1b, hz2b, hown, hb⟩ := hrel
        have Hzl := Lib.hid hzl
        have Hzv := Lib.hid hzv
        have Hz1 := Lib.hid hz1b
        have Hz2 := Lib.hid hz2b
        have Hown := Lib.hid hown
        have Hb := Lib.hid hb
        clear hzl hzv hz1b hz2b hown hb
        by_cases hlt2 : j < n'
        · have hky : j < (limbs b).length := by rw [Hn'.out]; exact hlt2
          have hrb := Hr'.out.below Hb.out
          obtain ⟨p', hp', _⟩ := hrb.some_ (by rw [vs_len]; omega)
          subst hp'
          have hcy := hrb.cell (k := j) (by rw [vs_len]; exact hky)
          rw [vs_get hky] at hcy
          have Hvb := Lib.hid (V_take_succ hky)
          have Hyb := Lib.hid ((Lim_limbs b).getElem hky)
          have hkz : i + j < zs.length := by rw [Hzl.out, HL.out]; omega
          have hcz := Hown.out.cellAt (i + j) (by rw [← Hzl.out]; omega)
          rw [List.getElem?_eq_getElem (by rw [vs_len]; exact hkz), vs_get hkz] at hcz
          have hfz := Hown.out.frozenAt (i + j)
          have Hzu := Lib.hid (Hz2.out (i + j) hkz (Nat.le_refl _))
          have Hset := Lib.hid (V_set_add (d := x * (limbs b)[j]) hkz)
          have hst2 := Hown.out.stored (i + j) (.int .i64 ((zs[i + j] + x * (limbs b)[j] : Nat) : Int))
          rw [vs_set] at hst2
          have H1 := Lib.hid hst2
          have Hnew : Hid ((∀ p (h : p < (zs.set (i + j) (zs[i + j] + x * (limbs b)[j])).length), (zs.set (i + j) (zs[i + j] + x * (limbs b)[j]))[p] ≤ (i + 1) * Mx) ∧ (∀ p (h : p < (zs.set (i + j) (zs[i + j] + x * (limbs b)[j])).length), i + (j + 1) ≤ p → (zs.set (i + j) (zs[i + j] + x * (limbs b)[j]))[p] ≤ i * Mx)) := Lib.hid (by
            have hm := mul_le_Mx Hxb.out Hyb.out
            refine ⟨fun p h => ?_, fun p h h2 => ?_⟩
            · rw [List.getElem_set]
              split
              · have := Hzu.out; rw [Nat.add_mul]; omega
              · exact Hz1.out p (by rwa [List.length_set] at h)
            · rw [List.getElem_set, if_neg (by omega)]
              exact Hz2.out p (by rwa [List.length_set] at h) (by omega))
          obtain ⟨q, hq⟩ : ∃ q, q = x * (limbs b)[j] := ⟨_, rfl⟩
          have hxy : (x : Int) * ((limbs b)[j] : Nat) = (q : Int) := by rw [hq, Int.natCast_mul]
          have hq0 : (0 : Int) ≤ q := by omega
          have hq1 : (q : Int) ≤ 281474943156225 := by have := mul_le_Mx Hxb.out Hyb.out; rw [← hq] at this; unfold Mx at this; omega
          have hu0 : (0 : Int) ≤ (zs[i + j] : Nat) := by omega
          have hu1 : ((zs[i + j] : Nat) : Int) ≤ 281474943156225000 := by
            have h1 := Hzu.out
            have h2 : i * Mx ≤ 1000 * Mx := Nat.mul_le_mul_right _ (by omega)
            unfold Mx at h1 h2
            omega
          rw [← hq] at Hset H1 Hnew
          have Hq := Lib.hid hq
          have hjL : (j : Int) < (L : Int) - i := by have := HL.out; omega
          have hadd : (((zs[i + j] + q : Nat)) : Int) = (zs[i + j] : Nat) + (q : Int) := by omega
          rw [hadd] at H1
          have Hadd := Lib.hid hadd
          clear hrb hst2 hq hadd
          generalize (limbs b)[j] = y at *
          have Hzs : Hid (zs.set (i + j) (zs[i + j] + q) = zs.set (i + j) (zs[i + j] + q)) := Lib.hid rfl
          generalize zs[i + j] = u at *
          go_wp2
          go_roundw
          case rel => exact ⟨j + 1, zs.set (i + j) (u + q), by omega, by go_num, by rw [List.length_set]; exact Hzl.out, by rw [Hset.out, Hzv.out, Hvb.out, mul_step, Hq.out]; omega, Hnew.out.1, Hnew.out.2, by first | exact H1.out.1 | (have h := H1.out.1; simpa using h), Hb.out.grown H1.out.2 Hb.out.size (by simp)⟩
          case measure => simp [intOf]; omega
        · have hjn : j = n' := by omega
          have Hfin : Hid (V zs = V ((limbs a).take (i + 1)) * b) := Lib.hid (by
            have h := Hzv.out
            have e : (limbs b).take n' = limbs b := take_all (by have := Hn'.out; omega)
            rw [hjn, e, V_limbs] at h
            rw [h, Hva.out, row_step])
          have hnl : ¬ (j : Int) < n' := by omega
          go_wp2
          go_roundw
          case rel => exact ⟨i + 1, zs, by omega, by go_num, Hzl.out, Hfin.out, Hz1.out, Hown.out, Hb.out⟩
          case measure => simp [intOf]; omega
    · have hin : i = n := by omega
      have Hfin : Hid (V ys = a * b) := Lib.hid (by
        have h := Hv.out
        rw [hin, take_all (by have := Hn.out; omega), V_limbs] at h
        exact h)
      have Hbd2 : Hid (∀ p (h : p < ys.length), ys[p] ≤ 1000 * Mx) := Lib.hid (fun p h => Nat.le_trans (Hbd.out p h) (Nat.mul_le_mul_right _ (by omega)))
      have hnl : ¬ (i : Int) < n := by omega
      go_wp2_with fail
      go_loopw [11, 50] (fun cv kv wq => ∃ (k c : Nat) (zs : List Nat), k ≤ L ∧ kv = .int .i64 k ∧ cv = .int .i64 c ∧ (c : Int) ≤ 34359738368 ∧ zs.length = L ∧ Lim (zs.take k) ∧ V (zs.take k) + Bs ^ k * c + Bs ^ k * V (zs.drop k) = a * b ∧ (∀ p (h : p < zs.length), k ≤ p → zs[p] ≤ 1000 * Mx) ∧ wq.ownsRow w.heap.size 2 1 (.slice (some ⟨w.heap.size, 0, none⟩) L L) L (vs zs) ∧ Below w.heap.size w wq) (fun _ kv _ => L - (intOf kv).toNat)
      case atStart => exact ⟨0, 0, ys, Nat.zero_le _, rfl, rfl, by simp, Hyl.out, by intro x hx; simp at hx, by simp [V]; exact Hfin.out, fun p h _ => Hbd2.out p h, Hown.out, Hb.out⟩
      case round =>
        clear Hown Hb Hyl Hv Hbd Hfin Hbd2
        obtain ⟨k, c2, zs, hk, rfl, rfl, hc2, hzl, hzt, hzv, hzb, hown, hb⟩ := hrel
        have Hzl := Lib.hid hzl
        have Hzt := Lib.hid hzt
        have Hzv := Lib.hid hzv
        have Hzb := Lib.hid hzb
        have Hown := Lib.hid hown
        have Hb := Lib.hid hb
        have hc0 : (0 : Int) ≤ c2 := by omega
        clear hzl hzt hzv hzb hown hb
        by_cases hlt2 : k < L
        · have hkz : k < zs.length := by rw [Hzl.out]; exact hlt2
          have hcz := Hown.out.cellAt k (by omega)
          rw [List.getElem?_eq_getElem (by rw [vs_len]; exact hkz), vs_get hkz] at hcz
          have hfz := Hown.out.frozenAt k
          have Hub := Lib.hid (Hzb.out k hkz (Nat.le_refl _))
          have hu0 : (0 : Int) ≤ (zs[k] : Nat) := by omega
          have hu1 : ((zs[k] : Nat) : Int) ≤ 281474943156225000 := by have h1 := Hub.out; unfold Mx at h1; omega
          have hand : bits .and .i64 ((c2 : Int) + (zs[k] : Nat)) 16777215 = (((c2 + zs[k]) % Bs : Nat) : Int) := by rw [and24_i64, Bs_eq]; omega
          have hshr : ((c2 : Int) + (zs[k] : Nat)) / 16777216 = (((c2 + zs[k]) / Bs : Nat) : Int) := by rw [Bs_eq]; omega
          have He : Hid ((((c2 + zs[k]) / Bs : Nat) : Int) ≤ 34359738368) := Lib.hid (by rw [Bs_eq]; omega)
          obtain ⟨d, hd⟩ : ∃ d, d = (c2 + zs[k]) % Bs := ⟨_, rfl⟩
          obtain ⟨e, he⟩ : ∃ e, e = (c2 + zs[k]) / Bs := ⟨_, rfl⟩
          have Hs := Lib.hid (prod_carry hkz Hzt.out Hzv.out hd he)
          rw [← hd] at hand
          rw [← he] at hshr He
          have hst2 := Hown.out.stored k (.int .i64 d)
          rw [vs_set] at hst2
          have H1 := Lib.hid hst2
          have Hnew : Hid (∀ p (h : p < (zs.set k d).length), k + 1 ≤ p → (zs.set k d)[p] ≤ 1000 * Mx) := Lib.hid (fun p h h2 => by
            rw [List.getElem_set, if_neg (by omega)]
            exact Hzb.out p (by rwa [List.length_set] at h) (by omega))
          clear hd he hst2
          generalize zs[k] = u at *
          go_wp2
          go_roundw
          case rel => exact ⟨k + 1, e, zs.set k d, by omega, by go_num, rfl, He.out, by rw [List.length_set]; exact Hzl.out, Hs.out.1, Hs.out.2, Hnew.out, H1.out.1, Hb.out.grown H1.out.2 Hb.out.size (by simp)⟩
          case measure => simp [intOf]; omega
        · have hkL : k = L := by omega
          have Hfin : Hid (V zs = a * b ∧ Lim zs) := Lib.hid (by
            have h := Hzv.out
            have h2 := Hzt.out
            rw [take_all (by have := Hzl.out; omega)] at h h2
            rw [List.drop_of_length_le (by have := Hzl.out; omega)] at h
            have hp := prod_lt Hn.out Hn'.out
            rw [← HL.out, ← hkL] at hp
            have := carry_gone (v := V zs) (c := c2) (n := k) (by simpa [V] using h) hp
            exact ⟨this.1, h2⟩)
          have H1 := Lib.hid (Ow.own Hown.out)
          have hnl2 : ¬ (k : Int) < L := by omega
          go_wp2_with fail
          refine (trim_any _ L L wr.heap.size zs wr H1.out.rd Hzl.out Hfin.out.2 (by omega) (by omega)).mono ?_
          rintro e w3 ⟨rfl, q, rfl⟩
          have Hp : Hid (limbs (a * b) = zs.take (limbs (a * b)).length) := Lib.hid (by have h := limbs_prefix Hfin.out.2; rw [Hfin.out.1] at h; exact h)
          rw [Hfin.out.1]
          go_wp2_with fail
          go_ret
          exact ⟨_, rfl, (((H1.out.take (limbs (a * b)).length).eq_ (by rw [← vs_take, ← Hp.out])).drewN q).wide (Nat.le_refl _) (Nat.le_refl _), below_drewN Hb.out q⟩
end Go.Proofs.Ytnnoobdcdfcdaaa
