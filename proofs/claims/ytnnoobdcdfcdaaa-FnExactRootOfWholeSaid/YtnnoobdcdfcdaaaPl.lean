/- Sums and differences of limbs, of the program. -/
import Derived.Test.YtnnoobdcdfcdaaaTm
import Derived.Test.YtnnoobdcdfcdaaaBm
namespace Go.Proofs.Ytnnoobdcdfcdaaa
set_option maxRecDepth 100000
open Go.RowKit
set_option linter.unusedSimpArgs false
set_option linter.unusedVariables false

theorem fill_set {ys : List Nat} {rest : List Value} {k d : Nat} (hy : ys.length = k) (hr : 0 < rest.length) : (vs ys ++ rest).set k (.int .i64 d) = vs (ys ++ [d]) ++ rest.drop 1 := by
  subst hy
  cases rest with
  | nil => simp at hr
  | cons r rs =>
    rw [List.set_append_right _ _ (by rw [vs_len]; omega), vs_len, Nat.sub_self, vs_append]
    simp [vs, vi, li]
theorem Lim.snoc {ys : List Nat} (h : Lim ys) {d : Nat} (hd : d < Bs) : Lim (ys ++ [d]) := h.append (Lim_one hd)
theorem V_snoc (ys : List Nat) (d : Nat) : V (ys ++ [d]) = V ys + Bs ^ ys.length * d := by rw [V_append]; simp [V]
theorem take_all {xs : List Nat} {n : Nat} (h : xs.length ≤ n) : xs.take n = xs := List.take_of_length_le h

theorem plus_step {ys : List Nat} {k c t T : Nat} (hy : ys.length = k) (hl : Lim ys) (hv : V ys + Bs ^ k * c = T) : Lim (ys ++ [(c + t) % Bs]) ∧ V (ys ++ [(c + t) % Bs]) + Bs ^ (k + 1) * ((c + t) / Bs) = T + Bs ^ k * t := by
  subst hy
  refine ⟨hl.snoc (Nat.mod_lt _ (by rw [Bs_eq]; omega)), ?_⟩
  rw [V_snoc]
  exact carry_step _ hv

set_option maxHeartbeats 2000000 in
theorem natPlus_or (a b : Nat) (A A' : Option Addr) (n n' c c' B B' : Nat) (w : World) (hr : Rd w B A (vs (limbs a))) (hr' : Rd w B' A' (vs (limbs b))) (hB : B ≤ w.heap.size) (hB' : B' ≤ w.heap.size) (hn : (limbs a).length = n) (hn' : (limbs b).length = n') (hm : (n : Int) ≤ 100000) (hm' : (n' : Int) ≤ 100000) (hle : n' ≤ n) :
    Calls Try.prog 84 #[.slice A n c, .slice A' n' c'] w fun e w' => ∃ A2, e = .returned (.slice A2 (limbs (a + b)).length (limbs (a + b)).length) ∧ Ow w' w.heap.size w'.heap.size A2 (vs (limbs (a + b))) ∧ Below w.heap.size w w' := by
  obtain ⟨i0, hi0, hz0, hz1, hz2⟩ := info_parts infoI
  have hst := store_int Try.prog
  have Hr := Lib.hid (hr.up hB)
  have Hr' := Lib.hid (hr'.up hB')
  have Hn := Lib.hid hn
  have Hn' := Lib.hid hn'
  have Hle := Lib.hid hle
  have hlt0 : ¬ (n : Int) < n' := by omega
  have hbytes : i0.bytes * (n + 1) ≤ 281474976710656 := by rw [hz2]; omega
  clear hr hr' hn hn' hB hB' hle
  go_enter Try.func84, Try.ntmps84
  go_wp2_with (refine wpList_make_full _ rfl _ _ _ rfl w.heap.size 2 i0 _ 1 Try.underlying61 hi0 hz0 hz1 _ _ _ _ (n + 1) rfl rfl rfl rfl hbytes (by unfold maxLen; omega) (Nat.le_refl _) ?_; intro w1 hown hg)
  obtain ⟨rest0, hrest⟩ : ∃ rest0, rest0 = (madeCells (Value.int .i64 0).cells ((n + 1) * 1)).toList := ⟨_, rfl⟩
  rw [← hrest] at hown
  have hrl : rest0.length = n + 1 := by have := hown.1; omega
  have Hrl := Lib.hid hrl
  have Hown := Lib.hid hown
  have Hb1 : Hid (Below w.heap.size w w1) := Lib.hid ((Below.refl _ _).grown hg (Nat.le_refl _) (by simp))
  clear hrest hrl hown hg
  go_loopw [6, 7, 8, 22] (fun cv _ _ i wr => ∃ (k cc : Nat) (ys : List Nat) (rest : List Value), k ≤ n ∧ i = .int .i64 k ∧ cv = .int .i64 cc ∧ cc ≤ 1 ∧ ys.length = k ∧ rest.length = n + 1 - k ∧ Lim ys ∧ V ys + Bs ^ k * cc = V ((limbs a).take k) + V ((limbs b).take k) ∧
    wr.ownsRow w.heap.size 2 1 (.slice (some ⟨w.heap.size, 0, none⟩) (n + 1) (n + 1)) (n + 1) (vs ys ++ rest) ∧ Below w.heap.size w wr) (fun _ _ _ i _ => n - (intOf i).toNat)
  case atStart => exact ⟨0, 0, [], rest0, Nat.zero_le _, rfl, rfl, by omega, rfl, Hrl.out, Lim_nil, by simp [V], Hown.out, Hb1.out⟩
  case round =>
    obtain ⟨k, cc, ys, rest, hk, rfl, rfl, hcc, hyl, hrl, hl, hv, hown, hb⟩ := hrel
    have Hyl := Lib.hid hyl
    have Hrl := Lib.hid hrl
    have Hl := Lib.hid hl
    have Hv := Lib.hid hv
    have Hcc := Lib.hid hcc
    have hcc0 : (0 : Int) ≤ cc := by omega
    have hcc1 : (cc : Int) ≤ 1 := by omega
    have hc2 : ∃ u, wr.cell? ⟨w.heap.size, k, none⟩ = some u := ⟨_, by rw [hown.cellAt k (by omega)]; exact List.getElem?_eq_getElem (by rw [List.length_append, vs_len]; omega)⟩
    obtain ⟨u, hu⟩ := hc2
    have hf2 := hown.frozenAt k
    have Hb := Lib.hid hb
    have Hown := Lib.hid hown
    have hnb : ((k : Int) < n + 1) := by omega
    clear hyl hrl hl hv hcc hb hown
    by_cases hlt : k < n
    · have hkx : k < (limbs a).length := by rw [Hn.out]; exact hlt
      have hra := Hr.out.below Hb.out
      obtain ⟨p, hp, _⟩ := hra.some_ (by rw [vs_len]; omega)
      subst hp
      have hcx := hra.cell (k := k) (by rw [vs_len]; exact hkx)
      rw [vs_get hkx] at hcx
      have Hva := Lib.hid (V_take_succ hkx)
      have Hxb := Lib.hid ((Lim_limbs a).getElem hkx)
      have hx0 : (0 : Int) ≤ ((limbs a)[k] : Nat) := by omega
      have hx1 : (((limbs a)[k] : Nat) : Int) ≤ 16777215 := by have := Hxb.out; rw [Bs_eq] at this; omega
      clear hra
      by_cases hlt2 : k < n'
      · have hky : k < (limbs b).length := by rw [Hn'.out]; exact hlt2
        have hrb := Hr'.out.below Hb.out
        obtain ⟨p', hp', _⟩ := hrb.some_ (by rw [vs_len]; omega)
        subst hp'
        have hcy := hrb.cell (k := k) (by rw [vs_len]; exact hky)
        rw [vs_get hky] at hcy
        have Hvb := Lib.hid (V_take_succ hky)
        have Hyb := Lib.hid ((Lim_limbs b).getElem hky)
        have hy0 : (0 : Int) ≤ ((limbs b)[k] : Nat) := by omega
        have hy1 : (((limbs b)[k] : Nat) : Int) ≤ 16777215 := by have := Hyb.out; rw [Bs_eq] at this; omega
        clear hrb
        generalize (limbs a)[k] = x at *
        generalize (limbs b)[k] = y at *
        have Hs := Lib.hid (plus_step (t := x + y) Hyl.out Hl.out Hv.out)
        have hand : bits .and .i64 ((cc : Int) + x + y) 16777215 = (((cc + (x + y)) % Bs : Nat) : Int) := by rw [and24_i64, Bs_eq]; omega
        have hshr : ((cc : Int) + x + y) / 16777216 = (((cc + (x + y)) / Bs : Nat) : Int) := by rw [Bs_eq]; omega
        have He : Hid ((cc + (x + y)) / Bs ≤ 1) := Lib.hid (by rw [Bs_eq]; omega)
        obtain ⟨d, hd⟩ : ∃ d, d = (cc + (x + y)) % Bs := ⟨_, rfl⟩
        obtain ⟨e, he⟩ : ∃ e, e = (cc + (x + y)) / Bs := ⟨_, rfl⟩
        rw [← hd] at hand Hs
        rw [← he] at hshr He Hs
        have hst2 := Hown.out.stored k (.int .i64 d)
        rw [fill_set Hyl.out (by have := Hrl.out; omega)] at hst2
        have H1 := Lib.hid hst2
        have hsum1 : (0 : Int) ≤ cc + x + y := by omega
        have hsum2 : (cc : Int) + x + y ≤ 33554431 := by omega
        clear hd he hst2
        go_wp2
        go_roundw
        case rel => exact ⟨k + 1, e, ys ++ [d], rest.drop 1, by omega, by go_num, rfl, He.out, by rw [List.length_append, Hyl.out]; rfl, by rw [List.length_drop, Hrl.out]; omega, Hs.out.1, by rw [Hs.out.2, Hva.out, Hvb.out, Nat.mul_add]; omega, H1.out.1, Hb.out.grown H1.out.2 Hb.out.size (by simp)⟩
        case measure => simp [intOf]; omega
      · have hnl2 : ¬ (k : Int) < n' := by omega
        have Hvb : Hid (V ((limbs b).take (k + 1)) = V ((limbs b).take k)) := Lib.hid (by rw [take_all (by have := Hn'.out; omega), take_all (by have := Hn'.out; omega)])
        generalize (limbs a)[k] = x at *
        have Hs := Lib.hid (plus_step (t := x) Hyl.out Hl.out Hv.out)
        have hand : bits .and .i64 ((cc : Int) + x) 16777215 = (((cc + x) % Bs : Nat) : Int) := by rw [and24_i64, Bs_eq]; omega
        have hshr : ((cc : Int) + x) / 16777216 = (((cc + x) / Bs : Nat) : Int) := by rw [Bs_eq]; omega
        have He : Hid ((cc + x) / Bs ≤ 1) := Lib.hid (by rw [Bs_eq]; omega)
        obtain ⟨d, hd⟩ : ∃ d, d = (cc + x) % Bs := ⟨_, rfl⟩
        obtain ⟨e, he⟩ : ∃ e, e = (cc + x) / Bs := ⟨_, rfl⟩
        rw [← hd] at hand Hs
        rw [← he] at hshr He Hs
        have hst2 := Hown.out.stored k (.int .i64 d)
        rw [fill_set Hyl.out (by have := Hrl.out; omega)] at hst2
        have H1 := Lib.hid hst2
        have hsum1 : (0 : Int) ≤ cc + x := by omega
        have hsum2 : (cc : Int) + x ≤ 33554431 := by omega
        clear hd he hst2
        go_wp2
        go_roundw
        case rel => exact ⟨k + 1, e, ys ++ [d], rest.drop 1, by omega, by go_num, rfl, He.out, by rw [List.length_append, Hyl.out]; rfl, by rw [List.length_drop, Hrl.out]; omega, Hs.out.1, by rw [Hs.out.2, Hva.out, Hvb.out]; omega, H1.out.1, Hb.out.grown H1.out.2 Hb.out.size (by simp)⟩
        case measure => simp [intOf]; omega
    · have hkn : k = n := by omega
      subst hkn
      have Hfin : Hid (Lim (ys ++ [cc]) ∧ V (ys ++ [cc]) = a + b ∧ (ys ++ [cc]).length = k + 1) := Lib.hid (by
        refine ⟨Hl.out.snoc (by have := Hcc.out; rw [Bs_eq]; omega), ?_, by rw [List.length_append, Hyl.out]; rfl⟩
        have h := Hv.out
        rw [take_all (by have := Hn.out; omega), take_all (by have := Hn'.out; have := Hle.out; omega), V_limbs, V_limbs] at h
        rw [V_snoc, Hyl.out]
        omega)
      have hst2 := Hown.out.stored k (.int .i64 cc)
      rw [fill_set Hyl.out (by have := Hrl.out; omega), List.eq_nil_of_length_eq_zero (l := rest.drop 1) (by rw [List.length_drop]; have := Hrl.out; omega), List.append_nil] at hst2
      have H1 := Lib.hid (Ow.own hst2.1)
      have H2 := Lib.hid (Hb.out.grown hst2.2 Hb.out.size (by simp))
      clear hst2 hlt
      go_wp2_with fail
      obtain ⟨w2, hw2⟩ : ∃ w2, w2 = wr.setCell ⟨w.heap.size, k, none⟩ (.int .i64 cc) := ⟨_, rfl⟩
      rw [← hw2] at H1 H2 ⊢
      clear hw2
      refine (trim_any _ (k + 1) (k + 1) w2.heap.size (ys ++ [cc]) w2 H1.out.rd Hfin.out.2.2 Hfin.out.1 (by omega) (by omega)).mono ?_
      rintro e w3 ⟨rfl, q, rfl⟩
      have Hp : Hid (limbs (a + b) = (ys ++ [cc]).take (limbs (a + b)).length) := Lib.hid (by have h := limbs_prefix Hfin.out.1; rw [Hfin.out.2.1] at h; exact h)
      rw [Hfin.out.2.1]
      go_wp2_with fail
      go_ret
      exact ⟨_, rfl, (((H1.out.take (limbs (a + b)).length).eq_ (by rw [← vs_take, ← Hp.out])).drewN q).wide (Nat.le_refl _) (Nat.le_refl _), below_drewN H2.out q⟩

set_option maxHeartbeats 2000000 in
theorem natPlus_sw (a b : Nat) (A A' : Option Addr) (n n' c c' B B' : Nat) (w : World) (hr : Rd w B A (vs (limbs a))) (hr' : Rd w B' A' (vs (limbs b))) (hB : B ≤ w.heap.size) (hB' : B' ≤ w.heap.size) (hn : (limbs a).length = n) (hn' : (limbs b).length = n') (hm : (n : Int) ≤ 100000) (hm' : (n' : Int) ≤ 100000) (hle : n < n') :
    Calls Try.prog 84 #[.slice A n c, .slice A' n' c'] w fun e w' => ∃ A2, e = .returned (.slice A2 (limbs (a + b)).length (limbs (a + b)).length) ∧ Ow w' w.heap.size w'.heap.size A2 (vs (limbs (a + b))) ∧ Below w.heap.size w w' := by
  obtain ⟨i0, hi0, hz0, hz1, hz2⟩ := info_parts infoI
  have hst := store_int Try.prog
  have Hr := Lib.hid (hr.up hB)
  have Hr' := Lib.hid (hr'.up hB')
  have Hn := Lib.hid hn
  have Hn' := Lib.hid hn'
  have Hle := Lib.hid hle
  have hlt0 : (n : Int) < n' := by omega
  have hbytes : i0.bytes * (n' + 1) ≤ 281474976710656 := by rw [hz2]; omega
  clear hr hr' hn hn' hB hB' hle
  go_enter Try.func84, Try.ntmps84
  go_wp2_with (refine wpList_make_full _ rfl _ _ _ rfl w.heap.size 2 i0 _ 1 Try.underlying61 hi0 hz0 hz1 _ _ _ _ (n' + 1) rfl rfl rfl rfl hbytes (by unfold maxLen; omega) (Nat.le_refl _) ?_; intro w1 hown hg)
  obtain ⟨rest0, hrest⟩ : ∃ rest0, rest0 = (madeCells (Value.int .i64 0).cells ((n' + 1) * 1)).toList := ⟨_, rfl⟩
  rw [← hrest] at hown
  have hrl : rest0.length = n' + 1 := by have := hown.1; omega
  have Hrl := Lib.hid hrl
  have Hown := Lib.hid hown
  have Hb1 : Hid (Below w.heap.size w w1) := Lib.hid ((Below.refl _ _).grown hg (Nat.le_refl _) (by simp))
  clear hrest hrl hown hg
  go_loopw [6, 7, 8, 22] (fun cv _ _ i wr => ∃ (k cc : Nat) (ys : List Nat) (rest : List Value), k ≤ n' ∧ i = .int .i64 k ∧ cv = .int .i64 cc ∧ cc ≤ 1 ∧ ys.length = k ∧ rest.length = n' + 1 - k ∧ Lim ys ∧ V ys + Bs ^ k * cc = V ((limbs b).take k) + V ((limbs a).take k) ∧
    wr.ownsRow w.heap.size 2 1 (.slice (some ⟨w.heap.size, 0, none⟩) (n' + 1) (n' + 1)) (n' + 1) (vs ys ++ rest) ∧ Below w.heap.size w wr) (fun _ _ _ i _ => n' - (intOf i).toNat)
  case atStart => exact ⟨0, 0, [], rest0, Nat.zero_le _, rfl, rfl, by omega, rfl, Hrl.out, Lim_nil, by simp [V], Hown.out, Hb1.out⟩
  case round =>
    obtain ⟨k, cc, ys, rest, hk, rfl, rfl, hcc, hyl, hrl, hl, hv, hown, hb⟩ := hrel
    have Hyl := Lib.hid hyl
    have Hrl := Lib.hid hrl
    have Hl := Lib.hid hl
    have Hv := Lib.hid hv
    have Hcc := Lib.hid hcc
    have hcc0 : (0 : Int) ≤ cc := by omega
    have hcc1 : (cc : Int) ≤ 1 := by omega
    have hc2 : ∃ u, wr.cell? ⟨w.heap.size, k, none⟩ = some u := ⟨_, by rw [hown.cellAt k (by omega)]; exact List.getElem?_eq_getElem (by rw [List.length_append, vs_len]; omega)⟩
    obtain ⟨u, hu⟩ := hc2
    have hf2 := hown.frozenAt k
    have Hb := Lib.hid hb
    have Hown := Lib.hid hown
    have hnb : ((k : Int) < n' + 1) := by omega
    clear hyl hrl hl hv hcc hb hown
    by_cases hlt : k < n'
    · have hkx : k < (limbs b).length := by rw [Hn'.out]; exact hlt
      have hra := Hr'.out.below Hb.out
      obtain ⟨p, hp, _⟩ := hra.some_ (by rw [vs_len]; omega)
      subst hp
      have hcx := hra.cell (k := k) (by rw [vs_len]; exact hkx)
      rw [vs_get hkx] at hcx
      have Hva := Lib.hid (V_take_succ hkx)
      have Hxb := Lib.hid ((Lim_limbs b).getElem hkx)
      have hx0 : (0 : Int) ≤ ((limbs b)[k] : Nat) := by omega
      have hx1 : (((limbs b)[k] : Nat) : Int) ≤ 16777215 := by have := Hxb.out; rw [Bs_eq] at this; omega
      clear hra
      by_cases hlt2 : k < n
      · have hky : k < (limbs a).length := by rw [Hn.out]; exact hlt2
        have hrb := Hr.out.below Hb.out
        obtain ⟨p', hp', _⟩ := hrb.some_ (by rw [vs_len]; omega)
        subst hp'
        have hcy := hrb.cell (k := k) (by rw [vs_len]; exact hky)
        rw [vs_get hky] at hcy
        have Hvb := Lib.hid (V_take_succ hky)
        have Hyb := Lib.hid ((Lim_limbs a).getElem hky)
        have hy0 : (0 : Int) ≤ ((limbs a)[k] : Nat) := by omega
        have hy1 : (((limbs a)[k] : Nat) : Int) ≤ 16777215 := by have := Hyb.out; rw [Bs_eq] at this; omega
        clear hrb
        generalize (limbs b)[k] = x at *
        generalize (limbs a)[k] = y at *
        have Hs := Lib.hid (plus_step (t := x + y) Hyl.out Hl.out Hv.out)
        have hand : bits .and .i64 ((cc : Int) + x + y) 16777215 = (((cc + (x + y)) % Bs : Nat) : Int) := by rw [and24_i64, Bs_eq]; omega
        have hshr : ((cc : Int) + x + y) / 16777216 = (((cc + (x + y)) / Bs : Nat) : Int) := by rw [Bs_eq]; omega
        have He : Hid ((cc + (x + y)) / Bs ≤ 1) := Lib.hid (by rw [Bs_eq]; omega)
        obtain ⟨d, hd⟩ : ∃ d, d = (cc + (x + y)) % Bs := ⟨_, rfl⟩
        obtain ⟨e, he⟩ : ∃ e, e = (cc + (x + y)) / Bs := ⟨_, rfl⟩
        rw [← hd] at hand Hs
        rw [← he] at hshr He Hs
        have hst2 := Hown.out.stored k (.int .i64 d)
        rw [fill_set Hyl.out (by have := Hrl.out; omega)] at hst2
        have H1 := Lib.hid hst2
        have hsum1 : (0 : Int) ≤ cc + x + y := by omega
        have hsum2 : (cc : Int) + x + y ≤ 33554431 := by omega
        clear hd he hst2
        go_wp2
        go_roundw
        case rel => exact ⟨k + 1, e, ys ++ [d], rest.drop 1, by omega, by go_num, rfl, He.out, by rw [List.length_append, Hyl.out]; rfl, by rw [List.length_drop, Hrl.out]; omega, Hs.out.1, by rw [Hs.out.2, Hva.out, Hvb.out, Nat.mul_add]; omega, H1.out.1, Hb.out.grown H1.out.2 Hb.out.size (by simp)⟩
        case measure => simp [intOf]; omega
      · have hnl2 : ¬ (k : Int) < n := by omega
        have Hvb : Hid (V ((limbs a).take (k + 1)) = V ((limbs a).take k)) := Lib.hid (by rw [take_all (by have := Hn.out; omega), take_all (by have := Hn.out; omega)])
        generalize (limbs b)[k] = x at *
        have Hs := Lib.hid (plus_step (t := x) Hyl.out Hl.out Hv.out)
        have hand : bits .and .i64 ((cc : Int) + x) 16777215 = (((cc + x) % Bs : Nat) : Int) := by rw [and24_i64, Bs_eq]; omega
        have hshr : ((cc : Int) + x) / 16777216 = (((cc + x) / Bs : Nat) : Int) := by rw [Bs_eq]; omega
        have He : Hid ((cc + x) / Bs ≤ 1) := Lib.hid (by rw [Bs_eq]; omega)
        obtain ⟨d, hd⟩ : ∃ d, d = (cc + x) % Bs := ⟨_, rfl⟩
        obtain ⟨e, he⟩ : ∃ e, e = (cc + x) / Bs := ⟨_, rfl⟩
        rw [← hd] at hand Hs
        rw [← he] at hshr He Hs
        have hst2 := Hown.out.stored k (.int .i64 d)
        rw [fill_set Hyl.out (by have := Hrl.out; omega)] at hst2
        have H1 := Lib.hid hst2
        have hsum1 : (0 : Int) ≤ cc + x := by omega
        have hsum2 : (cc : Int) + x ≤ 33554431 := by omega
        clear hd he hst2
        go_wp2
        go_roundw
        case rel => exact ⟨k + 1, e, ys ++ [d], rest.drop 1, by omega, by go_num, rfl, He.out, by rw [List.length_append, Hyl.out]; rfl, by rw [List.length_drop, Hrl.out]; omega, Hs.out.1, by rw [Hs.out.2, Hva.out, Hvb.out]; omega, H1.out.1, Hb.out.grown H1.out.2 Hb.out.size (by simp)⟩
        case measure => simp [intOf]; omega
    · have hkn : k = n' := by omega
      subst hkn
      have Hfin : Hid (Lim (ys ++ [cc]) ∧ V (ys ++ [cc]) = a + b ∧ (ys ++ [cc]).length = k + 1) := Lib.hid (by
        refine ⟨Hl.out.snoc (by have := Hcc.out; rw [Bs_eq]; omega), ?_, by rw [List.length_append, Hyl.out]; rfl⟩
        have h := Hv.out
        rw [take_all (by have := Hn'.out; omega), take_all (by have := Hn.out; have := Hle.out; omega), V_limbs, V_limbs] at h
        rw [V_snoc, Hyl.out]
        omega)
      have hst2 := Hown.out.stored k (.int .i64 cc)
      rw [fill_set Hyl.out (by have := Hrl.out; omega), List.eq_nil_of_length_eq_zero (l := rest.drop 1) (by rw [List.length_drop]; have := Hrl.out; omega), List.append_nil] at hst2
      have H1 := Lib.hid (Ow.own hst2.1)
      have H2 := Lib.hid (Hb.out.grown hst2.2 Hb.out.size (by simp))
      clear hst2 hlt
      go_wp2_with fail
      obtain ⟨w2, hw2⟩ : ∃ w2, w2 = wr.setCell ⟨w.heap.size, k, none⟩ (.int .i64 cc) := ⟨_, rfl⟩
      rw [← hw2] at H1 H2 ⊢
      clear hw2
      refine (trim_any _ (k + 1) (k + 1) w2.heap.size (ys ++ [cc]) w2 H1.out.rd Hfin.out.2.2 Hfin.out.1 (by omega) (by omega)).mono ?_
      rintro e w3 ⟨rfl, q, rfl⟩
      have Hp : Hid (limbs (a + b) = (ys ++ [cc]).take (limbs (a + b)).length) := Lib.hid (by have h := limbs_prefix Hfin.out.1; rw [Hfin.out.2.1] at h; exact h)
      rw [Hfin.out.2.1]
      go_wp2_with fail
      go_ret
      exact ⟨_, rfl, (((H1.out.take (limbs (a + b)).length).eq_ (by rw [← vs_take, ← Hp.out])).drewN q).wide (Nat.le_refl _) (Nat.le_refl _), below_drewN H2.out q⟩

theorem natPlus_any (a b : Nat) (A A' : Option Addr) (n n' c c' B B' : Nat) (w : World) (hr : Rd w B A (vs (limbs a))) (hr' : Rd w B' A' (vs (limbs b))) (hB : B ≤ w.heap.size) (hB' : B' ≤ w.heap.size) (hn : (limbs a).length = n) (hn' : (limbs b).length = n') (hm : (n : Int) ≤ 100000) (hm' : (n' : Int) ≤ 100000) :
    Calls Try.prog 84 #[.slice A n c, .slice A' n' c'] w fun e w' => ∃ A2, e = .returned (.slice A2 (limbs (a + b)).length (limbs (a + b)).length) ∧ Ow w' w.heap.size w'.heap.size A2 (vs (limbs (a + b))) ∧ Below w.heap.size w w' := by
  by_cases h : n < n'
  · exact natPlus_sw a b A A' n n' c c' B B' w hr hr' hB hB' hn hn' hm hm' h
  · exact natPlus_or a b A A' n n' c c' B B' w hr hr' hB hB' hn hn' hm hm' (by omega)
end Go.Proofs.Ytnnoobdcdfcdaaa
