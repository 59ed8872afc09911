/- Differences of limbs, of the program. -/
import Derived.Test.YtnnoobdcdfcdaaaPl
namespace Go.Proofs.Ytnnoobdcdfcdaaa
set_option maxRecDepth 100000
open Go.RowKit
set_option linter.unusedSimpArgs false
set_option linter.unusedVariables false

theorem minus_step {ys : List Nat} {k : Nat} {c t T : Int} (hy : ys.length = k) (hl : Lim ys) (hv : (V ys : Int) + (Bs : Int) ^ k * c = T) : Lim (ys ++ [((c + t) % Bs).toNat]) ∧ (V (ys ++ [((c + t) % Bs).toNat]) : Int) + (Bs : Int) ^ (k + 1) * ((c + t) / Bs) = T + (Bs : Int) ^ k * t := by
  subst hy
  have h0 : 0 ≤ (c + t) % (Bs : Int) := Int.emod_nonneg _ (by rw [Bs_eq]; decide)
  have h1 : (c + t) % (Bs : Int) < Bs := Int.emod_lt_of_pos _ (by rw [Bs_eq]; decide)
  refine ⟨hl.snoc (by omega), ?_⟩
  rw [V_snoc]
  have h2 := carry_stepI (x := t) ys.length hv
  rw [← h2]
  simp only [Int.natCast_add, Int.natCast_mul, Int.natCast_pow, Int.toNat_of_nonneg h0]

theorem carry_none {v n : Nat} {c T : Int} (h : (v : Int) + (Bs : Int) ^ n * c = T) (hv : v < Bs ^ n) (hT : 0 ≤ T) (hc : c ≤ 0) : (v : Int) = T := by
  have hp : (0 : Int) < (Bs : Int) ^ n := by have := Bs_pow_pos n; exact_mod_cast this
  have hv2 : (v : Int) < (Bs : Int) ^ n := by exact_mod_cast hv
  rcases Int.lt_or_le c 0 with h1 | h1
  · exfalso
    have h2 : (Bs : Int) ^ n * c ≤ (Bs : Int) ^ n * (-1) := Int.mul_le_mul_of_nonneg_left (by omega) (by omega)
    omega
  · have : c = 0 := by omega
    subst this
    simpa using h

set_option maxHeartbeats 2000000 in
theorem natMinus_any (a b : Nat) (A A' : Option Addr) (n n' c c' B B' : Nat) (w : World) (hr : Rd w B A (vs (limbs a))) (hr' : Rd w B' A' (vs (limbs b))) (hB : B ≤ w.heap.size) (hB' : B' ≤ w.heap.size) (hn : (limbs a).length = n) (hn' : (limbs b).length = n') (hm : (n : Int) ≤ 100000) (hm' : (n' : Int) ≤ 100000) (hab : b ≤ a) :
    Calls Try.prog 87 #[.slice A n c, .slice A' n' c'] w fun e w' => ∃ A2, e = .returned (.slice A2 (limbs (a - b)).length (limbs (a - b)).length) ∧ Ow w' w.heap.size w'.heap.size A2 (vs (limbs (a - b))) ∧ Below w.heap.size w w' := by
  obtain ⟨i0, hi0, hz0, hz1, hz2⟩ := info_parts infoI
  have hst := store_int Try.prog
  have Hr := Lib.hid (hr.up hB)
  have Hr' := Lib.hid (hr'.up hB')
  have Hn := Lib.hid hn
  have Hn' := Lib.hid hn'
  have Hab := Lib.hid hab
  have Hle : Hid (n' ≤ n) := Lib.hid (by
    rcases Nat.lt_or_ge n n' with h | h
    · have := lt_of_len (a := a) (b := b) (by omega); omega
    · exact h)
  have hbytes : i0.bytes * n ≤ 281474976710656 := by rw [hz2]; omega
  clear hr hr' hn hn' hB hB' hab
  go_enter Try.func87, Try.ntmps87
  go_wp2_with (refine wpList_make_full _ rfl _ _ _ rfl w.heap.size 2 i0 _ 1 Try.underlying61 hi0 hz0 hz1 _ _ _ _ n rfl rfl rfl rfl hbytes (by unfold maxLen; omega) (Nat.le_refl _) ?_; intro w1 hown hg)
  obtain ⟨rest0, hrest⟩ : ∃ rest0, rest0 = (madeCells (Value.int .i64 0).cells (n * 1)).toList := ⟨_, rfl⟩
  rw [← hrest] at hown
  have hrl : rest0.length = n := by have := hown.1; omega
  have Hrl := Lib.hid hrl
  have Hown := Lib.hid hown
  have Hb1 : Hid (Below w.heap.size w w1) := Lib.hid ((Below.refl _ _).grown hg (Nat.le_refl _) (by simp))
  clear hrest hrl hown hg
  go_loopw [6, 7, 8, 14] (fun cv _ _ i wr => ∃ (k : Nat) (cc : Int) (ys : List Nat) (rest : List Value), k ≤ n ∧ i = .int .i64 k ∧ cv = .int .i64 cc ∧ (-1 ≤ cc ∧ cc ≤ 0) ∧ ys.length = k ∧ rest.length = n - k ∧ Lim ys ∧ (V ys : Int) + (Bs : Int) ^ k * cc = V ((limbs a).take k) - V ((limbs b).take k) ∧
    wr.ownsRow w.heap.size 2 1 (.slice (some ⟨w.heap.size, 0, none⟩) n n) n (vs ys ++ rest) ∧ Below w.heap.size w wr) (fun _ _ _ i _ => n - (intOf i).toNat)
  case atStart => exact ⟨0, 0, [], rest0, Nat.zero_le _, rfl, rfl, by omega, rfl, Hrl.out, Lim_nil, by simp [V], Hown.out, Hb1.out⟩
  case round =>
    obtain ⟨k, cc, ys, rest, hk, rfl, rfl, hcc, hyl, hrl, hl, hv, hown, hb⟩ := hrel
    have Hyl := Lib.hid hyl
    have Hrl := Lib.hid hrl
    have Hl := Lib.hid hl
    have Hv := Lib.hid hv
    have Hcc := Lib.hid hcc
    obtain ⟨hcc0, hcc1⟩ := hcc
    have Hb := Lib.hid hb
    have Hown := Lib.hid hown
    clear hyl hrl hl hv hb hown
    by_cases hlt : k < n
    · have hown := Hown.out
      have hc2 : ∃ u, wr.cell? ⟨w.heap.size, k, none⟩ = some u := ⟨_, by rw [hown.cellAt k (by omega)]; exact List.getElem?_eq_getElem (by rw [List.length_append, vs_len]; have := Hyl.out; have := Hrl.out; omega)⟩
      obtain ⟨u, hu⟩ := hc2
      have hf2 := hown.frozenAt k
      clear hown
      have hkx : k < (limbs a).length := by rw [Hn.out]; exact hlt
      have hra := Hr.out.below Hb.out
      obtain ⟨p, hp, _⟩ := hra.some_ (by rw [vs_len]; omega)
      subst hp
      have hcx := hra.cell (k := k) (by rw [vs_len]; exact hkx)
      rw [vs_get hkx] at hcx
      have Hva := Lib.hid (V_take_succ hkx)
      have Hxb := Lib.hid ((Lim_limbs a).getElem hkx)
      have hx0 : (0 : Int) ≤ ((limbs a)[k] : Nat) := by omega
      have hx1 : (((limbs a)[k] : Nat) : Int) ≤ 16777215 := by have := Hxb.out; rw [Bs_eq] at this; omega
      clear hra
      by_cases hlt2 : k < n'
      · have hky : k < (limbs b).length := by rw [Hn'.out]; exact hlt2
        have hrb := Hr'.out.below Hb.out
        obtain ⟨p', hp', _⟩ := hrb.some_ (by rw [vs_len]; omega)
        subst hp'
        have hcy := hrb.cell (k := k) (by rw [vs_len]; exact hky)
        rw [vs_get hky] at hcy
        have Hvb := Lib.hid (V_take_succ hky)
        have Hyb := Lib.hid ((Lim_limbs b).getElem hky)
        have hy0 : (0 : Int) ≤ ((limbs b)[k] : Nat) := by omega
        have hy1 : (((limbs b)[k] : Nat) : Int) ≤ 16777215 := by have := Hyb.out; rw [Bs_eq] at this; omega
        clear hrb
        generalize (limbs a)[k] = x at *
        generalize (limbs b)[k] = y at *
        have Hs := Lib.hid (minus_step (t := ((x : Int) - y)) Hyl.out Hl.out Hv.out)
        have hand : bits .and .i64 ((cc : Int) + x - y) 16777215 = ((((cc + ((x : Int) - y)) % Bs).toNat : Nat) : Int) := by rw [and24_i64, Bs_eq]; omega
        have hshr : ((cc : Int) + x - y) / 16777216 = (cc + ((x : Int) - y)) / Bs := by rw [Bs_eq, show cc + ((x : Int) - y) = (cc : Int) + x - y by omega]; rfl
        have He : Hid (-1 ≤ (cc + ((x : Int) - y)) / Bs ∧ (cc + ((x : Int) - y)) / Bs ≤ 0) := Lib.hid (by rw [Bs_eq]; omega)
        obtain ⟨d, hd⟩ : ∃ d, d = ((cc + ((x : Int) - y)) % Bs).toNat := ⟨_, rfl⟩
        obtain ⟨e, he⟩ : ∃ e, e = (cc + ((x : Int) - y)) / Bs := ⟨_, rfl⟩
        rw [← hd] at hand Hs
        rw [← he] at hshr He Hs
        have hst2 := Hown.out.stored k (.int .i64 d)
        rw [fill_set Hyl.out (by have := Hrl.out; omega)] at hst2
        have H1 := Lib.hid hst2
        have hsum1 : -16777216 ≤ (cc : Int) + x - y := by omega
        have hsum2 : (cc : Int) + x - y ≤ 16777215 := by omega
        clear hd he hst2
        go_wp2
        go_roundw
        case rel => exact ⟨k + 1, e, ys ++ [d], rest.drop 1, by omega, by go_num, rfl, He.out, by rw [List.length_append, Hyl.out]; rfl, by rw [List.length_drop, Hrl.out]; omega, Hs.out.1, by rw [Hs.out.2, Hva.out, Hvb.out]; rw [Int.mul_sub]; simp only [Int.natCast_add, Int.natCast_mul, Int.natCast_pow]; omega, H1.out.1, Hb.out.grown H1.out.2 Hb.out.size (by simp)⟩
        case measure => simp [intOf]; omega
      · have hnl2 : ¬ (k : Int) < n' := by omega
        have Hvb : Hid (V ((limbs b).take (k + 1)) = V ((limbs b).take k)) := Lib.hid (by rw [take_all (by have := Hn'.out; omega), take_all (by have := Hn'.out; omega)])
        generalize (limbs a)[k] = x at *
        have Hs := Lib.hid (minus_step (t := (x : Int)) Hyl.out Hl.out Hv.out)
        have hand : bits .and .i64 ((cc : Int) + x) 16777215 = ((((cc + (x : Int)) % Bs).toNat : Nat) : Int) := by rw [and24_i64, Bs_eq]; omega
        have hshr : ((cc : Int) + x) / 16777216 = (cc + (x : Int)) / Bs := by rw [Bs_eq, show cc + (x : Int) = (cc : Int) + x by omega]; rfl
        have He : Hid (-1 ≤ (cc + (x : Int)) / Bs ∧ (cc + (x : Int)) / Bs ≤ 0) := Lib.hid (by rw [Bs_eq]; omega)
        obtain ⟨d, hd⟩ : ∃ d, d = ((cc + (x : Int)) % Bs).toNat := ⟨_, rfl⟩
        obtain ⟨e, he⟩ : ∃ e, e = (cc + (x : Int)) / Bs := ⟨_, rfl⟩
        rw [← hd] at hand Hs
        rw [← he] at hshr He Hs
        have hst2 := Hown.out.stored k (.int .i64 d)
        rw [fill_set Hyl.out (by have := Hrl.out; omega)] at hst2
        have H1 := Lib.hid hst2
        have hsum1 : -16777216 ≤ (cc : Int) + x := by omega
        have hsum2 : (cc : Int) + x ≤ 16777215 := by omega
        clear hd he hst2
        go_wp2
        go_roundw
        case rel => exact ⟨k + 1, e, ys ++ [d], rest.drop 1, by omega, by go_num, rfl, He.out, by rw [List.length_append, Hyl.out]; rfl, by rw [List.length_drop, Hrl.out]; omega, Hs.out.1, by rw [Hs.out.2, Hva.out, Hvb.out]; simp only [Int.natCast_add, Int.natCast_mul, Int.natCast_pow]; omega, H1.out.1, Hb.out.grown H1.out.2 Hb.out.size (by simp)⟩
        case measure => simp [intOf]; omega
    · have hkn : k = n := by omega
      subst hkn
      have Hfin : Hid (V ys = a - b ∧ ys.length = k ∧ rest = []) := Lib.hid (by
        have h := Hv.out
        rw [take_all (by have := Hn.out; omega), take_all (by have := Hn'.out; have := Hle.out; omega), V_limbs, V_limbs] at h
        have h2 := V_lt Hl.out
        rw [Hyl.out] at h2
        have h3 := carry_none h h2 (by have := Hab.out; omega) hcc1
        exact ⟨by have := Hab.out; omega, Hyl.out, List.eq_nil_of_length_eq_zero (by rw [Hrl.out]; omega)⟩)
      have hown := Hown.out
      rw [Hfin.out.2.2, List.append_nil] at hown
      have H1 := Lib.hid (Ow.own hown)
      clear hlt hown
      go_wp2_with fail
      refine (trim_any _ k k wr.heap.size ys wr H1.out.rd Hfin.out.2.1 Hl.out (by omega) (by omega)).mono ?_
      rintro e w3 ⟨rfl, q, rfl⟩
      have Hp : Hid (limbs (a - b) = ys.take (limbs (a - b)).length) := Lib.hid (by have h := limbs_prefix Hl.out; rw [Hfin.out.1] at h; exact h)
      rw [Hfin.out.1]
      go_wp2_with fail
      go_ret
      exact ⟨_, rfl, (((H1.out.take (limbs (a - b)).length).eq_ (by rw [← vs_take, ← Hp.out])).drewN q).wide (Nat.le_refl _) (Nat.le_refl _), below_drewN Hb.out q⟩
end Go.Proofs.Ytnnoobdcdfcdaaa
