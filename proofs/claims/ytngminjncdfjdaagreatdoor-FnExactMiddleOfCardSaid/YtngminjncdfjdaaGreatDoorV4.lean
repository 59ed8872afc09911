/- Texts of this seat, joined: Ti Mu Mv Ds Sh Sd Dy Ha Hb Hd He To Tk Tw Db Dc Dd De Df -/
import Derived.Test.YtngminjncdfjdaaGreatDoorY4
import Derived.Test.YtngminjncdfjdaaGreatDoorY3
import Derived.IntWalk
import Derived.Test.YtngminjncdfjdaaGreatDoorY1
import Derived.Shelf.Spec.TrailingZeros
import Derived.Lib.SliceRun
import Derived.Laws.CopyOwn
/- Products of limbs, of the program. -/
namespace Go.Proofs.YtngminjncdfjdaaGreatDoor
set_option maxRecDepth 100000
open Go.RowKit
set_option linter.unusedSimpArgs false
set_option linter.unusedVariables false

theorem mul_le_Mx {x y : Nat} (hx : x < Bs) (hy : y < Bs) : x * y ≤ Mx := by
  rw [Bs_eq] at *
  exact Nat.mul_le_mul (show x ≤ 16777215 by omega) (show y ≤ 16777215 by omega)
theorem V_set_add {ys : List Nat} {k d : Nat} (hk : k < ys.length) : V (ys.set k (ys[k] + d)) = V ys + Bs ^ k * d := by
  rw [V_take_drop (ys.set k (ys[k] + d)) (k + 1) (by rw [List.length_set]; omega), V_set_take hk, List.drop_set_of_lt (by omega), V_take_drop ys (k + 1) (by omega), V_take_succ hk, Nat.mul_add]
  omega
theorem mul_step (i j x P y : Nat) : Bs ^ i * (x * (P + Bs ^ j * y)) = Bs ^ i * (x * P) + Bs ^ (i + j) * (x * y) := by
  rw [Nat.mul_add, Nat.mul_add, Nat.pow_add, Nat.mul_left_comm x, Nat.mul_assoc]
theorem row_step (P i x b : Nat) : P * b + Bs ^ i * (x * b) = (P + Bs ^ i * x) * b := by rw [Nat.add_mul, Nat.mul_assoc]
theorem carry_gone {v c n T : Nat} (h : v + Bs ^ n * c = T) (hT : T < Bs ^ n) : v = T ∧ c = 0 := by
  rcases Nat.eq_zero_or_pos c with h0 | h0
  · subst h0; exact ⟨by simpa using h, rfl⟩
  · exfalso
    have := Nat.mul_le_mul_left (Bs ^ n) h0
    omega
theorem prod_lt {a b n n' : Nat} (hn : (limbs a).length = n) (hn' : (limbs b).length = n') : a * b < Bs ^ (n + n') := by
  have h1 := (limbs_len_le (v := a) (n := n)).1 (by omega)
  have h2 := (limbs_len_le (v := b) (n := n')).1 (by omega)
  rw [Nat.pow_add]
  exact Nat.mul_lt_mul'' h1 h2
theorem prod_carry {ys : List Nat} {k c d e T : Nat} (hk : k < ys.length) (hl : Lim (ys.take k)) (hv : V (ys.take k) + Bs ^ k * c + Bs ^ k * V (ys.drop k) = T) (hd : d = (c + ys[k]) % Bs) (he : e = (c + ys[k]) / Bs) :
    Lim ((ys.set k d).take (k + 1)) ∧ V ((ys.set k d).take (k + 1)) + Bs ^ (k + 1) * e + Bs ^ (k + 1) * V ((ys.set k d).drop (k + 1)) = T := by
  have h1 := V_drop hk
  have h2 : d < Bs := by rw [hd]; exact Nat.mod_lt _ (by rw [Bs_eq]; omega)
  refine ⟨?_, ?_⟩
  · rw [List.take_succ_eq_append_getElem (by rw [List.length_set]; exact hk), List.getElem_set_self, List.take_set_of_le (Nat.le_refl k)]
    exact hl.append (Lim_one h2)
  · rw [V_set_take hk, List.drop_set_of_lt (by omega)]
    have h3 := carry_step (P := V (ys.take k)) (T := V (ys.take k) + Bs ^ k * c) (x := ys[k]) k rfl
    rw [← hd, ← he] at h3
    rw [h1, Nat.mul_add, ← Nat.mul_assoc, ← Nat.pow_succ, Nat.succ_eq_add_one] at hv
    omega

set_option maxHeartbeats 4000000 in
theorem natTimes_any (a b : Nat) (A A' : Option Addr) (n n' c c' B B' : Nat) (w : World) (hr : Rd w B A (vs (limbs a))) (hr' : Rd w B' A' (vs (limbs b))) (hB : B ≤ w.heap.size) (hB' : B' ≤ w.heap.size) (hn : (limbs a).length = n) (hn' : (limbs b).length = n') (hm : (n : Int) ≤ 1000) (hm' : (n' : Int) ≤ 1000) :
    Calls Tryz.prog 132 #[.slice A n c, .slice A' n' c'] w fun e w' => ∃ A2, e = .returned (.slice A2 (limbs (a * b)).length (limbs (a * b)).length) ∧ Ow w' w.heap.size w'.heap.size A2 (vs (limbs (a * b))) ∧ Below w.heap.size w w' := by
  obtain ⟨i0, hi0, hz0, hz1, hz2⟩ := info_parts infoI
  have hst := store_int Tryz.prog
  have Hr := Lib.hid (hr.up hB)
  have Hr' := Lib.hid (hr'.up hB')
  have Hn := Lib.hid hn
  have Hn' := Lib.hid hn'
  obtain ⟨L, hL⟩ : ∃ L, L = n + n' := ⟨_, rfl⟩
  have HL := Lib.hid hL
  have hLi : (n : Int) + n' = L := by omega
  have hLb : (L : Int) ≤ 2000 := by omega
  have hbytes : i0.bytes * L ≤ 281474976710656 := by rw [hz2]; omega
  clear hr hr' hn hn' hB hB' hL
  go_enter Tryz.func132, Tryz.ntmps132
  go_wp2_with (refine wpList_make_full _ rfl _ _ _ rfl w.heap.size 2 i0 _ 1 Tryz.underlying118 hi0 hz0 hz1 _ _ _ _ L rfl rfl rfl rfl hbytes (by unfold maxLen; omega) (Nat.le_refl _) ?_; intro w1 hown hg)
  rw [made_zeros] at hown
  have Hown := Lib.hid hown
  have Hb1 : Hid (Below w.heap.size w w1) := Lib.hid ((Below.refl _ _).grown hg (Nat.le_refl _) (by simp))
  clear hown hg hbytes
  go_loopw [22] (fun iv wr => ∃ (i : Nat) (ys : List Nat), i ≤ n ∧ iv = .int .i64 i ∧ ys.length = L ∧ V ys = V ((limbs a).take i) * b ∧ (∀ p (h : p < ys.length), ys[p] ≤ i * Mx) ∧ wr.ownsRow w.heap.size 2 1 (.slice (some ⟨w.heap.size, 0, none⟩) L L) L (vs ys) ∧ Below w.heap.size w wr) (fun iv _ => n - (intOf iv).toNat)
  case atStart => exact ⟨0, List.replicate L 0, Nat.zero_le _, rfl, List.length_replicate, by rw [V_replicate]; simp [V], fun p h => by simp, Hown.out, Hb1.out⟩
  case round =>
    clear Hown Hb1
    obtain ⟨i, ys, hi, rfl, hyl, hv, hbd, hown, hb⟩ := hrel
    have Hyl := Lib.hid hyl
    have Hv := Lib.hid hv
    have Hbd := Lib.hid hbd
    have Hown := Lib.hid hown
    have Hb := Lib.hid hb
    clear hyl hv hbd hown hb
    by_cases hlt : i < n
    · have hkx : i < (limbs a).length := by rw [Hn.out]; exact hlt
      have hra := Hr.out.below Hb.out
      obtain ⟨p, hp, _⟩ := hra.some_ (by rw [vs_len]; omega)
      subst hp
      have hcx := hra.cell (k := i) (by rw [vs_len]; exact hkx)
      rw [vs_get hkx] at hcx
      have Hva := Lib.hid (V_take_succ hkx)
      have Hxb := Lib.hid ((Lim_limbs a).getElem hkx)
      have hx0 : (0 : Int) ≤ ((limbs a)[i] : Nat) := by omega
      have hx1 : (((limbs a)[i] : Nat) : Int) ≤ 16777215 := by have := Hxb.out; rw [Bs_eq] at this; omega
      have hiL : (i : Int) < L := by have := HL.out; omega
      have hin : (i : Int) < n := by omega
      have hLne : ¬ L = i := by omega
      clear hra
      generalize (limbs a)[i] = x at *
      go_wp2
      go_loopw [32] (fun jv wq => ∃ (j : Nat) (zs : List Nat), j ≤ n' ∧ jv = .int .i64 j ∧ zs.length = L ∧ V zs = V ((limbs a).take i) * b + Bs ^ i * (x * V ((limbs b).take j)) ∧ (∀ p (h : p < zs.length), zs[p] ≤ (i + 1) * Mx) ∧ (∀ p (h : p < zs.length), i + j ≤ p → zs[p] ≤ i * Mx) ∧ wq.ownsRow w.heap.size 2 1 (.slice (some ⟨w.heap.size, 0, none⟩) L L) L (vs zs) ∧ Below w.heap.size w wq) (fun jv _ => n' - (intOf jv).toNat)
      case atStart => exact ⟨0, ys, Nat.zero_le _, rfl, Hyl.out, by rw [Hv.out]; simp [V], fun p h => by have := Hbd.out p h; rw [Nat.add_mul]; omega, fun p h _ => Hbd.out p h, Hown.out, Hb.out⟩
      case round =>
        clear Hown Hb Hyl Hv Hbd
        obtain ⟨j, zs, hj, rfl, hzl, hzv, hz1b, hz2b, hown, hb⟩ := hrel
        have Hzl := Lib.hid hzl
        have Hzv := Lib.hid hzv
        have Hz1 := Lib.hid hz1b
        have Hz2 := Lib.hid hz2b
        have Hown := Lib.hid hown
        have Hb := Lib.hid hb
        clear hzl hzv hz1b hz2b hown hb
        by_cases hlt2 : j < n'
        · have hky : j < (limbs b).length := by rw [Hn'.out]; exact hlt2
          have hrb := Hr'.out.below Hb.out
          obtain ⟨p', hp', _⟩ := hrb.some_ (by rw [vs_len]; omega)
          subst hp'
          have hcy := hrb.cell (k := j) (by rw [vs_len]; exact hky)
          rw [vs_get hky] at hcy
          have Hvb := Lib.hid (V_take_succ hky)
          have Hyb := Lib.hid ((Lim_limbs b).getElem hky)
          have hkz : i + j < zs.length := by rw [Hzl.out, HL.out]; omega
          have hcz := Hown.out.cellAt (i + j) (by rw [← Hzl.out]; omega)
          rw [List.getElem?_eq_getElem (by rw [vs_len]; exact hkz), vs_get hkz] at hcz
          have hfz := Hown.out.frozenAt (i + j)
          have Hzu := Lib.hid (Hz2.out (i + j) hkz (Nat.le_refl _))
          have Hset := Lib.hid (V_set_add (d := x * (limbs b)[j]) hkz)
          have hst2 := Hown.out.stored (i + j) (.int .i64 ((zs[i + j] + x * (limbs b)[j] : Nat) : Int))
          rw [vs_set] at hst2
          have H1 := Lib.hid hst2
          have Hnew : Hid ((∀ p (h : p < (zs.set (i + j) (zs[i + j] + x * (limbs b)[j])).length), (zs.set (i + j) (zs[i + j] + x * (limbs b)[j]))[p] ≤ (i + 1) * Mx) ∧ (∀ p (h : p < (zs.set (i + j) (zs[i + j] + x * (limbs b)[j])).length), i + (j + 1) ≤ p → (zs.set (i + j) (zs[i + j] + x * (limbs b)[j]))[p] ≤ i * Mx)) := Lib.hid (by
            have hm := mul_le_Mx Hxb.out Hyb.out
            refine ⟨fun p h => ?_, fun p h h2 => ?_⟩
            · rw [List.getElem_set]
              split
              · have := Hzu.out; rw [Nat.add_mul]; omega
              · exact Hz1.out p (by rwa [List.length_set] at h)
            · rw [List.getElem_set, if_neg (by omega)]
              exact Hz2.out p (by rwa [List.length_set] at h) (by omega))
          obtain ⟨q, hq⟩ : ∃ q, q = x * (limbs b)[j] := ⟨_, rfl⟩
          have hxy : (x : Int) * ((limbs b)[j] : Nat) = (q : Int) := by rw [hq, Int.natCast_mul]
          have hq0 : (0 : Int) ≤ q := by omega
          have hq1 : (q : Int) ≤ 281474943156225 := by have := mul_le_Mx Hxb.out Hyb.out; rw [← hq] at this; unfold Mx at this; omega
          have hu0 : (0 : Int) ≤ (zs[i + j] : Nat) := by omega
          have hu1 : ((zs[i + j] : Nat) : Int) ≤ 281474943156225000 := by
            have h1 := Hzu.out
            have h2 : i * Mx ≤ 1000 * Mx := Nat.mul_le_mul_right _ (by omega)
            unfold Mx at h1 h2
            omega
          rw [← hq] at Hset H1 Hnew
          have Hq := Lib.hid hq
          have hjL : (j : Int) < (L : Int) - i := by have := HL.out; omega
          have hadd : (((zs[i + j] + q : Nat)) : Int) = (zs[i + j] : Nat) + (q : Int) := by omega
          rw [hadd] at H1
          have Hadd := Lib.hid hadd
          clear hrb hst2 hq hadd
          generalize (limbs b)[j] = y at *
          have Hzs : Hid (zs.set (i + j) (zs[i + j] + q) = zs.set (i + j) (zs[i + j] + q)) := Lib.hid rfl
          generalize zs[i + j] = u at *
          go_wp2
          go_roundw
          case rel => exact ⟨j + 1, zs.set (i + j) (u + q), by omega, by go_num, by rw [List.length_set]; exact Hzl.out, by rw [Hset.out, Hzv.out, Hvb.out, mul_step, Hq.out]; omega, Hnew.out.1, Hnew.out.2, by first | exact H1.out.1 | (have h := H1.out.1; simpa using h), Hb.out.grown H1.out.2 Hb.out.size (by simp)⟩
          case measure => simp [intOf]; omega
        · have hjn : j = n' := by omega
          have Hfin : Hid (V zs = V ((limbs a).take (i + 1)) * b) := Lib.hid (by
            have h := Hzv.out
            have e : (limbs b).take n' = limbs b := take_all (by have := Hn'.out; omega)
            rw [hjn, e, V_limbs] at h
            rw [h, Hva.out, row_step])
          have hnl : ¬ (j : Int) < n' := by omega
          go_wp2
          go_roundw
          case rel => exact ⟨i + 1, zs, by omega, by go_num, Hzl.out, Hfin.out, Hz1.out, Hown.out, Hb.out⟩
          case measure => simp [intOf]; omega
    · have hin : i = n := by omega
      have Hfin : Hid (V ys = a * b) := Lib.hid (by
        have h := Hv.out
        rw [hin, take_all (by have := Hn.out; omega), V_limbs] at h
        exact h)
      have Hbd2 : Hid (∀ p (h : p < ys.length), ys[p] ≤ 1000 * Mx) := Lib.hid (fun p h => Nat.le_trans (Hbd.out p h) (Nat.mul_le_mul_right _ (by omega)))
      have hnl : ¬ (i : Int) < n := by omega
      go_wp2_with fail
      go_loopw [11, 50] (fun cv kv wq => ∃ (k c : Nat) (zs : List Nat), k ≤ L ∧ kv = .int .i64 k ∧ cv = .int .i64 c ∧ (c : Int) ≤ 34359738368 ∧ zs.length = L ∧ Lim (zs.take k) ∧ V (zs.take k) + Bs ^ k * c + Bs ^ k * V (zs.drop k) = a * b ∧ (∀ p (h : p < zs.length), k ≤ p → zs[p] ≤ 1000 * Mx) ∧ wq.ownsRow w.heap.size 2 1 (.slice (some ⟨w.heap.size, 0, none⟩) L L) L (vs zs) ∧ Below w.heap.size w wq) (fun _ kv _ => L - (intOf kv).toNat)
      case atStart => exact ⟨0, 0, ys, Nat.zero_le _, rfl, rfl, by simp, Hyl.out, by intro x hx; simp at hx, by simp [V]; exact Hfin.out, fun p h _ => Hbd2.out p h, Hown.out, Hb.out⟩
      case round =>
        clear Hown Hb Hyl Hv Hbd Hfin Hbd2
        obtain ⟨k, c2, zs, hk, rfl, rfl, hc2, hzl, hzt, hzv, hzb, hown, hb⟩ := hrel
        have Hzl := Lib.hid hzl
        have Hzt := Lib.hid hzt
        have Hzv := Lib.hid hzv
        have Hzb := Lib.hid hzb
        have Hown := Lib.hid hown
        have Hb := Lib.hid hb
        have hc0 : (0 : Int) ≤ c2 := by omega
        clear hzl hzt hzv hzb hown hb
        by_cases hlt2 : k < L
        · have hkz : k < zs.length := by rw [Hzl.out]; exact hlt2
          have hcz := Hown.out.cellAt k (by omega)
          rw [List.getElem?_eq_getElem (by rw [vs_len]; exact hkz), vs_get hkz] at hcz
          have hfz := Hown.out.frozenAt k
          have Hub := Lib.hid (Hzb.out k hkz (Nat.le_refl _))
          have hu0 : (0 : Int) ≤ (zs[k] : Nat) := by omega
          have hu1 : ((zs[k] : Nat) : Int) ≤ 281474943156225000 := by have h1 := Hub.out; unfold Mx at h1; omega
          have hand : bits .and .i64 ((c2 : Int) + (zs[k] : Nat)) 16777215 = (((c2 + zs[k]) % Bs : Nat) : Int) := by rw [and24_i64, Bs_eq]; omega
          have hshr : ((c2 : Int) + (zs[k] : Nat)) / 16777216 = (((c2 + zs[k]) / Bs : Nat) : Int) := by rw [Bs_eq]; omega
          have He : Hid ((((c2 + zs[k]) / Bs : Nat) : Int) ≤ 34359738368) := Lib.hid (by rw [Bs_eq]; omega)
          obtain ⟨d, hd⟩ : ∃ d, d = (c2 + zs[k]) % Bs := ⟨_, rfl⟩
          obtain ⟨e, he⟩ : ∃ e, e = (c2 + zs[k]) / Bs := ⟨_, rfl⟩
          have Hs := Lib.hid (prod_carry hkz Hzt.out Hzv.out hd he)
          rw [← hd] at hand
          rw [← he] at hshr He
          have hst2 := Hown.out.stored k (.int .i64 d)
          rw [vs_set] at hst2
          have H1 := Lib.hid hst2
          have Hnew : Hid (∀ p (h : p < (zs.set k d).length), k + 1 ≤ p → (zs.set k d)[p] ≤ 1000 * Mx) := Lib.hid (fun p h h2 => by
            rw [List.getElem_set, if_neg (by omega)]
            exact Hzb.out p (by rwa [List.length_set] at h) (by omega))
          clear hd he hst2
          generalize zs[k] = u at *
          go_wp2
          go_roundw
          case rel => exact ⟨k + 1, e, zs.set k d, by omega, by go_num, rfl, He.out, by rw [List.length_set]; exact Hzl.out, Hs.out.1, Hs.out.2, Hnew.out, H1.out.1, Hb.out.grown H1.out.2 Hb.out.size (by simp)⟩
          case measure => simp [intOf]; omega
        · have hkL : k = L := by omega
          have Hfin : Hid (V zs = a * b ∧ Lim zs) := Lib.hid (by
            have h := Hzv.out
            have h2 := Hzt.out
            rw [take_all (by have := Hzl.out; omega)] at h h2
            rw [List.drop_of_length_le (by have := Hzl.out; omega)] at h
            have hp := prod_lt Hn.out Hn'.out
            rw [← HL.out, ← hkL] at hp
            have := carry_gone (v := V zs) (c := c2) (n := k) (by simpa [V] using h) hp
            exact ⟨this.1, h2⟩)
          have H1 := Lib.hid (Ow.own Hown.out)
          have hnl2 : ¬ (k : Int) < L := by omega
          go_wp2_with fail
          refine (trim_any _ L L wr.heap.size zs wr H1.out.rd Hzl.out Hfin.out.2 (by omega) (by omega)).mono ?_
          rintro e w3 ⟨rfl, q, rfl⟩
          have Hp : Hid (limbs (a * b) = zs.take (limbs (a * b)).length) := Lib.hid (by have h := limbs_prefix Hfin.out.2; rw [Hfin.out.1] at h; exact h)
          rw [Hfin.out.1]
          go_wp2_with fail
          go_ret
          exact ⟨_, rfl, (((H1.out.take (limbs (a * b)).length).eq_ (by rw [← vs_take, ← Hp.out])).drewN q).wide (Nat.le_refl _) (Nat.le_refl _), below_drewN Hb.out q⟩
end Go.Proofs.YtngminjncdfjdaaGreatDoor
/- Products of whole numbers, of the program and of the model. -/
namespace Go.Proofs.YtngminjncdfjdaaGreatDoor
set_option maxRecDepth 100000
open Go.RowKit
set_option linter.unusedSimpArgs false
set_option linter.unusedVariables false

theorem sign_prod {s s' : Int} {a b : Nat} (h : Sg s a) (h' : Sg s' b) : (s * s' = 1 ∨ s * s' = -1 ∨ a * b = 0) ∧ (-1 ≤ s * s' ∧ s * s' ≤ 1) ∧ s * s' * ((a * b : Nat) : Int) = s * a * (s' * b) := by
  obtain ⟨h1, h2, h3⟩ := h
  obtain ⟨g1, g2, g3⟩ := h'
  refine ⟨?_, ?_, by rw [Int.natCast_mul, Int.mul_assoc, Int.mul_assoc]; congr 1; rw [← Int.mul_assoc, ← Int.mul_assoc, Int.mul_comm s']⟩
  · by_cases ha : a = 0
    · subst ha; simp
    · by_cases hb : b = 0
      · subst hb; simp
      · have e1 : s = -1 ∨ s = 1 := by omega
        have e2 : s' = -1 ∨ s' = 1 := by omega
        rcases e1 with rfl | rfl <;> rcases e2 with rfl | rfl <;> simp
  · have e1 : s = -1 ∨ s = 0 ∨ s = 1 := by omega
    have e2 : s' = -1 ∨ s' = 0 ∨ s' = 1 := by omega
    rcases e1 with rfl | rfl | rfl <;> rcases e2 with rfl | rfl | rfl <;> simp

set_option maxHeartbeats 2000000 in
theorem implMul_any (s s' : Int) (a b : Nat) (A A' : Option Addr) (n n' c c' : Nat) (w : World) (hs : Sg s a) (hs' : Sg s' b) (hr : Rd w w.heap.size A (vs (limbs a))) (hr' : Rd w w.heap.size A' (vs (limbs b))) (hn : (limbs a).length = n) (hn' : (limbs b).length = n') (hm : (n : Int) ≤ 1000) (hm' : (n' : Int) ≤ 1000) :
    Calls Tryz.prog 110 #[.agg #[.int .i64 s, .slice A n c], .agg #[.int .i64 s', .slice A' n' c']] w fun e w' => ∃ val, e = .returned val ∧ Wz w' w.heap.size w'.heap.size (s * a * (s' * b)) val ∧ Below w.heap.size w w' := by
  have hst := store_int Tryz.prog
  have hst2 := store_slice Tryz.prog
  obtain ⟨w1, hw1, hb1, hb2, hb3, hb4⟩ := three_boxes w s s' A A' n n' c c' 46 46 46
  have Ra1 : Hid (Rt w1 w.heap.size A (vs (limbs a))) := Lib.hid ⟨hr.below hb4, hb4.size⟩
  have Rb1 : Hid (Rt w1 w.heap.size A' (vs (limbs b))) := Lib.hid ⟨hr'.below hb4, hb4.size⟩
  have Hn := Lib.hid hn
  have Hn' := Lib.hid hn'
  have Hsp := Lib.hid (sign_prod hs hs')
  obtain ⟨t, ht⟩ : ∃ t, t = s * s' := ⟨_, rfl⟩
  have hss : wrap64 (s * s') = t := by rw [ht]; exact wrap64_small (by have := Hsp.out.2.1; omega) (by have := Hsp.out.2.1; omega)
  have hss2 : IntKind.i64.wrap (s * s') = t := by rw [ht]; exact IntWalk.i64_in _ (by have := Hsp.out.2.1; omega)
  rw [← ht] at Hsp
  clear ht
  have Hw := Lib.hid hw1
  have Bx1 := Lib.hid hb1
  have By1 := Lib.hid hb2
  have Rs1 := Lib.hid hb3
  have Bel1 := Lib.hid hb4
  have H1000 : Hid ((n : Int) ≤ 1000 ∧ (n' : Int) ≤ 1000) := Lib.hid ⟨hm, hm'⟩
  have H8 : Hid (((limbs (a * b)).length : Int) ≤ 1000000) := Lib.hid (by have := limbs_len_le.2 (prod_lt hn hn'); omega)
  clear hr hr' hn hn' hs hs' hw1 hb1 hb2 hb3 hb4
  go_enter Tryz.func110, Tryz.ntmps110
  go_wp2_with fail
  rw [← Hw.out]
  refine wp_region_held_drew (S := fun w' => (w'.cell? ⟨w.heap.size, 0, none⟩ = some (.int .i64 s) ∧ w'.cell? ⟨w.heap.size, 1, none⟩ = some (.slice A n c)) ∧ (w'.cell? ⟨w.heap.size + 1, 0, none⟩ = some (.int .i64 s') ∧ w'.cell? ⟨w.heap.size + 1, 1, none⟩ = some (.slice A' n' c'))) (by kernel_rfl) ⟨Bx1.out.1, By1.out.1⟩ (fun hHeld => ?_)
  refine wpAnyH_take (i := 0) (v := ?_) rfl (by kernel_rfl) (by kernel_rfl) (by kernel_rfl) (fun _ _ _ h => h) (Or.inl ⟨by rfl, ?_⟩) (by assumption) ?_
  rotate_left
  · (intro w hSw; (try dsimp only at hSw); go_simp; (try with_reducible rfl))
  try simp only [Act.put, List.setIfInBounds_toArray, List.set_cons_zero, List.set_cons_succ]
  refine wpAnyH_take (i := 1) (v := ?_) rfl (by kernel_rfl) (by kernel_rfl) (by kernel_rfl) (fun _ _ _ h => h) (Or.inl ⟨by rfl, ?_⟩) (by assumption) ?_
  rotate_left
  · (intro w hSw; (try dsimp only at hSw); go_simp; (try with_reducible rfl))
  try simp only [Act.put, List.setIfInBounds_toArray, List.set_cons_zero, List.set_cons_succ]
  refine wpAnyH_take (i := 2) (v := ?_) rfl (by kernel_rfl) (by kernel_rfl) (by kernel_rfl) (fun _ _ _ h => h) (Or.inl ⟨by rfl, ?_⟩) (by assumption) ?_
  rotate_left
  · (intro w hSw; (try dsimp only at hSw); go_simp; (try with_reducible rfl))
  try simp only [Act.put, List.setIfInBounds_toArray, List.set_cons_zero, List.set_cons_succ]
  refine wpAnyH_take (i := 3) (v := ?_) rfl (by kernel_rfl) (by kernel_rfl) (by kernel_rfl) (fun _ _ _ h => h) (Or.inl ⟨by rfl, ?_⟩) (by assumption) ?_
  rotate_left
  · (intro w hSw; (try dsimp only at hSw); go_simp; (try with_reducible rfl))
  try simp only [Act.put, List.setIfInBounds_toArray, List.set_cons_zero, List.set_cons_succ]
  refine wpAnyH_take (i := 4) (v := ?_) rfl (by kernel_rfl) (by kernel_rfl) (by kernel_rfl) (fun _ _ _ h => h) (Or.inl ⟨by rfl, ?_⟩) (by assumption) ?_
  rotate_left
  · (intro w hSw; (try dsimp only at hSw); go_simp; (try with_reducible rfl))
  try simp only [Act.put, List.setIfInBounds_toArray, List.set_cons_zero, List.set_cons_succ]
  refine wpAnyH_take (i := 5) (v := ?_) rfl (by kernel_rfl) (by kernel_rfl) (by kernel_rfl) (fun _ _ _ h => h) (Or.inl ⟨by rfl, ?_⟩) (by assumption) ?_
  rotate_left
  · (intro w hSw; (try dsimp only at hSw); go_simp; (try with_reducible rfl))
  try simp only [Act.put, List.setIfInBounds_toArray, List.set_cons_zero, List.set_cons_succ]
  refine wpAnyH_take (i := 6) (v := ?_) rfl (by kernel_rfl) (by kernel_rfl) (by kernel_rfl) (fun _ _ _ h => h) (Or.inl ⟨by rfl, ?_⟩) (by assumption) ?_
  rotate_left
  · (intro w hSw; (try dsimp only at hSw); go_simp; (try with_reducible rfl))
  try simp only [Act.put, List.setIfInBounds_toArray, List.set_cons_zero, List.set_cons_succ]
  refine wpAnyH_take (i := 7) (v := ?_) rfl (by kernel_rfl) (by kernel_rfl) (by kernel_rfl) (fun _ _ _ h => h) (Or.inl ⟨by rfl, ?_⟩) (by assumption) ?_
  rotate_left
  · (intro w hSw; (try dsimp only at hSw); go_simp; (try with_reducible rfl))
  try simp only [Act.put, List.setIfInBounds_toArray, List.set_cons_zero, List.set_cons_succ]
  refine wpAnyH_take (i := 8) (v := ?_) rfl (by kernel_rfl) (by kernel_rfl) (by kernel_rfl) (fun _ _ _ h => h) (Or.inl ⟨by rfl, ?_⟩) (by assumption) ?_
  rotate_left
  · (intro w hSw; (try dsimp only at hSw); go_simp; (try with_reducible rfl))
  try simp only [Act.put, List.setIfInBounds_toArray, List.set_cons_zero, List.set_cons_succ]
  refine wpAnyH_ready (rs := [9]) (by kernel_rfl) (by simp) ?_
  refine AllReadyH.cons rfl (fun K hK => ?_) AllReadyH.nil
  go_simp
  refine (natTimes_any a b A A' n n' c c' _ _ w1.drew Ra1.out.1 Rb1.out.1 Ra1.out.2 Rb1.out.2 Hn.out Hn'.out H1000.out.1 H1000.out.2).mono ?_
  rintro e w8 ⟨A8, rfl, ho8, hb0⟩
  have hb8 := belDrew hb0
  have O8 := Lib.hid ho8
  have Bx8 := Lib.hid (Bx1.out.next hb8)
  have By8 := Lib.hid (By1.out.next hb8)
  have Rs8 := Lib.hid (Rs1.out.next hb8)
  have Bel8 := Lib.hid (belNext Bel1.out hb8)
  refine hK.out _ _ ⟨Bx8.out.1, By8.out.1⟩ (fun hHeld => ?_)
  clear hK K ho8 hb0 hb8
  try simp only [Act.put, List.setIfInBounds_toArray, List.set_cons_zero, List.set_cons_succ]
  refine wpAnyH_ready (rs := [10]) (by kernel_rfl) (by simp) ?_
  refine AllReadyH.cons rfl (fun K hK => ?_) AllReadyH.nil
  go_simp
  refine (signed_any t (a * b) A8 _ _ _ _ _ O8.out rfl H8.out (Nat.le_refl _)).mono ?_
  rintro e w9 ⟨val, rfl, hv, hb9⟩
  have Hz : Hid (Wz w9 w1.heap.size w9.heap.size (s * a * (s' * b)) val) := Lib.hid (((hv.z Hsp.out.1).wide (Nat.le_refl _) hb9.size).cast_ Hsp.out.2.2)
  have Rs9 := Lib.hid (Rs8.out.next hb9)
  have Bel9 := Lib.hid (belNext Bel8.out hb9)
  have Bx9 := Lib.hid (Bx8.out.next hb9)
  have By9 := Lib.hid (By8.out.next hb9)
  have Hlt := Lib.hid Rs1.out.2
  refine hK.out _ _ ⟨Bx9.out.1, By9.out.1⟩ (fun hHeld => ?_)
  clear hK K hv hb9
  try simp only [Act.put, List.setIfInBounds_toArray, List.set_cons_zero, List.set_cons_succ]
  obtain ⟨A9, c9, hval, _⟩ := Hz.out
  subst hval
  obtain ⟨⟨r1, r2, r3, r4⟩, _⟩ := Rs9.out
  refine wpAnyH_ready (rs := [11]) (by kernel_rfl) (by simp) ?_
  refine AllReadyH.cons rfl (fun K hK => ?_) AllReadyH.nil
  go_simp
  refine hK.out _ _ ⟨((Bx9.out.keep (by simp; omega) _).keep (by simp; omega) _).1, ((By9.out.keep (by simp) _).keep (by simp) _).1⟩ (fun hHeld => ?_)
  clear hK K hHeld
  try simp only [Act.put, List.setIfInBounds_toArray, List.set_cons_zero, List.set_cons_succ]
  refine wpAnyH_done (by kernel_rfl) ?_ _
  go_wp2_with fail
  refine bodyPost_ret (v := .agg #[.int .i64 (s * a * (s' * b)).sign, .slice A9 (limbs (s * a * (s' * b)).natAbs).length c9]) (by simp [results, Tryz.results110, go_sem, r1, r2]) rfl ⟨_, rfl, ?_, ?_⟩
  · exact ((Hz.out.setCell (by have := Hlt.out; simp; omega) _).setCell (by have := Hlt.out; simp; omega) _).wide (by have := Hlt.out; omega) (by simp)
  · exact (Bel9.out.setCell (by simp; omega) _).setCell (by simp; omega) _

end Go.Proofs.YtngminjncdfjdaaGreatDoor
/- MultiplyWholes, of the program and of the model. -/
namespace Go.Proofs.YtngminjncdfjdaaGreatDoor
set_option maxRecDepth 100000
open Go.RowKit
set_option linter.unusedSimpArgs false
set_option linter.unusedVariables false

end Go.Proofs.YtngminjncdfjdaaGreatDoor
/- Quotients by small divisors, of the program. -/
namespace Go.Proofs.YtngminjncdfjdaaGreatDoor
set_option maxRecDepth 100000
open Go.RowKit
set_option linter.unusedSimpArgs false
set_option linter.unusedVariables false

end Go.Proofs.YtngminjncdfjdaaGreatDoor
/- Shifts of limbs, of the program. -/
namespace Go.Proofs.YtngminjncdfjdaaGreatDoor
set_option maxRecDepth 100000
open Go.RowKit
set_option linter.unusedSimpArgs false
set_option linter.unusedVariables false

end Go.Proofs.YtngminjncdfjdaaGreatDoor
/- Shifts down of limbs, of the program. -/
namespace Go.Proofs.YtngminjncdfjdaaGreatDoor
set_option maxRecDepth 100000
open Go.RowKit
set_option linter.unusedSimpArgs false
set_option linter.unusedVariables false

end Go.Proofs.YtngminjncdfjdaaGreatDoor
/- Whole and exact numbers as values and in boxes; the table of Go's library. -/
namespace Go.Proofs.YtngminjncdfjdaaGreatDoor
set_option maxRecDepth 100000
open Go.RowKit
set_option linter.unusedSimpArgs false
set_option linter.unusedVariables false

section
variable {w w' : World} {z S : Int} {A : Option Addr} {n c lo hi : Nat}
end

section
variable {w w' : World} {S E : Int} {A : Option Addr} {n c b : Nat}
end
end Go.Proofs.YtngminjncdfjdaaGreatDoor
/- Shifts of a whole number, of the program. -/
namespace Go.Proofs.YtngminjncdfjdaaGreatDoor
set_option maxRecDepth 100000
open Go.RowKit
set_option linter.unusedSimpArgs false
set_option linter.unusedVariables false

end Go.Proofs.YtngminjncdfjdaaGreatDoor
/- Exact numbers without their last twos, and limited, of the program. -/
namespace Go.Proofs.YtngminjncdfjdaaGreatDoor
set_option maxRecDepth 100000
open Go.RowKit
set_option linter.unusedSimpArgs false
set_option linter.unusedVariables false

section
variable {w w' : World} {b : Nat} {S E : Int} {A : Option Addr} {n c : Nat}
end

end Go.Proofs.YtngminjncdfjdaaGreatDoor
/- Exact numbers: opposites, products, floors, tops, of the program. -/
namespace Go.Proofs.YtngminjncdfjdaaGreatDoor
set_option maxRecDepth 100000
open Go.RowKit
set_option linter.unusedSimpArgs false
set_option linter.unusedVariables false

set_option maxHeartbeats 2000000 in
theorem implMulD_any (z S E z' S' E' : Int) (A A' : Option Addr) (n c n' c' : Nat) (w : World) (hz : ZV w z S A n c) (hz' : ZV w z' S' A' n' c') (hm : (n : Int) ≤ 1000) (hm' : (n' : Int) ≤ 1000) (h1 : -1000000 ≤ E) (h2 : E ≤ 1000000) (h3 : -1000000 ≤ E') (h4 : E' ≤ 1000000) :
    Calls Tryz.prog 83 #[.agg #[.int .i64 S, .slice A n c, .int .i64 E], .agg #[.int .i64 S', .slice A' n' c', .int .i64 E']] w fun e w' => ∃ Sr Ar nr cr, e = .returned (.agg #[.int .i64 Sr, .slice Ar nr cr, .int .i64 (E + E')]) ∧ ZO w' w.heap.size w'.heap.size (z * z') Sr Ar nr cr ∧ Below w.heap.size w w' := by
  have hst := store_int Tryz.prog
  have hst2 := store_slice Tryz.prog
  obtain ⟨w1, hw1, hb1, hb2, hb3, hb4⟩ := dbox2_res w S S' A A' n n' c c' E E' 48 48 48
  have RsD1 := Lib.hid hb3
  have Hlt : Hid (w.heap.size + 1 + 1 < w1.heap.size) := Lib.hid hb3.2
  have Zv1 := Lib.hid (hz.next hb4)
  have Zw1 := Lib.hid (hz'.next hb4)
  have Hw := Lib.hid hw1
  have Bx1 := Lib.hid hb1
  have By1 := Lib.hid hb2
  have Bel1 := Lib.hid hb4
  have Hn : Hid ((limbs z.natAbs).length = n) := Lib.hid hz.2.1
  have Hn' : Hid ((limbs z'.natAbs).length = n') := Lib.hid hz'.2.1
  have Hm : Hid ((n : Int) ≤ 1000 ∧ (n' : Int) ≤ 1000) := Lib.hid ⟨hm, hm'⟩
  clear hz hz' hw1 hb1 hb2 hb4 hb3
  go_enter Tryz.func83, Tryz.ntmps83
  go_wp2_with fail
  rw [← Hw.out]
  have hwr : IntKind.i64.wrap (E + E') = E + E' := IntWalk.i64_in _ (by omega)
  refine wp_region_held_drew (S := fun w' => (w'.cell? ⟨w.heap.size, 0, none⟩ = some (.int .i64 S) ∧ w'.cell? ⟨w.heap.size, 1, none⟩ = some (.slice A n c) ∧ w'.cell? ⟨w.heap.size, 2, none⟩ = some (.int .i64 E)) ∧ (w'.cell? ⟨w.heap.size + 1, 0, none⟩ = some (.int .i64 S') ∧ w'.cell? ⟨w.heap.size + 1, 1, none⟩ = some (.slice A' n' c') ∧ w'.cell? ⟨w.heap.size + 1, 2, none⟩ = some (.int .i64 E'))) (by kernel_rfl) ⟨Bx1.out.1, By1.out.1⟩ (fun hHeld => ?_)
  refine wpAnyH_take (i := 0) (v := ?_) rfl (by kernel_rfl) (by kernel_rfl) (by kernel_rfl) (fun _ _ _ h => h) (Or.inl ⟨by rfl, ?_⟩) (by assumption) ?_
  rotate_left
  · (intro w hSw; (try dsimp only at hSw); go_simp; (try with_reducible rfl))
  try simp only [Act.put, List.setIfInBounds_toArray, List.set_cons_zero, List.set_cons_succ]
  refine wpAnyH_take (i := 1) (v := ?_) rfl (by kernel_rfl) (by kernel_rfl) (by kernel_rfl) (fun _ _ _ h => h) (Or.inl ⟨by rfl, ?_⟩) (by assumption) ?_
  rotate_left
  · (intro w hSw; (try dsimp only at hSw); go_simp; (try with_reducible rfl))
  try simp only [Act.put, List.setIfInBounds_toArray, List.set_cons_zero, List.set_cons_succ]
  refine wpAnyH_take (i := 2) (v := ?_) rfl (by kernel_rfl) (by kernel_rfl) (by kernel_rfl) (fun _ _ _ h => h) (Or.inl ⟨by rfl, ?_⟩) (by assumption) ?_
  rotate_left
  · (intro w hSw; (try dsimp only at hSw); go_simp; (try with_reducible rfl))
  try simp only [Act.put, List.setIfInBounds_toArray, List.set_cons_zero, List.set_cons_succ]
  refine wpAnyH_take (i := 3) (v := ?_) rfl (by kernel_rfl) (by kernel_rfl) (by kernel_rfl) (fun _ _ _ h => h) (Or.inl ⟨by rfl, ?_⟩) (by assumption) ?_
  rotate_left
  · (intro w hSw; (try dsimp only at hSw); go_simp; (try with_reducible rfl))
  try simp only [Act.put, List.setIfInBounds_toArray, List.set_cons_zero, List.set_cons_succ]
  refine wpAnyH_take (i := 5) (v := ?_) rfl (by kernel_rfl) (by kernel_rfl) (by kernel_rfl) (fun _ _ _ h => h) (Or.inl ⟨by rfl, ?_⟩) (by assumption) ?_
  rotate_left
  · (intro w hSw; (try dsimp only at hSw); go_simp; (try with_reducible rfl))
  try simp only [Act.put, List.setIfInBounds_toArray, List.set_cons_zero, List.set_cons_succ]
  refine wpAnyH_take (i := 6) (v := ?_) rfl (by kernel_rfl) (by kernel_rfl) (by kernel_rfl) (fun _ _ _ h => h) (Or.inl ⟨by rfl, ?_⟩) (by assumption) ?_
  rotate_left
  · (intro w hSw; (try dsimp only at hSw); go_simp; (try with_reducible rfl))
  try simp only [Act.put, List.setIfInBounds_toArray, List.set_cons_zero, List.set_cons_succ]
  refine wpAnyH_take (i := 7) (v := ?_) rfl (by kernel_rfl) (by kernel_rfl) (by kernel_rfl) (fun _ _ _ h => h) (Or.inl ⟨by rfl, ?_⟩) (by assumption) ?_
  rotate_left
  · (intro w hSw; (try dsimp only at hSw); go_simp; (try with_reducible rfl))
  try simp only [Act.put, List.setIfInBounds_toArray, List.set_cons_zero, List.set_cons_succ]
  refine wpAnyH_take (i := 8) (v := ?_) rfl (by kernel_rfl) (by kernel_rfl) (by kernel_rfl) (fun _ _ _ h => h) (Or.inl ⟨by rfl, ?_⟩) (by assumption) ?_
  rotate_left
  · (intro w hSw; (try dsimp only at hSw); go_simp; (try with_reducible rfl))
  try simp only [Act.put, List.setIfInBounds_toArray, List.set_cons_zero, List.set_cons_succ]
  refine wpAnyH_take (i := 9) (v := ?_) rfl (by kernel_rfl) (by kernel_rfl) (by kernel_rfl) (fun _ _ _ h => h) (Or.inl ⟨by rfl, ?_⟩) (by assumption) ?_
  rotate_left
  · (intro w hSw; (try dsimp only at hSw); go_simp; (try with_reducible rfl))
  try simp only [Act.put, List.setIfInBounds_toArray, List.set_cons_zero, List.set_cons_succ]
  refine wpAnyH_ready (rs := [4]) (by kernel_rfl) (by simp) ?_
  refine AllReadyH.cons rfl (fun K hK => ?_) AllReadyH.nil
  go_simp
  refine (implMul_any S S' z.natAbs z'.natAbs A A' n n' c c' w1.drew Zv1.out.sg Zw1.out.sg Zv1.out.rd Zw1.out.rd Hn.out Hn'.out Hm.out.1 Hm.out.2).mono ?_
  rintro e w2 ⟨val, rfl, hv, hb0⟩
  have hb : Below w1.heap.size w1 w2 := belDrew hb0
  obtain ⟨S9, A9, n9, c9, rfl, hzo⟩ := Wz.zo (hv.cast_ (z' := z * z') (by rw [Zv1.out.val, Zw1.out.val])) (Nat.le_refl _)
  have Zo2 := Lib.hid hzo
  clear hv hzo
  refine hK.out _ _ ⟨(Bx1.out.next hb).1, (By1.out.next hb).1⟩ (fun hHeld => ?_)
  clear hK K hb0
  have Sz2 := Lib.hid (Below.size hb)
  have Bel2 := Lib.hid (belNext Bel1.out hb)
  have Bx2 := Lib.hid (Bx1.out.next hb)
  have By2 := Lib.hid (By1.out.next hb)
  have RsD2 := Lib.hid (RsD1.out.next hb)
  clear hb Bel1 Bx1 By1 RsD1
  try simp only [Act.put, List.setIfInBounds_toArray, List.set_cons_zero, List.set_cons_succ]
  refine wpAnyH_take (i := 10) (v := ?_) rfl (by kernel_rfl) (by kernel_rfl) (by kernel_rfl) (fun _ _ _ h => h) (Or.inl ⟨by rfl, ?_⟩) (by assumption) ?_
  rotate_left
  · (intro w hSw; (try dsimp only at hSw); go_simp; (try with_reducible rfl))
  try simp only [Act.put, List.setIfInBounds_toArray, List.set_cons_zero, List.set_cons_succ]
  obtain ⟨⟨hRsD0, hRsD1, hRsD2, hRsD3, hRsD4, hRsD5⟩, hRsD6⟩ := RsD2.out
  try rw [hwr]
  refine wpAnyH_ready (rs := [11]) (by kernel_rfl) (by simp) ?_
  refine AllReadyH.cons rfl (fun K hK => ?_) AllReadyH.nil
  go_simp
  refine hK.out _ _ ⟨(((Bx2.out.keep (by first | (simp; done) | (simp; omega)) _).keep (by first | (simp; done) | (simp; omega)) _).keep (by first | (simp; done) | (simp; omega)) _).1, (((By2.out.keep (by first | (simp; done) | (simp; omega)) _).keep (by first | (simp; done) | (simp; omega)) _).keep (by first | (simp; done) | (simp; omega)) _).1⟩ (fun hHeld => ?_)
  clear hK K hHeld
  try simp only [Act.put, List.setIfInBounds_toArray, List.set_cons_zero, List.set_cons_succ]
  refine wpAnyH_done (by kernel_rfl) ?_ _
  go_wp2_with fail
  refine bodyPost_ret (v := .agg #[.int .i64 S9, .slice A9 n9 c9, .int .i64 (E + E')]) (by simp [results, Tryz.results83, go_sem, hRsD0, hRsD1, hRsD2]) rfl ⟨S9, A9, n9, c9, rfl, ?_, ?_⟩
  · exact (((Zo2.out.setCell (.inl (by have zz0 := Hlt.out; have zz1 := Sz2.out; first | omega | (simp; done) | (simp; omega))) _).setCell (.inl (by have zz0 := Hlt.out; have zz1 := Sz2.out; first | omega | (simp; done) | (simp; omega))) _).setCell (.inl (by have zz0 := Hlt.out; have zz1 := Sz2.out; first | omega | (simp; done) | (simp; omega))) _).wide (by have zz0 := Hlt.out; have zz1 := Sz2.out; first | omega | (simp; done) | (simp; omega)) (by have zz0 := Hlt.out; have zz1 := Sz2.out; first | omega | (simp; done) | (simp; omega)) (by have zz0 := Hlt.out; have zz1 := Sz2.out; first | omega | (simp; done) | (simp; omega))
  · exact ((Bel2.out.setCell (by have zz0 := Hlt.out; have zz1 := Sz2.out; first | omega | (simp; done) | (simp; omega)) _).setCell (by have zz0 := Hlt.out; have zz1 := Sz2.out; first | omega | (simp; done) | (simp; omega)) _).setCell (by have zz0 := Hlt.out; have zz1 := Sz2.out; first | omega | (simp; done) | (simp; omega)) _

end Go.Proofs.YtngminjncdfjdaaGreatDoor
/- Exact numbers: sums, comparing, of the program. -/
namespace Go.Proofs.YtngminjncdfjdaaGreatDoor
set_option maxRecDepth 100000
open Go.RowKit
set_option linter.unusedSimpArgs false
set_option linter.unusedVariables false

end Go.Proofs.YtngminjncdfjdaaGreatDoor
/- Multiples of a divisor added to a part of a row, of the program. -/
namespace Go.Proofs.YtngminjncdfjdaaGreatDoor
set_option maxRecDepth 100000
open Go.RowKit
set_option linter.unusedSimpArgs false
set_option linter.unusedVariables false

end Go.Proofs.YtngminjncdfjdaaGreatDoor
/- Taking a divisor off a rest: the mathematics. -/
namespace Go.Proofs.YtngminjncdfjdaaGreatDoor
set_option maxRecDepth 100000
open Go.RowKit
set_option linter.unusedSimpArgs false
set_option linter.unusedVariables false

section
variable {ws ds : List Nat} {o n : Nat} {g : Int} {ys : List Int}
end
end Go.Proofs.YtngminjncdfjdaaGreatDoor
/- Taking a divisor off a rest, of the program. -/
namespace Go.Proofs.YtngminjncdfjdaaGreatDoor
set_option maxRecDepth 100000
open Go.RowKit
set_option linter.unusedSimpArgs false
set_option linter.unusedVariables false

end Go.Proofs.YtngminjncdfjdaaGreatDoor
/- Quotients of limbs by one limb, of the program. -/
namespace Go.Proofs.YtngminjncdfjdaaGreatDoor
set_option maxRecDepth 100000
open Go.RowKit
set_option linter.unusedSimpArgs false
set_option linter.unusedVariables false

end Go.Proofs.YtngminjncdfjdaaGreatDoor
/- Quotients of limbs by greater ones, of the program. -/
namespace Go.Proofs.YtngminjncdfjdaaGreatDoor
set_option maxRecDepth 100000
open Go.RowKit
set_option linter.unusedSimpArgs false
set_option linter.unusedVariables false

end Go.Proofs.YtngminjncdfjdaaGreatDoor
/- Long division: the mathematics. -/
namespace Go.Proofs.YtngminjncdfjdaaGreatDoor
set_option maxRecDepth 100000
open Go.RowKit
set_option linter.unusedSimpArgs false
set_option linter.unusedVariables false

end Go.Proofs.YtngminjncdfjdaaGreatDoor
/- Long division, of the program. -/
namespace Go.Proofs.YtngminjncdfjdaaGreatDoor
set_option maxRecDepth 100000
open Go.RowKit
set_option linter.unusedSimpArgs false
set_option linter.unusedVariables false

end Go.Proofs.YtngminjncdfjdaaGreatDoor
/- Quotients of limbs, of the program. -/
namespace Go.Proofs.YtngminjncdfjdaaGreatDoor
set_option maxRecDepth 100000
open Go.RowKit
set_option linter.unusedSimpArgs false
set_option linter.unusedVariables false

end Go.Proofs.YtngminjncdfjdaaGreatDoor
