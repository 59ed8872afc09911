/- Texts of this seat, joined: Ti Mu Mv Ds Sh Sd Dy Ha Hb Hd He To Tk Tw Db Dc Dd De Df -/
import Derived.Test.YtnecnbonnidijaaGF3
import Derived.IntWalk
import Derived.Test.YtnecnbonnidijaaGF1
import Derived.Shelf.Spec.TrailingZeros
import Derived.Lib.SliceRun
import Derived.Laws.CopyOwn
/- Products of limbs, of the program. -/
namespace Go.Proofs.Ytnecnbonnidijaa
set_option maxRecDepth 100000
open Go.RowKit
set_option linter.unusedSimpArgs false
set_option linter.unusedVariables false

/-- the greatest product of two limbs -/
def Mx : Nat := 281474943156225
theorem mul_le_Mx {x y : Nat} (hx : x < Bs) (hy : y < Bs) : x * y ≤ Mx := by
  rw [Bs_eq] at *
  exact Nat.mul_le_mul (show x ≤ 16777215 by omega) (show y ≤ 16777215 by omega)
theorem V_set_add {ys : List Nat} {k d : Nat} (hk : k < ys.length) : V (ys.set k (ys[k] + d)) = V ys + Bs ^ k * d := by
  rw [V_take_drop (ys.set k (ys[k] + d)) (k + 1) (by rw [List.length_set]; omega), V_set_take hk, List.drop_set_of_lt (by omega), V_take_drop ys (k + 1) (by omega), V_take_succ hk, Nat.mul_add]
  omega
theorem made_zeros (n : Nat) : (madeCells (Value.int .i64 0).cells (n * 1)).toList = vs (List.replicate n 0) := by
  rw [Nat.mul_one]
  apply List.ext_getElem
  · rw [vs_len, List.length_replicate]; simp [size_madeCells]
  · intro i h1 h2
    rw [vs_len, List.length_replicate] at h2
    rw [vs_get (by rw [List.length_replicate]; exact h2)]
    simp [madeCells, Value.cells, Nat.mod_one]
theorem mul_step (i j x P y : Nat) : Bs ^ i * (x * (P + Bs ^ j * y)) = Bs ^ i * (x * P) + Bs ^ (i + j) * (x * y) := by
  rw [Nat.mul_add, Nat.mul_add, Nat.pow_add, Nat.mul_left_comm x, Nat.mul_assoc]
theorem row_step (P i x b : Nat) : P * b + Bs ^ i * (x * b) = (P + Bs ^ i * x) * b := by rw [Nat.add_mul, Nat.mul_assoc]
theorem prod_lt {a b n n' : Nat} (hn : (limbs a).length = n) (hn' : (limbs b).length = n') : a * b < Bs ^ (n + n') := by
  have h1 := (limbs_len_le (v := a) (n := n)).1 (by omega)
  have h2 := (limbs_len_le (v := b) (n := n')).1 (by omega)
  rw [Nat.pow_add]
  exact Nat.mul_lt_mul'' h1 h2
end Go.Proofs.Ytnecnbonnidijaa
/- Products of whole numbers, of the program and of the model. -/
namespace Go.Proofs.Ytnecnbonnidijaa
set_option maxRecDepth 100000
open Go.RowKit
set_option linter.unusedSimpArgs false
set_option linter.unusedVariables false

theorem sign_prod {s s' : Int} {a b : Nat} (h : Sg s a) (h' : Sg s' b) : (s * s' = 1 ∨ s * s' = -1 ∨ a * b = 0) ∧ (-1 ≤ s * s' ∧ s * s' ≤ 1) ∧ s * s' * ((a * b : Nat) : Int) = s * a * (s' * b) := by
  obtain ⟨h1, h2, h3⟩ := h
  obtain ⟨g1, g2, g3⟩ := h'
  refine ⟨?_, ?_, by rw [Int.natCast_mul, Int.mul_assoc, Int.mul_assoc]; congr 1; rw [← Int.mul_assoc, ← Int.mul_assoc, Int.mul_comm s']⟩
  · by_cases ha : a = 0
    · subst ha; simp
    · by_cases hb : b = 0
      · subst hb; simp
      · have e1 : s = -1 ∨ s = 1 := by omega
        have e2 : s' = -1 ∨ s' = 1 := by omega
        rcases e1 with rfl | rfl <;> rcases e2 with rfl | rfl <;> simp
  · have e1 : s = -1 ∨ s = 0 ∨ s = 1 := by omega
    have e2 : s' = -1 ∨ s' = 0 ∨ s' = 1 := by omega
    rcases e1 with rfl | rfl | rfl <;> rcases e2 with rfl | rfl | rfl <;> simp

theorem V_set_digit {ys : List Nat} {k c q d e : Nat} (hk : k < ys.length) (hd : d = (c + ys[k] + q) % Bs) (he : e = (c + ys[k] + q) / Bs) : V (ys.set k d) + Bs ^ (k + 1) * e = V ys + Bs ^ k * (c + q) := by
  rw [V_take_drop (ys.set k d) (k + 1) (by rw [List.length_set]; omega), V_set_take hk, List.drop_set_of_lt (by omega), V_take_drop ys (k + 1) (by omega), V_take_succ hk]
  have h := carry_step (P := V (ys.take k)) (T := V (ys.take k)) (c := 0) (x := c + ys[k] + q) k (by simp)
  rw [Nat.zero_add, ← hd, ← he, Nat.mul_add, Nat.mul_add] at h
  rw [Nat.mul_add]
  omega
theorem V_set_zero {ys : List Nat} {k d : Nat} (hk : k < ys.length) (h0 : ys[k] = 0) : V (ys.set k d) = V ys + Bs ^ k * d := by
  have := V_set_add (d := d) hk
  rw [h0, Nat.zero_add] at this
  exact this

set_option maxHeartbeats 4000000 in
theorem specMul_any (s s' : Int) (a b : Nat) (A A' : Option Addr) (n n' c c' : Nat) (w : World) (hs : Sg s a) (hs' : Sg s' b) (hr : Rd w w.heap.size A (vs (limbs a))) (hr' : Rd w w.heap.size A' (vs (limbs b))) (hn : (limbs a).length = n) (hn' : (limbs b).length = n') (hm : (n : Int) ≤ 1000) (hm' : (n' : Int) ≤ 1000) (hcap : n ≤ c) (hcap' : n' ≤ c') :
    Calls Try.prog 107 #[.agg #[.int .i64 s, .slice A n c], .agg #[.int .i64 s', .slice A' n' c']] w fun e w' => ∃ val, e = .returned val ∧ Wz w' w.heap.size w'.heap.size (s * a * (s' * b)) val ∧ Below w.heap.size w w' := by
  have hst := store_int Try.prog
  have hst2 := store_slice Try.prog
  obtain ⟨i0, hi0, hz0, hz1, hz2⟩ := info_parts infoI
  obtain ⟨w1, hw1, hb1, hb2, hb3, hb4⟩ := three_boxes w s s' A A' n n' c c' 26 26 26
  have Ra1 : Hid (Rt w1 w.heap.size A (vs (limbs a))) := Lib.hid ⟨hr.below hb4, hb4.size⟩
  have Rb1 : Hid (Rt w1 w.heap.size A' (vs (limbs b))) := Lib.hid ⟨hr'.below hb4, hb4.size⟩
  have Hn := Lib.hid hn
  have Hn' := Lib.hid hn'
  have Hsp := Lib.hid (sign_prod hs hs')
  obtain ⟨t, ht⟩ : ∃ t, t = s * s' := ⟨_, rfl⟩
  have hss : wrap64 (s * s') = t := by rw [ht]; exact wrap64_small (by have := Hsp.out.2.1; omega) (by have := Hsp.out.2.1; omega)
  have Hss := Lib.hid hss
  rw [← ht] at Hsp
  clear ht
  have Hw := Lib.hid hw1
  have Bx1 := Lib.hid hb1
  have By1 := Lib.hid hb2
  have Rs1 := Lib.hid hb3
  have Bel1 := Lib.hid hb4
  obtain ⟨L, hL⟩ : ∃ L, L = n + n' + 1 := ⟨_, rfl⟩
  have HL := Lib.hid hL
  have hLi : (n : Int) + n' + 1 = L := by omega
  have hLb : (L : Int) ≤ 2001 := by omega
  have hbytes : i0.bytes * L ≤ 281474976710656 := by rw [hz2]; omega
  clear hr hr' hn hn' hs hs' hw1 hb1 hb2 hb3 hb4 hL hss hcap hcap'
  go_enter Try.func107, Try.ntmps107
  go_upto_region 1 with (fail)
  rw [← Hw.out]
  obtain ⟨⟨hx1, hx2⟩, hx3⟩ := Bx1.out
  obtain ⟨⟨hy1, hy2⟩, hy3⟩ := By1.out
  go_wp2_with (refine wpList_make_full _ rfl _ _ _ rfl w1.heap.size 2 i0 _ 1 Try.underlying22 hi0 hz0 hz1 _ _ _ _ L rfl rfl rfl rfl hbytes (by unfold maxLen; omega) (Nat.le_refl _) ?_; intro w2 hown hg)
  rw [made_zeros] at hown
  have Hown0 := Lib.hid hown
  have Hb0 : Hid (Below w1.heap.size w1 w2) := Lib.hid ((Below.refl _ _).grown hg (Nat.le_refl _) (by simp))
  clear hown hg hbytes hx1 hx2 hx3 hy1 hy2 hy3
  go_loopw [6] (fun iv wr => ∃ (i : Nat) (zs : List Nat), i ≤ n ∧ iv = .int .i64 i ∧ zs.length = L ∧ Lim zs ∧ (∀ p (h : p < zs.length), i + n' ≤ p → zs[p] = 0) ∧ V zs = V ((limbs a).take i) * b ∧ wr.ownsRow w1.heap.size 2 1 (.slice (some ⟨w1.heap.size, 0, none⟩) L L) L (vs zs) ∧ Below w1.heap.size w1 wr) (fun iv _ => n - (intOf iv).toNat)
  case atStart => exact ⟨0, List.replicate L 0, Nat.zero_le _, rfl, List.length_replicate, Lim_zeros _, fun p h _ => by simp, by rw [V_replicate]; simp [V], Hown0.out, Hb0.out⟩
  case round =>
    clear Hown0 Hb0
    obtain ⟨i, zs0, hi, rfl, hzl, hzt, hzz, hzv, hown, hb⟩ := hrel
    have Hzl := Lib.hid hzl
    have Hzt := Lib.hid hzt
    have Hzz := Lib.hid hzz
    have Hzv := Lib.hid hzv
    have Hown := Lib.hid hown
    have Hb := Lib.hid hb
    clear hzl hzt hzz hzv hown hb
    by_cases hlt : i < n
    · have hkx : i < (limbs a).length := by rw [Hn.out]; exact hlt
      have Hva := Lib.hid (V_take_succ hkx)
      have Hxb := Lib.hid ((Lim_limbs a).getElem hkx)
      have hin : (i : Int) < n := by omega
      obtain ⟨⟨hx1, hx2⟩, hx3⟩ := Bx1.out.next Hb.out
      obtain ⟨⟨hy1, hy2⟩, hy3⟩ := By1.out.next Hb.out
      go_wp2_with fail
      go_loopw [7, 8] (fun cv jv wr => ∃ (j cc : Nat) (zs : List Nat), j ≤ n' ∧ jv = .int .i64 j ∧ cv = .int .i64 cc ∧ (cc : Int) ≤ 16777215 ∧ zs.length = L ∧ Lim zs ∧ (∀ p (h : p < zs.length), i + n' ≤ p → zs[p] = 0) ∧ V zs + Bs ^ (i + j) * cc = V ((limbs a).take i) * b + Bs ^ i * ((limbs a)[i] * V ((limbs b).take j)) ∧ wr.ownsRow w1.heap.size 2 1 (.slice (some ⟨w1.heap.size, 0, none⟩) L L) L (vs zs) ∧ Below w1.heap.size w1 wr) (fun _ jv _ => n' - (intOf jv).toNat)
      case atStart => exact ⟨0, 0, zs0, Nat.zero_le _, rfl, rfl, by simp, Hzl.out, Hzt.out, Hzz.out, by simp [V]; exact Hzv.out, Hown.out, Hb.out⟩
      case round =>
        clear Hown Hb Hzl Hzt Hzz Hzv hx1 hx2 hx3 hy1 hy2 hy3
        obtain ⟨j, cc, zs, hj, rfl, rfl, hcc, hzl, hzt, hzz, hzv, hown, hb⟩ := hrel
        have Hzl := Lib.hid hzl
        have Hzt := Lib.hid hzt
        have Hzz := Lib.hid hzz
        have Hzv := Lib.hid hzv
        have Hown := Lib.hid hown
        have Hb := Lib.hid hb
        have hcc0 : (0 : Int) ≤ cc := by omega
        clear hzl hzt hzz hzv hown hb
        obtain ⟨⟨hx1, hx2⟩, hx3⟩ := Bx1.out.next Hb.out
        obtain ⟨⟨hy1, hy2⟩, hy3⟩ := By1.out.next Hb.out
        by_cases hlt2 : j < n'
        · have hky : j < (limbs b).length := by rw [Hn'.out]; exact hlt2
          have hrb := Rb1.out.1.below (Hb.out.mono Rb1.out.2)
          obtain ⟨p', hp', _⟩ := hrb.some_ (by rw [vs_len]; omega)
          subst hp'
          have hcy := hrb.cell (k := j) (by rw [vs_len]; exact hky)
          rw [vs_get hky] at hcy
          have hra := Ra1.out.1.below (Hb.out.mono Ra1.out.2)
          obtain ⟨p, hp, _⟩ := hra.some_ (by rw [vs_len]; omega)
          subst hp
          have hcx := hra.cell (k := i) (by rw [vs_len]; exact hkx)
          rw [vs_get hkx] at hcx
          have Hvb := Lib.hid (V_take_succ hky)
          have Hyb := Lib.hid ((Lim_limbs b).getElem hky)
          have hkz : i + j < zs.length := by rw [Hzl.out, HL.out]; omega
          have hcz := Hown.out.cellAt (i + j) (by rw [← Hzl.out]; omega)
          rw [List.getElem?_eq_getElem (by rw [vs_len]; exact hkz), vs_get hkz] at hcz
          have hfz := Hown.out.frozenAt (i + j)
          have Hub := Lib.hid (Hzt.out.getElem hkz)
          obtain ⟨q, hq⟩ : ∃ q, q = (limbs a)[i] * (limbs b)[j] := ⟨_, rfl⟩
          have hxy : (((limbs a)[i] : Nat) : Int) * ((limbs b)[j] : Nat) = (q : Int) := by rw [hq, Int.natCast_mul]
          have hq0 : (0 : Int) ≤ q := by omega
          have hq1 : (q : Int) ≤ 281474943156225 := by have := mul_le_Mx Hxb.out Hyb.out; rw [← hq] at this; unfold Mx at this; omega
          have hu0 : (0 : Int) ≤ (zs[i + j] : Nat) := by omega
          have hu1 : ((zs[i + j] : Nat) : Int) ≤ 16777215 := by have := Hub.out; rw [Bs_eq] at this; omega
          have hrem : ((cc : Int) + (zs[i + j] : Nat) + q) % 16777216 = (((cc + zs[i + j] + q) % Bs : Nat) : Int) := by rw [Bs_eq]; omega
          have hquo : ((cc : Int) + (zs[i + j] : Nat) + q) / 16777216 = (((cc + zs[i + j] + q) / Bs : Nat) : Int) := by rw [Bs_eq]; omega
          obtain ⟨d, hd⟩ : ∃ d, d = (cc + zs[i + j] + q) % Bs := ⟨_, rfl⟩
          obtain ⟨e, he⟩ : ∃ e, e = (cc + zs[i + j] + q) / Bs := ⟨_, rfl⟩
          have Hs := Lib.hid (V_set_digit hkz hd he)
          have Hdb : Hid (d < Bs ∧ (e : Int) ≤ 16777215) := Lib.hid (by rw [hd, he, Bs_eq]; omega)
          rw [← hd] at hrem
          rw [← he] at hquo
          have hst3 := Hown.out.stored (i + j) (.int .i64 d)
          rw [vs_set] at hst3
          have H1 := Lib.hid hst3
          have Hnew : Hid (∀ p (h : p < (zs.set (i + j) d).length), i + n' ≤ p → (zs.set (i + j) d)[p] = 0) := Lib.hid (fun p h h2 => by
            rw [List.getElem_set, if_neg (by omega)]
            exact Hzz.out p (by rwa [List.length_set] at h) h2)
          have hjn : (j : Int) < n' := by omega
          have hijL : (i : Int) + j < L := by have := HL.out; omega
          have Hq := Lib.hid hq
          have hs1 : (0 : Int) ≤ (cc : Int) + (zs[i + j] : Nat) + q := by omega
          clear hrb hra hst3 hd he hq
          generalize (limbs a)[i] = x at *
          generalize (limbs b)[j] = y at *
          generalize zs[i + j] = u at *
          have htn : ((i : Int) + j).toNat = i + j := by omega
          have hij0 : (0 : Int) ≤ (i : Int) + j := by omega
          have hw1 : IntKind.i64.wrap ((i : Int) + j) = (i : Int) + j := IntWalk.i64_in _ (by omega)
          have hw2 : IntKind.i64.wrap ((cc : Int) + u) = (cc : Int) + u := IntWalk.i64_in _ (by clear hw1; omega)
          have hw4 : IntKind.i64.wrap ((cc : Int) + u + q) = (cc : Int) + u + q := IntWalk.i64_in _ (by clear hw1 hw2; omega)
          have hw3 : IntKind.i64.wrap ((x : Int) * y) = (q : Int) := by rw [hxy]; exact IntWalk.i64_in _ (by clear hw1 hw2 hw4; omega)
          clear hxy
          go_wp2_with fail
          go_quiet (fail)
          clear hw1 hw2 hw3 hw4
          go_wp2_with fail
          go_roundw
          case rel => exact ⟨j + 1, e, zs.set (i + j) d, by omega, by go_num, by first | rfl | rw [hquo], Hdb.out.2, by rw [List.length_set]; exact Hzl.out, Hzt.out.set Hdb.out.1, Hnew.out, by rw [← Nat.add_assoc i j 1, Hs.out, Hvb.out, mul_step, Nat.mul_add, ← Hq.out]; have := Hzv.out; omega, H1.out.1, (Hb.out.grown H1.out.2 Hb.out.size (by simp)).trans ⟨rfl, rfl, rfl, Nat.le_refl _, fun _ _ => rfl⟩⟩
          case measure => simp [intOf]; omega
        · have hjn : j = n' := by omega
          have hkz : i + n' < zs.length := by rw [Hzl.out, HL.out]; omega
          have hcz := Hown.out.cellAt (i + n') (by rw [← Hzl.out]; omega)
          rw [List.getElem?_eq_getElem (by rw [vs_len]; exact hkz), vs_get hkz] at hcz
          have hfz := Hown.out.frozenAt (i + n')
          have Hz0 := Lib.hid (Hzz.out (i + n') hkz (Nat.le_refl _))
          have Hs := Lib.hid (V_set_zero (d := cc) hkz Hz0.out)
          have hst3 := Hown.out.stored (i + n') (.int .i64 cc)
          rw [vs_set] at hst3
          have H1 := Lib.hid hst3
          have Hcb : Hid (cc < Bs) := Lib.hid (by rw [Bs_eq]; omega)
          have Hnew : Hid (∀ p (h : p < (zs.set (i + n') cc).length), i + 1 + n' ≤ p → (zs.set (i + n') cc)[p] = 0) := Lib.hid (fun p h h2 => by
            rw [List.getElem_set, if_neg (by omega)]
            exact Hzz.out p (by rwa [List.length_set] at h) (by omega))
          have Hv2 : Hid (V (zs.set (i + n') cc) = V ((limbs a).take (i + 1)) * b) := Lib.hid (by
            have h := Hzv.out
            have e : (limbs b).take n' = limbs b := take_all (by have := Hn'.out; omega)
            rw [hjn, e, V_limbs] at h
            rw [Hs.out, h, Hva.out, row_step])
          have hnl : ¬ (j : Int) < n' := by omega
          have hijL : (i : Int) + n' < L := by have := HL.out; omega
          have htn : ((i : Int) + n').toNat = i + n' := by omega
          have hij0 : (0 : Int) ≤ (i : Int) + n' := by omega
          rw [Hz0.out] at hcz
          clear hst3
          go_wp2_with fail
          go_roundw
          case rel => exact ⟨i + 1, zs.set (i + n') cc, by omega, by go_num, by rw [List.length_set]; exact Hzl.out, Hzt.out.set Hcb.out, Hnew.out, Hv2.out, H1.out.1, Hb.out.grown H1.out.2 Hb.out.size (by simp)⟩
          case measure => simp [intOf]; omega
    · have hin : i = n := by omega
      have Hfin : Hid (V zs0 = a * b) := Lib.hid (by
        have h := Hzv.out
        rw [hin, take_all (by have := Hn.out; omega), V_limbs] at h
        exact h)
      have hnl : ¬ (i : Int) < n := by omega
      have Bel2 := Lib.hid (belNext Bel1.out Hb.out)
      have Rs2 := Lib.hid (Rs1.out.next Hb.out)
      have Rdz : Hid (Rd wr wr.heap.size (some ⟨w1.heap.size, 0, none⟩) (vs zs0)) := Lib.hid (Rd.own Hown.out)
      obtain ⟨⟨hx1, hx2⟩, hx3⟩ := Bx1.out.next Hb.out
      obtain ⟨⟨hy1, hy2⟩, hy3⟩ := By1.out.next Hb.out
      have hL2 : Hid ((L : Int) ≤ 1000000) := Lib.hid (by omega)
      have hss := Hss.out
      go_wp2_with fail
      refine (make_any t (some ⟨w1.heap.size, 0, none⟩) L L wr.heap.size zs0 wr Rdz.out (Nat.le_refl _) Hzl.out Hzt.out (Int.le_refl _) hL2.out).mono ?_
      rintro e w9 ⟨val, rfl, hv, hb9⟩
      have Hz : Hid (Wz w9 wr.heap.size w9.heap.size (s * a * (s' * b)) val) := Lib.hid ((hv.z (by rw [Hfin.out]; exact Hsp.out.1)).cast_ (by rw [Hfin.out]; exact Hsp.out.2.2))
      have Rs9 := Lib.hid (Rs2.out.next hb9)
      have Bel9 := Lib.hid (belNext Bel2.out hb9)
      have Hlt := Lib.hid Rs2.out.2
      clear hv hb9 hss hx1 hx2 hx3 hy1 hy2 hy3
      obtain ⟨A9, c9, hval, _⟩ := Hz.out
      subst hval
      obtain ⟨⟨r1, r2, r3, r4⟩, _⟩ := Rs9.out
      go_wp2_with fail
      refine bodyPost_ret (v := .agg #[.int .i64 (s * a * (s' * b)).sign, .slice A9 (limbs (s * a * (s' * b)).natAbs).length c9]) (by simp [results, Try.results107, go_sem, r1, r2]) rfl ⟨_, rfl, ?_, ?_⟩
      · exact ((Hz.out.setCell (by have := Hlt.out; simp; omega) _).setCell (by have := Hlt.out; simp; omega) _).wide (by have := Hlt.out; omega) (by simp)
      · exact (Bel9.out.setCell (by simp; omega) _).setCell (by simp; omega) _
end Go.Proofs.Ytnecnbonnidijaa
/- MultiplyWholes, of the program and of the model. -/
namespace Go.Proofs.Ytnecnbonnidijaa
set_option maxRecDepth 100000
open Go.RowKit
set_option linter.unusedSimpArgs false
set_option linter.unusedVariables false

theorem mul_len {s s' : Int} {a b n n' : Nat} (hs : Sg s a) (hs' : Sg s' b) (hn : (limbs a).length = n) (hn' : (limbs b).length = n') : (limbs (s * (a : Int) * (s' * b)).natAbs).length ≤ n + n' := by
  refine limbs_len_le.2 (Nat.lt_of_le_of_lt ?_ (prod_lt hn hn'))
  rw [← (sign_prod hs hs').2.2, Int.natAbs_mul, Int.natAbs_natCast]
  have h := (sign_prod hs hs').2.1
  have h2 : (s * s').natAbs ≤ 1 := by omega
  have := Nat.mul_le_mul_right (a * b) h2
  omega

end Go.Proofs.Ytnecnbonnidijaa
/- Quotients by small divisors, of the program. -/
namespace Go.Proofs.Ytnecnbonnidijaa
set_option maxRecDepth 100000
open Go.RowKit
set_option linter.unusedSimpArgs false
set_option linter.unusedVariables false

end Go.Proofs.Ytnecnbonnidijaa
/- Shifts of limbs, of the program. -/
namespace Go.Proofs.Ytnecnbonnidijaa
set_option maxRecDepth 100000
open Go.RowKit
set_option linter.unusedSimpArgs false
set_option linter.unusedVariables false

theorem shl_wrap (x p : Nat) (hp : p ≤ 23) (hx : x < Bs) : wrap64 ((x : Int) * 2 ^ p) = ((x * 2 ^ p : Nat) : Int) := by
  have h23 : 2 ^ p ≤ 2 ^ 23 := Nat.pow_le_pow_right (by omega) hp
  have h1 : x * 2 ^ p ≤ 16777215 * 2 ^ 23 := Nat.mul_le_mul (by rw [Bs_eq] at hx; omega) h23
  have e : (x : Int) * 2 ^ p = ((x * 2 ^ p : Nat) : Int) := by rw [Int.natCast_mul, Int.natCast_pow]; rfl
  rw [e]
  exact wrap64_small (by omega) (by omega)
theorem shl_carry {c x p : Nat} (hc : c < 2 ^ p) (hx : x < Bs) : (c + x * 2 ^ p) / Bs < 2 ^ p := by
  rw [Nat.div_lt_iff_lt_mul (by rw [Bs_eq]; omega)]
  have := Nat.mul_le_mul_right (2 ^ p) (show x + 1 ≤ Bs by omega)
  rw [Nat.add_mul] at this
  rw [Nat.mul_comm (2 ^ p) Bs]
  omega
end Go.Proofs.Ytnecnbonnidijaa
/- Shifts down of limbs, of the program. -/
namespace Go.Proofs.Ytnecnbonnidijaa
set_option maxRecDepth 100000
open Go.RowKit
set_option linter.unusedSimpArgs false
set_option linter.unusedVariables false

theorem V_drop_div {xs : List Nat} (h : Lim xs) {m : Nat} (hm : m ≤ xs.length) : V (xs.drop m) = V xs / Bs ^ m := by
  have h1 := V_take_drop xs m hm
  have h2 := V_lt (h.take m)
  rw [List.length_take, Nat.min_eq_left hm] at h2
  rw [h1, Nat.add_mul_div_left _ _ (Bs_pow_pos m), Nat.div_eq_of_lt h2, Nat.zero_add]
theorem and_low (t p : Nat) (ht : t < 9223372036854775808) (hp : p ≤ 23) : bits .and .i64 (t : Int) ((2 : Int) ^ p - 1) = ((t % 2 ^ p : Nat) : Int) := by
  have h23 : 2 ^ p ≤ 2 ^ 23 := Nat.pow_le_pow_right (by omega) hp
  have h1 := Nat.two_pow_pos p
  have e : (2 : Int) ^ p - 1 = ((2 ^ p - 1 : Nat) : Int) := by rw [Int.natCast_sub h1, Int.natCast_pow]; rfl
  rw [e]
  show IntKind.i64.wrap ((BitVec.ofInt 64 (t : Int) &&& BitVec.ofInt 64 (((2 ^ p - 1 : Nat)) : Int)).toNat : Int) = _
  have h2 : (BitVec.ofInt 64 (t : Int)).toNat = t := by rw [BitVec.ofInt_natCast, BitVec.toNat_ofNat]; exact Nat.mod_eq_of_lt (by omega)
  have h3 : (BitVec.ofInt 64 (((2 ^ p - 1 : Nat)) : Int)).toNat = 2 ^ p - 1 := by rw [BitVec.ofInt_natCast, BitVec.toNat_ofNat]; exact Nat.mod_eq_of_lt (by omega)
  rw [BitVec.toNat_and, h2, h3, Nat.and_two_pow_sub_one_eq_mod]
  have := Nat.mod_lt t h1
  exact wrapI_small (by omega) (by omega)

end Go.Proofs.Ytnecnbonnidijaa
/- Whole and exact numbers as values and in boxes; the table of Go's library. -/
namespace Go.Proofs.Ytnecnbonnidijaa
set_option maxRecDepth 100000
open Go.RowKit
set_option linter.unusedSimpArgs false
set_option linter.unusedVariables false

/-- a value's parts that are the whole number z, its limbs to be read -/
def ZV (w : World) (z S : Int) (A : Option Addr) (n c : Nat) : Prop := S = z.sign ∧ (limbs z.natAbs).length = n ∧ n ≤ c ∧ Rd w w.heap.size A (vs (limbs z.natAbs))
/-- .. its limbs a row of the call's own -/
def ZO (w : World) (lo hi : Nat) (z S : Int) (A : Option Addr) (n c : Nat) : Prop := S = z.sign ∧ (limbs z.natAbs).length = n ∧ n ≤ c ∧ Ow w lo hi A (vs (limbs z.natAbs)) ∧ hi ≤ w.heap.size
section
variable {w w' : World} {z S : Int} {A : Option Addr} {n c lo hi : Nat}
theorem ZV.next (h : ZV w z S A n c) (hb : Below w.heap.size w w') : ZV w' z S A n c := ⟨h.1, h.2.1, h.2.2.1, (h.2.2.2.below hb).up hb.size⟩
theorem ZV.drew (h : ZV w z S A n c) : ZV w.drew z S A n c := h
theorem sg_sign (z : Int) : Sg z.sign z.natAbs := by
  refine ⟨?_, ?_, ?_⟩
  · rcases Int.lt_trichotomy z 0 with h | h | h
    · rw [Int.sign_eq_neg_one_of_neg h]; omega
    · subst h; simp
    · rw [Int.sign_eq_one_of_pos h]; omega
  · rcases Int.lt_trichotomy z 0 with h | h | h
    · rw [Int.sign_eq_neg_one_of_neg h]; omega
    · subst h; simp
    · rw [Int.sign_eq_one_of_pos h]; omega
  · rw [Int.sign_eq_zero_iff_zero]; omega
theorem ZV.sg (h : ZV w z S A n c) : Sg S z.natAbs := by rw [h.1]; exact sg_sign z
theorem ZV.val (h : ZV w z S A n c) : S * (z.natAbs : Int) = z := by rw [h.1]; exact Int.sign_mul_natAbs z
theorem ZV.len (h : ZV w z S A n c) : (limbs z.natAbs).length = n := h.2.1
theorem ZV.rd (h : ZV w z S A n c) : Rd w w.heap.size A (vs (limbs z.natAbs)) := h.2.2.2
theorem ZV.cap (h : ZV w z S A n c) : n ≤ c := h.2.2.1
theorem ZV.neg (h : ZV w z S A n c) : ZV w (-z) (-S) A n c := by
  refine ⟨?_, ?_, h.2.2.1, ?_⟩
  · rw [Int.sign_neg, h.1]
  · rw [Int.natAbs_neg]; exact h.2.1
  · rw [Int.natAbs_neg]; exact h.2.2.2
theorem ZV.cast_ {z' : Int} (h : ZV w z S A n c) (e : z = z') : ZV w z' S A n c := e ▸ h
theorem ZO.zv (h : ZO w lo hi z S A n c) : ZV w z S A n c := ⟨h.1, h.2.1, h.2.2.1, h.2.2.2.1.rd.up h.2.2.2.2⟩
theorem ZO.cast_ {z' : Int} (h : ZO w lo hi z S A n c) (e : z = z') : ZO w lo hi z' S A n c := e ▸ h
theorem ZO.next (h : ZO w lo hi z S A n c) (hb : Below w.heap.size w w') : ZO w' lo hi z S A n c := ⟨h.1, h.2.1, h.2.2.1, h.2.2.2.1.below' hb, Nat.le_trans h.2.2.2.2 hb.size⟩
theorem ZO.wide {lo' hi' : Nat} (h : ZO w lo hi z S A n c) (h1 : lo' ≤ lo) (h2 : hi ≤ hi') (h3 : hi' ≤ w.heap.size) : ZO w lo' hi' z S A n c := ⟨h.1, h.2.1, h.2.2.1, h.2.2.2.1.wide h1 h2, h3⟩
theorem ZO.setCell (h : ZO w lo hi z S A n c) {p : Addr} (hp : p.block < lo ∨ hi ≤ p.block) (u : Value) : ZO (w.setCell p u) lo hi z S A n c := ⟨h.1, h.2.1, h.2.2.1, h.2.2.2.1.setCell hp u, by have := h.2.2.2.2; simpa using this⟩
theorem ZO.alloc (h : ZO w lo hi z S A n c) (o : Obj) : ZO (w.alloc o) lo hi z S A n c := h.next (belAlloc1 w o)
theorem ZO.drew (h : ZO w lo hi z S A n c) : ZO w.drew lo hi z S A n c := h
theorem ZO.zero (h : hi ≤ w.heap.size) : ZO w lo hi 0 0 none 0 0 := ⟨by simp, by simp [limbs_zero], Nat.le_refl _, by simp [limbs_zero, vs, li, vi]; exact .inl rfl, h⟩
theorem ZV.zero : ZV w 0 0 none 0 0 := ⟨by simp, by simp [limbs_zero], Nat.le_refl _, by simp [limbs_zero, vs, li, vi]; exact Rd.nil_⟩
theorem Wz.zo {val : Value} (h : Wz w lo hi z val) (hi_ : hi ≤ w.heap.size) : ∃ S A n c, val = .agg #[.int .i64 S, .slice A n c] ∧ ZO w lo hi z S A n c := by
  obtain ⟨A, c, h1, h2, h3⟩ := h
  exact ⟨_, A, _, c, h1, rfl, rfl, h3, h2, hi_⟩
end

/-- an exact number's box -/
def DBox (w : World) (b : Nat) (S : Int) (A : Option Addr) (n c : Nat) (E : Int) : Prop := (w.cell? ⟨b, 0, none⟩ = some (.int .i64 S) ∧ w.cell? ⟨b, 1, none⟩ = some (.slice A n c) ∧ w.cell? ⟨b, 2, none⟩ = some (.int .i64 E)) ∧ b < w.heap.size
/-- a result's box, yet untouched -/
def DRes (w : World) (b : Nat) : Prop := (w.cell? ⟨b, 0, none⟩ = some (.int .i64 0) ∧ w.cell? ⟨b, 1, none⟩ = some (.slice none 0 0) ∧ w.cell? ⟨b, 2, none⟩ = some (.int .i64 0) ∧ w.frozen? ⟨b, 0, none⟩ = false ∧ w.frozen? ⟨b, 1, none⟩ = false ∧ w.frozen? ⟨b, 2, none⟩ = false) ∧ b < w.heap.size
section
variable {w w' : World} {S E : Int} {A : Option Addr} {n c b : Nat}
theorem DBox.next (h : DBox w b S A n c E) (hb : Below w.heap.size w w') : DBox w' b S A n c E :=
  ⟨⟨(hb.cell (p := ⟨b, 0, none⟩) h.2).trans h.1.1, (hb.cell (p := ⟨b, 1, none⟩) h.2).trans h.1.2.1, (hb.cell (p := ⟨b, 2, none⟩) h.2).trans h.1.2.2⟩, Nat.lt_of_lt_of_le h.2 hb.size⟩
theorem DRes.next (h : DRes w b) (hb : Below w.heap.size w w') : DRes w' b :=
  ⟨⟨(hb.cell (p := ⟨b, 0, none⟩) h.2).trans h.1.1, (hb.cell (p := ⟨b, 1, none⟩) h.2).trans h.1.2.1, (hb.cell (p := ⟨b, 2, none⟩) h.2).trans h.1.2.2.1, (hb.frozen (p := ⟨b, 0, none⟩) h.2).trans h.1.2.2.2.1, (hb.frozen (p := ⟨b, 1, none⟩) h.2).trans h.1.2.2.2.2.1, (hb.frozen (p := ⟨b, 2, none⟩) h.2).trans h.1.2.2.2.2.2⟩, Nat.lt_of_lt_of_le h.2 hb.size⟩
theorem DBox.drew (h : DBox w b S A n c E) : DBox w.drew b S A n c E := h
theorem DRes.drew (h : DRes w b) : DRes w.drew b := h
theorem DBox.keep (h : DBox w b S A n c E) {p : Addr} (hp : p.block ≠ b) (u : Value) : DBox (w.setCell p u) b S A n c E := by
  have hk : ∀ o, (w.setCell p u).cell? ⟨b, o, none⟩ = w.cell? ⟨b, o, none⟩ := fun o => World.cell?_of_block (a := ⟨b, o, none⟩) (Below.heap_setCell _ _ _ _ (fun e => hp e.symm))
  exact ⟨⟨(hk 0).trans h.1.1, (hk 1).trans h.1.2.1, (hk 2).trans h.1.2.2⟩, by have := h.2; simpa using this⟩
theorem DBox.new (w : World) (S : Int) (A : Option Addr) (n c : Nat) (E : Int) (t : TypeId) : DBox (w.alloc (.cells #[.int .i64 S, .slice A n c, .int .i64 E] t)) w.heap.size S A n c E := by
  refine ⟨⟨?_, ?_, ?_⟩, ?_⟩ <;> simp
theorem DRes.new (w : World) (t : TypeId) : DRes (w.alloc (.cells #[.int .i64 0, .slice none 0 0, .int .i64 0] t)) w.heap.size := by
  refine ⟨⟨?_, ?_, ?_, ?_, ?_, ?_⟩, ?_⟩
  · simp
  · simp
  · simp
  · go_simp
  · go_simp
  · go_simp
  · simp
end
/-- the boxes of one argument and of the result -/
theorem dbox_res (w : World) (S : Int) (A : Option Addr) (n c : Nat) (E : Int) (t t2 : TypeId) :
    ∃ W, W = (w.alloc (.cells #[.int .i64 S, .slice A n c, .int .i64 E] t)).alloc (.cells #[.int .i64 0, .slice none 0 0, .int .i64 0] t2) ∧
      DBox W w.heap.size S A n c E ∧ DRes W (w.heap.size + 1) ∧ Below w.heap.size w W := by
  refine ⟨_, rfl, (DBox.new w S A n c E t).next (belAlloc1 _ _), ?_, ?_⟩
  · have h := DRes.new (w.alloc (.cells #[.int .i64 S, .slice A n c, .int .i64 E] t)) t2
    simpa using h
  · exact belNext (belAlloc1 _ _) (belAlloc1 _ _)
/-- of two arguments and of the result -/
theorem dbox2_res (w : World) (S S' : Int) (A A' : Option Addr) (n n' c c' : Nat) (E E' : Int) (t t' t2 : TypeId) :
    ∃ W, W = ((w.alloc (.cells #[.int .i64 S, .slice A n c, .int .i64 E] t)).alloc (.cells #[.int .i64 S', .slice A' n' c', .int .i64 E'] t')).alloc (.cells #[.int .i64 0, .slice none 0 0, .int .i64 0] t2) ∧
      DBox W w.heap.size S A n c E ∧ DBox W (w.heap.size + 1) S' A' n' c' E' ∧ DRes W (w.heap.size + 1 + 1) ∧ Below w.heap.size w W := by
  refine ⟨_, rfl, ((DBox.new w S A n c E t).next (belAlloc1 _ _)).next (belAlloc1 _ _), ?_, ?_, ?_⟩
  · have h := (DBox.new (w.alloc (.cells #[.int .i64 S, .slice A n c, .int .i64 E] t)) S' A' n' c' E' t').next (belAlloc1 _ (.cells #[.int .i64 0, .slice none 0 0, .int .i64 0] t2))
    simpa using h
  · have h := DRes.new ((w.alloc (.cells #[.int .i64 S, .slice A n c, .int .i64 E] t)).alloc (.cells #[.int .i64 S', .slice A' n' c', .int .i64 E'] t')) t2
    simpa using h
  · exact belNext (belNext (belAlloc1 _ _) (belAlloc1 _ _)) (belAlloc1 _ _)
/-- of two arguments -/
theorem dbox2 (w : World) (S S' : Int) (A A' : Option Addr) (n n' c c' : Nat) (E E' : Int) (t t' : TypeId) :
    ∃ W, W = (w.alloc (.cells #[.int .i64 S, .slice A n c, .int .i64 E] t)).alloc (.cells #[.int .i64 S', .slice A' n' c', .int .i64 E'] t') ∧
      DBox W w.heap.size S A n c E ∧ DBox W (w.heap.size + 1) S' A' n' c' E' ∧ Below w.heap.size w W := by
  refine ⟨_, rfl, (DBox.new w S A n c E t).next (belAlloc1 _ _), ?_, ?_⟩
  · have h := DBox.new (w.alloc (.cells #[.int .i64 S, .slice A n c, .int .i64 E] t)) S' A' n' c' E' t'
    simpa using h
  · exact belNext (belAlloc1 _ _) (belAlloc1 _ _)

end Go.Proofs.Ytnecnbonnidijaa
/- Shifts of a whole number, of the program. -/
namespace Go.Proofs.Ytnecnbonnidijaa
set_option maxRecDepth 100000
open Go.RowKit
set_option linter.unusedSimpArgs false
set_option linter.unusedVariables false

theorem sgn_or {S z : Int} (hS : S = z.sign) {v : Nat} (h : z = 0 → v = 0) : S = 1 ∨ S = -1 ∨ v = 0 := by
  subst hS
  rcases Int.lt_trichotomy z 0 with h1 | h1 | h1
  · exact .inr (.inl (Int.sign_eq_neg_one_of_neg h1))
  · exact .inr (.inr (h h1))
  · exact .inl (Int.sign_eq_one_of_pos h1)
theorem shl_len {v n : Nat} (hn : (limbs v).length = n) (m : Nat) : (limbs (2 ^ m * v)).length ≤ n + m / 24 + 1 := by
  rw [limbs_len_le]
  have h1 := limbs_len_le.1 (show (limbs v).length ≤ n by omega)
  have h2 : 2 ^ m ≤ Bs ^ (m / 24 + 1) := by rw [Bs_pow]; exact Nat.pow_le_pow_right (by omega) (by omega)
  have e : Bs ^ (n + m / 24 + 1) = Bs ^ (m / 24 + 1) * Bs ^ n := by rw [← Nat.pow_add]; congr 1; omega
  rw [e]
  exact Nat.mul_lt_mul_of_le_of_lt h2 h1 (Bs_pow_pos _)
theorem sh_up {z S : Int} (hS : S = z.sign) (m : Nat) : S * ((2 ^ m * z.natAbs : Nat) : Int) = shZ z m := by
  rw [shZ_up (by omega), Int.toNat_natCast, Int.natCast_mul, Int.mul_left_comm, hS, Int.sign_mul_natAbs, pow_cast]
theorem limbs_1 : limbs 1 = [1] := by rw [limbs_pos (by omega)]; rw [Bs_eq, show 1 / 16777216 = 0 from rfl, limbs_zero]
end Go.Proofs.Ytnecnbonnidijaa
/- Exact numbers without their last twos, and limited, of the program. -/
namespace Go.Proofs.Ytnecnbonnidijaa
set_option maxRecDepth 100000
open Go.RowKit
set_option linter.unusedSimpArgs false
set_option linter.unusedVariables false

/-- an exact number is laid into a box -/
def st3 (w : World) (b : Nat) (S : Int) (A : Option Addr) (n c : Nat) (E : Int) : World := ((w.setCell ⟨b, 0, none⟩ (.int .i64 S)).setCell ⟨b, 1, none⟩ (.slice A n c)).setCell ⟨b, 2, none⟩ (.int .i64 E)
/-- nothing of a box is frozen -/
def Fr3 (w : World) (b : Nat) : Prop := (w.frozen? ⟨b, 0, none⟩ = false ∧ w.frozen? ⟨b, 1, none⟩ = false ∧ w.frozen? ⟨b, 2, none⟩ = false) ∧ b < w.heap.size
section
variable {w w' : World} {b : Nat} {S E : Int} {A : Option Addr} {n c : Nat}
theorem Fr3.next (h : Fr3 w b) (hb : Below w.heap.size w w') : Fr3 w' b :=
  ⟨⟨(hb.frozen (p := ⟨b, 0, none⟩) h.2).trans h.1.1, (hb.frozen (p := ⟨b, 1, none⟩) h.2).trans h.1.2.1, (hb.frozen (p := ⟨b, 2, none⟩) h.2).trans h.1.2.2⟩, Nat.lt_of_lt_of_le h.2 hb.size⟩
theorem Fr3.drew (h : Fr3 w b) : Fr3 w.drew b := h
theorem Fr3.new (w : World) (S : Int) (A : Option Addr) (n c : Nat) (E : Int) (t : TypeId) : Fr3 (w.alloc (.cells #[.int .i64 S, .slice A n c, .int .i64 E] t)) w.heap.size := by
  refine ⟨⟨?_, ?_, ?_⟩, ?_⟩
  · go_simp
  · go_simp
  · go_simp
  · simp
theorem st3_size : (st3 w b S A n c E).heap.size = w.heap.size := by unfold st3; simp
theorem DBox.made (h : b < w.heap.size) (h0 : ∃ u, w.cell? ⟨b, 0, none⟩ = some u) (h1 : ∃ u, w.cell? ⟨b, 1, none⟩ = some u) (h2 : ∃ u, w.cell? ⟨b, 2, none⟩ = some u) : DBox (st3 w b S A n c E) b S A n c E := by
  obtain ⟨u0, h0⟩ := h0
  obtain ⟨u1, h1⟩ := h1
  obtain ⟨u2, h2⟩ := h2
  refine ⟨⟨?_, ?_, ?_⟩, by rw [st3_size]; exact h⟩ <;> · unfold st3; go_simp
theorem Fr3.made (h : Fr3 w b) : Fr3 (st3 w b S A n c E) b := by
  obtain ⟨⟨h0, h1, h2⟩, h3⟩ := h
  refine ⟨⟨?_, ?_, ?_⟩, by rw [st3_size]; exact h3⟩ <;> · unfold st3; go_simp
end

theorem sign_eq_zero {z S : Int} (hS : S = z.sign) : S = 0 ↔ z = 0 := by rw [hS, Int.sign_eq_zero_iff_zero]
end Go.Proofs.Ytnecnbonnidijaa
/- Exact numbers: opposites, products, floors, tops, of the program. -/
namespace Go.Proofs.Ytnecnbonnidijaa
set_option maxRecDepth 100000
open Go.RowKit
set_option linter.unusedSimpArgs false
set_option linter.unusedVariables false

end Go.Proofs.Ytnecnbonnidijaa
/- Exact numbers: sums, comparing, of the program. -/
namespace Go.Proofs.Ytnecnbonnidijaa
set_option maxRecDepth 100000
open Go.RowKit
set_option linter.unusedSimpArgs false
set_option linter.unusedVariables false

end Go.Proofs.Ytnecnbonnidijaa
/- Multiples of a divisor added to a part of a row, of the program. -/
namespace Go.Proofs.Ytnecnbonnidijaa
set_option maxRecDepth 100000
open Go.RowKit
set_option linter.unusedSimpArgs false
set_option linter.unusedVariables false

/-- the value of cells that may be below zero -/
def VI : List Int → Int
  | [] => 0
  | x :: r => x + (Bs : Int) * VI r
end Go.Proofs.Ytnecnbonnidijaa
/- Taking a divisor off a rest: the mathematics. -/
namespace Go.Proofs.Ytnecnbonnidijaa
set_option maxRecDepth 100000
open Go.RowKit
set_option linter.unusedSimpArgs false
set_option linter.unusedVariables false

theorem VI_append : ∀ (a b : List Int), VI (a ++ b) = VI a + (Bs : Int) ^ a.length * VI b
  | [], b => by simp [VI]
  | x :: r, b => by
    have ih := VI_append r b
    rw [List.cons_append]
    simp only [VI, List.length_cons]
    rw [ih, Int.mul_add, ← Int.mul_assoc, Int.pow_succ, Int.mul_comm (Bs : Int) ((Bs : Int) ^ r.length)]
    omega
theorem pow_posI (n : Nat) : 0 < (Bs : Int) ^ n := Int.pow_pos (by rw [Bs_eq]; decide)

/-- a rest while a divisor is taken off its cells from o to o + n -/
structure Tk (ws ds : List Nat) (o n : Nat) (g : Int) (ys : List Int) : Prop where
  len : ys.length = ws.length
  far : ∀ p, p < o ∨ o + n < p → ys[p]? = (li ws)[p]?
  near : ∀ j, j < n → ∃ t : Nat, t < Bs ∧ ys[o + j]? = some (t : Int)
  val : VI (ys.drop o) = (V (ws.drop o) : Int) - g * V ds
  low : 0 ≤ g
  high : g ≤ 16777215
  over : (V (ws.drop o) : Int) < (g + 1) * V ds

section
variable {ws ds : List Nat} {o n : Nat} {g : Int} {ys : List Int}
/-- what was added -/
theorem tk_added {f : Int} {zs : List Int} (hlen : ys.length = ws.length) (hfar : ∀ p, p < o ∨ o + n < p → ys[p]? = (li ws)[p]?) (hval : VI (ys.drop o) = (V (ws.drop o) : Int) - g * V ds) (hl : zs.length = ys.length) (hv : VI zs = VI ys + (Bs : Int) ^ o * (f * V ds)) (hf : ∀ p, p < o ∨ o + n < p → zs[p]? = ys[p]?) (hn : ∀ j, j < n → ∃ t : Nat, t < Bs ∧ zs[o + j]? = some (t : Int)) (ho : o ≤ ws.length) (h0 : 0 ≤ g - f) (h1 : g - f ≤ 16777215) (h2 : (V (ws.drop o) : Int) < (g - f + 1) * V ds) : Tk ws ds o n (g - f) zs := by
  refine ⟨hl.trans hlen, fun p hp => (hf p hp).trans (hfar p hp), hn, ?_, h0, h1, h2⟩
  have e1 : zs.take o = ys.take o := by
    apply List.ext_getElem?
    intro p
    rw [List.getElem?_take, List.getElem?_take]
    split
    · exact hf p (by omega)
    · rfl
  have hz := VI_append (zs.take o) (zs.drop o)
  have hy := VI_append (ys.take o) (ys.drop o)
  rw [List.take_append_drop, List.length_take, hl, hlen, Nat.min_eq_left ho, e1] at hz
  rw [List.take_append_drop, List.length_take, hlen, Nat.min_eq_left ho] at hy
  have h3 : (Bs : Int) ^ o * VI (zs.drop o) = (Bs : Int) ^ o * (VI (ys.drop o) + f * V ds) := by rw [Int.mul_add]; omega
  have h4 := Int.eq_of_mul_eq_mul_left (Int.ne_of_gt (pow_posI o)) h3
  rw [h4, hval, Int.sub_mul]
  omega
theorem Tk.added {f : Int} {zs : List Int} (h : Tk ws ds o n g ys) (hl : zs.length = ys.length) (hv : VI zs = VI ys + (Bs : Int) ^ o * (f * V ds)) (hf : ∀ p, p < o ∨ o + n < p → zs[p]? = ys[p]?) (hn : ∀ j, j < n → ∃ t : Nat, t < Bs ∧ zs[o + j]? = some (t : Int)) (ho : o ≤ ws.length) (h0 : 0 ≤ g - f) (h1 : g - f ≤ 16777215) (h2 : (V (ws.drop o) : Int) < (g - f + 1) * V ds) : Tk ws ds o n (g - f) zs :=
  tk_added h.len h.far h.val hl hv hf hn ho h0 h1 h2
end
end Go.Proofs.Ytnecnbonnidijaa
/- Taking a divisor off a rest, of the program. -/
namespace Go.Proofs.Ytnecnbonnidijaa
set_option maxRecDepth 100000
open Go.RowKit
set_option linter.unusedSimpArgs false
set_option linter.unusedVariables false

end Go.Proofs.Ytnecnbonnidijaa
/- Quotients of limbs by one limb, of the program. -/
namespace Go.Proofs.Ytnecnbonnidijaa
set_option maxRecDepth 100000
open Go.RowKit
set_option linter.unusedSimpArgs false
set_option linter.unusedVariables false

end Go.Proofs.Ytnecnbonnidijaa
/- Quotients of limbs by greater ones, of the program. -/
namespace Go.Proofs.Ytnecnbonnidijaa
set_option maxRecDepth 100000
open Go.RowKit
set_option linter.unusedSimpArgs false
set_option linter.unusedVariables false

end Go.Proofs.Ytnecnbonnidijaa
/- Long division: the mathematics. -/
namespace Go.Proofs.Ytnecnbonnidijaa
set_option maxRecDepth 100000
open Go.RowKit
set_option linter.unusedSimpArgs false
set_option linter.unusedVariables false

/-- what is kept while the quotient's limbs are found, from the last to the first -/
structure Ld (M D i L : Nat) (ws qs : List Nat) : Prop where
  lim : Lim ws
  limq : Lim qs
  lenq : qs.length = L
  sum : V ws + Bs ^ i * (V (qs.drop i) * D) = M
  less : V (ws.drop i) < D

end Go.Proofs.Ytnecnbonnidijaa
/- Long division, of the program. -/
namespace Go.Proofs.Ytnecnbonnidijaa
set_option maxRecDepth 100000
open Go.RowKit
set_option linter.unusedSimpArgs false
set_option linter.unusedVariables false

end Go.Proofs.Ytnecnbonnidijaa
/- Quotients of limbs, of the program. -/
namespace Go.Proofs.Ytnecnbonnidijaa
set_option maxRecDepth 100000
open Go.RowKit
set_option linter.unusedSimpArgs false
set_option linter.unusedVariables false

end Go.Proofs.Ytnecnbonnidijaa
