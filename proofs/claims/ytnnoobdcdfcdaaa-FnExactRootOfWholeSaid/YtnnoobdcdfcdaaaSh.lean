/- Shifts of limbs, of the program. -/
import Derived.Test.YtnnoobdcdfcdaaaDs
namespace Go.Proofs.Ytnnoobdcdfcdaaa
set_option maxRecDepth 100000
open Go.RowKit
set_option linter.unusedSimpArgs false
set_option linter.unusedVariables false

theorem or_part (c x p : Nat) (hc : c < 2 ^ p) (hp : p ≤ 23) (hx : x < Bs) : bits .or .i64 (c : Int) ((x * 2 ^ p : Nat) : Int) = ((c + x * 2 ^ p : Nat) : Int) := by
  have h23 : 2 ^ p ≤ 2 ^ 23 := Nat.pow_le_pow_right (by omega) hp
  have h1 : x * 2 ^ p ≤ 16777215 * 2 ^ 23 := Nat.mul_le_mul (by rw [Bs_eq] at hx; omega) h23
  rw [or_i64 _ _ (by omega) (by omega)]
  congr 1
  rw [Nat.or_comm, Nat.mul_comm, ← Nat.two_pow_add_eq_or_of_lt hc, Nat.add_comm]
theorem shl_wrap (x p : Nat) (hp : p ≤ 23) (hx : x < Bs) : wrap64 ((x : Int) * 2 ^ p) = ((x * 2 ^ p : Nat) : Int) := by
  have h23 : 2 ^ p ≤ 2 ^ 23 := Nat.pow_le_pow_right (by omega) hp
  have h1 : x * 2 ^ p ≤ 16777215 * 2 ^ 23 := Nat.mul_le_mul (by rw [Bs_eq] at hx; omega) h23
  have e : (x : Int) * 2 ^ p = ((x * 2 ^ p : Nat) : Int) := by rw [Int.natCast_mul, Int.natCast_pow]; rfl
  rw [e]
  exact wrap64_small (by omega) (by omega)
theorem shl_carry {c x p : Nat} (hc : c < 2 ^ p) (hx : x < Bs) : (c + x * 2 ^ p) / Bs < 2 ^ p := by
  rw [Nat.div_lt_iff_lt_mul (by rw [Bs_eq]; omega)]
  have := Nat.mul_le_mul_right (2 ^ p) (show x + 1 ≤ Bs by omega)
  rw [Nat.add_mul] at this
  rw [Nat.mul_comm (2 ^ p) Bs]
  omega
theorem shl_step {zs xs : List Nat} {m k c p : Nat} (hk : m + k < zs.length) (hx : k < xs.length) (hl : Lim (zs.take (m + k))) (hv : V (zs.take (m + k)) + Bs ^ (m + k) * c = Bs ^ m * (2 ^ p * V (xs.take k))) :
    Lim ((zs.set (m + k) ((c + xs[k] * 2 ^ p) % Bs)).take (m + (k + 1))) ∧ V ((zs.set (m + k) ((c + xs[k] * 2 ^ p) % Bs)).take (m + (k + 1))) + Bs ^ (m + (k + 1)) * ((c + xs[k] * 2 ^ p) / Bs) = Bs ^ m * (2 ^ p * V (xs.take (k + 1))) := by
  have hd : (c + xs[k] * 2 ^ p) % Bs < Bs := Nat.mod_lt _ (by rw [Bs_eq]; omega)
  refine ⟨?_, ?_⟩
  · rw [← Nat.add_assoc, List.take_succ_eq_append_getElem (by rw [List.length_set]; exact hk), List.getElem_set_self, List.take_set_of_le (Nat.le_refl _)]
    exact hl.append (Lim_one hd)
  · rw [← Nat.add_assoc, V_set_take hk]
    have h3 := carry_step (x := xs[k] * 2 ^ p) (m + k) hv
    rw [h3, V_take_succ hx, Nat.mul_add, Nat.mul_add, Nat.pow_add]
    congr 1
    rw [Nat.mul_assoc]
    congr 1
    rw [Nat.mul_comm (xs[k]), Nat.mul_left_comm]

set_option maxHeartbeats 1000000 in
theorem natShl_any (v k : Nat) (A : Option Addr) (n c B : Nat) (w : World) (hr : Rd w B A (vs (limbs v))) (hB : B ≤ w.heap.size) (hn : (limbs v).length = n) (hm : (n : Int) ≤ 100000) (hk : (k : Int) ≤ 1000000) :
    Calls Try.prog 79 #[.slice A n c, .int .i64 k] w fun e w' => ∃ A2, e = .returned (.slice A2 (limbs (2 ^ k * v)).length (limbs (2 ^ k * v)).length) ∧ Ow w' w.heap.size w'.heap.size A2 (vs (limbs (2 ^ k * v))) ∧ Below w.heap.size w w' := by
  obtain ⟨i0, hi0, hz0, hz1, hz2⟩ := info_parts infoI
  have hst := store_int Try.prog
  have Hr := Lib.hid (hr.up hB)
  have Hn := Lib.hid hn
  obtain ⟨m, hmm⟩ : ∃ m, m = k / 24 := ⟨_, rfl⟩
  obtain ⟨p, hpp⟩ : ∃ p, p = k % 24 := ⟨_, rfl⟩
  obtain ⟨L, hL⟩ : ∃ L, L = m + n + 1 := ⟨_, rfl⟩
  have hkm : (k : Int) / 24 = m := by omega
  have hkp : (k : Int) % 24 = p := by omega
  have hp23 : (p : Int) ≤ 23 := by omega
  have hmb : (m : Int) ≤ 50000 := by omega
  have hLi : (m : Int) + n + 1 = L := by omega
  have HL := Lib.hid hL
  have Hk : Hid (k = 24 * m + p) := Lib.hid (by omega)
  have hbytes : i0.bytes * L ≤ 281474976710656 := by rw [hz2]; omega
  clear hr hn hB hmm hpp hL
  go_enter Try.func79, Try.ntmps79
  go_wp2_with (refine wpList_make_full _ rfl _ _ _ rfl w.heap.size 2 i0 _ 1 Try.underlying61 hi0 hz0 hz1 _ _ _ _ L rfl rfl rfl rfl hbytes (by unfold maxLen; omega) (Nat.le_refl _) ?_; intro w1 hown hg)
  rw [made_zeros] at hown
  have Hown := Lib.hid hown
  have Hb1 : Hid (Below w.heap.size w w1) := Lib.hid ((Below.refl _ _).grown hg (Nat.le_refl _) (by simp))
  clear hown hg hbytes
  go_loopw [8, 9, 10, 23] (fun cv _ _ iv wr => ∃ (i c : Nat) (zs : List Nat), i ≤ n ∧ iv = .int .i64 i ∧ cv = .int .i64 c ∧ c < 2 ^ p ∧ zs.length = L ∧ Lim (zs.take (m + i)) ∧ V (zs.take (m + i)) + Bs ^ (m + i) * c = Bs ^ m * (2 ^ p * V ((limbs v).take i)) ∧ wr.ownsRow w.heap.size 2 1 (.slice (some ⟨w.heap.size, 0, none⟩) L L) L (vs zs) ∧ Below w.heap.size w wr) (fun _ _ _ iv _ => n - (intOf iv).toNat)
  case atStart =>
    refine ⟨0, 0, List.replicate L 0, Nat.zero_le _, rfl, rfl, Nat.two_pow_pos _, List.length_replicate, (Lim_zeros _).take _, ?_, Hown.out, Hb1.out⟩
    rw [List.take_replicate, V_replicate]
    simp [V]
  case round =>
    clear Hown Hb1
    obtain ⟨i, cc, zs, hi, rfl, rfl, hcc, hzl, hzt, hzv, hown, hb⟩ := hrel
    have Hcc := Lib.hid hcc
    have Hzl := Lib.hid hzl
    have Hzt := Lib.hid hzt
    have Hzv := Lib.hid hzv
    have Hown := Lib.hid hown
    have Hb := Lib.hid hb
    have hpb : (2 : Nat) ^ p ≤ 2 ^ 23 := Nat.pow_le_pow_right (by omega) (by omega)
    have hcc1 : (cc : Int) ≤ 8388607 := by omega
    have hcc0 : (0 : Int) ≤ cc := by omega
    clear hcc hzl hzt hzv hown hb hpb
    by_cases hlt : i < n
    · have hkx : i < (limbs v).length := by rw [Hn.out]; exact hlt
      have hra := Hr.out.below Hb.out
      obtain ⟨q, hq, _⟩ := hra.some_ (by rw [vs_len]; omega)
      subst hq
      have hcx := hra.cell (k := i) (by rw [vs_len]; exact hkx)
      rw [vs_get hkx] at hcx
      have Hxb := Lib.hid ((Lim_limbs v).getElem hkx)
      have hkz : m + i < zs.length := by rw [Hzl.out, HL.out]; omega
      have hcz := Hown.out.cellAt (m + i) (by rw [← Hzl.out]; omega)
      rw [List.getElem?_eq_getElem (by rw [vs_len]; exact hkz), vs_get hkz] at hcz
      have hfz := Hown.out.frozenAt (m + i)
      have Hs := Lib.hid (shl_step hkz hkx Hzt.out Hzv.out)
      have hx0 : (0 : Int) ≤ ((limbs v)[i] : Nat) := by omega
      have hx1 : (((limbs v)[i] : Nat) : Int) ≤ 16777215 := by have := Hxb.out; rw [Bs_eq] at this; omega
      have hsw := shl_wrap _ p (by omega) Hxb.out
      have hor := or_part cc _ p Hcc.out (by omega) Hxb.out
      have Hcar := Lib.hid (shl_carry Hcc.out Hxb.out)
      generalize (limbs v)[i] = x at *
      generalize zs[m + i] = u at *
      obtain ⟨y, hy⟩ : ∃ y, y = x * 2 ^ p := ⟨_, rfl⟩
      rw [← hy] at hsw hor Hs Hcar
      have hyb : y ≤ 16777215 * 2 ^ 23 := by rw [hy]; exact Nat.mul_le_mul (by omega) (Nat.pow_le_pow_right (by omega) (by omega))
      have hand : bits .and .i64 (((cc + y : Nat)) : Int) 16777215 = (((cc + y) % Bs : Nat) : Int) := by rw [and24_i64, Bs_eq]; omega
      have hshr : ((cc + y : Nat) : Int) / 16777216 = (((cc + y) / Bs : Nat) : Int) := by rw [Bs_eq]; omega
      obtain ⟨t, ht⟩ : ∃ t, t = cc + y := ⟨_, rfl⟩
      rw [← ht] at hor hand hshr Hs Hcar
      have hst3 := Hown.out.stored (m + i) (.int .i64 ((t % Bs : Nat) : Int))
      rw [vs_set] at hst3
      have H1 := Lib.hid hst3
      obtain ⟨d, hd⟩ : ∃ d, d = t % Bs := ⟨_, rfl⟩
      obtain ⟨e, he⟩ : ∃ e, e = t / Bs := ⟨_, rfl⟩
      rw [← hd] at hand Hs H1
      rw [← he] at hshr Hs Hcar
      have hmi : (m : Int) + i < L := by have := HL.out; omega
      have htn : ((m : Int) + i).toNat = m + i := by omega
      have hmi0 : (0 : Int) ≤ (m : Int) + i := by omega
      clear hra hst3 hd he ht hy hyb
      go_wp2_with fail
      go_roundw
      case rel => exact ⟨i + 1, e, zs.set (m + i) d, by omega, by go_num, rfl, Hcar.out, by rw [List.length_set]; exact Hzl.out, Hs.out.1, Hs.out.2, H1.out.1, Hb.out.grown H1.out.2 Hb.out.size (by simp)⟩
      case measure => simp [intOf]; omega
    · have hin : i = n := by omega
      subst hin
      have hkz : m + i < zs.length := by rw [Hzl.out, HL.out]; omega
      have hcz := Hown.out.cellAt (m + i) (by rw [← Hzl.out]; omega)
      rw [List.getElem?_eq_getElem (by rw [vs_len]; exact hkz), vs_get hkz] at hcz
      have hfz := Hown.out.frozenAt (m + i)
      have hst3 := Hown.out.stored (m + i) (.int .i64 (cc : Int))
      rw [vs_set] at hst3
      have H1 := Lib.hid hst3
      have Hfin : Hid (V (zs.set (m + i) cc) = 2 ^ k * v ∧ Lim (zs.set (m + i) cc) ∧ (zs.set (m + i) cc).length = L) := Lib.hid (by
        have hl : (zs.set (m + i) cc).length = L := by rw [List.length_set]; exact Hzl.out
        have e1 : (zs.set (m + i) cc).take (m + i + 1) = zs.set (m + i) cc := List.take_of_length_le (by rw [hl, HL.out]; omega)
        have hz := Hzv.out
        have e2 : (limbs v).take i = limbs v := List.take_of_length_le (by have := Hn.out; omega)
        rw [e2, V_limbs] at hz
        refine ⟨?_, ?_, hl⟩
        · rw [← e1, V_set_take hkz, hz, Hk.out, Nat.pow_add, Bs_pow, Nat.mul_assoc]
        · rw [← e1, List.take_succ_eq_append_getElem (by rw [List.length_set]; exact hkz), List.getElem_set_self, List.take_set_of_le (Nat.le_refl _)]
          exact Hzt.out.append (Lim_one (by rw [Bs_eq]; omega)))
      have hmi : (m : Int) + i < L := by have := HL.out; omega
      have htn : ((m : Int) + i).toNat = m + i := by omega
      have hmi0 : (0 : Int) ≤ (m : Int) + i := by omega
      have HLb : Hid ((L : Int) ≤ 1000000) := Lib.hid (by have := HL.out; omega)
      have H2 := Lib.hid (Ow.own H1.out.1)
      have H3 := Lib.hid (Hb.out.grown H1.out.2 Hb.out.size (by simp))
      clear hst3 H1 hlt
      go_wp2_with fail
      obtain ⟨w2, hw2⟩ : ∃ w2, w2 = wr.setCell ⟨w.heap.size, m + i, none⟩ (.int .i64 cc) := ⟨_, rfl⟩
      rw [← hw2] at H2 H3 ⊢
      clear hw2
      refine (trim_any _ L L w2.heap.size (zs.set (m + i) cc) w2 H2.out.rd Hfin.out.2.2 Hfin.out.2.1 (Int.le_refl _) HLb.out).mono ?_
      rintro e w3 ⟨rfl, q, rfl⟩
      have Hp : Hid (limbs (2 ^ k * v) = (zs.set (m + i) cc).take (limbs (2 ^ k * v)).length) := Lib.hid (by have h := limbs_prefix Hfin.out.2.1; rw [Hfin.out.1] at h; exact h)
      rw [Hfin.out.1]
      go_wp2_with fail
      go_ret
      exact ⟨_, rfl, (((H2.out.take (limbs (2 ^ k * v)).length).eq_ (by rw [← vs_take, ← Hp.out])).drewN q).wide (Nat.le_refl _) (Nat.le_refl _), below_drewN H3.out q⟩
end Go.Proofs.Ytnnoobdcdfcdaaa
