/- Quotients by small divisors, of the program. -/
import Derived.Test.YtnnoobdcdfcdaaaTi
namespace Go.Proofs.Ytnnoobdcdfcdaaa
set_option maxRecDepth 100000
open Go.RowKit
set_option linter.unusedSimpArgs false
set_option linter.unusedVariables false

theorem or_i64 (a b : Nat) (ha : a < 9223372036854775808) (hb : b < 9223372036854775808) : bits .or .i64 (a : Int) (b : Int) = ((a ||| b : Nat) : Int) := by
  show IntKind.i64.wrap ((BitVec.ofInt 64 (a : Int) ||| BitVec.ofInt 64 (b : Int)).toNat : Int) = _
  have h1 : (BitVec.ofInt 64 (a : Int)).toNat = a := by rw [BitVec.ofInt_natCast, BitVec.toNat_ofNat]; exact Nat.mod_eq_of_lt (by omega)
  have h2 : (BitVec.ofInt 64 (b : Int)).toNat = b := by rw [BitVec.ofInt_natCast, BitVec.toNat_ofNat]; exact Nat.mod_eq_of_lt (by omega)
  rw [BitVec.toNat_or, h1, h2]
  have hx : a ||| b < 2 ^ 63 := Nat.or_lt_two_pow (by omega) (by omega)
  exact wrapI_small (by omega) (by omega)
/-- a limb behind a rest -/
theorem or_limb (r x : Nat) (hr : r < 549755813888) (hx : x < Bs) : bits .or .i64 ((r : Int) * 16777216) (x : Int) = ((r * Bs + x : Nat) : Int) := by
  rw [Bs_eq] at *
  have e : (r : Int) * 16777216 = ((r * 16777216 : Nat) : Int) := by omega
  rw [e, or_i64 _ _ (by omega) (by omega)]
  have h : x ||| (r * 2 ^ 24) = x + r * 2 ^ 24 := by
    rw [Nat.or_comm, Nat.mul_comm, ← Nat.two_pow_add_eq_or_of_lt (show x < 2 ^ 24 by omega), Nat.add_comm]
  rw [Nat.or_comm]
  have h2 : x ||| r * 16777216 = x + r * 16777216 := h
  rw [h2]
  omega
theorem small_step {xs zs : List Nat} {j d r x t : Nat} (hk : j < zs.length) (hx : V (xs.drop j) = x + Bs * V (xs.drop (j + 1))) (hv : V (xs.drop (j + 1)) = V (zs.drop (j + 1)) * d + r) (hd : 0 < d) (ht : t = (r * Bs + x) / d) : V (xs.drop j) = V ((zs.set j t).drop j) * d + (r * Bs + x) % d := by
  have h1 : V ((zs.set j t).drop j) = t + Bs * V (zs.drop (j + 1)) := by
    rw [V_drop (by rw [List.length_set]; exact hk), List.getElem_set_self, List.drop_set_of_lt (by omega)]
  rw [hx, hv, h1, Nat.add_mul, Nat.mul_add, Nat.mul_assoc]
  have h2 := Nat.div_add_mod (r * Bs + x) d
  rw [← ht, Nat.mul_comm] at h2
  rw [Nat.mul_comm Bs r]
  omega
theorem div_lt_Bs {r d x : Nat} (hr : r < d) (hx : x < Bs) : (r * Bs + x) / d < Bs := by
  rw [Nat.div_lt_iff_lt_mul (by omega), Nat.mul_comm Bs d]
  have := Nat.mul_le_mul_right Bs (show r + 1 ≤ d by omega)
  rw [Nat.add_mul] at this
  omega

set_option maxHeartbeats 1000000 in
theorem natDivS_any (v d : Nat) (A : Option Addr) (n c B : Nat) (w : World) (hr : Rd w B A (vs (limbs v))) (hB : B ≤ w.heap.size) (hn : (limbs v).length = n) (hm : (n : Int) ≤ 100000) (hd1 : (1 : Int) ≤ d) (hd2 : (d : Int) ≤ 4294967296) :
    Calls Try.prog 76 #[.slice A n c, .int .i64 d] w fun e w' => ∃ A2, e = .returned (.tuple #[.slice A2 (limbs (v / d)).length (limbs (v / d)).length, .int .i64 ((v % d : Nat) : Int)]) ∧ Ow w' w.heap.size w'.heap.size A2 (vs (limbs (v / d))) ∧ Below w.heap.size w w' := by
  obtain ⟨i0, hi0, hz0, hz1, hz2⟩ := info_parts infoI
  have hst := store_int Try.prog
  have Hr := Lib.hid (hr.up hB)
  have Hn := Lib.hid hn
  have hbytes : i0.bytes * n ≤ 281474976710656 := by rw [hz2]; omega
  clear hr hn hB
  go_enter Try.func76, Try.ntmps76
  go_wp2_with (refine wpList_make_full _ rfl _ _ _ rfl w.heap.size 2 i0 _ 1 Try.underlying61 hi0 hz0 hz1 _ _ _ _ n rfl rfl rfl rfl hbytes (by unfold maxLen; omega) (Nat.le_refl _) ?_; intro w1 hown hg)
  rw [made_zeros] at hown
  have Hown := Lib.hid hown
  have Hb1 : Hid (Below w.heap.size w w1) := Lib.hid ((Below.refl _ _).grown hg (Nat.le_refl _) (by simp))
  clear hown hg hbytes
  go_loopw [7, 8] (fun rv iv wr => ∃ (k r : Nat) (zs : List Nat), k ≤ n ∧ iv = .int .i64 ((k : Int) - 1) ∧ rv = .int .i64 r ∧ r < d ∧ zs.length = n ∧ Lim zs ∧ V ((limbs v).drop k) = V (zs.drop k) * d + r ∧ wr.ownsRow w.heap.size 2 1 (.slice (some ⟨w.heap.size, 0, none⟩) n n) n (vs zs) ∧ Below w.heap.size w wr) (fun _ iv _ => (intOf iv + 1).toNat)
  case atStart => exact ⟨n, 0, List.replicate n 0, Nat.le_refl _, rfl, rfl, by omega, List.length_replicate, Lim_zeros _, by rw [List.drop_of_length_le (by have := Hn.out; omega), List.drop_of_length_le (by rw [List.length_replicate]; omega)]; simp [V], Hown.out, Hb1.out⟩
  case round =>
    clear Hown Hb1
    obtain ⟨k, r, zs, hk, rfl, rfl, hrd, hzl, hzt, hzv, hown, hb⟩ := hrel
    have Hrd := Lib.hid hrd
    have Hzl := Lib.hid hzl
    have Hzt := Lib.hid hzt
    have Hzv := Lib.hid hzv
    have Hown := Lib.hid hown
    have Hb := Lib.hid hb
    have hr0 : (0 : Int) ≤ r := by omega
    have hr1 : (r : Int) ≤ 4294967295 := by omega
    clear hrd hzl hzt hzv hown hb
    by_cases h0 : k = 0
    · subst h0
      have Hfin : Hid (V zs = v / d ∧ v % d = r) := Lib.hid (by
        have h := Hzv.out
        rw [List.drop_zero, List.drop_zero, V_limbs] at h
        have hrd := Hrd.out
        rw [h, Nat.mul_comm]
        exact ⟨by rw [Nat.mul_add_div (by omega), Nat.div_eq_of_lt hrd, Nat.add_zero], by rw [Nat.mul_add_mod, Nat.mod_eq_of_lt hrd]⟩)
      have H1 := Lib.hid (Ow.own Hown.out)
      go_wp2_with fail
      refine (trim_any _ n n wr.heap.size zs wr H1.out.rd Hzl.out Hzt.out (by omega) (by omega)).mono ?_
      rintro e w3 ⟨rfl, q, rfl⟩
      have Hp : Hid (limbs (v / d) = zs.take (limbs (v / d)).length) := Lib.hid (by have h := limbs_prefix Hzt.out; rw [Hfin.out.1] at h; exact h)
      rw [Hfin.out.1]
      go_wp2_with fail
      go_ret2
      exact ⟨_, by rw [Hfin.out.2]; rfl, (((H1.out.take (limbs (v / d)).length).eq_ (by rw [← vs_take, ← Hp.out])).drewN q).wide (Nat.le_refl _) (Nat.le_refl _), below_drewN Hb.out q⟩
    · obtain ⟨j, rfl⟩ : ∃ j, k = j + 1 := ⟨k - 1, by omega⟩
      have hkx : j < (limbs v).length := by rw [Hn.out]; omega
      have hra := Hr.out.below Hb.out
      obtain ⟨p, hp, _⟩ := hra.some_ (by rw [vs_len]; omega)
      subst hp
      have hcx := hra.cell (k := j) (by rw [vs_len]; exact hkx)
      rw [vs_get hkx] at hcx
      have Hvd := Lib.hid (V_drop hkx)
      have Hxb := Lib.hid ((Lim_limbs v).getElem hkx)
      have hkz : j < zs.length := by rw [Hzl.out]; omega
      have hcz := Hown.out.cellAt j (by omega)
      rw [List.getElem?_eq_getElem (by rw [vs_len]; exact hkz), vs_get hkz] at hcz
      have hfz := Hown.out.frozenAt j
      have hj : ((j + 1 : Nat) : Int) - 1 = j := by omega
      rw [hj]
      have Hj := Lib.hid hj
      have hjn : (j : Int) < n := by omega
      clear hra hj h0
      generalize (limbs v)[j] = x at *
      generalize zs[j] = u at *
      have hor := or_limb r x (by omega) Hxb.out
      obtain ⟨m, hm⟩ : ∃ m, m = r * Bs + x := ⟨_, rfl⟩
      rw [← hm] at hor
      have hm0 : (0 : Int) ≤ m := by omega
      have hm1 : (m : Int) ≤ 72057594037927935 := by have := Hxb.out; rw [Bs_eq] at hm this; omega
      have hquo : (m : Int) / d = ((m / d : Nat) : Int) := rfl
      have hrem : (m : Int) % d = ((m % d : Nat) : Int) := rfl
      have Hs := Lib.hid (small_step (t := m / d) hkz Hvd.out Hzv.out (by omega) (by rw [hm]))
      have Ht : Hid (m / d < Bs ∧ m % d < d ∧ (r * Bs + x) % d = m % d) := Lib.hid ⟨by rw [hm]; exact div_lt_Bs Hrd.out Hxb.out, Nat.mod_lt _ (by omega), by rw [hm]⟩
      obtain ⟨t, ht⟩ : ∃ t, t = m / d := ⟨_, rfl⟩
      obtain ⟨r2, hr2⟩ : ∃ r2, r2 = m % d := ⟨_, rfl⟩
      rw [← ht] at hquo Hs Ht
      rw [← hr2] at hrem Ht
      have hst3 := Hown.out.stored j (.int .i64 t)
      rw [vs_set] at hst3
      have H1 := Lib.hid hst3
      have hd0 : ((d : Int) == 0) = false := beq_false_of_ne (by omega)
      have htb : (t : Int) ≤ 16777215 := by have := Ht.out.1; rw [Bs_eq] at this; omega
      clear hm ht hr2 hst3
      go_wp2_with fail
      go_roundw
      case rel => exact ⟨j, r2, zs.set j t, by omega, rfl, by rw [hrem], Ht.out.2.1, by rw [List.length_set]; exact Hzl.out, Hzt.out.set Ht.out.1, by rw [Hs.out, Ht.out.2.2], H1.out.1, Hb.out.grown H1.out.2 Hb.out.size (by simp)⟩
      case measure => simp [intOf]
end Go.Proofs.Ytnnoobdcdfcdaaa
