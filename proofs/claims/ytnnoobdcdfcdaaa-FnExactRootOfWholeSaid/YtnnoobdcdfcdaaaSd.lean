/- Shifts down of limbs, of the program. -/
import Derived.Test.YtnnoobdcdfcdaaaSh
import Derived.IntWalk
namespace Go.Proofs.Ytnnoobdcdfcdaaa
set_option maxRecDepth 100000
open Go.RowKit
set_option linter.unusedSimpArgs false
set_option linter.unusedVariables false

theorem V_drop_div {xs : List Nat} (h : Lim xs) {m : Nat} (hm : m ≤ xs.length) : V (xs.drop m) = V xs / Bs ^ m := by
  have h1 := V_take_drop xs m hm
  have h2 := V_lt (h.take m)
  rw [List.length_take, Nat.min_eq_left hm] at h2
  rw [h1, Nat.add_mul_div_left _ _ (Bs_pow_pos m), Nat.div_eq_of_lt h2, Nat.zero_add]
theorem and_low (t p : Nat) (ht : t < 9223372036854775808) (hp : p ≤ 23) : bits .and .i64 (t : Int) ((2 : Int) ^ p - 1) = ((t % 2 ^ p : Nat) : Int) := by
  have h23 : 2 ^ p ≤ 2 ^ 23 := Nat.pow_le_pow_right (by omega) hp
  have h1 := Nat.two_pow_pos p
  have e : (2 : Int) ^ p - 1 = ((2 ^ p - 1 : Nat) : Int) := by rw [Int.natCast_sub h1, Int.natCast_pow]; rfl
  rw [e]
  show IntKind.i64.wrap ((BitVec.ofInt 64 (t : Int) &&& BitVec.ofInt 64 (((2 ^ p - 1 : Nat)) : Int)).toNat : Int) = _
  have h2 : (BitVec.ofInt 64 (t : Int)).toNat = t := by rw [BitVec.ofInt_natCast, BitVec.toNat_ofNat]; exact Nat.mod_eq_of_lt (by omega)
  have h3 : (BitVec.ofInt 64 (((2 ^ p - 1 : Nat)) : Int)).toNat = 2 ^ p - 1 := by rw [BitVec.ofInt_natCast, BitVec.toNat_ofNat]; exact Nat.mod_eq_of_lt (by omega)
  rw [BitVec.toNat_and, h2, h3, Nat.and_two_pow_sub_one_eq_mod]
  have := Nat.mod_lt t h1
  exact wrapI_small (by omega) (by omega)

theorem wrap_low (a : Int) (h0 : 1 ≤ a) (h1 : a ≤ 8388608) : wrap64 (wrap64 a - 1) = a - 1 := by
  have e1 : wrap64 a = a := wrap64_small (by omega) (by omega)
  rw [e1]
  exact wrap64_small (by omega) (by omega)
theorem wrap_pow (p : Nat) (hp : p ≤ 23) : wrap64 (wrap64 ((2 : Int) ^ p) - 1) = (2 : Int) ^ p - 1 := by
  have h23 : 2 ^ p ≤ 2 ^ 23 := Nat.pow_le_pow_right (by omega) hp
  have h1 := Nat.two_pow_pos p
  have e : (2 : Int) ^ p = ((2 ^ p : Nat) : Int) := by rw [Int.natCast_pow]; rfl
  rw [e]
  generalize 2 ^ p = y at h23 h1 ⊢
  have h3 : (2 : Nat) ^ 23 = 8388608 := by decide
  rw [h3] at h23
  exact wrap_low _ (by omega) (by omega)

set_option maxHeartbeats 1000000 in
theorem natShr_any (v k : Nat) (A : Option Addr) (n c B : Nat) (w : World) (hr : Rd w B A (vs (limbs v))) (hB : B ≤ w.heap.size) (hn : (limbs v).length = n) (hm : (n : Int) ≤ 100000) (hk : (k : Int) ≤ 1000000) :
    Calls Try.prog 81 #[.slice A n c, .int .i64 k] w fun e w' => ∃ A2, e = .returned (.slice A2 (limbs (v / 2 ^ k)).length (limbs (v / 2 ^ k)).length) ∧ Ow w' w.heap.size w'.heap.size A2 (vs (limbs (v / 2 ^ k))) ∧ Below w.heap.size w w' := by
  obtain ⟨i0, hi0, hz0, hz1, hz2⟩ := info_parts infoI
  have hst := store_int Try.prog
  have Hr := Lib.hid (hr.up hB)
  have Hn := Lib.hid hn
  clear hr hn hB
  by_cases hbig : blen v ≤ k
  · have Hv : Hid (v / 2 ^ k = 0) := Lib.hid (Nat.div_eq_of_lt (blen_lt.1 hbig))
    have hb2 : (blen v : Int) ≤ k := by omega
    go_enter Try.func81, Try.ntmps81
    go_wp2_with fail
    refine (natLen_any v A n c _ _ Hr.out Hn.out hm).mono ?_
    rintro e w' ⟨rfl, rfl⟩
    go_wp2_with fail
    go_ret
    rw [Hv.out, limbs_zero]
    exact ⟨none, rfl, .inl rfl, Below.refl _ _⟩
  · have hb2 : ¬ (blen v : Int) ≤ k := by omega
    obtain ⟨m, hmm⟩ : ∃ m, m = k / 24 := ⟨_, rfl⟩
    obtain ⟨p, hpp⟩ : ∃ p, p = k % 24 := ⟨_, rfl⟩
    have hmn : m < n := by
      rcases Nat.lt_or_ge m n with h | h
      · exact h
      · exfalso
        have h1 := limbs_len_le.1 (show (limbs v).length ≤ n by rw [Hn.out]; exact Nat.le_refl _)
        rw [Bs_pow] at h1
        have h2 := blen_lt.2 h1
        omega
    obtain ⟨L, hL⟩ : ∃ L, L = n - m := ⟨_, rfl⟩
    have hkm : (k : Int) / 24 = m := by omega
    have hkp : (k : Int) % 24 = p := by omega
    have hp23 : (p : Int) ≤ 23 := by omega
    have hmb : (m : Int) ≤ 50000 := by omega
    have hLi : (n : Int) - m = L := by omega
    have hLb : (L : Int) ≤ 100000 := by omega
    have HL := Lib.hid hL
    have Hmn := Lib.hid hmn
    have Hk : Hid (k = 24 * m + p) := Lib.hid (by omega)
    have hbytes : i0.bytes * L ≤ 281474976710656 := by rw [hz2]; omega
    clear hmm hpp hL hmn hbig
    go_enter Try.func81, Try.ntmps81
    go_wp2_with (first | (go_at_call 78; refine (natLen_any v A n c _ _ Hr.out Hn.out hm).mono ?_; rintro e w' ⟨rfl, rfl⟩) | (refine wpList_make_full _ rfl _ _ _ rfl w.heap.size 2 i0 _ 1 Try.underlying61 hi0 hz0 hz1 _ _ _ _ L rfl rfl rfl rfl hbytes (by unfold maxLen; omega) (Nat.le_refl _) ?_; intro w1 hown hg))
    rw [made_zeros] at hown
    have Hown := Lib.hid hown
    have Hb1 : Hid (Below w.heap.size w w1) := Lib.hid ((Below.refl _ _).grown hg (Nat.le_refl _) (by simp))
    clear hown hg hbytes
    go_loopw [8, 9] (fun rv iv wr => ∃ (k r : Nat) (zs : List Nat), k ≤ L ∧ iv = .int .i64 ((k : Int) - 1) ∧ rv = .int .i64 r ∧ r < 2 ^ p ∧ zs.length = L ∧ Lim zs ∧ V (((limbs v).drop m).drop k) = V (zs.drop k) * 2 ^ p + r ∧ wr.ownsRow w.heap.size 2 1 (.slice (some ⟨w.heap.size, 0, none⟩) L L) L (vs zs) ∧ Below w.heap.size w wr) (fun _ iv _ => (intOf iv + 1).toNat)
    case atStart => exact ⟨L, 0, List.replicate L 0, Nat.le_refl _, rfl, rfl, Nat.two_pow_pos _, List.length_replicate, Lim_zeros _, by rw [List.drop_of_length_le (by rw [List.length_drop, Hn.out, HL.out]; omega), List.drop_of_length_le (by rw [List.length_replicate]; omega)]; simp [V], Hown.out, Hb1.out⟩
    case round =>
      clear Hown Hb1
      obtain ⟨k', r, zs, hk', rfl, rfl, hrd, hzl, hzt, hzv, hown, hb⟩ := hrel
      have Hrd := Lib.hid hrd
      have Hzl := Lib.hid hzl
      have Hzt := Lib.hid hzt
      have Hzv := Lib.hid hzv
      have Hown := Lib.hid hown
      have Hb := Lib.hid hb
      have hpb : (2 : Nat) ^ p ≤ 2 ^ 23 := Nat.pow_le_pow_right (by omega) (by omega)
      have hr0 : (0 : Int) ≤ r := by omega
      have hr1 : (r : Int) ≤ 8388607 := by omega
      clear hrd hzl hzt hzv hown hb hpb
      by_cases h0 : k' = 0
      · subst h0
        have Hfin : Hid (V zs = v / 2 ^ k) := Lib.hid (by
          have h := Hzv.out
          rw [List.drop_zero, List.drop_zero, V_drop_div (Lim_limbs v) (by have := Hmn.out; have := Hn.out; omega), V_limbs] at h
          have hrd := Hrd.out
          rw [Hk.out, Nat.pow_add, ← Nat.div_div_eq_div_mul, ← Bs_pow, h, Nat.mul_comm, Nat.mul_add_div (Nat.two_pow_pos p), Nat.div_eq_of_lt hrd, Nat.add_zero])
        have H1 := Lib.hid (Ow.own Hown.out)
        go_wp2_with fail
        refine (trim_any _ L L wr.heap.size zs wr H1.out.rd Hzl.out Hzt.out (by omega) (by omega)).mono ?_
        rintro e w3 ⟨rfl, q, rfl⟩
        have Hp : Hid (limbs (v / 2 ^ k) = zs.take (limbs (v / 2 ^ k)).length) := Lib.hid (by have h := limbs_prefix Hzt.out; rw [Hfin.out] at h; exact h)
        rw [Hfin.out]
        go_wp2_with fail
        go_ret
        exact ⟨_, rfl, (((H1.out.take (limbs (v / 2 ^ k)).length).eq_ (by rw [← vs_take, ← Hp.out])).drewN q).wide (Nat.le_refl _) (Nat.le_refl _), below_drewN Hb.out q⟩
      · obtain ⟨j, rfl⟩ : ∃ j, k' = j + 1 := ⟨k' - 1, by omega⟩
        have hkx : m + j < (limbs v).length := by rw [Hn.out]; have := HL.out; omega
        have hra := Hr.out.below Hb.out
        obtain ⟨q, hq, _⟩ := hra.some_ (by rw [vs_len]; omega)
        subst hq
        have hcx := hra.cell (k := m + j) (by rw [vs_len]; exact hkx)
        rw [vs_get hkx] at hcx
        have Hvd : Hid (V (((limbs v).drop m).drop j) = (limbs v)[m + j] + Bs * V (((limbs v).drop m).drop (j + 1))) := Lib.hid (by
          rw [List.drop_drop, List.drop_drop, V_drop hkx]
          rfl)
        have Hxb := Lib.hid ((Lim_limbs v).getElem hkx)
        have hkz : j < zs.length := by rw [Hzl.out]; omega
        have hcz := Hown.out.cellAt j (by omega)
        rw [List.getElem?_eq_getElem (by rw [vs_len]; exact hkz), vs_get hkz] at hcz
        have hfz := Hown.out.frozenAt j
        have hj : ((j + 1 : Nat) : Int) - 1 = j := by omega
        rw [hj]
        have Hj := Lib.hid hj
        have hjn : (j : Int) < L := by omega
        clear hra hj h0
        generalize (limbs v)[m + j] = x at *
        generalize zs[j] = u at *
        have hor := or_limb r x (by omega) Hxb.out
        obtain ⟨t, ht⟩ : ∃ t, t = r * Bs + x := ⟨_, rfl⟩
        rw [← ht] at hor
        have ht0 : (0 : Int) ≤ t := by omega
        have ht1 : (t : Int) ≤ 140737488355327 := by have := Hxb.out; rw [Bs_eq] at ht this; omega
        have Hs := Lib.hid (small_step (t := t / 2 ^ p) hkz Hvd.out Hzv.out (Nat.two_pow_pos p) (by rw [ht]))
        have Ht : Hid (t / 2 ^ p < Bs ∧ t % 2 ^ p < 2 ^ p ∧ (r * Bs + x) % 2 ^ p = t % 2 ^ p) := Lib.hid ⟨by rw [ht]; exact div_lt_Bs Hrd.out Hxb.out, Nat.mod_lt _ (Nat.two_pow_pos p), by rw [ht]⟩
        have hand := and_low t p (by omega) (by omega)
        have hmj : (m : Int) + j < n := by have := HL.out; omega
        have htn : ((m : Int) + j).toNat = m + j := by omega
        have hmj0 : (0 : Int) ≤ (m : Int) + j := by omega
        have hwr := wrap_pow p (by omega)
        rw [← hwr] at hand
        have Hand := Lib.hid hand
        obtain ⟨y, hy⟩ : ∃ y, y = t / 2 ^ p := ⟨_, rfl⟩
        obtain ⟨r2, hr2⟩ : ∃ r2, r2 = t % 2 ^ p := ⟨_, rfl⟩
        have Hquo : Hid ((t : Int) / 2 ^ p = (y : Int)) := Lib.hid (by rw [hy, Int.natCast_ediv, Int.natCast_pow]; rfl)
        rw [← hy] at Hs Ht
        rw [← hr2] at Ht Hand
        have hst3 := Hown.out.stored j (.int .i64 y)
        rw [vs_set] at hst3
        have H1 := Lib.hid hst3
        clear ht hwr hand hy hr2 hst3
        go_wp2_with fail
        rw [Hquo.out, Hand.out]
        go_roundw
        case rel => exact ⟨j, r2, zs.set j y, by omega, rfl, rfl, Ht.out.2.1, by rw [List.length_set]; exact Hzl.out, Hzt.out.set Ht.out.1, by rw [Hs.out, Ht.out.2.2], H1.out.1, Hb.out.grown H1.out.2 Hb.out.size (by simp)⟩
        case measure => simp [intOf]
end Go.Proofs.Ytnnoobdcdfcdaaa
