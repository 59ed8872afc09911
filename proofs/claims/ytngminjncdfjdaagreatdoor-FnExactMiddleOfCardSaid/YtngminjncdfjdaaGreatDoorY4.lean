/- Texts of this seat, joined: Ti Mu Mv Ds Sh Sd Dy Ha Hb Hd He To Tk Tw Db Dc Dd De Df -/
import Derived.Test.YtngminjncdfjdaaGreatDoorY3
import Derived.IntWalk
import Derived.Test.YtngminjncdfjdaaGreatDoorY1
import Derived.Shelf.Spec.TrailingZeros
import Derived.Lib.SliceRun
import Derived.Laws.CopyOwn
/- Products of limbs, of the program. -/
namespace Go.Proofs.YtngminjncdfjdaaGreatDoor
set_option maxRecDepth 100000
open Go.RowKit
set_option linter.unusedSimpArgs false
set_option linter.unusedVariables false

/-- the greatest product of two limbs -/
def Mx : Nat := 281474943156225
theorem made_zeros (n : Nat) : (madeCells (Value.int .i64 0).cells (n * 1)).toList = vs (List.replicate n 0) := by
  rw [Nat.mul_one]
  apply List.ext_getElem
  · rw [vs_len, List.length_replicate]; simp [size_madeCells]
  · intro i h1 h2
    rw [vs_len, List.length_replicate] at h2
    rw [vs_get (by rw [List.length_replicate]; exact h2)]
    simp [madeCells, Value.cells, Nat.mod_one]
end Go.Proofs.YtngminjncdfjdaaGreatDoor
/- Products of whole numbers, of the program and of the model. -/
namespace Go.Proofs.YtngminjncdfjdaaGreatDoor
set_option maxRecDepth 100000
open Go.RowKit
set_option linter.unusedSimpArgs false
set_option linter.unusedVariables false

end Go.Proofs.YtngminjncdfjdaaGreatDoor
/- MultiplyWholes, of the program and of the model. -/
namespace Go.Proofs.YtngminjncdfjdaaGreatDoor
set_option maxRecDepth 100000
open Go.RowKit
set_option linter.unusedSimpArgs false
set_option linter.unusedVariables false

end Go.Proofs.YtngminjncdfjdaaGreatDoor
/- Quotients by small divisors, of the program. -/
namespace Go.Proofs.YtngminjncdfjdaaGreatDoor
set_option maxRecDepth 100000
open Go.RowKit
set_option linter.unusedSimpArgs false
set_option linter.unusedVariables false

theorem or_i64 (a b : Nat) (ha : a < 9223372036854775808) (hb : b < 9223372036854775808) : bits .or .i64 (a : Int) (b : Int) = ((a ||| b : Nat) : Int) := by
  show IntKind.i64.wrap ((BitVec.ofInt 64 (a : Int) ||| BitVec.ofInt 64 (b : Int)).toNat : Int) = _
  have h1 : (BitVec.ofInt 64 (a : Int)).toNat = a := by rw [BitVec.ofInt_natCast, BitVec.toNat_ofNat]; exact Nat.mod_eq_of_lt (by omega)
  have h2 : (BitVec.ofInt 64 (b : Int)).toNat = b := by rw [BitVec.ofInt_natCast, BitVec.toNat_ofNat]; exact Nat.mod_eq_of_lt (by omega)
  rw [BitVec.toNat_or, h1, h2]
  have hx : a ||| b < 2 ^ 63 := Nat.or_lt_two_pow (by omega) (by omega)
  exact wrapI_small (by omega) (by omega)
/-- a limb behind a rest -/
theorem or_limb (r x : Nat) (hr : r < 549755813888) (hx : x < Bs) : bits .or .i64 ((r : Int) * 16777216) (x : Int) = ((r * Bs + x : Nat) : Int) := by
  rw [Bs_eq] at *
  have e : (r : Int) * 16777216 = ((r * 16777216 : Nat) : Int) := by omega
  rw [e, or_i64 _ _ (by omega) (by omega)]
  have h : x ||| (r * 2 ^ 24) = x + r * 2 ^ 24 := by
    rw [Nat.or_comm, Nat.mul_comm, ← Nat.two_pow_add_eq_or_of_lt (show x < 2 ^ 24 by omega), Nat.add_comm]
  rw [Nat.or_comm]
  have h2 : x ||| r * 16777216 = x + r * 16777216 := h
  rw [h2]
  omega
theorem small_step {xs zs : List Nat} {j d r x t : Nat} (hk : j < zs.length) (hx : V (xs.drop j) = x + Bs * V (xs.drop (j + 1))) (hv : V (xs.drop (j + 1)) = V (zs.drop (j + 1)) * d + r) (hd : 0 < d) (ht : t = (r * Bs + x) / d) : V (xs.drop j) = V ((zs.set j t).drop j) * d + (r * Bs + x) % d := by
  have h1 : V ((zs.set j t).drop j) = t + Bs * V (zs.drop (j + 1)) := by
    rw [V_drop (by rw [List.length_set]; exact hk), List.getElem_set_self, List.drop_set_of_lt (by omega)]
  rw [hx, hv, h1, Nat.add_mul, Nat.mul_add, Nat.mul_assoc]
  have h2 := Nat.div_add_mod (r * Bs + x) d
  rw [← ht, Nat.mul_comm] at h2
  rw [Nat.mul_comm Bs r]
  omega
theorem div_lt_Bs {r d x : Nat} (hr : r < d) (hx : x < Bs) : (r * Bs + x) / d < Bs := by
  rw [Nat.div_lt_iff_lt_mul (by omega), Nat.mul_comm Bs d]
  have := Nat.mul_le_mul_right Bs (show r + 1 ≤ d by omega)
  rw [Nat.add_mul] at this
  omega

end Go.Proofs.YtngminjncdfjdaaGreatDoor
/- Shifts of limbs, of the program. -/
namespace Go.Proofs.YtngminjncdfjdaaGreatDoor
set_option maxRecDepth 100000
open Go.RowKit
set_option linter.unusedSimpArgs false
set_option linter.unusedVariables false

theorem or_part (c x p : Nat) (hc : c < 2 ^ p) (hp : p ≤ 23) (hx : x < Bs) : bits .or .i64 (c : Int) ((x * 2 ^ p : Nat) : Int) = ((c + x * 2 ^ p : Nat) : Int) := by
  have h23 : 2 ^ p ≤ 2 ^ 23 := Nat.pow_le_pow_right (by omega) hp
  have h1 : x * 2 ^ p ≤ 16777215 * 2 ^ 23 := Nat.mul_le_mul (by rw [Bs_eq] at hx; omega) h23
  rw [or_i64 _ _ (by omega) (by omega)]
  congr 1
  rw [Nat.or_comm, Nat.mul_comm, ← Nat.two_pow_add_eq_or_of_lt hc, Nat.add_comm]
theorem shl_wrap (x p : Nat) (hp : p ≤ 23) (hx : x < Bs) : wrap64 ((x : Int) * 2 ^ p) = ((x * 2 ^ p : Nat) : Int) := by
  have h23 : 2 ^ p ≤ 2 ^ 23 := Nat.pow_le_pow_right (by omega) hp
  have h1 : x * 2 ^ p ≤ 16777215 * 2 ^ 23 := Nat.mul_le_mul (by rw [Bs_eq] at hx; omega) h23
  have e : (x : Int) * 2 ^ p = ((x * 2 ^ p : Nat) : Int) := by rw [Int.natCast_mul, Int.natCast_pow]; rfl
  rw [e]
  exact wrap64_small (by omega) (by omega)
theorem shl_carry {c x p : Nat} (hc : c < 2 ^ p) (hx : x < Bs) : (c + x * 2 ^ p) / Bs < 2 ^ p := by
  rw [Nat.div_lt_iff_lt_mul (by rw [Bs_eq]; omega)]
  have := Nat.mul_le_mul_right (2 ^ p) (show x + 1 ≤ Bs by omega)
  rw [Nat.add_mul] at this
  rw [Nat.mul_comm (2 ^ p) Bs]
  omega
theorem shl_step {zs xs : List Nat} {m k c p : Nat} (hk : m + k < zs.length) (hx : k < xs.length) (hl : Lim (zs.take (m + k))) (hv : V (zs.take (m + k)) + Bs ^ (m + k) * c = Bs ^ m * (2 ^ p * V (xs.take k))) :
    Lim ((zs.set (m + k) ((c + xs[k] * 2 ^ p) % Bs)).take (m + (k + 1))) ∧ V ((zs.set (m + k) ((c + xs[k] * 2 ^ p) % Bs)).take (m + (k + 1))) + Bs ^ (m + (k + 1)) * ((c + xs[k] * 2 ^ p) / Bs) = Bs ^ m * (2 ^ p * V (xs.take (k + 1))) := by
  have hd : (c + xs[k] * 2 ^ p) % Bs < Bs := Nat.mod_lt _ (by rw [Bs_eq]; omega)
  refine ⟨?_, ?_⟩
  · rw [← Nat.add_assoc, List.take_succ_eq_append_getElem (by rw [List.length_set]; exact hk), List.getElem_set_self, List.take_set_of_le (Nat.le_refl _)]
    exact hl.append (Lim_one hd)
  · rw [← Nat.add_assoc, V_set_take hk]
    have h3 := carry_step (x := xs[k] * 2 ^ p) (m + k) hv
    rw [h3, V_take_succ hx, Nat.mul_add, Nat.mul_add, Nat.pow_add]
    congr 1
    rw [Nat.mul_assoc]
    congr 1
    rw [Nat.mul_comm (xs[k]), Nat.mul_left_comm]

set_option maxHeartbeats 1000000 in
theorem natShl_any (v k : Nat) (A : Option Addr) (n c B : Nat) (w : World) (hr : Rd w B A (vs (limbs v))) (hB : B ≤ w.heap.size) (hn : (limbs v).length = n) (hm : (n : Int) ≤ 100000) (hk : (k : Int) ≤ 1000000) :
    Calls Tryz.prog 117 #[.slice A n c, .int .i64 k] w fun e w' => ∃ A2, e = .returned (.slice A2 (limbs (2 ^ k * v)).length (limbs (2 ^ k * v)).length) ∧ Ow w' w.heap.size w'.heap.size A2 (vs (limbs (2 ^ k * v))) ∧ Below w.heap.size w w' := by
  obtain ⟨i0, hi0, hz0, hz1, hz2⟩ := info_parts infoI
  have hst := store_int Tryz.prog
  have Hr := Lib.hid (hr.up hB)
  have Hn := Lib.hid hn
  obtain ⟨m, hmm⟩ : ∃ m, m = k / 24 := ⟨_, rfl⟩
  obtain ⟨p, hpp⟩ : ∃ p, p = k % 24 := ⟨_, rfl⟩
  obtain ⟨L, hL⟩ : ∃ L, L = m + n + 1 := ⟨_, rfl⟩
  have hkm : (k : Int) / 24 = m := by omega
  have hkp : (k : Int) % 24 = p := by omega
  have hp23 : (p : Int) ≤ 23 := by omega
  have hmb : (m : Int) ≤ 50000 := by omega
  have hLi : (m : Int) + n + 1 = L := by omega
  have HL := Lib.hid hL
  have Hk : Hid (k = 24 * m + p) := Lib.hid (by omega)
  have hbytes : i0.bytes * L ≤ 281474976710656 := by rw [hz2]; omega
  clear hr hn hB hmm hpp hL
  go_enter Tryz.func117, Tryz.ntmps117
  go_wp2_with (refine wpList_make_full _ rfl _ _ _ rfl w.heap.size 2 i0 _ 1 Tryz.underlying118 hi0 hz0 hz1 _ _ _ _ L rfl rfl rfl rfl hbytes (by unfold maxLen; omega) (Nat.le_refl _) ?_; intro w1 hown hg)
  rw [made_zeros] at hown
  have Hown := Lib.hid hown
  have Hb1 : Hid (Below w.heap.size w w1) := Lib.hid ((Below.refl _ _).grown hg (Nat.le_refl _) (by simp))
  clear hown hg hbytes
  go_loopw [8, 9, 10, 23] (fun cv _ _ iv wr => ∃ (i c : Nat) (zs : List Nat), i ≤ n ∧ iv = .int .i64 i ∧ cv = .int .i64 c ∧ c < 2 ^ p ∧ zs.length = L ∧ Lim (zs.take (m + i)) ∧ V (zs.take (m + i)) + Bs ^ (m + i) * c = Bs ^ m * (2 ^ p * V ((limbs v).take i)) ∧ wr.ownsRow w.heap.size 2 1 (.slice (some ⟨w.heap.size, 0, none⟩) L L) L (vs zs) ∧ Below w.heap.size w wr) (fun _ _ _ iv _ => n - (intOf iv).toNat)
  case atStart =>
    refine ⟨0, 0, List.replicate L 0, Nat.zero_le _, rfl, rfl, Nat.two_pow_pos _, List.length_replicate, (Lim_zeros _).take _, ?_, Hown.out, Hb1.out⟩
    rw [List.take_replicate, V_replicate]
    simp [V]
  case round =>
    clear Hown Hb1
    obtain ⟨i, cc, zs, hi, rfl, rfl, hcc, hzl, hzt, hzv, hown, hb⟩ := hrel
    have Hcc := Lib.hid hcc
    have Hzl := Lib.hid hzl
    have Hzt := Lib.hid hzt
    have Hzv := Lib.hid hzv
    have Hown := Lib.hid hown
    have Hb := Lib.hid hb
    have hpb : (2 : Nat) ^ p ≤ 2 ^ 23 := Nat.pow_le_pow_right (by omega) (by omega)
    have hcc1 : (cc : Int) ≤ 8388607 := by omega
    have hcc0 : (0 : Int) ≤ cc := by omega
    clear hcc hzl hzt hzv hown hb hpb
    by_cases hlt : i < n
    · have hkx : i < (limbs v).length := by rw [Hn.out]; exact hlt
      have hra := Hr.out.below Hb.out
      obtain ⟨q, hq, _⟩ := hra.some_ (by rw [vs_len]; omega)
      subst hq
      have hcx := hra.cell (k := i) (by rw [vs_len]; exact hkx)
      rw [vs_get hkx] at hcx
      have Hxb := Lib.hid ((Lim_limbs v).getElem hkx)
      have hkz : m + i < zs.length := by rw [Hzl.out, HL.out]; omega
      have hcz := Hown.out.cellAt (m + i) (by rw [← Hzl.out]; omega)
      rw [List.getElem?_eq_getElem (by rw [vs_len]; exact hkz), vs_get hkz] at hcz
      have hfz := Hown.out.frozenAt (m + i)
      have Hs := Lib.hid (shl_step hkz hkx Hzt.out Hzv.out)
      have hx0 : (0 : Int) ≤ ((limbs v)[i] : Nat) := by omega
      have hx1 : (((limbs v)[i] : Nat) : Int) ≤ 16777215 := by have := Hxb.out; rw [Bs_eq] at this; omega
      have hsw := shl_wrap _ p (by omega) Hxb.out
      have hor := or_part cc _ p Hcc.out (by omega) Hxb.out
      have Hcar := Lib.hid (shl_carry Hcc.out Hxb.out)
      generalize (limbs v)[i] = x at *
      generalize zs[m + i] = u at *
      obtain ⟨y, hy⟩ : ∃ y, y = x * 2 ^ p := ⟨_, rfl⟩
      rw [← hy] at hsw hor Hs Hcar
      have hyb : y ≤ 16777215 * 2 ^ 23 := by rw [hy]; exact Nat.mul_le_mul (by omega) (Nat.pow_le_pow_right (by omega) (by omega))
      have hand : bits .and .i64 (((cc + y : Nat)) : Int) 16777215 = (((cc + y) % Bs : Nat) : Int) := by rw [and24_i64, Bs_eq]; omega
      have hshr : ((cc + y : Nat) : Int) / 16777216 = (((cc + y) / Bs : Nat) : Int) := by rw [Bs_eq]; omega
      obtain ⟨t, ht⟩ : ∃ t, t = cc + y := ⟨_, rfl⟩
      rw [← ht] at hor hand hshr Hs Hcar
      have hst3 := Hown.out.stored (m + i) (.int .i64 ((t % Bs : Nat) : Int))
      rw [vs_set] at hst3
      have H1 := Lib.hid hst3
      obtain ⟨d, hd⟩ : ∃ d, d = t % Bs := ⟨_, rfl⟩
      obtain ⟨e, he⟩ : ∃ e, e = t / Bs := ⟨_, rfl⟩
      rw [← hd] at hand Hs H1
      rw [← he] at hshr Hs Hcar
      have hmi : (m : Int) + i < L := by have := HL.out; omega
      have htn : ((m : Int) + i).toNat = m + i := by omega
      have hmi0 : (0 : Int) ≤ (m : Int) + i := by omega
      clear hra hst3 hd he ht hy hyb
      go_wp2_with fail
      go_roundw
      case rel => exact ⟨i + 1, e, zs.set (m + i) d, by omega, by go_num, rfl, Hcar.out, by rw [List.length_set]; exact Hzl.out, Hs.out.1, Hs.out.2, H1.out.1, Hb.out.grown H1.out.2 Hb.out.size (by simp)⟩
      case measure => simp [intOf]; omega
    · have hin : i = n := by omega
      subst hin
      have hkz : m + i < zs.length := by rw [Hzl.out, HL.out]; omega
      have hcz := Hown.out.cellAt (m + i) (by rw [← Hzl.out]; omega)
      rw [List.getElem?_eq_getElem (by rw [vs_len]; exact hkz), vs_get hkz] at hcz
      have hfz := Hown.out.frozenAt (m + i)
      have hst3 := Hown.out.stored (m + i) (.int .i64 (cc : Int))
      rw [vs_set] at hst3
      have H1 := Lib.hid hst3
      have Hfin : Hid (V (zs.set (m + i) cc) = 2 ^ k * v ∧ Lim (zs.set (m + i) cc) ∧ (zs.set (m + i) cc).length = L) := Lib.hid (by
        have hl : (zs.set (m + i) cc).length = L := by rw [List.length_set]; exact Hzl.out
        have e1 : (zs.set (m + i) cc).take (m + i + 1) = zs.set (m + i) cc := List.take_of_length_le (by rw [hl, HL.out]; omega)
        have hz := Hzv.out
        have e2 : (limbs v).take i = limbs v := List.take_of_length_le (by have := Hn.out; omega)
        rw [e2, V_limbs] at hz
        refine ⟨?_, ?_, hl⟩
        · rw [← e1, V_set_take hkz, hz, Hk.out, Nat.pow_add, Bs_pow, Nat.mul_assoc]
        · rw [← e1, List.take_succ_eq_append_getElem (by rw [List.length_set]; exact hkz), List.getElem_set_self, List.take_set_of_le (Nat.le_refl _)]
          exact Hzt.out.append (Lim_one (by rw [Bs_eq]; omega)))
      have hmi : (m : Int) + i < L := by have := HL.out; omega
      have htn : ((m : Int) + i).toNat = m + i := by omega
      have hmi0 : (0 : Int) ≤ (m : Int) + i := by omega
      have HLb : Hid ((L : Int) ≤ 1000000) := Lib.hid (by have := HL.out; omega)
      have H2 := Lib.hid (Ow.own H1.out.1)
      have H3 := Lib.hid (Hb.out.grown H1.out.2 Hb.out.size (by simp))
      clear hst3 H1 hlt
      go_wp2_with fail
      obtain ⟨w2, hw2⟩ : ∃ w2, w2 = wr.setCell ⟨w.heap.size, m + i, none⟩ (.int .i64 cc) := ⟨_, rfl⟩
      rw [← hw2] at H2 H3 ⊢
      clear hw2
      refine (trim_any _ L L w2.heap.size (zs.set (m + i) cc) w2 H2.out.rd Hfin.out.2.2 Hfin.out.2.1 (Int.le_refl _) HLb.out).mono ?_
      rintro e w3 ⟨rfl, q, rfl⟩
      have Hp : Hid (limbs (2 ^ k * v) = (zs.set (m + i) cc).take (limbs (2 ^ k * v)).length) := Lib.hid (by have h := limbs_prefix Hfin.out.2.1; rw [Hfin.out.1] at h; exact h)
      rw [Hfin.out.1]
      go_wp2_with fail
      go_ret
      exact ⟨_, rfl, (((H2.out.take (limbs (2 ^ k * v)).length).eq_ (by rw [← vs_take, ← Hp.out])).drewN q).wide (Nat.le_refl _) (Nat.le_refl _), below_drewN H3.out q⟩
end Go.Proofs.YtngminjncdfjdaaGreatDoor
/- Shifts down of limbs, of the program. -/
namespace Go.Proofs.YtngminjncdfjdaaGreatDoor
set_option maxRecDepth 100000
open Go.RowKit
set_option linter.unusedSimpArgs false
set_option linter.unusedVariables false

theorem V_drop_div {xs : List Nat} (h : Lim xs) {m : Nat} (hm : m ≤ xs.length) : V (xs.drop m) = V xs / Bs ^ m := by
  have h1 := V_take_drop xs m hm
  have h2 := V_lt (h.take m)
  rw [List.length_take, Nat.min_eq_left hm] at h2
  rw [h1, Nat.add_mul_div_left _ _ (Bs_pow_pos m), Nat.div_eq_of_lt h2, Nat.zero_add]
theorem and_low (t p : Nat) (ht : t < 9223372036854775808) (hp : p ≤ 23) : bits .and .i64 (t : Int) ((2 : Int) ^ p - 1) = ((t % 2 ^ p : Nat) : Int) := by
  have h23 : 2 ^ p ≤ 2 ^ 23 := Nat.pow_le_pow_right (by omega) hp
  have h1 := Nat.two_pow_pos p
  have e : (2 : Int) ^ p - 1 = ((2 ^ p - 1 : Nat) : Int) := by rw [Int.natCast_sub h1, Int.natCast_pow]; rfl
  rw [e]
  show IntKind.i64.wrap ((BitVec.ofInt 64 (t : Int) &&& BitVec.ofInt 64 (((2 ^ p - 1 : Nat)) : Int)).toNat : Int) = _
  have h2 : (BitVec.ofInt 64 (t : Int)).toNat = t := by rw [BitVec.ofInt_natCast, BitVec.toNat_ofNat]; exact Nat.mod_eq_of_lt (by omega)
  have h3 : (BitVec.ofInt 64 (((2 ^ p - 1 : Nat)) : Int)).toNat = 2 ^ p - 1 := by rw [BitVec.ofInt_natCast, BitVec.toNat_ofNat]; exact Nat.mod_eq_of_lt (by omega)
  rw [BitVec.toNat_and, h2, h3, Nat.and_two_pow_sub_one_eq_mod]
  have := Nat.mod_lt t h1
  exact wrapI_small (by omega) (by omega)

theorem wrap_low (a : Int) (h0 : 1 ≤ a) (h1 : a ≤ 8388608) : wrap64 (wrap64 a - 1) = a - 1 := by
  have e1 : wrap64 a = a := wrap64_small (by omega) (by omega)
  rw [e1]
  exact wrap64_small (by omega) (by omega)
theorem wrap_pow (p : Nat) (hp : p ≤ 23) : wrap64 (wrap64 ((2 : Int) ^ p) - 1) = (2 : Int) ^ p - 1 := by
  have h23 : 2 ^ p ≤ 2 ^ 23 := Nat.pow_le_pow_right (by omega) hp
  have h1 := Nat.two_pow_pos p
  have e : (2 : Int) ^ p = ((2 ^ p : Nat) : Int) := by rw [Int.natCast_pow]; rfl
  rw [e]
  generalize 2 ^ p = y at h23 h1 ⊢
  have h3 : (2 : Nat) ^ 23 = 8388608 := by decide
  rw [h3] at h23
  exact wrap_low _ (by omega) (by omega)

set_option maxHeartbeats 1000000 in
theorem natShr_any (v k : Nat) (A : Option Addr) (n c B : Nat) (w : World) (hr : Rd w B A (vs (limbs v))) (hB : B ≤ w.heap.size) (hn : (limbs v).length = n) (hm : (n : Int) ≤ 100000) (hk : (k : Int) ≤ 1000000) :
    Calls Tryz.prog 118 #[.slice A n c, .int .i64 k] w fun e w' => ∃ A2, e = .returned (.slice A2 (limbs (v / 2 ^ k)).length (limbs (v / 2 ^ k)).length) ∧ Ow w' w.heap.size w'.heap.size A2 (vs (limbs (v / 2 ^ k))) ∧ Below w.heap.size w w' := by
  obtain ⟨i0, hi0, hz0, hz1, hz2⟩ := info_parts infoI
  have hst := store_int Tryz.prog
  have Hr := Lib.hid (hr.up hB)
  have Hn := Lib.hid hn
  clear hr hn hB
  by_cases hbig : blen v ≤ k
  · have Hv : Hid (v / 2 ^ k = 0) := Lib.hid (Nat.div_eq_of_lt (blen_lt.1 hbig))
    have hb2 : (blen v : Int) ≤ k := by omega
    go_enter Tryz.func118, Tryz.ntmps118
    go_wp2_with fail
    refine (natLen_any v A n c _ _ Hr.out Hn.out hm).mono ?_
    rintro e w' ⟨rfl, rfl⟩
    go_wp2_with fail
    go_ret
    rw [Hv.out, limbs_zero]
    exact ⟨none, rfl, .inl rfl, Below.refl _ _⟩
  · have hb2 : ¬ (blen v : Int) ≤ k := by omega
    obtain ⟨m, hmm⟩ : ∃ m, m = k / 24 := ⟨_, rfl⟩
    obtain ⟨p, hpp⟩ : ∃ p, p = k % 24 := ⟨_, rfl⟩
    have hmn : m < n := by
      rcases Nat.lt_or_ge m n with h | h
      · exact h
      · exfalso
        have h1 := limbs_len_le.1 (show (limbs v).length ≤ n by rw [Hn.out]; exact Nat.le_refl _)
        rw [Bs_pow] at h1
        have h2 := blen_lt.2 h1
        omega
    obtain ⟨L, hL⟩ : ∃ L, L = n - m := ⟨_, rfl⟩
    have hkm : (k : Int) / 24 = m := by omega
    have hkp : (k : Int) % 24 = p := by omega
    have hp23 : (p : Int) ≤ 23 := by omega
    have hmb : (m : Int) ≤ 50000 := by omega
    have hLi : (n : Int) - m = L := by omega
    have hLb : (L : Int) ≤ 100000 := by omega
    have HL := Lib.hid hL
    have Hmn := Lib.hid hmn
    have Hk : Hid (k = 24 * m + p) := Lib.hid (by omega)
    have hbytes : i0.bytes * L ≤ 281474976710656 := by rw [hz2]; omega
    clear hmm hpp hL hmn hbig
    go_enter Tryz.func118, Tryz.ntmps118
    go_wp2_with (first | (go_at_call 134; refine (natLen_any v A n c _ _ Hr.out Hn.out hm).mono ?_; rintro e w' ⟨rfl, rfl⟩) | (refine wpList_make_full _ rfl _ _ _ rfl w.heap.size 2 i0 _ 1 Tryz.underlying118 hi0 hz0 hz1 _ _ _ _ L rfl rfl rfl rfl hbytes (by unfold maxLen; omega) (Nat.le_refl _) ?_; intro w1 hown hg))
    rw [made_zeros] at hown
    have Hown := Lib.hid hown
    have Hb1 : Hid (Below w.heap.size w w1) := Lib.hid ((Below.refl _ _).grown hg (Nat.le_refl _) (by simp))
    clear hown hg hbytes
    go_loopw [8, 9] (fun rv iv wr => ∃ (k r : Nat) (zs : List Nat), k ≤ L ∧ iv = .int .i64 ((k : Int) - 1) ∧ rv = .int .i64 r ∧ r < 2 ^ p ∧ zs.length = L ∧ Lim zs ∧ V (((limbs v).drop m).drop k) = V (zs.drop k) * 2 ^ p + r ∧ wr.ownsRow w.heap.size 2 1 (.slice (some ⟨w.heap.size, 0, none⟩) L L) L (vs zs) ∧ Below w.heap.size w wr) (fun _ iv _ => (intOf iv + 1).toNat)
    case atStart => exact ⟨L, 0, List.replicate L 0, Nat.le_refl _, rfl, rfl, Nat.two_pow_pos _, List.length_replicate, Lim_zeros _, by rw [List.drop_of_length_le (by rw [List.length_drop, Hn.out, HL.out]; omega), List.drop_of_length_le (by rw [List.length_replicate]; omega)]; simp [V], Hown.out, Hb1.out⟩
    case round =>
      clear Hown Hb1
      obtain ⟨k', r, zs, hk', rfl, rfl, hrd, hzl, hzt, hzv, hown, hb⟩ := hrel
      have Hrd := Lib.hid hrd
      have Hzl := Lib.hid hzl
      have Hzt := Lib.hid hzt
      have Hzv := Lib.hid hzv
      have Hown := Lib.hid hown
      have Hb := Lib.hid hb
      have hpb : (2 : Nat) ^ p ≤ 2 ^ 23 := Nat.pow_le_pow_right (by omega) (by omega)
      have hr0 : (0 : Int) ≤ r := by omega
      have hr1 : (r : Int) ≤ 8388607 := by omega
      clear hrd hzl hzt hzv hown hb hpb
      by_cases h0 : k' = 0
      · subst h0
        have Hfin : Hid (V zs = v / 2 ^ k) := Lib.hid (by
          have h := Hzv.out
          rw [List.drop_zero, List.drop_zero, V_drop_div (Lim_limbs v) (by have := Hmn.out; have := Hn.out; omega), V_limbs] at h
          have hrd := Hrd.out
          rw [Hk.out, Nat.pow_add, ← Nat.div_div_eq_div_mul, ← Bs_pow, h, Nat.mul_comm, Nat.mul_add_div (Nat.two_pow_pos p), Nat.div_eq_of_lt hrd, Nat.add_zero])
        have H1 := Lib.hid (Ow.own Hown.out)
        go_wp2_with fail
        refine (trim_any _ L L wr.heap.size zs wr H1.out.rd Hzl.out Hzt.out (by omega) (by omega)).mono ?_
        rintro e w3 ⟨rfl, q, rfl⟩
        have Hp : Hid (limbs (v / 2 ^ k) = zs.take (limbs (v / 2 ^ k)).length) := Lib.hid (by have h := limbs_prefix Hzt.out; rw [Hfin.out] at h; exact h)
        rw [Hfin.out]
        go_wp2_with fail
        go_ret
        exact ⟨_, rfl, (((H1.out.take (limbs (v / 2 ^ k)).length).eq_ (by rw [← vs_take, ← Hp.out])).drewN q).wide (Nat.le_refl _) (Nat.le_refl _), below_drewN Hb.out q⟩
      · obtain ⟨j, rfl⟩ : ∃ j, k' = j + 1 := ⟨k' - 1, by omega⟩
        have hkx : m + j < (limbs v).length := by rw [Hn.out]; have := HL.out; omega
        have hra := Hr.out.below Hb.out
        obtain ⟨q, hq, _⟩ := hra.some_ (by rw [vs_len]; omega)
        subst hq
        have hcx := hra.cell (k := m + j) (by rw [vs_len]; exact hkx)
        rw [vs_get hkx] at hcx
        have Hvd : Hid (V (((limbs v).drop m).drop j) = (limbs v)[m + j] + Bs * V (((limbs v).drop m).drop (j + 1))) := Lib.hid (by
          rw [List.drop_drop, List.drop_drop, V_drop hkx]
          rfl)
        have Hxb := Lib.hid ((Lim_limbs v).getElem hkx)
        have hkz : j < zs.length := by rw [Hzl.out]; omega
        have hcz := Hown.out.cellAt j (by omega)
        rw [List.getElem?_eq_getElem (by rw [vs_len]; exact hkz), vs_get hkz] at hcz
        have hfz := Hown.out.frozenAt j
        have hj : ((j + 1 : Nat) : Int) - 1 = j := by omega
        rw [hj]
        have Hj := Lib.hid hj
        have hjn : (j : Int) < L := by omega
        clear hra hj h0
        generalize (limbs v)[m + j] = x at *
        generalize zs[j] = u at *
        have hor := or_limb r x (by omega) Hxb.out
        obtain ⟨t, ht⟩ : ∃ t, t = r * Bs + x := ⟨_, rfl⟩
        rw [← ht] at hor
        have ht0 : (0 : Int) ≤ t := by omega
        have ht1 : (t : Int) ≤ 140737488355327 := by have := Hxb.out; rw [Bs_eq] at ht this; omega
        have Hs := Lib.hid (small_step (t := t / 2 ^ p) hkz Hvd.out Hzv.out (Nat.two_pow_pos p) (by rw [ht]))
        have Ht : Hid (t / 2 ^ p < Bs ∧ t % 2 ^ p < 2 ^ p ∧ (r * Bs + x) % 2 ^ p = t % 2 ^ p) := Lib.hid ⟨by rw [ht]; exact div_lt_Bs Hrd.out Hxb.out, Nat.mod_lt _ (Nat.two_pow_pos p), by rw [ht]⟩
        have hand := and_low t p (by omega) (by omega)
        have hmj : (m : Int) + j < n := by have := HL.out; omega
        have htn : ((m : Int) + j).toNat = m + j := by omega
        have hmj0 : (0 : Int) ≤ (m : Int) + j := by omega
        have hwr := wrap_pow p (by omega)
        rw [← hwr] at hand
        have Hand := Lib.hid hand
        obtain ⟨y, hy⟩ : ∃ y, y = t / 2 ^ p := ⟨_, rfl⟩
        obtain ⟨r2, hr2⟩ : ∃ r2, r2 = t % 2 ^ p := ⟨_, rfl⟩
        have Hquo : Hid ((t : Int) / 2 ^ p = (y : Int)) := Lib.hid (by rw [hy, Int.natCast_ediv, Int.natCast_pow]; rfl)
        rw [← hy] at Hs Ht
        rw [← hr2] at Ht Hand
        have hst3 := Hown.out.stored j (.int .i64 y)
        rw [vs_set] at hst3
        have H1 := Lib.hid hst3
        clear ht hwr hand hy hr2 hst3
        go_wp2_with fail
        rw [Hquo.out, Hand.out]
        go_roundw
        case rel => exact ⟨j, r2, zs.set j y, by omega, rfl, rfl, Ht.out.2.1, by rw [List.length_set]; exact Hzl.out, Hzt.out.set Ht.out.1, by rw [Hs.out, Ht.out.2.2], H1.out.1, Hb.out.grown H1.out.2 Hb.out.size (by simp)⟩
        case measure => simp [intOf]
end Go.Proofs.YtngminjncdfjdaaGreatDoor
/- Whole and exact numbers as values and in boxes; the table of Go's library. -/
namespace Go.Proofs.YtngminjncdfjdaaGreatDoor
set_option maxRecDepth 100000
open Go.RowKit
set_option linter.unusedSimpArgs false
set_option linter.unusedVariables false

/-- a value's parts that are the whole number z, its limbs to be read -/
def ZV (w : World) (z S : Int) (A : Option Addr) (n c : Nat) : Prop := S = z.sign ∧ (limbs z.natAbs).length = n ∧ n ≤ c ∧ Rd w w.heap.size A (vs (limbs z.natAbs))
/-- .. its limbs a row of the call's own -/
def ZO (w : World) (lo hi : Nat) (z S : Int) (A : Option Addr) (n c : Nat) : Prop := S = z.sign ∧ (limbs z.natAbs).length = n ∧ n ≤ c ∧ Ow w lo hi A (vs (limbs z.natAbs)) ∧ hi ≤ w.heap.size
section
variable {w w' : World} {z S : Int} {A : Option Addr} {n c lo hi : Nat}
theorem ZV.next (h : ZV w z S A n c) (hb : Below w.heap.size w w') : ZV w' z S A n c := ⟨h.1, h.2.1, h.2.2.1, (h.2.2.2.below hb).up hb.size⟩
theorem ZV.drew (h : ZV w z S A n c) : ZV w.drew z S A n c := h
theorem sg_sign (z : Int) : Sg z.sign z.natAbs := by
  refine ⟨?_, ?_, ?_⟩
  · rcases Int.lt_trichotomy z 0 with h | h | h
    · rw [Int.sign_eq_neg_one_of_neg h]; omega
    · subst h; simp
    · rw [Int.sign_eq_one_of_pos h]; omega
  · rcases Int.lt_trichotomy z 0 with h | h | h
    · rw [Int.sign_eq_neg_one_of_neg h]; omega
    · subst h; simp
    · rw [Int.sign_eq_one_of_pos h]; omega
  · rw [Int.sign_eq_zero_iff_zero]; omega
theorem ZV.sg (h : ZV w z S A n c) : Sg S z.natAbs := by rw [h.1]; exact sg_sign z
theorem ZV.val (h : ZV w z S A n c) : S * (z.natAbs : Int) = z := by rw [h.1]; exact Int.sign_mul_natAbs z
theorem ZV.len (h : ZV w z S A n c) : (limbs z.natAbs).length = n := h.2.1
theorem ZV.rd (h : ZV w z S A n c) : Rd w w.heap.size A (vs (limbs z.natAbs)) := h.2.2.2
theorem ZV.cap (h : ZV w z S A n c) : n ≤ c := h.2.2.1
theorem ZV.neg (h : ZV w z S A n c) : ZV w (-z) (-S) A n c := by
  refine ⟨?_, ?_, h.2.2.1, ?_⟩
  · rw [Int.sign_neg, h.1]
  · rw [Int.natAbs_neg]; exact h.2.1
  · rw [Int.natAbs_neg]; exact h.2.2.2
theorem ZV.cast_ {z' : Int} (h : ZV w z S A n c) (e : z = z') : ZV w z' S A n c := e ▸ h
theorem ZO.zv (h : ZO w lo hi z S A n c) : ZV w z S A n c := ⟨h.1, h.2.1, h.2.2.1, h.2.2.2.1.rd.up h.2.2.2.2⟩
theorem ZO.cast_ {z' : Int} (h : ZO w lo hi z S A n c) (e : z = z') : ZO w lo hi z' S A n c := e ▸ h
theorem ZO.next (h : ZO w lo hi z S A n c) (hb : Below w.heap.size w w') : ZO w' lo hi z S A n c := ⟨h.1, h.2.1, h.2.2.1, h.2.2.2.1.below' hb, Nat.le_trans h.2.2.2.2 hb.size⟩
theorem ZO.wide {lo' hi' : Nat} (h : ZO w lo hi z S A n c) (h1 : lo' ≤ lo) (h2 : hi ≤ hi') (h3 : hi' ≤ w.heap.size) : ZO w lo' hi' z S A n c := ⟨h.1, h.2.1, h.2.2.1, h.2.2.2.1.wide h1 h2, h3⟩
theorem ZO.setCell (h : ZO w lo hi z S A n c) {p : Addr} (hp : p.block < lo ∨ hi ≤ p.block) (u : Value) : ZO (w.setCell p u) lo hi z S A n c := ⟨h.1, h.2.1, h.2.2.1, h.2.2.2.1.setCell hp u, by have := h.2.2.2.2; simpa using this⟩
theorem ZO.alloc (h : ZO w lo hi z S A n c) (o : Obj) : ZO (w.alloc o) lo hi z S A n c := h.next (belAlloc1 w o)
theorem ZO.drew (h : ZO w lo hi z S A n c) : ZO w.drew lo hi z S A n c := h
theorem ZO.zero (h : hi ≤ w.heap.size) : ZO w lo hi 0 0 none 0 0 := ⟨by simp, by simp [limbs_zero], Nat.le_refl _, by simp [limbs_zero, vs, li, vi]; exact .inl rfl, h⟩
theorem ZV.zero : ZV w 0 0 none 0 0 := ⟨by simp, by simp [limbs_zero], Nat.le_refl _, by simp [limbs_zero, vs, li, vi]; exact Rd.nil_⟩
theorem Wz.zo {val : Value} (h : Wz w lo hi z val) (hi_ : hi ≤ w.heap.size) : ∃ S A n c, val = .agg #[.int .i64 S, .slice A n c] ∧ ZO w lo hi z S A n c := by
  obtain ⟨A, c, h1, h2, h3⟩ := h
  exact ⟨_, A, _, c, h1, rfl, rfl, h3, h2, hi_⟩
theorem ZO.wz (h : ZO w lo hi z S A n c) : Wz w lo hi z (.agg #[.int .i64 S, .slice A n c]) := by
  obtain ⟨h1, h2, h3, h4, _⟩ := h
  exact ⟨A, c, by rw [h1, h2], h4, by rw [h2]; exact h3⟩
end

/-- an exact number's box -/
def DBox (w : World) (b : Nat) (S : Int) (A : Option Addr) (n c : Nat) (E : Int) : Prop := (w.cell? ⟨b, 0, none⟩ = some (.int .i64 S) ∧ w.cell? ⟨b, 1, none⟩ = some (.slice A n c) ∧ w.cell? ⟨b, 2, none⟩ = some (.int .i64 E)) ∧ b < w.heap.size
/-- a result's box, yet untouched -/
def DRes (w : World) (b : Nat) : Prop := (w.cell? ⟨b, 0, none⟩ = some (.int .i64 0) ∧ w.cell? ⟨b, 1, none⟩ = some (.slice none 0 0) ∧ w.cell? ⟨b, 2, none⟩ = some (.int .i64 0) ∧ w.frozen? ⟨b, 0, none⟩ = false ∧ w.frozen? ⟨b, 1, none⟩ = false ∧ w.frozen? ⟨b, 2, none⟩ = false) ∧ b < w.heap.size
section
variable {w w' : World} {S E : Int} {A : Option Addr} {n c b : Nat}
theorem DBox.next (h : DBox w b S A n c E) (hb : Below w.heap.size w w') : DBox w' b S A n c E :=
  ⟨⟨(hb.cell (p := ⟨b, 0, none⟩) h.2).trans h.1.1, (hb.cell (p := ⟨b, 1, none⟩) h.2).trans h.1.2.1, (hb.cell (p := ⟨b, 2, none⟩) h.2).trans h.1.2.2⟩, Nat.lt_of_lt_of_le h.2 hb.size⟩
theorem DRes.next (h : DRes w b) (hb : Below w.heap.size w w') : DRes w' b :=
  ⟨⟨(hb.cell (p := ⟨b, 0, none⟩) h.2).trans h.1.1, (hb.cell (p := ⟨b, 1, none⟩) h.2).trans h.1.2.1, (hb.cell (p := ⟨b, 2, none⟩) h.2).trans h.1.2.2.1, (hb.frozen (p := ⟨b, 0, none⟩) h.2).trans h.1.2.2.2.1, (hb.frozen (p := ⟨b, 1, none⟩) h.2).trans h.1.2.2.2.2.1, (hb.frozen (p := ⟨b, 2, none⟩) h.2).trans h.1.2.2.2.2.2⟩, Nat.lt_of_lt_of_le h.2 hb.size⟩
theorem DBox.drew (h : DBox w b S A n c E) : DBox w.drew b S A n c E := h
theorem DRes.drew (h : DRes w b) : DRes w.drew b := h
theorem DBox.keep (h : DBox w b S A n c E) {p : Addr} (hp : p.block ≠ b) (u : Value) : DBox (w.setCell p u) b S A n c E := by
  have hk : ∀ o, (w.setCell p u).cell? ⟨b, o, none⟩ = w.cell? ⟨b, o, none⟩ := fun o => World.cell?_of_block (a := ⟨b, o, none⟩) (Below.heap_setCell _ _ _ _ (fun e => hp e.symm))
  exact ⟨⟨(hk 0).trans h.1.1, (hk 1).trans h.1.2.1, (hk 2).trans h.1.2.2⟩, by have := h.2; simpa using this⟩
theorem DBox.new (w : World) (S : Int) (A : Option Addr) (n c : Nat) (E : Int) (t : TypeId) : DBox (w.alloc (.cells #[.int .i64 S, .slice A n c, .int .i64 E] t)) w.heap.size S A n c E := by
  refine ⟨⟨?_, ?_, ?_⟩, ?_⟩ <;> simp
theorem DRes.new (w : World) (t : TypeId) : DRes (w.alloc (.cells #[.int .i64 0, .slice none 0 0, .int .i64 0] t)) w.heap.size := by
  refine ⟨⟨?_, ?_, ?_, ?_, ?_, ?_⟩, ?_⟩
  · simp
  · simp
  · simp
  · go_simp
  · go_simp
  · go_simp
  · simp
end
/-- the boxes of one argument and of the result -/
theorem dbox_res (w : World) (S : Int) (A : Option Addr) (n c : Nat) (E : Int) (t t2 : TypeId) :
    ∃ W, W = (w.alloc (.cells #[.int .i64 S, .slice A n c, .int .i64 E] t)).alloc (.cells #[.int .i64 0, .slice none 0 0, .int .i64 0] t2) ∧
      DBox W w.heap.size S A n c E ∧ DRes W (w.heap.size + 1) ∧ Below w.heap.size w W := by
  refine ⟨_, rfl, (DBox.new w S A n c E t).next (belAlloc1 _ _), ?_, ?_⟩
  · have h := DRes.new (w.alloc (.cells #[.int .i64 S, .slice A n c, .int .i64 E] t)) t2
    simpa using h
  · exact belNext (belAlloc1 _ _) (belAlloc1 _ _)
/-- of two arguments and of the result -/
theorem dbox2_res (w : World) (S S' : Int) (A A' : Option Addr) (n n' c c' : Nat) (E E' : Int) (t t' t2 : TypeId) :
    ∃ W, W = ((w.alloc (.cells #[.int .i64 S, .slice A n c, .int .i64 E] t)).alloc (.cells #[.int .i64 S', .slice A' n' c', .int .i64 E'] t')).alloc (.cells #[.int .i64 0, .slice none 0 0, .int .i64 0] t2) ∧
      DBox W w.heap.size S A n c E ∧ DBox W (w.heap.size + 1) S' A' n' c' E' ∧ DRes W (w.heap.size + 1 + 1) ∧ Below w.heap.size w W := by
  refine ⟨_, rfl, ((DBox.new w S A n c E t).next (belAlloc1 _ _)).next (belAlloc1 _ _), ?_, ?_, ?_⟩
  · have h := (DBox.new (w.alloc (.cells #[.int .i64 S, .slice A n c, .int .i64 E] t)) S' A' n' c' E' t').next (belAlloc1 _ (.cells #[.int .i64 0, .slice none 0 0, .int .i64 0] t2))
    simpa using h
  · have h := DRes.new ((w.alloc (.cells #[.int .i64 S, .slice A n c, .int .i64 E] t)).alloc (.cells #[.int .i64 S', .slice A' n' c', .int .i64 E'] t')) t2
    simpa using h
  · exact belNext (belNext (belAlloc1 _ _) (belAlloc1 _ _)) (belAlloc1 _ _)
/-- the table of math/bits in its variable -/
def TabZ (w : World) : Prop := TabAt 1 Lib.deBruijn64tab w
theorem TabZ.next {w w' : World} (h : TabZ w) (hb : Below w.heap.size w w') : TabZ w' := fun j hj =>
  (hb.cell (p := ⟨1, j, none⟩) (World.block_lt_of_cell? w _ (h j hj))).trans (h j hj)
theorem TabZ.drew {w : World} (h : TabZ w) : TabZ w.drew := h
theorem TabZ.drewN {w : World} (h : TabZ w) (n : Nat) : TabZ (w.drewN n) := h

theorem ctzFrom_tz : ∀ (f x : Nat), x ≠ 0 → x < 2 ^ f → Lib.ctzFrom f x = tz x
  | 0, x, h0, h => by simp at h; omega
  | f + 1, x, h0, h => by
    unfold Lib.ctzFrom
    split
    · rename_i h1; rw [tz_odd h1]
    · rename_i h1
      rw [tz_even h0 (by omega), ctzFrom_tz f (x / 2) (by omega) (by rw [Nat.pow_succ] at h; omega)]
      omega
theorem ctz_tz {x : Nat} (h0 : x ≠ 0) (h : x < 18446744073709551616) : Lib.ctz 64 x = tz x := by
  have e : Lib.ctz 64 x = Lib.ctzFrom 64 x := by simp [Lib.ctz, h0]
  rw [e, ctzFrom_tz 64 x h0 (by omega)]

set_option maxHeartbeats 1000000 in
theorem tz64_core (x k idx : Nat) (w : World) (hx0 : ((x : Int) == 0) = false)
    (key : IntKind.u64.wrap (bits BinOp.and IntKind.u64 (x : Int) (IntKind.u64.wrap (-(x : Int))) * 285870213051353865) / 288230376151711744 = (idx : Int))
    (hi : idx < 64) (hk : k < 64) (hcell : w.cell? ⟨1, idx, none⟩ = some (.int .u8 k)) :
    Calls Tryz.prog 135 #[.int .u64 x] w fun e w' => e = .returned (.int .i64 k) ∧ w = w' := by
  go_enter Tryz.func135, Tryz.ntmps135
  go_wp2_with (simp only [key])
  go_ret
  exact ⟨rfl, rfl⟩
theorem tz64_any (x : Nat) (w : World) (h0 : x ≠ 0) (hx : x < Bs) (hT : TabZ w) : Calls Tryz.prog 135 #[.int .u64 x] w fun e w' => e = .returned (.int .i64 (tz x : Nat)) ∧ w = w' := by
  rw [Bs_eq] at hx
  obtain ⟨hlow, hk⟩ := Lib.lowest_bit 64 x h0 (by omega)
  obtain ⟨hi, htab⟩ := Lib.deBruijn64_at _ hk
  have hcell := hT _ hi
  rw [htab] at hcell
  rw [ctz_tz h0 (by omega)] at *
  exact tz64_core x _ _ w (by simp; omega) (tz64_key x _ (by omega) h0 hlow) hi hk hcell

set_option maxHeartbeats 400000 in
theorem natZeros_any (v : Nat) (A : Option Addr) (n c B : Nat) (w : World) (hr : Rd w B A (vs (limbs v))) (hn : (limbs v).length = n) (hm : (n : Int) ≤ 100000) (hT : TabZ w) :
    Calls Tryz.prog 119 #[.slice A n c] w fun e w' => e = .returned (.int .i64 (tz v : Nat)) ∧ w = w' := by
  have Hn := Lib.hid hn
  have HT := Lib.hid hT
  clear hn hT
  go_enter Tryz.func119, Tryz.ntmps119
  go_wp2_with fail
  go_loop [3, 4, 7] (fun _ _ i => ∃ k : Nat, k ≤ n ∧ i = .int .i64 k ∧ ∀ j (h : j < (limbs v).length), j < k → (limbs v)[j] = 0) (fun _ _ i => n - (intOf i).toNat)
  case atStart => exact ⟨0, Nat.zero_le _, rfl, fun j h h2 => absurd h2 (by omega)⟩
  case round =>
    obtain ⟨k, hk, rfl, hz⟩ := hrel
    have Hz := Lib.hid hz
    clear hz
    by_cases hlt : k < n
    · have hkx : k < (limbs v).length := by rw [Hn.out]; exact hlt
      obtain ⟨a, ha, _⟩ := hr.some_ (by rw [vs_len]; omega)
      subst ha
      have hcx := hr.cell (k := k) (by rw [vs_len]; exact hkx)
      rw [vs_get hkx] at hcx
      have Hxb := Lib.hid ((Lim_limbs v).getElem hkx)
      have hx1 : (((limbs v)[k] : Nat) : Int) ≤ 16777215 := by have := Hxb.out; rw [Bs_eq] at this; omega
      have hx0 : (0 : Int) ≤ ((limbs v)[k] : Nat) := by omega
      by_cases hx : (limbs v)[k] = 0
      · have Hz2 : Hid (∀ j (h : j < (limbs v).length), j < k + 1 → (limbs v)[j] = 0) := Lib.hid (fun j h h2 => by
          by_cases e : j = k
          · subst e; exact hx
          · exact Hz.out j h (by omega))
        rw [hx] at hcx
        clear hr hx hx0 hx1
        go_wp2_with fail
        go_round
        case rel => exact ⟨k + 1, by omega, by go_num, Hz2.out⟩
        case measure => simp [intOf]; omega
      · have Hfin : Hid (tz v = 24 * k + tz (limbs v)[k]) := Lib.hid (by have h := tz_limbs hkx Hz.out hx Hxb.out; rwa [V_limbs] at h)
        have hx2 : (((limbs v)[k] : Nat) : Int) ≠ 0 := by omega
        have Hx := Lib.hid hx
        have Ht : Hid (tz (limbs v)[k] ≤ 1000) := Lib.hid (by
          have h1 := (tz_spec hx).1
          have h3 := Hxb.out
          rcases Nat.lt_or_ge (tz (limbs v)[k]) 1000 with h2 | h2
          · omega
          · exfalso
            have h4 : 2 ^ 24 ≤ 2 ^ tz (limbs v)[k] := Nat.pow_le_pow_right (by omega) (by omega)
            have h5 := od_pos hx
            have h6 : 2 ^ tz (limbs v)[k] * 1 ≤ 2 ^ tz (limbs v)[k] * od (limbs v)[k] := Nat.mul_le_mul_left _ (by omega)
            rw [Bs_eq] at h3
            omega)
        generalize (limbs v)[k] = x at *
        clear hr hx
        go_wp2_with fail
        refine (tz64_any x _ Hx.out Hxb.out HT.out).mono ?_
        rintro e w' ⟨rfl, rfl⟩
        obtain ⟨t, ht⟩ : ∃ t, t = tz x := ⟨_, rfl⟩
        rw [← ht] at Ht Hfin ⊢
        have ht1 : (t : Int) ≤ 1000 := by have := Ht.out; omega
        clear ht
        go_wp2_with fail
        go_ret
        exact ⟨ret_int (by rw [Hfin.out]; omega), rfl⟩
    · have hkn : k = n := by omega
      have Hv : Hid (tz v = 0) := Lib.hid (by
        have h : limbs v = [] ∨ limbs v ≠ [] := Classical.em _
        rcases h with h | h
        · rw [limbs_eq_nil.1 h, tz_zero]
        · exfalso
          have h1 := limbs_last v h
          rw [List.getLast_eq_getElem] at h1
          exact h1 (Hz.out _ (by have := List.length_pos_iff.2 h; omega) (by have := List.length_pos_iff.2 h; have := Hn.out; omega)))
      subst hkn
      clear hr
      go_wp2_with fail
      go_ret
      exact ⟨ret_int (by rw [Hv.out]; rfl), rfl⟩
end Go.Proofs.YtngminjncdfjdaaGreatDoor
/- Shifts of a whole number, of the program. -/
namespace Go.Proofs.YtngminjncdfjdaaGreatDoor
set_option maxRecDepth 100000
open Go.RowKit
set_option linter.unusedSimpArgs false
set_option linter.unusedVariables false

theorem sgn_or {S z : Int} (hS : S = z.sign) {v : Nat} (h : z = 0 → v = 0) : S = 1 ∨ S = -1 ∨ v = 0 := by
  subst hS
  rcases Int.lt_trichotomy z 0 with h1 | h1 | h1
  · exact .inr (.inl (Int.sign_eq_neg_one_of_neg h1))
  · exact .inr (.inr (h h1))
  · exact .inl (Int.sign_eq_one_of_pos h1)
theorem shl_len {v n : Nat} (hn : (limbs v).length = n) (m : Nat) : (limbs (2 ^ m * v)).length ≤ n + m / 24 + 1 := by
  rw [limbs_len_le]
  have h1 := limbs_len_le.1 (show (limbs v).length ≤ n by omega)
  have h2 : 2 ^ m ≤ Bs ^ (m / 24 + 1) := by rw [Bs_pow]; exact Nat.pow_le_pow_right (by omega) (by omega)
  have e : Bs ^ (n + m / 24 + 1) = Bs ^ (m / 24 + 1) * Bs ^ n := by rw [← Nat.pow_add]; congr 1; omega
  rw [e]
  exact Nat.mul_lt_mul_of_le_of_lt h2 h1 (Bs_pow_pos _)
theorem sh_up {z S : Int} (hS : S = z.sign) (m : Nat) : S * ((2 ^ m * z.natAbs : Nat) : Int) = shZ z m := by
  rw [shZ_up (by omega), Int.toNat_natCast, Int.natCast_mul, Int.mul_left_comm, hS, Int.sign_mul_natAbs, pow_cast]
theorem shZ_nat {z : Int} {m : Nat} (hm : 0 < m) : shZ z (-(m : Int)) = z / (2 : Int) ^ m := by
  rw [shZ_down (by omega)]
  congr 2
  omega
theorem sh_down_nonneg {z S : Int} (hS : S = z.sign) (h0 : ¬ S < 0) {m : Nat} (hm : 0 < m) : S * ((z.natAbs / 2 ^ m : Nat) : Int) = shZ z (-(m : Int)) := by
  rw [shZ_nat hm]
  subst hS
  rcases Int.lt_trichotomy z 0 with h1 | h1 | h1
  · rw [Int.sign_eq_neg_one_of_neg h1] at h0; omega
  · subst h1; simp
  · rw [Int.sign_eq_one_of_pos h1, Int.one_mul, ← shr_pos]
    congr 1
    omega
theorem sgn_m1 {z S : Int} (hS : S = z.sign) (h : S < 0) : S = -1 := by
  subst hS
  rcases Int.lt_trichotomy z 0 with h1 | h1 | h1
  · exact Int.sign_eq_neg_one_of_neg h1
  · subst h1; simp at h
  · rw [Int.sign_eq_one_of_pos h1] at h; omega
theorem neg_of {z : Int} (h : z < 0) : z = -(z.natAbs : Int) := by omega
theorem sign_neg_iff {z S : Int} (hS : S = z.sign) : S < 0 ↔ z < 0 := by
  subst hS
  rcases Int.lt_trichotomy z 0 with h1 | h1 | h1
  · rw [Int.sign_eq_neg_one_of_neg h1]; omega
  · subst h1; simp
  · rw [Int.sign_eq_one_of_pos h1]; omega
theorem sh_down_exact {z S : Int} (hS : S = z.sign) (h0 : S < 0) {m : Nat} (hm : 0 < m) (ht : ¬ tz z.natAbs < m) : S * ((z.natAbs / 2 ^ m : Nat) : Int) = shZ z (-(m : Int)) := by
  have hz := (sign_neg_iff hS).1 h0
  have h1 := (tz_dvd (v := z.natAbs) (k := m) (by omega)).1 (by omega)
  rw [shZ_nat hm, hS, Int.sign_eq_neg_one_of_neg hz]
  conv => rhs; rw [neg_of hz]
  rw [shr_neg, if_pos h1]
  omega
theorem sh_down_more {z S : Int} (hS : S = z.sign) (h0 : S < 0) {m : Nat} (hm : 0 < m) (ht : tz z.natAbs < m) : S * ((z.natAbs / 2 ^ m + 1 : Nat) : Int) = shZ z (-(m : Int)) := by
  have hz := (sign_neg_iff hS).1 h0
  have h1 := (tz_lt_dvd (v := z.natAbs) (k := m) (by omega)).1 ht
  rw [shZ_nat hm, hS, Int.sign_eq_neg_one_of_neg hz]
  conv => rhs; rw [neg_of hz]
  rw [shr_neg, if_neg h1]
  omega
theorem limbs_1 : limbs 1 = [1] := by rw [limbs_pos (by omega)]; rw [Bs_eq, show 1 / 16777216 = 0 from rfl, limbs_zero]
theorem rd_one (w : World) (t : TypeId) : Rd (w.alloc (.cells #[.int .i64 1] t)) (w.alloc (.cells #[.int .i64 1] t)).heap.size (some ⟨w.heap.size, 0, none⟩) (vs (limbs 1)) := by
  rw [limbs_1]
  intro k u hu
  have hk : k < 1 := by simpa [vs, li, vi] using (List.getElem?_eq_some_iff.1 hu).1
  obtain rfl : k = 0 := by omega
  refine ⟨_, rfl, by simp, ?_⟩
  rw [add_zero_off]
  simp [vs, li, vi] at hu
  subst hu
  simp

set_option maxHeartbeats 1000000 in
theorem implShiftedU_any (z S : Int) (A : Option Addr) (n c m : Nat) (w : World) (hz : ZV w z S A n c) (hm : (n : Int) ≤ 50000) (hk : (m : Int) ≤ 100000) (hT : TabZ w) :
    Calls Tryz.prog 98 #[.agg #[.int .i64 S, .slice A n c], .int .i64 m] w fun e w' => ∃ S' A' n' c', e = .returned (.agg #[.int .i64 S', .slice A' n' c']) ∧ ZO w' w.heap.size w'.heap.size (shZ z m) S' A' n' c' ∧ Below w.heap.size w w' := by
  have hst := store_int Tryz.prog
  have hst2 := store_slice Tryz.prog
  obtain ⟨w1, hw1, hb1, hb3, hb4⟩ := box_res w S A n c 46 46
  have Zv1 := Lib.hid (hz.next hb4)
  have Tb1 := Lib.hid (hT.next hb4)
  have Hw := Lib.hid hw1
  have Bx1 := Lib.hid hb1
  have Rs1 := Lib.hid hb3
  have Bel1 := Lib.hid hb4
  have HS : Hid (S = z.sign) := Lib.hid hz.1
  have Hn : Hid ((limbs z.natAbs).length = n) := Lib.hid hz.2.1
  have Hl : Hid (((limbs (2 ^ m * z.natAbs)).length : Int) ≤ 1000000) := Lib.hid (by have := shl_len Hn.out m; omega)
  have Hm : Hid ((n : Int) ≤ 100000 ∧ (m : Int) ≤ 1000000) := Lib.hid (by omega)
  have hm0 : (0 : Int) ≤ m := by omega
  clear hz hT hw1 hb1 hb3 hb4 Tb1
  go_enter Tryz.func98, Tryz.ntmps98
  go_wp2_with fail
  rw [← Hw.out]
  have Hlt : Hid (w.heap.size + 1 < w1.heap.size) := Lib.hid Rs1.out.2
  refine wp_region_held_drew (S := fun w' => (w'.cell? ⟨w.heap.size, 0, none⟩ = some (.int .i64 S) ∧ w'.cell? ⟨w.heap.size, 1, none⟩ = some (.slice A n c))) (by kernel_rfl) Bx1.out.1 (fun hHeld => ?_)
  refine wpAnyH_take (i := 0) (v := ?_) rfl (by kernel_rfl) (by kernel_rfl) (by kernel_rfl) (fun _ _ _ h => h) (Or.inl ⟨by rfl, ?_⟩) (by assumption) ?_
  rotate_left
  · (intro w hSw; (try dsimp only at hSw); go_simp; (try with_reducible rfl))
  try simp only [Act.put, List.setIfInBounds_toArray, List.set_cons_zero, List.set_cons_succ]
  refine wpAnyH_take (i := 1) (v := ?_) rfl (by kernel_rfl) (by kernel_rfl) (by kernel_rfl) (fun _ _ _ h => h) (Or.inl ⟨by rfl, ?_⟩) (by assumption) ?_
  rotate_left
  · (intro w hSw; (try dsimp only at hSw); go_simp; (try with_reducible rfl))
  try simp only [Act.put, List.setIfInBounds_toArray, List.set_cons_zero, List.set_cons_succ]
  refine wpAnyH_take (i := 2) (v := ?_) rfl (by kernel_rfl) (by kernel_rfl) (by kernel_rfl) (fun _ _ _ h => h) (Or.inl ⟨by rfl, ?_⟩) (by assumption) ?_
  rotate_left
  · (intro w hSw; (try dsimp only at hSw); go_simp; (try with_reducible rfl))
  try simp only [Act.put, List.setIfInBounds_toArray, List.set_cons_zero, List.set_cons_succ]
  refine wpAnyH_take (i := 3) (v := ?_) rfl (by kernel_rfl) (by kernel_rfl) (by kernel_rfl) (fun _ _ _ h => h) (Or.inl ⟨by rfl, ?_⟩) (by assumption) ?_
  rotate_left
  · (intro w hSw; (try dsimp only at hSw); go_simp; (try with_reducible rfl))
  try simp only [Act.put, List.setIfInBounds_toArray, List.set_cons_zero, List.set_cons_succ]
  refine wpAnyH_ready (rs := [4]) (by kernel_rfl) (by simp) ?_
  refine AllReadyH.cons rfl (fun K hK => ?_) AllReadyH.nil
  go_simp
  refine (natShl_any z.natAbs m A n c _ w1.drew Zv1.out.rd (Nat.le_refl _) Hn.out Hm.out.1 Hm.out.2).mono ?_
  rintro e w2 ⟨A8, rfl, ho8, hb0⟩
  have hb : Below w1.heap.size w1 w2 := belDrew hb0
  have O8 := Lib.hid ho8
  clear ho8
  refine hK.out _ _ ((Bx1.out.next hb).1) (fun hHeld => ?_)
  clear hK K hb0
  have Sz2 := Lib.hid (Below.size hb)
  have Bel2 := Lib.hid (belNext Bel1.out hb)
  have Bx2 := Lib.hid (Bx1.out.next hb)
  have Rs2 := Lib.hid (Rs1.out.next hb)
  have Zv2 := Lib.hid (Zv1.out.next hb)
  clear hb Bel1 Bx1 Rs1 Zv1
  try simp only [Act.put, List.setIfInBounds_toArray, List.set_cons_zero, List.set_cons_succ]
  refine wpAnyH_ready (rs := [5]) (by kernel_rfl) (by simp) ?_
  refine AllReadyH.cons rfl (fun K hK => ?_) AllReadyH.nil
  go_simp
  refine (signed_any S (2 ^ m * z.natAbs) A8 _ _ _ _ _ O8.out rfl Hl.out (Nat.le_refl _)).mono ?_
  rintro e w3 ⟨val, rfl, hv, hb0⟩
  have hb : Below w2.heap.size w2 w3 := hb0
  obtain ⟨S9, A9, n9, c9, rfl, hzo⟩ := Wz.zo (((hv.z (sgn_or HS.out (fun e => by rw [e]; simp))).wide (Nat.le_refl _) hb0.size).cast_ (sh_up HS.out m)) (Nat.le_refl _)
  have Zo3 := Lib.hid hzo
  clear hv hzo
  refine hK.out _ _ ((Bx2.out.next hb).1) (fun hHeld => ?_)
  clear hK K hb0
  have Sz3 := Lib.hid (Below.size hb)
  have Bel3 := Lib.hid (belNext Bel2.out hb)
  have Bx3 := Lib.hid (Bx2.out.next hb)
  have Rs3 := Lib.hid (Rs2.out.next hb)
  have Zv3 := Lib.hid (Zv2.out.next hb)
  clear hb Bel2 Bx2 Rs2 Zv2
  try simp only [Act.put, List.setIfInBounds_toArray, List.set_cons_zero, List.set_cons_succ]
  obtain ⟨⟨hRs0, hRs1, hRs2, hRs3⟩, hRs4⟩ := Rs3.out
  refine wpAnyH_ready (rs := [6]) (by kernel_rfl) (by simp) ?_
  refine AllReadyH.cons rfl (fun K hK => ?_) AllReadyH.nil
  go_simp
  refine hK.out _ _ (((Bx3.out.keep (by first | (simp; done) | (simp; omega)) _).keep (by first | (simp; done) | (simp; omega)) _).1) (fun hHeld => ?_)
  clear hK K hHeld
  try simp only [Act.put, List.setIfInBounds_toArray, List.set_cons_zero, List.set_cons_succ]
  refine wpAnyH_done (by kernel_rfl) ?_ _
  go_wp2_with fail
  refine bodyPost_ret (v := .agg #[.int .i64 S9, .slice A9 n9 c9]) (by simp [results, Tryz.results98, go_sem, hRs0, hRs1]) rfl ⟨S9, A9, n9, c9, rfl, ?_, ?_⟩
  · exact ((Zo3.out.setCell (.inl (by have zz0 := Hlt.out; have zz1 := Sz2.out; have zz2 := Sz3.out; first | omega | (simp; done) | (simp; omega))) _).setCell (.inl (by have zz0 := Hlt.out; have zz1 := Sz2.out; have zz2 := Sz3.out; first | omega | (simp; done) | (simp; omega))) _).wide (by have zz0 := Hlt.out; have zz1 := Sz2.out; have zz2 := Sz3.out; first | omega | (simp; done) | (simp; omega)) (by simp) (by simp)
  · exact (Bel3.out.setCell (by simp; try omega) _).setCell (by simp; try omega) _

set_option maxHeartbeats 2000000 in
theorem implShiftedD_any (z S k : Int) (A : Option Addr) (n c m : Nat) (w : World) (hz : ZV w z S A n c) (hm : (n : Int) ≤ 50000) (hk : (m : Int) ≤ 100000) (h1 : (1 : Int) ≤ m) (hkm : k = -(m : Int)) (hT : TabZ w) :
    Calls Tryz.prog 98 #[.agg #[.int .i64 S, .slice A n c], .int .i64 k] w fun e w' => ∃ S' A' n' c', e = .returned (.agg #[.int .i64 S', .slice A' n' c']) ∧ ZO w' w.heap.size w'.heap.size (shZ z (-(m : Int))) S' A' n' c' ∧ Below w.heap.size w w' := by
  have hst := store_int Tryz.prog
  have hst2 := store_slice Tryz.prog
  obtain ⟨w1, hw1, hb1, hb3, hb4⟩ := box_res w S A n c 46 46
  have Zv1 := Lib.hid (hz.next hb4)
  have Tb1 := Lib.hid (hT.next hb4)
  have Hw := Lib.hid hw1
  have Bx1 := Lib.hid hb1
  have Rs1 := Lib.hid hb3
  have Bel1 := Lib.hid hb4
  have HS : Hid (S = z.sign) := Lib.hid hz.1
  have Hn : Hid ((limbs z.natAbs).length = n) := Lib.hid hz.2.1
  have Hl : Hid ((limbs (z.natAbs / 2 ^ m)).length ≤ n) := Lib.hid (by rw [← Hn.out]; exact limbs_len_mono (Nat.div_le_self _ _))
  have Hm : Hid ((n : Int) ≤ 100000 ∧ (m : Int) ≤ 1000000 ∧ 0 < m) := Lib.hid (by omega)
  have hk0 : ¬ 0 ≤ k := by omega
  have hnk : -k = (m : Int) := by omega
  clear hkm
  clear hz hT hw1 hb1 hb3 hb4
  go_enter Tryz.func98, Tryz.ntmps98
  go_wp2_with fail
  rw [← Hw.out]
  try rw [hnk]
  have Hlt : Hid (w.heap.size + 1 < w1.heap.size) := Lib.hid Rs1.out.2
  obtain ⟨⟨hBx0, hBx1⟩, hBx2⟩ := Bx1.out
  obtain ⟨⟨hRs0, hRs1, hRs2, hRs3⟩, hRs4⟩ := Rs1.out
  refine (natShr_any z.natAbs m A n c _ _ Zv1.out.rd (Nat.le_refl _) Hn.out Hm.out.1 Hm.out.2.1).mono ?_
  rintro e w2 ⟨A8, rfl, ho8, hb⟩
  have O8 := Lib.hid ho8
  clear ho8
  have Sz2 := Lib.hid (Below.size hb)
  have Bel2 := Lib.hid (belNext Bel1.out hb)
  have Bx2 := Lib.hid (Bx1.out.next hb)
  have Rs2 := Lib.hid (Rs1.out.next hb)
  have Zv2 := Lib.hid (Zv1.out.next hb)
  have Tb2 := Lib.hid (Tb1.out.next hb)
  clear hb Bel1 Bx1 Rs1 Zv1 Tb1 hBx0 hBx1 hBx2 hRs0 hRs1 hRs2 hRs3 hRs4
  obtain ⟨⟨hBx0, hBx1⟩, hBx2⟩ := Bx2.out
  obtain ⟨⟨hRs0, hRs1, hRs2, hRs3⟩, hRs4⟩ := Rs2.out
  obtain ⟨q, hq⟩ : ∃ q, q = z.natAbs / 2 ^ m := ⟨_, rfl⟩
  rw [← hq] at O8 Hl ⊢
  obtain ⟨nq, hnq⟩ : ∃ nq, nq = (limbs q).length := ⟨_, rfl⟩
  rw [← hnq] at Hl ⊢
  have Hq := Lib.hid hq
  have Hnq := Lib.hid hnq
  clear hq hnq
  by_cases hs : S < 0
  · have HSn := Lib.hid hs
    go_wp2_with fail
    refine (natZeros_any z.natAbs A n c _ _ Zv2.out.rd Hn.out Hm.out.1 Tb2.out).mono ?_
    rintro e w9 ⟨rfl, rfl⟩
    obtain ⟨zt, hzt⟩ : ∃ zt, zt = tz z.natAbs := ⟨_, rfl⟩
    rw [← hzt]
    have Hzt := Lib.hid hzt
    clear hzt
    by_cases htl : zt < m
    · have htl2 : (zt : Int) < m := by omega
      have Htl := Lib.hid htl
      clear htl
      go_wp2_with fail
      obtain ⟨wa, hwa⟩ : ∃ wa, wa = w2.alloc (.cells #[.int .i64 1] 2) := ⟨_, rfl⟩
      have Rd1 : Hid (Rd wa wa.heap.size (some ⟨w2.heap.size, 0, none⟩) (vs (limbs 1))) := Lib.hid (by rw [hwa]; exact rd_one _ _)
      have hb : Below w2.heap.size w2 wa := by rw [hwa]; exact belAlloc1 _ _
      rw [← hwa]
      clear hwa
      obtain ⟨w3, hw3⟩ : ∃ w3, w3 = wa := ⟨_, rfl⟩
      rw [← hw3] at hb Rd1 ⊢
      clear hw3
      have O8b := Lib.hid (O8.out.below' hb)
      have Hs23 := Lib.hid hb.size
      have Sz3 := Lib.hid (Below.size hb)
      have Bel3 := Lib.hid (belNext Bel2.out hb)
      have Bx3 := Lib.hid (Bx2.out.next hb)
      have Rs3 := Lib.hid (Rs2.out.next hb)
      have Zv3 := Lib.hid (Zv2.out.next hb)
      have Tb3 := Lib.hid (Tb2.out.next hb)
      clear hb Bel2 Bx2 Rs2 Zv2 Tb2 hBx0 hBx1 hBx2 hRs0 hRs1 hRs2 hRs3 hRs4
      obtain ⟨⟨hBx0, hBx1⟩, hBx2⟩ := Bx3.out
      obtain ⟨⟨hRs0, hRs1, hRs2, hRs3⟩, hRs4⟩ := Rs3.out
      refine (natPlus_any q 1 A8 _ nq 1 nq 1 _ _ w3 (O8b.out.rd) Rd1.out (Hs23.out) (Nat.le_refl _) Hnq.out.symm (by rw [limbs_1]; rfl) (by have := Hl.out; have := Hm.out; omega) (by omega)).mono ?_
      rintro e w4 ⟨A7, rfl, ho7, hb⟩
      have O7 := Lib.hid ho7
      clear ho7
      have Sz4 := Lib.hid (Below.size hb)
      have Bel4 := Lib.hid (belNext Bel3.out hb)
      have Bx4 := Lib.hid (Bx3.out.next hb)
      have Rs4 := Lib.hid (Rs3.out.next hb)
      have Zv4 := Lib.hid (Zv3.out.next hb)
      have Tb4 := Lib.hid (Tb3.out.next hb)
      clear hb Bel3 Bx3 Rs3 Zv3 Tb3 hBx0 hBx1 hBx2 hRs0 hRs1 hRs2 hRs3 hRs4
      obtain ⟨⟨hBx0, hBx1⟩, hBx2⟩ := Bx4.out
      obtain ⟨⟨hRs0, hRs1, hRs2, hRs3⟩, hRs4⟩ := Rs4.out
      go_wp2_with fail
      refine (signed_any S (q + 1) A7 _ _ _ _ _ O7.out rfl (by have h := limbs_len_sum q 1 Hnq.out.symm (show (limbs 1).length = 1 by rw [limbs_1]; rfl); have := Hl.out; have := Hm.out; omega) (Nat.le_refl _)).mono ?_
      rintro e w5 ⟨val, rfl, hv, hb⟩
      obtain ⟨S9, A9, n9, c9, rfl, hzo⟩ := Wz.zo (((hv.z (.inr (.inl (sgn_m1 HS.out HSn.out)))).wide (Nat.le_refl _) hb.size).cast_ (z' := shZ z (-(m : Int))) (by rw [Hq.out]; exact sh_down_more HS.out HSn.out Hm.out.2.2 (by rw [← Hzt.out]; exact Htl.out))) (Nat.le_refl _)
      have Zo5 := Lib.hid hzo
      clear hv hzo
      have Sz5 := Lib.hid (Below.size hb)
      have Bel5 := Lib.hid (belNext Bel4.out hb)
      have Bx5 := Lib.hid (Bx4.out.next hb)
      have Rs5 := Lib.hid (Rs4.out.next hb)
      have Zv5 := Lib.hid (Zv4.out.next hb)
      have Tb5 := Lib.hid (Tb4.out.next hb)
      clear hb Bel4 Bx4 Rs4 Zv4 Tb4 hBx0 hBx1 hBx2 hRs0 hRs1 hRs2 hRs3 hRs4
      obtain ⟨⟨hBx0, hBx1⟩, hBx2⟩ := Bx5.out
      obtain ⟨⟨hRs0, hRs1, hRs2, hRs3⟩, hRs4⟩ := Rs5.out
      go_wp2_with fail
      refine bodyPost_ret (v := .agg #[.int .i64 S9, .slice A9 n9 c9]) (by simp [results, Tryz.results98, go_sem, hRs0, hRs1]) rfl ⟨S9, A9, n9, c9, rfl, ?_, ?_⟩
      · exact ((Zo5.out.setCell (.inl (by have zz0 := Hlt.out; have zz1 := Sz2.out; have zz2 := Sz3.out; have zz3 := Sz4.out; have zz4 := Sz5.out; first | omega | (simp; done) | (simp; omega))) _).setCell (.inl (by have zz0 := Hlt.out; have zz1 := Sz2.out; have zz2 := Sz3.out; have zz3 := Sz4.out; have zz4 := Sz5.out; first | omega | (simp; done) | (simp; omega))) _).wide (by have zz0 := Hlt.out; have zz1 := Sz2.out; have zz2 := Sz3.out; have zz3 := Sz4.out; have zz4 := Sz5.out; first | omega | (simp; done) | (simp; omega)) (by simp) (by simp)
      · exact (Bel5.out.setCell (by simp; try omega) _).setCell (by simp; try omega) _
    · have htl2 : ¬ (zt : Int) < m := by omega
      have Htl := Lib.hid htl
      clear htl
      go_wp2_with fail
      refine (signed_any S q A8 _ _ _ _ _ O8.out Hnq.out.symm (by have := Hl.out; have := Hm.out; omega) (Nat.le_refl _)).mono ?_
      rintro e w3 ⟨val, rfl, hv, hb⟩
      obtain ⟨S9, A9, n9, c9, rfl, hzo⟩ := Wz.zo (((hv.z (sgn_or HS.out (fun e => by rw [Hq.out, e]; simp))).wide (Nat.le_refl _) hb.size).cast_ (z' := shZ z (-(m : Int))) (by rw [Hq.out]; exact sh_down_exact HS.out HSn.out Hm.out.2.2 (by rw [← Hzt.out]; exact Htl.out))) (Nat.le_refl _)
      have Zo3 := Lib.hid hzo
      clear hv hzo
      have Sz3 := Lib.hid (Below.size hb)
      have Bel3 := Lib.hid (belNext Bel2.out hb)
      have Bx3 := Lib.hid (Bx2.out.next hb)
      have Rs3 := Lib.hid (Rs2.out.next hb)
      have Zv3 := Lib.hid (Zv2.out.next hb)
      have Tb3 := Lib.hid (Tb2.out.next hb)
      clear hb Bel2 Bx2 Rs2 Zv2 Tb2 hBx0 hBx1 hBx2 hRs0 hRs1 hRs2 hRs3 hRs4
      obtain ⟨⟨hBx0, hBx1⟩, hBx2⟩ := Bx3.out
      obtain ⟨⟨hRs0, hRs1, hRs2, hRs3⟩, hRs4⟩ := Rs3.out
      go_wp2_with fail
      refine bodyPost_ret (v := .agg #[.int .i64 S9, .slice A9 n9 c9]) (by simp [results, Tryz.results98, go_sem, hRs0, hRs1]) rfl ⟨S9, A9, n9, c9, rfl, ?_, ?_⟩
      · exact ((Zo3.out.setCell (.inl (by have zz0 := Hlt.out; have zz1 := Sz2.out; have zz2 := Sz3.out; first | omega | (simp; done) | (simp; omega))) _).setCell (.inl (by have zz0 := Hlt.out; have zz1 := Sz2.out; have zz2 := Sz3.out; first | omega | (simp; done) | (simp; omega))) _).wide (by have zz0 := Hlt.out; have zz1 := Sz2.out; have zz2 := Sz3.out; first | omega | (simp; done) | (simp; omega)) (by simp) (by simp)
      · exact (Bel3.out.setCell (by simp; try omega) _).setCell (by simp; try omega) _
  · have HSn := Lib.hid hs
    have hsb : decide (S < 0) = false := decide_eq_false hs
    go_wp2_with fail
    refine (signed_any S q A8 _ _ _ _ _ O8.out Hnq.out.symm (by have := Hl.out; have := Hm.out; omega) (Nat.le_refl _)).mono ?_
    rintro e w3 ⟨val, rfl, hv, hb⟩
    obtain ⟨S9, A9, n9, c9, rfl, hzo⟩ := Wz.zo (((hv.z (sgn_or HS.out (fun e => by rw [Hq.out, e]; simp))).wide (Nat.le_refl _) hb.size).cast_ (z' := shZ z (-(m : Int))) (by rw [Hq.out]; exact sh_down_nonneg HS.out (Int.not_lt.2 HSn.out) Hm.out.2.2)) (Nat.le_refl _)
    have Zo3 := Lib.hid hzo
    clear hv hzo
    have Sz3 := Lib.hid (Below.size hb)
    have Bel3 := Lib.hid (belNext Bel2.out hb)
    have Bx3 := Lib.hid (Bx2.out.next hb)
    have Rs3 := Lib.hid (Rs2.out.next hb)
    have Zv3 := Lib.hid (Zv2.out.next hb)
    have Tb3 := Lib.hid (Tb2.out.next hb)
    clear hb Bel2 Bx2 Rs2 Zv2 Tb2 hBx0 hBx1 hBx2 hRs0 hRs1 hRs2 hRs3 hRs4
    obtain ⟨⟨hBx0, hBx1⟩, hBx2⟩ := Bx3.out
    obtain ⟨⟨hRs0, hRs1, hRs2, hRs3⟩, hRs4⟩ := Rs3.out
    go_wp2_with fail
    refine bodyPost_ret (v := .agg #[.int .i64 S9, .slice A9 n9 c9]) (by simp [results, Tryz.results98, go_sem, hRs0, hRs1]) rfl ⟨S9, A9, n9, c9, rfl, ?_, ?_⟩
    · exact ((Zo3.out.setCell (.inl (by have zz0 := Hlt.out; have zz1 := Sz2.out; have zz2 := Sz3.out; first | omega | (simp; done) | (simp; omega))) _).setCell (.inl (by have zz0 := Hlt.out; have zz1 := Sz2.out; have zz2 := Sz3.out; first | omega | (simp; done) | (simp; omega))) _).wide (by have zz0 := Hlt.out; have zz1 := Sz2.out; have zz2 := Sz3.out; first | omega | (simp; done) | (simp; omega)) (by simp) (by simp)
    · exact (Bel3.out.setCell (by simp; try omega) _).setCell (by simp; try omega) _

theorem implShifted_any (z S k : Int) (A : Option Addr) (n c : Nat) (w : World) (hz : ZV w z S A n c) (hm : (n : Int) ≤ 50000) (hk1 : -100000 ≤ k) (hk2 : k ≤ 100000) (hT : TabZ w) :
    Calls Tryz.prog 98 #[.agg #[.int .i64 S, .slice A n c], .int .i64 k] w fun e w' => ∃ S' A' n' c', e = .returned (.agg #[.int .i64 S', .slice A' n' c']) ∧ ZO w' w.heap.size w'.heap.size (shZ z k) S' A' n' c' ∧ Below w.heap.size w w' := by
  by_cases h : 0 ≤ k
  · obtain ⟨m, rfl⟩ : ∃ m : Nat, k = m := ⟨k.toNat, by omega⟩
    exact implShiftedU_any z S A n c m w hz hm (by omega) hT
  · obtain ⟨m, hmk⟩ : ∃ m : Nat, k = -(m : Int) := ⟨(-k).toNat, by omega⟩
    have h2 := implShiftedD_any z S k A n c m w hz hm (by omega) (by omega) hmk hT
    rw [← hmk] at h2
    exact h2
end Go.Proofs.YtngminjncdfjdaaGreatDoor
/- Exact numbers without their last twos, and limited, of the program. -/
namespace Go.Proofs.YtngminjncdfjdaaGreatDoor
set_option maxRecDepth 100000
open Go.RowKit
set_option linter.unusedSimpArgs false
set_option linter.unusedVariables false

/-- an exact number is laid into a box -/
def st3 (w : World) (b : Nat) (S : Int) (A : Option Addr) (n c : Nat) (E : Int) : World := ((w.setCell ⟨b, 0, none⟩ (.int .i64 S)).setCell ⟨b, 1, none⟩ (.slice A n c)).setCell ⟨b, 2, none⟩ (.int .i64 E)
/-- nothing of a box is frozen -/
def Fr3 (w : World) (b : Nat) : Prop := (w.frozen? ⟨b, 0, none⟩ = false ∧ w.frozen? ⟨b, 1, none⟩ = false ∧ w.frozen? ⟨b, 2, none⟩ = false) ∧ b < w.heap.size
section
variable {w w' : World} {b : Nat} {S E : Int} {A : Option Addr} {n c : Nat}
theorem Fr3.next (h : Fr3 w b) (hb : Below w.heap.size w w') : Fr3 w' b :=
  ⟨⟨(hb.frozen (p := ⟨b, 0, none⟩) h.2).trans h.1.1, (hb.frozen (p := ⟨b, 1, none⟩) h.2).trans h.1.2.1, (hb.frozen (p := ⟨b, 2, none⟩) h.2).trans h.1.2.2⟩, Nat.lt_of_lt_of_le h.2 hb.size⟩
theorem Fr3.drew (h : Fr3 w b) : Fr3 w.drew b := h
theorem Fr3.new (w : World) (S : Int) (A : Option Addr) (n c : Nat) (E : Int) (t : TypeId) : Fr3 (w.alloc (.cells #[.int .i64 S, .slice A n c, .int .i64 E] t)) w.heap.size := by
  refine ⟨⟨?_, ?_, ?_⟩, ?_⟩
  · go_simp
  · go_simp
  · go_simp
  · simp
theorem st3_size : (st3 w b S A n c E).heap.size = w.heap.size := by unfold st3; simp
theorem st3_heap {g : Nat} (h : g ≠ b) : (st3 w b S A n c E).heap[g]? = w.heap[g]? := by
  unfold st3
  rw [Below.heap_setCell _ _ _ _ (by exact h), Below.heap_setCell _ _ _ _ (by exact h), Below.heap_setCell _ _ _ _ (by exact h)]
theorem st3_cell {g o : Nat} (h : g ≠ b) : (st3 w b S A n c E).cell? ⟨g, o, none⟩ = w.cell? ⟨g, o, none⟩ := World.cell?_of_block (a := ⟨g, o, none⟩) (st3_heap h)
theorem st3_frozen {g o : Nat} (h : g ≠ b) : (st3 w b S A n c E).frozen? ⟨g, o, none⟩ = w.frozen? ⟨g, o, none⟩ := by unfold World.frozen?; rw [st3_heap h]
theorem DBox.st3_ {b' : Nat} {S' E' : Int} {A' : Option Addr} {n' c' : Nat} (h : DBox w b' S' A' n' c' E') (hne : b' ≠ b) : DBox (st3 w b S A n c E) b' S' A' n' c' E' :=
  ⟨⟨(st3_cell hne).trans h.1.1, (st3_cell hne).trans h.1.2.1, (st3_cell hne).trans h.1.2.2⟩, by rw [st3_size]; exact h.2⟩
theorem DRes.st3_ {b' : Nat} (h : DRes w b') (hne : b' ≠ b) : DRes (st3 w b S A n c E) b' :=
  ⟨⟨(st3_cell hne).trans h.1.1, (st3_cell hne).trans h.1.2.1, (st3_cell hne).trans h.1.2.2.1, (st3_frozen hne).trans h.1.2.2.2.1, (st3_frozen hne).trans h.1.2.2.2.2.1, (st3_frozen hne).trans h.1.2.2.2.2.2⟩, by rw [st3_size]; exact h.2⟩
theorem Fr3.st3_ {b' : Nat} (h : Fr3 w b') (hne : b' ≠ b) : Fr3 (st3 w b S A n c E) b' :=
  ⟨⟨(st3_frozen hne).trans h.1.1, (st3_frozen hne).trans h.1.2.1, (st3_frozen hne).trans h.1.2.2⟩, by rw [st3_size]; exact h.2⟩
theorem ZO.st3_ {lo hi : Nat} {z S' : Int} {A' : Option Addr} {n' c' : Nat} (h : ZO w lo hi z S' A' n' c') (hne : b < lo ∨ hi ≤ b) : ZO (st3 w b S A n c E) lo hi z S' A' n' c' :=
  ⟨h.1, h.2.1, h.2.2.1, h.2.2.2.1.keep (fun g h1 h2 _ => st3_heap (by omega)), by rw [st3_size]; exact h.2.2.2.2⟩
theorem TabZ.st3_ (h : TabZ w) (hne : 1 ≠ b) : TabZ (st3 w b S A n c E) := fun j hj => (st3_cell hne).trans (h j hj)
theorem belSt3 {W : World} (h : Below W.heap.size W w) (hb : W.heap.size ≤ b) : Below W.heap.size W (st3 w b S A n c E) := ((h.setCell hb _).setCell hb _).setCell hb _
theorem DBox.made (h : b < w.heap.size) (h0 : ∃ u, w.cell? ⟨b, 0, none⟩ = some u) (h1 : ∃ u, w.cell? ⟨b, 1, none⟩ = some u) (h2 : ∃ u, w.cell? ⟨b, 2, none⟩ = some u) : DBox (st3 w b S A n c E) b S A n c E := by
  obtain ⟨u0, h0⟩ := h0
  obtain ⟨u1, h1⟩ := h1
  obtain ⟨u2, h2⟩ := h2
  refine ⟨⟨?_, ?_, ?_⟩, by rw [st3_size]; exact h⟩ <;> · unfold st3; go_simp
theorem Fr3.made (h : Fr3 w b) : Fr3 (st3 w b S A n c E) b := by
  obtain ⟨⟨h0, h1, h2⟩, h3⟩ := h
  refine ⟨⟨?_, ?_, ?_⟩, by rw [st3_size]; exact h3⟩ <;> · unfold st3; go_simp
end

theorem shZ_tz {z : Int} : shZ z (-((tz z.natAbs : Nat) : Int)) = nz z := by
  have hs := (nz_facts z).1
  have ha := (nz_facts z).2
  have key : z.sign * ((z.natAbs / 2 ^ tz z.natAbs : Nat) : Int) = nz z := rfl
  by_cases h0 : tz z.natAbs = 0
  · rw [h0, shZ_up (by omega)]
    rw [h0] at key
    simp at key
    simp
    rw [← key, Int.sign_mul_natAbs]
  · rw [← key]
    by_cases hn : z.sign < 0
    · exact (sh_down_exact rfl hn (by omega) (by omega)).symm
    · exact (sh_down_nonneg rfl hn (by omega)).symm
theorem sign_eq_zero {z S : Int} (hS : S = z.sign) : S = 0 ↔ z = 0 := by rw [hS, Int.sign_eq_zero_iff_zero]
theorem nx_bound {z E : Int} {n : Nat} (hn : (limbs z.natAbs).length = n) (h : (n : Int) ≤ 50000) (h1 : -1000000 ≤ E) (h2 : E ≤ 1000000) : -1000000 ≤ nx z E ∧ nx z E ≤ 2200000 := by
  by_cases h0 : z = 0
  · rw [h0, nx_zero]; omega
  · rw [nx_ne h0]
    have := tz_le hn
    omega

set_option maxHeartbeats 2000000 in
theorem implNormal_any (z S E : Int) (A : Option Addr) (n c : Nat) (w : World) (hz : ZV w z S A n c) (hm : (n : Int) ≤ 4000) (h1 : -1000000 ≤ E) (h2 : E ≤ 1000000) (hT : TabZ w) :
    Calls Tryz.prog 114 #[.agg #[.int .i64 S, .slice A n c, .int .i64 E]] w fun e w' => ∃ S' A' n' c', e = .returned (.agg #[.int .i64 S', .slice A' n' c', .int .i64 (nx z E)]) ∧ ZO w' w.heap.size w'.heap.size (nz z) S' A' n' c' ∧ Below w.heap.size w w' := by
  have hst := store_int Tryz.prog
  have hst2 := store_slice Tryz.prog
  obtain ⟨w1, hw1, hb1, hb3, hb4⟩ := dbox_res w S A n c E 48 48
  have Zv1 := Lib.hid (hz.next hb4)
  have Tb1 := Lib.hid (hT.next hb4)
  have Hw := Lib.hid hw1
  have Bx1 := Lib.hid hb1
  have RsD1 := Lib.hid hb3
  have Bel1 := Lib.hid hb4
  have HS : Hid (S = z.sign) := Lib.hid hz.1
  have Hn : Hid ((limbs z.natAbs).length = n) := Lib.hid hz.2.1
  have Hm : Hid ((n : Int) ≤ 4000) := Lib.hid hm
  have Hlt : Hid (w.heap.size + 1 < w1.heap.size) := Lib.hid hb3.2
  have Ht : Hid ((tz z.natAbs : Int) ≤ 96000) := Lib.hid (by have := tz_le hz.2.1; omega)
  clear hz hT hw1 hb1 hb3 hb4
  go_enter Tryz.func114, Tryz.ntmps114
  go_wp2_with fail
  rw [← Hw.out]
  obtain ⟨⟨hBx0, hBx1, hBx2⟩, hBx3⟩ := Bx1.out
  obtain ⟨⟨hRsD0, hRsD1, hRsD2, hRsD3, hRsD4, hRsD5⟩, hRsD6⟩ := RsD1.out
  refine (natZeros_any z.natAbs A n c _ _ Zv1.out.rd Hn.out (by omega) Tb1.out).mono ?_
  rintro e w9 ⟨rfl, rfl⟩
  obtain ⟨zt, hzt⟩ : ∃ zt, zt = tz z.natAbs := ⟨_, rfl⟩
  rw [← hzt] at Ht ⊢
  have Hzt := Lib.hid hzt
  have hzt1 : (zt : Int) ≤ 96000 := Ht.out
  clear hzt
  go_wp2_with fail
  refine (implShifted_any z S (-(zt : Int)) A n c _ Zv1.out (by have := Hm.out; omega) (by omega) (by omega) Tb1.out).mono ?_
  rintro e w2 ⟨S2, A2, n2, c2, rfl, hzo, hb⟩
  have Zo2 := Lib.hid (hzo.cast_ (z' := nz z) (by rw [Hzt.out]; exact shZ_tz))
  clear hzo
  have Sz2 := Lib.hid (Below.size hb)
  have Bel2 := Lib.hid (belNext Bel1.out hb)
  have Bx2 := Lib.hid (Bx1.out.next hb)
  have RsD2 := Lib.hid (RsD1.out.next hb)
  have Zv2 := Lib.hid (Zv1.out.next hb)
  have Tb2 := Lib.hid (Tb1.out.next hb)
  clear hb Bel1 Bx1 RsD1 Zv1 Tb1 hBx0 hBx1 hBx2 hBx3 hRsD0 hRsD1 hRsD2 hRsD3 hRsD4 hRsD5 hRsD6
  obtain ⟨⟨hBx0, hBx1, hBx2⟩, hBx3⟩ := Bx2.out
  obtain ⟨⟨hRsD0, hRsD1, hRsD2, hRsD3, hRsD4, hRsD5⟩, hRsD6⟩ := RsD2.out
  by_cases h0 : z = 0
  · have hs2 : S2 = 0 := (sign_eq_zero Zo2.out.1).2 (nz_eq_zero.2 h0)
    subst hs2
    have H0 := Lib.hid h0
    clear h0
    go_wp2_with fail
    obtain ⟨⟨r0, r1, r2⟩, _⟩ := (DBox.made (S := 0) (A := none) (n := 0) (c := 0) (E := 0) hRsD6 ⟨_, hRsD0⟩ ⟨_, hRsD1⟩ ⟨_, hRsD2⟩).next (belAlloc1 _ (.cells #[.int .i64 0, .slice A2 n2 c2] 46))
    simp only [st3] at r0 r1 r2
    refine bodyPost_ret (v := .agg #[.int .i64 0, .slice none 0 0, .int .i64 0]) (by simp [results, Tryz.results114, go_sem, r0, r1, r2]) rfl ⟨0, none, 0, 0, by rw [H0.out, nx_zero], ?_, ?_⟩
    · rw [H0.out, nz_zero]; exact ZO.zero (Nat.le_refl _)
    · exact (((Bel2.out.setCell (by have zz0 := Hlt.out; have zz1 := Sz2.out; first | omega | (simp; done) | (simp; omega)) _).setCell (by have zz0 := Hlt.out; have zz1 := Sz2.out; first | omega | (simp; done) | (simp; omega)) _).setCell (by have zz0 := Hlt.out; have zz1 := Sz2.out; first | omega | (simp; done) | (simp; omega)) _).alloc (by have zz0 := Hlt.out; have zz1 := Sz2.out; first | omega | (simp; done) | (simp; omega)) _
  · have hs2 : (S2 == 0) = false := beq_false_of_ne (fun e => h0 (nz_eq_zero.1 ((sign_eq_zero Zo2.out.1).1 e)))
    have Hnx : Hid (nx z E = E + (zt : Int)) := Lib.hid (by rw [Hzt.out]; exact nx_ne h0)
    clear h0
    go_wp2_with fail
    obtain ⟨⟨r0, r1, r2⟩, _⟩ := (DBox.made (S := S2) (A := A2) (n := n2) (c := c2) (E := (E + (zt : Int))) hRsD6 ⟨_, hRsD0⟩ ⟨_, hRsD1⟩ ⟨_, hRsD2⟩).next (belAlloc1 _ (.cells #[.int .i64 S2, .slice A2 n2 c2] 46))
    simp only [st3] at r0 r1 r2
    refine bodyPost_ret (v := .agg #[.int .i64 S2, .slice A2 n2 c2, .int .i64 (E + (zt : Int))]) (by simp [results, Tryz.results114, go_sem, r0, r1, r2]) rfl ⟨S2, A2, n2, c2, by rw [Hnx.out], ?_, ?_⟩
    · exact ((((Zo2.out.setCell (.inl (by have zz0 := Hlt.out; have zz1 := Sz2.out; first | omega | (simp; done) | (simp; omega))) _).setCell (.inl (by have zz0 := Hlt.out; have zz1 := Sz2.out; first | omega | (simp; done) | (simp; omega))) _).setCell (.inl (by have zz0 := Hlt.out; have zz1 := Sz2.out; first | omega | (simp; done) | (simp; omega))) _).alloc _).wide (by have zz0 := Hlt.out; have zz1 := Sz2.out; first | omega | (simp; done) | (simp; omega)) (by simp) (by simp)
    · exact (((Bel2.out.setCell (by have zz0 := Hlt.out; have zz1 := Sz2.out; first | omega | (simp; done) | (simp; omega)) _).setCell (by have zz0 := Hlt.out; have zz1 := Sz2.out; first | omega | (simp; done) | (simp; omega)) _).setCell (by have zz0 := Hlt.out; have zz1 := Sz2.out; first | omega | (simp; done) | (simp; omega)) _).alloc (by have zz0 := Hlt.out; have zz1 := Sz2.out; first | omega | (simp; done) | (simp; omega)) _
end Go.Proofs.YtngminjncdfjdaaGreatDoor
/- Exact numbers: opposites, products, floors, tops, of the program. -/
namespace Go.Proofs.YtngminjncdfjdaaGreatDoor
set_option maxRecDepth 100000
open Go.RowKit
set_option linter.unusedSimpArgs false
set_option linter.unusedVariables false

set_option maxHeartbeats 1000000 in
theorem implTop_any (z S E : Int) (A : Option Addr) (n c : Nat) (w : World) (hz : ZV w z S A n c) (hm : (n : Int) ≤ 4000) (h1 : -1000000 ≤ E) (h2 : E ≤ 1000000) :
    Calls Tryz.prog 102 #[.agg #[.int .i64 S, .slice A n c, .int .i64 E]] w fun e w' => e = .returned (.int .i64 ((blen z.natAbs : Nat) + E)) ∧ Below w.heap.size w w' := by
  have hst := store_int Tryz.prog
  have hst2 := store_slice Tryz.prog
  obtain ⟨w1, hw1⟩ : ∃ w1, w1 = w.alloc (.cells #[.int .i64 S, .slice A n c, .int .i64 E] 48) := ⟨_, rfl⟩
  have hb1 : DBox w1 w.heap.size S A n c E := by rw [hw1]; exact DBox.new _ _ _ _ _ _ _
  have hb4 : Below w.heap.size w w1 := by rw [hw1]; exact belAlloc1 _ _
  have Hlt : Hid (w.heap.size < w1.heap.size) := Lib.hid hb1.2
  have Zv1 := Lib.hid (hz.next hb4)
  have Hw := Lib.hid hw1
  have Bx1 := Lib.hid hb1
  have Bel1 := Lib.hid hb4
  have HS : Hid (S = z.sign) := Lib.hid hz.1
  have Hn : Hid ((limbs z.natAbs).length = n) := Lib.hid hz.2.1
  have Hm : Hid ((n : Int) ≤ 4000) := Lib.hid hm
  clear hz hw1 hb1 hb4
  have Hbl : Hid ((blen z.natAbs : Int) ≤ 96000) := Lib.hid (by have h := blen_lt.2 (by have h := limbs_len_le.1 (show (limbs z.natAbs).length ≤ n by rw [Hn.out]; exact Nat.le_refl _); rw [Bs_pow] at h; exact h); have := Hm.out; omega)
  go_enter Tryz.func102, Tryz.ntmps102
  go_wp2_with fail
  rw [← Hw.out]
  refine wp_region_held_drew (S := fun w' => (w'.cell? ⟨w.heap.size, 0, none⟩ = some (.int .i64 S) ∧ w'.cell? ⟨w.heap.size, 1, none⟩ = some (.slice A n c) ∧ w'.cell? ⟨w.heap.size, 2, none⟩ = some (.int .i64 E))) (by kernel_rfl) Bx1.out.1 (fun hHeld => ?_)
  refine wpAnyH_take (i := 0) (v := ?_) rfl (by kernel_rfl) (by kernel_rfl) (by kernel_rfl) (fun _ _ _ h => h) (Or.inl ⟨by rfl, ?_⟩) (by assumption) ?_
  rotate_left
  · (intro w hSw; (try dsimp only at hSw); go_simp; (try with_reducible rfl))
  try simp only [Act.put, List.setIfInBounds_toArray, List.set_cons_zero, List.set_cons_succ]
  refine wpAnyH_take (i := 1) (v := ?_) rfl (by kernel_rfl) (by kernel_rfl) (by kernel_rfl) (fun _ _ _ h => h) (Or.inl ⟨by rfl, ?_⟩) (by assumption) ?_
  rotate_left
  · (intro w hSw; (try dsimp only at hSw); go_simp; (try with_reducible rfl))
  try simp only [Act.put, List.setIfInBounds_toArray, List.set_cons_zero, List.set_cons_succ]
  refine wpAnyH_take (i := 3) (v := ?_) rfl (by kernel_rfl) (by kernel_rfl) (by kernel_rfl) (fun _ _ _ h => h) (Or.inl ⟨by rfl, ?_⟩) (by assumption) ?_
  rotate_left
  · (intro w hSw; (try dsimp only at hSw); go_simp; (try with_reducible rfl))
  try simp only [Act.put, List.setIfInBounds_toArray, List.set_cons_zero, List.set_cons_succ]
  refine wpAnyH_take (i := 4) (v := ?_) rfl (by kernel_rfl) (by kernel_rfl) (by kernel_rfl) (fun _ _ _ h => h) (Or.inl ⟨by rfl, ?_⟩) (by assumption) ?_
  rotate_left
  · (intro w hSw; (try dsimp only at hSw); go_simp; (try with_reducible rfl))
  try simp only [Act.put, List.setIfInBounds_toArray, List.set_cons_zero, List.set_cons_succ]
  refine wpAnyH_ready (rs := [2]) (by kernel_rfl) (by simp) ?_
  refine AllReadyH.cons rfl (fun K hK => ?_) AllReadyH.nil
  go_simp
  refine (implLen_any S z.natAbs A n c _ w1.drew Zv1.out.rd (Nat.le_refl _) Hn.out (by have := Hm.out; omega)).mono ?_
  rintro e w2 ⟨rfl, hb0⟩
  have hb : Below w1.heap.size w1 w2 := belDrew hb0
  refine hK.out _ _ ((Bx1.out.next hb).1) (fun hHeld => ?_)
  clear hK K hb0
  have Sz2 := Lib.hid (Below.size hb)
  have Bel2 := Lib.hid (belNext Bel1.out hb)
  have Bx2 := Lib.hid (Bx1.out.next hb)
  clear hb Bel1 Bx1
  try simp only [Act.put, List.setIfInBounds_toArray, List.set_cons_zero, List.set_cons_succ]
  refine wpAnyH_take (i := 5) (v := ?_) rfl (by kernel_rfl) (by kernel_rfl) (by kernel_rfl) (fun _ _ _ h => h) (Or.inl ⟨by rfl, ?_⟩) (by assumption) ?_
  rotate_left
  · (intro w hSw; (try dsimp only at hSw); go_simp; (try with_reducible rfl))
  try simp only [Act.put, List.setIfInBounds_toArray, List.set_cons_zero, List.set_cons_succ]
  refine wpAnyH_ready (rs := [6]) (by kernel_rfl) (by simp) ?_
  refine AllReadyH.cons rfl (fun K hK => ?_) AllReadyH.nil
  go_simp
  refine hK.out _ _ hHeld (fun hHeld => ?_)
  clear hK K
  try simp only [Act.put, List.setIfInBounds_toArray, List.set_cons_zero, List.set_cons_succ]
  clear hHeld
  refine wpAnyH_done (by kernel_rfl) ?_ _
  go_wp2_with fail
  have hwr : IntKind.i64.wrap ((blen z.natAbs : Int) + E) = (blen z.natAbs : Int) + E := IntWalk.i64_in _ (by have := Hbl.out; omega)
  go_ret
  refine ⟨?_, Bel2.out⟩
  show Ending.returned (.int .i64 (IntKind.i64.wrap ((blen z.natAbs : Int) + E))) = _
  rw [hwr]
end Go.Proofs.YtngminjncdfjdaaGreatDoor
/- Exact numbers: sums, comparing, of the program. -/
namespace Go.Proofs.YtngminjncdfjdaaGreatDoor
set_option maxRecDepth 100000
open Go.RowKit
set_option linter.unusedSimpArgs false
set_option linter.unusedVariables false

set_option maxHeartbeats 4000000 in
theorem implPlusD_ge (z S E z' S' E' : Int) (A A' : Option Addr) (n c n' c' : Nat) (w : World) (hz : ZV w z S A n c) (hz' : ZV w z' S' A' n' c') (hm : (n : Int) ≤ 4000) (hm' : (n' : Int) ≤ 4000) (h1 : -10000 ≤ E) (h2 : E ≤ 10000) (h3 : -10000 ≤ E') (h4 : E' ≤ 10000) (hT : TabZ w) (hE : E' ≤ E) :
    Calls Tryz.prog 75 #[.agg #[.int .i64 S, .slice A n c, .int .i64 E], .agg #[.int .i64 S', .slice A' n' c', .int .i64 E']] w fun e w' => ∃ Sr Ar nr cr, e = .returned (.agg #[.int .i64 Sr, .slice Ar nr cr, .int .i64 (min E E')]) ∧ ZO w' w.heap.size w'.heap.size (sumZ z E z' E') Sr Ar nr cr ∧ Below w.heap.size w w' := by
  have hst := store_int Tryz.prog
  have hst2 := store_slice Tryz.prog
  obtain ⟨w1, hw1, hb1, hb2, hb3, hb4⟩ := dbox2_res w S S' A A' n n' c c' E E' 48 48 48
  have RsD1 := Lib.hid hb3
  have Hlt : Hid (w.heap.size + 1 + 1 < w1.heap.size) := Lib.hid hb3.2
  have Zv1 := Lib.hid (hz.next hb4)
  have Zw1 := Lib.hid (hz'.next hb4)
  have Fx1 : Hid (Fr3 w1 w.heap.size) := Lib.hid (by rw [hw1]; exact ((Fr3.new _ _ _ _ _ _ _).next (belAlloc1 _ _)).next (belAlloc1 _ _))
  have Fy1 : Hid (Fr3 w1 (w.heap.size + 1)) := Lib.hid (by rw [hw1]; have h := (Fr3.new (w.alloc (.cells #[.int .i64 S, .slice A n c, .int .i64 E] 48)) S' A' n' c' E' 48).next (belAlloc1 _ (.cells #[.int .i64 0, .slice none 0 0, .int .i64 0] 48)); simpa using h)
  have Hz := Lib.hid hz
  have Hz' := Lib.hid hz'
  have HT := Lib.hid hT
  have Hw := Lib.hid hw1
  have Bx1 := Lib.hid hb1
  have By1 := Lib.hid hb2
  have Bel1 := Lib.hid hb4
  have Hn : Hid ((limbs z.natAbs).length = n) := Lib.hid hz.2.1
  have Hn' : Hid ((limbs z'.natAbs).length = n') := Lib.hid hz'.2.1
  have Hm : Hid ((n : Int) ≤ 4000 ∧ (n' : Int) ≤ 4000) := Lib.hid ⟨hm, hm'⟩
  have Tb1 := Lib.hid (hT.next hb4)
  clear hT
  clear hz hz' hw1 hb1 hb2 hb4 hb3
  have hE2 : ¬ E < E' := by omega
  clear Zv1 Zw1 Tb1 Fx1 Fy1
  go_enter Tryz.func75, Tryz.ntmps75
  go_wp2_with fail
  rw [← Hw.out]
  obtain ⟨⟨hBx0, hBx1, hBx2⟩, hBx3⟩ := Bx1.out
  obtain ⟨⟨hBy0, hBy1, hBy2⟩, hBy3⟩ := By1.out
  obtain ⟨⟨hRsD0, hRsD1, hRsD2, hRsD3, hRsD4, hRsD5⟩, hRsD6⟩ := RsD1.out
  refine (implShifted_any z S (E - E') A n c _ (Hz.out.next Bel1.out) (by have := Hm.out.1; omega) (by omega) (by omega) (HT.out.next Bel1.out)).mono ?_
  rintro e w2 ⟨S2, A2, n2, c2, rfl, hzo, hb⟩
  have Zo2 := Lib.hid hzo
  clear hzo
  have Sz2 := Lib.hid (Below.size hb)
  have Bel2 := Lib.hid (belNext Bel1.out hb)
  have Bx2 := Lib.hid (Bx1.out.next hb)
  have By2 := Lib.hid (By1.out.next hb)
  have RsD2 := Lib.hid (RsD1.out.next hb)
  clear hb Bel1 Bx1 By1 RsD1 hBx0 hBx1 hBx2 hBx3 hBy0 hBy1 hBy2 hBy3 hRsD0 hRsD1 hRsD2 hRsD3 hRsD4 hRsD5 hRsD6
  obtain ⟨⟨hBx0, hBx1, hBx2⟩, hBx3⟩ := Bx2.out
  obtain ⟨⟨hBy0, hBy1, hBy2⟩, hBy3⟩ := By2.out
  obtain ⟨⟨hRsD0, hRsD1, hRsD2, hRsD3, hRsD4, hRsD5⟩, hRsD6⟩ := RsD2.out
  go_wp2_with fail
  obtain ⟨w3, hw⟩ : ∃ w3, w3 = w2.alloc (.cells #[.int .i64 S2, .slice A2 n2 c2] 46) := ⟨_, rfl⟩
  have hb : Below w2.heap.size w2 w3 := by rw [hw]; exact belAlloc1 _ _
  have Bw3 : Hid (Box w3 w2.heap.size S2 A2 n2 c2) := Lib.hid (by rw [hw]; exact Box.new _ _ _ _ _ _)
  rw [← hw]
  clear hw
  have Sz3 := Lib.hid (Below.size hb)
  have Bel3 := Lib.hid (belNext Bel2.out hb)
  have Bx3 := Lib.hid (Bx2.out.next hb)
  have By3 := Lib.hid (By2.out.next hb)
  have RsD3 := Lib.hid (RsD2.out.next hb)
  have Zo3 := Lib.hid (Zo2.out.next hb)
  clear hb Bel2 Bx2 By2 RsD2 Zo2 hBx0 hBx1 hBx2 hBx3 hBy0 hBy1 hBy2 hBy3 hRsD0 hRsD1 hRsD2 hRsD3 hRsD4 hRsD5 hRsD6
  have Hl2 : Hid ((n2 : Int) ≤ 90000) := Lib.hid (by have h := shl_len Hn.out (E - E').toNat; have e := Zo3.out.2.1; rw [shZ_up (by omega), abs_pow_mul] at e; have := Hm.out; omega)
  refine wp_region_held_drew (S := fun w' => (w'.cell? ⟨w2.heap.size, 0, none⟩ = some (.int .i64 S2) ∧ w'.cell? ⟨w2.heap.size, 1, none⟩ = some (.slice A2 n2 c2)) ∧ (w'.cell? ⟨w.heap.size + 1, 0, none⟩ = some (.int .i64 S') ∧ w'.cell? ⟨w.heap.size + 1, 1, none⟩ = some (.slice A' n' c') ∧ w'.cell? ⟨w.heap.size + 1, 2, none⟩ = some (.int .i64 E'))) (by kernel_rfl) ⟨Bw3.out.1, By3.out.1⟩ (fun hHeld => ?_)
  refine wpAnyH_take (i := 0) (v := ?_) rfl (by kernel_rfl) (by kernel_rfl) (by kernel_rfl) (fun _ _ _ h => h) (Or.inl ⟨by rfl, ?_⟩) (by assumption) ?_
  rotate_left
  · (intro w hSw; (try dsimp only at hSw); go_simp; (try with_reducible rfl))
  try simp only [Act.put, List.setIfInBounds_toArray, List.set_cons_zero, List.set_cons_succ]
  refine wpAnyH_take (i := 1) (v := ?_) rfl (by kernel_rfl) (by kernel_rfl) (by kernel_rfl) (fun _ _ _ h => h) (Or.inl ⟨by rfl, ?_⟩) (by assumption) ?_
  rotate_left
  · (intro w hSw; (try dsimp only at hSw); go_simp; (try with_reducible rfl))
  try simp only [Act.put, List.setIfInBounds_toArray, List.set_cons_zero, List.set_cons_succ]
  refine wpAnyH_take (i := 2) (v := ?_) rfl (by kernel_rfl) (by kernel_rfl) (by kernel_rfl) (fun _ _ _ h => h) (Or.inl ⟨by rfl, ?_⟩) (by assumption) ?_
  rotate_left
  · (intro w hSw; (try dsimp only at hSw); go_simp; (try with_reducible rfl))
  try simp only [Act.put, List.setIfInBounds_toArray, List.set_cons_zero, List.set_cons_succ]
  refine wpAnyH_take (i := 4) (v := ?_) rfl (by kernel_rfl) (by kernel_rfl) (by kernel_rfl) (fun _ _ _ h => h) (Or.inl ⟨by rfl, ?_⟩) (by assumption) ?_
  rotate_left
  · (intro w hSw; (try dsimp only at hSw); go_simp; (try with_reducible rfl))
  try simp only [Act.put, List.setIfInBounds_toArray, List.set_cons_zero, List.set_cons_succ]
  refine wpAnyH_take (i := 5) (v := ?_) rfl (by kernel_rfl) (by kernel_rfl) (by kernel_rfl) (fun _ _ _ h => h) (Or.inl ⟨by rfl, ?_⟩) (by assumption) ?_
  rotate_left
  · (intro w hSw; (try dsimp only at hSw); go_simp; (try with_reducible rfl))
  try simp only [Act.put, List.setIfInBounds_toArray, List.set_cons_zero, List.set_cons_succ]
  refine wpAnyH_ready (rs := [3]) (by kernel_rfl) (by simp) ?_
  refine AllReadyH.cons rfl (fun K hK => ?_) AllReadyH.nil
  go_simp
  refine (implPlus_any S2 S' (shZ z (E - E')).natAbs z'.natAbs A2 A' n2 n' c2 c' w3.drew Zo3.out.zv.sg (Hz'.out.next Bel3.out).sg Zo3.out.zv.rd (Hz'.out.next Bel3.out).rd Zo3.out.2.1 Hn'.out Hl2.out (by have := Hm.out.2; omega)).mono ?_
  rintro e w4 ⟨val, rfl, hv, hb0⟩
  have hb : Below w3.heap.size w3 w4 := belDrew hb0
  obtain ⟨S9, A9, n9, c9, rfl, hzo⟩ := Wz.zo (hv.cast_ (z' := sumZ z E z' E') (by rw [Zo3.out.zv.val, (Hz'.out.next Bel3.out).val, shZ_up (by omega)]; exact (sumZ_ge (by omega)).symm)) (Nat.le_refl _)
  have Zp4 := Lib.hid hzo
  clear hv hzo
  refine hK.out _ _ ⟨(Bw3.out.next hb).1, (By3.out.next hb).1⟩ (fun hHeld => ?_)
  clear hK K hb0
  have Sz4 := Lib.hid (Below.size hb)
  have Bel4 := Lib.hid (belNext Bel3.out hb)
  have Bx4 := Lib.hid (Bx3.out.next hb)
  have By4 := Lib.hid (By3.out.next hb)
  have RsD4 := Lib.hid (RsD3.out.next hb)
  have Zo4 := Lib.hid (Zo3.out.next hb)
  have Bw4 := Lib.hid (Bw3.out.next hb)
  clear hb Bel3 Bx3 By3 RsD3 Zo3 Bw3
  try simp only [Act.put, List.setIfInBounds_toArray, List.set_cons_zero, List.set_cons_succ]
  refine wpAnyH_take (i := 6) (v := ?_) rfl (by kernel_rfl) (by kernel_rfl) (by kernel_rfl) (fun _ _ _ h => h) (Or.inl ⟨by rfl, ?_⟩) (by assumption) ?_
  rotate_left
  · (intro w hSw; (try dsimp only at hSw); go_simp; (try with_reducible rfl))
  try simp only [Act.put, List.setIfInBounds_toArray, List.set_cons_zero, List.set_cons_succ]
  obtain ⟨⟨hRsD0, hRsD1, hRsD2, hRsD3, hRsD4, hRsD5⟩, hRsD6⟩ := RsD4.out
  refine wpAnyH_ready (rs := [7]) (by kernel_rfl) (by simp) ?_
  refine AllReadyH.cons rfl (fun K hK => ?_) AllReadyH.nil
  go_simp
  refine hK.out _ _ ⟨(((Bw4.out.keep (by have zz0 := Hlt.out; have zz1 := Sz2.out; have zz2 := Sz3.out; have zz3 := Sz4.out; first | omega | (simp; done) | (simp; omega)) _).keep (by have zz0 := Hlt.out; have zz1 := Sz2.out; have zz2 := Sz3.out; have zz3 := Sz4.out; first | omega | (simp; done) | (simp; omega)) _).keep (by have zz0 := Hlt.out; have zz1 := Sz2.out; have zz2 := Sz3.out; have zz3 := Sz4.out; first | omega | (simp; done) | (simp; omega)) _).1, (((By4.out.keep (by have zz0 := Hlt.out; have zz1 := Sz2.out; have zz2 := Sz3.out; have zz3 := Sz4.out; first | omega | (simp; done) | (simp; omega)) _).keep (by have zz0 := Hlt.out; have zz1 := Sz2.out; have zz2 := Sz3.out; have zz3 := Sz4.out; first | omega | (simp; done) | (simp; omega)) _).keep (by have zz0 := Hlt.out; have zz1 := Sz2.out; have zz2 := Sz3.out; have zz3 := Sz4.out; first | omega | (simp; done) | (simp; omega)) _).1⟩ (fun hHeld => ?_)
  clear hK K hHeld
  try simp only [Act.put, List.setIfInBounds_toArray, List.set_cons_zero, List.set_cons_succ]
  refine wpAnyH_done (by kernel_rfl) ?_ _
  go_wp2_with fail
  refine bodyPost_ret (v := .agg #[.int .i64 S9, .slice A9 n9 c9, .int .i64 E']) (by simp [results, Tryz.results75, go_sem, hRsD0, hRsD1, hRsD2]) rfl ⟨S9, A9, n9, c9, by rw [Int.min_eq_right hE], ?_, ?_⟩
  · exact (((Zp4.out.setCell (.inl (by have zz0 := Hlt.out; have zz1 := Sz2.out; have zz2 := Sz3.out; have zz3 := Sz4.out; first | omega | (simp; done) | (simp; omega))) _).setCell (.inl (by have zz0 := Hlt.out; have zz1 := Sz2.out; have zz2 := Sz3.out; have zz3 := Sz4.out; first | omega | (simp; done) | (simp; omega))) _).setCell (.inl (by have zz0 := Hlt.out; have zz1 := Sz2.out; have zz2 := Sz3.out; have zz3 := Sz4.out; first | omega | (simp; done) | (simp; omega))) _).wide (by have zz0 := Hlt.out; have zz1 := Sz2.out; have zz2 := Sz3.out; have zz3 := Sz4.out; first | omega | (simp; done) | (simp; omega)) (by have zz0 := Hlt.out; have zz1 := Sz2.out; have zz2 := Sz3.out; have zz3 := Sz4.out; first | omega | (simp; done) | (simp; omega)) (by have zz0 := Hlt.out; have zz1 := Sz2.out; have zz2 := Sz3.out; have zz3 := Sz4.out; first | omega | (simp; done) | (simp; omega))
  · exact ((Bel4.out.setCell (by have zz0 := Hlt.out; have zz1 := Sz2.out; have zz2 := Sz3.out; have zz3 := Sz4.out; first | omega | (simp; done) | (simp; omega)) _).setCell (by have zz0 := Hlt.out; have zz1 := Sz2.out; have zz2 := Sz3.out; have zz3 := Sz4.out; first | omega | (simp; done) | (simp; omega)) _).setCell (by have zz0 := Hlt.out; have zz1 := Sz2.out; have zz2 := Sz3.out; have zz3 := Sz4.out; first | omega | (simp; done) | (simp; omega)) _

set_option maxHeartbeats 4000000 in
theorem implPlusD_lt (z S E z' S' E' : Int) (A A' : Option Addr) (n c n' c' : Nat) (w : World) (hz : ZV w z S A n c) (hz' : ZV w z' S' A' n' c') (hm : (n : Int) ≤ 4000) (hm' : (n' : Int) ≤ 4000) (h1 : -10000 ≤ E) (h2 : E ≤ 10000) (h3 : -10000 ≤ E') (h4 : E' ≤ 10000) (hT : TabZ w) (hE : E < E') :
    Calls Tryz.prog 75 #[.agg #[.int .i64 S, .slice A n c, .int .i64 E], .agg #[.int .i64 S', .slice A' n' c', .int .i64 E']] w fun e w' => ∃ Sr Ar nr cr, e = .returned (.agg #[.int .i64 Sr, .slice Ar nr cr, .int .i64 (min E E')]) ∧ ZO w' w.heap.size w'.heap.size (sumZ z E z' E') Sr Ar nr cr ∧ Below w.heap.size w w' := by
  have hst := store_int Tryz.prog
  have hst2 := store_slice Tryz.prog
  obtain ⟨w1, hw1, hb1, hb2, hb3, hb4⟩ := dbox2_res w S' S A' A n' n c' c E' E 48 48 48
  have RsD1 := Lib.hid hb3
  have Hlt : Hid (w.heap.size + 1 + 1 < w1.heap.size) := Lib.hid hb3.2
  have Zv1 := Lib.hid (hz.next hb4)
  have Zw1 := Lib.hid (hz'.next hb4)
  have Hz := Lib.hid hz
  have Hz' := Lib.hid hz'
  have HT := Lib.hid hT
  have Hw := Lib.hid hw1
  have Bx1 := Lib.hid hb1
  have By1 := Lib.hid hb2
  have Bel1 := Lib.hid hb4
  have Hn : Hid ((limbs z.natAbs).length = n) := Lib.hid hz.2.1
  have Hn' : Hid ((limbs z'.natAbs).length = n') := Lib.hid hz'.2.1
  have Hm : Hid ((n : Int) ≤ 4000 ∧ (n' : Int) ≤ 4000) := Lib.hid ⟨hm, hm'⟩
  have Tb1 := Lib.hid (hT.next hb4)
  clear hT
  clear hz hz' hw1 hb1 hb2 hb4 hb3
  clear Zv1 Zw1 Tb1
  go_enter Tryz.func75, Tryz.ntmps75
  go_wp2_with fail
  rw [← Hw.out]
  obtain ⟨⟨hBx0, hBx1, hBx2⟩, hBx3⟩ := Bx1.out
  obtain ⟨⟨hBy0, hBy1, hBy2⟩, hBy3⟩ := By1.out
  obtain ⟨⟨hRsD0, hRsD1, hRsD2, hRsD3, hRsD4, hRsD5⟩, hRsD6⟩ := RsD1.out
  refine (implShifted_any z' S' (E' - E) A' n' c' _ (Hz'.out.next Bel1.out) (by have := Hm.out.2; omega) (by omega) (by omega) (HT.out.next Bel1.out)).mono ?_
  rintro e w2 ⟨S2, A2, n2, c2, rfl, hzo, hb⟩
  have Zo2 := Lib.hid hzo
  clear hzo
  have Sz2 := Lib.hid (Below.size hb)
  have Bel2 := Lib.hid (belNext Bel1.out hb)
  have Bx2 := Lib.hid (Bx1.out.next hb)
  have By2 := Lib.hid (By1.out.next hb)
  have RsD2 := Lib.hid (RsD1.out.next hb)
  clear hb Bel1 Bx1 By1 RsD1 hBx0 hBx1 hBx2 hBx3 hBy0 hBy1 hBy2 hBy3 hRsD0 hRsD1 hRsD2 hRsD3 hRsD4 hRsD5 hRsD6
  obtain ⟨⟨hBx0, hBx1, hBx2⟩, hBx3⟩ := Bx2.out
  obtain ⟨⟨hBy0, hBy1, hBy2⟩, hBy3⟩ := By2.out
  obtain ⟨⟨hRsD0, hRsD1, hRsD2, hRsD3, hRsD4, hRsD5⟩, hRsD6⟩ := RsD2.out
  go_wp2_with fail
  obtain ⟨w3, hw⟩ : ∃ w3, w3 = w2.alloc (.cells #[.int .i64 S2, .slice A2 n2 c2] 46) := ⟨_, rfl⟩
  have hb : Below w2.heap.size w2 w3 := by rw [hw]; exact belAlloc1 _ _
  have Bw3 : Hid (Box w3 w2.heap.size S2 A2 n2 c2) := Lib.hid (by rw [hw]; exact Box.new _ _ _ _ _ _)
  rw [← hw]
  clear hw
  have Sz3 := Lib.hid (Below.size hb)
  have Bel3 := Lib.hid (belNext Bel2.out hb)
  have Bx3 := Lib.hid (Bx2.out.next hb)
  have By3 := Lib.hid (By2.out.next hb)
  have RsD3 := Lib.hid (RsD2.out.next hb)
  have Zo3 := Lib.hid (Zo2.out.next hb)
  clear hb Bel2 Bx2 By2 RsD2 Zo2 hBx0 hBx1 hBx2 hBx3 hBy0 hBy1 hBy2 hBy3 hRsD0 hRsD1 hRsD2 hRsD3 hRsD4 hRsD5 hRsD6
  have Hl2 : Hid ((n2 : Int) ≤ 90000) := Lib.hid (by have h := shl_len Hn'.out (E' - E).toNat; have e := Zo3.out.2.1; rw [shZ_up (by omega), abs_pow_mul] at e; have := Hm.out; omega)
  refine wp_region_held_drew (S := fun w' => (w'.cell? ⟨w2.heap.size, 0, none⟩ = some (.int .i64 S2) ∧ w'.cell? ⟨w2.heap.size, 1, none⟩ = some (.slice A2 n2 c2)) ∧ (w'.cell? ⟨w.heap.size + 1, 0, none⟩ = some (.int .i64 S) ∧ w'.cell? ⟨w.heap.size + 1, 1, none⟩ = some (.slice A n c) ∧ w'.cell? ⟨w.heap.size + 1, 2, none⟩ = some (.int .i64 E))) (by kernel_rfl) ⟨Bw3.out.1, By3.out.1⟩ (fun hHeld => ?_)
  refine wpAnyH_take (i := 0) (v := ?_) rfl (by kernel_rfl) (by kernel_rfl) (by kernel_rfl) (fun _ _ _ h => h) (Or.inl ⟨by rfl, ?_⟩) (by assumption) ?_
  rotate_left
  · (intro w hSw; (try dsimp only at hSw); go_simp; (try with_reducible rfl))
  try simp only [Act.put, List.setIfInBounds_toArray, List.set_cons_zero, List.set_cons_succ]
  refine wpAnyH_take (i := 1) (v := ?_) rfl (by kernel_rfl) (by kernel_rfl) (by kernel_rfl) (fun _ _ _ h => h) (Or.inl ⟨by rfl, ?_⟩) (by assumption) ?_
  rotate_left
  · (intro w hSw; (try dsimp only at hSw); go_simp; (try with_reducible rfl))
  try simp only [Act.put, List.setIfInBounds_toArray, List.set_cons_zero, List.set_cons_succ]
  refine wpAnyH_take (i := 2) (v := ?_) rfl (by kernel_rfl) (by kernel_rfl) (by kernel_rfl) (fun _ _ _ h => h) (Or.inl ⟨by rfl, ?_⟩) (by assumption) ?_
  rotate_left
  · (intro w hSw; (try dsimp only at hSw); go_simp; (try with_reducible rfl))
  try simp only [Act.put, List.setIfInBounds_toArray, List.set_cons_zero, List.set_cons_succ]
  refine wpAnyH_take (i := 4) (v := ?_) rfl (by kernel_rfl) (by kernel_rfl) (by kernel_rfl) (fun _ _ _ h => h) (Or.inl ⟨by rfl, ?_⟩) (by assumption) ?_
  rotate_left
  · (intro w hSw; (try dsimp only at hSw); go_simp; (try with_reducible rfl))
  try simp only [Act.put, List.setIfInBounds_toArray, List.set_cons_zero, List.set_cons_succ]
  refine wpAnyH_take (i := 5) (v := ?_) rfl (by kernel_rfl) (by kernel_rfl) (by kernel_rfl) (fun _ _ _ h => h) (Or.inl ⟨by rfl, ?_⟩) (by assumption) ?_
  rotate_left
  · (intro w hSw; (try dsimp only at hSw); go_simp; (try with_reducible rfl))
  try simp only [Act.put, List.setIfInBounds_toArray, List.set_cons_zero, List.set_cons_succ]
  refine wpAnyH_ready (rs := [3]) (by kernel_rfl) (by simp) ?_
  refine AllReadyH.cons rfl (fun K hK => ?_) AllReadyH.nil
  go_simp
  refine (implPlus_any S2 S (shZ z' (E' - E)).natAbs z.natAbs A2 A n2 n c2 c w3.drew Zo3.out.zv.sg (Hz.out.next Bel3.out).sg Zo3.out.zv.rd (Hz.out.next Bel3.out).rd Zo3.out.2.1 Hn.out Hl2.out (by have := Hm.out.1; omega)).mono ?_
  rintro e w4 ⟨val, rfl, hv, hb0⟩
  have hb : Below w3.heap.size w3 w4 := belDrew hb0
  obtain ⟨S9, A9, n9, c9, rfl, hzo⟩ := Wz.zo (hv.cast_ (z' := sumZ z E z' E') (by rw [Zo3.out.zv.val, (Hz.out.next Bel3.out).val, shZ_up (by omega)]; rw [Int.add_comm]; exact (sumZ_le (by omega)).symm)) (Nat.le_refl _)
  have Zp4 := Lib.hid hzo
  clear hv hzo
  refine hK.out _ _ ⟨(Bw3.out.next hb).1, (By3.out.next hb).1⟩ (fun hHeld => ?_)
  clear hK K hb0
  have Sz4 := Lib.hid (Below.size hb)
  have Bel4 := Lib.hid (belNext Bel3.out hb)
  have Bx4 := Lib.hid (Bx3.out.next hb)
  have By4 := Lib.hid (By3.out.next hb)
  have RsD4 := Lib.hid (RsD3.out.next hb)
  have Zo4 := Lib.hid (Zo3.out.next hb)
  have Bw4 := Lib.hid (Bw3.out.next hb)
  clear hb Bel3 Bx3 By3 RsD3 Zo3 Bw3
  try simp only [Act.put, List.setIfInBounds_toArray, List.set_cons_zero, List.set_cons_succ]
  refine wpAnyH_take (i := 6) (v := ?_) rfl (by kernel_rfl) (by kernel_rfl) (by kernel_rfl) (fun _ _ _ h => h) (Or.inl ⟨by rfl, ?_⟩) (by assumption) ?_
  rotate_left
  · (intro w hSw; (try dsimp only at hSw); go_simp; (try with_reducible rfl))
  try simp only [Act.put, List.setIfInBounds_toArray, List.set_cons_zero, List.set_cons_succ]
  obtain ⟨⟨hRsD0, hRsD1, hRsD2, hRsD3, hRsD4, hRsD5⟩, hRsD6⟩ := RsD4.out
  refine wpAnyH_ready (rs := [7]) (by kernel_rfl) (by simp) ?_
  refine AllReadyH.cons rfl (fun K hK => ?_) AllReadyH.nil
  go_simp
  refine hK.out _ _ ⟨(((Bw4.out.keep (by have zz0 := Hlt.out; have zz1 := Sz2.out; have zz2 := Sz3.out; have zz3 := Sz4.out; first | omega | (simp; done) | (simp; omega)) _).keep (by have zz0 := Hlt.out; have zz1 := Sz2.out; have zz2 := Sz3.out; have zz3 := Sz4.out; first | omega | (simp; done) | (simp; omega)) _).keep (by have zz0 := Hlt.out; have zz1 := Sz2.out; have zz2 := Sz3.out; have zz3 := Sz4.out; first | omega | (simp; done) | (simp; omega)) _).1, (((By4.out.keep (by have zz0 := Hlt.out; have zz1 := Sz2.out; have zz2 := Sz3.out; have zz3 := Sz4.out; first | omega | (simp; done) | (simp; omega)) _).keep (by have zz0 := Hlt.out; have zz1 := Sz2.out; have zz2 := Sz3.out; have zz3 := Sz4.out; first | omega | (simp; done) | (simp; omega)) _).keep (by have zz0 := Hlt.out; have zz1 := Sz2.out; have zz2 := Sz3.out; have zz3 := Sz4.out; first | omega | (simp; done) | (simp; omega)) _).1⟩ (fun hHeld => ?_)
  clear hK K hHeld
  try simp only [Act.put, List.setIfInBounds_toArray, List.set_cons_zero, List.set_cons_succ]
  refine wpAnyH_done (by kernel_rfl) ?_ _
  go_wp2_with fail
  refine bodyPost_ret (v := .agg #[.int .i64 S9, .slice A9 n9 c9, .int .i64 E]) (by simp [results, Tryz.results75, go_sem, hRsD0, hRsD1, hRsD2]) rfl ⟨S9, A9, n9, c9, by rw [Int.min_eq_left (by omega)], ?_, ?_⟩
  · exact (((Zp4.out.setCell (.inl (by have zz0 := Hlt.out; have zz1 := Sz2.out; have zz2 := Sz3.out; have zz3 := Sz4.out; first | omega | (simp; done) | (simp; omega))) _).setCell (.inl (by have zz0 := Hlt.out; have zz1 := Sz2.out; have zz2 := Sz3.out; have zz3 := Sz4.out; first | omega | (simp; done) | (simp; omega))) _).setCell (.inl (by have zz0 := Hlt.out; have zz1 := Sz2.out; have zz2 := Sz3.out; have zz3 := Sz4.out; first | omega | (simp; done) | (simp; omega))) _).wide (by have zz0 := Hlt.out; have zz1 := Sz2.out; have zz2 := Sz3.out; have zz3 := Sz4.out; first | omega | (simp; done) | (simp; omega)) (by have zz0 := Hlt.out; have zz1 := Sz2.out; have zz2 := Sz3.out; have zz3 := Sz4.out; first | omega | (simp; done) | (simp; omega)) (by have zz0 := Hlt.out; have zz1 := Sz2.out; have zz2 := Sz3.out; have zz3 := Sz4.out; first | omega | (simp; done) | (simp; omega))
  · exact ((Bel4.out.setCell (by have zz0 := Hlt.out; have zz1 := Sz2.out; have zz2 := Sz3.out; have zz3 := Sz4.out; first | omega | (simp; done) | (simp; omega)) _).setCell (by have zz0 := Hlt.out; have zz1 := Sz2.out; have zz2 := Sz3.out; have zz3 := Sz4.out; first | omega | (simp; done) | (simp; omega)) _).setCell (by have zz0 := Hlt.out; have zz1 := Sz2.out; have zz2 := Sz3.out; have zz3 := Sz4.out; first | omega | (simp; done) | (simp; omega)) _

theorem implPlusD_any (z S E z' S' E' : Int) (A A' : Option Addr) (n c n' c' : Nat) (w : World) (hz : ZV w z S A n c) (hz' : ZV w z' S' A' n' c') (hm : (n : Int) ≤ 4000) (hm' : (n' : Int) ≤ 4000) (h1 : -10000 ≤ E) (h2 : E ≤ 10000) (h3 : -10000 ≤ E') (h4 : E' ≤ 10000) (hT : TabZ w) :
    Calls Tryz.prog 75 #[.agg #[.int .i64 S, .slice A n c, .int .i64 E], .agg #[.int .i64 S', .slice A' n' c', .int .i64 E']] w fun e w' => ∃ Sr Ar nr cr, e = .returned (.agg #[.int .i64 Sr, .slice Ar nr cr, .int .i64 (min E E')]) ∧ ZO w' w.heap.size w'.heap.size (sumZ z E z' E') Sr Ar nr cr ∧ Below w.heap.size w w' := by
  rcases Int.lt_or_le E E' with h | h
  · exact implPlusD_lt z S E z' S' E' A A' n c n' c' w hz hz' hm hm' h1 h2 h3 h4 hT h
  · exact implPlusD_ge z S E z' S' E' A A' n c n' c' w hz hz' hm hm' h1 h2 h3 h4 hT h

end Go.Proofs.YtngminjncdfjdaaGreatDoor
/- Multiples of a divisor added to a part of a row, of the program. -/
namespace Go.Proofs.YtngminjncdfjdaaGreatDoor
set_option maxRecDepth 100000
open Go.RowKit
set_option linter.unusedSimpArgs false
set_option linter.unusedVariables false

/-- the value of cells that may be below zero -/
def VI : List Int → Int
  | [] => 0
  | x :: r => x + (Bs : Int) * VI r
end Go.Proofs.YtngminjncdfjdaaGreatDoor
/- Taking a divisor off a rest: the mathematics. -/
namespace Go.Proofs.YtngminjncdfjdaaGreatDoor
set_option maxRecDepth 100000
open Go.RowKit
set_option linter.unusedSimpArgs false
set_option linter.unusedVariables false

theorem VI_append : ∀ (a b : List Int), VI (a ++ b) = VI a + (Bs : Int) ^ a.length * VI b
  | [], b => by simp [VI]
  | x :: r, b => by
    have ih := VI_append r b
    rw [List.cons_append]
    simp only [VI, List.length_cons]
    rw [ih, Int.mul_add, ← Int.mul_assoc, Int.pow_succ, Int.mul_comm (Bs : Int) ((Bs : Int) ^ r.length)]
    omega
theorem pow_posI (n : Nat) : 0 < (Bs : Int) ^ n := Int.pow_pos (by rw [Bs_eq]; decide)

/-- a rest while a divisor is taken off its cells from o to o + n -/
structure Tk (ws ds : List Nat) (o n : Nat) (g : Int) (ys : List Int) : Prop where
  len : ys.length = ws.length
  far : ∀ p, p < o ∨ o + n < p → ys[p]? = (li ws)[p]?
  near : ∀ j, j < n → ∃ t : Nat, t < Bs ∧ ys[o + j]? = some (t : Int)
  val : VI (ys.drop o) = (V (ws.drop o) : Int) - g * V ds
  low : 0 ≤ g
  high : g ≤ 16777215
  over : (V (ws.drop o) : Int) < (g + 1) * V ds

section
variable {ws ds : List Nat} {o n : Nat} {g : Int} {ys : List Int}
/-- what was added -/
theorem tk_added {f : Int} {zs : List Int} (hlen : ys.length = ws.length) (hfar : ∀ p, p < o ∨ o + n < p → ys[p]? = (li ws)[p]?) (hval : VI (ys.drop o) = (V (ws.drop o) : Int) - g * V ds) (hl : zs.length = ys.length) (hv : VI zs = VI ys + (Bs : Int) ^ o * (f * V ds)) (hf : ∀ p, p < o ∨ o + n < p → zs[p]? = ys[p]?) (hn : ∀ j, j < n → ∃ t : Nat, t < Bs ∧ zs[o + j]? = some (t : Int)) (ho : o ≤ ws.length) (h0 : 0 ≤ g - f) (h1 : g - f ≤ 16777215) (h2 : (V (ws.drop o) : Int) < (g - f + 1) * V ds) : Tk ws ds o n (g - f) zs := by
  refine ⟨hl.trans hlen, fun p hp => (hf p hp).trans (hfar p hp), hn, ?_, h0, h1, h2⟩
  have e1 : zs.take o = ys.take o := by
    apply List.ext_getElem?
    intro p
    rw [List.getElem?_take, List.getElem?_take]
    split
    · exact hf p (by omega)
    · rfl
  have hz := VI_append (zs.take o) (zs.drop o)
  have hy := VI_append (ys.take o) (ys.drop o)
  rw [List.take_append_drop, List.length_take, hl, hlen, Nat.min_eq_left ho, e1] at hz
  rw [List.take_append_drop, List.length_take, hlen, Nat.min_eq_left ho] at hy
  have h3 : (Bs : Int) ^ o * VI (zs.drop o) = (Bs : Int) ^ o * (VI (ys.drop o) + f * V ds) := by rw [Int.mul_add]; omega
  have h4 := Int.eq_of_mul_eq_mul_left (Int.ne_of_gt (pow_posI o)) h3
  rw [h4, hval, Int.sub_mul]
  omega
theorem Tk.added {f : Int} {zs : List Int} (h : Tk ws ds o n g ys) (hl : zs.length = ys.length) (hv : VI zs = VI ys + (Bs : Int) ^ o * (f * V ds)) (hf : ∀ p, p < o ∨ o + n < p → zs[p]? = ys[p]?) (hn : ∀ j, j < n → ∃ t : Nat, t < Bs ∧ zs[o + j]? = some (t : Int)) (ho : o ≤ ws.length) (h0 : 0 ≤ g - f) (h1 : g - f ≤ 16777215) (h2 : (V (ws.drop o) : Int) < (g - f + 1) * V ds) : Tk ws ds o n (g - f) zs :=
  tk_added h.len h.far h.val hl hv hf hn ho h0 h1 h2
end
end Go.Proofs.YtngminjncdfjdaaGreatDoor
/- Taking a divisor off a rest, of the program. -/
namespace Go.Proofs.YtngminjncdfjdaaGreatDoor
set_option maxRecDepth 100000
open Go.RowKit
set_option linter.unusedSimpArgs false
set_option linter.unusedVariables false

end Go.Proofs.YtngminjncdfjdaaGreatDoor
/- Quotients of limbs by one limb, of the program. -/
namespace Go.Proofs.YtngminjncdfjdaaGreatDoor
set_option maxRecDepth 100000
open Go.RowKit
set_option linter.unusedSimpArgs false
set_option linter.unusedVariables false

end Go.Proofs.YtngminjncdfjdaaGreatDoor
/- Quotients of limbs by greater ones, of the program. -/
namespace Go.Proofs.YtngminjncdfjdaaGreatDoor
set_option maxRecDepth 100000
open Go.RowKit
set_option linter.unusedSimpArgs false
set_option linter.unusedVariables false

end Go.Proofs.YtngminjncdfjdaaGreatDoor
/- Long division: the mathematics. -/
namespace Go.Proofs.YtngminjncdfjdaaGreatDoor
set_option maxRecDepth 100000
open Go.RowKit
set_option linter.unusedSimpArgs false
set_option linter.unusedVariables false

/-- what is kept while the quotient's limbs are found, from the last to the first -/
structure Ld (M D i L : Nat) (ws qs : List Nat) : Prop where
  lim : Lim ws
  limq : Lim qs
  lenq : qs.length = L
  sum : V ws + Bs ^ i * (V (qs.drop i) * D) = M
  less : V (ws.drop i) < D

end Go.Proofs.YtngminjncdfjdaaGreatDoor
/- Long division, of the program. -/
namespace Go.Proofs.YtngminjncdfjdaaGreatDoor
set_option maxRecDepth 100000
open Go.RowKit
set_option linter.unusedSimpArgs false
set_option linter.unusedVariables false

end Go.Proofs.YtngminjncdfjdaaGreatDoor
/- Quotients of limbs, of the program. -/
namespace Go.Proofs.YtngminjncdfjdaaGreatDoor
set_option maxRecDepth 100000
open Go.RowKit
set_option linter.unusedSimpArgs false
set_option linter.unusedVariables false

end Go.Proofs.YtngminjncdfjdaaGreatDoor
