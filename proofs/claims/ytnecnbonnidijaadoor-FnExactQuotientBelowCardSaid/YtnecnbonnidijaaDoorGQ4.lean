/- Texts of this seat, joined: Ti Mu Mv Ds Sh Sd Dy Ha Hb Hd He To Tk Tw Db Dc Dd De Df -/
import Derived.Test.YtnecnbonnidijaaDoorGQ3
import Derived.IntWalk
import Derived.Test.YtnecnbonnidijaaDoorGQ1
import Derived.Shelf.Spec.TrailingZeros
import Derived.Lib.SliceRun
import Derived.Laws.CopyOwn
/- Products of limbs, of the program. -/
namespace Go.Proofs.YtnecnbonnidijaaDoor
set_option maxRecDepth 100000
open Go.RowKit
set_option linter.unusedSimpArgs false
set_option linter.unusedVariables false

/-- the greatest product of two limbs -/
def Mx : Nat := 281474943156225
theorem V_set_add {ys : List Nat} {k d : Nat} (hk : k < ys.length) : V (ys.set k (ys[k] + d)) = V ys + Bs ^ k * d := by
  rw [V_take_drop (ys.set k (ys[k] + d)) (k + 1) (by rw [List.length_set]; omega), V_set_take hk, List.drop_set_of_lt (by omega), V_take_drop ys (k + 1) (by omega), V_take_succ hk, Nat.mul_add]
  omega
theorem made_zeros (n : Nat) : (madeCells (Value.int .i64 0).cells (n * 1)).toList = vs (List.replicate n 0) := by
  rw [Nat.mul_one]
  apply List.ext_getElem
  · rw [vs_len, List.length_replicate]; simp [size_madeCells]
  · intro i h1 h2
    rw [vs_len, List.length_replicate] at h2
    rw [vs_get (by rw [List.length_replicate]; exact h2)]
    simp [madeCells, Value.cells, Nat.mod_one]
end Go.Proofs.YtnecnbonnidijaaDoor
/- Products of whole numbers, of the program and of the model. -/
namespace Go.Proofs.YtnecnbonnidijaaDoor
set_option maxRecDepth 100000
open Go.RowKit
set_option linter.unusedSimpArgs false
set_option linter.unusedVariables false

theorem sign_prod {s s' : Int} {a b : Nat} (h : Sg s a) (h' : Sg s' b) : (s * s' = 1 ∨ s * s' = -1 ∨ a * b = 0) ∧ (-1 ≤ s * s' ∧ s * s' ≤ 1) ∧ s * s' * ((a * b : Nat) : Int) = s * a * (s' * b) := by
  obtain ⟨h1, h2, h3⟩ := h
  obtain ⟨g1, g2, g3⟩ := h'
  refine ⟨?_, ?_, by rw [Int.natCast_mul, Int.mul_assoc, Int.mul_assoc]; congr 1; rw [← Int.mul_assoc, ← Int.mul_assoc, Int.mul_comm s']⟩
  · by_cases ha : a = 0
    · subst ha; simp
    · by_cases hb : b = 0
      · subst hb; simp
      · have e1 : s = -1 ∨ s = 1 := by omega
        have e2 : s' = -1 ∨ s' = 1 := by omega
        rcases e1 with rfl | rfl <;> rcases e2 with rfl | rfl <;> simp
  · have e1 : s = -1 ∨ s = 0 ∨ s = 1 := by omega
    have e2 : s' = -1 ∨ s' = 0 ∨ s' = 1 := by omega
    rcases e1 with rfl | rfl | rfl <;> rcases e2 with rfl | rfl | rfl <;> simp

theorem V_set_digit {ys : List Nat} {k c q d e : Nat} (hk : k < ys.length) (hd : d = (c + ys[k] + q) % Bs) (he : e = (c + ys[k] + q) / Bs) : V (ys.set k d) + Bs ^ (k + 1) * e = V ys + Bs ^ k * (c + q) := by
  rw [V_take_drop (ys.set k d) (k + 1) (by rw [List.length_set]; omega), V_set_take hk, List.drop_set_of_lt (by omega), V_take_drop ys (k + 1) (by omega), V_take_succ hk]
  have h := carry_step (P := V (ys.take k)) (T := V (ys.take k)) (c := 0) (x := c + ys[k] + q) k (by simp)
  rw [Nat.zero_add, ← hd, ← he, Nat.mul_add, Nat.mul_add] at h
  rw [Nat.mul_add]
  omega
end Go.Proofs.YtnecnbonnidijaaDoor
/- MultiplyWholes, of the program and of the model. -/
namespace Go.Proofs.YtnecnbonnidijaaDoor
set_option maxRecDepth 100000
open Go.RowKit
set_option linter.unusedSimpArgs false
set_option linter.unusedVariables false

end Go.Proofs.YtnecnbonnidijaaDoor
/- Quotients by small divisors, of the program. -/
namespace Go.Proofs.YtnecnbonnidijaaDoor
set_option maxRecDepth 100000
open Go.RowKit
set_option linter.unusedSimpArgs false
set_option linter.unusedVariables false

theorem or_i64 (a b : Nat) (ha : a < 9223372036854775808) (hb : b < 9223372036854775808) : bits .or .i64 (a : Int) (b : Int) = ((a ||| b : Nat) : Int) := by
  show IntKind.i64.wrap ((BitVec.ofInt 64 (a : Int) ||| BitVec.ofInt 64 (b : Int)).toNat : Int) = _
  have h1 : (BitVec.ofInt 64 (a : Int)).toNat = a := by rw [BitVec.ofInt_natCast, BitVec.toNat_ofNat]; exact Nat.mod_eq_of_lt (by omega)
  have h2 : (BitVec.ofInt 64 (b : Int)).toNat = b := by rw [BitVec.ofInt_natCast, BitVec.toNat_ofNat]; exact Nat.mod_eq_of_lt (by omega)
  rw [BitVec.toNat_or, h1, h2]
  have hx : a ||| b < 2 ^ 63 := Nat.or_lt_two_pow (by omega) (by omega)
  exact wrapI_small (by omega) (by omega)
/-- a limb behind a rest -/
theorem or_limb (r x : Nat) (hr : r < 549755813888) (hx : x < Bs) : bits .or .i64 ((r : Int) * 16777216) (x : Int) = ((r * Bs + x : Nat) : Int) := by
  rw [Bs_eq] at *
  have e : (r : Int) * 16777216 = ((r * 16777216 : Nat) : Int) := by omega
  rw [e, or_i64 _ _ (by omega) (by omega)]
  have h : x ||| (r * 2 ^ 24) = x + r * 2 ^ 24 := by
    rw [Nat.or_comm, Nat.mul_comm, ← Nat.two_pow_add_eq_or_of_lt (show x < 2 ^ 24 by omega), Nat.add_comm]
  rw [Nat.or_comm]
  have h2 : x ||| r * 16777216 = x + r * 16777216 := h
  rw [h2]
  omega
theorem small_step {xs zs : List Nat} {j d r x t : Nat} (hk : j < zs.length) (hx : V (xs.drop j) = x + Bs * V (xs.drop (j + 1))) (hv : V (xs.drop (j + 1)) = V (zs.drop (j + 1)) * d + r) (hd : 0 < d) (ht : t = (r * Bs + x) / d) : V (xs.drop j) = V ((zs.set j t).drop j) * d + (r * Bs + x) % d := by
  have h1 : V ((zs.set j t).drop j) = t + Bs * V (zs.drop (j + 1)) := by
    rw [V_drop (by rw [List.length_set]; exact hk), List.getElem_set_self, List.drop_set_of_lt (by omega)]
  rw [hx, hv, h1, Nat.add_mul, Nat.mul_add, Nat.mul_assoc]
  have h2 := Nat.div_add_mod (r * Bs + x) d
  rw [← ht, Nat.mul_comm] at h2
  rw [Nat.mul_comm Bs r]
  omega
theorem div_lt_Bs {r d x : Nat} (hr : r < d) (hx : x < Bs) : (r * Bs + x) / d < Bs := by
  rw [Nat.div_lt_iff_lt_mul (by omega), Nat.mul_comm Bs d]
  have := Nat.mul_le_mul_right Bs (show r + 1 ≤ d by omega)
  rw [Nat.add_mul] at this
  omega

set_option maxHeartbeats 1000000 in
theorem natDivS_any (v d : Nat) (A : Option Addr) (n c B : Nat) (w : World) (hr : Rd w B A (vs (limbs v))) (hB : B ≤ w.heap.size) (hn : (limbs v).length = n) (hm : (n : Int) ≤ 100000) (hd1 : (1 : Int) ≤ d) (hd2 : (d : Int) ≤ 4294967296) :
    Calls Tryd.prog 150 #[.slice A n c, .int .i64 d] w fun e w' => ∃ A2, e = .returned (.tuple #[.slice A2 (limbs (v / d)).length (limbs (v / d)).length, .int .i64 ((v % d : Nat) : Int)]) ∧ Ow w' w.heap.size w'.heap.size A2 (vs (limbs (v / d))) ∧ Below w.heap.size w w' := by
  obtain ⟨i0, hi0, hz0, hz1, hz2⟩ := info_parts infoI
  have hst := store_int Tryd.prog
  have Hr := Lib.hid (hr.up hB)
  have Hn := Lib.hid hn
  have hbytes : i0.bytes * n ≤ 281474976710656 := by rw [hz2]; omega
  clear hr hn hB
  go_enter Tryd.func150, Tryd.ntmps150
  go_wp2_with (refine wpList_make_full _ rfl _ _ _ rfl w.heap.size 2 i0 _ 1 Tryd.underlying117 hi0 hz0 hz1 _ _ _ _ n rfl rfl rfl rfl hbytes (by unfold maxLen; omega) (Nat.le_refl _) ?_; intro w1 hown hg)
  rw [made_zeros] at hown
  have Hown := Lib.hid hown
  have Hb1 : Hid (Below w.heap.size w w1) := Lib.hid ((Below.refl _ _).grown hg (Nat.le_refl _) (by simp))
  clear hown hg hbytes
  go_loopw [7, 8] (fun rv iv wr => ∃ (k r : Nat) (zs : List Nat), k ≤ n ∧ iv = .int .i64 ((k : Int) - 1) ∧ rv = .int .i64 r ∧ r < d ∧ zs.length = n ∧ Lim zs ∧ V ((limbs v).drop k) = V (zs.drop k) * d + r ∧ wr.ownsRow w.heap.size 2 1 (.slice (some ⟨w.heap.size, 0, none⟩) n n) n (vs zs) ∧ Below w.heap.size w wr) (fun _ iv _ => (intOf iv + 1).toNat)
  case atStart => exact ⟨n, 0, List.replicate n 0, Nat.le_refl _, rfl, rfl, by omega, List.length_replicate, Lim_zeros _, by rw [List.drop_of_length_le (by have := Hn.out; omega), List.drop_of_length_le (by rw [List.length_replicate]; omega)]; simp [V], Hown.out, Hb1.out⟩
  case round =>
    clear Hown Hb1
    obtain ⟨k, r, zs, hk, rfl, rfl, hrd, hzl, hzt, hzv, hown, hb⟩ := hrel
    have Hrd := Lib.hid hrd
    have Hzl := Lib.hid hzl
    have Hzt := Lib.hid hzt
    have Hzv := Lib.hid hzv
    have Hown := Lib.hid hown
    have Hb := Lib.hid hb
    have hr0 : (0 : Int) ≤ r := by omega
    have hr1 : (r : Int) ≤ 4294967295 := by omega
    clear hrd hzl hzt hzv hown hb
    by_cases h0 : k = 0
    · subst h0
      have Hfin : Hid (V zs = v / d ∧ v % d = r) := Lib.hid (by
        have h := Hzv.out
        rw [List.drop_zero, List.drop_zero, V_limbs] at h
        have hrd := Hrd.out
        rw [h, Nat.mul_comm]
        exact ⟨by rw [Nat.mul_add_div (by omega), Nat.div_eq_of_lt hrd, Nat.add_zero], by rw [Nat.mul_add_mod, Nat.mod_eq_of_lt hrd]⟩)
      have H1 := Lib.hid (Ow.own Hown.out)
      go_wp2_with fail
      refine (trim_any _ n n wr.heap.size zs wr H1.out.rd Hzl.out Hzt.out (by omega) (by omega)).mono ?_
      rintro e w3 ⟨rfl, q, rfl⟩
      have Hp : Hid (limbs (v / d) = zs.take (limbs (v / d)).length) := Lib.hid (by have h := limbs_prefix Hzt.out; rw [Hfin.out.1] at h; exact h)
      rw [Hfin.out.1]
      go_wp2_with fail
      go_ret2
      exact ⟨_, by rw [Hfin.out.2]; rfl, (((H1.out.take (limbs (v / d)).length).eq_ (by rw [← vs_take, ← Hp.out])).drewN q).wide (Nat.le_refl _) (Nat.le_refl _), below_drewN Hb.out q⟩
    · obtain ⟨j, rfl⟩ : ∃ j, k = j + 1 := ⟨k - 1, by omega⟩
      have hkx : j < (limbs v).length := by rw [Hn.out]; omega
      have hra := Hr.out.below Hb.out
      obtain ⟨p, hp, _⟩ := hra.some_ (by rw [vs_len]; omega)
      subst hp
      have hcx := hra.cell (k := j) (by rw [vs_len]; exact hkx)
      rw [vs_get hkx] at hcx
      have Hvd := Lib.hid (V_drop hkx)
      have Hxb := Lib.hid ((Lim_limbs v).getElem hkx)
      have hkz : j < zs.length := by rw [Hzl.out]; omega
      have hcz := Hown.out.cellAt j (by omega)
      rw [List.getElem?_eq_getElem (by rw [vs_len]; exact hkz), vs_get hkz] at hcz
      have hfz := Hown.out.frozenAt j
      have hj : ((j + 1 : Nat) : Int) - 1 = j := by omega
      rw [hj]
      have Hj := Lib.hid hj
      have hjn : (j : Int) < n := by omega
      clear hra hj h0
      generalize (limbs v)[j] = x at *
      generalize zs[j] = u at *
      have hor := or_limb r x (by omega) Hxb.out
      obtain ⟨m, hm⟩ : ∃ m, m = r * Bs + x := ⟨_, rfl⟩
      rw [← hm] at hor
      have hm0 : (0 : Int) ≤ m := by omega
      have hm1 : (m : Int) ≤ 72057594037927935 := by have := Hxb.out; rw [Bs_eq] at hm this; omega
      have hquo : (m : Int) / d = ((m / d : Nat) : Int) := rfl
      have hrem : (m : Int) % d = ((m % d : Nat) : Int) := rfl
      have Hs := Lib.hid (small_step (t := m / d) hkz Hvd.out Hzv.out (by omega) (by rw [hm]))
      have Ht : Hid (m / d < Bs ∧ m % d < d ∧ (r * Bs + x) % d = m % d) := Lib.hid ⟨by rw [hm]; exact div_lt_Bs Hrd.out Hxb.out, Nat.mod_lt _ (by omega), by rw [hm]⟩
      obtain ⟨t, ht⟩ : ∃ t, t = m / d := ⟨_, rfl⟩
      obtain ⟨r2, hr2⟩ : ∃ r2, r2 = m % d := ⟨_, rfl⟩
      rw [← ht] at hquo Hs Ht
      rw [← hr2] at hrem Ht
      have hst3 := Hown.out.stored j (.int .i64 t)
      rw [vs_set] at hst3
      have H1 := Lib.hid hst3
      have hd0 : ((d : Int) == 0) = false := beq_false_of_ne (by omega)
      have htb : (t : Int) ≤ 16777215 := by have := Ht.out.1; rw [Bs_eq] at this; omega
      clear hm ht hr2 hst3
      go_wp2_with fail
      go_roundw
      case rel => exact ⟨j, r2, zs.set j t, by omega, rfl, by rw [hrem], Ht.out.2.1, by rw [List.length_set]; exact Hzl.out, Hzt.out.set Ht.out.1, by rw [Hs.out, Ht.out.2.2], H1.out.1, Hb.out.grown H1.out.2 Hb.out.size (by simp)⟩
      case measure => simp [intOf]
end Go.Proofs.YtnecnbonnidijaaDoor
/- Shifts of limbs, of the program. -/
namespace Go.Proofs.YtnecnbonnidijaaDoor
set_option maxRecDepth 100000
open Go.RowKit
set_option linter.unusedSimpArgs false
set_option linter.unusedVariables false

theorem or_part (c x p : Nat) (hc : c < 2 ^ p) (hp : p ≤ 23) (hx : x < Bs) : bits .or .i64 (c : Int) ((x * 2 ^ p : Nat) : Int) = ((c + x * 2 ^ p : Nat) : Int) := by
  have h23 : 2 ^ p ≤ 2 ^ 23 := Nat.pow_le_pow_right (by omega) hp
  have h1 : x * 2 ^ p ≤ 16777215 * 2 ^ 23 := Nat.mul_le_mul (by rw [Bs_eq] at hx; omega) h23
  rw [or_i64 _ _ (by omega) (by omega)]
  congr 1
  rw [Nat.or_comm, Nat.mul_comm, ← Nat.two_pow_add_eq_or_of_lt hc, Nat.add_comm]
theorem shl_wrap (x p : Nat) (hp : p ≤ 23) (hx : x < Bs) : wrap64 ((x : Int) * 2 ^ p) = ((x * 2 ^ p : Nat) : Int) := by
  have h23 : 2 ^ p ≤ 2 ^ 23 := Nat.pow_le_pow_right (by omega) hp
  have h1 : x * 2 ^ p ≤ 16777215 * 2 ^ 23 := Nat.mul_le_mul (by rw [Bs_eq] at hx; omega) h23
  have e : (x : Int) * 2 ^ p = ((x * 2 ^ p : Nat) : Int) := by rw [Int.natCast_mul, Int.natCast_pow]; rfl
  rw [e]
  exact wrap64_small (by omega) (by omega)
theorem shl_carry {c x p : Nat} (hc : c < 2 ^ p) (hx : x < Bs) : (c + x * 2 ^ p) / Bs < 2 ^ p := by
  rw [Nat.div_lt_iff_lt_mul (by rw [Bs_eq]; omega)]
  have := Nat.mul_le_mul_right (2 ^ p) (show x + 1 ≤ Bs by omega)
  rw [Nat.add_mul] at this
  rw [Nat.mul_comm (2 ^ p) Bs]
  omega
theorem shl_step {zs xs : List Nat} {m k c p : Nat} (hk : m + k < zs.length) (hx : k < xs.length) (hl : Lim (zs.take (m + k))) (hv : V (zs.take (m + k)) + Bs ^ (m + k) * c = Bs ^ m * (2 ^ p * V (xs.take k))) :
    Lim ((zs.set (m + k) ((c + xs[k] * 2 ^ p) % Bs)).take (m + (k + 1))) ∧ V ((zs.set (m + k) ((c + xs[k] * 2 ^ p) % Bs)).take (m + (k + 1))) + Bs ^ (m + (k + 1)) * ((c + xs[k] * 2 ^ p) / Bs) = Bs ^ m * (2 ^ p * V (xs.take (k + 1))) := by
  have hd : (c + xs[k] * 2 ^ p) % Bs < Bs := Nat.mod_lt _ (by rw [Bs_eq]; omega)
  refine ⟨?_, ?_⟩
  · rw [← Nat.add_assoc, List.take_succ_eq_append_getElem (by rw [List.length_set]; exact hk), List.getElem_set_self, List.take_set_of_le (Nat.le_refl _)]
    exact hl.append (Lim_one hd)
  · rw [← Nat.add_assoc, V_set_take hk]
    have h3 := carry_step (x := xs[k] * 2 ^ p) (m + k) hv
    rw [h3, V_take_succ hx, Nat.mul_add, Nat.mul_add, Nat.pow_add]
    congr 1
    rw [Nat.mul_assoc]
    congr 1
    rw [Nat.mul_comm (xs[k]), Nat.mul_left_comm]

set_option maxHeartbeats 1000000 in
theorem natShl_any (v k : Nat) (A : Option Addr) (n c B : Nat) (w : World) (hr : Rd w B A (vs (limbs v))) (hB : B ≤ w.heap.size) (hn : (limbs v).length = n) (hm : (n : Int) ≤ 100000) (hk : (k : Int) ≤ 1000000) :
    Calls Tryd.prog 100 #[.slice A n c, .int .i64 k] w fun e w' => ∃ A2, e = .returned (.slice A2 (limbs (2 ^ k * v)).length (limbs (2 ^ k * v)).length) ∧ Ow w' w.heap.size w'.heap.size A2 (vs (limbs (2 ^ k * v))) ∧ Below w.heap.size w w' := by
  obtain ⟨i0, hi0, hz0, hz1, hz2⟩ := info_parts infoI
  have hst := store_int Tryd.prog
  have Hr := Lib.hid (hr.up hB)
  have Hn := Lib.hid hn
  obtain ⟨m, hmm⟩ : ∃ m, m = k / 24 := ⟨_, rfl⟩
  obtain ⟨p, hpp⟩ : ∃ p, p = k % 24 := ⟨_, rfl⟩
  obtain ⟨L, hL⟩ : ∃ L, L = m + n + 1 := ⟨_, rfl⟩
  have hkm : (k : Int) / 24 = m := by omega
  have hkp : (k : Int) % 24 = p := by omega
  have hp23 : (p : Int) ≤ 23 := by omega
  have hmb : (m : Int) ≤ 50000 := by omega
  have hLi : (m : Int) + n + 1 = L := by omega
  have HL := Lib.hid hL
  have Hk : Hid (k = 24 * m + p) := Lib.hid (by omega)
  have hbytes : i0.bytes * L ≤ 281474976710656 := by rw [hz2]; omega
  clear hr hn hB hmm hpp hL
  go_enter Tryd.func100, Tryd.ntmps100
  go_wp2_with (refine wpList_make_full _ rfl _ _ _ rfl w.heap.size 2 i0 _ 1 Tryd.underlying117 hi0 hz0 hz1 _ _ _ _ L rfl rfl rfl rfl hbytes (by unfold maxLen; omega) (Nat.le_refl _) ?_; intro w1 hown hg)
  rw [made_zeros] at hown
  have Hown := Lib.hid hown
  have Hb1 : Hid (Below w.heap.size w w1) := Lib.hid ((Below.refl _ _).grown hg (Nat.le_refl _) (by simp))
  clear hown hg hbytes
  go_loopw [8, 9, 10, 23] (fun cv _ _ iv wr => ∃ (i c : Nat) (zs : List Nat), i ≤ n ∧ iv = .int .i64 i ∧ cv = .int .i64 c ∧ c < 2 ^ p ∧ zs.length = L ∧ Lim (zs.take (m + i)) ∧ V (zs.take (m + i)) + Bs ^ (m + i) * c = Bs ^ m * (2 ^ p * V ((limbs v).take i)) ∧ wr.ownsRow w.heap.size 2 1 (.slice (some ⟨w.heap.size, 0, none⟩) L L) L (vs zs) ∧ Below w.heap.size w wr) (fun _ _ _ iv _ => n - (intOf iv).toNat)
  case atStart =>
    refine ⟨0, 0, List.replicate L 0, Nat.zero_le _, rfl, rfl, Nat.two_pow_pos _, List.length_replicate, (Lim_zeros _).take _, ?_, Hown.out, Hb1.out⟩
    rw [List.take_replicate, V_replicate]
    simp [V]
  case round =>
    clear Hown Hb1
    obtain ⟨i, cc, zs, hi, rfl, rfl, hcc, hzl, hzt, hzv, hown, hb⟩ := hrel
    have Hcc := Lib.hid hcc
    have Hzl := Lib.hid hzl
    have Hzt := Lib.hid hzt
    have Hzv := Lib.hid hzv
    have Hown := Lib.hid hown
    have Hb := Lib.hid hb
    have hpb : (2 : Nat) ^ p ≤ 2 ^ 23 := Nat.pow_le_pow_right (by omega) (by omega)
    have hcc1 : (cc : Int) ≤ 8388607 := by omega
    have hcc0 : (0 : Int) ≤ cc := by omega
    clear hcc hzl hzt hzv hown hb hpb
    by_cases hlt : i < n
    · have hkx : i < (limbs v).length := by rw [Hn.out]; exact hlt
      have hra := Hr.out.below Hb.out
      obtain ⟨q, hq, _⟩ := hra.some_ (by rw [vs_len]; omega)
      subst hq
      have hcx := hra.cell (k := i) (by rw [vs_len]; exact hkx)
      rw [vs_get hkx] at hcx
      have Hxb := Lib.hid ((Lim_limbs v).getElem hkx)
      have hkz : m + i < zs.length := by rw [Hzl.out, HL.out]; omega
      have hcz := Hown.out.cellAt (m + i) (by rw [← Hzl.out]; omega)
      rw [List.getElem?_eq_getElem (by rw [vs_len]; exact hkz), vs_get hkz] at hcz
      have hfz := Hown.out.frozenAt (m + i)
      have Hs := Lib.hid (shl_step hkz hkx Hzt.out Hzv.out)
      have hx0 : (0 : Int) ≤ ((limbs v)[i] : Nat) := by omega
      have hx1 : (((limbs v)[i] : Nat) : Int) ≤ 16777215 := by have := Hxb.out; rw [Bs_eq] at this; omega
      have hsw := shl_wrap _ p (by omega) Hxb.out
      have hor := or_part cc _ p Hcc.out (by omega) Hxb.out
      have Hcar := Lib.hid (shl_carry Hcc.out Hxb.out)
      generalize (limbs v)[i] = x at *
      generalize zs[m + i] = u at *
      obtain ⟨y, hy⟩ : ∃ y, y = x * 2 ^ p := ⟨_, rfl⟩
      rw [← hy] at hsw hor Hs Hcar
      have hyb : y ≤ 16777215 * 2 ^ 23 := by rw [hy]; exact Nat.mul_le_mul (by omega) (Nat.pow_le_pow_right (by omega) (by omega))
      have hand : bits .and .i64 (((cc + y : Nat)) : Int) 16777215 = (((cc + y) % Bs : Nat) : Int) := by rw [and24_i64, Bs_eq]; omega
      have hshr : ((cc + y : Nat) : Int) / 16777216 = (((cc + y) / Bs : Nat) : Int) := by rw [Bs_eq]; omega
      obtain ⟨t, ht⟩ : ∃ t, t = cc + y := ⟨_, rfl⟩
      rw [← ht] at hor hand hshr Hs Hcar
      have hst3 := Hown.out.stored (m + i) (.int .i64 ((t % Bs : Nat) : Int))
      rw [vs_set] at hst3
      have H1 := Lib.hid hst3
      obtain ⟨d, hd⟩ : ∃ d, d = t % Bs := ⟨_, rfl⟩
      obtain ⟨e, he⟩ : ∃ e, e = t / Bs := ⟨_, rfl⟩
      rw [← hd] at hand Hs H1
      rw [← he] at hshr Hs Hcar
      have hmi : (m : Int) + i < L := by have := HL.out; omega
      have htn : ((m : Int) + i).toNat = m + i := by omega
      have hmi0 : (0 : Int) ≤ (m : Int) + i := by omega
      clear hra hst3 hd he ht hy hyb
      go_wp2_with fail
      go_roundw
      case rel => exact ⟨i + 1, e, zs.set (m + i) d, by omega, by go_num, rfl, Hcar.out, by rw [List.length_set]; exact Hzl.out, Hs.out.1, Hs.out.2, H1.out.1, Hb.out.grown H1.out.2 Hb.out.size (by simp)⟩
      case measure => simp [intOf]; omega
    · have hin : i = n := by omega
      subst hin
      have hkz : m + i < zs.length := by rw [Hzl.out, HL.out]; omega
      have hcz := Hown.out.cellAt (m + i) (by rw [← Hzl.out]; omega)
      rw [List.getElem?_eq_getElem (by rw [vs_len]; exact hkz), vs_get hkz] at hcz
      have hfz := Hown.out.frozenAt (m + i)
      have hst3 := Hown.out.stored (m + i) (.int .i64 (cc : Int))
      rw [vs_set] at hst3
      have H1 := Lib.hid hst3
      have Hfin : Hid (V (zs.set (m + i) cc) = 2 ^ k * v ∧ Lim (zs.set (m + i) cc) ∧ (zs.set (m + i) cc).length = L) := Lib.hid (by
        have hl : (zs.set (m + i) cc).length = L := by rw [List.length_set]; exact Hzl.out
        have e1 : (zs.set (m + i) cc).take (m + i + 1) = zs.set (m + i) cc := List.take_of_length_le (by rw [hl, HL.out]; omega)
        have hz := Hzv.out
        have e2 : (limbs v).take i = limbs v := List.take_of_length_le (by have := Hn.out; omega)
        rw [e2, V_limbs] at hz
        refine ⟨?_, ?_, hl⟩
        · rw [← e1, V_set_take hkz, hz, Hk.out, Nat.pow_add, Bs_pow, Nat.mul_assoc]
        · rw [← e1, List.take_succ_eq_append_getElem (by rw [List.length_set]; exact hkz), List.getElem_set_self, List.take_set_of_le (Nat.le_refl _)]
          exact Hzt.out.append (Lim_one (by rw [Bs_eq]; omega)))
      have hmi : (m : Int) + i < L := by have := HL.out; omega
      have htn : ((m : Int) + i).toNat = m + i := by omega
      have hmi0 : (0 : Int) ≤ (m : Int) + i := by omega
      have HLb : Hid ((L : Int) ≤ 1000000) := Lib.hid (by have := HL.out; omega)
      have H2 := Lib.hid (Ow.own H1.out.1)
      have H3 := Lib.hid (Hb.out.grown H1.out.2 Hb.out.size (by simp))
      clear hst3 H1 hlt
      go_wp2_with fail
      obtain ⟨w2, hw2⟩ : ∃ w2, w2 = wr.setCell ⟨w.heap.size, m + i, none⟩ (.int .i64 cc) := ⟨_, rfl⟩
      rw [← hw2] at H2 H3 ⊢
      clear hw2
      refine (trim_any _ L L w2.heap.size (zs.set (m + i) cc) w2 H2.out.rd Hfin.out.2.2 Hfin.out.2.1 (Int.le_refl _) HLb.out).mono ?_
      rintro e w3 ⟨rfl, q, rfl⟩
      have Hp : Hid (limbs (2 ^ k * v) = (zs.set (m + i) cc).take (limbs (2 ^ k * v)).length) := Lib.hid (by have h := limbs_prefix Hfin.out.2.1; rw [Hfin.out.1] at h; exact h)
      rw [Hfin.out.1]
      go_wp2_with fail
      go_ret
      exact ⟨_, rfl, (((H2.out.take (limbs (2 ^ k * v)).length).eq_ (by rw [← vs_take, ← Hp.out])).drewN q).wide (Nat.le_refl _) (Nat.le_refl _), below_drewN H3.out q⟩
end Go.Proofs.YtnecnbonnidijaaDoor
/- Shifts down of limbs, of the program. -/
namespace Go.Proofs.YtnecnbonnidijaaDoor
set_option maxRecDepth 100000
open Go.RowKit
set_option linter.unusedSimpArgs false
set_option linter.unusedVariables false

theorem V_drop_div {xs : List Nat} (h : Lim xs) {m : Nat} (hm : m ≤ xs.length) : V (xs.drop m) = V xs / Bs ^ m := by
  have h1 := V_take_drop xs m hm
  have h2 := V_lt (h.take m)
  rw [List.length_take, Nat.min_eq_left hm] at h2
  rw [h1, Nat.add_mul_div_left _ _ (Bs_pow_pos m), Nat.div_eq_of_lt h2, Nat.zero_add]
theorem and_low (t p : Nat) (ht : t < 9223372036854775808) (hp : p ≤ 23) : bits .and .i64 (t : Int) ((2 : Int) ^ p - 1) = ((t % 2 ^ p : Nat) : Int) := by
  have h23 : 2 ^ p ≤ 2 ^ 23 := Nat.pow_le_pow_right (by omega) hp
  have h1 := Nat.two_pow_pos p
  have e : (2 : Int) ^ p - 1 = ((2 ^ p - 1 : Nat) : Int) := by rw [Int.natCast_sub h1, Int.natCast_pow]; rfl
  rw [e]
  show IntKind.i64.wrap ((BitVec.ofInt 64 (t : Int) &&& BitVec.ofInt 64 (((2 ^ p - 1 : Nat)) : Int)).toNat : Int) = _
  have h2 : (BitVec.ofInt 64 (t : Int)).toNat = t := by rw [BitVec.ofInt_natCast, BitVec.toNat_ofNat]; exact Nat.mod_eq_of_lt (by omega)
  have h3 : (BitVec.ofInt 64 (((2 ^ p - 1 : Nat)) : Int)).toNat = 2 ^ p - 1 := by rw [BitVec.ofInt_natCast, BitVec.toNat_ofNat]; exact Nat.mod_eq_of_lt (by omega)
  rw [BitVec.toNat_and, h2, h3, Nat.and_two_pow_sub_one_eq_mod]
  have := Nat.mod_lt t h1
  exact wrapI_small (by omega) (by omega)

theorem wrap_low (a : Int) (h0 : 1 ≤ a) (h1 : a ≤ 8388608) : wrap64 (wrap64 a - 1) = a - 1 := by
  have e1 : wrap64 a = a := wrap64_small (by omega) (by omega)
  rw [e1]
  exact wrap64_small (by omega) (by omega)
theorem wrap_pow (p : Nat) (hp : p ≤ 23) : wrap64 (wrap64 ((2 : Int) ^ p) - 1) = (2 : Int) ^ p - 1 := by
  have h23 : 2 ^ p ≤ 2 ^ 23 := Nat.pow_le_pow_right (by omega) hp
  have h1 := Nat.two_pow_pos p
  have e : (2 : Int) ^ p = ((2 ^ p : Nat) : Int) := by rw [Int.natCast_pow]; rfl
  rw [e]
  generalize 2 ^ p = y at h23 h1 ⊢
  have h3 : (2 : Nat) ^ 23 = 8388608 := by decide
  rw [h3] at h23
  exact wrap_low _ (by omega) (by omega)

set_option maxHeartbeats 1000000 in
theorem natShr_any (v k : Nat) (A : Option Addr) (n c B : Nat) (w : World) (hr : Rd w B A (vs (limbs v))) (hB : B ≤ w.heap.size) (hn : (limbs v).length = n) (hm : (n : Int) ≤ 100000) (hk : (k : Int) ≤ 1000000) :
    Calls Tryd.prog 152 #[.slice A n c, .int .i64 k] w fun e w' => ∃ A2, e = .returned (.slice A2 (limbs (v / 2 ^ k)).length (limbs (v / 2 ^ k)).length) ∧ Ow w' w.heap.size w'.heap.size A2 (vs (limbs (v / 2 ^ k))) ∧ Below w.heap.size w w' := by
  obtain ⟨i0, hi0, hz0, hz1, hz2⟩ := info_parts infoI
  have hst := store_int Tryd.prog
  have Hr := Lib.hid (hr.up hB)
  have Hn := Lib.hid hn
  clear hr hn hB
  by_cases hbig : blen v ≤ k
  · have Hv : Hid (v / 2 ^ k = 0) := Lib.hid (Nat.div_eq_of_lt (blen_lt.1 hbig))
    have hb2 : (blen v : Int) ≤ k := by omega
    go_enter Tryd.func152, Tryd.ntmps152
    go_wp2_with fail
    refine (natLen_any v A n c _ _ Hr.out Hn.out hm).mono ?_
    rintro e w' ⟨rfl, rfl⟩
    go_wp2_with fail
    go_ret
    rw [Hv.out, limbs_zero]
    exact ⟨none, rfl, .inl rfl, Below.refl _ _⟩
  · have hb2 : ¬ (blen v : Int) ≤ k := by omega
    obtain ⟨m, hmm⟩ : ∃ m, m = k / 24 := ⟨_, rfl⟩
    obtain ⟨p, hpp⟩ : ∃ p, p = k % 24 := ⟨_, rfl⟩
    have hmn : m < n := by
      rcases Nat.lt_or_ge m n with h | h
      · exact h
      · exfalso
        have h1 := limbs_len_le.1 (show (limbs v).length ≤ n by rw [Hn.out]; exact Nat.le_refl _)
        rw [Bs_pow] at h1
        have h2 := blen_lt.2 h1
        omega
    obtain ⟨L, hL⟩ : ∃ L, L = n - m := ⟨_, rfl⟩
    have hkm : (k : Int) / 24 = m := by omega
    have hkp : (k : Int) % 24 = p := by omega
    have hp23 : (p : Int) ≤ 23 := by omega
    have hmb : (m : Int) ≤ 50000 := by omega
    have hLi : (n : Int) - m = L := by omega
    have hLb : (L : Int) ≤ 100000 := by omega
    have HL := Lib.hid hL
    have Hmn := Lib.hid hmn
    have Hk : Hid (k = 24 * m + p) := Lib.hid (by omega)
    have hbytes : i0.bytes * L ≤ 281474976710656 := by rw [hz2]; omega
    clear hmm hpp hL hmn hbig
    go_enter Tryd.func152, Tryd.ntmps152
    go_wp2_with (first | (go_at_call 146; refine (natLen_any v A n c _ _ Hr.out Hn.out hm).mono ?_; rintro e w' ⟨rfl, rfl⟩) | (refine wpList_make_full _ rfl _ _ _ rfl w.heap.size 2 i0 _ 1 Tryd.underlying117 hi0 hz0 hz1 _ _ _ _ L rfl rfl rfl rfl hbytes (by unfold maxLen; omega) (Nat.le_refl _) ?_; intro w1 hown hg))
    rw [made_zeros] at hown
    have Hown := Lib.hid hown
    have Hb1 : Hid (Below w.heap.size w w1) := Lib.hid ((Below.refl _ _).grown hg (Nat.le_refl _) (by simp))
    clear hown hg hbytes
    go_loopw [8, 9] (fun rv iv wr => ∃ (k r : Nat) (zs : List Nat), k ≤ L ∧ iv = .int .i64 ((k : Int) - 1) ∧ rv = .int .i64 r ∧ r < 2 ^ p ∧ zs.length = L ∧ Lim zs ∧ V (((limbs v).drop m).drop k) = V (zs.drop k) * 2 ^ p + r ∧ wr.ownsRow w.heap.size 2 1 (.slice (some ⟨w.heap.size, 0, none⟩) L L) L (vs zs) ∧ Below w.heap.size w wr) (fun _ iv _ => (intOf iv + 1).toNat)
    case atStart => exact ⟨L, 0, List.replicate L 0, Nat.le_refl _, rfl, rfl, Nat.two_pow_pos _, List.length_replicate, Lim_zeros _, by rw [List.drop_of_length_le (by rw [List.length_drop, Hn.out, HL.out]; omega), List.drop_of_length_le (by rw [List.length_replicate]; omega)]; simp [V], Hown.out, Hb1.out⟩
    case round =>
      clear Hown Hb1
      obtain ⟨k', r, zs, hk', rfl, rfl, hrd, hzl, hzt, hzv, hown, hb⟩ := hrel
      have Hrd := Lib.hid hrd
      have Hzl := Lib.hid hzl
      have Hzt := Lib.hid hzt
      have Hzv := Lib.hid hzv
      have Hown := Lib.hid hown
      have Hb := Lib.hid hb
      have hpb : (2 : Nat) ^ p ≤ 2 ^ 23 := Nat.pow_le_pow_right (by omega) (by omega)
      have hr0 : (0 : Int) ≤ r := by omega
      have hr1 : (r : Int) ≤ 8388607 := by omega
      clear hrd hzl hzt hzv hown hb hpb
      by_cases h0 : k' = 0
      · subst h0
        have Hfin : Hid (V zs = v / 2 ^ k) := Lib.hid (by
          have h := Hzv.out
          rw [List.drop_zero, List.drop_zero, V_drop_div (Lim_limbs v) (by have := Hmn.out; have := Hn.out; omega), V_limbs] at h
          have hrd := Hrd.out
          rw [Hk.out, Nat.pow_add, ← Nat.div_div_eq_div_mul, ← Bs_pow, h, Nat.mul_comm, Nat.mul_add_div (Nat.two_pow_pos p), Nat.div_eq_of_lt hrd, Nat.add_zero])
        have H1 := Lib.hid (Ow.own Hown.out)
        go_wp2_with fail
        refine (trim_any _ L L wr.heap.size zs wr H1.out.rd Hzl.out Hzt.out (by omega) (by omega)).mono ?_
        rintro e w3 ⟨rfl, q, rfl⟩
        have Hp : Hid (limbs (v / 2 ^ k) = zs.take (limbs (v / 2 ^ k)).length) := Lib.hid (by have h := limbs_prefix Hzt.out; rw [Hfin.out] at h; exact h)
        rw [Hfin.out]
        go_wp2_with fail
        go_ret
        exact ⟨_, rfl, (((H1.out.take (limbs (v / 2 ^ k)).length).eq_ (by rw [← vs_take, ← Hp.out])).drewN q).wide (Nat.le_refl _) (Nat.le_refl _), below_drewN Hb.out q⟩
      · obtain ⟨j, rfl⟩ : ∃ j, k' = j + 1 := ⟨k' - 1, by omega⟩
        have hkx : m + j < (limbs v).length := by rw [Hn.out]; have := HL.out; omega
        have hra := Hr.out.below Hb.out
        obtain ⟨q, hq, _⟩ := hra.some_ (by rw [vs_len]; omega)
        subst hq
        have hcx := hra.cell (k := m + j) (by rw [vs_len]; exact hkx)
        rw [vs_get hkx] at hcx
        have Hvd : Hid (V (((limbs v).drop m).drop j) = (limbs v)[m + j] + Bs * V (((limbs v).drop m).drop (j + 1))) := Lib.hid (by
          rw [List.drop_drop, List.drop_drop, V_drop hkx]
          rfl)
        have Hxb := Lib.hid ((Lim_limbs v).getElem hkx)
        have hkz : j < zs.length := by rw [Hzl.out]; omega
        have hcz := Hown.out.cellAt j (by omega)
        rw [List.getElem?_eq_getElem (by rw [vs_len]; exact hkz), vs_get hkz] at hcz
        have hfz := Hown.out.frozenAt j
        have hj : ((j + 1 : Nat) : Int) - 1 = j := by omega
        rw [hj]
        have Hj := Lib.hid hj
        have hjn : (j : Int) < L := by omega
        clear hra hj h0
        generalize (limbs v)[m + j] = x at *
        generalize zs[j] = u at *
        have hor := or_limb r x (by omega) Hxb.out
        obtain ⟨t, ht⟩ : ∃ t, t = r * Bs + x := ⟨_, rfl⟩
        rw [← ht] at hor
        have ht0 : (0 : Int) ≤ t := by omega
        have ht1 : (t : Int) ≤ 140737488355327 := by have := Hxb.out; rw [Bs_eq] at ht this; omega
        have Hs := Lib.hid (small_step (t := t / 2 ^ p) hkz Hvd.out Hzv.out (Nat.two_pow_pos p) (by rw [ht]))
        have Ht : Hid (t / 2 ^ p < Bs ∧ t % 2 ^ p < 2 ^ p ∧ (r * Bs + x) % 2 ^ p = t % 2 ^ p) := Lib.hid ⟨by rw [ht]; exact div_lt_Bs Hrd.out Hxb.out, Nat.mod_lt _ (Nat.two_pow_pos p), by rw [ht]⟩
        have hand := and_low t p (by omega) (by omega)
        have hmj : (m : Int) + j < n := by have := HL.out; omega
        have htn : ((m : Int) + j).toNat = m + j := by omega
        have hmj0 : (0 : Int) ≤ (m : Int) + j := by omega
        have hwr := wrap_pow p (by omega)
        rw [← hwr] at hand
        have Hand := Lib.hid hand
        obtain ⟨y, hy⟩ : ∃ y, y = t / 2 ^ p := ⟨_, rfl⟩
        obtain ⟨r2, hr2⟩ : ∃ r2, r2 = t % 2 ^ p := ⟨_, rfl⟩
        have Hquo : Hid ((t : Int) / 2 ^ p = (y : Int)) := Lib.hid (by rw [hy, Int.natCast_ediv, Int.natCast_pow]; rfl)
        rw [← hy] at Hs Ht
        rw [← hr2] at Ht Hand
        have hst3 := Hown.out.stored j (.int .i64 y)
        rw [vs_set] at hst3
        have H1 := Lib.hid hst3
        clear ht hwr hand hy hr2 hst3
        go_wp2_with fail
        rw [Hquo.out, Hand.out]
        go_roundw
        case rel => exact ⟨j, r2, zs.set j y, by omega, rfl, rfl, Ht.out.2.1, by rw [List.length_set]; exact Hzl.out, Hzt.out.set Ht.out.1, by rw [Hs.out, Ht.out.2.2], H1.out.1, Hb.out.grown H1.out.2 Hb.out.size (by simp)⟩
        case measure => simp [intOf]
end Go.Proofs.YtnecnbonnidijaaDoor
/- Whole and exact numbers as values and in boxes; the table of Go's library. -/
namespace Go.Proofs.YtnecnbonnidijaaDoor
set_option maxRecDepth 100000
open Go.RowKit
set_option linter.unusedSimpArgs false
set_option linter.unusedVariables false

/-- a value's parts that are the whole number z, its limbs to be read -/
def ZV (w : World) (z S : Int) (A : Option Addr) (n c : Nat) : Prop := S = z.sign ∧ (limbs z.natAbs).length = n ∧ n ≤ c ∧ Rd w w.heap.size A (vs (limbs z.natAbs))
/-- .. its limbs a row of the call's own -/
def ZO (w : World) (lo hi : Nat) (z S : Int) (A : Option Addr) (n c : Nat) : Prop := S = z.sign ∧ (limbs z.natAbs).length = n ∧ n ≤ c ∧ Ow w lo hi A (vs (limbs z.natAbs)) ∧ hi ≤ w.heap.size
section
variable {w w' : World} {z S : Int} {A : Option Addr} {n c lo hi : Nat}
theorem ZV.next (h : ZV w z S A n c) (hb : Below w.heap.size w w') : ZV w' z S A n c := ⟨h.1, h.2.1, h.2.2.1, (h.2.2.2.below hb).up hb.size⟩
theorem ZV.drew (h : ZV w z S A n c) : ZV w.drew z S A n c := h
theorem sg_sign (z : Int) : Sg z.sign z.natAbs := by
  refine ⟨?_, ?_, ?_⟩
  · rcases Int.lt_trichotomy z 0 with h | h | h
    · rw [Int.sign_eq_neg_one_of_neg h]; omega
    · subst h; simp
    · rw [Int.sign_eq_one_of_pos h]; omega
  · rcases Int.lt_trichotomy z 0 with h | h | h
    · rw [Int.sign_eq_neg_one_of_neg h]; omega
    · subst h; simp
    · rw [Int.sign_eq_one_of_pos h]; omega
  · rw [Int.sign_eq_zero_iff_zero]; omega
theorem ZV.sg (h : ZV w z S A n c) : Sg S z.natAbs := by rw [h.1]; exact sg_sign z
theorem ZV.val (h : ZV w z S A n c) : S * (z.natAbs : Int) = z := by rw [h.1]; exact Int.sign_mul_natAbs z
theorem ZV.len (h : ZV w z S A n c) : (limbs z.natAbs).length = n := h.2.1
theorem ZV.rd (h : ZV w z S A n c) : Rd w w.heap.size A (vs (limbs z.natAbs)) := h.2.2.2
theorem ZV.cap (h : ZV w z S A n c) : n ≤ c := h.2.2.1
theorem ZV.neg (h : ZV w z S A n c) : ZV w (-z) (-S) A n c := by
  refine ⟨?_, ?_, h.2.2.1, ?_⟩
  · rw [Int.sign_neg, h.1]
  · rw [Int.natAbs_neg]; exact h.2.1
  · rw [Int.natAbs_neg]; exact h.2.2.2
theorem ZV.cast_ {z' : Int} (h : ZV w z S A n c) (e : z = z') : ZV w z' S A n c := e ▸ h
theorem ZO.zv (h : ZO w lo hi z S A n c) : ZV w z S A n c := ⟨h.1, h.2.1, h.2.2.1, h.2.2.2.1.rd.up h.2.2.2.2⟩
theorem ZO.cast_ {z' : Int} (h : ZO w lo hi z S A n c) (e : z = z') : ZO w lo hi z' S A n c := e ▸ h
theorem ZO.next (h : ZO w lo hi z S A n c) (hb : Below w.heap.size w w') : ZO w' lo hi z S A n c := ⟨h.1, h.2.1, h.2.2.1, h.2.2.2.1.below' hb, Nat.le_trans h.2.2.2.2 hb.size⟩
theorem ZO.wide {lo' hi' : Nat} (h : ZO w lo hi z S A n c) (h1 : lo' ≤ lo) (h2 : hi ≤ hi') (h3 : hi' ≤ w.heap.size) : ZO w lo' hi' z S A n c := ⟨h.1, h.2.1, h.2.2.1, h.2.2.2.1.wide h1 h2, h3⟩
theorem ZO.setCell (h : ZO w lo hi z S A n c) {p : Addr} (hp : p.block < lo ∨ hi ≤ p.block) (u : Value) : ZO (w.setCell p u) lo hi z S A n c := ⟨h.1, h.2.1, h.2.2.1, h.2.2.2.1.setCell hp u, by have := h.2.2.2.2; simpa using this⟩
theorem ZO.alloc (h : ZO w lo hi z S A n c) (o : Obj) : ZO (w.alloc o) lo hi z S A n c := h.next (belAlloc1 w o)
theorem ZO.drew (h : ZO w lo hi z S A n c) : ZO w.drew lo hi z S A n c := h
theorem ZO.zero (h : hi ≤ w.heap.size) : ZO w lo hi 0 0 none 0 0 := ⟨by simp, by simp [limbs_zero], Nat.le_refl _, by simp [limbs_zero, vs, li, vi]; exact .inl rfl, h⟩
theorem ZV.zero : ZV w 0 0 none 0 0 := ⟨by simp, by simp [limbs_zero], Nat.le_refl _, by simp [limbs_zero, vs, li, vi]; exact Rd.nil_⟩
theorem Wz.zo {val : Value} (h : Wz w lo hi z val) (hi_ : hi ≤ w.heap.size) : ∃ S A n c, val = .agg #[.int .i64 S, .slice A n c] ∧ ZO w lo hi z S A n c := by
  obtain ⟨A, c, h1, h2, h3⟩ := h
  exact ⟨_, A, _, c, h1, rfl, rfl, h3, h2, hi_⟩
end

/-- an exact number's box -/
def DBox (w : World) (b : Nat) (S : Int) (A : Option Addr) (n c : Nat) (E : Int) : Prop := (w.cell? ⟨b, 0, none⟩ = some (.int .i64 S) ∧ w.cell? ⟨b, 1, none⟩ = some (.slice A n c) ∧ w.cell? ⟨b, 2, none⟩ = some (.int .i64 E)) ∧ b < w.heap.size
/-- a result's box, yet untouched -/
def DRes (w : World) (b : Nat) : Prop := (w.cell? ⟨b, 0, none⟩ = some (.int .i64 0) ∧ w.cell? ⟨b, 1, none⟩ = some (.slice none 0 0) ∧ w.cell? ⟨b, 2, none⟩ = some (.int .i64 0) ∧ w.frozen? ⟨b, 0, none⟩ = false ∧ w.frozen? ⟨b, 1, none⟩ = false ∧ w.frozen? ⟨b, 2, none⟩ = false) ∧ b < w.heap.size
section
variable {w w' : World} {S E : Int} {A : Option Addr} {n c b : Nat}
theorem DBox.next (h : DBox w b S A n c E) (hb : Below w.heap.size w w') : DBox w' b S A n c E :=
  ⟨⟨(hb.cell (p := ⟨b, 0, none⟩) h.2).trans h.1.1, (hb.cell (p := ⟨b, 1, none⟩) h.2).trans h.1.2.1, (hb.cell (p := ⟨b, 2, none⟩) h.2).trans h.1.2.2⟩, Nat.lt_of_lt_of_le h.2 hb.size⟩
theorem DRes.next (h : DRes w b) (hb : Below w.heap.size w w') : DRes w' b :=
  ⟨⟨(hb.cell (p := ⟨b, 0, none⟩) h.2).trans h.1.1, (hb.cell (p := ⟨b, 1, none⟩) h.2).trans h.1.2.1, (hb.cell (p := ⟨b, 2, none⟩) h.2).trans h.1.2.2.1, (hb.frozen (p := ⟨b, 0, none⟩) h.2).trans h.1.2.2.2.1, (hb.frozen (p := ⟨b, 1, none⟩) h.2).trans h.1.2.2.2.2.1, (hb.frozen (p := ⟨b, 2, none⟩) h.2).trans h.1.2.2.2.2.2⟩, Nat.lt_of_lt_of_le h.2 hb.size⟩
theorem DBox.drew (h : DBox w b S A n c E) : DBox w.drew b S A n c E := h
theorem DRes.drew (h : DRes w b) : DRes w.drew b := h
theorem DBox.keep (h : DBox w b S A n c E) {p : Addr} (hp : p.block ≠ b) (u : Value) : DBox (w.setCell p u) b S A n c E := by
  have hk : ∀ o, (w.setCell p u).cell? ⟨b, o, none⟩ = w.cell? ⟨b, o, none⟩ := fun o => World.cell?_of_block (a := ⟨b, o, none⟩) (Below.heap_setCell _ _ _ _ (fun e => hp e.symm))
  exact ⟨⟨(hk 0).trans h.1.1, (hk 1).trans h.1.2.1, (hk 2).trans h.1.2.2⟩, by have := h.2; simpa using this⟩
theorem DBox.new (w : World) (S : Int) (A : Option Addr) (n c : Nat) (E : Int) (t : TypeId) : DBox (w.alloc (.cells #[.int .i64 S, .slice A n c, .int .i64 E] t)) w.heap.size S A n c E := by
  refine ⟨⟨?_, ?_, ?_⟩, ?_⟩ <;> simp
theorem DRes.new (w : World) (t : TypeId) : DRes (w.alloc (.cells #[.int .i64 0, .slice none 0 0, .int .i64 0] t)) w.heap.size := by
  refine ⟨⟨?_, ?_, ?_, ?_, ?_, ?_⟩, ?_⟩
  · simp
  · simp
  · simp
  · go_simp
  · go_simp
  · go_simp
  · simp
end
/-- the boxes of one argument and of the result -/
theorem dbox_res (w : World) (S : Int) (A : Option Addr) (n c : Nat) (E : Int) (t t2 : TypeId) :
    ∃ W, W = (w.alloc (.cells #[.int .i64 S, .slice A n c, .int .i64 E] t)).alloc (.cells #[.int .i64 0, .slice none 0 0, .int .i64 0] t2) ∧
      DBox W w.heap.size S A n c E ∧ DRes W (w.heap.size + 1) ∧ Below w.heap.size w W := by
  refine ⟨_, rfl, (DBox.new w S A n c E t).next (belAlloc1 _ _), ?_, ?_⟩
  · have h := DRes.new (w.alloc (.cells #[.int .i64 S, .slice A n c, .int .i64 E] t)) t2
    simpa using h
  · exact belNext (belAlloc1 _ _) (belAlloc1 _ _)
/-- of two arguments and of the result -/
theorem dbox2_res (w : World) (S S' : Int) (A A' : Option Addr) (n n' c c' : Nat) (E E' : Int) (t t' t2 : TypeId) :
    ∃ W, W = ((w.alloc (.cells #[.int .i64 S, .slice A n c, .int .i64 E] t)).alloc (.cells #[.int .i64 S', .slice A' n' c', .int .i64 E'] t')).alloc (.cells #[.int .i64 0, .slice none 0 0, .int .i64 0] t2) ∧
      DBox W w.heap.size S A n c E ∧ DBox W (w.heap.size + 1) S' A' n' c' E' ∧ DRes W (w.heap.size + 1 + 1) ∧ Below w.heap.size w W := by
  refine ⟨_, rfl, ((DBox.new w S A n c E t).next (belAlloc1 _ _)).next (belAlloc1 _ _), ?_, ?_, ?_⟩
  · have h := (DBox.new (w.alloc (.cells #[.int .i64 S, .slice A n c, .int .i64 E] t)) S' A' n' c' E' t').next (belAlloc1 _ (.cells #[.int .i64 0, .slice none 0 0, .int .i64 0] t2))
    simpa using h
  · have h := DRes.new ((w.alloc (.cells #[.int .i64 S, .slice A n c, .int .i64 E] t)).alloc (.cells #[.int .i64 S', .slice A' n' c', .int .i64 E'] t')) t2
    simpa using h
  · exact belNext (belNext (belAlloc1 _ _) (belAlloc1 _ _)) (belAlloc1 _ _)
/-- of two arguments -/
theorem dbox2 (w : World) (S S' : Int) (A A' : Option Addr) (n n' c c' : Nat) (E E' : Int) (t t' : TypeId) :
    ∃ W, W = (w.alloc (.cells #[.int .i64 S, .slice A n c, .int .i64 E] t)).alloc (.cells #[.int .i64 S', .slice A' n' c', .int .i64 E'] t') ∧
      DBox W w.heap.size S A n c E ∧ DBox W (w.heap.size + 1) S' A' n' c' E' ∧ Below w.heap.size w W := by
  refine ⟨_, rfl, (DBox.new w S A n c E t).next (belAlloc1 _ _), ?_, ?_⟩
  · have h := DBox.new (w.alloc (.cells #[.int .i64 S, .slice A n c, .int .i64 E] t)) S' A' n' c' E' t'
    simpa using h
  · exact belNext (belAlloc1 _ _) (belAlloc1 _ _)

/-- the table of math/bits in its variable -/
def TabZ (w : World) : Prop := TabAt 1 Lib.deBruijn64tab w
theorem TabZ.next {w w' : World} (h : TabZ w) (hb : Below w.heap.size w w') : TabZ w' := fun j hj =>
  (hb.cell (p := ⟨1, j, none⟩) (World.block_lt_of_cell? w _ (h j hj))).trans (h j hj)
theorem TabZ.drew {w : World} (h : TabZ w) : TabZ w.drew := h
theorem TabZ.drewN {w : World} (h : TabZ w) (n : Nat) : TabZ (w.drewN n) := h

theorem ctzFrom_tz : ∀ (f x : Nat), x ≠ 0 → x < 2 ^ f → Lib.ctzFrom f x = tz x
  | 0, x, h0, h => by simp at h; omega
  | f + 1, x, h0, h => by
    unfold Lib.ctzFrom
    split
    · rename_i h1; rw [tz_odd h1]
    · rename_i h1
      rw [tz_even h0 (by omega), ctzFrom_tz f (x / 2) (by omega) (by rw [Nat.pow_succ] at h; omega)]
      omega
theorem ctz_tz {x : Nat} (h0 : x ≠ 0) (h : x < 18446744073709551616) : Lib.ctz 64 x = tz x := by
  have e : Lib.ctz 64 x = Lib.ctzFrom 64 x := by simp [Lib.ctz, h0]
  rw [e, ctzFrom_tz 64 x h0 (by omega)]

set_option maxHeartbeats 1000000 in
theorem tz64_core (x k idx : Nat) (w : World) (hx0 : ((x : Int) == 0) = false)
    (key : IntKind.u64.wrap (bits BinOp.and IntKind.u64 (x : Int) (IntKind.u64.wrap (-(x : Int))) * 285870213051353865) / 288230376151711744 = (idx : Int))
    (hi : idx < 64) (hk : k < 64) (hcell : w.cell? ⟨1, idx, none⟩ = some (.int .u8 k)) :
    Calls Tryd.prog 184 #[.int .u64 x] w fun e w' => e = .returned (.int .i64 k) ∧ w = w' := by
  go_enter Tryd.func184, Tryd.ntmps184
  go_wp2_with (simp only [key])
  go_ret
  exact ⟨rfl, rfl⟩
theorem tz64_any (x : Nat) (w : World) (h0 : x ≠ 0) (hx : x < Bs) (hT : TabZ w) : Calls Tryd.prog 184 #[.int .u64 x] w fun e w' => e = .returned (.int .i64 (tz x : Nat)) ∧ w = w' := by
  rw [Bs_eq] at hx
  obtain ⟨hlow, hk⟩ := Lib.lowest_bit 64 x h0 (by omega)
  obtain ⟨hi, htab⟩ := Lib.deBruijn64_at _ hk
  have hcell := hT _ hi
  rw [htab] at hcell
  rw [ctz_tz h0 (by omega)] at *
  exact tz64_core x _ _ w (by simp; omega) (tz64_key x _ (by omega) h0 hlow) hi hk hcell

set_option maxHeartbeats 400000 in
theorem natZeros_any (v : Nat) (A : Option Addr) (n c B : Nat) (w : World) (hr : Rd w B A (vs (limbs v))) (hn : (limbs v).length = n) (hm : (n : Int) ≤ 100000) (hT : TabZ w) :
    Calls Tryd.prog 153 #[.slice A n c] w fun e w' => e = .returned (.int .i64 (tz v : Nat)) ∧ w = w' := by
  have Hn := Lib.hid hn
  have HT := Lib.hid hT
  clear hn hT
  go_enter Tryd.func153, Tryd.ntmps153
  go_wp2_with fail
  go_loop [3, 4, 7] (fun _ _ i => ∃ k : Nat, k ≤ n ∧ i = .int .i64 k ∧ ∀ j (h : j < (limbs v).length), j < k → (limbs v)[j] = 0) (fun _ _ i => n - (intOf i).toNat)
  case atStart => exact ⟨0, Nat.zero_le _, rfl, fun j h h2 => absurd h2 (by omega)⟩
  case round =>
    obtain ⟨k, hk, rfl, hz⟩ := hrel
    have Hz := Lib.hid hz
    clear hz
    by_cases hlt : k < n
    · have hkx : k < (limbs v).length := by rw [Hn.out]; exact hlt
      obtain ⟨a, ha, _⟩ := hr.some_ (by rw [vs_len]; omega)
      subst ha
      have hcx := hr.cell (k := k) (by rw [vs_len]; exact hkx)
      rw [vs_get hkx] at hcx
      have Hxb := Lib.hid ((Lim_limbs v).getElem hkx)
      have hx1 : (((limbs v)[k] : Nat) : Int) ≤ 16777215 := by have := Hxb.out; rw [Bs_eq] at this; omega
      have hx0 : (0 : Int) ≤ ((limbs v)[k] : Nat) := by omega
      by_cases hx : (limbs v)[k] = 0
      · have Hz2 : Hid (∀ j (h : j < (limbs v).length), j < k + 1 → (limbs v)[j] = 0) := Lib.hid (fun j h h2 => by
          by_cases e : j = k
          · subst e; exact hx
          · exact Hz.out j h (by omega))
        rw [hx] at hcx
        clear hr hx hx0 hx1
        go_wp2_with fail
        go_round
        case rel => exact ⟨k + 1, by omega, by go_num, Hz2.out⟩
        case measure => simp [intOf]; omega
      · have Hfin : Hid (tz v = 24 * k + tz (limbs v)[k]) := Lib.hid (by have h := tz_limbs hkx Hz.out hx Hxb.out; rwa [V_limbs] at h)
        have hx2 : (((limbs v)[k] : Nat) : Int) ≠ 0 := by omega
        have Hx := Lib.hid hx
        have Ht : Hid (tz (limbs v)[k] ≤ 1000) := Lib.hid (by
          have h1 := (tz_spec hx).1
          have h3 := Hxb.out
          rcases Nat.lt_or_ge (tz (limbs v)[k]) 1000 with h2 | h2
          · omega
          · exfalso
            have h4 : 2 ^ 24 ≤ 2 ^ tz (limbs v)[k] := Nat.pow_le_pow_right (by omega) (by omega)
            have h5 := od_pos hx
            have h6 : 2 ^ tz (limbs v)[k] * 1 ≤ 2 ^ tz (limbs v)[k] * od (limbs v)[k] := Nat.mul_le_mul_left _ (by omega)
            rw [Bs_eq] at h3
            omega)
        generalize (limbs v)[k] = x at *
        clear hr hx
        go_wp2_with fail
        refine (tz64_any x _ Hx.out Hxb.out HT.out).mono ?_
        rintro e w' ⟨rfl, rfl⟩
        obtain ⟨t, ht⟩ : ∃ t, t = tz x := ⟨_, rfl⟩
        rw [← ht] at Ht Hfin ⊢
        have ht1 : (t : Int) ≤ 1000 := by have := Ht.out; omega
        clear ht
        go_wp2_with fail
        go_ret
        exact ⟨ret_int (by rw [Hfin.out]; omega), rfl⟩
    · have hkn : k = n := by omega
      have Hv : Hid (tz v = 0) := Lib.hid (by
        have h : limbs v = [] ∨ limbs v ≠ [] := Classical.em _
        rcases h with h | h
        · rw [limbs_eq_nil.1 h, tz_zero]
        · exfalso
          have h1 := limbs_last v h
          rw [List.getLast_eq_getElem] at h1
          exact h1 (Hz.out _ (by have := List.length_pos_iff.2 h; omega) (by have := List.length_pos_iff.2 h; have := Hn.out; omega)))
      subst hkn
      clear hr
      go_wp2_with fail
      go_ret
      exact ⟨ret_int (by rw [Hv.out]; rfl), rfl⟩
end Go.Proofs.YtnecnbonnidijaaDoor
/- Shifts of a whole number, of the program. -/
namespace Go.Proofs.YtnecnbonnidijaaDoor
set_option maxRecDepth 100000
open Go.RowKit
set_option linter.unusedSimpArgs false
set_option linter.unusedVariables false

theorem sgn_or {S z : Int} (hS : S = z.sign) {v : Nat} (h : z = 0 → v = 0) : S = 1 ∨ S = -1 ∨ v = 0 := by
  subst hS
  rcases Int.lt_trichotomy z 0 with h1 | h1 | h1
  · exact .inr (.inl (Int.sign_eq_neg_one_of_neg h1))
  · exact .inr (.inr (h h1))
  · exact .inl (Int.sign_eq_one_of_pos h1)
theorem shl_len {v n : Nat} (hn : (limbs v).length = n) (m : Nat) : (limbs (2 ^ m * v)).length ≤ n + m / 24 + 1 := by
  rw [limbs_len_le]
  have h1 := limbs_len_le.1 (show (limbs v).length ≤ n by omega)
  have h2 : 2 ^ m ≤ Bs ^ (m / 24 + 1) := by rw [Bs_pow]; exact Nat.pow_le_pow_right (by omega) (by omega)
  have e : Bs ^ (n + m / 24 + 1) = Bs ^ (m / 24 + 1) * Bs ^ n := by rw [← Nat.pow_add]; congr 1; omega
  rw [e]
  exact Nat.mul_lt_mul_of_le_of_lt h2 h1 (Bs_pow_pos _)
theorem sh_up {z S : Int} (hS : S = z.sign) (m : Nat) : S * ((2 ^ m * z.natAbs : Nat) : Int) = shZ z m := by
  rw [shZ_up (by omega), Int.toNat_natCast, Int.natCast_mul, Int.mul_left_comm, hS, Int.sign_mul_natAbs, pow_cast]
theorem shZ_nat {z : Int} {m : Nat} (hm : 0 < m) : shZ z (-(m : Int)) = z / (2 : Int) ^ m := by
  rw [shZ_down (by omega)]
  congr 2
  omega
theorem sh_down_nonneg {z S : Int} (hS : S = z.sign) (h0 : ¬ S < 0) {m : Nat} (hm : 0 < m) : S * ((z.natAbs / 2 ^ m : Nat) : Int) = shZ z (-(m : Int)) := by
  rw [shZ_nat hm]
  subst hS
  rcases Int.lt_trichotomy z 0 with h1 | h1 | h1
  · rw [Int.sign_eq_neg_one_of_neg h1] at h0; omega
  · subst h1; simp
  · rw [Int.sign_eq_one_of_pos h1, Int.one_mul, ← shr_pos]
    congr 1
    omega
theorem sgn_m1 {z S : Int} (hS : S = z.sign) (h : S < 0) : S = -1 := by
  subst hS
  rcases Int.lt_trichotomy z 0 with h1 | h1 | h1
  · exact Int.sign_eq_neg_one_of_neg h1
  · subst h1; simp at h
  · rw [Int.sign_eq_one_of_pos h1] at h; omega
theorem neg_of {z : Int} (h : z < 0) : z = -(z.natAbs : Int) := by omega
theorem sign_neg_iff {z S : Int} (hS : S = z.sign) : S < 0 ↔ z < 0 := by
  subst hS
  rcases Int.lt_trichotomy z 0 with h1 | h1 | h1
  · rw [Int.sign_eq_neg_one_of_neg h1]; omega
  · subst h1; simp
  · rw [Int.sign_eq_one_of_pos h1]; omega
theorem sh_down_exact {z S : Int} (hS : S = z.sign) (h0 : S < 0) {m : Nat} (hm : 0 < m) (ht : ¬ tz z.natAbs < m) : S * ((z.natAbs / 2 ^ m : Nat) : Int) = shZ z (-(m : Int)) := by
  have hz := (sign_neg_iff hS).1 h0
  have h1 := (tz_dvd (v := z.natAbs) (k := m) (by omega)).1 (by omega)
  rw [shZ_nat hm, hS, Int.sign_eq_neg_one_of_neg hz]
  conv => rhs; rw [neg_of hz]
  rw [shr_neg, if_pos h1]
  omega
theorem sh_down_more {z S : Int} (hS : S = z.sign) (h0 : S < 0) {m : Nat} (hm : 0 < m) (ht : tz z.natAbs < m) : S * ((z.natAbs / 2 ^ m + 1 : Nat) : Int) = shZ z (-(m : Int)) := by
  have hz := (sign_neg_iff hS).1 h0
  have h1 := (tz_lt_dvd (v := z.natAbs) (k := m) (by omega)).1 ht
  rw [shZ_nat hm, hS, Int.sign_eq_neg_one_of_neg hz]
  conv => rhs; rw [neg_of hz]
  rw [shr_neg, if_neg h1]
  omega
theorem limbs_1 : limbs 1 = [1] := by rw [limbs_pos (by omega)]; rw [Bs_eq, show 1 / 16777216 = 0 from rfl, limbs_zero]
theorem rd_one (w : World) (t : TypeId) : Rd (w.alloc (.cells #[.int .i64 1] t)) (w.alloc (.cells #[.int .i64 1] t)).heap.size (some ⟨w.heap.size, 0, none⟩) (vs (limbs 1)) := by
  rw [limbs_1]
  intro k u hu
  have hk : k < 1 := by simpa [vs, li, vi] using (List.getElem?_eq_some_iff.1 hu).1
  obtain rfl : k = 0 := by omega
  refine ⟨_, rfl, by simp, ?_⟩
  rw [add_zero_off]
  simp [vs, li, vi] at hu
  subst hu
  simp

set_option maxHeartbeats 1000000 in
theorem implShiftedU_any (z S : Int) (A : Option Addr) (n c m : Nat) (w : World) (hz : ZV w z S A n c) (hm : (n : Int) ≤ 50000) (hk : (m : Int) ≤ 100000) (hT : TabZ w) :
    Calls Tryd.prog 118 #[.agg #[.int .i64 S, .slice A n c], .int .i64 m] w fun e w' => ∃ S' A' n' c', e = .returned (.agg #[.int .i64 S', .slice A' n' c']) ∧ ZO w' w.heap.size w'.heap.size (shZ z m) S' A' n' c' ∧ Below w.heap.size w w' := by
  have hst := store_int Tryd.prog
  have hst2 := store_slice Tryd.prog
  obtain ⟨w1, hw1, hb1, hb3, hb4⟩ := box_res w S A n c 28 28
  have Zv1 := Lib.hid (hz.next hb4)
  have Tb1 := Lib.hid (hT.next hb4)
  have Hw := Lib.hid hw1
  have Bx1 := Lib.hid hb1
  have Rs1 := Lib.hid hb3
  have Bel1 := Lib.hid hb4
  have HS : Hid (S = z.sign) := Lib.hid hz.1
  have Hn : Hid ((limbs z.natAbs).length = n) := Lib.hid hz.2.1
  have Hl : Hid (((limbs (2 ^ m * z.natAbs)).length : Int) ≤ 1000000) := Lib.hid (by have := shl_len Hn.out m; omega)
  have Hm : Hid ((n : Int) ≤ 100000 ∧ (m : Int) ≤ 1000000) := Lib.hid (by omega)
  have hm0 : (0 : Int) ≤ m := by omega
  clear hz hT hw1 hb1 hb3 hb4 Tb1
  go_enter Tryd.func118, Tryd.ntmps118
  go_wp2_with fail
  rw [← Hw.out]
  have Hlt : Hid (w.heap.size + 1 < w1.heap.size) := Lib.hid Rs1.out.2
  refine wp_region_held_drew (S := fun w' => (w'.cell? ⟨w.heap.size, 0, none⟩ = some (.int .i64 S) ∧ w'.cell? ⟨w.heap.size, 1, none⟩ = some (.slice A n c))) (by kernel_rfl) Bx1.out.1 (fun hHeld => ?_)
  refine wpAnyH_take (i := 0) (v := ?_) rfl (by kernel_rfl) (by kernel_rfl) (by kernel_rfl) (fun _ _ _ h => h) (Or.inl ⟨by rfl, ?_⟩) (by assumption) ?_
  rotate_left
  · (intro w hSw; (try dsimp only at hSw); go_simp; (try with_reducible rfl))
  try simp only [Act.put, List.setIfInBounds_toArray, List.set_cons_zero, List.set_cons_succ]
  refine wpAnyH_take (i := 1) (v := ?_) rfl (by kernel_rfl) (by kernel_rfl) (by kernel_rfl) (fun _ _ _ h => h) (Or.inl ⟨by rfl, ?_⟩) (by assumption) ?_
  rotate_left
  · (intro w hSw; (try dsimp only at hSw); go_simp; (try with_reducible rfl))
  try simp only [Act.put, List.setIfInBounds_toArray, List.set_cons_zero, List.set_cons_succ]
  refine wpAnyH_take (i := 2) (v := ?_) rfl (by kernel_rfl) (by kernel_rfl) (by kernel_rfl) (fun _ _ _ h => h) (Or.inl ⟨by rfl, ?_⟩) (by assumption) ?_
  rotate_left
  · (intro w hSw; (try dsimp only at hSw); go_simp; (try with_reducible rfl))
  try simp only [Act.put, List.setIfInBounds_toArray, List.set_cons_zero, List.set_cons_succ]
  refine wpAnyH_take (i := 3) (v := ?_) rfl (by kernel_rfl) (by kernel_rfl) (by kernel_rfl) (fun _ _ _ h => h) (Or.inl ⟨by rfl, ?_⟩) (by assumption) ?_
  rotate_left
  · (intro w hSw; (try dsimp only at hSw); go_simp; (try with_reducible rfl))
  try simp only [Act.put, List.setIfInBounds_toArray, List.set_cons_zero, List.set_cons_succ]
  refine wpAnyH_ready (rs := [4]) (by kernel_rfl) (by simp) ?_
  refine AllReadyH.cons rfl (fun K hK => ?_) AllReadyH.nil
  go_simp
  refine (natShl_any z.natAbs m A n c _ w1.drew Zv1.out.rd (Nat.le_refl _) Hn.out Hm.out.1 Hm.out.2).mono ?_
  rintro e w2 ⟨A8, rfl, ho8, hb0⟩
  have hb : Below w1.heap.size w1 w2 := belDrew hb0
  have O8 := Lib.hid ho8
  clear ho8
  refine hK.out _ _ ((Bx1.out.next hb).1) (fun hHeld => ?_)
  clear hK K hb0
  have Sz2 := Lib.hid (Below.size hb)
  have Bel2 := Lib.hid (belNext Bel1.out hb)
  have Bx2 := Lib.hid (Bx1.out.next hb)
  have Rs2 := Lib.hid (Rs1.out.next hb)
  have Zv2 := Lib.hid (Zv1.out.next hb)
  clear hb Bel1 Bx1 Rs1 Zv1
  try simp only [Act.put, List.setIfInBounds_toArray, List.set_cons_zero, List.set_cons_succ]
  refine wpAnyH_ready (rs := [5]) (by kernel_rfl) (by simp) ?_
  refine AllReadyH.cons rfl (fun K hK => ?_) AllReadyH.nil
  go_simp
  refine (signed_any S (2 ^ m * z.natAbs) A8 _ _ _ _ _ O8.out rfl Hl.out (Nat.le_refl _)).mono ?_
  rintro e w3 ⟨val, rfl, hv, hb0⟩
  have hb : Below w2.heap.size w2 w3 := hb0
  obtain ⟨S9, A9, n9, c9, rfl, hzo⟩ := Wz.zo (((hv.z (sgn_or HS.out (fun e => by rw [e]; simp))).wide (Nat.le_refl _) hb0.size).cast_ (sh_up HS.out m)) (Nat.le_refl _)
  have Zo3 := Lib.hid hzo
  clear hv hzo
  refine hK.out _ _ ((Bx2.out.next hb).1) (fun hHeld => ?_)
  clear hK K hb0
  have Sz3 := Lib.hid (Below.size hb)
  have Bel3 := Lib.hid (belNext Bel2.out hb)
  have Bx3 := Lib.hid (Bx2.out.next hb)
  have Rs3 := Lib.hid (Rs2.out.next hb)
  have Zv3 := Lib.hid (Zv2.out.next hb)
  clear hb Bel2 Bx2 Rs2 Zv2
  try simp only [Act.put, List.setIfInBounds_toArray, List.set_cons_zero, List.set_cons_succ]
  obtain ⟨⟨hRs0, hRs1, hRs2, hRs3⟩, hRs4⟩ := Rs3.out
  refine wpAnyH_ready (rs := [6]) (by kernel_rfl) (by simp) ?_
  refine AllReadyH.cons rfl (fun K hK => ?_) AllReadyH.nil
  go_simp
  refine hK.out _ _ (((Bx3.out.keep (by first | (simp; done) | (simp; omega)) _).keep (by first | (simp; done) | (simp; omega)) _).1) (fun hHeld => ?_)
  clear hK K hHeld
  try simp only [Act.put, List.setIfInBounds_toArray, List.set_cons_zero, List.set_cons_succ]
  refine wpAnyH_done (by kernel_rfl) ?_ _
  go_wp2_with fail
  refine bodyPost_ret (v := .agg #[.int .i64 S9, .slice A9 n9 c9]) (by simp [results, Tryd.results118, go_sem, hRs0, hRs1]) rfl ⟨S9, A9, n9, c9, rfl, ?_, ?_⟩
  · exact ((Zo3.out.setCell (.inl (by have zz0 := Hlt.out; have zz1 := Sz2.out; have zz2 := Sz3.out; first | omega | (simp; done) | (simp; omega))) _).setCell (.inl (by have zz0 := Hlt.out; have zz1 := Sz2.out; have zz2 := Sz3.out; first | omega | (simp; done) | (simp; omega))) _).wide (by have zz0 := Hlt.out; have zz1 := Sz2.out; have zz2 := Sz3.out; first | omega | (simp; done) | (simp; omega)) (by simp) (by simp)
  · exact (Bel3.out.setCell (by simp; try omega) _).setCell (by simp; try omega) _

set_option maxHeartbeats 2000000 in
theorem implShiftedD_any (z S k : Int) (A : Option Addr) (n c m : Nat) (w : World) (hz : ZV w z S A n c) (hm : (n : Int) ≤ 50000) (hk : (m : Int) ≤ 100000) (h1 : (1 : Int) ≤ m) (hkm : k = -(m : Int)) (hT : TabZ w) :
    Calls Tryd.prog 118 #[.agg #[.int .i64 S, .slice A n c], .int .i64 k] w fun e w' => ∃ S' A' n' c', e = .returned (.agg #[.int .i64 S', .slice A' n' c']) ∧ ZO w' w.heap.size w'.heap.size (shZ z (-(m : Int))) S' A' n' c' ∧ Below w.heap.size w w' := by
  have hst := store_int Tryd.prog
  have hst2 := store_slice Tryd.prog
  obtain ⟨w1, hw1, hb1, hb3, hb4⟩ := box_res w S A n c 28 28
  have Zv1 := Lib.hid (hz.next hb4)
  have Tb1 := Lib.hid (hT.next hb4)
  have Hw := Lib.hid hw1
  have Bx1 := Lib.hid hb1
  have Rs1 := Lib.hid hb3
  have Bel1 := Lib.hid hb4
  have HS : Hid (S = z.sign) := Lib.hid hz.1
  have Hn : Hid ((limbs z.natAbs).length = n) := Lib.hid hz.2.1
  have Hl : Hid ((limbs (z.natAbs / 2 ^ m)).length ≤ n) := Lib.hid (by rw [← Hn.out]; exact limbs_len_mono (Nat.div_le_self _ _))
  have Hm : Hid ((n : Int) ≤ 100000 ∧ (m : Int) ≤ 1000000 ∧ 0 < m) := Lib.hid (by omega)
  have hk0 : ¬ 0 ≤ k := by omega
  have hnk : -k = (m : Int) := by omega
  clear hkm
  clear hz hT hw1 hb1 hb3 hb4
  go_enter Tryd.func118, Tryd.ntmps118
  go_wp2_with fail
  rw [← Hw.out]
  try rw [hnk]
  have Hlt : Hid (w.heap.size + 1 < w1.heap.size) := Lib.hid Rs1.out.2
  obtain ⟨⟨hBx0, hBx1⟩, hBx2⟩ := Bx1.out
  obtain ⟨⟨hRs0, hRs1, hRs2, hRs3⟩, hRs4⟩ := Rs1.out
  refine (natShr_any z.natAbs m A n c _ _ Zv1.out.rd (Nat.le_refl _) Hn.out Hm.out.1 Hm.out.2.1).mono ?_
  rintro e w2 ⟨A8, rfl, ho8, hb⟩
  have O8 := Lib.hid ho8
  clear ho8
  have Sz2 := Lib.hid (Below.size hb)
  have Bel2 := Lib.hid (belNext Bel1.out hb)
  have Bx2 := Lib.hid (Bx1.out.next hb)
  have Rs2 := Lib.hid (Rs1.out.next hb)
  have Zv2 := Lib.hid (Zv1.out.next hb)
  have Tb2 := Lib.hid (Tb1.out.next hb)
  clear hb Bel1 Bx1 Rs1 Zv1 Tb1 hBx0 hBx1 hBx2 hRs0 hRs1 hRs2 hRs3 hRs4
  obtain ⟨⟨hBx0, hBx1⟩, hBx2⟩ := Bx2.out
  obtain ⟨⟨hRs0, hRs1, hRs2, hRs3⟩, hRs4⟩ := Rs2.out
  obtain ⟨q, hq⟩ : ∃ q, q = z.natAbs / 2 ^ m := ⟨_, rfl⟩
  rw [← hq] at O8 Hl ⊢
  obtain ⟨nq, hnq⟩ : ∃ nq, nq = (limbs q).length := ⟨_, rfl⟩
  rw [← hnq] at Hl ⊢
  have Hq := Lib.hid hq
  have Hnq := Lib.hid hnq
  clear hq hnq
  by_cases hs : S < 0
  · have HSn := Lib.hid hs
    go_wp2_with fail
    refine (natZeros_any z.natAbs A n c _ _ Zv2.out.rd Hn.out Hm.out.1 Tb2.out).mono ?_
    rintro e w9 ⟨rfl, rfl⟩
    obtain ⟨zt, hzt⟩ : ∃ zt, zt = tz z.natAbs := ⟨_, rfl⟩
    rw [← hzt]
    have Hzt := Lib.hid hzt
    clear hzt
    by_cases htl : zt < m
    · have htl2 : (zt : Int) < m := by omega
      have Htl := Lib.hid htl
      clear htl
      go_wp2_with fail
      obtain ⟨wa, hwa⟩ : ∃ wa, wa = w2.alloc (.cells #[.int .i64 1] 2) := ⟨_, rfl⟩
      have Rd1 : Hid (Rd wa wa.heap.size (some ⟨w2.heap.size, 0, none⟩) (vs (limbs 1))) := Lib.hid (by rw [hwa]; exact rd_one _ _)
      have hb : Below w2.heap.size w2 wa := by rw [hwa]; exact belAlloc1 _ _
      rw [← hwa]
      clear hwa
      obtain ⟨w3, hw3⟩ : ∃ w3, w3 = wa := ⟨_, rfl⟩
      rw [← hw3] at hb Rd1 ⊢
      clear hw3
      have O8b := Lib.hid (O8.out.below' hb)
      have Hs23 := Lib.hid hb.size
      have Sz3 := Lib.hid (Below.size hb)
      have Bel3 := Lib.hid (belNext Bel2.out hb)
      have Bx3 := Lib.hid (Bx2.out.next hb)
      have Rs3 := Lib.hid (Rs2.out.next hb)
      have Zv3 := Lib.hid (Zv2.out.next hb)
      have Tb3 := Lib.hid (Tb2.out.next hb)
      clear hb Bel2 Bx2 Rs2 Zv2 Tb2 hBx0 hBx1 hBx2 hRs0 hRs1 hRs2 hRs3 hRs4
      obtain ⟨⟨hBx0, hBx1⟩, hBx2⟩ := Bx3.out
      obtain ⟨⟨hRs0, hRs1, hRs2, hRs3⟩, hRs4⟩ := Rs3.out
      refine (natPlus_any q 1 A8 _ nq 1 nq 1 _ _ w3 (O8b.out.rd) Rd1.out (Hs23.out) (Nat.le_refl _) Hnq.out.symm (by rw [limbs_1]; rfl) (by have := Hl.out; have := Hm.out; omega) (by omega)).mono ?_
      rintro e w4 ⟨A7, rfl, ho7, hb⟩
      have O7 := Lib.hid ho7
      clear ho7
      have Sz4 := Lib.hid (Below.size hb)
      have Bel4 := Lib.hid (belNext Bel3.out hb)
      have Bx4 := Lib.hid (Bx3.out.next hb)
      have Rs4 := Lib.hid (Rs3.out.next hb)
      have Zv4 := Lib.hid (Zv3.out.next hb)
      have Tb4 := Lib.hid (Tb3.out.next hb)
      clear hb Bel3 Bx3 Rs3 Zv3 Tb3 hBx0 hBx1 hBx2 hRs0 hRs1 hRs2 hRs3 hRs4
      obtain ⟨⟨hBx0, hBx1⟩, hBx2⟩ := Bx4.out
      obtain ⟨⟨hRs0, hRs1, hRs2, hRs3⟩, hRs4⟩ := Rs4.out
      go_wp2_with fail
      refine (signed_any S (q + 1) A7 _ _ _ _ _ O7.out rfl (by have h := limbs_len_sum q 1 Hnq.out.symm (show (limbs 1).length = 1 by rw [limbs_1]; rfl); have := Hl.out; have := Hm.out; omega) (Nat.le_refl _)).mono ?_
      rintro e w5 ⟨val, rfl, hv, hb⟩
      obtain ⟨S9, A9, n9, c9, rfl, hzo⟩ := Wz.zo (((hv.z (.inr (.inl (sgn_m1 HS.out HSn.out)))).wide (Nat.le_refl _) hb.size).cast_ (z' := shZ z (-(m : Int))) (by rw [Hq.out]; exact sh_down_more HS.out HSn.out Hm.out.2.2 (by rw [← Hzt.out]; exact Htl.out))) (Nat.le_refl _)
      have Zo5 := Lib.hid hzo
      clear hv hzo
      have Sz5 := Lib.hid (Below.size hb)
      have Bel5 := Lib.hid (belNext Bel4.out hb)
      have Bx5 := Lib.hid (Bx4.out.next hb)
      have Rs5 := Lib.hid (Rs4.out.next hb)
      have Zv5 := Lib.hid (Zv4.out.next hb)
      have Tb5 := Lib.hid (Tb4.out.next hb)
      clear hb Bel4 Bx4 Rs4 Zv4 Tb4 hBx0 hBx1 hBx2 hRs0 hRs1 hRs2 hRs3 hRs4
      obtain ⟨⟨hBx0, hBx1⟩, hBx2⟩ := Bx5.out
      obtain ⟨⟨hRs0, hRs1, hRs2, hRs3⟩, hRs4⟩ := Rs5.out
      go_wp2_with fail
      refine bodyPost_ret (v := .agg #[.int .i64 S9, .slice A9 n9 c9]) (by simp [results, Tryd.results118, go_sem, hRs0, hRs1]) rfl ⟨S9, A9, n9, c9, rfl, ?_, ?_⟩
      · exact ((Zo5.out.setCell (.inl (by have zz0 := Hlt.out; have zz1 := Sz2.out; have zz2 := Sz3.out; have zz3 := Sz4.out; have zz4 := Sz5.out; first | omega | (simp; done) | (simp; omega))) _).setCell (.inl (by have zz0 := Hlt.out; have zz1 := Sz2.out; have zz2 := Sz3.out; have zz3 := Sz4.out; have zz4 := Sz5.out; first | omega | (simp; done) | (simp; omega))) _).wide (by have zz0 := Hlt.out; have zz1 := Sz2.out; have zz2 := Sz3.out; have zz3 := Sz4.out; have zz4 := Sz5.out; first | omega | (simp; done) | (simp; omega)) (by simp) (by simp)
      · exact (Bel5.out.setCell (by simp; try omega) _).setCell (by simp; try omega) _
    · have htl2 : ¬ (zt : Int) < m := by omega
      have Htl := Lib.hid htl
      clear htl
      go_wp2_with fail
      refine (signed_any S q A8 _ _ _ _ _ O8.out Hnq.out.symm (by have := Hl.out; have := Hm.out; omega) (Nat.le_refl _)).mono ?_
      rintro e w3 ⟨val, rfl, hv, hb⟩
      obtain ⟨S9, A9, n9, c9, rfl, hzo⟩ := Wz.zo (((hv.z (sgn_or HS.out (fun e => by rw [Hq.out, e]; simp))).wide (Nat.le_refl _) hb.size).cast_ (z' := shZ z (-(m : Int))) (by rw [Hq.out]; exact sh_down_exact HS.out HSn.out Hm.out.2.2 (by rw [← Hzt.out]; exact Htl.out))) (Nat.le_refl _)
      have Zo3 := Lib.hid hzo
      clear hv hzo
      have Sz3 := Lib.hid (Below.size hb)
      have Bel3 := Lib.hid (belNext Bel2.out hb)
      have Bx3 := Lib.hid (Bx2.out.next hb)
      have Rs3 := Lib.hid (Rs2.out.next hb)
      have Zv3 := Lib.hid (Zv2.out.next hb)
      have Tb3 := Lib.hid (Tb2.out.next hb)
      clear hb Bel2 Bx2 Rs2 Zv2 Tb2 hBx0 hBx1 hBx2 hRs0 hRs1 hRs2 hRs3 hRs4
      obtain ⟨⟨hBx0, hBx1⟩, hBx2⟩ := Bx3.out
      obtain ⟨⟨hRs0, hRs1, hRs2, hRs3⟩, hRs4⟩ := Rs3.out
      go_wp2_with fail
      refine bodyPost_ret (v := .agg #[.int .i64 S9, .slice A9 n9 c9]) (by simp [results, Tryd.results118, go_sem, hRs0, hRs1]) rfl ⟨S9, A9, n9, c9, rfl, ?_, ?_⟩
      · exact ((Zo3.out.setCell (.inl (by have zz0 := Hlt.out; have zz1 := Sz2.out; have zz2 := Sz3.out; first | omega | (simp; done) | (simp; omega))) _).setCell (.inl (by have zz0 := Hlt.out; have zz1 := Sz2.out; have zz2 := Sz3.out; first | omega | (simp; done) | (simp; omega))) _).wide (by have zz0 := Hlt.out; have zz1 := Sz2.out; have zz2 := Sz3.out; first | omega | (simp; done) | (simp; omega)) (by simp) (by simp)
      · exact (Bel3.out.setCell (by simp; try omega) _).setCell (by simp; try omega) _
  · have HSn := Lib.hid hs
    have hsb : decide (S < 0) = false := decide_eq_false hs
    go_wp2_with fail
    refine (signed_any S q A8 _ _ _ _ _ O8.out Hnq.out.symm (by have := Hl.out; have := Hm.out; omega) (Nat.le_refl _)).mono ?_
    rintro e w3 ⟨val, rfl, hv, hb⟩
    obtain ⟨S9, A9, n9, c9, rfl, hzo⟩ := Wz.zo (((hv.z (sgn_or HS.out (fun e => by rw [Hq.out, e]; simp))).wide (Nat.le_refl _) hb.size).cast_ (z' := shZ z (-(m : Int))) (by rw [Hq.out]; exact sh_down_nonneg HS.out (Int.not_lt.2 HSn.out) Hm.out.2.2)) (Nat.le_refl _)
    have Zo3 := Lib.hid hzo
    clear hv hzo
    have Sz3 := Lib.hid (Below.size hb)
    have Bel3 := Lib.hid (belNext Bel2.out hb)
    have Bx3 := Lib.hid (Bx2.out.next hb)
    have Rs3 := Lib.hid (Rs2.out.next hb)
    have Zv3 := Lib.hid (Zv2.out.next hb)
    have Tb3 := Lib.hid (Tb2.out.next hb)
    clear hb Bel2 Bx2 Rs2 Zv2 Tb2 hBx0 hBx1 hBx2 hRs0 hRs1 hRs2 hRs3 hRs4
    obtain ⟨⟨hBx0, hBx1⟩, hBx2⟩ := Bx3.out
    obtain ⟨⟨hRs0, hRs1, hRs2, hRs3⟩, hRs4⟩ := Rs3.out
    go_wp2_with fail
    refine bodyPost_ret (v := .agg #[.int .i64 S9, .slice A9 n9 c9]) (by simp [results, Tryd.results118, go_sem, hRs0, hRs1]) rfl ⟨S9, A9, n9, c9, rfl, ?_, ?_⟩
    · exact ((Zo3.out.setCell (.inl (by have zz0 := Hlt.out; have zz1 := Sz2.out; have zz2 := Sz3.out; first | omega | (simp; done) | (simp; omega))) _).setCell (.inl (by have zz0 := Hlt.out; have zz1 := Sz2.out; have zz2 := Sz3.out; first | omega | (simp; done) | (simp; omega))) _).wide (by have zz0 := Hlt.out; have zz1 := Sz2.out; have zz2 := Sz3.out; first | omega | (simp; done) | (simp; omega)) (by simp) (by simp)
    · exact (Bel3.out.setCell (by simp; try omega) _).setCell (by simp; try omega) _

theorem implShifted_any (z S k : Int) (A : Option Addr) (n c : Nat) (w : World) (hz : ZV w z S A n c) (hm : (n : Int) ≤ 50000) (hk1 : -100000 ≤ k) (hk2 : k ≤ 100000) (hT : TabZ w) :
    Calls Tryd.prog 118 #[.agg #[.int .i64 S, .slice A n c], .int .i64 k] w fun e w' => ∃ S' A' n' c', e = .returned (.agg #[.int .i64 S', .slice A' n' c']) ∧ ZO w' w.heap.size w'.heap.size (shZ z k) S' A' n' c' ∧ Below w.heap.size w w' := by
  by_cases h : 0 ≤ k
  · obtain ⟨m, rfl⟩ : ∃ m : Nat, k = m := ⟨k.toNat, by omega⟩
    exact implShiftedU_any z S A n c m w hz hm (by omega) hT
  · obtain ⟨m, hmk⟩ : ∃ m : Nat, k = -(m : Int) := ⟨(-k).toNat, by omega⟩
    have h2 := implShiftedD_any z S k A n c m w hz hm (by omega) (by omega) hmk hT
    rw [← hmk] at h2
    exact h2
end Go.Proofs.YtnecnbonnidijaaDoor
/- Exact numbers without their last twos, and limited, of the program. -/
namespace Go.Proofs.YtnecnbonnidijaaDoor
set_option maxRecDepth 100000
open Go.RowKit
set_option linter.unusedSimpArgs false
set_option linter.unusedVariables false

/-- an exact number is laid into a box -/
def st3 (w : World) (b : Nat) (S : Int) (A : Option Addr) (n c : Nat) (E : Int) : World := ((w.setCell ⟨b, 0, none⟩ (.int .i64 S)).setCell ⟨b, 1, none⟩ (.slice A n c)).setCell ⟨b, 2, none⟩ (.int .i64 E)
/-- nothing of a box is frozen -/
def Fr3 (w : World) (b : Nat) : Prop := (w.frozen? ⟨b, 0, none⟩ = false ∧ w.frozen? ⟨b, 1, none⟩ = false ∧ w.frozen? ⟨b, 2, none⟩ = false) ∧ b < w.heap.size
section
variable {w w' : World} {b : Nat} {S E : Int} {A : Option Addr} {n c : Nat}
theorem Fr3.next (h : Fr3 w b) (hb : Below w.heap.size w w') : Fr3 w' b :=
  ⟨⟨(hb.frozen (p := ⟨b, 0, none⟩) h.2).trans h.1.1, (hb.frozen (p := ⟨b, 1, none⟩) h.2).trans h.1.2.1, (hb.frozen (p := ⟨b, 2, none⟩) h.2).trans h.1.2.2⟩, Nat.lt_of_lt_of_le h.2 hb.size⟩
theorem Fr3.drew (h : Fr3 w b) : Fr3 w.drew b := h
theorem Fr3.new (w : World) (S : Int) (A : Option Addr) (n c : Nat) (E : Int) (t : TypeId) : Fr3 (w.alloc (.cells #[.int .i64 S, .slice A n c, .int .i64 E] t)) w.heap.size := by
  refine ⟨⟨?_, ?_, ?_⟩, ?_⟩
  · go_simp
  · go_simp
  · go_simp
  · simp
theorem st3_size : (st3 w b S A n c E).heap.size = w.heap.size := by unfold st3; simp
theorem st3_heap {g : Nat} (h : g ≠ b) : (st3 w b S A n c E).heap[g]? = w.heap[g]? := by
  unfold st3
  rw [Below.heap_setCell _ _ _ _ (by exact h), Below.heap_setCell _ _ _ _ (by exact h), Below.heap_setCell _ _ _ _ (by exact h)]
theorem st3_cell {g o : Nat} (h : g ≠ b) : (st3 w b S A n c E).cell? ⟨g, o, none⟩ = w.cell? ⟨g, o, none⟩ := World.cell?_of_block (a := ⟨g, o, none⟩) (st3_heap h)
theorem st3_frozen {g o : Nat} (h : g ≠ b) : (st3 w b S A n c E).frozen? ⟨g, o, none⟩ = w.frozen? ⟨g, o, none⟩ := by unfold World.frozen?; rw [st3_heap h]
theorem DBox.st3_ {b' : Nat} {S' E' : Int} {A' : Option Addr} {n' c' : Nat} (h : DBox w b' S' A' n' c' E') (hne : b' ≠ b) : DBox (st3 w b S A n c E) b' S' A' n' c' E' :=
  ⟨⟨(st3_cell hne).trans h.1.1, (st3_cell hne).trans h.1.2.1, (st3_cell hne).trans h.1.2.2⟩, by rw [st3_size]; exact h.2⟩
theorem DRes.st3_ {b' : Nat} (h : DRes w b') (hne : b' ≠ b) : DRes (st3 w b S A n c E) b' :=
  ⟨⟨(st3_cell hne).trans h.1.1, (st3_cell hne).trans h.1.2.1, (st3_cell hne).trans h.1.2.2.1, (st3_frozen hne).trans h.1.2.2.2.1, (st3_frozen hne).trans h.1.2.2.2.2.1, (st3_frozen hne).trans h.1.2.2.2.2.2⟩, by rw [st3_size]; exact h.2⟩
theorem Fr3.st3_ {b' : Nat} (h : Fr3 w b') (hne : b' ≠ b) : Fr3 (st3 w b S A n c E) b' :=
  ⟨⟨(st3_frozen hne).trans h.1.1, (st3_frozen hne).trans h.1.2.1, (st3_frozen hne).trans h.1.2.2⟩, by rw [st3_size]; exact h.2⟩
theorem ZO.st3_ {lo hi : Nat} {z S' : Int} {A' : Option Addr} {n' c' : Nat} (h : ZO w lo hi z S' A' n' c') (hne : b < lo ∨ hi ≤ b) : ZO (st3 w b S A n c E) lo hi z S' A' n' c' :=
  ⟨h.1, h.2.1, h.2.2.1, h.2.2.2.1.keep (fun g h1 h2 _ => st3_heap (by omega)), by rw [st3_size]; exact h.2.2.2.2⟩
theorem TabZ.st3_ (h : TabZ w) (hne : 1 ≠ b) : TabZ (st3 w b S A n c E) := fun j hj => (st3_cell hne).trans (h j hj)
theorem belSt3 {W : World} (h : Below W.heap.size W w) (hb : W.heap.size ≤ b) : Below W.heap.size W (st3 w b S A n c E) := ((h.setCell hb _).setCell hb _).setCell hb _
theorem DBox.made (h : b < w.heap.size) (h0 : ∃ u, w.cell? ⟨b, 0, none⟩ = some u) (h1 : ∃ u, w.cell? ⟨b, 1, none⟩ = some u) (h2 : ∃ u, w.cell? ⟨b, 2, none⟩ = some u) : DBox (st3 w b S A n c E) b S A n c E := by
  obtain ⟨u0, h0⟩ := h0
  obtain ⟨u1, h1⟩ := h1
  obtain ⟨u2, h2⟩ := h2
  refine ⟨⟨?_, ?_, ?_⟩, by rw [st3_size]; exact h⟩ <;> · unfold st3; go_simp
theorem Fr3.made (h : Fr3 w b) : Fr3 (st3 w b S A n c E) b := by
  obtain ⟨⟨h0, h1, h2⟩, h3⟩ := h
  refine ⟨⟨?_, ?_, ?_⟩, by rw [st3_size]; exact h3⟩ <;> · unfold st3; go_simp
end

theorem shZ_tz {z : Int} : shZ z (-((tz z.natAbs : Nat) : Int)) = nz z := by
  have hs := (nz_facts z).1
  have ha := (nz_facts z).2
  have key : z.sign * ((z.natAbs / 2 ^ tz z.natAbs : Nat) : Int) = nz z := rfl
  by_cases h0 : tz z.natAbs = 0
  · rw [h0, shZ_up (by omega)]
    rw [h0] at key
    simp at key
    simp
    rw [← key, Int.sign_mul_natAbs]
  · rw [← key]
    by_cases hn : z.sign < 0
    · exact (sh_down_exact rfl hn (by omega) (by omega)).symm
    · exact (sh_down_nonneg rfl hn (by omega)).symm
theorem sign_eq_zero {z S : Int} (hS : S = z.sign) : S = 0 ↔ z = 0 := by rw [hS, Int.sign_eq_zero_iff_zero]
theorem nx_bound {z E : Int} {n : Nat} (hn : (limbs z.natAbs).length = n) (h : (n : Int) ≤ 50000) (h1 : -1000000 ≤ E) (h2 : E ≤ 1000000) : -1000000 ≤ nx z E ∧ nx z E ≤ 2200000 := by
  by_cases h0 : z = 0
  · rw [h0, nx_zero]; omega
  · rw [nx_ne h0]
    have := tz_le hn
    omega

set_option maxHeartbeats 2000000 in
theorem implNormal_any (z S E : Int) (A : Option Addr) (n c : Nat) (w : World) (hz : ZV w z S A n c) (hm : (n : Int) ≤ 4000) (h1 : -1000000 ≤ E) (h2 : E ≤ 1000000) (hT : TabZ w) :
    Calls Tryd.prog 104 #[.agg #[.int .i64 S, .slice A n c, .int .i64 E]] w fun e w' => ∃ S' A' n' c', e = .returned (.agg #[.int .i64 S', .slice A' n' c', .int .i64 (nx z E)]) ∧ ZO w' w.heap.size w'.heap.size (nz z) S' A' n' c' ∧ Below w.heap.size w w' := by
  have hst := store_int Tryd.prog
  have hst2 := store_slice Tryd.prog
  obtain ⟨w1, hw1, hb1, hb3, hb4⟩ := dbox_res w S A n c E 30 30
  have Zv1 := Lib.hid (hz.next hb4)
  have Tb1 := Lib.hid (hT.next hb4)
  have Hw := Lib.hid hw1
  have Bx1 := Lib.hid hb1
  have RsD1 := Lib.hid hb3
  have Bel1 := Lib.hid hb4
  have HS : Hid (S = z.sign) := Lib.hid hz.1
  have Hn : Hid ((limbs z.natAbs).length = n) := Lib.hid hz.2.1
  have Hm : Hid ((n : Int) ≤ 4000) := Lib.hid hm
  have Hlt : Hid (w.heap.size + 1 < w1.heap.size) := Lib.hid hb3.2
  have Ht : Hid ((tz z.natAbs : Int) ≤ 96000) := Lib.hid (by have := tz_le hz.2.1; omega)
  clear hz hT hw1 hb1 hb3 hb4
  go_enter Tryd.func104, Tryd.ntmps104
  go_wp2_with fail
  rw [← Hw.out]
  obtain ⟨⟨hBx0, hBx1, hBx2⟩, hBx3⟩ := Bx1.out
  obtain ⟨⟨hRsD0, hRsD1, hRsD2, hRsD3, hRsD4, hRsD5⟩, hRsD6⟩ := RsD1.out
  refine (natZeros_any z.natAbs A n c _ _ Zv1.out.rd Hn.out (by omega) Tb1.out).mono ?_
  rintro e w9 ⟨rfl, rfl⟩
  obtain ⟨zt, hzt⟩ : ∃ zt, zt = tz z.natAbs := ⟨_, rfl⟩
  rw [← hzt] at Ht ⊢
  have Hzt := Lib.hid hzt
  have hzt1 : (zt : Int) ≤ 96000 := Ht.out
  clear hzt
  go_wp2_with fail
  refine (implShifted_any z S (-(zt : Int)) A n c _ Zv1.out (by have := Hm.out; omega) (by omega) (by omega) Tb1.out).mono ?_
  rintro e w2 ⟨S2, A2, n2, c2, rfl, hzo, hb⟩
  have Zo2 := Lib.hid (hzo.cast_ (z' := nz z) (by rw [Hzt.out]; exact shZ_tz))
  clear hzo
  have Sz2 := Lib.hid (Below.size hb)
  have Bel2 := Lib.hid (belNext Bel1.out hb)
  have Bx2 := Lib.hid (Bx1.out.next hb)
  have RsD2 := Lib.hid (RsD1.out.next hb)
  have Zv2 := Lib.hid (Zv1.out.next hb)
  have Tb2 := Lib.hid (Tb1.out.next hb)
  clear hb Bel1 Bx1 RsD1 Zv1 Tb1 hBx0 hBx1 hBx2 hBx3 hRsD0 hRsD1 hRsD2 hRsD3 hRsD4 hRsD5 hRsD6
  obtain ⟨⟨hBx0, hBx1, hBx2⟩, hBx3⟩ := Bx2.out
  obtain ⟨⟨hRsD0, hRsD1, hRsD2, hRsD3, hRsD4, hRsD5⟩, hRsD6⟩ := RsD2.out
  by_cases h0 : z = 0
  · have hs2 : S2 = 0 := (sign_eq_zero Zo2.out.1).2 (nz_eq_zero.2 h0)
    subst hs2
    have H0 := Lib.hid h0
    clear h0
    go_wp2_with fail
    obtain ⟨⟨r0, r1, r2⟩, _⟩ := (DBox.made (S := 0) (A := none) (n := 0) (c := 0) (E := 0) hRsD6 ⟨_, hRsD0⟩ ⟨_, hRsD1⟩ ⟨_, hRsD2⟩).next (belAlloc1 _ (.cells #[.int .i64 0, .slice A2 n2 c2] 28))
    simp only [st3] at r0 r1 r2
    refine bodyPost_ret (v := .agg #[.int .i64 0, .slice none 0 0, .int .i64 0]) (by simp [results, Tryd.results104, go_sem, r0, r1, r2]) rfl ⟨0, none, 0, 0, by rw [H0.out, nx_zero], ?_, ?_⟩
    · rw [H0.out, nz_zero]; exact ZO.zero (Nat.le_refl _)
    · exact (((Bel2.out.setCell (by have zz0 := Hlt.out; have zz1 := Sz2.out; first | omega | (simp; done) | (simp; omega)) _).setCell (by have zz0 := Hlt.out; have zz1 := Sz2.out; first | omega | (simp; done) | (simp; omega)) _).setCell (by have zz0 := Hlt.out; have zz1 := Sz2.out; first | omega | (simp; done) | (simp; omega)) _).alloc (by have zz0 := Hlt.out; have zz1 := Sz2.out; first | omega | (simp; done) | (simp; omega)) _
  · have hs2 : (S2 == 0) = false := beq_false_of_ne (fun e => h0 (nz_eq_zero.1 ((sign_eq_zero Zo2.out.1).1 e)))
    have Hnx : Hid (nx z E = E + (zt : Int)) := Lib.hid (by rw [Hzt.out]; exact nx_ne h0)
    clear h0
    go_wp2_with fail
    obtain ⟨⟨r0, r1, r2⟩, _⟩ := (DBox.made (S := S2) (A := A2) (n := n2) (c := c2) (E := (E + (zt : Int))) hRsD6 ⟨_, hRsD0⟩ ⟨_, hRsD1⟩ ⟨_, hRsD2⟩).next (belAlloc1 _ (.cells #[.int .i64 S2, .slice A2 n2 c2] 28))
    simp only [st3] at r0 r1 r2
    refine bodyPost_ret (v := .agg #[.int .i64 S2, .slice A2 n2 c2, .int .i64 (E + (zt : Int))]) (by simp [results, Tryd.results104, go_sem, r0, r1, r2]) rfl ⟨S2, A2, n2, c2, by rw [Hnx.out], ?_, ?_⟩
    · exact ((((Zo2.out.setCell (.inl (by have zz0 := Hlt.out; have zz1 := Sz2.out; first | omega | (simp; done) | (simp; omega))) _).setCell (.inl (by have zz0 := Hlt.out; have zz1 := Sz2.out; first | omega | (simp; done) | (simp; omega))) _).setCell (.inl (by have zz0 := Hlt.out; have zz1 := Sz2.out; first | omega | (simp; done) | (simp; omega))) _).alloc _).wide (by have zz0 := Hlt.out; have zz1 := Sz2.out; first | omega | (simp; done) | (simp; omega)) (by simp) (by simp)
    · exact (((Bel2.out.setCell (by have zz0 := Hlt.out; have zz1 := Sz2.out; first | omega | (simp; done) | (simp; omega)) _).setCell (by have zz0 := Hlt.out; have zz1 := Sz2.out; first | omega | (simp; done) | (simp; omega)) _).setCell (by have zz0 := Hlt.out; have zz1 := Sz2.out; first | omega | (simp; done) | (simp; omega)) _).alloc (by have zz0 := Hlt.out; have zz1 := Sz2.out; first | omega | (simp; done) | (simp; omega)) _
end Go.Proofs.YtnecnbonnidijaaDoor
/- Exact numbers: opposites, products, floors, tops, of the program. -/
namespace Go.Proofs.YtnecnbonnidijaaDoor
set_option maxRecDepth 100000
open Go.RowKit
set_option linter.unusedSimpArgs false
set_option linter.unusedVariables false

set_option maxHeartbeats 1000000 in
theorem implTop_any (z S E : Int) (A : Option Addr) (n c : Nat) (w : World) (hz : ZV w z S A n c) (hm : (n : Int) ≤ 4000) (h1 : -1000000 ≤ E) (h2 : E ≤ 1000000) :
    Calls Tryd.prog 50 #[.agg #[.int .i64 S, .slice A n c, .int .i64 E]] w fun e w' => e = .returned (.int .i64 ((blen z.natAbs : Nat) + E)) ∧ Below w.heap.size w w' := by
  have hst := store_int Tryd.prog
  have hst2 := store_slice Tryd.prog
  obtain ⟨w1, hw1⟩ : ∃ w1, w1 = w.alloc (.cells #[.int .i64 S, .slice A n c, .int .i64 E] 30) := ⟨_, rfl⟩
  have hb1 : DBox w1 w.heap.size S A n c E := by rw [hw1]; exact DBox.new _ _ _ _ _ _ _
  have hb4 : Below w.heap.size w w1 := by rw [hw1]; exact belAlloc1 _ _
  have Hlt : Hid (w.heap.size < w1.heap.size) := Lib.hid hb1.2
  have Zv1 := Lib.hid (hz.next hb4)
  have Hw := Lib.hid hw1
  have Bx1 := Lib.hid hb1
  have Bel1 := Lib.hid hb4
  have HS : Hid (S = z.sign) := Lib.hid hz.1
  have Hn : Hid ((limbs z.natAbs).length = n) := Lib.hid hz.2.1
  have Hm : Hid ((n : Int) ≤ 4000) := Lib.hid hm
  clear hz hw1 hb1 hb4
  have Hbl : Hid ((blen z.natAbs : Int) ≤ 96000) := Lib.hid (by have h := blen_lt.2 (by have h := limbs_len_le.1 (show (limbs z.natAbs).length ≤ n by rw [Hn.out]; exact Nat.le_refl _); rw [Bs_pow] at h; exact h); have := Hm.out; omega)
  go_enter Tryd.func50, Tryd.ntmps50
  go_wp2_with fail
  rw [← Hw.out]
  refine wp_region_held_drew (S := fun w' => (w'.cell? ⟨w.heap.size, 0, none⟩ = some (.int .i64 S) ∧ w'.cell? ⟨w.heap.size, 1, none⟩ = some (.slice A n c) ∧ w'.cell? ⟨w.heap.size, 2, none⟩ = some (.int .i64 E))) (by kernel_rfl) Bx1.out.1 (fun hHeld => ?_)
  refine wpAnyH_take (i := 0) (v := ?_) rfl (by kernel_rfl) (by kernel_rfl) (by kernel_rfl) (fun _ _ _ h => h) (Or.inl ⟨by rfl, ?_⟩) (by assumption) ?_
  rotate_left
  · (intro w hSw; (try dsimp only at hSw); go_simp; (try with_reducible rfl))
  try simp only [Act.put, List.setIfInBounds_toArray, List.set_cons_zero, List.set_cons_succ]
  refine wpAnyH_take (i := 1) (v := ?_) rfl (by kernel_rfl) (by kernel_rfl) (by kernel_rfl) (fun _ _ _ h => h) (Or.inl ⟨by rfl, ?_⟩) (by assumption) ?_
  rotate_left
  · (intro w hSw; (try dsimp only at hSw); go_simp; (try with_reducible rfl))
  try simp only [Act.put, List.setIfInBounds_toArray, List.set_cons_zero, List.set_cons_succ]
  refine wpAnyH_take (i := 3) (v := ?_) rfl (by kernel_rfl) (by kernel_rfl) (by kernel_rfl) (fun _ _ _ h => h) (Or.inl ⟨by rfl, ?_⟩) (by assumption) ?_
  rotate_left
  · (intro w hSw; (try dsimp only at hSw); go_simp; (try with_reducible rfl))
  try simp only [Act.put, List.setIfInBounds_toArray, List.set_cons_zero, List.set_cons_succ]
  refine wpAnyH_take (i := 4) (v := ?_) rfl (by kernel_rfl) (by kernel_rfl) (by kernel_rfl) (fun _ _ _ h => h) (Or.inl ⟨by rfl, ?_⟩) (by assumption) ?_
  rotate_left
  · (intro w hSw; (try dsimp only at hSw); go_simp; (try with_reducible rfl))
  try simp only [Act.put, List.setIfInBounds_toArray, List.set_cons_zero, List.set_cons_succ]
  refine wpAnyH_ready (rs := [2]) (by kernel_rfl) (by simp) ?_
  refine AllReadyH.cons rfl (fun K hK => ?_) AllReadyH.nil
  go_simp
  refine (implLen_any S z.natAbs A n c _ w1.drew Zv1.out.rd (Nat.le_refl _) Hn.out (by have := Hm.out; omega)).mono ?_
  rintro e w2 ⟨rfl, hb0⟩
  have hb : Below w1.heap.size w1 w2 := belDrew hb0
  refine hK.out _ _ ((Bx1.out.next hb).1) (fun hHeld => ?_)
  clear hK K hb0
  have Sz2 := Lib.hid (Below.size hb)
  have Bel2 := Lib.hid (belNext Bel1.out hb)
  have Bx2 := Lib.hid (Bx1.out.next hb)
  clear hb Bel1 Bx1
  try simp only [Act.put, List.setIfInBounds_toArray, List.set_cons_zero, List.set_cons_succ]
  refine wpAnyH_take (i := 5) (v := ?_) rfl (by kernel_rfl) (by kernel_rfl) (by kernel_rfl) (fun _ _ _ h => h) (Or.inl ⟨by rfl, ?_⟩) (by assumption) ?_
  rotate_left
  · (intro w hSw; (try dsimp only at hSw); go_simp; (try with_reducible rfl))
  try simp only [Act.put, List.setIfInBounds_toArray, List.set_cons_zero, List.set_cons_succ]
  refine wpAnyH_ready (rs := [6]) (by kernel_rfl) (by simp) ?_
  refine AllReadyH.cons rfl (fun K hK => ?_) AllReadyH.nil
  go_simp
  refine hK.out _ _ hHeld (fun hHeld => ?_)
  clear hK K
  try simp only [Act.put, List.setIfInBounds_toArray, List.set_cons_zero, List.set_cons_succ]
  clear hHeld
  refine wpAnyH_done (by kernel_rfl) ?_ _
  go_wp2_with fail
  have hwr : IntKind.i64.wrap ((blen z.natAbs : Int) + E) = (blen z.natAbs : Int) + E := IntWalk.i64_in _ (by have := Hbl.out; omega)
  go_ret
  refine ⟨?_, Bel2.out⟩
  show Ending.returned (.int .i64 (IntKind.i64.wrap ((blen z.natAbs : Int) + E))) = _
  rw [hwr]
end Go.Proofs.YtnecnbonnidijaaDoor
/- Exact numbers: sums, comparing, of the program. -/
namespace Go.Proofs.YtnecnbonnidijaaDoor
set_option maxRecDepth 100000
open Go.RowKit
set_option linter.unusedSimpArgs false
set_option linter.unusedVariables false

end Go.Proofs.YtnecnbonnidijaaDoor
/- Multiples of a divisor added to a part of a row, of the program. -/
namespace Go.Proofs.YtnecnbonnidijaaDoor
set_option maxRecDepth 100000
open Go.RowKit
set_option linter.unusedSimpArgs false
set_option linter.unusedVariables false

/-- the value of cells that may be below zero -/
def VI : List Int → Int
  | [] => 0
  | x :: r => x + (Bs : Int) * VI r
theorem VI_set : ∀ (xs : List Int) (k : Nat) (h : k < xs.length) (d : Int), VI (xs.set k d) = VI xs + (Bs : Int) ^ k * (d - xs[k])
  | [], k, h, _ => by simp at h
  | x :: r, 0, _, d => by simp only [List.set_cons_zero, VI, List.getElem_cons_zero, Int.pow_zero, Int.one_mul]; omega
  | x :: r, k + 1, h, d => by
    have ih := VI_set r k (by simpa using h) d
    simp only [List.set_cons_succ, VI, List.getElem_cons_succ]
    rw [ih, Int.mul_add, ← Int.mul_assoc, Int.pow_succ, Int.mul_comm (Bs : Int) ((Bs : Int) ^ k)]
    omega
theorem VI_li : ∀ (xs : List Nat), VI (li xs) = (V xs : Int)
  | [] => rfl
  | x :: r => by
    have ih := VI_li r
    show (x : Int) + (Bs : Int) * VI (li r) = ((x + Bs * V r : Nat) : Int)
    rw [ih, Int.natCast_add, Int.natCast_mul]
theorem add_step {Y Y' M d r e cc q b : Int} (hY : Y' = Y + M * (d - r)) (hd : d + b * e = cc + (r + q)) : Y' + (M * b) * e = (Y + M * cc) + M * q := by
  have h1 : M * (d - r) + M * (b * e) = M * (cc + q) := by rw [← Int.mul_add]; congr 1; omega
  rw [Int.mul_add] at h1
  rw [hY, Int.mul_assoc]
  omega
theorem fac_bound {f x : Int} (h0 : -16777215 ≤ f) (h1 : f ≤ 1) (hx0 : 0 ≤ x) (hx1 : x ≤ 16777215) : -281474943156225 ≤ f * x ∧ f * x ≤ 16777215 := by
  have h2 := Int.mul_le_mul_of_nonneg_right h0 hx0
  have h3 := Int.mul_le_mul_of_nonneg_right h1 hx0
  omega
theorem ow_row {w : World} {g k : Nat} {xs : List Int} (h : Ow w g (g + 1) (some ⟨g, 0, none⟩) (vi xs)) (hk : k < xs.length) : w.cell? ⟨g, k, none⟩ = some (.int .i64 xs[k]) ∧ w.frozen? ⟨g, k, none⟩ = false ∧ ∀ d : Int, Ow (w.setCell ⟨g, k, none⟩ (.int .i64 d)) g (g + 1) (some ⟨g, 0, none⟩) (vi (xs.set k d)) ∧ w.grownBy (w.setCell ⟨g, k, none⟩ (.int .i64 d)) (some g) := by
  have hk' : k < (vi xs).length := by rw [vi_len]; exact hk
  refine ⟨?_, ?_, fun d => ?_⟩
  · obtain ⟨g', hA, _, _, h1, h2, _⟩ := h.stored hk' (.int .i64 0)
    injection hA with hA; injection hA with hA
    subst hA
    rw [h1, vi_get hk]
  · obtain ⟨g', hA, _, _, h1, h2, _⟩ := h.stored hk' (.int .i64 0)
    injection hA with hA; injection hA with hA
    subst hA
    exact h2
  · obtain ⟨g', hA, _, _, h1, h2, h3, h4⟩ := h.stored hk' (.int .i64 d)
    injection hA with hA; injection hA with hA
    subst hA
    rw [vi_set] at h3
    exact ⟨h3, h4⟩
theorem gtrans {a w w' : World} {row : Option Nat} (h : a.grownBy w row) (k : w.grownBy w' row) : a.grownBy w' row :=
  ⟨k.os.trans h.os, k.tape.trans h.tape, k.output.trans h.output, Nat.le_trans h.size k.size, fun b hb hne => (k.block b (Nat.lt_of_lt_of_le hb h.size) hne).trans (h.block b hb hne)⟩
theorem Rd.by_grown {w w' : World} {B g : Nat} {A : Option Addr} {xs : List Value} (h : Rd w B A xs) (hB : B ≤ g) (hg : w.grownBy w' (some g)) (hs : B ≤ w.heap.size) : Rd w' B A xs :=
  h.carry fun p hp => hg.cell_far p (by omega) (fun e => by injection e with e; omega)

set_option maxHeartbeats 1000000 in
theorem addTimes_any (ds : List Nat) (xs : List Int) (f : Int) (A : Option Addr) (n cA c o g B : Nat) (w : World) (hr : Rd w B A (vs ds)) (hB : B ≤ g) (hBs : B ≤ w.heap.size) (hown : Ow w g (g + 1) (some ⟨g, 0, none⟩) (vi xs)) (hn : ds.length = n) (hl : Lim ds) (ho : o + n < xs.length) (hm : (xs.length : Int) ≤ 200000) (hf0 : -16777215 ≤ f) (hf1 : f ≤ 1) (hx : ∀ k (h : o + k < xs.length), k < n → 0 ≤ xs[o + k] ∧ xs[o + k] ≤ 16777215) (ht0 : -1099511627776 ≤ xs[o + n]) (ht1 : xs[o + n] ≤ 1099511627776) :
    Calls Tryd.prog 183 #[.slice (some ⟨g, o, none⟩) (n + 1) c, .slice A n cA, .int .i64 f] w fun e w' => e = .returned (.tuple #[]) ∧ w.grownBy w' (some g) ∧ ∃ ys : List Int, Ow w' g (g + 1) (some ⟨g, 0, none⟩) (vi ys) ∧ ys.length = xs.length ∧ VI ys = VI xs + (Bs : Int) ^ o * (f * V ds) ∧ (∀ p, p < o ∨ o + n < p → ys[p]? = xs[p]?) ∧ (∀ j, j < n → ∃ t : Nat, t < Bs ∧ ys[o + j]? = some (t : Int)) := by
  have hst := store_int Tryd.prog
  have Hr := Lib.hid hr
  have Hn := Lib.hid hn
  have Hl := Lib.hid hl
  have Ho := Lib.hid ho
  have Hx := Lib.hid hx
  have Hown := Lib.hid hown
  have HB := Lib.hid hB
  have HBs := Lib.hid hBs
  obtain ⟨u0, hu0⟩ : ∃ u0, xs[o + n]? = some u0 := ⟨_, List.getElem?_eq_getElem ho⟩
  have hu1 : -1099511627776 ≤ u0 ∧ u0 ≤ 1099511627776 := by rw [List.getElem?_eq_getElem ho] at hu0; have := Option.some.inj hu0; omega
  have Hu := Lib.hid (And.intro hu0 hu1)
  have hob : (o : Int) + n ≤ 199999 := by omega
  clear ht0 ht1 hx hr hn hl ho hown hB hBs hu0 hu1
  go_enter Tryd.func183, Tryd.ntmps183
  go_wp2_with fail
  go_loopw [6, 7, 8, 11] (fun cv _ _ iv wr => ∃ (k : Nat) (cc : Int) (ys : List Int), k ≤ n ∧ iv = .int .i64 k ∧ cv = .int .i64 cc ∧ (-16777216 ≤ cc ∧ cc ≤ 16777216) ∧ ys.length = xs.length ∧ VI ys + (Bs : Int) ^ (o + k) * cc = VI xs + (Bs : Int) ^ o * (f * V (ds.take k)) ∧ (∀ p, p < o ∨ o + k ≤ p → ys[p]? = xs[p]?) ∧ (∀ j, j < k → ∃ t : Nat, t < Bs ∧ ys[o + j]? = some (t : Int)) ∧ Ow wr g (g + 1) (some ⟨g, 0, none⟩) (vi ys) ∧ w.grownBy wr (some g)) (fun _ _ _ iv _ => n - (intOf iv).toNat)
  case atStart => exact ⟨0, 0, xs, Nat.zero_le _, rfl, rfl, by omega, rfl, by simp [V], fun _ _ => rfl, fun j h => absurd h (by omega), Hown.out, World.grownBy.refl _ _⟩
  case round =>
    clear Hown
    obtain ⟨k, cc, ys, hk, rfl, rfl, hcc, hyl, hv, hfar, hnear, hown, hg⟩ := hrel
    obtain ⟨hcc0, hcc1⟩ := hcc
    have Hyl := Lib.hid hyl
    have Hv := Lib.hid hv
    have Hfar := Lib.hid hfar
    have Hnear := Lib.hid hnear
    have Hown := Lib.hid hown
    have Hg := Lib.hid hg
    clear hyl hv hfar hnear hown hg
    by_cases hlt : k < n
    · have hkx : k < ds.length := by rw [Hn.out]; exact hlt
      have hra := Hr.out.by_grown HB.out Hg.out HBs.out
      obtain ⟨q, hq, _⟩ := hra.some_ (by rw [vs_len]; omega)
      subst hq
      have hcx := hra.cell (k := k) (by rw [vs_len]; exact hkx)
      rw [vs_get hkx] at hcx
      have Hva := Lib.hid (V_take_succ hkx)
      have Hxb := Lib.hid (Hl.out.getElem hkx)
      have hx0 : (0 : Int) ≤ (ds[k] : Nat) := by omega
      have hx1 : ((ds[k] : Nat) : Int) ≤ 16777215 := by have := Hxb.out; rw [Bs_eq] at this; omega
      have hky : o + k < ys.length := by rw [Hyl.out]; have := Ho.out; omega
      have hkxs : o + k < xs.length := by have := Ho.out; omega
      have hyx : ys[o + k] = xs[o + k] := by
        have h := Hfar.out (o + k) (.inr (Nat.le_refl _))
        rw [List.getElem?_eq_getElem hky, List.getElem?_eq_getElem hkxs] at h
        exact Option.some.inj h
      have hr01 := Hx.out k hkxs hlt
      rw [← hyx] at hr01
      obtain ⟨hr0, hr1⟩ := hr01
      obtain ⟨hcz, hfz, hset⟩ := ow_row Hown.out hky
      have HV := Lib.hid (fun d => VI_set ys (o + k) hky d)
      clear hra hyx
      generalize ds[k] = x at *
      generalize ys[o + k] = r at *
      obtain ⟨hq0, hq1⟩ := fac_bound hf0 hf1 hx0 hx1
      obtain ⟨q1, hq⟩ : ∃ q1, q1 = f * (x : Int) := ⟨_, rfl⟩
      rw [← hq] at hq0 hq1
      have Hq := Lib.hid hq
      have hq' := hq.symm
      obtain ⟨t, ht⟩ : ∃ t, t = cc + (r + q1) := ⟨_, rfl⟩
      have hand : bits .and .i64 t 16777215 = t % 16777216 := and24_i64 t
      obtain ⟨d, hd⟩ : ∃ d, d = t % 16777216 := ⟨_, rfl⟩
      obtain ⟨e, he⟩ : ∃ e, e = t / 16777216 := ⟨_, rfl⟩
      have He : Hid (-16777216 ≤ e ∧ e ≤ 16777216 ∧ 0 ≤ d ∧ d < 16777216 ∧ d + 16777216 * e = cc + (r + q1)) := Lib.hid (by omega)
      have htt := ht.symm
      rw [← hd] at hand
      have hshr := he.symm
      have Hset := Lib.hid (hset d)
      have hkn : (k : Int) < n := by omega
      clear hq ht hd he hset
      go_wp2_with fail
      go_roundw
      case rel =>
        refine ⟨k + 1, e, ys.set (o + k) d, by omega, by go_num, rfl, ⟨He.out.1, He.out.2.1⟩, by rw [List.length_set]; exact Hyl.out, ?_, ?_, ?_, Hset.out.1, gtrans Hg.out Hset.out.2⟩
        · have h1 := add_step (HV.out d) (b := (Bs : Int)) (by rw [Bs_eq]; exact He.out.2.2.2.2)
          rw [← Int.pow_succ] at h1
          show VI _ + (Bs : Int) ^ (o + k + 1) * e = _
          rw [h1, Hv.out, Hva.out, Int.pow_add, Int.natCast_add, Int.natCast_mul, Int.natCast_pow, Int.mul_add f, Int.mul_add, Int.mul_left_comm f, ← Hq.out, ← Int.mul_assoc ((Bs : Int) ^ o) ((Bs : Int) ^ k), Int.add_assoc]
        · intro p hp
          rw [List.getElem?_set_ne (by omega)]
          exact Hfar.out p (by omega)
        · intro j hj
          by_cases hjk : j = k
          · subst hjk
            have h1 := He.out
            exact ⟨d.toNat, by rw [Bs_eq]; omega, by rw [List.getElem?_set_self hky]; congr 1; omega⟩
          · rw [List.getElem?_set_ne (by omega)]
            exact Hnear.out j (by omega)
      case measure => simp [intOf]; omega
    · have hkn : k = n := by omega
      subst hkn
      have hky : o + k < ys.length := by rw [Hyl.out]; exact Ho.out
      have hyx : ys[o + k] = u0 := by
        have h := Hfar.out (o + k) (.inr (Nat.le_refl _))
        rw [List.getElem?_eq_getElem hky, Hu.out.1] at h
        exact Option.some.inj h
      obtain ⟨hcz, hfz, hset⟩ := ow_row Hown.out hky
      have HV := Lib.hid (VI_set ys (o + k) hky (u0 + cc))
      rw [hyx] at hcz HV
      obtain ⟨hu0, hu1⟩ := Hu.out.2
      have Hset := Lib.hid (hset (u0 + cc))
      clear hset hyx
      go_wp2_with fail
      go_end0
      refine ⟨rfl, gtrans Hg.out Hset.out.2, ys.set (o + k) (u0 + cc), Hset.out.1, by rw [List.length_set]; exact Hyl.out, ?_, ?_, ?_⟩
      · have hv := Hv.out
        rw [take_all (by have := Hn.out; omega)] at hv
        rw [← hv, HV.out, show u0 + cc - u0 = cc by omega]
      · intro p hp
        rw [List.getElem?_set_ne (by omega)]
        exact Hfar.out p (by omega)
      · intro j hj
        rw [List.getElem?_set_ne (by omega)]
        exact Hnear.out j hj
end Go.Proofs.YtnecnbonnidijaaDoor
/- Taking a divisor off a rest: the mathematics. -/
namespace Go.Proofs.YtnecnbonnidijaaDoor
set_option maxRecDepth 100000
open Go.RowKit
set_option linter.unusedSimpArgs false
set_option linter.unusedVariables false

theorem VI_append : ∀ (a b : List Int), VI (a ++ b) = VI a + (Bs : Int) ^ a.length * VI b
  | [], b => by simp [VI]
  | x :: r, b => by
    have ih := VI_append r b
    rw [List.cons_append]
    simp only [VI, List.length_cons]
    rw [ih, Int.mul_add, ← Int.mul_assoc, Int.pow_succ, Int.mul_comm (Bs : Int) ((Bs : Int) ^ r.length)]
    omega
theorem li_take (xs : List Nat) (k : Nat) : li (xs.take k) = (li xs).take k := by unfold li; rw [List.map_take]
theorem li_drop (xs : List Nat) (k : Nat) : li (xs.drop k) = (li xs).drop k := by unfold li; rw [List.map_drop]
theorem pow_posI (n : Nat) : 0 < (Bs : Int) ^ n := Int.pow_pos (by rw [Bs_eq]; decide)

/-- a rest while a divisor is taken off its cells from o to o + n -/
structure Tk (ws ds : List Nat) (o n : Nat) (g : Int) (ys : List Int) : Prop where
  len : ys.length = ws.length
  far : ∀ p, p < o ∨ o + n < p → ys[p]? = (li ws)[p]?
  near : ∀ j, j < n → ∃ t : Nat, t < Bs ∧ ys[o + j]? = some (t : Int)
  val : VI (ys.drop o) = (V (ws.drop o) : Int) - g * V ds
  low : 0 ≤ g
  high : g ≤ 16777215
  over : (V (ws.drop o) : Int) < (g + 1) * V ds

section
variable {ws ds : List Nat} {o n : Nat} {g : Int} {ys : List Int}
theorem tk_zero (hl : Lim ds) (hd : ds.length = n) (ho : o + n < ws.length) (hw : V (ws.drop o) < Bs * V ds) : V (ws.drop (o + n + 1)) = 0 := by
  have h1 := V_take_drop (ws.drop o) (n + 1) (by rw [List.length_drop]; omega)
  rw [List.drop_drop] at h1
  have h2 := V_lt hl
  rw [hd] at h2
  have h3 : Bs * V ds ≤ Bs * Bs ^ n := Nat.mul_le_mul_left _ (Nat.le_of_lt h2)
  rcases Nat.eq_zero_or_pos (V (ws.drop (o + n + 1))) with h | h
  · exact h
  · exfalso
    have h4 : Bs ^ (n + 1) * 1 ≤ Bs ^ (n + 1) * V (ws.drop (o + n + 1)) := Nat.mul_le_mul_left _ h
    rw [show o + (n + 1) = o + n + 1 by omega] at h1
    rw [Nat.pow_succ, Nat.mul_comm (Bs ^ n) Bs] at h4 h1
    omega
theorem Tk.open_ (h : Tk ws ds o n g ys) (hl : Lim ds) (hd : ds.length = n) (ho : o + n < ws.length) (hw : V (ws.drop o) < Bs * V ds) :
    ∃ (lows : List Nat) (last : Int), Lim lows ∧ lows.length = n ∧ ys[o + n]? = some last ∧ ys = li (ws.take o) ++ (li lows ++ last :: li (ws.drop (o + n + 1))) ∧ (V lows : Int) + (Bs : Int) ^ n * last = (V (ws.drop o) : Int) - g * V ds ∧ -16777217 ≤ last ∧ last ≤ 16777216 := by
  have hon : o + n < ys.length := by rw [h.len]; exact ho
  have e1 : ys.take o = li (ws.take o) := by
    rw [li_take]
    apply List.ext_getElem?
    intro p
    rw [List.getElem?_take, List.getElem?_take]
    split
    · exact h.far p (by omega)
    · rfl
  have e2 : ys.drop (o + n + 1) = li (ws.drop (o + n + 1)) := by
    rw [li_drop]
    apply List.ext_getElem?
    intro p
    rw [List.getElem?_drop, List.getElem?_drop]
    exact h.far _ (by omega)
  obtain ⟨lows, hlows⟩ : ∃ lows, lows = ((ys.drop o).take n).map Int.toNat := ⟨_, rfl⟩
  have hlen : lows.length = n := by rw [hlows, List.length_map, List.length_take, List.length_drop]; omega
  have hcell : ∀ j (hj : j < lows.length), lows[j] < Bs ∧ ys[o + j]? = some (lows[j] : Int) := by
    intro j hj
    obtain ⟨t, ht, hy⟩ := h.near j (by omega)
    have hjy : o + j < ys.length := by omega
    have h1 : ys[o + j] = (t : Int) := by rw [List.getElem?_eq_getElem hjy] at hy; exact Option.some.inj hy
    have h2 : lows[j] = t := by subst hlows; simp [h1]
    rw [h2]
    exact ⟨ht, hy⟩
  have e3 : (ys.drop o).take n = li lows := by
    apply List.ext_getElem
    · rw [li_len, hlen, List.length_take, List.length_drop]; omega
    · intro j h1 h2
      rw [li_len] at h2
      have h3 := (hcell j h2).2
      rw [li_get h2]
      rw [List.getElem?_eq_getElem (by omega)] at h3
      have h4 := Option.some.inj h3
      rw [← h4]
      simp
  have hlim : Lim lows := fun x hx => by
    obtain ⟨j, hj, rfl⟩ := List.getElem_of_mem hx
    exact (hcell j hj).1
  have e4 : ys.drop o = li lows ++ ys[o + n] :: li (ws.drop (o + n + 1)) := by
    rw [← e2, ← List.drop_eq_getElem_cons hon, ← e3, ← List.drop_drop, List.take_append_drop]
  have hz := tk_zero hl hd ho hw
  have hv := h.val
  rw [e4, VI_append, VI_li, li_len, hlen] at hv
  simp only [VI] at hv
  rw [VI_li, hz] at hv
  have hv2 : (V lows : Int) + (Bs : Int) ^ n * ys[o + n] = (V (ws.drop o) : Int) - g * V ds := by rw [← hv]; simp
  have h5 := V_lt hl
  have h6 := V_lt hlim
  rw [hd] at h5
  rw [hlen] at h6
  have hP := pow_posI n
  have h7 : (V ds : Int) < (Bs : Int) ^ n := by have : ((V ds : Nat) : Int) < ((Bs ^ n : Nat) : Int) := by omega
                                                rwa [Int.natCast_pow] at this
  have h8 : (V lows : Int) < (Bs : Int) ^ n := by have : ((V lows : Nat) : Int) < ((Bs ^ n : Nat) : Int) := by omega
                                                  rwa [Int.natCast_pow] at this
  have hw' : (V (ws.drop o) : Int) < 16777216 * V ds := by rw [Bs_eq] at hw; omega
  have hg1 := Int.mul_le_mul_of_nonneg_right h.high (show (0 : Int) ≤ V ds by omega)
  have hg0 := Int.mul_nonneg h.low (show (0 : Int) ≤ V ds by omega)
  refine ⟨lows, ys[o + n], hlim, hlen, List.getElem?_eq_getElem hon, by rw [← e1, ← e4, List.take_append_drop], hv2, ?_, ?_⟩
  · by_cases h9 : ys[o + n] < -16777217
    · exfalso
      have h10 := Int.mul_le_mul_of_nonneg_left (show ys[o + n] ≤ -16777218 by omega) (Int.le_of_lt hP)
      omega
    · omega
  · by_cases h9 : 16777216 < ys[o + n]
    · exfalso
      have h10 := Int.mul_le_mul_of_nonneg_left (show 16777217 ≤ ys[o + n] by omega) (Int.le_of_lt hP)
      omega
    · omega
theorem tk_sign {P l v X : Int} (hP : 0 < P) (h0 : 0 ≤ v) (h1 : v < P) (e : v + P * l = X) : (l < 0 → X < 0) ∧ (0 ≤ l → 0 ≤ X) ∧ (0 < l → P ≤ X) := by
  refine ⟨fun h => ?_, fun h => ?_, fun h => ?_⟩
  · have := Int.mul_le_mul_of_nonneg_left (show l ≤ -1 by omega) (Int.le_of_lt hP); omega
  · have := Int.mul_nonneg (Int.le_of_lt hP) h; omega
  · have := Int.mul_le_mul_of_nonneg_left (show 1 ≤ l by omega) (Int.le_of_lt hP); omega
/-- the guess is not too small -/
theorem tk_guess {m : Nat} (hl : Lim ds) (hws : Lim ws) (hd : ds.length = m + 1) (ho : o + (m + 1) < ws.length) (hw : V (ws.drop o) < Bs * V ds) (h0 : 0 < ds[m]) :
    V (ws.drop o) < ((ws[o + (m + 1)] * Bs + ws[o + m]) / ds[m] + 1) * V ds := by
  have hz := tk_zero hl hd ho hw
  have h1 := V_take_drop (ws.drop o) m (by rw [List.length_drop]; omega)
  rw [List.drop_drop, V_drop (show o + m < ws.length by omega), V_drop (show o + m + 1 < ws.length by omega)] at h1
  have hz' : V (ws.drop (o + m + 1 + 1)) = 0 := hz
  rw [hz'] at h1
  have h2 := V_lt ((hws.drop o).take m)
  rw [List.length_take, List.length_drop, Nat.min_eq_left (by omega)] at h2
  have h3 := V_take_drop ds m (by omega)
  rw [V_drop (show m < ds.length by omega), List.drop_of_length_le (show ds.length ≤ m + 1 by omega), V_nil] at h3
  have h4 := Nat.lt_mul_div_succ (ws[o + (m + 1)] * Bs + ws[o + m]) h0
  obtain ⟨q, hq⟩ : ∃ q, q = (ws[o + (m + 1)] * Bs + ws[o + m]) / ds[m] := ⟨_, rfl⟩
  rw [← hq] at h4 ⊢
  have h5 : Bs ^ m * (ws[o + (m + 1)] * Bs + ws[o + m] + 1) ≤ Bs ^ m * (ds[m] * (q + 1)) := Nat.mul_le_mul_left _ h4
  have h6 : Bs ^ m * ds[m] * (q + 1) ≤ V ds * (q + 1) := Nat.mul_le_mul_right _ (by rw [h3]; simp)
  rw [Nat.mul_comm (q + 1)]
  rw [Nat.mul_assoc] at h6
  have h7 : ws[o + m] + Bs * (ws[o + m + 1] + Bs * 0) = ws[o + (m + 1)] * Bs + ws[o + m] := by
    rw [Nat.mul_zero, Nat.add_zero, Nat.mul_comm]
    exact Nat.add_comm _ _
  rw [h7] at h1
  rw [Nat.mul_add, Nat.mul_one] at h5
  omega
/-- what was added -/
theorem tk_added {f : Int} {zs : List Int} (hlen : ys.length = ws.length) (hfar : ∀ p, p < o ∨ o + n < p → ys[p]? = (li ws)[p]?) (hval : VI (ys.drop o) = (V (ws.drop o) : Int) - g * V ds) (hl : zs.length = ys.length) (hv : VI zs = VI ys + (Bs : Int) ^ o * (f * V ds)) (hf : ∀ p, p < o ∨ o + n < p → zs[p]? = ys[p]?) (hn : ∀ j, j < n → ∃ t : Nat, t < Bs ∧ zs[o + j]? = some (t : Int)) (ho : o ≤ ws.length) (h0 : 0 ≤ g - f) (h1 : g - f ≤ 16777215) (h2 : (V (ws.drop o) : Int) < (g - f + 1) * V ds) : Tk ws ds o n (g - f) zs := by
  refine ⟨hl.trans hlen, fun p hp => (hf p hp).trans (hfar p hp), hn, ?_, h0, h1, h2⟩
  have e1 : zs.take o = ys.take o := by
    apply List.ext_getElem?
    intro p
    rw [List.getElem?_take, List.getElem?_take]
    split
    · exact hf p (by omega)
    · rfl
  have hz := VI_append (zs.take o) (zs.drop o)
  have hy := VI_append (ys.take o) (ys.drop o)
  rw [List.take_append_drop, List.length_take, hl, hlen, Nat.min_eq_left ho, e1] at hz
  rw [List.take_append_drop, List.length_take, hlen, Nat.min_eq_left ho] at hy
  have h3 : (Bs : Int) ^ o * VI (zs.drop o) = (Bs : Int) ^ o * (VI (ys.drop o) + f * V ds) := by rw [Int.mul_add]; omega
  have h4 := Int.eq_of_mul_eq_mul_left (Int.ne_of_gt (pow_posI o)) h3
  rw [h4, hval, Int.sub_mul]
  omega
theorem Tk.added {f : Int} {zs : List Int} (h : Tk ws ds o n g ys) (hl : zs.length = ys.length) (hv : VI zs = VI ys + (Bs : Int) ^ o * (f * V ds)) (hf : ∀ p, p < o ∨ o + n < p → zs[p]? = ys[p]?) (hn : ∀ j, j < n → ∃ t : Nat, t < Bs ∧ zs[o + j]? = some (t : Int)) (ho : o ≤ ws.length) (h0 : 0 ≤ g - f) (h1 : g - f ≤ 16777215) (h2 : (V (ws.drop o) : Int) < (g - f + 1) * V ds) : Tk ws ds o n (g - f) zs :=
  tk_added h.len h.far h.val hl hv hf hn ho h0 h1 h2
theorem tk_first {G : Int} {zs : List Int} (hlw : Lim ws) (hl : zs.length = (li ws).length) (hv : VI zs = VI (li ws) + (Bs : Int) ^ o * (-G * V ds)) (hf : ∀ p, p < o ∨ o + n < p → zs[p]? = (li ws)[p]?) (hn : ∀ j, j < n → ∃ t : Nat, t < Bs ∧ zs[o + j]? = some (t : Int)) (ho : o ≤ ws.length) (h0 : 0 ≤ G) (h1 : G ≤ 16777215) (h2 : (V (ws.drop o) : Int) < (G + 1) * V ds) : Tk ws ds o n G zs := by
  have h := tk_added (g := 0) (f := -G) (li_len ws) (fun _ _ => rfl) (by rw [← li_drop, VI_li]; simp) hl hv hf hn ho (by omega) (by omega) (by rw [show (0 : Int) - -G + 1 = G + 1 by omega]; exact h2)
  rwa [show (0 : Int) - -G = G by omega] at h
theorem tk_done (h : Tk ws ds o n g ys) (hl : Lim ds) (hlw : Lim ws) (hd : ds.length = n) (ho : o + n < ws.length) (hw : V (ws.drop o) < Bs * V ds) {lows : List Nat} {last : Int} (h1 : Lim lows) (h2 : lows.length = n) (h4 : ys = li (ws.take o) ++ (li lows ++ last :: li (ws.drop (o + n + 1)))) (h5 : (V lows : Int) + (Bs : Int) ^ n * last = (V (ws.drop o) : Int) - g * V ds) (h0 : 0 ≤ last) :
    ∃ zs : List Nat, ys = li zs ∧ zs.length = ws.length ∧ Lim zs ∧ zs.take o = ws.take o ∧ V (zs.drop o) = V (ws.drop o) % V ds ∧ g = ((V (ws.drop o) / V ds : Nat) : Int) := by
  have hP := pow_posI n
  have h6 := V_lt h1
  have h7 := V_lt hl
  rw [h2] at h6
  rw [hd] at h7
  have h8 : ((V lows : Nat) : Int) < (Bs : Int) ^ n := by rw [← Int.natCast_pow]; omega
  have h9 : ((V ds : Nat) : Int) < (Bs : Int) ^ n := by rw [← Int.natCast_pow]; omega
  have hs := tk_sign hP (by omega) h8 h5
  have hov := h.over
  rw [Int.add_mul, Int.one_mul] at hov
  have hz : last = 0 := by
    by_cases hl0 : 0 < last
    · have := hs.2.2 hl0; omega
    · omega
  subst hz
  rw [Int.mul_zero, Int.add_zero] at h5
  obtain ⟨G, rfl⟩ : ∃ G : Nat, g = (G : Int) := ⟨g.toNat, by have := h.low; omega⟩
  have hq : V (ws.drop o) = V ds * G + V lows := by
    have e : ((V ds * G + V lows : Nat) : Int) = (G : Int) * V ds + V lows := by rw [Int.natCast_add, Int.natCast_mul, Int.mul_comm]
    omega
  have hlt : V lows < V ds := by omega
  have htl : (ws.take o).length = o := by rw [List.length_take]; omega
  refine ⟨ws.take o ++ (lows ++ 0 :: ws.drop (o + n + 1)), ?_, ?_, ?_, ?_, ?_, ?_⟩
  · rw [h4]; unfold li; simp
  · rw [List.length_append, List.length_append, List.length_cons, htl, h2, List.length_drop]; omega
  · exact (hlw.take o).append (h1.append (fun x hx => by
      rcases List.mem_cons.1 hx with rfl | hx
      · rw [Bs_eq]; omega
      · exact hlw.drop _ x hx))
  · rw [List.take_append_of_le_length (by omega), List.take_of_length_le (by omega)]
  · rw [List.drop_append_of_le_length (by omega), List.drop_of_length_le (by omega), List.nil_append, V_append]
    have hz := tk_zero hl hd ho hw
    simp only [V, hz, Nat.mul_zero, Nat.add_zero]
    rw [hq, Nat.mul_add_mod, Nat.mod_eq_of_lt hlt]
  · rw [hq, Nat.mul_add_div (by omega), Nat.div_eq_of_lt hlt, Nat.add_zero]
end
end Go.Proofs.YtnecnbonnidijaaDoor
/- Taking a divisor off a rest, of the program. -/
namespace Go.Proofs.YtnecnbonnidijaaDoor
set_option maxRecDepth 100000
open Go.RowKit
set_option linter.unusedSimpArgs false
set_option linter.unusedVariables false

set_option maxHeartbeats 1000000 in
theorem takeOff_any (ds ws : List Nat) (A : Option Addr) (m n cA c o g B : Nat) (w : World) (hr : Rd w B A (vs ds)) (hB : B ≤ g) (hBs : B ≤ w.heap.size) (hown : Ow w g (g + 1) (some ⟨g, 0, none⟩) (vs ws)) (hn : ds.length = n) (hnm : n = m + 1) (hl : Lim ds) (hlw : Lim ws) (ho : o + n < ws.length) (hm : (ws.length : Int) ≤ 200000) (hd : ∀ h : m < ds.length, 0 < ds[m]) (hw : V (ws.drop o) < Bs * V ds) :
    Calls Tryd.prog 151 #[.slice (some ⟨g, o, none⟩) (n + 1) c, .slice A n cA] w fun e w' => e = .returned (.int .i64 ((V (ws.drop o) / V ds : Nat) : Int)) ∧ w.grownBy w' (some g) ∧ ∃ zs : List Nat, Ow w' g (g + 1) (some ⟨g, 0, none⟩) (vs zs) ∧ zs.length = ws.length ∧ Lim zs ∧ zs.take o = ws.take o ∧ V (zs.drop o) = V (ws.drop o) % V ds := by
  have hst := store_int Tryd.prog
  have hdm : m < ds.length := by omega
  have hd0 := hd hdm
  have hom : o + m < ws.length := by omega
  have hon : o + (m + 1) < ws.length := by omega
  have Hguess := Lib.hid (tk_guess (m := m) hl hlw (by omega) hon hw hd0)
  have HW : Hid (V (ws.drop o) < Bs * V ds) := Lib.hid hw
  obtain ⟨q, hq, _⟩ := hr.some_ (by rw [vs_len]; omega)
  subst hq
  have hcd := hr.cell (k := m) (by rw [vs_len]; exact hdm)
  rw [vs_get hdm] at hcd
  have hown' : Ow w g (g + 1) (some ⟨g, 0, none⟩) (vi (li ws)) := hown
  have hc1 := (ow_row hown' (k := o + (m + 1)) (by rw [li_len]; exact hon)).1
  have hc0 := (ow_row hown' (k := o + m) (by rw [li_len]; exact hom)).1
  rw [li_get hon] at hc1
  rw [li_get hom] at hc0
  have hx1 := hlw.getElem hon
  have hx0 := hlw.getElem hom
  have hdb := hl.getElem hdm
  rw [Bs_eq] at hx1 hx0 hdb
  have Hr := Lib.hid hr
  have Hn := Lib.hid hn
  have Hl := Lib.hid hl
  have Hlw := Lib.hid hlw
  have Ho := Lib.hid ho
  have Hown := Lib.hid hown'
  have HB := Lib.hid hB
  have HBs := Lib.hid hBs
  have hob : (o : Int) + n ≤ 199999 := by omega
  generalize ws[o + (m + 1)] = x1 at *
  generalize ws[o + m] = x0 at *
  generalize ds[m] = d at *
  have hor := or_limb x1 x0 (by omega) (by rw [Bs_eq]; omega)
  obtain ⟨t, ht⟩ : ∃ t, t = x1 * Bs + x0 := ⟨_, rfl⟩
  rw [← ht] at hor Hguess
  have ht0 : (0 : Int) ≤ t := by omega
  have ht1 : (t : Int) ≤ 281474976710655 := by rw [Bs_eq] at ht; omega
  have hx1a : (0 : Int) ≤ x1 := by omega
  have hx1b : (x1 : Int) ≤ 16777215 := by omega
  have hx0a : (0 : Int) ≤ x0 := by omega
  have hx0b : (x0 : Int) ≤ 16777215 := by omega
  have hda : (1 : Int) ≤ d := by omega
  have hdb' : (d : Int) ≤ 16777215 := by omega
  have hnm1 : (n : Int) - 1 = m := by omega
  have hmn : (m : Int) < (n : Int) + 1 := by omega
  have hmn2 : (m : Int) < (n : Int) := by omega
  clear hr hn hl hlw ho hown hown' hB hBs hd hd0 hw hx1 hx0 hdb ht hdm hom hon
  subst hnm
  go_enter Tryd.func151, Tryd.ntmps151
  go_wp2_with fail
  have hi1 : (m : Int) + 1 - 1 = m := by omega
  have hi2 : ((m : Int) + 1).toNat = m + 1 := by omega
  have hi3 : (m : Int) + 1 < ((m + 1 + 1 : Nat) : Int) := by omega
  have hi4 : (m : Int) < ((m + 1 + 1 : Nat) : Int) := by omega
  have hi5 : (m : Int) < ((m + 1 : Nat) : Int) := by omega
  have hi6 : (0 : Int) ≤ (m : Int) + 1 := by omega
  have hd0 : ((d : Int) == 0) = false := beq_false_of_ne (by omega)
  obtain ⟨q0, hq0⟩ : ∃ q0, q0 = t / d := ⟨_, rfl⟩
  have hquo : (t : Int).tdiv (d : Int) = (q0 : Int) := by rw [hq0]; exact (Int.ofNat_tdiv t d).symm
  rw [← hq0] at Hguess
  have hqt : (q0 : Int) ≤ 281474976710655 := by have := Nat.div_le_self t d; omega
  clear hq0
  go_quiet (fail)
  go_wp2_with fail
  obtain ⟨G0, hG0⟩ : ∃ G0, G0 = min (q0 : Int) 16777215 := ⟨_, rfl⟩
  rw [← hG0]
  have hG1 : 0 ≤ G0 := by omega
  have hG2 : G0 ≤ 16777215 := by omega
  have Hover : Hid ((V (ws.drop o) : Int) < (G0 + 1) * V ds) := Lib.hid (by
    have h1 := Hguess.out
    have h2 := HW.out
    rw [Bs_eq] at h2
    have e1 : (((q0 + 1) * V ds : Nat) : Int) = ((q0 : Int) + 1) * V ds := by rw [Int.natCast_mul]; rfl
    by_cases hc : (q0 : Int) ≤ 16777215
    · have : G0 = q0 := by omega
      rw [this, ← e1]; omega
    · have : G0 = 16777215 := by omega
      rw [this]; omega)
  clear hG0 Hguess hquo hor hc1 hc0 hcd hqt
  have Hdr : Hid (w.grownBy (w.drewN nq) (some g)) := Lib.hid ⟨rfl, rfl, rfl, Nat.le_refl _, fun _ _ _ => rfl⟩
  have Hlu := Lib.hid (li_len ws)
  refine (addTimes_any ds (li ws) (-G0) _ (m + 1) _ _ o g B _ (Hr.out.drewN nq) HB.out HBs.out (Hown.out.drewN nq) Hn.out Hl.out (by rw [li_len]; exact Ho.out) (by rw [li_len]; omega) (by omega) (by omega) (fun k h hk => ?_) ?_ ?_).mono ?_
  · rw [li_len] at h
    rw [li_get h]
    have := Hlw.out.getElem h
    rw [Bs_eq] at this; omega
  · rw [li_get Ho.out]; omega
  · rw [li_get Ho.out]
    have := Hlw.out.getElem Ho.out
    rw [Bs_eq] at this; omega
  rintro e w2 ⟨rfl, hg2, zs, hown2, hl2, hv2, hf2, hn2⟩
  have Hz := Lib.hid (tk_first Hlw.out hl2 hv2 hf2 hn2 (by have := Ho.out; omega) hG1 hG2 Hover.out)
  have Hown2 := Lib.hid hown2
  have Hg2 := Lib.hid (gtrans Hdr.out hg2)
  clear hg2 hown2 hl2 hv2 hf2 hn2 Hover Hdr
  go_wp2_with fail
  go_loopw [6] (fun gv wr => ∃ (G : Int) (ys : List Int), gv = .int .i64 G ∧ Tk ws ds o (m + 1) G ys ∧ Ow wr g (g + 1) (some ⟨g, 0, none⟩) (vi ys) ∧ w.grownBy wr (some g)) (fun gv _ => (intOf gv).toNat)
  case atStart => exact ⟨G0, zs, rfl, Hz.out, Hown2.out, Hg2.out⟩
  case round =>
    clear Hz Hown2 Hg2 hG1 hG2
    obtain ⟨G, ys, rfl, hT, hown, hg⟩ := hrel
    obtain ⟨lows, last, h1, h2, h3, h4, h5, h6, h7⟩ := hT.open_ Hl.out Hn.out Ho.out HW.out
    have hon : o + (m + 1) < ys.length := by rw [hT.len]; exact Ho.out
    have hcl := (ow_row hown hon).1
    have hyl : ys[o + (m + 1)] = last := by rw [List.getElem?_eq_getElem hon] at h3; exact Option.some.inj h3
    rw [hyl] at hcl
    have HT := Lib.hid hT
    have Hown := Lib.hid hown
    have Hg := Lib.hid hg
    have Hop := Lib.hid (And.intro h1 (And.intro h2 (And.intro h4 h5)))
    have Hyl := Lib.hid hyl
    have hG0 := hT.low
    have hG1 := hT.high
    have Hsg := Lib.hid (tk_sign (pow_posI (m + 1)) (show (0 : Int) ≤ V lows by omega) (by have := V_lt h1; rw [h2] at this; rw [← Int.natCast_pow]; omega) h5)
    clear hT hown hg h1 h2 h3 h4 h5 hyl
    by_cases hneg : last < 0
    · have Hpos : Hid (1 ≤ G ∧ (V (ws.drop o) : Int) < (G - 1 + 1) * V ds) := Lib.hid (by
        have hX := Hsg.out.1 hneg
        refine ⟨?_, by rw [show G - 1 + 1 = G by omega]; omega⟩
        by_cases hz : G = 0
        · subst hz; rw [Int.zero_mul] at hX; omega
        · omega)
      have hG2 : 1 ≤ G := Hpos.out.1
      go_wp2_with fail
      refine (addTimes_any ds ys 1 _ (m + 1) _ _ o g B _ (Hr.out.by_grown HB.out Hg.out HBs.out) HB.out (Nat.le_trans HBs.out Hg.out.size) Hown.out Hn.out Hl.out hon (by rw [HT.out.len]; omega) (by omega) (by omega) (fun k h hk => ?_) (by rw [Hyl.out]; omega) (by rw [Hyl.out]; omega)).mono ?_
      · obtain ⟨t', ht', hy'⟩ := HT.out.near k hk
        rw [List.getElem?_eq_getElem h] at hy'
        rw [Option.some.inj hy']
        rw [Bs_eq] at ht'; omega
      rintro e w2 ⟨rfl, hg2, zs, hown2, hl2, hv2, hf2, hn2⟩
      have Hz := Lib.hid (HT.out.added hl2 hv2 hf2 hn2 (by have := Ho.out; omega) (by omega) (by omega) Hpos.out.2)
      have Hown2 := Lib.hid hown2
      have Hg2 := Lib.hid (gtrans Hg.out hg2)
      clear hg2 hown2 hl2 hv2 hf2 hn2
      go_wp2_with fail
      go_roundw
      case rel => exact ⟨G - 1, zs, rfl, Hz.out, Hown2.out, Hg2.out⟩
      case measure => simp [intOf]; omega
    · have Hd := Lib.hid (tk_done HT.out Hl.out Hlw.out Hn.out Ho.out HW.out Hop.out.1 Hop.out.2.1 Hop.out.2.2.1 Hop.out.2.2.2 (by omega))
      go_wp2_with fail
      go_ret
      obtain ⟨zs, e1, e2, e3, e4, e5, e6⟩ := Hd.out
      exact ⟨by show Ending.returned (Value.int .i64 G) = _; rw [e6]; rfl, Hg.out, zs, by have h := Hown.out; rw [e1] at h; exact h, e2, e3, e4, e5⟩
end Go.Proofs.YtnecnbonnidijaaDoor
/- Quotients of limbs by one limb, of the program. -/
namespace Go.Proofs.YtnecnbonnidijaaDoor
set_option maxRecDepth 100000
open Go.RowKit
set_option linter.unusedSimpArgs false
set_option linter.unusedVariables false

theorem cmp_ge {a b : Nat} (h : b ≤ a) : ¬ cmpI a b < 0 := by unfold cmpI; (repeat' split) <;> omega
theorem cmpD_lt {a b : Nat} (h : a < b) : cmpI a b < 0 := by unfold cmpI; (repeat' split) <;> omega
theorem limbs_one {b : Nat} (h : (limbs b).length = 1) : ∃ hk : 0 < (limbs b).length, (limbs b)[0] = b ∧ 0 < b ∧ b < Bs := by
  have h1 := V_limbs b
  have h2 := Lim_limbs b
  have h3 : b ≠ 0 := fun e => by rw [e, limbs_zero] at h; simp at h
  match hl : limbs b, h with
  | [x], _ =>
    rw [hl] at h1 h2
    have h4 : x = b := by simpa [V] using h1
    refine ⟨by simp, by simpa using h4, by omega, ?_⟩
    rw [← h4]
    exact h2 x (by simp)

set_option maxHeartbeats 1000000 in
theorem natDivO_any (a b : Nat) (A A' : Option Addr) (n n' c c' B B' : Nat) (w : World) (hr : Rd w B A (vs (limbs a))) (hr' : Rd w B' A' (vs (limbs b))) (hB : B ≤ w.heap.size) (hB' : B' ≤ w.heap.size) (hn : (limbs a).length = n) (hn' : (limbs b).length = 1) (hm : (n : Int) ≤ 100000) (hab : b ≤ a) :
    Calls Tryd.prog 101 #[.slice A n c, .slice A' 1 c'] w fun e w' => ∃ A2 A3 mid, e = .returned (.tuple #[.slice A2 (limbs (a / b)).length (limbs (a / b)).length, .slice A3 (limbs (a % b)).length (limbs (a % b)).length]) ∧ w.heap.size ≤ mid ∧ mid ≤ w'.heap.size ∧ Ow w' w.heap.size mid A2 (vs (limbs (a / b))) ∧ Ow w' mid w'.heap.size A3 (vs (limbs (a % b))) ∧ Below w.heap.size w w' := by
  have hst := store_int Tryd.prog
  obtain ⟨hk, hx, hb0, hb1⟩ := limbs_one hn'
  obtain ⟨q, hq, _⟩ := hr'.some_ (by rw [vs_len]; omega)
  subst hq
  have hcd := hr'.cell (k := 0) (by rw [vs_len]; omega)
  rw [vs_get hk, hx] at hcd
  have hcmp := cmp_ge hab
  have Hr := Lib.hid hr
  have Hr' := Lib.hid hr'
  have Hn := Lib.hid hn
  have Hn' := Lib.hid hn'
  have HB := Lib.hid hB
  have HB' := Lib.hid hB'
  have hd1 : (1 : Int) ≤ b := by omega
  have hd2 : (b : Int) ≤ 16777215 := by rw [Bs_eq] at hb1; omega
  clear hr hr' hn hn' hB hB' hx hb0 hb1 hk
  go_enter Tryd.func101, Tryd.ntmps101
  go_wp2_with fail
  refine (natCmp_any a b A _ n 1 c c' _ _ w Hr.out Hr'.out Hn.out Hn'.out hm (by omega)).mono ?_
  rintro e w1 ⟨rfl, nq, rfl⟩
  generalize cmpI a b = z at *
  have hcd1 : (w.drewN nq).cell? q = some (.int .i64 b) := by have h : q.add 0 = q := by (unfold Addr.add; cases q; split <;> simp_all)
                                                              rw [h] at hcd; exact hcd
  go_wp2_with fail
  refine (natDivS_any a b A n c _ (w.drewN nq) (Hr.out.drewN nq) HB.out Hn.out hm hd1 (by omega)).mono ?_
  rintro e w2 ⟨A2, rfl, hown, hb⟩
  have Hown := Lib.hid hown
  have Hb := Lib.hid hb
  clear hown hb
  go_wp2_with fail
  have hrem : (a : Int) % (b : Int) = ((a % b : Nat) : Int) := rfl
  rw [hrem]
  have Hlt : Hid (a % b < Bs) := Lib.hid (by have := Nat.mod_lt a (show 0 < b by omega); rw [Bs_eq]; omega)
  obtain ⟨r, hr⟩ : ∃ r, r = a % b := ⟨_, rfl⟩
  rw [← hr] at Hlt ⊢
  obtain ⟨w3, hw3⟩ : ∃ w3, w3 = w2.alloc (.cells #[.int .i64 (r : Int)] 2) := ⟨_, rfl⟩
  have Ho3 : Hid (Ow w3 w2.heap.size w3.heap.size (some ⟨w2.heap.size, 0, none⟩) (vs [r])) := Lib.hid (by
    refine .inr ⟨w2.heap.size, _, rfl, Nat.le_refl _, by rw [hw3]; simp, by rw [hw3]; exact heap_alloc_new w2 _, rfl⟩)
  have Ho2 : Hid (Ow w3 w.heap.size w2.heap.size A2 (vs (limbs (a / b)))) := Lib.hid (by rw [hw3]; exact Hown.out.alloc _)
  have Hb3 : Hid (Below w.heap.size w w3) := Lib.hid (by rw [hw3]; exact (below_drewN (Below.refl _ _) nq).trans (Hb.out.alloc Hb.out.size _))
  have Hs3 : Hid (w.heap.size ≤ w2.heap.size ∧ w2.heap.size ≤ w3.heap.size) := Lib.hid ⟨Hb.out.size, by rw [hw3]; simp⟩
  rw [← hw3]
  have Hrr := Lib.hid hr
  clear hw3 hr
  refine (trim_any _ 1 1 w3.heap.size [r] w3 Ho3.out.rd rfl (Lim_one Hlt.out) (by omega) (by omega)).mono ?_
  rintro e w4 ⟨rfl, q4, rfl⟩
  have hV : V [r] = r := by simp [V]
  have Hp : Hid (limbs r = [r].take (limbs r).length) := Lib.hid (by have h := limbs_prefix (Lim_one Hlt.out); rw [hV] at h; exact h)
  rw [hV]
  go_wp2_with fail
  go_ret2
  rw [← Hrr.out]
  exact ⟨A2, _, w2.heap.size, rfl, Hs3.out.1, Hs3.out.2, Ho2.out.drewN q4, ((Ho3.out.take (limbs r).length).eq_ (by rw [← vs_take, ← Hp.out])).drewN q4, below_drewN Hb3.out q4⟩
end Go.Proofs.YtnecnbonnidijaaDoor
/- Quotients of limbs by greater ones, of the program. -/
namespace Go.Proofs.YtnecnbonnidijaaDoor
set_option maxRecDepth 100000
open Go.RowKit
set_option linter.unusedSimpArgs false
set_option linter.unusedVariables false

set_option maxHeartbeats 400000 in
theorem clone_any (A : Option Addr) (n c B : Nat) (xs : List Nat) (w : World) (hr : Rd w B A (vs xs)) (hB : B ≤ w.heap.size) (hn : xs.length = n) (hm : (n : Int) ≤ 1000000) :
    Calls Tryd.prog 149 #[.slice A n c] w fun e w' => ∃ A' c', e = .returned (.slice A' n c') ∧ Ow w' w.heap.size w'.heap.size A' (vs xs) ∧ Below w.heap.size w w' ∧ n ≤ c' := by
  obtain ⟨i0, hi0, hz0, hz1, hz2⟩ := info_parts infoI
  have hnil := fun (w : World) (a : Option Addr) (n c : Nat) => Lib.run_eql_slice_nil w (P := Tryd.prog) _ _ a n c 0 0 Tryd.underlying117
  cases A with
  | none =>
    have h0 : xs = [] := by
      match xs, hr with
      | [], _ => rfl
      | x :: r, hr => obtain ⟨a, h, _⟩ := hr.some_ (by rw [vs_len]; simp); cases h
    subst h0
    have h1 : n = 0 := hn.symm
    subst h1
    clear hr hn
    go_enter Tryd.func149, Tryd.ntmps149
    go_wp2_with fail
    go_ret
    exact ⟨none, 0, rfl, .inl rfl, Below.refl _ _, Nat.le_refl _⟩
  | some a =>
    have hnews : ∀ j u, (vs xs)[j]? = some u → (w.alloc (.cells #[] 2)).cell? (a.add j) = some u := fun j u hu => by
      obtain ⟨a', h1, h2, h3⟩ := hr j u hu
      cases h1
      rw [World.cell?_alloc_lt w _ _ (by rw [addr_block]; omega)]
      exact h3
    have Hnews := Lib.hid hnews
    have Hn := Lib.hid hn
    clear hr hnews hn hB
    go_enter Tryd.func149, Tryd.ntmps149
    go_wp2_with (at_builtin; refine wpList_append_own _ rfl (.tmp 5) (.tmp 6) _ rfl w.heap.size 2 i0 _ 1 8 Tryd.underlying117 hi0 hz0 hz1 hz2 rfl (by omega) (.slice (some ⟨w.heap.size, 0, none⟩) 0 0) 0 [] rfl (own_empty w _) a n c (vs xs) rfl (by rw [vs_len, Hn.out, Nat.mul_one]) Hnews.out (vs_one · xs) (by unfold maxLen; omega) (by omega) (by simp) ?_; intro v1 w1 hown hg _)
    have hbw : Below w.heap.size w w1 := ((Below.refl _ _).alloc (Nat.le_refl _) _).grown hg (by simp) (by simp [Value.ownBlock])
    rw [Nat.zero_add, List.nil_append] at hown
    obtain ⟨A', c', rfl, hcap⟩ := own_form2 hown
    have Ho := Lib.hid (Ow.own hown)
    have Hcap := Lib.hid hcap
    have Hb := Lib.hid hbw
    clear hown hg hbw hcap
    go_ret
    exact ⟨A', c', rfl, Ho.out, Hb.out, Hcap.out⟩

set_option maxHeartbeats 1000000 in
theorem natDivL_any (a b : Nat) (A A' : Option Addr) (n n' c c' B B' : Nat) (w : World) (hr : Rd w B A (vs (limbs a))) (hr' : Rd w B' A' (vs (limbs b))) (hB : B ≤ w.heap.size) (hB' : B' ≤ w.heap.size) (hn : (limbs a).length = n) (hn' : (limbs b).length = n') (hm : (n : Int) ≤ 100000) (hm' : (n' : Int) ≤ 100000) (hab : a < b) :
    Calls Tryd.prog 101 #[.slice A n c, .slice A' n' c'] w fun e w' => ∃ A3 c3, e = .returned (.tuple #[.slice none 0 0, .slice A3 n c3]) ∧ Ow w' w.heap.size w'.heap.size A3 (vs (limbs a)) ∧ n ≤ c3 ∧ Below w.heap.size w w' := by
  have hcmp := cmpD_lt hab
  have Hr := Lib.hid hr
  have Hr' := Lib.hid hr'
  have Hn := Lib.hid hn
  have Hn' := Lib.hid hn'
  have HB := Lib.hid hB
  clear hr hr' hn hn' hB hB'
  go_enter Tryd.func101, Tryd.ntmps101
  go_wp2_with fail
  refine (natCmp_any a b A _ n n' c c' _ _ w Hr.out Hr'.out Hn.out Hn'.out hm hm').mono ?_
  rintro e w1 ⟨rfl, nq, rfl⟩
  generalize cmpI a b = z at *
  go_wp2_with fail
  refine (clone_any A n c _ (limbs a) (w.drewN nq) (Hr.out.drewN nq) HB.out Hn.out (by omega)).mono ?_
  rintro e w2 ⟨A2, c2, rfl, hown, hb, hc⟩
  have Hown := Lib.hid hown
  have Hb := Lib.hid hb
  have Hc := Lib.hid hc
  clear hown hb hc
  go_wp2_with fail
  go_ret2
  exact ⟨A2, c2, rfl, Hown.out, Hc.out, (below_drewN (Below.refl _ _) nq).trans Hb.out⟩
end Go.Proofs.YtnecnbonnidijaaDoor
/- Long division: the mathematics. -/
namespace Go.Proofs.YtnecnbonnidijaaDoor
set_option maxRecDepth 100000
open Go.RowKit
set_option linter.unusedSimpArgs false
set_option linter.unusedVariables false

/-- the divisor's limbs when its missing bits are put in -/
theorem norm_facts {b n k : Nat} (hb : 0 < b) (hn : (limbs b).length = n) (hk : k = 24 * n - blen b) : k ≤ 23 ∧ blen b ≤ 24 * n ∧ (limbs (2 ^ k * b)).length = n := by
  have h1 : b < Bs ^ n := limbs_len_le.1 (by omega)
  rw [Bs_pow] at h1
  have h2 := blen_lt.2 h1
  have h3 : ¬ blen b ≤ 24 * (n - 1) := fun h => by
    have h4 := blen_lt.1 h
    rw [← Bs_pow] at h4
    have h5 := limbs_len_le.2 h4
    have h6 : n ≠ 0 := fun e => by rw [e] at hn; have := limbs_len_zero.1 hn; omega
    omega
  refine ⟨by omega, h2, ?_⟩
  have h7 : b < 2 ^ blen b := blen_lt.1 (Nat.le_refl _)
  have h8 : 2 ^ k * b < Bs ^ n := by
    rw [Bs_pow, show 24 * n = k + blen b by omega, Nat.pow_add]
    exact Nat.mul_lt_mul_of_pos_left h7 (Nat.two_pow_pos k)
  have h9 := limbs_len_le.2 h8
  have h10 : ¬ (limbs (2 ^ k * b)).length ≤ n - 1 := fun h => by
    have h11 := limbs_len_le.1 h
    have h12 : b ≤ 2 ^ k * b := Nat.le_mul_of_pos_left _ (Nat.two_pow_pos k)
    have h13 := limbs_len_le.2 (Nat.lt_of_le_of_lt h12 h11)
    have h6 : n ≠ 0 := fun e => by rw [e] at hn; have := limbs_len_zero.1 hn; omega
    omega
  omega
theorem last_pos {v m : Nat} (h : m < (limbs v).length) (h2 : (limbs v).length = m + 1) : 0 < (limbs v)[m] := by
  have hne : limbs v ≠ [] := fun e => by rw [e] at h; simp at h
  have h3 := limbs_last v hne
  rw [List.getLast_eq_getElem] at h3
  have h4 : (limbs v)[m] = (limbs v)[(limbs v).length - 1] := by congr 1; omega
  rw [h4]; omega

/-- what is kept while the quotient's limbs are found, from the last to the first -/
structure Ld (M D i L : Nat) (ws qs : List Nat) : Prop where
  lim : Lim ws
  limq : Lim qs
  lenq : qs.length = L
  sum : V ws + Bs ^ i * (V (qs.drop i) * D) = M
  less : V (ws.drop i) < D

theorem ld_step {M D j L : Nat} {ws qs zs : List Nat} (h : Ld M D (j + 1) L ws qs) (hj : j < ws.length) (hjq : j < L) (hl : zs.length = ws.length) (hz : Lim zs) (ht : zs.take j = ws.take j) (hv : V (zs.drop j) = V (ws.drop j) % D) : V (ws.drop j) < Bs * D ∧ Ld M D j L zs (qs.set j (V (ws.drop j) / D)) := by
  have hless := h.less
  have hw : V (ws.drop j) < Bs * D := by
    have h1 := V_drop hj
    have h2 := h.lim.getElem hj
    have h3 : Bs * (V (ws.drop (j + 1)) + 1) ≤ Bs * D := Nat.mul_le_mul_left _ hless
    rw [Nat.mul_add] at h3
    omega
  have hq : V (ws.drop j) / D < Bs := by rw [Nat.div_lt_iff_lt_mul (show 0 < D by omega)]; exact hw
  refine ⟨hw, hz, h.limq.set hq, by rw [List.length_set]; exact h.lenq, ?_, by rw [hv]; exact Nat.mod_lt _ (by omega)⟩
  have h1 := V_take_drop ws j (by omega)
  have h2 := V_take_drop zs j (by omega)
  rw [ht, hv] at h2
  have hjq' : j < (qs.set j (V (ws.drop j) / D)).length := by rw [List.length_set, h.lenq]; exact hjq
  have h3 := V_drop hjq'
  have hd2 : (qs.set j (V (ws.drop j) / D)).drop (j + 1) = qs.drop (j + 1) := List.drop_set_of_lt (by omega)
  rw [List.getElem_set_self, hd2] at h3
  have h4 := h.sum
  have h5 := Nat.mod_add_div (V (ws.drop j)) D
  generalize V (ws.drop j) / D = q at *
  generalize V (ws.drop j) % D = r at *
  rw [h3, h2, Nat.add_mul, Nat.mul_add, Nat.mul_assoc Bs, ← Nat.mul_assoc (Bs ^ j) Bs, ← Nat.pow_succ, ← h4, h1, ← h5, Nat.mul_add, Nat.mul_comm q D]
  show _ + (_ + Bs ^ (j + 1) * _) = _
  omega
theorem ld_first {a b k n n' : Nat} {ws : List Nat} (hb : 0 < b) (hn : (limbs a).length = n) (hn' : (limbs b).length = n') (hle : n' ≤ n) (hl : Lim ws) (hwl : ws.length = n + 1) (hv : V ws = 2 ^ k * a) : Ld (2 ^ k * a) (2 ^ k * b) (n - n' + 1) (n - n' + 1) ws (List.replicate (n - n' + 1) 0) := by
  refine ⟨hl, Lim_zeros _, List.length_replicate, ?_, ?_⟩
  · rw [List.drop_of_length_le (by rw [List.length_replicate]; omega), hv]; simp [V]
  · rw [V_drop_div hl (by omega), hv, Nat.div_lt_iff_lt_mul (Bs_pow_pos _)]
    have h1 : a < Bs ^ n := limbs_len_le.1 (by omega)
    have h0 : n' ≠ 0 := fun e => by rw [e] at hn'; have := limbs_len_zero.1 hn'; omega
    have h2 : Bs ^ (n' - 1) ≤ b := Nat.le_of_not_lt fun h => by have := limbs_len_le.2 h; omega
    have h3 : b * Bs ^ (n - n' + 1) ≥ Bs ^ (n' - 1) * Bs ^ (n - n' + 1) := Nat.mul_le_mul_right _ h2
    rw [← Nat.pow_add, show n' - 1 + (n - n' + 1) = n by omega] at h3
    rw [Nat.mul_assoc]
    exact Nat.mul_lt_mul_of_pos_left (by omega) (Nat.two_pow_pos k)
theorem ld_last {a b k L : Nat} {ws qs : List Nat} (hb : 0 < b) (h : Ld (2 ^ k * a) (2 ^ k * b) 0 L ws qs) : V qs = a / b ∧ V ws / 2 ^ k = a % b := by
  have h1 := h.sum
  have h2 := h.less
  rw [List.drop_zero, Nat.pow_zero, Nat.one_mul] at h1
  rw [List.drop_zero] at h2
  have hp := Nat.two_pow_pos k
  have h3 : 2 ^ k * a = (2 ^ k * b) * V qs + V ws := by rw [Nat.mul_comm (2 ^ k * b)]; omega
  have h4 : (2 ^ k * a) / (2 ^ k * b) = V qs := by rw [h3, Nat.mul_add_div (by omega), Nat.div_eq_of_lt h2, Nat.add_zero]
  have h5 : (2 ^ k * a) % (2 ^ k * b) = V ws := by rw [h3, Nat.mul_add_mod, Nat.mod_eq_of_lt h2]
  rw [Nat.mul_div_mul_left _ _ hp] at h4
  rw [Nat.mul_mod_mul_left] at h5
  exact ⟨h4.symm, by rw [← h5, Nat.mul_div_cancel_left _ hp]⟩
end Go.Proofs.YtnecnbonnidijaaDoor
/- Long division, of the program. -/
namespace Go.Proofs.YtnecnbonnidijaaDoor
set_option maxRecDepth 100000
open Go.RowKit
set_option linter.unusedSimpArgs false
set_option linter.unusedVariables false

theorem ld_low {M D j L : Nat} {ws qs : List Nat} (h : Ld M D (j + 1) L ws qs) (hj : j < ws.length) : V (ws.drop j) < Bs * D := by
  have h1 := V_drop hj
  have h2 := h.lim.getElem hj
  have h3 : Bs * (V (ws.drop (j + 1)) + 1) ≤ Bs * D := Nat.mul_le_mul_left _ h.less
  rw [Nat.mul_add] at h3
  omega
theorem li_set (xs : List Nat) (k z : Nat) : (li xs).set k (z : Int) = li (xs.set k z) := by unfold li; rw [List.map_set]
theorem ow_copy {w : World} {g : Nat} {zs X : List Nat} (h : Ow w g (g + 1) (some ⟨g, 0, none⟩) (vs zs)) (hN : 0 < zs.length) (hX : X.length ≤ zs.length) :
    ∃ cs : Array Value, w.heap[g]? = some (.cells cs 2 (0, 0)) ∧ zs.length ≤ cs.size ∧ Ow (w.setRow g (cs.toList.take 0 ++ (vs X ++ cs.toList.drop (0 + (vs X).length))).toArray) g (g + 1) (some ⟨g, 0, none⟩) (vs (X ++ zs.drop X.length)) ∧ w.grownBy (w.setRow g (cs.toList.take 0 ++ (vs X ++ cs.toList.drop (0 + (vs X).length))).toArray) (some g) := by
  rcases h with h | ⟨g', cs, hA, h2, h3, h4, h5⟩
  · exfalso
    have := congrArg List.length h
    rw [vs_len, List.length_nil] at this
    omega
  · injection hA with hA; injection hA with hA
    subst hA
    have hsz : zs.length ≤ cs.size := by
      have h7 := List.length_take_le' (vs zs).length cs.toList
      rw [h5, vs_len] at h7
      simpa using h7
    refine ⟨cs, h4, hsz, .inr ⟨g, _, rfl, h2, h3, setRow_heap w g _ _ _ _ h4, ?_⟩, ⟨rfl, rfl, rfl, by simp [World.setRow], fun b hb hne => setRow_other w g b _ (fun e => hne (by rw [e]))⟩⟩
    have e1 : vs (X ++ zs.drop X.length) = vs X ++ (vs zs).drop X.length := by rw [vs_append, vs_drop]
    have e2 : (vs X ++ (vs zs).drop X.length).length = zs.length := by rw [List.length_append, List.length_drop, vs_len, vs_len]; omega
    rw [e1, e2, List.take_zero, List.nil_append, Nat.zero_add, vs_len]
    rw [List.take_append, List.take_of_length_le (by rw [vs_len]; exact hX), vs_len]
    congr 1
    conv => rhs; rw [← h5]
    rw [List.drop_take, vs_len]

set_option maxHeartbeats 2000000 in
theorem natDivG_any (a b : Nat) (A A' : Option Addr) (n n' c c' B B' : Nat) (w : World) (hr : Rd w B A (vs (limbs a))) (hr' : Rd w B' A' (vs (limbs b))) (hB : B ≤ w.heap.size) (hB' : B' ≤ w.heap.size) (hn : (limbs a).length = n) (hn' : (limbs b).length = n') (hm : (n : Int) ≤ 90000) (h2 : (2 : Int) ≤ n') (hab : b ≤ a) :
    Calls Tryd.prog 101 #[.slice A n c, .slice A' n' c'] w fun e w' => ∃ A2 A3 mid, e = .returned (.tuple #[.slice A2 (limbs (a / b)).length (limbs (a / b)).length, .slice A3 (limbs (a % b)).length (limbs (a % b)).length]) ∧ w.heap.size ≤ mid ∧ mid ≤ w'.heap.size ∧ Ow w' w.heap.size mid A2 (vs (limbs (a / b))) ∧ Ow w' mid w'.heap.size A3 (vs (limbs (a % b))) ∧ Below w.heap.size w w' := by
  obtain ⟨i0, hi0, hz0, hz1, hz2⟩ := info_parts infoI
  have hst := store_int Tryd.prog
  have hcmp := cmp_ge hab
  have hb0 : 0 < b := by
    rcases Nat.eq_zero_or_pos b with h | h
    · subst h; rw [limbs_zero] at hn'; simp at hn'; omega
    · exact h
  obtain ⟨k, hk⟩ : ∃ k, k = 24 * n' - blen b := ⟨_, rfl⟩
  obtain ⟨hk1, hk2, hk3⟩ := norm_facts hb0 hn' hk
  have hle : n' ≤ n := by
    rcases Nat.lt_or_ge n n' with h | h
    · have := lt_of_len (a := a) (b := b) (by omega); omega
    · exact h
  have hkI : (n' : Int) * 24 - blen b = k := by omega
  have hnn : (n' : Int) ≤ n := by omega
  have hkb : (k : Int) ≤ 23 := by omega
  have hn1 : ((n' : Int) == 1) = false := beq_false_of_ne (by omega)
  have Hk3 := Lib.hid hk3
  have Hle := Lib.hid hle
  have Hb0 := Lib.hid hb0
  have Hr := Lib.hid (hr.up hB)
  have Hr' := Lib.hid (hr'.up hB')
  have Hn := Lib.hid hn
  have Hn' := Lib.hid hn'
  have hbl : (blen b : Int) ≤ 2400000 := by omega
  have Hmm : Hid ((limbs (2 ^ k * a)).length ≤ n + 1) := Lib.hid (limbs_len_le.2 (by
    have h1 : a < Bs ^ n := limbs_len_le.1 (by omega)
    have h2 : 2 ^ k ≤ Bs := by rw [Bs_eq]; exact Nat.pow_le_pow_right (show 2 > 0 by omega) (show k ≤ 24 by omega)
    rw [Nat.pow_succ, Nat.mul_comm]
    exact Nat.lt_of_lt_of_le (Nat.mul_lt_mul_of_pos_right h1 (Nat.two_pow_pos k)) (Nat.mul_le_mul_left _ h2)))
  clear hr hr' hn hn' hB hB' hk hk1 hk2 hk3 hle hb0 hab
  go_enter Tryd.func101, Tryd.ntmps101
  go_wp2_with fail
  refine (natCmp_any a b A _ n n' c c' _ _ w Hr.out Hr'.out Hn.out Hn'.out (by omega) (by omega)).mono ?_
  rintro e w1 ⟨rfl, nq, rfl⟩
  generalize cmpI a b = z at *
  go_wp2_with fail
  refine (natLen_any b A' n' c' _ (w.drewN nq) (Hr'.out.drewN nq) Hn'.out (by omega)).mono ?_
  rintro e w1 ⟨rfl, rfl⟩
  go_wp2_with fail
  refine (natShl_any b k A' n' c' _ (w.drewN nq) (Hr'.out.drewN nq) (Nat.le_refl _) Hn'.out (by omega) (by omega)).mono ?_
  rintro e w1 ⟨Ad, rfl, hownd, hbd⟩
  rw [Hk3.out]
  have Hod := Lib.hid hownd
  have Hbd : Hid (Below w.heap.size w w1) := Lib.hid ((below_drewN (Below.refl _ _) nq).trans hbd)
  clear hownd hbd
  obtain ⟨N, hN⟩ : ∃ N, N = n + 1 := ⟨_, rfl⟩
  have hNi : (n : Int) + 1 = N := by omega
  have hbytes : i0.bytes * N ≤ 281474976710656 := by rw [hz2]; omega
  have HN := Lib.hid hN
  clear hN
  go_wp2_with (refine wpList_make_full _ rfl _ _ _ rfl w1.heap.size 2 i0 _ 1 Tryd.underlying117 hi0 hz0 hz1 _ _ _ _ N rfl rfl rfl rfl hbytes (by unfold maxLen; omega) (Nat.le_refl _) ?_; intro w2 hown2 hg2)
  rw [made_zeros] at hown2
  have HoR : Hid (Ow w2 w1.heap.size (w1.heap.size + 1) (some ⟨w1.heap.size, 0, none⟩) (vs (List.replicate N 0))) := Lib.hid (by
    rcases Ow.own hown2 with h | ⟨g, cs, h1, h2, h3, h4, h5⟩
    · exact .inl h
    · exact .inr ⟨g, cs, h1, h2, by injection h1 with h1; injection h1 with h1; omega, h4, h5⟩)
  have Hs2 : Hid (w1.heap.size < w2.heap.size) := Lib.hid (by
    obtain ⟨g, h1, _, _, h4⟩ := HoR.out.lt (by intro e; have := congrArg List.length e; rw [vs_len, List.length_replicate] at this; simp at this; omega)
    injection h1 with h1; injection h1 with h1; omega)
  have Hod2 : Hid (Ow w2 w.heap.size w1.heap.size Ad (vs (limbs (2 ^ k * b)))) := Lib.hid (Hod.out.grown hg2 (by intro g h; cases h))
  have Hb2 : Hid (Below w.heap.size w w2) := Lib.hid (Hbd.out.grown hg2 Hbd.out.size (by simp))
  clear hown2 hg2 hbytes
  refine (natShl_any a k A n c _ w2 (Hr.out.below Hb2.out) Hb2.out.size Hn.out (by omega) (by omega)).mono ?_
  rintro e w3 ⟨Am, rfl, hownm, hbm⟩
  have Hbm := Lib.hid hbm
  have Hb3 : Hid (Below w.heap.size w w3) := Lib.hid (Hb2.out.trans (hbm.mono Hb2.out.size))
  have Hod3 : Hid (Ow w3 w.heap.size w1.heap.size Ad (vs (limbs (2 ^ k * b)))) := Lib.hid (Hod2.out.below hbm (by have := Hs2.out; omega))
  have HoR3 := HoR.out.below hbm (by have := Hs2.out; omega)
  obtain ⟨X, hX⟩ : ∃ X, X = limbs (2 ^ k * a) := ⟨_, rfl⟩
  have hXl : X.length ≤ N := by rw [hX, HN.out]; exact Hmm.out
  have hX0 : 0 < X.length := by
    rw [hX]
    rcases Nat.eq_zero_or_pos (limbs (2 ^ k * a)).length with h | h
    · exfalso
      have h1 := limbs_len_zero.1 h
      have h3 := Nat.mul_pos (Nat.two_pow_pos k) (show 0 < a by
        rcases Nat.eq_zero_or_pos a with h | h
        · have := Hn.out; rw [h, limbs_zero] at this; simp at this; omega
        · exact h)
      omega
    · exact h
  obtain ⟨cs, hcs, hcsz, how4, hg4⟩ := ow_copy (X := X) HoR3 (by rw [List.length_replicate]; omega) (by rw [List.length_replicate]; exact hXl)
  rw [List.length_replicate] at hcsz
  rw [← hX] at hownm ⊢
  obtain ⟨am, ham, _⟩ := hownm.rd.some_ (by rw [vs_len]; exact hX0)
  subst ham
  have Hsrc : Hid (∀ j v, (vs X)[j]? = some v → w3.cell? (am.add j) = some v) := Lib.hid (fun j v hv => by
    obtain ⟨a', e1, _, e3⟩ := hownm.rd j v hv
    injection e1 with e1
    rw [e1]; exact e3)
  have Hcs := Lib.hid hcs
  have Hcsz := Lib.hid hcsz
  have HX := Lib.hid hX
  have HXl := Lib.hid hXl
  have hXv : (vs X).length = X.length := vs_len X
  obtain ⟨w4, hw4⟩ : ∃ w4, w4 = w3.setRow w1.heap.size (cs.toList.take 0 ++ (vs X ++ cs.toList.drop (0 + (vs X).length))).toArray := ⟨_, rfl⟩
  rw [← hw4] at how4 hg4
  have Hw4 := Lib.hid hw4
  have HoR4 := Lib.hid how4
  have Hod4 : Hid (Ow w4 w.heap.size w1.heap.size Ad (vs (limbs (2 ^ k * b)))) := Lib.hid (Hod3.out.grown hg4 (by intro g h; injection h with h; omega))
  have Hb4 : Hid (Below w.heap.size w w4) := Lib.hid (Hb3.out.grown hg4 Hb3.out.size (by intro g h; injection h with h; rw [← h]; exact Hbd.out.size))
  have Hb4s : Hid (w.heap.size ≤ w4.heap.size) := Lib.hid Hb4.out.size
  have Hs4 : Hid (w1.heap.size < w4.heap.size) := Lib.hid (Nat.lt_of_lt_of_le Hs2.out (Nat.le_trans Hbm.out.size hg4.size))
  have hsz1 : (Tryd.prog.info? 2).map (·.size) = some 1 := by rw [hi0]; simp [hz1]
  obtain ⟨L, hL⟩ : ∃ L, L = n - n' + 1 := ⟨_, rfl⟩
  have HL := Lib.hid hL
  have hLi : (n : Int) - n' + 1 = L := by have := Hle.out; omega
  have hbytes : i0.bytes * L ≤ 281474976710656 := by rw [hz2]; omega
  have hLm : L ≤ maxLen := by unfold maxLen; omega
  have Hmin : Hid ((vs X).length = Nat.min X.length N) := Lib.hid (by rw [vs_len]; exact (Nat.min_eq_left hXl).symm)
  clear hL hcs hcsz hX hXl how4 hg4 hownm HoR3 hbm hw4 hX0
  generalize hlX : X.length = lX at *
  have HlX := Lib.hid hlX
  clear hlX
  go_wp2_with (first | (with_reducible show wpList _ _ _ _ _ _; refine wpList_copy_own rfl (.tmp 47) (.tmp 50) _ _ rfl 2 Tryd.underlying117 hsz1 w1.heap.size 0 N N am lX lX rfl rfl cs _ Hcs.out (vs X) Hmin.out Hsrc.out (by rw [hXv, Nat.zero_add]; exact Nat.le_trans HXl.out Hcsz.out) (vs_one · X) ?_; rw [← Hw4.out]) | (refine wpList_make_full _ rfl _ _ _ rfl w4.heap.size 2 i0 _ 1 Tryd.underlying117 hi0 hz0 hz1 _ _ _ _ L rfl rfl rfl rfl hbytes hLm (Nat.le_refl _) ?_; intro w5 hown5 hg5))
  rw [made_zeros] at hown5
  have HoQ : Hid (Ow w5 w4.heap.size (w4.heap.size + 1) (some ⟨w4.heap.size, 0, none⟩) (vs (List.replicate L 0))) := Lib.hid (by
    rcases Ow.own hown5 with h | ⟨g, cs, h1, h2, h3, h4, h5⟩
    · exact .inl h
    · exact .inr ⟨g, cs, h1, h2, by injection h1 with h1; injection h1 with h1; omega, h4, h5⟩)
  have HoR5 : Hid (Ow w5 w1.heap.size (w1.heap.size + 1) (some ⟨w1.heap.size, 0, none⟩) (vs (X ++ (List.replicate N 0).drop lX))) := Lib.hid (HoR4.out.grown hg5 (by intro g h; cases h))
  have Hod5 : Hid (Ow w5 w.heap.size w1.heap.size Ad (vs (limbs (2 ^ k * b)))) := Lib.hid (Hod4.out.grown hg5 (by intro g h; cases h))
  have Hb5 : Hid (Below w.heap.size w w5) := Lib.hid (Hb4.out.grown hg5 Hb4.out.size (by simp))
  have Hs5 : Hid (w4.heap.size ≤ w5.heap.size) := Lib.hid hg5.size
  clear hown5 hg5
  have Hst : Hid ((X ++ (List.replicate N 0).drop lX).length = N ∧ Ld (2 ^ k * a) (2 ^ k * b) L L (X ++ (List.replicate N 0).drop lX) (List.replicate L 0)) := Lib.hid (by
    have h1 : (X ++ (List.replicate N 0).drop lX).length = N := by rw [List.length_append, List.length_drop, List.length_replicate, HlX.out]; have := HXl.out; omega
    have h3 : V (X ++ (List.replicate N 0).drop lX) = 2 ^ k * a := by
      rw [V_append, V_zeros (xs := (List.replicate N 0).drop lX) (fun x hx => (List.mem_replicate.1 (List.mem_of_mem_drop hx)).2), HX.out, V_limbs, Nat.mul_zero, Nat.add_zero]
    have h4 : Lim (X ++ (List.replicate N 0).drop lX) := by
      refine Lim.append ?_ ((Lim_zeros N).drop lX)
      rw [HX.out]; exact Lim_limbs _
    refine ⟨h1, ?_⟩
    rw [HL.out]
    exact ld_first Hb0.out Hn.out Hn'.out Hle.out h4 (by rw [h1]; exact HN.out) h3)
  go_loopw [12] (fun iv wr => ∃ (i : Nat) (ws qs : List Nat), i ≤ L ∧ iv = .int .i64 ((i : Int) - 1) ∧ ws.length = N ∧ Ld (2 ^ k * a) (2 ^ k * b) i L ws qs ∧ Ow wr w1.heap.size (w1.heap.size + 1) (some ⟨w1.heap.size, 0, none⟩) (vs ws) ∧ Ow wr w4.heap.size (w4.heap.size + 1) (some ⟨w4.heap.size, 0, none⟩) (vs qs) ∧ Ow wr w.heap.size w1.heap.size Ad (vs (limbs (2 ^ k * b))) ∧ Below w.heap.size w wr ∧ w5.heap.size ≤ wr.heap.size) (fun iv _ => (intOf iv + 1).toNat)
  case atStart => exact ⟨L, _, _, Nat.le_refl _, rfl, Hst.out.1, Hst.out.2, HoR5.out, HoQ.out, Hod5.out, Hb5.out, Nat.le_refl _⟩
  case round =>
    clear Hst HoR5 HoQ Hod5 Hb5 HoR4 Hod4 Hb4 Hod3 Hb3 Hod2 Hb2 HoR Hod Hcs Hcsz Hsrc Hmin HX HXl HlX hXv hbytes hsz1 hLm
    obtain ⟨i, ws, qs, hi, rfl, hwl, hLd, hoR, hoQ, hod, hb, hs⟩ := hrel
    have Hwl := Lib.hid hwl
    have HLd := Lib.hid hLd
    have HoR := Lib.hid hoR
    have HoQ := Lib.hid hoQ
    have Hod := Lib.hid hod
    have Hb := Lib.hid hb
    have Hs := Lib.hid hs
    clear hwl hLd hoR hoQ hod hb hs
    by_cases h0 : i = 0
    · subst h0
      have Hend := Lib.hid (ld_last Hb0.out HLd.out)
      have hc0 : ((0 : Nat) : Int) - 1 = -1 := by omega
      have Hq0 : Hid (w4.heap.size + 1 ≤ wr.heap.size) := Lib.hid (by
        obtain ⟨g, h1, _, h3, h4⟩ := HoQ.out.lt (by intro e; have := congrArg List.length e; rw [vs_len, HLd.out.lenq, List.length_nil] at this; omega)
        injection h1 with h1; injection h1 with h1
        omega)
      go_wp2_with fail
      refine (trim_any _ L L _ qs wr HoQ.out.rd HLd.out.lenq HLd.out.limq (by omega) (by omega)).mono ?_
      rintro e w6 ⟨rfl, q6, rfl⟩
      have HpQ : Hid (limbs (V qs) = qs.take (limbs (V qs)).length) := Lib.hid (limbs_prefix HLd.out.limq)
      rw [Hend.out.1] at HpQ ⊢
      go_wp2_with fail
      refine (trim_any _ N N _ ws (wr.drewN q6) (HoR.out.rd.drewN q6) Hwl.out HLd.out.lim (by omega) (by omega)).mono ?_
      rintro e w7 ⟨rfl, q7, rfl⟩
      have HpR : Hid (limbs (V ws) = ws.take (limbs (V ws)).length) := Lib.hid (limbs_prefix HLd.out.lim)
      have HoR7 : Hid (Ow (wr.drewN (q6 + q7)) w1.heap.size (w1.heap.size + 1) (some ⟨w1.heap.size, 0, none⟩) (vs (limbs (V ws)))) := Lib.hid (((HoR.out.take (limbs (V ws)).length).eq_ (by rw [← vs_take, ← HpR.out])).drewN (q6 + q7))
      have Hll : Hid ((limbs (V ws)).length ≤ N) := Lib.hid (by have h := congrArg List.length HpR.out; rw [List.length_take, Hwl.out] at h; omega)
      obtain ⟨lw, hlw⟩ : ∃ lw, lw = (limbs (V ws)).length := ⟨_, rfl⟩
      rw [← hlw] at Hll ⊢
      have Hlw := Lib.hid hlw
      clear hlw
      have hlN : (lw : Int) ≤ N := by have := Hll.out; omega
      go_wp2_with fail
      refine (natShr_any (V ws) k _ lw lw _ (wr.drewN (q6 + q7)) HoR7.out.rd (by have := Hq0.out; have := Hs4.out; show w1.heap.size + 1 ≤ wr.heap.size; omega) Hlw.out.symm (by omega) (by omega)).mono ?_
      rintro e w8 ⟨A3, rfl, hown8, hb8⟩
      rw [Hend.out.2] at hown8 ⊢
      have Ho8 := Lib.hid hown8
      have Hb8 := Lib.hid hb8
      clear hown8 hb8
      go_wp2_with fail
      go_ret2
      refine ⟨_, A3, wr.heap.size, rfl, Hb.out.size, Hb8.out.size, ?_, Ho8.out, (below_drewN Hb.out (q6 + q7)).trans (Hb8.out.mono Hb.out.size)⟩
      have h1 : Ow wr w.heap.size wr.heap.size (some ⟨w4.heap.size, 0, none⟩) (vs (limbs (a / b))) := ((HoQ.out.take (limbs (a / b)).length).eq_ (by rw [← vs_take, ← HpQ.out])).wide (Hb4s.out) Hq0.out
      exact (h1.drewN (q6 + q7)).below' Hb8.out
    · obtain ⟨j, rfl⟩ : ∃ j, i = j + 1 := ⟨i - 1, by omega⟩
      have hj : ((j + 1 : Nat) : Int) - 1 = j := by omega
      rw [hj]
      have Hj := Lib.hid hj
      have hjL : (j : Int) < L := by omega
      have hjn : (j : Int) + n' < N := by have := HL.out; have := HN.out; have := Hle.out; omega
      have hjs : (j : Int) + n' + 1 ≤ N := by omega
      have hj0 : (0 : Int) ≤ (j : Int) + n' + 1 := by omega
      have htn : ((j : Int) + n' + 1).toNat = j + n' + 1 := by omega
      have hjle : (j : Int) ≤ (j : Int) + n' + 1 := by omega
      have hsub : j + n' + 1 - j = n' + 1 := by omega
      clear hj h0
      have Hjw : Hid (j < ws.length ∧ j < L) := Lib.hid ⟨by rw [Hwl.out]; omega, by omega⟩
      go_wp2_with fail
      refine (takeOff_any (limbs (2 ^ k * b)) ws Ad (n' - 1) n' n' (N - j) j w1.heap.size w1.heap.size wr Hod.out.rd (Nat.le_refl _) (by have := Hs4.out; have := Hs5.out; have := Hs.out; omega) HoR.out Hk3.out (by omega) (Lim_limbs _) HLd.out.lim (by rw [Hwl.out]; omega) (by rw [Hwl.out]; omega) (fun h => last_pos h (by rw [Hk3.out]; omega)) (by rw [V_limbs]; exact ld_low HLd.out Hjw.out.1)).mono ?_
      rintro e w6 ⟨rfl, hg6, zs, hoz, hzl, hzlim, hzt, hzv⟩
      rw [V_limbs] at hzv ⊢
      have Hld := Lib.hid (ld_step HLd.out Hjw.out.1 Hjw.out.2 hzl hzlim hzt hzv).2
      have Hzl := Lib.hid (hzl.trans Hwl.out)
      have HoQ6 : Ow w6 w4.heap.size (w4.heap.size + 1) (some ⟨w4.heap.size, 0, none⟩) (vi (li qs)) := HoQ.out.grown hg6 (by intro g h; injection h with h; have := Hs4.out; omega)
      have Hod6 : Hid (Ow w6 w.heap.size w1.heap.size Ad (vs (limbs (2 ^ k * b)))) := Lib.hid (Hod.out.grown hg6 (by intro g h; injection h with h; omega))
      have Hb6 : Hid (Below w.heap.size w w6) := Lib.hid (Hb.out.grown hg6 Hb.out.size (by intro g h; injection h with h; rw [← h]; exact Hbd.out.size))
      have Hs6 : Hid (w5.heap.size ≤ w6.heap.size) := Lib.hid (Nat.le_trans Hs.out hg6.size)
      have Hoz := Lib.hid hoz
      obtain ⟨y, hy⟩ : ∃ y, y = V (ws.drop j) / (2 ^ k * b) := ⟨_, rfl⟩
      rw [← hy] at Hld ⊢
      have hjq : j < (li qs).length := by rw [li_len, HLd.out.lenq]; exact Hjw.out.2
      obtain ⟨hcq, hfq, hset⟩ := ow_row HoQ6 hjq
      have Hset := Lib.hid (hset y)
      generalize (li qs)[j] = u at *
      clear hg6 hzl hzlim hzt hzv HoQ6 hoz hy hset hjq
      go_wp2_with fail
      go_roundw
      case rel =>
        refine ⟨j, zs, qs.set j y, by omega, rfl, Hzl.out, Hld.out, ?_, ?_, ?_, ?_, ?_⟩
        · exact Hoz.out.grown Hset.out.2 (by intro g h; injection h with h; have := Hs4.out; omega)
        · have h := Hset.out.1
          rw [li_set] at h
          exact h
        · exact Hod6.out.grown Hset.out.2 (by intro g h; injection h with h; have := Hs4.out; omega)
        · exact Hb6.out.grown Hset.out.2 Hb6.out.size (by intro g h; injection h with h; rw [← h]; exact Hb4s.out)
        · exact Nat.le_trans Hs6.out Hset.out.2.size
      case measure => simp [intOf]
end Go.Proofs.YtnecnbonnidijaaDoor
/- Quotients of limbs, of the program. -/
namespace Go.Proofs.YtnecnbonnidijaaDoor
set_option maxRecDepth 100000
open Go.RowKit
set_option linter.unusedSimpArgs false
set_option linter.unusedVariables false

theorem natDiv_any (a b : Nat) (A A' : Option Addr) (n n' c c' B B' : Nat) (w : World) (hr : Rd w B A (vs (limbs a))) (hr' : Rd w B' A' (vs (limbs b))) (hB : B ≤ w.heap.size) (hB' : B' ≤ w.heap.size) (hn : (limbs a).length = n) (hn' : (limbs b).length = n') (hm : (n : Int) ≤ 90000) (hm' : (n' : Int) ≤ 90000) (hb : 0 < b) :
    Calls Tryd.prog 101 #[.slice A n c, .slice A' n' c'] w fun e w' => ∃ A2 A3 c2 c3 mid, e = .returned (.tuple #[.slice A2 (limbs (a / b)).length c2, .slice A3 (limbs (a % b)).length c3]) ∧ (limbs (a / b)).length ≤ c2 ∧ (limbs (a % b)).length ≤ c3 ∧ w.heap.size ≤ mid ∧ mid ≤ w'.heap.size ∧ Ow w' w.heap.size mid A2 (vs (limbs (a / b))) ∧ Ow w' mid w'.heap.size A3 (vs (limbs (a % b))) ∧ Below w.heap.size w w' := by
  have h0 : n' ≠ 0 := fun e => by rw [e] at hn'; have := limbs_len_zero.1 hn'; omega
  rcases Nat.lt_or_ge a b with h | h
  · refine (natDivL_any a b A A' n n' c c' B B' w hr hr' hB hB' hn hn' (by omega) (by omega) h).mono ?_
    rintro e w' ⟨A3, c3, rfl, h1, h2, h3⟩
    rw [Nat.div_eq_of_lt h, Nat.mod_eq_of_lt h, limbs_zero, hn]
    exact ⟨none, A3, 0, c3, w.heap.size, rfl, Nat.le_refl _, h2, Nat.le_refl _, h3.size, .inl rfl, h1, h3⟩
  · by_cases h1 : n' = 1
    · subst h1
      refine (natDivO_any a b A A' n 1 c c' B B' w hr hr' hB hB' hn hn' (by omega) h).mono ?_
      rintro e w' ⟨A2, A3, mid, rfl, h2, h3, h4, h5, h6⟩
      exact ⟨A2, A3, _, _, mid, rfl, Nat.le_refl _, Nat.le_refl _, h2, h3, h4, h5, h6⟩
    · refine (natDivG_any a b A A' n n' c c' B B' w hr hr' hB hB' hn hn' hm (by omega) h).mono ?_
      rintro e w' ⟨A2, A3, mid, rfl, h2, h3, h4, h5, h6⟩
      exact ⟨A2, A3, _, _, mid, rfl, Nat.le_refl _, Nat.le_refl _, h2, h3, h4, h5, h6⟩
end Go.Proofs.YtnecnbonnidijaaDoor
