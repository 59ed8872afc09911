/- Texts of this seat, joined: Ku Kv -/
import Derived.Test.YtcjamfoiilgfoaaGreatDoorG9
import Derived.Test.YtcjamfoiilgfoaaGreatDoorG6
import Derived.Test.YtcjamfoiilgfoaaGreatDoorG8
/- FusedIn, of the program and of the model. -/
namespace Go.Proofs.YtcjamfoiilgfoaaGreatDoor
set_option maxRecDepth 100000
open Go.RowKit
set_option linter.unusedSimpArgs false
set_option linter.unusedVariables false
attribute [local go_sem ↓] Go.wp_at_zero Go.wp_at_succ

/-- a product and a sum at once -/
def fuZ (x y u : Nat) : Int := sumZ (fz x * fz y) (fe x + fe y) (fz u) (fe u)
def fuF (x y u : Nat) (mode : Int) : Nat := xF (fuZ x y u) (min (fe x + fe y) (fe u)) (sgS (sgn x * sgn y) (sgn u)) mode
def fuL (x y u : Nat) (mode : Int) : Int := xL (fuZ x y u) (min (fe x + fe y) (fe u)) mode
/-- a result, or 0 beside an error -/
def oqF (l : List Nat) (mode : Int) (F : Nat) : Nat := if ckE l mode = 0 then F else 0
def oqL (l : List Nat) (mode : Int) (L : Int) : Int := if ckE l mode = 0 then L else 0
theorem ckE_three (x y u : Nat) (mode : Int) : ckE [x, y, u] mode = if fin32 u = true then ckE [x, y] mode else 1 := by
  unfold ckE
  cases h1 : fin32 x <;> cases h2 : fin32 y <;> cases h3 : fin32 u <;> simp [h1, h2, h3]
theorem ckE_zero3 {x y u : Nat} {mode : Int} (h : ckE [x, y, u] mode = 0) : fin32 x = true ∧ fin32 y = true ∧ fin32 u = true ∧ 0 ≤ mode ∧ mode ≤ 4 := by
  rw [ckE_three] at h
  by_cases hu : fin32 u = true
  · rw [if_pos hu] at h
    obtain ⟨h1, h2, h3, h4⟩ := ckE_zero h
    exact ⟨h1, h2, hu, h3, h4⟩
  · rw [if_neg hu] at h; cases h
theorem mul_bound {x y : Nat} (h1 : fin32 x = true) (h2 : fin32 y = true) : (fz x * fz y).natAbs < 281474976710656 := by
  rw [Int.natAbs_mul]
  exact Nat.lt_of_lt_of_le (Nat.mul_lt_mul'' (fz_small h1) (fz_small h2)) (by decide +kernel)
/-- a number in a sum may be shifted -/
theorem sum_scale (k : Nat) (a e z' e' : Int) : sumZ ((2 : Int) ^ k * a) e z' e' = (2 : Int) ^ (min (e + k) e' - min e e').toNat * sumZ a (e + k) z' e' := by
  have h1 : (e - min e e').toNat + k = (min (e + k) e' - min e e').toNat + (e + k - min (e + k) e').toNat := by omega
  have h2 : (e' - min e e').toNat = (min (e + k) e' - min e e').toNat + (e' - min (e + k) e').toNat := by omega
  unfold sumZ
  rw [Int.mul_add, ← Int.mul_assoc, ← Int.mul_assoc, ← Int.mul_assoc, ← Int.pow_add, ← Int.pow_add, ← Int.pow_add, h1, ← h2]
theorem rd_sum_scale (k : Nat) (a e z' e' mode : Int) : rdF (sumZ ((2 : Int) ^ k * a) e z' e') (min e e') mode = rdF (sumZ a (e + k) z' e') (min (e + k) e') mode ∧ rdL (sumZ ((2 : Int) ^ k * a) e z' e') (min e e') mode = rdL (sumZ a (e + k) z' e') (min (e + k) e') mode := by
  rw [sum_scale]
  have h := rd_shl (min (e + k) e' - min e e').toNat (sumZ a (e + k) z' e') (min e e') mode
  rw [show min e e' + ((min (e + k) e' - min e e').toNat : Nat) = min (e + k) e' by omega] at h
  exact h
theorem sum_norm0 (P q z' e' : Int) : (sumZ (nz P) (nx P q) z' e' = 0 ↔ sumZ P q z' e' = 0) := by
  by_cases hP : P = 0
  · subst hP
    rw [nz_zero, nx_zero]
    have h1 := (nz_eq_zero (z := sumZ 0 0 z' e'))
    have h2 := (nz_eq_zero (z := sumZ 0 q z' e'))
    rw [sum_zero_left.1] at h1 h2
    rw [← h1, ← h2]
  · conv => rhs; rw [nz_pow P, sum_scale]
    rw [nx_ne hP]
    constructor
    · intro h; rw [h, Int.mul_zero]
    · intro h
      rcases Int.mul_eq_zero.1 h with h1 | h1
      · have := Int.pow_pos (n := (2 : Int)) (m := (min (q + (tz P.natAbs : Int)) e' - min q e').toNat) (by omega); omega
      · exact h1
theorem rd_norm_sum (P q z' e' mode : Int) : rdF (sumZ (nz P) (nx P q) z' e') (min (nx P q) e') mode = rdF (sumZ P q z' e') (min q e') mode ∧ rdL (sumZ (nz P) (nx P q) z' e') (min (nx P q) e') mode = rdL (sumZ P q z' e') (min q e') mode := by
  by_cases hP : P = 0
  · subst hP
    rw [nz_zero, nx_zero]
    have h1 := rd_norm (sumZ 0 0 z' e') (min 0 e') mode
    have h2 := rd_norm (sumZ 0 q z' e') (min q e') mode
    rw [sum_zero_left.1, sum_zero_left.2] at h1 h2
    exact ⟨h1.1.symm.trans h2.1, h1.2.symm.trans h2.2⟩
  · have h := rd_sum_scale (tz P.natAbs) (nz P) q z' e' mode
    rw [← nz_pow] at h
    rw [nx_ne hP]
    exact ⟨h.1.symm, h.2.symm⟩
theorem mul_odd {x y : Nat} (h : fz x * fz y ≠ 0) : (fz x * fz y).natAbs % 2 = 1 := by
  have hx : ofM x ≠ 0 := fun e => h (by unfold fz; rw [e, nz_zero, Int.zero_mul])
  have hy : ofM y ≠ 0 := fun e => h (by unfold fz; rw [e, nz_zero, Int.mul_zero])
  have h1 : (fz x).natAbs % 2 = 1 := nz_odd hx
  have h2 : (fz y).natAbs % 2 = 1 := nz_odd hy
  rw [Int.natAbs_mul, Nat.mul_mod, h1, h2]
theorem sgn_mul_eq (x y : Nat) : sgn x * sgn y = if (neg32 x != neg32 y) = true then -1 else 1 := by
  unfold sgn; cases neg32 x <;> cases neg32 y <;> rfl
theorem sign_fzmul {x y : Nat} (h : fz x * fz y ≠ 0) : (fz x * fz y).sign = sgn x * sgn y := by
  have hx : fz x ≠ 0 := fun e => h (by rw [e, Int.zero_mul])
  have hy : fz y ≠ 0 := fun e => h (by rw [e, Int.mul_zero])
  rw [Int.sign_mul, sgn_fz hx, sgn_fz hy]
theorem fu_eq (x y u : Nat) (mode : Int) : smF (nz (fz x * fz y)) (sumZ (nz (fz x * fz y)) (nx (fz x * fz y) (fe x + fe y)) (fz u) (fe u)) (min (nx (fz x * fz y) (fe x + fe y)) (fe u)) (neg32 x != neg32 y) (neg32 u) mode = fuF x y u mode := by
  obtain ⟨P, hP⟩ : ∃ P, P = fz x * fz y := ⟨_, rfl⟩
  have hsg : P ≠ 0 → P.sign = sgn x * sgn y := fun h => by rw [hP] at h ⊢; exact sign_fzmul h
  unfold smF fuF xF fuZ
  rw [← hP]
  by_cases h0 : sumZ P (fe x + fe y) (fz u) (fe u) = 0
  · rw [if_pos ((sum_norm0 _ _ _ _).2 h0), if_pos h0, sgn_mul_eq] at *
    unfold sgS
    have hu : sgn u = if neg32 u = true then -1 else 1 := rfl
    by_cases hb : (neg32 x != neg32 y) = neg32 u
    · have hz : nz P = 0 := by
        apply Decidable.byContradiction
        intro hc
        have hP0 : P ≠ 0 := fun e => hc (nz_eq_zero.2 e)
        have h1 := sum_opp h0 hP0
        have h2 := hsg hP0
        rw [hb, ← hu] at h2
        have hy : fz u ≠ 0 := fun e => by rw [e, h2] at h1; rcases sgn_pm u with h | h <;> rw [h] at h1 <;> cases h1
        rw [sgn_fz hy, h2] at h1
        rcases sgn_pm u with h | h <;> rw [h] at h1 <;> cases h1
      rw [if_pos ⟨hz, hb⟩, hb, ← hu, if_pos rfl, sgn_mz]
    · rw [if_neg (fun h => hb h.2), if_neg, zF_zero]
      rw [hu]
      revert hb
      cases (neg32 x != neg32 y) <;> cases neg32 u <;> simp
  · rw [if_neg (fun h => h0 ((sum_norm0 _ _ _ _).1 h)), if_neg h0, (rd_norm_sum _ _ _ _ _).1]
theorem fu_eqL (x y u : Nat) (mode : Int) : xL (sumZ (nz (fz x * fz y)) (nx (fz x * fz y) (fe x + fe y)) (fz u) (fe u)) (min (nx (fz x * fz y) (fe x + fe y)) (fe u)) mode = fuL x y u mode := by
  unfold fuL xL fuZ
  by_cases h0 : sumZ (fz x * fz y) (fe x + fe y) (fz u) (fe u) = 0
  · rw [if_pos ((sum_norm0 _ _ _ _).2 h0), if_pos h0]
  · rw [if_neg (fun h => h0 ((sum_norm0 _ _ _ _).1 h)), if_neg h0, (rd_norm_sum _ _ _ _ _).2]

set_option maxHeartbeats 4000000 in
theorem implFusedIn_any (x y u : Nat) (mode : Int) (w : World) (hx : x < 4294967296) (hy : y < 4294967296) (hu : u < 4294967296) (hT : TabZ w) :
    Calls Tryz.prog 21 #[.float .f32 x, .float .f32 y, .float .f32 u, .int .i64 mode] w fun e w' => e = .returned (.tuple #[.float .f32 (oqF [x, y, u] mode (fuF x y u mode)), .int .i64 (oqL [x, y, u] mode (fuL x y u mode)), .int .i64 (ckE [x, y, u] mode)]) ∧ Below w.heap.size w w' := by
  have Hxy := Lib.hid (And.intro hx (And.intro hy hu))
  obtain ⟨w1, hw1⟩ : ∃ w1, w1 = w.alloc (.cells #[.float .f32 x, .float .f32 y, .float .f32 u] 37) := ⟨_, rfl⟩
  have Hr : Hid (Rd w1 w1.heap.size (some ⟨w.heap.size, 0, none⟩) (fs [x, y, u])) := Lib.hid (by rw [hw1]; exact rd_three _ _ _ _ _)
  have Bel1 : Hid (Below w.heap.size w w1) := Lib.hid (by rw [hw1]; exact belAlloc1 _ _)
  have Tb1 := Lib.hid (hT.next Bel1.out)
  have Hw := Lib.hid hw1
  clear hx hy hu hw1 hT
  go_enter Tryz.func21, Tryz.ntmps21
  go_wp2_with fail
  rw [← Hw.out]
  refine (check_any mode [x, y, u] _ 3 3 _ w1 Hr.out rfl (by omega) (by have h := Hxy.out; simp; exact h)).mono ?_
  rintro e w9 ⟨rfl, rfl⟩
  by_cases hc : ckE [x, y, u] mode = 0
  · have Hc := Lib.hid hc
    obtain ⟨hf1, hf2, hf3, hm1, hm2⟩ := ckE_zero3 hc
    have Hf := Lib.hid (And.intro hf1 (And.intro hf2 hf3))
    have Hmo := Lib.hid (And.intro hm1 hm2)
    obtain ⟨e1, e2⟩ := fe_small hf1
    obtain ⟨e3, e4⟩ := fe_small hf2
    obtain ⟨e5, e6⟩ := fe_small hf3
    rw [hc]
    clear hc hf1 hf2 hf3 hm1 hm2
    go_wp2_with fail
    refine (exactOf_any x _ Hxy.out.1 Hf.out.1 Tb1.out).mono ?_
    rintro e w2 ⟨S2, A2, n2, c2, rfl, hzo, hb⟩
    rw [show nx (ofM x) (ofP x) = fe x from rfl]
    have Zx2 : Hid (ZV w2 (fz x) S2 A2 n2 c2) := Lib.hid hzo.zv
    have Hn2 : Hid ((n2 : Int) ≤ 1) := Lib.hid (fz_len Hf.out.1 hzo.zv.len)
    clear hzo
    have Sz2 := Lib.hid (Below.size hb)
    have Bel2 := Lib.hid (belNext Bel1.out hb)
    have Tb2 := Lib.hid (Tb1.out.next hb)
    clear hb Bel1 Tb1
    go_wp2_with fail
    refine (exactOf_any y _ Hxy.out.2.1 Hf.out.2.1 Tb2.out).mono ?_
    rintro e w3 ⟨S3, A3, n3, c3, rfl, hzo, hb⟩
    rw [show nx (ofM y) (ofP y) = fe y from rfl]
    have Zy3 : Hid (ZV w3 (fz y) S3 A3 n3 c3) := Lib.hid hzo.zv
    have Hn3 : Hid ((n3 : Int) ≤ 1) := Lib.hid (fz_len Hf.out.2.1 hzo.zv.len)
    clear hzo
    have Sz3 := Lib.hid (Below.size hb)
    have Bel3 := Lib.hid (belNext Bel2.out hb)
    have Tb3 := Lib.hid (Tb2.out.next hb)
    have Zx3 := Lib.hid (Zx2.out.next hb)
    clear hb Bel2 Tb2 Zx2
    go_wp2_with fail
    refine (exTimes_any (fz x) S2 (fe x) (sgn x) (fz y) S3 (fe y) (sgn y) A2 A3 n2 c2 n3 c3 _ Zx3.out Zy3.out (by have := Hn2.out; omega) (by have := Hn3.out; omega) (by omega) (by omega) (by omega) (by omega) (by have := sgn_pm x; omega) (by have := sgn_pm x; omega) (by have := sgn_pm y; omega) (by have := sgn_pm y; omega)).mono ?_
    rintro e w4 ⟨S4, A4, n4, c4, rfl, hzo, hb⟩
    have Zp4 : Hid (ZV w4 (fz x * fz y) S4 A4 n4 c4) := Lib.hid hzo.zv
    have Hn4 : Hid ((n4 : Int) ≤ 2) := Lib.hid (mul_small (fz_small Hf.out.1) (fz_small Hf.out.2.1) hzo.zv.len)
    obtain ⟨E4, hE4⟩ : ∃ E4, E4 = fe x + fe y := ⟨_, rfl⟩
    obtain ⟨g4, hg4⟩ : ∃ g4, g4 = sgn x * sgn y := ⟨_, rfl⟩
    rw [← hE4, ← hg4]
    have HE4 := Lib.hid hE4
    have Hg4 := Lib.hid hg4
    have e7 : -298 ≤ E4 := by omega
    have e8 : E4 ≤ 256 := by omega
    clear hzo hE4 hg4
    have Sz4 := Lib.hid (Below.size hb)
    have Bel4 := Lib.hid (belNext Bel3.out hb)
    have Tb4 := Lib.hid (Tb3.out.next hb)
    have Zx4 := Lib.hid (Zx3.out.next hb)
    have Zy4 := Lib.hid (Zy3.out.next hb)
    clear hb Bel3 Tb3 Zx3 Zy3
    go_wp2_with fail
    refine (exactOf_any u _ Hxy.out.2.2 Hf.out.2.2 Tb4.out).mono ?_
    rintro e w5 ⟨S5, A5, n5, c5, rfl, hzo, hb⟩
    rw [show nx (ofM u) (ofP u) = fe u from rfl]
    have Zu5 : Hid (ZV w5 (fz u) S5 A5 n5 c5) := Lib.hid hzo.zv
    have Hn5 : Hid ((n5 : Int) ≤ 1) := Lib.hid (fz_len Hf.out.2.2 hzo.zv.len)
    clear hzo
    have Sz5 := Lib.hid (Below.size hb)
    have Bel5 := Lib.hid (belNext Bel4.out hb)
    have Tb5 := Lib.hid (Tb4.out.next hb)
    have Zx5 := Lib.hid (Zx4.out.next hb)
    have Zy5 := Lib.hid (Zy4.out.next hb)
    have Zp5 := Lib.hid (Zp4.out.next hb)
    clear hb Bel4 Tb4 Zx4 Zy4 Zp4
    go_wp2_with fail
    refine (exPlus_any (fz x * fz y) S4 E4 g4 (fz u) S5 (fe u) (sgn u) A4 A5 n4 c4 n5 c5 _ Zp5.out Zu5.out (by have := Hn4.out; omega) (by have := Hn5.out; omega) (by omega) (by omega) (by omega) (by omega) Tb5.out).mono ?_
    rintro e w6 ⟨S6, A6, n6, c6, rfl, hzo, hb⟩
    have Zr6 : Hid (ZV w6 (fuZ x y u) S6 A6 n6 c6) := Lib.hid (hzo.zv.cast_ (by rw [HE4.out]; rfl))
    have Hn6 : Hid ((n6 : Int) ≤ 21) := Lib.hid (sum_small (mul_bound Hf.out.1 Hf.out.2.1) (Nat.lt_of_lt_of_le (fz_small Hf.out.2.2) (by decide)) (by omega) (by omega) hzo.zv.len)
    obtain ⟨E6, hE6⟩ : ∃ E6, E6 = min E4 (fe u) := ⟨_, rfl⟩
    obtain ⟨g6, hg6⟩ : ∃ g6, g6 = sgS g4 (sgn u) := ⟨_, rfl⟩
    rw [← hE6, ← hg6]
    have HE6 := Lib.hid hE6
    have Hg6 := Lib.hid hg6
    have e9 : -1000 ≤ E6 := by omega
    have e10 : E6 ≤ 1000 := by omega
    clear hzo hE6 hg6
    have Sz6 := Lib.hid (Below.size hb)
    have Bel6 := Lib.hid (belNext Bel5.out hb)
    have Tb6 := Lib.hid (Tb5.out.next hb)
    have Zx6 := Lib.hid (Zx5.out.next hb)
    have Zy6 := Lib.hid (Zy5.out.next hb)
    have Zp6 := Lib.hid (Zp5.out.next hb)
    have Zu6 := Lib.hid (Zu5.out.next hb)
    clear hb Bel5 Tb5 Zx5 Zy5 Zp5 Zu5
    go_wp2_with fail
    refine (exRounded_any (fuZ x y u) S6 E6 g6 mode A6 n6 c6 _ Zr6.out (by have := Hn6.out; omega) (by omega) (by omega) Hmo.out.1 Hmo.out.2 Tb6.out).mono ?_
    rintro e w7 ⟨rfl, hb⟩
    have Sz7 := Lib.hid (Below.size hb)
    have Bel7 := Lib.hid (belNext Bel6.out hb)
    have Tb7 := Lib.hid (Tb6.out.next hb)
    have Zx7 := Lib.hid (Zx6.out.next hb)
    have Zy7 := Lib.hid (Zy6.out.next hb)
    have Zp7 := Lib.hid (Zp6.out.next hb)
    have Zu7 := Lib.hid (Zu6.out.next hb)
    have Zr7 := Lib.hid (Zr6.out.next hb)
    clear hb Bel6 Tb6 Zx6 Zy6 Zp6 Zu6 Zr6
    go_wp2_with fail
    have Hres : Hid (oqF [x, y, u] mode (fuF x y u mode) = xF (fuZ x y u) E6 g6 mode ∧ oqL [x, y, u] mode (fuL x y u mode) = xL (fuZ x y u) E6 mode) := Lib.hid (by unfold oqF oqL; rw [if_pos Hc.out, if_pos Hc.out, HE6.out, Hg6.out, HE4.out, Hg4.out]; exact ⟨rfl, rfl⟩)
    go_ret3
    exact ⟨ret_flo Hres.out.1.symm Hres.out.2.symm Hc.out.symm, Bel7.out⟩
  · obtain ⟨cd, hcd⟩ : ∃ cd, cd = ckE [x, y, u] mode := ⟨_, rfl⟩
    rw [← hcd] at hc
    have Hcd := Lib.hid hcd
    have hc2 : (cd == 0) = false := beq_false_of_ne hc
    have hc3 : (cd != 0) = true := by simp [hc]
    have Hres : Hid (oqF [x, y, u] mode (fuF x y u mode) = 0 ∧ oqL [x, y, u] mode (fuL x y u mode) = 0) := Lib.hid (by unfold oqF oqL; rw [if_neg (by rw [← hcd]; exact hc), if_neg (by rw [← hcd]; exact hc)]; exact ⟨rfl, rfl⟩)
    rw [← hcd]
    clear hcd
    go_wp2_with fail
    go_ret3
    exact ⟨ret_flo Hres.out.1.symm Hres.out.2.symm Hcd.out, Bel1.out⟩

set_option maxHeartbeats 4000000 in
theorem specFusedIn_any (x y u : Nat) (mode : Int) (w : World) (hx : x < 4294967296) (hy : y < 4294967296) (hu : u < 4294967296) :
    Calls Tryz.prog 20 #[.float .f32 x, .float .f32 y, .float .f32 u, .int .i64 mode] w fun e w' => e = .returned (.tuple #[.float .f32 (oqF [x, y, u] mode (fuF x y u mode)), .int .i64 (oqL [x, y, u] mode (fuL x y u mode)), .int .i64 (ckE [x, y, u] mode)]) ∧ Below w.heap.size w w' := by
  have Hxy := Lib.hid (And.intro hx (And.intro hy hu))
  obtain ⟨w1, hw1⟩ : ∃ w1, w1 = w := ⟨_, rfl⟩
  have Bel1 : Hid (Below w.heap.size w w1) := Lib.hid (by rw [hw1]; exact Below.refl _ _)
  have Hw := Lib.hid hw1
  clear hx hy hu hw1
  go_enter Tryz.func20, Tryz.ntmps20
  go_wp2_with fail
  rw [← Hw.out]
  refine (specTwo_any x y mode _ Hxy.out.1 Hxy.out.2.1).mono ?_
  rintro e w2 ⟨rfl, hb⟩
  obtain ⟨c0, hc0⟩ : ∃ c0, c0 = ckE [x, y] mode := ⟨_, rfl⟩
  rw [← hc0]
  have Hc0 := Lib.hid hc0
  clear hc0
  have Sz2 := Lib.hid (Below.size hb)
  have Bel2 := Lib.hid (belNext Bel1.out hb)
  clear hb Bel1
  go_wp2_with fail
  by_cases hf : fin32 u = true
  · have H3 : Hid (ckE [x, y, u] mode = c0) := Lib.hid (by rw [ckE_three, if_pos hf, Hc0.out])
    refine (fin_yes u _ Hxy.out.2.2 hf).mono ?_
    rintro e w9 ⟨rfl, rfl⟩
    clear hf
    by_cases hc : c0 = 0
    · have Hc : Hid (ckE [x, y, u] mode = 0) := Lib.hid (by rw [H3.out, hc])
      obtain ⟨hf1, hf2, hf3, hm1, hm2⟩ := ckE_zero3 Hc.out
      have Hf := Lib.hid (And.intro hf1 (And.intro hf2 hf3))
      have Hmo := Lib.hid (And.intro hm1 hm2)
      obtain ⟨e1, e2⟩ := fe_small hf1
      obtain ⟨e3, e4⟩ := fe_small hf2
      obtain ⟨e5, e6⟩ := fe_small hf3
      have Hres : Hid (oqF [x, y, u] mode (fuF x y u mode) = fuF x y u mode ∧ oqL [x, y, u] mode (fuL x y u mode) = fuL x y u mode) := Lib.hid (by unfold oqF oqL; rw [if_pos Hc.out, if_pos Hc.out]; exact ⟨rfl, rfl⟩)
      clear H3 Hc0
      subst hc
      clear hf1 hf2 hf3 hm1 hm2
      go_wp2_with fail
      refine (specOfD_any x _ Hxy.out.1 Hf.out.1).mono ?_
      rintro e w3 ⟨S3, A3, n3, c3, rfl, hzo, hb⟩
      rw [show nx (ofM x) (ofP x) = fe x from rfl]
      have Zx3 : Hid (ZV w3 (fz x) S3 A3 n3 c3) := Lib.hid hzo.zv
      have Hn3 : Hid ((n3 : Int) ≤ 1) := Lib.hid (fz_len Hf.out.1 hzo.zv.len)
      clear hzo
      have Sz3 := Lib.hid (Below.size hb)
      have Bel3 := Lib.hid (belNext Bel2.out hb)
      clear hb Bel2
      go_wp2_with fail
      refine (specOfD_any y _ Hxy.out.2.1 Hf.out.2.1).mono ?_
      rintro e w4 ⟨S4, A4, n4, c4, rfl, hzo, hb⟩
      rw [show nx (ofM y) (ofP y) = fe y from rfl]
      have Zy4 : Hid (ZV w4 (fz y) S4 A4 n4 c4) := Lib.hid hzo.zv
      have Hn4 : Hid ((n4 : Int) ≤ 1) := Lib.hid (fz_len Hf.out.2.1 hzo.zv.len)
      clear hzo
      have Sz4 := Lib.hid (Below.size hb)
      have Bel4 := Lib.hid (belNext Bel3.out hb)
      have Zx4 := Lib.hid (Zx3.out.next hb)
      clear hb Bel3 Zx3
      go_wp2_with fail
      refine (specMulD_any (fz x) S3 (fe x) (fz y) S4 (fe y) A3 A4 n3 c3 n4 c4 _ Zx4.out Zy4.out (by have := Hn3.out; omega) (by have := Hn4.out; omega) (by omega) (by omega) (by omega) (by omega)).mono ?_
      rintro e w5 ⟨S5, A5, n5, c5, rfl, hzo, hb⟩
      obtain ⟨P, hP⟩ : ∃ P, P = fz x * fz y := ⟨_, rfl⟩
      obtain ⟨q, hq⟩ : ∃ q, q = fe x + fe y := ⟨_, rfl⟩
      rw [← hP, ← hq]
      rw [← hP] at hzo
      obtain ⟨v, hv⟩ : ∃ v, v = nx P q := ⟨_, rfl⟩
      rw [← hv]
      have HP := Lib.hid hP
      have Hq := Lib.hid hq
      have Hv := Lib.hid hv
      have Zp5 : Hid (ZV w5 (nz P) S5 A5 n5 c5) := Lib.hid hzo.zv
      have Hpl : Hid ((limbs P.natAbs).length ≤ 2) := Lib.hid (by have h := mul_small (fz_small Hf.out.1) (fz_small Hf.out.2.1) rfl; rw [← hP] at h; omega)
      have Hpb : Hid ((nz P).natAbs < 281474976710656) := Lib.hid (Nat.lt_of_le_of_lt (nz_le P) (by rw [hP]; exact mul_bound Hf.out.1 Hf.out.2.1))
      have Hn5 : Hid ((n5 : Int) ≤ 2) := Lib.hid (by have h := hzo.zv.len; have h2 := limbs_len_mono (nz_le P); have h3 := Hpl.out; omega)
      have hv1 : -298 ≤ v ∧ v ≤ 256 := by
        rw [hv]
        by_cases h0 : P = 0
        · rw [h0, nx_zero]; omega
        · rw [nx_ne h0, tz_odd (by rw [hP] at h0 ⊢; exact mul_odd h0)]; omega
      obtain ⟨hv1, hv2⟩ := hv1
      clear hzo hP hq hv
      have Sz5 := Lib.hid (Below.size hb)
      have Bel5 := Lib.hid (belNext Bel4.out hb)
      have Zx5 := Lib.hid (Zx4.out.next hb)
      have Zy5 := Lib.hid (Zy4.out.next hb)
      clear hb Bel4 Zx4 Zy4
      go_wp2_with fail
      refine (specOfD_any u _ Hxy.out.2.2 Hf.out.2.2).mono ?_
      rintro e w6 ⟨S6, A6, n6, c6, rfl, hzo, hb⟩
      rw [show nx (ofM u) (ofP u) = fe u from rfl]
      have Zu6 : Hid (ZV w6 (fz u) S6 A6 n6 c6) := Lib.hid hzo.zv
      have Hn6 : Hid ((n6 : Int) ≤ 1) := Lib.hid (fz_len Hf.out.2.2 hzo.zv.len)
      clear hzo
      have Sz6 := Lib.hid (Below.size hb)
      have Bel6 := Lib.hid (belNext Bel5.out hb)
      have Zx6 := Lib.hid (Zx5.out.next hb)
      have Zy6 := Lib.hid (Zy5.out.next hb)
      have Zp6 := Lib.hid (Zp5.out.next hb)
      clear hb Bel5 Zx5 Zy5 Zp5
      go_wp2_with fail
      refine (bitB_any x _ Hxy.out.1 Hf.out.1).mono ?_
      rintro e w9 ⟨rfl, rfl⟩
      go_wp2_with fail
      refine (bitB_any y _ Hxy.out.2.1 Hf.out.2.1).mono ?_
      rintro e w9 ⟨rfl, rfl⟩
      go_wp2_with fail
      refine (bitB_any u _ Hxy.out.2.2 Hf.out.2.2).mono ?_
      rintro e w9 ⟨rfl, rfl⟩
      go_wp2_with fail
      refine (specSum_any (nz P) S5 v (fz u) S6 (fe u) mode A5 A6 n5 c5 n6 c6 (neg32 x != neg32 y) (neg32 u) _ Zp6.out Zu6.out (by have := Hn5.out; omega) (by have := Hn6.out; omega) (by omega) (by omega) (by omega) (by omega) (by have h := sum_small Hpb.out (Nat.lt_of_lt_of_le (fz_small Hf.out.2.2) (by decide)) (show v - fe u ≤ 450 by omega) (show fe u - v ≤ 450 by omega) rfl; omega) Hmo.out.1 Hmo.out.2).mono ?_
      rintro e w7 ⟨rfl, hb⟩
      rw [Hv.out, HP.out, Hq.out, fu_eq, fu_eqL]
      have Sz7 := Lib.hid (Below.size hb)
      have Bel7 := Lib.hid (belNext Bel6.out hb)
      have Zx7 := Lib.hid (Zx6.out.next hb)
      have Zy7 := Lib.hid (Zy6.out.next hb)
      have Zp7 := Lib.hid (Zp6.out.next hb)
      have Zu7 := Lib.hid (Zu6.out.next hb)
      clear hb Bel6 Zx6 Zy6 Zp6 Zu6
      go_wp2_with fail
      go_ret3
      exact ⟨ret_flo Hres.out.1.symm Hres.out.2.symm Hc.out.symm, Bel7.out⟩
    · have hc2 : (c0 == 0) = false := beq_false_of_ne hc
      have hc3 : (c0 != 0) = true := by simp [hc]
      have Hres : Hid (oqF [x, y, u] mode (fuF x y u mode) = 0 ∧ oqL [x, y, u] mode (fuL x y u mode) = 0) := Lib.hid (by unfold oqF oqL; rw [if_neg (by rw [H3.out]; exact hc), if_neg (by rw [H3.out]; exact hc)]; exact ⟨rfl, rfl⟩)
      go_wp2_with fail
      go_ret3
      exact ⟨ret_flo Hres.out.1.symm Hres.out.2.symm H3.out.symm, Bel2.out⟩
  · have hf2 : fin32 u = false := by simpa using hf
    have Hf2 := Lib.hid hf2
    have H3 : Hid (ckE [x, y, u] mode = 1) := Lib.hid (by rw [ckE_three, if_neg hf])
    have Hres : Hid (oqF [x, y, u] mode (fuF x y u mode) = 0 ∧ oqL [x, y, u] mode (fuL x y u mode) = 0) := Lib.hid (by unfold oqF oqL; rw [if_neg (by rw [H3.out]; omega), if_neg (by rw [H3.out]; omega)]; exact ⟨rfl, rfl⟩)
    clear hf hf2
    refine (finB_any u _ Hxy.out.2.2).mono ?_
    rintro e w3 ⟨rfl, hb⟩
    rw [Hf2.out]
    have Sz3 := Lib.hid (Below.size hb)
    have Bel3 := Lib.hid (belNext Bel2.out hb)
    clear hb Bel2
    go_wp2_with fail
    go_ret3
    exact ⟨ret_flo Hres.out.1.symm Hres.out.2.symm H3.out.symm, Bel3.out⟩

end Go.Proofs.YtcjamfoiilgfoaaGreatDoor
/- ErrorOfRounding, of the program and of the model. -/
namespace Go.Proofs.YtcjamfoiilgfoaaGreatDoor
set_option maxRecDepth 100000
open Go.RowKit
set_option linter.unusedSimpArgs false
set_option linter.unusedVariables false
attribute [local go_sem ↓] Go.wp_at_zero Go.wp_at_succ

theorem s32_fin (s : Bool) {m : Nat} {e : Int} (h0 : m < 16777216) (h1 : -149 ≤ e) (h2 : e ≤ 104) : fin32 (s32 s m e) = true := by
  have lt := Ieee.single.nearest_lt s m e
  have hlt : s32 s m e < 4294967296 := lt
  obtain ⟨m', p', h, _⟩ := (repr32 (m := m) (p := e) h0 h1 h2).read s
  have h' : Ieee.single.read (s32 s m e) = .number s m' p' := h
  cases hf : fin32 (s32 s m e)
  · exfalso
    by_cases hn : nan32 (s32 s m e) = true
    · obtain ⟨s', t, x⟩ := read32_nan _ (by simpa [nan32] using hn)
      rw [h'] at x; cases x
    · have hi : s32 s m e % 2147483648 = 2139095040 := by unfold fin32 at hf; unfold nan32 at hn; simp at hf hn; omega
      have x := read32_inf _ hlt hi
      rw [h'] at x; cases x
  · rfl
theorem s32_fin2 (s : Bool) {m : Nat} {e : Int} (h0 : m ≤ 16777216) (h1 : -149 ≤ e) (h2 : e ≤ 104) (h3 : (blen m : Int) + e ≤ 128) : fin32 (s32 s m e) = true := by
  by_cases h : m = 16777216
  · subst h
    rw [blen_top] at h3
    rw [s32_same s (repr_top e)]
    exact s32_fin s (by decide) (by omega) (by omega)
  · exact s32_fin s (by omega) h1 h2
/-- what does not overflow is finite -/
theorem rd_finite {z E mode : Int} (h : rdL z E mode ≠ 5) : fin32 (rdF z E mode) = true := by
  unfold rdF rdL at *
  by_cases h0 : z = 0
  · rw [if_pos h0]; decide
  · rw [if_neg h0] at h ⊢
    by_cases ho : rO mode z E = true
    · rw [if_pos ho] at h; exact absurd rfl h
    · rw [if_neg ho]
      have hv : z.natAbs ≠ 0 := by omega
      have ho2 : (blen (rM mode z.sign z.natAbs (rQ z.natAbs E - E)) : Int) + rQ z.natAbs E ≤ 128 := by
        unfold rO at ho; simp at ho; exact ho
      obtain ⟨h1, h2⟩ := rQ_le hv mode z.sign E ho2
      exact s32_fin2 _ (rM_le hv _ _ _) h1 h2 ho2
theorem rdL_cases (z E mode : Int) : rdL z E mode = 0 ∨ rdL z E mode = 1 ∨ rdL z E mode = 3 ∨ rdL z E mode = 5 := by
  unfold rdL; split
  · simp
  · split
    · simp
    · split
      · split <;> simp
      · simp
/-- the error of a rounding -/
def erS (z E k : Int) : Int := sumZ (fz (rdF z E k)) (fe (rdF z E k)) (-z) E
def erM (z E k : Int) : Int := min (fe (rdF z E k)) E
noncomputable def erZ (S : Int) (xs : List Int) (E k : Int) : Int := if isD S xs E = true then if 0 ≤ k ∧ k ≤ 4 then if rdL (S * magW S xs) E k = 5 then 0 else fdZ (erS (S * magW S xs) E k) (erM (S * magW S xs) E k) else 0 else 0
noncomputable def erX (S : Int) (xs : List Int) (E k : Int) : Int := if isD S xs E = true then if 0 ≤ k ∧ k ≤ 4 then if rdL (S * magW S xs) E k = 5 then 0 else fdX (erS (S * magW S xs) E k) (erM (S * magW S xs) E k) else 0 else 0
noncomputable def erE (S : Int) (xs : List Int) (E k : Int) : Int := if isD S xs E = true then if 0 ≤ k ∧ k ≤ 4 then if rdL (S * magW S xs) E k = 5 then 5 else fdE (erS (S * magW S xs) E k) (erM (S * magW S xs) E k) else 2 else 1
theorem er_yes {S z E k : Int} {xs : List Int} (h : isD S xs E = true) (hz : isZ z S xs) (hk : 0 ≤ k ∧ k ≤ 4) (h5 : ¬ rdL z E k = 5) : erZ S xs E k = fdZ (erS z E k) (erM z E k) ∧ erX S xs E k = fdX (erS z E k) (erM z E k) ∧ erE S xs E k = fdE (erS z E k) (erM z E k) := by
  unfold erZ erX erE; rw [if_pos h, if_pos h, if_pos h, if_pos hk, if_pos hk, if_pos hk, val_isZ hz, if_neg h5, if_neg h5, if_neg h5]; exact ⟨rfl, rfl, rfl⟩
theorem er_over {S z E k : Int} {xs : List Int} (h : isD S xs E = true) (hz : isZ z S xs) (hk : 0 ≤ k ∧ k ≤ 4) (h5 : rdL z E k = 5) : erZ S xs E k = 0 ∧ erX S xs E k = 0 ∧ erE S xs E k = 5 := by
  unfold erZ erX erE; rw [if_pos h, if_pos h, if_pos h, if_pos hk, if_pos hk, if_pos hk, val_isZ hz, if_pos h5, if_pos h5, if_pos h5]; exact ⟨rfl, rfl, rfl⟩
theorem er_range {S E k : Int} {xs : List Int} (h : isD S xs E = true) (hk : ¬ (0 ≤ k ∧ k ≤ 4)) : erZ S xs E k = 0 ∧ erX S xs E k = 0 ∧ erE S xs E k = 2 := by
  unfold erZ erX erE; rw [if_pos h, if_pos h, if_pos h, if_neg hk, if_neg hk, if_neg hk]; exact ⟨rfl, rfl, rfl⟩
theorem er_no {S E k : Int} {xs : List Int} (h : isD S xs E = false) : erZ S xs E k = 0 ∧ erX S xs E k = 0 ∧ erE S xs E k = 1 := by
  unfold erZ erX erE; rw [h]; exact ⟨rfl, rfl, rfl⟩
theorem er_len (S : Int) (xs : List Int) (E k : Int) : (limbs (erZ S xs E k).natAbs).length ≤ 100 := by
  unfold erZ
  split
  · split
    · split
      · simp [limbs_zero]
      · exact fd_len _ _
    · simp [limbs_zero]
  · simp [limbs_zero]
theorem and4_5 : bits .and .i64 5 4 = 4 := by decide +kernel
theorem and4_no {L : Int} (h : L = 0 ∨ L = 1 ∨ L = 3 ∨ L = 5) (h5 : ¬ L = 5) : bits .and .i64 L 4 = 0 := by
  rcases h with rfl | rfl | rfl | rfl
  · decide +kernel
  · decide +kernel
  · decide +kernel
  · exact absurd rfl h5

set_option maxHeartbeats 2000000 in
theorem specFitH_any (z E S E' : Int) (A : Option Addr) (n c lo hi : Nat) (w : World) (hz : ZO w lo hi (nz z) S A n c) (hm : n ≤ 1048580) (hE : E' = nx z E) (hlo : lo ≤ w.heap.size) :
    Calls Tryz.prog 27 #[.agg #[.int .i64 S, .slice A n c, .int .i64 E']] w fun e w' => ∃ Sr Ar nr cr, e = .returned (.tuple #[.agg #[.int .i64 Sr, .slice Ar nr cr, .int .i64 (fdX z E)], .int .i64 (fdE z E)]) ∧ ZO w' lo hi (fdZ z E) Sr Ar nr cr ∧ Below w.heap.size w w' := by
  have hst := store_int Tryz.prog
  have hst2 := store_slice Tryz.prog
  obtain ⟨w1, hw1, hb1, hb3, hb4⟩ := dbox_res w S A n c E' 30 30
  have RsD1 := Lib.hid hb3
  have Hlt : Hid (w.heap.size + 1 < w1.heap.size ∧ hi ≤ w.heap.size) := Lib.hid ⟨hb3.2, hz.2.2.2.2⟩
  have Zo1 := Lib.hid (hz.next hb4)
  have Hw := Lib.hid hw1
  have Bx1 := Lib.hid hb1
  have Bel1 := Lib.hid hb4
  have HS : Hid (S = (nz z).sign) := Lib.hid hz.1
  have Hn : Hid ((li (limbs (nz z).natAbs)).length = n) := Lib.hid (by rw [li_len]; exact hz.2.1)
  have Hm := Lib.hid hm
  have HE := Lib.hid hE
  have Hlo := Lib.hid hlo
  clear hz hw1 hb1 hb3 hb4 hE hlo
  go_enter Tryz.func27, Tryz.ntmps27
  go_wp2_with fail
  rw [← Hw.out]
  obtain ⟨⟨hBx0, hBx1, hBx2⟩, hBx3⟩ := Bx1.out
  obtain ⟨⟨hRsD0, hRsD1, hRsD2, hRsD3, hRsD4, hRsD5⟩, hRsD6⟩ := RsD1.out
  refine (specIsD_any S A n c E' (li (limbs (nz z).natAbs)) _ (by rw [← vs_li]; exact Zo1.out.zv.rd) Hn.out Hm.out).mono ?_
  rintro e w2 ⟨rfl, hb⟩
  have Sz2 := Lib.hid (Below.size hb)
  have Bel2 := Lib.hid (belNext Bel1.out hb)
  have Bx2 := Lib.hid (Bx1.out.next hb)
  have RsD2 := Lib.hid (RsD1.out.next hb)
  have Zo2 := Lib.hid (Zo1.out.next hb)
  clear hb Bel1 Bx1 RsD1 Zo1 hBx0 hBx1 hBx2 hBx3 hRsD0 hRsD1 hRsD2 hRsD3 hRsD4 hRsD5 hRsD6
  obtain ⟨⟨hBx0, hBx1, hBx2⟩, hBx3⟩ := Bx2.out
  obtain ⟨⟨hRsD0, hRsD1, hRsD2, hRsD3, hRsD4, hRsD5⟩, hRsD6⟩ := RsD2.out
  by_cases hf : okN z E
  · have hi1 := isD_nrm HS.out hf
    rw [← HE.out] at hi1
    rw [hi1]
    have Hf := Lib.hid hf
    clear hi1 hf
    go_wp2_with fail
    refine bodyPost_ret (v := .tuple #[.agg #[.int .i64 S, .slice A n c, .int .i64 E'], .int .i64 0]) (by simp [results, Tryz.results27, go_sem, hRsD0, hRsD1, hRsD2]) rfl ⟨S, A, n, c, by rw [(fd_yes Hf.out).2.1, (fd_yes Hf.out).2.2, HE.out], ?_, ?_⟩
    · rw [(fd_yes Hf.out).1]; exact (((Zo2.out.setCell (.inr (by have zz0 := Hlt.out; have zy := Hlo.out; have zz1 := Sz2.out; first | omega | (simp; done) | (simp; omega))) _).setCell (.inr (by have zz0 := Hlt.out; have zy := Hlo.out; have zz1 := Sz2.out; first | omega | (simp; done) | (simp; omega))) _).setCell (.inr (by have zz0 := Hlt.out; have zy := Hlo.out; have zz1 := Sz2.out; first | omega | (simp; done) | (simp; omega))) _).wide (Nat.le_refl _) (by have zz0 := Hlt.out; have zy := Hlo.out; have zz1 := Sz2.out; first | omega | (simp; done) | (simp; omega)) (by have zz0 := Hlt.out; have zy := Hlo.out; have zz1 := Sz2.out; first | omega | (simp; done) | (simp; omega))
    · exact ((Bel2.out.setCell (by have zz0 := Hlt.out; have zy := Hlo.out; have zz1 := Sz2.out; first | omega | (simp; done) | (simp; omega)) _).setCell (by have zz0 := Hlt.out; have zy := Hlo.out; have zz1 := Sz2.out; first | omega | (simp; done) | (simp; omega)) _).setCell (by have zz0 := Hlt.out; have zy := Hlo.out; have zz1 := Sz2.out; first | omega | (simp; done) | (simp; omega)) _
  · have hi1 := not_isD_nrm HS.out hf
    rw [← HE.out] at hi1
    rw [hi1]
    have Hf := Lib.hid hf
    clear hi1 hf
    go_wp2_with fail
    refine bodyPost_ret (v := .tuple #[.agg #[.int .i64 0, .slice none 0 0, .int .i64 0], .int .i64 3]) (by simp [results, Tryz.results27, go_sem, hRsD0, hRsD1, hRsD2]) rfl ⟨0, none, 0, 0, by rw [(fd_no Hf.out).2.1, (fd_no Hf.out).2.2], ?_, ?_⟩
    · rw [(fd_no Hf.out).1]; exact ZO.zero (by have zz0 := Hlt.out; have zz1 := Sz2.out; simp; omega)
    · exact ((Bel2.out.setCell (by have zz0 := Hlt.out; have zz1 := Sz2.out; first | omega | (simp; done) | (simp; omega)) _).setCell (by have zz0 := Hlt.out; have zz1 := Sz2.out; first | omega | (simp; done) | (simp; omega)) _).setCell (by have zz0 := Hlt.out; have zz1 := Sz2.out; first | omega | (simp; done) | (simp; omega)) _


set_option maxHeartbeats 4000000 in
theorem implErrW_any (S : Int) (A : Option Addr) (n c : Nat) (xs : List Int) (E k : Int) (w : World) (hr : Rd w w.heap.size A (vi xs)) (hn : xs.length = n) (hm : n ≤ 1048580) (hc : n ≤ c) (hT : TabZ w) :
    Calls Tryz.prog 11 #[.agg #[.int .i64 S, .slice A n c, .int .i64 E], .int .i64 k] w fun e w' => ∃ Sr Ar nr cr, e = .returned (.tuple #[.agg #[.int .i64 Sr, .slice Ar nr cr, .int .i64 (erX S xs E k)], .int .i64 (erE S xs E k)]) ∧ ZO w' w.heap.size w'.heap.size (erZ S xs E k) Sr Ar nr cr ∧ Below w.heap.size w w' := by
  have hst := store_int Tryz.prog
  have hst2 := store_slice Tryz.prog
  obtain ⟨w1, hw1, hb1, hb3, hb4⟩ := dbox_res w S A n c E 30 30
  have RsD1 := Lib.hid hb3
  have Hlt : Hid (w.heap.size + 1 < w1.heap.size) := Lib.hid hb3.2
  have Hr := Lib.hid hr
  have Hn := Lib.hid hn
  have Hm := Lib.hid hm
  have Hc := Lib.hid hc
  have Hw := Lib.hid hw1
  have Bx1 := Lib.hid hb1
  have Bel1 := Lib.hid hb4
  clear hr hn hw1 hb1 hb3 hb4 hc
  have HT := Lib.hid hT
  clear hT
  go_enter Tryz.func11, Tryz.ntmps11
  go_wp2_with fail
  rw [← Hw.out]
  obtain ⟨⟨hBx0, hBx1, hBx2⟩, hBx3⟩ := Bx1.out
  obtain ⟨⟨hRsD0, hRsD1, hRsD2, hRsD3, hRsD4, hRsD5⟩, hRsD6⟩ := RsD1.out
  refine (implRoundW_any S A n c xs E k _ ((Hr.out.below Bel1.out).up Bel1.out.size) Hn.out Hm.out Hc.out (HT.out.next Bel1.out)).mono ?_
  rintro e w2 ⟨rfl, hb⟩
  have Sz2 := Lib.hid (Below.size hb)
  have Bel2 := Lib.hid (belNext Bel1.out hb)
  have Bx2 := Lib.hid (Bx1.out.next hb)
  have RsD2 := Lib.hid (RsD1.out.next hb)
  clear hb Bel1 Bx1 RsD1 hBx0 hBx1 hBx2 hBx3 hRsD0 hRsD1 hRsD2 hRsD3 hRsD4 hRsD5 hRsD6
  obtain ⟨⟨hBx0, hBx1, hBx2⟩, hBx3⟩ := Bx2.out
  obtain ⟨⟨hRsD0, hRsD1, hRsD2, hRsD3, hRsD4, hRsD5⟩, hRsD6⟩ := RsD2.out
  by_cases hW : isD S xs E = true
  · have HW := Lib.hid hW
    clear hW
    obtain ⟨z, hz, hok, hzv, hn100⟩ := isD_data HW.out Hr.out Hn.out Hc.out
    have Hz := Lib.hid hzv
    have Hzi := Lib.hid hz
    have hE1 := hok.2.1
    have hE2 := hok.2.2.1
    have Hodd : Hid (z ≠ 0 → z.natAbs % 2 = 1) := Lib.hid hok.2.2.2.2
    clear hz hzv hok
    by_cases hk : 0 ≤ k ∧ k ≤ 4
    · obtain ⟨g1, g2, g3⟩ := rdR_yes HW.out Hzi.out hk
      rw [g1, g2, g3]
      clear g1 g2 g3
      by_cases h5 : rdL z E k = 5
      · have Hres := Lib.hid (er_over HW.out Hzi.out hk h5)
        rw [h5]
        have hand := and4_5
        clear h5 hk
        go_wp2_with fail
        refine bodyPost_ret (v := .tuple #[.agg #[.int .i64 0, .slice none 0 0, .int .i64 0], .int .i64 5]) (by simp [results, Tryz.results11, go_sem, hRsD0, hRsD1, hRsD2]) rfl ⟨0, none, 0, 0, by rw [Hres.out.2.1, Hres.out.2.2], ?_, ?_⟩
        · rw [Hres.out.1]; exact ZO.zero (Nat.le_refl _)
        · exact ((Bel2.out.setCell (by have zz0 := Hlt.out; have zz1 := Sz2.out; first | omega | (simp; done) | (simp; omega)) _).setCell (by have zz0 := Hlt.out; have zz1 := Sz2.out; first | omega | (simp; done) | (simp; omega)) _).setCell (by have zz0 := Hlt.out; have zz1 := Sz2.out; first | omega | (simp; done) | (simp; omega)) _
      · have Hres := Lib.hid (er_yes HW.out Hzi.out hk h5)
        obtain ⟨b, hb9⟩ : ∃ b, b = rdF z E k := ⟨_, rfl⟩
        have Hb : Hid (b < 4294967296 ∧ fin32 b = true) := Lib.hid ⟨by rw [hb9]; exact (rdF_ok _ _ _).1, by rw [hb9]; exact rd_finite h5⟩
        have Hfe : Hid (-149 ≤ fe (rdF z E k) ∧ fe (rdF z E k) ≤ 128) := Lib.hid (by rw [← hb9]; exact fe_small Hb.out.2)
        have Hbe := Lib.hid hb9
        rw [← hb9]
        clear hb9
        obtain ⟨L, hL⟩ : ∃ L, L = rdL z E k := ⟨_, rfl⟩
        rw [← hL] at h5 ⊢
        have hand : bits .and .i64 L 4 = 0 := and4_no (by rw [hL]; exact rdL_cases _ _ _) h5
        clear hL h5 hk
        go_wp2_with fail
        refine (implOf_any b _ Hb.out.1 (HT.out.next Bel2.out)).mono ?_
        rintro e w3 ⟨S3, A3, n3, c3, rfl, hzo, hb⟩
        obtain ⟨v1, v2, v3⟩ := of_yes2 Hb.out.2
        rw [v1] at hzo
        rw [v2, v3, show nx (ofM b) (ofP b) = fe b from rfl]
        have Zo3 : Hid (ZO w3 w2.heap.size w3.heap.size (fz b) S3 A3 n3 c3) := Lib.hid hzo
        have Hn3 : Hid ((n3 : Int) ≤ 1) := Lib.hid (fz_len Hb.out.2 hzo.zv.len)
        obtain ⟨X3, hX3⟩ : ∃ X3, X3 = fe b := ⟨_, rfl⟩
        have HX3 := Lib.hid hX3
        have hx31 : -149 ≤ X3 ∧ X3 ≤ 128 := by rw [hX3]; exact fe_small Hb.out.2
        obtain ⟨hx31, hx32⟩ := hx31
        rw [← hX3]
        clear hzo v1 v2 v3 hX3 hand
        have Sz3 := Lib.hid (Below.size hb)
        have Bel3 := Lib.hid (belNext Bel2.out hb)
        have Bx3 := Lib.hid (Bx2.out.next hb)
        have RsD3 := Lib.hid (RsD2.out.next hb)
        clear hb Bel2 Bx2 RsD2 hBx0 hBx1 hBx2 hBx3 hRsD0 hRsD1 hRsD2 hRsD3 hRsD4 hRsD5 hRsD6
        obtain ⟨⟨hBx0, hBx1, hBx2⟩, hBx3⟩ := Bx3.out
        obtain ⟨⟨hRsD0, hRsD1, hRsD2, hRsD3, hRsD4, hRsD5⟩, hRsD6⟩ := RsD3.out
        go_upto_region 7 with fail
        obtain ⟨w4, hw4⟩ : ∃ w4, w4 = w3.alloc (.cells #[.int .i64 S3, .slice A3 n3 c3, .int .i64 X3] 30) := ⟨_, rfl⟩
        rw [← hw4]
        obtain ⟨f, hf⟩ : ∃ f, f = w3.heap.size := ⟨_, rfl⟩
        have hb : Below w3.heap.size w3 w4 := by rw [hw4]; exact belAlloc1 _ _
        have Ba4 : Hid (DBox w4 f S3 A3 n3 c3 X3) := Lib.hid (by rw [hw4, hf]; exact DBox.new _ _ _ _ _ _ _)
        have Hf : Hid (w3.heap.size ≤ f) := Lib.hid (by omega)
        rw [← hf]
        clear hw4 hf
        have Sz4 := Lib.hid (Below.size hb)
        have Bel4 := Lib.hid (belNext Bel3.out hb)
        have Bx4 := Lib.hid (Bx3.out.next hb)
        have RsD4 := Lib.hid (RsD3.out.next hb)
        have Zo4 := Lib.hid (Zo3.out.next hb)
        clear hb Bel3 Bx3 RsD3 Zo3 hBx0 hBx1 hBx2 hBx3 hRsD0 hRsD1 hRsD2 hRsD3 hRsD4 hRsD5 hRsD6
        obtain ⟨⟨hBx0, hBx1, hBx2⟩, hBx3⟩ := Bx4.out
        obtain ⟨⟨hBa0, hBa1, hBa2⟩, hBa3⟩ := Ba4.out
        obtain ⟨⟨hRsD0, hRsD1, hRsD2, hRsD3, hRsD4, hRsD5⟩, hRsD6⟩ := RsD4.out
        refine wp_region_held_drew (S := fun w' => (w'.cell? ⟨f, 0, none⟩ = some (.int .i64 S3) ∧ w'.cell? ⟨f, 1, none⟩ = some (.slice A3 n3 c3) ∧ w'.cell? ⟨f, 2, none⟩ = some (.int .i64 X3)) ∧ (w'.cell? ⟨w.heap.size, 0, none⟩ = some (.int .i64 S) ∧ w'.cell? ⟨w.heap.size, 1, none⟩ = some (.slice A n c) ∧ w'.cell? ⟨w.heap.size, 2, none⟩ = some (.int .i64 E))) (by kernel_rfl) ⟨Ba4.out.1, Bx4.out.1⟩ (fun hHeld => ?_)
        clear hBx0 hBx1 hBx2 hBx3 hBa0 hBa1 hBa2 hBa3 hRsD0 hRsD1 hRsD2 hRsD3 hRsD4 hRsD5 hRsD6
        refine wpAnyH_take (i := 0) (v := ?_) rfl (by kernel_rfl) (by kernel_rfl) (by kernel_rfl) (fun _ _ _ h => h) (Or.inl ⟨by rfl, ?_⟩) (by assumption) ?_
        rotate_left
        · (intro w hSw; (try dsimp only at hSw); go_simp; (try with_reducible rfl))
        try simp only [Act.put, List.setIfInBounds_toArray, List.set_cons_zero, List.set_cons_succ, List.getElem_toArray, List.getElem_cons_succ, List.getElem_cons_zero]
        refine wpAnyH_take (i := 1) (v := ?_) rfl (by kernel_rfl) (by kernel_rfl) (by kernel_rfl) (fun _ _ _ h => h) (Or.inl ⟨by rfl, ?_⟩) (by assumption) ?_
        rotate_left
        · (intro w hSw; (try dsimp only at hSw); go_simp; (try with_reducible rfl))
        try simp only [Act.put, List.setIfInBounds_toArray, List.set_cons_zero, List.set_cons_succ, List.getElem_toArray, List.getElem_cons_succ, List.getElem_cons_zero]
        refine wpAnyH_ready (rs := [2]) (by kernel_rfl) (by simp) ?_
        refine AllReadyH.cons rfl (fun K hK => ?_) AllReadyH.nil
        go_simp
        refine (implOppD_any S E A n c w4.drew Hz.out.sg.1 Hz.out.sg.2.1).mono ?_
        rintro e w5 ⟨rfl, hb0⟩
        have hb : Below w4.heap.size w4 w5 := belDrew hb0
        refine hK.out _ _ ⟨(Ba4.out.next hb).1, (Bx4.out.next hb).1⟩ (fun hHeld => ?_)
        clear hK K hb0
        have Sz5 := Lib.hid (Below.size hb)
        have Bel5 := Lib.hid (belNext Bel4.out hb)
        have Bx5 := Lib.hid (Bx4.out.next hb)
        have RsD5 := Lib.hid (RsD4.out.next hb)
        have Zo5 := Lib.hid (Zo4.out.next hb)
        have Ba5 := Lib.hid (Ba4.out.next hb)
        clear hb Bel4 Bx4 RsD4 Zo4 Ba4
        try simp only [Act.put, List.setIfInBounds_toArray, List.set_cons_zero, List.set_cons_succ, List.getElem_toArray, List.getElem_cons_succ, List.getElem_cons_zero]
        refine wpAnyH_ready (rs := [3]) (by kernel_rfl) (by simp) ?_
        refine AllReadyH.cons rfl (fun K hK => ?_) AllReadyH.nil
        go_simp
        refine (implPlusD_any (fz b) S3 X3 (-z) (-S) E A3 A n3 c3 n c w5 Zo5.out.zv (Hz.out.next Bel5.out).neg (by have := Hn3.out; omega) (by omega) (by omega) (by omega) (by omega) (by omega) (HT.out.next Bel5.out)).mono ?_
        rintro e w6 ⟨S6, A6, n6, c6, rfl, hzo, hb0⟩
        have hb : Below w5.heap.size w5 w6 := hb0
        have hz6 : sumZ (fz b) X3 (-z) E = erS z E k := by rw [HX3.out, Hbe.out]; rfl
        have hm6 : min X3 E = erM z E k := by rw [HX3.out, Hbe.out]; rfl
        rw [hz6] at hzo
        obtain ⟨q6, hq6⟩ : ∃ q6, q6 = erM z E k := ⟨_, rfl⟩
        rw [hm6, ← hq6]
        have hq61 : -4000 ≤ q6 ∧ q6 ≤ 4000 := by rw [hq6, ← hm6]; omega
        obtain ⟨hq61, hq62⟩ := hq61
        have Hq6 := Lib.hid hq6
        have Zr6 := Lib.hid hzo
        have Hn6 : Hid ((n6 : Int) ≤ 4000) := Lib.hid (by have h := sumZ_len (E := fe (rdF z E k)) (E' := E) (n := (limbs (fz (rdF z E k)).natAbs).length) rfl (Hz.out.neg).2.1 (by have := Hfe.out; omega) (by have := Hfe.out; omega) (by omega) (by omega); rw [show sumZ (fz (rdF z E k)) (fe (rdF z E k)) (-z) E = erS z E k from rfl, hzo.2.1] at h; rw [← Hbe.out, Zo5.out.2.1] at h; have := Hn3.out; omega)
        clear hzo hz6 hm6 hq6
        refine hK.out _ _ ⟨(Ba5.out.next hb).1, (Bx5.out.next hb).1⟩ (fun hHeld => ?_)
        clear hK K hb0
        have Sz6 := Lib.hid (Below.size hb)
        have Bel6 := Lib.hid (belNext Bel5.out hb)
        have Bx6 := Lib.hid (Bx5.out.next hb)
        have RsD6 := Lib.hid (RsD5.out.next hb)
        have Zo6 := Lib.hid (Zo5.out.next hb)
        have Ba6 := Lib.hid (Ba5.out.next hb)
        clear hb Bel5 Bx5 RsD5 Zo5 Ba5
        try simp only [Act.put, List.setIfInBounds_toArray, List.set_cons_zero, List.set_cons_succ, List.getElem_toArray, List.getElem_cons_succ, List.getElem_cons_zero]
        refine wpAnyH_ready (rs := [4]) (by kernel_rfl) (by simp) ?_
        refine AllReadyH.cons rfl (fun K hK => ?_) AllReadyH.nil
        go_simp
        refine (implLimD_any (erS z E k) S6 q6 A6 n6 c6 w6 Zr6.out.zv Hn6.out (by omega) (by omega) (HT.out.next Bel6.out)).mono ?_
        rintro e w7 ⟨S9, A9, n9, c9, rfl, hzo, hb0⟩
        have hb : Below w6.heap.size w6 w7 := hb0
        rw [Hq6.out]
        have Zp7 := Lib.hid (hzo.cast_ (by rw [Hq6.out]))
        clear hzo
        refine hK.out _ _ ⟨(Ba6.out.next hb).1, (Bx6.out.next hb).1⟩ (fun hHeld => ?_)
        clear hK K hb0
        have Sz7 := Lib.hid (Below.size hb)
        have Bel7 := Lib.hid (belNext Bel6.out hb)
        have Bx7 := Lib.hid (Bx6.out.next hb)
        have RsD7 := Lib.hid (RsD6.out.next hb)
        have Zo7 := Lib.hid (Zo6.out.next hb)
        have Ba7 := Lib.hid (Ba6.out.next hb)
        clear hb Bel6 Bx6 RsD6 Zo6 Ba6
        try simp only [Act.put, List.setIfInBounds_toArray, List.set_cons_zero, List.set_cons_succ, List.getElem_toArray, List.getElem_cons_succ, List.getElem_cons_zero]
        refine wpAnyH_take (i := 5) (v := ?_) rfl (by kernel_rfl) (by kernel_rfl) (by kernel_rfl) (fun _ _ _ h => h) (Or.inl ⟨by rfl, ?_⟩) (by assumption) ?_
        rotate_left
        · (intro w hSw; (try dsimp only at hSw); go_simp; (try with_reducible rfl))
        try simp only [Act.put, List.setIfInBounds_toArray, List.set_cons_zero, List.set_cons_succ, List.getElem_toArray, List.getElem_cons_succ, List.getElem_cons_zero]
        refine wpAnyH_take (i := 6) (v := ?_) rfl (by kernel_rfl) (by kernel_rfl) (by kernel_rfl) (fun _ _ _ h => h) (Or.inl ⟨by rfl, ?_⟩) (by assumption) ?_
        rotate_left
        · (intro w hSw; (try dsimp only at hSw); go_simp; (try with_reducible rfl))
        try simp only [Act.put, List.setIfInBounds_toArray, List.set_cons_zero, List.set_cons_succ, List.getElem_toArray, List.getElem_cons_succ, List.getElem_cons_zero]
        obtain ⟨⟨hRsD0, hRsD1, hRsD2, hRsD3, hRsD4, hRsD5⟩, hRsD6⟩ := RsD7.out
        refine wpAnyH_ready (rs := [7]) (by kernel_rfl) (by simp) ?_
        refine AllReadyH.cons rfl (fun K hK => ?_) AllReadyH.nil
        go_simp
        refine hK.out _ _ ⟨(((Ba7.out.keep (by have zz0 := Hlt.out; have zz1 := Sz2.out; have zz2 := Sz3.out; have zz3 := Sz4.out; have zz4 := Hf.out; have zz5 := Sz5.out; have zz6 := Sz6.out; have zz7 := Sz7.out; first | omega | (simp; done) | (simp; omega)) _).keep (by have zz0 := Hlt.out; have zz1 := Sz2.out; have zz2 := Sz3.out; have zz3 := Sz4.out; have zz4 := Hf.out; have zz5 := Sz5.out; have zz6 := Sz6.out; have zz7 := Sz7.out; first | omega | (simp; done) | (simp; omega)) _).keep (by have zz0 := Hlt.out; have zz1 := Sz2.out; have zz2 := Sz3.out; have zz3 := Sz4.out; have zz4 := Hf.out; have zz5 := Sz5.out; have zz6 := Sz6.out; have zz7 := Sz7.out; first | omega | (simp; done) | (simp; omega)) _).1, (((Bx7.out.keep (by have zz0 := Hlt.out; have zz1 := Sz2.out; have zz2 := Sz3.out; have zz3 := Sz4.out; have zz4 := Hf.out; have zz5 := Sz5.out; have zz6 := Sz6.out; have zz7 := Sz7.out; first | omega | (simp; done) | (simp; omega)) _).keep (by have zz0 := Hlt.out; have zz1 := Sz2.out; have zz2 := Sz3.out; have zz3 := Sz4.out; have zz4 := Hf.out; have zz5 := Sz5.out; have zz6 := Sz6.out; have zz7 := Sz7.out; first | omega | (simp; done) | (simp; omega)) _).keep (by have zz0 := Hlt.out; have zz1 := Sz2.out; have zz2 := Sz3.out; have zz3 := Sz4.out; have zz4 := Hf.out; have zz5 := Sz5.out; have zz6 := Sz6.out; have zz7 := Sz7.out; first | omega | (simp; done) | (simp; omega)) _).1⟩ (fun hHeld => ?_)
        clear hK K
        try simp only [Act.put, List.setIfInBounds_toArray, List.set_cons_zero, List.set_cons_succ, List.getElem_toArray, List.getElem_cons_succ, List.getElem_cons_zero]
        refine wpAnyH_ready (rs := [8]) (by kernel_rfl) (by simp) ?_
        refine AllReadyH.cons rfl (fun K hK => ?_) AllReadyH.nil
        go_simp
        refine hK.out _ _ hHeld (fun hHeld => ?_)
        clear hK K
        try simp only [Act.put, List.setIfInBounds_toArray, List.set_cons_zero, List.set_cons_succ, List.getElem_toArray, List.getElem_cons_succ, List.getElem_cons_zero]
        clear hHeld
        refine wpAnyH_done (by kernel_rfl) ?_ _
        go_wp2_with fail
        refine bodyPost_ret (v := .tuple #[.agg #[.int .i64 S9, .slice A9 n9 c9, .int .i64 (fdX (erS z E k) (erM z E k))], .int .i64 (fdE (erS z E k) (erM z E k))]) (by simp [results, Tryz.results11, go_sem, hRsD0, hRsD1, hRsD2]) rfl ⟨S9, A9, n9, c9, by rw [Hres.out.2.1, Hres.out.2.2], ?_, ?_⟩
        · rw [Hres.out.1]; exact (((Zp7.out.setCell (.inl (by have zz0 := Hlt.out; have zz1 := Sz2.out; have zz2 := Sz3.out; have zz3 := Sz4.out; have zz4 := Hf.out; have zz5 := Sz5.out; have zz6 := Sz6.out; have zz7 := Sz7.out; first | omega | (simp; done) | (simp; omega))) _).setCell (.inl (by have zz0 := Hlt.out; have zz1 := Sz2.out; have zz2 := Sz3.out; have zz3 := Sz4.out; have zz4 := Hf.out; have zz5 := Sz5.out; have zz6 := Sz6.out; have zz7 := Sz7.out; first | omega | (simp; done) | (simp; omega))) _).setCell (.inl (by have zz0 := Hlt.out; have zz1 := Sz2.out; have zz2 := Sz3.out; have zz3 := Sz4.out; have zz4 := Hf.out; have zz5 := Sz5.out; have zz6 := Sz6.out; have zz7 := Sz7.out; first | omega | (simp; done) | (simp; omega))) _).wide (by have zz0 := Hlt.out; have zz1 := Sz2.out; have zz2 := Sz3.out; have zz3 := Sz4.out; have zz4 := Hf.out; have zz5 := Sz5.out; have zz6 := Sz6.out; have zz7 := Sz7.out; first | omega | (simp; done) | (simp; omega)) (by have zz0 := Hlt.out; have zz1 := Sz2.out; have zz2 := Sz3.out; have zz3 := Sz4.out; have zz4 := Hf.out; have zz5 := Sz5.out; have zz6 := Sz6.out; have zz7 := Sz7.out; first | omega | (simp; done) | (simp; omega)) (by have zz0 := Hlt.out; have zz1 := Sz2.out; have zz2 := Sz3.out; have zz3 := Sz4.out; have zz4 := Hf.out; have zz5 := Sz5.out; have zz6 := Sz6.out; have zz7 := Sz7.out; first | omega | (simp; done) | (simp; omega))
        · exact ((Bel7.out.setCell (by have zz0 := Hlt.out; have zz1 := Sz2.out; have zz2 := Sz3.out; have zz3 := Sz4.out; have zz4 := Hf.out; have zz5 := Sz5.out; have zz6 := Sz6.out; have zz7 := Sz7.out; first | omega | (simp; done) | (simp; omega)) _).setCell (by have zz0 := Hlt.out; have zz1 := Sz2.out; have zz2 := Sz3.out; have zz3 := Sz4.out; have zz4 := Hf.out; have zz5 := Sz5.out; have zz6 := Sz6.out; have zz7 := Sz7.out; first | omega | (simp; done) | (simp; omega)) _).setCell (by have zz0 := Hlt.out; have zz1 := Sz2.out; have zz2 := Sz3.out; have zz3 := Sz4.out; have zz4 := Hf.out; have zz5 := Sz5.out; have zz6 := Sz6.out; have zz7 := Sz7.out; first | omega | (simp; done) | (simp; omega)) _
    · obtain ⟨g1, g2, g3⟩ := rdR_range HW.out hk
      rw [g1, g2, g3]
      have Hres := Lib.hid (er_range HW.out hk)
      clear g1 g2 g3 hk
      go_wp2_with fail
      refine bodyPost_ret (v := .tuple #[.agg #[.int .i64 0, .slice none 0 0, .int .i64 0], .int .i64 2]) (by simp [results, Tryz.results11, go_sem, hRsD0, hRsD1, hRsD2]) rfl ⟨0, none, 0, 0, by rw [Hres.out.2.1, Hres.out.2.2], ?_, ?_⟩
      · rw [Hres.out.1]; exact ZO.zero (Nat.le_refl _)
      · exact ((Bel2.out.setCell (by have zz0 := Hlt.out; have zz1 := Sz2.out; first | omega | (simp; done) | (simp; omega)) _).setCell (by have zz0 := Hlt.out; have zz1 := Sz2.out; first | omega | (simp; done) | (simp; omega)) _).setCell (by have zz0 := Hlt.out; have zz1 := Sz2.out; first | omega | (simp; done) | (simp; omega)) _
  · have hW2 : isD S xs E = false := by simpa using hW
    obtain ⟨g1, g2, g3⟩ := rdR_no (k := k) hW2
    rw [g1, g2, g3]
    have Hres := Lib.hid (er_no (k := k) hW2)
    clear g1 g2 g3 hW hW2
    go_wp2_with fail
    refine bodyPost_ret (v := .tuple #[.agg #[.int .i64 0, .slice none 0 0, .int .i64 0], .int .i64 1]) (by simp [results, Tryz.results11, go_sem, hRsD0, hRsD1, hRsD2]) rfl ⟨0, none, 0, 0, by rw [Hres.out.2.1, Hres.out.2.2], ?_, ?_⟩
    · rw [Hres.out.1]; exact ZO.zero (Nat.le_refl _)
    · exact ((Bel2.out.setCell (by have zz0 := Hlt.out; have zz1 := Sz2.out; first | omega | (simp; done) | (simp; omega)) _).setCell (by have zz0 := Hlt.out; have zz1 := Sz2.out; first | omega | (simp; done) | (simp; omega)) _).setCell (by have zz0 := Hlt.out; have zz1 := Sz2.out; first | omega | (simp; done) | (simp; omega)) _

set_option maxHeartbeats 8000000 in
theorem specErrW_any (S : Int) (A : Option Addr) (n c : Nat) (xs : List Int) (E k : Int) (w : World) (hr : Rd w w.heap.size A (vi xs)) (hn : xs.length = n) (hm : n ≤ 1048580) (hc : n ≤ c) :
    Calls Tryz.prog 9 #[.agg #[.int .i64 S, .slice A n c, .int .i64 E], .int .i64 k] w fun e w' => ∃ Sr Ar nr cr, e = .returned (.tuple #[.agg #[.int .i64 Sr, .slice Ar nr cr, .int .i64 (erX S xs E k)], .int .i64 (erE S xs E k)]) ∧ ZO w' w.heap.size w'.heap.size (erZ S xs E k) Sr Ar nr cr ∧ Below w.heap.size w w' := by
  have hst := store_int Tryz.prog
  have hst2 := store_slice Tryz.prog
  obtain ⟨w1, hw1, hb1, hb3, hb4⟩ := dbox_res w S A n c E 30 30
  have RsD1 := Lib.hid hb3
  have Hlt : Hid (w.heap.size + 1 < w1.heap.size) := Lib.hid hb3.2
  have Hr := Lib.hid hr
  have Hn := Lib.hid hn
  have Hm := Lib.hid hm
  have Hc := Lib.hid hc
  have Hw := Lib.hid hw1
  have Bx1 := Lib.hid hb1
  have Bel1 := Lib.hid hb4
  clear hr hn hw1 hb1 hb3 hb4 hc
  go_enter Tryz.func9, Tryz.ntmps9
  go_wp2_with fail
  rw [← Hw.out]
  obtain ⟨⟨hBx0, hBx1, hBx2⟩, hBx3⟩ := Bx1.out
  obtain ⟨⟨hRsD0, hRsD1, hRsD2, hRsD3, hRsD4, hRsD5⟩, hRsD6⟩ := RsD1.out
  refine (specCodeD_any S A n c xs E k _ ((Hr.out.below Bel1.out).up Bel1.out.size) Hn.out Hm.out Hc.out).mono ?_
  rintro e w2 ⟨rfl, hb⟩
  have Sz2 := Lib.hid (Below.size hb)
  have Bel2 := Lib.hid (belNext Bel1.out hb)
  have Bx2 := Lib.hid (Bx1.out.next hb)
  have RsD2 := Lib.hid (RsD1.out.next hb)
  clear hb Bel1 Bx1 RsD1 hBx0 hBx1 hBx2 hBx3 hRsD0 hRsD1 hRsD2 hRsD3 hRsD4 hRsD5 hRsD6
  obtain ⟨⟨hBx0, hBx1, hBx2⟩, hBx3⟩ := Bx2.out
  obtain ⟨⟨hRsD0, hRsD1, hRsD2, hRsD3, hRsD4, hRsD5⟩, hRsD6⟩ := RsD2.out
  by_cases hW : isD S xs E = true
  · have HW := Lib.hid hW
    clear hW
    obtain ⟨z, hz, hok, hzv, hn100⟩ := isD_data HW.out Hr.out Hn.out Hc.out
    have Hz := Lib.hid hzv
    have Hzi := Lib.hid hz
    have hE1 := hok.2.1
    have hE2 := hok.2.2.1
    have Hodd : Hid (z ≠ 0 → z.natAbs % 2 = 1) := Lib.hid hok.2.2.2.2
    clear hz hzv hok
    by_cases hk : 0 ≤ k ∧ k ≤ 4
    · obtain ⟨g1, g2, g3⟩ := rdR_yes HW.out Hzi.out hk
      rw [g3]
      clear g1 g2 g3
      go_wp2_with fail
      refine (specRound_any z S E k A n c _ (Hz.out.next Bel2.out) Hodd.out (by omega) (by omega) (by omega) hk.1 hk.2).mono ?_
      rintro e w3 ⟨rfl, hb⟩
      have Sz3 := Lib.hid (Below.size hb)
      have Bel3 := Lib.hid (belNext Bel2.out hb)
      have Bx3 := Lib.hid (Bx2.out.next hb)
      have RsD3 := Lib.hid (RsD2.out.next hb)
      clear hb Bel2 Bx2 RsD2 hBx0 hBx1 hBx2 hBx3 hRsD0 hRsD1 hRsD2 hRsD3 hRsD4 hRsD5 hRsD6
      obtain ⟨⟨hBx0, hBx1, hBx2⟩, hBx3⟩ := Bx3.out
      obtain ⟨⟨hRsD0, hRsD1, hRsD2, hRsD3, hRsD4, hRsD5⟩, hRsD6⟩ := RsD3.out
      by_cases h5 : rdL z E k = 5
      · have Hres := Lib.hid (er_over HW.out Hzi.out hk h5)
        rw [h5]
        have hand := and4_5
        clear h5 hk
        go_wp2_with fail
        refine bodyPost_ret (v := .tuple #[.agg #[.int .i64 0, .slice none 0 0, .int .i64 0], .int .i64 5]) (by simp [results, Tryz.results9, go_sem, hRsD0, hRsD1, hRsD2]) rfl ⟨0, none, 0, 0, by rw [Hres.out.2.1, Hres.out.2.2], ?_, ?_⟩
        · rw [Hres.out.1]; exact ZO.zero (Nat.le_refl _)
        · exact ((Bel3.out.setCell (by have zz0 := Hlt.out; have zz1 := Sz2.out; have zz2 := Sz3.out; first | omega | (simp; done) | (simp; omega)) _).setCell (by have zz0 := Hlt.out; have zz1 := Sz2.out; have zz2 := Sz3.out; first | omega | (simp; done) | (simp; omega)) _).setCell (by have zz0 := Hlt.out; have zz1 := Sz2.out; have zz2 := Sz3.out; first | omega | (simp; done) | (simp; omega)) _
      · have Hres := Lib.hid (er_yes HW.out Hzi.out hk h5)
        obtain ⟨b, hb9⟩ : ∃ b, b = rdF z E k := ⟨_, rfl⟩
        have Hb : Hid (b < 4294967296 ∧ fin32 b = true) := Lib.hid ⟨by rw [hb9]; exact (rdF_ok _ _ _).1, by rw [hb9]; exact rd_finite h5⟩
        have Hfe : Hid (-149 ≤ fe (rdF z E k) ∧ fe (rdF z E k) ≤ 128) := Lib.hid (by rw [← hb9]; exact fe_small Hb.out.2)
        have Hbe := Lib.hid hb9
        rw [← hb9]
        clear hb9
        obtain ⟨L, hL⟩ : ∃ L, L = rdL z E k := ⟨_, rfl⟩
        rw [← hL] at h5 ⊢
        have hand : bits .and .i64 L 4 = 0 := and4_no (by rw [hL]; exact rdL_cases _ _ _) h5
        clear hL h5 hk
        go_wp2_with fail
        clear hand
        refine wp_region_held_drew (S := fun w' => (w'.cell? ⟨w.heap.size, 0, none⟩ = some (.int .i64 S) ∧ w'.cell? ⟨w.heap.size, 1, none⟩ = some (.slice A n c) ∧ w'.cell? ⟨w.heap.size, 2, none⟩ = some (.int .i64 E))) (by kernel_rfl) Bx3.out.1 (fun hHeld => ?_)
        clear hBx0 hBx1 hBx2 hBx3 hRsD0 hRsD1 hRsD2 hRsD3 hRsD4 hRsD5 hRsD6
        refine wpAnyH_take (i := 0) (v := ?_) rfl (by kernel_rfl) (by kernel_rfl) (by kernel_rfl) (fun _ _ _ h => h) (Or.inl ⟨by rfl, ?_⟩) (by assumption) ?_
        rotate_left
        · (intro w hSw; (try dsimp only at hSw); go_simp; (try with_reducible rfl))
        try simp only [Act.put, List.setIfInBounds_toArray, List.set_cons_zero, List.set_cons_succ, List.getElem_toArray, List.getElem_cons_succ, List.getElem_cons_zero]
        refine wpAnyH_take (i := 2) (v := ?_) rfl (by kernel_rfl) (by kernel_rfl) (by kernel_rfl) (fun _ _ _ h => h) (Or.inl ⟨by rfl, ?_⟩) (by assumption) ?_
        rotate_left
        · (intro w hSw; (try dsimp only at hSw); go_simp; (try with_reducible rfl))
        try simp only [Act.put, List.setIfInBounds_toArray, List.set_cons_zero, List.set_cons_succ, List.getElem_toArray, List.getElem_cons_succ, List.getElem_cons_zero]
        refine wpAnyH_ready (rs := [1, 8]) (by kernel_rfl) (by simp) ?_
        refine AllReadyH.cons rfl (fun K hK => ?_) (AllReadyH.cons rfl (fun K hK => ?_) AllReadyH.nil)
        · go_simp
          refine (specOfD_any b w3.drew Hb.out.1 Hb.out.2).mono ?_
          rintro e w4 ⟨S3, A3, n3, c3, rfl, hzo, hb0⟩
          have hb : Below w3.heap.size w3 w4 := belDrew hb0
          rw [show nx (ofM b) (ofP b) = fe b from rfl]
          have Zo4 : Hid (ZV w4 (fz b) S3 A3 n3 c3) := Lib.hid hzo.zv
          have Hn3 : Hid ((n3 : Int) ≤ 1) := Lib.hid (fz_len Hb.out.2 hzo.zv.len)
          obtain ⟨X3, hX3⟩ : ∃ X3, X3 = fe b := ⟨_, rfl⟩
          have HX3 := Lib.hid hX3
          have hx31 : -149 ≤ X3 ∧ X3 ≤ 128 := by rw [hX3]; exact fe_small Hb.out.2
          obtain ⟨hx31, hx32⟩ := hx31
          rw [← hX3]
          clear hzo hX3
          refine hK.out _ _ (Bx3.out.next hb).1 (fun hHeld => ?_)
          clear hK K hb0
          have Sz4 := Lib.hid (Below.size hb)
          have Bel4 := Lib.hid (belNext Bel3.out hb)
          have Bx4 := Lib.hid (Bx3.out.next hb)
          have RsD4 := Lib.hid (RsD3.out.next hb)
          clear hb Bel3 Bx3 RsD3
          try simp only [Act.put, List.setIfInBounds_toArray, List.set_cons_zero, List.set_cons_succ, List.getElem_toArray, List.getElem_cons_succ, List.getElem_cons_zero]
          refine wpAnyH_ready (rs := [3, 8]) (by kernel_rfl) (by simp) ?_
          refine AllReadyH.cons rfl (fun K hK => ?_) (AllReadyH.cons rfl (fun K hK => ?_) AllReadyH.nil)
          · go_simp
            refine (specSubD_any (fz b) S3 X3 z S E A3 A n3 c3 n c w4 Zo4.out (Hz.out.next Bel4.out) (by have := Hn3.out; omega) (by omega) (by omega) (by omega) (by omega) (by omega)).mono ?_
            rintro e w5 ⟨S6, A6, n6, c6, rfl, hzo, hb0⟩
            have hb : Below w4.heap.size w4 w5 := hb0
            have hz6 : sumZ (fz b) X3 (-z) E = erS z E k := by rw [HX3.out, Hbe.out]; rfl
            have hm6 : min X3 E = erM z E k := by rw [HX3.out, Hbe.out]; rfl
            rw [hz6] at hzo
            rw [hz6, hm6]
            have Zr5 := Lib.hid hzo
            have Hn6 : Hid (n6 ≤ 1048580) := Lib.hid (by have h := Nat.le_trans (limbs_len_mono (nz_le _)) (sumZ_len (E := fe (rdF z E k)) (E' := E) (n := (limbs (fz (rdF z E k)).natAbs).length) rfl (Hz.out.neg).2.1 (by have := Hfe.out; omega) (by have := Hfe.out; omega) (by omega) (by omega)); rw [show sumZ (fz (rdF z E k)) (fe (rdF z E k)) (-z) E = erS z E k from rfl, hzo.2.1] at h; rw [← Hbe.out, Zo4.out.2.1] at h; have := Hn3.out; omega)
            obtain ⟨X6, hX6⟩ : ∃ X6, X6 = nx (erS z E k) (erM z E k) := ⟨_, rfl⟩
            have HX6 := Lib.hid hX6
            rw [← hX6]
            clear hzo hz6 hm6 hX6
            refine hK.out _ _ (Bx4.out.next hb).1 (fun hHeld => ?_)
            clear hK K hb0
            have Sz5 := Lib.hid (Below.size hb)
            have Bel5 := Lib.hid (belNext Bel4.out hb)
            have Bx5 := Lib.hid (Bx4.out.next hb)
            have RsD5 := Lib.hid (RsD4.out.next hb)
            have Zo5 := Lib.hid (Zo4.out.next hb)
            clear hb Bel4 Bx4 RsD4 Zo4
            try simp only [Act.put, List.setIfInBounds_toArray, List.set_cons_zero, List.set_cons_succ, List.getElem_toArray, List.getElem_cons_succ, List.getElem_cons_zero]
            refine wpAnyH_ready (rs := [4, 8]) (by kernel_rfl) (by simp) ?_
            refine AllReadyH.cons rfl (fun K hK => ?_) (AllReadyH.cons rfl (fun K hK => ?_) AllReadyH.nil)
            · go_simp
              refine (specFitH_any (erS z E k) (erM z E k) S6 X6 A6 n6 c6 _ _ w5 Zr5.out Hn6.out HX6.out (by have zz0 := Hlt.out; have zz1 := Sz2.out; have zz2 := Sz3.out; have zz3 := Sz4.out; have zz4 := Sz5.out; first | omega | (simp; done) | (simp; omega))).mono ?_
              rintro e w6 ⟨S9, A9, n9, c9, rfl, hzo, hb0⟩
              have hb : Below w5.heap.size w5 w6 := hb0
              have Zp6 := Lib.hid hzo
              clear hzo
              refine hK.out _ _ (Bx5.out.next hb).1 (fun hHeld => ?_)
              clear hK K hb0
              have Sz6 := Lib.hid (Below.size hb)
              have Bel6 := Lib.hid (belNext Bel5.out hb)
              have Bx6 := Lib.hid (Bx5.out.next hb)
              have RsD6 := Lib.hid (RsD5.out.next hb)
              have Zo6 := Lib.hid (Zo5.out.next hb)
              have Zr6 := Lib.hid (Zr5.out.next hb)
              clear hb Bel5 Bx5 RsD5 Zo5 Zr5
              try simp only [Act.put, List.setIfInBounds_toArray, List.set_cons_zero, List.set_cons_succ, List.getElem_toArray, List.getElem_cons_succ, List.getElem_cons_zero]
              refine wpAnyH_take (i := 5) (v := ?_) rfl (by kernel_rfl) (by kernel_rfl) (by kernel_rfl) (fun _ _ _ h => h) (Or.inl ⟨by rfl, ?_⟩) (by assumption) ?_
              rotate_left
              · (intro w hSw; (try dsimp only at hSw); go_simp; (try with_reducible rfl))
              try simp only [Act.put, List.setIfInBounds_toArray, List.set_cons_zero, List.set_cons_succ, List.getElem_toArray, List.getElem_cons_succ, List.getElem_cons_zero]
              refine wpAnyH_take (i := 6) (v := ?_) rfl (by kernel_rfl) (by kernel_rfl) (by kernel_rfl) (fun _ _ _ h => h) (Or.inl ⟨by rfl, ?_⟩) (by assumption) ?_
              rotate_left
              · (intro w hSw; (try dsimp only at hSw); go_simp; (try with_reducible rfl))
              try simp only [Act.put, List.setIfInBounds_toArray, List.set_cons_zero, List.set_cons_succ, List.getElem_toArray, List.getElem_cons_succ, List.getElem_cons_zero]
              refine wpAnyH_take (i := 7) (v := ?_) rfl (by kernel_rfl) (by kernel_rfl) (by kernel_rfl) (fun _ _ _ h => h) (Or.inl ⟨by rfl, ?_⟩) (by assumption) ?_
              rotate_left
              · (intro w hSw; (try dsimp only at hSw); go_simp; (try with_reducible rfl))
              try simp only [Act.put, List.setIfInBounds_toArray, List.set_cons_zero, List.set_cons_succ, List.getElem_toArray, List.getElem_cons_succ, List.getElem_cons_zero]
              refine wpAnyH_ready (rs := [8]) (by kernel_rfl) (by simp) ?_
              refine AllReadyH.cons rfl (fun K hK => ?_) AllReadyH.nil
              go_simp
              obtain ⟨w7, hw⟩ : ∃ w7, w7 = w6.alloc (.cells #[.int .i64 0, .slice none 0 0, .int .i64 0] 30) := ⟨_, rfl⟩
              have hb : Below w6.heap.size w6 w7 := by rw [hw]; exact belAlloc1 _ _
              obtain ⟨f, hf⟩ : ∃ f, f = w6.heap.size := ⟨_, rfl⟩
              have RsDn7 : Hid (DRes w7 f) := Lib.hid (by rw [hw, hf]; exact DRes.new _ _)
              have Hf : Hid (w6.heap.size ≤ f) := Lib.hid (by omega)
              have Hf2 : Hid (f < w7.heap.size) := Lib.hid RsDn7.out.2
              rw [← hw]
              try rw [← hf]
              refine hK.out _ _ (Bx6.out.next hb).1 (fun hHeld => ?_)
              clear hK K hw hf
              have Sz7 := Lib.hid (Below.size hb)
              have Bel7 := Lib.hid (belNext Bel6.out hb)
              have Bx7 := Lib.hid (Bx6.out.next hb)
              have RsD7 := Lib.hid (RsD6.out.next hb)
              have Zo7 := Lib.hid (Zo6.out.next hb)
              have Zr7 := Lib.hid (Zr6.out.next hb)
              have Zp7 := Lib.hid (Zp6.out.next hb)
              clear hb Bel6 Bx6 RsD6 Zo6 Zr6 Zp6
              try simp only [Act.put, List.setIfInBounds_toArray, List.set_cons_zero, List.set_cons_succ, List.getElem_toArray, List.getElem_cons_succ, List.getElem_cons_zero]
              obtain ⟨⟨r0, r1, r2, r3, r4, r5⟩, r6⟩ := RsDn7.out
              refine wpAnyH_ready (rs := [9]) (by kernel_rfl) (by simp) ?_
              refine AllReadyH.cons rfl (fun K hK => ?_) AllReadyH.nil
              go_simp
              refine hK.out _ (st3 w7 f S9 A9 n9 c9 (fdX (erS z E k) (erM z E k))) (Bx7.out.st3_ (by have zz0 := Hlt.out; have zz1 := Sz2.out; have zz2 := Sz3.out; have zz3 := Sz4.out; have zz4 := Sz5.out; have zz5 := Sz6.out; have zz6 := Sz7.out; have zz7 := Hf.out; have zz8 := Hf2.out; first | omega | (simp; done) | (simp; omega))).1 (fun hHeld => ?_)
              clear hK K
              try simp only [Act.put, List.setIfInBounds_toArray, List.set_cons_zero, List.set_cons_succ, List.getElem_toArray, List.getElem_cons_succ, List.getElem_cons_zero]
              refine wpAnyH_ready (rs := [10]) (by kernel_rfl) (by simp) ?_
              refine AllReadyH.cons rfl (fun K hK => ?_) AllReadyH.nil
              go_simp
              refine hK.out _ _ hHeld (fun hHeld => ?_)
              clear hK K
              try simp only [Act.put, List.setIfInBounds_toArray, List.set_cons_zero, List.set_cons_succ, List.getElem_toArray, List.getElem_cons_succ, List.getElem_cons_zero]
              clear hHeld
              refine wpAnyH_done (by kernel_rfl) ?_ _
              obtain ⟨⟨v0, v1, v2⟩, v3⟩ := DBox.made (S := S9) (A := A9) (n := n9) (c := c9) (E := fdX (erS z E k) (erM z E k)) r6 ⟨_, r0⟩ ⟨_, r1⟩ ⟨_, r2⟩
              obtain ⟨⟨hRsD0, hRsD1, hRsD2, hRsD3, hRsD4, hRsD5⟩, hRsD6⟩ := RsD7.out.st3_ (b := f) (S := S9) (A := A9) (n := n9) (c := c9) (E := fdX (erS z E k) (erM z E k)) (by have zz0 := Hlt.out; have zz1 := Sz2.out; have zz2 := Sz3.out; have zz3 := Sz4.out; have zz4 := Sz5.out; have zz5 := Sz6.out; have zz6 := Sz7.out; have zz7 := Hf.out; have zz8 := Hf2.out; first | omega | (simp; done) | (simp; omega))
              have Zq := Lib.hid (Zp7.out.st3_ (b := f) (S := S9) (A := A9) (n := n9) (c := c9) (E := fdX (erS z E k) (erM z E k)) (.inr (by have zz0 := Hlt.out; have zz1 := Sz2.out; have zz2 := Sz3.out; have zz3 := Sz4.out; have zz4 := Sz5.out; have zz5 := Sz6.out; have zz6 := Sz7.out; have zz7 := Hf.out; have zz8 := Hf2.out; first | omega | (simp; done) | (simp; omega))))
              have Belq := Lib.hid (belSt3 (b := f) (S := S9) (A := A9) (n := n9) (c := c9) (E := fdX (erS z E k) (erM z E k)) Bel7.out (by have zz0 := Hlt.out; have zz1 := Sz2.out; have zz2 := Sz3.out; have zz3 := Sz4.out; have zz4 := Sz5.out; have zz5 := Sz6.out; have zz6 := Sz7.out; have zz7 := Hf.out; have zz8 := Hf2.out; first | omega | (simp; done) | (simp; omega)))
              have Szq : Hid ((st3 w7 f S9 A9 n9 c9 (fdX (erS z E k) (erM z E k))).heap.size = w7.heap.size) := Lib.hid st3_size
              clear r0 r1 r2 r3 r4 r5 r6
              obtain ⟨y, hy⟩ : ∃ y, y = st3 w7 f S9 A9 n9 c9 (fdX (erS z E k) (erM z E k)) := ⟨_, rfl⟩
              rw [← hy] at v0 v1 v2 v3 hRsD0 hRsD1 hRsD2 hRsD3 hRsD4 hRsD5 hRsD6 Zq Belq Szq
              rw [← hy]
              clear hy
              go_wp2_with fail
              refine bodyPost_ret (v := .tuple #[.agg #[.int .i64 S9, .slice A9 n9 c9, .int .i64 (fdX (erS z E k) (erM z E k))], .int .i64 (fdE (erS z E k) (erM z E k))]) (by simp [results, Tryz.results9, go_sem, hRsD0, hRsD1, hRsD2]) rfl ⟨S9, A9, n9, c9, by rw [Hres.out.2.1, Hres.out.2.2], ?_, ?_⟩
              · rw [Hres.out.1]; exact (((Zq.out.setCell (.inl (by have zz0 := Hlt.out; have zz1 := Sz2.out; have zz2 := Sz3.out; have zz3 := Sz4.out; have zz4 := Sz5.out; have zz5 := Sz6.out; have zz6 := Sz7.out; have zz7 := Hf.out; have zz8 := Hf2.out; have zz9 := Szq.out; first | omega | (simp; done) | (simp; omega))) _).setCell (.inl (by have zz0 := Hlt.out; have zz1 := Sz2.out; have zz2 := Sz3.out; have zz3 := Sz4.out; have zz4 := Sz5.out; have zz5 := Sz6.out; have zz6 := Sz7.out; have zz7 := Hf.out; have zz8 := Hf2.out; have zz9 := Szq.out; first | omega | (simp; done) | (simp; omega))) _).setCell (.inl (by have zz0 := Hlt.out; have zz1 := Sz2.out; have zz2 := Sz3.out; have zz3 := Sz4.out; have zz4 := Sz5.out; have zz5 := Sz6.out; have zz6 := Sz7.out; have zz7 := Hf.out; have zz8 := Hf2.out; have zz9 := Szq.out; first | omega | (simp; done) | (simp; omega))) _).wide (by have zz0 := Hlt.out; have zz1 := Sz2.out; have zz2 := Sz3.out; have zz3 := Sz4.out; have zz4 := Sz5.out; have zz5 := Sz6.out; have zz6 := Sz7.out; have zz7 := Hf.out; have zz8 := Hf2.out; have zz9 := Szq.out; first | omega | (simp; done) | (simp; omega)) (by have zz0 := Hlt.out; have zz1 := Sz2.out; have zz2 := Sz3.out; have zz3 := Sz4.out; have zz4 := Sz5.out; have zz5 := Sz6.out; have zz6 := Sz7.out; have zz7 := Hf.out; have zz8 := Hf2.out; have zz9 := Szq.out; first | omega | (simp; done) | (simp; omega)) (Nat.le_refl _)
              · exact ((Belq.out.setCell (by have zz0 := Hlt.out; have zz1 := Sz2.out; have zz2 := Sz3.out; have zz3 := Sz4.out; have zz4 := Sz5.out; have zz5 := Sz6.out; have zz6 := Sz7.out; have zz7 := Hf.out; have zz8 := Hf2.out; have zz9 := Szq.out; first | omega | (simp; done) | (simp; omega)) _).setCell (by have zz0 := Hlt.out; have zz1 := Sz2.out; have zz2 := Sz3.out; have zz3 := Sz4.out; have zz4 := Sz5.out; have zz5 := Sz6.out; have zz6 := Sz7.out; have zz7 := Hf.out; have zz8 := Hf2.out; have zz9 := Szq.out; first | omega | (simp; done) | (simp; omega)) _).setCell (by have zz0 := Hlt.out; have zz1 := Sz2.out; have zz2 := Sz3.out; have zz3 := Sz4.out; have zz4 := Sz5.out; have zz5 := Sz6.out; have zz6 := Sz7.out; have zz7 := Hf.out; have zz8 := Hf2.out; have zz9 := Szq.out; first | omega | (simp; done) | (simp; omega)) _
            · go_simp
              obtain ⟨w6, hw⟩ : ∃ w6, w6 = w5.alloc (.cells #[.int .i64 0, .slice none 0 0, .int .i64 0] 30) := ⟨_, rfl⟩
              have hb : Below w5.heap.size w5 w6 := by rw [hw]; exact belAlloc1 _ _
              obtain ⟨f, hf⟩ : ∃ f, f = w5.heap.size := ⟨_, rfl⟩
              have RsDn6 : Hid (DRes w6 f) := Lib.hid (by rw [hw, hf]; exact DRes.new _ _)
              have Hf : Hid (w5.heap.size ≤ f) := Lib.hid (by omega)
              have Hf2 : Hid (f < w6.heap.size) := Lib.hid RsDn6.out.2
              rw [← hw]
              try rw [← hf]
              refine hK.out _ _ (Bx5.out.next hb).1 (fun hHeld => ?_)
              clear hK K hw hf
              have Sz6 := Lib.hid (Below.size hb)
              have Bel6 := Lib.hid (belNext Bel5.out hb)
              have Bx6 := Lib.hid (Bx5.out.next hb)
              have RsD6 := Lib.hid (RsD5.out.next hb)
              have Zo6 := Lib.hid (Zo5.out.next hb)
              have Zr6 := Lib.hid (Zr5.out.next hb)
              clear hb Bel5 Bx5 RsD5 Zo5 Zr5
              try simp only [Act.put, List.setIfInBounds_toArray, List.set_cons_zero, List.set_cons_succ, List.getElem_toArray, List.getElem_cons_succ, List.getElem_cons_zero]
              refine wpAnyH_ready (rs := [4]) (by kernel_rfl) (by simp) ?_
              refine AllReadyH.cons rfl (fun K hK => ?_) AllReadyH.nil
              go_simp
              refine (specFitH_any (erS z E k) (erM z E k) S6 X6 A6 n6 c6 _ _ w6 Zr6.out Hn6.out HX6.out (by have zz0 := Hlt.out; have zz1 := Sz2.out; have zz2 := Sz3.out; have zz3 := Sz4.out; have zz4 := Sz5.out; have zz5 := Sz6.out; have zz6 := Hf.out; have zz7 := Hf2.out; first | omega | (simp; done) | (simp; omega))).mono ?_
              rintro e w7 ⟨S9, A9, n9, c9, rfl, hzo, hb0⟩
              have hb : Below w6.heap.size w6 w7 := hb0
              have Zp7 := Lib.hid hzo
              clear hzo
              refine hK.out _ _ (Bx6.out.next hb).1 (fun hHeld => ?_)
              clear hK K hb0
              have Sz7 := Lib.hid (Below.size hb)
              have Bel7 := Lib.hid (belNext Bel6.out hb)
              have Bx7 := Lib.hid (Bx6.out.next hb)
              have RsD7 := Lib.hid (RsD6.out.next hb)
              have Zo7 := Lib.hid (Zo6.out.next hb)
              have Zr7 := Lib.hid (Zr6.out.next hb)
              have RsDn7 := Lib.hid (RsDn6.out.next hb)
              clear hb Bel6 Bx6 RsD6 Zo6 Zr6 RsDn6
              try simp only [Act.put, List.setIfInBounds_toArray, List.set_cons_zero, List.set_cons_succ, List.getElem_toArray, List.getElem_cons_succ, List.getElem_cons_zero]
              refine wpAnyH_take (i := 5) (v := ?_) rfl (by kernel_rfl) (by kernel_rfl) (by kernel_rfl) (fun _ _ _ h => h) (Or.inl ⟨by rfl, ?_⟩) (by assumption) ?_
              rotate_left
              · (intro w hSw; (try dsimp only at hSw); go_simp; (try with_reducible rfl))
              try simp only [Act.put, List.setIfInBounds_toArray, List.set_cons_zero, List.set_cons_succ, List.getElem_toArray, List.getElem_cons_succ, List.getElem_cons_zero]
              refine wpAnyH_take (i := 6) (v := ?_) rfl (by kernel_rfl) (by kernel_rfl) (by kernel_rfl) (fun _ _ _ h => h) (Or.inl ⟨by rfl, ?_⟩) (by assumption) ?_
              rotate_left
              · (intro w hSw; (try dsimp only at hSw); go_simp; (try with_reducible rfl))
              try simp only [Act.put, List.setIfInBounds_toArray, List.set_cons_zero, List.set_cons_succ, List.getElem_toArray, List.getElem_cons_succ, List.getElem_cons_zero]
              refine wpAnyH_take (i := 7) (v := ?_) rfl (by kernel_rfl) (by kernel_rfl) (by kernel_rfl) (fun _ _ _ h => h) (Or.inl ⟨by rfl, ?_⟩) (by assumption) ?_
              rotate_left
              · (intro w hSw; (try dsimp only at hSw); go_simp; (try with_reducible rfl))
              try simp only [Act.put, List.setIfInBounds_toArray, List.set_cons_zero, List.set_cons_succ, List.getElem_toArray, List.getElem_cons_succ, List.getElem_cons_zero]
              obtain ⟨⟨r0, r1, r2, r3, r4, r5⟩, r6⟩ := RsDn7.out
              refine wpAnyH_ready (rs := [9]) (by kernel_rfl) (by simp) ?_
              refine AllReadyH.cons rfl (fun K hK => ?_) AllReadyH.nil
              go_simp
              refine hK.out _ (st3 w7 f S9 A9 n9 c9 (fdX (erS z E k) (erM z E k))) (Bx7.out.st3_ (by have zz0 := Hlt.out; have zz1 := Sz2.out; have zz2 := Sz3.out; have zz3 := Sz4.out; have zz4 := Sz5.out; have zz5 := Sz6.out; have zz6 := Hf.out; have zz7 := Hf2.out; have zz8 := Sz7.out; first | omega | (simp; done) | (simp; omega))).1 (fun hHeld => ?_)
              clear hK K
              try simp only [Act.put, List.setIfInBounds_toArray, List.set_cons_zero, List.set_cons_succ, List.getElem_toArray, List.getElem_cons_succ, List.getElem_cons_zero]
              refine wpAnyH_ready (rs := [10]) (by kernel_rfl) (by simp) ?_
              refine AllReadyH.cons rfl (fun K hK => ?_) AllReadyH.nil
              go_simp
              refine hK.out _ _ hHeld (fun hHeld => ?_)
              clear hK K
              try simp only [Act.put, List.setIfInBounds_toArray, List.set_cons_zero, List.set_cons_succ, List.getElem_toArray, List.getElem_cons_succ, List.getElem_cons_zero]
              clear hHeld
              refine wpAnyH_done (by kernel_rfl) ?_ _
              obtain ⟨⟨v0, v1, v2⟩, v3⟩ := DBox.made (S := S9) (A := A9) (n := n9) (c := c9) (E := fdX (erS z E k) (erM z E k)) r6 ⟨_, r0⟩ ⟨_, r1⟩ ⟨_, r2⟩
              obtain ⟨⟨hRsD0, hRsD1, hRsD2, hRsD3, hRsD4, hRsD5⟩, hRsD6⟩ := RsD7.out.st3_ (b := f) (S := S9) (A := A9) (n := n9) (c := c9) (E := fdX (erS z E k) (erM z E k)) (by have zz0 := Hlt.out; have zz1 := Sz2.out; have zz2 := Sz3.out; have zz3 := Sz4.out; have zz4 := Sz5.out; have zz5 := Sz6.out; have zz6 := Hf.out; have zz7 := Hf2.out; have zz8 := Sz7.out; first | omega | (simp; done) | (simp; omega))
              have Zq := Lib.hid (Zp7.out.st3_ (b := f) (S := S9) (A := A9) (n := n9) (c := c9) (E := fdX (erS z E k) (erM z E k)) (.inr (by have zz0 := Hlt.out; have zz1 := Sz2.out; have zz2 := Sz3.out; have zz3 := Sz4.out; have zz4 := Sz5.out; have zz5 := Sz6.out; have zz6 := Hf.out; have zz7 := Hf2.out; have zz8 := Sz7.out; first | omega | (simp; done) | (simp; omega))))
              have Belq := Lib.hid (belSt3 (b := f) (S := S9) (A := A9) (n := n9) (c := c9) (E := fdX (erS z E k) (erM z E k)) Bel7.out (by have zz0 := Hlt.out; have zz1 := Sz2.out; have zz2 := Sz3.out; have zz3 := Sz4.out; have zz4 := Sz5.out; have zz5 := Sz6.out; have zz6 := Hf.out; have zz7 := Hf2.out; have zz8 := Sz7.out; first | omega | (simp; done) | (simp; omega)))
              have Szq : Hid ((st3 w7 f S9 A9 n9 c9 (fdX (erS z E k) (erM z E k))).heap.size = w7.heap.size) := Lib.hid st3_size
              clear r0 r1 r2 r3 r4 r5 r6
              obtain ⟨y, hy⟩ : ∃ y, y = st3 w7 f S9 A9 n9 c9 (fdX (erS z E k) (erM z E k)) := ⟨_, rfl⟩
              rw [← hy] at v0 v1 v2 v3 hRsD0 hRsD1 hRsD2 hRsD3 hRsD4 hRsD5 hRsD6 Zq Belq Szq
              rw [← hy]
              clear hy
              go_wp2_with fail
              refine bodyPost_ret (v := .tuple #[.agg #[.int .i64 S9, .slice A9 n9 c9, .int .i64 (fdX (erS z E k) (erM z E k))], .int .i64 (fdE (erS z E k) (erM z E k))]) (by simp [results, Tryz.results9, go_sem, hRsD0, hRsD1, hRsD2]) rfl ⟨S9, A9, n9, c9, by rw [Hres.out.2.1, Hres.out.2.2], ?_, ?_⟩
              · rw [Hres.out.1]; exact (((Zq.out.setCell (.inl (by have zz0 := Hlt.out; have zz1 := Sz2.out; have zz2 := Sz3.out; have zz3 := Sz4.out; have zz4 := Sz5.out; have zz5 := Sz6.out; have zz6 := Hf.out; have zz7 := Hf2.out; have zz8 := Sz7.out; have zz9 := Szq.out; first | omega | (simp; done) | (simp; omega))) _).setCell (.inl (by have zz0 := Hlt.out; have zz1 := Sz2.out; have zz2 := Sz3.out; have zz3 := Sz4.out; have zz4 := Sz5.out; have zz5 := Sz6.out; have zz6 := Hf.out; have zz7 := Hf2.out; have zz8 := Sz7.out; have zz9 := Szq.out; first | omega | (simp; done) | (simp; omega))) _).setCell (.inl (by have zz0 := Hlt.out; have zz1 := Sz2.out; have zz2 := Sz3.out; have zz3 := Sz4.out; have zz4 := Sz5.out; have zz5 := Sz6.out; have zz6 := Hf.out; have zz7 := Hf2.out; have zz8 := Sz7.out; have zz9 := Szq.out; first | omega | (simp; done) | (simp; omega))) _).wide (by have zz0 := Hlt.out; have zz1 := Sz2.out; have zz2 := Sz3.out; have zz3 := Sz4.out; have zz4 := Sz5.out; have zz5 := Sz6.out; have zz6 := Hf.out; have zz7 := Hf2.out; have zz8 := Sz7.out; have zz9 := Szq.out; first | omega | (simp; done) | (simp; omega)) (by have zz0 := Hlt.out; have zz1 := Sz2.out; have zz2 := Sz3.out; have zz3 := Sz4.out; have zz4 := Sz5.out; have zz5 := Sz6.out; have zz6 := Hf.out; have zz7 := Hf2.out; have zz8 := Sz7.out; have zz9 := Szq.out; first | omega | (simp; done) | (simp; omega)) (Nat.le_refl _)
              · exact ((Belq.out.setCell (by have zz0 := Hlt.out; have zz1 := Sz2.out; have zz2 := Sz3.out; have zz3 := Sz4.out; have zz4 := Sz5.out; have zz5 := Sz6.out; have zz6 := Hf.out; have zz7 := Hf2.out; have zz8 := Sz7.out; have zz9 := Szq.out; first | omega | (simp; done) | (simp; omega)) _).setCell (by have zz0 := Hlt.out; have zz1 := Sz2.out; have zz2 := Sz3.out; have zz3 := Sz4.out; have zz4 := Sz5.out; have zz5 := Sz6.out; have zz6 := Hf.out; have zz7 := Hf2.out; have zz8 := Sz7.out; have zz9 := Szq.out; first | omega | (simp; done) | (simp; omega)) _).setCell (by have zz0 := Hlt.out; have zz1 := Sz2.out; have zz2 := Sz3.out; have zz3 := Sz4.out; have zz4 := Sz5.out; have zz5 := Sz6.out; have zz6 := Hf.out; have zz7 := Hf2.out; have zz8 := Sz7.out; have zz9 := Szq.out; first | omega | (simp; done) | (simp; omega)) _
          · go_simp
            obtain ⟨w5, hw⟩ : ∃ w5, w5 = w4.alloc (.cells #[.int .i64 0, .slice none 0 0, .int .i64 0] 30) := ⟨_, rfl⟩
            have hb : Below w4.heap.size w4 w5 := by rw [hw]; exact belAlloc1 _ _
            obtain ⟨f, hf⟩ : ∃ f, f = w4.heap.size := ⟨_, rfl⟩
            have RsDn5 : Hid (DRes w5 f) := Lib.hid (by rw [hw, hf]; exact DRes.new _ _)
            have Hf : Hid (w4.heap.size ≤ f) := Lib.hid (by omega)
            have Hf2 : Hid (f < w5.heap.size) := Lib.hid RsDn5.out.2
            rw [← hw]
            try rw [← hf]
            refine hK.out _ _ (Bx4.out.next hb).1 (fun hHeld => ?_)
            clear hK K hw hf
            have Sz5 := Lib.hid (Below.size hb)
            have Bel5 := Lib.hid (belNext Bel4.out hb)
            have Bx5 := Lib.hid (Bx4.out.next hb)
            have RsD5 := Lib.hid (RsD4.out.next hb)
            have Zo5 := Lib.hid (Zo4.out.next hb)
            clear hb Bel4 Bx4 RsD4 Zo4
            try simp only [Act.put, List.setIfInBounds_toArray, List.set_cons_zero, List.set_cons_succ, List.getElem_toArray, List.getElem_cons_succ, List.getElem_cons_zero]
            refine wpAnyH_ready (rs := [3]) (by kernel_rfl) (by simp) ?_
            refine AllReadyH.cons rfl (fun K hK => ?_) AllReadyH.nil
            go_simp
            refine (specSubD_any (fz b) S3 X3 z S E A3 A n3 c3 n c w5 Zo5.out (Hz.out.next Bel5.out) (by have := Hn3.out; omega) (by omega) (by omega) (by omega) (by omega) (by omega)).mono ?_
            rintro e w6 ⟨S6, A6, n6, c6, rfl, hzo, hb0⟩
            have hb : Below w5.heap.size w5 w6 := hb0
            have hz6 : sumZ (fz b) X3 (-z) E = erS z E k := by rw [HX3.out, Hbe.out]; rfl
            have hm6 : min X3 E = erM z E k := by rw [HX3.out, Hbe.out]; rfl
            rw [hz6] at hzo
            rw [hz6, hm6]
            have Zr6 := Lib.hid hzo
            have Hn6 : Hid (n6 ≤ 1048580) := Lib.hid (by have h := Nat.le_trans (limbs_len_mono (nz_le _)) (sumZ_len (E := fe (rdF z E k)) (E' := E) (n := (limbs (fz (rdF z E k)).natAbs).length) rfl (Hz.out.neg).2.1 (by have := Hfe.out; omega) (by have := Hfe.out; omega) (by omega) (by omega)); rw [show sumZ (fz (rdF z E k)) (fe (rdF z E k)) (-z) E = erS z E k from rfl, hzo.2.1] at h; rw [← Hbe.out, Zo5.out.2.1] at h; have := Hn3.out; omega)
            obtain ⟨X6, hX6⟩ : ∃ X6, X6 = nx (erS z E k) (erM z E k) := ⟨_, rfl⟩
            have HX6 := Lib.hid hX6
            rw [← hX6]
            clear hzo hz6 hm6 hX6
            refine hK.out _ _ (Bx5.out.next hb).1 (fun hHeld => ?_)
            clear hK K hb0
            have Sz6 := Lib.hid (Below.size hb)
            have Bel6 := Lib.hid (belNext Bel5.out hb)
            have Bx6 := Lib.hid (Bx5.out.next hb)
            have RsD6 := Lib.hid (RsD5.out.next hb)
            have Zo6 := Lib.hid (Zo5.out.next hb)
            have RsDn6 := Lib.hid (RsDn5.out.next hb)
            clear hb Bel5 Bx5 RsD5 Zo5 RsDn5
            try simp only [Act.put, List.setIfInBounds_toArray, List.set_cons_zero, List.set_cons_succ, List.getElem_toArray, List.getElem_cons_succ, List.getElem_cons_zero]
            refine wpAnyH_ready (rs := [4]) (by kernel_rfl) (by simp) ?_
            refine AllReadyH.cons rfl (fun K hK => ?_) AllReadyH.nil
            go_simp
            refine (specFitH_any (erS z E k) (erM z E k) S6 X6 A6 n6 c6 _ _ w6 Zr6.out Hn6.out HX6.out (by have zz0 := Hlt.out; have zz1 := Sz2.out; have zz2 := Sz3.out; have zz3 := Sz4.out; have zz4 := Sz5.out; have zz5 := Hf.out; have zz6 := Hf2.out; have zz7 := Sz6.out; first | omega | (simp; done) | (simp; omega))).mono ?_
            rintro e w7 ⟨S9, A9, n9, c9, rfl, hzo, hb0⟩
            have hb : Below w6.heap.size w6 w7 := hb0
            have Zp7 := Lib.hid hzo
            clear hzo
            refine hK.out _ _ (Bx6.out.next hb).1 (fun hHeld => ?_)
            clear hK K hb0
            have Sz7 := Lib.hid (Below.size hb)
            have Bel7 := Lib.hid (belNext Bel6.out hb)
            have Bx7 := Lib.hid (Bx6.out.next hb)
            have RsD7 := Lib.hid (RsD6.out.next hb)
            have Zo7 := Lib.hid (Zo6.out.next hb)
            have RsDn7 := Lib.hid (RsDn6.out.next hb)
            have Zr7 := Lib.hid (Zr6.out.next hb)
            clear hb Bel6 Bx6 RsD6 Zo6 RsDn6 Zr6
            try simp only [Act.put, List.setIfInBounds_toArray, List.set_cons_zero, List.set_cons_succ, List.getElem_toArray, List.getElem_cons_succ, List.getElem_cons_zero]
            refine wpAnyH_take (i := 5) (v := ?_) rfl (by kernel_rfl) (by kernel_rfl) (by kernel_rfl) (fun _ _ _ h => h) (Or.inl ⟨by rfl, ?_⟩) (by assumption) ?_
            rotate_left
            · (intro w hSw; (try dsimp only at hSw); go_simp; (try with_reducible rfl))
            try simp only [Act.put, List.setIfInBounds_toArray, List.set_cons_zero, List.set_cons_succ, List.getElem_toArray, List.getElem_cons_succ, List.getElem_cons_zero]
            refine wpAnyH_take (i := 6) (v := ?_) rfl (by kernel_rfl) (by kernel_rfl) (by kernel_rfl) (fun _ _ _ h => h) (Or.inl ⟨by rfl, ?_⟩) (by assumption) ?_
            rotate_left
            · (intro w hSw; (try dsimp only at hSw); go_simp; (try with_reducible rfl))
            try simp only [Act.put, List.setIfInBounds_toArray, List.set_cons_zero, List.set_cons_succ, List.getElem_toArray, List.getElem_cons_succ, List.getElem_cons_zero]
            refine wpAnyH_take (i := 7) (v := ?_) rfl (by kernel_rfl) (by kernel_rfl) (by kernel_rfl) (fun _ _ _ h => h) (Or.inl ⟨by rfl, ?_⟩) (by assumption) ?_
            rotate_left
            · (intro w hSw; (try dsimp only at hSw); go_simp; (try with_reducible rfl))
            try simp only [Act.put, List.setIfInBounds_toArray, List.set_cons_zero, List.set_cons_succ, List.getElem_toArray, List.getElem_cons_succ, List.getElem_cons_zero]
            obtain ⟨⟨r0, r1, r2, r3, r4, r5⟩, r6⟩ := RsDn7.out
            refine wpAnyH_ready (rs := [9]) (by kernel_rfl) (by simp) ?_
            refine AllReadyH.cons rfl (fun K hK => ?_) AllReadyH.nil
            go_simp
            refine hK.out _ (st3 w7 f S9 A9 n9 c9 (fdX (erS z E k) (erM z E k))) (Bx7.out.st3_ (by have zz0 := Hlt.out; have zz1 := Sz2.out; have zz2 := Sz3.out; have zz3 := Sz4.out; have zz4 := Sz5.out; have zz5 := Hf.out; have zz6 := Hf2.out; have zz7 := Sz6.out; have zz8 := Sz7.out; first | omega | (simp; done) | (simp; omega))).1 (fun hHeld => ?_)
            clear hK K
            try simp only [Act.put, List.setIfInBounds_toArray, List.set_cons_zero, List.set_cons_succ, List.getElem_toArray, List.getElem_cons_succ, List.getElem_cons_zero]
            refine wpAnyH_ready (rs := [10]) (by kernel_rfl) (by simp) ?_
            refine AllReadyH.cons rfl (fun K hK => ?_) AllReadyH.nil
            go_simp
            refine hK.out _ _ hHeld (fun hHeld => ?_)
            clear hK K
            try simp only [Act.put, List.setIfInBounds_toArray, List.set_cons_zero, List.set_cons_succ, List.getElem_toArray, List.getElem_cons_succ, List.getElem_cons_zero]
            clear hHeld
            refine wpAnyH_done (by kernel_rfl) ?_ _
            obtain ⟨⟨v0, v1, v2⟩, v3⟩ := DBox.made (S := S9) (A := A9) (n := n9) (c := c9) (E := fdX (erS z E k) (erM z E k)) r6 ⟨_, r0⟩ ⟨_, r1⟩ ⟨_, r2⟩
            obtain ⟨⟨hRsD0, hRsD1, hRsD2, hRsD3, hRsD4, hRsD5⟩, hRsD6⟩ := RsD7.out.st3_ (b := f) (S := S9) (A := A9) (n := n9) (c := c9) (E := fdX (erS z E k) (erM z E k)) (by have zz0 := Hlt.out; have zz1 := Sz2.out; have zz2 := Sz3.out; have zz3 := Sz4.out; have zz4 := Sz5.out; have zz5 := Hf.out; have zz6 := Hf2.out; have zz7 := Sz6.out; have zz8 := Sz7.out; first | omega | (simp; done) | (simp; omega))
            have Zq := Lib.hid (Zp7.out.st3_ (b := f) (S := S9) (A := A9) (n := n9) (c := c9) (E := fdX (erS z E k) (erM z E k)) (.inl (by have zz0 := Hlt.out; have zz1 := Sz2.out; have zz2 := Sz3.out; have zz3 := Sz4.out; have zz4 := Sz5.out; have zz5 := Hf.out; have zz6 := Hf2.out; have zz7 := Sz6.out; have zz8 := Sz7.out; first | omega | (simp; done) | (simp; omega))))
            have Belq := Lib.hid (belSt3 (b := f) (S := S9) (A := A9) (n := n9) (c := c9) (E := fdX (erS z E k) (erM z E k)) Bel7.out (by have zz0 := Hlt.out; have zz1 := Sz2.out; have zz2 := Sz3.out; have zz3 := Sz4.out; have zz4 := Sz5.out; have zz5 := Hf.out; have zz6 := Hf2.out; have zz7 := Sz6.out; have zz8 := Sz7.out; first | omega | (simp; done) | (simp; omega)))
            have Szq : Hid ((st3 w7 f S9 A9 n9 c9 (fdX (erS z E k) (erM z E k))).heap.size = w7.heap.size) := Lib.hid st3_size
            clear r0 r1 r2 r3 r4 r5 r6
            obtain ⟨y, hy⟩ : ∃ y, y = st3 w7 f S9 A9 n9 c9 (fdX (erS z E k) (erM z E k)) := ⟨_, rfl⟩
            rw [← hy] at v0 v1 v2 v3 hRsD0 hRsD1 hRsD2 hRsD3 hRsD4 hRsD5 hRsD6 Zq Belq Szq
            rw [← hy]
            clear hy
            go_wp2_with fail
            refine bodyPost_ret (v := .tuple #[.agg #[.int .i64 S9, .slice A9 n9 c9, .int .i64 (fdX (erS z E k) (erM z E k))], .int .i64 (fdE (erS z E k) (erM z E k))]) (by simp [results, Tryz.results9, go_sem, hRsD0, hRsD1, hRsD2]) rfl ⟨S9, A9, n9, c9, by rw [Hres.out.2.1, Hres.out.2.2], ?_, ?_⟩
            · rw [Hres.out.1]; exact (((Zq.out.setCell (.inl (by have zz0 := Hlt.out; have zz1 := Sz2.out; have zz2 := Sz3.out; have zz3 := Sz4.out; have zz4 := Sz5.out; have zz5 := Hf.out; have zz6 := Hf2.out; have zz7 := Sz6.out; have zz8 := Sz7.out; have zz9 := Szq.out; first | omega | (simp; done) | (simp; omega))) _).setCell (.inl (by have zz0 := Hlt.out; have zz1 := Sz2.out; have zz2 := Sz3.out; have zz3 := Sz4.out; have zz4 := Sz5.out; have zz5 := Hf.out; have zz6 := Hf2.out; have zz7 := Sz6.out; have zz8 := Sz7.out; have zz9 := Szq.out; first | omega | (simp; done) | (simp; omega))) _).setCell (.inl (by have zz0 := Hlt.out; have zz1 := Sz2.out; have zz2 := Sz3.out; have zz3 := Sz4.out; have zz4 := Sz5.out; have zz5 := Hf.out; have zz6 := Hf2.out; have zz7 := Sz6.out; have zz8 := Sz7.out; have zz9 := Szq.out; first | omega | (simp; done) | (simp; omega))) _).wide (by have zz0 := Hlt.out; have zz1 := Sz2.out; have zz2 := Sz3.out; have zz3 := Sz4.out; have zz4 := Sz5.out; have zz5 := Hf.out; have zz6 := Hf2.out; have zz7 := Sz6.out; have zz8 := Sz7.out; have zz9 := Szq.out; first | omega | (simp; done) | (simp; omega)) (by have zz0 := Hlt.out; have zz1 := Sz2.out; have zz2 := Sz3.out; have zz3 := Sz4.out; have zz4 := Sz5.out; have zz5 := Hf.out; have zz6 := Hf2.out; have zz7 := Sz6.out; have zz8 := Sz7.out; have zz9 := Szq.out; first | omega | (simp; done) | (simp; omega)) (Nat.le_refl _)
            · exact ((Belq.out.setCell (by have zz0 := Hlt.out; have zz1 := Sz2.out; have zz2 := Sz3.out; have zz3 := Sz4.out; have zz4 := Sz5.out; have zz5 := Hf.out; have zz6 := Hf2.out; have zz7 := Sz6.out; have zz8 := Sz7.out; have zz9 := Szq.out; first | omega | (simp; done) | (simp; omega)) _).setCell (by have zz0 := Hlt.out; have zz1 := Sz2.out; have zz2 := Sz3.out; have zz3 := Sz4.out; have zz4 := Sz5.out; have zz5 := Hf.out; have zz6 := Hf2.out; have zz7 := Sz6.out; have zz8 := Sz7.out; have zz9 := Szq.out; first | omega | (simp; done) | (simp; omega)) _).setCell (by have zz0 := Hlt.out; have zz1 := Sz2.out; have zz2 := Sz3.out; have zz3 := Sz4.out; have zz4 := Sz5.out; have zz5 := Hf.out; have zz6 := Hf2.out; have zz7 := Sz6.out; have zz8 := Sz7.out; have zz9 := Szq.out; first | omega | (simp; done) | (simp; omega)) _
        · go_simp
          obtain ⟨w4, hw⟩ : ∃ w4, w4 = (w3.alloc (.cells #[.int .i64 0, .slice none 0 0, .int .i64 0] 30)).drew := ⟨_, rfl⟩
          have hb : Below w3.heap.size w3 w4 := by rw [hw]; exact (belAlloc1 _ _).drew
          obtain ⟨f, hf⟩ : ∃ f, f = w3.heap.size := ⟨_, rfl⟩
          have RsDn4 : Hid (DRes w4 f) := Lib.hid (by rw [hw, hf]; exact DRes.new _ _)
          have Hf : Hid (w3.heap.size ≤ f) := Lib.hid (by omega)
          have Hf2 : Hid (f < w4.heap.size) := Lib.hid RsDn4.out.2
          rw [← hw]
          try rw [← hf]
          refine hK.out _ _ (Bx3.out.next hb).1 (fun hHeld => ?_)
          clear hK K hw hf
          have Sz4 := Lib.hid (Below.size hb)
          have Bel4 := Lib.hid (belNext Bel3.out hb)
          have Bx4 := Lib.hid (Bx3.out.next hb)
          have RsD4 := Lib.hid (RsD3.out.next hb)
          clear hb Bel3 Bx3 RsD3
          try simp only [Act.put, List.setIfInBounds_toArray, List.set_cons_zero, List.set_cons_succ, List.getElem_toArray, List.getElem_cons_succ, List.getElem_cons_zero]
          refine wpAnyH_ready (rs := [1]) (by kernel_rfl) (by simp) ?_
          refine AllReadyH.cons rfl (fun K hK => ?_) AllReadyH.nil
          go_simp
          refine (specOfD_any b w4 Hb.out.1 Hb.out.2).mono ?_
          rintro e w5 ⟨S3, A3, n3, c3, rfl, hzo, hb0⟩
          have hb : Below w4.heap.size w4 w5 := hb0
          rw [show nx (ofM b) (ofP b) = fe b from rfl]
          have Zo5 : Hid (ZV w5 (fz b) S3 A3 n3 c3) := Lib.hid hzo.zv
          have Hn3 : Hid ((n3 : Int) ≤ 1) := Lib.hid (fz_len Hb.out.2 hzo.zv.len)
          obtain ⟨X3, hX3⟩ : ∃ X3, X3 = fe b := ⟨_, rfl⟩
          have HX3 := Lib.hid hX3
          have hx31 : -149 ≤ X3 ∧ X3 ≤ 128 := by rw [hX3]; exact fe_small Hb.out.2
          obtain ⟨hx31, hx32⟩ := hx31
          rw [← hX3]
          clear hzo hX3
          refine hK.out _ _ (Bx4.out.next hb).1 (fun hHeld => ?_)
          clear hK K hb0
          have Sz5 := Lib.hid (Below.size hb)
          have Bel5 := Lib.hid (belNext Bel4.out hb)
          have Bx5 := Lib.hid (Bx4.out.next hb)
          have RsD5 := Lib.hid (RsD4.out.next hb)
          have RsDn5 := Lib.hid (RsDn4.out.next hb)
          clear hb Bel4 Bx4 RsD4 RsDn4
          try simp only [Act.put, List.setIfInBounds_toArray, List.set_cons_zero, List.set_cons_succ, List.getElem_toArray, List.getElem_cons_succ, List.getElem_cons_zero]
          refine wpAnyH_ready (rs := [3]) (by kernel_rfl) (by simp) ?_
          refine AllReadyH.cons rfl (fun K hK => ?_) AllReadyH.nil
          go_simp
          refine (specSubD_any (fz b) S3 X3 z S E A3 A n3 c3 n c w5 Zo5.out (Hz.out.next Bel5.out) (by have := Hn3.out; omega) (by omega) (by omega) (by omega) (by omega) (by omega)).mono ?_
          rintro e w6 ⟨S6, A6, n6, c6, rfl, hzo, hb0⟩
          have hb : Below w5.heap.size w5 w6 := hb0
          have hz6 : sumZ (fz b) X3 (-z) E = erS z E k := by rw [HX3.out, Hbe.out]; rfl
          have hm6 : min X3 E = erM z E k := by rw [HX3.out, Hbe.out]; rfl
          rw [hz6] at hzo
          rw [hz6, hm6]
          have Zr6 := Lib.hid hzo
          have Hn6 : Hid (n6 ≤ 1048580) := Lib.hid (by have h := Nat.le_trans (limbs_len_mono (nz_le _)) (sumZ_len (E := fe (rdF z E k)) (E' := E) (n := (limbs (fz (rdF z E k)).natAbs).length) rfl (Hz.out.neg).2.1 (by have := Hfe.out; omega) (by have := Hfe.out; omega) (by omega) (by omega)); rw [show sumZ (fz (rdF z E k)) (fe (rdF z E k)) (-z) E = erS z E k from rfl, hzo.2.1] at h; rw [← Hbe.out, Zo5.out.2.1] at h; have := Hn3.out; omega)
          obtain ⟨X6, hX6⟩ : ∃ X6, X6 = nx (erS z E k) (erM z E k) := ⟨_, rfl⟩
          have HX6 := Lib.hid hX6
          rw [← hX6]
          clear hzo hz6 hm6 hX6
          refine hK.out _ _ (Bx5.out.next hb).1 (fun hHeld => ?_)
          clear hK K hb0
          have Sz6 := Lib.hid (Below.size hb)
          have Bel6 := Lib.hid (belNext Bel5.out hb)
          have Bx6 := Lib.hid (Bx5.out.next hb)
          have RsD6 := Lib.hid (RsD5.out.next hb)
          have RsDn6 := Lib.hid (RsDn5.out.next hb)
          have Zo6 := Lib.hid (Zo5.out.next hb)
          clear hb Bel5 Bx5 RsD5 RsDn5 Zo5
          try simp only [Act.put, List.setIfInBounds_toArray, List.set_cons_zero, List.set_cons_succ, List.getElem_toArray, List.getElem_cons_succ, List.getElem_cons_zero]
          refine wpAnyH_ready (rs := [4]) (by kernel_rfl) (by simp) ?_
          refine AllReadyH.cons rfl (fun K hK => ?_) AllReadyH.nil
          go_simp
          refine (specFitH_any (erS z E k) (erM z E k) S6 X6 A6 n6 c6 _ _ w6 Zr6.out Hn6.out HX6.out (by have zz0 := Hlt.out; have zz1 := Sz2.out; have zz2 := Sz3.out; have zz3 := Sz4.out; have zz4 := Hf.out; have zz5 := Hf2.out; have zz6 := Sz5.out; have zz7 := Sz6.out; first | omega | (simp; done) | (simp; omega))).mono ?_
          rintro e w7 ⟨S9, A9, n9, c9, rfl, hzo, hb0⟩
          have hb : Below w6.heap.size w6 w7 := hb0
          have Zp7 := Lib.hid hzo
          clear hzo
          refine hK.out _ _ (Bx6.out.next hb).1 (fun hHeld => ?_)
          clear hK K hb0
          have Sz7 := Lib.hid (Below.size hb)
          have Bel7 := Lib.hid (belNext Bel6.out hb)
          have Bx7 := Lib.hid (Bx6.out.next hb)
          have RsD7 := Lib.hid (RsD6.out.next hb)
          have RsDn7 := Lib.hid (RsDn6.out.next hb)
          have Zo7 := Lib.hid (Zo6.out.next hb)
          have Zr7 := Lib.hid (Zr6.out.next hb)
          clear hb Bel6 Bx6 RsD6 RsDn6 Zo6 Zr6
          try simp only [Act.put, List.setIfInBounds_toArray, List.set_cons_zero, List.set_cons_succ, List.getElem_toArray, List.getElem_cons_succ, List.getElem_cons_zero]
          refine wpAnyH_take (i := 5) (v := ?_) rfl (by kernel_rfl) (by kernel_rfl) (by kernel_rfl) (fun _ _ _ h => h) (Or.inl ⟨by rfl, ?_⟩) (by assumption) ?_
          rotate_left
          · (intro w hSw; (try dsimp only at hSw); go_simp; (try with_reducible rfl))
          try simp only [Act.put, List.setIfInBounds_toArray, List.set_cons_zero, List.set_cons_succ, List.getElem_toArray, List.getElem_cons_succ, List.getElem_cons_zero]
          refine wpAnyH_take (i := 6) (v := ?_) rfl (by kernel_rfl) (by kernel_rfl) (by kernel_rfl) (fun _ _ _ h => h) (Or.inl ⟨by rfl, ?_⟩) (by assumption) ?_
          rotate_left
          · (intro w hSw; (try dsimp only at hSw); go_simp; (try with_reducible rfl))
          try simp only [Act.put, List.setIfInBounds_toArray, List.set_cons_zero, List.set_cons_succ, List.getElem_toArray, List.getElem_cons_succ, List.getElem_cons_zero]
          refine wpAnyH_take (i := 7) (v := ?_) rfl (by kernel_rfl) (by kernel_rfl) (by kernel_rfl) (fun _ _ _ h => h) (Or.inl ⟨by rfl, ?_⟩) (by assumption) ?_
          rotate_left
          · (intro w hSw; (try dsimp only at hSw); go_simp; (try with_reducible rfl))
          try simp only [Act.put, List.setIfInBounds_toArray, List.set_cons_zero, List.set_cons_succ, List.getElem_toArray, List.getElem_cons_succ, List.getElem_cons_zero]
          obtain ⟨⟨r0, r1, r2, r3, r4, r5⟩, r6⟩ := RsDn7.out
          refine wpAnyH_ready (rs := [9]) (by kernel_rfl) (by simp) ?_
          refine AllReadyH.cons rfl (fun K hK => ?_) AllReadyH.nil
          go_simp
          refine hK.out _ (st3 w7 f S9 A9 n9 c9 (fdX (erS z E k) (erM z E k))) (Bx7.out.st3_ (by have zz0 := Hlt.out; have zz1 := Sz2.out; have zz2 := Sz3.out; have zz3 := Sz4.out; have zz4 := Hf.out; have zz5 := Hf2.out; have zz6 := Sz5.out; have zz7 := Sz6.out; have zz8 := Sz7.out; first | omega | (simp; done) | (simp; omega))).1 (fun hHeld => ?_)
          clear hK K
          try simp only [Act.put, List.setIfInBounds_toArray, List.set_cons_zero, List.set_cons_succ, List.getElem_toArray, List.getElem_cons_succ, List.getElem_cons_zero]
          refine wpAnyH_ready (rs := [10]) (by kernel_rfl) (by simp) ?_
          refine AllReadyH.cons rfl (fun K hK => ?_) AllReadyH.nil
          go_simp
          refine hK.out _ _ hHeld (fun hHeld => ?_)
          clear hK K
          try simp only [Act.put, List.setIfInBounds_toArray, List.set_cons_zero, List.set_cons_succ, List.getElem_toArray, List.getElem_cons_succ, List.getElem_cons_zero]
          clear hHeld
          refine wpAnyH_done (by kernel_rfl) ?_ _
          obtain ⟨⟨v0, v1, v2⟩, v3⟩ := DBox.made (S := S9) (A := A9) (n := n9) (c := c9) (E := fdX (erS z E k) (erM z E k)) r6 ⟨_, r0⟩ ⟨_, r1⟩ ⟨_, r2⟩
          obtain ⟨⟨hRsD0, hRsD1, hRsD2, hRsD3, hRsD4, hRsD5⟩, hRsD6⟩ := RsD7.out.st3_ (b := f) (S := S9) (A := A9) (n := n9) (c := c9) (E := fdX (erS z E k) (erM z E k)) (by have zz0 := Hlt.out; have zz1 := Sz2.out; have zz2 := Sz3.out; have zz3 := Sz4.out; have zz4 := Hf.out; have zz5 := Hf2.out; have zz6 := Sz5.out; have zz7 := Sz6.out; have zz8 := Sz7.out; first | omega | (simp; done) | (simp; omega))
          have Zq := Lib.hid (Zp7.out.st3_ (b := f) (S := S9) (A := A9) (n := n9) (c := c9) (E := fdX (erS z E k) (erM z E k)) (.inl (by have zz0 := Hlt.out; have zz1 := Sz2.out; have zz2 := Sz3.out; have zz3 := Sz4.out; have zz4 := Hf.out; have zz5 := Hf2.out; have zz6 := Sz5.out; have zz7 := Sz6.out; have zz8 := Sz7.out; first | omega | (simp; done) | (simp; omega))))
          have Belq := Lib.hid (belSt3 (b := f) (S := S9) (A := A9) (n := n9) (c := c9) (E := fdX (erS z E k) (erM z E k)) Bel7.out (by have zz0 := Hlt.out; have zz1 := Sz2.out; have zz2 := Sz3.out; have zz3 := Sz4.out; have zz4 := Hf.out; have zz5 := Hf2.out; have zz6 := Sz5.out; have zz7 := Sz6.out; have zz8 := Sz7.out; first | omega | (simp; done) | (simp; omega)))
          have Szq : Hid ((st3 w7 f S9 A9 n9 c9 (fdX (erS z E k) (erM z E k))).heap.size = w7.heap.size) := Lib.hid st3_size
          clear r0 r1 r2 r3 r4 r5 r6
          obtain ⟨y, hy⟩ : ∃ y, y = st3 w7 f S9 A9 n9 c9 (fdX (erS z E k) (erM z E k)) := ⟨_, rfl⟩
          rw [← hy] at v0 v1 v2 v3 hRsD0 hRsD1 hRsD2 hRsD3 hRsD4 hRsD5 hRsD6 Zq Belq Szq
          rw [← hy]
          clear hy
          go_wp2_with fail
          refine bodyPost_ret (v := .tuple #[.agg #[.int .i64 S9, .slice A9 n9 c9, .int .i64 (fdX (erS z E k) (erM z E k))], .int .i64 (fdE (erS z E k) (erM z E k))]) (by simp [results, Tryz.results9, go_sem, hRsD0, hRsD1, hRsD2]) rfl ⟨S9, A9, n9, c9, by rw [Hres.out.2.1, Hres.out.2.2], ?_, ?_⟩
          · rw [Hres.out.1]; exact (((Zq.out.setCell (.inl (by have zz0 := Hlt.out; have zz1 := Sz2.out; have zz2 := Sz3.out; have zz3 := Sz4.out; have zz4 := Hf.out; have zz5 := Hf2.out; have zz6 := Sz5.out; have zz7 := Sz6.out; have zz8 := Sz7.out; have zz9 := Szq.out; first | omega | (simp; done) | (simp; omega))) _).setCell (.inl (by have zz0 := Hlt.out; have zz1 := Sz2.out; have zz2 := Sz3.out; have zz3 := Sz4.out; have zz4 := Hf.out; have zz5 := Hf2.out; have zz6 := Sz5.out; have zz7 := Sz6.out; have zz8 := Sz7.out; have zz9 := Szq.out; first | omega | (simp; done) | (simp; omega))) _).setCell (.inl (by have zz0 := Hlt.out; have zz1 := Sz2.out; have zz2 := Sz3.out; have zz3 := Sz4.out; have zz4 := Hf.out; have zz5 := Hf2.out; have zz6 := Sz5.out; have zz7 := Sz6.out; have zz8 := Sz7.out; have zz9 := Szq.out; first | omega | (simp; done) | (simp; omega))) _).wide (by have zz0 := Hlt.out; have zz1 := Sz2.out; have zz2 := Sz3.out; have zz3 := Sz4.out; have zz4 := Hf.out; have zz5 := Hf2.out; have zz6 := Sz5.out; have zz7 := Sz6.out; have zz8 := Sz7.out; have zz9 := Szq.out; first | omega | (simp; done) | (simp; omega)) (by have zz0 := Hlt.out; have zz1 := Sz2.out; have zz2 := Sz3.out; have zz3 := Sz4.out; have zz4 := Hf.out; have zz5 := Hf2.out; have zz6 := Sz5.out; have zz7 := Sz6.out; have zz8 := Sz7.out; have zz9 := Szq.out; first | omega | (simp; done) | (simp; omega)) (Nat.le_refl _)
          · exact ((Belq.out.setCell (by have zz0 := Hlt.out; have zz1 := Sz2.out; have zz2 := Sz3.out; have zz3 := Sz4.out; have zz4 := Hf.out; have zz5 := Hf2.out; have zz6 := Sz5.out; have zz7 := Sz6.out; have zz8 := Sz7.out; have zz9 := Szq.out; first | omega | (simp; done) | (simp; omega)) _).setCell (by have zz0 := Hlt.out; have zz1 := Sz2.out; have zz2 := Sz3.out; have zz3 := Sz4.out; have zz4 := Hf.out; have zz5 := Hf2.out; have zz6 := Sz5.out; have zz7 := Sz6.out; have zz8 := Sz7.out; have zz9 := Szq.out; first | omega | (simp; done) | (simp; omega)) _).setCell (by have zz0 := Hlt.out; have zz1 := Sz2.out; have zz2 := Sz3.out; have zz3 := Sz4.out; have zz4 := Hf.out; have zz5 := Hf2.out; have zz6 := Sz5.out; have zz7 := Sz6.out; have zz8 := Sz7.out; have zz9 := Szq.out; first | omega | (simp; done) | (simp; omega)) _
    · obtain ⟨g1, g2, g3⟩ := rdR_range HW.out hk
      rw [g3]
      have Hres := Lib.hid (er_range HW.out hk)
      clear g1 g2 g3 hk
      go_wp2_with fail
      refine bodyPost_ret (v := .tuple #[.agg #[.int .i64 0, .slice none 0 0, .int .i64 0], .int .i64 2]) (by simp [results, Tryz.results9, go_sem, hRsD0, hRsD1, hRsD2]) rfl ⟨0, none, 0, 0, by rw [Hres.out.2.1, Hres.out.2.2], ?_, ?_⟩
      · rw [Hres.out.1]; exact ZO.zero (Nat.le_refl _)
      · exact ((Bel2.out.setCell (by have zz0 := Hlt.out; have zz1 := Sz2.out; first | omega | (simp; done) | (simp; omega)) _).setCell (by have zz0 := Hlt.out; have zz1 := Sz2.out; first | omega | (simp; done) | (simp; omega)) _).setCell (by have zz0 := Hlt.out; have zz1 := Sz2.out; first | omega | (simp; done) | (simp; omega)) _
  · have hW2 : isD S xs E = false := by simpa using hW
    obtain ⟨g1, g2, g3⟩ := rdR_no (k := k) hW2
    rw [g3]
    have Hres := Lib.hid (er_no (k := k) hW2)
    clear g1 g2 g3 hW hW2
    go_wp2_with fail
    refine bodyPost_ret (v := .tuple #[.agg #[.int .i64 0, .slice none 0 0, .int .i64 0], .int .i64 1]) (by simp [results, Tryz.results9, go_sem, hRsD0, hRsD1, hRsD2]) rfl ⟨0, none, 0, 0, by rw [Hres.out.2.1, Hres.out.2.2], ?_, ?_⟩
    · rw [Hres.out.1]; exact ZO.zero (Nat.le_refl _)
    · exact ((Bel2.out.setCell (by have zz0 := Hlt.out; have zz1 := Sz2.out; first | omega | (simp; done) | (simp; omega)) _).setCell (by have zz0 := Hlt.out; have zz1 := Sz2.out; first | omega | (simp; done) | (simp; omega)) _).setCell (by have zz0 := Hlt.out; have zz1 := Sz2.out; first | omega | (simp; done) | (simp; omega)) _

end Go.Proofs.YtcjamfoiilgfoaaGreatDoor
