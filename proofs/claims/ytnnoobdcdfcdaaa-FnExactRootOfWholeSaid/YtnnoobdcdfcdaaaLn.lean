/- The length of a whole number, of the program and of the model. -/
import Derived.Test.YtnnoobdcdfcdaaaIx
import Derived.Lib.BitFns
import Derived.Lib.ItoaNum
import Derived.Lib.Strings
import Derived.Lib.Slices
import Derived.Lib.Small
import Derived.Lib.Walk
namespace Go.Proofs.Ytnnoobdcdfcdaaa
set_option maxRecDepth 100000
open Go.RowKit
set_option linter.unusedSimpArgs false
set_option linter.unusedVariables false

/-- the number of bits -/
def blen (v : Nat) : Nat := if v = 0 then 0 else Nat.log2 v + 1
theorem blen_zero : blen 0 = 0 := rfl
theorem blen_bounds {v : Nat} (h : v ≠ 0) : 1 ≤ blen v ∧ 2 ^ (blen v - 1) ≤ v ∧ v < 2 ^ blen v := by
  unfold blen
  rw [if_neg h]
  exact ⟨by omega, by simpa using Nat.log2_self_le h, Nat.lt_log2_self⟩
theorem blen_eq {v k : Nat} (h1 : 2 ^ k ≤ v) (h2 : v < 2 ^ (k + 1)) : blen v = k + 1 := by
  have hv : v ≠ 0 := by have := Nat.two_pow_pos k; omega
  unfold blen
  rw [if_neg hv, (Nat.log2_eq_iff hv).2 ⟨h1, h2⟩]
theorem blen_lt {v k : Nat} : blen v ≤ k ↔ v < 2 ^ k := by
  by_cases hv : v = 0
  · subst hv; simp [blen_zero, Nat.two_pow_pos]
  · unfold blen
    rw [if_neg hv, Nat.succ_le_iff, Nat.log2_lt hv]

theorem Bs_pow (n : Nat) : Bs ^ n = 2 ^ (24 * n) := by rw [Nat.pow_mul]; rfl

theorem bitLen_blen {x : Nat} (h : x < 16777216) : Lib.bitLen x = blen x := by
  by_cases h0 : x = 0
  · subst h0; rfl
  · obtain ⟨h1, h2, h3⟩ := Lib.bitLenAux_bounds 64 x (by omega) h0
    have e : Lib.bitLen x = Lib.bitLenAux 64 x := rfl
    rw [e]
    have := blen_eq h2 (by rw [Nat.sub_add_cancel h1]; exact h3)
    omega

theorem limbs_top {v n : Nat} (hn : (limbs v).length = n) (h1 : n - 1 < (limbs v).length) : ∃ t, v = t + Bs ^ (n - 1) * (limbs v)[n - 1] ∧ t < Bs ^ (n - 1) ∧ (limbs v)[n - 1] ≠ 0 ∧ (limbs v)[n - 1] < Bs := by
  have h2 := V_take_succ h1
  rw [Nat.sub_add_cancel (by omega), List.take_of_length_le (by omega), V_limbs] at h2
  have h3 := V_lt ((Lim_limbs v).take (n - 1))
  rw [List.length_take, Nat.min_eq_left (by omega)] at h3
  refine ⟨_, h2, h3, ?_, (Lim_limbs v).getElem h1⟩
  have hne : limbs v ≠ [] := fun e => by rw [e] at h1; simp at h1
  have := limbs_last v hne
  rw [List.getLast_eq_getElem] at this
  subst hn
  exact this

theorem blen_limbs {v n : Nat} (hn : (limbs v).length = n) (h1 : n - 1 < (limbs v).length) : blen v = 24 * (n - 1) + blen (limbs v)[n - 1] := by
  obtain ⟨t, hv, ht, h0, hb⟩ := limbs_top hn h1
  obtain ⟨g1, g2, g3⟩ := blen_bounds h0
  generalize (limbs v)[n - 1] = x at *
  have k := blen_eq (v := v) (k := 24 * (n - 1) + (blen x - 1)) (by
    rw [Nat.pow_add, ← Bs_pow, hv]
    have := Nat.mul_le_mul_left (Bs ^ (n - 1)) g2
    omega) (by
    rw [Nat.add_assoc, Nat.sub_add_cancel g1, Nat.pow_add, ← Bs_pow]
    have h5 : Bs ^ (n - 1) * (x + 1) ≤ Bs ^ (n - 1) * 2 ^ blen x := Nat.mul_le_mul_left _ g3
    rw [Nat.mul_add] at h5
    omega)
  omega

set_option maxRecDepth 100000 in
theorem len8_size : (Lib.len8tab.size : Int) = 256 := by
  have : Lib.len8tab.size = 256 := by decide
  omega
theorem len8_at (y : Int) (h : y.toNat < Lib.len8tab.size) : ((Lib.len8tab[y.toNat]'h).toNat : Int) = Lib.len8 y := by
  unfold Lib.len8
  rw [getElem?_pos Lib.len8tab y.toNat h]
  rfl
theorem wrap_small (a : Int) (h : 0 ≤ a) (h2 : a ≤ 100) : wrap64 a = a := by unfold wrap64; omega

set_option maxHeartbeats 4000000 in
set_option maxRecDepth 100000 in
theorem len64_int (x : Int) (w : World) (h0 : 0 ≤ x) (hx : x ≤ 16777215) : Calls Try.prog 96 #[.int .u64 x] w fun e w' => e = .returned (.int .i64 (Lib.bitLen x.toNat)) ∧ w = w' := by
  go_enter Try.func96, Try.ntmps96
  go_wp2
  all_goals first
    | (go_ret; refine ⟨congrArg Ending.returned (congrArg (Value.int IntKind.i64) ?_), rfl⟩)
    | (exfalso
       have hs := len8_size
       omega)
  all_goals first
    | (rw [len8_at (x / 65536) _, Lib.len8_of (x / 65536) (by omega) (by omega)]
       have e : (x / 65536).toNat = x.toNat / 65536 := by omega
       have l := Lib.bitLen_le8' (x / 65536) (by omega) (by omega)
       have s := Lib.bitLen_shift16 x.toNat (by omega) (by omega)
       rw [e] at l ⊢
       unfold wrap64
       omega)
    | (rw [len8_at (x / 256) _, Lib.len8_of (x / 256) (by omega) (by omega)]
       have e : (x / 256).toNat = x.toNat / 256 := by omega
       have l := Lib.bitLen_le8' (x / 256) (by omega) (by omega)
       have s := Lib.bitLen_shift8 x.toNat (by omega) (by omega)
       rw [e] at l ⊢
       unfold wrap64
       omega)
    | (rw [len8_at x _, Lib.len8_of x (by omega) (by omega)]
       have l := Lib.bitLen_le8' x (by omega) (by omega)
       unfold wrap64
       omega)

theorem len64_any (x : Nat) (w : World) (hx : x < Bs) : Calls Try.prog 96 #[.int .u64 x] w fun e w' => e = .returned (.int .i64 (blen x)) ∧ w = w' := by
  rw [Bs_eq] at hx
  refine (len64_int x w (by omega) (by omega)).mono ?_
  rintro e w' ⟨rfl, rfl⟩
  exact ⟨by rw [Int.toNat_natCast, bitLen_blen hx], rfl⟩

theorem natLen_any (v : Nat) (A : Option Addr) (n c B : Nat) (w : World) (hr : Rd w B A (vs (limbs v))) (hn : (limbs v).length = n) (hm : (n : Int) ≤ 100000) :
    Calls Try.prog 78 #[.slice A n c] w fun e w' => e = .returned (.int .i64 (blen v)) ∧ w = w' := by
  by_cases h0 : n = 0
  · have hv : v = 0 := limbs_len_zero.1 (by omega)
    clear hr hn
    subst h0 hv
    go_enter Try.func78, Try.ntmps78
    go_wp2_with fail
    go_ret
    exact ⟨rfl, rfl⟩
  · have h1 : n - 1 < (limbs v).length := by omega
    obtain ⟨a, ha, _⟩ := hr.some_ (by rw [vs_len]; omega)
    subst ha
    have hc := hr.cell (k := n - 1) (by rw [vs_len]; exact h1)
    rw [vs_get h1] at hc
    have Hl := Lib.hid (blen_limbs hn h1)
    have Hx := Lib.hid ((Lim_limbs v).getElem h1)
    have hx0 : (0 : Int) ≤ ((limbs v)[n - 1] : Nat) := by omega
    have hx1 : (((limbs v)[n - 1] : Nat) : Int) ≤ 16777215 := by have := Hx.out; rw [Bs_eq] at this; omega
    have Hbl : Hid (blen (limbs v)[n - 1] ≤ 24) := Lib.hid (blen_lt.2 (by have := Hx.out; rw [Bs_eq] at this; omega))
    have hn0 : ((n : Int) == 0) = false := by simp; omega
    have hn1 : (1 : Int) ≤ n := by omega
    clear hr hn h0
    generalize (limbs v)[n - 1] = x at *
    go_enter Try.func78, Try.ntmps78
    go_wp2_with fail
    refine (len64_any x _ Hx.out).mono ?_
    rintro e w' ⟨rfl, rfl⟩
    obtain ⟨y, hy⟩ : ∃ y, y = blen x := ⟨_, rfl⟩
    have Hl2 : Hid (blen v = 24 * (n - 1) + y) := Lib.hid (by rw [hy]; exact Hl.out)
    have hy1 : (0 : Int) ≤ y := by omega
    have hy2 : (y : Int) ≤ 24 := by have := Hbl.out; omega
    rw [← hy]
    clear hy Hl Hbl Hx
    go_wp2_with fail
    go_ret
    exact ⟨ret_int (by have := Hl2.out; omega), rfl⟩

theorem implLen_any (s : Int) (v : Nat) (A : Option Addr) (n c B : Nat) (w : World) (hr : Rd w B A (vs (limbs v))) (hB : B ≤ w.heap.size) (hn : (limbs v).length = n) (hm : (n : Int) ≤ 100000) :
    Calls Try.prog 65 #[.agg #[.int .i64 s, .slice A n c]] w fun e w' => e = .returned (.int .i64 (blen v)) ∧ Below w.heap.size w w' := by
  have Hr := Lib.hid (hr.below ((Below.refl B w).alloc hB (.cells #[.int .i64 s, .slice A n c] 26)))
  have Hn := Lib.hid hn
  clear hr hn
  go_enter Try.func65, Try.ntmps65
  go_wp2_with fail
  refine (natLen_any v A n c B _ Hr.out Hn.out hm).mono ?_
  rintro e w' ⟨rfl, rfl⟩
  go_wp2_with fail
  go_ret
  exact ⟨rfl, (Below.refl _ _).alloc (Nat.le_refl _) _⟩

/-- halving, as often as it goes -/
theorem blen_half {x : Nat} (h : x ≠ 0) : blen x = blen (x / 2) + 1 := by
  obtain ⟨h1, h2, h3⟩ := blen_bounds h
  by_cases h4 : x / 2 = 0
  · have : x = 1 := by omega
    subst this; rfl
  · obtain ⟨g1, g2, g3⟩ := blen_bounds h4
    refine blen_eq (k := blen (x / 2)) ?_ ?_
    · obtain ⟨m, hm⟩ : ∃ m, blen (x / 2) = m + 1 := ⟨blen (x / 2) - 1, by omega⟩
      rw [hm, Nat.add_sub_cancel] at g2
      rw [hm, Nat.pow_succ]
      omega
    · rw [Nat.pow_succ]; omega

set_option maxHeartbeats 400000 in
theorem specLen_any (s : Int) (v : Nat) (A : Option Addr) (n c B : Nat) (w : World) (hr : Rd w B A (vs (limbs v))) (hB : B ≤ w.heap.size) (hn : (limbs v).length = n) (hm : (n : Int) ≤ 100000) :
    Calls Try.prog 71 #[.agg #[.int .i64 s, .slice A n c]] w fun e w' => e = .returned (.int .i64 (blen v)) ∧ Below w.heap.size w w' := by
  by_cases h0 : n = 0
  · have hv : v = 0 := limbs_len_zero.1 (by omega)
    clear hr hn
    subst h0 hv
    go_enter Try.func71, Try.ntmps71
    go_wp2_with fail
    go_ret
    exact ⟨rfl, (Below.refl _ _).alloc (Nat.le_refl _) _⟩
  · have h1 : n - 1 < (limbs v).length := by omega
    obtain ⟨a, ha, _⟩ := hr.some_ (by rw [vs_len]; omega)
    subst ha
    have hc := (hr.below ((Below.refl B w).alloc hB (.cells #[.int .i64 s, .slice (some a) n c] 26))).cell (k := n - 1) (by rw [vs_len]; exact h1)
    rw [vs_get h1] at hc
    have Hl := Lib.hid (blen_limbs hn h1)
    have Hx := Lib.hid ((Lim_limbs v).getElem h1)
    have Hbl : Hid (blen (limbs v)[n - 1] ≤ 24) := Lib.hid (blen_lt.2 (by have := Hx.out; rw [Bs_eq] at this; omega))
    have hn0 : ((n : Int) == 0) = false := by simp; omega
    have hn1 : (1 : Int) ≤ n := by omega
    have Hn0 := Lib.hid hn0
    clear hr hn h0
    generalize (limbs v)[n - 1] = x at *
    go_enter Try.func71, Try.ntmps71
    go_wp2_with fail
    go_loop [4, 5] (fun b t => ∃ y k : Nat, t = .int .i64 y ∧ b = .int .i64 ((n - 1) * 24 + k) ∧ blen x = k + blen y ∧ y < Bs) (fun _ t => (intOf t).toNat)
    case atStart => exact ⟨x, 0, rfl, by simp, by simp, Hx.out⟩
    case round =>
      obtain ⟨y, k, rfl, rfl, hk, hy⟩ := hrel
      have Hk := Lib.hid hk
      have hy2 : (y : Int) ≤ 16777215 := by rw [Bs_eq] at hy; omega
      have hk2 : (k : Int) ≤ 24 := by have := Hbl.out; omega
      clear hk hy
      by_cases hy0 : y = 0
      · subst hy0
        go_wp2_with fail
        go_ret
        exact ⟨ret_int (by have := Hl.out; have := Hk.out; rw [blen_zero] at this; omega), (Below.refl _ _).alloc (Nat.le_refl _) _⟩
      · have hy3 : (0 : Int) < y := by omega
        go_wp2_with fail
        go_round
        case rel => exact ⟨y / 2, k + 1, by go_num, by go_num, by have := Hk.out; rw [blen_half hy0] at this; omega, by rw [Bs_eq]; omega⟩
        case measure => simp [intOf]; omega

/-! the functions of the chapter -/
def nats (xs : List Int) : List Nat := xs.map Int.toNat
theorem nats_li (ys : List Nat) : nats (li ys) = ys := by
  unfold nats li
  rw [List.map_map]
  conv => rhs; rw [← List.map_id ys]
  apply List.map_congr_left
  intro x _
  simp
/-- the value of limbs of which it is not known whether they are a number -/
noncomputable def magW (s : Int) (xs : List Int) : Nat := V (nats xs)
theorem okW_limbs {s : Int} {xs : List Int} (h : isW s xs = true) : ∃ v, xs = li (limbs v) ∧ magW s xs = v ∧ (limbs v).length ≤ 100 ∧ s = Int.sign s ∧ (s = 0 ↔ v = 0) := by
  obtain ⟨z, h1, h2, h3⟩ := okW_iff.1 (okW_of h)
  refine ⟨z.natAbs, h2, ?_, h3, by rw [h1, Int.sign_sign], ?_⟩
  · unfold magW; rw [h2, nats_li, V_limbs]
  · rw [h1, Int.sign_eq_zero_iff_zero]; omega
noncomputable def errW (s : Int) (xs : List Int) : Int := if isW s xs = true then 0 else 1
noncomputable def lenR (s : Int) (xs : List Int) : Int := if isW s xs = true then (blen (magW s xs) : Int) else 0
theorem vs_li (ys : List Nat) : vs ys = vi (li ys) := rfl

theorem ret_two {k k' : IntKind} {a b a' b' : Int} (h : a = b) (h' : a' = b') : Ending.returned (.tuple #[.int k a, .int k' a']) = .returned (.tuple #[.int k b, .int k' b']) := by rw [h, h']

end Go.Proofs.Ytnnoobdcdfcdaaa
