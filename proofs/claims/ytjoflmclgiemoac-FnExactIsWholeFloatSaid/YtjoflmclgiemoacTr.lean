/- Whole floats: math.Trunc gives the number itself just where it is whole; the walks of IsWholeFloat, of the model and of the program. -/
import Derived.Test.YtjoflmclgiemoacIb
import Derived.Laws.Externs
namespace Go.Proofs.Ytjoflmclgiemoac
open Go.RowKit
open Ieee

/-- the number m 2^p is whole -/
def IsW (m : Nat) (p : Int) : Prop := ∃ M, SameVal m p M 0

theorem cut_zero_eq (s : Bool) (n d : Nat) : Toward.zero.cut s n d = n / 2 ^ d := by
  unfold Toward.cut
  simp only [Nat.one_shiftLeft, Bool.toNat_false, Nat.add_zero]
  by_cases h : d ≤ n.log2 + 2
  · rw [Nat.min_eq_left h]
  · have h1 := @Nat.lt_log2_self n
    have h2 : 2 ^ (n.log2 + 1) ≤ 2 ^ d := Nat.pow_le_pow_right (by omega) (by omega)
    have h3 : 2 ^ (n.log2 + 1) ≤ 2 ^ (n.log2 + 2) := Nat.pow_le_pow_right (by omega) (by omega)
    rw [Nat.min_eq_right (by omega), Nat.div_eq_of_lt (by omega), Nat.div_eq_of_lt (by omega)]

theorem trunc_whole (s : Bool) {m M : Nat} {p : Int} (h : SameVal m p M 0) : Toward.zero.cut s (m <<< p.toNat) (-p).toNat = M := by
  have := toInt_same s h
  unfold Datum.toInt Datum.integral at this
  simp only [Option.some.injEq] at this
  unfold signed at this
  cases s <;> simp at this <;> omega

theorem isW_pos {m : Nat} {p : Int} (h : 0 ≤ p) : IsW m p := ⟨m * 2 ^ p.toNat, p.toNat, 0, by simp, by omega⟩

/-- the word that Trunc gives -/
def truncOf (c : Nat) : Nat := Ieee.double.write ((Ieee.double.read c).integral .zero)

theorem trunc_same (s : Bool) {m : Nat} {p : Int} (h1 : m < 9007199254740992) (h2 : -1074 ≤ p) (h3 : p ≤ 971) (hw : IsW m p) : truncOf (d64 s m p) = d64 s m p := by
  obtain ⟨m', p', e, hs, _⟩ := read64 s h1 h2 h3
  obtain ⟨M, hM⟩ := hw
  unfold truncOf
  rw [e]
  unfold Datum.integral
  simp only
  rw [trunc_whole s (hs.trans hM)]
  exact nearest_same _ s hM.symm

theorem trunc_other (s : Bool) {m : Nat} {p : Int} (h1 : m < 9007199254740992) (h2 : -1074 ≤ p) (h3 : p ≤ 971) (hw : ¬ IsW m p) : (FloatKind.f64.format.order (d64 s m p) (truncOf (d64 s m p)) == some .eq) = false := by
  obtain ⟨m', p', e, hs, hlt⟩ := read64 s h1 h2 h3
  have hw' : ¬ IsW m' p' := fun ⟨M, hM⟩ => hw ⟨M, hs.symm.trans hM⟩
  have hp : p' < 0 := by
    rcases Int.lt_or_le p' 0 with h | h
    · exact h
    · exact absurd (isW_pos h) hw'
  have e3 : truncOf (d64 s m p) = d64 s (m' / 2 ^ (-p').toNat) 0 := by
    unfold truncOf
    rw [e]
    unfold Datum.integral
    simp only
    rw [show p'.toNat = 0 by omega, Nat.shiftLeft_zero, cut_zero_eq]
    rfl
  have hM : m' / 2 ^ (-p').toNat < 9007199254740992 := Nat.lt_of_le_of_lt (Nat.div_le_self _ _) hlt
  rw [e3]
  show (Ieee.double.order _ _ == some .eq) = false
  rw [order64 s s h1 h2 h3 hM (by decide) (by decide), order_same s s hs.symm (SameVal.refl _ _),
    order_num s s m' _ p' 0 p' (by omega) (by omega), cmp_eq, decide_eq_false]
  intro h
  apply hw'
  refine ⟨m' / 2 ^ (-p').toNat, 0, (-p').toNat, ?_, by omega⟩
  rw [signed_eq, signed_eq, show (p' - p').toNat = 0 by omega, show (0 - p').toNat = (-p').toNat by omega] at h
  have h' : (m' : Int) * 2 ^ 0 = ((m' / 2 ^ (-p').toNat : Nat) : Int) * 2 ^ (-p').toNat := by
    generalize ((m' / 2 ^ (-p').toNat : Nat) : Int) * 2 ^ (-p').toNat = X at h ⊢
    generalize (m' : Int) * 2 ^ 0 = Y at h ⊢
    cases s <;> simp at h <;> omega
  exact_mod_cast h'

theorem run_archTrunc (c : Nat) (hn : (Ieee.double.read c).isNaN = false) (w : World) : (callFunc 43 #[.float .f64 c]).run Try.prog w = .ok (.value (.float .f64 (truncOf c))) w := by
  rw [run_callFunc_extern Try.func43 (by kernel_rfl) (by kernel_rfl) (by kernel_rfl) (e := Extern.MathFloor.toIntegral "math.archTrunc" .zero) (by kernel_rfl)]
  have key : Extern.MathFloor.toIntegral "math.archTrunc" .zero #[.float .f64 c] = pure (.float .f64 (truncOf c)) := by
    have e : truncOf c = FloatKind.f64.encode ((FloatKind.f64.decode c).integral .zero) := rfl
    have hn' : (FloatKind.f64.decode c).isNaN = false := hn
    rw [e]
    clear e hn
    conv => lhs; whnf
    generalize FloatKind.f64.decode c = d at *
    cases d with
    | nan s t => cases hn'
    | number s m p => rfl
    | infinity s => rfl
  rw [key]; rfl

theorem trunc_any (c : Nat) (hn : (Ieee.double.read c).isNaN = false) (w : World) : Calls Try.prog 31 #[.float .f64 c] w fun e w' => e = .returned (.float .f64 (truncOf c)) ∧ w = w' := by
  have hx := run_archTrunc c hn
  go_enter Try.func31, Try.ntmps31
  go_wp2_with fail
  go_ret
  exact ⟨rfl, rfl⟩

theorem ret2_bool {a b : Bool} {x : Value} (h : a = b) : Ending.returned (.tuple #[.bool a, x]) = .returned (.tuple #[.bool b, x]) := by rw [h]

theorem implWhole_fin (b : Nat) (t : Bool) (w : World) (hb : b < 4294967296) (hf : fin32 b = true)
    (ht : (FloatKind.f64.format.order (d64 (neg32 b) (mant (b % 2147483648)) (-149 + expo (b % 2147483648))) (truncOf (d64 (neg32 b) (mant (b % 2147483648)) (-149 + expo (b % 2147483648)))) == some .eq) = t) :
    Calls Try.prog 14 #[.float .f32 b] w fun e w' => e = .returned (.tuple #[.bool t, .int .i64 0]) ∧ w = w' := by
  have hc := conv_3264 b hb hf
  have l1 := mant_lt (b % 2147483648)
  have l2 := expo_le (b % 2147483648) (by simpa [fin32] using hf)
  have hn : (Ieee.double.read (d64 (neg32 b) (mant (b % 2147483648)) (-149 + expo (b % 2147483648)))).isNaN = false := by
    obtain ⟨m', p', e, _⟩ := read64 (neg32 b) (m := mant (b % 2147483648)) (p := -149 + expo (b % 2147483648)) (by omega) (by omega) (by omega)
    rw [e]; rfl
  generalize d64 (neg32 b) (mant (b % 2147483648)) (-149 + expo (b % 2147483648)) = c at *
  have hcv : ∀ w, (convert 22 27 (.float .f32 b)).run Try.prog w = .ok (.float .f64 c) w := fun w => run_convert_float_float w _ _ _ _ _ _ (by kernel_rfl) (by kernel_rfl) hc
  clear hc l1 l2
  have H := Lib.hid hn
  clear hn
  go_enter Try.func14, Try.ntmps14
  go_wp2_with fail
  refine (implFinite_any b _ hb).mono ?_
  rintro e w' ⟨rfl, rfl⟩
  rw [hf]
  go_wp2_with fail
  refine (trunc_any c H.out _).mono ?_
  rintro e w' ⟨rfl, rfl⟩
  go_wp2_with fail
  go_ret2
  exact ⟨rfl, rfl⟩

theorem implWhole_no (b : Nat) (w : World) (hb : b < 4294967296) (hf : fin32 b = false) :
    Calls Try.prog 14 #[.float .f32 b] w fun e w' => e = .returned (.tuple #[.bool false, .int .i64 1]) ∧ w = w' := by
  go_enter Try.func14, Try.ntmps14
  go_wp2_with fail
  refine (implFinite_any b _ hb).mono ?_
  rintro e w' ⟨rfl, rfl⟩
  rw [hf]
  go_wp2_with fail
  go_ret2
  exact ⟨rfl, rfl⟩

theorem specWhole_no (b : Nat) (w : World) (hb : b < 4294967296) (hf : fin32 b = false) :
    Calls Try.prog 13 #[.float .f32 b] w fun e w' => e = .returned (.tuple #[.bool false, .int .i64 1]) ∧ ∃ n, w' = w.drewN n := by
  go_enter Try.func13, Try.ntmps13
  go_wp2_with fail
  refine (fin_no b _ hb hf).mono ?_
  rintro e w' ⟨rfl, rfl⟩
  go_wp2_with fail
  go_ret2
  exact ⟨rfl, 1, rfl⟩

theorem odd_not (q : Nat) (k : Int) (h1 : q % 2 = 1) (h2 : k < 0) : ¬ IsW q k := by
  rintro ⟨M, a, b, e1, e2⟩
  have e3 : b = a + (b - a - 1) + 1 := by omega
  rw [e3, Nat.pow_succ, Nat.pow_add, Nat.mul_comm (2 ^ a), Nat.mul_assoc, Nat.mul_comm (2 ^ a) 2, ← Nat.mul_assoc, ← Nat.mul_assoc] at e1
  have := Nat.eq_of_mul_eq_mul_right (Nat.two_pow_pos a) e1
  omega

/-- whole, told by a bool -/
structure Tells (t : Bool) (m : Nat) (p : Int) : Prop where
  yes : t = true → IsW m p
  no : t = false → ¬ IsW m p

set_option maxHeartbeats 400000 in
theorem specWhole_fin (b : Nat) (t : Bool) (w : World) (hb : b < 4294967296) (hf : fin32 b = true) (ht : Tells t (mant (b % 2147483648)) (-149 + expo (b % 2147483648))) :
    Calls Try.prog 13 #[.float .f32 b] w fun e w' => e = .returned (.tuple #[.bool t, .int .i64 0]) ∧ w = w' := by
  have l1 := mant_lt (b % 2147483648)
  have l2 := expo_le (b % 2147483648) (by simpa [fin32] using hf)
  obtain ⟨m, hm⟩ : ∃ m, m = mant (b % 2147483648) := ⟨_, rfl⟩
  obtain ⟨p, hp⟩ : ∃ p : Int, p = -149 + expo (b % 2147483648) := ⟨_, rfl⟩
  rw [← hm] at l1
  have p1 : -149 ≤ p := by omega
  have p2 : p ≤ 104 := by omega
  rw [← hm, ← hp] at ht
  have Hm := Lib.hid hm
  have Hp := Lib.hid hp
  have L1 := Lib.hid l1
  clear hm hp l2 l1
  go_enter Try.func13, Try.ntmps13
  go_wp2_with fail
  refine (fin_yes b _ hb hf).mono ?_
  rintro e w' ⟨rfl, rfl⟩
  go_wp2_with fail
  refine (parts_fin b _ hb hf).mono ?_
  rintro e w' ⟨rfl, rfl⟩
  rw [← Hm.out, ← Hp.out]
  clear hb hf Hm Hp
  go_wp2_with fail
  go_loop [4, 5] (fun x y => ∃ (q : Nat) (k : Int), q < 16777216 ∧ -149 ≤ k ∧ k ≤ 104 ∧ SameVal q k m p ∧ x = .int .i64 q ∧ y = .int .i64 k) (fun _ y => (200 - intOf y).toNat)
  case atStart => exact ⟨m, p, L1.out, p1, p2, SameVal.refl _ _, rfl, rfl⟩
  case round =>
    obtain ⟨q, k, hq, k1, k2, hs, rfl, rfl⟩ := hrel
    have hq' : (q : Int) ≤ 16777215 := by omega
    have Q := Lib.hid hq
    clear hq
    by_cases hk : k < 0
    · by_cases h0 : q = 0
      · subst h0
        have hw : IsW m p := ⟨0, hs.symm.trans ⟨0, (-k).toNat, by simp, by omega⟩⟩
        have htt : Hid (t = true) := Lib.hid (by
          cases t
          · exact absurd hw (ht.no rfl)
          · rfl)
        clear hw ht
        go_wp2_with fail
        go_ret2
        exact ⟨ret2_bool htt.out.symm, rfl⟩
      · have hd : ((q : Int) == 0) = false := by simp; omega
        by_cases ho : q % 2 = 1
        · have hr : ((q : Int) % 2 == 0) = false := by simp; omega
          have htt : Hid (t = false) := Lib.hid (by
            cases t
            · rfl
            · obtain ⟨M, hM⟩ := ht.yes rfl
              exact absurd ⟨M, hs.trans hM⟩ (odd_not q k ho hk))
          clear ht ho h0
          go_wp2_with fail
          go_ret2
          exact ⟨ret2_bool htt.out.symm, rfl⟩
        · have hr : ((q : Int) % 2 == 0) = true := by simp; omega
          have hs2 : Hid (SameVal (q / 2) (k + 1) m p) := Lib.hid (SameVal.trans ⟨1, 0, by omega, by omega⟩ hs)
          clear ho h0
          go_wp2_with fail
          go_round
          case rel => exact ⟨q / 2, k + 1, by have := Q.out; omega, by omega, by omega, hs2.out, by go_num, rfl⟩
          case measure => simp [intOf]; omega
    · have hw : IsW m p := by
        obtain ⟨M, hM⟩ := isW_pos (m := q) (p := k) (by omega)
        exact ⟨M, hs.symm.trans hM⟩
      have htt : Hid (t = true) := Lib.hid (by
        cases t
        · exact absurd hw (ht.no rfl)
        · rfl)
      clear hw ht
      go_wp2_with fail
      go_ret2
      exact ⟨ret2_bool htt.out.symm, rfl⟩
end Go.Proofs.Ytjoflmclgiemoac
