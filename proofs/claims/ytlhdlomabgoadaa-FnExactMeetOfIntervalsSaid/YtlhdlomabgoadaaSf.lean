/- Doubles made of singles, and the walk of the laws' own sameFloat: it says yes of one word twice, and of two NaN. -/
import Derived.Test.YtlhdlomabgoadaaIb
namespace Go.Proofs.Ytlhdlomabgoadaa
set_option maxRecDepth 100000
open Go.RowKit
open Ieee

def nan64 (c : Nat) : Bool := (Ieee.double.read c).isNaN
def zero64 (c : Nat) : Bool := (Ieee.double.read c).isZero

theorem order_self_datum (d : Datum) (h : d.isNaN = false) : d.order d = some .eq := by
  cases d with
  | number s m p => unfold Datum.order; simp
  | infinity s => unfold Datum.order; simp
  | nan s t => cases h

theorem self64 (c : Nat) (h : nan64 c = false) : (FloatKind.f64.format.order c c == some .eq) = true := by
  show ((Ieee.double.read c).order (Ieee.double.read c) == some .eq) = true
  rw [order_self_datum _ h]; rfl
theorem nan64_cmp (c d : Nat) (o : Ordering) (h : nan64 c = true ∨ nan64 d = true) : (FloatKind.f64.format.order c d == some o) = false := by
  show ((Ieee.double.read c).order (Ieee.double.read d) == some o) = false
  unfold nan64 at h
  cases hc : Ieee.double.read c <;> cases hd : Ieee.double.read d <;> rw [hc, hd] at h <;> first | rfl | (rcases h with h | h <;> cases h)

theorem number_zero (s t : Bool) (m : Nat) (p q : Int) : ((Datum.number s m p).order (.number t 0 q) == some .eq) = decide (m = 0) := by
  rw [order_num s t m 0 p q (min p q) (by omega) (by omega), cmp_eq, decide_eq_decide, signed_eq, signed_eq]
  have : (0 : Int) < 2 ^ (p - min p q).toNat := Int.pow_pos (by omega)
  constructor
  · intro h
    simp only [Int.natCast_zero, Int.zero_mul, Int.mul_zero] at h
    have h2 : (m : Int) * 2 ^ (p - min p q).toNat = 0 := by
      cases s <;> simp at h ⊢ <;> omega
    rcases Int.mul_eq_zero.1 h2 with h3 | h3 <;> omega
  · intro h; subst h; simp

theorem eq_zero64 (c : Nat) (h : nan64 c = false) : (FloatKind.f64.format.order c 0 == some .eq) = zero64 c := by
  show ((Ieee.double.read c).order (Ieee.double.read 0) == some .eq) = (Ieee.double.read c).isZero
  unfold nan64 at h
  rw [show Ieee.double.read 0 = .number false 0 (-1074) by decide +kernel]
  cases hc : Ieee.double.read c with
  | number s m p =>
    rw [number_zero]
    cases m with
    | zero => rfl
    | succ m => simp [Datum.isZero]
  | infinity s => cases s <;> rfl
  | nan s t => rw [hc] at h; cases h

theorem one_over64 (c : Nat) (h : zero64 c = true) : ∃ d, floatBits .quo .f64 4607182418800017408 c = some d := by
  unfold zero64 at h
  cases hc : Ieee.double.read c with
  | number s m p =>
    rw [hc] at h
    cases m with
    | zero =>
      refine ⟨Ieee.double.write (.infinity (false ^^ s)), ?_⟩
      show Ieee.double.div 4607182418800017408 c = some (Ieee.double.write (.infinity (false ^^ s)))
      unfold Format.div
      rw [hc, show Ieee.double.read 4607182418800017408 = .number false 4503599627370496 (-52) by decide +kernel]
      unfold Datum.quotient
      simp
    | succ m => simp [Datum.isZero] at h
  | infinity s => rw [hc] at h; cases h
  | nan s t => rw [hc] at h; cases h

theorem same_yes (c : Nat) (w : World) (h : nan64 c = false) :
    Calls Try.prog 40 #[.float .f64 c, .float .f64 c] w fun e w' => e = .returned (.bool true) ∧ w = w' := by
  have hs := self64 c h
  have hs2 : (FloatKind.f64.format.order c c != some .eq) = false := by unfold bne; rw [hs]; rfl
  have hz := eq_zero64 c h
  by_cases h0 : zero64 c = true
  · obtain ⟨d, hd⟩ := one_over64 c h0
    have hop : ∀ t w, (binOp .quo t (.float .f64 4607182418800017408) (.float .f64 c)).run Try.prog w = .ok (.float .f64 d) w := fun t w => run_float_arith w .quo t .f64 _ _ _ hd
    rw [h0] at hz
    clear hd h0
    go_enter Try.func40, Try.ntmps40
    go_wp2
    go_ret
    exact ⟨rfl, rfl⟩
  · have h0 : zero64 c = false := by simpa using h0
    rw [h0] at hz
    go_enter Try.func40, Try.ntmps40
    go_wp2
    go_ret
    exact ⟨rfl, rfl⟩

theorem same_nan (c d : Nat) (w : World) (h : nan64 c = true) (g : nan64 d = true) :
    Calls Try.prog 40 #[.float .f64 c, .float .f64 d] w fun e w' => e = .returned (.bool true) ∧ w = w' := by
  have hs := nan64_cmp c c .eq (.inl h)
  have hs' := nan64_cmp d d .eq (.inl g)
  have hs2 : (FloatKind.f64.format.order c c != some .eq) = true := by unfold bne; rw [hs]; rfl
  have hs3 : (FloatKind.f64.format.order d d != some .eq) = true := by unfold bne; rw [hs']; rfl
  go_enter Try.func40, Try.ntmps40
  go_wp2
  go_ret
  exact ⟨rfl, rfl⟩

/-- what a single that is not NaN is as a double -/
theorem conv_yes (b : Nat) (hb : b < 4294967296) (hn : nan32 b = false) :
    ∃ c, nan64 c = false ∧ ∀ w, (convert 22 47 (.float .f32 b)).run Try.prog w = .ok (.float .f64 c) w := by
  by_cases hf : fin32 b = true
  · have hf' : b % 2147483648 < 2139095040 := by simpa [fin32] using hf
    have l1 := mant_lt (b % 2147483648)
    have l2 := expo_le _ hf'
    refine ⟨d64 (neg32 b) (mant (b % 2147483648)) (-149 + expo (b % 2147483648)), ?_, fun w => run_convert_float_float w _ _ _ _ _ _ (by kernel_rfl) (by kernel_rfl) (conv_3264 b hb hf)⟩
    obtain ⟨m', p', e, _⟩ := read64 (neg32 b) (m := mant (b % 2147483648)) (p := -149 + expo (b % 2147483648)) (by omega) (by omega) (by omega)
    unfold nan64; rw [e]; rfl
  · have hi : b = 2139095040 ∨ b = 4286578688 := by
      unfold fin32 at hf; unfold nan32 at hn; simp at hf hn; omega
    rcases hi with rfl | rfl
    · exact ⟨9218868437227405312, by decide +kernel, fun w => run_convert_float_float w _ _ _ _ _ _ (by kernel_rfl) (by kernel_rfl) (by decide +kernel)⟩
    · exact ⟨18442240474082181120, by decide +kernel, fun w => run_convert_float_float w _ _ _ _ _ _ (by kernel_rfl) (by kernel_rfl) (by decide +kernel)⟩

def nanConvOf (w : World) (b : Nat) : Nat := (Question.nanConv .f64 b).cut (w.tape w.drawn (.nanConv .f64 b))
theorem nanConvOf_nan (w : World) (b : Nat) : nan64 (nanConvOf w b) = true := by
  unfold nanConvOf Question.cut
  simp only
  have h : (w.tape w.drawn (Question.nanConv .f64 b) / 2) % (2 ^ 52 - 1) < 2 ^ 52 - 1 := Nat.mod_lt _ (by decide)
  generalize (w.tape w.drawn (Question.nanConv .f64 b) / 2) % (2 ^ 52 - 1) = u at *
  generalize w.tape w.drawn (Question.nanConv .f64 b) = v at *
  have hv : v % 2 = 0 ∨ v % 2 = 1 := Nat.mod_two_eq_zero_or_one v
  generalize v % 2 = s at *
  unfold nan64 Format.read
  have e0 : Ieee.double.signWeight = 9223372036854775808 := by decide
  have e1 : (s * 2 ^ 63 + 9218868437227405312 + 1 + u) % 9223372036854775808 = 9218868437227405313 + u := by
    rcases hv with rfl | rfl <;> omega
  simp only [e0, double_binade, double_inf]
  rw [show (0x7ff0000000000000 : Nat) = 9218868437227405312 by decide, e1, if_neg (by omega), if_neg (by omega), if_neg (by omega)]
  rfl

theorem conv_nan (b : Nat) (hn : nan32 b = true) (w : World) : (convert 22 47 (.float .f32 b)).run Try.prog w = .ok (.float .f64 (nanConvOf w b)) w.drew := by
  have hs : Try.prog.underlying 22 = some (.float .f32) := by kernel_rfl
  have hd : Try.prog.underlying 47 = some (.float .f64) := by kernel_rfl
  obtain ⟨s, t, e⟩ := read32_nan b (by simpa [nan32] using hn)
  have e' : FloatKind.f32.decode b = .nan s t := e
  simp [convert, run_underlying hs, run_underlying hd, Conv.floatToFloat, e', Question.forced, nanConvOf]
end Go.Proofs.Ytlhdlomabgoadaa
