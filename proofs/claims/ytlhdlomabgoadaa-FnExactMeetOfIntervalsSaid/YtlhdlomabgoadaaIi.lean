/- The program's small functions on ends, and what an interval is, of the program and of the model. -/
import Derived.Test.YtlhdlomabgoadaaIh
import Derived.Deep.RegionHeld3
import Derived.Deep.QuietTactic
import Derived.Deep.Cut
import Derived.Laws.Externs
namespace Go.Proofs.Ytlhdlomabgoadaa
set_option maxRecDepth 100000
open Go.RowKit
set_option linter.unusedSimpArgs false
set_option linter.unusedVariables false

theorem quietQ {P : Program} {f : FuncId} {args : Array Value} {w : World} {n : Nat} {v : Value} (h : Calls P f args (w.drewN n) fun e w' => e = .returned v ∧ w.drewN n = w') : Calls P f args (w.drewN n) fun e w'' => e = .returned v ∧ ∃ m, w'' = w.drewN m :=
  Calls.quiet_of_same (h.mono fun _ _ x => ⟨x.1, x.2.symm⟩)
theorem run_ffrom64I (n : Nat) (w : World) : (callFunc 72 #[.int .u64 n]).run Try.prog w = .ok (.value (.float .f64 n)) w := by
  rw [run_callFunc_extern Try.func72 (by kernel_rfl) (by kernel_rfl) (by kernel_rfl) (e := Extern.MathFloatBits.float64frombits) (by kernel_rfl)]; rfl
theorem inf_posI (w : World) : Calls Try.prog 62 #[.int .i64 1] w fun e w' => e = .returned (.float .f64 9218868437227405312) ∧ w = w' := by
  have hx := run_ffrom64I 9218868437227405312
  rw [show ((9218868437227405312 : Nat) : Int) = 9218868437227405312 from rfl] at hx
  go_enter Try.func62, Try.ntmps62
  go_wp2_with fail
  go_ret
  exact ⟨rfl, rfl⟩
theorem inf_negI (w : World) : Calls Try.prog 62 #[.int .i64 (-1)] w fun e w' => e = .returned (.float .f64 18442240474082181120) ∧ w = w' := by
  have hx := run_ffrom64I 18442240474082181120
  rw [show ((18442240474082181120 : Nat) : Int) = 18442240474082181120 from rfl] at hx
  go_enter Try.func62, Try.ntmps62
  go_wp2_with fail
  go_ret
  exact ⟨rfl, rfl⟩
theorem infF_pos (w : World) : Calls Try.prog 37 #[.int .i64 1] w fun e w' => e = .returned (.float .f32 2139095040) ∧ w = w' := by
  have hcv : ∀ w, (convert 47 22 (.float .f64 9218868437227405312)).run Try.prog w = .ok (.float .f32 2139095040) w := fun w => run_convert_float_float w _ _ .f64 .f32 _ _ (by kernel_rfl) (by kernel_rfl) (by decide +kernel)
  go_enter Try.func37, Try.ntmps37
  go_wp2_with fail
  refine (inf_posI _).mono ?_
  rintro e w9 ⟨rfl, rfl⟩
  go_wp2_with fail
  go_ret
  exact ⟨rfl, rfl⟩
theorem infF_neg (w : World) : Calls Try.prog 37 #[.int .i64 (-1)] w fun e w' => e = .returned (.float .f32 4286578688) ∧ w = w' := by
  have hcv : ∀ w, (convert 47 22 (.float .f64 18442240474082181120)).run Try.prog w = .ok (.float .f32 4286578688) w := fun w => run_convert_float_float w _ _ .f64 .f32 _ _ (by kernel_rfl) (by kernel_rfl) (by decide +kernel)
  go_enter Try.func37, Try.ntmps37
  go_wp2_with fail
  refine (inf_negI _).mono ?_
  rintro e w9 ⟨rfl, rfl⟩
  go_wp2_with fail
  go_ret
  exact ⟨rfl, rfl⟩
theorem mz_any (b : Nat) (w : World) (hb : b < 4294967296) : Calls Try.prog 36 #[.float .f32 b] w fun e w' => e = .returned (.bool (decide (b = 2147483648))) ∧ w = w' := by
  have h : (((bits32 b : Nat) : Int) == 2147483648) = decide (b = 2147483648) := by
    rw [Bool.eq_iff_iff]
    simp only [beq_iff_eq, decide_eq_true_eq]
    unfold bits32 nan32
    split
    · rename_i h; simp at h; omega
    · omega
  have h' : decide (((bits32 b : Nat) : Int) = 2147483648) = decide (b = 2147483648) := by
    rw [decide_eq_decide]
    unfold bits32 nan32
    split
    · rename_i h; simp at h; omega
    · omega
  obtain ⟨n, hn⟩ : ∃ n : Int, n = ((bits32 b : Nat) : Int) := ⟨_, rfl⟩
  have hB := implBits_any b w hb
  rw [← hn] at h h' hB
  have H := Lib.hid hn
  have HB := Lib.hid hB
  have H1 := Lib.hid (And.intro h h')
  clear hn hB h h'
  go_enter Try.func36, Try.ntmps36
  go_wp2_with fail
  refine HB.out.mono ?_
  rintro e w' ⟨rfl, rfl⟩
  go_wp2_with fail
  go_ret
  exact ⟨by first | exact ret_boolI H1.out.1 | exact ret_boolI H1.out.2, rfl⟩
theorem wz_any (b : Nat) (w : World) (hb : b < 4294967296) : Calls Try.prog 39 #[.float .f32 b] w fun e w' => e = .returned (.float .f32 (wz b)) ∧ w = w' := by
  have h := eqz32' b hb
  by_cases h0 : b % 2147483648 = 0
  · have Hw : Hid (wz b = 0) := Lib.hid (by unfold wz; rw [if_pos h0])
    have hd : decide (b % 2147483648 = 0) = true := decide_eq_true h0
    rw [hd] at h
    clear h0 hd
    go_enter Try.func39, Try.ntmps39
    go_wp2_with fail
    go_ret
    exact ⟨by rw [Hw.out]; rfl, rfl⟩
  · have Hw : Hid (wz b = b) := Lib.hid (by unfold wz; rw [if_neg h0])
    have hd : decide (b % 2147483648 = 0) = false := decide_eq_false h0
    rw [hd] at h
    clear h0 hd
    go_enter Try.func39, Try.ntmps39
    go_wp2_with fail
    go_ret
    exact ⟨by rw [Hw.out]; rfl, rfl⟩
theorem zeroI_any (b : Nat) (w : World) (hb : b < 4294967296) : Calls Try.prog 63 #[.float .f32 b] w fun e w' => e = .returned (.float .f32 (wz b)) ∧ w = w' := by
  have h := eqz32' b hb
  by_cases h0 : b % 2147483648 = 0
  · have Hw : Hid (wz b = 0) := Lib.hid (by unfold wz; rw [if_pos h0])
    have hd : decide (b % 2147483648 = 0) = true := decide_eq_true h0
    rw [hd] at h
    clear h0 hd
    go_enter Try.func63, Try.ntmps63
    go_wp2_with fail
    go_ret
    exact ⟨by rw [Hw.out]; rfl, rfl⟩
  · have Hw : Hid (wz b = b) := Lib.hid (by unfold wz; rw [if_neg h0])
    have hd : decide (b % 2147483648 = 0) = false := decide_eq_false h0
    rw [hd] at h
    clear h0 hd
    go_enter Try.func63, Try.ntmps63
    go_wp2_with fail
    go_ret
    exact ⟨by rw [Hw.out]; rfl, rfl⟩
theorem plain_any (b : Nat) (w : World) (hb : b < 4294967296) : Calls Try.prog 59 #[.float .f32 b] w fun e w' => e = .returned (.bool (pl32 b)) ∧ w = w' := by
  by_cases hn : nan32 b = true
  · have Hr : Hid (pl32 b = false) := Lib.hid (by unfold pl32; rw [hn]; rfl)
    have HN : Hid (∀ w, Calls Try.prog 69 #[.float .f32 b] w fun e w' => e = .returned (.bool true) ∧ w = w') := Lib.hid (fun w => by rw [← hn]; exact nan_any b w hb)
    clear hn
    go_enter Try.func59, Try.ntmps59
    go_wp2_with fail
    refine (HN.out _).mono ?_
    rintro e w' ⟨rfl, rfl⟩
    go_wp2_with fail
    go_ret
    exact ⟨ret_boolI Hr.out.symm, rfl⟩
  · have hn2 : nan32 b = false := by simpa using hn
    have HN : Hid (∀ w, Calls Try.prog 69 #[.float .f32 b] w fun e w' => e = .returned (.bool false) ∧ w = w') := Lib.hid (fun w => by rw [← hn2]; exact nan_any b w hb)
    have HM : Hid (∀ w, Calls Try.prog 70 #[.float .f32 b] w fun e w' => e = .returned (.bool (neg32 b)) ∧ w = w') := Lib.hid (fun w => minus_any b w hb hn2)
    have h := eqz32' b hb
    have hne : (FloatKind.f32.format.order b 0 != some .eq) = !decide (b % 2147483648 = 0) := by rw [bne, h]
    by_cases h0 : b % 2147483648 = 0
    · have Hr : Hid (pl32 b = !neg32 b) := Lib.hid (by
        unfold pl32 neg32
        rw [hn2]
        by_cases h1 : 2147483648 ≤ b
        · rw [decide_eq_true h1, decide_eq_false (by omega)]; rfl
        · rw [decide_eq_false h1, decide_eq_true (by omega)]; rfl)
      rw [decide_eq_true h0] at h hne
      obtain ⟨m, hm⟩ : ∃ m, m = neg32 b := ⟨_, rfl⟩
      rw [← hm] at HM Hr
      clear hn hn2 h0 hm
      go_enter Try.func59, Try.ntmps59
      go_wp2_with fail
      refine (HN.out _).mono ?_
      rintro e w' ⟨rfl, rfl⟩
      go_wp2_with fail
      refine (HM.out _).mono ?_
      rintro e w' ⟨rfl, rfl⟩
      go_wp2_with fail
      go_ret
      exact ⟨ret_boolI Hr.out.symm, rfl⟩
    · have Hr : Hid (pl32 b = true) := Lib.hid (by unfold pl32; rw [hn2, decide_eq_true (by omega)]; rfl)
      rw [decide_eq_false h0] at h hne
      clear hn hn2 h0
      go_enter Try.func59, Try.ntmps59
      go_wp2_with fail
      refine (HN.out _).mono ?_
      rintro e w' ⟨rfl, rfl⟩
      go_wp2_with fail
      go_ret
      exact ⟨ret_boolI Hr.out.symm, rfl⟩
end Go.Proofs.Ytlhdlomabgoadaa
