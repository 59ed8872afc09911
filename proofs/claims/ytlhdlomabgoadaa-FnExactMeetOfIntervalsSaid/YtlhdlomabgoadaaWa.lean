/- The walks of spec.l01Twos: doubling and halving of doubles that stay exact. -/
import Derived.Test.YtlhdlomabgoadaaChecked
import Derived.Test.YtlhdlomabgoadaaFl
import Derived.Tactics
import Derived.Tactics2
import Derived.StillTactics
import Derived.WalkKit
import Derived.WalkLawsBesides
import Derived.LoopTactic
import Derived.Lib.Hide
import Derived.Outline
import Derived.KernelRfl
namespace Go.Proofs.Ytlhdlomabgoadaa
set_option maxRecDepth 100000
open Go.RowKit

set_option maxHeartbeats 400000 in
theorem twos_up (s : Bool) (m : Nat) (p : Int) (k : Nat) (w : World) (h1 : m < 9007199254740992) (h2 : -1074 ≤ p) (h3 : p + k ≤ 971) :
    Calls Try.prog 74 #[.float .f64 (d64 s m p), .int .i64 k] w fun e w' => e = .returned (.float .f64 (d64 s m (p + k))) ∧ w = w' := by
  go_enter Try.func74, Try.ntmps74
  go_wp2
  go_loop [0, 1] (fun x i => ∃ j : Nat, j ≤ k ∧ i = .int .i64 j ∧ x = .float .f64 (d64 s m (p + ((k - j : Nat) : Int)))) (fun _ i => (intOf i).toNat)
  case atStart => exact ⟨k, Nat.le_refl _, rfl, by simp⟩
  case round =>
    obtain ⟨j, hj, rfl, rfl⟩ := hrel
    by_cases h0 : 0 < j
    · have hm := mul_two s h1 (p := p + ((k - j : Nat) : Int)) (by omega) (by omega)
      have hop : ∀ t w, (binOp .mul t (.float .f64 (d64 s m (p + ((k - j : Nat) : Int)))) (.float .f64 4611686018427387904)).run Try.prog w = .ok (.float .f64 (d64 s m (p + ((k - j : Nat) : Int) + 1))) w := fun t w => run_float_arith w .mul t .f64 _ _ _ hm
      clear hm
      go_wp2
      go_round
      case rel => exact ⟨j - 1, by omega, by go_num, by congr 2; omega⟩
      case measure => simp [intOf]; omega
    · have : j = 0 := by omega
      subst this
      go_wp2
      go_loop [0, 1] (fun x i => i = .int .i64 0 ∧ x = .float .f64 (d64 s m (p + k))) (fun _ _ => 0)
      case atStart => exact ⟨rfl, rfl⟩
      case round =>
        obtain ⟨rfl, rfl⟩ := hrel
        go_wp2
        go_ret
        exact ⟨rfl, rfl⟩

set_option maxHeartbeats 400000 in
theorem twos_down (s : Bool) (m : Nat) (p : Int) (k : Nat) (w : World) (h1 : m < 9007199254740992) (h2 : -1074 ≤ p - k) (h3 : p ≤ 971) :
    Calls Try.prog 74 #[.float .f64 (d64 s m p), .int .i64 (-(k : Int))] w fun e w' => e = .returned (.float .f64 (d64 s m (p - k))) ∧ w = w' := by
  go_enter Try.func74, Try.ntmps74
  go_wp2
  go_loop [0, 1] (fun x i => i = .int .i64 (-(k : Int)) ∧ x = .float .f64 (d64 s m p)) (fun _ _ => 0)
  case atStart => exact ⟨rfl, rfl⟩
  case round =>
    obtain ⟨rfl, rfl⟩ := hrel
    go_wp2
    go_loop [0, 1] (fun x i => ∃ j : Nat, j ≤ k ∧ i = .int .i64 (-(j : Int)) ∧ x = .float .f64 (d64 s m (p - ((k - j : Nat) : Int)))) (fun _ i => (- intOf i).toNat)
    case atStart => exact ⟨k, Nat.le_refl _, rfl, by simp⟩
    case round =>
      obtain ⟨j, hj, rfl, rfl⟩ := hrel
      by_cases h0 : 0 < j
      · have hm := div_two s h1 (p := p - ((k - j : Nat) : Int)) (by omega) (by omega)
        have hop : ∀ t w, (binOp .quo t (.float .f64 (d64 s m (p - ((k - j : Nat) : Int)))) (.float .f64 4611686018427387904)).run Try.prog w = .ok (.float .f64 (d64 s m (p - ((k - j : Nat) : Int) - 1))) w := fun t w => run_float_arith w .quo t .f64 _ _ _ hm
        clear hm
        go_wp2
        go_round
        case rel => exact ⟨j - 1, by omega, by go_num, by congr 2; omega⟩
        case measure => simp [intOf]; omega
      · have : j = 0 := by omega
        subst this
        go_wp2
        go_ret
        exact ⟨rfl, rfl⟩
end Go.Proofs.Ytlhdlomabgoadaa
