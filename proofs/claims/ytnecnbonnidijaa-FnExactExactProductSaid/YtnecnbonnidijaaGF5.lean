/- Texts of this seat, joined: Ke Kf Kg Kh Ki -/
import Derived.Test.YtnecnbonnidijaaGF2
import Derived.Test.YtnecnbonnidijaaGF4
import Derived.Deep.DeepCutAuto
/- Numbers of limbs as integers, cuts of an exact number, of the program. -/
namespace Go.Proofs.Ytnecnbonnidijaa
set_option maxRecDepth 100000
open Go.RowKit
set_option linter.unusedSimpArgs false
set_option linter.unusedVariables false
attribute [local go_sem ↓] Go.wp_at_zero Go.wp_at_succ

/-- a result that is an excess, yet untouched -/
def ERes (w : World) (b : Nat) : Prop := (w.cell? ⟨b, 0, none⟩ = some (.int .i64 0) ∧ w.cell? ⟨b, 1, none⟩ = some (.bool false) ∧ w.cell? ⟨b, 2, none⟩ = some (.bool false) ∧ w.cell? ⟨b, 3, none⟩ = some (.int .i64 0) ∧ w.frozen? ⟨b, 0, none⟩ = false ∧ w.frozen? ⟨b, 1, none⟩ = false ∧ w.frozen? ⟨b, 2, none⟩ = false ∧ w.frozen? ⟨b, 3, none⟩ = false) ∧ b < w.heap.size
theorem ERes.next {w w' : World} {b : Nat} (x : ERes w b) (hb : Below w.heap.size w w') : ERes w' b :=
  ⟨⟨(hb.cell (p := ⟨b, 0, none⟩) x.2).trans x.1.1, (hb.cell (p := ⟨b, 1, none⟩) x.2).trans x.1.2.1, (hb.cell (p := ⟨b, 2, none⟩) x.2).trans x.1.2.2.1, (hb.cell (p := ⟨b, 3, none⟩) x.2).trans x.1.2.2.2.1, (hb.frozen (p := ⟨b, 0, none⟩) x.2).trans x.1.2.2.2.2.1, (hb.frozen (p := ⟨b, 1, none⟩) x.2).trans x.1.2.2.2.2.2.1, (hb.frozen (p := ⟨b, 2, none⟩) x.2).trans x.1.2.2.2.2.2.2.1, (hb.frozen (p := ⟨b, 3, none⟩) x.2).trans x.1.2.2.2.2.2.2.2⟩, Nat.lt_of_lt_of_le x.2 hb.size⟩
theorem ERes.new (w : World) (t : TypeId) : ERes (w.alloc (.cells #[.int .i64 0, .bool false, .bool false, .int .i64 0] t)) w.heap.size := by
  refine ⟨⟨?_, ?_, ?_, ?_, ?_, ?_, ?_, ?_⟩, ?_⟩
  · go_simp
  · go_simp
  · go_simp
  · go_simp
  · go_simp
  · go_simp
  · go_simp
  · go_simp
  · simp
theorem EBox.half {w : World} {b : Nat} {S h : Int} {o t : Bool} (x : EBox w b S o t h) (h' : Int) : EBox (w.setCell ⟨b, 3, none⟩ (.int .i64 h')) b S o t h' := by
  obtain ⟨⟨x0, x1, x2, x3⟩, x4⟩ := x
  refine ⟨⟨?_, ?_, ?_, ?_⟩, by simp; exact x4⟩
  · go_simp
  · go_simp
  · go_simp
  · go_simp
theorem same_below {e : Ending} {v : Value} {w w' : World} (h : e = .returned v ∧ w = w') : e = .returned v ∧ Below w.heap.size w w' := ⟨h.1, by rw [← h.2]; exact Below.refl _ _⟩
end Go.Proofs.Ytnecnbonnidijaa
/- Cuts of an exact number that lose bits, of the program. -/
namespace Go.Proofs.Ytnecnbonnidijaa
set_option maxRecDepth 100000
open Go.RowKit
set_option linter.unusedSimpArgs false
set_option linter.unusedVariables false
attribute [local go_sem ↓] Go.wp_at_zero Go.wp_at_succ

/-- an excess is laid into a box -/
def se4 (w : World) (b : Nat) (S : Int) (o t : Bool) (h : Int) : World := (((w.setCell ⟨b, 0, none⟩ (.int .i64 S)).setCell ⟨b, 1, none⟩ (.bool o)).setCell ⟨b, 2, none⟩ (.bool t)).setCell ⟨b, 3, none⟩ (.int .i64 h)
theorem se4_size {w : World} {b : Nat} {S h : Int} {o t : Bool} : (se4 w b S o t h).heap.size = w.heap.size := by unfold se4; simp
theorem ERes.made {w : World} {b : Nat} (x : ERes w b) (S h : Int) (o t : Bool) : EBox (se4 w b S o t h) b S o t h ∧ Fr4 (se4 w b S o t h) b := by
  obtain ⟨⟨x0, x1, x2, x3, x4, x5, x6, x7⟩, x8⟩ := x
  refine ⟨⟨⟨?_, ?_, ?_, ?_⟩, by rw [se4_size]; exact x8⟩, ⟨⟨?_, ?_, ?_, ?_⟩, by rw [se4_size]; exact x8⟩⟩ <;> · unfold se4; go_simp
theorem Fr4.keep {w : World} {b : Nat} (x : Fr4 w b) {q : Addr} (u : Value) : Fr4 (w.setCell q u) b := by
  refine ⟨⟨?_, ?_, ?_, ?_⟩, by have := x.2; simpa using this⟩
  · have := x.1.1; go_simp
  · have := x.1.2.1; go_simp
  · have := x.1.2.2.1; go_simp
  · have := x.1.2.2.2; go_simp

end Go.Proofs.Ytnecnbonnidijaa
/- Cuts to the step of a float, infinite floats, opposites, of the program. -/
namespace Go.Proofs.Ytnecnbonnidijaa
set_option maxRecDepth 100000
open Go.RowKit
set_option linter.unusedSimpArgs false
set_option linter.unusedVariables false
attribute [local go_sem ↓] Go.wp_at_zero Go.wp_at_succ

end Go.Proofs.Ytnecnbonnidijaa
/- Rounding to a float of 32 bits, of the program. -/
namespace Go.Proofs.Ytnecnbonnidijaa
set_option maxRecDepth 100000
open Go.RowKit
set_option linter.unusedSimpArgs false
set_option linter.unusedVariables false
attribute [local go_sem ↓] Go.wp_at_zero Go.wp_at_succ

theorem blen_bound {z : Int} {n : Nat} (hn : (limbs z.natAbs).length = n) : (blen z.natAbs : Int) ≤ 24 * n := by
  have h := blen_lt.2 (by have h := limbs_len_le.1 (show (limbs z.natAbs).length ≤ n by omega); rw [Bs_pow] at h; exact h)
  omega
theorem sign_pm {z S : Int} (h1 : S = z.sign) (h2 : z ≠ 0) : S = 1 ∨ S = -1 := by
  rcases Int.lt_trichotomy z 0 with h | h | h
  · right; rw [h1]; exact Int.sign_eq_neg_one_of_neg h
  · exact absurd h h2
  · left; rw [h1]; exact Int.sign_eq_one_of_pos h
theorem rd_fin {z E mode q : Int} {M bl : Nat} (h0 : z ≠ 0) (hq : q = rQ z.natAbs E) (hM : M = rM mode z.sign z.natAbs (q - E)) (hb : bl = blen z.natAbs) (ho : ¬ (128 : Int) < (blen M : Int) + q) : rdF z E mode = s32 (decide (z < 0)) M q ∧ rdL z E mode = if rB z.natAbs (q - E) = true then (if (bl : Int) + E ≤ -126 then 3 else 1) else 0 := by
  have e : ¬ rO mode z E = true := by unfold rO; rw [← hq, ← hM]; simpa using ho
  unfold rdF rdL
  rw [if_neg h0, if_neg h0, if_neg e, if_neg e, ← hq, ← hM, ← hb]
  exact ⟨rfl, rfl⟩
theorem rd_over {z E mode q : Int} {M : Nat} (h0 : z ≠ 0) (hq : q = rQ z.natAbs E) (hM : M = rM mode z.sign z.natAbs (q - E)) (ho : (128 : Int) < (blen M : Int) + q) : rdF z E mode = (if away mode z.sign false 1 = true then (if z < 0 then 4286578688 else 2139095040) else (if z < 0 then 4286578687 else 2139095039)) ∧ rdL z E mode = 5 := by
  have e : rO mode z E = true := by unfold rO; rw [← hq, ← hM]; simpa using ho
  unfold rdF rdL
  rw [if_neg h0, if_neg h0, if_pos e, if_pos e]
  exact ⟨rfl, rfl⟩
end Go.Proofs.Ytnecnbonnidijaa
/- Rounding to a float of 32 bits, of the program: 0, and every exact number. -/
namespace Go.Proofs.Ytnecnbonnidijaa
set_option maxRecDepth 100000
open Go.RowKit
set_option linter.unusedSimpArgs false
set_option linter.unusedVariables false
attribute [local go_sem ↓] Go.wp_at_zero Go.wp_at_succ

theorem rd_zero (E mode : Int) : rdF 0 E mode = 0 ∧ rdL 0 E mode = 0 := by unfold rdF rdL; rw [if_pos rfl, if_pos rfl]; exact ⟨rfl, rfl⟩
end Go.Proofs.Ytnecnbonnidijaa
