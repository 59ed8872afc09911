/- Texts of this seat, joined: Ke Kf Kg Kh Ki -/
import Derived.Test.YtnecnbonnidijaaDoorGE2
import Derived.Test.YtnecnbonnidijaaDoorGE4
import Derived.Deep.DeepCutAuto
/- Numbers of limbs as integers, cuts of an exact number, of the program. -/
namespace Go.Proofs.YtnecnbonnidijaaDoor
set_option maxRecDepth 100000
open Go.RowKit
set_option linter.unusedSimpArgs false
set_option linter.unusedVariables false
attribute [local go_sem ↓] Go.wp_at_zero Go.wp_at_succ

/-- a result that is an excess, yet untouched -/
def ERes (w : World) (b : Nat) : Prop := (w.cell? ⟨b, 0, none⟩ = some (.int .i64 0) ∧ w.cell? ⟨b, 1, none⟩ = some (.bool false) ∧ w.cell? ⟨b, 2, none⟩ = some (.bool false) ∧ w.cell? ⟨b, 3, none⟩ = some (.int .i64 0) ∧ w.frozen? ⟨b, 0, none⟩ = false ∧ w.frozen? ⟨b, 1, none⟩ = false ∧ w.frozen? ⟨b, 2, none⟩ = false ∧ w.frozen? ⟨b, 3, none⟩ = false) ∧ b < w.heap.size
theorem ERes.next {w w' : World} {b : Nat} (x : ERes w b) (hb : Below w.heap.size w w') : ERes w' b :=
  ⟨⟨(hb.cell (p := ⟨b, 0, none⟩) x.2).trans x.1.1, (hb.cell (p := ⟨b, 1, none⟩) x.2).trans x.1.2.1, (hb.cell (p := ⟨b, 2, none⟩) x.2).trans x.1.2.2.1, (hb.cell (p := ⟨b, 3, none⟩) x.2).trans x.1.2.2.2.1, (hb.frozen (p := ⟨b, 0, none⟩) x.2).trans x.1.2.2.2.2.1, (hb.frozen (p := ⟨b, 1, none⟩) x.2).trans x.1.2.2.2.2.2.1, (hb.frozen (p := ⟨b, 2, none⟩) x.2).trans x.1.2.2.2.2.2.2.1, (hb.frozen (p := ⟨b, 3, none⟩) x.2).trans x.1.2.2.2.2.2.2.2⟩, Nat.lt_of_lt_of_le x.2 hb.size⟩
theorem ERes.new (w : World) (t : TypeId) : ERes (w.alloc (.cells #[.int .i64 0, .bool false, .bool false, .int .i64 0] t)) w.heap.size := by
  refine ⟨⟨?_, ?_, ?_, ?_, ?_, ?_, ?_, ?_⟩, ?_⟩
  · go_simp
  · go_simp
  · go_simp
  · go_simp
  · go_simp
  · go_simp
  · go_simp
  · go_simp
  · simp
theorem EBox.half {w : World} {b : Nat} {S h : Int} {o t : Bool} (x : EBox w b S o t h) (h' : Int) : EBox (w.setCell ⟨b, 3, none⟩ (.int .i64 h')) b S o t h' := by
  obtain ⟨⟨x0, x1, x2, x3⟩, x4⟩ := x
  refine ⟨⟨?_, ?_, ?_, ?_⟩, by simp; exact x4⟩
  · go_simp
  · go_simp
  · go_simp
  · go_simp
theorem same_below {e : Ending} {v : Value} {w w' : World} (h : e = .returned v ∧ w = w') : e = .returned v ∧ Below w.heap.size w w' := ⟨h.1, by rw [← h.2]; exact Below.refl _ _⟩
end Go.Proofs.YtnecnbonnidijaaDoor
/- Cuts of an exact number that lose bits, of the program. -/
namespace Go.Proofs.YtnecnbonnidijaaDoor
set_option maxRecDepth 100000
open Go.RowKit
set_option linter.unusedSimpArgs false
set_option linter.unusedVariables false
attribute [local go_sem ↓] Go.wp_at_zero Go.wp_at_succ

/-- an excess is laid into a box -/
def se4 (w : World) (b : Nat) (S : Int) (o t : Bool) (h : Int) : World := (((w.setCell ⟨b, 0, none⟩ (.int .i64 S)).setCell ⟨b, 1, none⟩ (.bool o)).setCell ⟨b, 2, none⟩ (.bool t)).setCell ⟨b, 3, none⟩ (.int .i64 h)
theorem se4_size {w : World} {b : Nat} {S h : Int} {o t : Bool} : (se4 w b S o t h).heap.size = w.heap.size := by unfold se4; simp
theorem ERes.made {w : World} {b : Nat} (x : ERes w b) (S h : Int) (o t : Bool) : EBox (se4 w b S o t h) b S o t h ∧ Fr4 (se4 w b S o t h) b := by
  obtain ⟨⟨x0, x1, x2, x3, x4, x5, x6, x7⟩, x8⟩ := x
  refine ⟨⟨⟨?_, ?_, ?_, ?_⟩, by rw [se4_size]; exact x8⟩, ⟨⟨?_, ?_, ?_, ?_⟩, by rw [se4_size]; exact x8⟩⟩ <;> · unfold se4; go_simp
theorem Fr4.keep {w : World} {b : Nat} (x : Fr4 w b) {q : Addr} (u : Value) : Fr4 (w.setCell q u) b := by
  refine ⟨⟨?_, ?_, ?_, ?_⟩, by have := x.2; simpa using this⟩
  · have := x.1.1; go_simp
  · have := x.1.2.1; go_simp
  · have := x.1.2.2.1; go_simp
  · have := x.1.2.2.2; go_simp

end Go.Proofs.YtnecnbonnidijaaDoor
/- Cuts to the step of a float, infinite floats, opposites, of the program. -/
namespace Go.Proofs.YtnecnbonnidijaaDoor
set_option maxRecDepth 100000
open Go.RowKit
set_option linter.unusedSimpArgs false
set_option linter.unusedVariables false
attribute [local go_sem ↓] Go.wp_at_zero Go.wp_at_succ

end Go.Proofs.YtnecnbonnidijaaDoor
/- Rounding to a float of 32 bits, of the program. -/
namespace Go.Proofs.YtnecnbonnidijaaDoor
set_option maxRecDepth 100000
open Go.RowKit
set_option linter.unusedSimpArgs false
set_option linter.unusedVariables false
attribute [local go_sem ↓] Go.wp_at_zero Go.wp_at_succ

end Go.Proofs.YtnecnbonnidijaaDoor
/- Rounding to a float of 32 bits, of the program: 0, and every exact number. -/
namespace Go.Proofs.YtnecnbonnidijaaDoor
set_option maxRecDepth 100000
open Go.RowKit
set_option linter.unusedSimpArgs false
set_option linter.unusedVariables false
attribute [local go_sem ↓] Go.wp_at_zero Go.wp_at_succ

end Go.Proofs.YtnecnbonnidijaaDoor
