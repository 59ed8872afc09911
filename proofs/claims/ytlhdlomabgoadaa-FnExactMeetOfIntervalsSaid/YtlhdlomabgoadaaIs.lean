/- Two floats laid into a box. -/
import Derived.Test.YtlhdlomabgoadaaIh
namespace Go.Proofs.Ytlhdlomabgoadaa
set_option maxRecDepth 100000
open Go.RowKit
set_option linter.unusedSimpArgs false
set_option linter.unusedVariables false

def st2 (w : World) (b l h : Nat) : World := (w.setCell ⟨b, 0, none⟩ (.float .f32 l)).setCell ⟨b, 1, none⟩ (.float .f32 h)
section
variable {w w' : World} {b l h : Nat}
theorem st2_size : (st2 w b l h).heap.size = w.heap.size := by unfold st2; simp
theorem st2_heap {g : Nat} (hg : g ≠ b) : (st2 w b l h).heap[g]? = w.heap[g]? := by
  unfold st2
  rw [Below.heap_setCell _ _ _ _ (by exact hg), Below.heap_setCell _ _ _ _ (by exact hg)]
theorem st2_cell {g o : Nat} (hg : g ≠ b) : (st2 w b l h).cell? ⟨g, o, none⟩ = w.cell? ⟨g, o, none⟩ := World.cell?_of_block (a := ⟨g, o, none⟩) (st2_heap hg)
theorem IB.st2_ {b' l' h' : Nat} (x : IB w b' l' h') (hne : b' ≠ b) : IB (st2 w b l h) b' l' h' :=
  ⟨⟨(st2_cell hne).trans x.1.1, (st2_cell hne).trans x.1.2⟩, by rw [st2_size]; exact x.2⟩
theorem belSt2 {W : World} (x : Below W.heap.size W w) (hb : W.heap.size ≤ b) : Below W.heap.size W (st2 w b l h) := (x.setCell hb _).setCell hb _
theorem IB.made (x : IR w b) : IB (st2 w b l h) b l h := by
  obtain ⟨⟨h0, h1, h2, h3⟩, h4⟩ := x
  refine ⟨⟨?_, ?_⟩, by rw [st2_size]; exact h4⟩ <;> · unfold st2; go_simp
end
end Go.Proofs.Ytlhdlomabgoadaa
