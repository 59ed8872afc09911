/- Results of the chapter's functions in the laws' boxes. -/
import Derived.Test.YtnnoobdcdfcdaaaBx
import Derived.Test.YtnnoobdcdfcdaaaTm
import Derived.Test.YtnnoobdcdfcdaaaWm
namespace Go.Proofs.Ytnnoobdcdfcdaaa
set_option maxRecDepth 100000
open Go.RowKit

theorem resForm {w : World} {lo hi : Nat} {z : Int} {val : Value} {S : Int} {N : Nat} {XS : List Int} (h : Wz w lo hi z val) (hS : S = z.sign) (hN : N = (limbs z.natAbs).length) (hX : XS = li (limbs z.natAbs)) : ∃ A c, val = .agg #[.int .i64 S, .slice A N c] ∧ Ow w lo hi A (vi XS) := by
  obtain ⟨A, c, h1, h2, _⟩ := h
  subst hS hN hX
  exact ⟨A, c, h1, h2⟩
theorem grown_size {w w' : World} {row : Option Nat} (h : w.grownBy w' row) : w.heap.size ≤ w'.heap.size := h.size

/-- a whole number is laid into a box -/
def st (w : World) (b : Nat) (s : Int) (A : Option Addr) (n c : Nat) : World := (w.setCell ⟨b, 0, none⟩ (.int .i64 s)).setCell ⟨b, 1, none⟩ (.slice A n c)
section
variable {w : World} {b : Nat} {s : Int} {A : Option Addr} {n c : Nat}
theorem st_size : (st w b s A n c).heap.size = w.heap.size := by unfold st; simp
theorem st_heap {g : Nat} (h : g ≠ b) : (st w b s A n c).heap[g]? = w.heap[g]? := by
  unfold st
  rw [Below.heap_setCell _ _ _ _ (by exact h), Below.heap_setCell _ _ _ _ (by exact h)]
theorem Box.st_ {b' : Nat} {s' : Int} {A' : Option Addr} {n' c' : Nat} (h : Box w b' s' A' n' c') (hne : b' ≠ b) : Box (st w b s A n c) b' s' A' n' c' :=
  ⟨⟨(World.cell?_of_block (a := ⟨b', 0, none⟩) (st_heap hne)).trans h.1.1, (World.cell?_of_block (a := ⟨b', 1, none⟩) (st_heap hne)).trans h.1.2⟩, by rw [st_size]; exact h.2⟩
theorem Ot.st_ {lo hi : Nat} {A' : Option Addr} {xs : List Value} (h : Ot w lo hi A' xs) (hne : b < lo ∨ hi ≤ b) : Ot (st w b s A n c) lo hi A' xs :=
  ⟨h.1.keep (fun g h1 h2 _ => st_heap (by omega)), by rw [st_size]; exact h.2⟩
theorem Rt.st_ {B : Nat} {A' : Option Addr} {xs : List Value} (h : Rt w B A' xs) (hB : B ≤ b) : Rt (st w b s A n c) B A' xs :=
  ⟨h.1.carry (fun p hp => World.cell?_of_block (st_heap (by omega))), by rw [st_size]; exact h.2⟩
theorem belSt {W : World} (h : Below W.heap.size W w) (hb : W.heap.size ≤ b) : Below W.heap.size W (st w b s A n c) := (h.setCell hb _).setCell hb _
theorem Box.made (h : w.cell? ⟨b, 0, none⟩ = some (.int .i64 0) ∧ w.cell? ⟨b, 1, none⟩ = some (.slice none 0 0)) (hb : b < w.heap.size) : Box (st w b s A n c) b s A n c := by
  obtain ⟨h0, h1⟩ := h
  refine ⟨⟨?_, ?_⟩, by rw [st_size]; exact hb⟩ <;> · unfold st; go_simp
theorem Ot.widen {lo hi lo' hi' : Nat} {A' : Option Addr} {xs : List Value} (h : Ot w lo hi A' xs) (h1 : lo' ≤ lo) (h2 : hi ≤ hi') (h3 : hi' ≤ w.heap.size) : Ot w lo' hi' A' xs := ⟨h.1.wide h1 h2, h3⟩
end
end Go.Proofs.Ytnnoobdcdfcdaaa
