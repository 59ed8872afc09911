/- Exact numbers without their last twos, and limited, of the program. -/
import Derived.Test.YtnnoobdcdfcdaaaHa
namespace Go.Proofs.Ytnnoobdcdfcdaaa
set_option maxRecDepth 100000
open Go.RowKit
set_option linter.unusedSimpArgs false
set_option linter.unusedVariables false

/-- an exact number is laid into a box -/
def st3 (w : World) (b : Nat) (S : Int) (A : Option Addr) (n c : Nat) (E : Int) : World := ((w.setCell ⟨b, 0, none⟩ (.int .i64 S)).setCell ⟨b, 1, none⟩ (.slice A n c)).setCell ⟨b, 2, none⟩ (.int .i64 E)
/-- nothing of a box is frozen -/
def Fr3 (w : World) (b : Nat) : Prop := (w.frozen? ⟨b, 0, none⟩ = false ∧ w.frozen? ⟨b, 1, none⟩ = false ∧ w.frozen? ⟨b, 2, none⟩ = false) ∧ b < w.heap.size
section
variable {w w' : World} {b : Nat} {S E : Int} {A : Option Addr} {n c : Nat}
theorem Fr3.next (h : Fr3 w b) (hb : Below w.heap.size w w') : Fr3 w' b :=
  ⟨⟨(hb.frozen (p := ⟨b, 0, none⟩) h.2).trans h.1.1, (hb.frozen (p := ⟨b, 1, none⟩) h.2).trans h.1.2.1, (hb.frozen (p := ⟨b, 2, none⟩) h.2).trans h.1.2.2⟩, Nat.lt_of_lt_of_le h.2 hb.size⟩
theorem Fr3.drew (h : Fr3 w b) : Fr3 w.drew b := h
theorem Fr3.new (w : World) (S : Int) (A : Option Addr) (n c : Nat) (E : Int) (t : TypeId) : Fr3 (w.alloc (.cells #[.int .i64 S, .slice A n c, .int .i64 E] t)) w.heap.size := by
  refine ⟨⟨?_, ?_, ?_⟩, ?_⟩
  · go_simp
  · go_simp
  · go_simp
  · simp
theorem st3_size : (st3 w b S A n c E).heap.size = w.heap.size := by unfold st3; simp
theorem st3_heap {g : Nat} (h : g ≠ b) : (st3 w b S A n c E).heap[g]? = w.heap[g]? := by
  unfold st3
  rw [Below.heap_setCell _ _ _ _ (by exact h), Below.heap_setCell _ _ _ _ (by exact h), Below.heap_setCell _ _ _ _ (by exact h)]
theorem st3_cell {g o : Nat} (h : g ≠ b) : (st3 w b S A n c E).cell? ⟨g, o, none⟩ = w.cell? ⟨g, o, none⟩ := World.cell?_of_block (a := ⟨g, o, none⟩) (st3_heap h)
theorem st3_frozen {g o : Nat} (h : g ≠ b) : (st3 w b S A n c E).frozen? ⟨g, o, none⟩ = w.frozen? ⟨g, o, none⟩ := by unfold World.frozen?; rw [st3_heap h]
theorem DBox.st3_ {b' : Nat} {S' E' : Int} {A' : Option Addr} {n' c' : Nat} (h : DBox w b' S' A' n' c' E') (hne : b' ≠ b) : DBox (st3 w b S A n c E) b' S' A' n' c' E' :=
  ⟨⟨(st3_cell hne).trans h.1.1, (st3_cell hne).trans h.1.2.1, (st3_cell hne).trans h.1.2.2⟩, by rw [st3_size]; exact h.2⟩
theorem DRes.st3_ {b' : Nat} (h : DRes w b') (hne : b' ≠ b) : DRes (st3 w b S A n c E) b' :=
  ⟨⟨(st3_cell hne).trans h.1.1, (st3_cell hne).trans h.1.2.1, (st3_cell hne).trans h.1.2.2.1, (st3_frozen hne).trans h.1.2.2.2.1, (st3_frozen hne).trans h.1.2.2.2.2.1, (st3_frozen hne).trans h.1.2.2.2.2.2⟩, by rw [st3_size]; exact h.2⟩
theorem Fr3.st3_ {b' : Nat} (h : Fr3 w b') (hne : b' ≠ b) : Fr3 (st3 w b S A n c E) b' :=
  ⟨⟨(st3_frozen hne).trans h.1.1, (st3_frozen hne).trans h.1.2.1, (st3_frozen hne).trans h.1.2.2⟩, by rw [st3_size]; exact h.2⟩
theorem ZO.st3_ {lo hi : Nat} {z S' : Int} {A' : Option Addr} {n' c' : Nat} (h : ZO w lo hi z S' A' n' c') (hne : b < lo ∨ hi ≤ b) : ZO (st3 w b S A n c E) lo hi z S' A' n' c' :=
  ⟨h.1, h.2.1, h.2.2.1, h.2.2.2.1.keep (fun g h1 h2 _ => st3_heap (by omega)), by rw [st3_size]; exact h.2.2.2.2⟩
theorem belSt3 {W : World} (h : Below W.heap.size W w) (hb : W.heap.size ≤ b) : Below W.heap.size W (st3 w b S A n c E) := ((h.setCell hb _).setCell hb _).setCell hb _
theorem DBox.made (h : b < w.heap.size) (h0 : ∃ u, w.cell? ⟨b, 0, none⟩ = some u) (h1 : ∃ u, w.cell? ⟨b, 1, none⟩ = some u) (h2 : ∃ u, w.cell? ⟨b, 2, none⟩ = some u) : DBox (st3 w b S A n c E) b S A n c E := by
  obtain ⟨u0, h0⟩ := h0
  obtain ⟨u1, h1⟩ := h1
  obtain ⟨u2, h2⟩ := h2
  refine ⟨⟨?_, ?_, ?_⟩, by rw [st3_size]; exact h⟩ <;> · unfold st3; go_simp
theorem Fr3.made (h : Fr3 w b) : Fr3 (st3 w b S A n c E) b := by
  obtain ⟨⟨h0, h1, h2⟩, h3⟩ := h
  refine ⟨⟨?_, ?_, ?_⟩, by rw [st3_size]; exact h3⟩ <;> · unfold st3; go_simp
end

theorem shZ_tz {z : Int} : shZ z (-((tz z.natAbs : Nat) : Int)) = nz z := by
  have hs := (nz_facts z).1
  have ha := (nz_facts z).2
  have key : z.sign * ((z.natAbs / 2 ^ tz z.natAbs : Nat) : Int) = nz z := rfl
  by_cases h0 : tz z.natAbs = 0
  · rw [h0, shZ_up (by omega)]
    rw [h0] at key
    simp at key
    simp
    rw [← key, Int.sign_mul_natAbs]
  · rw [← key]
    by_cases hn : z.sign < 0
    · exact (sh_down_exact rfl hn (by omega) (by omega)).symm
    · exact (sh_down_nonneg rfl hn (by omega)).symm
theorem sign_eq_zero {z S : Int} (hS : S = z.sign) : S = 0 ↔ z = 0 := by rw [hS, Int.sign_eq_zero_iff_zero]
theorem nx_bound {z E : Int} {n : Nat} (hn : (limbs z.natAbs).length = n) (h : (n : Int) ≤ 50000) (h1 : -1000000 ≤ E) (h2 : E ≤ 1000000) : -1000000 ≤ nx z E ∧ nx z E ≤ 2200000 := by
  by_cases h0 : z = 0
  · rw [h0, nx_zero]; omega
  · rw [nx_ne h0]
    have := tz_le hn
    omega

end Go.Proofs.Ytnnoobdcdfcdaaa
