/- Texts of this seat, joined: Wo Wp Pl Mi Sa Cw Wq Sb Sc -/
import Derived.Test.YtnecnbonnidijaaGI1
import Derived.WalkSmall
import Derived.Deep.DeepCutAuto
/- Whole numbers of integers, of the program and of the model. -/
namespace Go.Proofs.Ytnecnbonnidijaa
set_option maxRecDepth 100000
open Go.RowKit
set_option linter.unusedSimpArgs false
set_option linter.unusedVariables false

/-- a result's box, still empty -/
def ResB (w : World) (b : Nat) : Prop := (w.cell? ⟨b, 0, none⟩ = some (.int .i64 0) ∧ w.cell? ⟨b, 1, none⟩ = some (.slice none 0 0) ∧ w.frozen? ⟨b, 0, none⟩ = false ∧ w.frozen? ⟨b, 1, none⟩ = false) ∧ b < w.heap.size
theorem ResB.next {w w' : World} {b : Nat} (h : ResB w b) (hb : Below w.heap.size w w') : ResB w' b :=
  ⟨⟨(hb.cell (p := ⟨b, 0, none⟩) h.2).trans h.1.1, (hb.cell (p := ⟨b, 1, none⟩) h.2).trans h.1.2.1, (hb.frozen (p := ⟨b, 0, none⟩) h.2).trans h.1.2.2.1, (hb.frozen (p := ⟨b, 1, none⟩) h.2).trans h.1.2.2.2⟩, Nat.lt_of_lt_of_le h.2 hb.size⟩
theorem Wz.setCell {w : World} {lo hi : Nat} {z : Int} {val : Value} (h : Wz w lo hi z val) {p : Addr} (hp : p.block < lo) (u : Value) : Wz (w.setCell p u) lo hi z val := by
  obtain ⟨A, c, e, o, h3⟩ := h
  exact ⟨A, c, e, o.setCell (.inl hp) u, h3⟩
end Go.Proofs.Ytnecnbonnidijaa
/- The model's whole number of an integer. -/
namespace Go.Proofs.Ytnecnbonnidijaa
set_option maxRecDepth 100000
open Go.RowKit
set_option linter.unusedSimpArgs false
set_option linter.unusedVariables false

/-- limbs in a row of the call's own, in the order that they were appended -/
def OwnL (w : World) (B : Nat) (v : Value) (ys : List Nat) : Prop := w.ownsRow B 2 1 v ys.length (vs ys)
theorem OwnL.form {w : World} {B : Nat} {v : Value} {ys : List Nat} (h : OwnL w B v ys) : ∃ A c, v = .slice A ys.length c ∧ ys.length ≤ c := by
  rcases h.2 with ⟨h1, h2⟩ | ⟨g, cap, cur, h1, _, _, h3, _⟩
  · exact ⟨none, 0, by rw [h1, h2], by omega⟩
  · exact ⟨some ⟨g, 0, none⟩, cap, h1, h3⟩
theorem OwnL.rd {w : World} {B : Nat} {A : Option Addr} {n c : Nat} {ys : List Nat} (h : OwnL w B (.slice A n c) ys) : Rd w w.heap.size A (vs ys) := by
  obtain ⟨A', c', e, _⟩ := h.form
  injection e with e1 e2 e3
  subst e1 e2 e3
  exact Rd.own h

end Go.Proofs.Ytnecnbonnidijaa
/- Sums and differences of limbs, of the program. -/
namespace Go.Proofs.Ytnecnbonnidijaa
set_option maxRecDepth 100000
open Go.RowKit
set_option linter.unusedSimpArgs false
set_option linter.unusedVariables false

end Go.Proofs.Ytnecnbonnidijaa
/- Differences of limbs, of the program. -/
namespace Go.Proofs.Ytnecnbonnidijaa
set_option maxRecDepth 100000
open Go.RowKit
set_option linter.unusedSimpArgs false
set_option linter.unusedVariables false

end Go.Proofs.Ytnecnbonnidijaa
/- Sums and differences of limbs, of the model. -/
namespace Go.Proofs.Ytnecnbonnidijaa
set_option maxRecDepth 100000
open Go.RowKit
set_option linter.unusedSimpArgs false
set_option linter.unusedVariables false

end Go.Proofs.Ytnecnbonnidijaa
/- Comparing whole numbers, of the program and of the model. -/
namespace Go.Proofs.Ytnecnbonnidijaa
set_option maxRecDepth 100000
open Go.RowKit
set_option linter.unusedSimpArgs false
set_option linter.unusedVariables false

/-- -1, 0 or 1 -/
def cmpI (a b : Int) : Int := if a < b then -1 else if a = b then 0 else 1
/-- signs and absolute values -/
def Sg (s : Int) (v : Nat) : Prop := -1 ≤ s ∧ s ≤ 1 ∧ (s = 0 ↔ v = 0)
/-! the functions of the chapter -/
/-- both are whole numbers -/
noncomputable def both (s0 : Int) (xs0 : List Int) (s1 : Int) (xs1 : List Int) : Bool := isW s0 xs0 && isW s1 xs1
noncomputable def errB (s0 : Int) (xs0 : List Int) (s1 : Int) (xs1 : List Int) : Int := if both s0 xs0 s1 xs1 = true then 0 else 1
noncomputable def cmpR (s0 : Int) (xs0 : List Int) (s1 : Int) (xs1 : List Int) : Int := if both s0 xs0 s1 xs1 = true then cmpI (s0 * magW s0 xs0) (s1 * magW s1 xs1) else 0
end Go.Proofs.Ytnecnbonnidijaa
/- The sum of two whole numbers, of the program. -/
namespace Go.Proofs.Ytnecnbonnidijaa
set_option maxRecDepth 100000
open Go.RowKit
set_option linter.unusedSimpArgs false
set_option linter.unusedVariables false

theorem Sg.one {s : Int} {v : Nat} (h : Sg s v) : s = 1 ∨ s = -1 ∨ v = 0 := by
  obtain ⟨h1, h2, h3⟩ := h
  by_cases h0 : v = 0
  · exact .inr (.inr h0)
  · omega

end Go.Proofs.Ytnecnbonnidijaa
/- Sums, opposites and differences of whole numbers, of the model. -/
namespace Go.Proofs.Ytnecnbonnidijaa
set_option maxRecDepth 100000
open Go.RowKit
set_option linter.unusedSimpArgs false
set_option linter.unusedVariables false

theorem Box.keep {w : World} {b n c : Nat} {s : Int} {A : Option Addr} (h : Box w b s A n c) {p : Addr} (hp : p.block ≠ b) (u : Value) : Box (w.setCell p u) b s A n c := by
  have hk : (w.setCell p u).heap[b]? = w.heap[b]? := Below.heap_setCell _ _ _ _ (Ne.symm hp)
  exact ⟨⟨(World.cell?_of_block (a := ⟨b, 0, none⟩) hk).trans h.1.1, (World.cell?_of_block (a := ⟨b, 1, none⟩) hk).trans h.1.2⟩, by simpa using h.2⟩
theorem Sg.zero {v : Nat} (h : Sg 0 v) : v = 0 := h.2.2.1 rfl

end Go.Proofs.Ytnecnbonnidijaa
/- AddWholes and SubtractWholes, of the program and of the model. -/
namespace Go.Proofs.Ytnecnbonnidijaa
set_option maxRecDepth 100000
open Go.RowKit
set_option linter.unusedSimpArgs false
set_option linter.unusedVariables false

/-- a whole number that fits, else 0; and the code -/
def fitZ (z : Int) : Int := if (limbs z.natAbs).length ≤ 100 then z else 0
def fitE (z : Int) : Int := if (limbs z.natAbs).length ≤ 100 then 0 else 3
def opZ (z : Int) (b : Bool) : Int := if b = true then fitZ z else 0
def opE (z : Int) (b : Bool) : Int := if b = true then fitE z else 1
theorem Sg.neg {s : Int} {v : Nat} (h : Sg s v) : Sg (-s) v := ⟨by have := h.2.1; omega, by have := h.1; omega, by have := h.2.2; omega⟩

end Go.Proofs.Ytnecnbonnidijaa
