/- Texts of this seat, joined: Ro Rp Kj Kk Kl -/
import Derived.Test.YtnecnbonnidijaaDoorGE4
import Derived.Test.YtnecnbonnidijaaDoorGE3
import Derived.Deep.LoopGhost
import Derived.Test.YtnecnbonnidijaaDoorGE6
import Derived.Test.YtnecnbonnidijaaDoorGE1
import Derived.Deep.DeepCutAuto
import Derived.Test.YtnecnbonnidijaaDoorGE5
import Derived.Test.YtnecnbonnidijaaDoorGE2
/- Roots of limbs, of the program: Newton's steps. -/
namespace Go.Proofs.YtnecnbonnidijaaDoor
set_option maxRecDepth 100000
open Go.RowKit
set_option linter.unusedSimpArgs false
set_option linter.unusedVariables false

/-- the greatest number whose square is not greater -/
theorem root_exists (v : Nat) : ∃ r, r * r ≤ v ∧ v < (r + 1) * (r + 1) := by
  induction v with
  | zero => exact ⟨0, by omega, by omega⟩
  | succ v ih =>
    obtain ⟨r, h1, h2⟩ := ih
    by_cases h : v + 1 < (r + 1) * (r + 1)
    · exact ⟨r, by omega, h⟩
    · refine ⟨r + 1, by omega, ?_⟩
      have e : (r + 1 + 1) * (r + 1 + 1) = (r + 1) * (r + 1) + 2 * r + 3 := by
        simp only [Nat.add_mul, Nat.mul_add]; omega
      omega
noncomputable def rt (v : Nat) : Nat := Classical.choose (root_exists v)
end Go.Proofs.YtnecnbonnidijaaDoor
/- Roots of whole numbers, of the model: bit by bit. -/
namespace Go.Proofs.YtnecnbonnidijaaDoor
set_option maxRecDepth 100000
open Go.RowKit
set_option linter.unusedSimpArgs false
set_option linter.unusedVariables false

/-- a box that may be written -/
def MB (w : World) (b : Nat) (s : Int) (A : Option Addr) (n c : Nat) : Prop := (w.cell? ⟨b, 0, none⟩ = some (.int .i64 s) ∧ w.cell? ⟨b, 1, none⟩ = some (.slice A n c) ∧ w.frozen? ⟨b, 0, none⟩ = false ∧ w.frozen? ⟨b, 1, none⟩ = false) ∧ b < w.heap.size
section
variable {w w' : World} {b n c n' c' : Nat} {s s' : Int} {A A' : Option Addr}
theorem MB.next (h : MB w b s A n c) (hb : Below w.heap.size w w') : MB w' b s A n c :=
  ⟨⟨(hb.cell (p := ⟨b, 0, none⟩) h.2).trans h.1.1, (hb.cell (p := ⟨b, 1, none⟩) h.2).trans h.1.2.1, (hb.frozen (p := ⟨b, 0, none⟩) h.2).trans h.1.2.2.1, (hb.frozen (p := ⟨b, 1, none⟩) h.2).trans h.1.2.2.2⟩, Nat.lt_of_lt_of_le h.2 hb.size⟩
theorem MB.box (h : MB w b s A n c) : Box w b s A n c := ⟨⟨h.1.1, h.1.2.1⟩, h.2⟩
theorem MB.over (h : MB w b s A n c) : MB (st w b s' A' n' c') b s' A' n' c' := by
  obtain ⟨⟨h0, h1, h2, h3⟩, h4⟩ := h
  refine ⟨⟨?_, ?_, ?_, ?_⟩, by rw [st_size]; exact h4⟩ <;> · unfold st; go_simp
theorem MB.st_ {b' : Nat} (h : MB w b s A n c) (hne : b ≠ b') : MB (st w b' s' A' n' c') b s A n c := by
  obtain ⟨⟨h0, h1, h2, h3⟩, h4⟩ := h
  refine ⟨⟨?_, ?_, ?_, ?_⟩, by rw [st_size]; exact h4⟩
  · exact (World.cell?_of_block (a := ⟨b, 0, none⟩) (st_heap hne)).trans h0
  · exact (World.cell?_of_block (a := ⟨b, 1, none⟩) (st_heap hne)).trans h1
  · rw [← h2]; unfold World.frozen?; rw [st_heap hne]
  · rw [← h3]; unfold World.frozen?; rw [st_heap hne]
theorem ZO.st_ {lo hi : Nat} {z : Int} (h : ZO w lo hi z s A n c) (hne : b < lo ∨ hi ≤ b) : ZO (st w b s' A' n' c') lo hi z s A n c :=
  (h.setCell hne _).setCell hne _
theorem ResB.st_ {b' : Nat} (h : ResB w b) (hne : b ≠ b') : ResB (st w b' s' A' n' c') b := by
  obtain ⟨⟨h0, h1, h2, h3⟩, h4⟩ := h
  refine ⟨⟨?_, ?_, ?_, ?_⟩, by rw [st_size]; exact h4⟩
  · exact (World.cell?_of_block (a := ⟨b, 0, none⟩) (st_heap hne)).trans h0
  · exact (World.cell?_of_block (a := ⟨b, 1, none⟩) (st_heap hne)).trans h1
  · rw [← h2]; unfold World.frozen?; rw [st_heap hne]
  · rw [← h3]; unfold World.frozen?; rw [st_heap hne]
end
/-- the world of the loop -/
def RtS (W w : World) (Sa : Int) (Aa : Option Addr) (na ca B R : Nat) (S : Int) (A : Option Addr) (n c : Nat) (S' : Int) (A' : Option Addr) (n' c' : Nat) (S1 : Int) (A1 : Option Addr) (n1 c1 : Nat) : Prop :=
  MB w B S A n c ∧ MB w (B + 1) S' A' n' c' ∧ Box w (B + 2) S1 A1 n1 c1 ∧ ZO w (B + 3) w.heap.size (R : Int) S A n c ∧ ZO w (B + 3) w.heap.size ((R * R : Nat) : Int) S' A' n' c' ∧ ZO w W.heap.size B 1 S1 A1 n1 c1 ∧ ResB w (W.heap.size + 1) ∧ Box w W.heap.size Sa Aa na ca ∧ Below W.heap.size W w ∧ W.heap.size + 1 < B
theorem RtS.next {W w w' : World} {Sa : Int} {Aa : Option Addr} {na ca B R : Nat} {S : Int} {A : Option Addr} {n c : Nat} {S' : Int} {A' : Option Addr} {n' c' : Nat} {S1 : Int} {A1 : Option Addr} {n1 c1 : Nat} (h : RtS W w Sa Aa na ca B R S A n c S' A' n' c' S1 A1 n1 c1) (hb : Below w.heap.size w w') : RtS W w' Sa Aa na ca B R S A n c S' A' n' c' S1 A1 n1 c1 := by
  obtain ⟨h1, h2, h3, h4, h5, h6, h7, h8, h9, h10⟩ := h
  exact ⟨h1.next hb, h2.next hb, h3.next hb, (h4.next hb).wide (Nat.le_refl _) hb.size (Nat.le_refl _), (h5.next hb).wide (Nat.le_refl _) hb.size (Nat.le_refl _), h6.next hb, h7.next hb, h8.next hb, belNext h9 hb, h10⟩
theorem RtS.both {W w : World} {Sa : Int} {Aa : Option Addr} {na ca B R R2 : Nat} {S : Int} {A : Option Addr} {n c : Nat} {S' : Int} {A' : Option Addr} {n' c' : Nat} {S1 : Int} {A1 : Option Addr} {n1 c1 : Nat} {T T' : Int} {A2 A3 : Option Addr} {n2 c2 n3 c3 : Nat} (h : RtS W w Sa Aa na ca B R S A n c S' A' n' c' S1 A1 n1 c1) (hz : ZO w (B + 3) w.heap.size (R2 : Int) T A2 n2 c2) (hz' : ZO w (B + 3) w.heap.size ((R2 * R2 : Nat) : Int) T' A3 n3 c3) : RtS W (st (st w B T A2 n2 c2) (B + 1) T' A3 n3 c3) Sa Aa na ca B R2 T A2 n2 c2 T' A3 n3 c3 S1 A1 n1 c1 := by
  obtain ⟨h1, h2, h3, h4, h5, h6, h7, h8, h9, h10⟩ := h
  refine ⟨(h1.over).st_ (by omega), (h2.st_ (by omega)).over, (h3.st_ (by omega)).st_ (by omega), ?_, ?_, (h6.st_ (.inr (Nat.le_refl _))).st_ (.inr (by omega)), (h7.st_ (by omega)).st_ (by omega), (h8.st_ (by omega)).st_ (by omega), belSt (belSt h9 (by omega)) (by omega), h10⟩
  · rw [st_size, st_size]; exact (hz.st_ (.inl (by omega))).st_ (.inl (by omega))
  · rw [st_size, st_size]; exact (hz'.st_ (.inl (by omega))).st_ (.inl (by omega))
end Go.Proofs.YtnecnbonnidijaaDoor
/- Absolute values, multiples of a step, overflow, of the model. -/
namespace Go.Proofs.YtnecnbonnidijaaDoor
set_option maxRecDepth 100000
open Go.RowKit
set_option linter.unusedSimpArgs false
set_option linter.unusedVariables false
attribute [local go_sem ↓] Go.wp_at_zero Go.wp_at_succ

end Go.Proofs.YtnecnbonnidijaaDoor
/- Multiples of a step, of the model. -/
namespace Go.Proofs.YtnecnbonnidijaaDoor
set_option maxRecDepth 100000
open Go.RowKit
set_option linter.unusedSimpArgs false
set_option linter.unusedVariables false
attribute [local go_sem ↓] Go.wp_at_zero Go.wp_at_succ

theorem MB.new (w : World) (s : Int) (A : Option Addr) (n c : Nat) (T : TypeId) : MB (w.alloc (.cells #[.int .i64 s, .slice A n c] T)) w.heap.size s A n c := by
  refine ⟨⟨?_, ?_, ?_, ?_⟩, ?_⟩
  · go_simp
  · go_simp
  · go_simp
  · go_simp
  · simp
end Go.Proofs.YtnecnbonnidijaaDoor
/- Rounding to a float of 32 bits, of the model. -/
namespace Go.Proofs.YtnecnbonnidijaaDoor
set_option maxRecDepth 100000
open Go.RowKit
set_option linter.unusedSimpArgs false
set_option linter.unusedVariables false
attribute [local go_sem ↓] Go.wp_at_zero Go.wp_at_succ

open Ieee in
theorem near32_words (m : Nat) (q : Int) : ∃ r, r ≤ 2139095040 ∧ s32 false m q = r ∧ s32 true m q = 2147483648 + r := by
  have hw : ∀ r, Ieee.single.word false r = r := fun r => by unfold Ieee.Format.word; rw [if_neg (by decide)]; try omega
  have hw2 : ∀ r, Ieee.single.word true r = 2147483648 + r := fun r => by unfold Ieee.Format.word; rw [if_pos rfl]; rfl
  unfold s32 Ieee.Format.nearest
  by_cases h : m = 0
  · rw [if_pos h, if_pos h, hw, hw2]; exact ⟨0, by decide, rfl, rfl⟩
  · rw [if_neg h, if_neg h]
    dsimp only
    rw [cut_even, cut_even, hw, hw2]
    refine ⟨_, ?_, rfl, rfl⟩
    have e := single_inf
    omega
end Go.Proofs.YtnecnbonnidijaaDoor
