/- Boxes of whole numbers, rows and what came in, carried from world to world. -/
import Derived.Test.YtlhdlomabgoadaaRi
namespace Go.Proofs.Ytlhdlomabgoadaa
set_option maxRecDepth 100000
open Go.RowKit

theorem belAlloc1 (w : World) (o : Obj) : Below w.heap.size w (w.alloc o) := (Below.refl _ _).alloc (Nat.le_refl _) _
/-- a box that holds a whole number -/
def Box (w : World) (b : Nat) (s : Int) (A : Option Addr) (n c : Nat) : Prop := (w.cell? ⟨b, 0, none⟩ = some (.int .i64 s) ∧ w.cell? ⟨b, 1, none⟩ = some (.slice A n c)) ∧ b < w.heap.size
theorem Box.next {w w' : World} {b n c : Nat} {s : Int} {A : Option Addr} (h : Box w b s A n c) (hb : Below w.heap.size w w') : Box w' b s A n c :=
  ⟨⟨(hb.cell (p := ⟨b, 0, none⟩) h.2).trans h.1.1, (hb.cell (p := ⟨b, 1, none⟩) h.2).trans h.1.2⟩, Nat.lt_of_lt_of_le h.2 hb.size⟩
theorem Box.new (w : World) (s : Int) (A : Option Addr) (n c : Nat) (t : TypeId) : Box (w.alloc (.cells #[.int .i64 s, .slice A n c] t)) w.heap.size s A n c := ⟨⟨by simp, by simp⟩, by simp⟩
theorem Box.grown {w w' : World} {b n c lo hi : Nat} {s : Int} {A : Option Addr} {row : Option Nat} (h : Box w b s A n c) (hg : w.grownBy w' row) (hr : ∀ g, row = some g → lo ≤ g ∧ g < hi) (hne : b < lo ∨ hi ≤ b) : Box w' b s A n c := by
  have hk : w'.heap[b]? = w.heap[b]? := hg.block b h.2 (fun e => by have := hr b e.symm; omega)
  exact ⟨⟨(World.cell?_of_block (a := ⟨b, 0, none⟩) hk).trans h.1.1, (World.cell?_of_block (a := ⟨b, 1, none⟩) hk).trans h.1.2⟩, Nat.lt_of_lt_of_le h.2 hg.size⟩

theorem two_boxes (w : World) (s s' : Int) (A A' : Option Addr) (n n' c c' : Nat) (t t' : TypeId) :
    Box ((w.alloc (.cells #[.int .i64 s, .slice A n c] t)).alloc (.cells #[.int .i64 s', .slice A' n' c'] t')) w.heap.size s A n c ∧ Box ((w.alloc (.cells #[.int .i64 s, .slice A n c] t)).alloc (.cells #[.int .i64 s', .slice A' n' c'] t')) (w.heap.size + 1) s' A' n' c' ∧
    Below w.heap.size w ((w.alloc (.cells #[.int .i64 s, .slice A n c] t)).alloc (.cells #[.int .i64 s', .slice A' n' c'] t')) := by
  have h := belAlloc1 (w.alloc (.cells #[.int .i64 s, .slice A n c] t)) (.cells #[.int .i64 s', .slice A' n' c'] t')
  have h2 := Box.new (w.alloc (.cells #[.int .i64 s, .slice A n c] t)) s' A' n' c' t'
  have e : (w.alloc (.cells #[.int .i64 s, .slice A n c] t)).heap.size = w.heap.size + 1 := by simp
  rw [e] at h2
  exact ⟨(Box.new w s A n c t).next h, h2, (belAlloc1 w _).trans (h.mono (by simp))⟩

/-- rows of the call's own, and what came in, in a later world -/
def Ot (w : World) (lo hi : Nat) (A : Option Addr) (xs : List Value) : Prop := Ow w lo hi A xs ∧ hi ≤ w.heap.size
def Rt (w : World) (B : Nat) (A : Option Addr) (xs : List Value) : Prop := Rd w B A xs ∧ B ≤ w.heap.size
theorem Ot.next {w w' : World} {lo hi : Nat} {A : Option Addr} {xs : List Value} (h : Ot w lo hi A xs) (hb : Below w.heap.size w w') : Ot w' lo hi A xs := ⟨h.1.below' hb, Nat.le_trans h.2 hb.size⟩
theorem Rt.next {w w' : World} {B : Nat} {A : Option Addr} {xs : List Value} (h : Rt w B A xs) (hb : Below w.heap.size w w') : Rt w' B A xs := ⟨h.1.below (hb.mono h.2), Nat.le_trans h.2 hb.size⟩
theorem Ot.rt {w : World} {lo hi : Nat} {A : Option Addr} {xs : List Value} (h : Ot w lo hi A xs) : Rt w hi A xs := ⟨h.1.rd, h.2⟩
theorem Rt.all {w : World} {B : Nat} {A : Option Addr} {xs : List Value} (h : Rt w B A xs) : Rd w w.heap.size A xs := h.1.up h.2
theorem Ot.new {w : World} {lo : Nat} {A : Option Addr} {xs : List Value} (h : Ow w lo w.heap.size A xs) : Ot w lo w.heap.size A xs := ⟨h, Nat.le_refl _⟩
theorem Ot.grown {w w' : World} {lo hi lo' hi' : Nat} {A : Option Addr} {xs : List Value} {row : Option Nat} (h : Ot w lo hi A xs) (hg : w.grownBy w' row) (hr : ∀ g, row = some g → lo' ≤ g ∧ g < hi') (hne : hi ≤ lo' ∨ hi' ≤ lo) : Ot w' lo hi A xs :=
  ⟨h.1.grown hg (fun g e => by have := hr g e; omega), Nat.le_trans h.2 hg.size⟩
theorem Rt.grown {w w' : World} {B lo' hi' : Nat} {A : Option Addr} {xs : List Value} {row : Option Nat} (h : Rt w B A xs) (hg : w.grownBy w' row) (hr : ∀ g, row = some g → lo' ≤ g ∧ g < hi') (hne : B ≤ lo') : Rt w' B A xs :=
  ⟨h.1.carry (fun p hp => World.cell?_of_block (hg.block p.block (Nat.lt_of_lt_of_le hp h.2) (fun e => by have := hr _ e.symm; omega))), Nat.le_trans h.2 hg.size⟩
theorem belNext {W w w' : World} (h : Below W.heap.size W w) (hb : Below w.heap.size w w') : Below W.heap.size W w' := h.trans (hb.mono h.size)
theorem belDrew {w w' : World} (h : Below w.drew.heap.size w.drew w') : Below w.heap.size w w' := ⟨h.os, h.tape, h.output, h.size, h.block⟩
theorem belMarked {W w w' : World} {lo hi : Nat} {row : Option Nat} (h : Below W.heap.size W w) (hg : w.grownBy w' row) (hr : ∀ g, row = some g → lo ≤ g ∧ g < hi) (hlo : W.heap.size ≤ lo) : Below W.heap.size W w' := h.grown hg h.size (fun g e => by have := hr g e; omega)

end Go.Proofs.Ytlhdlomabgoadaa
