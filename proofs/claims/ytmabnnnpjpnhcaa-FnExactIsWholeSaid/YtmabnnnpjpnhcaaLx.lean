/- What a whole number of the laws that came in is. -/
import Derived.Test.YtmabnnnpjpnhcaaWm
import Derived.Test.YtmabnnnpjpnhcaaIx
import Derived.Test.YtmabnnnpjpnhcaaLw
import Derived.Lib.SmallJoins
namespace Go.Proofs.Ytmabnnnpjpnhcaa
open Go.ChangeShapes Go.WideShapes Go.ChangeAt Go.RowKit Go.Deep

/-- a box that holds a whole number -/
def Box (w : World) (b : Nat) (s : Int) (A : Option Addr) (n c : Nat) : Prop := (w.cell? ⟨b, 0, none⟩ = some (.int .i64 s) ∧ w.cell? ⟨b, 1, none⟩ = some (.slice A n c)) ∧ b < w.heap.size
theorem Box.next {w w' : World} {b n c : Nat} {s : Int} {A : Option Addr} (h : Box w b s A n c) (hb : Below w.heap.size w w') : Box w' b s A n c :=
  ⟨⟨(hb.cell (p := ⟨b, 0, none⟩) h.2).trans h.1.1, (hb.cell (p := ⟨b, 1, none⟩) h.2).trans h.1.2⟩, Nat.lt_of_lt_of_le h.2 hb.size⟩
theorem Box.new (w : World) (s : Int) (A : Option Addr) (n c : Nat) (t : TypeId) : Box (w.alloc (.cells #[.int .i64 s, .slice A n c] t)) w.heap.size s A n c := ⟨⟨by simp, by simp⟩, by simp⟩
theorem Box.grown {w w' : World} {b n c lo hi : Nat} {s : Int} {A : Option Addr} {row : Option Nat} (h : Box w b s A n c) (hg : w.grownBy w' row) (hr : ∀ g, row = some g → lo ≤ g ∧ g < hi) (hne : b < lo ∨ hi ≤ b) : Box w' b s A n c := by
  have hk : w'.heap[b]? = w.heap[b]? := hg.block b h.2 (fun e => by have := hr b e.symm; omega)
  exact ⟨⟨(World.cell?_of_block (a := ⟨b, 0, none⟩) hk).trans h.1.1, (World.cell?_of_block (a := ⟨b, 1, none⟩) hk).trans h.1.2⟩, Nat.lt_of_lt_of_le h.2 hg.size⟩
theorem belAlloc1 (w : World) (o : Obj) : Below w.heap.size w (w.alloc o) := (Below.refl _ _).alloc (Nat.le_refl _) _

/-- rows of the call's own, and what came in, in a later world -/
def Ot (w : World) (lo hi : Nat) (A : Option Addr) (xs : List Value) : Prop := Ow w lo hi A xs ∧ hi ≤ w.heap.size
def Rt (w : World) (B : Nat) (A : Option Addr) (xs : List Value) : Prop := Rd w B A xs ∧ B ≤ w.heap.size
theorem Ot.next {w w' : World} {lo hi : Nat} {A : Option Addr} {xs : List Value} (h : Ot w lo hi A xs) (hb : Below w.heap.size w w') : Ot w' lo hi A xs := ⟨h.1.below' hb, Nat.le_trans h.2 hb.size⟩
theorem Rt.next {w w' : World} {B : Nat} {A : Option Addr} {xs : List Value} (h : Rt w B A xs) (hb : Below w.heap.size w w') : Rt w' B A xs := ⟨h.1.below (hb.mono h.2), Nat.le_trans h.2 hb.size⟩
theorem Ot.rt {w : World} {lo hi : Nat} {A : Option Addr} {xs : List Value} (h : Ot w lo hi A xs) : Rt w hi A xs := ⟨h.1.rd, h.2⟩
theorem Rt.all {w : World} {B : Nat} {A : Option Addr} {xs : List Value} (h : Rt w B A xs) : Rd w w.heap.size A xs := h.1.up h.2
theorem Ot.new {w : World} {lo : Nat} {A : Option Addr} {xs : List Value} (h : Ow w lo w.heap.size A xs) : Ot w lo w.heap.size A xs := ⟨h, Nat.le_refl _⟩
theorem Ot.grown {w w' : World} {lo hi lo' hi' : Nat} {A : Option Addr} {xs : List Value} {row : Option Nat} (h : Ot w lo hi A xs) (hg : w.grownBy w' row) (hr : ∀ g, row = some g → lo' ≤ g ∧ g < hi') (hne : hi ≤ lo' ∨ hi' ≤ lo) : Ot w' lo hi A xs :=
  ⟨h.1.grown hg (fun g e => by have := hr g e; omega), Nat.le_trans h.2 hg.size⟩
theorem Rt.grown {w w' : World} {B lo' hi' : Nat} {A : Option Addr} {xs : List Value} {row : Option Nat} (h : Rt w B A xs) (hg : w.grownBy w' row) (hr : ∀ g, row = some g → lo' ≤ g ∧ g < hi') (hne : B ≤ lo') : Rt w' B A xs :=
  ⟨h.1.carry (fun p hp => World.cell?_of_block (hg.block p.block (Nat.lt_of_lt_of_le hp h.2) (fun e => by have := hr _ e.symm; omega))), Nat.le_trans h.2 hg.size⟩
theorem belNext {W w w' : World} (h : Below W.heap.size W w) (hb : Below w.heap.size w w') : Below W.heap.size W w' := h.trans (hb.mono h.size)
theorem belDrew {w w' : World} (h : Below w.drew.heap.size w.drew w') : Below w.heap.size w w' := ⟨h.os, h.tape, h.output, h.size, h.block⟩
theorem belMarked {W w w' : World} {lo hi : Nat} {row : Option Nat} (h : Below W.heap.size W w) (hg : w.grownBy w' row) (hr : ∀ g, row = some g → lo ≤ g ∧ g < hi) (hlo : W.heap.size ≤ lo) : Below W.heap.size W w' := h.grown hg h.size (fun g e => by have := hr g e; omega)

section
variable {H : Type} {enc : TypeId × Value → H}

/-- the integers of a slice that came in -/
theorem open_i64s_at {W : World} {fuel : Nat} {v : Value} {y : DataW H × List MemPlace} (h : DataW.trod enc Try.prog W 0 (fun _ => true) true fuel 22 [v] = some y) :
    ∃ (A : Option Addr) (n c : Nat) (xs : List Int), v = .slice A n c ∧ Rd W W.heap.size A (vi xs) ∧ xs.length = n ∧ (n : Int) ≤ 9223372036854775807 ∧ (∀ x ∈ xs, -9223372036854775808 ≤ x ∧ x ≤ 9223372036854775807) := by
  rcases open_slice1 Try.underlying22 (by kernel_rfl) h with ⟨h1, _⟩ | ⟨a, len, cap, m, n, Vv, D, Pl, h1, _, hlc, hcap, hm, _, hel⟩
  · simp at h1
    exact ⟨none, 0, 0, [], h1, Rd.nil_, rfl, by simp, by simp⟩
  · simp at h1
    have hlen : len ≤ m := by rw [hm]; split <;> omega
    have hb : ∀ i, i < len → ∃ b : Int, Vv i = .int .i64 b ∧ -9223372036854775808 ≤ b ∧ b ≤ 9223372036854775807 := fun i hi => by
      obtain ⟨z, e, _, hw⟩ := DataW.trod_int Try.underlying2 (hel i (by omega)).2
      simp only [Lit.wf, Bool.and_eq_true, decide_eq_true_eq] at hw
      exact ⟨z, by simpa using e, hw⟩
    let f : Nat → Int := fun i => match Vv i with | .int _ b => b | _ => 0
    have hV : ∀ i, i < len → Vv i = .int .i64 (f i) := fun i hi => by
      obtain ⟨b, e, _⟩ := hb i hi
      simp only [f, e]
    refine ⟨some a, len, cap, (List.range len).map f, h1, ?_, by simp, by unfold maxLen at hcap; omega, ?_⟩
    · intro k u hu
      have hk : k < len := by
        have := (List.getElem?_eq_some_iff.1 hu).1
        rw [vi_len] at this
        simpa using this
      have hc := (hel k (by omega)).1
      refine ⟨a, rfl, ?_, ?_⟩
      · have := World.block_lt_of_cell? W _ hc
        rwa [addr_block] at this
      · rw [hc, hV k hk]
        unfold vi at hu
        simp only [List.getElem?_map, List.getElem?_range hk, Option.map_some] at hu
        exact hu
    · intro x hx
      obtain ⟨i, hi, rfl⟩ := List.mem_map.1 hx
      obtain ⟨b, e, hlt⟩ := hb i (by simpa using hi)
      simp only [f, e]
      exact hlt

theorem trod_i64 {w : World} {base : Nat} {spare : Nat → Bool} {held : Bool} {n : Nat} {v : Value} {y : DataW H × List MemPlace} (h : DataW.trod enc Try.prog w base spare held n 2 [v] = some y) :
    ∃ z, v = .int .i64 z ∧ -9223372036854775808 ≤ z ∧ z ≤ 9223372036854775807 := by
  obtain ⟨z, e, _, hw⟩ := DataW.trod_int Try.underlying2 h
  simp only [Lit.wf, Bool.and_eq_true, decide_eq_true_eq] at hw
  exact ⟨z, by simpa using e, hw⟩

/-- a whole number that came in -/
theorem open_whole {W : World} {base : Nat} {v : Value} {d : DataW H} {p : List MemPlace} (hval : Value.okWide Try.prog W .any base 24 v)
    (h : DataW.Trod enc Try.prog W 0 (fun _ => true) true 24 v d p) :
    ∃ (s : Int) (A : Option Addr) (n c : Nat) (xs : List Int), v = .agg #[.int .i64 s, .slice A n c] ∧ Rd W W.heap.size A (vi xs) ∧ (xs.length = n ∧ (n : Int) ≤ 9223372036854775807) ∧ (∀ x ∈ xs, -9223372036854775808 ≤ x ∧ x ≤ 9223372036854775807) := by
  obtain ⟨v0, v1, y0, y1, m, rfl, _, _, h0, h1⟩ := Go.Joins.open_agg2 Try.underlying24 (by kernel_rfl) (by kernel_rfl) hval h
  obtain ⟨s, rfl, _, _⟩ := trod_i64 h0
  obtain ⟨A, n, c, xs, rfl, hr, hl, hm, hx⟩ := open_i64s_at h1
  exact ⟨s, A, n, c, xs, rfl, hr, ⟨hl, hm⟩, hx⟩
end
end Go.Proofs.Ytmabnnnpjpnhcaa
