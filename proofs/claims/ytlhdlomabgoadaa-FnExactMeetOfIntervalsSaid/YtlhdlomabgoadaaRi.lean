/- Slices of int64 that read as lists, and rows of the call's own, or the first part of one. -/
import Derived.Test.YtlhdlomabgoadaaSl
import Derived.Test.YtlhdlomabgoadaaOk
import Derived.Deep.QuietTactic
import Derived.BigQuiet
import Derived.Deep.RegionHeld3
namespace Go.Proofs.Ytlhdlomabgoadaa
set_option maxRecDepth 100000
open Go.RowKit

/-- int64 values -/
def vi (xs : List Int) : List Value := xs.map (Value.int .i64)
/-- limbs as values -/
def vs (xs : List Nat) : List Value := vi (li xs)
theorem vi_len (xs : List Int) : (vi xs).length = xs.length := List.length_map ..
theorem vs_len (xs : List Nat) : (vs xs).length = xs.length := by unfold vs vi li; simp
theorem vi_get {xs : List Int} {k : Nat} (h : k < xs.length) : (vi xs)[k]'(by rw [vi_len]; exact h) = .int .i64 xs[k] := by unfold vi; simp
theorem vs_get {xs : List Nat} {k : Nat} (h : k < xs.length) : (vs xs)[k]'(by rw [vs_len]; exact h) = .int .i64 (xs[k] : Nat) := by unfold vs vi li; simp
theorem vi_set (xs : List Int) (k : Nat) (z : Int) : (vi xs).set k (.int .i64 z) = vi (xs.set k z) := by unfold vi; rw [List.map_set]
theorem vs_set (xs : List Nat) (k : Nat) (z : Nat) : (vs xs).set k (.int .i64 z) = vs (xs.set k z) := by unfold vs li; rw [vi_set, List.map_set]
theorem vs_take (xs : List Nat) (k : Nat) : vs (xs.take k) = (vs xs).take k := by unfold vs vi li; simp [List.map_take]
theorem vs_drop (xs : List Nat) (k : Nat) : vs (xs.drop k) = (vs xs).drop k := by unfold vs vi li; simp [List.map_drop]
theorem vi_take (xs : List Int) (k : Nat) : vi (xs.take k) = (vi xs).take k := by unfold vi; simp [List.map_take]
theorem vs_append (xs ys : List Nat) : vs (xs ++ ys) = vs xs ++ vs ys := by unfold vs vi li; simp
theorem vs_one (u : Value) (xs : List Nat) (h : u ∈ vs xs) : u.oneCell' = true := by
  unfold vs vi li at h
  obtain ⟨z, _, rfl⟩ := List.mem_map.1 h
  rfl

/-- a row that the call made, or its first part: the cells of a block from lo on and before hi, none of them frozen -/
def Ow (w : World) (lo hi : Nat) (A : Option Addr) (xs : List Value) : Prop :=
  xs = [] ∨ ∃ g cs, A = some ⟨g, 0, none⟩ ∧ lo ≤ g ∧ g < hi ∧ w.heap[g]? = some (.cells cs 2 (0, 0)) ∧ cs.toList.take xs.length = xs

section
variable {w w' : World} {lo lo' hi hi' : Nat} {A : Option Addr} {xs : List Value}
theorem Ow.nil_ : Ow w lo hi A [] := .inl rfl
theorem Ow.lt (h : Ow w lo hi A xs) (hx : xs ≠ []) : ∃ g, A = some ⟨g, 0, none⟩ ∧ lo ≤ g ∧ g < hi ∧ g < w.heap.size := by
  rcases h with h | ⟨g, cs, h1, h2, h3, h4, _⟩
  · exact absurd h hx
  · exact ⟨g, h1, h2, h3, (Array.getElem?_eq_some_iff.1 h4).1⟩
theorem add_zero_off (g k : Nat) : (⟨g, 0, none⟩ : Addr).add k = ⟨g, k, none⟩ := by unfold Addr.add; split <;> simp_all
theorem Ow.rd (h : Ow w lo hi A xs) : Rd w hi A xs := fun k u hu => by
  rcases h with rfl | ⟨g, cs, rfl, _, h3, h4, h5⟩
  · simp at hu
  · refine ⟨_, rfl, h3, ?_⟩
    rw [add_zero_off, cell_of_row w g k cs 2 (0, 0) h4]
    have hk : k < xs.length := (List.getElem?_eq_some_iff.1 hu).1
    rw [← h5, List.getElem?_take, if_pos hk] at hu
    simpa using hu
theorem Ow.wide (h : Ow w lo hi A xs) (h1 : lo' ≤ lo) (h2 : hi ≤ hi') : Ow w lo' hi' A xs := by
  rcases h with h | ⟨g, cs, a, b, c, d⟩
  · exact .inl h
  · exact .inr ⟨g, cs, a, by omega, by omega, d⟩
theorem Ow.keep (h : Ow w lo hi A xs) (hk : ∀ g, lo ≤ g → g < hi → g < w.heap.size → w'.heap[g]? = w.heap[g]?) : Ow w' lo hi A xs := by
  rcases h with h | ⟨g, cs, a, b, c, d, e⟩
  · exact .inl h
  · exact .inr ⟨g, cs, a, b, c, (hk g b c (Array.getElem?_eq_some_iff.1 d).1).trans d, e⟩
theorem Ow.below {B : Nat} (h : Ow w lo hi A xs) (hb : Below B w w') (hB : hi ≤ B) : Ow w' lo hi A xs := h.keep fun g _ h2 _ => hb.block g (by omega)
theorem Ow.below' (h : Ow w lo hi A xs) (hb : Below w.heap.size w w') : Ow w' lo hi A xs := h.keep fun g _ _ h2 => hb.block g h2
theorem Ow.grown {row : Option Nat} (h : Ow w lo hi A xs) (hg : w.grownBy w' row) (hr : ∀ g, row = some g → g < lo ∨ hi ≤ g) : Ow w' lo hi A xs :=
  h.keep fun g h1 h2 h3 => hg.block g h3 (fun e => by have := hr g e.symm; omega)
theorem Ow.setCell (h : Ow w lo hi A xs) {p : Addr} (hp : p.block < lo ∨ hi ≤ p.block) (u : Value) : Ow (w.setCell p u) lo hi A xs := h.keep fun g _ _ _ => Below.heap_setCell _ _ _ _ (by omega)
theorem Ow.alloc (h : Ow w lo hi A xs) (o : Obj) : Ow (w.alloc o) lo hi A xs := h.keep fun _ _ _ h3 => Below.heap_alloc _ _ _ h3
theorem Ow.drewN (h : Ow w lo hi A xs) (n : Nat) : Ow (w.drewN n) lo hi A xs := h
theorem Ow.take (h : Ow w lo hi A xs) (k : Nat) : Ow w lo hi A (xs.take k) := by
  rcases h with rfl | ⟨g, cs, a, b, c, d, e⟩
  · exact .inl (by simp)
  · refine .inr ⟨g, cs, a, b, c, d, ?_⟩
    rw [List.length_take, ← List.take_take, e]
theorem Ow.own {n c : Nat} (h : w.ownsRow lo 2 1 (.slice A n c) n xs) : Ow w lo w.heap.size A xs := by
  rcases h.2 with ⟨_, h1⟩ | ⟨g, cap, cs, hv, h1, h2, _, _, _, h3⟩
  · exact .inl (List.eq_nil_of_length_eq_zero (by have := h.1; omega))
  · injection hv with hA
    subst hA
    refine .inr ⟨g, cs, rfl, h1, (Array.getElem?_eq_some_iff.1 h2).1, h2, ?_⟩
    have : xs.length = n * 1 := h.1
    rw [this]; exact h3
/-- a store into it -/
theorem Ow.stored (h : Ow w lo hi A xs) {k : Nat} (hk : k < xs.length) (u : Value) : ∃ g, A = some ⟨g, 0, none⟩ ∧ lo ≤ g ∧ g < hi ∧ w.cell? ⟨g, k, none⟩ = some xs[k] ∧ w.frozen? ⟨g, k, none⟩ = false ∧
    Ow (w.setCell ⟨g, k, none⟩ u) lo hi A (xs.set k u) ∧ w.grownBy (w.setCell ⟨g, k, none⟩ u) (some g) := by
  rcases h with rfl | ⟨g, cs, rfl, h2, h3, h4, h5⟩
  · simp at hk
  · have hc := cell_of_row w g k cs 2 (0, 0) h4
    refine ⟨g, rfl, h2, h3, ?_, by simp [World.frozen?, h4], .inr ⟨g, cs.setIfInBounds k u, rfl, h2, h3, ?_, ?_⟩, rfl, rfl, rfl, by simp [World.setCell], fun b hb hne => Below.heap_setCell _ _ _ _ (fun e => hne (by rw [e]))⟩
    · rw [hc]
      have h6 : xs[k]? = some xs[k] := List.getElem?_eq_getElem hk
      rw [← h6]
      conv => rhs; rw [← h5]
      rw [List.getElem?_take, if_pos hk]
      simp
    · simp [World.setCell, Array.getElem?_modify, h4]
    · rw [List.length_set, Array.toList_setIfInBounds, List.take_set, h5]
end

/-- the same numbers of values, another spelling -/
theorem Ow.eq_ {w : World} {lo hi : Nat} {A : Option Addr} {xs ys : List Value} (h : Ow w lo hi A xs) (e : xs = ys) : Ow w lo hi A ys := e ▸ h
theorem Rd.eq_ {w : World} {hi : Nat} {A : Option Addr} {xs ys : List Value} (h : Rd w hi A xs) (e : xs = ys) : Rd w hi A ys := e ▸ h

theorem store_int (P : Program) (w : World) (a : Addr) (m : Mode) (k : IntKind) (z : Int) : (store a (.int k z) m).run P w = stored P w a (.int k z) m := run_store P w a _ m rfl
theorem store_slice (P : Program) (w : World) (a : Addr) (m : Mode) (A : Option Addr) (n c : Nat) : (store a (.slice A n c) m).run P w = stored P w a (.slice A n c) m := run_store P w a _ m rfl
theorem below_drewN {B : Nat} {a w : World} (h : Below B a w) (n : Nat) : Below B a (w.drewN n) := h.trans ⟨rfl, rfl, rfl, Nat.le_refl _, fun _ _ => rfl⟩
theorem bcell {W w1 : World} (hb : Below W.heap.size W w1) : (∀ b o, b < W.heap.size → w1.cell? ⟨b, o, none⟩ = W.cell? ⟨b, o, none⟩) ∧ (∀ b o, b < W.heap.size → w1.frozen? ⟨b, o, none⟩ = W.frozen? ⟨b, o, none⟩) :=
  ⟨fun b o h => hb.cell (p := ⟨b, o, none⟩) h, fun b o h => hb.frozen (p := ⟨b, o, none⟩) h⟩
end Go.Proofs.Ytlhdlomabgoadaa
