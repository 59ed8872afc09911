/- Texts of this seat, joined: Sl Nz Ok Ri Bx Wl Iw Wm Ix Lw Lx Ln Tm Bm By Tz -/
import Derived.WalkKit
import Derived.Below
import Derived.Laws.OwnMore
import Derived.Deep.AppendLies
import Derived.Deep.Draws
import Derived.Deep.OwnRows
import Derived.OwnWalk
import Derived.Lib.Hide
import Derived.Deep.QuietTactic
import Derived.BigQuiet
import Derived.Deep.RegionHeld3
import Derived.Test.YtnecnbonnidijaaProg
import Derived.Test.YtnecnbonnidijaaRows
import Derived.Deep.Slices
import Derived.ChangeBook
import Derived.ChangeStays
import Derived.Deep.Frames
import Derived.ProofKit
import Derived.OpenShut
import Derived.WalkLawsBesides
import Derived.Lib.SmallJoins
import Derived.Lib.BitFns
import Derived.Lib.ItoaNum
import Derived.Lib.Strings
import Derived.Lib.Slices
import Derived.Lib.Small
import Derived.Lib.Walk
import Derived.Maps.AppendAt
import Derived.RegionTactic
import Derived.Laws.BitsAllLaws
/- Slices: what a slice reads as (a list of one-cell values), over whatever the world gains. -/
namespace Go.Proofs.Ytnecnbonnidijaa
set_option maxRecDepth 100000
open Go.RowKit

/-- The slice with address A reads as the list xs; its block lies below B. -/
def Rd (w : World) (B : Nat) (A : Option Addr) (xs : List Value) : Prop :=
  ∀ k u, xs[k]? = some u → ∃ a : Addr, A = some a ∧ a.block < B ∧ w.cell? (a.add k) = some u

section
variable {w w' : World} {B B' : Nat} {A : Option Addr} {a : Addr} {xs : List Value}
theorem addr_block (a : Addr) (k : Nat) : (a.add k).block = a.block := by unfold Addr.add; split <;> rfl
theorem Rd.nil_ : Rd w B A [] := fun k u h => by simp at h
theorem Rd.carry (h : Rd w B A xs) (hc : ∀ p : Addr, p.block < B → w'.cell? p = w.cell? p) : Rd w' B A xs := fun k u hu => by
  obtain ⟨a, h1, h2, h3⟩ := h k u hu
  exact ⟨a, h1, h2, (hc _ (by rw [addr_block]; exact h2)).trans h3⟩
theorem Rd.below (h : Rd w B A xs) (hb : Below B w w') : Rd w' B A xs := h.carry fun _ hp => hb.cell hp
theorem Rd.up (h : Rd w B A xs) (hB : B ≤ B') : Rd w B' A xs := fun k u hu => by
  obtain ⟨a, h1, h2, h3⟩ := h k u hu
  exact ⟨a, h1, by omega, h3⟩
theorem Rd.cell (h : Rd w B (some a) xs) {k : Nat} (hk : k < xs.length) : w.cell? (a.add k) = some xs[k] := by
  obtain ⟨a', h1, _, h3⟩ := h k _ (List.getElem?_eq_getElem hk)
  cases h1; exact h3
theorem Rd.some_ (h : Rd w B A xs) (hk : 0 < xs.length) : ∃ a, A = some a ∧ a.block < B := by
  obtain ⟨a, h1, h2, _⟩ := h 0 _ (List.getElem?_eq_getElem hk)
  exact ⟨a, h1, h2⟩
/-- a row of the call's own reads as its list -/
theorem Rd.own {base n c : Nat} {e : TypeId} (h : w.ownsRow base e 1 (.slice A n c) n xs) : Rd w w.heap.size A xs := fun k u hu => by
  have hl : xs.length = n := by have := h.1; omega
  have hk : k < xs.length := (List.getElem?_eq_some_iff.1 hu).1
  obtain ⟨g, cap, hv, _, hlt⟩ := h.form (by omega)
  have hA : A = some ⟨g, 0, none⟩ := by injection hv
  subst hA
  exact ⟨_, rfl, hlt, h.cells (g := g) rfl k u hu⟩
end

theorem store_float (P : Program) (w : World) (a : Addr) (m : Mode) (k : FloatKind) (b : Nat) : (store a (.float k b) m).run P w = stored P w a (.float k b) m := run_store P w a _ m rfl

end Go.Proofs.Ytnecnbonnidijaa
/- Numbers in limbs of 24 bits: plain mathematics. -/
namespace Go.Proofs.Ytnecnbonnidijaa

/-- the base of limbs -/
def Bs : Nat := 16777216
theorem Bs_eq : Bs = 16777216 := rfl

/-- the value of limbs, the least one first -/
def V : List Nat → Nat
  | [] => 0
  | x :: xs => x + Bs * V xs

def Lim (xs : List Nat) : Prop := ∀ x ∈ xs, x < Bs

/-- the limbs of a number, none for 0 -/
def limbs (v : Nat) : List Nat := if _h : v = 0 then [] else v % Bs :: limbs (v / Bs)
termination_by v
decreasing_by rw [Bs_eq]; omega

theorem limbs_zero : limbs 0 = [] := by rw [limbs]; simp
theorem limbs_pos {v : Nat} (h : v ≠ 0) : limbs v = v % Bs :: limbs (v / Bs) := by rw [limbs]; simp [h]

theorem V_cons (x : Nat) (xs : List Nat) : V (x :: xs) = x + Bs * V xs := rfl

theorem V_limbs (v : Nat) : V (limbs v) = v := by
  induction v using Nat.strongRecOn with
  | ind v ih =>
    by_cases h : v = 0
    · subst h; rw [limbs_zero]; rfl
    · rw [limbs_pos h, V_cons, ih _ (by rw [Bs_eq]; omega)]
      exact Nat.mod_add_div v Bs

theorem Lim_limbs (v : Nat) : Lim (limbs v) := by
  induction v using Nat.strongRecOn with
  | ind v ih =>
    by_cases h : v = 0
    · subst h; rw [limbs_zero]; intro x hx; cases hx
    · rw [limbs_pos h]
      intro x hx
      rcases List.mem_cons.1 hx with rfl | hx
      · exact Nat.mod_lt _ (by rw [Bs_eq]; omega)
      · exact ih _ (by rw [Bs_eq]; omega) x hx

theorem limbs_eq_nil {v : Nat} : limbs v = [] ↔ v = 0 := by
  constructor
  · intro h; rcases Nat.eq_zero_or_pos v with h0 | h0
    · exact h0
    · rw [limbs_pos (by omega)] at h; cases h
  · rintro rfl; exact limbs_zero

/-- the last limb is not 0 -/
theorem limbs_last (v : Nat) : ∀ h : limbs v ≠ [], (limbs v).getLast h ≠ 0 := by
  induction v using Nat.strongRecOn with
  | ind v ih =>
    intro h
    have hv : v ≠ 0 := fun e => h (limbs_eq_nil.2 e)
    have key : ∀ (l : List Nat) (hl : l ≠ []), l = v % Bs :: limbs (v / Bs) → l.getLast hl ≠ 0 := by
      intro l hl e
      subst e
      by_cases h2 : v / Bs = 0
      · have h3 : limbs (v / Bs) = [] := limbs_eq_nil.2 h2
        simp only [h3, List.getLast_singleton]
        rw [Bs_eq] at *
        omega
      · have h3 : limbs (v / Bs) ≠ [] := fun e => h2 (limbs_eq_nil.1 e)
        rw [List.getLast_cons h3]
        exact ih _ (by rw [Bs_eq]; omega) h3
    exact key _ h (limbs_pos hv)

theorem V_append (xs ys : List Nat) : V (xs ++ ys) = V xs + Bs ^ xs.length * V ys := by
  induction xs with
  | nil => simp [V]
  | cons x xs ih => rw [List.cons_append, V_cons, V_cons, ih, List.length_cons, Nat.pow_succ, Nat.mul_add, Nat.mul_comm (Bs ^ xs.length) Bs, Nat.mul_assoc]; omega

theorem V_lt {xs : List Nat} (h : Lim xs) : V xs < Bs ^ xs.length := by
  induction xs with
  | nil => simp [V]
  | cons x xs ih =>
    have h1 := h x (by simp)
    have h2 := ih fun y hy => h y (by simp [hy])
    rw [V_cons, List.length_cons, Nat.pow_succ, Nat.mul_comm _ Bs]
    have h3 : Bs * (V xs + 1) ≤ Bs * Bs ^ xs.length := Nat.mul_le_mul_left _ h2
    rw [Nat.mul_add] at h3
    omega

theorem V_take_succ {xs : List Nat} {k : Nat} (hk : k < xs.length) : V (xs.take (k + 1)) = V (xs.take k) + Bs ^ k * xs[k] := by
  rw [List.take_succ_eq_append_getElem hk, V_append, List.length_take, Nat.min_eq_left (by omega)]
  simp [V]

theorem Lim.take {xs : List Nat} (h : Lim xs) (k : Nat) : Lim (xs.take k) := fun x hx => h x (List.mem_of_mem_take hx)
theorem Lim.drop {xs : List Nat} (h : Lim xs) (k : Nat) : Lim (xs.drop k) := fun x hx => h x (List.mem_of_mem_drop hx)
theorem limbs_len_le {v n : Nat} : (limbs v).length ≤ n ↔ v < Bs ^ n := by
  constructor
  · intro h
    have h1 := V_lt (Lim_limbs v)
    rw [V_limbs] at h1
    exact Nat.lt_of_lt_of_le h1 (Nat.pow_le_pow_right (by rw [Bs_eq]; omega) h)
  · intro h
    rcases Nat.lt_or_ge n (limbs v).length with hlt | hge
    · exfalso
      have hne : limbs v ≠ [] := fun e => by rw [e] at hlt; simp at hlt
      have hl := limbs_last v hne
      have h2 : v = V ((limbs v).take ((limbs v).length - 1)) + Bs ^ ((limbs v).length - 1) * (limbs v).getLast hne := by
        have h3 := V_take_succ (xs := limbs v) (k := (limbs v).length - 1) (by omega)
        rw [List.getLast_eq_getElem, ← h3, Nat.sub_add_cancel (by omega), List.take_length, V_limbs]
      have h4 : Bs ^ n ≤ Bs ^ ((limbs v).length - 1) := Nat.pow_le_pow_right (by rw [Bs_eq]; omega) (by omega)
      have h5 : Bs ^ ((limbs v).length - 1) * 1 ≤ Bs ^ ((limbs v).length - 1) * (limbs v).getLast hne := Nat.mul_le_mul_left _ (by omega)
      omega
    · exact hge

theorem Lim.set {ys : List Nat} (h : Lim ys) {k x : Nat} (hx : x < Bs) : Lim (ys.set k x) := fun y hy => by
  rcases List.mem_or_eq_of_mem_set hy with h1 | h1
  · exact h y h1
  · rw [h1]; exact hx

end Go.Proofs.Ytnecnbonnidijaa
/- What a whole number is: plain mathematics. -/
namespace Go.Proofs.Ytnecnbonnidijaa

/-- limbs as integers -/
def li (xs : List Nat) : List Int := xs.map fun (n : Nat) => (n : Int)
/-- a sign and limbs that are a whole number -/
def okW (s : Int) (xs : List Int) : Prop :=
  -1 ≤ s ∧ s ≤ 1 ∧ (s = 0 ↔ xs = []) ∧ xs.length ≤ 100 ∧ (∀ x ∈ xs, 0 ≤ x ∧ x ≤ 16777215) ∧ (∀ h : xs ≠ [], xs.getLast h ≠ 0)

open Classical in
noncomputable def isW (s : Int) (xs : List Int) : Bool := decide (okW s xs)
/-- the whole number with a value -/
def isZ (z : Int) (s : Int) (xs : List Int) : Prop := s = z.sign ∧ xs = li (limbs z.natAbs) ∧ (limbs z.natAbs).length ≤ 100

theorem sign_mul_abs (s : Int) (v : Nat) (h1 : -1 ≤ s) (h2 : s ≤ 1) (h3 : s = 0 ↔ v = 0) : (s * v).sign = s ∧ (s * v).natAbs = v := by
  have hs : s = -1 ∨ s = 0 ∨ s = 1 := by omega
  rcases hs with rfl | rfl | rfl
  · have hv : v ≠ 0 := fun e => by have := h3.2 e; omega
    refine ⟨?_, by omega⟩
    exact Int.sign_eq_neg_one_of_neg (by omega)
  · have hv : v = 0 := h3.1 rfl
    subst hv; simp
  · have hv : v ≠ 0 := fun e => by have := h3.2 e; omega
    refine ⟨?_, by omega⟩
    exact Int.sign_eq_one_of_pos (by omega)

end Go.Proofs.Ytnecnbonnidijaa
/- Slices of int64 that read as lists, and rows of the call's own, or the first part of one. -/
namespace Go.Proofs.Ytnecnbonnidijaa
set_option maxRecDepth 100000
open Go.RowKit

/-- int64 values -/
def vi (xs : List Int) : List Value := xs.map (Value.int .i64)
/-- limbs as values -/
def vs (xs : List Nat) : List Value := vi (li xs)
/-- a row that the call made, or its first part: the cells of a block from lo on and before hi, none of them frozen -/
def Ow (w : World) (lo hi : Nat) (A : Option Addr) (xs : List Value) : Prop :=
  xs = [] ∨ ∃ g cs, A = some ⟨g, 0, none⟩ ∧ lo ≤ g ∧ g < hi ∧ w.heap[g]? = some (.cells cs 2 (0, 0)) ∧ cs.toList.take xs.length = xs

section
variable {w w' : World} {lo lo' hi hi' : Nat} {A : Option Addr} {xs : List Value}
theorem Ow.nil_ : Ow w lo hi A [] := .inl rfl
theorem Ow.lt (h : Ow w lo hi A xs) (hx : xs ≠ []) : ∃ g, A = some ⟨g, 0, none⟩ ∧ lo ≤ g ∧ g < hi ∧ g < w.heap.size := by
  rcases h with h | ⟨g, cs, h1, h2, h3, h4, _⟩
  · exact absurd h hx
  · exact ⟨g, h1, h2, h3, (Array.getElem?_eq_some_iff.1 h4).1⟩
theorem add_zero_off (g k : Nat) : (⟨g, 0, none⟩ : Addr).add k = ⟨g, k, none⟩ := by unfold Addr.add; split <;> simp_all
theorem Ow.rd (h : Ow w lo hi A xs) : Rd w hi A xs := fun k u hu => by
  rcases h with rfl | ⟨g, cs, rfl, _, h3, h4, h5⟩
  · simp at hu
  · refine ⟨_, rfl, h3, ?_⟩
    rw [add_zero_off, cell_of_row w g k cs 2 (0, 0) h4]
    have hk : k < xs.length := (List.getElem?_eq_some_iff.1 hu).1
    rw [← h5, List.getElem?_take, if_pos hk] at hu
    simpa using hu
theorem Ow.wide (h : Ow w lo hi A xs) (h1 : lo' ≤ lo) (h2 : hi ≤ hi') : Ow w lo' hi' A xs := by
  rcases h with h | ⟨g, cs, a, b, c, d⟩
  · exact .inl h
  · exact .inr ⟨g, cs, a, by omega, by omega, d⟩
theorem Ow.keep (h : Ow w lo hi A xs) (hk : ∀ g, lo ≤ g → g < hi → g < w.heap.size → w'.heap[g]? = w.heap[g]?) : Ow w' lo hi A xs := by
  rcases h with h | ⟨g, cs, a, b, c, d, e⟩
  · exact .inl h
  · exact .inr ⟨g, cs, a, b, c, (hk g b c (Array.getElem?_eq_some_iff.1 d).1).trans d, e⟩
theorem Ow.below {B : Nat} (h : Ow w lo hi A xs) (hb : Below B w w') (hB : hi ≤ B) : Ow w' lo hi A xs := h.keep fun g _ h2 _ => hb.block g (by omega)
theorem Ow.below' (h : Ow w lo hi A xs) (hb : Below w.heap.size w w') : Ow w' lo hi A xs := h.keep fun g _ _ h2 => hb.block g h2
theorem Ow.setCell (h : Ow w lo hi A xs) {p : Addr} (hp : p.block < lo ∨ hi ≤ p.block) (u : Value) : Ow (w.setCell p u) lo hi A xs := h.keep fun g _ _ _ => Below.heap_setCell _ _ _ _ (by omega)
theorem Ow.alloc (h : Ow w lo hi A xs) (o : Obj) : Ow (w.alloc o) lo hi A xs := h.keep fun _ _ _ h3 => Below.heap_alloc _ _ _ h3
theorem Ow.take (h : Ow w lo hi A xs) (k : Nat) : Ow w lo hi A (xs.take k) := by
  rcases h with rfl | ⟨g, cs, a, b, c, d, e⟩
  · exact .inl (by simp)
  · refine .inr ⟨g, cs, a, b, c, d, ?_⟩
    rw [List.length_take, ← List.take_take, e]
theorem Ow.own {n c : Nat} (h : w.ownsRow lo 2 1 (.slice A n c) n xs) : Ow w lo w.heap.size A xs := by
  rcases h.2 with ⟨_, h1⟩ | ⟨g, cap, cs, hv, h1, h2, _, _, _, h3⟩
  · exact .inl (List.eq_nil_of_length_eq_zero (by have := h.1; omega))
  · injection hv with hA
    subst hA
    refine .inr ⟨g, cs, rfl, h1, (Array.getElem?_eq_some_iff.1 h2).1, h2, ?_⟩
    have : xs.length = n * 1 := h.1
    rw [this]; exact h3
/-- a store into it -/
theorem Ow.stored (h : Ow w lo hi A xs) {k : Nat} (hk : k < xs.length) (u : Value) : ∃ g, A = some ⟨g, 0, none⟩ ∧ lo ≤ g ∧ g < hi ∧ w.cell? ⟨g, k, none⟩ = some xs[k] ∧ w.frozen? ⟨g, k, none⟩ = false ∧
    Ow (w.setCell ⟨g, k, none⟩ u) lo hi A (xs.set k u) ∧ w.grownBy (w.setCell ⟨g, k, none⟩ u) (some g) := by
  rcases h with rfl | ⟨g, cs, rfl, h2, h3, h4, h5⟩
  · simp at hk
  · have hc := cell_of_row w g k cs 2 (0, 0) h4
    refine ⟨g, rfl, h2, h3, ?_, by simp [World.frozen?, h4], .inr ⟨g, cs.setIfInBounds k u, rfl, h2, h3, ?_, ?_⟩, rfl, rfl, rfl, by simp [World.setCell], fun b hb hne => Below.heap_setCell _ _ _ _ (fun e => hne (by rw [e]))⟩
    · rw [hc]
      have h6 : xs[k]? = some xs[k] := List.getElem?_eq_getElem hk
      rw [← h6]
      conv => rhs; rw [← h5]
      rw [List.getElem?_take, if_pos hk]
      simp
    · simp [World.setCell, Array.getElem?_modify, h4]
    · rw [List.length_set, Array.toList_setIfInBounds, List.take_set, h5]
end

end Go.Proofs.Ytnecnbonnidijaa
/- Boxes of whole numbers, rows and what came in, carried from world to world. -/
namespace Go.Proofs.Ytnecnbonnidijaa
set_option maxRecDepth 100000
open Go.RowKit

theorem belAlloc1 (w : World) (o : Obj) : Below w.heap.size w (w.alloc o) := (Below.refl _ _).alloc (Nat.le_refl _) _
/-- a box that holds a whole number -/
def Box (w : World) (b : Nat) (s : Int) (A : Option Addr) (n c : Nat) : Prop := (w.cell? ⟨b, 0, none⟩ = some (.int .i64 s) ∧ w.cell? ⟨b, 1, none⟩ = some (.slice A n c)) ∧ b < w.heap.size
theorem Box.next {w w' : World} {b n c : Nat} {s : Int} {A : Option Addr} (h : Box w b s A n c) (hb : Below w.heap.size w w') : Box w' b s A n c :=
  ⟨⟨(hb.cell (p := ⟨b, 0, none⟩) h.2).trans h.1.1, (hb.cell (p := ⟨b, 1, none⟩) h.2).trans h.1.2⟩, Nat.lt_of_lt_of_le h.2 hb.size⟩
theorem Box.new (w : World) (s : Int) (A : Option Addr) (n c : Nat) (t : TypeId) : Box (w.alloc (.cells #[.int .i64 s, .slice A n c] t)) w.heap.size s A n c := ⟨⟨by simp, by simp⟩, by simp⟩
/-- rows of the call's own, and what came in, in a later world -/
def Ot (w : World) (lo hi : Nat) (A : Option Addr) (xs : List Value) : Prop := Ow w lo hi A xs ∧ hi ≤ w.heap.size
def Rt (w : World) (B : Nat) (A : Option Addr) (xs : List Value) : Prop := Rd w B A xs ∧ B ≤ w.heap.size
theorem Ot.next {w w' : World} {lo hi : Nat} {A : Option Addr} {xs : List Value} (h : Ot w lo hi A xs) (hb : Below w.heap.size w w') : Ot w' lo hi A xs := ⟨h.1.below' hb, Nat.le_trans h.2 hb.size⟩
theorem Rt.next {w w' : World} {B : Nat} {A : Option Addr} {xs : List Value} (h : Rt w B A xs) (hb : Below w.heap.size w w') : Rt w' B A xs := ⟨h.1.below (hb.mono h.2), Nat.le_trans h.2 hb.size⟩
theorem Ot.rt {w : World} {lo hi : Nat} {A : Option Addr} {xs : List Value} (h : Ot w lo hi A xs) : Rt w hi A xs := ⟨h.1.rd, h.2⟩
theorem Rt.all {w : World} {B : Nat} {A : Option Addr} {xs : List Value} (h : Rt w B A xs) : Rd w w.heap.size A xs := h.1.up h.2
theorem Ot.new {w : World} {lo : Nat} {A : Option Addr} {xs : List Value} (h : Ow w lo w.heap.size A xs) : Ot w lo w.heap.size A xs := ⟨h, Nat.le_refl _⟩
theorem belNext {W w w' : World} (h : Below W.heap.size W w) (hb : Below w.heap.size w w') : Below W.heap.size W w' := h.trans (hb.mono h.size)
end Go.Proofs.Ytnecnbonnidijaa
/- The walks of the laws' functions over slices of int64: a copy, equality, marks. -/
namespace Go.Proofs.Ytnecnbonnidijaa
set_option maxRecDepth 100000
open Go.RowKit
set_option linter.unusedSimpArgs false
set_option linter.unusedVariables false

/-- the marks that are laid from k on -/
def marks (k : Int) (n : Nat) : List Int := (List.range n).map fun (i : Nat) => k + i
end Go.Proofs.Ytnecnbonnidijaa
/- The walks of IsWhole, of the program and of the model. -/
namespace Go.Proofs.Ytnecnbonnidijaa
set_option maxRecDepth 100000
open Go.RowKit
set_option linter.unusedSimpArgs false
set_option linter.unusedVariables false

end Go.Proofs.Ytnecnbonnidijaa
/- The walks of the laws' functions over whole numbers: sizes, copies, equality, marks. -/
namespace Go.Proofs.Ytnecnbonnidijaa
set_option maxRecDepth 100000
open Go.RowKit
set_option linter.unusedSimpArgs false
set_option linter.unusedVariables false

end Go.Proofs.Ytnecnbonnidijaa
/- The walk of the model's IsWhole. -/
namespace Go.Proofs.Ytnecnbonnidijaa
set_option maxRecDepth 100000
open Go.RowKit
set_option linter.unusedSimpArgs false
set_option linter.unusedVariables false

end Go.Proofs.Ytnecnbonnidijaa
/- From a law's walk to its statement: what a slice of floats that came in reads as, and that what came in reads behind the call as before it. -/
namespace Go.Proofs.Ytnecnbonnidijaa
set_option maxRecDepth 100000
open Go.ChangeShapes Go.WideShapes Go.ChangeAt Go.RowKit Go.Deep

theorem laidOut' : laidOutB Try.prog = true := by kernel_rfl

section
variable {H : Type} {enc : TypeId × Value → H}

/-- the same where the world is known below its old end alone -/
theorem carryB {t : TypeId} (hr : Try.prog.readableRec t = true) (hrow : t < Try.prog.types.size) {W W' : World} (hb : Below W.heap.size W W') {v : Value} {d : DataW H} {p : List MemPlace} {sp : Nat → Bool}
    (h : DataW.Trod enc Try.prog W 0 (fun _ => true) true t v d p) (hlt : ∀ x ∈ p, x.block < W.heap.size) (hsp : ∀ x ∈ p, sp x.block = true) : DataW.Trod enc Try.prog W' 0 sp true t v d p := by
  obtain ⟨n, hn⟩ := h
  exact ⟨n, DataW.trod_stays (kids_book laidOut' hr) (book_sized hr) (fun h => by cases h) ⟨hrow, book_self t⟩ hn (fun x hx => hb.same (hlt x hx)) hsp⟩

set_option maxRecDepth 100000 in
/-- a law's end: it has said true, what came in is carried over, all old blocks are as they were -/
theorem law_end {f : Func} {s : ChangeSpec} {apart fresh handsOn again : Bool} {W W' : World} {args : Array Value} {v : Value} {ds : List (DataW H)} {q pa : List MemPlace}
    (hW : DataW.Whole enc Try.prog f.params.toList s.vars apart W args.toList ds [] q) (hpa : q = pa) (hvs : s.vars = [])
    (hres : ∀ (b : Nat) (sp : Nat → Bool) (hd : Bool), DataW.TrodAll enc Try.prog W' b sp hd f.resultTypes.toList (v.resultList f.resultTypes.size) (s.fn H (ds ++ [])).results [])
    (hargs : ∀ sp : Nat → Bool, (∀ x ∈ q, sp x.block = true) → DataW.TrodAll enc Try.prog W' 0 sp true f.params.toList args.toList (s.fn H (ds ++ [])).args pa)
    (hvars : (s.fn H (ds ++ [])).vars = []) (hb : Below W.heap.size W W')
    (hok : ∀ (j : Nat) (t : TypeId) (r : Value), f.resultTypes[j]? = some t → (v.resultList f.resultTypes.size)[j]? = some r → Value.okWide Try.prog W' .any 0 t r) :
    s.post enc Try.prog f apart fresh handsOn again W args v W' := by
  subst hpa
  have old : ∀ x ∈ q, x.block < W.heap.size := hW.lt
  have nov : ∀ sp : Nat → Bool, DataW.TrodVars enc Try.prog W' sp s.vars (s.fn H (ds ++ [])).vars [] := fun sp => by rw [hvs, hvars]; rfl
  have ends : q ++ ([] : List MemPlace) = q := List.append_nil q
  refine ⟨ds, [], q, [], q, [], hW, hres _ _ _, hargs _ (fun x hx => by simpa using old x hx), nov _, ?_, ?_⟩
  · exact World.keptBut_mono (fun x hx => ⟨hx, .inr (by simpa using hx)⟩) (hb.frame (· ∈ q))
  · intro _
    have hz := hW
    obtain ⟨_, _, _, _, _, fz, nd⟩ := hz
    refine ⟨hok, (s.fn H (ds ++ [])).results ++ (s.fn H (ds ++ [])).args, (s.fn H (ds ++ [])).vars, q, ⟨q, [], ?_, nov _, ends.symm, ?_, nd⟩, fun x hx _ => ?_⟩
    · exact trodAll_append (hargs _ (fun _ _ => rfl)) (hres _ _ _)
    · intro b off hx
      exact (hb.frozen (p := ⟨b, off, none⟩) (old _ hx)).trans (fz b off hx)
    · simpa using hx

theorem trod_float {w : World} {base : Nat} {spare : Nat → Bool} {held : Bool} {t : TypeId} {k : FloatKind} {n : Nat} {v : Value} {y : DataW H × List MemPlace} (ht : Try.prog.underlying t = some (.float k))
    (h : DataW.trod enc Try.prog w base spare held n t [v] = some y) : ∃ b, v = .float k b ∧ (Lit.float k b).wf = true := by
  cases n with
  | zero => simp [DataW.trod] at h
  | succ n =>
    simp only [DataW.trod, ht] at h
    cases v <;> try (simp at h; done)
    rename_i k' b
    by_cases hw : (Lit.float k b).wf = true
    · by_cases hk : k' = k
      · subst hk; exact ⟨b, rfl, hw⟩
      · simp [hk] at h
    · exfalso
      by_cases hk : k' = k
      · subst hk; simp [hw] at h
      · simp [hk] at h

end
end Go.Proofs.Ytnecnbonnidijaa
/- What a whole number of the laws that came in is. -/
namespace Go.Proofs.Ytnecnbonnidijaa
set_option maxRecDepth 100000
open Go.ChangeShapes Go.WideShapes Go.ChangeAt Go.RowKit Go.Deep

section
variable {H : Type} {enc : TypeId × Value → H}

end
end Go.Proofs.Ytnecnbonnidijaa
/- The length of a whole number, of the program and of the model. -/
namespace Go.Proofs.Ytnecnbonnidijaa
set_option maxRecDepth 100000
open Go.RowKit
set_option linter.unusedSimpArgs false
set_option linter.unusedVariables false

/-- the number of bits -/
def blen (v : Nat) : Nat := if v = 0 then 0 else Nat.log2 v + 1
theorem blen_zero : blen 0 = 0 := rfl
theorem blen_bounds {v : Nat} (h : v ≠ 0) : 1 ≤ blen v ∧ 2 ^ (blen v - 1) ≤ v ∧ v < 2 ^ blen v := by
  unfold blen
  rw [if_neg h]
  exact ⟨by omega, by simpa using Nat.log2_self_le h, Nat.lt_log2_self⟩
theorem blen_eq {v k : Nat} (h1 : 2 ^ k ≤ v) (h2 : v < 2 ^ (k + 1)) : blen v = k + 1 := by
  have hv : v ≠ 0 := by have := Nat.two_pow_pos k; omega
  unfold blen
  rw [if_neg hv, (Nat.log2_eq_iff hv).2 ⟨h1, h2⟩]
theorem blen_lt {v k : Nat} : blen v ≤ k ↔ v < 2 ^ k := by
  by_cases hv : v = 0
  · subst hv; simp [blen_zero, Nat.two_pow_pos]
  · unfold blen
    rw [if_neg hv, Nat.succ_le_iff, Nat.log2_lt hv]

theorem Bs_pow (n : Nat) : Bs ^ n = 2 ^ (24 * n) := by rw [Nat.pow_mul]; rfl

/-! the functions of the chapter -/
def nats (xs : List Int) : List Nat := xs.map Int.toNat
/-- the value of limbs of which it is not known whether they are a number -/
noncomputable def magW (s : Int) (xs : List Int) : Nat := V (nats xs)
noncomputable def errW (s : Int) (xs : List Int) : Int := if isW s xs = true then 0 else 1
noncomputable def lenR (s : Int) (xs : List Int) : Int := if isW s xs = true then (blen (magW s xs) : Int) else 0
end Go.Proofs.Ytnecnbonnidijaa
/- Limbs without zeros at the end, and whole numbers made of them, of the program and of the model. -/
namespace Go.Proofs.Ytnecnbonnidijaa
set_option maxRecDepth 100000
open Go.RowKit
set_option linter.unusedSimpArgs false
set_option linter.unusedVariables false

theorem Rd.take {w : World} {hi : Nat} {A : Option Addr} {xs : List Value} (h : Rd w hi A xs) (k : Nat) : Rd w hi A (xs.take k) := fun i u hu => h i u (by
  rw [List.getElem?_take] at hu
  split at hu
  · exact hu
  · cases hu)
/-- the sign of a number with an absolute value -/
def sg (s : Int) (v : Nat) : Int := if v = 0 then 0 else s
/-- a value that is the whole number with a sign and an absolute value, its limbs a row of the call's own -/
def Wr (w : World) (lo hi : Nat) (s : Int) (v : Nat) (val : Value) : Prop := ∃ A c, val = .agg #[.int .i64 (sg s v), .slice A (limbs v).length c] ∧ Ow w lo hi A (vs (limbs v)) ∧ (limbs v).length ≤ c

/-- a value that is the whole number z, its limbs a row of the call's own -/
def Wz (w : World) (lo hi : Nat) (z : Int) (val : Value) : Prop := ∃ A c, val = .agg #[.int .i64 z.sign, .slice A (limbs z.natAbs).length c] ∧ Ow w lo hi A (vs (limbs z.natAbs)) ∧ (limbs z.natAbs).length ≤ c
theorem Wr.z {w : World} {lo hi : Nat} {s : Int} {v : Nat} {val : Value} (h : Wr w lo hi s v val) (hs : s = 1 ∨ s = -1 ∨ v = 0) : Wz w lo hi (s * v) val := by
  obtain ⟨A, c, h1, h2, h3⟩ := h
  have e : (s * v).natAbs = v ∧ (s * v).sign = sg s v := by
    unfold sg
    by_cases h0 : v = 0
    · subst h0; simp
    · rw [if_neg h0]
      have := sign_mul_abs s v (by omega) (by omega) (by omega)
      exact ⟨this.2, this.1⟩
  exact ⟨A, c, by rw [h1, e.1, e.2], by rw [e.1]; exact h2, by rw [e.1]; exact h3⟩
theorem Wz.keep {w w' : World} {lo hi : Nat} {z : Int} {val : Value} (h : Wz w lo hi z val) (hb : Below w.heap.size w w') : Wz w' lo hi z val := by
  obtain ⟨A, c, h1, h2, h3⟩ := h
  exact ⟨A, c, h1, h2.below' hb, h3⟩
theorem Wz.wide {w : World} {lo lo' hi hi' : Nat} {z : Int} {val : Value} (h : Wz w lo hi z val) (h1 : lo' ≤ lo) (h2 : hi ≤ hi') : Wz w lo' hi' z val := by
  obtain ⟨A, c, e, o, h3⟩ := h
  exact ⟨A, c, e, o.wide h1 h2, h3⟩

end Go.Proofs.Ytnecnbonnidijaa
/- Plain facts on the low 24 bits of integers of 64 bits. -/
namespace Go.Proofs.Ytnecnbonnidijaa
set_option maxRecDepth 100000
open Go.RowKit

end Go.Proofs.Ytnecnbonnidijaa
/- Results of the chapter's functions in the laws' boxes. -/
namespace Go.Proofs.Ytnecnbonnidijaa
set_option maxRecDepth 100000
open Go.RowKit

/-- a whole number is laid into a box -/
def st (w : World) (b : Nat) (s : Int) (A : Option Addr) (n c : Nat) : World := (w.setCell ⟨b, 0, none⟩ (.int .i64 s)).setCell ⟨b, 1, none⟩ (.slice A n c)
section
variable {w : World} {b : Nat} {s : Int} {A : Option Addr} {n c : Nat}
theorem st_size : (st w b s A n c).heap.size = w.heap.size := by unfold st; simp
theorem st_heap {g : Nat} (h : g ≠ b) : (st w b s A n c).heap[g]? = w.heap[g]? := by
  unfold st
  rw [Below.heap_setCell _ _ _ _ (by exact h), Below.heap_setCell _ _ _ _ (by exact h)]
theorem Box.st_ {b' : Nat} {s' : Int} {A' : Option Addr} {n' c' : Nat} (h : Box w b' s' A' n' c') (hne : b' ≠ b) : Box (st w b s A n c) b' s' A' n' c' :=
  ⟨⟨(World.cell?_of_block (a := ⟨b', 0, none⟩) (st_heap hne)).trans h.1.1, (World.cell?_of_block (a := ⟨b', 1, none⟩) (st_heap hne)).trans h.1.2⟩, by rw [st_size]; exact h.2⟩
theorem Ot.st_ {lo hi : Nat} {A' : Option Addr} {xs : List Value} (h : Ot w lo hi A' xs) (hne : b < lo ∨ hi ≤ b) : Ot (st w b s A n c) lo hi A' xs :=
  ⟨h.1.keep (fun g h1 h2 _ => st_heap (by omega)), by rw [st_size]; exact h.2⟩
theorem Rt.st_ {B : Nat} {A' : Option Addr} {xs : List Value} (h : Rt w B A' xs) (hB : B ≤ b) : Rt (st w b s A n c) B A' xs :=
  ⟨h.1.carry (fun p hp => World.cell?_of_block (st_heap (by omega))), by rw [st_size]; exact h.2⟩
theorem belSt {W : World} (h : Below W.heap.size W w) (hb : W.heap.size ≤ b) : Below W.heap.size W (st w b s A n c) := (h.setCell hb _).setCell hb _
theorem Box.made (h : w.cell? ⟨b, 0, none⟩ = some (.int .i64 0) ∧ w.cell? ⟨b, 1, none⟩ = some (.slice none 0 0)) (hb : b < w.heap.size) : Box (st w b s A n c) b s A n c := by
  obtain ⟨h0, h1⟩ := h
  refine ⟨⟨?_, ?_⟩, by rw [st_size]; exact hb⟩ <;> · unfold st; go_simp
end
end Go.Proofs.Ytnecnbonnidijaa
/- Twos: how many of the last bits of a number are 0; numbers times powers of two: plain mathematics. -/
namespace Go.Proofs.Ytnecnbonnidijaa

/-- how many of the last bits are 0; of 0 it is 0 -/
def tz (v : Nat) : Nat := if _h : v = 0 ∨ v % 2 = 1 then 0 else tz (v / 2) + 1
termination_by v
decreasing_by omega

theorem tz_zero : tz 0 = 0 := by rw [tz]; simp
theorem tz_odd {v : Nat} (h : v % 2 = 1) : tz v = 0 := by rw [tz]; simp [h]
theorem tz_even {v : Nat} (h0 : v ≠ 0) (h : v % 2 = 0) : tz v = tz (v / 2) + 1 := by
  rw [tz, dif_neg (by omega)]

/-- the odd part -/
def od (v : Nat) : Nat := v / 2 ^ tz v
theorem od_zero : od 0 = 0 := by unfold od; simp
theorem tz_spec {v : Nat} (h : v ≠ 0) : v = 2 ^ tz v * od v ∧ od v % 2 = 1 := by
  unfold od
  induction v using Nat.strongRecOn with
  | ind v ih =>
    by_cases h1 : v % 2 = 1
    · rw [tz_odd h1]; simp [h1]
    · have h2 : v % 2 = 0 := by omega
      rw [tz_even h h2]
      obtain ⟨g1, g2⟩ := ih (v / 2) (by omega) (by omega)
      have e : v / 2 ^ (tz (v / 2) + 1) = v / 2 / 2 ^ tz (v / 2) := by rw [Nat.pow_succ, Nat.mul_comm, Nat.div_div_eq_div_mul]
      rw [e]
      refine ⟨?_, g2⟩
      have h3 : v = 2 * (v / 2) := by omega
      have h4 : 2 ^ (tz (v / 2) + 1) * (v / 2 / 2 ^ tz (v / 2)) = 2 * (2 ^ tz (v / 2) * (v / 2 / 2 ^ tz (v / 2))) := by
        rw [Nat.pow_succ, Nat.mul_comm (2 ^ tz (v / 2)) 2, Nat.mul_assoc]
      rw [h4, ← g1]
      exact h3
theorem od_pos {v : Nat} (h : v ≠ 0) : od v ≠ 0 := fun e => by have := (tz_spec h).2; rw [e] at this; simp at this

theorem tz_mul {v : Nat} (h : v ≠ 0) (k : Nat) : tz (2 ^ k * v) = k + tz v := by
  induction k with
  | zero => simp
  | succ k ih =>
    have e : 2 ^ (k + 1) * v = 2 * (2 ^ k * v) := by rw [Nat.pow_succ, Nat.mul_comm (2 ^ k) 2, Nat.mul_assoc]
    have h2 : 2 ^ k * v ≠ 0 := Nat.mul_ne_zero (by have := Nat.two_pow_pos k; omega) h
    rw [e, tz_even (by omega) (by omega), Nat.mul_div_cancel_left _ (by omega), ih]
    omega
/-- the bits before it are 0, it is 1 -/
theorem bit_below {v k : Nat} (h : k < tz v) : v / 2 ^ k % 2 = 0 := by
  have hv : v ≠ 0 := fun e => by rw [e, tz_zero] at h; omega
  have h1 := (tz_spec hv).1
  have e : tz v = k + ((tz v - k - 1) + 1) := by omega
  rw [h1]
  rw [e, Nat.pow_add, Nat.mul_assoc, Nat.mul_div_cancel_left _ (Nat.two_pow_pos k), Nat.pow_succ, Nat.mul_comm (2 ^ _) 2, Nat.mul_assoc]
  omega
theorem tz_of_bit {v k : Nat} (h : k ≤ tz v) (hb : v / 2 ^ k % 2 ≠ 0) : tz v = k := by
  rcases Nat.lt_or_ge k (tz v) with h1 | h1
  · exact absurd (bit_below h1) hb
  · omega
theorem tz_dvd {v k : Nat} (hv : v ≠ 0) : k ≤ tz v ↔ v % 2 ^ k = 0 := by
  constructor
  · intro h
    rw [(tz_spec hv).1]
    have e : tz v = k + (tz v - k) := by omega
    rw [e, Nat.pow_add, Nat.mul_assoc]
    exact Nat.mul_mod_right _ _
  · intro h
    have h1 : v = 2 ^ k * (v / 2 ^ k) := by have := Nat.div_add_mod v (2 ^ k); omega
    have h2 : v / 2 ^ k ≠ 0 := fun e => by rw [e] at h1; omega
    rw [h1, tz_mul h2]
    omega
/-- no more twos than bits -/
theorem tz_le {v n : Nat} (hn : (limbs v).length = n) : tz v ≤ 24 * n := by
  by_cases h : v = 0
  · subst h; rw [tz_zero]; omega
  · have h1 := limbs_len_le.1 (show (limbs v).length ≤ n by omega)
    have hB : Bs ^ n = 2 ^ (24 * n) := by rw [Nat.pow_mul]; rfl
    rw [hB] at h1
    rcases Nat.lt_or_ge (24 * n) (tz v) with h2 | h2
    · exfalso
      have h3 := (tz_spec h).1
      have h4 : 2 ^ (24 * n) ≤ 2 ^ tz v := Nat.pow_le_pow_right (by omega) (by omega)
      have h5 : 2 ^ tz v * 1 ≤ 2 ^ tz v * od v := Nat.mul_le_mul_left _ (by have := od_pos h; omega)
      omega
    · exact h2

/-! numbers times powers of two -/
/-- the number without its last twos, and the exponent that it has then -/
def nz (z : Int) : Int := z.sign * od z.natAbs
def nx (z e : Int) : Int := if z = 0 then 0 else e + tz z.natAbs

theorem nz_zero : nz 0 = 0 := by unfold nz; simp
theorem nx_zero (e : Int) : nx 0 e = 0 := if_pos rfl
theorem nx_ne {z e : Int} (h : z ≠ 0) : nx z e = e + tz z.natAbs := if_neg h
theorem nz_facts (z : Int) : (nz z).sign = z.sign ∧ (nz z).natAbs = od z.natAbs := by
  unfold nz
  rcases Int.lt_trichotomy z 0 with h | h | h
  · have h1 := od_pos (v := z.natAbs) (by omega)
    rw [Int.sign_eq_neg_one_of_neg h]
    exact ⟨Int.sign_eq_neg_one_of_neg (by omega), by omega⟩
  · subst h; simp [od_zero]
  · have h1 := od_pos (v := z.natAbs) (by omega)
    rw [Int.sign_eq_one_of_pos h]
    exact ⟨Int.sign_eq_one_of_pos (by omega), by omega⟩
theorem nz_eq_zero {z : Int} : nz z = 0 ↔ z = 0 := by
  constructor
  · intro h
    have := (nz_facts z).1
    rw [h] at this
    simp at this
    exact Int.sign_eq_zero_iff_zero.1 this.symm
  · rintro rfl; exact nz_zero
theorem sign_pow_mul (k : Nat) (z : Int) : ((2 : Int) ^ k * z).sign = z.sign := by
  have h : (0 : Int) < 2 ^ k := Int.pow_pos (by omega)
  rw [Int.sign_mul, Int.sign_eq_one_of_pos h, Int.one_mul]
theorem abs_pow_mul (k : Nat) (z : Int) : ((2 : Int) ^ k * z).natAbs = 2 ^ k * z.natAbs := by
  rw [Int.natAbs_mul, Int.natAbs_pow]; rfl
theorem pow_mul_ne {k : Nat} {z : Int} (h : z ≠ 0) : (2 : Int) ^ k * z ≠ 0 := Int.mul_ne_zero (by have : (0 : Int) < 2 ^ k := Int.pow_pos (by omega); omega) h
/-- an exact number: its value is z times two to the e -/
def okD (z e : Int) : Prop := (limbs z.natAbs).length ≤ 100 ∧ -3000 ≤ e ∧ e ≤ 3000 ∧ (z = 0 → e = 0) ∧ (z ≠ 0 → z.natAbs % 2 = 1)
/-- both sides of a sum at the lesser exponent -/
def sumZ (z e z' e' : Int) : Int := (2 : Int) ^ (e - min e e').toNat * z + (2 : Int) ^ (e' - min e e').toNat * z'
/-- the number that is not greater, shifted -/
def shZ (z s : Int) : Int := if 0 ≤ s then (2 : Int) ^ s.toNat * z else z / (2 : Int) ^ (-s).toNat
theorem pow_cast (k : Nat) : (2 : Int) ^ k = ((2 ^ k : Nat) : Int) := by rw [Int.natCast_pow]; rfl
end Go.Proofs.Ytnecnbonnidijaa
