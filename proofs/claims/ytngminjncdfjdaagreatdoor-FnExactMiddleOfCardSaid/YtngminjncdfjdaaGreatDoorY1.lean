/- Texts of this seat, joined: Sl Nz Ok Ri Bx Wl Iw Wm Ix Lw Lx Ln Tm Bm By Tz -/
import Derived.WalkKit
import Derived.Below
import Derived.Laws.OwnMore
import Derived.Deep.AppendLies
import Derived.Deep.Draws
import Derived.Deep.OwnRows
import Derived.OwnWalk
import Derived.Lib.Hide
import Derived.Deep.QuietTactic
import Derived.BigQuiet
import Derived.Deep.RegionHeld3
import Derived.Test.YtngminjncdfjdaaGreatDoorProg
import Derived.Test.YtngminjncdfjdaaGreatDoorRows
import Derived.Deep.Slices
import Derived.ChangeBook
import Derived.ChangeStays
import Derived.Deep.Frames
import Derived.ProofKit
import Derived.OpenShut
import Derived.WalkLawsBesides
import Derived.Lib.SmallJoins
import Derived.Lib.BitFns
import Derived.Lib.ItoaNum
import Derived.Lib.Strings
import Derived.Lib.Slices
import Derived.Lib.Small
import Derived.Lib.Walk
import Derived.Maps.AppendAt
import Derived.RegionTactic
import Derived.Laws.BitsAllLaws
/- Slices: what a slice reads as (a list of one-cell values), over whatever the world gains. -/
namespace Go.Proofs.YtngminjncdfjdaaGreatDoor
set_option maxRecDepth 100000
open Go.RowKit

/-- The slice with address A reads as the list xs; its block lies below B. -/
def Rd (w : World) (B : Nat) (A : Option Addr) (xs : List Value) : Prop :=
  ∀ k u, xs[k]? = some u → ∃ a : Addr, A = some a ∧ a.block < B ∧ w.cell? (a.add k) = some u

section
variable {w w' : World} {B B' : Nat} {A : Option Addr} {a : Addr} {xs : List Value}
theorem addr_block (a : Addr) (k : Nat) : (a.add k).block = a.block := by unfold Addr.add; split <;> rfl
theorem Rd.nil_ : Rd w B A [] := fun k u h => by simp at h
theorem Rd.carry (h : Rd w B A xs) (hc : ∀ p : Addr, p.block < B → w'.cell? p = w.cell? p) : Rd w' B A xs := fun k u hu => by
  obtain ⟨a, h1, h2, h3⟩ := h k u hu
  exact ⟨a, h1, h2, (hc _ (by rw [addr_block]; exact h2)).trans h3⟩
theorem Rd.below (h : Rd w B A xs) (hb : Below B w w') : Rd w' B A xs := h.carry fun _ hp => hb.cell hp
theorem Rd.up (h : Rd w B A xs) (hB : B ≤ B') : Rd w B' A xs := fun k u hu => by
  obtain ⟨a, h1, h2, h3⟩ := h k u hu
  exact ⟨a, h1, by omega, h3⟩
theorem Rd.drewN (h : Rd w B A xs) (n : Nat) : Rd (w.drewN n) B A xs := h
theorem Rd.cell (h : Rd w B (some a) xs) {k : Nat} (hk : k < xs.length) : w.cell? (a.add k) = some xs[k] := by
  obtain ⟨a', h1, _, h3⟩ := h k _ (List.getElem?_eq_getElem hk)
  cases h1; exact h3
theorem Rd.some_ (h : Rd w B A xs) (hk : 0 < xs.length) : ∃ a, A = some a ∧ a.block < B := by
  obtain ⟨a, h1, h2, _⟩ := h 0 _ (List.getElem?_eq_getElem hk)
  exact ⟨a, h1, h2⟩
/-- a row of the call's own reads as its list -/
theorem Rd.own {base n c : Nat} {e : TypeId} (h : w.ownsRow base e 1 (.slice A n c) n xs) : Rd w w.heap.size A xs := fun k u hu => by
  have hl : xs.length = n := by have := h.1; omega
  have hk : k < xs.length := (List.getElem?_eq_some_iff.1 hu).1
  obtain ⟨g, cap, hv, _, hlt⟩ := h.form (by omega)
  have hA : A = some ⟨g, 0, none⟩ := by injection hv
  subst hA
  exact ⟨_, rfl, hlt, h.cells (g := g) rfl k u hu⟩
end

theorem store_float (P : Program) (w : World) (a : Addr) (m : Mode) (k : FloatKind) (b : Nat) : (store a (.float k b) m).run P w = stored P w a (.float k b) m := run_store P w a _ m rfl

end Go.Proofs.YtngminjncdfjdaaGreatDoor
/- Numbers in limbs of 24 bits: plain mathematics. -/
namespace Go.Proofs.YtngminjncdfjdaaGreatDoor

/-- the base of limbs -/
def Bs : Nat := 16777216
theorem Bs_eq : Bs = 16777216 := rfl

/-- the value of limbs, the least one first -/
def V : List Nat → Nat
  | [] => 0
  | x :: xs => x + Bs * V xs

def Lim (xs : List Nat) : Prop := ∀ x ∈ xs, x < Bs

/-- the limbs of a number, none for 0 -/
def limbs (v : Nat) : List Nat := if _h : v = 0 then [] else v % Bs :: limbs (v / Bs)
termination_by v
decreasing_by rw [Bs_eq]; omega

theorem limbs_zero : limbs 0 = [] := by rw [limbs]; simp
theorem limbs_pos {v : Nat} (h : v ≠ 0) : limbs v = v % Bs :: limbs (v / Bs) := by rw [limbs]; simp [h]

theorem V_nil : V [] = 0 := rfl
theorem V_cons (x : Nat) (xs : List Nat) : V (x :: xs) = x + Bs * V xs := rfl

theorem V_limbs (v : Nat) : V (limbs v) = v := by
  induction v using Nat.strongRecOn with
  | ind v ih =>
    by_cases h : v = 0
    · subst h; rw [limbs_zero]; rfl
    · rw [limbs_pos h, V_cons, ih _ (by rw [Bs_eq]; omega)]
      exact Nat.mod_add_div v Bs

theorem Lim_limbs (v : Nat) : Lim (limbs v) := by
  induction v using Nat.strongRecOn with
  | ind v ih =>
    by_cases h : v = 0
    · subst h; rw [limbs_zero]; intro x hx; cases hx
    · rw [limbs_pos h]
      intro x hx
      rcases List.mem_cons.1 hx with rfl | hx
      · exact Nat.mod_lt _ (by rw [Bs_eq]; omega)
      · exact ih _ (by rw [Bs_eq]; omega) x hx

theorem limbs_eq_nil {v : Nat} : limbs v = [] ↔ v = 0 := by
  constructor
  · intro h; rcases Nat.eq_zero_or_pos v with h0 | h0
    · exact h0
    · rw [limbs_pos (by omega)] at h; cases h
  · rintro rfl; exact limbs_zero

theorem limbs_len_zero {v : Nat} : (limbs v).length = 0 ↔ v = 0 := by rw [List.length_eq_zero_iff, limbs_eq_nil]

/-- the last limb is not 0 -/
theorem limbs_last (v : Nat) : ∀ h : limbs v ≠ [], (limbs v).getLast h ≠ 0 := by
  induction v using Nat.strongRecOn with
  | ind v ih =>
    intro h
    have hv : v ≠ 0 := fun e => h (limbs_eq_nil.2 e)
    have key : ∀ (l : List Nat) (hl : l ≠ []), l = v % Bs :: limbs (v / Bs) → l.getLast hl ≠ 0 := by
      intro l hl e
      subst e
      by_cases h2 : v / Bs = 0
      · have h3 : limbs (v / Bs) = [] := limbs_eq_nil.2 h2
        simp only [h3, List.getLast_singleton]
        rw [Bs_eq] at *
        omega
      · have h3 : limbs (v / Bs) ≠ [] := fun e => h2 (limbs_eq_nil.1 e)
        rw [List.getLast_cons h3]
        exact ih _ (by rw [Bs_eq]; omega) h3
    exact key _ h (limbs_pos hv)

theorem V_append (xs ys : List Nat) : V (xs ++ ys) = V xs + Bs ^ xs.length * V ys := by
  induction xs with
  | nil => simp [V]
  | cons x xs ih => rw [List.cons_append, V_cons, V_cons, ih, List.length_cons, Nat.pow_succ, Nat.mul_add, Nat.mul_comm (Bs ^ xs.length) Bs, Nat.mul_assoc]; omega

theorem V_lt {xs : List Nat} (h : Lim xs) : V xs < Bs ^ xs.length := by
  induction xs with
  | nil => simp [V]
  | cons x xs ih =>
    have h1 := h x (by simp)
    have h2 := ih fun y hy => h y (by simp [hy])
    rw [V_cons, List.length_cons, Nat.pow_succ, Nat.mul_comm _ Bs]
    have h3 : Bs * (V xs + 1) ≤ Bs * Bs ^ xs.length := Nat.mul_le_mul_left _ h2
    rw [Nat.mul_add] at h3
    omega

theorem V_take_succ {xs : List Nat} {k : Nat} (hk : k < xs.length) : V (xs.take (k + 1)) = V (xs.take k) + Bs ^ k * xs[k] := by
  rw [List.take_succ_eq_append_getElem hk, V_append, List.length_take, Nat.min_eq_left (by omega)]
  simp [V]

theorem V_take_drop (xs : List Nat) (k : Nat) (hk : k ≤ xs.length) : V xs = V (xs.take k) + Bs ^ k * V (xs.drop k) := by
  conv => lhs; rw [← List.take_append_drop k xs]
  rw [V_append, List.length_take, Nat.min_eq_left hk]

theorem V_drop {xs : List Nat} {k : Nat} (hk : k < xs.length) : V (xs.drop k) = xs[k] + Bs * V (xs.drop (k + 1)) := by
  rw [List.drop_eq_getElem_cons hk, V_cons]

theorem V_zeros {xs : List Nat} (h : ∀ x ∈ xs, x = 0) : V xs = 0 := by
  induction xs with
  | nil => rfl
  | cons x xs ih =>
    rw [V_cons, h x (by simp), ih fun y hy => h y (by simp [hy])]; simp

theorem V_replicate (n : Nat) : V (List.replicate n 0) = 0 := V_zeros fun _ hx => (List.mem_replicate.1 hx).2

theorem Lim.take {xs : List Nat} (h : Lim xs) (k : Nat) : Lim (xs.take k) := fun x hx => h x (List.mem_of_mem_take hx)
theorem Lim.drop {xs : List Nat} (h : Lim xs) (k : Nat) : Lim (xs.drop k) := fun x hx => h x (List.mem_of_mem_drop hx)
theorem Lim.append {xs ys : List Nat} (h : Lim xs) (h' : Lim ys) : Lim (xs ++ ys) := fun x hx => (List.mem_append.1 hx).elim (h x) (h' x)
theorem Lim.getElem {xs : List Nat} (h : Lim xs) {k : Nat} (hk : k < xs.length) : xs[k] < Bs := h _ (List.getElem_mem hk)
theorem Lim_one {x : Nat} (h : x < Bs) : Lim [x] := fun y hy => by simp at hy; omega
theorem Lim_nil : Lim [] := fun y hy => by cases hy

theorem Bs_pow_pos (n : Nat) : 0 < Bs ^ n := Nat.pow_pos (by rw [Bs_eq]; omega)

/-- limbs without zeros at the end are those of their value -/
theorem can_eq {xs : List Nat} (h : Lim xs) (hl : ∀ h : xs ≠ [], xs.getLast h ≠ 0) : limbs (V xs) = xs := by
  induction xs with
  | nil => simp [V, limbs_zero]
  | cons x xs ih =>
    have h1 := h x (by simp)
    have hx := ih (fun y hy => h y (by simp [hy])) (fun h2 => by have := hl (by simp); rwa [List.getLast_cons h2] at this)
    have hne : V (x :: xs) ≠ 0 := by
      intro e
      rw [V_cons] at e
      have hx0 : x = 0 := by omega
      have hv0 : V xs = 0 := by
        rcases Nat.mul_eq_zero.1 (show Bs * V xs = 0 by omega) with h3 | h3
        · rw [Bs_eq] at h3; omega
        · exact h3
      rw [hv0, limbs_zero] at hx
      subst hx hx0
      exact hl (by simp) (by simp)
    rw [limbs_pos hne, V_cons, Nat.add_mul_mod_self_left, Nat.mod_eq_of_lt h1, Nat.add_mul_div_left _ _ (by rw [Bs_eq]; omega), Nat.div_eq_of_lt h1, Nat.zero_add, hx]

/-- what is left where zeros at the end are taken off -/
theorem trim_eq {xs : List Nat} {k : Nat} (h : Lim xs) (hk : k ≤ xs.length) (hz : ∀ i (h : i < xs.length), k ≤ i → xs[i] = 0) (hl : k = 0 ∨ ∃ h : k - 1 < xs.length, xs[k - 1] ≠ 0) : limbs (V xs) = xs.take k := by
  have h0 : V (xs.drop k) = 0 := V_zeros fun x hx => by
    obtain ⟨i, hi, rfl⟩ := List.getElem_of_mem hx
    rw [List.getElem_drop]
    exact hz _ _ (by omega)
  have h1 : V xs = V (xs.take k) := by rw [V_take_drop xs k hk, h0]; simp
  rw [h1]
  refine can_eq (h.take k) fun hne => ?_
  rcases hl with rfl | ⟨h2, h3⟩
  · simp at hne
  · rw [List.getLast_eq_getElem]
    have hlen : (xs.take k).length = k := by rw [List.length_take]; omega
    rw [List.getElem_take]
    have e : (xs.take k).length - 1 = k - 1 := by omega
    simpa only [e] using h3

theorem limbs_len_le {v n : Nat} : (limbs v).length ≤ n ↔ v < Bs ^ n := by
  constructor
  · intro h
    have h1 := V_lt (Lim_limbs v)
    rw [V_limbs] at h1
    exact Nat.lt_of_lt_of_le h1 (Nat.pow_le_pow_right (by rw [Bs_eq]; omega) h)
  · intro h
    rcases Nat.lt_or_ge n (limbs v).length with hlt | hge
    · exfalso
      have hne : limbs v ≠ [] := fun e => by rw [e] at hlt; simp at hlt
      have hl := limbs_last v hne
      have h2 : v = V ((limbs v).take ((limbs v).length - 1)) + Bs ^ ((limbs v).length - 1) * (limbs v).getLast hne := by
        have h3 := V_take_succ (xs := limbs v) (k := (limbs v).length - 1) (by omega)
        rw [List.getLast_eq_getElem, ← h3, Nat.sub_add_cancel (by omega), List.take_length, V_limbs]
      have h4 : Bs ^ n ≤ Bs ^ ((limbs v).length - 1) := Nat.pow_le_pow_right (by rw [Bs_eq]; omega) (by omega)
      have h5 : Bs ^ ((limbs v).length - 1) * 1 ≤ Bs ^ ((limbs v).length - 1) * (limbs v).getLast hne := Nat.mul_le_mul_left _ (by omega)
      omega
    · exact hge

/-- more limbs, greater number -/
theorem lt_of_len {a b : Nat} (h : (limbs a).length < (limbs b).length) : a < b := by
  rcases Nat.lt_or_ge a b with h1 | h1
  · exact h1
  · have h2 := limbs_len_le.1 (Nat.le_refl (limbs a).length)
    have := limbs_len_le.2 (Nat.lt_of_le_of_lt h1 h2)
    omega

theorem limbs_inj {a b : Nat} (h : limbs a = limbs b) : a = b := by rw [← V_limbs a, h, V_limbs]

/-- the first limb that differs, from the end -/
theorem cmp_at {xs ys : List Nat} {k : Nat} (hx : Lim xs) (hl : xs.length = ys.length) (hk : k < xs.length) (hk' : k < ys.length) (hs : xs.drop (k + 1) = ys.drop (k + 1)) (hlt : xs[k] < ys[k]) : V xs < V ys := by
  rw [V_take_drop xs (k + 1) (by omega), V_take_drop ys (k + 1) (by omega), hs, V_take_succ hk, V_take_succ hk']
  have h1 := V_lt (hx.take k)
  rw [List.length_take, Nat.min_eq_left (by omega)] at h1
  have h2 : Bs ^ k * (xs[k] + 1) ≤ Bs ^ k * ys[k] := Nat.mul_le_mul_left _ hlt
  rw [Nat.mul_add] at h2
  omega

/-- one step of a carry -/
theorem carry_step {P T c x : Nat} (k : Nat) (h : P + Bs ^ k * c = T) : (P + Bs ^ k * ((c + x) % Bs)) + Bs ^ (k + 1) * ((c + x) / Bs) = T + Bs ^ k * x := by
  have h1 : Bs ^ k * ((c + x) % Bs) + Bs ^ (k + 1) * ((c + x) / Bs) = Bs ^ k * (c + x) := by
    rw [Nat.pow_succ, Nat.mul_assoc, ← Nat.mul_add, Nat.mod_add_div]
  rw [Nat.mul_add] at h1
  omega
/-- the limbs of a value are the first limbs of any that have it -/
theorem limbs_prefix {xs : List Nat} (h : Lim xs) : limbs (V xs) = xs.take (limbs (V xs)).length := by
  have key : ∀ n (xs : List Nat), xs.length = n → Lim xs → ∃ k, limbs (V xs) = xs.take k := by
    intro n
    induction n with
    | zero => intro xs hx _; exact ⟨0, by rw [List.eq_nil_of_length_eq_zero hx]; simp [V, limbs_zero]⟩
    | succ n ih =>
      intro xs hx hl
      have hne : xs ≠ [] := fun e => by rw [e] at hx; simp at hx
      by_cases h0 : xs.getLast hne = 0
      · have e : xs = xs.take n ++ [0] := by
          conv => lhs; rw [← List.dropLast_concat_getLast hne, h0]
          rw [List.dropLast_eq_take, hx]; simp
        obtain ⟨k, hk⟩ := ih (xs.take n) (by rw [List.length_take]; omega) (hl.take n)
        have hv : V xs = V (xs.take n) := by conv => lhs; rw [e, V_append]
                                             simp [V]
        exact ⟨min k n, by rw [hv, hk, List.take_take]⟩
      · exact ⟨xs.length, by rw [List.take_length]; exact can_eq hl (fun _ => h0)⟩
  obtain ⟨k, hk⟩ := key _ xs rfl h
  conv => lhs; rw [hk]
  rw [hk, List.length_take]
  rcases Nat.le_total k xs.length with h1 | h1
  · rw [Nat.min_eq_left h1]
  · rw [Nat.min_eq_right h1, List.take_of_length_le h1, List.take_length]

theorem V_set_take {ys : List Nat} {k x : Nat} (hk : k < ys.length) : V ((ys.set k x).take (k + 1)) = V (ys.take k) + Bs ^ k * x := by
  rw [V_take_succ (by rw [List.length_set]; exact hk), List.getElem_set_self, List.take_set_of_le (Nat.le_refl k)]

theorem Lim.set {ys : List Nat} (h : Lim ys) {k x : Nat} (hx : x < Bs) : Lim (ys.set k x) := fun y hy => by
  rcases List.mem_or_eq_of_mem_set hy with h1 | h1
  · exact h y h1
  · rw [h1]; exact hx

theorem Lim_zeros (n : Nat) : Lim (List.replicate n 0) := fun x hx => by rw [(List.mem_replicate.1 hx).2, Bs_eq]; omega

/-- one step of a carry, which may be negative -/
theorem carry_stepI {P T c x : Int} (k : Nat) (h : P + (Bs : Int) ^ k * c = T) : (P + (Bs : Int) ^ k * ((c + x) % Bs)) + (Bs : Int) ^ (k + 1) * ((c + x) / Bs) = T + (Bs : Int) ^ k * x := by
  have h1 : (Bs : Int) ^ k * ((c + x) % Bs) + (Bs : Int) ^ (k + 1) * ((c + x) / Bs) = (Bs : Int) ^ k * (c + x) := by
    rw [Int.pow_succ, Int.mul_assoc, ← Int.mul_add, Int.emod_add_mul_ediv]
  rw [Int.mul_add] at h1
  omega
end Go.Proofs.YtngminjncdfjdaaGreatDoor
/- What a whole number is: plain mathematics. -/
namespace Go.Proofs.YtngminjncdfjdaaGreatDoor

/-- limbs as integers -/
def li (xs : List Nat) : List Int := xs.map fun (n : Nat) => (n : Int)
/-- a sign and limbs that are a whole number -/
def okW (s : Int) (xs : List Int) : Prop :=
  -1 ≤ s ∧ s ≤ 1 ∧ (s = 0 ↔ xs = []) ∧ xs.length ≤ 100 ∧ (∀ x ∈ xs, 0 ≤ x ∧ x ≤ 16777215) ∧ (∀ h : xs ≠ [], xs.getLast h ≠ 0)

open Classical in
noncomputable def isW (s : Int) (xs : List Int) : Bool := decide (okW s xs)
/-- the whole number with a value -/
def isZ (z : Int) (s : Int) (xs : List Int) : Prop := s = z.sign ∧ xs = li (limbs z.natAbs) ∧ (limbs z.natAbs).length ≤ 100

theorem sign_mul_abs (s : Int) (v : Nat) (h1 : -1 ≤ s) (h2 : s ≤ 1) (h3 : s = 0 ↔ v = 0) : (s * v).sign = s ∧ (s * v).natAbs = v := by
  have hs : s = -1 ∨ s = 0 ∨ s = 1 := by omega
  rcases hs with rfl | rfl | rfl
  · have hv : v ≠ 0 := fun e => by have := h3.2 e; omega
    refine ⟨?_, by omega⟩
    exact Int.sign_eq_neg_one_of_neg (by omega)
  · have hv : v = 0 := h3.1 rfl
    subst hv; simp
  · have hv : v ≠ 0 := fun e => by have := h3.2 e; omega
    refine ⟨?_, by omega⟩
    exact Int.sign_eq_one_of_pos (by omega)

end Go.Proofs.YtngminjncdfjdaaGreatDoor
/- Slices of int64 that read as lists, and rows of the call's own, or the first part of one. -/
namespace Go.Proofs.YtngminjncdfjdaaGreatDoor
set_option maxRecDepth 100000
open Go.RowKit

/-- int64 values -/
def vi (xs : List Int) : List Value := xs.map (Value.int .i64)
/-- limbs as values -/
def vs (xs : List Nat) : List Value := vi (li xs)
theorem vs_len (xs : List Nat) : (vs xs).length = xs.length := by unfold vs vi li; simp
theorem vs_get {xs : List Nat} {k : Nat} (h : k < xs.length) : (vs xs)[k]'(by rw [vs_len]; exact h) = .int .i64 (xs[k] : Nat) := by unfold vs vi li; simp
theorem vi_set (xs : List Int) (k : Nat) (z : Int) : (vi xs).set k (.int .i64 z) = vi (xs.set k z) := by unfold vi; rw [List.map_set]
theorem vs_set (xs : List Nat) (k : Nat) (z : Nat) : (vs xs).set k (.int .i64 z) = vs (xs.set k z) := by unfold vs li; rw [vi_set, List.map_set]
theorem vs_take (xs : List Nat) (k : Nat) : vs (xs.take k) = (vs xs).take k := by unfold vs vi li; simp [List.map_take]
theorem vs_append (xs ys : List Nat) : vs (xs ++ ys) = vs xs ++ vs ys := by unfold vs vi li; simp
theorem vs_one (u : Value) (xs : List Nat) (h : u ∈ vs xs) : u.oneCell' = true := by
  unfold vs vi li at h
  obtain ⟨z, _, rfl⟩ := List.mem_map.1 h
  rfl

/-- a row that the call made, or its first part: the cells of a block from lo on and before hi, none of them frozen -/
def Ow (w : World) (lo hi : Nat) (A : Option Addr) (xs : List Value) : Prop :=
  xs = [] ∨ ∃ g cs, A = some ⟨g, 0, none⟩ ∧ lo ≤ g ∧ g < hi ∧ w.heap[g]? = some (.cells cs 2 (0, 0)) ∧ cs.toList.take xs.length = xs

section
variable {w w' : World} {lo lo' hi hi' : Nat} {A : Option Addr} {xs : List Value}
theorem Ow.nil_ : Ow w lo hi A [] := .inl rfl
theorem Ow.lt (h : Ow w lo hi A xs) (hx : xs ≠ []) : ∃ g, A = some ⟨g, 0, none⟩ ∧ lo ≤ g ∧ g < hi ∧ g < w.heap.size := by
  rcases h with h | ⟨g, cs, h1, h2, h3, h4, _⟩
  · exact absurd h hx
  · exact ⟨g, h1, h2, h3, (Array.getElem?_eq_some_iff.1 h4).1⟩
theorem add_zero_off (g k : Nat) : (⟨g, 0, none⟩ : Addr).add k = ⟨g, k, none⟩ := by unfold Addr.add; split <;> simp_all
theorem Ow.rd (h : Ow w lo hi A xs) : Rd w hi A xs := fun k u hu => by
  rcases h with rfl | ⟨g, cs, rfl, _, h3, h4, h5⟩
  · simp at hu
  · refine ⟨_, rfl, h3, ?_⟩
    rw [add_zero_off, cell_of_row w g k cs 2 (0, 0) h4]
    have hk : k < xs.length := (List.getElem?_eq_some_iff.1 hu).1
    rw [← h5, List.getElem?_take, if_pos hk] at hu
    simpa using hu
theorem Ow.wide (h : Ow w lo hi A xs) (h1 : lo' ≤ lo) (h2 : hi ≤ hi') : Ow w lo' hi' A xs := by
  rcases h with h | ⟨g, cs, a, b, c, d⟩
  · exact .inl h
  · exact .inr ⟨g, cs, a, by omega, by omega, d⟩
theorem Ow.keep (h : Ow w lo hi A xs) (hk : ∀ g, lo ≤ g → g < hi → g < w.heap.size → w'.heap[g]? = w.heap[g]?) : Ow w' lo hi A xs := by
  rcases h with h | ⟨g, cs, a, b, c, d, e⟩
  · exact .inl h
  · exact .inr ⟨g, cs, a, b, c, (hk g b c (Array.getElem?_eq_some_iff.1 d).1).trans d, e⟩
theorem Ow.below {B : Nat} (h : Ow w lo hi A xs) (hb : Below B w w') (hB : hi ≤ B) : Ow w' lo hi A xs := h.keep fun g _ h2 _ => hb.block g (by omega)
theorem Ow.below' (h : Ow w lo hi A xs) (hb : Below w.heap.size w w') : Ow w' lo hi A xs := h.keep fun g _ _ h2 => hb.block g h2
theorem Ow.grown {row : Option Nat} (h : Ow w lo hi A xs) (hg : w.grownBy w' row) (hr : ∀ g, row = some g → g < lo ∨ hi ≤ g) : Ow w' lo hi A xs :=
  h.keep fun g h1 h2 h3 => hg.block g h3 (fun e => by have := hr g e.symm; omega)
theorem Ow.setCell (h : Ow w lo hi A xs) {p : Addr} (hp : p.block < lo ∨ hi ≤ p.block) (u : Value) : Ow (w.setCell p u) lo hi A xs := h.keep fun g _ _ _ => Below.heap_setCell _ _ _ _ (by omega)
theorem Ow.alloc (h : Ow w lo hi A xs) (o : Obj) : Ow (w.alloc o) lo hi A xs := h.keep fun _ _ _ h3 => Below.heap_alloc _ _ _ h3
theorem Ow.drewN (h : Ow w lo hi A xs) (n : Nat) : Ow (w.drewN n) lo hi A xs := h
theorem Ow.take (h : Ow w lo hi A xs) (k : Nat) : Ow w lo hi A (xs.take k) := by
  rcases h with rfl | ⟨g, cs, a, b, c, d, e⟩
  · exact .inl (by simp)
  · refine .inr ⟨g, cs, a, b, c, d, ?_⟩
    rw [List.length_take, ← List.take_take, e]
theorem Ow.own {n c : Nat} (h : w.ownsRow lo 2 1 (.slice A n c) n xs) : Ow w lo w.heap.size A xs := by
  rcases h.2 with ⟨_, h1⟩ | ⟨g, cap, cs, hv, h1, h2, _, _, _, h3⟩
  · exact .inl (List.eq_nil_of_length_eq_zero (by have := h.1; omega))
  · injection hv with hA
    subst hA
    refine .inr ⟨g, cs, rfl, h1, (Array.getElem?_eq_some_iff.1 h2).1, h2, ?_⟩
    have : xs.length = n * 1 := h.1
    rw [this]; exact h3
/-- a store into it -/
theorem Ow.stored (h : Ow w lo hi A xs) {k : Nat} (hk : k < xs.length) (u : Value) : ∃ g, A = some ⟨g, 0, none⟩ ∧ lo ≤ g ∧ g < hi ∧ w.cell? ⟨g, k, none⟩ = some xs[k] ∧ w.frozen? ⟨g, k, none⟩ = false ∧
    Ow (w.setCell ⟨g, k, none⟩ u) lo hi A (xs.set k u) ∧ w.grownBy (w.setCell ⟨g, k, none⟩ u) (some g) := by
  rcases h with rfl | ⟨g, cs, rfl, h2, h3, h4, h5⟩
  · simp at hk
  · have hc := cell_of_row w g k cs 2 (0, 0) h4
    refine ⟨g, rfl, h2, h3, ?_, by simp [World.frozen?, h4], .inr ⟨g, cs.setIfInBounds k u, rfl, h2, h3, ?_, ?_⟩, rfl, rfl, rfl, by simp [World.setCell], fun b hb hne => Below.heap_setCell _ _ _ _ (fun e => hne (by rw [e]))⟩
    · rw [hc]
      have h6 : xs[k]? = some xs[k] := List.getElem?_eq_getElem hk
      rw [← h6]
      conv => rhs; rw [← h5]
      rw [List.getElem?_take, if_pos hk]
      simp
    · simp [World.setCell, Array.getElem?_modify, h4]
    · rw [List.length_set, Array.toList_setIfInBounds, List.take_set, h5]
end

/-- the same numbers of values, another spelling -/
theorem Ow.eq_ {w : World} {lo hi : Nat} {A : Option Addr} {xs ys : List Value} (h : Ow w lo hi A xs) (e : xs = ys) : Ow w lo hi A ys := e ▸ h
theorem Rd.eq_ {w : World} {hi : Nat} {A : Option Addr} {xs ys : List Value} (h : Rd w hi A xs) (e : xs = ys) : Rd w hi A ys := e ▸ h

theorem store_int (P : Program) (w : World) (a : Addr) (m : Mode) (k : IntKind) (z : Int) : (store a (.int k z) m).run P w = stored P w a (.int k z) m := run_store P w a _ m rfl
theorem store_slice (P : Program) (w : World) (a : Addr) (m : Mode) (A : Option Addr) (n c : Nat) : (store a (.slice A n c) m).run P w = stored P w a (.slice A n c) m := run_store P w a _ m rfl
theorem below_drewN {B : Nat} {a w : World} (h : Below B a w) (n : Nat) : Below B a (w.drewN n) := h.trans ⟨rfl, rfl, rfl, Nat.le_refl _, fun _ _ => rfl⟩
end Go.Proofs.YtngminjncdfjdaaGreatDoor
/- Boxes of whole numbers, rows and what came in, carried from world to world. -/
namespace Go.Proofs.YtngminjncdfjdaaGreatDoor
set_option maxRecDepth 100000
open Go.RowKit

theorem belAlloc1 (w : World) (o : Obj) : Below w.heap.size w (w.alloc o) := (Below.refl _ _).alloc (Nat.le_refl _) _
/-- a box that holds a whole number -/
def Box (w : World) (b : Nat) (s : Int) (A : Option Addr) (n c : Nat) : Prop := (w.cell? ⟨b, 0, none⟩ = some (.int .i64 s) ∧ w.cell? ⟨b, 1, none⟩ = some (.slice A n c)) ∧ b < w.heap.size
theorem Box.next {w w' : World} {b n c : Nat} {s : Int} {A : Option Addr} (h : Box w b s A n c) (hb : Below w.heap.size w w') : Box w' b s A n c :=
  ⟨⟨(hb.cell (p := ⟨b, 0, none⟩) h.2).trans h.1.1, (hb.cell (p := ⟨b, 1, none⟩) h.2).trans h.1.2⟩, Nat.lt_of_lt_of_le h.2 hb.size⟩
theorem Box.new (w : World) (s : Int) (A : Option Addr) (n c : Nat) (t : TypeId) : Box (w.alloc (.cells #[.int .i64 s, .slice A n c] t)) w.heap.size s A n c := ⟨⟨by simp, by simp⟩, by simp⟩
theorem Box.grown {w w' : World} {b n c lo hi : Nat} {s : Int} {A : Option Addr} {row : Option Nat} (h : Box w b s A n c) (hg : w.grownBy w' row) (hr : ∀ g, row = some g → lo ≤ g ∧ g < hi) (hne : b < lo ∨ hi ≤ b) : Box w' b s A n c := by
  have hk : w'.heap[b]? = w.heap[b]? := hg.block b h.2 (fun e => by have := hr b e.symm; omega)
  exact ⟨⟨(World.cell?_of_block (a := ⟨b, 0, none⟩) hk).trans h.1.1, (World.cell?_of_block (a := ⟨b, 1, none⟩) hk).trans h.1.2⟩, Nat.lt_of_lt_of_le h.2 hg.size⟩

theorem two_boxes (w : World) (s s' : Int) (A A' : Option Addr) (n n' c c' : Nat) (t t' : TypeId) :
    Box ((w.alloc (.cells #[.int .i64 s, .slice A n c] t)).alloc (.cells #[.int .i64 s', .slice A' n' c'] t')) w.heap.size s A n c ∧ Box ((w.alloc (.cells #[.int .i64 s, .slice A n c] t)).alloc (.cells #[.int .i64 s', .slice A' n' c'] t')) (w.heap.size + 1) s' A' n' c' ∧
    Below w.heap.size w ((w.alloc (.cells #[.int .i64 s, .slice A n c] t)).alloc (.cells #[.int .i64 s', .slice A' n' c'] t')) := by
  have h := belAlloc1 (w.alloc (.cells #[.int .i64 s, .slice A n c] t)) (.cells #[.int .i64 s', .slice A' n' c'] t')
  have h2 := Box.new (w.alloc (.cells #[.int .i64 s, .slice A n c] t)) s' A' n' c' t'
  have e : (w.alloc (.cells #[.int .i64 s, .slice A n c] t)).heap.size = w.heap.size + 1 := by simp
  rw [e] at h2
  exact ⟨(Box.new w s A n c t).next h, h2, (belAlloc1 w _).trans (h.mono (by simp))⟩

/-- rows of the call's own, and what came in, in a later world -/
def Ot (w : World) (lo hi : Nat) (A : Option Addr) (xs : List Value) : Prop := Ow w lo hi A xs ∧ hi ≤ w.heap.size
def Rt (w : World) (B : Nat) (A : Option Addr) (xs : List Value) : Prop := Rd w B A xs ∧ B ≤ w.heap.size
theorem Ot.next {w w' : World} {lo hi : Nat} {A : Option Addr} {xs : List Value} (h : Ot w lo hi A xs) (hb : Below w.heap.size w w') : Ot w' lo hi A xs := ⟨h.1.below' hb, Nat.le_trans h.2 hb.size⟩
theorem Rt.next {w w' : World} {B : Nat} {A : Option Addr} {xs : List Value} (h : Rt w B A xs) (hb : Below w.heap.size w w') : Rt w' B A xs := ⟨h.1.below (hb.mono h.2), Nat.le_trans h.2 hb.size⟩
theorem Ot.rt {w : World} {lo hi : Nat} {A : Option Addr} {xs : List Value} (h : Ot w lo hi A xs) : Rt w hi A xs := ⟨h.1.rd, h.2⟩
theorem Rt.all {w : World} {B : Nat} {A : Option Addr} {xs : List Value} (h : Rt w B A xs) : Rd w w.heap.size A xs := h.1.up h.2
theorem Ot.new {w : World} {lo : Nat} {A : Option Addr} {xs : List Value} (h : Ow w lo w.heap.size A xs) : Ot w lo w.heap.size A xs := ⟨h, Nat.le_refl _⟩
theorem Ot.grown {w w' : World} {lo hi lo' hi' : Nat} {A : Option Addr} {xs : List Value} {row : Option Nat} (h : Ot w lo hi A xs) (hg : w.grownBy w' row) (hr : ∀ g, row = some g → lo' ≤ g ∧ g < hi') (hne : hi ≤ lo' ∨ hi' ≤ lo) : Ot w' lo hi A xs :=
  ⟨h.1.grown hg (fun g e => by have := hr g e; omega), Nat.le_trans h.2 hg.size⟩
theorem Rt.grown {w w' : World} {B lo' hi' : Nat} {A : Option Addr} {xs : List Value} {row : Option Nat} (h : Rt w B A xs) (hg : w.grownBy w' row) (hr : ∀ g, row = some g → lo' ≤ g ∧ g < hi') (hne : B ≤ lo') : Rt w' B A xs :=
  ⟨h.1.carry (fun p hp => World.cell?_of_block (hg.block p.block (Nat.lt_of_lt_of_le hp h.2) (fun e => by have := hr _ e.symm; omega))), Nat.le_trans h.2 hg.size⟩
theorem belNext {W w w' : World} (h : Below W.heap.size W w) (hb : Below w.heap.size w w') : Below W.heap.size W w' := h.trans (hb.mono h.size)
theorem belDrew {w w' : World} (h : Below w.drew.heap.size w.drew w') : Below w.heap.size w w' := ⟨h.os, h.tape, h.output, h.size, h.block⟩
end Go.Proofs.YtngminjncdfjdaaGreatDoor
/- The walks of the laws' functions over slices of int64: a copy, equality, marks. -/
namespace Go.Proofs.YtngminjncdfjdaaGreatDoor
set_option maxRecDepth 100000
open Go.RowKit
set_option linter.unusedSimpArgs false
set_option linter.unusedVariables false

theorem infoI : (Tryz.prog.info? 2).map (fun i => (i.zero, i.size, i.bytes)) = some (some (.int .i64 0), 1, 8) := by kernel_rfl

/-- the marks that are laid from k on -/
def marks (k : Int) (n : Nat) : List Int := (List.range n).map fun (i : Nat) => k + i
end Go.Proofs.YtngminjncdfjdaaGreatDoor
/- The walks of IsWhole, of the program and of the model. -/
namespace Go.Proofs.YtngminjncdfjdaaGreatDoor
set_option maxRecDepth 100000
open Go.RowKit
set_option linter.unusedSimpArgs false
set_option linter.unusedVariables false

theorem ret_bool {a b : Bool} (h : a = b) : Ending.returned (.bool a) = .returned (.bool b) := by rw [h]
theorem ret_int {k : IntKind} {a b : Int} (h : a = b) : Ending.returned (.int k a) = .returned (.int k b) := by rw [h]

theorem tooLarge_any (s : Int) (A : Option Addr) (n c : Nat) (w : World) :
    Calls Tryz.prog 115 #[.agg #[.int .i64 s, .slice A n c]] w fun e w' => e = .returned (.bool (decide ((100 : Int) < n))) ∧ Below w.heap.size w w' := by
  go_enter Tryz.func115, Tryz.ntmps115
  go_wp2_with fail
  go_ret
  exact ⟨rfl, (Below.refl _ _).alloc (Nat.le_refl _) _⟩

end Go.Proofs.YtngminjncdfjdaaGreatDoor
/- The walks of the laws' functions over whole numbers: sizes, copies, equality, marks. -/
namespace Go.Proofs.YtngminjncdfjdaaGreatDoor
set_option maxRecDepth 100000
open Go.RowKit
set_option linter.unusedSimpArgs false
set_option linter.unusedVariables false

end Go.Proofs.YtngminjncdfjdaaGreatDoor
/- The walk of the model's IsWhole. -/
namespace Go.Proofs.YtngminjncdfjdaaGreatDoor
set_option maxRecDepth 100000
open Go.RowKit
set_option linter.unusedSimpArgs false
set_option linter.unusedVariables false

end Go.Proofs.YtngminjncdfjdaaGreatDoor
/- From a law's walk to its statement: what a slice of floats that came in reads as, and that what came in reads behind the call as before it. -/
namespace Go.Proofs.YtngminjncdfjdaaGreatDoor
set_option maxRecDepth 100000
open Go.ChangeShapes Go.WideShapes Go.ChangeAt Go.RowKit Go.Deep

theorem laidOut' : laidOutB Tryz.prog = true := by kernel_rfl

section
variable {H : Type} {enc : TypeId × Value → H}

/-- the same where the world is known below its old end alone -/
theorem carryB {t : TypeId} (hr : Tryz.prog.readableRec t = true) (hrow : t < Tryz.prog.types.size) {W W' : World} (hb : Below W.heap.size W W') {v : Value} {d : DataW H} {p : List MemPlace} {sp : Nat → Bool}
    (h : DataW.Trod enc Tryz.prog W 0 (fun _ => true) true t v d p) (hlt : ∀ x ∈ p, x.block < W.heap.size) (hsp : ∀ x ∈ p, sp x.block = true) : DataW.Trod enc Tryz.prog W' 0 sp true t v d p := by
  obtain ⟨n, hn⟩ := h
  exact ⟨n, DataW.trod_stays (kids_book laidOut' hr) (book_sized hr) (fun h => by cases h) ⟨hrow, book_self t⟩ hn (fun x hx => hb.same (hlt x hx)) hsp⟩

set_option maxRecDepth 100000 in
/-- a law's end: it has said true, what came in is carried over, all old blocks are as they were -/
theorem law_end {f : Func} {s : ChangeSpec} {apart fresh handsOn again : Bool} {W W' : World} {args : Array Value} {v : Value} {ds : List (DataW H)} {q pa : List MemPlace}
    (hW : DataW.Whole enc Tryz.prog f.params.toList s.vars apart W args.toList ds [] q) (hpa : q = pa) (hvs : s.vars = [])
    (hres : ∀ (b : Nat) (sp : Nat → Bool) (hd : Bool), DataW.TrodAll enc Tryz.prog W' b sp hd f.resultTypes.toList (v.resultList f.resultTypes.size) (s.fn H (ds ++ [])).results [])
    (hargs : ∀ sp : Nat → Bool, (∀ x ∈ q, sp x.block = true) → DataW.TrodAll enc Tryz.prog W' 0 sp true f.params.toList args.toList (s.fn H (ds ++ [])).args pa)
    (hvars : (s.fn H (ds ++ [])).vars = []) (hb : Below W.heap.size W W')
    (hok : ∀ (j : Nat) (t : TypeId) (r : Value), f.resultTypes[j]? = some t → (v.resultList f.resultTypes.size)[j]? = some r → Value.okWide Tryz.prog W' .any 0 t r) :
    s.post enc Tryz.prog f apart fresh handsOn again W args v W' := by
  subst hpa
  have old : ∀ x ∈ q, x.block < W.heap.size := hW.lt
  have nov : ∀ sp : Nat → Bool, DataW.TrodVars enc Tryz.prog W' sp s.vars (s.fn H (ds ++ [])).vars [] := fun sp => by rw [hvs, hvars]; rfl
  have ends : q ++ ([] : List MemPlace) = q := List.append_nil q
  refine ⟨ds, [], q, [], q, [], hW, hres _ _ _, hargs _ (fun x hx => by simpa using old x hx), nov _, ?_, ?_⟩
  · exact World.keptBut_mono (fun x hx => ⟨hx, .inr (by simpa using hx)⟩) (hb.frame (· ∈ q))
  · intro _
    have hz := hW
    obtain ⟨_, _, _, _, _, fz, nd⟩ := hz
    refine ⟨hok, (s.fn H (ds ++ [])).results ++ (s.fn H (ds ++ [])).args, (s.fn H (ds ++ [])).vars, q, ⟨q, [], ?_, nov _, ends.symm, ?_, nd⟩, fun x hx _ => ?_⟩
    · exact trodAll_append (hargs _ (fun _ _ => rfl)) (hres _ _ _)
    · intro b off hx
      exact (hb.frozen (p := ⟨b, off, none⟩) (old _ hx)).trans (fz b off hx)
    · simpa using hx

theorem trod_float {w : World} {base : Nat} {spare : Nat → Bool} {held : Bool} {t : TypeId} {k : FloatKind} {n : Nat} {v : Value} {y : DataW H × List MemPlace} (ht : Tryz.prog.underlying t = some (.float k))
    (h : DataW.trod enc Tryz.prog w base spare held n t [v] = some y) : ∃ b, v = .float k b ∧ (Lit.float k b).wf = true := by
  cases n with
  | zero => simp [DataW.trod] at h
  | succ n =>
    simp only [DataW.trod, ht] at h
    cases v <;> try (simp at h; done)
    rename_i k' b
    by_cases hw : (Lit.float k b).wf = true
    · by_cases hk : k' = k
      · subst hk; exact ⟨b, rfl, hw⟩
      · simp [hk] at h
    · exfalso
      by_cases hk : k' = k
      · subst hk; simp [hw] at h
      · simp [hk] at h

end
end Go.Proofs.YtngminjncdfjdaaGreatDoor
/- What a whole number of the laws that came in is. -/
namespace Go.Proofs.YtngminjncdfjdaaGreatDoor
set_option maxRecDepth 100000
open Go.ChangeShapes Go.WideShapes Go.ChangeAt Go.RowKit Go.Deep

section
variable {H : Type} {enc : TypeId × Value → H}

end
end Go.Proofs.YtngminjncdfjdaaGreatDoor
/- The length of a whole number, of the program and of the model. -/
namespace Go.Proofs.YtngminjncdfjdaaGreatDoor
set_option maxRecDepth 100000
open Go.RowKit
set_option linter.unusedSimpArgs false
set_option linter.unusedVariables false

/-- the number of bits -/
def blen (v : Nat) : Nat := if v = 0 then 0 else Nat.log2 v + 1
theorem blen_zero : blen 0 = 0 := rfl
theorem blen_bounds {v : Nat} (h : v ≠ 0) : 1 ≤ blen v ∧ 2 ^ (blen v - 1) ≤ v ∧ v < 2 ^ blen v := by
  unfold blen
  rw [if_neg h]
  exact ⟨by omega, by simpa using Nat.log2_self_le h, Nat.lt_log2_self⟩
theorem blen_eq {v k : Nat} (h1 : 2 ^ k ≤ v) (h2 : v < 2 ^ (k + 1)) : blen v = k + 1 := by
  have hv : v ≠ 0 := by have := Nat.two_pow_pos k; omega
  unfold blen
  rw [if_neg hv, (Nat.log2_eq_iff hv).2 ⟨h1, h2⟩]
theorem blen_lt {v k : Nat} : blen v ≤ k ↔ v < 2 ^ k := by
  by_cases hv : v = 0
  · subst hv; simp [blen_zero, Nat.two_pow_pos]
  · unfold blen
    rw [if_neg hv, Nat.succ_le_iff, Nat.log2_lt hv]

theorem Bs_pow (n : Nat) : Bs ^ n = 2 ^ (24 * n) := by rw [Nat.pow_mul]; rfl

theorem bitLen_blen {x : Nat} (h : x < 16777216) : Lib.bitLen x = blen x := by
  by_cases h0 : x = 0
  · subst h0; rfl
  · obtain ⟨h1, h2, h3⟩ := Lib.bitLenAux_bounds 64 x (by omega) h0
    have e : Lib.bitLen x = Lib.bitLenAux 64 x := rfl
    rw [e]
    have := blen_eq h2 (by rw [Nat.sub_add_cancel h1]; exact h3)
    omega

theorem limbs_top {v n : Nat} (hn : (limbs v).length = n) (h1 : n - 1 < (limbs v).length) : ∃ t, v = t + Bs ^ (n - 1) * (limbs v)[n - 1] ∧ t < Bs ^ (n - 1) ∧ (limbs v)[n - 1] ≠ 0 ∧ (limbs v)[n - 1] < Bs := by
  have h2 := V_take_succ h1
  rw [Nat.sub_add_cancel (by omega), List.take_of_length_le (by omega), V_limbs] at h2
  have h3 := V_lt ((Lim_limbs v).take (n - 1))
  rw [List.length_take, Nat.min_eq_left (by omega)] at h3
  refine ⟨_, h2, h3, ?_, (Lim_limbs v).getElem h1⟩
  have hne : limbs v ≠ [] := fun e => by rw [e] at h1; simp at h1
  have := limbs_last v hne
  rw [List.getLast_eq_getElem] at this
  subst hn
  exact this

theorem blen_limbs {v n : Nat} (hn : (limbs v).length = n) (h1 : n - 1 < (limbs v).length) : blen v = 24 * (n - 1) + blen (limbs v)[n - 1] := by
  obtain ⟨t, hv, ht, h0, hb⟩ := limbs_top hn h1
  obtain ⟨g1, g2, g3⟩ := blen_bounds h0
  generalize (limbs v)[n - 1] = x at *
  have k := blen_eq (v := v) (k := 24 * (n - 1) + (blen x - 1)) (by
    rw [Nat.pow_add, ← Bs_pow, hv]
    have := Nat.mul_le_mul_left (Bs ^ (n - 1)) g2
    omega) (by
    rw [Nat.add_assoc, Nat.sub_add_cancel g1, Nat.pow_add, ← Bs_pow]
    have h5 : Bs ^ (n - 1) * (x + 1) ≤ Bs ^ (n - 1) * 2 ^ blen x := Nat.mul_le_mul_left _ g3
    rw [Nat.mul_add] at h5
    omega)
  omega

set_option maxRecDepth 100000 in
theorem len8_size : (Lib.len8tab.size : Int) = 256 := by
  have : Lib.len8tab.size = 256 := by decide
  omega
theorem len8_at (y : Int) (h : y.toNat < Lib.len8tab.size) : ((Lib.len8tab[y.toNat]'h).toNat : Int) = Lib.len8 y := by
  unfold Lib.len8
  rw [getElem?_pos Lib.len8tab y.toNat h]
  rfl
set_option maxHeartbeats 4000000 in
set_option maxRecDepth 100000 in
theorem len64_int (x : Int) (w : World) (h0 : 0 ≤ x) (hx : x ≤ 16777215) : Calls Tryz.prog 105 #[.int .u64 x] w fun e w' => e = .returned (.int .i64 (Lib.bitLen x.toNat)) ∧ w = w' := by
  go_enter Tryz.func105, Tryz.ntmps105
  go_wp2
  all_goals first
    | (go_ret; refine ⟨congrArg Ending.returned (congrArg (Value.int IntKind.i64) ?_), rfl⟩)
    | (exfalso
       have hs := len8_size
       omega)
  all_goals first
    | (rw [len8_at (x / 65536) _, Lib.len8_of (x / 65536) (by omega) (by omega)]
       have e : (x / 65536).toNat = x.toNat / 65536 := by omega
       have l := Lib.bitLen_le8' (x / 65536) (by omega) (by omega)
       have s := Lib.bitLen_shift16 x.toNat (by omega) (by omega)
       rw [e] at l ⊢
       unfold wrap64
       omega)
    | (rw [len8_at (x / 256) _, Lib.len8_of (x / 256) (by omega) (by omega)]
       have e : (x / 256).toNat = x.toNat / 256 := by omega
       have l := Lib.bitLen_le8' (x / 256) (by omega) (by omega)
       have s := Lib.bitLen_shift8 x.toNat (by omega) (by omega)
       rw [e] at l ⊢
       unfold wrap64
       omega)
    | (rw [len8_at x _, Lib.len8_of x (by omega) (by omega)]
       have l := Lib.bitLen_le8' x (by omega) (by omega)
       unfold wrap64
       omega)

theorem len64_any (x : Nat) (w : World) (hx : x < Bs) : Calls Tryz.prog 105 #[.int .u64 x] w fun e w' => e = .returned (.int .i64 (blen x)) ∧ w = w' := by
  rw [Bs_eq] at hx
  refine (len64_int x w (by omega) (by omega)).mono ?_
  rintro e w' ⟨rfl, rfl⟩
  exact ⟨by rw [Int.toNat_natCast, bitLen_blen hx], rfl⟩

theorem natLen_any (v : Nat) (A : Option Addr) (n c B : Nat) (w : World) (hr : Rd w B A (vs (limbs v))) (hn : (limbs v).length = n) (hm : (n : Int) ≤ 100000) :
    Calls Tryz.prog 134 #[.slice A n c] w fun e w' => e = .returned (.int .i64 (blen v)) ∧ w = w' := by
  by_cases h0 : n = 0
  · have hv : v = 0 := limbs_len_zero.1 (by omega)
    clear hr hn
    subst h0 hv
    go_enter Tryz.func134, Tryz.ntmps134
    go_wp2_with fail
    go_ret
    exact ⟨rfl, rfl⟩
  · have h1 : n - 1 < (limbs v).length := by omega
    obtain ⟨a, ha, _⟩ := hr.some_ (by rw [vs_len]; omega)
    subst ha
    have hc := hr.cell (k := n - 1) (by rw [vs_len]; exact h1)
    rw [vs_get h1] at hc
    have Hl := Lib.hid (blen_limbs hn h1)
    have Hx := Lib.hid ((Lim_limbs v).getElem h1)
    have hx0 : (0 : Int) ≤ ((limbs v)[n - 1] : Nat) := by omega
    have hx1 : (((limbs v)[n - 1] : Nat) : Int) ≤ 16777215 := by have := Hx.out; rw [Bs_eq] at this; omega
    have Hbl : Hid (blen (limbs v)[n - 1] ≤ 24) := Lib.hid (blen_lt.2 (by have := Hx.out; rw [Bs_eq] at this; omega))
    have hn0 : ((n : Int) == 0) = false := by simp; omega
    have hn1 : (1 : Int) ≤ n := by omega
    clear hr hn h0
    generalize (limbs v)[n - 1] = x at *
    go_enter Tryz.func134, Tryz.ntmps134
    go_wp2_with fail
    refine (len64_any x _ Hx.out).mono ?_
    rintro e w' ⟨rfl, rfl⟩
    obtain ⟨y, hy⟩ : ∃ y, y = blen x := ⟨_, rfl⟩
    have Hl2 : Hid (blen v = 24 * (n - 1) + y) := Lib.hid (by rw [hy]; exact Hl.out)
    have hy1 : (0 : Int) ≤ y := by omega
    have hy2 : (y : Int) ≤ 24 := by have := Hbl.out; omega
    rw [← hy]
    clear hy Hl Hbl Hx
    go_wp2_with fail
    go_ret
    exact ⟨ret_int (by have := Hl2.out; omega), rfl⟩

theorem implLen_any (s : Int) (v : Nat) (A : Option Addr) (n c B : Nat) (w : World) (hr : Rd w B A (vs (limbs v))) (hB : B ≤ w.heap.size) (hn : (limbs v).length = n) (hm : (n : Int) ≤ 100000) :
    Calls Tryz.prog 123 #[.agg #[.int .i64 s, .slice A n c]] w fun e w' => e = .returned (.int .i64 (blen v)) ∧ Below w.heap.size w w' := by
  have Hr := Lib.hid (hr.below ((Below.refl B w).alloc hB (.cells #[.int .i64 s, .slice A n c] 46)))
  have Hn := Lib.hid hn
  clear hr hn
  go_enter Tryz.func123, Tryz.ntmps123
  go_wp2_with fail
  refine (natLen_any v A n c B _ Hr.out Hn.out hm).mono ?_
  rintro e w' ⟨rfl, rfl⟩
  go_wp2_with fail
  go_ret
  exact ⟨rfl, (Below.refl _ _).alloc (Nat.le_refl _) _⟩

/-- halving, as often as it goes -/
theorem blen_half {x : Nat} (h : x ≠ 0) : blen x = blen (x / 2) + 1 := by
  obtain ⟨h1, h2, h3⟩ := blen_bounds h
  by_cases h4 : x / 2 = 0
  · have : x = 1 := by omega
    subst this; rfl
  · obtain ⟨g1, g2, g3⟩ := blen_bounds h4
    refine blen_eq (k := blen (x / 2)) ?_ ?_
    · obtain ⟨m, hm⟩ : ∃ m, blen (x / 2) = m + 1 := ⟨blen (x / 2) - 1, by omega⟩
      rw [hm, Nat.add_sub_cancel] at g2
      rw [hm, Nat.pow_succ]
      omega
    · rw [Nat.pow_succ]; omega

set_option maxHeartbeats 400000 in
theorem specLen_any (s : Int) (v : Nat) (A : Option Addr) (n c B : Nat) (w : World) (hr : Rd w B A (vs (limbs v))) (hB : B ≤ w.heap.size) (hn : (limbs v).length = n) (hm : (n : Int) ≤ 100000) :
    Calls Tryz.prog 79 #[.agg #[.int .i64 s, .slice A n c]] w fun e w' => e = .returned (.int .i64 (blen v)) ∧ Below w.heap.size w w' := by
  by_cases h0 : n = 0
  · have hv : v = 0 := limbs_len_zero.1 (by omega)
    clear hr hn
    subst h0 hv
    go_enter Tryz.func79, Tryz.ntmps79
    go_wp2_with fail
    go_ret
    exact ⟨rfl, (Below.refl _ _).alloc (Nat.le_refl _) _⟩
  · have h1 : n - 1 < (limbs v).length := by omega
    obtain ⟨a, ha, _⟩ := hr.some_ (by rw [vs_len]; omega)
    subst ha
    have hc := (hr.below ((Below.refl B w).alloc hB (.cells #[.int .i64 s, .slice (some a) n c] 46))).cell (k := n - 1) (by rw [vs_len]; exact h1)
    rw [vs_get h1] at hc
    have Hl := Lib.hid (blen_limbs hn h1)
    have Hx := Lib.hid ((Lim_limbs v).getElem h1)
    have Hbl : Hid (blen (limbs v)[n - 1] ≤ 24) := Lib.hid (blen_lt.2 (by have := Hx.out; rw [Bs_eq] at this; omega))
    have hn0 : ((n : Int) == 0) = false := by simp; omega
    have hn1 : (1 : Int) ≤ n := by omega
    have Hn0 := Lib.hid hn0
    clear hr hn h0
    generalize (limbs v)[n - 1] = x at *
    go_enter Tryz.func79, Tryz.ntmps79
    go_wp2_with fail
    go_loop [4, 5] (fun b t => ∃ y k : Nat, t = .int .i64 y ∧ b = .int .i64 ((n - 1) * 24 + k) ∧ blen x = k + blen y ∧ y < Bs) (fun _ t => (intOf t).toNat)
    case atStart => exact ⟨x, 0, rfl, by simp, by simp, Hx.out⟩
    case round =>
      obtain ⟨y, k, rfl, rfl, hk, hy⟩ := hrel
      have Hk := Lib.hid hk
      have hy2 : (y : Int) ≤ 16777215 := by rw [Bs_eq] at hy; omega
      have hk2 : (k : Int) ≤ 24 := by have := Hbl.out; omega
      clear hk hy
      by_cases hy0 : y = 0
      · subst hy0
        go_wp2_with fail
        go_ret
        exact ⟨ret_int (by have := Hl.out; have := Hk.out; rw [blen_zero] at this; omega), (Below.refl _ _).alloc (Nat.le_refl _) _⟩
      · have hy3 : (0 : Int) < y := by omega
        go_wp2_with fail
        go_round
        case rel => exact ⟨y / 2, k + 1, by go_num, by go_num, by have := Hk.out; rw [blen_half hy0] at this; omega, by rw [Bs_eq]; omega⟩
        case measure => simp [intOf]; omega

/-! the functions of the chapter -/
def nats (xs : List Int) : List Nat := xs.map Int.toNat
/-- the value of limbs of which it is not known whether they are a number -/
noncomputable def magW (s : Int) (xs : List Int) : Nat := V (nats xs)
noncomputable def errW (s : Int) (xs : List Int) : Int := if isW s xs = true then 0 else 1
noncomputable def lenR (s : Int) (xs : List Int) : Int := if isW s xs = true then (blen (magW s xs) : Int) else 0
end Go.Proofs.YtngminjncdfjdaaGreatDoor
/- Limbs without zeros at the end, and whole numbers made of them, of the program and of the model. -/
namespace Go.Proofs.YtngminjncdfjdaaGreatDoor
set_option maxRecDepth 100000
open Go.RowKit
set_option linter.unusedSimpArgs false
set_option linter.unusedVariables false

theorem Rd.take {w : World} {hi : Nat} {A : Option Addr} {xs : List Value} (h : Rd w hi A xs) (k : Nat) : Rd w hi A (xs.take k) := fun i u hu => h i u (by
  rw [List.getElem?_take] at hu
  split at hu
  · exact hu
  · cases hu)
/-- the sign of a number with an absolute value -/
def sg (s : Int) (v : Nat) : Int := if v = 0 then 0 else s
/-- a value that is the whole number with a sign and an absolute value, its limbs a row of the call's own -/
def Wr (w : World) (lo hi : Nat) (s : Int) (v : Nat) (val : Value) : Prop := ∃ A c, val = .agg #[.int .i64 (sg s v), .slice A (limbs v).length c] ∧ Ow w lo hi A (vs (limbs v)) ∧ (limbs v).length ≤ c

/-- a value that is the whole number z, its limbs a row of the call's own -/
def Wz (w : World) (lo hi : Nat) (z : Int) (val : Value) : Prop := ∃ A c, val = .agg #[.int .i64 z.sign, .slice A (limbs z.natAbs).length c] ∧ Ow w lo hi A (vs (limbs z.natAbs)) ∧ (limbs z.natAbs).length ≤ c
theorem Wr.z {w : World} {lo hi : Nat} {s : Int} {v : Nat} {val : Value} (h : Wr w lo hi s v val) (hs : s = 1 ∨ s = -1 ∨ v = 0) : Wz w lo hi (s * v) val := by
  obtain ⟨A, c, h1, h2, h3⟩ := h
  have e : (s * v).natAbs = v ∧ (s * v).sign = sg s v := by
    unfold sg
    by_cases h0 : v = 0
    · subst h0; simp
    · rw [if_neg h0]
      have := sign_mul_abs s v (by omega) (by omega) (by omega)
      exact ⟨this.2, this.1⟩
  exact ⟨A, c, by rw [h1, e.1, e.2], by rw [e.1]; exact h2, by rw [e.1]; exact h3⟩
theorem Wz.keep {w w' : World} {lo hi : Nat} {z : Int} {val : Value} (h : Wz w lo hi z val) (hb : Below w.heap.size w w') : Wz w' lo hi z val := by
  obtain ⟨A, c, h1, h2, h3⟩ := h
  exact ⟨A, c, h1, h2.below' hb, h3⟩
theorem Wz.wide {w : World} {lo lo' hi hi' : Nat} {z : Int} {val : Value} (h : Wz w lo hi z val) (h1 : lo' ≤ lo) (h2 : hi ≤ hi') : Wz w lo' hi' z val := by
  obtain ⟨A, c, e, o, h3⟩ := h
  exact ⟨A, c, e, o.wide h1 h2, h3⟩

theorem trim_stop {xs : List Nat} {k : Nat} (h : Lim xs) (hk : k ≤ xs.length) (hz : ∀ i (h : i < xs.length), k ≤ i → xs[i] = 0) (hl : k = 0 ∨ ∃ h : k - 1 < xs.length, xs[k - 1] ≠ 0) : k = (limbs (V xs)).length := by
  rw [trim_eq h hk hz hl, List.length_take]; omega

set_option maxHeartbeats 400000 in
theorem trim_any (A : Option Addr) (n c B : Nat) (xs : List Nat) (w : World) (hr : Rd w B A (vs xs)) (hn : xs.length = n) (hl : Lim xs) (hc : (n : Int) ≤ c) (hm : (n : Int) ≤ 1000000) :
    Calls Tryz.prog 133 #[.slice A n c] w fun e w' => e = .returned (.slice A (limbs (V xs)).length (limbs (V xs)).length) ∧ ∃ q, w' = w.drewN q := by
  have Hn := Lib.hid hn
  have Hl := Lib.hid hl
  clear hn hl
  go_enter Tryz.func133, Tryz.ntmps133
  go_wp2_with fail
  go_loopw [3] (fun i wr => ∃ k : Nat, k ≤ n ∧ i = .int .i64 k ∧ (∀ i (h : i < xs.length), k ≤ i → xs[i] = 0) ∧ ∃ q, wr = w.drewN q) (fun i _ => (intOf i).toNat)
  case atStart => exact ⟨n, Nat.le_refl _, rfl, fun i h h2 => absurd h (by have := Hn.out; omega), 0, rfl⟩
  case round =>
    obtain ⟨k, hk, rfl, hz, q, hq⟩ := hrel
    have hr := hr.drewN q
    rw [← hq] at hr
    have Hq := Lib.hid hq
    have Hz := Lib.hid hz
    clear hq hz
    by_cases h0 : k = 0
    · have Hk : Hid (k = (limbs (V xs)).length) := Lib.hid (trim_stop Hl.out (by omega) Hz.out (.inl h0))
      subst h0
      clear hr
      go_wp2_with fail
      go_ret
      exact ⟨by rw [← Hk.out]; rfl, q, Hq.out⟩
    · have hk1 : k - 1 < xs.length := by have := Hn.out; omega
      obtain ⟨a, ha, _⟩ := hr.some_ (by rw [vs_len]; omega)
      subst ha
      have hcx := hr.cell (k := k - 1) (by rw [vs_len]; exact hk1)
      rw [vs_get hk1] at hcx
      have hkp : (0 : Int) < k := by omega
      have hkn : (k : Int) ≤ n := by omega
      by_cases hx : xs[k - 1] = 0
      · have Hz2 : Hid (∀ i (h : i < xs.length), k - 1 ≤ i → xs[i] = 0) := Lib.hid (fun i h h2 => by
          by_cases e : i = k - 1
          · subst e; exact hx
          · exact Hz.out i h (by omega))
        rw [hx] at hcx
        clear hr hx
        go_wp2_with fail
        go_roundw
        case rel => exact ⟨k - 1, by omega, by go_num, Hz2.out, q, Hq.out⟩
        case measure => simp [intOf]; omega
      · have Hk : Hid (k = (limbs (V xs)).length) := Lib.hid (trim_stop Hl.out (by have := Hn.out; omega) Hz.out (.inr ⟨hk1, hx⟩))
        have hx2 : (((xs[k - 1] : Nat) : Int) == 0) = false := beq_false_of_ne (by omega)
        generalize xs[k - 1] = x at *
        clear hr hx
        go_wp2_with fail
        go_ret
        exact ⟨by rw [← Hk.out]; rfl, q, Hq.out⟩

theorem own_empty (w : World) (e : TypeId) : (w.alloc (.cells #[] e)).ownsRow w.heap.size e 1 (.slice (some ⟨w.heap.size, 0, none⟩) 0 0) 0 [] :=
  ⟨rfl, .inr ⟨w.heap.size, 0, #[], rfl, Nat.le_refl _, heap_alloc_new w _, Nat.le_refl _, Nat.zero_le _, rfl, rfl⟩⟩
theorem own_form2 {w : World} {base n : Nat} {e : TypeId} {v : Value} {xs : List Value} (h : w.ownsRow base e 1 v n xs) : ∃ A c, v = .slice A n c ∧ n ≤ c := by
  rcases h.2 with ⟨h1, h2⟩ | ⟨g, cap, cur, h1, _, _, h3, _⟩
  · exact ⟨none, 0, by rw [h1, h2], by omega⟩
  · exact ⟨some ⟨g, 0, none⟩, cap, h1, h3⟩

set_option maxHeartbeats 400000 in
theorem own_any (a : Addr) (n c B : Nat) (xs : List Nat) (w : World) (hr : Rd w B (some a) (vs xs)) (hB : B ≤ w.heap.size) (hn : xs.length = n) (hm : n ≤ 1048576) :
    Calls Tryz.prog 111 #[.slice (some a) n c] w fun e w' => ∃ A' c', e = .returned (.slice A' n c') ∧ Ow w' w.heap.size w'.heap.size A' (vs xs) ∧ Below w.heap.size w w' ∧ n ≤ c' := by
  obtain ⟨i0, hi0, hz0, hz1, hz2⟩ := info_parts infoI
  have hnews : ∀ j u, (vs xs)[j]? = some u → (w.alloc (.cells #[] 2)).cell? (a.add j) = some u := fun j u hu => by
    obtain ⟨a', h1, h2, h3⟩ := hr j u hu
    cases h1
    rw [World.cell?_alloc_lt w _ _ (by rw [addr_block]; omega)]
    exact h3
  have Hnews := Lib.hid hnews
  have Hn := Lib.hid hn
  clear hr hnews hn hB
  go_enter Tryz.func111, Tryz.ntmps111
  go_wp2_with (at_builtin; refine wpList_append_own _ rfl (.tmp 3) (.tmp 4) _ rfl w.heap.size 2 i0 _ 1 8 Tryz.underlying44 hi0 hz0 hz1 hz2 rfl (by omega) (.slice (some ⟨w.heap.size, 0, none⟩) 0 0) 0 [] rfl (own_empty w _) a n c (vs xs) rfl (by rw [vs_len, Hn.out, Nat.mul_one]) Hnews.out (vs_one · xs) (by unfold maxLen; omega) (by omega) (by simp) ?_; intro v1 w1 hown hg _)
  have hbw : Below w.heap.size w w1 := ((Below.refl _ _).alloc (Nat.le_refl _) _).grown hg (by simp) (by simp [Value.ownBlock])
  rw [Nat.zero_add, List.nil_append] at hown
  obtain ⟨A', c', rfl, hcap⟩ := own_form2 hown
  have Ho := Lib.hid (Ow.own hown)
  have Hcap := Lib.hid hcap
  have Hb := Lib.hid hbw
  clear hown hg hbw hcap
  go_ret
  exact ⟨A', c', rfl, Ho.out, Hb.out, Hcap.out⟩

set_option maxHeartbeats 400000 in
theorem signed_any (s : Int) (v : Nat) (A : Option Addr) (n c lo hi : Nat) (w : World) (ho : Ow w lo hi A (vs (limbs v))) (hn : (limbs v).length = n) (hm : (n : Int) ≤ 1000000) (hcap : n ≤ c) :
    Calls Tryz.prog 112 #[.int .i64 s, .slice A n c] w fun e w' => ∃ val, e = .returned val ∧ Wr w' lo hi s v val ∧ Below w.heap.size w w' := by
  have hst := store_int Tryz.prog
  have hst2 := store_slice Tryz.prog
  have Ho := Lib.hid ho
  have Hn := Lib.hid hn
  have Hcap := Lib.hid hcap
  clear ho hn hcap
  by_cases h0 : n = 0
  · have Hv : Hid (v = 0) := Lib.hid (limbs_len_zero.1 (by have := Hn.out; omega))
    subst h0
    go_enter Tryz.func112, Tryz.ntmps112
    go_wp2_with fail
    refine bodyPost_ret (v := .agg #[.int .i64 0, .slice none 0 0]) (by simp [results, Tryz.results112, go_sem]) rfl ⟨_, rfl, ⟨none, 0, ?_, ?_, by rw [Hv.out, limbs_zero]; exact Nat.le_refl _⟩, ?_⟩
    · rw [Hv.out, limbs_zero]; rfl
    · rw [Hv.out, limbs_zero]; exact .inl rfl
    · exact (Below.refl _ _).alloc (Nat.le_refl _) _
  · have Hv : Hid (v ≠ 0) := Lib.hid (fun e => h0 (by rw [← Hn.out, e, limbs_zero]; rfl))
    have hn0 : ((n : Int) == 0) = false := beq_false_of_ne (by omega)
    go_enter Tryz.func112, Tryz.ntmps112
    go_wp2_with fail
    refine bodyPost_ret (v := .agg #[.int .i64 s, .slice A n c]) (by simp [results, Tryz.results112, go_sem]) rfl ⟨_, rfl, ⟨A, c, ?_, ?_, by rw [Hn.out]; exact Hcap.out⟩, ?_⟩
    · unfold sg; rw [if_neg Hv.out, Hn.out]
    · exact Ho.out.below' ((Below.refl _ _).alloc (Nat.le_refl _) _)
    · exact (Below.refl _ _).alloc (Nat.le_refl _) _

theorem sg_ne {s : Int} {v : Nat} (h : v ≠ 0) : sg s v = s := if_neg h
set_option maxHeartbeats 1000000 in
theorem make_any (s : Int) (A : Option Addr) (n c B : Nat) (xs : List Nat) (w : World) (hr : Rd w B A (vs xs)) (hB : B ≤ w.heap.size) (hn : xs.length = n) (hl : Lim xs) (hc : (n : Int) ≤ c) (hm : (n : Int) ≤ 1000000) :
    Calls Tryz.prog 86 #[.int .i64 s, .slice A n c] w fun e w' => ∃ val, e = .returned val ∧ Wr w' w.heap.size w'.heap.size s (V xs) val ∧ Below w.heap.size w w' := by
  have hst := store_int Tryz.prog
  have hst2 := store_slice Tryz.prog
  have Hn := Lib.hid hn
  have Hl := Lib.hid hl
  have Hr := Lib.hid hr
  have hb0 : Below w.heap.size w (w.alloc (.cells #[.int .i64 0, .slice none 0 0] 46)) := belAlloc1 _ _
  have Hb0 := Lib.hid hb0
  have HB := Lib.hid hB
  have hr0 := hr.below (hb0.mono hB)
  clear hn hl hr hb0 hB
  go_enter Tryz.func86, Tryz.ntmps86
  go_wp2_with fail
  obtain ⟨w0, hw0⟩ : ∃ w0, w0 = w.alloc (.cells #[.int .i64 0, .slice none 0 0] 46) := ⟨_, rfl⟩
  rw [← hw0] at Hb0 hr0 ⊢
  have c0 : w0.cell? ⟨w.heap.size, 0, none⟩ = some (.int .i64 0) := by rw [hw0]; simp
  have c1 : w0.cell? ⟨w.heap.size, 1, none⟩ = some (.slice none 0 0) := by rw [hw0]; simp
  have f0 : w0.frozen? ⟨w.heap.size, 0, none⟩ = false := by rw [hw0]; go_simp
  have f1 : w0.frozen? ⟨w.heap.size, 1, none⟩ = false := by rw [hw0]; go_simp
  have Hs0 : Hid (w.heap.size + 1 = w0.heap.size) := Lib.hid (by rw [hw0]; simp)
  clear hw0
  go_loopw [5] (fun i wr => ∃ k : Nat, k ≤ n ∧ i = .int .i64 k ∧ (∀ i (h : i < xs.length), k ≤ i → xs[i] = 0) ∧ ∃ q, wr = w0.drewN q) (fun i _ => (intOf i).toNat)
  case atStart => exact ⟨n, Nat.le_refl _, rfl, fun i h h2 => absurd h (by have := Hn.out; omega), 0, rfl⟩
  case round =>
    obtain ⟨k, hk, rfl, hz, q, hq⟩ := hrel
    subst hq
    have hr := hr0.drewN q
    have Hz := Lib.hid hz
    clear hz
    by_cases h0 : k = 0
    · have Hk : Hid (k = (limbs (V xs)).length) := Lib.hid (trim_stop Hl.out (by omega) Hz.out (.inl h0))
      have Hv : Hid (V xs = 0) := Lib.hid (limbs_len_zero.1 (by have := Hk.out; omega))
      subst h0
      clear hr hr0
      go_wp2_with fail
      refine bodyPost_ret (v := .agg #[.int .i64 0, .slice none 0 0]) (by simp [results, Tryz.results86, go_sem, c0, c1]) rfl ⟨_, rfl, ⟨none, 0, ?_, ?_, by rw [Hv.out, limbs_zero]; exact Nat.le_refl _⟩, ?_⟩
      · rw [Hv.out, limbs_zero]; rfl
      · rw [Hv.out, limbs_zero]; exact .inl rfl
      · exact ((below_drewN Hb0.out q).setCell (by simp) _).setCell (by simp) _
    · have hk1 : k - 1 < xs.length := by have := Hn.out; omega
      obtain ⟨a, ha, _⟩ := hr.some_ (by rw [vs_len]; omega)
      subst ha
      have hcx := hr.cell (k := k - 1) (by rw [vs_len]; exact hk1)
      rw [vs_get hk1] at hcx
      have hkp : (0 : Int) < k := by omega
      have hkn : (k : Int) ≤ n := by omega
      by_cases hx : xs[k - 1] = 0
      · have Hz2 : Hid (∀ i (h : i < xs.length), k - 1 ≤ i → xs[i] = 0) := Lib.hid (fun i h h2 => by
          by_cases e : i = k - 1
          · subst e; exact hx
          · exact Hz.out i h (by omega))
        rw [hx] at hcx
        clear hr hx hr0
        go_wp2_with fail
        go_roundw
        case rel => exact ⟨k - 1, by omega, by go_num, Hz2.out, q, rfl⟩
        case measure => simp [intOf]; omega
      · have Hk : Hid (k = (limbs (V xs)).length) := Lib.hid (trim_stop Hl.out (by have := Hn.out; omega) Hz.out (.inr ⟨hk1, hx⟩))
        have Hp : Hid (xs.take k = limbs (V xs)) := Lib.hid (by rw [Hk.out]; exact (limbs_prefix Hl.out).symm)
        have Hrt : Hid (Rd (w0.drewN q) B (some a) (vs (limbs (V xs)))) := Lib.hid (by rw [← Hp.out, vs_take]; exact hr.take k)
        have hx2 : (((xs[k - 1] : Nat) : Int) == 0) = false := beq_false_of_ne (by omega)
        have hk0 : ((k : Int) == 0) = false := beq_false_of_ne (by omega)
        have hk3 : (k : Int) ≤ c := by omega
        have Hv : Hid (V xs ≠ 0) := Lib.hid (fun e => h0 (by rw [Hk.out, e, limbs_zero]; rfl))
        have Hm : Hid (k ≤ 1048576) := Lib.hid (by omega)
        generalize xs[k - 1] = x at *
        clear hr hx hr0
        go_wp2_with fail
        refine (own_any a k c B (limbs (V xs)) (w0.drewN q) Hrt.out (by have := HB.out; have := Hs0.out; simp; omega) Hk.out.symm Hm.out).mono ?_
        rintro e w3 ⟨A', c', rfl, ho, hb, hcap⟩
        have Hcap := Lib.hid hcap
        clear hcap
        have hlt : w.heap.size < (w0.drewN q).heap.size := by have := Hs0.out; simp; omega
        have d0 : w3.cell? ⟨w.heap.size, 0, none⟩ = some (.int .i64 0) := (hb.cell (p := ⟨w.heap.size, 0, none⟩) hlt).trans c0
        have d1 : w3.cell? ⟨w.heap.size, 1, none⟩ = some (.slice none 0 0) := (hb.cell (p := ⟨w.heap.size, 1, none⟩) hlt).trans c1
        have e0 : w3.frozen? ⟨w.heap.size, 0, none⟩ = false := (hb.frozen (p := ⟨w.heap.size, 0, none⟩) hlt).trans f0
        have e1 : w3.frozen? ⟨w.heap.size, 1, none⟩ = false := (hb.frozen (p := ⟨w.heap.size, 1, none⟩) hlt).trans f1
        have Ho := Lib.hid ho
        have Hb := Lib.hid hb
        have Hlt := Lib.hid hlt
        clear c0 c1 f0 f1 ho hb hlt hcx hx2
        go_wp2_with fail
        refine bodyPost_ret (v := .agg #[.int .i64 s, .slice A' k c']) (by simp [results, Tryz.results86, go_sem, d0, d1]) rfl ⟨_, rfl, ⟨A', c', ?_, ?_, by rw [← Hk.out]; exact Hcap.out⟩, ?_⟩
        · rw [sg_ne Hv.out, ← Hk.out]
        · have h := (Ho.out.setCell (p := ⟨w.heap.size, 0, none⟩) (.inl Hlt.out) (.int .i64 s)).setCell (p := ⟨w.heap.size, 1, none⟩) (.inl Hlt.out) (.slice A' k c')
          exact h.wide (by have := Hlt.out; omega) (by simp)
        · exact ((below_drewN Hb0.out q).trans (Hb.out.mono (by have := Hlt.out; omega))).setCell (by simp) _ |>.setCell (by simp) _
end Go.Proofs.YtngminjncdfjdaaGreatDoor
/- Plain facts on the low 24 bits of integers of 64 bits. -/
namespace Go.Proofs.YtngminjncdfjdaaGreatDoor
set_option maxRecDepth 100000
open Go.RowKit

theorem ofInt_toNat64 (z : Int) : ((BitVec.ofInt 64 z).toNat : Int) = z % 18446744073709551616 := by
  rw [BitVec.toNat_ofInt]
  have := Int.emod_nonneg z (show (18446744073709551616 : Int) ≠ 0 by decide)
  omega
theorem mask24 : (BitVec.ofInt 64 16777215).toNat = 2 ^ 24 - 1 := by decide
theorem wrapI_small {n : Int} (h0 : 0 ≤ n) (h : n < 9223372036854775808) : IntKind.i64.wrap n = n := by
  unfold IntKind.wrap
  simp only [show IntKind.i64.bits = 64 from rfl]
  have e : n % (2 ^ 64 : Int) = n := by omega
  rw [e, if_neg]
  simp
  omega
theorem wrapU_small {n : Int} (h0 : 0 ≤ n) (h : n < 9223372036854775808) : IntKind.u64.wrap n = n := by
  unfold IntKind.wrap
  simp only [show IntKind.u64.bits = 64 from rfl]
  have e : n % (2 ^ 64 : Int) = n := by omega
  rw [e, if_neg]
  simp [IntKind.signed]

theorem and24_i64 (z : Int) : bits .and .i64 z 16777215 = z % 16777216 := by
  show IntKind.i64.wrap ((BitVec.ofInt 64 z &&& BitVec.ofInt 64 16777215).toNat : Int) = _
  have h := ofInt_toNat64 z
  rw [BitVec.toNat_and, mask24, Nat.and_two_pow_sub_one_eq_mod]
  rw [wrapI_small (by omega) (by omega)]
  omega
theorem and24_u64 (z : Int) : bits .and .u64 z 16777215 = z % 16777216 := by
  show IntKind.u64.wrap ((BitVec.ofInt 64 z &&& BitVec.ofInt 64 16777215).toNat : Int) = _
  have h := ofInt_toNat64 z
  rw [BitVec.toNat_and, mask24, Nat.and_two_pow_sub_one_eq_mod]
  rw [wrapU_small (by omega) (by omega)]
  omega
theorem wrap64_small {n : Int} (h0 : -9223372036854775808 ≤ n) (h : n ≤ 9223372036854775807) : wrap64 n = n := by unfold wrap64; omega
end Go.Proofs.YtngminjncdfjdaaGreatDoor
/- Results of the chapter's functions in the laws' boxes. -/
namespace Go.Proofs.YtngminjncdfjdaaGreatDoor
set_option maxRecDepth 100000
open Go.RowKit

/-- a whole number is laid into a box -/
def st (w : World) (b : Nat) (s : Int) (A : Option Addr) (n c : Nat) : World := (w.setCell ⟨b, 0, none⟩ (.int .i64 s)).setCell ⟨b, 1, none⟩ (.slice A n c)
section
variable {w : World} {b : Nat} {s : Int} {A : Option Addr} {n c : Nat}
theorem st_size : (st w b s A n c).heap.size = w.heap.size := by unfold st; simp
theorem st_heap {g : Nat} (h : g ≠ b) : (st w b s A n c).heap[g]? = w.heap[g]? := by
  unfold st
  rw [Below.heap_setCell _ _ _ _ (by exact h), Below.heap_setCell _ _ _ _ (by exact h)]
theorem Box.st_ {b' : Nat} {s' : Int} {A' : Option Addr} {n' c' : Nat} (h : Box w b' s' A' n' c') (hne : b' ≠ b) : Box (st w b s A n c) b' s' A' n' c' :=
  ⟨⟨(World.cell?_of_block (a := ⟨b', 0, none⟩) (st_heap hne)).trans h.1.1, (World.cell?_of_block (a := ⟨b', 1, none⟩) (st_heap hne)).trans h.1.2⟩, by rw [st_size]; exact h.2⟩
theorem Ot.st_ {lo hi : Nat} {A' : Option Addr} {xs : List Value} (h : Ot w lo hi A' xs) (hne : b < lo ∨ hi ≤ b) : Ot (st w b s A n c) lo hi A' xs :=
  ⟨h.1.keep (fun g h1 h2 _ => st_heap (by omega)), by rw [st_size]; exact h.2⟩
theorem Rt.st_ {B : Nat} {A' : Option Addr} {xs : List Value} (h : Rt w B A' xs) (hB : B ≤ b) : Rt (st w b s A n c) B A' xs :=
  ⟨h.1.carry (fun p hp => World.cell?_of_block (st_heap (by omega))), by rw [st_size]; exact h.2⟩
theorem belSt {W : World} (h : Below W.heap.size W w) (hb : W.heap.size ≤ b) : Below W.heap.size W (st w b s A n c) := (h.setCell hb _).setCell hb _
theorem Box.made (h : w.cell? ⟨b, 0, none⟩ = some (.int .i64 0) ∧ w.cell? ⟨b, 1, none⟩ = some (.slice none 0 0)) (hb : b < w.heap.size) : Box (st w b s A n c) b s A n c := by
  obtain ⟨h0, h1⟩ := h
  refine ⟨⟨?_, ?_⟩, by rw [st_size]; exact hb⟩ <;> · unfold st; go_simp
end
end Go.Proofs.YtngminjncdfjdaaGreatDoor
/- Twos: how many of the last bits of a number are 0; numbers times powers of two: plain mathematics. -/
namespace Go.Proofs.YtngminjncdfjdaaGreatDoor

/-- how many of the last bits are 0; of 0 it is 0 -/
def tz (v : Nat) : Nat := if _h : v = 0 ∨ v % 2 = 1 then 0 else tz (v / 2) + 1
termination_by v
decreasing_by omega

theorem tz_zero : tz 0 = 0 := by rw [tz]; simp
theorem tz_odd {v : Nat} (h : v % 2 = 1) : tz v = 0 := by rw [tz]; simp [h]
theorem tz_even {v : Nat} (h0 : v ≠ 0) (h : v % 2 = 0) : tz v = tz (v / 2) + 1 := by
  rw [tz, dif_neg (by omega)]

/-- the odd part -/
def od (v : Nat) : Nat := v / 2 ^ tz v
theorem od_zero : od 0 = 0 := by unfold od; simp
theorem tz_spec {v : Nat} (h : v ≠ 0) : v = 2 ^ tz v * od v ∧ od v % 2 = 1 := by
  unfold od
  induction v using Nat.strongRecOn with
  | ind v ih =>
    by_cases h1 : v % 2 = 1
    · rw [tz_odd h1]; simp [h1]
    · have h2 : v % 2 = 0 := by omega
      rw [tz_even h h2]
      obtain ⟨g1, g2⟩ := ih (v / 2) (by omega) (by omega)
      have e : v / 2 ^ (tz (v / 2) + 1) = v / 2 / 2 ^ tz (v / 2) := by rw [Nat.pow_succ, Nat.mul_comm, Nat.div_div_eq_div_mul]
      rw [e]
      refine ⟨?_, g2⟩
      have h3 : v = 2 * (v / 2) := by omega
      have h4 : 2 ^ (tz (v / 2) + 1) * (v / 2 / 2 ^ tz (v / 2)) = 2 * (2 ^ tz (v / 2) * (v / 2 / 2 ^ tz (v / 2))) := by
        rw [Nat.pow_succ, Nat.mul_comm (2 ^ tz (v / 2)) 2, Nat.mul_assoc]
      rw [h4, ← g1]
      exact h3
theorem od_pos {v : Nat} (h : v ≠ 0) : od v ≠ 0 := fun e => by have := (tz_spec h).2; rw [e] at this; simp at this

theorem tz_mul {v : Nat} (h : v ≠ 0) (k : Nat) : tz (2 ^ k * v) = k + tz v := by
  induction k with
  | zero => simp
  | succ k ih =>
    have e : 2 ^ (k + 1) * v = 2 * (2 ^ k * v) := by rw [Nat.pow_succ, Nat.mul_comm (2 ^ k) 2, Nat.mul_assoc]
    have h2 : 2 ^ k * v ≠ 0 := Nat.mul_ne_zero (by have := Nat.two_pow_pos k; omega) h
    rw [e, tz_even (by omega) (by omega), Nat.mul_div_cancel_left _ (by omega), ih]
    omega
theorem od_mul {v : Nat} (h : v ≠ 0) (k : Nat) : od (2 ^ k * v) = od v := by
  unfold od
  rw [tz_mul h, Nat.pow_add, Nat.mul_div_mul_left _ _ (Nat.two_pow_pos k)]
theorem tz_unique {k q : Nat} (h : q % 2 = 1) : tz (2 ^ k * q) = k := by rw [tz_mul (by omega), tz_odd h]; rfl
/-- the bits before it are 0, it is 1 -/
theorem bit_below {v k : Nat} (h : k < tz v) : v / 2 ^ k % 2 = 0 := by
  have hv : v ≠ 0 := fun e => by rw [e, tz_zero] at h; omega
  have h1 := (tz_spec hv).1
  have e : tz v = k + ((tz v - k - 1) + 1) := by omega
  rw [h1]
  rw [e, Nat.pow_add, Nat.mul_assoc, Nat.mul_div_cancel_left _ (Nat.two_pow_pos k), Nat.pow_succ, Nat.mul_comm (2 ^ _) 2, Nat.mul_assoc]
  omega
theorem bit_at {v : Nat} (h : v ≠ 0) : v / 2 ^ tz v % 2 = 1 := (tz_spec h).2
theorem tz_of_bit {v k : Nat} (h : k ≤ tz v) (hb : v / 2 ^ k % 2 ≠ 0) : tz v = k := by
  rcases Nat.lt_or_ge k (tz v) with h1 | h1
  · exact absurd (bit_below h1) hb
  · omega
theorem tz_dvd {v k : Nat} (hv : v ≠ 0) : k ≤ tz v ↔ v % 2 ^ k = 0 := by
  constructor
  · intro h
    rw [(tz_spec hv).1]
    have e : tz v = k + (tz v - k) := by omega
    rw [e, Nat.pow_add, Nat.mul_assoc]
    exact Nat.mul_mod_right _ _
  · intro h
    have h1 : v = 2 ^ k * (v / 2 ^ k) := by have := Nat.div_add_mod v (2 ^ k); omega
    have h2 : v / 2 ^ k ≠ 0 := fun e => by rw [e] at h1; omega
    rw [h1, tz_mul h2]
    omega
theorem tz_lt_dvd {v k : Nat} (hv : v ≠ 0) : tz v < k ↔ v % 2 ^ k ≠ 0 := by
  have := tz_dvd (k := k) hv
  omega

/-- limbs that are 0 come first -/
theorem tz_limbs {xs : List Nat} {i : Nat} (hi : i < xs.length) (h0 : ∀ j (h : j < xs.length), j < i → xs[j] = 0) (hx : xs[i] ≠ 0) (hb : xs[i] < Bs) : tz (V xs) = 24 * i + tz xs[i] := by
  have h1 : V (xs.take i) = 0 := V_zeros fun x hx => by
    obtain ⟨j, hj, rfl⟩ := List.getElem_of_mem hx
    rw [List.getElem_take]
    rw [List.length_take] at hj
    exact h0 j (by omega) (by omega)
  have hB : Bs ^ i = 2 ^ (24 * i) := by rw [Nat.pow_mul]; rfl
  rw [V_take_drop xs i (by omega), h1, Nat.zero_add, V_drop hi, hB]
  obtain ⟨g1, g2⟩ := tz_spec hx
  generalize xs[i] = x at *
  generalize V (xs.drop (i + 1)) = r at *
  have hne : x + Bs * r ≠ 0 := by omega
  rw [tz_mul hne]
  congr 1
  by_cases hs : tz x < 24
  · have e : x + Bs * r = 2 ^ tz x * (od x + 2 * (2 ^ (23 - tz x) * r)) := by
      have e2 : Bs * r = 2 ^ tz x * (2 * (2 ^ (23 - tz x) * r)) := by
        have e3 : Bs = 2 ^ tz x * (2 * 2 ^ (23 - tz x)) := by
          rw [← Nat.pow_succ', ← Nat.pow_add]
          have : tz x + (23 - tz x).succ = 24 := by omega
          rw [this]; rfl
        conv => lhs; rw [e3]
        simp only [Nat.mul_assoc]
      rw [e2, Nat.mul_add, ← g1]
    rw [e]
    exact tz_unique (by omega)
  · exfalso
    have h24 : 2 ^ 24 ≤ 2 ^ tz x := Nat.pow_le_pow_right (by omega) (by omega)
    have h3 : 2 ^ tz x * 1 ≤ 2 ^ tz x * od x := Nat.mul_le_mul_left _ (by omega)
    rw [Bs_eq] at hb
    omega

/-- no more twos than bits -/
theorem tz_le {v n : Nat} (hn : (limbs v).length = n) : tz v ≤ 24 * n := by
  by_cases h : v = 0
  · subst h; rw [tz_zero]; omega
  · have h1 := limbs_len_le.1 (show (limbs v).length ≤ n by omega)
    have hB : Bs ^ n = 2 ^ (24 * n) := by rw [Nat.pow_mul]; rfl
    rw [hB] at h1
    rcases Nat.lt_or_ge (24 * n) (tz v) with h2 | h2
    · exfalso
      have h3 := (tz_spec h).1
      have h4 : 2 ^ (24 * n) ≤ 2 ^ tz v := Nat.pow_le_pow_right (by omega) (by omega)
      have h5 : 2 ^ tz v * 1 ≤ 2 ^ tz v * od v := Nat.mul_le_mul_left _ (by have := od_pos h; omega)
      omega
    · exact h2

/-! numbers times powers of two -/
/-- the number without its last twos, and the exponent that it has then -/
def nz (z : Int) : Int := z.sign * od z.natAbs
def nx (z e : Int) : Int := if z = 0 then 0 else e + tz z.natAbs

theorem nz_zero : nz 0 = 0 := by unfold nz; simp
theorem nx_zero (e : Int) : nx 0 e = 0 := if_pos rfl
theorem nx_ne {z e : Int} (h : z ≠ 0) : nx z e = e + tz z.natAbs := if_neg h
theorem nz_facts (z : Int) : (nz z).sign = z.sign ∧ (nz z).natAbs = od z.natAbs := by
  unfold nz
  rcases Int.lt_trichotomy z 0 with h | h | h
  · have h1 := od_pos (v := z.natAbs) (by omega)
    rw [Int.sign_eq_neg_one_of_neg h]
    exact ⟨Int.sign_eq_neg_one_of_neg (by omega), by omega⟩
  · subst h; simp [od_zero]
  · have h1 := od_pos (v := z.natAbs) (by omega)
    rw [Int.sign_eq_one_of_pos h]
    exact ⟨Int.sign_eq_one_of_pos (by omega), by omega⟩
theorem nz_eq_zero {z : Int} : nz z = 0 ↔ z = 0 := by
  constructor
  · intro h
    have := (nz_facts z).1
    rw [h] at this
    simp at this
    exact Int.sign_eq_zero_iff_zero.1 this.symm
  · rintro rfl; exact nz_zero
theorem nz_odd {z : Int} (h : z ≠ 0) : (nz z).natAbs % 2 = 1 := by
  rw [(nz_facts z).2]
  exact (tz_spec (v := z.natAbs) (by omega)).2
theorem sign_pow_mul (k : Nat) (z : Int) : ((2 : Int) ^ k * z).sign = z.sign := by
  have h : (0 : Int) < 2 ^ k := Int.pow_pos (by omega)
  rw [Int.sign_mul, Int.sign_eq_one_of_pos h, Int.one_mul]
theorem abs_pow_mul (k : Nat) (z : Int) : ((2 : Int) ^ k * z).natAbs = 2 ^ k * z.natAbs := by
  rw [Int.natAbs_mul, Int.natAbs_pow]; rfl
theorem pow_mul_ne {k : Nat} {z : Int} (h : z ≠ 0) : (2 : Int) ^ k * z ≠ 0 := Int.mul_ne_zero (by have : (0 : Int) < 2 ^ k := Int.pow_pos (by omega); omega) h
theorem nz_shl (k : Nat) (z : Int) : nz ((2 : Int) ^ k * z) = nz z := by
  by_cases h : z = 0
  · subst h; simp
  · unfold nz
    rw [sign_pow_mul, abs_pow_mul, od_mul (by omega)]
theorem nx_shl (k : Nat) (z e : Int) : nx ((2 : Int) ^ k * z) e = nx z (e + k) := by
  by_cases h : z = 0
  · subst h; simp [nx_zero]
  · rw [nx_ne h, nx_ne (pow_mul_ne h), abs_pow_mul, tz_mul (by omega)]
    omega
/-- an exact number: its value is z times two to the e -/
def okD (z e : Int) : Prop := (limbs z.natAbs).length ≤ 100 ∧ -3000 ≤ e ∧ e ≤ 3000 ∧ (z = 0 → e = 0) ∧ (z ≠ 0 → z.natAbs % 2 = 1)
/-- both sides of a sum at the lesser exponent -/
def sumZ (z e z' e' : Int) : Int := (2 : Int) ^ (e - min e e').toNat * z + (2 : Int) ^ (e' - min e e').toNat * z'
theorem sumZ_ge {z e z' e' : Int} (h : e' ≤ e) : sumZ z e z' e' = (2 : Int) ^ (e - e').toNat * z + z' := by
  unfold sumZ
  rw [Int.min_eq_right h, Int.sub_self]
  simp
theorem sumZ_le {z e z' e' : Int} (h : e ≤ e') : sumZ z e z' e' = z + (2 : Int) ^ (e' - e).toNat * z' := by
  unfold sumZ
  rw [Int.min_eq_left h, Int.sub_self]
  simp
theorem sumZ_comm (z e z' e' : Int) : sumZ z e z' e' = sumZ z' e' z e := by
  unfold sumZ
  rw [Int.min_comm, Int.add_comm]
/-- a sum with 0, whatever the exponent of 0 -/
theorem sum_zero_left {e z' e' : Int} : nz (sumZ 0 e z' e') = nz z' ∧ nx (sumZ 0 e z' e') (min e e') = nx z' e' := by
  have h : sumZ 0 e z' e' = (2 : Int) ^ (e' - min e e').toNat * z' := by unfold sumZ; simp
  rw [h, nz_shl, nx_shl]
  refine ⟨rfl, ?_⟩
  congr 1
  have := Int.min_le_right e e'
  omega
theorem sum_zero_right {z e e' : Int} : nz (sumZ z e 0 e') = nz z ∧ nx (sumZ z e 0 e') (min e e') = nx z e := by
  rw [sumZ_comm, Int.min_comm]
  exact sum_zero_left

/-- the number that is not greater, shifted -/
def shZ (z s : Int) : Int := if 0 ≤ s then (2 : Int) ^ s.toNat * z else z / (2 : Int) ^ (-s).toNat
theorem shZ_up {z s : Int} (h : 0 ≤ s) : shZ z s = (2 : Int) ^ s.toNat * z := if_pos h
theorem shZ_down {z s : Int} (h : s < 0) : shZ z s = z / (2 : Int) ^ (-s).toNat := if_neg (by omega)
theorem pow_cast (k : Nat) : (2 : Int) ^ k = ((2 ^ k : Nat) : Int) := by rw [Int.natCast_pow]; rfl
theorem shr_pos (v k : Nat) : (v : Int) / (2 : Int) ^ k = ((v / 2 ^ k : Nat) : Int) := by rw [pow_cast, Int.natCast_ediv]
theorem shr_neg (v k : Nat) : -(v : Int) / (2 : Int) ^ k = -(((v / 2 ^ k + if v % 2 ^ k = 0 then 0 else 1 : Nat)) : Int) := by
  rw [pow_cast]
  have hp := Nat.two_pow_pos k
  generalize 2 ^ k = m at *
  have h1 := Nat.div_add_mod v m
  have h2 := Nat.mod_lt v hp
  generalize hq : v / m = q at *
  generalize hr : v % m = r at *
  by_cases h0 : r = 0
  · rw [if_pos h0]
    subst h0
    have e : -(v : Int) = (m : Int) * (-(q : Int)) := by rw [← h1]; simp [Int.mul_neg]
    rw [e, Int.mul_ediv_cancel_left _ (by omega)]
    simp
  · rw [if_neg h0]
    have e : -(v : Int) = ((m : Int) - r) + (m : Int) * (-((q : Int) + 1)) := by
      rw [← h1]; simp [Int.mul_neg, Int.mul_add]; omega
    rw [e, Int.add_mul_ediv_left _ _ (by omega), Int.ediv_eq_zero_of_lt (by omega) (by omega)]
    simp
end Go.Proofs.YtngminjncdfjdaaGreatDoor
