/- What a whole number is: plain mathematics. -/
import Derived.Test.YtlhdlomabgoadaaNz
namespace Go.Proofs.Ytlhdlomabgoadaa

/-- limbs as integers -/
def li (xs : List Nat) : List Int := xs.map fun (n : Nat) => (n : Int)
theorem li_len (xs : List Nat) : (li xs).length = xs.length := by unfold li; simp

theorem li_get {xs : List Nat} {k : Nat} (h : k < xs.length) : (li xs)[k]'(by rw [li_len]; exact h) = (xs[k] : Nat) := by unfold li; simp
theorem li_last {ys : List Nat} (h : li ys ≠ []) (h2 : ys ≠ []) : (li ys).getLast h = ((ys.getLast h2 : Nat) : Int) := by
  rw [List.getLast_eq_getElem, List.getLast_eq_getElem, li_get (by have := List.length_pos_iff.2 h2; rw [li_len]; omega)]
  simp only [li_len]

/-- a sign and limbs that are a whole number -/
def okW (s : Int) (xs : List Int) : Prop :=
  -1 ≤ s ∧ s ≤ 1 ∧ (s = 0 ↔ xs = []) ∧ xs.length ≤ 100 ∧ (∀ x ∈ xs, 0 ≤ x ∧ x ≤ 16777215) ∧ (∀ h : xs ≠ [], xs.getLast h ≠ 0)

open Classical in
noncomputable def isW (s : Int) (xs : List Int) : Bool := decide (okW s xs)
open Classical in
theorem isW_true {s : Int} {xs : List Int} (h : okW s xs) : isW s xs = true := by unfold isW; exact decide_eq_true h
open Classical in
theorem isW_false {s : Int} {xs : List Int} (h : ¬ okW s xs) : isW s xs = false := by unfold isW; exact decide_eq_false h
open Classical in
theorem okW_of {s : Int} {xs : List Int} (h : isW s xs = true) : okW s xs := by unfold isW at h; exact of_decide_eq_true h

/-- the whole number with a value -/
def isZ (z : Int) (s : Int) (xs : List Int) : Prop := s = z.sign ∧ xs = li (limbs z.natAbs) ∧ (limbs z.natAbs).length ≤ 100

theorem sign_mul_abs (s : Int) (v : Nat) (h1 : -1 ≤ s) (h2 : s ≤ 1) (h3 : s = 0 ↔ v = 0) : (s * v).sign = s ∧ (s * v).natAbs = v := by
  have hs : s = -1 ∨ s = 0 ∨ s = 1 := by omega
  rcases hs with rfl | rfl | rfl
  · have hv : v ≠ 0 := fun e => by have := h3.2 e; omega
    refine ⟨?_, by omega⟩
    exact Int.sign_eq_neg_one_of_neg (by omega)
  · have hv : v = 0 := h3.1 rfl
    subst hv; simp
  · have hv : v ≠ 0 := fun e => by have := h3.2 e; omega
    refine ⟨?_, by omega⟩
    exact Int.sign_eq_one_of_pos (by omega)

theorem nat_of_int_list {xs : List Int} (h : ∀ x ∈ xs, 0 ≤ x ∧ x ≤ 16777215) : ∃ ys : List Nat, xs = li ys ∧ Lim ys := by
  refine ⟨xs.map Int.toNat, ?_, ?_⟩
  · unfold li
    rw [List.map_map]
    conv => lhs; rw [← List.map_id xs]
    apply List.map_congr_left
    intro x hx
    have := h x hx
    simp
    omega
  · intro y hy
    obtain ⟨x, hx, rfl⟩ := List.mem_map.1 hy
    have := h x hx
    rw [Bs_eq]
    omega

theorem okW_iff {s : Int} {xs : List Int} : okW s xs ↔ ∃ z, isZ z s xs := by
  constructor
  · rintro ⟨h1, h2, h3, h4, h5, h6⟩
    obtain ⟨ys, rfl, hy⟩ := nat_of_int_list h5
    have hlast : ∀ h : ys ≠ [], ys.getLast h ≠ 0 := by
      intro h e
      refine h6 (by intro e2; exact h (by simpa [li] using e2)) ?_
      unfold li
      rw [List.getLast_map, e]; rfl
    have hc := can_eq hy hlast
    have hv : s = 0 ↔ V ys = 0 := by
      rw [h3]
      constructor
      · intro e
        have : ys = [] := by simpa [li] using e
        rw [this]; rfl
      · intro e
        rw [e, limbs_zero] at hc
        rw [← hc]; rfl
    obtain ⟨g1, g2⟩ := sign_mul_abs s (V ys) h1 h2 hv
    refine ⟨s * V ys, g1.symm, by rw [g2, hc], by rw [g2, hc]; rw [li_len] at h4; exact h4⟩
  · rintro ⟨z, rfl, rfl, h⟩
    refine ⟨?_, ?_, ?_, by rw [li_len]; exact h, ?_, ?_⟩
    · rcases Int.lt_trichotomy z 0 with h | h | h
      · rw [Int.sign_eq_neg_one_of_neg h]; omega
      · subst h; simp
      · rw [Int.sign_eq_one_of_pos h]; omega
    · rcases Int.lt_trichotomy z 0 with h | h | h
      · rw [Int.sign_eq_neg_one_of_neg h]; omega
      · subst h; simp
      · rw [Int.sign_eq_one_of_pos h]; omega
    · rw [Int.sign_eq_zero_iff_zero]
      constructor
      · rintro rfl; simp [limbs_zero, li]
      · intro e
        have : limbs z.natAbs = [] := by simpa [li] using e
        have := limbs_eq_nil.1 this
        omega
    · intro x hx
      unfold li at hx
      obtain ⟨n, hn, rfl⟩ := List.mem_map.1 hx
      have := Lim_limbs _ n hn
      rw [Bs_eq] at this
      omega
    · intro h e
      have h2 : limbs z.natAbs ≠ [] := fun e2 => h (by rw [e2]; rfl)
      have e3 := li_last h h2
      exact limbs_last _ h2 (by omega)
end Go.Proofs.Ytlhdlomabgoadaa
