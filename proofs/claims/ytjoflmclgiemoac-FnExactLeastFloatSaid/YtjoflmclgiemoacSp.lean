/- Plain facts on lists of floats: exchanging neighbours, sorted but for one place. -/
import Derived.Test.YtjoflmclgiemoacTl
namespace Go.Proofs.Ytjoflmclgiemoac

/-- the list with the elements at j and j + 1 exchanged -/
def swapAt (ys : List Nat) (j : Nat) : List Nat := (ys.set (j + 1) (ys.getD j 0)).set j (ys.getD (j + 1) 0)

theorem swapAt_length (ys : List Nat) (j : Nat) : (swapAt ys j).length = ys.length := by simp [swapAt]
theorem swapAt_getD (ys : List Nat) (j p : Nat) (h : j + 1 < ys.length) : (swapAt ys j).getD p 0 = if p = j then ys.getD (j + 1) 0 else if p = j + 1 then ys.getD j 0 else ys.getD p 0 := by
  unfold swapAt
  simp only [List.getD_eq_getElem?_getD, List.getElem?_set]
  by_cases h1 : p = j
  · subst h1
    have : p < ys.length := by omega
    simp [this]
  · by_cases h2 : p = j + 1
    · subst h2
      simp [h]
    · have a1 : ¬ j = p := by omega
      have a2 : ¬ j + 1 = p := by omega
      simp [a1, a2, h1, h2]

theorem swapAt_perm (ys : List Nat) (j : Nat) (h : j + 1 < ys.length) : (swapAt ys j).Perm ys := by
  rw [List.perm_iff_count]
  intro x
  have e1 : ys.getD j 0 = ys[j] := by simp [List.getD_eq_getElem?_getD, List.getElem?_eq_getElem (show j < ys.length by omega)]
  have e2 : ys.getD (j + 1) 0 = ys[j + 1] := by simp [List.getD_eq_getElem?_getD, List.getElem?_eq_getElem h]
  unfold swapAt
  rw [e1, e2, List.count_set (by simp; omega), List.count_set h, List.getElem_set_ne (by omega)]
  have c1 : 0 < ys.count ys[j] := List.count_pos_iff.2 (List.getElem_mem _)
  have c2 : 0 < ys.count ys[j + 1] := List.count_pos_iff.2 (List.getElem_mem _)
  by_cases h1 : ys[j + 1] = x <;> by_cases h2 : ys[j] = x
  · subst h1; simp [h2]
  · subst h1; simp [h2]
  · subst h2; simp [h1]
  · simp [h1, h2]

/-- sorted up to place m, but for the pairs whose greater place is k -/
def SortedBut (ys : List Nat) (m k : Nat) : Prop := ∀ p q, p < q → q < m → q ≠ k → rank32 (ys.getD p 0) ≤ rank32 (ys.getD q 0)
def SortedTo (ys : List Nat) (m : Nat) : Prop := ∀ p q, p < q → q < m → rank32 (ys.getD p 0) ≤ rank32 (ys.getD q 0)

theorem SortedTo.but {ys : List Nat} {m : Nat} (h : SortedTo ys m) : SortedBut ys (m + 1) m := fun p q h1 h2 h3 => h p q h1 (by omega)
theorem SortedBut.zero {ys : List Nat} {m : Nat} (h : SortedBut ys m 0) : SortedTo ys m := fun p q h1 h2 => h p q h1 h2 (by omega)
theorem SortedBut.stop {ys : List Nat} {m j : Nat} (h : SortedBut ys m (j + 1)) (hm : j + 1 < m) (hj : ¬ rank32 (ys.getD (j + 1) 0) < rank32 (ys.getD j 0)) : SortedTo ys m := by
  intro p q h1 h2
  by_cases e : q = j + 1
  · subst e
    by_cases e2 : p = j
    · subst e2; omega
    · have := h p j (by omega) (by omega) (by omega)
      omega
  · exact h p q h1 h2 e
theorem SortedBut.swap {ys : List Nat} {m j : Nat} (h : SortedBut ys m (j + 1)) (hm : j + 1 < m) (hl : m ≤ ys.length) (hj : rank32 (ys.getD (j + 1) 0) < rank32 (ys.getD j 0)) : SortedBut (swapAt ys j) m j := by
  intro p q h1 h2 h3
  rw [swapAt_getD _ _ _ (by omega), swapAt_getD _ _ _ (by omega)]
  by_cases e1 : p = j
  · subst e1
    rw [if_pos rfl, if_neg (by omega)]
    by_cases e2 : q = p + 1
    · rw [if_pos e2]; omega
    · rw [if_neg e2]; exact h (p + 1) q (by omega) h2 e2
  · rw [if_neg e1, if_neg h3]
    by_cases e2 : p = j + 1
    · rw [if_pos e2, if_neg (by omega)]
      exact h j q (by omega) h2 (by omega)
    · rw [if_neg e2]
      by_cases e3 : q = j + 1
      · rw [if_pos e3]; exact h p j (by omega) (by omega) (by omega)
      · rw [if_neg e3]; exact h p q h1 h2 e3
end Go.Proofs.Ytjoflmclgiemoac
