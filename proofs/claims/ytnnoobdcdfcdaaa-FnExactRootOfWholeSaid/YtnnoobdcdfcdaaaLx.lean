/- What a whole number of the laws that came in is. -/
import Derived.Test.YtnnoobdcdfcdaaaBx
import Derived.Test.YtnnoobdcdfcdaaaWm
import Derived.Test.YtnnoobdcdfcdaaaIx
import Derived.Test.YtnnoobdcdfcdaaaLw
import Derived.Lib.SmallJoins
namespace Go.Proofs.Ytnnoobdcdfcdaaa
set_option maxRecDepth 100000
open Go.ChangeShapes Go.WideShapes Go.ChangeAt Go.RowKit Go.Deep

section
variable {H : Type} {enc : TypeId × Value → H}

/-- the integers of a slice that came in -/
theorem open_i64s_at {W : World} {fuel : Nat} {v : Value} {y : DataW H × List MemPlace} (h : DataW.trod enc Try.prog W 0 (fun _ => true) true fuel 22 [v] = some y) :
    ∃ (A : Option Addr) (n c : Nat) (xs : List Int), v = .slice A n c ∧ Rd W W.heap.size A (vi xs) ∧ xs.length = n ∧ (n : Int) ≤ 9223372036854775807 ∧ (∀ x ∈ xs, -9223372036854775808 ≤ x ∧ x ≤ 9223372036854775807) := by
  rcases open_slice1 Try.underlying22 (by kernel_rfl) h with ⟨h1, _⟩ | ⟨a, len, cap, m, n, Vv, D, Pl, h1, _, hlc, hcap, hm, _, hel⟩
  · simp at h1
    exact ⟨none, 0, 0, [], h1, Rd.nil_, rfl, by simp, by simp⟩
  · simp at h1
    have hlen : len ≤ m := by rw [hm]; split <;> omega
    have hb : ∀ i, i < len → ∃ b : Int, Vv i = .int .i64 b ∧ -9223372036854775808 ≤ b ∧ b ≤ 9223372036854775807 := fun i hi => by
      obtain ⟨z, e, _, hw⟩ := DataW.trod_int Try.underlying2 (hel i (by omega)).2
      simp only [Lit.wf, Bool.and_eq_true, decide_eq_true_eq] at hw
      exact ⟨z, by simpa using e, hw⟩
    let f : Nat → Int := fun i => match Vv i with | .int _ b => b | _ => 0
    have hV : ∀ i, i < len → Vv i = .int .i64 (f i) := fun i hi => by
      obtain ⟨b, e, _⟩ := hb i hi
      simp only [f, e]
    refine ⟨some a, len, cap, (List.range len).map f, h1, ?_, by simp, by unfold maxLen at hcap; omega, ?_⟩
    · intro k u hu
      have hk : k < len := by
        have := (List.getElem?_eq_some_iff.1 hu).1
        rw [vi_len] at this
        simpa using this
      have hc := (hel k (by omega)).1
      refine ⟨a, rfl, ?_, ?_⟩
      · have := World.block_lt_of_cell? W _ hc
        rwa [addr_block] at this
      · rw [hc, hV k hk]
        unfold vi at hu
        simp only [List.getElem?_map, List.getElem?_range hk, Option.map_some] at hu
        exact hu
    · intro x hx
      obtain ⟨i, hi, rfl⟩ := List.mem_map.1 hx
      obtain ⟨b, e, hlt⟩ := hb i (by simpa using hi)
      simp only [f, e]
      exact hlt

theorem trod_i64 {w : World} {base : Nat} {spare : Nat → Bool} {held : Bool} {n : Nat} {v : Value} {y : DataW H × List MemPlace} (h : DataW.trod enc Try.prog w base spare held n 2 [v] = some y) :
    ∃ z, v = .int .i64 z ∧ -9223372036854775808 ≤ z ∧ z ≤ 9223372036854775807 := by
  obtain ⟨z, e, _, hw⟩ := DataW.trod_int Try.underlying2 h
  simp only [Lit.wf, Bool.and_eq_true, decide_eq_true_eq] at hw
  exact ⟨z, by simpa using e, hw⟩

/-- a whole number that came in -/
theorem open_whole {W : World} {base : Nat} {v : Value} {d : DataW H} {p : List MemPlace} (hval : Value.okWide Try.prog W .any base 24 v)
    (h : DataW.Trod enc Try.prog W 0 (fun _ => true) true 24 v d p) :
    ∃ (s : Int) (A : Option Addr) (n c : Nat) (xs : List Int), v = .agg #[.int .i64 s, .slice A n c] ∧ Rd W W.heap.size A (vi xs) ∧ (xs.length = n ∧ (n : Int) ≤ 9223372036854775807) ∧ (∀ x ∈ xs, -9223372036854775808 ≤ x ∧ x ≤ 9223372036854775807) := by
  obtain ⟨v0, v1, y0, y1, m, rfl, _, _, h0, h1⟩ := Go.Joins.open_agg2 Try.underlying24 (by kernel_rfl) (by kernel_rfl) hval h
  obtain ⟨s, rfl, _, _⟩ := trod_i64 h0
  obtain ⟨A, n, c, xs, rfl, hr, hl, hm, hx⟩ := open_i64s_at h1
  exact ⟨s, A, n, c, xs, rfl, hr, ⟨hl, hm⟩, hx⟩
end
end Go.Proofs.Ytnnoobdcdfcdaaa
