/- Texts of this seat, joined: Tg -/
import Derived.Test.YtnecnbonnidijaaDoorGB9
import Derived.Test.YtnecnbonnidijaaDoorGB7
import Derived.Test.YtnecnbonnidijaaDoorGB1
/- The laws' markFloat32S and heldFloat32S: marks into a row of one's own, and found there again. -/
namespace Go.Proofs.YtnecnbonnidijaaDoor
set_option maxRecDepth 100000
open Go.RowKit
set_option linter.unusedSimpArgs false
set_option linter.unusedVariables false

/-- a row that the call made, or its first part: the cells of a block from lo on and before hi, none of them frozen -/
def Fw (w : World) (lo hi : Nat) (A : Option Addr) (xs : List Value) : Prop :=
  xs = [] ∨ ∃ g cs, A = some ⟨g, 0, none⟩ ∧ lo ≤ g ∧ g < hi ∧ w.heap[g]? = some (.cells cs 40 (0, 0)) ∧ cs.toList.take xs.length = xs

section
variable {w w' : World} {lo lo' hi hi' : Nat} {A : Option Addr} {xs : List Value}
theorem Fw.nil_ : Fw w lo hi A [] := .inl rfl
theorem Fw.lt (h : Fw w lo hi A xs) (hx : xs ≠ []) : ∃ g, A = some ⟨g, 0, none⟩ ∧ lo ≤ g ∧ g < hi ∧ g < w.heap.size := by
  rcases h with h | ⟨g, cs, h1, h2, h3, h4, _⟩
  · exact absurd h hx
  · exact ⟨g, h1, h2, h3, (Array.getElem?_eq_some_iff.1 h4).1⟩
theorem Fw.rd (h : Fw w lo hi A xs) : Rd w hi A xs := fun k u hu => by
  rcases h with rfl | ⟨g, cs, rfl, _, h3, h4, h5⟩
  · simp at hu
  · refine ⟨_, rfl, h3, ?_⟩
    rw [add_zero_off, cell_of_row w g k cs 40 (0, 0) h4]
    have hk : k < xs.length := (List.getElem?_eq_some_iff.1 hu).1
    rw [← h5, List.getElem?_take, if_pos hk] at hu
    simpa using hu
theorem Fw.wide (h : Fw w lo hi A xs) (h1 : lo' ≤ lo) (h2 : hi ≤ hi') : Fw w lo' hi' A xs := by
  rcases h with h | ⟨g, cs, a, b, c, d⟩
  · exact .inl h
  · exact .inr ⟨g, cs, a, by omega, by omega, d⟩
theorem Fw.keep (h : Fw w lo hi A xs) (hk : ∀ g, lo ≤ g → g < hi → g < w.heap.size → w'.heap[g]? = w.heap[g]?) : Fw w' lo hi A xs := by
  rcases h with h | ⟨g, cs, a, b, c, d, e⟩
  · exact .inl h
  · exact .inr ⟨g, cs, a, b, c, (hk g b c (Array.getElem?_eq_some_iff.1 d).1).trans d, e⟩
theorem Fw.below {B : Nat} (h : Fw w lo hi A xs) (hb : Below B w w') (hB : hi ≤ B) : Fw w' lo hi A xs := h.keep fun g _ h2 _ => hb.block g (by omega)
theorem Fw.below' (h : Fw w lo hi A xs) (hb : Below w.heap.size w w') : Fw w' lo hi A xs := h.keep fun g _ _ h2 => hb.block g h2
theorem Fw.grown {row : Option Nat} (h : Fw w lo hi A xs) (hg : w.grownBy w' row) (hr : ∀ g, row = some g → g < lo ∨ hi ≤ g) : Fw w' lo hi A xs :=
  h.keep fun g h1 h2 h3 => hg.block g h3 (fun e => by have := hr g e.symm; omega)
theorem Fw.setCell (h : Fw w lo hi A xs) {p : Addr} (hp : p.block < lo ∨ hi ≤ p.block) (u : Value) : Fw (w.setCell p u) lo hi A xs := h.keep fun g _ _ _ => Below.heap_setCell _ _ _ _ (by omega)
theorem Fw.alloc (h : Fw w lo hi A xs) (o : Obj) : Fw (w.alloc o) lo hi A xs := h.keep fun _ _ _ h3 => Below.heap_alloc _ _ _ h3
theorem Fw.drewN (h : Fw w lo hi A xs) (n : Nat) : Fw (w.drewN n) lo hi A xs := h
theorem Fw.take (h : Fw w lo hi A xs) (k : Nat) : Fw w lo hi A (xs.take k) := by
  rcases h with rfl | ⟨g, cs, a, b, c, d, e⟩
  · exact .inl (by simp)
  · refine .inr ⟨g, cs, a, b, c, d, ?_⟩
    rw [List.length_take, ← List.take_take, e]
theorem Fw.own {n c : Nat} (h : w.ownsRow lo 40 1 (.slice A n c) n xs) : Fw w lo w.heap.size A xs := by
  rcases h.2 with ⟨_, h1⟩ | ⟨g, cap, cs, hv, h1, h2, _, _, _, h3⟩
  · exact .inl (List.eq_nil_of_length_eq_zero (by have := h.1; omega))
  · injection hv with hA
    subst hA
    refine .inr ⟨g, cs, rfl, h1, (Array.getElem?_eq_some_iff.1 h2).1, h2, ?_⟩
    have : xs.length = n * 1 := h.1
    rw [this]; exact h3
/-- a store into it -/
theorem Fw.stored (h : Fw w lo hi A xs) {k : Nat} (hk : k < xs.length) (u : Value) : ∃ g, A = some ⟨g, 0, none⟩ ∧ lo ≤ g ∧ g < hi ∧ w.cell? ⟨g, k, none⟩ = some xs[k] ∧ w.frozen? ⟨g, k, none⟩ = false ∧
    Fw (w.setCell ⟨g, k, none⟩ u) lo hi A (xs.set k u) ∧ w.grownBy (w.setCell ⟨g, k, none⟩ u) (some g) := by
  rcases h with rfl | ⟨g, cs, rfl, h2, h3, h4, h5⟩
  · simp at hk
  · have hc := cell_of_row w g k cs 40 (0, 0) h4
    refine ⟨g, rfl, h2, h3, ?_, by simp [World.frozen?, h4], .inr ⟨g, cs.setIfInBounds k u, rfl, h2, h3, ?_, ?_⟩, rfl, rfl, rfl, by simp [World.setCell], fun b hb hne => Below.heap_setCell _ _ _ _ (fun e => hne (by rw [e]))⟩
    · rw [hc]
      have h6 : xs[k]? = some xs[k] := List.getElem?_eq_getElem hk
      rw [← h6]
      conv => rhs; rw [← h5]
      rw [List.getElem?_take, if_pos hk]
      simp
    · simp [World.setCell, Array.getElem?_modify, h4]
    · rw [List.length_set, Array.toList_setIfInBounds, List.take_set, h5]
end

def Ft (w : World) (lo hi : Nat) (A : Option Addr) (xs : List Value) : Prop := Fw w lo hi A xs ∧ hi ≤ w.heap.size
theorem Ft.next {w w' : World} {lo hi : Nat} {A : Option Addr} {xs : List Value} (h : Ft w lo hi A xs) (hb : Below w.heap.size w w') : Ft w' lo hi A xs := ⟨h.1.below' hb, Nat.le_trans h.2 hb.size⟩
theorem Ft.rt {w : World} {lo hi : Nat} {A : Option Addr} {xs : List Value} (h : Ft w lo hi A xs) : Rt w hi A xs := ⟨h.1.rd, h.2⟩
theorem Ft.new {w : World} {lo : Nat} {A : Option Addr} {xs : List Value} (h : Fw w lo w.heap.size A xs) : Ft w lo w.heap.size A xs := ⟨h, Nat.le_refl _⟩
theorem Ft.grown {w w' : World} {lo hi lo' hi' : Nat} {A : Option Addr} {xs : List Value} {row : Option Nat} (h : Ft w lo hi A xs) (hg : w.grownBy w' row) (hr : ∀ g, row = some g → lo' ≤ g ∧ g < hi') (hne : hi ≤ lo' ∨ hi' ≤ lo) : Ft w' lo hi A xs :=
  ⟨h.1.grown hg (fun g e => by have := hr g e; omega), Nat.le_trans h.2 hg.size⟩
def marksF (z : Int) (n : Nat) : List Nat := (List.range n).map fun (i : Nat) => floatOfInt .f32 (z + i)
theorem marksF_len (z : Int) (n : Nat) : (marksF z n).length = n := by unfold marksF; simp
theorem marksF_get {z : Int} {n i : Nat} (h : i < n) : (marksF z n)[i]'(by rw [marksF_len]; exact h) = floatOfInt .f32 (z + i) := by unfold marksF; simp
theorem marksF_step (z : Int) (n : Nat) (xs : List Nat) (hl : xs.length = n) (k : Nat) (hk : k < n) : ((marksF z n).take k ++ xs.drop k).set k (floatOfInt .f32 (z + k)) = (marksF z n).take (k + 1) ++ xs.drop (k + 1) := by
  apply List.ext_getElem?
  intro i
  rw [List.getElem?_set]
  have hm := marksF_len z n
  by_cases h1 : k = i
  · subst h1
    rw [if_pos rfl, if_pos (by simp; omega)]
    rw [List.getElem?_append_left (by simp; omega), List.getElem?_take, if_pos (by omega), List.getElem?_eq_getElem (by omega), marksF_get hk]
  · rw [if_neg h1]
    by_cases h2 : i < k
    · rw [List.getElem?_append_left (by simp; omega), List.getElem?_append_left (by simp; omega), List.getElem?_take, List.getElem?_take, if_pos h2, if_pos (by omega)]
    · rw [List.getElem?_append_right (by simp; omega), List.getElem?_append_right (by simp; omega), List.getElem?_drop, List.getElem?_drop]
      congr 1
      simp
      omega
theorem fs_set (xs : List Nat) (k b : Nat) : (fs xs).set k (.float .f32 b) = fs (xs.set k b) := by unfold fs; rw [List.map_set]

set_option maxHeartbeats 400000 in
theorem markF_any (A : Option Addr) (n c : Nat) (z : Int) (xs : List Nat) (lo hi : Nat) (w : World) (ho : Fw w lo hi A (fs xs)) (hn : xs.length = n) (hm : n ≤ 4194304) (hz0 : 0 ≤ z) (hz : z ≤ 4194304) :
    Calls Tryd.prog 33 #[.slice A n c, .int .i64 z] w fun e w' => e = .returned (.int .i64 (z + n)) ∧ Fw w' lo hi A (fs (marksF z n)) ∧ ∃ row, w.grownBy w' row ∧ ∀ g, row = some g → lo ≤ g ∧ g < hi := by
  have hst := store_float Tryd.prog
  have Hn := Lib.hid hn
  have Hgr : ∃ row, w.grownBy w row ∧ (∀ g, row = some g → lo ≤ g ∧ g < hi ∧ A = some ⟨g, 0, none⟩) ∧ (row = none → n = 0) := by
    by_cases h0 : n = 0
    · exact ⟨none, World.grownBy.refl _ _, fun g h => (by cases h), fun _ => h0⟩
    · obtain ⟨g, hA, h1, h2, _⟩ := ho.lt (fun e => h0 (by rw [← hn, ← fs_len, e]; rfl))
      exact ⟨some g, World.grownBy.refl _ _, fun g' h => by injection h with h; subst h; exact ⟨h1, h2, hA⟩, fun h => by cases h⟩
  obtain ⟨row, hg0, hrow, hrow0⟩ := Hgr
  have Hrow := Lib.hid hrow
  have Hrow0 := Lib.hid hrow0
  have Hg0 := Lib.hid hg0
  clear hn hrow hrow0 hg0
  go_enter Tryd.func33, Tryd.ntmps33
  go_wp2_with fail
  go_loopw [1, 5] (fun kk i wr => ∃ k : Nat, k ≤ n ∧ i = .int .i64 k ∧ kk = .int .i64 (z + k) ∧ Fw wr lo hi A (fs ((marksF z n).take k ++ xs.drop k)) ∧ w.grownBy wr row) (fun _ i _ => n - (intOf i).toNat)
  case atStart => exact ⟨0, Nat.zero_le _, rfl, by simp, by simpa using ho, Hg0.out⟩
  case round =>
    clear ho
    obtain ⟨k, hk, rfl, rfl, ho, hg⟩ := hrel
    by_cases hlt : k < n
    · have hkx : k < ((marksF z n).take k ++ xs.drop k).length := by have := Hn.out; have := marksF_len z n; simp; omega
      obtain ⟨g, hA, hl1, hl2, hc, hf, ho2, hg2⟩ := ho.stored (k := k) (by rw [fs_len]; exact hkx) (.float .f32 (floatOfInt .f32 (z + k)))
      rw [fs_set, marksF_step z n xs Hn.out k hlt] at ho2
      subst hA
      have Hrow2 : Hid (row = some g) := Lib.hid (by
        rcases hrow : row with _ | g'
        · exact absurd (Hrow0.out hrow) (by omega)
        · have := (Hrow.out g' hrow).2.2
          injection this with this
          injection this with this
          rw [this])
      obtain ⟨F, hF⟩ : ∃ F, F = floatOfInt .f32 (z + k) := ⟨_, rfl⟩
      have hcv : ∀ w, (convert 3 40 (.int .i64 (z + k))).run Tryd.prog w = .ok (.float .f32 F) w := fun w => by rw [hF]; exact run_convert_int_float w _ _ _ _ _ (by kernel_rfl) Tryd.underlying40
      rw [← hF] at ho2 hg2
      have H1 := Lib.hid ho2
      have H2 := Lib.hid (grownBy_trans_row (lo := lo) (hi := hi) hg hg2 (fun g' h => by rw [Hrow2.out] at h; exact h))
      rw [fs_get hkx] at hc
      generalize ((marksF z n).take k ++ xs.drop k)[k] = u at *
      clear ho2 hg2 ho hg hF
      go_wp2
      go_roundw
      case rel => exact ⟨k + 1, by omega, by go_num, by go_num, H1.out, by have := H2.out; rw [← Hrow2.out] at this; exact this⟩
      case measure => simp [intOf]; omega
    · have hkn : k = n := by omega
      subst hkn
      have Ho : Hid (Fw wr lo hi A (fs (marksF z k))) := Lib.hid (by
        rw [List.take_of_length_le (by rw [marksF_len]; omega), List.drop_of_length_le (by have := Hn.out; omega), List.append_nil] at ho
        exact ho)
      have Hg := Lib.hid hg
      clear ho hg
      go_wp2
      go_ret
      exact ⟨rfl, Ho.out, row, Hg.out, fun g h => ⟨(Hrow.out g h).1, (Hrow.out g h).2.1⟩⟩

end Go.Proofs.YtnecnbonnidijaaDoor
