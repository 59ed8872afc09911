/- Texts of this seat, joined: Tg Xt Kz Pj Pk Pn Sq Ce Cf -/
import Derived.Test.YtnecnbonnidijaaDoorGC9
import Derived.Test.YtnecnbonnidijaaDoorGC7
import Derived.Test.YtnecnbonnidijaaDoorGC1
import Derived.Test.YtnecnbonnidijaaDoorGC19
import Derived.ArgAppend
import Derived.Test.YtnecnbonnidijaaDoorGC5
import Derived.Test.YtnecnbonnidijaaDoorGC10
import Derived.Deep.RegionHeld3
import Derived.Test.YtnecnbonnidijaaDoorGC6
import Derived.Test.YtnecnbonnidijaaDoorGC8
/- The laws' markFloat32S and heldFloat32S: marks into a row of one's own, and found there again. -/
namespace Go.Proofs.YtnecnbonnidijaaDoor
set_option maxRecDepth 100000
open Go.RowKit
set_option linter.unusedSimpArgs false
set_option linter.unusedVariables false

/-- a row that the call made, or its first part: the cells of a block from lo on and before hi, none of them frozen -/
def Fw (w : World) (lo hi : Nat) (A : Option Addr) (xs : List Value) : Prop :=
  xs = [] ∨ ∃ g cs, A = some ⟨g, 0, none⟩ ∧ lo ≤ g ∧ g < hi ∧ w.heap[g]? = some (.cells cs 40 (0, 0)) ∧ cs.toList.take xs.length = xs

section
variable {w w' : World} {lo lo' hi hi' : Nat} {A : Option Addr} {xs : List Value}
theorem Fw.nil_ : Fw w lo hi A [] := .inl rfl
theorem Fw.lt (h : Fw w lo hi A xs) (hx : xs ≠ []) : ∃ g, A = some ⟨g, 0, none⟩ ∧ lo ≤ g ∧ g < hi ∧ g < w.heap.size := by
  rcases h with h | ⟨g, cs, h1, h2, h3, h4, _⟩
  · exact absurd h hx
  · exact ⟨g, h1, h2, h3, (Array.getElem?_eq_some_iff.1 h4).1⟩
theorem Fw.rd (h : Fw w lo hi A xs) : Rd w hi A xs := fun k u hu => by
  rcases h with rfl | ⟨g, cs, rfl, _, h3, h4, h5⟩
  · simp at hu
  · refine ⟨_, rfl, h3, ?_⟩
    rw [add_zero_off, cell_of_row w g k cs 40 (0, 0) h4]
    have hk : k < xs.length := (List.getElem?_eq_some_iff.1 hu).1
    rw [← h5, List.getElem?_take, if_pos hk] at hu
    simpa using hu
theorem Fw.wide (h : Fw w lo hi A xs) (h1 : lo' ≤ lo) (h2 : hi ≤ hi') : Fw w lo' hi' A xs := by
  rcases h with h | ⟨g, cs, a, b, c, d⟩
  · exact .inl h
  · exact .inr ⟨g, cs, a, by omega, by omega, d⟩
theorem Fw.keep (h : Fw w lo hi A xs) (hk : ∀ g, lo ≤ g → g < hi → g < w.heap.size → w'.heap[g]? = w.heap[g]?) : Fw w' lo hi A xs := by
  rcases h with h | ⟨g, cs, a, b, c, d, e⟩
  · exact .inl h
  · exact .inr ⟨g, cs, a, b, c, (hk g b c (Array.getElem?_eq_some_iff.1 d).1).trans d, e⟩
theorem Fw.below {B : Nat} (h : Fw w lo hi A xs) (hb : Below B w w') (hB : hi ≤ B) : Fw w' lo hi A xs := h.keep fun g _ h2 _ => hb.block g (by omega)
theorem Fw.below' (h : Fw w lo hi A xs) (hb : Below w.heap.size w w') : Fw w' lo hi A xs := h.keep fun g _ _ h2 => hb.block g h2
theorem Fw.grown {row : Option Nat} (h : Fw w lo hi A xs) (hg : w.grownBy w' row) (hr : ∀ g, row = some g → g < lo ∨ hi ≤ g) : Fw w' lo hi A xs :=
  h.keep fun g h1 h2 h3 => hg.block g h3 (fun e => by have := hr g e.symm; omega)
theorem Fw.setCell (h : Fw w lo hi A xs) {p : Addr} (hp : p.block < lo ∨ hi ≤ p.block) (u : Value) : Fw (w.setCell p u) lo hi A xs := h.keep fun g _ _ _ => Below.heap_setCell _ _ _ _ (by omega)
theorem Fw.alloc (h : Fw w lo hi A xs) (o : Obj) : Fw (w.alloc o) lo hi A xs := h.keep fun _ _ _ h3 => Below.heap_alloc _ _ _ h3
theorem Fw.drewN (h : Fw w lo hi A xs) (n : Nat) : Fw (w.drewN n) lo hi A xs := h
theorem Fw.take (h : Fw w lo hi A xs) (k : Nat) : Fw w lo hi A (xs.take k) := by
  rcases h with rfl | ⟨g, cs, a, b, c, d, e⟩
  · exact .inl (by simp)
  · refine .inr ⟨g, cs, a, b, c, d, ?_⟩
    rw [List.length_take, ← List.take_take, e]
theorem Fw.own {n c : Nat} (h : w.ownsRow lo 40 1 (.slice A n c) n xs) : Fw w lo w.heap.size A xs := by
  rcases h.2 with ⟨_, h1⟩ | ⟨g, cap, cs, hv, h1, h2, _, _, _, h3⟩
  · exact .inl (List.eq_nil_of_length_eq_zero (by have := h.1; omega))
  · injection hv with hA
    subst hA
    refine .inr ⟨g, cs, rfl, h1, (Array.getElem?_eq_some_iff.1 h2).1, h2, ?_⟩
    have : xs.length = n * 1 := h.1
    rw [this]; exact h3
/-- a store into it -/
theorem Fw.stored (h : Fw w lo hi A xs) {k : Nat} (hk : k < xs.length) (u : Value) : ∃ g, A = some ⟨g, 0, none⟩ ∧ lo ≤ g ∧ g < hi ∧ w.cell? ⟨g, k, none⟩ = some xs[k] ∧ w.frozen? ⟨g, k, none⟩ = false ∧
    Fw (w.setCell ⟨g, k, none⟩ u) lo hi A (xs.set k u) ∧ w.grownBy (w.setCell ⟨g, k, none⟩ u) (some g) := by
  rcases h with rfl | ⟨g, cs, rfl, h2, h3, h4, h5⟩
  · simp at hk
  · have hc := cell_of_row w g k cs 40 (0, 0) h4
    refine ⟨g, rfl, h2, h3, ?_, by simp [World.frozen?, h4], .inr ⟨g, cs.setIfInBounds k u, rfl, h2, h3, ?_, ?_⟩, rfl, rfl, rfl, by simp [World.setCell], fun b hb hne => Below.heap_setCell _ _ _ _ (fun e => hne (by rw [e]))⟩
    · rw [hc]
      have h6 : xs[k]? = some xs[k] := List.getElem?_eq_getElem hk
      rw [← h6]
      conv => rhs; rw [← h5]
      rw [List.getElem?_take, if_pos hk]
      simp
    · simp [World.setCell, Array.getElem?_modify, h4]
    · rw [List.length_set, Array.toList_setIfInBounds, List.take_set, h5]
end

def Ft (w : World) (lo hi : Nat) (A : Option Addr) (xs : List Value) : Prop := Fw w lo hi A xs ∧ hi ≤ w.heap.size
theorem Ft.next {w w' : World} {lo hi : Nat} {A : Option Addr} {xs : List Value} (h : Ft w lo hi A xs) (hb : Below w.heap.size w w') : Ft w' lo hi A xs := ⟨h.1.below' hb, Nat.le_trans h.2 hb.size⟩
theorem Ft.rt {w : World} {lo hi : Nat} {A : Option Addr} {xs : List Value} (h : Ft w lo hi A xs) : Rt w hi A xs := ⟨h.1.rd, h.2⟩
theorem Ft.new {w : World} {lo : Nat} {A : Option Addr} {xs : List Value} (h : Fw w lo w.heap.size A xs) : Ft w lo w.heap.size A xs := ⟨h, Nat.le_refl _⟩
theorem Ft.grown {w w' : World} {lo hi lo' hi' : Nat} {A : Option Addr} {xs : List Value} {row : Option Nat} (h : Ft w lo hi A xs) (hg : w.grownBy w' row) (hr : ∀ g, row = some g → lo' ≤ g ∧ g < hi') (hne : hi ≤ lo' ∨ hi' ≤ lo) : Ft w' lo hi A xs :=
  ⟨h.1.grown hg (fun g e => by have := hr g e; omega), Nat.le_trans h.2 hg.size⟩
theorem fi_ok (n : Int) : floatOfInt .f32 n < 4294967296 ∧ nan32 (floatOfInt .f32 n) = false := by
  obtain ⟨r, h1, h2, h3⟩ := near32_words n.natAbs 0
  have e : floatOfInt .f32 n = s32 (decide (n < 0)) n.natAbs 0 := rfl
  rw [e]
  by_cases hn : n < 0
  · rw [decide_eq_true hn, h3]; exact ⟨by omega, by unfold nan32; exact decide_eq_false (by omega)⟩
  · rw [decide_eq_false hn, h2]; exact ⟨by omega, by unfold nan32; exact decide_eq_false (by omega)⟩
def marksF (z : Int) (n : Nat) : List Nat := (List.range n).map fun (i : Nat) => floatOfInt .f32 (z + i)
theorem marksF_len (z : Int) (n : Nat) : (marksF z n).length = n := by unfold marksF; simp
theorem marksF_get {z : Int} {n i : Nat} (h : i < n) : (marksF z n)[i]'(by rw [marksF_len]; exact h) = floatOfInt .f32 (z + i) := by unfold marksF; simp
theorem marksF_step (z : Int) (n : Nat) (xs : List Nat) (hl : xs.length = n) (k : Nat) (hk : k < n) : ((marksF z n).take k ++ xs.drop k).set k (floatOfInt .f32 (z + k)) = (marksF z n).take (k + 1) ++ xs.drop (k + 1) := by
  apply List.ext_getElem?
  intro i
  rw [List.getElem?_set]
  have hm := marksF_len z n
  by_cases h1 : k = i
  · subst h1
    rw [if_pos rfl, if_pos (by simp; omega)]
    rw [List.getElem?_append_left (by simp; omega), List.getElem?_take, if_pos (by omega), List.getElem?_eq_getElem (by omega), marksF_get hk]
  · rw [if_neg h1]
    by_cases h2 : i < k
    · rw [List.getElem?_append_left (by simp; omega), List.getElem?_append_left (by simp; omega), List.getElem?_take, List.getElem?_take, if_pos h2, if_pos (by omega)]
    · rw [List.getElem?_append_right (by simp; omega), List.getElem?_append_right (by simp; omega), List.getElem?_drop, List.getElem?_drop]
      congr 1
      simp
      omega
theorem fs_set (xs : List Nat) (k b : Nat) : (fs xs).set k (.float .f32 b) = fs (xs.set k b) := by unfold fs; rw [List.map_set]

set_option maxHeartbeats 400000 in
theorem markF_any (A : Option Addr) (n c : Nat) (z : Int) (xs : List Nat) (lo hi : Nat) (w : World) (ho : Fw w lo hi A (fs xs)) (hn : xs.length = n) (hm : n ≤ 4194304) (hz0 : 0 ≤ z) (hz : z ≤ 4194304) :
    Calls Tryd.prog 33 #[.slice A n c, .int .i64 z] w fun e w' => e = .returned (.int .i64 (z + n)) ∧ Fw w' lo hi A (fs (marksF z n)) ∧ ∃ row, w.grownBy w' row ∧ ∀ g, row = some g → lo ≤ g ∧ g < hi := by
  have hst := store_float Tryd.prog
  have Hn := Lib.hid hn
  have Hgr : ∃ row, w.grownBy w row ∧ (∀ g, row = some g → lo ≤ g ∧ g < hi ∧ A = some ⟨g, 0, none⟩) ∧ (row = none → n = 0) := by
    by_cases h0 : n = 0
    · exact ⟨none, World.grownBy.refl _ _, fun g h => (by cases h), fun _ => h0⟩
    · obtain ⟨g, hA, h1, h2, _⟩ := ho.lt (fun e => h0 (by rw [← hn, ← fs_len, e]; rfl))
      exact ⟨some g, World.grownBy.refl _ _, fun g' h => by injection h with h; subst h; exact ⟨h1, h2, hA⟩, fun h => by cases h⟩
  obtain ⟨row, hg0, hrow, hrow0⟩ := Hgr
  have Hrow := Lib.hid hrow
  have Hrow0 := Lib.hid hrow0
  have Hg0 := Lib.hid hg0
  clear hn hrow hrow0 hg0
  go_enter Tryd.func33, Tryd.ntmps33
  go_wp2_with fail
  go_loopw [1, 5] (fun kk i wr => ∃ k : Nat, k ≤ n ∧ i = .int .i64 k ∧ kk = .int .i64 (z + k) ∧ Fw wr lo hi A (fs ((marksF z n).take k ++ xs.drop k)) ∧ w.grownBy wr row) (fun _ i _ => n - (intOf i).toNat)
  case atStart => exact ⟨0, Nat.zero_le _, rfl, by simp, by simpa using ho, Hg0.out⟩
  case round =>
    clear ho
    obtain ⟨k, hk, rfl, rfl, ho, hg⟩ := hrel
    by_cases hlt : k < n
    · have hkx : k < ((marksF z n).take k ++ xs.drop k).length := by have := Hn.out; have := marksF_len z n; simp; omega
      obtain ⟨g, hA, hl1, hl2, hc, hf, ho2, hg2⟩ := ho.stored (k := k) (by rw [fs_len]; exact hkx) (.float .f32 (floatOfInt .f32 (z + k)))
      rw [fs_set, marksF_step z n xs Hn.out k hlt] at ho2
      subst hA
      have Hrow2 : Hid (row = some g) := Lib.hid (by
        rcases hrow : row with _ | g'
        · exact absurd (Hrow0.out hrow) (by omega)
        · have := (Hrow.out g' hrow).2.2
          injection this with this
          injection this with this
          rw [this])
      obtain ⟨F, hF⟩ : ∃ F, F = floatOfInt .f32 (z + k) := ⟨_, rfl⟩
      have hcv : ∀ w, (convert 3 40 (.int .i64 (z + k))).run Tryd.prog w = .ok (.float .f32 F) w := fun w => by rw [hF]; exact run_convert_int_float w _ _ _ _ _ (by kernel_rfl) Tryd.underlying40
      rw [← hF] at ho2 hg2
      have H1 := Lib.hid ho2
      have H2 := Lib.hid (grownBy_trans_row (lo := lo) (hi := hi) hg hg2 (fun g' h => by rw [Hrow2.out] at h; exact h))
      rw [fs_get hkx] at hc
      generalize ((marksF z n).take k ++ xs.drop k)[k] = u at *
      clear ho2 hg2 ho hg hF
      go_wp2
      go_roundw
      case rel => exact ⟨k + 1, by omega, by go_num, by go_num, H1.out, by have := H2.out; rw [← Hrow2.out] at this; exact this⟩
      case measure => simp [intOf]; omega
    · have hkn : k = n := by omega
      subst hkn
      have Ho : Hid (Fw wr lo hi A (fs (marksF z k))) := Lib.hid (by
        rw [List.take_of_length_le (by rw [marksF_len]; omega), List.drop_of_length_le (by have := Hn.out; omega), List.append_nil] at ho
        exact ho)
      have Hg := Lib.hid hg
      clear ho hg
      go_wp2
      go_ret
      exact ⟨rfl, Ho.out, row, Hg.out, fun g h => ⟨(Hrow.out g h).1, (Hrow.out g h).2.1⟩⟩

set_option maxHeartbeats 400000 in
theorem heldF_any (A : Option Addr) (n c : Nat) (z : Int) (B : Nat) (w : World) (hr : Rd w B A (fs (marksF z n))) (hm : n ≤ 4194304) (hz0 : 0 ≤ z) (hz : z ≤ 4194304) :
    Calls Tryd.prog 36 #[.slice A n c, .int .i64 z] w fun e w' => e = .returned (.int .i64 (z + n)) ∧ ∃ q, w' = w.drewN q := by
  go_enter Tryd.func36, Tryd.ntmps36
  go_wp2_with fail
  go_loopw [1, 5] (fun kk i wr => ∃ k : Nat, k ≤ n ∧ i = .int .i64 k ∧ kk = .int .i64 (z + k) ∧ ∃ q, wr = w.drewN q) (fun _ i _ => n - (intOf i).toNat)
  case atStart => exact ⟨0, Nat.zero_le _, rfl, by simp, 0, rfl⟩
  case round =>
    obtain ⟨k, hk, rfl, rfl, q, hq⟩ := hrel
    have hr := hr.drewN q
    rw [← hq] at hr
    have Hq := Lib.hid hq
    clear hq
    by_cases hlt : k < n
    · have hkx : k < (marksF z n).length := by rw [marksF_len]; exact hlt
      obtain ⟨a, ha, _⟩ := hr.some_ (by rw [fs_len]; omega)
      subst ha
      have hc := hr.cell (k := k) (by rw [fs_len]; exact hkx)
      rw [fs_get hkx, marksF_get hlt] at hc
      obtain ⟨o1, o2⟩ := fi_ok (z + k)
      obtain ⟨F, hF⟩ : ∃ F, F = floatOfInt .f32 (z + k) := ⟨_, rfl⟩
      have hcv : ∀ w, (convert 3 40 (.int .i64 (z + k))).run Tryd.prog w = .ok (.float .f32 F) w := fun w => by rw [hF]; exact run_convert_int_float w _ _ _ _ _ (by kernel_rfl) Tryd.underlying40
      rw [← hF] at hc o1 o2
      have hne : (FloatKind.f32.format.order F F != some .eq) = false := by rw [ne32 F o1, o2]
      clear hr hF o1 o2
      go_wp2_with fail
      go_roundw
      case rel => exact ⟨k + 1, by omega, by go_num, by go_num, q, Hq.out⟩
      case measure => simp [intOf]; omega
    · have hkn : k = n := by omega
      subst hkn
      clear hr
      go_wp2_with fail
      go_ret
      exact ⟨rfl, q, Hq.out⟩
end Go.Proofs.YtnecnbonnidijaaDoor
/- A list of floats with one more behind it, in a row of its own. -/
namespace Go.Proofs.YtnecnbonnidijaaDoor
set_option maxRecDepth 100000
open Go.RowKit
set_option linter.unusedSimpArgs false
set_option linter.unusedVariables false

theorem fs_one (l : List Nat) : ∀ u ∈ fs l, u.oneCell' = true := by
  intro u hu
  unfold fs at hu
  obtain ⟨x, _, rfl⟩ := List.mem_map.1 hu
  rfl
theorem fs_app (l k : List Nat) : fs l ++ fs k = fs (l ++ k) := by unfold fs; rw [List.map_append]
theorem rd_none {w : World} {B : Nat} {xs : List Nat} (h : Rd w B none (fs xs)) : xs = [] := by
  cases xs with
  | nil => rfl
  | cons a t =>
    obtain ⟨b, h1, _⟩ := h 0 (.float .f32 a) rfl
    cases h1

set_option maxHeartbeats 1000000 in
theorem implExt_any (xs : List Nat) (A : Option Addr) (n c x : Nat) (w : World) (hr : Rd w w.heap.size A (fs xs)) (hn : xs.length = n) (hm : n ≤ 100) (hc : n ≤ c) :
    Calls Tryd.prog 88 #[.slice A n c, .float .f32 x] w fun e w' => ∃ A' c', e = .returned (.slice A' (n + 1) c') ∧ Fw w' w.heap.size w'.heap.size A' (fs (xs ++ [x])) ∧ n + 1 ≤ c' ∧ Below w.heap.size w w' := by
  obtain ⟨i0, hi0, hz0, hz1, hz2⟩ := info_parts infoF
  have hnone : A = none → n = 0 ∧ n = 0 := fun e => by
    subst e
    have := rd_none hr
    subst this
    simp at hn
    omega
  obtain ⟨w1, hw1⟩ : ∃ w1, w1 = w.alloc (.cells #[.float .f32 x] 40) := ⟨_, rfl⟩
  have hb : Below w.heap.size w w1 := by rw [hw1]; exact belAlloc1 _ _
  have holds : ∀ b, A = some b → ∀ j u, (fs xs)[j]? = some u → w1.cell? (b.add j) = some u := fun b e j u hu => by
    obtain ⟨a', h1, h2, h3⟩ := (hr.below hb) j u hu
    rw [e] at h1
    cases h1
    exact h3
  have hnews : ∀ j u, (fs [x])[j]? = some u → w1.cell? ((⟨w.heap.size, 0, none⟩ : Addr).add j) = some u := fun j u hu => by
    cases j with
    | zero =>
      have : u = .float .f32 x := by simpa [fs] using hu.symm
      rw [this, hw1, Addr.add_lit]; simp
    | succ k => simp [fs] at hu
  have HH := Lib.hid (And.intro hnone (And.intro holds (And.intro hnews hb)))
  have Hn := Lib.hid hn
  have Hw := Lib.hid hw1
  clear hr hn hnone holds hnews hb hw1
  go_enter Tryd.func88, Tryd.ntmps88
  go_wp2_with (at_builtin; rw [← Hw.out]; refine wpList_append_grows _ rfl (.tmp 10) (.tmp 12) _ rfl 40 i0 _ 1 4 Tryd.underlying53 hi0 hz0 hz1 hz2 rfl (by omega) A n n (fs xs) rfl HH.out.1 (by rw [fs_len, Hn.out, Nat.mul_one]) HH.out.2.1 ⟨w.heap.size, 0, none⟩ 1 1 (fs [x]) rfl rfl HH.out.2.2.1 (fs_one _) (by omega) (by unfold maxLen; omega) (by omega) ?_; intro v1 w2 hown hg)
  obtain ⟨A', c', rfl, hcap⟩ := own_form2 hown
  rw [fs_app] at hown
  have hbw : Below w.heap.size w w2 := HH.out.2.2.2.grown hg HH.out.2.2.2.size (fun g e => by cases e)
  have Ho := Lib.hid ((Fw.own hown).wide (lo' := w.heap.size) (by have := HH.out.2.2.2.size; omega) (Nat.le_refl _))
  have Hcap := Lib.hid hcap
  have Hb := Lib.hid hbw
  clear hown hg hbw hcap
  go_wp2_with fail
  go_ret
  exact ⟨A', c', rfl, Ho.out, Hcap.out, Hb.out⟩
end Go.Proofs.YtnecnbonnidijaaDoor
/- Rounding to a float of 32 bits, of the program: a 0 that is not in its normal form. -/
namespace Go.Proofs.YtnecnbonnidijaaDoor
set_option maxRecDepth 100000
open Go.RowKit
set_option linter.unusedSimpArgs false
set_option linter.unusedVariables false
attribute [local go_sem ↓] Go.wp_at_zero Go.wp_at_succ

theorem zero_cutE {l : Int} (h : l ≤ 0) : rT (0 : Int).natAbs l = 0 ∧ rB (0 : Int).natAbs l = false := by
  refine ⟨?_, ?_⟩
  · unfold rT; rw [if_pos h]; simp
  · unfold rB; exact decide_eq_false (fun x => by omega)
set_option maxHeartbeats 4000000 in
theorem implRound_zeroE (E mode : Int) (A : Option Addr) (n c : Nat) (w : World) (hz : ZV w 0 0 A n c) (hE1 : -149 ≤ E) (hE2 : E ≤ 150) (hm1 : 0 ≤ mode) (hm2 : mode ≤ 4) (hT : TabZ w) :
    Calls Tryd.prog 131 #[.agg #[.int .i64 0, .slice A n c, .int .i64 E], .int .i64 mode] w fun e w' => e = .returned (.tuple #[.float .f32 (rdF 0 E mode), .int .i64 (rdL 0 E mode)]) ∧ Below w.heap.size w w' := by
  have hst := store_int Tryd.prog
  have hst2 := store_slice Tryd.prog
  have hst3 := store_bool Tryd.prog
  obtain ⟨w1, hw1⟩ : ∃ w1, w1 = w.alloc (.cells #[.int .i64 0, .slice A n c, .int .i64 E] 30) := ⟨_, rfl⟩
  have Bx1 : Hid (DBox w1 w.heap.size 0 A n c E) := Lib.hid (by rw [hw1]; exact DBox.new _ _ _ _ _ _ _)
  have Bel1 : Hid (Below w.heap.size w w1) := Lib.hid (by rw [hw1]; exact belAlloc1 _ _)
  have Zv1 := Lib.hid (hz.next Bel1.out)
  have Tb1 := Lib.hid (hT.next Bel1.out)
  have Hw := Lib.hid hw1
  have hn0 : n = 0 := by have := hz.2.1; rw [← this]; exact limbs_len_zero.2 rfl
  have Hm : Hid ((n : Int) ≤ 200) := Lib.hid (by omega)
  have Hmo := Lib.hid (And.intro hm1 hm2)
  clear hz hw1 hT hm1 hm2 hn0
  obtain ⟨q, hq⟩ : ∃ q, q = max (E - 24) (-149) := ⟨_, rfl⟩
  have hq1 : -149 ≤ q := by omega
  have hq2 : q ≤ 126 := by omega
  have hq3 : q - E ≤ 0 := by omega
  have Hq := Lib.hid hq
  clear hq
  go_enter Tryd.func131, Tryd.ntmps131
  go_wp2_with fail
  rw [← Hw.out]
  obtain ⟨⟨hBx0, hBx1, hBx2⟩, hBx3⟩ := Bx1.out
  refine (fmt32_any _).mono ?_
  rintro e w2 ⟨rfl, hb⟩
  have Sz2 := Lib.hid (Below.size hb)
  have Bel2 := Lib.hid (belNext Bel1.out hb)
  have Bx2 := Lib.hid (Bx1.out.next hb)
  have Zv2 := Lib.hid (Zv1.out.next hb)
  have Tb2 := Lib.hid (Tb1.out.next hb)
  clear hb Bel1 Bx1 Zv1 Tb1 hBx0 hBx1 hBx2 hBx3
  obtain ⟨⟨hBx0, hBx1, hBx2⟩, hBx3⟩ := Bx2.out
  go_upto_region 2 with fail
  obtain ⟨w3, hw3⟩ : ∃ w3, w3 = w2.alloc (.cells #[.int .i64 24, .int .i64 (-149), .int .i64 128] 137) := ⟨_, rfl⟩
  rw [← hw3]
  obtain ⟨f, hf⟩ : ∃ f, f = w2.heap.size := ⟨_, rfl⟩
  have hb : Below w2.heap.size w2 w3 := by rw [hw3]; exact belAlloc1 _ _
  have Fb3 : Hid (FBox w3 f 24 (-149) 128) := Lib.hid (by rw [hw3, hf]; exact FBox.new _ _ _ _ _)
  have Hf : Hid (w2.heap.size ≤ f) := Lib.hid (by omega)
  rw [← hf]
  clear hw3 hf
  have Sz3 := Lib.hid (Below.size hb)
  have Bel3 := Lib.hid (belNext Bel2.out hb)
  have Bx3 := Lib.hid (Bx2.out.next hb)
  have Zv3 := Lib.hid (Zv2.out.next hb)
  have Tb3 := Lib.hid (Tb2.out.next hb)
  clear hb Bel2 Bx2 Zv2 Tb2 hBx0 hBx1 hBx2 hBx3
  obtain ⟨⟨hBx0, hBx1, hBx2⟩, hBx3⟩ := Bx3.out
  obtain ⟨⟨hFb0, hFb1, hFb2⟩, hFb3⟩ := Fb3.out
  refine wp_region_held_drew (S := fun w' => (w'.cell? ⟨w.heap.size, 0, none⟩ = some (.int .i64 0) ∧ w'.cell? ⟨w.heap.size, 1, none⟩ = some (.slice A n c) ∧ w'.cell? ⟨w.heap.size, 2, none⟩ = some (.int .i64 E)) ∧ (w'.cell? ⟨f, 0, none⟩ = some (.int .i64 24) ∧ w'.cell? ⟨f, 1, none⟩ = some (.int .i64 (-149)) ∧ w'.cell? ⟨f, 2, none⟩ = some (.int .i64 128))) (by kernel_rfl) ⟨Bx3.out.1, Fb3.out.1⟩ (fun hHeld => ?_)
  clear hBx0 hBx1 hBx2 hBx3 hFb0 hFb1 hFb2 hFb3
  refine wpAnyH_take (i := 0) (v := ?_) rfl (by kernel_rfl) (by kernel_rfl) (by kernel_rfl) (fun _ _ _ h => h) (Or.inl ⟨by rfl, ?_⟩) (by assumption) ?_
  rotate_left
  · (intro w hSw; (try dsimp only at hSw); go_simp; (try with_reducible rfl))
  try simp only [Act.put, List.setIfInBounds_toArray, List.set_cons_zero, List.set_cons_succ, List.getElem_toArray, List.getElem_cons_succ, List.getElem_cons_zero]
  refine wpAnyH_take (i := 2) (v := ?_) rfl (by kernel_rfl) (by kernel_rfl) (by kernel_rfl) (fun _ _ _ h => h) (Or.inl ⟨by rfl, ?_⟩) (by assumption) ?_
  rotate_left
  · (intro w hSw; (try dsimp only at hSw); go_simp; (try with_reducible rfl))
  try simp only [Act.put, List.setIfInBounds_toArray, List.set_cons_zero, List.set_cons_succ, List.getElem_toArray, List.getElem_cons_succ, List.getElem_cons_zero]
  refine wpAnyH_take (i := 3) (v := ?_) rfl (by kernel_rfl) (by kernel_rfl) (by kernel_rfl) (fun _ _ _ h => h) (Or.inl ⟨by rfl, ?_⟩) (by assumption) ?_
  rotate_left
  · (intro w hSw; (try dsimp only at hSw); go_simp; (try with_reducible rfl))
  try simp only [Act.put, List.setIfInBounds_toArray, List.set_cons_zero, List.set_cons_succ, List.getElem_toArray, List.getElem_cons_succ, List.getElem_cons_zero]
  refine wpAnyH_take (i := 5) (v := ?_) rfl (by kernel_rfl) (by kernel_rfl) (by kernel_rfl) (fun _ _ _ h => h) (Or.inl ⟨by rfl, ?_⟩) (by assumption) ?_
  rotate_left
  · (intro w hSw; (try dsimp only at hSw); go_simp; (try with_reducible rfl))
  try simp only [Act.put, List.setIfInBounds_toArray, List.set_cons_zero, List.set_cons_succ, List.getElem_toArray, List.getElem_cons_succ, List.getElem_cons_zero]
  refine wpAnyH_take (i := 6) (v := ?_) rfl (by kernel_rfl) (by kernel_rfl) (by kernel_rfl) (fun _ _ _ h => h) (Or.inl ⟨by rfl, ?_⟩) (by assumption) ?_
  rotate_left
  · (intro w hSw; (try dsimp only at hSw); go_simp; (try with_reducible rfl))
  try simp only [Act.put, List.setIfInBounds_toArray, List.set_cons_zero, List.set_cons_succ, List.getElem_toArray, List.getElem_cons_succ, List.getElem_cons_zero]
  refine wpAnyH_ready (rs := [1]) (by kernel_rfl) (by simp) ?_
  refine AllReadyH.cons rfl (fun K hK => ?_) AllReadyH.nil
  go_simp
  refine (implTop_any 0 0 E A n c w3.drew Zv3.out (by have := Hm.out; omega) (by omega) (by omega)).mono ?_
  rintro e w4 ⟨rfl, hb0⟩
  have hb : Below w3.heap.size w3 w4 := belDrew hb0
  rw [show ((blen (0 : Int).natAbs : Nat) : Int) = 0 by decide +kernel, Int.zero_add]
  refine hK.out _ _ ⟨(Bx3.out.next hb).1, (Fb3.out.next hb).1⟩ (fun hHeld => ?_)
  clear hK K hb0
  have Sz4 := Lib.hid (Below.size hb)
  have Bel4 := Lib.hid (belNext Bel3.out hb)
  have Bx4 := Lib.hid (Bx3.out.next hb)
  have Zv4 := Lib.hid (Zv3.out.next hb)
  have Tb4 := Lib.hid (Tb3.out.next hb)
  have Fb4 := Lib.hid (Fb3.out.next hb)
  clear hb Bel3 Bx3 Zv3 Tb3 Fb3
  try simp only [Act.put, List.setIfInBounds_toArray, List.set_cons_zero, List.set_cons_succ, List.getElem_toArray, List.getElem_cons_succ, List.getElem_cons_zero]
  have hwr : IntKind.i64.wrap (E - 24) = E - 24 := IntWalk.i64_in _ (by omega)
  refine wpAnyH_take (i := 4) (v := ?_) rfl (by kernel_rfl) (by kernel_rfl) (by kernel_rfl) (fun _ _ _ h => h) (Or.inl ⟨by rfl, ?_⟩) (by assumption) ?_
  rotate_left
  · (intro w hSw; (try dsimp only at hSw); go_simp; (try with_reducible rfl))
  try simp only [Act.put, List.setIfInBounds_toArray, List.set_cons_zero, List.set_cons_succ, List.getElem_toArray, List.getElem_cons_succ, List.getElem_cons_zero]
  refine wpAnyH_take (i := 7) (v := ?_) rfl (by kernel_rfl) (by kernel_rfl) (by kernel_rfl) (fun _ _ _ h => h) (Or.inl ⟨by rfl, ?_⟩) (by assumption) ?_
  rotate_left
  · (intro w hSw; (try dsimp only at hSw); go_simp; (try with_reducible rfl))
  try simp only [Act.put, List.setIfInBounds_toArray, List.set_cons_zero, List.set_cons_succ, List.getElem_toArray, List.getElem_cons_succ, List.getElem_cons_zero]
  rw [← Hq.out]
  refine wpAnyH_ready (rs := [8]) (by kernel_rfl) (by simp) ?_
  refine AllReadyH.cons rfl (fun K hK => ?_) AllReadyH.nil
  go_simp
  refine hK.out _ _ hHeld (fun hHeld => ?_)
  clear hK K
  try simp only [Act.put, List.setIfInBounds_toArray, List.set_cons_zero, List.set_cons_succ, List.getElem_toArray, List.getElem_cons_succ, List.getElem_cons_zero]
  clear hHeld
  refine wpAnyH_done (by kernel_rfl) ?_ _
  clear hwr
  go_wp2_with fail
  refine (implCut_any 0 0 E q A n c _ Zv4.out (by have := Hm.out; omega) (by omega) (by omega) (by omega) (by omega) (by rw [(zero_cutE hq3).1]; decide) Tb4.out).mono ?_
  rintro e w5 ⟨o, h9, rfl, hoh, hb⟩
  rw [(zero_cutE hq3).1, (zero_cutE hq3).2]
  clear hoh
  have Sz5 := Lib.hid (Below.size hb)
  have Bel5 := Lib.hid (belNext Bel4.out hb)
  have Bx5 := Lib.hid (Bx4.out.next hb)
  have Zv5 := Lib.hid (Zv4.out.next hb)
  have Tb5 := Lib.hid (Tb4.out.next hb)
  have Fb5 := Lib.hid (Fb4.out.next hb)
  clear hb Bel4 Bx4 Zv4 Tb4 Fb4
  obtain ⟨⟨hBx0, hBx1, hBx2⟩, hBx3⟩ := Bx5.out
  obtain ⟨⟨hFb0, hFb1, hFb2⟩, hFb3⟩ := Fb5.out
  go_upto_region 4 with fail
  obtain ⟨w6, hw6⟩ : ∃ w6, w6 = w5.alloc (.cells #[.int .i64 0, .bool o, .bool false, .int .i64 h9] 162) := ⟨_, rfl⟩
  rw [← hw6]
  obtain ⟨x, hx⟩ : ∃ x, x = w5.heap.size := ⟨_, rfl⟩
  have hb : Below w5.heap.size w5 w6 := by rw [hw6]; exact belAlloc1 _ _
  have Ex6 : Hid (EBox w6 x 0 o false h9) := Lib.hid (by rw [hw6, hx]; exact EBox.new _ _ _ _ _ _)
  have Hx : Hid (w5.heap.size ≤ x) := Lib.hid (by omega)
  rw [← hx]
  clear hw6 hx
  have Sz6 := Lib.hid (Below.size hb)
  have Bel6 := Lib.hid (belNext Bel5.out hb)
  have Bx6 := Lib.hid (Bx5.out.next hb)
  have Zv6 := Lib.hid (Zv5.out.next hb)
  have Tb6 := Lib.hid (Tb5.out.next hb)
  have Fb6 := Lib.hid (Fb5.out.next hb)
  clear hb Bel5 Bx5 Zv5 Tb5 Fb5 hBx0 hBx1 hBx2 hBx3 hFb0 hFb1 hFb2 hFb3
  obtain ⟨⟨hBx0, hBx1, hBx2⟩, hBx3⟩ := Bx6.out
  obtain ⟨⟨hFb0, hFb1, hFb2⟩, hFb3⟩ := Fb6.out
  obtain ⟨⟨hEx0, hEx1, hEx2, hEx3⟩, hEx4⟩ := Ex6.out
  go_wp2_with fail
  refine wp_region_held_drew (S := fun w' => (w'.cell? ⟨f, 0, none⟩ = some (.int .i64 24) ∧ w'.cell? ⟨f, 1, none⟩ = some (.int .i64 (-149)) ∧ w'.cell? ⟨f, 2, none⟩ = some (.int .i64 128))) (by kernel_rfl) Fb6.out.1 (fun hHeld => ?_)
  clear hBx0 hBx1 hBx2 hBx3 hFb0 hFb1 hFb2 hFb3 hEx0 hEx1 hEx2 hEx3 hEx4
  have hwu : IntKind.u64.wrap 0 = 0 := IntWalk.u64_in _ (by omega)
  refine wpAnyH_take (i := 0) (v := ?_) rfl (by kernel_rfl) (by kernel_rfl) (by kernel_rfl) (fun _ _ _ h => h) (Or.inl ⟨by rfl, ?_⟩) (by assumption) ?_
  rotate_left
  · (intro w hSw; (try dsimp only at hSw); go_simp; (try with_reducible rfl))
  try simp only [Act.put, List.setIfInBounds_toArray, List.set_cons_zero, List.set_cons_succ, List.getElem_toArray, List.getElem_cons_succ, List.getElem_cons_zero]
  refine wpAnyH_take (i := 1) (v := ?_) rfl (by kernel_rfl) (by kernel_rfl) (by kernel_rfl) (fun _ _ _ h => h) (Or.inl ⟨by rfl, ?_⟩) (by assumption) ?_
  rotate_left
  · (intro w hSw; (try dsimp only at hSw); go_simp; (try with_reducible rfl))
  try simp only [Act.put, List.setIfInBounds_toArray, List.set_cons_zero, List.set_cons_succ, List.getElem_toArray, List.getElem_cons_succ, List.getElem_cons_zero]
  refine wpAnyH_take (i := 3) (v := ?_) rfl (by kernel_rfl) (by kernel_rfl) (by kernel_rfl) (fun _ _ _ h => h) (Or.inl ⟨by rfl, ?_⟩) (by assumption) ?_
  rotate_left
  · (intro w hSw; (try dsimp only at hSw); go_simp; (try with_reducible rfl))
  try simp only [Act.put, List.setIfInBounds_toArray, List.set_cons_zero, List.set_cons_succ, List.getElem_toArray, List.getElem_cons_succ, List.getElem_cons_zero]
  refine wpAnyH_take (i := 5) (v := ?_) rfl (by kernel_rfl) (by kernel_rfl) (by kernel_rfl) (fun _ _ _ h => h) (Or.inl ⟨by rfl, ?_⟩) (by assumption) ?_
  rotate_left
  · (intro w hSw; (try dsimp only at hSw); go_simp; (try with_reducible rfl))
  try simp only [Act.put, List.setIfInBounds_toArray, List.set_cons_zero, List.set_cons_succ, List.getElem_toArray, List.getElem_cons_succ, List.getElem_cons_zero]
  refine wpAnyH_take (i := 6) (v := ?_) rfl (by kernel_rfl) (by kernel_rfl) (by kernel_rfl) (fun _ _ _ h => h) (Or.inl ⟨by rfl, ?_⟩) (by assumption) ?_
  rotate_left
  · (intro w hSw; (try dsimp only at hSw); go_simp; (try with_reducible rfl))
  try simp only [Act.put, List.setIfInBounds_toArray, List.set_cons_zero, List.set_cons_succ, List.getElem_toArray, List.getElem_cons_succ, List.getElem_cons_zero]
  refine wpAnyH_ready (rs := [2]) (by kernel_rfl) (by simp) ?_
  refine AllReadyH.cons rfl (fun K hK => ?_) AllReadyH.nil
  go_simp
  refine (len64B_any 0 w6.drew (by omega)).mono ?_
  rintro e w7 ⟨rfl, hb0⟩
  have hb : Below w6.heap.size w6 w7 := belDrew hb0
  rw [show ((blen 0 : Nat) : Int) = 0 from rfl]
  refine hK.out _ _ ((Fb6.out.next hb).1) (fun hHeld => ?_)
  clear hK K hb0
  have Sz7 := Lib.hid (Below.size hb)
  have Bel7 := Lib.hid (belNext Bel6.out hb)
  have Bx7 := Lib.hid (Bx6.out.next hb)
  have Zv7 := Lib.hid (Zv6.out.next hb)
  have Tb7 := Lib.hid (Tb6.out.next hb)
  have Fb7 := Lib.hid (Fb6.out.next hb)
  have Ex7 := Lib.hid (Ex6.out.next hb)
  clear hb Bel6 Bx6 Zv6 Tb6 Fb6 Ex6
  try simp only [Act.put, List.setIfInBounds_toArray, List.set_cons_zero, List.set_cons_succ, List.getElem_toArray, List.getElem_cons_succ, List.getElem_cons_zero]
  have hwr : IntKind.i64.wrap q = q := IntWalk.i64_in _ (by omega)
  have hwr2 : decide (128 < q) = false := decide_eq_false (by omega)
  refine wpAnyH_take (i := 4) (v := ?_) rfl (by kernel_rfl) (by kernel_rfl) (by kernel_rfl) (fun _ _ _ h => h) (Or.inl ⟨by rfl, ?_⟩) (by assumption) ?_
  rotate_left
  · (intro w hSw; (try dsimp only at hSw); go_simp; (try with_reducible rfl))
  try simp only [Act.put, List.setIfInBounds_toArray, List.set_cons_zero, List.set_cons_succ, List.getElem_toArray, List.getElem_cons_succ, List.getElem_cons_zero]
  refine wpAnyH_take (i := 7) (v := ?_) rfl (by kernel_rfl) (by kernel_rfl) (by kernel_rfl) (fun _ _ _ h => h) (Or.inl ⟨by rfl, ?_⟩) (by assumption) ?_
  rotate_left
  · (intro w hSw; (try dsimp only at hSw); go_simp; (try with_reducible rfl))
  try simp only [Act.put, List.setIfInBounds_toArray, List.set_cons_zero, List.set_cons_succ, List.getElem_toArray, List.getElem_cons_succ, List.getElem_cons_zero]
  clear hHeld
  refine wpAnyH_done (by kernel_rfl) ?_ _
  clear hwu hwr
  have hif : floatOfInt .f64 0 = d64 false 0 0 := int_to_64 0
  have hcv : ∀ w, (convert 39 40 (.float .f64 (d64 false 0 q))).run Tryd.prog w = .ok (.float .f32 0) w := fun w => by rw [d64_zero]; exact run_convert_float_float w _ _ _ _ _ _ (by kernel_rfl) (by kernel_rfl) (by decide +kernel)
  obtain ⟨⟨hBx0, hBx1, hBx2⟩, hBx3⟩ := Bx7.out
  obtain ⟨⟨hFb0, hFb1, hFb2⟩, hFb3⟩ := Fb7.out
  obtain ⟨⟨hEx0, hEx1, hEx2, hEx3⟩, hEx4⟩ := Ex7.out
  go_wp2_with fail
  refine (Ldexp_any 0 q _ (by omega) (by omega) (by omega)).mono ?_
  rintro e w99 ⟨rfl, rfl⟩
  go_wp2_with fail
  go_ret2
  exact ⟨by rw [(rd_zero E mode).1, (rd_zero E mode).2]; rfl, Bel7.out⟩

theorem implRoundE_any (z S E mode : Int) (A : Option Addr) (n c : Nat) (w : World) (hz : ZV w z S A n c) (h0 : z = 0 → -149 ≤ E ∧ E ≤ 150) (hm : (n : Int) ≤ 200) (hE1 : -15000 ≤ E) (hE2 : E ≤ 15000) (hm1 : 0 ≤ mode) (hm2 : mode ≤ 4) (hT : TabZ w) :
    Calls Tryd.prog 131 #[.agg #[.int .i64 S, .slice A n c, .int .i64 E], .int .i64 mode] w fun e w' => e = .returned (.tuple #[.float .f32 (rdF z E mode), .int .i64 (rdL z E mode)]) ∧ Below w.heap.size w w' := by
  by_cases h : z = 0
  · have hE := h0 h
    subst h
    have hS : S = 0 := hz.1
    subst hS
    exact implRound_zeroE E mode A n c w hz hE.1 hE.2 hm1 hm2 hT
  · exact implRound_nz z S E mode A n c w hz h hm hE1 hE2 hm1 hm2 hT
end Go.Proofs.YtnecnbonnidijaaDoor
/- Sums of floats in units of 2^-149: the word of the nearest float, what it is worth, and quick sums of words. -/
namespace Go.Proofs.YtnecnbonnidijaaDoor
set_option maxRecDepth 100000
open Go.RowKit
set_option linter.unusedSimpArgs false
set_option linter.unusedVariables false
open Ieee

theorem rQ_units (v : Nat) : rQ v (-149) = ((blen v - 24 : Nat) : Int) - 149 := by unfold rQ; omega
/-- the rung of the nearest float -/
def rg (v : Nat) : Nat := (blen v - 24) * 8388608 + evenCut v (blen v - 24)
theorem rd_word {z : Int} (hz : z ≠ 0) : rdF z (-149) 0 = Ieee.single.word (decide (z < 0)) (min (rg z.natAbs) 2139095040) ∧ evenCut z.natAbs (blen z.natAbs - 24) ≤ 16777216 ∧ (blen z.natAbs - 24 = 0 ∨ 8388608 ≤ evenCut z.natAbs (blen z.natAbs - 24)) := by
  have hv : z.natAbs ≠ 0 := by omega
  obtain ⟨f1, f2, f3⟩ := rM_facts hv 0 z.sign (-149)
  rw [rd_wrd hz]
  unfold wrd rg
  rw [rQ_units] at f1 f2 f3 ⊢
  rw [show ((blen z.natAbs - 24 : Nat) : Int) - 149 - -149 = ((blen z.natAbs - 24 : Nat) : Int) by omega, rM_even z.sign hv] at f1 f3 ⊢
  rw [show (((blen z.natAbs - 24 : Nat) : Int) - 149 + 149).toNat = blen z.natAbs - 24 by omega]
  refine ⟨rfl, f1, ?_⟩
  rcases f3 with f3 | f3
  · exact .inl (by omega)
  · exact .inr f3
theorem word_parts (s : Bool) (r : Nat) (hr : r ≤ 2139095040) : Ieee.single.word s r < 4294967296 ∧ Ieee.single.word s r % 2147483648 = r ∧ (2147483648 ≤ Ieee.single.word s r ↔ s = true) := by
  unfold Format.word
  rw [single_sign]
  cases s
  · simp; omega
  · simp; omega
theorem rung_worth {M l : Nat} (h1 : M ≤ 16777216) (h2 : l = 0 ∨ 8388608 ≤ M) : mant (l * 8388608 + M) * 2 ^ expo (l * 8388608 + M) = M * 2 ^ l := by
  by_cases h : M = 16777216
  · subst h
    have e1 : mant (l * 8388608 + 16777216) = 8388608 := by unfold mant; rw [if_neg (by omega)]; omega
    have e2 : expo (l * 8388608 + 16777216) = l + 1 := by unfold expo; rw [if_neg (by omega)]; omega
    rw [e1, e2, Nat.pow_succ]; omega
  · by_cases h3 : 8388608 ≤ M
    · have e1 : mant (l * 8388608 + M) = M := by unfold mant; rw [if_neg (by omega)]; omega
      have e2 : expo (l * 8388608 + M) = l := by unfold expo; rw [if_neg (by omega)]; omega
      rw [e1, e2]
    · have hl : l = 0 := by omega
      subst hl
      have e1 : mant (0 * 8388608 + M) = M := by unfold mant; rw [if_pos (by omega)]; omega
      have e2 : expo (0 * 8388608 + M) = 0 := by unfold expo; rw [if_pos (by omega)]
      rw [e1, e2]
/-- the nearest float, in units: its worth is the nearest number, or it is infinite -/
theorem near_units (z : Int) : rdF z (-149) 0 < 4294967296 ∧ nan32 (rdF z (-149) 0) = false ∧ (fin32 (rdF z (-149) 0) = true → uI (rdF z (-149) 0) = rnI z) ∧ (fin32 (rdF z (-149) 0) = false → 2139095040 ≤ rg z.natAbs ∧ rdF z (-149) 0 = Ieee.single.word (decide (z < 0)) 2139095040) := by
  by_cases hz : z = 0
  · subst hz
    have e : rdF 0 (-149) 0 = 0 := by unfold rdF; rw [if_pos rfl]
    rw [e]
    refine ⟨by decide, by decide, fun _ => ?_, fun h => by revert h; decide⟩
    rw [uI_zero.2 rfl, rnI_exact (z := 0) FN.zero]
  · obtain ⟨e, h1, h2⟩ := rd_word hz
    obtain ⟨w1, w2, w3⟩ := word_parts (decide (z < 0)) (min (rg z.natAbs) 2139095040) (by omega)
    rw [e]
    refine ⟨w1, by unfold nan32; rw [w2]; exact decide_eq_false (by omega), fun hf => ?_, fun hf => ?_⟩
    · have hr : rg z.natAbs < 2139095040 := by
        unfold fin32 at hf; rw [w2] at hf; have := of_decide_eq_true hf; omega
      rw [Nat.min_eq_left (by omega)] at w1 w2 w3 ⊢
      have ha := uI_abs (Ieee.single.word (decide (z < 0)) (rg z.natAbs))
      rw [w2] at ha
      unfold rg at ha
      rw [rung_worth h1 h2] at ha
      have hs := uI_ofM (Ieee.single.word (decide (z < 0)) (rg z.natAbs))
      rw [ofM_if] at hs
      have hp := Int.pow_pos (n := (2 : Int)) (m := expo (Ieee.single.word (decide (z < 0)) (rg z.natAbs) % 2147483648)) (by omega)
      have hm : (0 : Int) ≤ (mant (Ieee.single.word (decide (z < 0)) (rg z.natAbs) % 2147483648) : Int) * (2 : Int) ^ expo (Ieee.single.word (decide (z < 0)) (rg z.natAbs) % 2147483648) := Int.mul_nonneg (by omega) (by omega)
      unfold rg at hs hm w3 ⊢
      unfold rnI rn
      by_cases hn : z < 0
      · rw [if_pos (w3.2 (decide_eq_true hn)), Int.neg_mul] at hs
        rw [if_pos hn]
        omega
      · rw [if_neg (fun h => hn (of_decide_eq_true (w3.1 h)))] at hs
        rw [if_neg hn]
        omega
    · have hr : 2139095040 ≤ rg z.natAbs := by
        unfold fin32 at hf; rw [w2] at hf; have := of_decide_eq_false hf; omega
      rw [Nat.min_eq_right hr]
      exact ⟨hr, rfl⟩
/-- a float without -0 -/
def wm (b : Nat) : Nat := if b % 2147483648 = 0 then 0 else b
/-- what is beyond the nearest float, as a float -/
def lowF (e : Int) : Nat := rdF e (-149) 0
end Go.Proofs.YtnecnbonnidijaaDoor
/- Quick sums and exact sums of floats, of the program. -/
namespace Go.Proofs.YtnecnbonnidijaaDoor
set_option maxRecDepth 100000
open Go.RowKit
set_option linter.unusedSimpArgs false
set_option linter.unusedVariables false
attribute [local go_sem ↓] Go.wp_at_zero Go.wp_at_succ

theorem eqz32 (b : Nat) (hb : b < 4294967296) : (FloatKind.f32.format.order b 0 == some .eq) = decide (b % 2147483648 = 0) := by
  by_cases hn : nan32 b = true
  · rw [nan32_cmp b 0 .eq (.inl hn)]
    unfold nan32 at hn
    have := of_decide_eq_true hn
    exact (decide_eq_false (by omega)).symm
  · rw [eq_zero32 b hb (by simpa using hn), decide_eq_decide]
    rcases place_cases b with ⟨h1, h2⟩ | ⟨h1, h2⟩ <;> omega
theorem wm_any (b : Nat) (w : World) (hb : b < 4294967296) : Calls Tryd.prog 138 #[.float .f32 b] w fun e w' => e = .returned (.float .f32 (wm b)) ∧ w = w' := by
  have h := eqz32 b hb
  by_cases h0 : b % 2147483648 = 0
  · have Hw : Hid (wm b = 0) := Lib.hid (by unfold wm; rw [if_pos h0])
    have hd : decide (b % 2147483648 = 0) = true := decide_eq_true h0
    rw [hd] at h
    clear h0 hd
    go_enter Tryd.func138, Tryd.ntmps138
    go_wp2_with fail
    go_ret
    exact ⟨by rw [Hw.out]; rfl, rfl⟩
  · have Hw : Hid (wm b = b) := Lib.hid (by unfold wm; rw [if_neg h0])
    have hd : decide (b % 2147483648 = 0) = false := decide_eq_false h0
    rw [hd] at h
    clear h0 hd
    go_enter Tryd.func138, Tryd.ntmps138
    go_wp2_with fail
    go_ret
    exact ⟨by rw [Hw.out]; rfl, rfl⟩
/-- a pair's box for a result -/
def PRes (w : World) (b : Nat) : Prop := (w.cell? ⟨b, 0, none⟩ = some (.float .f32 0) ∧ w.cell? ⟨b, 1, none⟩ = some (.float .f32 0) ∧ w.frozen? ⟨b, 0, none⟩ = false ∧ w.frozen? ⟨b, 1, none⟩ = false) ∧ b < w.heap.size
theorem PRes.next {w w' : World} {b : Nat} (h : PRes w b) (hb : Below w.heap.size w w') : PRes w' b :=
  ⟨⟨(hb.cell (p := ⟨b, 0, none⟩) h.2).trans h.1.1, (hb.cell (p := ⟨b, 1, none⟩) h.2).trans h.1.2.1, (hb.frozen (p := ⟨b, 0, none⟩) h.2).trans h.1.2.2.1, (hb.frozen (p := ⟨b, 1, none⟩) h.2).trans h.1.2.2.2⟩, Nat.lt_of_lt_of_le h.2 hb.size⟩
theorem PRes.drew {w : World} {b : Nat} (h : PRes w b) : PRes w.drew b := h
theorem PRes.new (w : World) (t : TypeId) : PRes (w.alloc (.cells #[.float .f32 0, .float .f32 0] t)) w.heap.size := by
  refine ⟨⟨?_, ?_, ?_, ?_⟩, ?_⟩
  · simp
  · simp
  · go_simp
  · go_simp
  · simp
end Go.Proofs.YtnecnbonnidijaaDoor
/- Exact sums of floats, of the program and of the model. -/
namespace Go.Proofs.YtnecnbonnidijaaDoor
set_option maxRecDepth 100000
open Go.RowKit
set_option linter.unusedSimpArgs false
set_option linter.unusedVariables false

attribute [local go_sem ↓] Go.wp_at_zero Go.wp_at_succ
def chH (h l : Nat) : Nat := if isP h l = true then h else 0
def chL (h l : Nat) : Nat := if isP h l = true then l else 0
def chE (h l : Nat) : Int := if isP h l = true then 0 else 3
def esH (x y : Nat) : Nat := if fin32 x = true ∧ fin32 y = true ∧ fin32 (adF x y 0) = true then adF x y 0 else 0
def esL (x y : Nat) : Nat := if fin32 x = true ∧ fin32 y = true ∧ fin32 (adF x y 0) = true then lowF (uI x + uI y - uI (adF x y 0)) else 0
def esE (x y : Nat) : Int := if fin32 x = true ∧ fin32 y = true then if fin32 (adF x y 0) = true then 0 else 3 else 1
def ERES (H L : Nat) (E : Int) : Ending := .returned (.tuple #[.agg #[.float .f32 H, .float .f32 L], .int .i64 E])
theorem rdF_lt (z E : Int) : rdF z E 0 < 4294967296 := by
  by_cases hz : z = 0
  · subst hz; unfold rdF; rw [if_pos rfl]; decide
  · rw [rd_wrd hz]
    exact (word_parts (decide (z < 0)) _ (by omega)).1
set_option maxHeartbeats 1000000 in
theorem specNear_any (z S E : Int) (A : Option Addr) (n c : Nat) (w : World) (hz : ZV w z S A n c) (hodd : z ≠ 0 → z.natAbs % 2 = 1) (hm : (n : Int) ≤ 200) (h1 : -15000 ≤ E) (h2 : E ≤ 15000) :
    Calls Tryd.prog 83 #[.agg #[.int .i64 S, .slice A n c, .int .i64 E]] w fun e w' => e = .returned (.float .f32 (wm (rdF z E 0))) ∧ Below w.heap.size w w' := by
  have HH := Lib.hid (And.intro hodd (And.intro hm (And.intro h1 h2)))
  obtain ⟨w1, hw1⟩ : ∃ w1, w1 = w.alloc (.cells #[.int .i64 S, .slice A n c, .int .i64 E] 30) := ⟨_, rfl⟩
  have Bx1 : Hid (DBox w1 w.heap.size S A n c E) := Lib.hid (by rw [hw1]; exact DBox.new _ _ _ _ _ _ _)
  have Bel1 : Hid (Below w.heap.size w w1) := Lib.hid (by rw [hw1]; exact belAlloc1 _ _)
  have Zv1 := Lib.hid (hz.next Bel1.out)
  have Hw := Lib.hid hw1
  have hF := rdF_lt z E
  obtain ⟨F, hFe⟩ : ∃ F, F = rdF z E 0 := ⟨_, rfl⟩
  rw [← hFe] at hF ⊢
  have HF := Lib.hid (And.intro hFe hF)
  have he := eqz32 F hF
  clear hz hodd hm h1 h2 hw1 hF hFe
  obtain ⟨⟨b0, b1, b2⟩, b3⟩ := Bx1.out
  by_cases h0 : F % 2147483648 = 0
  · rw [decide_eq_true h0] at he
    have Hwm : Hid (wm F = 0) := Lib.hid (by unfold wm; rw [if_pos h0])
    clear h0
    go_enter Tryd.func83, Tryd.ntmps83
    go_wp2_with fail
    rw [← Hw.out]
    refine (specRound_any z S E 0 A n c _ Zv1.out HH.out.1 HH.out.2.1 HH.out.2.2.1 HH.out.2.2.2 (by omega) (by omega)).mono ?_
    rintro e w2 ⟨rfl, hb⟩
    have Bel2 := Lib.hid (belNext Bel1.out hb)
    rw [← HF.out.1]
    obtain ⟨L, hL⟩ : ∃ L, L = rdL z E 0 := ⟨_, rfl⟩
    rw [← hL]
    clear hb hL b0 b1 b2 b3
    go_wp2_with fail
    go_ret
    exact ⟨by rw [Hwm.out]; rfl, Bel2.out⟩
  · rw [decide_eq_false h0] at he
    have Hwm : Hid (wm F = F) := Lib.hid (by unfold wm; rw [if_neg h0])
    clear h0
    go_enter Tryd.func83, Tryd.ntmps83
    go_wp2_with fail
    rw [← Hw.out]
    refine (specRound_any z S E 0 A n c _ Zv1.out HH.out.1 HH.out.2.1 HH.out.2.2.1 HH.out.2.2.2 (by omega) (by omega)).mono ?_
    rintro e w2 ⟨rfl, hb⟩
    have Bel2 := Lib.hid (belNext Bel1.out hb)
    rw [← HF.out.1]
    obtain ⟨L, hL⟩ : ∃ L, L = rdL z E 0 := ⟨_, rfl⟩
    rw [← hL]
    clear hb hL b0 b1 b2 b3
    go_wp2_with fail
    go_ret
    exact ⟨by rw [Hwm.out]; rfl, Bel2.out⟩

end Go.Proofs.YtnecnbonnidijaaDoor
/- The nearest float of an exact number and the rest, of the program. -/
namespace Go.Proofs.YtnecnbonnidijaaDoor
set_option maxRecDepth 100000
open Go.RowKit
set_option linter.unusedSimpArgs false
set_option linter.unusedVariables false

theorem ofX_small (b : Nat) : -149 ≤ ofX b ∧ ofX b ≤ 128 := by
  by_cases hf : fin32 b = true
  · rw [(of_yes2 hf).2.1]; exact fe_small hf
  · rw [(of_no (by simpa using hf)).2.1]; omega
/-- the rest of an exact number beyond its nearest float -/
def spZ (z E : Int) : Int := sumZ z E (-(ofZ (rdF z E 0))) (ofX (rdF z E 0))
def spX (z E : Int) : Int := min E (ofX (rdF z E 0))
set_option maxHeartbeats 4000000 in
theorem implSplit_any (z S E : Int) (A : Option Addr) (n c : Nat) (w : World) (hz : ZV w z S A n c) (h0 : z = 0 → -149 ≤ E ∧ E ≤ 150) (hm : (n : Int) ≤ 200) (hE1 : -4000 ≤ E) (hE2 : E ≤ 4000) (hT : TabZ w) :
    Calls Tryd.prog 86 #[.agg #[.int .i64 S, .slice A n c, .int .i64 E]] w fun e w' => ∃ Sr Ar nr cr, e = .returned (.tuple #[.float .f32 (wm (rdF z E 0)), .agg #[.int .i64 Sr, .slice Ar nr cr, .int .i64 (spX z E)]]) ∧ ZO w' w.heap.size w'.heap.size (spZ z E) Sr Ar nr cr ∧ Below w.heap.size w w' := by
  have hst := store_int Tryd.prog
  have hst2 := store_slice Tryd.prog
  have hst9 := store_float Tryd.prog
  obtain ⟨w1, hw1, hb1, hb3, hb4⟩ := dbox_res w S A n c E 30 30
  have RsD1 := Lib.hid hb3
  have Hlt : Hid (w.heap.size + 1 < w1.heap.size) := Lib.hid hb3.2
  have Zv1 := Lib.hid (hz.next hb4)
  have Tb1 := Lib.hid (hT.next hb4)
  have Hw := Lib.hid hw1
  have Bx1 := Lib.hid hb1
  have Bel1 := Lib.hid hb4
  have H0 := Lib.hid h0
  have Hm := Lib.hid hm
  obtain ⟨b, hbe⟩ : ∃ b, b = rdF z E 0 := ⟨_, rfl⟩
  have Hb : Hid (b < 4294967296) := Lib.hid (by rw [hbe]; exact (rdF_ok _ _ _).1)
  have hX := ofX_small b
  obtain ⟨X, hXe⟩ : ∃ X, X = ofX b := ⟨_, rfl⟩
  rw [← hXe] at hX
  obtain ⟨hX1, hX2⟩ := hX
  have HR : Hid (spZ z E = sumZ z E (-(ofZ b)) X ∧ spX z E = min E X ∧ rdF z E 0 = b) := Lib.hid ⟨by rw [hXe, hbe]; rfl, by rw [hXe, hbe]; rfl, hbe.symm⟩
  have HX := Lib.hid hXe
  rw [← hbe]
  clear hz hw1 hb1 hb3 hb4 hT h0 hm hbe hXe
  go_enter Tryd.func86, Tryd.ntmps86
  go_wp2_with fail
  rw [← Hw.out]
  obtain ⟨⟨hBx0, hBx1, hBx2⟩, hBx3⟩ := Bx1.out
  obtain ⟨⟨hRsD0, hRsD1, hRsD2, hRsD3, hRsD4, hRsD5⟩, hRsD6⟩ := RsD1.out
  refine (implRoundE_any z S E 0 A n c _ Zv1.out H0.out Hm.out (by omega) (by omega) (by omega) (by omega) Tb1.out).mono ?_
  rintro e w2 ⟨rfl, hb⟩
  rw [HR.out.2.2]
  obtain ⟨L, hL⟩ : ∃ L, L = rdL z E 0 := ⟨_, rfl⟩
  rw [← hL]
  clear hL
  have Sz2 := Lib.hid (Below.size hb)
  have Bel2 := Lib.hid (belNext Bel1.out hb)
  have Bx2 := Lib.hid (Bx1.out.next hb)
  have RsD2 := Lib.hid (RsD1.out.next hb)
  have Zv2 := Lib.hid (Zv1.out.next hb)
  have Tb2 := Lib.hid (Tb1.out.next hb)
  clear hb Bel1 Bx1 RsD1 Zv1 Tb1 hBx0 hBx1 hBx2 hBx3 hRsD0 hRsD1 hRsD2 hRsD3 hRsD4 hRsD5 hRsD6
  obtain ⟨⟨hBx0, hBx1, hBx2⟩, hBx3⟩ := Bx2.out
  obtain ⟨⟨hRsD0, hRsD1, hRsD2, hRsD3, hRsD4, hRsD5⟩, hRsD6⟩ := RsD2.out
  go_wp2_with fail
  refine (implOf_any b _ Hb.out Tb2.out).mono ?_
  rintro e w3 ⟨S3, A3, n3, c3, rfl, hzo, hb⟩
  have Zo3 : Hid (ZO w3 w2.heap.size w3.heap.size (ofZ b) S3 A3 n3 c3) := Lib.hid hzo
  have Hn3 : Hid ((limbs (ofZ b).natAbs).length = n3 ∧ (n3 : Int) ≤ 100) := Lib.hid ⟨hzo.2.1, by have := of_len b; have e := hzo.2.1; omega⟩
  rw [← HX.out]
  obtain ⟨C3, hC3⟩ : ∃ C3, C3 = ofE b := ⟨_, rfl⟩
  rw [← hC3]
  clear hzo hC3
  have Sz3 := Lib.hid (Below.size hb)
  have Bel3 := Lib.hid (belNext Bel2.out hb)
  have Bx3 := Lib.hid (Bx2.out.next hb)
  have RsD3 := Lib.hid (RsD2.out.next hb)
  have Zv3 := Lib.hid (Zv2.out.next hb)
  have Tb3 := Lib.hid (Tb2.out.next hb)
  clear hb Bel2 Bx2 RsD2 Zv2 Tb2 hBx0 hBx1 hBx2 hBx3 hRsD0 hRsD1 hRsD2 hRsD3 hRsD4 hRsD5 hRsD6
  obtain ⟨⟨hBx0, hBx1, hBx2⟩, hBx3⟩ := Bx3.out
  obtain ⟨⟨hRsD0, hRsD1, hRsD2, hRsD3, hRsD4, hRsD5⟩, hRsD6⟩ := RsD3.out
  go_upto_region 3 with fail
  obtain ⟨w4, hw4⟩ : ∃ w4, w4 = w3.alloc (.cells #[.int .i64 S3, .slice A3 n3 c3, .int .i64 X] 30) := ⟨_, rfl⟩
  rw [← hw4]
  obtain ⟨f, hf⟩ : ∃ f, f = w3.heap.size := ⟨_, rfl⟩
  have hb : Below w3.heap.size w3 w4 := by rw [hw4]; exact belAlloc1 _ _
  have Ba4 : Hid (DBox w4 f S3 A3 n3 c3 X) := Lib.hid (by rw [hw4, hf]; exact DBox.new _ _ _ _ _ _ _)
  have Hf : Hid (w3.heap.size ≤ f) := Lib.hid (by omega)
  rw [← hf]
  clear hw4 hf
  have Sz4 := Lib.hid (Below.size hb)
  have Bel4 := Lib.hid (belNext Bel3.out hb)
  have Bx4 := Lib.hid (Bx3.out.next hb)
  have RsD4 := Lib.hid (RsD3.out.next hb)
  have Zv4 := Lib.hid (Zv3.out.next hb)
  have Tb4 := Lib.hid (Tb3.out.next hb)
  have Zo4 := Lib.hid (Zo3.out.next hb)
  clear hb Bel3 Bx3 RsD3 Zv3 Tb3 Zo3 hBx0 hBx1 hBx2 hBx3 hRsD0 hRsD1 hRsD2 hRsD3 hRsD4 hRsD5 hRsD6
  obtain ⟨⟨hBx0, hBx1, hBx2⟩, hBx3⟩ := Bx4.out
  obtain ⟨⟨hBa0, hBa1, hBa2⟩, hBa3⟩ := Ba4.out
  obtain ⟨⟨hRsD0, hRsD1, hRsD2, hRsD3, hRsD4, hRsD5⟩, hRsD6⟩ := RsD4.out
  refine wp_region_held_drew (S := fun w' => (w'.cell? ⟨f, 0, none⟩ = some (.int .i64 S3) ∧ w'.cell? ⟨f, 1, none⟩ = some (.slice A3 n3 c3) ∧ w'.cell? ⟨f, 2, none⟩ = some (.int .i64 X)) ∧ (w'.cell? ⟨w.heap.size, 0, none⟩ = some (.int .i64 S) ∧ w'.cell? ⟨w.heap.size, 1, none⟩ = some (.slice A n c) ∧ w'.cell? ⟨w.heap.size, 2, none⟩ = some (.int .i64 E))) (by kernel_rfl) ⟨Ba4.out.1, Bx4.out.1⟩ (fun hHeld => ?_)
  clear hBx0 hBx1 hBx2 hBx3 hBa0 hBa1 hBa2 hBa3 hRsD0 hRsD1 hRsD2 hRsD3 hRsD4 hRsD5 hRsD6
  refine wpAnyH_take (i := 0) (v := ?_) rfl (by kernel_rfl) (by kernel_rfl) (by kernel_rfl) (fun _ _ _ h => h) (Or.inl ⟨by rfl, ?_⟩) (by assumption) ?_
  rotate_left
  · (intro w hSw; (try dsimp only at hSw); go_simp; (try with_reducible rfl))
  try simp only [Act.put, List.setIfInBounds_toArray, List.set_cons_zero, List.set_cons_succ, List.getElem_toArray, List.getElem_cons_succ, List.getElem_cons_zero]
  refine wpAnyH_take (i := 2) (v := ?_) rfl (by kernel_rfl) (by kernel_rfl) (by kernel_rfl) (fun _ _ _ h => h) (Or.inl ⟨by rfl, ?_⟩) (by assumption) ?_
  rotate_left
  · (intro w hSw; (try dsimp only at hSw); go_simp; (try with_reducible rfl))
  try simp only [Act.put, List.setIfInBounds_toArray, List.set_cons_zero, List.set_cons_succ, List.getElem_toArray, List.getElem_cons_succ, List.getElem_cons_zero]
  refine wpAnyH_take (i := 3) (v := ?_) rfl (by kernel_rfl) (by kernel_rfl) (by kernel_rfl) (fun _ _ _ h => h) (Or.inl ⟨by rfl, ?_⟩) (by assumption) ?_
  rotate_left
  · (intro w hSw; (try dsimp only at hSw); go_simp; (try with_reducible rfl))
  try simp only [Act.put, List.setIfInBounds_toArray, List.set_cons_zero, List.set_cons_succ, List.getElem_toArray, List.getElem_cons_succ, List.getElem_cons_zero]
  refine wpAnyH_ready (rs := [1]) (by kernel_rfl) (by simp) ?_
  refine AllReadyH.cons rfl (fun K hK => ?_) AllReadyH.nil
  go_simp
  refine (wm_any b w4.drew Hb.out).mono ?_
  rintro e w9 ⟨rfl, rfl⟩
  refine hK.out _ _ ⟨Ba4.out.1, Bx4.out.1⟩ (fun hHeld => ?_)
  clear hK K
  try simp only [Act.put, List.setIfInBounds_toArray, List.set_cons_zero, List.set_cons_succ, List.getElem_toArray, List.getElem_cons_succ, List.getElem_cons_zero]
  refine wpAnyH_ready (rs := [4]) (by kernel_rfl) (by simp) ?_
  refine AllReadyH.cons rfl (fun K hK => ?_) AllReadyH.nil
  go_simp
  refine (implOppD_any S3 X A3 n3 c3 w4.drew Zo4.out.zv.sg.1 Zo4.out.zv.sg.2.1).mono ?_
  rintro e w5 ⟨rfl, hb0⟩
  have hb : Below w4.heap.size w4 w5 := belDrew hb0
  refine hK.out _ _ ⟨(Ba4.out.next hb).1, (Bx4.out.next hb).1⟩ (fun hHeld => ?_)
  clear hK K hb0
  have Sz5 := Lib.hid (Below.size hb)
  have Bel5 := Lib.hid (belNext Bel4.out hb)
  have Bx5 := Lib.hid (Bx4.out.next hb)
  have RsD5 := Lib.hid (RsD4.out.next hb)
  have Zv5 := Lib.hid (Zv4.out.next hb)
  have Tb5 := Lib.hid (Tb4.out.next hb)
  have Zo5 := Lib.hid (Zo4.out.next hb)
  have Ba5 := Lib.hid (Ba4.out.next hb)
  clear hb Bel4 Bx4 RsD4 Zv4 Tb4 Zo4 Ba4
  try simp only [Act.put, List.setIfInBounds_toArray, List.set_cons_zero, List.set_cons_succ, List.getElem_toArray, List.getElem_cons_succ, List.getElem_cons_zero]
  refine wpAnyH_ready (rs := [5]) (by kernel_rfl) (by simp) ?_
  refine AllReadyH.cons rfl (fun K hK => ?_) AllReadyH.nil
  go_simp
  refine (implPlusD_any z S E (-(ofZ b)) (-S3) X A A3 n c n3 c3 w5 Zv5.out Zo5.out.zv.neg (by have := Hm.out; omega) (by have := Hn3.out; omega) (by omega) (by omega) (by omega) (by omega) Tb5.out).mono ?_
  rintro e w6 ⟨S9, A9, n9, c9, rfl, hzo, hb0⟩
  have hb : Below w5.heap.size w5 w6 := hb0
  have Zp6 := Lib.hid hzo
  clear hzo
  refine hK.out _ _ ⟨(Ba5.out.next hb).1, (Bx5.out.next hb).1⟩ (fun hHeld => ?_)
  clear hK K hb0
  have Sz6 := Lib.hid (Below.size hb)
  have Bel6 := Lib.hid (belNext Bel5.out hb)
  have Bx6 := Lib.hid (Bx5.out.next hb)
  have RsD6 := Lib.hid (RsD5.out.next hb)
  have Zv6 := Lib.hid (Zv5.out.next hb)
  have Tb6 := Lib.hid (Tb5.out.next hb)
  have Zo6 := Lib.hid (Zo5.out.next hb)
  have Ba6 := Lib.hid (Ba5.out.next hb)
  clear hb Bel5 Bx5 RsD5 Zv5 Tb5 Zo5 Ba5
  try simp only [Act.put, List.setIfInBounds_toArray, List.set_cons_zero, List.set_cons_succ, List.getElem_toArray, List.getElem_cons_succ, List.getElem_cons_zero]
  refine wpAnyH_ready (rs := [6]) (by kernel_rfl) (by simp) ?_
  refine AllReadyH.cons rfl (fun K hK => ?_) AllReadyH.nil
  go_simp
  refine hK.out _ _ hHeld (fun hHeld => ?_)
  clear hK K
  try simp only [Act.put, List.setIfInBounds_toArray, List.set_cons_zero, List.set_cons_succ, List.getElem_toArray, List.getElem_cons_succ, List.getElem_cons_zero]
  obtain ⟨⟨hRsD0, hRsD1, hRsD2, hRsD3, hRsD4, hRsD5⟩, hRsD6⟩ := RsD6.out
  refine wpAnyH_ready (rs := [7]) (by kernel_rfl) (by simp) ?_
  refine AllReadyH.cons rfl (fun K hK => ?_) AllReadyH.nil
  go_simp
  refine hK.out _ _ ⟨(((Ba6.out.keep (by have zz0 := Hlt.out; have zz1 := Sz2.out; have zz2 := Sz3.out; have zz3 := Sz4.out; have zz4 := Hf.out; have zz5 := Sz5.out; have zz6 := Sz6.out; first | omega | (simp; done) | (simp; omega)) _).keep (by have zz0 := Hlt.out; have zz1 := Sz2.out; have zz2 := Sz3.out; have zz3 := Sz4.out; have zz4 := Hf.out; have zz5 := Sz5.out; have zz6 := Sz6.out; first | omega | (simp; done) | (simp; omega)) _).keep (by have zz0 := Hlt.out; have zz1 := Sz2.out; have zz2 := Sz3.out; have zz3 := Sz4.out; have zz4 := Hf.out; have zz5 := Sz5.out; have zz6 := Sz6.out; first | omega | (simp; done) | (simp; omega)) _).1, (((Bx6.out.keep (by have zz0 := Hlt.out; have zz1 := Sz2.out; have zz2 := Sz3.out; have zz3 := Sz4.out; have zz4 := Hf.out; have zz5 := Sz5.out; have zz6 := Sz6.out; first | omega | (simp; done) | (simp; omega)) _).keep (by have zz0 := Hlt.out; have zz1 := Sz2.out; have zz2 := Sz3.out; have zz3 := Sz4.out; have zz4 := Hf.out; have zz5 := Sz5.out; have zz6 := Sz6.out; first | omega | (simp; done) | (simp; omega)) _).keep (by have zz0 := Hlt.out; have zz1 := Sz2.out; have zz2 := Sz3.out; have zz3 := Sz4.out; have zz4 := Hf.out; have zz5 := Sz5.out; have zz6 := Sz6.out; first | omega | (simp; done) | (simp; omega)) _).1⟩ (fun hHeld => ?_)
  clear hK K
  try simp only [Act.put, List.setIfInBounds_toArray, List.set_cons_zero, List.set_cons_succ, List.getElem_toArray, List.getElem_cons_succ, List.getElem_cons_zero]
  clear hHeld
  refine wpAnyH_done (by kernel_rfl) ?_ _
  go_wp2_with fail
  refine bodyPost_ret (v := .tuple #[.float .f32 (wm b), .agg #[.int .i64 S9, .slice A9 n9 c9, .int .i64 (min E X)]]) (by simp [results, Tryd.results86, go_sem, hRsD0, hRsD1, hRsD2]) rfl ⟨S9, A9, n9, c9, by rw [HR.out.2.1], ?_, ?_⟩
  · rw [HR.out.1]; exact (((Zp6.out.setCell (.inl (by have zz0 := Hlt.out; have zz1 := Sz2.out; have zz2 := Sz3.out; have zz3 := Sz4.out; have zz4 := Hf.out; have zz5 := Sz5.out; have zz6 := Sz6.out; first | omega | (simp; done) | (simp; omega))) _).setCell (.inl (by have zz0 := Hlt.out; have zz1 := Sz2.out; have zz2 := Sz3.out; have zz3 := Sz4.out; have zz4 := Hf.out; have zz5 := Sz5.out; have zz6 := Sz6.out; first | omega | (simp; done) | (simp; omega))) _).setCell (.inl (by have zz0 := Hlt.out; have zz1 := Sz2.out; have zz2 := Sz3.out; have zz3 := Sz4.out; have zz4 := Hf.out; have zz5 := Sz5.out; have zz6 := Sz6.out; first | omega | (simp; done) | (simp; omega))) _).wide (by have zz0 := Hlt.out; have zz1 := Sz2.out; have zz2 := Sz3.out; have zz3 := Sz4.out; have zz4 := Hf.out; have zz5 := Sz5.out; have zz6 := Sz6.out; first | omega | (simp; done) | (simp; omega)) (by have zz0 := Hlt.out; have zz1 := Sz2.out; have zz2 := Sz3.out; have zz3 := Sz4.out; have zz4 := Hf.out; have zz5 := Sz5.out; have zz6 := Sz6.out; first | omega | (simp; done) | (simp; omega)) (by have zz0 := Hlt.out; have zz1 := Sz2.out; have zz2 := Sz3.out; have zz3 := Sz4.out; have zz4 := Hf.out; have zz5 := Sz5.out; have zz6 := Sz6.out; first | omega | (simp; done) | (simp; omega))
  · exact ((Bel6.out.setCell (by have zz0 := Hlt.out; have zz1 := Sz2.out; have zz2 := Sz3.out; have zz3 := Sz4.out; have zz4 := Hf.out; have zz5 := Sz5.out; have zz6 := Sz6.out; first | omega | (simp; done) | (simp; omega)) _).setCell (by have zz0 := Hlt.out; have zz1 := Sz2.out; have zz2 := Sz3.out; have zz3 := Sz4.out; have zz4 := Hf.out; have zz5 := Sz5.out; have zz6 := Sz6.out; first | omega | (simp; done) | (simp; omega)) _).setCell (by have zz0 := Hlt.out; have zz1 := Sz2.out; have zz2 := Sz3.out; have zz3 := Sz4.out; have zz4 := Hf.out; have zz5 := Sz5.out; have zz6 := Sz6.out; first | omega | (simp; done) | (simp; omega)) _

end Go.Proofs.YtnecnbonnidijaaDoor
/- CompressExpansion, of the program. -/
namespace Go.Proofs.YtnecnbonnidijaaDoor
set_option maxRecDepth 100000
open Go.RowKit
set_option linter.unusedSimpArgs false
set_option linter.unusedVariables false

theorem cp_rest {U : Int} (hf : fin32 (rdF U (-149) 0) = true) : (U - uI (rdF U (-149) 0)).natAbs ≤ U.natAbs := by
  rw [(near_units U).2.2.1 hf]
  have h := rnI_near U (f := 0) FN.zero
  simpa using h
/-- the floats of a compressed expansion: k of them at most -/
noncomputable def cpL : Nat → Int → Option (List Nat)
  | 0, _ => none
  | k + 1, U => if fin32 (rdF U (-149) 0) = true then (if U - uI (rdF U (-149) 0) = 0 then some [wm (rdF U (-149) 0)] else (cpL k (U - uI (rdF U (-149) 0))).map (wm (rdF U (-149) 0) :: ·)) else none
theorem cpL_inf {k : Nat} {U : Int} (hf : fin32 (rdF U (-149) 0) = false) : cpL (k + 1) U = none := by
  unfold cpL; rw [hf]; rfl
theorem cpL_end {k : Nat} {U : Int} (hf : fin32 (rdF U (-149) 0) = true) (h0 : U - uI (rdF U (-149) 0) = 0) : cpL (k + 1) U = some [wm (rdF U (-149) 0)] := by
  unfold cpL; rw [if_pos hf, if_pos h0]
theorem cpL_on {k : Nat} {U : Int} (hf : fin32 (rdF U (-149) 0) = true) (h0 : ¬ U - uI (rdF U (-149) 0) = 0) : cpL (k + 1) U = (cpL k (U - uI (rdF U (-149) 0))).map (wm (rdF U (-149) 0) :: ·) := by
  conv => lhs; unfold cpL
  rw [if_pos hf, if_neg h0]
theorem fin_wm (b : Nat) : fin32 (wm b) = fin32 b := by
  unfold wm
  split
  · rename_i h; unfold fin32; rw [h]
  · rfl
theorem wm_lt {b : Nat} (h : b < 4294967296) : wm b < 4294967296 := by unfold wm; split <;> omega
/-- the code and the floats of a compressed expansion -/
noncomputable def ceE (xs : List Nat) : Int := if exE xs = 0 then (if (cpL 8 (uS xs)).isSome = true then 0 else 3) else exE xs
noncomputable def ceL (xs : List Nat) : List Nat := if exE xs = 0 then (cpL 8 (uS xs)).getD [] else []
theorem ce_some {xs l : List Nat} (h : exE xs = 0) (hc : cpL 8 (uS xs) = some l) : ceE xs = 0 ∧ ceL xs = l := by
  unfold ceE ceL; rw [if_pos h, if_pos h, hc]; exact ⟨rfl, rfl⟩
theorem ce_none {xs : List Nat} (h : exE xs = 0) (hc : cpL 8 (uS xs) = none) : ceE xs = 3 ∧ ceL xs = [] := by
  unfold ceE ceL; rw [if_pos h, if_pos h, hc]; exact ⟨rfl, rfl⟩
theorem ce_no {xs : List Nat} (h : ¬ exE xs = 0) : ceE xs = exE xs ∧ ceL xs = [] := by
  unfold ceE ceL; rw [if_neg h, if_neg h]; exact ⟨rfl, rfl⟩
def slLen : Value → Nat
  | .slice _ n _ => n
  | _ => 0

set_option maxHeartbeats 4000000 in
theorem implCe_any (xs : List Nat) (A : Option Addr) (n c : Nat) (w : World) (hr : Rd w w.heap.size A (fs xs)) (hn : xs.length = n) (hm : n ≤ 1048580) (hl : ∀ f ∈ xs, f < 4294967296) (hT : TabZ w) :
    Calls Tryd.prog 35 #[.slice A n c] w fun e w' => ∃ A' n' c', e = .returned (.tuple #[.slice A' n' c', .int .i64 (ceE xs)]) ∧ (ceL xs).length = n' ∧ Fw w' w.heap.size w'.heap.size A' (fs (ceL xs)) ∧ n' ≤ c' ∧ Below w.heap.size w w' := by
  have hst := store_int Tryd.prog
  have hst2 := store_slice Tryd.prog
  have hst3 := store_float Tryd.prog
  have HT := Lib.hid hT
  have HV := Lib.hid (implVeW_any xs A n c w hr hn hm hl hT)
  clear hr hn hm hl hT
  go_enter Tryd.func35, Tryd.ntmps35
  go_wp2_with fail
  refine HV.out.mono ?_
  rintro e w1 ⟨S1, A1, n1, c1, rfl, hzo, hb⟩
  have Zo1 := Lib.hid hzo
  have Bel1 := Lib.hid hb
  have Sz1 : Hid (w.heap.size ≤ w1.heap.size) := Lib.hid hb.size
  obtain ⟨X, hX⟩ : ∃ X, X = veX xs := ⟨_, rfl⟩
  have HX := Lib.hid hX
  obtain ⟨CD, hCD⟩ : ∃ CD, CD = exE xs := ⟨_, rfl⟩
  have HCD := Lib.hid hCD
  rw [← hX, ← hCD]
  clear hzo hb hX hCD HV
  go_upto_region 2 with fail
  obtain ⟨w2, hw2⟩ : ∃ w2, w2 = w1.alloc (.cells #[.int .i64 S1, .slice A1 n1 c1, .int .i64 X] 30) := ⟨_, rfl⟩
  rw [← hw2]
  obtain ⟨f, hf⟩ : ∃ f, f = w1.heap.size := ⟨_, rfl⟩
  have hb : Below w1.heap.size w1 w2 := by rw [hw2]; exact belAlloc1 _ _
  have Bx2 : Hid (DBox w2 f S1 A1 n1 c1 X) := Lib.hid (by rw [hw2, hf]; exact DBox.new _ _ _ _ _ _ _)
  have Fr2 : Hid (Fr3 w2 f) := Lib.hid (by rw [hw2, hf]; exact Fr3.new _ _ _ _ _ _ _)
  have Zo2 := Lib.hid (Zo1.out.next hb)
  have Bel2 := Lib.hid (belNext Bel1.out hb)
  have Hf : Hid (w1.heap.size = f) := Lib.hid hf.symm
  have Sz2 : Hid (f < w2.heap.size) := Lib.hid Bx2.out.2
  rw [← hf]
  clear hw2 hf hb Zo1 Bel1
  obtain ⟨⟨hx0, hx1, hx2⟩, hx3⟩ := Bx2.out
  by_cases hc0 : CD = 0
  · have Hc0 : Hid (exE xs = 0) := Lib.hid (by rw [← HCD.out]; exact hc0)
    have Hve := Lib.hid (ve_yes Hc0.out)
    have Hsm := Lib.hid (ve_small Hc0.out)
    subst hc0
    go_wp2_with fail
    obtain ⟨w3, hw3⟩ : ∃ w3, w3 = w2.alloc (.cells #[] 40) := ⟨_, rfl⟩
    rw [← hw3]
    have hb : Below w2.heap.size w2 w3 := by rw [hw3]; exact belAlloc1 _ _
    have Bx3 := Lib.hid (Bx2.out.next hb)
    have Fr3a := Lib.hid (Fr2.out.next hb)
    have Zo3 := Lib.hid (Zo2.out.next hb)
    have Bel3 := Lib.hid (belNext Bel2.out hb)
    have Sz3 : Hid (w2.heap.size ≤ w3.heap.size) := Lib.hid hb.size
    clear hb hw3 Bx2 Fr2 Zo2 Bel2 hx0 hx1 hx2 hx3
    have hu0 : uV (-149) (veZ xs) X = uS xs := by
      rw [HX.out, Hve.out.1, Hve.out.2, uV_nz (Int.le_refl _), uV_one]
    have hx0 : -149 ≤ X ∧ X ≤ 139 := by rw [HX.out, Hve.out.2]; exact nx_u Hsm.out
    go_loopw [6] (fun i wr => ∃ (ps : List Nat) (np cp : Nat) (Ap : Option Addr) (Z E S U : Int) (A' : Option Addr) (n' c' lo hi : Nat), i = .slice Ap np cp ∧ ps.length = np ∧ np ≤ 8 ∧ np ≤ cp ∧ Fw wr (f + 1) wr.heap.size Ap (fs ps) ∧ DBox wr f S A' n' c' E ∧ Fr3 wr f ∧ ZO wr lo hi Z S A' n' c' ∧ (f < lo ∨ hi ≤ f) ∧ w.heap.size ≤ lo ∧ hi ≤ wr.heap.size ∧ uV (-149) Z E = U ∧ U.natAbs ≤ 8 * (16777216 * 2 ^ 253) ∧ -149 ≤ E ∧ E ≤ 150 ∧ cpL 8 (uS xs) = (cpL (8 - np) U).map (ps ++ ·) ∧ Below w.heap.size w wr ∧ f < wr.heap.size) (fun i _ => 8 - slLen i)
    case atStart => exact ⟨[], 0, 0, _, veZ xs, X, S1, uS xs, A1, n1, c1, w.heap.size, w1.heap.size, rfl, rfl, by omega, by omega, Fw.nil_, Bx3.out, Fr3a.out, Zo3.out, .inr (by have := Hf.out; omega), Nat.le_refl _, by have := Hf.out; have := Sz2.out; have := Sz3.out; omega, hu0, Hsm.out, hx0.1, by omega, by simp, Bel3.out, by have := Sz2.out; have := Sz3.out; omega⟩
    case round =>
      obtain ⟨ps, np, cp, Ap, Z, E, S, U, A', n', c', lo, hi, rfl, hps, hnp, hcp, hfw, hbx, hfr, hzo, hlh, hlo, hhi, hu, hU, hE1, hE2, hcl, hbel, hsz⟩ := hrel
      clear Bx3 Fr3a Zo3 Bel3 hu0 hx0
      have Bx4 := Lib.hid hbx
      have Fr4 := Lib.hid hfr
      have Zo4 := Lib.hid hzo
      have Fw4 := Lib.hid hfw
      have Bel4 := Lib.hid hbel
      have Hlh := Lib.hid (And.intro hlh (And.intro hlo (And.intro hhi hsz)))
      have Hu := Lib.hid hu
      have HU := Lib.hid hU
      have Hps := Lib.hid hps
      have Hcp := Lib.hid hcp
      have Hcl := Lib.hid hcl
      have Hn12 : Hid ((n' : Int) ≤ 12) := Lib.hid (by have h := z_len hu hU; have e := hzo.2.1; omega)
      clear hbx hfr hzo hfw hbel hlh hlo hhi hsz hu hU hps hcp hcl
      by_cases hlt : np < 8
      · obtain ⟨k, hk⟩ : ∃ k, 8 - np = k + 1 := ⟨7 - np, by omega⟩
        have Hk := Lib.hid hk
        clear hk
        have hd8 : decide ((np : Int) < 8) = true := decide_eq_true (by omega)
        obtain ⟨⟨hx0, hx1, hx2⟩, hx3⟩ := Bx4.out
        obtain ⟨b, hbe⟩ : ∃ b, b = rdF U (-149) 0 := ⟨_, rfl⟩
        have Hb : Hid (rdF Z E 0 = b ∧ b = rdF U (-149) 0 ∧ b < 4294967296) := Lib.hid ⟨by rw [hbe, ← Hu.out, (rd_uV hE1 0).1], hbe, by rw [hbe]; exact (rdF_ok _ _ _).1⟩
        clear hbe
        go_wp2_with fail
        refine (implSplit_any Z S E A' n' c' _ Zo4.out.zv (fun _ => ⟨hE1, hE2⟩) (by have := Hn12.out; omega) (by omega) (by omega) (HT.out.next Bel4.out)).mono ?_
        rintro e w5 ⟨S5, A5, n5, c5, rfl, hzo, hb⟩
        rw [Hb.out.1]
        obtain ⟨X5, hX5⟩ : ∃ X5, X5 = spX Z E := ⟨_, rfl⟩
        have HX5 := Lib.hid hX5
        rw [← hX5]
        have Zo5 := Lib.hid hzo
        have Bx5 := Lib.hid (Bx4.out.next hb)
        have Fr5 := Lib.hid (Fr4.out.next hb)
        have Fw5 := Lib.hid (Fw4.out.below' hb)
        have Bel5 := Lib.hid (belNext Bel4.out hb)
        have Sz5 : Hid (wr.heap.size ≤ w5.heap.size) := Lib.hid hb.size
        clear hzo hb hX5 Bx4 Fr4 Fw4 Bel4 Zo4 hx0 hx1 hx2 hx3
        obtain ⟨⟨hx0, hx1, hx2⟩, hx3⟩ := Bx5.out
        obtain ⟨⟨hf0, hf1, hf2⟩, hf3⟩ := Fr5.out
        obtain ⟨y, hy⟩ : ∃ y, y = wm b := ⟨_, rfl⟩
        have Hy : Hid (y < 4294967296 ∧ fin32 y = fin32 b ∧ y = wm b) := Lib.hid ⟨by rw [hy]; exact wm_lt Hb.out.2.2, by rw [hy]; exact fin_wm b, hy⟩
        rw [← hy]
        clear hy
        go_upto_region 8 with fail
        obtain ⟨w6, hw6⟩ : ∃ w6, w6 = st3 w5 f S5 A5 n5 c5 X5 := ⟨_, rfl⟩
        have Bx6 : Hid (DBox w6 f S5 A5 n5 c5 X5) := Lib.hid (by rw [hw6]; exact DBox.made hx3 ⟨_, hx0⟩ ⟨_, hx1⟩ ⟨_, hx2⟩)
        have Fr6 : Hid (Fr3 w6 f) := Lib.hid (by rw [hw6]; exact Fr5.out.made)
        have Zo6 : Hid (ZO w6 wr.heap.size w5.heap.size (spZ Z E) S5 A5 n5 c5) := Lib.hid (by rw [hw6]; exact Zo5.out.st3_ (.inl (by have := Hlh.out; omega)))
        have Sz6 : Hid (w6.heap.size = w5.heap.size) := Lib.hid (by rw [hw6, st3_size])
        have Bel6 : Hid (Below w.heap.size w w6) := Lib.hid (by rw [hw6]; exact belSt3 Bel5.out (by have := Hlh.out; have := Hf.out; have := Sz1.out; omega))
        have Fw6 : Hid (Fw w6 (f + 1) wr.heap.size Ap (fs ps)) := Lib.hid (by rw [hw6]; unfold st3; exact ((Fw5.out.setCell (.inl (by simp)) _).setCell (.inl (by simp)) _).setCell (.inl (by simp)) _)
        show Code.wp _ _ _ _ (st3 w5 f S5 A5 n5 c5 X5)
        rw [← hw6]
        clear hw6 hx0 hx1 hx2 hx3 hf0 hf1 hf2 hf3 Bx5 Fr5 Bel5 Fw5 Zo5 hd8
        go_wp2_with fail
        refine (implFinite_any y _ Hy.out.1).mono ?_
        rintro e w9 ⟨rfl, rfl⟩
        rw [Hy.out.2.1]
        by_cases hfb : fin32 b = true
        · rw [hfb]
          have Hfb := Lib.hid hfb
          clear hfb
          go_wp2_with fail
          refine (implExt_any ps Ap np cp y _ (Fw6.out.rd.up (by have := Sz5.out; have := Sz6.out; omega)) Hps.out (by omega) Hcp.out).mono ?_
          rintro e w7 ⟨A7, c7, rfl, hfw7, hc7, hb⟩
          have Fw7 : Hid (Fw w7 (f + 1) w7.heap.size A7 (fs (ps ++ [y]))) := Lib.hid (hfw7.wide (by have := Sz5.out; have := Sz6.out; have := Hlh.out; omega) (Nat.le_refl _))
          have Hc7 := Lib.hid hc7
          have Bx7 := Lib.hid (Bx6.out.next hb)
          have Fr7 := Lib.hid (Fr6.out.next hb)
          have Zo7 := Lib.hid (Zo6.out.next hb)
          have Bel7 := Lib.hid (belNext Bel6.out hb)
          have Sz7 : Hid (w6.heap.size ≤ w7.heap.size) := Lib.hid hb.size
          clear hb hfw7 hc7 Bx6 Fr6 Zo6 Bel6 Fw6
          obtain ⟨V, hV⟩ : ∃ V, V = U - uI b := ⟨_, rfl⟩
          have Hun : Hid (uV (-149) (spZ Z E) X5 = V) := Lib.hid (by
            have h1 := ofX_small b
            rw [HX5.out]
            unfold spZ spX
            rw [Hb.out.1, uV_sum hE1 h1.1, uV_neg, Hu.out, hV]
            have h2 := of_yes2 Hfb.out
            rw [show ofZ b = fz b from h2.1, show ofX b = fe b from h2.2.1, uI_uV]
            omega)
          have HVs : Hid (V.natAbs ≤ 8 * (16777216 * 2 ^ 253)) := Lib.hid (by
            have h := cp_rest (U := U) (by rw [← Hb.out.2.1]; exact Hfb.out)
            rw [← Hb.out.2.1, ← hV] at h
            exact Nat.le_trans h HU.out)
          have HX6 : Hid (-149 ≤ X5 ∧ X5 ≤ 150) := Lib.hid (by
            have h1 := ofX_small b
            rw [HX5.out]
            unfold spX
            rw [Hb.out.1]
            omega)
          have HSV : Hid (S5 = V.sign) := Lib.hid (by rw [← Hun.out, sign_uV]; exact Zo7.out.zv.1)
          have HVU := Lib.hid hV
          clear hV
          obtain ⟨⟨hx0, hx1, hx2⟩, hx3⟩ := Bx7.out
          by_cases hv : V = 0
          · have hs0 : (S5 == 0) = true := by rw [HSV.out, hv]; rfl
            have Hcl2 : Hid (cpL 8 (uS xs) = some (ps ++ [y])) := Lib.hid (by
              rw [Hcl.out, Hk.out, cpL_end (by rw [← Hb.out.2.1]; exact Hfb.out) (by rw [← Hb.out.2.1, ← HVU.out]; exact hv), ← Hb.out.2.1, ← Hy.out.2.2]
              rfl)
            have Hres := Lib.hid (ce_some Hc0.out Hcl2.out)
            clear hv
            go_wp2_with fail
            go_ret2
            exact ⟨A7, np + 1, c7, by rw [Hres.out.1]; rfl, by rw [Hres.out.2, List.length_append, Hps.out]; rfl, by rw [Hres.out.2]; exact Fw7.out.wide (by have := Hf.out; have := Sz1.out; omega) (Nat.le_refl _), Hc7.out, Bel7.out⟩
          · have hs0 : (S5 == 0) = false := beq_false_of_ne (fun e => hv (by rw [HSV.out] at e; exact Int.sign_eq_zero_iff_zero.1 e))
            have Hcl2 : Hid (cpL 8 (uS xs) = (cpL (8 - (np + 1)) V).map ((ps ++ [y]) ++ ·)) := Lib.hid (by
              rw [Hcl.out, Hk.out, cpL_on (by rw [← Hb.out.2.1]; exact Hfb.out) (by rw [← Hb.out.2.1, ← HVU.out]; exact hv), ← Hb.out.2.1, ← HVU.out, ← Hy.out.2.2, Option.map_map, show 8 - (np + 1) = k by have := Hk.out; omega]
              congr 1
              funext l
              simp)
            clear hv
            go_wp2_with fail
            go_round
            case rel => exact ⟨ps ++ [y], np + 1, c7, A7, spZ Z E, X5, S5, V, A5, n5, c5, wr.heap.size, w5.heap.size, rfl, by rw [List.length_append, Hps.out]; rfl, by omega, Hc7.out, Fw7.out, Bx7.out, Fr7.out, Zo7.out, .inl (by have := Hlh.out; omega), by have := Hlh.out; have := Hf.out; have := Sz1.out; omega, by have := Sz6.out; have := Sz7.out; omega, Hun.out, HVs.out, HX6.out.1, HX6.out.2, Hcl2.out, Bel7.out, by have := Hlh.out; have := Sz5.out; have := Sz6.out; have := Sz7.out; omega⟩
            case measure => simp [slLen]; omega
        · have hfb2 : fin32 b = false := by simpa using hfb
          have Hcl2 : Hid (cpL 8 (uS xs) = none) := Lib.hid (by
            rw [Hcl.out, Hk.out, cpL_inf (by rw [← Hb.out.2.1]; exact hfb2)]
            rfl)
          have Hres := Lib.hid (ce_none Hc0.out Hcl2.out)
          rw [hfb2]
          clear hfb hfb2
          go_wp2_with fail
          go_ret2
          exact ⟨none, 0, 0, by rw [Hres.out.1]; rfl, by rw [Hres.out.2]; rfl, by rw [Hres.out.2]; exact .inl rfl, Nat.le_refl _, Bel6.out⟩
      · have hd8 : decide ((np : Int) < 8) = false := decide_eq_false (by omega)
        have Hcl2 : Hid (cpL 8 (uS xs) = none) := Lib.hid (by
          rw [Hcl.out, show 8 - np = 0 by omega]
          rfl)
        have Hres := Lib.hid (ce_none Hc0.out Hcl2.out)
        clear hlt
        go_wp2_with fail
        go_ret2
        exact ⟨none, 0, 0, by rw [Hres.out.1]; rfl, by rw [Hres.out.2]; rfl, by rw [Hres.out.2]; exact .inl rfl, Nat.le_refl _, Bel4.out⟩
  · have hd : (CD == 0) = false := beq_false_of_ne hc0
    have Hres := Lib.hid (ce_no (xs := xs) (by rw [← HCD.out]; exact hc0))
    have HC2 : Hid (ceE xs = CD) := Lib.hid (by rw [Hres.out.1, HCD.out])
    clear hc0
    go_wp2_with fail
    go_ret2
    exact ⟨none, 0, 0, by rw [HC2.out]; rfl, by rw [Hres.out.2]; rfl, by rw [Hres.out.2]; exact .inl rfl, Nat.le_refl _, Bel2.out⟩
end Go.Proofs.YtnecnbonnidijaaDoor
/- CompressExpansion, of the model. -/
namespace Go.Proofs.YtnecnbonnidijaaDoor
set_option maxRecDepth 100000
open Go.RowKit
set_option linter.unusedSimpArgs false
set_option linter.unusedVariables false

/-- a row of floats that holds something is no box of an exact number -/
theorem row_ne {w : World} {f base np cp : Nat} {S E : Int} {A Ap : Option Addr} {n c : Nat} {ys : List Nat} (hb : DBox w f S A n c E) (ho : w.ownsRow base 40 1 (.slice Ap np cp) np (fs ys)) (hy : ys ≠ []) : ∀ g, Ap = some ⟨g, 0, none⟩ → g ≠ f := by
  intro g hg e
  subst e
  cases ys with
  | nil => exact hy rfl
  | cons a t =>
    obtain ⟨b, h1, _, h3⟩ := (Fw.own ho).rd 0 (.float .f32 a) rfl
    rw [hg] at h1
    cases h1
    rw [add_zero_off] at h3
    have h4 := hb.1.1
    rw [h3] at h4
    cases h4
theorem own_below {w w' : World} {base : Nat} {e : TypeId} {v : Value} {n : Nat} {xs : List Value} (h : w.ownsRow base e 1 v n xs) (hb : Below w.heap.size w w') : w'.ownsRow base e 1 v n xs := by
  refine ⟨h.1, ?_⟩
  rcases h.2 with h2 | ⟨g, cap, cs, h3, h4, h5, h6⟩
  · exact .inl h2
  · exact .inr ⟨g, cap, cs, h3, h4, (hb.block g (Array.getElem?_eq_some_iff.1 h5).1).trans h5, h6⟩
theorem cpL_inf2 {k : Nat} {U : Int} (hf : fin32 (rdF U (-149) 0) = false) : cpL k U = none := by
  cases k with
  | zero => rfl
  | succ k => exact cpL_inf hf
theorem news_one (w : World) (x : Nat) : ∀ j u, (fs [x])[j]? = some u → (w.alloc (.cells #[.float .f32 x] 40)).cell? ((⟨w.heap.size, 0, none⟩ : Addr).add j) = some u := fun j u hu => by
  cases j with
  | zero =>
    have : u = .float .f32 x := by simpa [fs] using hu.symm
    rw [this, Addr.add_lit]; simp
  | succ k => simp [fs] at hu
theorem uI_wmb (b : Nat) : uI (wm b) = uI b := by
  unfold wm
  split
  · rename_i h
    exact (uI_zero.2 rfl).trans (uI_zero.2 h).symm
  · rfl
theorem own_row {w : World} {base k np cp g : Nat} {Ap : Option Addr} {xs : List Value} (ho : w.ownsRow base 40 1 (.slice Ap np cp) k xs) (h : Value.ownBlock (.slice Ap np cp) = some g) : Ap = some ⟨g, 0, none⟩ := by
  rcases ho.2 with ⟨h1, _⟩ | ⟨g', cap, cs, h1, _⟩
  · rw [h1] at h; simp [Value.ownBlock] at h
  · rw [h1] at h
    injection h1 with hA
    have : g' = g := by simpa [Value.ownBlock] using h
    rw [hA, this]
theorem dbox_grown {w w' : World} {f n c : Nat} {S E : Int} {A : Option Addr} {row : Option Nat} (x : DBox w f S A n c E) (hg : w.grownBy w' row) (hr : ∀ g, row = some g → g ≠ f) : DBox w' f S A n c E := by
  have hk : w'.heap[f]? = w.heap[f]? := hg.block f x.2 (fun e => hr f e.symm rfl)
  exact ⟨⟨(World.cell?_of_block (a := ⟨f, 0, none⟩) hk).trans x.1.1, (World.cell?_of_block (a := ⟨f, 1, none⟩) hk).trans x.1.2.1, (World.cell?_of_block (a := ⟨f, 2, none⟩) hk).trans x.1.2.2⟩, Nat.lt_of_lt_of_le x.2 hg.size⟩
theorem fr3_grown {w w' : World} {f : Nat} {row : Option Nat} (x : Fr3 w f) (hg : w.grownBy w' row) (hr : ∀ g, row = some g → g ≠ f) : Fr3 w' f := by
  have hk : w'.heap[f]? = w.heap[f]? := hg.block f x.2 (fun e => hr f e.symm rfl)
  exact ⟨⟨(World.frozen?_of_block (a := ⟨f, 0, none⟩) hk).trans x.1.1, (World.frozen?_of_block (a := ⟨f, 1, none⟩) hk).trans x.1.2.1, (World.frozen?_of_block (a := ⟨f, 2, none⟩) hk).trans x.1.2.2⟩, Nat.lt_of_lt_of_le x.2 hg.size⟩
theorem zo_grown {w w' : World} {lo hi n c : Nat} {z S : Int} {A : Option Addr} {row : Option Nat} (x : ZO w lo hi z S A n c) (hg : w.grownBy w' row) (hr : ∀ g, row = some g → g < lo ∨ hi ≤ g) : ZO w' lo hi z S A n c :=
  ⟨x.1, x.2.1, x.2.2.1, x.2.2.2.1.grown hg hr, Nat.le_trans x.2.2.2.2 hg.size⟩
/-- what the model's loop keeps -/
def cpI (xs : List Nat) (np : Nat) (ps : List Nat) (U : Int) : Prop := (U ≠ 0 ∧ cpL 8 (uS xs) = (cpL (8 - np) U).map (ps ++ ·)) ∨ (U = 0 ∧ cpL 8 (uS xs) = some (if np = 0 then [0] else ps))
theorem rd_nul : rdF 0 (-149) 0 = 0 := (rd_zero _ _).1
theorem cpI_start (xs : List Nat) : cpI xs 0 [] (uS xs) := by
  by_cases h : uS xs = 0
  · refine .inr ⟨h, ?_⟩
    rw [h, if_pos rfl, cpL_end (by rw [rd_nul]; decide) (by rw [rd_nul]; decide +kernel), rd_nul]
    rfl
  · exact .inl ⟨h, by simp⟩

set_option maxHeartbeats 8000000 in
theorem specCe_any (xs : List Nat) (A : Option Addr) (n c : Nat) (w : World) (hr : Rd w w.heap.size A (fs xs)) (hn : xs.length = n) (hm : n ≤ 1048580) (hl : ∀ f ∈ xs, f < 4294967296) :
    Calls Tryd.prog 34 #[.slice A n c] w fun e w' => ∃ A' n' c', e = .returned (.tuple #[.slice A' n' c', .int .i64 (ceE xs)]) ∧ (ceL xs).length = n' ∧ Fw w' w.heap.size w'.heap.size A' (fs (ceL xs)) ∧ n' ≤ c' ∧ Below w.heap.size w w' := by
  obtain ⟨i0, hi0, hz0, hz1, hz2⟩ := info_parts infoF
  have hst := store_int Tryd.prog
  have hst2 := store_slice Tryd.prog
  have hst3 := store_float Tryd.prog
  have HV := Lib.hid (specListX_any xs A n c w hr hn hm hl)
  have Hr := Lib.hid hr
  have Hn := Lib.hid hn
  have Hl := Lib.hid hl
  clear hr hn hm hl
  obtain ⟨CD, hCD⟩ : ∃ CD, CD = exE xs := ⟨_, rfl⟩
  have HCD := Lib.hid hCD
  go_enter Tryd.func34, Tryd.ntmps34
  go_wp2_with fail
  refine HV.out.mono ?_
  rintro e w1 ⟨rfl, hb⟩
  have Bel1 := Lib.hid hb
  rw [← hCD]
  clear hb hCD HV
  by_cases hc0 : CD = 0
  · have Hc0 : Hid (exE xs = 0) := Lib.hid (by rw [← HCD.out]; exact hc0)
    have Hsm := Lib.hid (ve_small Hc0.out)
    have Hal := Lib.hid (ex_all Hc0.out)
    subst hc0
    go_wp2_with fail
    refine (specAll_any xs A n c _ ((Hr.out.below Bel1.out).up Bel1.out.size) Hn.out (by have := Hal.out.1; have := Hn.out; omega) Hl.out Hal.out.2).mono ?_
    rintro e w2 ⟨S2, A2, n2, c2, rfl, hzo, hb⟩
    have Zo2 := Lib.hid hzo
    have Bel2 := Lib.hid (belNext Bel1.out hb)
    have Sz1 := Lib.hid Bel1.out.size
    have Sz2 := Lib.hid hb.size
    obtain ⟨X, hX⟩ : ∃ X, X = nx (uS xs) (-149) := ⟨_, rfl⟩
    have HX := Lib.hid hX
    rw [← hX]
    clear hzo hb hX Bel1
    go_wp2_with fail
    obtain ⟨w3, hw3⟩ : ∃ w3, w3 = (w2.alloc (.cells #[] 40)).alloc (.cells #[.int .i64 S2, .slice A2 n2 c2, .int .i64 X] 30) := ⟨_, rfl⟩
    rw [← hw3]
    obtain ⟨f, hf⟩ : ∃ f, f = w2.heap.size + 1 := ⟨_, rfl⟩
    have hb : Below w2.heap.size w2 w3 := by rw [hw3]; exact belNext (belAlloc1 _ _) (belAlloc1 _ _)
    have Ho3 : Hid (w3.ownsRow w2.heap.size 40 1 (.slice (some ⟨w2.heap.size, 0, none⟩) 0 0) 0 []) := Lib.hid ⟨rfl, .inr ⟨w2.heap.size, 0, #[], rfl, Nat.le_refl _, by rw [hw3]; exact (Below.heap_alloc _ _ _ (by simp)).trans (heap_alloc_new w2 _), Nat.le_refl _, Nat.zero_le _, rfl, rfl⟩⟩
    have Bx3 : Hid (DBox w3 f S2 A2 n2 c2 X) := Lib.hid (by rw [hw3, hf]; have h := DBox.new (w2.alloc (.cells #[] 40)) S2 A2 n2 c2 X 30; simpa using h)
    have Fr3a : Hid (Fr3 w3 f) := Lib.hid (by rw [hw3, hf]; have h := Fr3.new (w2.alloc (.cells #[] 40)) S2 A2 n2 c2 X 30; simpa using h)
    have Zo3 := Lib.hid (Zo2.out.next hb)
    have Bel3 := Lib.hid (belNext Bel2.out hb)
    have Sz3 : Hid (f < w3.heap.size) := Lib.hid Bx3.out.2
    have Hf := Lib.hid hf
    try rw [← hf]
    clear hb hw3 hf Zo2 Bel2
    go_loopw [6] (fun i wr => ∃ (ps : List Nat) (np cp : Nat) (Ap : Option Addr) (S U E : Int) (A' : Option Addr) (n' c' lo hi : Nat), i = .slice Ap np cp ∧ ps.length = np ∧ np ≤ 8 ∧ np ≤ cp ∧ wr.ownsRow w2.heap.size 40 1 (.slice Ap np cp) np (fs ps) ∧ (∀ g, Ap = some ⟨g, 0, none⟩ → g ≠ f ∧ (g < lo ∨ hi ≤ g)) ∧ DBox wr f S A' n' c' E ∧ Fr3 wr f ∧ ZO wr lo hi (nz U) S A' n' c' ∧ (f < lo ∨ hi ≤ f) ∧ hi ≤ wr.heap.size ∧ E = nx U (-149) ∧ U.natAbs ≤ 8 * (16777216 * 2 ^ 253) ∧ cpI xs np ps U ∧ Below w.heap.size w wr ∧ f < wr.heap.size) (fun i _ => 8 - slLen i)
    case atStart => exact ⟨[], 0, 0, _, S2, uS xs, X, A2, n2, c2, w1.heap.size, w2.heap.size, rfl, rfl, by omega, by omega, Ho3.out, fun g e => by cases e; have := Hf.out; omega, Bx3.out, Fr3a.out, Zo3.out, .inr (by have := Hf.out; omega), by have := Hf.out; have := Sz3.out; omega, HX.out, Hsm.out, cpI_start xs, Bel3.out, Sz3.out⟩
    case round =>
      obtain ⟨ps, np, cp, Ap, S, U, E, A', n', c', lo, hi, rfl, hps, hnp, hcp, how, hne, hbx, hfr, hzo, hlh, hhi, hE, hU, hci, hbel, hsz⟩ := hrel
      clear Bx3 Fr3a Zo3 Bel3 Ho3
      have Bx4 := Lib.hid hbx
      have Fr4 := Lib.hid hfr
      have Zo4 := Lib.hid hzo
      have Ho4 := Lib.hid how
      have Hne := Lib.hid hne
      have Bel4 := Lib.hid hbel
      have Hlh := Lib.hid (And.intro hlh (And.intro hhi hsz))
      have HE := Lib.hid hE
      have HU := Lib.hid hU
      have Hps := Lib.hid hps
      have Hcp := Lib.hid hcp
      have Hci := Lib.hid hci
      have hEb := nx_u hU
      rw [← hE] at hEb
      obtain ⟨hE1, hE2⟩ := hEb
      have Hn12 : Hid ((n' : Int) ≤ 12) := Lib.hid (by have h := Nat.le_trans (limbs_len_mono (nz_le U)) (u_len hU); have e := hzo.2.1; omega)
      have HS : Hid (S = U.sign) := Lib.hid (by rw [← (nz_facts U).1]; exact hzo.zv.1)
      clear hbx hfr hzo how hne hbel hlh hhi hsz hE hU hps hcp hci
      obtain ⟨⟨hx0, hx1, hx2⟩, hx3⟩ := Bx4.out
      by_cases hU0 : U = 0
      · have hS0 : S = 0 := by rw [HS.out, hU0]; rfl
        subst hS0
        have Hc9 : Hid (cpL 8 (uS xs) = some (if np = 0 then [0] else ps)) := Lib.hid (by
          rcases Hci.out with ⟨h, _⟩ | ⟨_, h⟩
          · exact absurd hU0 h
          · exact h)
        clear hU0
        by_cases hn0 : np = 0
        · subst hn0
          have Hres := Lib.hid (ce_some Hc0.out Hc9.out)
          have hl0 : ps = [] := List.eq_nil_of_length_eq_zero Hps.out
          subst hl0
          have Hon : Hid ((wr.alloc (.cells #[.float .f32 0] 40)).ownsRow w2.heap.size 40 1 (.slice Ap 0 cp) 0 (fs [])) := Lib.hid (Ho4.out.alloc _)
          have Hnw := Lib.hid (news_one wr 0)
          have hsz := Bel4.out.size
          go_wp2_with (at_builtin; refine wpList_append_own _ rfl (.tmp 41) (.tmp 42) _ rfl w2.heap.size 40 i0 _ 1 4 Tryd.underlying53 hi0 hz0 hz1 hz2 rfl (by omega) (.slice Ap 0 cp) 0 (fs []) rfl Hon.out ⟨wr.heap.size, 0, none⟩ 1 1 (fs [0]) rfl rfl Hnw.out (fs_one _) (by unfold maxLen; omega) (by omega) (by have h := Hlh.out; have := Hf.out; simp; omega) ?_; intro v1 w9 hown hg _)
          rw [fs_app, List.nil_append] at hown
          obtain ⟨A9, c9, rfl, hc9⟩ := own_form2 hown
          have hb9 : Below w.heap.size w w9 := (belNext Bel4.out (belAlloc1 _ _)).grown hg (by simp; omega) (fun g e => by
            have h := (Ho4.out.lt g e).1
            have := Sz1.out; have := Sz2.out
            omega)
          have Fw9 : Hid (Fw w9 w.heap.size w9.heap.size A9 (fs [0])) := Lib.hid ((Fw.own hown).wide (by have := Sz1.out; have := Sz2.out; omega) (Nat.le_refl _))
          have Hc9b := Lib.hid (And.intro hc9 hb9)
          have HL : Hid (ceL xs = [0]) := Lib.hid (by rw [Hres.out.2]; simp)
          clear hown hg hc9 hb9 hsz
          go_wp2_with fail
          go_ret2
          exact ⟨A9, 0 + 1, c9, by rw [Hres.out.1]; rfl, by rw [HL.out]; rfl, by rw [HL.out]; exact Fw9.out, Hc9b.out.1, Hc9b.out.2⟩
        · have hd9 : ((np : Int) == 0) = false := beq_false_of_ne (by omega)
          have Hres := Lib.hid (ce_some Hc0.out Hc9.out)
          have HL : Hid (ceL xs = ps) := Lib.hid (by rw [Hres.out.2, if_neg hn0])
          have Fw4 : Hid (Fw wr w.heap.size wr.heap.size Ap (fs ps)) := Lib.hid ((Fw.own Ho4.out).wide (by have := Sz1.out; have := Sz2.out; omega) (Nat.le_refl _))
          clear hn0
          go_wp2_with fail
          go_ret2
          exact ⟨Ap, np, cp, by rw [Hres.out.1]; rfl, by rw [HL.out, Hps.out], by rw [HL.out]; exact Fw4.out, Hcp.out, Bel4.out⟩
      · have hS0 : (S == 0) = false := beq_false_of_ne (fun e => hU0 (by rw [HS.out] at e; exact Int.sign_eq_zero_iff_zero.1 e))
        have Hci2 : Hid (cpL 8 (uS xs) = (cpL (8 - np) U).map (ps ++ ·)) := Lib.hid (by
          rcases Hci.out with ⟨_, h⟩ | ⟨h, _⟩
          · exact h
          · exact absurd h hU0)
        have HU0 := Lib.hid hU0
        clear hU0
        obtain ⟨b, hbe⟩ : ∃ b, b = rdF U (-149) 0 := ⟨_, rfl⟩
        have Hb : Hid (rdF (nz U) E 0 = b ∧ b = rdF U (-149) 0 ∧ b < 4294967296) := Lib.hid ⟨by rw [hbe, HE.out]; exact (rd_norm U (-149) 0).1, hbe, by rw [hbe]; exact (rdF_ok _ _ _).1⟩
        clear hbe
        go_wp2_with fail
        refine (specNear_any (nz U) S E A' n' c' _ Zo4.out.zv (fun _ => nz_odd HU0.out) (by have := Hn12.out; omega) (by omega) (by omega)).mono ?_
        rintro e w5 ⟨rfl, hb⟩
        rw [Hb.out.1]
        obtain ⟨y, hy⟩ : ∃ y, y = wm b := ⟨_, rfl⟩
        have Hy : Hid (y < 4294967296 ∧ fin32 y = fin32 b ∧ y = wm b) := Lib.hid ⟨by rw [hy]; exact wm_lt Hb.out.2.2, by rw [hy]; exact fin_wm b, hy⟩
        rw [← hy]
        clear hy
        have Bel5 := Lib.hid (belNext Bel4.out hb)
        have Bx5 := Lib.hid (Bx4.out.next hb)
        have Fr5 := Lib.hid (Fr4.out.next hb)
        have Zo5 := Lib.hid (Zo4.out.next hb)
        have Ho5 := Lib.hid (own_below Ho4.out hb)
        have Sz5 : Hid (wr.heap.size ≤ w5.heap.size) := Lib.hid hb.size
        clear hb Bel4 Bx4 Fr4 Zo4 Ho4 hx0 hx1 hx2 hx3
        go_wp2_with fail
        refine (finB_any y _ Hy.out.1).mono ?_
        rintro e w6 ⟨rfl, hb⟩
        rw [Hy.out.2.1]
        have Bel6 := Lib.hid (belNext Bel5.out hb)
        have Bx6 := Lib.hid (Bx5.out.next hb)
        have Fr6 := Lib.hid (Fr5.out.next hb)
        have Zo6 := Lib.hid (Zo5.out.next hb)
        have Ho6 := Lib.hid (own_below Ho5.out hb)
        have Sz6 : Hid (w5.heap.size ≤ w6.heap.size) := Lib.hid hb.size
        clear hb Bel5 Bx5 Fr5 Zo5 Ho5
        by_cases hfb : fin32 b = true
        · rw [hfb]
          have Hfb := Lib.hid hfb
          clear hfb
          by_cases h8 : np = 8
          · have Hcl2 : Hid (cpL 8 (uS xs) = none) := Lib.hid (by rw [Hci2.out, h8]; rfl)
            have Hres := Lib.hid (ce_none Hc0.out Hcl2.out)
            subst h8
            go_wp2_with fail
            go_ret2
            exact ⟨none, 0, 0, by rw [Hres.out.1]; rfl, by rw [Hres.out.2]; rfl, by rw [Hres.out.2]; exact .inl rfl, Nat.le_refl _, Bel6.out⟩
          · have hd8 : ((np : Int) == 8) = false := beq_false_of_ne (by omega)
            obtain ⟨k, hk⟩ : ∃ k, 8 - np = k + 1 := ⟨7 - np, by omega⟩
            have Hk := Lib.hid hk
            have Hn8 : Hid (np < 8) := Lib.hid (by omega)
            clear h8 hk
            have Hon : Hid ((w6.alloc (.cells #[.float .f32 y] 40)).ownsRow w2.heap.size 40 1 (.slice Ap np cp) np (fs ps)) := Lib.hid (Ho6.out.alloc _)
            have Hnw := Lib.hid (news_one w6 y)
            go_wp2_with (at_builtin; refine wpList_append_own _ rfl (.tmp 30) (.tmp 32) _ rfl w2.heap.size 40 i0 _ 1 4 Tryd.underlying53 hi0 hz0 hz1 hz2 rfl (by omega) (.slice Ap np cp) np (fs ps) rfl Hon.out ⟨w6.heap.size, 0, none⟩ 1 1 (fs [y]) rfl rfl Hnw.out (fs_one _) (by unfold maxLen; omega) (by omega) (by have h := Hlh.out; have := Hf.out; have := Sz5.out; have := Sz6.out; simp; omega) ?_; intro v1 w7 hown hg _)
            rw [fs_app] at hown
            obtain ⟨A7, c7, rfl, hc7⟩ := own_form2 hown
            have hrow : ∀ g, Value.ownBlock (.slice Ap np cp) = some g → g ≠ f ∧ (g < lo ∨ hi ≤ g) := fun g e => Hne.out g (own_row Ho6.out e)
            have Bx7 : Hid (DBox w7 f S A' n' c' E) := Lib.hid (dbox_grown (Bx6.out.next (belAlloc1 _ _)) hg (fun g e => (hrow g e).1))
            have Fr7 : Hid (Fr3 w7 f) := Lib.hid (fr3_grown (Fr6.out.next (belAlloc1 _ _)) hg (fun g e => (hrow g e).1))
            have Zo7 : Hid (ZO w7 lo hi (nz U) S A' n' c') := Lib.hid (zo_grown (Zo6.out.next (belAlloc1 _ _)) hg (fun g e => (hrow g e).2))
            have Sz7 : Hid (w6.heap.size + 1 ≤ w7.heap.size) := Lib.hid (by have := hg.size; simpa using this)
            have Bel7 : Hid (Below w.heap.size w w7) := Lib.hid ((belNext Bel6.out (belAlloc1 _ _)).grown hg (by have h := Bel6.out.size; simp; omega) (fun g e => by
              have h := (Ho6.out.lt g e).1
              have := Sz1.out; have := Sz2.out
              omega))
            have Ho7 : Hid (w7.ownsRow w2.heap.size 40 1 (.slice A7 (np + 1) c7) (np + 1) (fs (ps ++ [y]))) := Lib.hid hown
            have Hc7 := Lib.hid hc7
            clear hown hg hc7 hrow Bx6 Fr6 Zo6 Bel6 Ho6 Hon hd8
            obtain ⟨⟨hx0, hx1, hx2⟩, hx3⟩ := Bx7.out
            obtain ⟨⟨hf0, hf1, hf2⟩, hf3⟩ := Fr7.out
            have Hyf : Hid (fin32 y = true) := Lib.hid (by rw [Hy.out.2.1]; exact Hfb.out)
            obtain ⟨V, hV⟩ : ∃ V, V = U - uI b := ⟨_, rfl⟩
            have HVs : Hid (V.natAbs ≤ 8 * (16777216 * 2 ^ 253)) := Lib.hid (by
              have h := cp_rest (U := U) (by rw [← Hb.out.2.1]; exact Hfb.out)
              rw [← Hb.out.2.1, ← hV] at h
              exact Nat.le_trans h HU.out)
            have Huy : Hid (uI y = uI b) := Lib.hid (by rw [Hy.out.2.2]; exact uI_wmb b)
            have HVU := Lib.hid hV
            clear hV
            have Hfe := Lib.hid (fe_small Hyf.out)
            go_upto_region 10 with fail
            refine wp_region_held_drew (S := fun _ => True) (by kernel_rfl) trivial (fun hHeld => ?_)
            refine wpAnyH_take (i := 1) (v := ?_) rfl (by kernel_rfl) (by kernel_rfl) (by kernel_rfl) (fun _ _ _ h => h) (Or.inl ⟨by rfl, ?_⟩) (by assumption) ?_
            rotate_left
            · (intro w hSw; (try dsimp only at hSw); go_simp; (try with_reducible rfl))
            try simp only [Act.put, List.setIfInBounds_toArray, List.set_cons_zero, List.set_cons_succ, List.getElem_toArray, List.getElem_cons_succ, List.getElem_cons_zero]
            refine wpAnyH_ready (rs := [0, 2]) (by kernel_rfl) (by simp) ?_
            refine AllReadyH.cons rfl (fun K hK => ?_) (AllReadyH.cons rfl (fun K hK => ?_) AllReadyH.nil)
            · go_simp
              refine hK.out _ _ trivial (fun hHeld => ?_)
              clear hK K
              try simp only [Act.put, List.setIfInBounds_toArray, List.set_cons_zero, List.set_cons_succ, List.getElem_toArray, List.getElem_cons_succ, List.getElem_cons_zero]
              refine wpAnyH_ready (rs := [2]) (by kernel_rfl) (by simp) ?_
              refine AllReadyH.cons rfl (fun K hK => ?_) AllReadyH.nil
              go_simp
              refine (specOfD_any y _ Hy.out.1 Hyf.out).mono ?_
              rintro e w8 ⟨S8, A8, n8, c8, rfl, hzo, hb0⟩
              have hb : Below w7.heap.size w7 w8 := (by first | exact belDrew hb0 | exact hb0)
              rw [show nx (ofM y) (ofP y) = fe y from rfl]
              have Zy8 : Hid (ZV w8 (fz y) S8 A8 n8 c8) := Lib.hid hzo.zv
              have Hn8b : Hid ((n8 : Int) ≤ 1) := Lib.hid (fz_len Hyf.out hzo.zv.len)
              have Bx8 := Lib.hid (Bx7.out.next hb)
              have Fr8 := Lib.hid (Fr7.out.next hb)
              have Zo8 := Lib.hid (Zo7.out.next hb)
              have Ho8 := Lib.hid (own_below Ho7.out hb)
              have Bel8 := Lib.hid (belNext Bel7.out hb)
              have Sz8 : Hid (w7.heap.size ≤ w8.heap.size) := Lib.hid hb.size
              refine hK.out _ _ trivial (fun hHeld => ?_)
              clear hK K
              try simp only [Act.put, List.setIfInBounds_toArray, List.set_cons_zero, List.set_cons_succ, List.getElem_toArray, List.getElem_cons_succ, List.getElem_cons_zero]
              have Ho8b := Ho8
              clear hb0 hb hzo hx0 hx1 hx2 hx3 hf0 hf1 hf2 hf3 Bx7 Fr7 Zo7 Ho7 Bel7
              obtain ⟨⟨hx0, hx1, hx2⟩, hx3⟩ := Bx8.out
              obtain ⟨⟨hf0, hf1, hf2⟩, hf3⟩ := Fr8.out
              refine wpAnyH_ready (rs := [3]) (by kernel_rfl) (by simp) ?_
              refine AllReadyH.cons rfl (fun K hK => ?_) AllReadyH.nil
              go_simp
              refine (specSubD_any (nz U) S E (fz y) S8 (fe y) A' A8 n' c' n8 c8 _ Zo8.out.zv Zy8.out (by have := Hn12.out; omega) (by have := Hn8b.out; omega) (by omega) (by omega) (by have := Hfe.out; omega) (by have := Hfe.out; omega)).mono ?_
              rintro e w9 ⟨S9, A9, n9, c9, rfl, hzo, hb⟩
              have hzv : nz (sumZ (nz U) E (-(fz y)) (fe y)) = nz V ∧ nx (sumZ (nz U) E (-(fz y)) (fe y)) (min E (fe y)) = nx V (-149) := by
                have e1 : uV (-149) (sumZ (nz U) E (-(fz y)) (fe y)) (min E (fe y)) = uV (-149) V (-149) := by
                  rw [uV_sum hE1 Hfe.out.1, uV_neg, uI_uV, HE.out, uV_nz (Int.le_refl _), uV_one, uV_one, Huy.out, HVU.out]
                  omega
                exact nzx_same (by have := Hfe.out; omega) (Int.le_refl _) e1
              rw [hzv.1] at hzo
              rw [hzv.2]
              clear hzv
              obtain ⟨X9, hX9⟩ : ∃ X9, X9 = nx V (-149) := ⟨_, rfl⟩
              have HX9 := Lib.hid hX9
              rw [← hX9]
              have Zo9 := Lib.hid hzo
              have Bx9 := Lib.hid (Bx8.out.next hb)
              have Fr9 := Lib.hid (Fr8.out.next hb)
              have Ho9 := Lib.hid (own_below Ho8.out hb)
              have Bel9 := Lib.hid (belNext Bel8.out hb)
              have Sz9 : Hid (w8.heap.size ≤ w9.heap.size) := Lib.hid hb.size
              refine hK.out _ _ trivial (fun hHeld => ?_)
              clear hK K
              try simp only [Act.put, List.setIfInBounds_toArray, List.set_cons_zero, List.set_cons_succ, List.getElem_toArray, List.getElem_cons_succ, List.getElem_cons_zero]
              clear hb hzo hX9 hx0 hx1 hx2 hx3 hf0 hf1 hf2 hf3 Bx8 Fr8 Zo8 Ho8 Bel8 Zy8
              obtain ⟨⟨hx0, hx1, hx2⟩, hx3⟩ := Bx9.out
              obtain ⟨⟨hf0, hf1, hf2⟩, hf3⟩ := Fr9.out
              refine wpAnyH_ready (rs := [4]) (by kernel_rfl) (by simp) ?_
              refine AllReadyH.cons rfl (fun K hK => ?_) AllReadyH.nil
              go_simp
              refine hK.out _ (st3 w9 f S9 A9 n9 c9 X9) trivial (fun hHeld => ?_)
              clear hK K
              try simp only [Act.put, List.setIfInBounds_toArray, List.set_cons_zero, List.set_cons_succ, List.getElem_toArray, List.getElem_cons_succ, List.getElem_cons_zero]
              refine wpAnyH_done (by kernel_rfl) ?_ _
              clear hHeld
              obtain ⟨wz, hwz⟩ : ∃ wz, wz = st3 w9 f S9 A9 n9 c9 X9 := ⟨_, rfl⟩
              have Bxz : Hid (DBox wz f S9 A9 n9 c9 X9) := Lib.hid (by rw [hwz]; exact DBox.made hx3 ⟨_, hx0⟩ ⟨_, hx1⟩ ⟨_, hx2⟩)
              have Frz : Hid (Fr3 wz f) := Lib.hid (by rw [hwz]; exact Fr9.out.made)
              have Zoz : Hid (ZO wz w8.heap.size w9.heap.size (nz V) S9 A9 n9 c9) := Lib.hid (by rw [hwz]; exact Zo9.out.st3_ (.inl (by have := Hlh.out; have := Sz5.out; have := Sz6.out; have := Sz7.out; have := Sz8.out; omega)))
              have Szz : Hid (wz.heap.size = w9.heap.size) := Lib.hid (by rw [hwz, st3_size])
              have Belz : Hid (Below w.heap.size w wz) := Lib.hid (by rw [hwz]; exact belSt3 Bel9.out (by have := Hf.out; have := Sz1.out; have := Sz2.out; omega))
              have hlt7 : ∀ g, A7 = some ⟨g, 0, none⟩ → g < w8.heap.size ∧ g ≠ f := fun g e => ⟨by
                have h := (Ho8b.out.lt g (by rw [e]; rfl)).2
                exact h, row_ne Bx9.out Ho9.out (by simp) g e⟩
              have Hoz : Hid (wz.ownsRow w2.heap.size 40 1 (.slice A7 (np + 1) c7) (np + 1) (fs (ps ++ [y]))) := Lib.hid (by
                rw [hwz]
                have hn : ∀ p : Addr, p.block = f → (Value.slice A7 (np + 1) c7).ownBlock ≠ some p.block := fun p hp e => (hlt7 f (own_row Ho9.out (by rw [e, hp]))).2 rfl
                unfold st3
                exact ownsRow_setCell_other (ownsRow_setCell_other (ownsRow_setCell_other Ho9.out (hn _ rfl) _) (hn _ rfl) _) (hn _ rfl) _)
              have Hciz : Hid (cpI xs (np + 1) (ps ++ [y]) V) := Lib.hid (by
                by_cases hv : V = 0
                · refine .inr ⟨hv, ?_⟩
                  rw [Hci2.out, Hk.out, cpL_end (by rw [← Hb.out.2.1]; exact Hfb.out) (by rw [← Hb.out.2.1, ← HVU.out]; exact hv), ← Hb.out.2.1, ← Hy.out.2.2, if_neg (by omega)]
                  rfl
                · refine .inl ⟨hv, ?_⟩
                  rw [Hci2.out, Hk.out, cpL_on (by rw [← Hb.out.2.1]; exact Hfb.out) (by rw [← Hb.out.2.1, ← HVU.out]; exact hv), ← Hb.out.2.1, ← HVU.out, ← Hy.out.2.2, Option.map_map, show 8 - (np + 1) = k by have := Hk.out; omega]
                  congr 1
                  funext l
                  simp)
              have Hlz := Lib.hid hlt7
              rw [← hwz]
              clear hwz hlt7
              go_wp2_with fail
              go_round
              case rel => exact ⟨ps ++ [y], np + 1, c7, A7, S9, V, X9, A9, n9, c9, w8.heap.size, w9.heap.size, rfl, by rw [List.length_append, Hps.out]; rfl, by have := Hn8.out; omega, Hc7.out, Hoz.out, fun g e => ⟨(Hlz.out g e).2, .inl (Hlz.out g e).1⟩, Bxz.out, Frz.out, Zoz.out, .inl (by have := Hlh.out; have := Sz5.out; have := Sz6.out; have := Sz7.out; have := Sz8.out; omega), by have := Szz.out; omega, HX9.out, HVs.out, Hciz.out, Belz.out, by have := Hlh.out; have := Sz5.out; have := Sz6.out; have := Sz7.out; have := Sz8.out; have := Sz9.out; have := Szz.out; omega⟩
              case measure => simp [slLen]; have := Hn8.out; omega
            · go_simp
              refine (specOfD_any y _ Hy.out.1 Hyf.out).mono ?_
              rintro e w8 ⟨S8, A8, n8, c8, rfl, hzo, hb0⟩
              have hb : Below w7.heap.size w7 w8 := (by first | exact belDrew hb0 | exact hb0)
              rw [show nx (ofM y) (ofP y) = fe y from rfl]
              have Zy8 : Hid (ZV w8 (fz y) S8 A8 n8 c8) := Lib.hid hzo.zv
              have Hn8b : Hid ((n8 : Int) ≤ 1) := Lib.hid (fz_len Hyf.out hzo.zv.len)
              have Bx8 := Lib.hid (Bx7.out.next hb)
              have Fr8 := Lib.hid (Fr7.out.next hb)
              have Zo8 := Lib.hid (Zo7.out.next hb)
              have Ho8 := Lib.hid (own_below Ho7.out hb)
              have Bel8 := Lib.hid (belNext Bel7.out hb)
              have Sz8 : Hid (w7.heap.size ≤ w8.heap.size) := Lib.hid hb.size
              refine hK.out _ _ trivial (fun hHeld => ?_)
              clear hK K
              try simp only [Act.put, List.setIfInBounds_toArray, List.set_cons_zero, List.set_cons_succ, List.getElem_toArray, List.getElem_cons_succ, List.getElem_cons_zero]
              have Ho8b := Ho8
              clear hb0 hb hzo hx0 hx1 hx2 hx3 hf0 hf1 hf2 hf3 Bx7 Fr7 Zo7 Ho7 Bel7
              obtain ⟨⟨hx0, hx1, hx2⟩, hx3⟩ := Bx8.out
              obtain ⟨⟨hf0, hf1, hf2⟩, hf3⟩ := Fr8.out
              refine wpAnyH_ready (rs := [0]) (by kernel_rfl) (by simp) ?_
              refine AllReadyH.cons rfl (fun K hK => ?_) AllReadyH.nil
              go_simp
              refine hK.out _ _ trivial (fun hHeld => ?_)
              clear hK K
              try simp only [Act.put, List.setIfInBounds_toArray, List.set_cons_zero, List.set_cons_succ, List.getElem_toArray, List.getElem_cons_succ, List.getElem_cons_zero]
              refine wpAnyH_ready (rs := [3]) (by kernel_rfl) (by simp) ?_
              refine AllReadyH.cons rfl (fun K hK => ?_) AllReadyH.nil
              go_simp
              refine (specSubD_any (nz U) S E (fz y) S8 (fe y) A' A8 n' c' n8 c8 _ Zo8.out.zv Zy8.out (by have := Hn12.out; omega) (by have := Hn8b.out; omega) (by omega) (by omega) (by have := Hfe.out; omega) (by have := Hfe.out; omega)).mono ?_
              rintro e w9 ⟨S9, A9, n9, c9, rfl, hzo, hb⟩
              have hzv : nz (sumZ (nz U) E (-(fz y)) (fe y)) = nz V ∧ nx (sumZ (nz U) E (-(fz y)) (fe y)) (min E (fe y)) = nx V (-149) := by
                have e1 : uV (-149) (sumZ (nz U) E (-(fz y)) (fe y)) (min E (fe y)) = uV (-149) V (-149) := by
                  rw [uV_sum hE1 Hfe.out.1, uV_neg, uI_uV, HE.out, uV_nz (Int.le_refl _), uV_one, uV_one, Huy.out, HVU.out]
                  omega
                exact nzx_same (by have := Hfe.out; omega) (Int.le_refl _) e1
              rw [hzv.1] at hzo
              rw [hzv.2]
              clear hzv
              obtain ⟨X9, hX9⟩ : ∃ X9, X9 = nx V (-149) := ⟨_, rfl⟩
              have HX9 := Lib.hid hX9
              rw [← hX9]
              have Zo9 := Lib.hid hzo
              have Bx9 := Lib.hid (Bx8.out.next hb)
              have Fr9 := Lib.hid (Fr8.out.next hb)
              have Ho9 := Lib.hid (own_below Ho8.out hb)
              have Bel9 := Lib.hid (belNext Bel8.out hb)
              have Sz9 : Hid (w8.heap.size ≤ w9.heap.size) := Lib.hid hb.size
              refine hK.out _ _ trivial (fun hHeld => ?_)
              clear hK K
              try simp only [Act.put, List.setIfInBounds_toArray, List.set_cons_zero, List.set_cons_succ, List.getElem_toArray, List.getElem_cons_succ, List.getElem_cons_zero]
              clear hb hzo hX9 hx0 hx1 hx2 hx3 hf0 hf1 hf2 hf3 Bx8 Fr8 Zo8 Ho8 Bel8 Zy8
              obtain ⟨⟨hx0, hx1, hx2⟩, hx3⟩ := Bx9.out
              obtain ⟨⟨hf0, hf1, hf2⟩, hf3⟩ := Fr9.out
              refine wpAnyH_ready (rs := [4]) (by kernel_rfl) (by simp) ?_
              refine AllReadyH.cons rfl (fun K hK => ?_) AllReadyH.nil
              go_simp
              refine hK.out _ (st3 w9 f S9 A9 n9 c9 X9) trivial (fun hHeld => ?_)
              clear hK K
              try simp only [Act.put, List.setIfInBounds_toArray, List.set_cons_zero, List.set_cons_succ, List.getElem_toArray, List.getElem_cons_succ, List.getElem_cons_zero]
              refine wpAnyH_done (by kernel_rfl) ?_ _
              clear hHeld
              obtain ⟨wz, hwz⟩ : ∃ wz, wz = st3 w9 f S9 A9 n9 c9 X9 := ⟨_, rfl⟩
              have Bxz : Hid (DBox wz f S9 A9 n9 c9 X9) := Lib.hid (by rw [hwz]; exact DBox.made hx3 ⟨_, hx0⟩ ⟨_, hx1⟩ ⟨_, hx2⟩)
              have Frz : Hid (Fr3 wz f) := Lib.hid (by rw [hwz]; exact Fr9.out.made)
              have Zoz : Hid (ZO wz w8.heap.size w9.heap.size (nz V) S9 A9 n9 c9) := Lib.hid (by rw [hwz]; exact Zo9.out.st3_ (.inl (by have := Hlh.out; have := Sz5.out; have := Sz6.out; have := Sz7.out; have := Sz8.out; omega)))
              have Szz : Hid (wz.heap.size = w9.heap.size) := Lib.hid (by rw [hwz, st3_size])
              have Belz : Hid (Below w.heap.size w wz) := Lib.hid (by rw [hwz]; exact belSt3 Bel9.out (by have := Hf.out; have := Sz1.out; have := Sz2.out; omega))
              have hlt7 : ∀ g, A7 = some ⟨g, 0, none⟩ → g < w8.heap.size ∧ g ≠ f := fun g e => ⟨by
                have h := (Ho8b.out.lt g (by rw [e]; rfl)).2
                exact h, row_ne Bx9.out Ho9.out (by simp) g e⟩
              have Hoz : Hid (wz.ownsRow w2.heap.size 40 1 (.slice A7 (np + 1) c7) (np + 1) (fs (ps ++ [y]))) := Lib.hid (by
                rw [hwz]
                have hn : ∀ p : Addr, p.block = f → (Value.slice A7 (np + 1) c7).ownBlock ≠ some p.block := fun p hp e => (hlt7 f (own_row Ho9.out (by rw [e, hp]))).2 rfl
                unfold st3
                exact ownsRow_setCell_other (ownsRow_setCell_other (ownsRow_setCell_other Ho9.out (hn _ rfl) _) (hn _ rfl) _) (hn _ rfl) _)
              have Hciz : Hid (cpI xs (np + 1) (ps ++ [y]) V) := Lib.hid (by
                by_cases hv : V = 0
                · refine .inr ⟨hv, ?_⟩
                  rw [Hci2.out, Hk.out, cpL_end (by rw [← Hb.out.2.1]; exact Hfb.out) (by rw [← Hb.out.2.1, ← HVU.out]; exact hv), ← Hb.out.2.1, ← Hy.out.2.2, if_neg (by omega)]
                  rfl
                · refine .inl ⟨hv, ?_⟩
                  rw [Hci2.out, Hk.out, cpL_on (by rw [← Hb.out.2.1]; exact Hfb.out) (by rw [← Hb.out.2.1, ← HVU.out]; exact hv), ← Hb.out.2.1, ← HVU.out, ← Hy.out.2.2, Option.map_map, show 8 - (np + 1) = k by have := Hk.out; omega]
                  congr 1
                  funext l
                  simp)
              have Hlz := Lib.hid hlt7
              rw [← hwz]
              clear hwz hlt7
              go_wp2_with fail
              go_round
              case rel => exact ⟨ps ++ [y], np + 1, c7, A7, S9, V, X9, A9, n9, c9, w8.heap.size, w9.heap.size, rfl, by rw [List.length_append, Hps.out]; rfl, by have := Hn8.out; omega, Hc7.out, Hoz.out, fun g e => ⟨(Hlz.out g e).2, .inl (Hlz.out g e).1⟩, Bxz.out, Frz.out, Zoz.out, .inl (by have := Hlh.out; have := Sz5.out; have := Sz6.out; have := Sz7.out; have := Sz8.out; omega), by have := Szz.out; omega, HX9.out, HVs.out, Hciz.out, Belz.out, by have := Hlh.out; have := Sz5.out; have := Sz6.out; have := Sz7.out; have := Sz8.out; have := Sz9.out; have := Szz.out; omega⟩
              case measure => simp [slLen]; have := Hn8.out; omega
        · have hfb2 : fin32 b = false := by simpa using hfb
          have Hcl2 : Hid (cpL 8 (uS xs) = none) := Lib.hid (by
            rw [Hci2.out, cpL_inf2 (by rw [← Hb.out.2.1]; exact hfb2)]
            rfl)
          have Hres := Lib.hid (ce_none Hc0.out Hcl2.out)
          rw [hfb2]
          clear hfb hfb2
          go_wp2_with fail
          go_ret2
          exact ⟨none, 0, 0, by rw [Hres.out.1]; rfl, by rw [Hres.out.2]; rfl, by rw [Hres.out.2]; exact .inl rfl, Nat.le_refl _, Bel6.out⟩
  · have Hres := Lib.hid (ce_no (xs := xs) (by rw [← HCD.out]; exact hc0))
    have HC2 : Hid (ceE xs = CD) := Lib.hid (by rw [Hres.out.1, HCD.out])
    have hd : (CD == 0) = false := beq_false_of_ne hc0
    clear hc0
    go_wp2_with fail
    go_ret2
    exact ⟨none, 0, 0, by rw [HC2.out]; rfl, by rw [Hres.out.2]; rfl, by rw [Hres.out.2]; exact .inl rfl, Nat.le_refl _, Bel1.out⟩
end Go.Proofs.YtnecnbonnidijaaDoor
