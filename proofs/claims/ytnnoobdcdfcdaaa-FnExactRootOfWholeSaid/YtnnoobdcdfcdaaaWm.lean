/- The walks of the laws' functions over whole numbers: sizes, copies, equality, marks. -/
import Derived.Test.YtnnoobdcdfcdaaaWl
import Derived.Test.YtnnoobdcdfcdaaaIw
namespace Go.Proofs.Ytnnoobdcdfcdaaa
set_option maxRecDepth 100000
open Go.RowKit
set_option linter.unusedSimpArgs false
set_option linter.unusedVariables false

theorem szI_yes (A : Option Addr) (n c : Nat) (left : Int) (w : World) (h0 : (n : Int) ≤ left) (h1 : left ≤ 1048576) :
    Calls Try.prog 38 #[.slice A n c, .int .i64 left] w fun e w' => e = .returned (.int .i64 (left - n)) ∧ w = w' := by
  go_enter Try.func38, Try.ntmps38
  go_wp2_with fail
  go_ret
  exact ⟨rfl, rfl⟩
theorem szI_no (A : Option Addr) (n c : Nat) (left : Int) (w : World) (h0 : left < n) (h2 : 0 ≤ left) (h1 : left ≤ 1048576) (hm : (n : Int) ≤ 9223372036854775807) :
    Calls Try.prog 38 #[.slice A n c, .int .i64 left] w fun e w' => e = .returned (.int .i64 (-1)) ∧ w = w' := by
  go_enter Try.func38, Try.ntmps38
  go_wp2_with fail
  go_ret
  exact ⟨rfl, rfl⟩

theorem szW_yes (s : Int) (A : Option Addr) (n c : Nat) (left : Int) (w : World) (h0 : (n : Int) ≤ left) (h1 : left ≤ 1048576) :
    Calls Try.prog 7 #[.agg #[.int .i64 s, .slice A n c], .int .i64 left] w fun e w' => e = .returned (.int .i64 (left - n)) ∧ Below w.heap.size w w' := by
  go_enter Try.func7, Try.ntmps7
  go_wp2_with fail
  refine (szI_yes _ _ _ _ _ h0 h1).mono ?_
  rintro e w' ⟨rfl, rfl⟩
  go_wp2_with fail
  go_ret
  exact ⟨rfl, (Below.refl _ _).alloc (Nat.le_refl _) _⟩
theorem szW_no (s : Int) (A : Option Addr) (n c : Nat) (left : Int) (w : World) (h0 : left < n) (h2 : 0 ≤ left) (h1 : left ≤ 1048576) (hm : (n : Int) ≤ 9223372036854775807) :
    Calls Try.prog 7 #[.agg #[.int .i64 s, .slice A n c], .int .i64 left] w fun e w' => e = .returned (.int .i64 (-1)) ∧ Below w.heap.size w w' := by
  go_enter Try.func7, Try.ntmps7
  go_wp2_with fail
  refine (szI_no _ _ _ _ _ h0 h2 h1 hm).mono ?_
  rintro e w' ⟨rfl, rfl⟩
  go_wp2_with fail
  go_ret
  exact ⟨rfl, (Below.refl _ _).alloc (Nat.le_refl _) _⟩

theorem toW2_any (s : Int) (A : Option Addr) (n c : Nat) (xs : List Int) (w : World) (B : Nat) (hr : Rd w B A (vi xs)) (hB : B ≤ w.heap.size) (hn : xs.length = n) (hm : n ≤ 1048576) :
    Calls Try.prog 9 #[.agg #[.int .i64 s, .slice A n c]] w fun e w' => ∃ A' c', e = .returned (.agg #[.int .i64 s, .slice A' n c']) ∧ Ow w' w.heap.size w'.heap.size A' (vi xs) ∧ Below w.heap.size w w' ∧ n ≤ c' := by
  have hst := store_int Try.prog
  have hst2 := store_slice Try.prog
  have Hr := Lib.hid (hr.up hB)
  have Hn := Lib.hid hn
  clear hr hn
  go_enter Try.func9, Try.ntmps9
  go_wp2_with fail
  refine (toI2_any A n c xs _ w.heap.size (Hr.out.below ?_) (by simp; try omega) Hn.out hm).mono ?_
  · repeat (first | exact Below.refl _ _ | refine Below.alloc ?_ (by first | (simp; done) | (simp; omega)) _ | refine Below.setCell ?_ (by first | (simp; done) | (simp; omega)) _)
  rintro e w4 ⟨A', c', rfl, ho, hb, hcap⟩
  have Hcap := Lib.hid hcap
  clear hcap
  obtain ⟨hc, hf⟩ := bcell hb
  have hz := hb.size
  simp at hz
  have Ho := Lib.hid ho
  have Hb := Lib.hid hb
  clear hb ho
  go_wp2_with fail
  have c0 : w4.cell? ⟨w.heap.size + 1, 0, none⟩ = some (.int .i64 0) := by rw [hc (w.heap.size + 1) _ (by simp)]; go_simp
  have c1 : w4.cell? ⟨w.heap.size + 1, 1, none⟩ = some (.slice none 0 0) := by rw [hc (w.heap.size + 1) _ (by simp)]; go_simp
  refine bodyPost_ret (v := .agg #[.int .i64 s, .slice A' n c']) (by simp [results, Try.results9, go_sem, c0, c1]) rfl ⟨A', c', rfl, ?_, ?_, Hcap.out⟩
  · have h := ((Ho.out.setCell (p := ⟨w.heap.size + 1 + 1, 1, none⟩) (.inl (by simp)) (.slice A' n c')).setCell (p := ⟨w.heap.size + 1, 0, none⟩) (.inl (by simp)) (.int .i64 s)).setCell (p := ⟨w.heap.size + 1, 1, none⟩) (.inl (by simp)) (.slice A' n c')
    exact h.wide (by simp; omega) (by simp)
  · refine Below.setCell (Below.setCell (Below.setCell (Below.trans ?_ (Hb.out.mono (by simp; omega))) (by simp; try omega) _) (by simp; try omega) _) (by simp; try omega) _
    repeat (first | exact Below.refl _ _ | refine Below.alloc ?_ (by first | (simp; done) | (simp; omega)) _ | refine Below.setCell ?_ (by first | (simp; done) | (simp; omega)) _)

theorem toW_any (s : Int) (A : Option Addr) (n c : Nat) (xs : List Int) (w : World) (B : Nat) (hr : Rd w B A (vi xs)) (hB : B ≤ w.heap.size) (hn : xs.length = n) (hm : n ≤ 1048576) :
    Calls Try.prog 9 #[.agg #[.int .i64 s, .slice A n c]] w fun e w' => ∃ A' c', e = .returned (.agg #[.int .i64 s, .slice A' n c']) ∧ Ow w' w.heap.size w'.heap.size A' (vi xs) ∧ Below w.heap.size w w' := by
  refine (toW2_any s A n c xs w B hr hB hn hm).mono ?_
  rintro e w' ⟨A', c', h1, h2, h3, _⟩
  exact ⟨A', c', h1, h2, h3⟩

theorem eqW_yes (s : Int) (A A' : Option Addr) (n c c' B B' : Nat) (xs : List Int) (w : World) (hr : Rd w B A (vi xs)) (hr' : Rd w B' A' (vi xs)) (hB : B ≤ w.heap.size) (hB' : B' ≤ w.heap.size) (hn : xs.length = n) (hm : n ≤ 1048576) :
    Calls Try.prog 11 #[.agg #[.int .i64 s, .slice A n c], .agg #[.int .i64 s, .slice A' n c']] w fun e w' => e = .returned (.bool true) ∧ Below w.heap.size w w' := by
  have Hr := Lib.hid (hr.up hB)
  have Hr' := Lib.hid (hr'.up hB')
  have Hn := Lib.hid hn
  have Hb0 : Hid (Below w.heap.size w ((w.alloc (.cells #[.int .i64 s, .slice A n c] 26)).alloc (.cells #[.int .i64 s, .slice A' n c'] 26))) := Lib.hid (by
    repeat (first | exact Below.refl _ _ | refine Below.alloc ?_ (by first | (simp; done) | (simp; omega)) _ | refine Below.setCell ?_ (by first | (simp; done) | (simp; omega)) _))
  clear hr hr' hn
  go_enter Try.func11, Try.ntmps11
  go_wp2_with fail
  refine (eqI_yes A A' n c c' w.heap.size w.heap.size xs _ (Hr.out.below Hb0.out) (Hr'.out.below Hb0.out) Hn.out hm).mono ?_
  rintro e w' ⟨rfl, q, rfl⟩
  go_wp2_with fail
  go_ret
  exact ⟨rfl, below_drewN Hb0.out q⟩

theorem markW_any (s : Int) (A : Option Addr) (n c : Nat) (z : Int) (xs : List Int) (lo hi : Nat) (w : World) (ho : Ow w lo hi A (vi xs)) (hn : xs.length = n) (hm : n ≤ 4194304) (hz0 : 0 ≤ z) (hz : z ≤ 4194304) (hlo : hi ≤ w.heap.size) :
    Calls Try.prog 12 #[.agg #[.int .i64 s, .slice A n c], .int .i64 z] w fun e w' => e = .returned (.int .i64 (z + n)) ∧ Ow w' lo hi A (vi (marks z n)) ∧ ∃ row, w.grownBy w' row ∧ ∀ g, row = some g → lo ≤ g ∧ g < hi := by
  have Ho := Lib.hid ho
  have Hn := Lib.hid hn
  clear ho hn
  go_enter Try.func12, Try.ntmps12
  go_wp2_with fail
  refine (markI_any A n c z xs lo hi _ (Ho.out.alloc _) Hn.out hm hz0 hz).mono ?_
  rintro e w1 ⟨rfl, ho, row, hg, hrow⟩
  have Ho1 := Lib.hid ho
  have Hrow := Lib.hid hrow
  have Hg : Hid (w.grownBy w1 row) := Lib.hid ⟨hg.os, hg.tape, hg.output, by have := hg.size; simp at this; omega, fun k hk hne => (hg.block k (by simp; omega) hne).trans (Below.heap_alloc w _ k hk)⟩
  clear hg hrow ho
  go_wp2_with fail
  go_ret
  exact ⟨rfl, Ho1.out, row, Hg.out, Hrow.out⟩

theorem heldW_any (s : Int) (A : Option Addr) (n c : Nat) (z : Int) (B : Nat) (w : World) (hr : Rd w B A (vi (marks z n))) (hB : B ≤ w.heap.size) (hm : n ≤ 4194304) (hz0 : 0 ≤ z) (hz : z ≤ 4194304) :
    Calls Try.prog 13 #[.agg #[.int .i64 s, .slice A n c], .int .i64 z] w fun e w' => e = .returned (.int .i64 (z + n)) ∧ Below w.heap.size w w' := by
  have Hr := Lib.hid (hr.up hB)
  have Hb0 : Hid (Below w.heap.size w (w.alloc (.cells #[.int .i64 s, .slice A n c] 26))) := Lib.hid ((Below.refl _ _).alloc (Nat.le_refl _) _)
  clear hr
  go_enter Try.func13, Try.ntmps13
  go_wp2_with fail
  refine (heldI_any A n c z w.heap.size _ (Hr.out.below Hb0.out) hm hz0 hz).mono ?_
  rintro e w' ⟨rfl, q, rfl⟩
  go_wp2_with fail
  go_ret
  exact ⟨rfl, below_drewN Hb0.out q⟩
end Go.Proofs.Ytnnoobdcdfcdaaa
