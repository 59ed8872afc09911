/- Texts of this seat, joined: Ko Kp Kq Kr Ks Kt -/
import Derived.Test.YtngminjncdfjdaaGreatDoorY9
import Derived.Test.YtngminjncdfjdaaGreatDoorY8
import Derived.Test.YtngminjncdfjdaaGreatDoorV4
import Derived.Test.YtngminjncdfjdaaGreatDoorY4
import Derived.Test.YtngminjncdfjdaaGreatDoorY6
/- Exact results of operations: boxes, floats, signs, zeros, of the program. -/
namespace Go.Proofs.YtngminjncdfjdaaGreatDoor
set_option maxRecDepth 100000
open Go.RowKit
set_option linter.unusedSimpArgs false
set_option linter.unusedVariables false
attribute [local go_sem ↓] Go.wp_at_zero Go.wp_at_succ

section
variable {w w' : World} {b n c : Nat} {S E g : Int} {A : Option Addr}
end
theorem sgn_pm (b : Nat) : sgn b = 1 ∨ sgn b = -1 := by unfold sgn; split <;> simp
end Go.Proofs.YtngminjncdfjdaaGreatDoor
/- Zeros, sums, differences, products, rounding of exact results, of the program. -/
namespace Go.Proofs.YtngminjncdfjdaaGreatDoor
set_option maxRecDepth 100000
open Go.RowKit
set_option linter.unusedSimpArgs false
set_option linter.unusedVariables false
attribute [local go_sem ↓] Go.wp_at_zero Go.wp_at_succ

set_option maxHeartbeats 4000000 in
theorem exTimes_any (z S E g z' S' E' g' : Int) (A A' : Option Addr) (n c n' c' : Nat) (w : World) (hz : ZV w z S A n c) (hz' : ZV w z' S' A' n' c') (hm : (n : Int) ≤ 1000) (hm' : (n' : Int) ≤ 1000) (h1 : -1000000 ≤ E) (h2 : E ≤ 1000000) (h3 : -1000000 ≤ E') (h4 : E' ≤ 1000000) (hg1 : -1 ≤ g) (hg2 : g ≤ 1) (hg3 : -1 ≤ g') (hg4 : g' ≤ 1) :
    Calls Tryz.prog 60 #[.agg #[.int .i64 S, .slice A n c, .int .i64 E, .int .i64 g], .agg #[.int .i64 S', .slice A' n' c', .int .i64 E', .int .i64 g']] w fun e w' => ∃ Sr Ar nr cr, e = .returned (.agg #[.int .i64 Sr, .slice Ar nr cr, .int .i64 (E + E'), .int .i64 (g * g')]) ∧ ZO w' w.heap.size w'.heap.size (z * z') Sr Ar nr cr ∧ Below w.heap.size w w' := by
  have hst := store_int Tryz.prog
  have hst2 := store_slice Tryz.prog
  obtain ⟨w1, hw1, hb1, hb2, hb3, hb4⟩ := xbox2_res w S S' A A' n n' c c' E E' g g' 50
  have RsX1 := Lib.hid hb3
  have Hlt : Hid (w.heap.size + 1 + 1 < w1.heap.size) := Lib.hid hb3.2
  have Zv1 := Lib.hid (hz.next hb4)
  have Zw1 := Lib.hid (hz'.next hb4)
  have Hw := Lib.hid hw1
  have Bx1 := Lib.hid hb1
  have By1 := Lib.hid hb2
  have Bel1 := Lib.hid hb4
  have Hm := Lib.hid (And.intro hm hm')
  clear hz hz' hw1 hb1 hb2 hb3 hb4
  obtain ⟨gg, hgg⟩ : ∃ gg, gg = g * g' := ⟨_, rfl⟩
  have hgg1 : gg = 1 ∨ gg = 0 ∨ gg = -1 := by rw [hgg]; rcases (show g = 1 ∨ g = 0 ∨ g = -1 by omega) with h | h | h <;> rcases (show g' = 1 ∨ g' = 0 ∨ g' = -1 by omega) with h' | h' | h' <;> rw [h, h'] <;> simp
  have hwr : IntKind.i64.wrap (g * g') = gg := by rw [← hgg]; exact IntWalk.i64_in _ (by omega)
  have Hgg := Lib.hid hgg
  clear hgg hgg1
  go_enter Tryz.func60, Tryz.ntmps60
  go_wp2_with fail
  rw [← Hw.out]
  obtain ⟨⟨hBx0, hBx1, hBx2, hBx3⟩, hBx4⟩ := Bx1.out
  obtain ⟨⟨hBy0, hBy1, hBy2, hBy3⟩, hBy4⟩ := By1.out
  obtain ⟨⟨hRsX0, hRsX1, hRsX2, hRsX3, hRsX4, hRsX5, hRsX6, hRsX7⟩, hRsX8⟩ := RsX1.out
  refine wp_region_held_drew (S := fun w' => (w'.cell? ⟨w.heap.size, 0, none⟩ = some (.int .i64 S) ∧ w'.cell? ⟨w.heap.size, 1, none⟩ = some (.slice A n c) ∧ w'.cell? ⟨w.heap.size, 2, none⟩ = some (.int .i64 E) ∧ w'.cell? ⟨w.heap.size, 3, none⟩ = some (.int .i64 g)) ∧ (w'.cell? ⟨w.heap.size + 1, 0, none⟩ = some (.int .i64 S') ∧ w'.cell? ⟨w.heap.size + 1, 1, none⟩ = some (.slice A' n' c') ∧ w'.cell? ⟨w.heap.size + 1, 2, none⟩ = some (.int .i64 E') ∧ w'.cell? ⟨w.heap.size + 1, 3, none⟩ = some (.int .i64 g'))) (by kernel_rfl) ⟨Bx1.out.1, By1.out.1⟩ (fun hHeld => ?_)
  clear hBx0 hBx1 hBx2 hBx3 hBx4 hBy0 hBy1 hBy2 hBy3 hBy4 hRsX0 hRsX1 hRsX2 hRsX3 hRsX4 hRsX5 hRsX6 hRsX7 hRsX8
  refine wpAnyH_take (i := 0) (v := ?_) rfl (by kernel_rfl) (by kernel_rfl) (by kernel_rfl) (fun _ _ _ h => h) (Or.inl ⟨by rfl, ?_⟩) (by assumption) ?_
  rotate_left
  · (intro w hSw; (try dsimp only at hSw); go_simp; (try with_reducible rfl))
  try simp only [Act.put, List.setIfInBounds_toArray, List.set_cons_zero, List.set_cons_succ, List.getElem_toArray, List.getElem_cons_succ, List.getElem_cons_zero]
  refine wpAnyH_take (i := 1) (v := ?_) rfl (by kernel_rfl) (by kernel_rfl) (by kernel_rfl) (fun _ _ _ h => h) (Or.inl ⟨by rfl, ?_⟩) (by assumption) ?_
  rotate_left
  · (intro w hSw; (try dsimp only at hSw); go_simp; (try with_reducible rfl))
  try simp only [Act.put, List.setIfInBounds_toArray, List.set_cons_zero, List.set_cons_succ, List.getElem_toArray, List.getElem_cons_succ, List.getElem_cons_zero]
  refine wpAnyH_take (i := 2) (v := ?_) rfl (by kernel_rfl) (by kernel_rfl) (by kernel_rfl) (fun _ _ _ h => h) (Or.inl ⟨by rfl, ?_⟩) (by assumption) ?_
  rotate_left
  · (intro w hSw; (try dsimp only at hSw); go_simp; (try with_reducible rfl))
  try simp only [Act.put, List.setIfInBounds_toArray, List.set_cons_zero, List.set_cons_succ, List.getElem_toArray, List.getElem_cons_succ, List.getElem_cons_zero]
  refine wpAnyH_take (i := 3) (v := ?_) rfl (by kernel_rfl) (by kernel_rfl) (by kernel_rfl) (fun _ _ _ h => h) (Or.inl ⟨by rfl, ?_⟩) (by assumption) ?_
  rotate_left
  · (intro w hSw; (try dsimp only at hSw); go_simp; (try with_reducible rfl))
  try simp only [Act.put, List.setIfInBounds_toArray, List.set_cons_zero, List.set_cons_succ, List.getElem_toArray, List.getElem_cons_succ, List.getElem_cons_zero]
  refine wpAnyH_take (i := 5) (v := ?_) rfl (by kernel_rfl) (by kernel_rfl) (by kernel_rfl) (fun _ _ _ h => h) (Or.inl ⟨by rfl, ?_⟩) (by assumption) ?_
  rotate_left
  · (intro w hSw; (try dsimp only at hSw); go_simp; (try with_reducible rfl))
  try simp only [Act.put, List.setIfInBounds_toArray, List.set_cons_zero, List.set_cons_succ, List.getElem_toArray, List.getElem_cons_succ, List.getElem_cons_zero]
  refine wpAnyH_take (i := 6) (v := ?_) rfl (by kernel_rfl) (by kernel_rfl) (by kernel_rfl) (fun _ _ _ h => h) (Or.inl ⟨by rfl, ?_⟩) (by assumption) ?_
  rotate_left
  · (intro w hSw; (try dsimp only at hSw); go_simp; (try with_reducible rfl))
  try simp only [Act.put, List.setIfInBounds_toArray, List.set_cons_zero, List.set_cons_succ, List.getElem_toArray, List.getElem_cons_succ, List.getElem_cons_zero]
  refine wpAnyH_take (i := 7) (v := ?_) rfl (by kernel_rfl) (by kernel_rfl) (by kernel_rfl) (fun _ _ _ h => h) (Or.inl ⟨by rfl, ?_⟩) (by assumption) ?_
  rotate_left
  · (intro w hSw; (try dsimp only at hSw); go_simp; (try with_reducible rfl))
  try simp only [Act.put, List.setIfInBounds_toArray, List.set_cons_zero, List.set_cons_succ, List.getElem_toArray, List.getElem_cons_succ, List.getElem_cons_zero]
  refine wpAnyH_take (i := 8) (v := ?_) rfl (by kernel_rfl) (by kernel_rfl) (by kernel_rfl) (fun _ _ _ h => h) (Or.inl ⟨by rfl, ?_⟩) (by assumption) ?_
  rotate_left
  · (intro w hSw; (try dsimp only at hSw); go_simp; (try with_reducible rfl))
  try simp only [Act.put, List.setIfInBounds_toArray, List.set_cons_zero, List.set_cons_succ, List.getElem_toArray, List.getElem_cons_succ, List.getElem_cons_zero]
  refine wpAnyH_take (i := 9) (v := ?_) rfl (by kernel_rfl) (by kernel_rfl) (by kernel_rfl) (fun _ _ _ h => h) (Or.inl ⟨by rfl, ?_⟩) (by assumption) ?_
  rotate_left
  · (intro w hSw; (try dsimp only at hSw); go_simp; (try with_reducible rfl))
  try simp only [Act.put, List.setIfInBounds_toArray, List.set_cons_zero, List.set_cons_succ, List.getElem_toArray, List.getElem_cons_succ, List.getElem_cons_zero]
  refine wpAnyH_ready (rs := [4]) (by kernel_rfl) (by simp) ?_
  refine AllReadyH.cons rfl (fun K hK => ?_) AllReadyH.nil
  go_simp
  refine (implMulD_any z S E z' S' E' A A' n c n' c' w1.drew Zv1.out Zw1.out Hm.out.1 Hm.out.2 h1 h2 h3 h4).mono ?_
  rintro e w2 ⟨Sr, Ar, nr, cr, rfl, hzo, hb0⟩
  have hb : Below w1.heap.size w1 w2 := belDrew hb0
  obtain ⟨q, hq⟩ : ∃ q, q = E + E' := ⟨_, rfl⟩
  rw [← hq]
  have Hq := Lib.hid hq
  have Zo2 := Lib.hid hzo
  clear hzo hq
  refine hK.out _ _ ⟨(Bx1.out.next hb).1, (By1.out.next hb).1⟩ (fun hHeld => ?_)
  clear hK K hb0
  have Sz2 := Lib.hid (Below.size hb)
  have Bel2 := Lib.hid (belNext Bel1.out hb)
  have Bx2 := Lib.hid (Bx1.out.next hb)
  have By2 := Lib.hid (By1.out.next hb)
  have RsX2 := Lib.hid (RsX1.out.next hb)
  have Zv2 := Lib.hid (Zv1.out.next hb)
  have Zw2 := Lib.hid (Zw1.out.next hb)
  clear hb Bel1 Bx1 By1 RsX1 Zv1 Zw1
  try simp only [Act.put, List.setIfInBounds_toArray, List.set_cons_zero, List.set_cons_succ, List.getElem_toArray, List.getElem_cons_succ, List.getElem_cons_zero]
  refine wpAnyH_take (i := 10) (v := ?_) rfl (by kernel_rfl) (by kernel_rfl) (by kernel_rfl) (fun _ _ _ h => h) (Or.inl ⟨by rfl, ?_⟩) (by assumption) ?_
  rotate_left
  · (intro w hSw; (try dsimp only at hSw); go_simp; (try with_reducible rfl))
  try simp only [Act.put, List.setIfInBounds_toArray, List.set_cons_zero, List.set_cons_succ, List.getElem_toArray, List.getElem_cons_succ, List.getElem_cons_zero]
  clear hwr
  obtain ⟨⟨hRsX0, hRsX1, hRsX2, hRsX3, hRsX4, hRsX5, hRsX6, hRsX7⟩, hRsX8⟩ := RsX2.out
  refine wpAnyH_ready (rs := [11]) (by kernel_rfl) (by simp) ?_
  refine AllReadyH.cons rfl (fun K hK => ?_) AllReadyH.nil
  go_simp
  refine hK.out _ _ ⟨((((Bx2.out.keep (by have zz0 := Hlt.out; have zz1 := Sz2.out; first | omega | (simp; done) | (simp; omega)) _).keep (by have zz0 := Hlt.out; have zz1 := Sz2.out; first | omega | (simp; done) | (simp; omega)) _).keep (by have zz0 := Hlt.out; have zz1 := Sz2.out; first | omega | (simp; done) | (simp; omega)) _).keep (by have zz0 := Hlt.out; have zz1 := Sz2.out; first | omega | (simp; done) | (simp; omega)) _).1, ((((By2.out.keep (by have zz0 := Hlt.out; have zz1 := Sz2.out; first | omega | (simp; done) | (simp; omega)) _).keep (by have zz0 := Hlt.out; have zz1 := Sz2.out; first | omega | (simp; done) | (simp; omega)) _).keep (by have zz0 := Hlt.out; have zz1 := Sz2.out; first | omega | (simp; done) | (simp; omega)) _).keep (by have zz0 := Hlt.out; have zz1 := Sz2.out; first | omega | (simp; done) | (simp; omega)) _).1⟩ (fun hHeld => ?_)
  clear hK K hHeld
  try simp only [Act.put, List.setIfInBounds_toArray, List.set_cons_zero, List.set_cons_succ, List.getElem_toArray, List.getElem_cons_succ, List.getElem_cons_zero]
  refine wpAnyH_done (by kernel_rfl) ?_ _
  go_wp2_with fail
  refine bodyPost_ret (v := .agg #[.int .i64 Sr, .slice Ar nr cr, .int .i64 q, .int .i64 gg]) (by simp [results, Tryz.results60, go_sem, hRsX0, hRsX1, hRsX2, hRsX3]) rfl ⟨Sr, Ar, nr, cr, by rw [Hq.out, Hgg.out], ?_, ?_⟩
  · exact ((((Zo2.out.setCell (.inl (by have zz0 := Hlt.out; have zz1 := Sz2.out; first | omega | (simp; done) | (simp; omega))) _).setCell (.inl (by have zz0 := Hlt.out; have zz1 := Sz2.out; first | omega | (simp; done) | (simp; omega))) _).setCell (.inl (by have zz0 := Hlt.out; have zz1 := Sz2.out; first | omega | (simp; done) | (simp; omega))) _).setCell (.inl (by have zz0 := Hlt.out; have zz1 := Sz2.out; first | omega | (simp; done) | (simp; omega))) _).wide (by have zz0 := Hlt.out; have zz1 := Sz2.out; first | omega | (simp; done) | (simp; omega)) (by have zz0 := Hlt.out; have zz1 := Sz2.out; first | omega | (simp; done) | (simp; omega)) (Nat.le_refl _)
  · repeat (first | exact Bel2.out | refine Below.drew ?_ | refine Below.setCell ?_ (by have zz0 := Hlt.out; have zz1 := Sz2.out; first | omega | (simp; done) | (simp; omega)) _)

end Go.Proofs.YtngminjncdfjdaaGreatDoor
/- Operations on floats in modes, of the program. -/
namespace Go.Proofs.YtngminjncdfjdaaGreatDoor
set_option maxRecDepth 100000
open Go.RowKit
set_option linter.unusedSimpArgs false
set_option linter.unusedVariables false
attribute [local go_sem ↓] Go.wp_at_zero Go.wp_at_succ

theorem fs_len (l : List Nat) : (fs l).length = l.length := by unfold fs; rw [List.length_map]
theorem fs_get {l : List Nat} {k : Nat} (h : k < l.length) : (fs l)[k]'(by rw [fs_len]; exact h) = .float .f32 l[k] := by unfold fs; rw [List.getElem_map]
theorem rd_two (w : World) (x y : Nat) (t : TypeId) : Rd (w.alloc (.cells #[.float .f32 x, .float .f32 y] t)) (w.alloc (.cells #[.float .f32 x, .float .f32 y] t)).heap.size (some ⟨w.heap.size, 0, none⟩) (fs [x, y]) := by
  intro k u hu
  have hk : k < 2 := by simpa [fs] using (List.getElem?_eq_some_iff.1 hu).1
  refine ⟨_, rfl, by simp, ?_⟩
  rw [add_zero_off]
  rcases (show k = 0 ∨ k = 1 by omega) with rfl | rfl
  · simp [fs] at hu
    subst hu
    go_simp
  · simp [fs] at hu
    subst hu
    go_simp
theorem all_take {l : List Nat} {k : Nat} (hk : k < l.length) (h : (l.take k).all fin32 = true) (hf : fin32 l[k] = true) : (l.take (k + 1)).all fin32 = true := by
  rw [List.take_succ_eq_append_getElem hk, List.all_append, h, List.all_cons, hf]; rfl
theorem not_all {l : List Nat} {k : Nat} (hk : k < l.length) (hf : fin32 l[k] = false) : l.all fin32 = false := by
  rw [List.all_eq_false]
  exact ⟨l[k], List.getElem_mem hk, by rw [hf]; simp⟩
end Go.Proofs.YtngminjncdfjdaaGreatDoor
/- Operations on floats in modes, of the model. -/
namespace Go.Proofs.YtngminjncdfjdaaGreatDoor
set_option maxRecDepth 100000
open Go.RowKit
set_option linter.unusedSimpArgs false
set_option linter.unusedVariables false
attribute [local go_sem ↓] Go.wp_at_zero Go.wp_at_succ

end Go.Proofs.YtngminjncdfjdaaGreatDoor
/- AddIn, SubtractIn, MultiplyIn, of the model. -/
namespace Go.Proofs.YtngminjncdfjdaaGreatDoor
set_option maxRecDepth 100000
open Go.RowKit
set_option linter.unusedSimpArgs false
set_option linter.unusedVariables false
attribute [local go_sem ↓] Go.wp_at_zero Go.wp_at_succ

end Go.Proofs.YtngminjncdfjdaaGreatDoor
/- IsExactSum, of the program and of the model; the words of results. -/
namespace Go.Proofs.YtngminjncdfjdaaGreatDoor
set_option maxRecDepth 100000
open Go.RowKit
set_option linter.unusedSimpArgs false
set_option linter.unusedVariables false
attribute [local go_sem ↓] Go.wp_at_zero Go.wp_at_succ

end Go.Proofs.YtngminjncdfjdaaGreatDoor
