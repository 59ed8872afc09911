/- The meet of two intervals, of the model. -/
import Derived.Test.YtlhdlomabgoadaaIk
namespace Go.Proofs.Ytlhdlomabgoadaa
set_option maxRecDepth 100000
open Go.RowKit
set_option linter.unusedSimpArgs false
set_option linter.unusedVariables false

set_option maxHeartbeats 1000000 in
theorem specMeet_any (l h l' h' : Nat) (w : World) (pl : Pl l) (ph : Pl h) (plq : Pl l') (phq : Pl h') :
    Calls Try.prog 50 #[.agg #[.float .f32 l, .float .f32 h], .agg #[.float .f32 l', .float .f32 h']] w fun e w' => e = .returned (.tuple #[.agg #[.float .f32 ((mx l l')), .float .f32 ((mn h h'))], .bool (decide (place32 (mx l l') ≤ place32 (mn h h')))]) ∧ Below w.heap.size w w' := by
  have f1 := gt32 l' l plq.1 pl.1 plq.2.1 pl.2.1
  have f2 := lt32 h' h phq.1 ph.1 phq.2.1 ph.2.1
  have hst := store_float Try.prog
  by_cases h1 : place32 l < place32 l'
  · rw [decide_eq_true h1] at f1
    have e1 : mx l l' = l' := by unfold mx; rw [if_pos h1]
    rw [e1]
    clear h1 e1
    by_cases h2 : place32 h' < place32 h
    · rw [decide_eq_true h2] at f2
      have e2 : mn h h' = h' := by unfold mn; rw [if_pos h2]
      rw [e2]
      clear h2 e2
      have f3 := le32 l' h' plq.1 phq.1 plq.2.1 phq.2.1
      obtain ⟨y, hy⟩ : ∃ y, y = decide (place32 l' ≤ place32 h') := ⟨_, rfl⟩
      rw [← hy] at f3 ⊢
      clear hy pl ph plq phq
      obtain ⟨w1, hw1, hp0, hp1, hr_, hB_⟩ := ib_2r w l h l' h' 26 26
      have P0_1 := Lib.hid hp0
      have P1_1 := Lib.hid hp1
      have R_1 := Lib.hid hr_
      have hst := store_float Try.prog
      have B1 := Lib.hid hB_
      have Hw := Lib.hid hw1
      clear hw1 hp0 hp1 hr_ hB_
      obtain ⟨⟨c00, c01⟩, c02⟩ := P0_1.out
      obtain ⟨⟨c10, c11⟩, c12⟩ := P1_1.out
      obtain ⟨⟨r0, r1, r2, r3⟩, r4⟩ := R_1.out
      go_enter Try.func50, Try.ntmps50
      go_upto_region 1 with fail
      rw [← Hw.out]
      go_upto_region 6 with fail
      obtain ⟨w2, hw⟩ : ∃ w2, w2 = w1.alloc (.cells #[.float .f32 l', .float .f32 h'] 26) := ⟨_, rfl⟩
      rw [← hw]
      have hb : Below w1.heap.size w1 w2 := by rw [hw]; exact belAlloc1 _ _
      have Q_2 : Hid (IB w2 w1.heap.size l' h') := Lib.hid (by rw [hw]; exact IB.new _ _ _ _)
      clear hw
      have Hs : Hid (w.heap.size + 2 < w1.heap.size) := Lib.hid r4
      have B2 := Lib.hid (belNext B1.out hb)
      have P0_2 := Lib.hid (P0_1.out.next hb)
      have P1_2 := Lib.hid (P1_1.out.next hb)
      have R_2 := Lib.hid (R_1.out.next hb)
      clear hb c00 c01 c02 c10 c11 c12 r0 r1 r2 r3 r4
      obtain ⟨⟨c00, c01⟩, c02⟩ := P0_2.out
      obtain ⟨⟨c10, c11⟩, c12⟩ := P1_2.out
      obtain ⟨⟨r0, r1, r2, r3⟩, r4⟩ := R_2.out
      refine wp_region_held_drew (S := fun w' => (w'.cell? ⟨w1.heap.size, 0, none⟩ = some (.float .f32 l') ∧ w'.cell? ⟨w1.heap.size, 1, none⟩ = some (.float .f32 h'))) (by kernel_rfl) Q_2.out.1 (fun hHeld => ?_)
      clear c00 c01 c02 c10 c11 c12 r0 r1 r2 r3 r4
      refine wpAnyH_take (i := 0) (v := ?_) rfl (by kernel_rfl) (by kernel_rfl) (by kernel_rfl) (fun _ _ _ h => h) (Or.inl ⟨by rfl, ?_⟩) (by assumption) ?_
      rotate_left
      · (intro w hSw; (try dsimp only at hSw); go_simp; (try with_reducible rfl))
      try simp only [Act.put, List.setIfInBounds_toArray, List.set_cons_zero, List.set_cons_succ, List.getElem_toArray, List.getElem_cons_succ, List.getElem_cons_zero]
      refine wpAnyH_take (i := 1) (v := ?_) rfl (by kernel_rfl) (by kernel_rfl) (by kernel_rfl) (fun _ _ _ h => h) (Or.inl ⟨by rfl, ?_⟩) (by assumption) ?_
      rotate_left
      · (intro w hSw; (try dsimp only at hSw); go_simp; (try with_reducible rfl))
      try simp only [Act.put, List.setIfInBounds_toArray, List.set_cons_zero, List.set_cons_succ, List.getElem_toArray, List.getElem_cons_succ, List.getElem_cons_zero]
      refine wpAnyH_take (i := 2) (v := ?_) rfl (by kernel_rfl) (by kernel_rfl) (by kernel_rfl) (fun _ _ _ h => h) (Or.inl ⟨by rfl, ?_⟩) (by assumption) ?_
      rotate_left
      · (intro w hSw; (try dsimp only at hSw); go_simp; (try with_reducible rfl))
      try simp only [Act.put, List.setIfInBounds_toArray, List.set_cons_zero, List.set_cons_succ, List.getElem_toArray, List.getElem_cons_succ, List.getElem_cons_zero]
      refine wpAnyH_take (i := 3) (v := ?_) rfl (by kernel_rfl) (by kernel_rfl) (by kernel_rfl) (fun _ _ _ h => h) (Or.inl ⟨by rfl, ?_⟩) (by assumption) ?_
      rotate_left
      · (intro w hSw; (try dsimp only at hSw); go_simp; (try with_reducible rfl))
      try simp only [Act.put, List.setIfInBounds_toArray, List.set_cons_zero, List.set_cons_succ, List.getElem_toArray, List.getElem_cons_succ, List.getElem_cons_zero]
      refine wpAnyH_take (i := 4) (v := ?_) rfl (by kernel_rfl) (by kernel_rfl) (by kernel_rfl) (fun _ _ _ h => h) (Or.inl ⟨by rfl, ?_⟩) (by assumption) ?_
      rotate_left
      · (intro w hSw; (try dsimp only at hSw); go_simp; (try with_reducible rfl))
      try simp only [Act.put, List.setIfInBounds_toArray, List.set_cons_zero, List.set_cons_succ, List.getElem_toArray, List.getElem_cons_succ, List.getElem_cons_zero]
      refine wpAnyH_take (i := 5) (v := ?_) rfl (by kernel_rfl) (by kernel_rfl) (by kernel_rfl) (fun _ _ _ h => h) (Or.inl ⟨by rfl, ?_⟩) (by assumption) ?_
      rotate_left
      · (intro w hSw; (try dsimp only at hSw); go_simp; (try with_reducible rfl))
      try simp only [Act.put, List.setIfInBounds_toArray, List.set_cons_zero, List.set_cons_succ, List.getElem_toArray, List.getElem_cons_succ, List.getElem_cons_zero]
      obtain ⟨⟨r0, r1, r2, r3⟩, r4⟩ := R_2.out
      refine wpAnyH_ready (rs := [6]) (by kernel_rfl) (by simp) ?_
      refine AllReadyH.cons rfl (fun K hK => ?_) AllReadyH.nil
      go_simp
      refine hK.out _ _ (((Q_2.out.drew.keep (p := ⟨w.heap.size + 2, 0, none⟩) (by have := Hs.out; simp; omega) _).keep (p := ⟨w.heap.size + 2, 1, none⟩) (by have := Hs.out; simp; omega) _).1) (fun hHeld => ?_)
      clear hK K
      try simp only [Act.put, List.setIfInBounds_toArray, List.set_cons_zero, List.set_cons_succ, List.getElem_toArray, List.getElem_cons_succ, List.getElem_cons_zero]
      refine wpAnyH_ready (rs := [7]) (by kernel_rfl) (by simp) ?_
      refine AllReadyH.cons rfl (fun K hK => ?_) AllReadyH.nil
      go_simp
      refine hK.out _ _ hHeld (fun hHeld => ?_)
      clear hK K hHeld
      try simp only [Act.put, List.setIfInBounds_toArray, List.set_cons_zero, List.set_cons_succ, List.getElem_toArray, List.getElem_cons_succ, List.getElem_cons_zero]
      refine wpAnyH_done (by kernel_rfl) ?_ _
      go_wp2_with fail
      refine bodyPost_ret (v := .tuple #[.agg #[.float .f32 l', .float .f32 h'], .bool y]) (by simp [results, Try.results50, go_sem, r0, r1, f3]) rfl ⟨rfl, ?_⟩
      repeat (first | exact B2.out | exact Below.refl _ _ | refine Below.drew ?_ | refine Below.alloc ?_ (by first | (simp; done) | (simp; omega)) _ | refine Below.setCell ?_ (by first | (simp; done) | (simp; omega)) _)
    · rw [decide_eq_false h2] at f2
      have e2 : mn h h' = h := by unfold mn; rw [if_neg h2]
      rw [e2]
      clear h2 e2
      have f3 := le32 l' h plq.1 ph.1 plq.2.1 ph.2.1
      obtain ⟨y, hy⟩ : ∃ y, y = decide (place32 l' ≤ place32 h) := ⟨_, rfl⟩
      rw [← hy] at f3 ⊢
      clear hy pl ph plq phq
      obtain ⟨w1, hw1, hp0, hp1, hr_, hB_⟩ := ib_2r w l h l' h' 26 26
      have P0_1 := Lib.hid hp0
      have P1_1 := Lib.hid hp1
      have R_1 := Lib.hid hr_
      have hst := store_float Try.prog
      have B1 := Lib.hid hB_
      have Hw := Lib.hid hw1
      clear hw1 hp0 hp1 hr_ hB_
      obtain ⟨⟨c00, c01⟩, c02⟩ := P0_1.out
      obtain ⟨⟨c10, c11⟩, c12⟩ := P1_1.out
      obtain ⟨⟨r0, r1, r2, r3⟩, r4⟩ := R_1.out
      go_enter Try.func50, Try.ntmps50
      go_upto_region 1 with fail
      rw [← Hw.out]
      go_upto_region 6 with fail
      obtain ⟨w2, hw⟩ : ∃ w2, w2 = w1.alloc (.cells #[.float .f32 l', .float .f32 h] 26) := ⟨_, rfl⟩
      rw [← hw]
      have hb : Below w1.heap.size w1 w2 := by rw [hw]; exact belAlloc1 _ _
      have Q_2 : Hid (IB w2 w1.heap.size l' h) := Lib.hid (by rw [hw]; exact IB.new _ _ _ _)
      clear hw
      have Hs : Hid (w.heap.size + 2 < w1.heap.size) := Lib.hid r4
      have B2 := Lib.hid (belNext B1.out hb)
      have P0_2 := Lib.hid (P0_1.out.next hb)
      have P1_2 := Lib.hid (P1_1.out.next hb)
      have R_2 := Lib.hid (R_1.out.next hb)
      clear hb c00 c01 c02 c10 c11 c12 r0 r1 r2 r3 r4
      obtain ⟨⟨c00, c01⟩, c02⟩ := P0_2.out
      obtain ⟨⟨c10, c11⟩, c12⟩ := P1_2.out
      obtain ⟨⟨r0, r1, r2, r3⟩, r4⟩ := R_2.out
      refine wp_region_held_drew (S := fun w' => (w'.cell? ⟨w1.heap.size, 0, none⟩ = some (.float .f32 l') ∧ w'.cell? ⟨w1.heap.size, 1, none⟩ = some (.float .f32 h))) (by kernel_rfl) Q_2.out.1 (fun hHeld => ?_)
      clear c00 c01 c02 c10 c11 c12 r0 r1 r2 r3 r4
      refine wpAnyH_take (i := 0) (v := ?_) rfl (by kernel_rfl) (by kernel_rfl) (by kernel_rfl) (fun _ _ _ h => h) (Or.inl ⟨by rfl, ?_⟩) (by assumption) ?_
      rotate_left
      · (intro w hSw; (try dsimp only at hSw); go_simp; (try with_reducible rfl))
      try simp only [Act.put, List.setIfInBounds_toArray, List.set_cons_zero, List.set_cons_succ, List.getElem_toArray, List.getElem_cons_succ, List.getElem_cons_zero]
      refine wpAnyH_take (i := 1) (v := ?_) rfl (by kernel_rfl) (by kernel_rfl) (by kernel_rfl) (fun _ _ _ h => h) (Or.inl ⟨by rfl, ?_⟩) (by assumption) ?_
      rotate_left
      · (intro w hSw; (try dsimp only at hSw); go_simp; (try with_reducible rfl))
      try simp only [Act.put, List.setIfInBounds_toArray, List.set_cons_zero, List.set_cons_succ, List.getElem_toArray, List.getElem_cons_succ, List.getElem_cons_zero]
      refine wpAnyH_take (i := 2) (v := ?_) rfl (by kernel_rfl) (by kernel_rfl) (by kernel_rfl) (fun _ _ _ h => h) (Or.inl ⟨by rfl, ?_⟩) (by assumption) ?_
      rotate_left
      · (intro w hSw; (try dsimp only at hSw); go_simp; (try with_reducible rfl))
      try simp only [Act.put, List.setIfInBounds_toArray, List.set_cons_zero, List.set_cons_succ, List.getElem_toArray, List.getElem_cons_succ, List.getElem_cons_zero]
      refine wpAnyH_take (i := 3) (v := ?_) rfl (by kernel_rfl) (by kernel_rfl) (by kernel_rfl) (fun _ _ _ h => h) (Or.inl ⟨by rfl, ?_⟩) (by assumption) ?_
      rotate_left
      · (intro w hSw; (try dsimp only at hSw); go_simp; (try with_reducible rfl))
      try simp only [Act.put, List.setIfInBounds_toArray, List.set_cons_zero, List.set_cons_succ, List.getElem_toArray, List.getElem_cons_succ, List.getElem_cons_zero]
      refine wpAnyH_take (i := 4) (v := ?_) rfl (by kernel_rfl) (by kernel_rfl) (by kernel_rfl) (fun _ _ _ h => h) (Or.inl ⟨by rfl, ?_⟩) (by assumption) ?_
      rotate_left
      · (intro w hSw; (try dsimp only at hSw); go_simp; (try with_reducible rfl))
      try simp only [Act.put, List.setIfInBounds_toArray, List.set_cons_zero, List.set_cons_succ, List.getElem_toArray, List.getElem_cons_succ, List.getElem_cons_zero]
      refine wpAnyH_take (i := 5) (v := ?_) rfl (by kernel_rfl) (by kernel_rfl) (by kernel_rfl) (fun _ _ _ h => h) (Or.inl ⟨by rfl, ?_⟩) (by assumption) ?_
      rotate_left
      · (intro w hSw; (try dsimp only at hSw); go_simp; (try with_reducible rfl))
      try simp only [Act.put, List.setIfInBounds_toArray, List.set_cons_zero, List.set_cons_succ, List.getElem_toArray, List.getElem_cons_succ, List.getElem_cons_zero]
      obtain ⟨⟨r0, r1, r2, r3⟩, r4⟩ := R_2.out
      refine wpAnyH_ready (rs := [6]) (by kernel_rfl) (by simp) ?_
      refine AllReadyH.cons rfl (fun K hK => ?_) AllReadyH.nil
      go_simp
      refine hK.out _ _ (((Q_2.out.drew.keep (p := ⟨w.heap.size + 2, 0, none⟩) (by have := Hs.out; simp; omega) _).keep (p := ⟨w.heap.size + 2, 1, none⟩) (by have := Hs.out; simp; omega) _).1) (fun hHeld => ?_)
      clear hK K
      try simp only [Act.put, List.setIfInBounds_toArray, List.set_cons_zero, List.set_cons_succ, List.getElem_toArray, List.getElem_cons_succ, List.getElem_cons_zero]
      refine wpAnyH_ready (rs := [7]) (by kernel_rfl) (by simp) ?_
      refine AllReadyH.cons rfl (fun K hK => ?_) AllReadyH.nil
      go_simp
      refine hK.out _ _ hHeld (fun hHeld => ?_)
      clear hK K hHeld
      try simp only [Act.put, List.setIfInBounds_toArray, List.set_cons_zero, List.set_cons_succ, List.getElem_toArray, List.getElem_cons_succ, List.getElem_cons_zero]
      refine wpAnyH_done (by kernel_rfl) ?_ _
      go_wp2_with fail
      refine bodyPost_ret (v := .tuple #[.agg #[.float .f32 l', .float .f32 h], .bool y]) (by simp [results, Try.results50, go_sem, r0, r1, f3]) rfl ⟨rfl, ?_⟩
      repeat (first | exact B2.out | exact Below.refl _ _ | refine Below.drew ?_ | refine Below.alloc ?_ (by first | (simp; done) | (simp; omega)) _ | refine Below.setCell ?_ (by first | (simp; done) | (simp; omega)) _)
  · rw [decide_eq_false h1] at f1
    have e1 : mx l l' = l := by unfold mx; rw [if_neg h1]
    rw [e1]
    clear h1 e1
    by_cases h2 : place32 h' < place32 h
    · rw [decide_eq_true h2] at f2
      have e2 : mn h h' = h' := by unfold mn; rw [if_pos h2]
      rw [e2]
      clear h2 e2
      have f3 := le32 l h' pl.1 phq.1 pl.2.1 phq.2.1
      obtain ⟨y, hy⟩ : ∃ y, y = decide (place32 l ≤ place32 h') := ⟨_, rfl⟩
      rw [← hy] at f3 ⊢
      clear hy pl ph plq phq
      obtain ⟨w1, hw1, hp0, hp1, hr_, hB_⟩ := ib_2r w l h l' h' 26 26
      have P0_1 := Lib.hid hp0
      have P1_1 := Lib.hid hp1
      have R_1 := Lib.hid hr_
      have hst := store_float Try.prog
      have B1 := Lib.hid hB_
      have Hw := Lib.hid hw1
      clear hw1 hp0 hp1 hr_ hB_
      obtain ⟨⟨c00, c01⟩, c02⟩ := P0_1.out
      obtain ⟨⟨c10, c11⟩, c12⟩ := P1_1.out
      obtain ⟨⟨r0, r1, r2, r3⟩, r4⟩ := R_1.out
      go_enter Try.func50, Try.ntmps50
      go_upto_region 1 with fail
      rw [← Hw.out]
      go_upto_region 6 with fail
      obtain ⟨w2, hw⟩ : ∃ w2, w2 = w1.alloc (.cells #[.float .f32 l, .float .f32 h'] 26) := ⟨_, rfl⟩
      rw [← hw]
      have hb : Below w1.heap.size w1 w2 := by rw [hw]; exact belAlloc1 _ _
      have Q_2 : Hid (IB w2 w1.heap.size l h') := Lib.hid (by rw [hw]; exact IB.new _ _ _ _)
      clear hw
      have Hs : Hid (w.heap.size + 2 < w1.heap.size) := Lib.hid r4
      have B2 := Lib.hid (belNext B1.out hb)
      have P0_2 := Lib.hid (P0_1.out.next hb)
      have P1_2 := Lib.hid (P1_1.out.next hb)
      have R_2 := Lib.hid (R_1.out.next hb)
      clear hb c00 c01 c02 c10 c11 c12 r0 r1 r2 r3 r4
      obtain ⟨⟨c00, c01⟩, c02⟩ := P0_2.out
      obtain ⟨⟨c10, c11⟩, c12⟩ := P1_2.out
      obtain ⟨⟨r0, r1, r2, r3⟩, r4⟩ := R_2.out
      refine wp_region_held_drew (S := fun w' => (w'.cell? ⟨w1.heap.size, 0, none⟩ = some (.float .f32 l) ∧ w'.cell? ⟨w1.heap.size, 1, none⟩ = some (.float .f32 h'))) (by kernel_rfl) Q_2.out.1 (fun hHeld => ?_)
      clear c00 c01 c02 c10 c11 c12 r0 r1 r2 r3 r4
      refine wpAnyH_take (i := 0) (v := ?_) rfl (by kernel_rfl) (by kernel_rfl) (by kernel_rfl) (fun _ _ _ h => h) (Or.inl ⟨by rfl, ?_⟩) (by assumption) ?_
      rotate_left
      · (intro w hSw; (try dsimp only at hSw); go_simp; (try with_reducible rfl))
      try simp only [Act.put, List.setIfInBounds_toArray, List.set_cons_zero, List.set_cons_succ, List.getElem_toArray, List.getElem_cons_succ, List.getElem_cons_zero]
      refine wpAnyH_take (i := 1) (v := ?_) rfl (by kernel_rfl) (by kernel_rfl) (by kernel_rfl) (fun _ _ _ h => h) (Or.inl ⟨by rfl, ?_⟩) (by assumption) ?_
      rotate_left
      · (intro w hSw; (try dsimp only at hSw); go_simp; (try with_reducible rfl))
      try simp only [Act.put, List.setIfInBounds_toArray, List.set_cons_zero, List.set_cons_succ, List.getElem_toArray, List.getElem_cons_succ, List.getElem_cons_zero]
      refine wpAnyH_take (i := 2) (v := ?_) rfl (by kernel_rfl) (by kernel_rfl) (by kernel_rfl) (fun _ _ _ h => h) (Or.inl ⟨by rfl, ?_⟩) (by assumption) ?_
      rotate_left
      · (intro w hSw; (try dsimp only at hSw); go_simp; (try with_reducible rfl))
      try simp only [Act.put, List.setIfInBounds_toArray, List.set_cons_zero, List.set_cons_succ, List.getElem_toArray, List.getElem_cons_succ, List.getElem_cons_zero]
      refine wpAnyH_take (i := 3) (v := ?_) rfl (by kernel_rfl) (by kernel_rfl) (by kernel_rfl) (fun _ _ _ h => h) (Or.inl ⟨by rfl, ?_⟩) (by assumption) ?_
      rotate_left
      · (intro w hSw; (try dsimp only at hSw); go_simp; (try with_reducible rfl))
      try simp only [Act.put, List.setIfInBounds_toArray, List.set_cons_zero, List.set_cons_succ, List.getElem_toArray, List.getElem_cons_succ, List.getElem_cons_zero]
      refine wpAnyH_take (i := 4) (v := ?_) rfl (by kernel_rfl) (by kernel_rfl) (by kernel_rfl) (fun _ _ _ h => h) (Or.inl ⟨by rfl, ?_⟩) (by assumption) ?_
      rotate_left
      · (intro w hSw; (try dsimp only at hSw); go_simp; (try with_reducible rfl))
      try simp only [Act.put, List.setIfInBounds_toArray, List.set_cons_zero, List.set_cons_succ, List.getElem_toArray, List.getElem_cons_succ, List.getElem_cons_zero]
      refine wpAnyH_take (i := 5) (v := ?_) rfl (by kernel_rfl) (by kernel_rfl) (by kernel_rfl) (fun _ _ _ h => h) (Or.inl ⟨by rfl, ?_⟩) (by assumption) ?_
      rotate_left
      · (intro w hSw; (try dsimp only at hSw); go_simp; (try with_reducible rfl))
      try simp only [Act.put, List.setIfInBounds_toArray, List.set_cons_zero, List.set_cons_succ, List.getElem_toArray, List.getElem_cons_succ, List.getElem_cons_zero]
      obtain ⟨⟨r0, r1, r2, r3⟩, r4⟩ := R_2.out
      refine wpAnyH_ready (rs := [6]) (by kernel_rfl) (by simp) ?_
      refine AllReadyH.cons rfl (fun K hK => ?_) AllReadyH.nil
      go_simp
      refine hK.out _ _ (((Q_2.out.drew.keep (p := ⟨w.heap.size + 2, 0, none⟩) (by have := Hs.out; simp; omega) _).keep (p := ⟨w.heap.size + 2, 1, none⟩) (by have := Hs.out; simp; omega) _).1) (fun hHeld => ?_)
      clear hK K
      try simp only [Act.put, List.setIfInBounds_toArray, List.set_cons_zero, List.set_cons_succ, List.getElem_toArray, List.getElem_cons_succ, List.getElem_cons_zero]
      refine wpAnyH_ready (rs := [7]) (by kernel_rfl) (by simp) ?_
      refine AllReadyH.cons rfl (fun K hK => ?_) AllReadyH.nil
      go_simp
      refine hK.out _ _ hHeld (fun hHeld => ?_)
      clear hK K hHeld
      try simp only [Act.put, List.setIfInBounds_toArray, List.set_cons_zero, List.set_cons_succ, List.getElem_toArray, List.getElem_cons_succ, List.getElem_cons_zero]
      refine wpAnyH_done (by kernel_rfl) ?_ _
      go_wp2_with fail
      refine bodyPost_ret (v := .tuple #[.agg #[.float .f32 l, .float .f32 h'], .bool y]) (by simp [results, Try.results50, go_sem, r0, r1, f3]) rfl ⟨rfl, ?_⟩
      repeat (first | exact B2.out | exact Below.refl _ _ | refine Below.drew ?_ | refine Below.alloc ?_ (by first | (simp; done) | (simp; omega)) _ | refine Below.setCell ?_ (by first | (simp; done) | (simp; omega)) _)
    · rw [decide_eq_false h2] at f2
      have e2 : mn h h' = h := by unfold mn; rw [if_neg h2]
      rw [e2]
      clear h2 e2
      have f3 := le32 l h pl.1 ph.1 pl.2.1 ph.2.1
      obtain ⟨y, hy⟩ : ∃ y, y = decide (place32 l ≤ place32 h) := ⟨_, rfl⟩
      rw [← hy] at f3 ⊢
      clear hy pl ph plq phq
      obtain ⟨w1, hw1, hp0, hp1, hr_, hB_⟩ := ib_2r w l h l' h' 26 26
      have P0_1 := Lib.hid hp0
      have P1_1 := Lib.hid hp1
      have R_1 := Lib.hid hr_
      have hst := store_float Try.prog
      have B1 := Lib.hid hB_
      have Hw := Lib.hid hw1
      clear hw1 hp0 hp1 hr_ hB_
      obtain ⟨⟨c00, c01⟩, c02⟩ := P0_1.out
      obtain ⟨⟨c10, c11⟩, c12⟩ := P1_1.out
      obtain ⟨⟨r0, r1, r2, r3⟩, r4⟩ := R_1.out
      go_enter Try.func50, Try.ntmps50
      go_upto_region 1 with fail
      rw [← Hw.out]
      go_upto_region 6 with fail
      obtain ⟨w2, hw⟩ : ∃ w2, w2 = w1.alloc (.cells #[.float .f32 l, .float .f32 h] 26) := ⟨_, rfl⟩
      rw [← hw]
      have hb : Below w1.heap.size w1 w2 := by rw [hw]; exact belAlloc1 _ _
      have Q_2 : Hid (IB w2 w1.heap.size l h) := Lib.hid (by rw [hw]; exact IB.new _ _ _ _)
      clear hw
      have Hs : Hid (w.heap.size + 2 < w1.heap.size) := Lib.hid r4
      have B2 := Lib.hid (belNext B1.out hb)
      have P0_2 := Lib.hid (P0_1.out.next hb)
      have P1_2 := Lib.hid (P1_1.out.next hb)
      have R_2 := Lib.hid (R_1.out.next hb)
      clear hb c00 c01 c02 c10 c11 c12 r0 r1 r2 r3 r4
      obtain ⟨⟨c00, c01⟩, c02⟩ := P0_2.out
      obtain ⟨⟨c10, c11⟩, c12⟩ := P1_2.out
      obtain ⟨⟨r0, r1, r2, r3⟩, r4⟩ := R_2.out
      refine wp_region_held_drew (S := fun w' => (w'.cell? ⟨w1.heap.size, 0, none⟩ = some (.float .f32 l) ∧ w'.cell? ⟨w1.heap.size, 1, none⟩ = some (.float .f32 h))) (by kernel_rfl) Q_2.out.1 (fun hHeld => ?_)
      clear c00 c01 c02 c10 c11 c12 r0 r1 r2 r3 r4
      refine wpAnyH_take (i := 0) (v := ?_) rfl (by kernel_rfl) (by kernel_rfl) (by kernel_rfl) (fun _ _ _ h => h) (Or.inl ⟨by rfl, ?_⟩) (by assumption) ?_
      rotate_left
      · (intro w hSw; (try dsimp only at hSw); go_simp; (try with_reducible rfl))
      try simp only [Act.put, List.setIfInBounds_toArray, List.set_cons_zero, List.set_cons_succ, List.getElem_toArray, List.getElem_cons_succ, List.getElem_cons_zero]
      refine wpAnyH_take (i := 1) (v := ?_) rfl (by kernel_rfl) (by kernel_rfl) (by kernel_rfl) (fun _ _ _ h => h) (Or.inl ⟨by rfl, ?_⟩) (by assumption) ?_
      rotate_left
      · (intro w hSw; (try dsimp only at hSw); go_simp; (try with_reducible rfl))
      try simp only [Act.put, List.setIfInBounds_toArray, List.set_cons_zero, List.set_cons_succ, List.getElem_toArray, List.getElem_cons_succ, List.getElem_cons_zero]
      refine wpAnyH_take (i := 2) (v := ?_) rfl (by kernel_rfl) (by kernel_rfl) (by kernel_rfl) (fun _ _ _ h => h) (Or.inl ⟨by rfl, ?_⟩) (by assumption) ?_
      rotate_left
      · (intro w hSw; (try dsimp only at hSw); go_simp; (try with_reducible rfl))
      try simp only [Act.put, List.setIfInBounds_toArray, List.set_cons_zero, List.set_cons_succ, List.getElem_toArray, List.getElem_cons_succ, List.getElem_cons_zero]
      refine wpAnyH_take (i := 3) (v := ?_) rfl (by kernel_rfl) (by kernel_rfl) (by kernel_rfl) (fun _ _ _ h => h) (Or.inl ⟨by rfl, ?_⟩) (by assumption) ?_
      rotate_left
      · (intro w hSw; (try dsimp only at hSw); go_simp; (try with_reducible rfl))
      try simp only [Act.put, List.setIfInBounds_toArray, List.set_cons_zero, List.set_cons_succ, List.getElem_toArray, List.getElem_cons_succ, List.getElem_cons_zero]
      refine wpAnyH_take (i := 4) (v := ?_) rfl (by kernel_rfl) (by kernel_rfl) (by kernel_rfl) (fun _ _ _ h => h) (Or.inl ⟨by rfl, ?_⟩) (by assumption) ?_
      rotate_left
      · (intro w hSw; (try dsimp only at hSw); go_simp; (try with_reducible rfl))
      try simp only [Act.put, List.setIfInBounds_toArray, List.set_cons_zero, List.set_cons_succ, List.getElem_toArray, List.getElem_cons_succ, List.getElem_cons_zero]
      refine wpAnyH_take (i := 5) (v := ?_) rfl (by kernel_rfl) (by kernel_rfl) (by kernel_rfl) (fun _ _ _ h => h) (Or.inl ⟨by rfl, ?_⟩) (by assumption) ?_
      rotate_left
      · (intro w hSw; (try dsimp only at hSw); go_simp; (try with_reducible rfl))
      try simp only [Act.put, List.setIfInBounds_toArray, List.set_cons_zero, List.set_cons_succ, List.getElem_toArray, List.getElem_cons_succ, List.getElem_cons_zero]
      obtain ⟨⟨r0, r1, r2, r3⟩, r4⟩ := R_2.out
      refine wpAnyH_ready (rs := [6]) (by kernel_rfl) (by simp) ?_
      refine AllReadyH.cons rfl (fun K hK => ?_) AllReadyH.nil
      go_simp
      refine hK.out _ _ (((Q_2.out.drew.keep (p := ⟨w.heap.size + 2, 0, none⟩) (by have := Hs.out; simp; omega) _).keep (p := ⟨w.heap.size + 2, 1, none⟩) (by have := Hs.out; simp; omega) _).1) (fun hHeld => ?_)
      clear hK K
      try simp only [Act.put, List.setIfInBounds_toArray, List.set_cons_zero, List.set_cons_succ, List.getElem_toArray, List.getElem_cons_succ, List.getElem_cons_zero]
      refine wpAnyH_ready (rs := [7]) (by kernel_rfl) (by simp) ?_
      refine AllReadyH.cons rfl (fun K hK => ?_) AllReadyH.nil
      go_simp
      refine hK.out _ _ hHeld (fun hHeld => ?_)
      clear hK K hHeld
      try simp only [Act.put, List.setIfInBounds_toArray, List.set_cons_zero, List.set_cons_succ, List.getElem_toArray, List.getElem_cons_succ, List.getElem_cons_zero]
      refine wpAnyH_done (by kernel_rfl) ?_ _
      go_wp2_with fail
      refine bodyPost_ret (v := .tuple #[.agg #[.float .f32 l, .float .f32 h], .bool y]) (by simp [results, Try.results50, go_sem, r0, r1, f3]) rfl ⟨rfl, ?_⟩
      repeat (first | exact B2.out | exact Below.refl _ _ | refine Below.drew ?_ | refine Below.alloc ?_ (by first | (simp; done) | (simp; omega)) _ | refine Below.setCell ?_ (by first | (simp; done) | (simp; omega)) _)
end Go.Proofs.Ytlhdlomabgoadaa
