/- The operations on intervals that round nothing, of the program and of the model. -/
import Derived.Test.YtlhdlomabgoadaaIj
namespace Go.Proofs.Ytlhdlomabgoadaa
set_option maxRecDepth 100000
open Go.RowKit
set_option linter.unusedSimpArgs false
set_option linter.unusedVariables false

theorem finI_any (b : Nat) (w : World) (hb : b < 4294967296) : Calls Try.prog 53 #[.float .f32 b] w fun e w' => e = .returned (.bool (fin32 b)) ∧ Below w.heap.size w w' := by
  by_cases hf : fin32 b = true
  · rw [hf]
    refine (fin_yes b w hb hf).mono ?_
    rintro e w' ⟨rfl, rfl⟩
    exact ⟨rfl, Below.refl _ _⟩
  · have hf : fin32 b = false := by simpa using hf
    rw [hf]
    refine (fin_no b w hb hf).mono ?_
    rintro e w' ⟨rfl, rfl⟩
    exact ⟨rfl, (Below.refl _ _).drew⟩
set_option maxHeartbeats 1000000 in
theorem specMake_any (a b : Nat) (w : World) (ha : a < 4294967296) (hb0 : b < 4294967296) :
    Calls Try.prog 38 #[.float .f32 a, .float .f32 b] w fun e w' => e = .returned (.agg #[.float .f32 ((wz a)), .float .f32 ((wz b))]) ∧ Below w.heap.size w w' := by
  have H1 : Hid (∀ w, _) := Lib.hid (fun w => zeroI_any a w ha)
  have H2 : Hid (∀ w, _) := Lib.hid (fun w => zeroI_any b w hb0)
  obtain ⟨p, hp⟩ : ∃ p, p = wz a := ⟨_, rfl⟩
  obtain ⟨q, hq⟩ : ∃ q, q = wz b := ⟨_, rfl⟩
  rw [← hp] at H1 ⊢
  rw [← hq] at H2 ⊢
  clear ha hb0 hp hq
  obtain ⟨w1, hw1, hr_, hB_⟩ := ib_0r w  26
  have R_1 := Lib.hid hr_
  have hst := store_float Try.prog
  have B1 := Lib.hid hB_
  have Hw := Lib.hid hw1
  clear hw1 hr_ hB_
  obtain ⟨⟨r0, r1, r2, r3⟩, r4⟩ := R_1.out
  go_enter Try.func38, Try.ntmps38
  go_wp2_with fail
  rw [← Hw.out]
  refine (H1.out _).mono ?_
  rintro e w9 ⟨rfl, rfl⟩
  go_wp2_with fail
  refine (H2.out _).mono ?_
  rintro e w9 ⟨rfl, rfl⟩
  go_wp2_with fail
  refine bodyPost_ret (v := .agg #[.float .f32 p, .float .f32 q]) (by simp [results, Try.results38, go_sem, r0, r1]) rfl ⟨rfl, ?_⟩
  repeat (first | exact B1.out | exact Below.refl _ _ | refine Below.drew ?_ | refine Below.alloc ?_ (by first | (simp; done) | (simp; omega)) _ | refine Below.setCell ?_ (by first | (simp; done) | (simp; omega)) _)
theorem ng_pl {b : Nat} (h : Pl b) (hn : place32 b < 0) : Pl (ng b) := by
  obtain ⟨h1, h2, h3⟩ := h
  refine ⟨ng_lt h1, by rw [ng_nan h1]; exact h2, ?_⟩
  rw [place32_val] at hn
  unfold ng
  split at hn <;> split <;> omega
/-- the absolute value of an interval -/
def abL (l h : Nat) : Nat := if 0 ≤ place32 l then l else if place32 h ≤ 0 then opp h else 0
def abH (l h : Nat) : Nat := if 0 ≤ place32 l then h else if place32 h ≤ 0 then opp l else mx (ng l) h
theorem ab_pl {l h : Nat} (pl : Pl l) (ph : Pl h) : Pl (abL l h) ∧ Pl (abH l h) := by
  unfold abL abH
  by_cases h1 : 0 ≤ place32 l
  · rw [if_pos h1, if_pos h1]; exact ⟨pl, ph⟩
  · rw [if_neg h1, if_neg h1]
    by_cases h2 : place32 h ≤ 0
    · rw [if_pos h2, if_pos h2]; exact ⟨opp_pl ph, opp_pl pl⟩
    · rw [if_neg h2, if_neg h2]; exact ⟨Pl.zero, mx_pl (ng_pl pl (by omega)) ph⟩
/-- the order of two intervals -/
def ordI (l h l' h' : Nat) : Int := if place32 h < place32 l' then -1 else if place32 h' < place32 l then 1 else 0
theorem wz_ng {b : Nat} : wz (ng b) = opp b := rfl
theorem at_pl {b : Nat} (s : Int) (h : Pl b) : Pl (at32 (beside b s)) := by
  obtain ⟨g1, g2⟩ := beside_bounds b s
  refine ⟨at32_lt _ g1 g2, at32_nan _ g1 g2, ?_⟩
  unfold at32; split <;> omega
set_option maxHeartbeats 1000000 in
theorem implIOpp_any (l h : Nat) (w : World) (pl : Pl l) (ph : Pl h) :
    Calls Try.prog 45 #[.agg #[.float .f32 l, .float .f32 h]] w fun e w' => e = .returned (.agg #[.float .f32 ((opp h)), .float .f32 ((opp l))]) ∧ Below w.heap.size w w' := by
  have n1 := neg_op l pl.1
  have n2 := neg_op h ph.1
  have H1 : Hid (∀ w, _) := Lib.hid (fun w => wz_any (ng h) w (ng_lt ph.1))
  have H2 : Hid (∀ w, _) := Lib.hid (fun w => wz_any (ng l) w (ng_lt pl.1))
  rw [wz_ng] at H1 H2
  obtain ⟨p, hp⟩ : ∃ p, p = opp h := ⟨_, rfl⟩
  obtain ⟨q, hq⟩ : ∃ q, q = opp l := ⟨_, rfl⟩
  rw [← hp] at H1 ⊢
  rw [← hq] at H2 ⊢
  clear pl ph hp hq
  obtain ⟨w1, hw1, hp0, hr_, hB_⟩ := ib_1r w l h 26 26
  have P0_1 := Lib.hid hp0
  have R_1 := Lib.hid hr_
  have hst := store_float Try.prog
  have B1 := Lib.hid hB_
  have Hw := Lib.hid hw1
  clear hw1 hp0 hr_ hB_
  obtain ⟨⟨c00, c01⟩, c02⟩ := P0_1.out
  obtain ⟨⟨r0, r1, r2, r3⟩, r4⟩ := R_1.out
  go_enter Try.func45, Try.ntmps45
  go_wp2_with fail
  rw [← Hw.out]
  refine wp_region_held_drew (S := fun w' => (w'.cell? ⟨w.heap.size, 0, none⟩ = some (.float .f32 l) ∧ w'.cell? ⟨w.heap.size, 1, none⟩ = some (.float .f32 h))) (by kernel_rfl) P0_1.out.1 (fun hHeld => ?_)
  clear c00 c01 c02 r0 r1 r2 r3 r4
  refine wpAnyH_take (i := 0) (v := ?_) rfl (by kernel_rfl) (by kernel_rfl) (by kernel_rfl) (fun _ _ _ h => h) (Or.inl ⟨by rfl, ?_⟩) (by assumption) ?_
  rotate_left
  · (intro w hSw; (try dsimp only at hSw); go_simp; (try with_reducible rfl))
  try simp only [Act.put, List.setIfInBounds_toArray, List.set_cons_zero, List.set_cons_succ, List.getElem_toArray, List.getElem_cons_succ, List.getElem_cons_zero]
  refine wpAnyH_take (i := 1) (v := ?_) rfl (by kernel_rfl) (by kernel_rfl) (by kernel_rfl) (fun _ _ _ h => h) (Or.inl ⟨by rfl, ?_⟩) (by assumption) ?_
  rotate_left
  · (intro w hSw; (try dsimp only at hSw); go_simp; (try with_reducible rfl))
  try simp only [Act.put, List.setIfInBounds_toArray, List.set_cons_zero, List.set_cons_succ, List.getElem_toArray, List.getElem_cons_succ, List.getElem_cons_zero]
  refine wpAnyH_take (i := 2) (v := ?_) rfl (by kernel_rfl) (by kernel_rfl) (by kernel_rfl) (fun _ _ _ h => h) (Or.inl ⟨by rfl, ?_⟩) (by assumption) ?_
  rotate_left
  · (intro w hSw; (try dsimp only at hSw); go_simp; (try with_reducible rfl))
  try simp only [Act.put, List.setIfInBounds_toArray, List.set_cons_zero, List.set_cons_succ, List.getElem_toArray, List.getElem_cons_succ, List.getElem_cons_zero]
  refine wpAnyH_take (i := 4) (v := ?_) rfl (by kernel_rfl) (by kernel_rfl) (by kernel_rfl) (fun _ _ _ h => h) (Or.inl ⟨by rfl, ?_⟩) (by assumption) ?_
  rotate_left
  · (intro w hSw; (try dsimp only at hSw); go_simp; (try with_reducible rfl))
  try simp only [Act.put, List.setIfInBounds_toArray, List.set_cons_zero, List.set_cons_succ, List.getElem_toArray, List.getElem_cons_succ, List.getElem_cons_zero]
  refine wpAnyH_take (i := 5) (v := ?_) rfl (by kernel_rfl) (by kernel_rfl) (by kernel_rfl) (fun _ _ _ h => h) (Or.inl ⟨by rfl, ?_⟩) (by assumption) ?_
  rotate_left
  · (intro w hSw; (try dsimp only at hSw); go_simp; (try with_reducible rfl))
  try simp only [Act.put, List.setIfInBounds_toArray, List.set_cons_zero, List.set_cons_succ, List.getElem_toArray, List.getElem_cons_succ, List.getElem_cons_zero]
  refine wpAnyH_take (i := 6) (v := ?_) rfl (by kernel_rfl) (by kernel_rfl) (by kernel_rfl) (fun _ _ _ h => h) (Or.inl ⟨by rfl, ?_⟩) (by assumption) ?_
  rotate_left
  · (intro w hSw; (try dsimp only at hSw); go_simp; (try with_reducible rfl))
  try simp only [Act.put, List.setIfInBounds_toArray, List.set_cons_zero, List.set_cons_succ, List.getElem_toArray, List.getElem_cons_succ, List.getElem_cons_zero]
  refine wpAnyH_ready (rs := [3]) (by kernel_rfl) (by simp) ?_
  refine AllReadyH.cons rfl (fun K hK => ?_) AllReadyH.nil
  go_simp
  refine (H1.out _).mono ?_
  rintro e w9 ⟨rfl, rfl⟩
  refine hK.out _ _ hHeld (fun hHeld => ?_)
  clear hK K
  try simp only [Act.put, List.setIfInBounds_toArray, List.set_cons_zero, List.set_cons_succ, List.getElem_toArray, List.getElem_cons_succ, List.getElem_cons_zero]
  refine wpAnyH_ready (rs := [7]) (by kernel_rfl) (by simp) ?_
  refine AllReadyH.cons rfl (fun K hK => ?_) AllReadyH.nil
  go_simp
  refine (H2.out _).mono ?_
  rintro e w9 ⟨rfl, rfl⟩
  refine hK.out _ _ hHeld (fun hHeld => ?_)
  clear hK K
  try simp only [Act.put, List.setIfInBounds_toArray, List.set_cons_zero, List.set_cons_succ, List.getElem_toArray, List.getElem_cons_succ, List.getElem_cons_zero]
  refine wpAnyH_take (i := 8) (v := ?_) rfl (by kernel_rfl) (by kernel_rfl) (by kernel_rfl) (fun _ _ _ h => h) (Or.inl ⟨by rfl, ?_⟩) (by assumption) ?_
  rotate_left
  · (intro w hSw; (try dsimp only at hSw); go_simp; (try with_reducible rfl))
  try simp only [Act.put, List.setIfInBounds_toArray, List.set_cons_zero, List.set_cons_succ, List.getElem_toArray, List.getElem_cons_succ, List.getElem_cons_zero]
  obtain ⟨⟨r0, r1, r2, r3⟩, r4⟩ := R_1.out
  refine wpAnyH_ready (rs := [9]) (by kernel_rfl) (by simp) ?_
  refine AllReadyH.cons rfl (fun K hK => ?_) AllReadyH.nil
  go_simp
  refine hK.out _ _ (((P0_1.out.drew.keep (p := ⟨w.heap.size + 1, 0, none⟩) (by simp) _).keep (p := ⟨w.heap.size + 1, 1, none⟩) (by simp) _).1) (fun hHeld => ?_)
  clear hK K hHeld
  try simp only [Act.put, List.setIfInBounds_toArray, List.set_cons_zero, List.set_cons_succ, List.getElem_toArray, List.getElem_cons_succ, List.getElem_cons_zero]
  refine wpAnyH_done (by kernel_rfl) ?_ _
  go_wp2_with fail
  refine bodyPost_ret (v := .agg #[.float .f32 p, .float .f32 q]) (by simp [results, Try.results45, go_sem, r0, r1]) rfl ⟨rfl, ?_⟩
  repeat (first | exact B1.out | exact Below.refl _ _ | refine Below.drew ?_ | refine Below.alloc ?_ (by first | (simp; done) | (simp; omega)) _ | refine Below.setCell ?_ (by first | (simp; done) | (simp; omega)) _)
set_option maxHeartbeats 1000000 in
theorem specINeg_any (l h : Nat) (w : World) (pl : Pl l) (ph : Pl h) :
    Calls Try.prog 44 #[.agg #[.float .f32 l, .float .f32 h]] w fun e w' => e = .returned (.agg #[.float .f32 ((opp h)), .float .f32 ((opp l))]) ∧ Below w.heap.size w w' := by
  have n1 := neg_op l pl.1
  have n2 := neg_op h ph.1
  have H1 : Hid (∀ w, _) := Lib.hid (fun w => specMake_any (ng h) (ng l) w (ng_lt ph.1) (ng_lt pl.1))
  rw [wz_ng, wz_ng] at H1
  obtain ⟨p, hp⟩ : ∃ p, p = opp h := ⟨_, rfl⟩
  obtain ⟨q, hq⟩ : ∃ q, q = opp l := ⟨_, rfl⟩
  rw [← hp, ← hq] at H1 ⊢
  clear pl ph hp hq
  obtain ⟨w1, hw1, hp0, hr_, hB_⟩ := ib_1r w l h 26 26
  have P0_1 := Lib.hid hp0
  have R_1 := Lib.hid hr_
  have hst := store_float Try.prog
  have B1 := Lib.hid hB_
  have Hw := Lib.hid hw1
  clear hw1 hp0 hr_ hB_
  obtain ⟨⟨c00, c01⟩, c02⟩ := P0_1.out
  obtain ⟨⟨r0, r1, r2, r3⟩, r4⟩ := R_1.out
  go_enter Try.func44, Try.ntmps44
  go_wp2_with fail
  rw [← Hw.out]
  refine (H1.out _).mono ?_
  rintro e w2 ⟨rfl, hb⟩
  have B2 := Lib.hid (belNext B1.out hb)
  have P0_2 := Lib.hid (P0_1.out.next hb)
  have R_2 := Lib.hid (R_1.out.next hb)
  clear hb c00 c01 c02 r0 r1 r2 r3 r4
  obtain ⟨⟨c00, c01⟩, c02⟩ := P0_2.out
  obtain ⟨⟨r0, r1, r2, r3⟩, r4⟩ := R_2.out
  go_wp2_with fail
  refine bodyPost_ret (v := .agg #[.float .f32 p, .float .f32 q]) (by simp [results, Try.results44, go_sem, r0, r1]) rfl ⟨rfl, ?_⟩
  repeat (first | exact B2.out | exact Below.refl _ _ | refine Below.drew ?_ | refine Below.alloc ?_ (by first | (simp; done) | (simp; omega)) _ | refine Below.setCell ?_ (by first | (simp; done) | (simp; omega)) _)
set_option maxHeartbeats 1000000 in
theorem implIAbs_any (l h : Nat) (w : World) (pl : Pl l) (ph : Pl h) :
    Calls Try.prog 43 #[.agg #[.float .f32 l, .float .f32 h]] w fun e w' => e = .returned (.agg #[.float .f32 ((abL l h)), .float .f32 ((abH l h))]) ∧ Below w.heap.size w w' := by
  have g1 := ge32 l 0 pl.1 (by omega) pl.2.1 (by decide)
  have g2 := le32 h 0 ph.1 (by omega) ph.2.1 (by decide)
  rw [place32_zero] at g1 g2
  by_cases h1 : 0 ≤ place32 l
  · have e1 : abL l h = l := by unfold abL; rw [if_pos h1]
    have e2 : abH l h = h := by unfold abH; rw [if_pos h1]
    rw [e1, e2]
    rw [decide_eq_true h1] at g1
    clear h1 e1 e2 g2 pl ph
    have hst := store_float Try.prog
    go_enter Try.func43, Try.ntmps43
    go_wp2_with fail
    refine bodyPost_ret (v := .agg #[.float .f32 l, .float .f32 h]) (by simp [results, Try.results43, go_sem]) rfl ⟨rfl, ?_⟩
    repeat (first | exact Below.refl _ _ | refine Below.alloc ?_ (by first | (simp; done) | (simp; omega)) _ | refine Below.setCell ?_ (by first | (simp; done) | (simp; omega)) _)
  · by_cases h2 : place32 h ≤ 0
    · have e1 : abL l h = opp h := by unfold abL; rw [if_neg h1, if_pos h2]
      have e2 : abH l h = opp l := by unfold abH; rw [if_neg h1, if_pos h2]
      rw [e1, e2]
      rw [decide_eq_false h1] at g1
      rw [decide_eq_true h2] at g2
      have H1 : Hid (∀ w, _) := Lib.hid (fun w => implIOpp_any l h w pl ph)
      obtain ⟨p, hp⟩ : ∃ p, p = opp h := ⟨_, rfl⟩
      obtain ⟨q, hq⟩ : ∃ q, q = opp l := ⟨_, rfl⟩
      rw [← hp, ← hq] at H1 ⊢
      clear h1 h2 e1 e2 pl ph hp hq
      obtain ⟨w1, hw1, hp0, hr_, hB_⟩ := ib_1r w l h 26 26
      have P0_1 := Lib.hid hp0
      have R_1 := Lib.hid hr_
      have hst := store_float Try.prog
      have B1 := Lib.hid hB_
      have Hw := Lib.hid hw1
      clear hw1 hp0 hr_ hB_
      obtain ⟨⟨c00, c01⟩, c02⟩ := P0_1.out
      obtain ⟨⟨r0, r1, r2, r3⟩, r4⟩ := R_1.out
      go_enter Try.func43, Try.ntmps43
      go_wp2_with fail
      rw [← Hw.out]
      refine (H1.out _).mono ?_
      rintro e w2 ⟨rfl, hb⟩
      have B2 := Lib.hid (belNext B1.out hb)
      have P0_2 := Lib.hid (P0_1.out.next hb)
      have R_2 := Lib.hid (R_1.out.next hb)
      clear hb c00 c01 c02 r0 r1 r2 r3 r4
      obtain ⟨⟨c00, c01⟩, c02⟩ := P0_2.out
      obtain ⟨⟨r0, r1, r2, r3⟩, r4⟩ := R_2.out
      go_wp2_with fail
      refine bodyPost_ret (v := .agg #[.float .f32 p, .float .f32 q]) (by simp [results, Try.results43, go_sem, r0, r1]) rfl ⟨rfl, ?_⟩
      repeat (first | exact B2.out | exact Below.refl _ _ | refine Below.drew ?_ | refine Below.alloc ?_ (by first | (simp; done) | (simp; omega)) _ | refine Below.setCell ?_ (by first | (simp; done) | (simp; omega)) _)
    · have e1 : abL l h = 0 := by unfold abL; rw [if_neg h1, if_neg h2]
      have e2 : abH l h = mx (ng l) h := by unfold abH; rw [if_neg h1, if_neg h2]
      rw [e1, e2]
      rw [decide_eq_false h1] at g1
      rw [decide_eq_false h2] at g2
      have pn := ng_pl pl (by omega)
      have n1 := neg_op l pl.1
      have hmx : ∀ ts t w, (Builtin.max_ ts t #[.float .f32 (ng l), .float .f32 h]).run Try.prog w = .ok (.float .f32 (mx (ng l) h)) w := fun ts t w => run_max32 pn ph ts t w
      obtain ⟨q, hq⟩ : ∃ q, q = mx (ng l) h := ⟨_, rfl⟩
      rw [← hq] at hmx ⊢
      clear h1 h2 e1 e2 pl ph pn hq
      have hst := store_float Try.prog
      go_enter Try.func43, Try.ntmps43
      go_wp2_with fail
      refine bodyPost_ret (v := .agg #[.float .f32 0, .float .f32 q]) (by simp [results, Try.results43, go_sem]) rfl ⟨rfl, ?_⟩
      repeat (first | exact Below.refl _ _ | refine Below.alloc ?_ (by first | (simp; done) | (simp; omega)) _ | refine Below.setCell ?_ (by first | (simp; done) | (simp; omega)) _)
set_option maxHeartbeats 1000000 in
theorem specIAbs_any (l h : Nat) (w : World) (pl : Pl l) (ph : Pl h) :
    Calls Try.prog 41 #[.agg #[.float .f32 l, .float .f32 h]] w fun e w' => e = .returned (.agg #[.float .f32 ((abL l h)), .float .f32 ((abH l h))]) ∧ Below w.heap.size w w' := by
  have g1 := ge32 l 0 pl.1 (by omega) pl.2.1 (by decide)
  have g2 := le32 h 0 ph.1 (by omega) ph.2.1 (by decide)
  rw [place32_zero] at g1 g2
  by_cases h1 : 0 ≤ place32 l
  · have e1 : abL l h = l := by unfold abL; rw [if_pos h1]
    have e2 : abH l h = h := by unfold abH; rw [if_pos h1]
    rw [e1, e2]
    rw [decide_eq_true h1] at g1
    clear h1 e1 e2 g2 pl ph
    have hst := store_float Try.prog
    go_enter Try.func41, Try.ntmps41
    go_wp2_with fail
    refine bodyPost_ret (v := .agg #[.float .f32 l, .float .f32 h]) (by simp [results, Try.results41, go_sem]) rfl ⟨rfl, ?_⟩
    repeat (first | exact Below.refl _ _ | refine Below.alloc ?_ (by first | (simp; done) | (simp; omega)) _ | refine Below.setCell ?_ (by first | (simp; done) | (simp; omega)) _)
  · by_cases h2 : place32 h ≤ 0
    · have e1 : abL l h = opp h := by unfold abL; rw [if_neg h1, if_pos h2]
      have e2 : abH l h = opp l := by unfold abH; rw [if_neg h1, if_pos h2]
      rw [e1, e2]
      rw [decide_eq_false h1] at g1
      rw [decide_eq_true h2] at g2
      have H1 : Hid (∀ w, _) := Lib.hid (fun w => specINeg_any l h w pl ph)
      obtain ⟨p, hp⟩ : ∃ p, p = opp h := ⟨_, rfl⟩
      obtain ⟨q, hq⟩ : ∃ q, q = opp l := ⟨_, rfl⟩
      rw [← hp, ← hq] at H1 ⊢
      clear h1 h2 e1 e2 pl ph hp hq
      obtain ⟨w1, hw1, hp0, hr_, hB_⟩ := ib_1r w l h 26 26
      have P0_1 := Lib.hid hp0
      have R_1 := Lib.hid hr_
      have hst := store_float Try.prog
      have B1 := Lib.hid hB_
      have Hw := Lib.hid hw1
      clear hw1 hp0 hr_ hB_
      obtain ⟨⟨c00, c01⟩, c02⟩ := P0_1.out
      obtain ⟨⟨r0, r1, r2, r3⟩, r4⟩ := R_1.out
      go_enter Try.func41, Try.ntmps41
      go_wp2_with fail
      rw [← Hw.out]
      refine (H1.out _).mono ?_
      rintro e w2 ⟨rfl, hb⟩
      have B2 := Lib.hid (belNext B1.out hb)
      have P0_2 := Lib.hid (P0_1.out.next hb)
      have R_2 := Lib.hid (R_1.out.next hb)
      clear hb c00 c01 c02 r0 r1 r2 r3 r4
      obtain ⟨⟨c00, c01⟩, c02⟩ := P0_2.out
      obtain ⟨⟨r0, r1, r2, r3⟩, r4⟩ := R_2.out
      go_wp2_with fail
      refine bodyPost_ret (v := .agg #[.float .f32 p, .float .f32 q]) (by simp [results, Try.results41, go_sem, r0, r1]) rfl ⟨rfl, ?_⟩
      repeat (first | exact B2.out | exact Below.refl _ _ | refine Below.drew ?_ | refine Below.alloc ?_ (by first | (simp; done) | (simp; omega)) _ | refine Below.setCell ?_ (by first | (simp; done) | (simp; omega)) _)
    · have e1 : abL l h = 0 := by unfold abL; rw [if_neg h1, if_neg h2]
      have e2 : abH l h = mx (ng l) h := by unfold abH; rw [if_neg h1, if_neg h2]
      rw [e1, e2]
      rw [decide_eq_false h1] at g1
      rw [decide_eq_false h2] at g2
      have pn := ng_pl pl (by omega)
      have n1 := neg_op l pl.1
      have g3 := gt32 (ng l) h pn.1 ph.1 pn.2.1 ph.2.1
      have H1 : Hid (∀ b w, Pl b → Calls Try.prog 38 #[.float .f32 0, .float .f32 b] w fun e w' => e = .returned (.agg #[.float .f32 0, .float .f32 b]) ∧ Below w.heap.size w w') := Lib.hid (fun b w p => by
        have h := specMake_any 0 b w (by omega) p.1
        rw [wz_id p, wz_id Pl.zero] at h
        exact h)
      clear h1 h2 e1 e2
      have hq : (place32 h < place32 (ng l) ∧ mx (ng l) h = ng l) ∨ (¬ place32 h < place32 (ng l) ∧ mx (ng l) h = h) := by
        unfold mx
        rcases Int.lt_trichotomy (place32 (ng l)) (place32 h) with x | x | x
        · rw [if_pos x]; exact .inr ⟨by omega, rfl⟩
        · rw [if_neg (by omega)]; exact .inr ⟨by omega, pn.inj ph x⟩
        · rw [if_neg (by omega)]; exact .inl ⟨x, rfl⟩
      rcases hq with ⟨x, hq⟩ | ⟨x, hq⟩
      · rw [decide_eq_true x] at g3
        rw [hq]
        have H2 : Hid (∀ w, _) := Lib.hid (fun w => H1.out (ng l) w pn)
        clear x hq H1 pl ph pn
        obtain ⟨w1, hw1, hp0, hr_, hB_⟩ := ib_1r w l h 26 26
        have P0_1 := Lib.hid hp0
        have R_1 := Lib.hid hr_
        have hst := store_float Try.prog
        have B1 := Lib.hid hB_
        have Hw := Lib.hid hw1
        clear hw1 hp0 hr_ hB_
        obtain ⟨⟨c00, c01⟩, c02⟩ := P0_1.out
        obtain ⟨⟨r0, r1, r2, r3⟩, r4⟩ := R_1.out
        go_enter Try.func41, Try.ntmps41
        go_wp2_with fail
        try rw [← Hw.out]
        refine (H2.out _).mono ?_
        rintro e w2 ⟨rfl, hb⟩
        have B2 := Lib.hid (belNext B1.out hb)
        have P0_2 := Lib.hid (P0_1.out.next hb)
        have R_2 := Lib.hid (R_1.out.next hb)
        clear hb c00 c01 c02 r0 r1 r2 r3 r4
        obtain ⟨⟨c00, c01⟩, c02⟩ := P0_2.out
        obtain ⟨⟨r0, r1, r2, r3⟩, r4⟩ := R_2.out
        go_wp2_with fail
        refine bodyPost_ret (v := .agg #[.float .f32 0, .float .f32 ((ng l))]) (by simp [results, Try.results41, go_sem, r0, r1]) rfl ⟨rfl, ?_⟩
        repeat (first | exact B2.out | exact Below.refl _ _ | refine Below.drew ?_ | refine Below.alloc ?_ (by first | (simp; done) | (simp; omega)) _ | refine Below.setCell ?_ (by first | (simp; done) | (simp; omega)) _)
      · rw [decide_eq_false x] at g3
        rw [hq]
        have H2 : Hid (∀ w, _) := Lib.hid (fun w => H1.out h w ph)
        clear x hq H1 pl ph pn
        obtain ⟨w1, hw1, hp0, hr_, hB_⟩ := ib_1r w l h 26 26
        have P0_1 := Lib.hid hp0
        have R_1 := Lib.hid hr_
        have hst := store_float Try.prog
        have B1 := Lib.hid hB_
        have Hw := Lib.hid hw1
        clear hw1 hp0 hr_ hB_
        obtain ⟨⟨c00, c01⟩, c02⟩ := P0_1.out
        obtain ⟨⟨r0, r1, r2, r3⟩, r4⟩ := R_1.out
        go_enter Try.func41, Try.ntmps41
        go_wp2_with fail
        try rw [← Hw.out]
        refine (H2.out _).mono ?_
        rintro e w2 ⟨rfl, hb⟩
        have B2 := Lib.hid (belNext B1.out hb)
        have P0_2 := Lib.hid (P0_1.out.next hb)
        have R_2 := Lib.hid (R_1.out.next hb)
        clear hb c00 c01 c02 r0 r1 r2 r3 r4
        obtain ⟨⟨c00, c01⟩, c02⟩ := P0_2.out
        obtain ⟨⟨r0, r1, r2, r3⟩, r4⟩ := R_2.out
        go_wp2_with fail
        refine bodyPost_ret (v := .agg #[.float .f32 0, .float .f32 h]) (by simp [results, Try.results41, go_sem, r0, r1]) rfl ⟨rfl, ?_⟩
        repeat (first | exact B2.out | exact Below.refl _ _ | refine Below.drew ?_ | refine Below.alloc ?_ (by first | (simp; done) | (simp; omega)) _ | refine Below.setCell ?_ (by first | (simp; done) | (simp; omega)) _)
set_option maxHeartbeats 1000000 in
theorem implHull_any (l h l' h' : Nat) (w : World) (pl : Pl l) (ph : Pl h) (plq : Pl l') (phq : Pl h') :
    Calls Try.prog 49 #[.agg #[.float .f32 l, .float .f32 h], .agg #[.float .f32 l', .float .f32 h']] w fun e w' => e = .returned (.agg #[.float .f32 ((mn l l')), .float .f32 ((mx h h'))]) ∧ Below w.heap.size w w' := by
  have hmn : ∀ ts t w, (Builtin.min_ ts t #[.float .f32 l, .float .f32 l']).run Try.prog w = .ok (.float .f32 (mn l l')) w := fun ts t w => run_min32 pl plq ts t w
  have hmx : ∀ ts t w, (Builtin.max_ ts t #[.float .f32 h, .float .f32 h']).run Try.prog w = .ok (.float .f32 (mx h h')) w := fun ts t w => run_max32 ph phq ts t w
  clear pl ph plq phq
  obtain ⟨p, hp⟩ : ∃ p, p = mn l l' := ⟨_, rfl⟩
  obtain ⟨q, hq⟩ : ∃ q, q = mx h h' := ⟨_, rfl⟩
  rw [← hp] at hmn ⊢
  rw [← hq] at hmx ⊢
  clear hp hq
  have hst := store_float Try.prog
  go_enter Try.func49, Try.ntmps49
  go_wp2_with fail
  refine bodyPost_ret (v := .agg #[.float .f32 p, .float .f32 q]) (by simp [results, Try.results49, go_sem]) rfl ⟨rfl, ?_⟩
  repeat (first | exact Below.refl _ _ | refine Below.alloc ?_ (by first | (simp; done) | (simp; omega)) _ | refine Below.setCell ?_ (by first | (simp; done) | (simp; omega)) _)
set_option maxHeartbeats 1000000 in
theorem specHull_any (l h l' h' : Nat) (w : World) (pl : Pl l) (ph : Pl h) (plq : Pl l') (phq : Pl h') :
    Calls Try.prog 47 #[.agg #[.float .f32 l, .float .f32 h], .agg #[.float .f32 l', .float .f32 h']] w fun e w' => e = .returned (.agg #[.float .f32 ((mn l l')), .float .f32 ((mx h h'))]) ∧ Below w.heap.size w w' := by
  have f1 := lt32 l' l plq.1 pl.1 plq.2.1 pl.2.1
  have f2 := gt32 h' h phq.1 ph.1 phq.2.1 ph.2.1
  have hst := store_float Try.prog
  clear pl ph plq phq
  by_cases h1 : place32 l' < place32 l
  · rw [decide_eq_true h1] at f1
    have e1 : mn l l' = l' := by unfold mn; rw [if_pos h1]
    rw [e1]
    clear h1 e1
    by_cases h2 : place32 h < place32 h'
    · rw [decide_eq_true h2] at f2
      have e2 : mx h h' = h' := by unfold mx; rw [if_pos h2]
      rw [e2]
      clear h2 e2
      go_enter Try.func47, Try.ntmps47
      go_wp2_with fail
      refine bodyPost_ret (v := .agg #[.float .f32 l', .float .f32 h']) (by simp [results, Try.results47, go_sem]) rfl ⟨rfl, ?_⟩
      repeat (first | exact Below.refl _ _ | refine Below.alloc ?_ (by first | (simp; done) | (simp; omega)) _ | refine Below.setCell ?_ (by first | (simp; done) | (simp; omega)) _)
    · rw [decide_eq_false h2] at f2
      have e2 : mx h h' = h := by unfold mx; rw [if_neg h2]
      rw [e2]
      clear h2 e2
      go_enter Try.func47, Try.ntmps47
      go_wp2_with fail
      refine bodyPost_ret (v := .agg #[.float .f32 l', .float .f32 h]) (by simp [results, Try.results47, go_sem]) rfl ⟨rfl, ?_⟩
      repeat (first | exact Below.refl _ _ | refine Below.alloc ?_ (by first | (simp; done) | (simp; omega)) _ | refine Below.setCell ?_ (by first | (simp; done) | (simp; omega)) _)
  · rw [decide_eq_false h1] at f1
    have e1 : mn l l' = l := by unfold mn; rw [if_neg h1]
    rw [e1]
    clear h1 e1
    by_cases h2 : place32 h < place32 h'
    · rw [decide_eq_true h2] at f2
      have e2 : mx h h' = h' := by unfold mx; rw [if_pos h2]
      rw [e2]
      clear h2 e2
      go_enter Try.func47, Try.ntmps47
      go_wp2_with fail
      refine bodyPost_ret (v := .agg #[.float .f32 l, .float .f32 h']) (by simp [results, Try.results47, go_sem]) rfl ⟨rfl, ?_⟩
      repeat (first | exact Below.refl _ _ | refine Below.alloc ?_ (by first | (simp; done) | (simp; omega)) _ | refine Below.setCell ?_ (by first | (simp; done) | (simp; omega)) _)
    · rw [decide_eq_false h2] at f2
      have e2 : mx h h' = h := by unfold mx; rw [if_neg h2]
      rw [e2]
      clear h2 e2
      go_enter Try.func47, Try.ntmps47
      go_wp2_with fail
      refine bodyPost_ret (v := .agg #[.float .f32 l, .float .f32 h]) (by simp [results, Try.results47, go_sem]) rfl ⟨rfl, ?_⟩
      repeat (first | exact Below.refl _ _ | refine Below.alloc ?_ (by first | (simp; done) | (simp; omega)) _ | refine Below.setCell ?_ (by first | (simp; done) | (simp; omega)) _)
set_option maxHeartbeats 1000000 in
theorem implOrder_any (l h l' h' : Nat) (w : World) (pl : Pl l) (ph : Pl h) (plq : Pl l') (phq : Pl h') :
    Calls Try.prog 51 #[.agg #[.float .f32 l, .float .f32 h], .agg #[.float .f32 l', .float .f32 h']] w fun e w' => e = .returned (.int .i64 (ordI l h l' h')) ∧ Below w.heap.size w w' := by
  have f1 := lt32 h l' ph.1 plq.1 ph.2.1 plq.2.1
  have f2 := gt32 l h' pl.1 phq.1 pl.2.1 phq.2.1
  clear pl ph plq phq
  by_cases h1 : place32 h < place32 l'
  · have e1 : ordI l h l' h' = -1 := by unfold ordI; rw [if_pos h1]
    rw [decide_eq_true h1] at f1
    rw [e1]
    clear h1 e1 f2
    obtain ⟨w1, hw1, hp0, hp1, hB_⟩ := ib_2 w l h l' h' 26
    have P0_1 := Lib.hid hp0
    have P1_1 := Lib.hid hp1
    have hst := store_float Try.prog
    have B1 := Lib.hid hB_
    have Hw := Lib.hid hw1
    clear hw1 hp0 hp1 hB_
    obtain ⟨⟨c00, c01⟩, c02⟩ := P0_1.out
    obtain ⟨⟨c10, c11⟩, c12⟩ := P1_1.out
    go_enter Try.func51, Try.ntmps51
    go_wp2_with fail
    try rw [← Hw.out]
    go_ret
    exact ⟨rfl, B1.out⟩
  · rw [decide_eq_false h1] at f1
    by_cases h2 : place32 h' < place32 l
    · have e1 : ordI l h l' h' = 1 := by unfold ordI; rw [if_neg h1, if_pos h2]
      rw [decide_eq_true h2] at f2
      rw [e1]
      clear h1 h2 e1
      obtain ⟨w1, hw1, hp0, hp1, hB_⟩ := ib_2 w l h l' h' 26
      have P0_1 := Lib.hid hp0
      have P1_1 := Lib.hid hp1
      have hst := store_float Try.prog
      have B1 := Lib.hid hB_
      have Hw := Lib.hid hw1
      clear hw1 hp0 hp1 hB_
      obtain ⟨⟨c00, c01⟩, c02⟩ := P0_1.out
      obtain ⟨⟨c10, c11⟩, c12⟩ := P1_1.out
      go_enter Try.func51, Try.ntmps51
      go_wp2_with fail
      try rw [← Hw.out]
      go_ret
      exact ⟨rfl, B1.out⟩
    · have e1 : ordI l h l' h' = 0 := by unfold ordI; rw [if_neg h1, if_neg h2]
      rw [decide_eq_false h2] at f2
      rw [e1]
      clear h1 h2 e1
      obtain ⟨w1, hw1, hp0, hp1, hB_⟩ := ib_2 w l h l' h' 26
      have P0_1 := Lib.hid hp0
      have P1_1 := Lib.hid hp1
      have hst := store_float Try.prog
      have B1 := Lib.hid hB_
      have Hw := Lib.hid hw1
      clear hw1 hp0 hp1 hB_
      obtain ⟨⟨c00, c01⟩, c02⟩ := P0_1.out
      obtain ⟨⟨c10, c11⟩, c12⟩ := P1_1.out
      go_enter Try.func51, Try.ntmps51
      go_wp2_with fail
      try rw [← Hw.out]
      go_ret
      exact ⟨rfl, B1.out⟩
set_option maxHeartbeats 1000000 in
theorem specPart_any (l h l' h' : Nat) (w : World) (pl : Pl l) (ph : Pl h) (plq : Pl l') (phq : Pl h') :
    Calls Try.prog 52 #[.agg #[.float .f32 l, .float .f32 h], .agg #[.float .f32 l', .float .f32 h']] w fun e w' => e = .returned (.bool (decide (place32 l' ≤ place32 l) && decide (place32 h ≤ place32 h'))) ∧ Below w.heap.size w w' := by
  have f1 := le32 l' l plq.1 pl.1 plq.2.1 pl.2.1
  have f2 := le32 h h' ph.1 phq.1 ph.2.1 phq.2.1
  obtain ⟨y1, hy1⟩ : ∃ y, y = decide (place32 l' ≤ place32 l) := ⟨_, rfl⟩
  obtain ⟨y2, hy2⟩ : ∃ y, y = decide (place32 h ≤ place32 h') := ⟨_, rfl⟩
  rw [← hy1] at f1 ⊢
  rw [← hy2] at f2 ⊢
  clear pl ph plq phq hy1 hy2
  cases y1
  · skip
    obtain ⟨w1, hw1, hp0, hp1, hB_⟩ := ib_2 w l h l' h' 26
    have P0_1 := Lib.hid hp0
    have P1_1 := Lib.hid hp1
    have hst := store_float Try.prog
    have B1 := Lib.hid hB_
    have Hw := Lib.hid hw1
    clear hw1 hp0 hp1 hB_
    obtain ⟨⟨c00, c01⟩, c02⟩ := P0_1.out
    obtain ⟨⟨c10, c11⟩, c12⟩ := P1_1.out
    go_enter Try.func52, Try.ntmps52
    go_wp2_with fail
    try rw [← Hw.out]
    go_ret
    exact ⟨ret_boolI (by simp), B1.out⟩
  · skip
    obtain ⟨w1, hw1, hp0, hp1, hB_⟩ := ib_2 w l h l' h' 26
    have P0_1 := Lib.hid hp0
    have P1_1 := Lib.hid hp1
    have hst := store_float Try.prog
    have B1 := Lib.hid hB_
    have Hw := Lib.hid hw1
    clear hw1 hp0 hp1 hB_
    obtain ⟨⟨c00, c01⟩, c02⟩ := P0_1.out
    obtain ⟨⟨c10, c11⟩, c12⟩ := P1_1.out
    go_enter Try.func52, Try.ntmps52
    go_wp2_with fail
    try rw [← Hw.out]
    go_ret
    exact ⟨ret_boolI (by simp), B1.out⟩
set_option maxHeartbeats 1000000 in
theorem implHas_any (l h x : Nat) (w : World) (pl : Pl l) (ph : Pl h) (hx : x < 4294967296) (nx : nan32 x = false) :
    Calls Try.prog 56 #[.agg #[.float .f32 l, .float .f32 h], .float .f32 x] w fun e w' => e = .returned (.bool (decide (place32 l ≤ place32 x) && decide (place32 x ≤ place32 h))) ∧ Below w.heap.size w w' := by
  have f1 := le32 l x pl.1 hx pl.2.1 nx
  have f2 := le32 x h hx ph.1 nx ph.2.1
  obtain ⟨y1, hy1⟩ : ∃ y, y = decide (place32 l ≤ place32 x) := ⟨_, rfl⟩
  obtain ⟨y2, hy2⟩ : ∃ y, y = decide (place32 x ≤ place32 h) := ⟨_, rfl⟩
  rw [← hy1] at f1 ⊢
  rw [← hy2] at f2 ⊢
  clear pl ph hx nx hy1 hy2
  cases y1
  · skip
    obtain ⟨w1, hw1, hp0, hB_⟩ := ib_1 w l h 26
    have P0_1 := Lib.hid hp0
    have hst := store_float Try.prog
    have B1 := Lib.hid hB_
    have Hw := Lib.hid hw1
    clear hw1 hp0 hB_
    obtain ⟨⟨c00, c01⟩, c02⟩ := P0_1.out
    go_enter Try.func56, Try.ntmps56
    go_wp2_with fail
    try rw [← Hw.out]
    go_ret
    exact ⟨ret_boolI (by simp), B1.out⟩
  · skip
    obtain ⟨w1, hw1, hp0, hB_⟩ := ib_1 w l h 26
    have P0_1 := Lib.hid hp0
    have hst := store_float Try.prog
    have B1 := Lib.hid hB_
    have Hw := Lib.hid hw1
    clear hw1 hp0 hB_
    obtain ⟨⟨c00, c01⟩, c02⟩ := P0_1.out
    go_enter Try.func56, Try.ntmps56
    go_wp2_with fail
    try rw [← Hw.out]
    go_ret
    exact ⟨ret_boolI (by simp), B1.out⟩
set_option maxHeartbeats 1000000 in
theorem specHas_any (l h x : Nat) (w : World) (pl : Pl l) (ph : Pl h) (hx : x < 4294967296) (nx : nan32 x = false) :
    Calls Try.prog 54 #[.agg #[.float .f32 l, .float .f32 h], .float .f32 x] w fun e w' => e = .returned (.bool (decide (place32 l ≤ place32 x) && decide (place32 x ≤ place32 h))) ∧ Below w.heap.size w w' := by
  have f1 := le32 l x pl.1 hx pl.2.1 nx
  have f2 := le32 x h hx ph.1 nx ph.2.1
  obtain ⟨y1, hy1⟩ : ∃ y, y = decide (place32 l ≤ place32 x) := ⟨_, rfl⟩
  obtain ⟨y2, hy2⟩ : ∃ y, y = decide (place32 x ≤ place32 h) := ⟨_, rfl⟩
  rw [← hy1] at f1 ⊢
  rw [← hy2] at f2 ⊢
  clear pl ph hx nx hy1 hy2
  cases y1
  · skip
    obtain ⟨w1, hw1, hp0, hB_⟩ := ib_1 w l h 26
    have P0_1 := Lib.hid hp0
    have hst := store_float Try.prog
    have B1 := Lib.hid hB_
    have Hw := Lib.hid hw1
    clear hw1 hp0 hB_
    obtain ⟨⟨c00, c01⟩, c02⟩ := P0_1.out
    go_enter Try.func54, Try.ntmps54
    go_wp2_with fail
    try rw [← Hw.out]
    go_ret
    exact ⟨ret_boolI (by simp), B1.out⟩
  · skip
    obtain ⟨w1, hw1, hp0, hB_⟩ := ib_1 w l h 26
    have P0_1 := Lib.hid hp0
    have hst := store_float Try.prog
    have B1 := Lib.hid hB_
    have Hw := Lib.hid hw1
    clear hw1 hp0 hB_
    obtain ⟨⟨c00, c01⟩, c02⟩ := P0_1.out
    go_enter Try.func54, Try.ntmps54
    go_wp2_with fail
    try rw [← Hw.out]
    go_ret
    exact ⟨ret_boolI (by simp), B1.out⟩
set_option maxHeartbeats 1000000 in
theorem implWid_any (l h : Nat) (w : World) (pl : Pl l) (ph : Pl h) :
    Calls Try.prog 58 #[.agg #[.float .f32 l, .float .f32 h]] w fun e w' => e = .returned (.agg #[.float .f32 ((at32 (beside l (-1)))), .float .f32 ((at32 (beside h 1)))]) ∧ Below w.heap.size w w' := by
  have H1 : Hid (∀ w, _) := Lib.hid (fun w => implDown_yes l w pl.1 pl.2.1)
  have H2 : Hid (∀ w, _) := Lib.hid (fun w => implUp_yes h w ph.1 ph.2.1)
  obtain ⟨a, ha⟩ : ∃ a, a = at32 (beside l (-1)) := ⟨_, rfl⟩
  obtain ⟨b, hb⟩ : ∃ b, b = at32 (beside h 1) := ⟨_, rfl⟩
  rw [← ha] at H1 ⊢
  rw [← hb] at H2 ⊢
  clear pl ph ha hb
  obtain ⟨w1, hw1, hp0, hr_, hB_⟩ := ib_1r w l h 26 26
  have P0_1 := Lib.hid hp0
  have R_1 := Lib.hid hr_
  have hst := store_float Try.prog
  have B1 := Lib.hid hB_
  have Hw := Lib.hid hw1
  clear hw1 hp0 hr_ hB_
  obtain ⟨⟨c00, c01⟩, c02⟩ := P0_1.out
  obtain ⟨⟨r0, r1, r2, r3⟩, r4⟩ := R_1.out
  go_enter Try.func58, Try.ntmps58
  go_wp2_with fail
  rw [← Hw.out]
  refine (H1.out _).mono ?_
  rintro e w9 ⟨rfl, rfl⟩
  go_wp2_with fail
  refine (H2.out _).mono ?_
  rintro e w9 ⟨rfl, rfl⟩
  go_wp2_with fail
  refine bodyPost_ret (v := .agg #[.float .f32 a, .float .f32 b]) (by simp [results, Try.results58, go_sem, r0, r1]) rfl ⟨rfl, ?_⟩
  repeat (first | exact B1.out | exact Below.refl _ _ | refine Below.drew ?_ | refine Below.alloc ?_ (by first | (simp; done) | (simp; omega)) _ | refine Below.setCell ?_ (by first | (simp; done) | (simp; omega)) _)
end Go.Proofs.Ytlhdlomabgoadaa
