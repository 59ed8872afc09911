/- Texts of this seat, joined: Qd Qe -/
import Derived.Test.YtcjamfoiilgfoaaGreatDoorG11
import Derived.Test.YtcjamfoiilgfoaaGreatDoorG9
/- Quotients of floats, of the model and of the program. -/
namespace Go.Proofs.YtcjamfoiilgfoaaGreatDoor
set_option maxRecDepth 100000
open Go.RowKit
set_option linter.unusedSimpArgs false
set_option linter.unusedVariables false
attribute [local go_sem ↓] Go.wp_at_zero Go.wp_at_succ

theorem k_big {z z' : Int} {k : Nat} (h : z ≠ 0) (h' : z' ≠ 0) (hb : blen z.natAbs ≤ 24) (hk : (k : Int) = 64 + (blen z'.natAbs : Int) - blen z.natAbs) : 0 < qN z k / qD z' k := by
  obtain ⟨m, rfl⟩ : ∃ m, k = m + 39 := ⟨k - 39, by omega⟩
  have hbig := ov_big (m := m) h h' (by omega)
  have h1 : qN z m ≤ qN z ((m + 39 : Nat) : Int) := by rw [qN_up, qN_up]; exact Nat.mul_le_mul_right _ (Nat.pow_le_pow_right (by omega) (by omega))
  have h2 : qD z' ((m + 39 : Nat) : Int) = qD z' m := by rw [qD_up, qD_up]
  rw [h2]
  have := Nat.div_le_div_right (c := qD z' m) h1
  omega
theorem quo_small {z z' : Int} {n nq k : Nat} (h0 : z ≠ 0) (h0' : z' ≠ 0) (e : (limbs (z.sign * z'.sign * ((qN z k / qD z' k : Nat) : Int)).natAbs).length = nq) (hn : (limbs z.natAbs).length = n) (hm : (n : Int) ≤ 1) (hk : (k : Int) ≤ 88) : (nq : Int) ≤ 10 := by
  have key : ∀ s : Int, (s = 1 ∨ s = -1) → ∀ a b : Nat, a ≤ b → (s * (a : Int)).natAbs ≤ b := by
    intro s hs a b h
    rcases hs with rfl | rfl <;> omega
  have h2 := limbs_len_mono (key _ (sgn2 h0 h0') _ _ (Nat.div_le_self (qN z k) (qD z' k)))
  rw [e, qN_up] at h2
  have h3 := shl_len hn k
  omega
theorem mk_dv {z z' : Int} {k : Nat} (h : z ≠ 0) (h' : z' ≠ 0) (hq : 0 < qN z k / qD z' k) : mkV (z.sign * z'.sign * ((qN z k / qD z' k : Nat) : Int)) (decide (¬ qN z k % qD z' k = 0)) = dvV z z' k := by
  unfold mkV dvV qk
  have hG := sgn2 h h'
  by_cases h0 : qN z k % qD z' k = 0
  · rw [if_pos h0, if_neg (by simp [h0]), Nat.add_zero, Int.natCast_mul, Int.mul_left_comm, Int.add_zero]; rfl
  · rw [if_neg h0, if_pos (by simp [h0])]
    rcases hG with g | g
    · rw [g, Int.one_mul, Int.one_mul, Int.sign_eq_one_of_pos (by omega)]; omega
    · rw [g, Int.sign_eq_neg_one_of_neg (by omega)]; omega
theorem DBox.st_1 {w : World} {b b' n n' c c' : Nat} {S S' E : Int} {A A' : Option Addr} (h : DBox w b S A n c E) (hne : b ≠ b') : DBox (st w b' S' A' n' c') b S A n c E :=
  ⟨⟨(World.cell?_of_block (a := ⟨b, 0, none⟩) (st_heap hne)).trans h.1.1, (World.cell?_of_block (a := ⟨b, 1, none⟩) (st_heap hne)).trans h.1.2.1, (World.cell?_of_block (a := ⟨b, 2, none⟩) (st_heap hne)).trans h.1.2.2⟩, by rw [st_size]; exact h.2⟩
set_option maxHeartbeats 16000000 in
theorem specRatio_any (z S E z' S' E' : Int) (A A' : Option Addr) (n c n' c' k : Nat) (w : World) (hz : ZV w z S A n c) (hz' : ZV w z' S' A' n' c') (h0 : z ≠ 0) (h0' : z' ≠ 0) (hm : (n : Int) ≤ 1) (hm' : (n' : Int) ≤ 1) (h1 : -400 ≤ E) (h2 : E ≤ 400) (h3 : -400 ≤ E') (h4 : E' ≤ 400) (hk : (k : Int) = 64 + (blen z'.natAbs : Int) - blen z.natAbs) :
    Calls Tryz.prog 88 #[.agg #[.int .i64 S, .slice A n c, .int .i64 E], .agg #[.int .i64 S', .slice A' n' c', .int .i64 E']] w fun e w' => ∃ Sr Ar nr cr, e = .returned (.agg #[.int .i64 Sr, .slice Ar nr cr, .int .i64 (nx (dvV z z' k) (E - k - E' - 1))]) ∧ ZO w' w.heap.size w'.heap.size (nz (dvV z z' k)) Sr Ar nr cr ∧ Below w.heap.size w w' := by
  have hst := store_int Tryz.prog
  have hst2 := store_slice Tryz.prog
  obtain ⟨w1, hw1, hb1, hb2, hb3, hb4⟩ := dbox2_res w S S' A A' n n' c c' E E' 30 30 30
  have RsD1 := Lib.hid hb3
  have Hlt : Hid (w.heap.size + 1 + 1 < w1.heap.size) := Lib.hid hb3.2
  have Zv1 := Lib.hid (hz.next hb4)
  have Zw1 := Lib.hid (hz'.next hb4)
  have Hw := Lib.hid hw1
  have Bx1 := Lib.hid hb1
  have By1 := Lib.hid hb2
  have Bel1 := Lib.hid hb4
  have Hn : Hid ((limbs z.natAbs).length = n) := Lib.hid hz.2.1
  have Hn' : Hid ((limbs z'.natAbs).length = n') := Lib.hid hz'.2.1
  have Hm : Hid ((n : Int) ≤ 1 ∧ (n' : Int) ≤ 1) := Lib.hid ⟨hm, hm'⟩
  have H0 := Lib.hid (And.intro h0 h0')
  have HS : Hid (S = z.sign ∧ S' = z'.sign) := Lib.hid ⟨hz.1, hz'.1⟩
  have hblz : blen z.natAbs ≤ 24 := by have h := blen_bound hz.2.1; omega
  have Hbig := Lib.hid (k_big h0 h0' hblz hk)
  obtain ⟨bl, hbl⟩ : ∃ bl, bl = blen z.natAbs := ⟨_, rfl⟩
  obtain ⟨bl', hbl'⟩ : ∃ bl', bl' = blen z'.natAbs := ⟨_, rfl⟩
  have hblb : (bl : Int) ≤ 24 := by omega
  have hblb' : (bl' : Int) ≤ 24 := by have h := blen_bound hz'.2.1; omega
  rw [← hbl, ← hbl'] at hk
  have Hbl := Lib.hid hbl
  have Hbl' := Lib.hid hbl'
  have hkk : 64 + (bl' : Int) - (bl : Int) = (k : Int) := hk.symm
  have hk1 : (k : Int) ≤ 88 := by omega
  have hk0 : 0 < k := by omega
  clear hz hz' hw1 hb1 hb2 hb3 hb4 hm hm' h0 h0' hbl hbl' hk hblz
  go_enter Tryz.func88, Tryz.ntmps88
  go_wp2_with fail
  rw [← Hw.out]
  obtain ⟨⟨hBx0, hBx1, hBx2⟩, hBx3⟩ := Bx1.out
  obtain ⟨⟨hBy0, hBy1, hBy2⟩, hBy3⟩ := By1.out
  obtain ⟨⟨hRsD0, hRsD1, hRsD2, hRsD3, hRsD4, hRsD5⟩, hRsD6⟩ := RsD1.out
  have hwr1 : IntKind.i64.wrap (64 + (bl' : Int)) = 64 + (bl' : Int) := IntWalk.i64_in _ (by omega)
  have hwr2 : IntKind.i64.wrap (k : Int) = k := IntWalk.i64_in _ (by omega)
  have hwr3 : IntKind.i64.wrap (64 + (bl' : Int) - (bl : Int)) = k := by rw [hkk]; exact hwr2
  refine wp_region_held_drew (S := fun w' => (w'.cell? ⟨w.heap.size, 0, none⟩ = some (.int .i64 S) ∧ w'.cell? ⟨w.heap.size, 1, none⟩ = some (.slice A n c) ∧ w'.cell? ⟨w.heap.size, 2, none⟩ = some (.int .i64 E)) ∧ (w'.cell? ⟨w.heap.size + 1, 0, none⟩ = some (.int .i64 S') ∧ w'.cell? ⟨w.heap.size + 1, 1, none⟩ = some (.slice A' n' c') ∧ w'.cell? ⟨w.heap.size + 1, 2, none⟩ = some (.int .i64 E'))) (by kernel_rfl) ⟨Bx1.out.1, By1.out.1⟩ (fun hHeld => ?_)
  clear hBx0 hBx1 hBx2 hBx3 hBy0 hBy1 hBy2 hBy3 hRsD0 hRsD1 hRsD2 hRsD3 hRsD4 hRsD5 hRsD6
  refine wpAnyH_take (i := 0) (v := ?_) rfl (by kernel_rfl) (by kernel_rfl) (by kernel_rfl) (fun _ _ _ h => h) (Or.inl ⟨by rfl, ?_⟩) (by assumption) ?_
  rotate_left
  · (intro w hSw; (try dsimp only at hSw); go_simp; (try with_reducible rfl))
  try simp only [Act.put, List.setIfInBounds_toArray, List.set_cons_zero, List.set_cons_succ, List.getElem_toArray, List.getElem_cons_succ, List.getElem_cons_zero]
  refine wpAnyH_take (i := 1) (v := ?_) rfl (by kernel_rfl) (by kernel_rfl) (by kernel_rfl) (fun _ _ _ h => h) (Or.inl ⟨by rfl, ?_⟩) (by assumption) ?_
  rotate_left
  · (intro w hSw; (try dsimp only at hSw); go_simp; (try with_reducible rfl))
  try simp only [Act.put, List.setIfInBounds_toArray, List.set_cons_zero, List.set_cons_succ, List.getElem_toArray, List.getElem_cons_succ, List.getElem_cons_zero]
  refine wpAnyH_take (i := 4) (v := ?_) rfl (by kernel_rfl) (by kernel_rfl) (by kernel_rfl) (fun _ _ _ h => h) (Or.inl ⟨by rfl, ?_⟩) (by assumption) ?_
  rotate_left
  · (intro w hSw; (try dsimp only at hSw); go_simp; (try with_reducible rfl))
  try simp only [Act.put, List.setIfInBounds_toArray, List.set_cons_zero, List.set_cons_succ, List.getElem_toArray, List.getElem_cons_succ, List.getElem_cons_zero]
  refine wpAnyH_take (i := 5) (v := ?_) rfl (by kernel_rfl) (by kernel_rfl) (by kernel_rfl) (fun _ _ _ h => h) (Or.inl ⟨by rfl, ?_⟩) (by assumption) ?_
  rotate_left
  · (intro w hSw; (try dsimp only at hSw); go_simp; (try with_reducible rfl))
  try simp only [Act.put, List.setIfInBounds_toArray, List.set_cons_zero, List.set_cons_succ, List.getElem_toArray, List.getElem_cons_succ, List.getElem_cons_zero]
  refine wpAnyH_ready (rs := [2]) (by kernel_rfl) (by simp) ?_
  refine AllReadyH.cons rfl (fun K hK => ?_) AllReadyH.nil
  go_simp
  refine (specLen_any S' z'.natAbs A' n' c' _ w1.drew Zw1.out.rd (Nat.le_refl _) Hn'.out (by have := Hm.out; omega)).mono ?_
  rintro e w2 ⟨rfl, hb0⟩
  have hb : Below w1.heap.size w1 w2 := belDrew hb0
  rw [← Hbl'.out]
  refine hK.out _ _ ⟨(Bx1.out.next hb).1, (By1.out.next hb).1⟩ (fun hHeld => ?_)
  clear hK K hb0
  have Sz2 := Lib.hid (Below.size hb)
  have Bel2 := Lib.hid (belNext Bel1.out hb)
  have Bx2 := Lib.hid (Bx1.out.next hb)
  have By2 := Lib.hid (By1.out.next hb)
  have RsD2 := Lib.hid (RsD1.out.next hb)
  have Zv2 := Lib.hid (Zv1.out.next hb)
  have Zw2 := Lib.hid (Zw1.out.next hb)
  clear hb Bel1 Bx1 By1 RsD1 Zv1 Zw1
  try simp only [Act.put, List.setIfInBounds_toArray, List.set_cons_zero, List.set_cons_succ, List.getElem_toArray, List.getElem_cons_succ, List.getElem_cons_zero]
  refine wpAnyH_take (i := 3) (v := ?_) rfl (by kernel_rfl) (by kernel_rfl) (by kernel_rfl) (fun _ _ _ h => h) (Or.inl ⟨by rfl, ?_⟩) (by assumption) ?_
  rotate_left
  · (intro w hSw; (try dsimp only at hSw); go_simp; (try with_reducible rfl))
  try simp only [Act.put, List.setIfInBounds_toArray, List.set_cons_zero, List.set_cons_succ, List.getElem_toArray, List.getElem_cons_succ, List.getElem_cons_zero]
  refine wpAnyH_ready (rs := [6]) (by kernel_rfl) (by simp) ?_
  refine AllReadyH.cons rfl (fun K hK => ?_) AllReadyH.nil
  go_simp
  refine (specLen_any S z.natAbs A n c _ w2 Zv2.out.rd (Nat.le_refl _) Hn.out (by have := Hm.out; omega)).mono ?_
  rintro e w3 ⟨rfl, hb0⟩
  have hb : Below w2.heap.size w2 w3 := hb0
  rw [← Hbl.out]
  refine hK.out _ _ ⟨(Bx2.out.next hb).1, (By2.out.next hb).1⟩ (fun hHeld => ?_)
  clear hK K hb0
  have Sz3 := Lib.hid (Below.size hb)
  have Bel3 := Lib.hid (belNext Bel2.out hb)
  have Bx3 := Lib.hid (Bx2.out.next hb)
  have By3 := Lib.hid (By2.out.next hb)
  have RsD3 := Lib.hid (RsD2.out.next hb)
  have Zv3 := Lib.hid (Zv2.out.next hb)
  have Zw3 := Lib.hid (Zw2.out.next hb)
  clear hb Bel2 Bx2 By2 RsD2 Zv2 Zw2
  try simp only [Act.put, List.setIfInBounds_toArray, List.set_cons_zero, List.set_cons_succ, List.getElem_toArray, List.getElem_cons_succ, List.getElem_cons_zero]
  refine wpAnyH_take (i := 7) (v := ?_) rfl (by kernel_rfl) (by kernel_rfl) (by kernel_rfl) (fun _ _ _ h => h) (Or.inl ⟨by rfl, ?_⟩) (by assumption) ?_
  rotate_left
  · (intro w hSw; (try dsimp only at hSw); go_simp; (try with_reducible rfl))
  try simp only [Act.put, List.setIfInBounds_toArray, List.set_cons_zero, List.set_cons_succ, List.getElem_toArray, List.getElem_cons_succ, List.getElem_cons_zero]
  refine wpAnyH_ready (rs := [8]) (by kernel_rfl) (by simp) ?_
  refine AllReadyH.cons rfl (fun K hK => ?_) AllReadyH.nil
  go_simp
  refine hK.out _ _ hHeld (fun hHeld => ?_)
  clear hK K
  try simp only [Act.put, List.setIfInBounds_toArray, List.set_cons_zero, List.set_cons_succ, List.getElem_toArray, List.getElem_cons_succ, List.getElem_cons_zero]
  refine wpAnyH_ready (rs := [9]) (by kernel_rfl) (by simp) ?_
  refine AllReadyH.cons rfl (fun K hK => ?_) AllReadyH.nil
  go_simp
  refine hK.out _ _ hHeld (fun hHeld => ?_)
  clear hK K
  try simp only [Act.put, List.setIfInBounds_toArray, List.set_cons_zero, List.set_cons_succ, List.getElem_toArray, List.getElem_cons_succ, List.getElem_cons_zero]
  clear hHeld
  refine wpAnyH_done (by kernel_rfl) ?_ _
  clear hwr1 hwr2 hwr3 hkk
  obtain ⟨⟨hBx0, hBx1, hBx2⟩, hBx3⟩ := Bx3.out
  obtain ⟨⟨hBy0, hBy1, hBy2⟩, hBy3⟩ := By3.out
  obtain ⟨⟨hRsD0, hRsD1, hRsD2, hRsD3, hRsD4, hRsD5⟩, hRsD6⟩ := RsD3.out
  go_wp2_with fail
  go_cut [6, 7] from 17 to 26 (fun t6 t7 wx => ∃ (bq br : Nat) (Sq : Int) (Aq : Option Addr) (nq cq : Nat) (Sr : Int) (Ar : Option Addr) (nr cr : Nat), t6 = .pointer (some ⟨bq, 0, none⟩) ∧ t7 = .pointer (some ⟨br, 0, none⟩) ∧ Box wx bq Sq Aq nq cq ∧ Box wx br Sr Ar nr cr ∧ ZV wx (z.sign * z'.sign * ((qN z k / qD z' k : Nat) : Int)) Sq Aq nq cq ∧ Sr = (z.sign * ((qN z k % qD z' k : Nat) : Int)).sign ∧ Below w3.heap.size w3 wx)
  case first =>
    have BelC3 : Hid (Below w3.heap.size w3 w3) := Lib.hid (Below.refl _ _)
    refine wp_region_held_drew (S := fun w' => (w'.cell? ⟨w.heap.size, 0, none⟩ = some (.int .i64 S) ∧ w'.cell? ⟨w.heap.size, 1, none⟩ = some (.slice A n c) ∧ w'.cell? ⟨w.heap.size, 2, none⟩ = some (.int .i64 E)) ∧ (w'.cell? ⟨w.heap.size + 1, 0, none⟩ = some (.int .i64 S') ∧ w'.cell? ⟨w.heap.size + 1, 1, none⟩ = some (.slice A' n' c') ∧ w'.cell? ⟨w.heap.size + 1, 2, none⟩ = some (.int .i64 E'))) (by kernel_rfl) ⟨Bx3.out.1, By3.out.1⟩ (fun hHeld => ?_)
    clear hBx0 hBx1 hBx2 hBx3 hBy0 hBy1 hBy2 hBy3 hRsD0 hRsD1 hRsD2 hRsD3 hRsD4 hRsD5 hRsD6
    refine wpAnyH_take (i := 0) (v := ?_) rfl (by kernel_rfl) (by kernel_rfl) (by kernel_rfl) (fun _ _ _ h => h) (Or.inl ⟨by rfl, ?_⟩) (by assumption) ?_
    rotate_left
    · (intro w hSw; (try dsimp only at hSw); go_simp; (try with_reducible rfl))
    try simp only [Act.put, List.setIfInBounds_toArray, List.set_cons_zero, List.set_cons_succ, List.getElem_toArray, List.getElem_cons_succ, List.getElem_cons_zero]
    refine wpAnyH_take (i := 1) (v := ?_) rfl (by kernel_rfl) (by kernel_rfl) (by kernel_rfl) (fun _ _ _ h => h) (Or.inl ⟨by rfl, ?_⟩) (by assumption) ?_
    rotate_left
    · (intro w hSw; (try dsimp only at hSw); go_simp; (try with_reducible rfl))
    try simp only [Act.put, List.setIfInBounds_toArray, List.set_cons_zero, List.set_cons_succ, List.getElem_toArray, List.getElem_cons_succ, List.getElem_cons_zero]
    refine wpAnyH_take (i := 2) (v := ?_) rfl (by kernel_rfl) (by kernel_rfl) (by kernel_rfl) (fun _ _ _ h => h) (Or.inl ⟨by rfl, ?_⟩) (by assumption) ?_
    rotate_left
    · (intro w hSw; (try dsimp only at hSw); go_simp; (try with_reducible rfl))
    try simp only [Act.put, List.setIfInBounds_toArray, List.set_cons_zero, List.set_cons_succ, List.getElem_toArray, List.getElem_cons_succ, List.getElem_cons_zero]
    refine wpAnyH_take (i := 4) (v := ?_) rfl (by kernel_rfl) (by kernel_rfl) (by kernel_rfl) (fun _ _ _ h => h) (Or.inl ⟨by rfl, ?_⟩) (by assumption) ?_
    rotate_left
    · (intro w hSw; (try dsimp only at hSw); go_simp; (try with_reducible rfl))
    try simp only [Act.put, List.setIfInBounds_toArray, List.set_cons_zero, List.set_cons_succ, List.getElem_toArray, List.getElem_cons_succ, List.getElem_cons_zero]
    refine wpAnyH_take (i := 5) (v := ?_) rfl (by kernel_rfl) (by kernel_rfl) (by kernel_rfl) (fun _ _ _ h => h) (Or.inl ⟨by rfl, ?_⟩) (by assumption) ?_
    rotate_left
    · (intro w hSw; (try dsimp only at hSw); go_simp; (try with_reducible rfl))
    try simp only [Act.put, List.setIfInBounds_toArray, List.set_cons_zero, List.set_cons_succ, List.getElem_toArray, List.getElem_cons_succ, List.getElem_cons_zero]
    refine wpAnyH_ready (rs := [3, 10, 11]) (by kernel_rfl) (by simp) ?_
    refine AllReadyH.cons rfl (fun K hK => ?_) (AllReadyH.cons rfl (fun K hK => ?_) (AllReadyH.cons rfl (fun K hK => ?_) AllReadyH.nil))
    · go_simp
      refine (specLeft_any z S A n c k w3.drew Zv3.out (by have := Hm.out; omega) (by omega)).mono ?_
      rintro e w4 ⟨S2, A2, n2, c2, rfl, hzo, hb0⟩
      have hb : Below w3.heap.size w3 w4 := belDrew hb0
      have Zl4 := Lib.hid hzo
      have Hn2 : Hid ((n2 : Int) ≤ 10) := Lib.hid (by have h := shl_len Hn.out k; have e := hzo.2.1; rw [abs_pow_mul] at e; rw [e] at h; have := Hm.out; omega)
      have HS2 : Hid (S2 = z.sign) := Lib.hid (by rw [hzo.1]; exact sign_pow_mul _ _)
      clear hzo
      refine hK.out _ _ ⟨(Bx3.out.next hb).1, (By3.out.next hb).1⟩ (fun hHeld => ?_)
      clear hK K hb0
      have Sz4 := Lib.hid (Below.size hb)
      have Bel4 := Lib.hid (belNext Bel3.out hb)
      have Bx4 := Lib.hid (Bx3.out.next hb)
      have By4 := Lib.hid (By3.out.next hb)
      have RsD4 := Lib.hid (RsD3.out.next hb)
      have Zv4 := Lib.hid (Zv3.out.next hb)
      have Zw4 := Lib.hid (Zw3.out.next hb)
      have BelC4 := Lib.hid (belNext BelC3.out hb)
      clear hb Bel3 Bx3 By3 RsD3 Zv3 Zw3 BelC3
      try simp only [Act.put, List.setIfInBounds_toArray, List.set_cons_zero, List.set_cons_succ, List.getElem_toArray, List.getElem_cons_succ, List.getElem_cons_zero]
      refine wpAnyH_ready (rs := [6, 10, 11]) (by kernel_rfl) (by simp) ?_
      refine AllReadyH.cons rfl (fun K hK => ?_) (AllReadyH.cons rfl (fun K hK => ?_) (AllReadyH.cons rfl (fun K hK => ?_) AllReadyH.nil))
      · go_simp
        refine (specDivMod_any ((2 : Int) ^ k * z) z' S2 S' A2 A' n2 n' c2 c' w4 Zl4.out.zv Zw4.out H0.out.2 (by have := Hn2.out; omega) (by have := Hm.out; omega)).mono ?_
        rintro e w5 ⟨Sq, Aq, nq, cq, Sr, Ar, nr, cr, rfl, hzq, hzr, hb0⟩
        have hb : Below w4.heap.size w4 w5 := hb0
        have Zq5 := Lib.hid (hzq.cast_ (z' := z.sign * z'.sign * ((qN z k / qD z' k : Nat) : Int)) (by rw [HS2.out, HS.out.2, abs_pow_mul, qN_up, qD_up]))
        have HSr : Hid (Sr = (z.sign * ((qN z k % qD z' k : Nat) : Int)).sign) := Lib.hid (by rw [hzr.1, HS2.out, abs_pow_mul, qN_up, qD_up])
        clear hzq hzr
        refine hK.out _ _ ⟨(Bx4.out.next hb).1, (By4.out.next hb).1⟩ (fun hHeld => ?_)
        clear hK K hb0
        have Sz5 := Lib.hid (Below.size hb)
        have Bel5 := Lib.hid (belNext Bel4.out hb)
        have Bx5 := Lib.hid (Bx4.out.next hb)
        have By5 := Lib.hid (By4.out.next hb)
        have RsD5 := Lib.hid (RsD4.out.next hb)
        have Zv5 := Lib.hid (Zv4.out.next hb)
        have Zw5 := Lib.hid (Zw4.out.next hb)
        have BelC5 := Lib.hid (belNext BelC4.out hb)
        have Zl5 := Lib.hid (Zl4.out.next hb)
        clear hb Bel4 Bx4 By4 RsD4 Zv4 Zw4 BelC4 Zl4
        try simp only [Act.put, List.setIfInBounds_toArray, List.set_cons_zero, List.set_cons_succ, List.getElem_toArray, List.getElem_cons_succ, List.getElem_cons_zero]
        clear Zl5
        refine wpAnyH_take (i := 7) (v := ?_) rfl (by kernel_rfl) (by kernel_rfl) (by kernel_rfl) (fun _ _ _ h => h) (Or.inl ⟨by rfl, ?_⟩) (by assumption) ?_
        rotate_left
        · (intro w hSw; (try dsimp only at hSw); go_simp; (try with_reducible rfl))
        try simp only [Act.put, List.setIfInBounds_toArray, List.set_cons_zero, List.set_cons_succ, List.getElem_toArray, List.getElem_cons_succ, List.getElem_cons_zero]
        refine wpAnyH_take (i := 8) (v := ?_) rfl (by kernel_rfl) (by kernel_rfl) (by kernel_rfl) (fun _ _ _ h => h) (Or.inl ⟨by rfl, ?_⟩) (by assumption) ?_
        rotate_left
        · (intro w hSw; (try dsimp only at hSw); go_simp; (try with_reducible rfl))
        try simp only [Act.put, List.setIfInBounds_toArray, List.set_cons_zero, List.set_cons_succ, List.getElem_toArray, List.getElem_cons_succ, List.getElem_cons_zero]
        refine wpAnyH_take (i := 9) (v := ?_) rfl (by kernel_rfl) (by kernel_rfl) (by kernel_rfl) (fun _ _ _ h => h) (Or.inl ⟨by rfl, ?_⟩) (by assumption) ?_
        rotate_left
        · (intro w hSw; (try dsimp only at hSw); go_simp; (try with_reducible rfl))
        try simp only [Act.put, List.setIfInBounds_toArray, List.set_cons_zero, List.set_cons_succ, List.getElem_toArray, List.getElem_cons_succ, List.getElem_cons_zero]
        refine wpAnyH_ready (rs := [10, 11]) (by kernel_rfl) (by simp) ?_
        refine AllReadyH.cons rfl (fun K hK => ?_) (AllReadyH.cons rfl (fun K hK => ?_) AllReadyH.nil)
        · go_simp
          obtain ⟨w6, hw⟩ : ∃ w6, w6 = w5.alloc (.cells #[.int .i64 0, .slice none 0 0] 28) := ⟨_, rfl⟩
          have hb : Below w5.heap.size w5 w6 := by rw [hw]; exact belAlloc1 _ _
          obtain ⟨fQ, hf⟩ : ∃ f, f = w5.heap.size := ⟨_, rfl⟩
          have RsQ6 : Hid (ResB w6 fQ) := Lib.hid (by rw [hw, hf]; exact resBox_new w5 _)
          have HfQ : Hid (w5.heap.size ≤ fQ ∧ fQ < w6.heap.size) := Lib.hid ⟨by omega, RsQ6.out.2⟩
          rw [← hw]
          try rw [← hf]
          refine hK.out _ _ ⟨(Bx5.out.next hb).1, (By5.out.next hb).1⟩ (fun hHeld => ?_)
          clear hK K hw hf
          have Sz6 := Lib.hid (Below.size hb)
          have Bel6 := Lib.hid (belNext Bel5.out hb)
          have Bx6 := Lib.hid (Bx5.out.next hb)
          have By6 := Lib.hid (By5.out.next hb)
          have RsD6 := Lib.hid (RsD5.out.next hb)
          have Zv6 := Lib.hid (Zv5.out.next hb)
          have Zw6 := Lib.hid (Zw5.out.next hb)
          have BelC6 := Lib.hid (belNext BelC5.out hb)
          have Zq6 := Lib.hid (Zq5.out.next hb)
          clear hb Bel5 Bx5 By5 RsD5 Zv5 Zw5 BelC5 Zq5
          try simp only [Act.put, List.setIfInBounds_toArray, List.set_cons_zero, List.set_cons_succ, List.getElem_toArray, List.getElem_cons_succ, List.getElem_cons_zero]
          refine wpAnyH_ready (rs := [11]) (by kernel_rfl) (by simp) ?_
          refine AllReadyH.cons rfl (fun K hK => ?_) AllReadyH.nil
          · go_simp
            obtain ⟨w7, hw⟩ : ∃ w7, w7 = w6.alloc (.cells #[.int .i64 0, .slice none 0 0] 28) := ⟨_, rfl⟩
            have hb : Below w6.heap.size w6 w7 := by rw [hw]; exact belAlloc1 _ _
            obtain ⟨fR, hf⟩ : ∃ f, f = w6.heap.size := ⟨_, rfl⟩
            have RsR7 : Hid (ResB w7 fR) := Lib.hid (by rw [hw, hf]; exact resBox_new w6 _)
            have HfR : Hid (w6.heap.size ≤ fR ∧ fR < w7.heap.size) := Lib.hid ⟨by omega, RsR7.out.2⟩
            rw [← hw]
            try rw [← hf]
            refine hK.out _ _ ⟨(Bx6.out.next hb).1, (By6.out.next hb).1⟩ (fun hHeld => ?_)
            clear hK K hw hf
            have Sz7 := Lib.hid (Below.size hb)
            have Bel7 := Lib.hid (belNext Bel6.out hb)
            have Bx7 := Lib.hid (Bx6.out.next hb)
            have By7 := Lib.hid (By6.out.next hb)
            have RsD7 := Lib.hid (RsD6.out.next hb)
            have Zv7 := Lib.hid (Zv6.out.next hb)
            have Zw7 := Lib.hid (Zw6.out.next hb)
            have BelC7 := Lib.hid (belNext BelC6.out hb)
            have Zq7 := Lib.hid (Zq6.out.next hb)
            have RsQ7 := Lib.hid (RsQ6.out.next hb)
            clear hb Bel6 Bx6 By6 RsD6 Zv6 Zw6 BelC6 Zq6 RsQ6
            try simp only [Act.put, List.setIfInBounds_toArray, List.set_cons_zero, List.set_cons_succ, List.getElem_toArray, List.getElem_cons_succ, List.getElem_cons_zero]
            obtain ⟨⟨r1, r2, r3, r4⟩, r5⟩ := RsQ7.out
            obtain ⟨⟨s1, s2, s3, s4⟩, s5⟩ := RsR7.out
            have hqr : fR ≠ fQ := (by have zz0 := Hlt.out; have zz1 := Sz2.out; have zz2 := Sz3.out; have zz3 := Sz4.out; have zz4 := Sz5.out; have zz5 := Sz6.out; have zz6 := HfQ.out; have zz7 := Sz7.out; have zz8 := HfR.out; first | omega | (simp; done) | (simp; omega))
            refine wpAnyH_ready (rs := [12]) (by kernel_rfl) (by simp) ?_
            refine AllReadyH.cons rfl (fun K hK => ?_) AllReadyH.nil
            go_simp
            refine hK.out _ (st w7 fQ Sq Aq nq cq) ⟨(Bx7.out.st_1 (by have zz0 := Hlt.out; have zz1 := Sz2.out; have zz2 := Sz3.out; have zz3 := Sz4.out; have zz4 := Sz5.out; have zz5 := Sz6.out; have zz6 := HfQ.out; have zz7 := Sz7.out; have zz8 := HfR.out; first | omega | (simp; done) | (simp; omega))).1, (By7.out.st_1 (by have zz0 := Hlt.out; have zz1 := Sz2.out; have zz2 := Sz3.out; have zz3 := Sz4.out; have zz4 := Sz5.out; have zz5 := Sz6.out; have zz6 := HfQ.out; have zz7 := Sz7.out; have zz8 := HfR.out; first | omega | (simp; done) | (simp; omega))).1⟩ (fun hHeld => ?_)
            clear hK K
            try simp only [Act.put, List.setIfInBounds_toArray, List.set_cons_zero, List.set_cons_succ, List.getElem_toArray, List.getElem_cons_succ, List.getElem_cons_zero]
            obtain ⟨⟨u1, u2, u3, u4⟩, u5⟩ := resB_st (b' := fQ) (s := Sq) (A := Aq) (n := nq) (c := cq) RsR7.out hqr
            have Bq1 := Lib.hid (Box.made (s := Sq) (A := Aq) (n := nq) (c := cq) ⟨r1, r2⟩ r5)
            have Bq2 := Lib.hid (Bq1.out.st_ (b := fR) (s := Sr) (A := Ar) (n := nr) (c := cr) (fun e => hqr e.symm))
            have Br2 := Lib.hid (Box.made (s := Sr) (A := Ar) (n := nr) (c := cr) ⟨u1, u2⟩ u5)
            have Zy : Hid (ZO (st (st w7 fQ Sq Aq nq cq) fR Sr Ar nr cr) _ _ _ Sq Aq nq cq) := Lib.hid ((Zq7.out.st_ (.inr (by have zz0 := Hlt.out; have zz1 := Sz2.out; have zz2 := Sz3.out; have zz3 := Sz4.out; have zz4 := Sz5.out; have zz5 := Sz6.out; have zz6 := HfQ.out; have zz7 := Sz7.out; have zz8 := HfR.out; first | omega | (simp; done) | (simp; omega)))).st_ (.inr (by have zz0 := Hlt.out; have zz1 := Sz2.out; have zz2 := Sz3.out; have zz3 := Sz4.out; have zz4 := Sz5.out; have zz5 := Sz6.out; have zz6 := HfQ.out; have zz7 := Sz7.out; have zz8 := HfR.out; first | omega | (simp; done) | (simp; omega))))
            refine wpAnyH_ready (rs := [13]) (by kernel_rfl) (by simp) ?_
            refine AllReadyH.cons rfl (fun K hK => ?_) AllReadyH.nil
            go_simp
            refine hK.out _ (st (st w7 fQ Sq Aq nq cq) fR Sr Ar nr cr) ⟨((Bx7.out.st_1 (by have zz0 := Hlt.out; have zz1 := Sz2.out; have zz2 := Sz3.out; have zz3 := Sz4.out; have zz4 := Sz5.out; have zz5 := Sz6.out; have zz6 := HfQ.out; have zz7 := Sz7.out; have zz8 := HfR.out; first | omega | (simp; done) | (simp; omega))).st_1 (by have zz0 := Hlt.out; have zz1 := Sz2.out; have zz2 := Sz3.out; have zz3 := Sz4.out; have zz4 := Sz5.out; have zz5 := Sz6.out; have zz6 := HfQ.out; have zz7 := Sz7.out; have zz8 := HfR.out; first | omega | (simp; done) | (simp; omega))).1, ((By7.out.st_1 (by have zz0 := Hlt.out; have zz1 := Sz2.out; have zz2 := Sz3.out; have zz3 := Sz4.out; have zz4 := Sz5.out; have zz5 := Sz6.out; have zz6 := HfQ.out; have zz7 := Sz7.out; have zz8 := HfR.out; first | omega | (simp; done) | (simp; omega))).st_1 (by have zz0 := Hlt.out; have zz1 := Sz2.out; have zz2 := Sz3.out; have zz3 := Sz4.out; have zz4 := Sz5.out; have zz5 := Sz6.out; have zz6 := HfQ.out; have zz7 := Sz7.out; have zz8 := HfR.out; first | omega | (simp; done) | (simp; omega))).1⟩ (fun hHeld => ?_)
            clear hK K hHeld
            try simp only [Act.put, List.setIfInBounds_toArray, List.set_cons_zero, List.set_cons_succ, List.getElem_toArray, List.getElem_cons_succ, List.getElem_cons_zero]
            refine wpAnyH_done (by kernel_rfl) ?_ _
            go_wp2_with fail
            go_meet
            exact ⟨fQ, fR, Sq, Aq, nq, cq, Sr, Ar, nr, cr, rfl, rfl, Bq2.out, Br2.out, Zy.out.zv, HSr.out, belSt (belSt BelC7.out (by have zz0 := Hlt.out; have zz1 := Sz2.out; have zz2 := Sz3.out; have zz3 := Sz4.out; have zz4 := Sz5.out; have zz5 := Sz6.out; have zz6 := HfQ.out; have zz7 := Sz7.out; have zz8 := HfR.out; first | omega | (simp; done) | (simp; omega))) (by have zz0 := Hlt.out; have zz1 := Sz2.out; have zz2 := Sz3.out; have zz3 := Sz4.out; have zz4 := Sz5.out; have zz5 := Sz6.out; have zz6 := HfQ.out; have zz7 := Sz7.out; have zz8 := HfR.out; first | omega | (simp; done) | (simp; omega))⟩
        · go_simp
          obtain ⟨w6, hw⟩ : ∃ w6, w6 = w5.alloc (.cells #[.int .i64 0, .slice none 0 0] 28) := ⟨_, rfl⟩
          have hb : Below w5.heap.size w5 w6 := by rw [hw]; exact belAlloc1 _ _
          obtain ⟨fR, hf⟩ : ∃ f, f = w5.heap.size := ⟨_, rfl⟩
          have RsR6 : Hid (ResB w6 fR) := Lib.hid (by rw [hw, hf]; exact resBox_new w5 _)
          have HfR : Hid (w5.heap.size ≤ fR ∧ fR < w6.heap.size) := Lib.hid ⟨by omega, RsR6.out.2⟩
          rw [← hw]
          try rw [← hf]
          refine hK.out _ _ ⟨(Bx5.out.next hb).1, (By5.out.next hb).1⟩ (fun hHeld => ?_)
          clear hK K hw hf
          have Sz6 := Lib.hid (Below.size hb)
          have Bel6 := Lib.hid (belNext Bel5.out hb)
          have Bx6 := Lib.hid (Bx5.out.next hb)
          have By6 := Lib.hid (By5.out.next hb)
          have RsD6 := Lib.hid (RsD5.out.next hb)
          have Zv6 := Lib.hid (Zv5.out.next hb)
          have Zw6 := Lib.hid (Zw5.out.next hb)
          have BelC6 := Lib.hid (belNext BelC5.out hb)
          have Zq6 := Lib.hid (Zq5.out.next hb)
          clear hb Bel5 Bx5 By5 RsD5 Zv5 Zw5 BelC5 Zq5
          try simp only [Act.put, List.setIfInBounds_toArray, List.set_cons_zero, List.set_cons_succ, List.getElem_toArray, List.getElem_cons_succ, List.getElem_cons_zero]
          refine wpAnyH_ready (rs := [10]) (by kernel_rfl) (by simp) ?_
          refine AllReadyH.cons rfl (fun K hK => ?_) AllReadyH.nil
          · go_simp
            obtain ⟨w7, hw⟩ : ∃ w7, w7 = w6.alloc (.cells #[.int .i64 0, .slice none 0 0] 28) := ⟨_, rfl⟩
            have hb : Below w6.heap.size w6 w7 := by rw [hw]; exact belAlloc1 _ _
            obtain ⟨fQ, hf⟩ : ∃ f, f = w6.heap.size := ⟨_, rfl⟩
            have RsQ7 : Hid (ResB w7 fQ) := Lib.hid (by rw [hw, hf]; exact resBox_new w6 _)
            have HfQ : Hid (w6.heap.size ≤ fQ ∧ fQ < w7.heap.size) := Lib.hid ⟨by omega, RsQ7.out.2⟩
            rw [← hw]
            try rw [← hf]
            refine hK.out _ _ ⟨(Bx6.out.next hb).1, (By6.out.next hb).1⟩ (fun hHeld => ?_)
            clear hK K hw hf
            have Sz7 := Lib.hid (Below.size hb)
            have Bel7 := Lib.hid (belNext Bel6.out hb)
            have Bx7 := Lib.hid (Bx6.out.next hb)
            have By7 := Lib.hid (By6.out.next hb)
            have RsD7 := Lib.hid (RsD6.out.next hb)
            have Zv7 := Lib.hid (Zv6.out.next hb)
            have Zw7 := Lib.hid (Zw6.out.next hb)
            have BelC7 := Lib.hid (belNext BelC6.out hb)
            have Zq7 := Lib.hid (Zq6.out.next hb)
            have RsR7 := Lib.hid (RsR6.out.next hb)
            clear hb Bel6 Bx6 By6 RsD6 Zv6 Zw6 BelC6 Zq6 RsR6
            try simp only [Act.put, List.setIfInBounds_toArray, List.set_cons_zero, List.set_cons_succ, List.getElem_toArray, List.getElem_cons_succ, List.getElem_cons_zero]
            obtain ⟨⟨r1, r2, r3, r4⟩, r5⟩ := RsQ7.out
            obtain ⟨⟨s1, s2, s3, s4⟩, s5⟩ := RsR7.out
            have hqr : fR ≠ fQ := (by have zz0 := Hlt.out; have zz1 := Sz2.out; have zz2 := Sz3.out; have zz3 := Sz4.out; have zz4 := Sz5.out; have zz5 := Sz6.out; have zz6 := HfR.out; have zz7 := Sz7.out; have zz8 := HfQ.out; first | omega | (simp; done) | (simp; omega))
            refine wpAnyH_ready (rs := [12]) (by kernel_rfl) (by simp) ?_
            refine AllReadyH.cons rfl (fun K hK => ?_) AllReadyH.nil
            go_simp
            refine hK.out _ (st w7 fQ Sq Aq nq cq) ⟨(Bx7.out.st_1 (by have zz0 := Hlt.out; have zz1 := Sz2.out; have zz2 := Sz3.out; have zz3 := Sz4.out; have zz4 := Sz5.out; have zz5 := Sz6.out; have zz6 := HfR.out; have zz7 := Sz7.out; have zz8 := HfQ.out; first | omega | (simp; done) | (simp; omega))).1, (By7.out.st_1 (by have zz0 := Hlt.out; have zz1 := Sz2.out; have zz2 := Sz3.out; have zz3 := Sz4.out; have zz4 := Sz5.out; have zz5 := Sz6.out; have zz6 := HfR.out; have zz7 := Sz7.out; have zz8 := HfQ.out; first | omega | (simp; done) | (simp; omega))).1⟩ (fun hHeld => ?_)
            clear hK K
            try simp only [Act.put, List.setIfInBounds_toArray, List.set_cons_zero, List.set_cons_succ, List.getElem_toArray, List.getElem_cons_succ, List.getElem_cons_zero]
            obtain ⟨⟨u1, u2, u3, u4⟩, u5⟩ := resB_st (b' := fQ) (s := Sq) (A := Aq) (n := nq) (c := cq) RsR7.out hqr
            have Bq1 := Lib.hid (Box.made (s := Sq) (A := Aq) (n := nq) (c := cq) ⟨r1, r2⟩ r5)
            have Bq2 := Lib.hid (Bq1.out.st_ (b := fR) (s := Sr) (A := Ar) (n := nr) (c := cr) (fun e => hqr e.symm))
            have Br2 := Lib.hid (Box.made (s := Sr) (A := Ar) (n := nr) (c := cr) ⟨u1, u2⟩ u5)
            have Zy : Hid (ZO (st (st w7 fQ Sq Aq nq cq) fR Sr Ar nr cr) _ _ _ Sq Aq nq cq) := Lib.hid ((Zq7.out.st_ (.inr (by have zz0 := Hlt.out; have zz1 := Sz2.out; have zz2 := Sz3.out; have zz3 := Sz4.out; have zz4 := Sz5.out; have zz5 := Sz6.out; have zz6 := HfR.out; have zz7 := Sz7.out; have zz8 := HfQ.out; first | omega | (simp; done) | (simp; omega)))).st_ (.inr (by have zz0 := Hlt.out; have zz1 := Sz2.out; have zz2 := Sz3.out; have zz3 := Sz4.out; have zz4 := Sz5.out; have zz5 := Sz6.out; have zz6 := HfR.out; have zz7 := Sz7.out; have zz8 := HfQ.out; first | omega | (simp; done) | (simp; omega))))
            refine wpAnyH_ready (rs := [13]) (by kernel_rfl) (by simp) ?_
            refine AllReadyH.cons rfl (fun K hK => ?_) AllReadyH.nil
            go_simp
            refine hK.out _ (st (st w7 fQ Sq Aq nq cq) fR Sr Ar nr cr) ⟨((Bx7.out.st_1 (by have zz0 := Hlt.out; have zz1 := Sz2.out; have zz2 := Sz3.out; have zz3 := Sz4.out; have zz4 := Sz5.out; have zz5 := Sz6.out; have zz6 := HfR.out; have zz7 := Sz7.out; have zz8 := HfQ.out; first | omega | (simp; done) | (simp; omega))).st_1 (by have zz0 := Hlt.out; have zz1 := Sz2.out; have zz2 := Sz3.out; have zz3 := Sz4.out; have zz4 := Sz5.out; have zz5 := Sz6.out; have zz6 := HfR.out; have zz7 := Sz7.out; have zz8 := HfQ.out; first | omega | (simp; done) | (simp; omega))).1, ((By7.out.st_1 (by have zz0 := Hlt.out; have zz1 := Sz2.out; have zz2 := Sz3.out; have zz3 := Sz4.out; have zz4 := Sz5.out; have zz5 := Sz6.out; have zz6 := HfR.out; have zz7 := Sz7.out; have zz8 := HfQ.out; first | omega | (simp; done) | (simp; omega))).st_1 (by have zz0 := Hlt.out; have zz1 := Sz2.out; have zz2 := Sz3.out; have zz3 := Sz4.out; have zz4 := Sz5.out; have zz5 := Sz6.out; have zz6 := HfR.out; have zz7 := Sz7.out; have zz8 := HfQ.out; first | omega | (simp; done) | (simp; omega))).1⟩ (fun hHeld => ?_)
            clear hK K hHeld
            try simp only [Act.put, List.setIfInBounds_toArray, List.set_cons_zero, List.set_cons_succ, List.getElem_toArray, List.getElem_cons_succ, List.getElem_cons_zero]
            refine wpAnyH_done (by kernel_rfl) ?_ _
            go_wp2_with fail
            go_meet
            exact ⟨fQ, fR, Sq, Aq, nq, cq, Sr, Ar, nr, cr, rfl, rfl, Bq2.out, Br2.out, Zy.out.zv, HSr.out, belSt (belSt BelC7.out (by have zz0 := Hlt.out; have zz1 := Sz2.out; have zz2 := Sz3.out; have zz3 := Sz4.out; have zz4 := Sz5.out; have zz5 := Sz6.out; have zz6 := HfR.out; have zz7 := Sz7.out; have zz8 := HfQ.out; first | omega | (simp; done) | (simp; omega))) (by have zz0 := Hlt.out; have zz1 := Sz2.out; have zz2 := Sz3.out; have zz3 := Sz4.out; have zz4 := Sz5.out; have zz5 := Sz6.out; have zz6 := HfR.out; have zz7 := Sz7.out; have zz8 := HfQ.out; first | omega | (simp; done) | (simp; omega))⟩
      · go_simp
        obtain ⟨w5, hw⟩ : ∃ w5, w5 = w4.alloc (.cells #[.int .i64 0, .slice none 0 0] 28) := ⟨_, rfl⟩
        have hb : Below w4.heap.size w4 w5 := by rw [hw]; exact belAlloc1 _ _
        obtain ⟨fQ, hf⟩ : ∃ f, f = w4.heap.size := ⟨_, rfl⟩
        have RsQ5 : Hid (ResB w5 fQ) := Lib.hid (by rw [hw, hf]; exact resBox_new w4 _)
        have HfQ : Hid (w4.heap.size ≤ fQ ∧ fQ < w5.heap.size) := Lib.hid ⟨by omega, RsQ5.out.2⟩
        rw [← hw]
        try rw [← hf]
        refine hK.out _ _ ⟨(Bx4.out.next hb).1, (By4.out.next hb).1⟩ (fun hHeld => ?_)
        clear hK K hw hf
        have Sz5 := Lib.hid (Below.size hb)
        have Bel5 := Lib.hid (belNext Bel4.out hb)
        have Bx5 := Lib.hid (Bx4.out.next hb)
        have By5 := Lib.hid (By4.out.next hb)
        have RsD5 := Lib.hid (RsD4.out.next hb)
        have Zv5 := Lib.hid (Zv4.out.next hb)
        have Zw5 := Lib.hid (Zw4.out.next hb)
        have BelC5 := Lib.hid (belNext BelC4.out hb)
        have Zl5 := Lib.hid (Zl4.out.next hb)
        clear hb Bel4 Bx4 By4 RsD4 Zv4 Zw4 BelC4 Zl4
        try simp only [Act.put, List.setIfInBounds_toArray, List.set_cons_zero, List.set_cons_succ, List.getElem_toArray, List.getElem_cons_succ, List.getElem_cons_zero]
        refine wpAnyH_ready (rs := [6, 11]) (by kernel_rfl) (by simp) ?_
        refine AllReadyH.cons rfl (fun K hK => ?_) (AllReadyH.cons rfl (fun K hK => ?_) AllReadyH.nil)
        · go_simp
          refine (specDivMod_any ((2 : Int) ^ k * z) z' S2 S' A2 A' n2 n' c2 c' w5 Zl5.out.zv Zw5.out H0.out.2 (by have := Hn2.out; omega) (by have := Hm.out; omega)).mono ?_
          rintro e w6 ⟨Sq, Aq, nq, cq, Sr, Ar, nr, cr, rfl, hzq, hzr, hb0⟩
          have hb : Below w5.heap.size w5 w6 := hb0
          have Zq6 := Lib.hid (hzq.cast_ (z' := z.sign * z'.sign * ((qN z k / qD z' k : Nat) : Int)) (by rw [HS2.out, HS.out.2, abs_pow_mul, qN_up, qD_up]))
          have HSr : Hid (Sr = (z.sign * ((qN z k % qD z' k : Nat) : Int)).sign) := Lib.hid (by rw [hzr.1, HS2.out, abs_pow_mul, qN_up, qD_up])
          clear hzq hzr
          refine hK.out _ _ ⟨(Bx5.out.next hb).1, (By5.out.next hb).1⟩ (fun hHeld => ?_)
          clear hK K hb0
          have Sz6 := Lib.hid (Below.size hb)
          have Bel6 := Lib.hid (belNext Bel5.out hb)
          have Bx6 := Lib.hid (Bx5.out.next hb)
          have By6 := Lib.hid (By5.out.next hb)
          have RsD6 := Lib.hid (RsD5.out.next hb)
          have Zv6 := Lib.hid (Zv5.out.next hb)
          have Zw6 := Lib.hid (Zw5.out.next hb)
          have BelC6 := Lib.hid (belNext BelC5.out hb)
          have Zl6 := Lib.hid (Zl5.out.next hb)
          have RsQ6 := Lib.hid (RsQ5.out.next hb)
          clear hb Bel5 Bx5 By5 RsD5 Zv5 Zw5 BelC5 Zl5 RsQ5
          try simp only [Act.put, List.setIfInBounds_toArray, List.set_cons_zero, List.set_cons_succ, List.getElem_toArray, List.getElem_cons_succ, List.getElem_cons_zero]
          clear Zl6
          refine wpAnyH_take (i := 7) (v := ?_) rfl (by kernel_rfl) (by kernel_rfl) (by kernel_rfl) (fun _ _ _ h => h) (Or.inl ⟨by rfl, ?_⟩) (by assumption) ?_
          rotate_left
          · (intro w hSw; (try dsimp only at hSw); go_simp; (try with_reducible rfl))
          try simp only [Act.put, List.setIfInBounds_toArray, List.set_cons_zero, List.set_cons_succ, List.getElem_toArray, List.getElem_cons_succ, List.getElem_cons_zero]
          refine wpAnyH_take (i := 8) (v := ?_) rfl (by kernel_rfl) (by kernel_rfl) (by kernel_rfl) (fun _ _ _ h => h) (Or.inl ⟨by rfl, ?_⟩) (by assumption) ?_
          rotate_left
          · (intro w hSw; (try dsimp only at hSw); go_simp; (try with_reducible rfl))
          try simp only [Act.put, List.setIfInBounds_toArray, List.set_cons_zero, List.set_cons_succ, List.getElem_toArray, List.getElem_cons_succ, List.getElem_cons_zero]
          refine wpAnyH_take (i := 9) (v := ?_) rfl (by kernel_rfl) (by kernel_rfl) (by kernel_rfl) (fun _ _ _ h => h) (Or.inl ⟨by rfl, ?_⟩) (by assumption) ?_
          rotate_left
          · (intro w hSw; (try dsimp only at hSw); go_simp; (try with_reducible rfl))
          try simp only [Act.put, List.setIfInBounds_toArray, List.set_cons_zero, List.set_cons_succ, List.getElem_toArray, List.getElem_cons_succ, List.getElem_cons_zero]
          refine wpAnyH_ready (rs := [11]) (by kernel_rfl) (by simp) ?_
          refine AllReadyH.cons rfl (fun K hK => ?_) AllReadyH.nil
          · go_simp
            obtain ⟨w7, hw⟩ : ∃ w7, w7 = w6.alloc (.cells #[.int .i64 0, .slice none 0 0] 28) := ⟨_, rfl⟩
            have hb : Below w6.heap.size w6 w7 := by rw [hw]; exact belAlloc1 _ _
            obtain ⟨fR, hf⟩ : ∃ f, f = w6.heap.size := ⟨_, rfl⟩
            have RsR7 : Hid (ResB w7 fR) := Lib.hid (by rw [hw, hf]; exact resBox_new w6 _)
            have HfR : Hid (w6.heap.size ≤ fR ∧ fR < w7.heap.size) := Lib.hid ⟨by omega, RsR7.out.2⟩
            rw [← hw]
            try rw [← hf]
            refine hK.out _ _ ⟨(Bx6.out.next hb).1, (By6.out.next hb).1⟩ (fun hHeld => ?_)
            clear hK K hw hf
            have Sz7 := Lib.hid (Below.size hb)
            have Bel7 := Lib.hid (belNext Bel6.out hb)
            have Bx7 := Lib.hid (Bx6.out.next hb)
            have By7 := Lib.hid (By6.out.next hb)
            have RsD7 := Lib.hid (RsD6.out.next hb)
            have Zv7 := Lib.hid (Zv6.out.next hb)
            have Zw7 := Lib.hid (Zw6.out.next hb)
            have BelC7 := Lib.hid (belNext BelC6.out hb)
            have RsQ7 := Lib.hid (RsQ6.out.next hb)
            have Zq7 := Lib.hid (Zq6.out.next hb)
            clear hb Bel6 Bx6 By6 RsD6 Zv6 Zw6 BelC6 RsQ6 Zq6
            try simp only [Act.put, List.setIfInBounds_toArray, List.set_cons_zero, List.set_cons_succ, List.getElem_toArray, List.getElem_cons_succ, List.getElem_cons_zero]
            obtain ⟨⟨r1, r2, r3, r4⟩, r5⟩ := RsQ7.out
            obtain ⟨⟨s1, s2, s3, s4⟩, s5⟩ := RsR7.out
            have hqr : fR ≠ fQ := (by have zz0 := Hlt.out; have zz1 := Sz2.out; have zz2 := Sz3.out; have zz3 := Sz4.out; have zz4 := Sz5.out; have zz5 := HfQ.out; have zz6 := Sz6.out; have zz7 := Sz7.out; have zz8 := HfR.out; first | omega | (simp; done) | (simp; omega))
            refine wpAnyH_ready (rs := [12]) (by kernel_rfl) (by simp) ?_
            refine AllReadyH.cons rfl (fun K hK => ?_) AllReadyH.nil
            go_simp
            refine hK.out _ (st w7 fQ Sq Aq nq cq) ⟨(Bx7.out.st_1 (by have zz0 := Hlt.out; have zz1 := Sz2.out; have zz2 := Sz3.out; have zz3 := Sz4.out; have zz4 := Sz5.out; have zz5 := HfQ.out; have zz6 := Sz6.out; have zz7 := Sz7.out; have zz8 := HfR.out; first | omega | (simp; done) | (simp; omega))).1, (By7.out.st_1 (by have zz0 := Hlt.out; have zz1 := Sz2.out; have zz2 := Sz3.out; have zz3 := Sz4.out; have zz4 := Sz5.out; have zz5 := HfQ.out; have zz6 := Sz6.out; have zz7 := Sz7.out; have zz8 := HfR.out; first | omega | (simp; done) | (simp; omega))).1⟩ (fun hHeld => ?_)
            clear hK K
            try simp only [Act.put, List.setIfInBounds_toArray, List.set_cons_zero, List.set_cons_succ, List.getElem_toArray, List.getElem_cons_succ, List.getElem_cons_zero]
            obtain ⟨⟨u1, u2, u3, u4⟩, u5⟩ := resB_st (b' := fQ) (s := Sq) (A := Aq) (n := nq) (c := cq) RsR7.out hqr
            have Bq1 := Lib.hid (Box.made (s := Sq) (A := Aq) (n := nq) (c := cq) ⟨r1, r2⟩ r5)
            have Bq2 := Lib.hid (Bq1.out.st_ (b := fR) (s := Sr) (A := Ar) (n := nr) (c := cr) (fun e => hqr e.symm))
            have Br2 := Lib.hid (Box.made (s := Sr) (A := Ar) (n := nr) (c := cr) ⟨u1, u2⟩ u5)
            have Zy : Hid (ZO (st (st w7 fQ Sq Aq nq cq) fR Sr Ar nr cr) _ _ _ Sq Aq nq cq) := Lib.hid ((Zq7.out.st_ (.inl (by have zz0 := Hlt.out; have zz1 := Sz2.out; have zz2 := Sz3.out; have zz3 := Sz4.out; have zz4 := Sz5.out; have zz5 := HfQ.out; have zz6 := Sz6.out; have zz7 := Sz7.out; have zz8 := HfR.out; first | omega | (simp; done) | (simp; omega)))).st_ (.inr (by have zz0 := Hlt.out; have zz1 := Sz2.out; have zz2 := Sz3.out; have zz3 := Sz4.out; have zz4 := Sz5.out; have zz5 := HfQ.out; have zz6 := Sz6.out; have zz7 := Sz7.out; have zz8 := HfR.out; first | omega | (simp; done) | (simp; omega))))
            refine wpAnyH_ready (rs := [13]) (by kernel_rfl) (by simp) ?_
            refine AllReadyH.cons rfl (fun K hK => ?_) AllReadyH.nil
            go_simp
            refine hK.out _ (st (st w7 fQ Sq Aq nq cq) fR Sr Ar nr cr) ⟨((Bx7.out.st_1 (by have zz0 := Hlt.out; have zz1 := Sz2.out; have zz2 := Sz3.out; have zz3 := Sz4.out; have zz4 := Sz5.out; have zz5 := HfQ.out; have zz6 := Sz6.out; have zz7 := Sz7.out; have zz8 := HfR.out; first | omega | (simp; done) | (simp; omega))).st_1 (by have zz0 := Hlt.out; have zz1 := Sz2.out; have zz2 := Sz3.out; have zz3 := Sz4.out; have zz4 := Sz5.out; have zz5 := HfQ.out; have zz6 := Sz6.out; have zz7 := Sz7.out; have zz8 := HfR.out; first | omega | (simp; done) | (simp; omega))).1, ((By7.out.st_1 (by have zz0 := Hlt.out; have zz1 := Sz2.out; have zz2 := Sz3.out; have zz3 := Sz4.out; have zz4 := Sz5.out; have zz5 := HfQ.out; have zz6 := Sz6.out; have zz7 := Sz7.out; have zz8 := HfR.out; first | omega | (simp; done) | (simp; omega))).st_1 (by have zz0 := Hlt.out; have zz1 := Sz2.out; have zz2 := Sz3.out; have zz3 := Sz4.out; have zz4 := Sz5.out; have zz5 := HfQ.out; have zz6 := Sz6.out; have zz7 := Sz7.out; have zz8 := HfR.out; first | omega | (simp; done) | (simp; omega))).1⟩ (fun hHeld => ?_)
            clear hK K hHeld
            try simp only [Act.put, List.setIfInBounds_toArray, List.set_cons_zero, List.set_cons_succ, List.getElem_toArray, List.getElem_cons_succ, List.getElem_cons_zero]
            refine wpAnyH_done (by kernel_rfl) ?_ _
            go_wp2_with fail
            go_meet
            exact ⟨fQ, fR, Sq, Aq, nq, cq, Sr, Ar, nr, cr, rfl, rfl, Bq2.out, Br2.out, Zy.out.zv, HSr.out, belSt (belSt BelC7.out (by have zz0 := Hlt.out; have zz1 := Sz2.out; have zz2 := Sz3.out; have zz3 := Sz4.out; have zz4 := Sz5.out; have zz5 := HfQ.out; have zz6 := Sz6.out; have zz7 := Sz7.out; have zz8 := HfR.out; first | omega | (simp; done) | (simp; omega))) (by have zz0 := Hlt.out; have zz1 := Sz2.out; have zz2 := Sz3.out; have zz3 := Sz4.out; have zz4 := Sz5.out; have zz5 := HfQ.out; have zz6 := Sz6.out; have zz7 := Sz7.out; have zz8 := HfR.out; first | omega | (simp; done) | (simp; omega))⟩
        · go_simp
          obtain ⟨w6, hw⟩ : ∃ w6, w6 = w5.alloc (.cells #[.int .i64 0, .slice none 0 0] 28) := ⟨_, rfl⟩
          have hb : Below w5.heap.size w5 w6 := by rw [hw]; exact belAlloc1 _ _
          obtain ⟨fR, hf⟩ : ∃ f, f = w5.heap.size := ⟨_, rfl⟩
          have RsR6 : Hid (ResB w6 fR) := Lib.hid (by rw [hw, hf]; exact resBox_new w5 _)
          have HfR : Hid (w5.heap.size ≤ fR ∧ fR < w6.heap.size) := Lib.hid ⟨by omega, RsR6.out.2⟩
          rw [← hw]
          try rw [← hf]
          refine hK.out _ _ ⟨(Bx5.out.next hb).1, (By5.out.next hb).1⟩ (fun hHeld => ?_)
          clear hK K hw hf
          have Sz6 := Lib.hid (Below.size hb)
          have Bel6 := Lib.hid (belNext Bel5.out hb)
          have Bx6 := Lib.hid (Bx5.out.next hb)
          have By6 := Lib.hid (By5.out.next hb)
          have RsD6 := Lib.hid (RsD5.out.next hb)
          have Zv6 := Lib.hid (Zv5.out.next hb)
          have Zw6 := Lib.hid (Zw5.out.next hb)
          have BelC6 := Lib.hid (belNext BelC5.out hb)
          have Zl6 := Lib.hid (Zl5.out.next hb)
          have RsQ6 := Lib.hid (RsQ5.out.next hb)
          clear hb Bel5 Bx5 By5 RsD5 Zv5 Zw5 BelC5 Zl5 RsQ5
          try simp only [Act.put, List.setIfInBounds_toArray, List.set_cons_zero, List.set_cons_succ, List.getElem_toArray, List.getElem_cons_succ, List.getElem_cons_zero]
          refine wpAnyH_ready (rs := [6]) (by kernel_rfl) (by simp) ?_
          refine AllReadyH.cons rfl (fun K hK => ?_) AllReadyH.nil
          · go_simp
            refine (specDivMod_any ((2 : Int) ^ k * z) z' S2 S' A2 A' n2 n' c2 c' w6 Zl6.out.zv Zw6.out H0.out.2 (by have := Hn2.out; omega) (by have := Hm.out; omega)).mono ?_
            rintro e w7 ⟨Sq, Aq, nq, cq, Sr, Ar, nr, cr, rfl, hzq, hzr, hb0⟩
            have hb : Below w6.heap.size w6 w7 := hb0
            have Zq7 := Lib.hid (hzq.cast_ (z' := z.sign * z'.sign * ((qN z k / qD z' k : Nat) : Int)) (by rw [HS2.out, HS.out.2, abs_pow_mul, qN_up, qD_up]))
            have HSr : Hid (Sr = (z.sign * ((qN z k % qD z' k : Nat) : Int)).sign) := Lib.hid (by rw [hzr.1, HS2.out, abs_pow_mul, qN_up, qD_up])
            clear hzq hzr
            refine hK.out _ _ ⟨(Bx6.out.next hb).1, (By6.out.next hb).1⟩ (fun hHeld => ?_)
            clear hK K hb0
            have Sz7 := Lib.hid (Below.size hb)
            have Bel7 := Lib.hid (belNext Bel6.out hb)
            have Bx7 := Lib.hid (Bx6.out.next hb)
            have By7 := Lib.hid (By6.out.next hb)
            have RsD7 := Lib.hid (RsD6.out.next hb)
            have Zv7 := Lib.hid (Zv6.out.next hb)
            have Zw7 := Lib.hid (Zw6.out.next hb)
            have BelC7 := Lib.hid (belNext BelC6.out hb)
            have Zl7 := Lib.hid (Zl6.out.next hb)
            have RsQ7 := Lib.hid (RsQ6.out.next hb)
            have RsR7 := Lib.hid (RsR6.out.next hb)
            clear hb Bel6 Bx6 By6 RsD6 Zv6 Zw6 BelC6 Zl6 RsQ6 RsR6
            try simp only [Act.put, List.setIfInBounds_toArray, List.set_cons_zero, List.set_cons_succ, List.getElem_toArray, List.getElem_cons_succ, List.getElem_cons_zero]
            clear Zl7
            refine wpAnyH_take (i := 7) (v := ?_) rfl (by kernel_rfl) (by kernel_rfl) (by kernel_rfl) (fun _ _ _ h => h) (Or.inl ⟨by rfl, ?_⟩) (by assumption) ?_
            rotate_left
            · (intro w hSw; (try dsimp only at hSw); go_simp; (try with_reducible rfl))
            try simp only [Act.put, List.setIfInBounds_toArray, List.set_cons_zero, List.set_cons_succ, List.getElem_toArray, List.getElem_cons_succ, List.getElem_cons_zero]
            refine wpAnyH_take (i := 8) (v := ?_) rfl (by kernel_rfl) (by kernel_rfl) (by kernel_rfl) (fun _ _ _ h => h) (Or.inl ⟨by rfl, ?_⟩) (by assumption) ?_
            rotate_left
            · (intro w hSw; (try dsimp only at hSw); go_simp; (try with_reducible rfl))
            try simp only [Act.put, List.setIfInBounds_toArray, List.set_cons_zero, List.set_cons_succ, List.getElem_toArray, List.getElem_cons_succ, List.getElem_cons_zero]
            refine wpAnyH_take (i := 9) (v := ?_) rfl (by kernel_rfl) (by kernel_rfl) (by kernel_rfl) (fun _ _ _ h => h) (Or.inl ⟨by rfl, ?_⟩) (by assumption) ?_
            rotate_left
            · (intro w hSw; (try dsimp only at hSw); go_simp; (try with_reducible rfl))
            try simp only [Act.put, List.setIfInBounds_toArray, List.set_cons_zero, List.set_cons_succ, List.getElem_toArray, List.getElem_cons_succ, List.getElem_cons_zero]
            obtain ⟨⟨r1, r2, r3, r4⟩, r5⟩ := RsQ7.out
            obtain ⟨⟨s1, s2, s3, s4⟩, s5⟩ := RsR7.out
            have hqr : fR ≠ fQ := (by have zz0 := Hlt.out; have zz1 := Sz2.out; have zz2 := Sz3.out; have zz3 := Sz4.out; have zz4 := Sz5.out; have zz5 := HfQ.out; have zz6 := Sz6.out; have zz7 := HfR.out; have zz8 := Sz7.out; first | omega | (simp; done) | (simp; omega))
            refine wpAnyH_ready (rs := [12]) (by kernel_rfl) (by simp) ?_
            refine AllReadyH.cons rfl (fun K hK => ?_) AllReadyH.nil
            go_simp
            refine hK.out _ (st w7 fQ Sq Aq nq cq) ⟨(Bx7.out.st_1 (by have zz0 := Hlt.out; have zz1 := Sz2.out; have zz2 := Sz3.out; have zz3 := Sz4.out; have zz4 := Sz5.out; have zz5 := HfQ.out; have zz6 := Sz6.out; have zz7 := HfR.out; have zz8 := Sz7.out; first | omega | (simp; done) | (simp; omega))).1, (By7.out.st_1 (by have zz0 := Hlt.out; have zz1 := Sz2.out; have zz2 := Sz3.out; have zz3 := Sz4.out; have zz4 := Sz5.out; have zz5 := HfQ.out; have zz6 := Sz6.out; have zz7 := HfR.out; have zz8 := Sz7.out; first | omega | (simp; done) | (simp; omega))).1⟩ (fun hHeld => ?_)
            clear hK K
            try simp only [Act.put, List.setIfInBounds_toArray, List.set_cons_zero, List.set_cons_succ, List.getElem_toArray, List.getElem_cons_succ, List.getElem_cons_zero]
            obtain ⟨⟨u1, u2, u3, u4⟩, u5⟩ := resB_st (b' := fQ) (s := Sq) (A := Aq) (n := nq) (c := cq) RsR7.out hqr
            have Bq1 := Lib.hid (Box.made (s := Sq) (A := Aq) (n := nq) (c := cq) ⟨r1, r2⟩ r5)
            have Bq2 := Lib.hid (Bq1.out.st_ (b := fR) (s := Sr) (A := Ar) (n := nr) (c := cr) (fun e => hqr e.symm))
            have Br2 := Lib.hid (Box.made (s := Sr) (A := Ar) (n := nr) (c := cr) ⟨u1, u2⟩ u5)
            have Zy : Hid (ZO (st (st w7 fQ Sq Aq nq cq) fR Sr Ar nr cr) _ _ _ Sq Aq nq cq) := Lib.hid ((Zq7.out.st_ (.inl (by have zz0 := Hlt.out; have zz1 := Sz2.out; have zz2 := Sz3.out; have zz3 := Sz4.out; have zz4 := Sz5.out; have zz5 := HfQ.out; have zz6 := Sz6.out; have zz7 := HfR.out; have zz8 := Sz7.out; first | omega | (simp; done) | (simp; omega)))).st_ (.inl (by have zz0 := Hlt.out; have zz1 := Sz2.out; have zz2 := Sz3.out; have zz3 := Sz4.out; have zz4 := Sz5.out; have zz5 := HfQ.out; have zz6 := Sz6.out; have zz7 := HfR.out; have zz8 := Sz7.out; first | omega | (simp; done) | (simp; omega))))
            refine wpAnyH_ready (rs := [13]) (by kernel_rfl) (by simp) ?_
            refine AllReadyH.cons rfl (fun K hK => ?_) AllReadyH.nil
            go_simp
            refine hK.out _ (st (st w7 fQ Sq Aq nq cq) fR Sr Ar nr cr) ⟨((Bx7.out.st_1 (by have zz0 := Hlt.out; have zz1 := Sz2.out; have zz2 := Sz3.out; have zz3 := Sz4.out; have zz4 := Sz5.out; have zz5 := HfQ.out; have zz6 := Sz6.out; have zz7 := HfR.out; have zz8 := Sz7.out; first | omega | (simp; done) | (simp; omega))).st_1 (by have zz0 := Hlt.out; have zz1 := Sz2.out; have zz2 := Sz3.out; have zz3 := Sz4.out; have zz4 := Sz5.out; have zz5 := HfQ.out; have zz6 := Sz6.out; have zz7 := HfR.out; have zz8 := Sz7.out; first | omega | (simp; done) | (simp; omega))).1, ((By7.out.st_1 (by have zz0 := Hlt.out; have zz1 := Sz2.out; have zz2 := Sz3.out; have zz3 := Sz4.out; have zz4 := Sz5.out; have zz5 := HfQ.out; have zz6 := Sz6.out; have zz7 := HfR.out; have zz8 := Sz7.out; first | omega | (simp; done) | (simp; omega))).st_1 (by have zz0 := Hlt.out; have zz1 := Sz2.out; have zz2 := Sz3.out; have zz3 := Sz4.out; have zz4 := Sz5.out; have zz5 := HfQ.out; have zz6 := Sz6.out; have zz7 := HfR.out; have zz8 := Sz7.out; first | omega | (simp; done) | (simp; omega))).1⟩ (fun hHeld => ?_)
            clear hK K hHeld
            try simp only [Act.put, List.setIfInBounds_toArray, List.set_cons_zero, List.set_cons_succ, List.getElem_toArray, List.getElem_cons_succ, List.getElem_cons_zero]
            refine wpAnyH_done (by kernel_rfl) ?_ _
            go_wp2_with fail
            go_meet
            exact ⟨fQ, fR, Sq, Aq, nq, cq, Sr, Ar, nr, cr, rfl, rfl, Bq2.out, Br2.out, Zy.out.zv, HSr.out, belSt (belSt BelC7.out (by have zz0 := Hlt.out; have zz1 := Sz2.out; have zz2 := Sz3.out; have zz3 := Sz4.out; have zz4 := Sz5.out; have zz5 := HfQ.out; have zz6 := Sz6.out; have zz7 := HfR.out; have zz8 := Sz7.out; first | omega | (simp; done) | (simp; omega))) (by have zz0 := Hlt.out; have zz1 := Sz2.out; have zz2 := Sz3.out; have zz3 := Sz4.out; have zz4 := Sz5.out; have zz5 := HfQ.out; have zz6 := Sz6.out; have zz7 := HfR.out; have zz8 := Sz7.out; first | omega | (simp; done) | (simp; omega))⟩
      · go_simp
        obtain ⟨w5, hw⟩ : ∃ w5, w5 = w4.alloc (.cells #[.int .i64 0, .slice none 0 0] 28) := ⟨_, rfl⟩
        have hb : Below w4.heap.size w4 w5 := by rw [hw]; exact belAlloc1 _ _
        obtain ⟨fR, hf⟩ : ∃ f, f = w4.heap.size := ⟨_, rfl⟩
        have RsR5 : Hid (ResB w5 fR) := Lib.hid (by rw [hw, hf]; exact resBox_new w4 _)
        have HfR : Hid (w4.heap.size ≤ fR ∧ fR < w5.heap.size) := Lib.hid ⟨by omega, RsR5.out.2⟩
        rw [← hw]
        try rw [← hf]
        refine hK.out _ _ ⟨(Bx4.out.next hb).1, (By4.out.next hb).1⟩ (fun hHeld => ?_)
        clear hK K hw hf
        have Sz5 := Lib.hid (Below.size hb)
        have Bel5 := Lib.hid (belNext Bel4.out hb)
        have Bx5 := Lib.hid (Bx4.out.next hb)
        have By5 := Lib.hid (By4.out.next hb)
        have RsD5 := Lib.hid (RsD4.out.next hb)
        have Zv5 := Lib.hid (Zv4.out.next hb)
        have Zw5 := Lib.hid (Zw4.out.next hb)
        have BelC5 := Lib.hid (belNext BelC4.out hb)
        have Zl5 := Lib.hid (Zl4.out.next hb)
        clear hb Bel4 Bx4 By4 RsD4 Zv4 Zw4 BelC4 Zl4
        try simp only [Act.put, List.setIfInBounds_toArray, List.set_cons_zero, List.set_cons_succ, List.getElem_toArray, List.getElem_cons_succ, List.getElem_cons_zero]
        refine wpAnyH_ready (rs := [6, 10]) (by kernel_rfl) (by simp) ?_
        refine AllReadyH.cons rfl (fun K hK => ?_) (AllReadyH.cons rfl (fun K hK => ?_) AllReadyH.nil)
        · go_simp
          refine (specDivMod_any ((2 : Int) ^ k * z) z' S2 S' A2 A' n2 n' c2 c' w5 Zl5.out.zv Zw5.out H0.out.2 (by have := Hn2.out; omega) (by have := Hm.out; omega)).mono ?_
          rintro e w6 ⟨Sq, Aq, nq, cq, Sr, Ar, nr, cr, rfl, hzq, hzr, hb0⟩
          have hb : Below w5.heap.size w5 w6 := hb0
          have Zq6 := Lib.hid (hzq.cast_ (z' := z.sign * z'.sign * ((qN z k / qD z' k : Nat) : Int)) (by rw [HS2.out, HS.out.2, abs_pow_mul, qN_up, qD_up]))
          have HSr : Hid (Sr = (z.sign * ((qN z k % qD z' k : Nat) : Int)).sign) := Lib.hid (by rw [hzr.1, HS2.out, abs_pow_mul, qN_up, qD_up])
          clear hzq hzr
          refine hK.out _ _ ⟨(Bx5.out.next hb).1, (By5.out.next hb).1⟩ (fun hHeld => ?_)
          clear hK K hb0
          have Sz6 := Lib.hid (Below.size hb)
          have Bel6 := Lib.hid (belNext Bel5.out hb)
          have Bx6 := Lib.hid (Bx5.out.next hb)
          have By6 := Lib.hid (By5.out.next hb)
          have RsD6 := Lib.hid (RsD5.out.next hb)
          have Zv6 := Lib.hid (Zv5.out.next hb)
          have Zw6 := Lib.hid (Zw5.out.next hb)
          have BelC6 := Lib.hid (belNext BelC5.out hb)
          have Zl6 := Lib.hid (Zl5.out.next hb)
          have RsR6 := Lib.hid (RsR5.out.next hb)
          clear hb Bel5 Bx5 By5 RsD5 Zv5 Zw5 BelC5 Zl5 RsR5
          try simp only [Act.put, List.setIfInBounds_toArray, List.set_cons_zero, List.set_cons_succ, List.getElem_toArray, List.getElem_cons_succ, List.getElem_cons_zero]
          clear Zl6
          refine wpAnyH_take (i := 7) (v := ?_) rfl (by kernel_rfl) (by kernel_rfl) (by kernel_rfl) (fun _ _ _ h => h) (Or.inl ⟨by rfl, ?_⟩) (by assumption) ?_
          rotate_left
          · (intro w hSw; (try dsimp only at hSw); go_simp; (try with_reducible rfl))
          try simp only [Act.put, List.setIfInBounds_toArray, List.set_cons_zero, List.set_cons_succ, List.getElem_toArray, List.getElem_cons_succ, List.getElem_cons_zero]
          refine wpAnyH_take (i := 8) (v := ?_) rfl (by kernel_rfl) (by kernel_rfl) (by kernel_rfl) (fun _ _ _ h => h) (Or.inl ⟨by rfl, ?_⟩) (by assumption) ?_
          rotate_left
          · (intro w hSw; (try dsimp only at hSw); go_simp; (try with_reducible rfl))
          try simp only [Act.put, List.setIfInBounds_toArray, List.set_cons_zero, List.set_cons_succ, List.getElem_toArray, List.getElem_cons_succ, List.getElem_cons_zero]
          refine wpAnyH_take (i := 9) (v := ?_) rfl (by kernel_rfl) (by kernel_rfl) (by kernel_rfl) (fun _ _ _ h => h) (Or.inl ⟨by rfl, ?_⟩) (by assumption) ?_
          rotate_left
          · (intro w hSw; (try dsimp only at hSw); go_simp; (try with_reducible rfl))
          try simp only [Act.put, List.setIfInBounds_toArray, List.set_cons_zero, List.set_cons_succ, List.getElem_toArray, List.getElem_cons_succ, List.getElem_cons_zero]
          refine wpAnyH_ready (rs := [10]) (by kernel_rfl) (by simp) ?_
          refine AllReadyH.cons rfl (fun K hK => ?_) AllReadyH.nil
          · go_simp
            obtain ⟨w7, hw⟩ : ∃ w7, w7 = w6.alloc (.cells #[.int .i64 0, .slice none 0 0] 28) := ⟨_, rfl⟩
            have hb : Below w6.heap.size w6 w7 := by rw [hw]; exact belAlloc1 _ _
            obtain ⟨fQ, hf⟩ : ∃ f, f = w6.heap.size := ⟨_, rfl⟩
            have RsQ7 : Hid (ResB w7 fQ) := Lib.hid (by rw [hw, hf]; exact resBox_new w6 _)
            have HfQ : Hid (w6.heap.size ≤ fQ ∧ fQ < w7.heap.size) := Lib.hid ⟨by omega, RsQ7.out.2⟩
            rw [← hw]
            try rw [← hf]
            refine hK.out _ _ ⟨(Bx6.out.next hb).1, (By6.out.next hb).1⟩ (fun hHeld => ?_)
            clear hK K hw hf
            have Sz7 := Lib.hid (Below.size hb)
            have Bel7 := Lib.hid (belNext Bel6.out hb)
            have Bx7 := Lib.hid (Bx6.out.next hb)
            have By7 := Lib.hid (By6.out.next hb)
            have RsD7 := Lib.hid (RsD6.out.next hb)
            have Zv7 := Lib.hid (Zv6.out.next hb)
            have Zw7 := Lib.hid (Zw6.out.next hb)
            have BelC7 := Lib.hid (belNext BelC6.out hb)
            have RsR7 := Lib.hid (RsR6.out.next hb)
            have Zq7 := Lib.hid (Zq6.out.next hb)
            clear hb Bel6 Bx6 By6 RsD6 Zv6 Zw6 BelC6 RsR6 Zq6
            try simp only [Act.put, List.setIfInBounds_toArray, List.set_cons_zero, List.set_cons_succ, List.getElem_toArray, List.getElem_cons_succ, List.getElem_cons_zero]
            obtain ⟨⟨r1, r2, r3, r4⟩, r5⟩ := RsQ7.out
            obtain ⟨⟨s1, s2, s3, s4⟩, s5⟩ := RsR7.out
            have hqr : fR ≠ fQ := (by have zz0 := Hlt.out; have zz1 := Sz2.out; have zz2 := Sz3.out; have zz3 := Sz4.out; have zz4 := Sz5.out; have zz5 := HfR.out; have zz6 := Sz6.out; have zz7 := Sz7.out; have zz8 := HfQ.out; first | omega | (simp; done) | (simp; omega))
            refine wpAnyH_ready (rs := [12]) (by kernel_rfl) (by simp) ?_
            refine AllReadyH.cons rfl (fun K hK => ?_) AllReadyH.nil
            go_simp
            refine hK.out _ (st w7 fQ Sq Aq nq cq) ⟨(Bx7.out.st_1 (by have zz0 := Hlt.out; have zz1 := Sz2.out; have zz2 := Sz3.out; have zz3 := Sz4.out; have zz4 := Sz5.out; have zz5 := HfR.out; have zz6 := Sz6.out; have zz7 := Sz7.out; have zz8 := HfQ.out; first | omega | (simp; done) | (simp; omega))).1, (By7.out.st_1 (by have zz0 := Hlt.out; have zz1 := Sz2.out; have zz2 := Sz3.out; have zz3 := Sz4.out; have zz4 := Sz5.out; have zz5 := HfR.out; have zz6 := Sz6.out; have zz7 := Sz7.out; have zz8 := HfQ.out; first | omega | (simp; done) | (simp; omega))).1⟩ (fun hHeld => ?_)
            clear hK K
            try simp only [Act.put, List.setIfInBounds_toArray, List.set_cons_zero, List.set_cons_succ, List.getElem_toArray, List.getElem_cons_succ, List.getElem_cons_zero]
            obtain ⟨⟨u1, u2, u3, u4⟩, u5⟩ := resB_st (b' := fQ) (s := Sq) (A := Aq) (n := nq) (c := cq) RsR7.out hqr
            have Bq1 := Lib.hid (Box.made (s := Sq) (A := Aq) (n := nq) (c := cq) ⟨r1, r2⟩ r5)
            have Bq2 := Lib.hid (Bq1.out.st_ (b := fR) (s := Sr) (A := Ar) (n := nr) (c := cr) (fun e => hqr e.symm))
            have Br2 := Lib.hid (Box.made (s := Sr) (A := Ar) (n := nr) (c := cr) ⟨u1, u2⟩ u5)
            have Zy : Hid (ZO (st (st w7 fQ Sq Aq nq cq) fR Sr Ar nr cr) _ _ _ Sq Aq nq cq) := Lib.hid ((Zq7.out.st_ (.inr (by have zz0 := Hlt.out; have zz1 := Sz2.out; have zz2 := Sz3.out; have zz3 := Sz4.out; have zz4 := Sz5.out; have zz5 := HfR.out; have zz6 := Sz6.out; have zz7 := Sz7.out; have zz8 := HfQ.out; first | omega | (simp; done) | (simp; omega)))).st_ (.inl (by have zz0 := Hlt.out; have zz1 := Sz2.out; have zz2 := Sz3.out; have zz3 := Sz4.out; have zz4 := Sz5.out; have zz5 := HfR.out; have zz6 := Sz6.out; have zz7 := Sz7.out; have zz8 := HfQ.out; first | omega | (simp; done) | (simp; omega))))
            refine wpAnyH_ready (rs := [13]) (by kernel_rfl) (by simp) ?_
            refine AllReadyH.cons rfl (fun K hK => ?_) AllReadyH.nil
            go_simp
            refine hK.out _ (st (st w7 fQ Sq Aq nq cq) fR Sr Ar nr cr) ⟨((Bx7.out.st_1 (by have zz0 := Hlt.out; have zz1 := Sz2.out; have zz2 := Sz3.out; have zz3 := Sz4.out; have zz4 := Sz5.out; have zz5 := HfR.out; have zz6 := Sz6.out; have zz7 := Sz7.out; have zz8 := HfQ.out; first | omega | (simp; done) | (simp; omega))).st_1 (by have zz0 := Hlt.out; have zz1 := Sz2.out; have zz2 := Sz3.out; have zz3 := Sz4.out; have zz4 := Sz5.out; have zz5 := HfR.out; have zz6 := Sz6.out; have zz7 := Sz7.out; have zz8 := HfQ.out; first | omega | (simp; done) | (simp; omega))).1, ((By7.out.st_1 (by have zz0 := Hlt.out; have zz1 := Sz2.out; have zz2 := Sz3.out; have zz3 := Sz4.out; have zz4 := Sz5.out; have zz5 := HfR.out; have zz6 := Sz6.out; have zz7 := Sz7.out; have zz8 := HfQ.out; first | omega | (simp; done) | (simp; omega))).st_1 (by have zz0 := Hlt.out; have zz1 := Sz2.out; have zz2 := Sz3.out; have zz3 := Sz4.out; have zz4 := Sz5.out; have zz5 := HfR.out; have zz6 := Sz6.out; have zz7 := Sz7.out; have zz8 := HfQ.out; first | omega | (simp; done) | (simp; omega))).1⟩ (fun hHeld => ?_)
            clear hK K hHeld
            try simp only [Act.put, List.setIfInBounds_toArray, List.set_cons_zero, List.set_cons_succ, List.getElem_toArray, List.getElem_cons_succ, List.getElem_cons_zero]
            refine wpAnyH_done (by kernel_rfl) ?_ _
            go_wp2_with fail
            go_meet
            exact ⟨fQ, fR, Sq, Aq, nq, cq, Sr, Ar, nr, cr, rfl, rfl, Bq2.out, Br2.out, Zy.out.zv, HSr.out, belSt (belSt BelC7.out (by have zz0 := Hlt.out; have zz1 := Sz2.out; have zz2 := Sz3.out; have zz3 := Sz4.out; have zz4 := Sz5.out; have zz5 := HfR.out; have zz6 := Sz6.out; have zz7 := Sz7.out; have zz8 := HfQ.out; first | omega | (simp; done) | (simp; omega))) (by have zz0 := Hlt.out; have zz1 := Sz2.out; have zz2 := Sz3.out; have zz3 := Sz4.out; have zz4 := Sz5.out; have zz5 := HfR.out; have zz6 := Sz6.out; have zz7 := Sz7.out; have zz8 := HfQ.out; first | omega | (simp; done) | (simp; omega))⟩
        · go_simp
          obtain ⟨w6, hw⟩ : ∃ w6, w6 = w5.alloc (.cells #[.int .i64 0, .slice none 0 0] 28) := ⟨_, rfl⟩
          have hb : Below w5.heap.size w5 w6 := by rw [hw]; exact belAlloc1 _ _
          obtain ⟨fQ, hf⟩ : ∃ f, f = w5.heap.size := ⟨_, rfl⟩
          have RsQ6 : Hid (ResB w6 fQ) := Lib.hid (by rw [hw, hf]; exact resBox_new w5 _)
          have HfQ : Hid (w5.heap.size ≤ fQ ∧ fQ < w6.heap.size) := Lib.hid ⟨by omega, RsQ6.out.2⟩
          rw [← hw]
          try rw [← hf]
          refine hK.out _ _ ⟨(Bx5.out.next hb).1, (By5.out.next hb).1⟩ (fun hHeld => ?_)
          clear hK K hw hf
          have Sz6 := Lib.hid (Below.size hb)
          have Bel6 := Lib.hid (belNext Bel5.out hb)
          have Bx6 := Lib.hid (Bx5.out.next hb)
          have By6 := Lib.hid (By5.out.next hb)
          have RsD6 := Lib.hid (RsD5.out.next hb)
          have Zv6 := Lib.hid (Zv5.out.next hb)
          have Zw6 := Lib.hid (Zw5.out.next hb)
          have BelC6 := Lib.hid (belNext BelC5.out hb)
          have Zl6 := Lib.hid (Zl5.out.next hb)
          have RsR6 := Lib.hid (RsR5.out.next hb)
          clear hb Bel5 Bx5 By5 RsD5 Zv5 Zw5 BelC5 Zl5 RsR5
          try simp only [Act.put, List.setIfInBounds_toArray, List.set_cons_zero, List.set_cons_succ, List.getElem_toArray, List.getElem_cons_succ, List.getElem_cons_zero]
          refine wpAnyH_ready (rs := [6]) (by kernel_rfl) (by simp) ?_
          refine AllReadyH.cons rfl (fun K hK => ?_) AllReadyH.nil
          · go_simp
            refine (specDivMod_any ((2 : Int) ^ k * z) z' S2 S' A2 A' n2 n' c2 c' w6 Zl6.out.zv Zw6.out H0.out.2 (by have := Hn2.out; omega) (by have := Hm.out; omega)).mono ?_
            rintro e w7 ⟨Sq, Aq, nq, cq, Sr, Ar, nr, cr, rfl, hzq, hzr, hb0⟩
            have hb : Below w6.heap.size w6 w7 := hb0
            have Zq7 := Lib.hid (hzq.cast_ (z' := z.sign * z'.sign * ((qN z k / qD z' k : Nat) : Int)) (by rw [HS2.out, HS.out.2, abs_pow_mul, qN_up, qD_up]))
            have HSr : Hid (Sr = (z.sign * ((qN z k % qD z' k : Nat) : Int)).sign) := Lib.hid (by rw [hzr.1, HS2.out, abs_pow_mul, qN_up, qD_up])
            clear hzq hzr
            refine hK.out _ _ ⟨(Bx6.out.next hb).1, (By6.out.next hb).1⟩ (fun hHeld => ?_)
            clear hK K hb0
            have Sz7 := Lib.hid (Below.size hb)
            have Bel7 := Lib.hid (belNext Bel6.out hb)
            have Bx7 := Lib.hid (Bx6.out.next hb)
            have By7 := Lib.hid (By6.out.next hb)
            have RsD7 := Lib.hid (RsD6.out.next hb)
            have Zv7 := Lib.hid (Zv6.out.next hb)
            have Zw7 := Lib.hid (Zw6.out.next hb)
            have BelC7 := Lib.hid (belNext BelC6.out hb)
            have Zl7 := Lib.hid (Zl6.out.next hb)
            have RsR7 := Lib.hid (RsR6.out.next hb)
            have RsQ7 := Lib.hid (RsQ6.out.next hb)
            clear hb Bel6 Bx6 By6 RsD6 Zv6 Zw6 BelC6 Zl6 RsR6 RsQ6
            try simp only [Act.put, List.setIfInBounds_toArray, List.set_cons_zero, List.set_cons_succ, List.getElem_toArray, List.getElem_cons_succ, List.getElem_cons_zero]
            clear Zl7
            refine wpAnyH_take (i := 7) (v := ?_) rfl (by kernel_rfl) (by kernel_rfl) (by kernel_rfl) (fun _ _ _ h => h) (Or.inl ⟨by rfl, ?_⟩) (by assumption) ?_
            rotate_left
            · (intro w hSw; (try dsimp only at hSw); go_simp; (try with_reducible rfl))
            try simp only [Act.put, List.setIfInBounds_toArray, List.set_cons_zero, List.set_cons_succ, List.getElem_toArray, List.getElem_cons_succ, List.getElem_cons_zero]
            refine wpAnyH_take (i := 8) (v := ?_) rfl (by kernel_rfl) (by kernel_rfl) (by kernel_rfl) (fun _ _ _ h => h) (Or.inl ⟨by rfl, ?_⟩) (by assumption) ?_
            rotate_left
            · (intro w hSw; (try dsimp only at hSw); go_simp; (try with_reducible rfl))
            try simp only [Act.put, List.setIfInBounds_toArray, List.set_cons_zero, List.set_cons_succ, List.getElem_toArray, List.getElem_cons_succ, List.getElem_cons_zero]
            refine wpAnyH_take (i := 9) (v := ?_) rfl (by kernel_rfl) (by kernel_rfl) (by kernel_rfl) (fun _ _ _ h => h) (Or.inl ⟨by rfl, ?_⟩) (by assumption) ?_
            rotate_left
            · (intro w hSw; (try dsimp only at hSw); go_simp; (try with_reducible rfl))
            try simp only [Act.put, List.setIfInBounds_toArray, List.set_cons_zero, List.set_cons_succ, List.getElem_toArray, List.getElem_cons_succ, List.getElem_cons_zero]
            obtain ⟨⟨r1, r2, r3, r4⟩, r5⟩ := RsQ7.out
            obtain ⟨⟨s1, s2, s3, s4⟩, s5⟩ := RsR7.out
            have hqr : fR ≠ fQ := (by have zz0 := Hlt.out; have zz1 := Sz2.out; have zz2 := Sz3.out; have zz3 := Sz4.out; have zz4 := Sz5.out; have zz5 := HfR.out; have zz6 := Sz6.out; have zz7 := HfQ.out; have zz8 := Sz7.out; first | omega | (simp; done) | (simp; omega))
            refine wpAnyH_ready (rs := [12]) (by kernel_rfl) (by simp) ?_
            refine AllReadyH.cons rfl (fun K hK => ?_) AllReadyH.nil
            go_simp
            refine hK.out _ (st w7 fQ Sq Aq nq cq) ⟨(Bx7.out.st_1 (by have zz0 := Hlt.out; have zz1 := Sz2.out; have zz2 := Sz3.out; have zz3 := Sz4.out; have zz4 := Sz5.out; have zz5 := HfR.out; have zz6 := Sz6.out; have zz7 := HfQ.out; have zz8 := Sz7.out; first | omega | (simp; done) | (simp; omega))).1, (By7.out.st_1 (by have zz0 := Hlt.out; have zz1 := Sz2.out; have zz2 := Sz3.out; have zz3 := Sz4.out; have zz4 := Sz5.out; have zz5 := HfR.out; have zz6 := Sz6.out; have zz7 := HfQ.out; have zz8 := Sz7.out; first | omega | (simp; done) | (simp; omega))).1⟩ (fun hHeld => ?_)
            clear hK K
            try simp only [Act.put, List.setIfInBounds_toArray, List.set_cons_zero, List.set_cons_succ, List.getElem_toArray, List.getElem_cons_succ, List.getElem_cons_zero]
            obtain ⟨⟨u1, u2, u3, u4⟩, u5⟩ := resB_st (b' := fQ) (s := Sq) (A := Aq) (n := nq) (c := cq) RsR7.out hqr
            have Bq1 := Lib.hid (Box.made (s := Sq) (A := Aq) (n := nq) (c := cq) ⟨r1, r2⟩ r5)
            have Bq2 := Lib.hid (Bq1.out.st_ (b := fR) (s := Sr) (A := Ar) (n := nr) (c := cr) (fun e => hqr e.symm))
            have Br2 := Lib.hid (Box.made (s := Sr) (A := Ar) (n := nr) (c := cr) ⟨u1, u2⟩ u5)
            have Zy : Hid (ZO (st (st w7 fQ Sq Aq nq cq) fR Sr Ar nr cr) _ _ _ Sq Aq nq cq) := Lib.hid ((Zq7.out.st_ (.inl (by have zz0 := Hlt.out; have zz1 := Sz2.out; have zz2 := Sz3.out; have zz3 := Sz4.out; have zz4 := Sz5.out; have zz5 := HfR.out; have zz6 := Sz6.out; have zz7 := HfQ.out; have zz8 := Sz7.out; first | omega | (simp; done) | (simp; omega)))).st_ (.inl (by have zz0 := Hlt.out; have zz1 := Sz2.out; have zz2 := Sz3.out; have zz3 := Sz4.out; have zz4 := Sz5.out; have zz5 := HfR.out; have zz6 := Sz6.out; have zz7 := HfQ.out; have zz8 := Sz7.out; first | omega | (simp; done) | (simp; omega))))
            refine wpAnyH_ready (rs := [13]) (by kernel_rfl) (by simp) ?_
            refine AllReadyH.cons rfl (fun K hK => ?_) AllReadyH.nil
            go_simp
            refine hK.out _ (st (st w7 fQ Sq Aq nq cq) fR Sr Ar nr cr) ⟨((Bx7.out.st_1 (by have zz0 := Hlt.out; have zz1 := Sz2.out; have zz2 := Sz3.out; have zz3 := Sz4.out; have zz4 := Sz5.out; have zz5 := HfR.out; have zz6 := Sz6.out; have zz7 := HfQ.out; have zz8 := Sz7.out; first | omega | (simp; done) | (simp; omega))).st_1 (by have zz0 := Hlt.out; have zz1 := Sz2.out; have zz2 := Sz3.out; have zz3 := Sz4.out; have zz4 := Sz5.out; have zz5 := HfR.out; have zz6 := Sz6.out; have zz7 := HfQ.out; have zz8 := Sz7.out; first | omega | (simp; done) | (simp; omega))).1, ((By7.out.st_1 (by have zz0 := Hlt.out; have zz1 := Sz2.out; have zz2 := Sz3.out; have zz3 := Sz4.out; have zz4 := Sz5.out; have zz5 := HfR.out; have zz6 := Sz6.out; have zz7 := HfQ.out; have zz8 := Sz7.out; first | omega | (simp; done) | (simp; omega))).st_1 (by have zz0 := Hlt.out; have zz1 := Sz2.out; have zz2 := Sz3.out; have zz3 := Sz4.out; have zz4 := Sz5.out; have zz5 := HfR.out; have zz6 := Sz6.out; have zz7 := HfQ.out; have zz8 := Sz7.out; first | omega | (simp; done) | (simp; omega))).1⟩ (fun hHeld => ?_)
            clear hK K hHeld
            try simp only [Act.put, List.setIfInBounds_toArray, List.set_cons_zero, List.set_cons_succ, List.getElem_toArray, List.getElem_cons_succ, List.getElem_cons_zero]
            refine wpAnyH_done (by kernel_rfl) ?_ _
            go_wp2_with fail
            go_meet
            exact ⟨fQ, fR, Sq, Aq, nq, cq, Sr, Ar, nr, cr, rfl, rfl, Bq2.out, Br2.out, Zy.out.zv, HSr.out, belSt (belSt BelC7.out (by have zz0 := Hlt.out; have zz1 := Sz2.out; have zz2 := Sz3.out; have zz3 := Sz4.out; have zz4 := Sz5.out; have zz5 := HfR.out; have zz6 := Sz6.out; have zz7 := HfQ.out; have zz8 := Sz7.out; first | omega | (simp; done) | (simp; omega))) (by have zz0 := Hlt.out; have zz1 := Sz2.out; have zz2 := Sz3.out; have zz3 := Sz4.out; have zz4 := Sz5.out; have zz5 := HfR.out; have zz6 := Sz6.out; have zz7 := HfQ.out; have zz8 := Sz7.out; first | omega | (simp; done) | (simp; omega))⟩
    · go_simp
      obtain ⟨w4, hw⟩ : ∃ w4, w4 = (w3.alloc (.cells #[.int .i64 0, .slice none 0 0] 28)).drew := ⟨_, rfl⟩
      have hb : Below w3.heap.size w3 w4 := by rw [hw]; exact (belAlloc1 _ _).drew
      obtain ⟨fQ, hf⟩ : ∃ f, f = w3.heap.size := ⟨_, rfl⟩
      have RsQ4 : Hid (ResB w4 fQ) := Lib.hid (by rw [hw, hf]; exact resBox_new w3 _)
      have HfQ : Hid (w3.heap.size ≤ fQ ∧ fQ < w4.heap.size) := Lib.hid ⟨by omega, RsQ4.out.2⟩
      rw [← hw]
      try rw [← hf]
      refine hK.out _ _ ⟨(Bx3.out.next hb).1, (By3.out.next hb).1⟩ (fun hHeld => ?_)
      clear hK K hw hf
      have Sz4 := Lib.hid (Below.size hb)
      have Bel4 := Lib.hid (belNext Bel3.out hb)
      have Bx4 := Lib.hid (Bx3.out.next hb)
      have By4 := Lib.hid (By3.out.next hb)
      have RsD4 := Lib.hid (RsD3.out.next hb)
      have Zv4 := Lib.hid (Zv3.out.next hb)
      have Zw4 := Lib.hid (Zw3.out.next hb)
      have BelC4 := Lib.hid (belNext BelC3.out hb)
      clear hb Bel3 Bx3 By3 RsD3 Zv3 Zw3 BelC3
      try simp only [Act.put, List.setIfInBounds_toArray, List.set_cons_zero, List.set_cons_succ, List.getElem_toArray, List.getElem_cons_succ, List.getElem_cons_zero]
      refine wpAnyH_ready (rs := [3, 11]) (by kernel_rfl) (by simp) ?_
      refine AllReadyH.cons rfl (fun K hK => ?_) (AllReadyH.cons rfl (fun K hK => ?_) AllReadyH.nil)
      · go_simp
        refine (specLeft_any z S A n c k w4 Zv4.out (by have := Hm.out; omega) (by omega)).mono ?_
        rintro e w5 ⟨S2, A2, n2, c2, rfl, hzo, hb0⟩
        have hb : Below w4.heap.size w4 w5 := hb0
        have Zl5 := Lib.hid hzo
        have Hn2 : Hid ((n2 : Int) ≤ 10) := Lib.hid (by have h := shl_len Hn.out k; have e := hzo.2.1; rw [abs_pow_mul] at e; rw [e] at h; have := Hm.out; omega)
        have HS2 : Hid (S2 = z.sign) := Lib.hid (by rw [hzo.1]; exact sign_pow_mul _ _)
        clear hzo
        refine hK.out _ _ ⟨(Bx4.out.next hb).1, (By4.out.next hb).1⟩ (fun hHeld => ?_)
        clear hK K hb0
        have Sz5 := Lib.hid (Below.size hb)
        have Bel5 := Lib.hid (belNext Bel4.out hb)
        have Bx5 := Lib.hid (Bx4.out.next hb)
        have By5 := Lib.hid (By4.out.next hb)
        have RsD5 := Lib.hid (RsD4.out.next hb)
        have Zv5 := Lib.hid (Zv4.out.next hb)
        have Zw5 := Lib.hid (Zw4.out.next hb)
        have BelC5 := Lib.hid (belNext BelC4.out hb)
        have RsQ5 := Lib.hid (RsQ4.out.next hb)
        clear hb Bel4 Bx4 By4 RsD4 Zv4 Zw4 BelC4 RsQ4
        try simp only [Act.put, List.setIfInBounds_toArray, List.set_cons_zero, List.set_cons_succ, List.getElem_toArray, List.getElem_cons_succ, List.getElem_cons_zero]
        refine wpAnyH_ready (rs := [6, 11]) (by kernel_rfl) (by simp) ?_
        refine AllReadyH.cons rfl (fun K hK => ?_) (AllReadyH.cons rfl (fun K hK => ?_) AllReadyH.nil)
        · go_simp
          refine (specDivMod_any ((2 : Int) ^ k * z) z' S2 S' A2 A' n2 n' c2 c' w5 Zl5.out.zv Zw5.out H0.out.2 (by have := Hn2.out; omega) (by have := Hm.out; omega)).mono ?_
          rintro e w6 ⟨Sq, Aq, nq, cq, Sr, Ar, nr, cr, rfl, hzq, hzr, hb0⟩
          have hb : Below w5.heap.size w5 w6 := hb0
          have Zq6 := Lib.hid (hzq.cast_ (z' := z.sign * z'.sign * ((qN z k / qD z' k : Nat) : Int)) (by rw [HS2.out, HS.out.2, abs_pow_mul, qN_up, qD_up]))
          have HSr : Hid (Sr = (z.sign * ((qN z k % qD z' k : Nat) : Int)).sign) := Lib.hid (by rw [hzr.1, HS2.out, abs_pow_mul, qN_up, qD_up])
          clear hzq hzr
          refine hK.out _ _ ⟨(Bx5.out.next hb).1, (By5.out.next hb).1⟩ (fun hHeld => ?_)
          clear hK K hb0
          have Sz6 := Lib.hid (Below.size hb)
          have Bel6 := Lib.hid (belNext Bel5.out hb)
          have Bx6 := Lib.hid (Bx5.out.next hb)
          have By6 := Lib.hid (By5.out.next hb)
          have RsD6 := Lib.hid (RsD5.out.next hb)
          have Zv6 := Lib.hid (Zv5.out.next hb)
          have Zw6 := Lib.hid (Zw5.out.next hb)
          have BelC6 := Lib.hid (belNext BelC5.out hb)
          have RsQ6 := Lib.hid (RsQ5.out.next hb)
          have Zl6 := Lib.hid (Zl5.out.next hb)
          clear hb Bel5 Bx5 By5 RsD5 Zv5 Zw5 BelC5 RsQ5 Zl5
          try simp only [Act.put, List.setIfInBounds_toArray, List.set_cons_zero, List.set_cons_succ, List.getElem_toArray, List.getElem_cons_succ, List.getElem_cons_zero]
          clear Zl6
          refine wpAnyH_take (i := 7) (v := ?_) rfl (by kernel_rfl) (by kernel_rfl) (by kernel_rfl) (fun _ _ _ h => h) (Or.inl ⟨by rfl, ?_⟩) (by assumption) ?_
          rotate_left
          · (intro w hSw; (try dsimp only at hSw); go_simp; (try with_reducible rfl))
          try simp only [Act.put, List.setIfInBounds_toArray, List.set_cons_zero, List.set_cons_succ, List.getElem_toArray, List.getElem_cons_succ, List.getElem_cons_zero]
          refine wpAnyH_take (i := 8) (v := ?_) rfl (by kernel_rfl) (by kernel_rfl) (by kernel_rfl) (fun _ _ _ h => h) (Or.inl ⟨by rfl, ?_⟩) (by assumption) ?_
          rotate_left
          · (intro w hSw; (try dsimp only at hSw); go_simp; (try with_reducible rfl))
          try simp only [Act.put, List.setIfInBounds_toArray, List.set_cons_zero, List.set_cons_succ, List.getElem_toArray, List.getElem_cons_succ, List.getElem_cons_zero]
          refine wpAnyH_take (i := 9) (v := ?_) rfl (by kernel_rfl) (by kernel_rfl) (by kernel_rfl) (fun _ _ _ h => h) (Or.inl ⟨by rfl, ?_⟩) (by assumption) ?_
          rotate_left
          · (intro w hSw; (try dsimp only at hSw); go_simp; (try with_reducible rfl))
          try simp only [Act.put, List.setIfInBounds_toArray, List.set_cons_zero, List.set_cons_succ, List.getElem_toArray, List.getElem_cons_succ, List.getElem_cons_zero]
          refine wpAnyH_ready (rs := [11]) (by kernel_rfl) (by simp) ?_
          refine AllReadyH.cons rfl (fun K hK => ?_) AllReadyH.nil
          · go_simp
            obtain ⟨w7, hw⟩ : ∃ w7, w7 = w6.alloc (.cells #[.int .i64 0, .slice none 0 0] 28) := ⟨_, rfl⟩
            have hb : Below w6.heap.size w6 w7 := by rw [hw]; exact belAlloc1 _ _
            obtain ⟨fR, hf⟩ : ∃ f, f = w6.heap.size := ⟨_, rfl⟩
            have RsR7 : Hid (ResB w7 fR) := Lib.hid (by rw [hw, hf]; exact resBox_new w6 _)
            have HfR : Hid (w6.heap.size ≤ fR ∧ fR < w7.heap.size) := Lib.hid ⟨by omega, RsR7.out.2⟩
            rw [← hw]
            try rw [← hf]
            refine hK.out _ _ ⟨(Bx6.out.next hb).1, (By6.out.next hb).1⟩ (fun hHeld => ?_)
            clear hK K hw hf
            have Sz7 := Lib.hid (Below.size hb)
            have Bel7 := Lib.hid (belNext Bel6.out hb)
            have Bx7 := Lib.hid (Bx6.out.next hb)
            have By7 := Lib.hid (By6.out.next hb)
            have RsD7 := Lib.hid (RsD6.out.next hb)
            have Zv7 := Lib.hid (Zv6.out.next hb)
            have Zw7 := Lib.hid (Zw6.out.next hb)
            have BelC7 := Lib.hid (belNext BelC6.out hb)
            have RsQ7 := Lib.hid (RsQ6.out.next hb)
            have Zq7 := Lib.hid (Zq6.out.next hb)
            clear hb Bel6 Bx6 By6 RsD6 Zv6 Zw6 BelC6 RsQ6 Zq6
            try simp only [Act.put, List.setIfInBounds_toArray, List.set_cons_zero, List.set_cons_succ, List.getElem_toArray, List.getElem_cons_succ, List.getElem_cons_zero]
            obtain ⟨⟨r1, r2, r3, r4⟩, r5⟩ := RsQ7.out
            obtain ⟨⟨s1, s2, s3, s4⟩, s5⟩ := RsR7.out
            have hqr : fR ≠ fQ := (by have zz0 := Hlt.out; have zz1 := Sz2.out; have zz2 := Sz3.out; have zz3 := Sz4.out; have zz4 := HfQ.out; have zz5 := Sz5.out; have zz6 := Sz6.out; have zz7 := Sz7.out; have zz8 := HfR.out; first | omega | (simp; done) | (simp; omega))
            refine wpAnyH_ready (rs := [12]) (by kernel_rfl) (by simp) ?_
            refine AllReadyH.cons rfl (fun K hK => ?_) AllReadyH.nil
            go_simp
            refine hK.out _ (st w7 fQ Sq Aq nq cq) ⟨(Bx7.out.st_1 (by have zz0 := Hlt.out; have zz1 := Sz2.out; have zz2 := Sz3.out; have zz3 := Sz4.out; have zz4 := HfQ.out; have zz5 := Sz5.out; have zz6 := Sz6.out; have zz7 := Sz7.out; have zz8 := HfR.out; first | omega | (simp; done) | (simp; omega))).1, (By7.out.st_1 (by have zz0 := Hlt.out; have zz1 := Sz2.out; have zz2 := Sz3.out; have zz3 := Sz4.out; have zz4 := HfQ.out; have zz5 := Sz5.out; have zz6 := Sz6.out; have zz7 := Sz7.out; have zz8 := HfR.out; first | omega | (simp; done) | (simp; omega))).1⟩ (fun hHeld => ?_)
            clear hK K
            try simp only [Act.put, List.setIfInBounds_toArray, List.set_cons_zero, List.set_cons_succ, List.getElem_toArray, List.getElem_cons_succ, List.getElem_cons_zero]
            obtain ⟨⟨u1, u2, u3, u4⟩, u5⟩ := resB_st (b' := fQ) (s := Sq) (A := Aq) (n := nq) (c := cq) RsR7.out hqr
            have Bq1 := Lib.hid (Box.made (s := Sq) (A := Aq) (n := nq) (c := cq) ⟨r1, r2⟩ r5)
            have Bq2 := Lib.hid (Bq1.out.st_ (b := fR) (s := Sr) (A := Ar) (n := nr) (c := cr) (fun e => hqr e.symm))
            have Br2 := Lib.hid (Box.made (s := Sr) (A := Ar) (n := nr) (c := cr) ⟨u1, u2⟩ u5)
            have Zy : Hid (ZO (st (st w7 fQ Sq Aq nq cq) fR Sr Ar nr cr) _ _ _ Sq Aq nq cq) := Lib.hid ((Zq7.out.st_ (.inl (by have zz0 := Hlt.out; have zz1 := Sz2.out; have zz2 := Sz3.out; have zz3 := Sz4.out; have zz4 := HfQ.out; have zz5 := Sz5.out; have zz6 := Sz6.out; have zz7 := Sz7.out; have zz8 := HfR.out; first | omega | (simp; done) | (simp; omega)))).st_ (.inr (by have zz0 := Hlt.out; have zz1 := Sz2.out; have zz2 := Sz3.out; have zz3 := Sz4.out; have zz4 := HfQ.out; have zz5 := Sz5.out; have zz6 := Sz6.out; have zz7 := Sz7.out; have zz8 := HfR.out; first | omega | (simp; done) | (simp; omega))))
            refine wpAnyH_ready (rs := [13]) (by kernel_rfl) (by simp) ?_
            refine AllReadyH.cons rfl (fun K hK => ?_) AllReadyH.nil
            go_simp
            refine hK.out _ (st (st w7 fQ Sq Aq nq cq) fR Sr Ar nr cr) ⟨((Bx7.out.st_1 (by have zz0 := Hlt.out; have zz1 := Sz2.out; have zz2 := Sz3.out; have zz3 := Sz4.out; have zz4 := HfQ.out; have zz5 := Sz5.out; have zz6 := Sz6.out; have zz7 := Sz7.out; have zz8 := HfR.out; first | omega | (simp; done) | (simp; omega))).st_1 (by have zz0 := Hlt.out; have zz1 := Sz2.out; have zz2 := Sz3.out; have zz3 := Sz4.out; have zz4 := HfQ.out; have zz5 := Sz5.out; have zz6 := Sz6.out; have zz7 := Sz7.out; have zz8 := HfR.out; first | omega | (simp; done) | (simp; omega))).1, ((By7.out.st_1 (by have zz0 := Hlt.out; have zz1 := Sz2.out; have zz2 := Sz3.out; have zz3 := Sz4.out; have zz4 := HfQ.out; have zz5 := Sz5.out; have zz6 := Sz6.out; have zz7 := Sz7.out; have zz8 := HfR.out; first | omega | (simp; done) | (simp; omega))).st_1 (by have zz0 := Hlt.out; have zz1 := Sz2.out; have zz2 := Sz3.out; have zz3 := Sz4.out; have zz4 := HfQ.out; have zz5 := Sz5.out; have zz6 := Sz6.out; have zz7 := Sz7.out; have zz8 := HfR.out; first | omega | (simp; done) | (simp; omega))).1⟩ (fun hHeld => ?_)
            clear hK K hHeld
            try simp only [Act.put, List.setIfInBounds_toArray, List.set_cons_zero, List.set_cons_succ, List.getElem_toArray, List.getElem_cons_succ, List.getElem_cons_zero]
            refine wpAnyH_done (by kernel_rfl) ?_ _
            go_wp2_with fail
            go_meet
            exact ⟨fQ, fR, Sq, Aq, nq, cq, Sr, Ar, nr, cr, rfl, rfl, Bq2.out, Br2.out, Zy.out.zv, HSr.out, belSt (belSt BelC7.out (by have zz0 := Hlt.out; have zz1 := Sz2.out; have zz2 := Sz3.out; have zz3 := Sz4.out; have zz4 := HfQ.out; have zz5 := Sz5.out; have zz6 := Sz6.out; have zz7 := Sz7.out; have zz8 := HfR.out; first | omega | (simp; done) | (simp; omega))) (by have zz0 := Hlt.out; have zz1 := Sz2.out; have zz2 := Sz3.out; have zz3 := Sz4.out; have zz4 := HfQ.out; have zz5 := Sz5.out; have zz6 := Sz6.out; have zz7 := Sz7.out; have zz8 := HfR.out; first | omega | (simp; done) | (simp; omega))⟩
        · go_simp
          obtain ⟨w6, hw⟩ : ∃ w6, w6 = w5.alloc (.cells #[.int .i64 0, .slice none 0 0] 28) := ⟨_, rfl⟩
          have hb : Below w5.heap.size w5 w6 := by rw [hw]; exact belAlloc1 _ _
          obtain ⟨fR, hf⟩ : ∃ f, f = w5.heap.size := ⟨_, rfl⟩
          have RsR6 : Hid (ResB w6 fR) := Lib.hid (by rw [hw, hf]; exact resBox_new w5 _)
          have HfR : Hid (w5.heap.size ≤ fR ∧ fR < w6.heap.size) := Lib.hid ⟨by omega, RsR6.out.2⟩
          rw [← hw]
          try rw [← hf]
          refine hK.out _ _ ⟨(Bx5.out.next hb).1, (By5.out.next hb).1⟩ (fun hHeld => ?_)
          clear hK K hw hf
          have Sz6 := Lib.hid (Below.size hb)
          have Bel6 := Lib.hid (belNext Bel5.out hb)
          have Bx6 := Lib.hid (Bx5.out.next hb)
          have By6 := Lib.hid (By5.out.next hb)
          have RsD6 := Lib.hid (RsD5.out.next hb)
          have Zv6 := Lib.hid (Zv5.out.next hb)
          have Zw6 := Lib.hid (Zw5.out.next hb)
          have BelC6 := Lib.hid (belNext BelC5.out hb)
          have RsQ6 := Lib.hid (RsQ5.out.next hb)
          have Zl6 := Lib.hid (Zl5.out.next hb)
          clear hb Bel5 Bx5 By5 RsD5 Zv5 Zw5 BelC5 RsQ5 Zl5
          try simp only [Act.put, List.setIfInBounds_toArray, List.set_cons_zero, List.set_cons_succ, List.getElem_toArray, List.getElem_cons_succ, List.getElem_cons_zero]
          refine wpAnyH_ready (rs := [6]) (by kernel_rfl) (by simp) ?_
          refine AllReadyH.cons rfl (fun K hK => ?_) AllReadyH.nil
          · go_simp
            refine (specDivMod_any ((2 : Int) ^ k * z) z' S2 S' A2 A' n2 n' c2 c' w6 Zl6.out.zv Zw6.out H0.out.2 (by have := Hn2.out; omega) (by have := Hm.out; omega)).mono ?_
            rintro e w7 ⟨Sq, Aq, nq, cq, Sr, Ar, nr, cr, rfl, hzq, hzr, hb0⟩
            have hb : Below w6.heap.size w6 w7 := hb0
            have Zq7 := Lib.hid (hzq.cast_ (z' := z.sign * z'.sign * ((qN z k / qD z' k : Nat) : Int)) (by rw [HS2.out, HS.out.2, abs_pow_mul, qN_up, qD_up]))
            have HSr : Hid (Sr = (z.sign * ((qN z k % qD z' k : Nat) : Int)).sign) := Lib.hid (by rw [hzr.1, HS2.out, abs_pow_mul, qN_up, qD_up])
            clear hzq hzr
            refine hK.out _ _ ⟨(Bx6.out.next hb).1, (By6.out.next hb).1⟩ (fun hHeld => ?_)
            clear hK K hb0
            have Sz7 := Lib.hid (Below.size hb)
            have Bel7 := Lib.hid (belNext Bel6.out hb)
            have Bx7 := Lib.hid (Bx6.out.next hb)
            have By7 := Lib.hid (By6.out.next hb)
            have RsD7 := Lib.hid (RsD6.out.next hb)
            have Zv7 := Lib.hid (Zv6.out.next hb)
            have Zw7 := Lib.hid (Zw6.out.next hb)
            have BelC7 := Lib.hid (belNext BelC6.out hb)
            have RsQ7 := Lib.hid (RsQ6.out.next hb)
            have Zl7 := Lib.hid (Zl6.out.next hb)
            have RsR7 := Lib.hid (RsR6.out.next hb)
            clear hb Bel6 Bx6 By6 RsD6 Zv6 Zw6 BelC6 RsQ6 Zl6 RsR6
            try simp only [Act.put, List.setIfInBounds_toArray, List.set_cons_zero, List.set_cons_succ, List.getElem_toArray, List.getElem_cons_succ, List.getElem_cons_zero]
            clear Zl7
            refine wpAnyH_take (i := 7) (v := ?_) rfl (by kernel_rfl) (by kernel_rfl) (by kernel_rfl) (fun _ _ _ h => h) (Or.inl ⟨by rfl, ?_⟩) (by assumption) ?_
            rotate_left
            · (intro w hSw; (try dsimp only at hSw); go_simp; (try with_reducible rfl))
            try simp only [Act.put, List.setIfInBounds_toArray, List.set_cons_zero, List.set_cons_succ, List.getElem_toArray, List.getElem_cons_succ, List.getElem_cons_zero]
            refine wpAnyH_take (i := 8) (v := ?_) rfl (by kernel_rfl) (by kernel_rfl) (by kernel_rfl) (fun _ _ _ h => h) (Or.inl ⟨by rfl, ?_⟩) (by assumption) ?_
            rotate_left
            · (intro w hSw; (try dsimp only at hSw); go_simp; (try with_reducible rfl))
            try simp only [Act.put, List.setIfInBounds_toArray, List.set_cons_zero, List.set_cons_succ, List.getElem_toArray, List.getElem_cons_succ, List.getElem_cons_zero]
            refine wpAnyH_take (i := 9) (v := ?_) rfl (by kernel_rfl) (by kernel_rfl) (by kernel_rfl) (fun _ _ _ h => h) (Or.inl ⟨by rfl, ?_⟩) (by assumption) ?_
            rotate_left
            · (intro w hSw; (try dsimp only at hSw); go_simp; (try with_reducible rfl))
            try simp only [Act.put, List.setIfInBounds_toArray, List.set_cons_zero, List.set_cons_succ, List.getElem_toArray, List.getElem_cons_succ, List.getElem_cons_zero]
            obtain ⟨⟨r1, r2, r3, r4⟩, r5⟩ := RsQ7.out
            obtain ⟨⟨s1, s2, s3, s4⟩, s5⟩ := RsR7.out
            have hqr : fR ≠ fQ := (by have zz0 := Hlt.out; have zz1 := Sz2.out; have zz2 := Sz3.out; have zz3 := Sz4.out; have zz4 := HfQ.out; have zz5 := Sz5.out; have zz6 := Sz6.out; have zz7 := HfR.out; have zz8 := Sz7.out; first | omega | (simp; done) | (simp; omega))
            refine wpAnyH_ready (rs := [12]) (by kernel_rfl) (by simp) ?_
            refine AllReadyH.cons rfl (fun K hK => ?_) AllReadyH.nil
            go_simp
            refine hK.out _ (st w7 fQ Sq Aq nq cq) ⟨(Bx7.out.st_1 (by have zz0 := Hlt.out; have zz1 := Sz2.out; have zz2 := Sz3.out; have zz3 := Sz4.out; have zz4 := HfQ.out; have zz5 := Sz5.out; have zz6 := Sz6.out; have zz7 := HfR.out; have zz8 := Sz7.out; first | omega | (simp; done) | (simp; omega))).1, (By7.out.st_1 (by have zz0 := Hlt.out; have zz1 := Sz2.out; have zz2 := Sz3.out; have zz3 := Sz4.out; have zz4 := HfQ.out; have zz5 := Sz5.out; have zz6 := Sz6.out; have zz7 := HfR.out; have zz8 := Sz7.out; first | omega | (simp; done) | (simp; omega))).1⟩ (fun hHeld => ?_)
            clear hK K
            try simp only [Act.put, List.setIfInBounds_toArray, List.set_cons_zero, List.set_cons_succ, List.getElem_toArray, List.getElem_cons_succ, List.getElem_cons_zero]
            obtain ⟨⟨u1, u2, u3, u4⟩, u5⟩ := resB_st (b' := fQ) (s := Sq) (A := Aq) (n := nq) (c := cq) RsR7.out hqr
            have Bq1 := Lib.hid (Box.made (s := Sq) (A := Aq) (n := nq) (c := cq) ⟨r1, r2⟩ r5)
            have Bq2 := Lib.hid (Bq1.out.st_ (b := fR) (s := Sr) (A := Ar) (n := nr) (c := cr) (fun e => hqr e.symm))
            have Br2 := Lib.hid (Box.made (s := Sr) (A := Ar) (n := nr) (c := cr) ⟨u1, u2⟩ u5)
            have Zy : Hid (ZO (st (st w7 fQ Sq Aq nq cq) fR Sr Ar nr cr) _ _ _ Sq Aq nq cq) := Lib.hid ((Zq7.out.st_ (.inl (by have zz0 := Hlt.out; have zz1 := Sz2.out; have zz2 := Sz3.out; have zz3 := Sz4.out; have zz4 := HfQ.out; have zz5 := Sz5.out; have zz6 := Sz6.out; have zz7 := HfR.out; have zz8 := Sz7.out; first | omega | (simp; done) | (simp; omega)))).st_ (.inl (by have zz0 := Hlt.out; have zz1 := Sz2.out; have zz2 := Sz3.out; have zz3 := Sz4.out; have zz4 := HfQ.out; have zz5 := Sz5.out; have zz6 := Sz6.out; have zz7 := HfR.out; have zz8 := Sz7.out; first | omega | (simp; done) | (simp; omega))))
            refine wpAnyH_ready (rs := [13]) (by kernel_rfl) (by simp) ?_
            refine AllReadyH.cons rfl (fun K hK => ?_) AllReadyH.nil
            go_simp
            refine hK.out _ (st (st w7 fQ Sq Aq nq cq) fR Sr Ar nr cr) ⟨((Bx7.out.st_1 (by have zz0 := Hlt.out; have zz1 := Sz2.out; have zz2 := Sz3.out; have zz3 := Sz4.out; have zz4 := HfQ.out; have zz5 := Sz5.out; have zz6 := Sz6.out; have zz7 := HfR.out; have zz8 := Sz7.out; first | omega | (simp; done) | (simp; omega))).st_1 (by have zz0 := Hlt.out; have zz1 := Sz2.out; have zz2 := Sz3.out; have zz3 := Sz4.out; have zz4 := HfQ.out; have zz5 := Sz5.out; have zz6 := Sz6.out; have zz7 := HfR.out; have zz8 := Sz7.out; first | omega | (simp; done) | (simp; omega))).1, ((By7.out.st_1 (by have zz0 := Hlt.out; have zz1 := Sz2.out; have zz2 := Sz3.out; have zz3 := Sz4.out; have zz4 := HfQ.out; have zz5 := Sz5.out; have zz6 := Sz6.out; have zz7 := HfR.out; have zz8 := Sz7.out; first | omega | (simp; done) | (simp; omega))).st_1 (by have zz0 := Hlt.out; have zz1 := Sz2.out; have zz2 := Sz3.out; have zz3 := Sz4.out; have zz4 := HfQ.out; have zz5 := Sz5.out; have zz6 := Sz6.out; have zz7 := HfR.out; have zz8 := Sz7.out; first | omega | (simp; done) | (simp; omega))).1⟩ (fun hHeld => ?_)
            clear hK K hHeld
            try simp only [Act.put, List.setIfInBounds_toArray, List.set_cons_zero, List.set_cons_succ, List.getElem_toArray, List.getElem_cons_succ, List.getElem_cons_zero]
            refine wpAnyH_done (by kernel_rfl) ?_ _
            go_wp2_with fail
            go_meet
            exact ⟨fQ, fR, Sq, Aq, nq, cq, Sr, Ar, nr, cr, rfl, rfl, Bq2.out, Br2.out, Zy.out.zv, HSr.out, belSt (belSt BelC7.out (by have zz0 := Hlt.out; have zz1 := Sz2.out; have zz2 := Sz3.out; have zz3 := Sz4.out; have zz4 := HfQ.out; have zz5 := Sz5.out; have zz6 := Sz6.out; have zz7 := HfR.out; have zz8 := Sz7.out; first | omega | (simp; done) | (simp; omega))) (by have zz0 := Hlt.out; have zz1 := Sz2.out; have zz2 := Sz3.out; have zz3 := Sz4.out; have zz4 := HfQ.out; have zz5 := Sz5.out; have zz6 := Sz6.out; have zz7 := HfR.out; have zz8 := Sz7.out; first | omega | (simp; done) | (simp; omega))⟩
      · go_simp
        obtain ⟨w5, hw⟩ : ∃ w5, w5 = w4.alloc (.cells #[.int .i64 0, .slice none 0 0] 28) := ⟨_, rfl⟩
        have hb : Below w4.heap.size w4 w5 := by rw [hw]; exact belAlloc1 _ _
        obtain ⟨fR, hf⟩ : ∃ f, f = w4.heap.size := ⟨_, rfl⟩
        have RsR5 : Hid (ResB w5 fR) := Lib.hid (by rw [hw, hf]; exact resBox_new w4 _)
        have HfR : Hid (w4.heap.size ≤ fR ∧ fR < w5.heap.size) := Lib.hid ⟨by omega, RsR5.out.2⟩
        rw [← hw]
        try rw [← hf]
        refine hK.out _ _ ⟨(Bx4.out.next hb).1, (By4.out.next hb).1⟩ (fun hHeld => ?_)
        clear hK K hw hf
        have Sz5 := Lib.hid (Below.size hb)
        have Bel5 := Lib.hid (belNext Bel4.out hb)
        have Bx5 := Lib.hid (Bx4.out.next hb)
        have By5 := Lib.hid (By4.out.next hb)
        have RsD5 := Lib.hid (RsD4.out.next hb)
        have Zv5 := Lib.hid (Zv4.out.next hb)
        have Zw5 := Lib.hid (Zw4.out.next hb)
        have BelC5 := Lib.hid (belNext BelC4.out hb)
        have RsQ5 := Lib.hid (RsQ4.out.next hb)
        clear hb Bel4 Bx4 By4 RsD4 Zv4 Zw4 BelC4 RsQ4
        try simp only [Act.put, List.setIfInBounds_toArray, List.set_cons_zero, List.set_cons_succ, List.getElem_toArray, List.getElem_cons_succ, List.getElem_cons_zero]
        refine wpAnyH_ready (rs := [3]) (by kernel_rfl) (by simp) ?_
        refine AllReadyH.cons rfl (fun K hK => ?_) AllReadyH.nil
        · go_simp
          refine (specLeft_any z S A n c k w5 Zv5.out (by have := Hm.out; omega) (by omega)).mono ?_
          rintro e w6 ⟨S2, A2, n2, c2, rfl, hzo, hb0⟩
          have hb : Below w5.heap.size w5 w6 := hb0
          have Zl6 := Lib.hid hzo
          have Hn2 : Hid ((n2 : Int) ≤ 10) := Lib.hid (by have h := shl_len Hn.out k; have e := hzo.2.1; rw [abs_pow_mul] at e; rw [e] at h; have := Hm.out; omega)
          have HS2 : Hid (S2 = z.sign) := Lib.hid (by rw [hzo.1]; exact sign_pow_mul _ _)
          clear hzo
          refine hK.out _ _ ⟨(Bx5.out.next hb).1, (By5.out.next hb).1⟩ (fun hHeld => ?_)
          clear hK K hb0
          have Sz6 := Lib.hid (Below.size hb)
          have Bel6 := Lib.hid (belNext Bel5.out hb)
          have Bx6 := Lib.hid (Bx5.out.next hb)
          have By6 := Lib.hid (By5.out.next hb)
          have RsD6 := Lib.hid (RsD5.out.next hb)
          have Zv6 := Lib.hid (Zv5.out.next hb)
          have Zw6 := Lib.hid (Zw5.out.next hb)
          have BelC6 := Lib.hid (belNext BelC5.out hb)
          have RsQ6 := Lib.hid (RsQ5.out.next hb)
          have RsR6 := Lib.hid (RsR5.out.next hb)
          clear hb Bel5 Bx5 By5 RsD5 Zv5 Zw5 BelC5 RsQ5 RsR5
          try simp only [Act.put, List.setIfInBounds_toArray, List.set_cons_zero, List.set_cons_succ, List.getElem_toArray, List.getElem_cons_succ, List.getElem_cons_zero]
          refine wpAnyH_ready (rs := [6]) (by kernel_rfl) (by simp) ?_
          refine AllReadyH.cons rfl (fun K hK => ?_) AllReadyH.nil
          · go_simp
            refine (specDivMod_any ((2 : Int) ^ k * z) z' S2 S' A2 A' n2 n' c2 c' w6 Zl6.out.zv Zw6.out H0.out.2 (by have := Hn2.out; omega) (by have := Hm.out; omega)).mono ?_
            rintro e w7 ⟨Sq, Aq, nq, cq, Sr, Ar, nr, cr, rfl, hzq, hzr, hb0⟩
            have hb : Below w6.heap.size w6 w7 := hb0
            have Zq7 := Lib.hid (hzq.cast_ (z' := z.sign * z'.sign * ((qN z k / qD z' k : Nat) : Int)) (by rw [HS2.out, HS.out.2, abs_pow_mul, qN_up, qD_up]))
            have HSr : Hid (Sr = (z.sign * ((qN z k % qD z' k : Nat) : Int)).sign) := Lib.hid (by rw [hzr.1, HS2.out, abs_pow_mul, qN_up, qD_up])
            clear hzq hzr
            refine hK.out _ _ ⟨(Bx6.out.next hb).1, (By6.out.next hb).1⟩ (fun hHeld => ?_)
            clear hK K hb0
            have Sz7 := Lib.hid (Below.size hb)
            have Bel7 := Lib.hid (belNext Bel6.out hb)
            have Bx7 := Lib.hid (Bx6.out.next hb)
            have By7 := Lib.hid (By6.out.next hb)
            have RsD7 := Lib.hid (RsD6.out.next hb)
            have Zv7 := Lib.hid (Zv6.out.next hb)
            have Zw7 := Lib.hid (Zw6.out.next hb)
            have BelC7 := Lib.hid (belNext BelC6.out hb)
            have RsQ7 := Lib.hid (RsQ6.out.next hb)
            have RsR7 := Lib.hid (RsR6.out.next hb)
            have Zl7 := Lib.hid (Zl6.out.next hb)
            clear hb Bel6 Bx6 By6 RsD6 Zv6 Zw6 BelC6 RsQ6 RsR6 Zl6
            try simp only [Act.put, List.setIfInBounds_toArray, List.set_cons_zero, List.set_cons_succ, List.getElem_toArray, List.getElem_cons_succ, List.getElem_cons_zero]
            clear Zl7
            refine wpAnyH_take (i := 7) (v := ?_) rfl (by kernel_rfl) (by kernel_rfl) (by kernel_rfl) (fun _ _ _ h => h) (Or.inl ⟨by rfl, ?_⟩) (by assumption) ?_
            rotate_left
            · (intro w hSw; (try dsimp only at hSw); go_simp; (try with_reducible rfl))
            try simp only [Act.put, List.setIfInBounds_toArray, List.set_cons_zero, List.set_cons_succ, List.getElem_toArray, List.getElem_cons_succ, List.getElem_cons_zero]
            refine wpAnyH_take (i := 8) (v := ?_) rfl (by kernel_rfl) (by kernel_rfl) (by kernel_rfl) (fun _ _ _ h => h) (Or.inl ⟨by rfl, ?_⟩) (by assumption) ?_
            rotate_left
            · (intro w hSw; (try dsimp only at hSw); go_simp; (try with_reducible rfl))
            try simp only [Act.put, List.setIfInBounds_toArray, List.set_cons_zero, List.set_cons_succ, List.getElem_toArray, List.getElem_cons_succ, List.getElem_cons_zero]
            refine wpAnyH_take (i := 9) (v := ?_) rfl (by kernel_rfl) (by kernel_rfl) (by kernel_rfl) (fun _ _ _ h => h) (Or.inl ⟨by rfl, ?_⟩) (by assumption) ?_
            rotate_left
            · (intro w hSw; (try dsimp only at hSw); go_simp; (try with_reducible rfl))
            try simp only [Act.put, List.setIfInBounds_toArray, List.set_cons_zero, List.set_cons_succ, List.getElem_toArray, List.getElem_cons_succ, List.getElem_cons_zero]
            obtain ⟨⟨r1, r2, r3, r4⟩, r5⟩ := RsQ7.out
            obtain ⟨⟨s1, s2, s3, s4⟩, s5⟩ := RsR7.out
            have hqr : fR ≠ fQ := (by have zz0 := Hlt.out; have zz1 := Sz2.out; have zz2 := Sz3.out; have zz3 := Sz4.out; have zz4 := HfQ.out; have zz5 := Sz5.out; have zz6 := HfR.out; have zz7 := Sz6.out; have zz8 := Sz7.out; first | omega | (simp; done) | (simp; omega))
            refine wpAnyH_ready (rs := [12]) (by kernel_rfl) (by simp) ?_
            refine AllReadyH.cons rfl (fun K hK => ?_) AllReadyH.nil
            go_simp
            refine hK.out _ (st w7 fQ Sq Aq nq cq) ⟨(Bx7.out.st_1 (by have zz0 := Hlt.out; have zz1 := Sz2.out; have zz2 := Sz3.out; have zz3 := Sz4.out; have zz4 := HfQ.out; have zz5 := Sz5.out; have zz6 := HfR.out; have zz7 := Sz6.out; have zz8 := Sz7.out; first | omega | (simp; done) | (simp; omega))).1, (By7.out.st_1 (by have zz0 := Hlt.out; have zz1 := Sz2.out; have zz2 := Sz3.out; have zz3 := Sz4.out; have zz4 := HfQ.out; have zz5 := Sz5.out; have zz6 := HfR.out; have zz7 := Sz6.out; have zz8 := Sz7.out; first | omega | (simp; done) | (simp; omega))).1⟩ (fun hHeld => ?_)
            clear hK K
            try simp only [Act.put, List.setIfInBounds_toArray, List.set_cons_zero, List.set_cons_succ, List.getElem_toArray, List.getElem_cons_succ, List.getElem_cons_zero]
            obtain ⟨⟨u1, u2, u3, u4⟩, u5⟩ := resB_st (b' := fQ) (s := Sq) (A := Aq) (n := nq) (c := cq) RsR7.out hqr
            have Bq1 := Lib.hid (Box.made (s := Sq) (A := Aq) (n := nq) (c := cq) ⟨r1, r2⟩ r5)
            have Bq2 := Lib.hid (Bq1.out.st_ (b := fR) (s := Sr) (A := Ar) (n := nr) (c := cr) (fun e => hqr e.symm))
            have Br2 := Lib.hid (Box.made (s := Sr) (A := Ar) (n := nr) (c := cr) ⟨u1, u2⟩ u5)
            have Zy : Hid (ZO (st (st w7 fQ Sq Aq nq cq) fR Sr Ar nr cr) _ _ _ Sq Aq nq cq) := Lib.hid ((Zq7.out.st_ (.inl (by have zz0 := Hlt.out; have zz1 := Sz2.out; have zz2 := Sz3.out; have zz3 := Sz4.out; have zz4 := HfQ.out; have zz5 := Sz5.out; have zz6 := HfR.out; have zz7 := Sz6.out; have zz8 := Sz7.out; first | omega | (simp; done) | (simp; omega)))).st_ (.inl (by have zz0 := Hlt.out; have zz1 := Sz2.out; have zz2 := Sz3.out; have zz3 := Sz4.out; have zz4 := HfQ.out; have zz5 := Sz5.out; have zz6 := HfR.out; have zz7 := Sz6.out; have zz8 := Sz7.out; first | omega | (simp; done) | (simp; omega))))
            refine wpAnyH_ready (rs := [13]) (by kernel_rfl) (by simp) ?_
            refine AllReadyH.cons rfl (fun K hK => ?_) AllReadyH.nil
            go_simp
            refine hK.out _ (st (st w7 fQ Sq Aq nq cq) fR Sr Ar nr cr) ⟨((Bx7.out.st_1 (by have zz0 := Hlt.out; have zz1 := Sz2.out; have zz2 := Sz3.out; have zz3 := Sz4.out; have zz4 := HfQ.out; have zz5 := Sz5.out; have zz6 := HfR.out; have zz7 := Sz6.out; have zz8 := Sz7.out; first | omega | (simp; done) | (simp; omega))).st_1 (by have zz0 := Hlt.out; have zz1 := Sz2.out; have zz2 := Sz3.out; have zz3 := Sz4.out; have zz4 := HfQ.out; have zz5 := Sz5.out; have zz6 := HfR.out; have zz7 := Sz6.out; have zz8 := Sz7.out; first | omega | (simp; done) | (simp; omega))).1, ((By7.out.st_1 (by have zz0 := Hlt.out; have zz1 := Sz2.out; have zz2 := Sz3.out; have zz3 := Sz4.out; have zz4 := HfQ.out; have zz5 := Sz5.out; have zz6 := HfR.out; have zz7 := Sz6.out; have zz8 := Sz7.out; first | omega | (simp; done) | (simp; omega))).st_1 (by have zz0 := Hlt.out; have zz1 := Sz2.out; have zz2 := Sz3.out; have zz3 := Sz4.out; have zz4 := HfQ.out; have zz5 := Sz5.out; have zz6 := HfR.out; have zz7 := Sz6.out; have zz8 := Sz7.out; first | omega | (simp; done) | (simp; omega))).1⟩ (fun hHeld => ?_)
            clear hK K hHeld
            try simp only [Act.put, List.setIfInBounds_toArray, List.set_cons_zero, List.set_cons_succ, List.getElem_toArray, List.getElem_cons_succ, List.getElem_cons_zero]
            refine wpAnyH_done (by kernel_rfl) ?_ _
            go_wp2_with fail
            go_meet
            exact ⟨fQ, fR, Sq, Aq, nq, cq, Sr, Ar, nr, cr, rfl, rfl, Bq2.out, Br2.out, Zy.out.zv, HSr.out, belSt (belSt BelC7.out (by have zz0 := Hlt.out; have zz1 := Sz2.out; have zz2 := Sz3.out; have zz3 := Sz4.out; have zz4 := HfQ.out; have zz5 := Sz5.out; have zz6 := HfR.out; have zz7 := Sz6.out; have zz8 := Sz7.out; first | omega | (simp; done) | (simp; omega))) (by have zz0 := Hlt.out; have zz1 := Sz2.out; have zz2 := Sz3.out; have zz3 := Sz4.out; have zz4 := HfQ.out; have zz5 := Sz5.out; have zz6 := HfR.out; have zz7 := Sz6.out; have zz8 := Sz7.out; first | omega | (simp; done) | (simp; omega))⟩
    · go_simp
      obtain ⟨w4, hw⟩ : ∃ w4, w4 = (w3.alloc (.cells #[.int .i64 0, .slice none 0 0] 28)).drew := ⟨_, rfl⟩
      have hb : Below w3.heap.size w3 w4 := by rw [hw]; exact (belAlloc1 _ _).drew
      obtain ⟨fR, hf⟩ : ∃ f, f = w3.heap.size := ⟨_, rfl⟩
      have RsR4 : Hid (ResB w4 fR) := Lib.hid (by rw [hw, hf]; exact resBox_new w3 _)
      have HfR : Hid (w3.heap.size ≤ fR ∧ fR < w4.heap.size) := Lib.hid ⟨by omega, RsR4.out.2⟩
      rw [← hw]
      try rw [← hf]
      refine hK.out _ _ ⟨(Bx3.out.next hb).1, (By3.out.next hb).1⟩ (fun hHeld => ?_)
      clear hK K hw hf
      have Sz4 := Lib.hid (Below.size hb)
      have Bel4 := Lib.hid (belNext Bel3.out hb)
      have Bx4 := Lib.hid (Bx3.out.next hb)
      have By4 := Lib.hid (By3.out.next hb)
      have RsD4 := Lib.hid (RsD3.out.next hb)
      have Zv4 := Lib.hid (Zv3.out.next hb)
      have Zw4 := Lib.hid (Zw3.out.next hb)
      have BelC4 := Lib.hid (belNext BelC3.out hb)
      clear hb Bel3 Bx3 By3 RsD3 Zv3 Zw3 BelC3
      try simp only [Act.put, List.setIfInBounds_toArray, List.set_cons_zero, List.set_cons_succ, List.getElem_toArray, List.getElem_cons_succ, List.getElem_cons_zero]
      refine wpAnyH_ready (rs := [3, 10]) (by kernel_rfl) (by simp) ?_
      refine AllReadyH.cons rfl (fun K hK => ?_) (AllReadyH.cons rfl (fun K hK => ?_) AllReadyH.nil)
      · go_simp
        refine (specLeft_any z S A n c k w4 Zv4.out (by have := Hm.out; omega) (by omega)).mono ?_
        rintro e w5 ⟨S2, A2, n2, c2, rfl, hzo, hb0⟩
        have hb : Below w4.heap.size w4 w5 := hb0
        have Zl5 := Lib.hid hzo
        have Hn2 : Hid ((n2 : Int) ≤ 10) := Lib.hid (by have h := shl_len Hn.out k; have e := hzo.2.1; rw [abs_pow_mul] at e; rw [e] at h; have := Hm.out; omega)
        have HS2 : Hid (S2 = z.sign) := Lib.hid (by rw [hzo.1]; exact sign_pow_mul _ _)
        clear hzo
        refine hK.out _ _ ⟨(Bx4.out.next hb).1, (By4.out.next hb).1⟩ (fun hHeld => ?_)
        clear hK K hb0
        have Sz5 := Lib.hid (Below.size hb)
        have Bel5 := Lib.hid (belNext Bel4.out hb)
        have Bx5 := Lib.hid (Bx4.out.next hb)
        have By5 := Lib.hid (By4.out.next hb)
        have RsD5 := Lib.hid (RsD4.out.next hb)
        have Zv5 := Lib.hid (Zv4.out.next hb)
        have Zw5 := Lib.hid (Zw4.out.next hb)
        have BelC5 := Lib.hid (belNext BelC4.out hb)
        have RsR5 := Lib.hid (RsR4.out.next hb)
        clear hb Bel4 Bx4 By4 RsD4 Zv4 Zw4 BelC4 RsR4
        try simp only [Act.put, List.setIfInBounds_toArray, List.set_cons_zero, List.set_cons_succ, List.getElem_toArray, List.getElem_cons_succ, List.getElem_cons_zero]
        refine wpAnyH_ready (rs := [6, 10]) (by kernel_rfl) (by simp) ?_
        refine AllReadyH.cons rfl (fun K hK => ?_) (AllReadyH.cons rfl (fun K hK => ?_) AllReadyH.nil)
        · go_simp
          refine (specDivMod_any ((2 : Int) ^ k * z) z' S2 S' A2 A' n2 n' c2 c' w5 Zl5.out.zv Zw5.out H0.out.2 (by have := Hn2.out; omega) (by have := Hm.out; omega)).mono ?_
          rintro e w6 ⟨Sq, Aq, nq, cq, Sr, Ar, nr, cr, rfl, hzq, hzr, hb0⟩
          have hb : Below w5.heap.size w5 w6 := hb0
          have Zq6 := Lib.hid (hzq.cast_ (z' := z.sign * z'.sign * ((qN z k / qD z' k : Nat) : Int)) (by rw [HS2.out, HS.out.2, abs_pow_mul, qN_up, qD_up]))
          have HSr : Hid (Sr = (z.sign * ((qN z k % qD z' k : Nat) : Int)).sign) := Lib.hid (by rw [hzr.1, HS2.out, abs_pow_mul, qN_up, qD_up])
          clear hzq hzr
          refine hK.out _ _ ⟨(Bx5.out.next hb).1, (By5.out.next hb).1⟩ (fun hHeld => ?_)
          clear hK K hb0
          have Sz6 := Lib.hid (Below.size hb)
          have Bel6 := Lib.hid (belNext Bel5.out hb)
          have Bx6 := Lib.hid (Bx5.out.next hb)
          have By6 := Lib.hid (By5.out.next hb)
          have RsD6 := Lib.hid (RsD5.out.next hb)
          have Zv6 := Lib.hid (Zv5.out.next hb)
          have Zw6 := Lib.hid (Zw5.out.next hb)
          have BelC6 := Lib.hid (belNext BelC5.out hb)
          have RsR6 := Lib.hid (RsR5.out.next hb)
          have Zl6 := Lib.hid (Zl5.out.next hb)
          clear hb Bel5 Bx5 By5 RsD5 Zv5 Zw5 BelC5 RsR5 Zl5
          try simp only [Act.put, List.setIfInBounds_toArray, List.set_cons_zero, List.set_cons_succ, List.getElem_toArray, List.getElem_cons_succ, List.getElem_cons_zero]
          clear Zl6
          refine wpAnyH_take (i := 7) (v := ?_) rfl (by kernel_rfl) (by kernel_rfl) (by kernel_rfl) (fun _ _ _ h => h) (Or.inl ⟨by rfl, ?_⟩) (by assumption) ?_
          rotate_left
          · (intro w hSw; (try dsimp only at hSw); go_simp; (try with_reducible rfl))
          try simp only [Act.put, List.setIfInBounds_toArray, List.set_cons_zero, List.set_cons_succ, List.getElem_toArray, List.getElem_cons_succ, List.getElem_cons_zero]
          refine wpAnyH_take (i := 8) (v := ?_) rfl (by kernel_rfl) (by kernel_rfl) (by kernel_rfl) (fun _ _ _ h => h) (Or.inl ⟨by rfl, ?_⟩) (by assumption) ?_
          rotate_left
          · (intro w hSw; (try dsimp only at hSw); go_simp; (try with_reducible rfl))
          try simp only [Act.put, List.setIfInBounds_toArray, List.set_cons_zero, List.set_cons_succ, List.getElem_toArray, List.getElem_cons_succ, List.getElem_cons_zero]
          refine wpAnyH_take (i := 9) (v := ?_) rfl (by kernel_rfl) (by kernel_rfl) (by kernel_rfl) (fun _ _ _ h => h) (Or.inl ⟨by rfl, ?_⟩) (by assumption) ?_
          rotate_left
          · (intro w hSw; (try dsimp only at hSw); go_simp; (try with_reducible rfl))
          try simp only [Act.put, List.setIfInBounds_toArray, List.set_cons_zero, List.set_cons_succ, List.getElem_toArray, List.getElem_cons_succ, List.getElem_cons_zero]
          refine wpAnyH_ready (rs := [10]) (by kernel_rfl) (by simp) ?_
          refine AllReadyH.cons rfl (fun K hK => ?_) AllReadyH.nil
          · go_simp
            obtain ⟨w7, hw⟩ : ∃ w7, w7 = w6.alloc (.cells #[.int .i64 0, .slice none 0 0] 28) := ⟨_, rfl⟩
            have hb : Below w6.heap.size w6 w7 := by rw [hw]; exact belAlloc1 _ _
            obtain ⟨fQ, hf⟩ : ∃ f, f = w6.heap.size := ⟨_, rfl⟩
            have RsQ7 : Hid (ResB w7 fQ) := Lib.hid (by rw [hw, hf]; exact resBox_new w6 _)
            have HfQ : Hid (w6.heap.size ≤ fQ ∧ fQ < w7.heap.size) := Lib.hid ⟨by omega, RsQ7.out.2⟩
            rw [← hw]
            try rw [← hf]
            refine hK.out _ _ ⟨(Bx6.out.next hb).1, (By6.out.next hb).1⟩ (fun hHeld => ?_)
            clear hK K hw hf
            have Sz7 := Lib.hid (Below.size hb)
            have Bel7 := Lib.hid (belNext Bel6.out hb)
            have Bx7 := Lib.hid (Bx6.out.next hb)
            have By7 := Lib.hid (By6.out.next hb)
            have RsD7 := Lib.hid (RsD6.out.next hb)
            have Zv7 := Lib.hid (Zv6.out.next hb)
            have Zw7 := Lib.hid (Zw6.out.next hb)
            have BelC7 := Lib.hid (belNext BelC6.out hb)
            have RsR7 := Lib.hid (RsR6.out.next hb)
            have Zq7 := Lib.hid (Zq6.out.next hb)
            clear hb Bel6 Bx6 By6 RsD6 Zv6 Zw6 BelC6 RsR6 Zq6
            try simp only [Act.put, List.setIfInBounds_toArray, List.set_cons_zero, List.set_cons_succ, List.getElem_toArray, List.getElem_cons_succ, List.getElem_cons_zero]
            obtain ⟨⟨r1, r2, r3, r4⟩, r5⟩ := RsQ7.out
            obtain ⟨⟨s1, s2, s3, s4⟩, s5⟩ := RsR7.out
            have hqr : fR ≠ fQ := (by have zz0 := Hlt.out; have zz1 := Sz2.out; have zz2 := Sz3.out; have zz3 := Sz4.out; have zz4 := HfR.out; have zz5 := Sz5.out; have zz6 := Sz6.out; have zz7 := Sz7.out; have zz8 := HfQ.out; first | omega | (simp; done) | (simp; omega))
            refine wpAnyH_ready (rs := [12]) (by kernel_rfl) (by simp) ?_
            refine AllReadyH.cons rfl (fun K hK => ?_) AllReadyH.nil
            go_simp
            refine hK.out _ (st w7 fQ Sq Aq nq cq) ⟨(Bx7.out.st_1 (by have zz0 := Hlt.out; have zz1 := Sz2.out; have zz2 := Sz3.out; have zz3 := Sz4.out; have zz4 := HfR.out; have zz5 := Sz5.out; have zz6 := Sz6.out; have zz7 := Sz7.out; have zz8 := HfQ.out; first | omega | (simp; done) | (simp; omega))).1, (By7.out.st_1 (by have zz0 := Hlt.out; have zz1 := Sz2.out; have zz2 := Sz3.out; have zz3 := Sz4.out; have zz4 := HfR.out; have zz5 := Sz5.out; have zz6 := Sz6.out; have zz7 := Sz7.out; have zz8 := HfQ.out; first | omega | (simp; done) | (simp; omega))).1⟩ (fun hHeld => ?_)
            clear hK K
            try simp only [Act.put, List.setIfInBounds_toArray, List.set_cons_zero, List.set_cons_succ, List.getElem_toArray, List.getElem_cons_succ, List.getElem_cons_zero]
            obtain ⟨⟨u1, u2, u3, u4⟩, u5⟩ := resB_st (b' := fQ) (s := Sq) (A := Aq) (n := nq) (c := cq) RsR7.out hqr
            have Bq1 := Lib.hid (Box.made (s := Sq) (A := Aq) (n := nq) (c := cq) ⟨r1, r2⟩ r5)
            have Bq2 := Lib.hid (Bq1.out.st_ (b := fR) (s := Sr) (A := Ar) (n := nr) (c := cr) (fun e => hqr e.symm))
            have Br2 := Lib.hid (Box.made (s := Sr) (A := Ar) (n := nr) (c := cr) ⟨u1, u2⟩ u5)
            have Zy : Hid (ZO (st (st w7 fQ Sq Aq nq cq) fR Sr Ar nr cr) _ _ _ Sq Aq nq cq) := Lib.hid ((Zq7.out.st_ (.inr (by have zz0 := Hlt.out; have zz1 := Sz2.out; have zz2 := Sz3.out; have zz3 := Sz4.out; have zz4 := HfR.out; have zz5 := Sz5.out; have zz6 := Sz6.out; have zz7 := Sz7.out; have zz8 := HfQ.out; first | omega | (simp; done) | (simp; omega)))).st_ (.inl (by have zz0 := Hlt.out; have zz1 := Sz2.out; have zz2 := Sz3.out; have zz3 := Sz4.out; have zz4 := HfR.out; have zz5 := Sz5.out; have zz6 := Sz6.out; have zz7 := Sz7.out; have zz8 := HfQ.out; first | omega | (simp; done) | (simp; omega))))
            refine wpAnyH_ready (rs := [13]) (by kernel_rfl) (by simp) ?_
            refine AllReadyH.cons rfl (fun K hK => ?_) AllReadyH.nil
            go_simp
            refine hK.out _ (st (st w7 fQ Sq Aq nq cq) fR Sr Ar nr cr) ⟨((Bx7.out.st_1 (by have zz0 := Hlt.out; have zz1 := Sz2.out; have zz2 := Sz3.out; have zz3 := Sz4.out; have zz4 := HfR.out; have zz5 := Sz5.out; have zz6 := Sz6.out; have zz7 := Sz7.out; have zz8 := HfQ.out; first | omega | (simp; done) | (simp; omega))).st_1 (by have zz0 := Hlt.out; have zz1 := Sz2.out; have zz2 := Sz3.out; have zz3 := Sz4.out; have zz4 := HfR.out; have zz5 := Sz5.out; have zz6 := Sz6.out; have zz7 := Sz7.out; have zz8 := HfQ.out; first | omega | (simp; done) | (simp; omega))).1, ((By7.out.st_1 (by have zz0 := Hlt.out; have zz1 := Sz2.out; have zz2 := Sz3.out; have zz3 := Sz4.out; have zz4 := HfR.out; have zz5 := Sz5.out; have zz6 := Sz6.out; have zz7 := Sz7.out; have zz8 := HfQ.out; first | omega | (simp; done) | (simp; omega))).st_1 (by have zz0 := Hlt.out; have zz1 := Sz2.out; have zz2 := Sz3.out; have zz3 := Sz4.out; have zz4 := HfR.out; have zz5 := Sz5.out; have zz6 := Sz6.out; have zz7 := Sz7.out; have zz8 := HfQ.out; first | omega | (simp; done) | (simp; omega))).1⟩ (fun hHeld => ?_)
            clear hK K hHeld
            try simp only [Act.put, List.setIfInBounds_toArray, List.set_cons_zero, List.set_cons_succ, List.getElem_toArray, List.getElem_cons_succ, List.getElem_cons_zero]
            refine wpAnyH_done (by kernel_rfl) ?_ _
            go_wp2_with fail
            go_meet
            exact ⟨fQ, fR, Sq, Aq, nq, cq, Sr, Ar, nr, cr, rfl, rfl, Bq2.out, Br2.out, Zy.out.zv, HSr.out, belSt (belSt BelC7.out (by have zz0 := Hlt.out; have zz1 := Sz2.out; have zz2 := Sz3.out; have zz3 := Sz4.out; have zz4 := HfR.out; have zz5 := Sz5.out; have zz6 := Sz6.out; have zz7 := Sz7.out; have zz8 := HfQ.out; first | omega | (simp; done) | (simp; omega))) (by have zz0 := Hlt.out; have zz1 := Sz2.out; have zz2 := Sz3.out; have zz3 := Sz4.out; have zz4 := HfR.out; have zz5 := Sz5.out; have zz6 := Sz6.out; have zz7 := Sz7.out; have zz8 := HfQ.out; first | omega | (simp; done) | (simp; omega))⟩
        · go_simp
          obtain ⟨w6, hw⟩ : ∃ w6, w6 = w5.alloc (.cells #[.int .i64 0, .slice none 0 0] 28) := ⟨_, rfl⟩
          have hb : Below w5.heap.size w5 w6 := by rw [hw]; exact belAlloc1 _ _
          obtain ⟨fQ, hf⟩ : ∃ f, f = w5.heap.size := ⟨_, rfl⟩
          have RsQ6 : Hid (ResB w6 fQ) := Lib.hid (by rw [hw, hf]; exact resBox_new w5 _)
          have HfQ : Hid (w5.heap.size ≤ fQ ∧ fQ < w6.heap.size) := Lib.hid ⟨by omega, RsQ6.out.2⟩
          rw [← hw]
          try rw [← hf]
          refine hK.out _ _ ⟨(Bx5.out.next hb).1, (By5.out.next hb).1⟩ (fun hHeld => ?_)
          clear hK K hw hf
          have Sz6 := Lib.hid (Below.size hb)
          have Bel6 := Lib.hid (belNext Bel5.out hb)
          have Bx6 := Lib.hid (Bx5.out.next hb)
          have By6 := Lib.hid (By5.out.next hb)
          have RsD6 := Lib.hid (RsD5.out.next hb)
          have Zv6 := Lib.hid (Zv5.out.next hb)
          have Zw6 := Lib.hid (Zw5.out.next hb)
          have BelC6 := Lib.hid (belNext BelC5.out hb)
          have RsR6 := Lib.hid (RsR5.out.next hb)
          have Zl6 := Lib.hid (Zl5.out.next hb)
          clear hb Bel5 Bx5 By5 RsD5 Zv5 Zw5 BelC5 RsR5 Zl5
          try simp only [Act.put, List.setIfInBounds_toArray, List.set_cons_zero, List.set_cons_succ, List.getElem_toArray, List.getElem_cons_succ, List.getElem_cons_zero]
          refine wpAnyH_ready (rs := [6]) (by kernel_rfl) (by simp) ?_
          refine AllReadyH.cons rfl (fun K hK => ?_) AllReadyH.nil
          · go_simp
            refine (specDivMod_any ((2 : Int) ^ k * z) z' S2 S' A2 A' n2 n' c2 c' w6 Zl6.out.zv Zw6.out H0.out.2 (by have := Hn2.out; omega) (by have := Hm.out; omega)).mono ?_
            rintro e w7 ⟨Sq, Aq, nq, cq, Sr, Ar, nr, cr, rfl, hzq, hzr, hb0⟩
            have hb : Below w6.heap.size w6 w7 := hb0
            have Zq7 := Lib.hid (hzq.cast_ (z' := z.sign * z'.sign * ((qN z k / qD z' k : Nat) : Int)) (by rw [HS2.out, HS.out.2, abs_pow_mul, qN_up, qD_up]))
            have HSr : Hid (Sr = (z.sign * ((qN z k % qD z' k : Nat) : Int)).sign) := Lib.hid (by rw [hzr.1, HS2.out, abs_pow_mul, qN_up, qD_up])
            clear hzq hzr
            refine hK.out _ _ ⟨(Bx6.out.next hb).1, (By6.out.next hb).1⟩ (fun hHeld => ?_)
            clear hK K hb0
            have Sz7 := Lib.hid (Below.size hb)
            have Bel7 := Lib.hid (belNext Bel6.out hb)
            have Bx7 := Lib.hid (Bx6.out.next hb)
            have By7 := Lib.hid (By6.out.next hb)
            have RsD7 := Lib.hid (RsD6.out.next hb)
            have Zv7 := Lib.hid (Zv6.out.next hb)
            have Zw7 := Lib.hid (Zw6.out.next hb)
            have BelC7 := Lib.hid (belNext BelC6.out hb)
            have RsR7 := Lib.hid (RsR6.out.next hb)
            have Zl7 := Lib.hid (Zl6.out.next hb)
            have RsQ7 := Lib.hid (RsQ6.out.next hb)
            clear hb Bel6 Bx6 By6 RsD6 Zv6 Zw6 BelC6 RsR6 Zl6 RsQ6
            try simp only [Act.put, List.setIfInBounds_toArray, List.set_cons_zero, List.set_cons_succ, List.getElem_toArray, List.getElem_cons_succ, List.getElem_cons_zero]
            clear Zl7
            refine wpAnyH_take (i := 7) (v := ?_) rfl (by kernel_rfl) (by kernel_rfl) (by kernel_rfl) (fun _ _ _ h => h) (Or.inl ⟨by rfl, ?_⟩) (by assumption) ?_
            rotate_left
            · (intro w hSw; (try dsimp only at hSw); go_simp; (try with_reducible rfl))
            try simp only [Act.put, List.setIfInBounds_toArray, List.set_cons_zero, List.set_cons_succ, List.getElem_toArray, List.getElem_cons_succ, List.getElem_cons_zero]
            refine wpAnyH_take (i := 8) (v := ?_) rfl (by kernel_rfl) (by kernel_rfl) (by kernel_rfl) (fun _ _ _ h => h) (Or.inl ⟨by rfl, ?_⟩) (by assumption) ?_
            rotate_left
            · (intro w hSw; (try dsimp only at hSw); go_simp; (try with_reducible rfl))
            try simp only [Act.put, List.setIfInBounds_toArray, List.set_cons_zero, List.set_cons_succ, List.getElem_toArray, List.getElem_cons_succ, List.getElem_cons_zero]
            refine wpAnyH_take (i := 9) (v := ?_) rfl (by kernel_rfl) (by kernel_rfl) (by kernel_rfl) (fun _ _ _ h => h) (Or.inl ⟨by rfl, ?_⟩) (by assumption) ?_
            rotate_left
            · (intro w hSw; (try dsimp only at hSw); go_simp; (try with_reducible rfl))
            try simp only [Act.put, List.setIfInBounds_toArray, List.set_cons_zero, List.set_cons_succ, List.getElem_toArray, List.getElem_cons_succ, List.getElem_cons_zero]
            obtain ⟨⟨r1, r2, r3, r4⟩, r5⟩ := RsQ7.out
            obtain ⟨⟨s1, s2, s3, s4⟩, s5⟩ := RsR7.out
            have hqr : fR ≠ fQ := (by have zz0 := Hlt.out; have zz1 := Sz2.out; have zz2 := Sz3.out; have zz3 := Sz4.out; have zz4 := HfR.out; have zz5 := Sz5.out; have zz6 := Sz6.out; have zz7 := HfQ.out; have zz8 := Sz7.out; first | omega | (simp; done) | (simp; omega))
            refine wpAnyH_ready (rs := [12]) (by kernel_rfl) (by simp) ?_
            refine AllReadyH.cons rfl (fun K hK => ?_) AllReadyH.nil
            go_simp
            refine hK.out _ (st w7 fQ Sq Aq nq cq) ⟨(Bx7.out.st_1 (by have zz0 := Hlt.out; have zz1 := Sz2.out; have zz2 := Sz3.out; have zz3 := Sz4.out; have zz4 := HfR.out; have zz5 := Sz5.out; have zz6 := Sz6.out; have zz7 := HfQ.out; have zz8 := Sz7.out; first | omega | (simp; done) | (simp; omega))).1, (By7.out.st_1 (by have zz0 := Hlt.out; have zz1 := Sz2.out; have zz2 := Sz3.out; have zz3 := Sz4.out; have zz4 := HfR.out; have zz5 := Sz5.out; have zz6 := Sz6.out; have zz7 := HfQ.out; have zz8 := Sz7.out; first | omega | (simp; done) | (simp; omega))).1⟩ (fun hHeld => ?_)
            clear hK K
            try simp only [Act.put, List.setIfInBounds_toArray, List.set_cons_zero, List.set_cons_succ, List.getElem_toArray, List.getElem_cons_succ, List.getElem_cons_zero]
            obtain ⟨⟨u1, u2, u3, u4⟩, u5⟩ := resB_st (b' := fQ) (s := Sq) (A := Aq) (n := nq) (c := cq) RsR7.out hqr
            have Bq1 := Lib.hid (Box.made (s := Sq) (A := Aq) (n := nq) (c := cq) ⟨r1, r2⟩ r5)
            have Bq2 := Lib.hid (Bq1.out.st_ (b := fR) (s := Sr) (A := Ar) (n := nr) (c := cr) (fun e => hqr e.symm))
            have Br2 := Lib.hid (Box.made (s := Sr) (A := Ar) (n := nr) (c := cr) ⟨u1, u2⟩ u5)
            have Zy : Hid (ZO (st (st w7 fQ Sq Aq nq cq) fR Sr Ar nr cr) _ _ _ Sq Aq nq cq) := Lib.hid ((Zq7.out.st_ (.inl (by have zz0 := Hlt.out; have zz1 := Sz2.out; have zz2 := Sz3.out; have zz3 := Sz4.out; have zz4 := HfR.out; have zz5 := Sz5.out; have zz6 := Sz6.out; have zz7 := HfQ.out; have zz8 := Sz7.out; first | omega | (simp; done) | (simp; omega)))).st_ (.inl (by have zz0 := Hlt.out; have zz1 := Sz2.out; have zz2 := Sz3.out; have zz3 := Sz4.out; have zz4 := HfR.out; have zz5 := Sz5.out; have zz6 := Sz6.out; have zz7 := HfQ.out; have zz8 := Sz7.out; first | omega | (simp; done) | (simp; omega))))
            refine wpAnyH_ready (rs := [13]) (by kernel_rfl) (by simp) ?_
            refine AllReadyH.cons rfl (fun K hK => ?_) AllReadyH.nil
            go_simp
            refine hK.out _ (st (st w7 fQ Sq Aq nq cq) fR Sr Ar nr cr) ⟨((Bx7.out.st_1 (by have zz0 := Hlt.out; have zz1 := Sz2.out; have zz2 := Sz3.out; have zz3 := Sz4.out; have zz4 := HfR.out; have zz5 := Sz5.out; have zz6 := Sz6.out; have zz7 := HfQ.out; have zz8 := Sz7.out; first | omega | (simp; done) | (simp; omega))).st_1 (by have zz0 := Hlt.out; have zz1 := Sz2.out; have zz2 := Sz3.out; have zz3 := Sz4.out; have zz4 := HfR.out; have zz5 := Sz5.out; have zz6 := Sz6.out; have zz7 := HfQ.out; have zz8 := Sz7.out; first | omega | (simp; done) | (simp; omega))).1, ((By7.out.st_1 (by have zz0 := Hlt.out; have zz1 := Sz2.out; have zz2 := Sz3.out; have zz3 := Sz4.out; have zz4 := HfR.out; have zz5 := Sz5.out; have zz6 := Sz6.out; have zz7 := HfQ.out; have zz8 := Sz7.out; first | omega | (simp; done) | (simp; omega))).st_1 (by have zz0 := Hlt.out; have zz1 := Sz2.out; have zz2 := Sz3.out; have zz3 := Sz4.out; have zz4 := HfR.out; have zz5 := Sz5.out; have zz6 := Sz6.out; have zz7 := HfQ.out; have zz8 := Sz7.out; first | omega | (simp; done) | (simp; omega))).1⟩ (fun hHeld => ?_)
            clear hK K hHeld
            try simp only [Act.put, List.setIfInBounds_toArray, List.set_cons_zero, List.set_cons_succ, List.getElem_toArray, List.getElem_cons_succ, List.getElem_cons_zero]
            refine wpAnyH_done (by kernel_rfl) ?_ _
            go_wp2_with fail
            go_meet
            exact ⟨fQ, fR, Sq, Aq, nq, cq, Sr, Ar, nr, cr, rfl, rfl, Bq2.out, Br2.out, Zy.out.zv, HSr.out, belSt (belSt BelC7.out (by have zz0 := Hlt.out; have zz1 := Sz2.out; have zz2 := Sz3.out; have zz3 := Sz4.out; have zz4 := HfR.out; have zz5 := Sz5.out; have zz6 := Sz6.out; have zz7 := HfQ.out; have zz8 := Sz7.out; first | omega | (simp; done) | (simp; omega))) (by have zz0 := Hlt.out; have zz1 := Sz2.out; have zz2 := Sz3.out; have zz3 := Sz4.out; have zz4 := HfR.out; have zz5 := Sz5.out; have zz6 := Sz6.out; have zz7 := HfQ.out; have zz8 := Sz7.out; first | omega | (simp; done) | (simp; omega))⟩
      · go_simp
        obtain ⟨w5, hw⟩ : ∃ w5, w5 = w4.alloc (.cells #[.int .i64 0, .slice none 0 0] 28) := ⟨_, rfl⟩
        have hb : Below w4.heap.size w4 w5 := by rw [hw]; exact belAlloc1 _ _
        obtain ⟨fQ, hf⟩ : ∃ f, f = w4.heap.size := ⟨_, rfl⟩
        have RsQ5 : Hid (ResB w5 fQ) := Lib.hid (by rw [hw, hf]; exact resBox_new w4 _)
        have HfQ : Hid (w4.heap.size ≤ fQ ∧ fQ < w5.heap.size) := Lib.hid ⟨by omega, RsQ5.out.2⟩
        rw [← hw]
        try rw [← hf]
        refine hK.out _ _ ⟨(Bx4.out.next hb).1, (By4.out.next hb).1⟩ (fun hHeld => ?_)
        clear hK K hw hf
        have Sz5 := Lib.hid (Below.size hb)
        have Bel5 := Lib.hid (belNext Bel4.out hb)
        have Bx5 := Lib.hid (Bx4.out.next hb)
        have By5 := Lib.hid (By4.out.next hb)
        have RsD5 := Lib.hid (RsD4.out.next hb)
        have Zv5 := Lib.hid (Zv4.out.next hb)
        have Zw5 := Lib.hid (Zw4.out.next hb)
        have BelC5 := Lib.hid (belNext BelC4.out hb)
        have RsR5 := Lib.hid (RsR4.out.next hb)
        clear hb Bel4 Bx4 By4 RsD4 Zv4 Zw4 BelC4 RsR4
        try simp only [Act.put, List.setIfInBounds_toArray, List.set_cons_zero, List.set_cons_succ, List.getElem_toArray, List.getElem_cons_succ, List.getElem_cons_zero]
        refine wpAnyH_ready (rs := [3]) (by kernel_rfl) (by simp) ?_
        refine AllReadyH.cons rfl (fun K hK => ?_) AllReadyH.nil
        · go_simp
          refine (specLeft_any z S A n c k w5 Zv5.out (by have := Hm.out; omega) (by omega)).mono ?_
          rintro e w6 ⟨S2, A2, n2, c2, rfl, hzo, hb0⟩
          have hb : Below w5.heap.size w5 w6 := hb0
          have Zl6 := Lib.hid hzo
          have Hn2 : Hid ((n2 : Int) ≤ 10) := Lib.hid (by have h := shl_len Hn.out k; have e := hzo.2.1; rw [abs_pow_mul] at e; rw [e] at h; have := Hm.out; omega)
          have HS2 : Hid (S2 = z.sign) := Lib.hid (by rw [hzo.1]; exact sign_pow_mul _ _)
          clear hzo
          refine hK.out _ _ ⟨(Bx5.out.next hb).1, (By5.out.next hb).1⟩ (fun hHeld => ?_)
          clear hK K hb0
          have Sz6 := Lib.hid (Below.size hb)
          have Bel6 := Lib.hid (belNext Bel5.out hb)
          have Bx6 := Lib.hid (Bx5.out.next hb)
          have By6 := Lib.hid (By5.out.next hb)
          have RsD6 := Lib.hid (RsD5.out.next hb)
          have Zv6 := Lib.hid (Zv5.out.next hb)
          have Zw6 := Lib.hid (Zw5.out.next hb)
          have BelC6 := Lib.hid (belNext BelC5.out hb)
          have RsR6 := Lib.hid (RsR5.out.next hb)
          have RsQ6 := Lib.hid (RsQ5.out.next hb)
          clear hb Bel5 Bx5 By5 RsD5 Zv5 Zw5 BelC5 RsR5 RsQ5
          try simp only [Act.put, List.setIfInBounds_toArray, List.set_cons_zero, List.set_cons_succ, List.getElem_toArray, List.getElem_cons_succ, List.getElem_cons_zero]
          refine wpAnyH_ready (rs := [6]) (by kernel_rfl) (by simp) ?_
          refine AllReadyH.cons rfl (fun K hK => ?_) AllReadyH.nil
          · go_simp
            refine (specDivMod_any ((2 : Int) ^ k * z) z' S2 S' A2 A' n2 n' c2 c' w6 Zl6.out.zv Zw6.out H0.out.2 (by have := Hn2.out; omega) (by have := Hm.out; omega)).mono ?_
            rintro e w7 ⟨Sq, Aq, nq, cq, Sr, Ar, nr, cr, rfl, hzq, hzr, hb0⟩
            have hb : Below w6.heap.size w6 w7 := hb0
            have Zq7 := Lib.hid (hzq.cast_ (z' := z.sign * z'.sign * ((qN z k / qD z' k : Nat) : Int)) (by rw [HS2.out, HS.out.2, abs_pow_mul, qN_up, qD_up]))
            have HSr : Hid (Sr = (z.sign * ((qN z k % qD z' k : Nat) : Int)).sign) := Lib.hid (by rw [hzr.1, HS2.out, abs_pow_mul, qN_up, qD_up])
            clear hzq hzr
            refine hK.out _ _ ⟨(Bx6.out.next hb).1, (By6.out.next hb).1⟩ (fun hHeld => ?_)
            clear hK K hb0
            have Sz7 := Lib.hid (Below.size hb)
            have Bel7 := Lib.hid (belNext Bel6.out hb)
            have Bx7 := Lib.hid (Bx6.out.next hb)
            have By7 := Lib.hid (By6.out.next hb)
            have RsD7 := Lib.hid (RsD6.out.next hb)
            have Zv7 := Lib.hid (Zv6.out.next hb)
            have Zw7 := Lib.hid (Zw6.out.next hb)
            have BelC7 := Lib.hid (belNext BelC6.out hb)
            have RsR7 := Lib.hid (RsR6.out.next hb)
            have RsQ7 := Lib.hid (RsQ6.out.next hb)
            have Zl7 := Lib.hid (Zl6.out.next hb)
            clear hb Bel6 Bx6 By6 RsD6 Zv6 Zw6 BelC6 RsR6 RsQ6 Zl6
            try simp only [Act.put, List.setIfInBounds_toArray, List.set_cons_zero, List.set_cons_succ, List.getElem_toArray, List.getElem_cons_succ, List.getElem_cons_zero]
            clear Zl7
            refine wpAnyH_take (i := 7) (v := ?_) rfl (by kernel_rfl) (by kernel_rfl) (by kernel_rfl) (fun _ _ _ h => h) (Or.inl ⟨by rfl, ?_⟩) (by assumption) ?_
            rotate_left
            · (intro w hSw; (try dsimp only at hSw); go_simp; (try with_reducible rfl))
            try simp only [Act.put, List.setIfInBounds_toArray, List.set_cons_zero, List.set_cons_succ, List.getElem_toArray, List.getElem_cons_succ, List.getElem_cons_zero]
            refine wpAnyH_take (i := 8) (v := ?_) rfl (by kernel_rfl) (by kernel_rfl) (by kernel_rfl) (fun _ _ _ h => h) (Or.inl ⟨by rfl, ?_⟩) (by assumption) ?_
            rotate_left
            · (intro w hSw; (try dsimp only at hSw); go_simp; (try with_reducible rfl))
            try simp only [Act.put, List.setIfInBounds_toArray, List.set_cons_zero, List.set_cons_succ, List.getElem_toArray, List.getElem_cons_succ, List.getElem_cons_zero]
            refine wpAnyH_take (i := 9) (v := ?_) rfl (by kernel_rfl) (by kernel_rfl) (by kernel_rfl) (fun _ _ _ h => h) (Or.inl ⟨by rfl, ?_⟩) (by assumption) ?_
            rotate_left
            · (intro w hSw; (try dsimp only at hSw); go_simp; (try with_reducible rfl))
            try simp only [Act.put, List.setIfInBounds_toArray, List.set_cons_zero, List.set_cons_succ, List.getElem_toArray, List.getElem_cons_succ, List.getElem_cons_zero]
            obtain ⟨⟨r1, r2, r3, r4⟩, r5⟩ := RsQ7.out
            obtain ⟨⟨s1, s2, s3, s4⟩, s5⟩ := RsR7.out
            have hqr : fR ≠ fQ := (by have zz0 := Hlt.out; have zz1 := Sz2.out; have zz2 := Sz3.out; have zz3 := Sz4.out; have zz4 := HfR.out; have zz5 := Sz5.out; have zz6 := HfQ.out; have zz7 := Sz6.out; have zz8 := Sz7.out; first | omega | (simp; done) | (simp; omega))
            refine wpAnyH_ready (rs := [12]) (by kernel_rfl) (by simp) ?_
            refine AllReadyH.cons rfl (fun K hK => ?_) AllReadyH.nil
            go_simp
            refine hK.out _ (st w7 fQ Sq Aq nq cq) ⟨(Bx7.out.st_1 (by have zz0 := Hlt.out; have zz1 := Sz2.out; have zz2 := Sz3.out; have zz3 := Sz4.out; have zz4 := HfR.out; have zz5 := Sz5.out; have zz6 := HfQ.out; have zz7 := Sz6.out; have zz8 := Sz7.out; first | omega | (simp; done) | (simp; omega))).1, (By7.out.st_1 (by have zz0 := Hlt.out; have zz1 := Sz2.out; have zz2 := Sz3.out; have zz3 := Sz4.out; have zz4 := HfR.out; have zz5 := Sz5.out; have zz6 := HfQ.out; have zz7 := Sz6.out; have zz8 := Sz7.out; first | omega | (simp; done) | (simp; omega))).1⟩ (fun hHeld => ?_)
            clear hK K
            try simp only [Act.put, List.setIfInBounds_toArray, List.set_cons_zero, List.set_cons_succ, List.getElem_toArray, List.getElem_cons_succ, List.getElem_cons_zero]
            obtain ⟨⟨u1, u2, u3, u4⟩, u5⟩ := resB_st (b' := fQ) (s := Sq) (A := Aq) (n := nq) (c := cq) RsR7.out hqr
            have Bq1 := Lib.hid (Box.made (s := Sq) (A := Aq) (n := nq) (c := cq) ⟨r1, r2⟩ r5)
            have Bq2 := Lib.hid (Bq1.out.st_ (b := fR) (s := Sr) (A := Ar) (n := nr) (c := cr) (fun e => hqr e.symm))
            have Br2 := Lib.hid (Box.made (s := Sr) (A := Ar) (n := nr) (c := cr) ⟨u1, u2⟩ u5)
            have Zy : Hid (ZO (st (st w7 fQ Sq Aq nq cq) fR Sr Ar nr cr) _ _ _ Sq Aq nq cq) := Lib.hid ((Zq7.out.st_ (.inl (by have zz0 := Hlt.out; have zz1 := Sz2.out; have zz2 := Sz3.out; have zz3 := Sz4.out; have zz4 := HfR.out; have zz5 := Sz5.out; have zz6 := HfQ.out; have zz7 := Sz6.out; have zz8 := Sz7.out; first | omega | (simp; done) | (simp; omega)))).st_ (.inl (by have zz0 := Hlt.out; have zz1 := Sz2.out; have zz2 := Sz3.out; have zz3 := Sz4.out; have zz4 := HfR.out; have zz5 := Sz5.out; have zz6 := HfQ.out; have zz7 := Sz6.out; have zz8 := Sz7.out; first | omega | (simp; done) | (simp; omega))))
            refine wpAnyH_ready (rs := [13]) (by kernel_rfl) (by simp) ?_
            refine AllReadyH.cons rfl (fun K hK => ?_) AllReadyH.nil
            go_simp
            refine hK.out _ (st (st w7 fQ Sq Aq nq cq) fR Sr Ar nr cr) ⟨((Bx7.out.st_1 (by have zz0 := Hlt.out; have zz1 := Sz2.out; have zz2 := Sz3.out; have zz3 := Sz4.out; have zz4 := HfR.out; have zz5 := Sz5.out; have zz6 := HfQ.out; have zz7 := Sz6.out; have zz8 := Sz7.out; first | omega | (simp; done) | (simp; omega))).st_1 (by have zz0 := Hlt.out; have zz1 := Sz2.out; have zz2 := Sz3.out; have zz3 := Sz4.out; have zz4 := HfR.out; have zz5 := Sz5.out; have zz6 := HfQ.out; have zz7 := Sz6.out; have zz8 := Sz7.out; first | omega | (simp; done) | (simp; omega))).1, ((By7.out.st_1 (by have zz0 := Hlt.out; have zz1 := Sz2.out; have zz2 := Sz3.out; have zz3 := Sz4.out; have zz4 := HfR.out; have zz5 := Sz5.out; have zz6 := HfQ.out; have zz7 := Sz6.out; have zz8 := Sz7.out; first | omega | (simp; done) | (simp; omega))).st_1 (by have zz0 := Hlt.out; have zz1 := Sz2.out; have zz2 := Sz3.out; have zz3 := Sz4.out; have zz4 := HfR.out; have zz5 := Sz5.out; have zz6 := HfQ.out; have zz7 := Sz6.out; have zz8 := Sz7.out; first | omega | (simp; done) | (simp; omega))).1⟩ (fun hHeld => ?_)
            clear hK K hHeld
            try simp only [Act.put, List.setIfInBounds_toArray, List.set_cons_zero, List.set_cons_succ, List.getElem_toArray, List.getElem_cons_succ, List.getElem_cons_zero]
            refine wpAnyH_done (by kernel_rfl) ?_ _
            go_wp2_with fail
            go_meet
            exact ⟨fQ, fR, Sq, Aq, nq, cq, Sr, Ar, nr, cr, rfl, rfl, Bq2.out, Br2.out, Zy.out.zv, HSr.out, belSt (belSt BelC7.out (by have zz0 := Hlt.out; have zz1 := Sz2.out; have zz2 := Sz3.out; have zz3 := Sz4.out; have zz4 := HfR.out; have zz5 := Sz5.out; have zz6 := HfQ.out; have zz7 := Sz6.out; have zz8 := Sz7.out; first | omega | (simp; done) | (simp; omega))) (by have zz0 := Hlt.out; have zz1 := Sz2.out; have zz2 := Sz3.out; have zz3 := Sz4.out; have zz4 := HfR.out; have zz5 := Sz5.out; have zz6 := HfQ.out; have zz7 := Sz6.out; have zz8 := Sz7.out; first | omega | (simp; done) | (simp; omega))⟩
  case rest =>
    obtain ⟨bq, br, Sq, Aq, nq, cq, Sr, Ar, nr, cr, ht6, ht7, hbq, hbr, hzq, hSr, hb⟩ := hcut
    subst ht6 ht7
    obtain ⟨w4, hwc⟩ : ∃ w4, w4 = wc := ⟨_, rfl⟩
    rw [← hwc] at hbq hbr hzq hb ⊢
    clear hwc
    have Bq4 := Lib.hid hbq
    have Br4 := Lib.hid hbr
    have Zq4 := Lib.hid hzq
    have HSr := Lib.hid hSr
    clear hbq hbr hzq hSr
    have Sz4 := Lib.hid (Below.size hb)
    have Bel4 := Lib.hid (belNext Bel3.out hb)
    have Bx4 := Lib.hid (Bx3.out.next hb)
    have By4 := Lib.hid (By3.out.next hb)
    have RsD4 := Lib.hid (RsD3.out.next hb)
    have Zv4 := Lib.hid (Zv3.out.next hb)
    have Zw4 := Lib.hid (Zw3.out.next hb)
    clear hb Bel3 Bx3 By3 RsD3 Zv3 Zw3 hBx0 hBx1 hBx2 hBx3 hBy0 hBy1 hBy2 hBy3 hRsD0 hRsD1 hRsD2 hRsD3 hRsD4 hRsD5 hRsD6
    have Hnq : Hid ((nq : Int) ≤ 10) := Lib.hid (quo_small H0.out.1 H0.out.2 Zq4.out.2.1 Hn.out Hm.out.1 hk1)
    by_cases hR : qN z k % qD z' k = 0
    · have hs0 : Sr = 0 := by rw [HSr.out, hR]; simp
      have hd : (Sr != 0) = false := by rw [hs0]; rfl
      have Hv : Hid (mkV (z.sign * z'.sign * ((qN z k / qD z' k : Nat) : Int)) false = dvV z z' k) := Lib.hid (by rw [← mk_dv H0.out.1 H0.out.2 Hbig.out]; congr 1; simp [hR])
      clear hs0 hR
      obtain ⟨⟨hBx0, hBx1, hBx2⟩, hBx3⟩ := Bx4.out
      obtain ⟨⟨hBy0, hBy1, hBy2⟩, hBy3⟩ := By4.out
      obtain ⟨⟨hBq0, hBq1⟩, hBq2⟩ := Bq4.out
      obtain ⟨⟨hBr0, hBr1⟩, hBr2⟩ := Br4.out
      obtain ⟨⟨hRsD0, hRsD1, hRsD2, hRsD3, hRsD4, hRsD5⟩, hRsD6⟩ := RsD4.out
      go_wp2_with fail
      refine (specMark_any (z.sign * z'.sign * ((qN z k / qD z' k : Nat) : Int)) Sq (E - k - E') false Aq nq cq _ Zq4.out (by have := Hnq.out; omega) (by omega) (by omega)).mono ?_
      rintro e w5 ⟨S9, A9, n9, c9, rfl, hzo, hb⟩
      rw [Hv.out] at hzo ⊢
      obtain ⟨X9, hX9⟩ : ∃ X9, X9 = nx (dvV z z' k) (E - k - E' - 1) := ⟨_, rfl⟩
      rw [← hX9]
      have HX9 := Lib.hid hX9
      have Zp5 := Lib.hid hzo
      clear hzo hd hX9
      have Sz5 := Lib.hid (Below.size hb)
      have Bel5 := Lib.hid (belNext Bel4.out hb)
      have Bx5 := Lib.hid (Bx4.out.next hb)
      have By5 := Lib.hid (By4.out.next hb)
      have RsD5 := Lib.hid (RsD4.out.next hb)
      have Zv5 := Lib.hid (Zv4.out.next hb)
      have Zw5 := Lib.hid (Zw4.out.next hb)
      have Bq5 := Lib.hid (Bq4.out.next hb)
      have Br5 := Lib.hid (Br4.out.next hb)
      have Zq5 := Lib.hid (Zq4.out.next hb)
      clear hb Bel4 Bx4 By4 RsD4 Zv4 Zw4 Bq4 Br4 Zq4 hBx0 hBx1 hBx2 hBx3 hBy0 hBy1 hBy2 hBy3 hBq0 hBq1 hBq2 hBr0 hBr1 hBr2 hRsD0 hRsD1 hRsD2 hRsD3 hRsD4 hRsD5 hRsD6
      obtain ⟨⟨hBx0, hBx1, hBx2⟩, hBx3⟩ := Bx5.out
      obtain ⟨⟨hBy0, hBy1, hBy2⟩, hBy3⟩ := By5.out
      obtain ⟨⟨hBq0, hBq1⟩, hBq2⟩ := Bq5.out
      obtain ⟨⟨hBr0, hBr1⟩, hBr2⟩ := Br5.out
      obtain ⟨⟨hRsD0, hRsD1, hRsD2, hRsD3, hRsD4, hRsD5⟩, hRsD6⟩ := RsD5.out
      go_wp2_with fail
      refine bodyPost_ret (v := .agg #[.int .i64 S9, .slice A9 n9 c9, .int .i64 X9]) (by simp [results, Tryz.results88, go_sem, hRsD0, hRsD1, hRsD2]) rfl ⟨S9, A9, n9, c9, by rw [HX9.out], ?_, ?_⟩
      · exact (((Zp5.out.setCell (.inl (by have zz0 := Hlt.out; have zz1 := Sz2.out; have zz2 := Sz3.out; have zz3 := Sz4.out; have zz4 := Sz5.out; first | omega | (simp; done) | (simp; omega))) _).setCell (.inl (by have zz0 := Hlt.out; have zz1 := Sz2.out; have zz2 := Sz3.out; have zz3 := Sz4.out; have zz4 := Sz5.out; first | omega | (simp; done) | (simp; omega))) _).setCell (.inl (by have zz0 := Hlt.out; have zz1 := Sz2.out; have zz2 := Sz3.out; have zz3 := Sz4.out; have zz4 := Sz5.out; first | omega | (simp; done) | (simp; omega))) _).wide (by have zz0 := Hlt.out; have zz1 := Sz2.out; have zz2 := Sz3.out; have zz3 := Sz4.out; have zz4 := Sz5.out; first | omega | (simp; done) | (simp; omega)) (by have zz0 := Hlt.out; have zz1 := Sz2.out; have zz2 := Sz3.out; have zz3 := Sz4.out; have zz4 := Sz5.out; first | omega | (simp; done) | (simp; omega)) (by have zz0 := Hlt.out; have zz1 := Sz2.out; have zz2 := Sz3.out; have zz3 := Sz4.out; have zz4 := Sz5.out; first | omega | (simp; done) | (simp; omega))
      · exact ((Bel5.out.setCell (by have zz0 := Hlt.out; have zz1 := Sz2.out; have zz2 := Sz3.out; have zz3 := Sz4.out; have zz4 := Sz5.out; first | omega | (simp; done) | (simp; omega)) _).setCell (by have zz0 := Hlt.out; have zz1 := Sz2.out; have zz2 := Sz3.out; have zz3 := Sz4.out; have zz4 := Sz5.out; first | omega | (simp; done) | (simp; omega)) _).setCell (by have zz0 := Hlt.out; have zz1 := Sz2.out; have zz2 := Sz3.out; have zz3 := Sz4.out; have zz4 := Sz5.out; first | omega | (simp; done) | (simp; omega)) _
    · have hs0 : Sr ≠ 0 := by
        rw [HSr.out]
        intro e
        rw [Int.sign_eq_zero_iff_zero] at e
        rcases Int.mul_eq_zero.1 e with h | h
        · exact H0.out.1 (Int.sign_eq_zero_iff_zero.1 h)
        · omega
      have hd : (Sr != 0) = true := by simp [hs0]
      have Hv : Hid (mkV (z.sign * z'.sign * ((qN z k / qD z' k : Nat) : Int)) true = dvV z z' k) := Lib.hid (by rw [← mk_dv H0.out.1 H0.out.2 Hbig.out]; congr 1; simp [hR])
      clear hs0 hR
      obtain ⟨⟨hBx0, hBx1, hBx2⟩, hBx3⟩ := Bx4.out
      obtain ⟨⟨hBy0, hBy1, hBy2⟩, hBy3⟩ := By4.out
      obtain ⟨⟨hBq0, hBq1⟩, hBq2⟩ := Bq4.out
      obtain ⟨⟨hBr0, hBr1⟩, hBr2⟩ := Br4.out
      obtain ⟨⟨hRsD0, hRsD1, hRsD2, hRsD3, hRsD4, hRsD5⟩, hRsD6⟩ := RsD4.out
      go_wp2_with fail
      refine (specMark_any (z.sign * z'.sign * ((qN z k / qD z' k : Nat) : Int)) Sq (E - k - E') true Aq nq cq _ Zq4.out (by have := Hnq.out; omega) (by omega) (by omega)).mono ?_
      rintro e w5 ⟨S9, A9, n9, c9, rfl, hzo, hb⟩
      rw [Hv.out] at hzo ⊢
      obtain ⟨X9, hX9⟩ : ∃ X9, X9 = nx (dvV z z' k) (E - k - E' - 1) := ⟨_, rfl⟩
      rw [← hX9]
      have HX9 := Lib.hid hX9
      have Zp5 := Lib.hid hzo
      clear hzo hd hX9
      have Sz5 := Lib.hid (Below.size hb)
      have Bel5 := Lib.hid (belNext Bel4.out hb)
      have Bx5 := Lib.hid (Bx4.out.next hb)
      have By5 := Lib.hid (By4.out.next hb)
      have RsD5 := Lib.hid (RsD4.out.next hb)
      have Zv5 := Lib.hid (Zv4.out.next hb)
      have Zw5 := Lib.hid (Zw4.out.next hb)
      have Bq5 := Lib.hid (Bq4.out.next hb)
      have Br5 := Lib.hid (Br4.out.next hb)
      have Zq5 := Lib.hid (Zq4.out.next hb)
      clear hb Bel4 Bx4 By4 RsD4 Zv4 Zw4 Bq4 Br4 Zq4 hBx0 hBx1 hBx2 hBx3 hBy0 hBy1 hBy2 hBy3 hBq0 hBq1 hBq2 hBr0 hBr1 hBr2 hRsD0 hRsD1 hRsD2 hRsD3 hRsD4 hRsD5 hRsD6
      obtain ⟨⟨hBx0, hBx1, hBx2⟩, hBx3⟩ := Bx5.out
      obtain ⟨⟨hBy0, hBy1, hBy2⟩, hBy3⟩ := By5.out
      obtain ⟨⟨hBq0, hBq1⟩, hBq2⟩ := Bq5.out
      obtain ⟨⟨hBr0, hBr1⟩, hBr2⟩ := Br5.out
      obtain ⟨⟨hRsD0, hRsD1, hRsD2, hRsD3, hRsD4, hRsD5⟩, hRsD6⟩ := RsD5.out
      go_wp2_with fail
      refine bodyPost_ret (v := .agg #[.int .i64 S9, .slice A9 n9 c9, .int .i64 X9]) (by simp [results, Tryz.results88, go_sem, hRsD0, hRsD1, hRsD2]) rfl ⟨S9, A9, n9, c9, by rw [HX9.out], ?_, ?_⟩
      · exact (((Zp5.out.setCell (.inl (by have zz0 := Hlt.out; have zz1 := Sz2.out; have zz2 := Sz3.out; have zz3 := Sz4.out; have zz4 := Sz5.out; first | omega | (simp; done) | (simp; omega))) _).setCell (.inl (by have zz0 := Hlt.out; have zz1 := Sz2.out; have zz2 := Sz3.out; have zz3 := Sz4.out; have zz4 := Sz5.out; first | omega | (simp; done) | (simp; omega))) _).setCell (.inl (by have zz0 := Hlt.out; have zz1 := Sz2.out; have zz2 := Sz3.out; have zz3 := Sz4.out; have zz4 := Sz5.out; first | omega | (simp; done) | (simp; omega))) _).wide (by have zz0 := Hlt.out; have zz1 := Sz2.out; have zz2 := Sz3.out; have zz3 := Sz4.out; have zz4 := Sz5.out; first | omega | (simp; done) | (simp; omega)) (by have zz0 := Hlt.out; have zz1 := Sz2.out; have zz2 := Sz3.out; have zz3 := Sz4.out; have zz4 := Sz5.out; first | omega | (simp; done) | (simp; omega)) (by have zz0 := Hlt.out; have zz1 := Sz2.out; have zz2 := Sz3.out; have zz3 := Sz4.out; have zz4 := Sz5.out; first | omega | (simp; done) | (simp; omega))
      · exact ((Bel5.out.setCell (by have zz0 := Hlt.out; have zz1 := Sz2.out; have zz2 := Sz3.out; have zz3 := Sz4.out; have zz4 := Sz5.out; first | omega | (simp; done) | (simp; omega)) _).setCell (by have zz0 := Hlt.out; have zz1 := Sz2.out; have zz2 := Sz3.out; have zz3 := Sz4.out; have zz4 := Sz5.out; first | omega | (simp; done) | (simp; omega)) _).setCell (by have zz0 := Hlt.out; have zz1 := Sz2.out; have zz2 := Sz3.out; have zz3 := Sz4.out; have zz4 := Sz5.out; first | omega | (simp; done) | (simp; omega)) _

end Go.Proofs.YtcjamfoiilgfoaaGreatDoor
/- DivideIn, of the model and of the program. -/
namespace Go.Proofs.YtcjamfoiilgfoaaGreatDoor
set_option maxRecDepth 100000
open Go.RowKit
set_option linter.unusedSimpArgs false
set_option linter.unusedVariables false
attribute [local go_sem ↓] Go.wp_at_zero Go.wp_at_succ

/-- a quotient of floats -/
def diF (x y : Nat) (mode : Int) : Nat := xF (ovZ (fz x) (fe x) (fz y) (fe y)) (ovE (fz x) (fe x) (fz y) (fe y)) (sgn x * sgn y) mode
def diL (x y : Nat) (mode : Int) : Int := xL (ovZ (fz x) (fe x) (fz y) (fe y)) (ovE (fz x) (fe x) (fz y) (fe y)) mode
def dqC (x y : Nat) (mode : Int) : Int := if ckE [x, y] mode = 0 then (if fz y = 0 then 5 else 0) else ckE [x, y] mode
def dqF (x y : Nat) (mode : Int) : Nat := if dqC x y mode = 0 then diF x y mode else 0
def dqL (x y : Nat) (mode : Int) : Int := if dqC x y mode = 0 then diL x y mode else 0
theorem fz_zero {b : Nat} : fz b = 0 ↔ place32 b = 0 := by
  have h1 := place_cases b
  have h2 := mant_zero (b % 2147483648)
  unfold fz ofM smant32
  rw [nz_eq_zero]
  split <;> omega
theorem ov_zero (E z' E' : Int) : ovZ 0 E z' E' = 0 := by
  have hq : ∀ s, quZ 0 z' s = 0 := by intro s; unfold quZ; simp
  have hT : ovT 0 E z' E' = 0 := by unfold ovT ovQ; rw [hq]; unfold sumZ; simp
  unfold ovZ ovQ
  rw [hT, hq]
  rfl
theorem di_eq {x y : Nat} (mode : Int) (h : fz x = 0) : diF x y mode = mzF (neg32 x != neg32 y) ∧ diL x y mode = 0 := by
  unfold diF diL xF xL
  rw [h, ov_zero, if_pos rfl, if_pos rfl]
  refine ⟨?_, rfl⟩
  unfold zF mzF sgn
  cases neg32 x <;> cases neg32 y <;> simp
theorem blen_small {b : Nat} (hf : fin32 b = true) : (blen (fz b).natAbs : Int) ≤ 24 := by
  have h1 := fz_len hf rfl
  have h2 := blen_bound (z := fz b) rfl
  omega
theorem di_ne {x y k : Nat} (mode : Int) (h : fz x ≠ 0) (h' : fz y ≠ 0) (hf : fin32 x = true) (hk : (k : Int) = 64 + (blen (fz y).natAbs : Int) - blen (fz x).natAbs) : diF x y mode = rdF (nz (dvV (fz x) (fz y) k)) (nx (dvV (fz x) (fz y) k) (fe x - k - fe y - 1)) mode ∧ diL x y mode = rdL (nz (dvV (fz x) (fz y) k)) (nx (dvV (fz x) (fz y) k) (fe x - k - fe y - 1)) mode := by
  have hb := blen_small hf
  obtain ⟨m, hm⟩ : ∃ m : Nat, k = m + 39 := ⟨k - 39, by omega⟩
  have hs : fe x - fe y + ovK (fz x) (fe x) (fz y) (fe y) = m := by rw [ov_shift]; omega
  obtain ⟨a1, a2, a3⟩ := ov_round mode h h' hs
  obtain ⟨b1, b2⟩ := mv_round mode h h' hs hm
  have c := rd_norm (dvV (fz x) (fz y) k) (fe x - k - fe y - 1) mode
  unfold diF diL xF xL
  rw [if_neg a1, if_neg a1, a2, a3, c.1, c.2, b1, b2]
  exact ⟨rfl, rfl⟩
theorem twice_len {v u n : Nat} (h : u ≤ 2 * v + 1) (hn : (limbs v).length ≤ n) : (limbs u).length ≤ n + 1 := by
  rw [limbs_len_le] at hn ⊢
  have hB : Bs ^ (n + 1) = Bs ^ n * Bs := Nat.pow_succ _ _
  have hb : Bs = 16777216 := rfl
  rw [hb] at hB hn ⊢
  generalize (16777216 : Nat) ^ n = p at *
  omega
theorem ov_len {x y : Nat} (hf : fin32 x = true) (hf' : fin32 y = true) : (limbs (ovZ (fz x) (fe x) (fz y) (fe y)).natAbs).length ≤ 10 := by
  have h1 := fz_len hf rfl
  have hb1 := blen_small hf
  have hb2 := blen_small hf'
  have hq := quZ_len (z := fz x) (z' := fz y) (s := fe x - fe y + ovK (fz x) (fe x) (fz y) (fe y)) rfl
  rw [show quZ (fz x) (fz y) (fe x - fe y + ovK (fz x) (fe x) (fz y) (fe y)) = ovQ (fz x) (fe x) (fz y) (fe y) from rfl, ov_shift] at hq
  have hq2 : (limbs (ovQ (fz x) (fe x) (fz y) (fe y)).natAbs).length ≤ 8 := by omega
  unfold ovZ
  split
  · omega
  · refine Nat.le_trans (twice_len (v := (ovQ (fz x) (fe x) (fz y) (fe y)).natAbs) ?_ hq2) (by omega)
    generalize ovQ (fz x) (fe x) (fz y) (fe y) = Q
    generalize ovK (fz x) (fe x) (fz y) (fe y) = K
    rw [sumZ_ge (by omega), show -K - (-K - 1) = 1 by omega]
    rw [show (2 : Int) ^ (1 : Int).toNat = 2 from rfl]
    omega
theorem ov_exp {x y : Nat} (hf : fin32 x = true) (hf' : fin32 y = true) : -1000 ≤ ovE (fz x) (fe x) (fz y) (fe y) ∧ ovE (fz x) (fe x) (fz y) (fe y) ≤ 1000 := by
  obtain ⟨e1, e2⟩ := fe_small hf
  obtain ⟨e3, e4⟩ := fe_small hf'
  have hb1 := blen_small hf
  have hb2 := blen_small hf'
  unfold ovE ovK
  split <;> omega
theorem dv_len {x y k : Nat} (h : fz x ≠ 0) (h' : fz y ≠ 0) (hf : fin32 x = true) (hk : k ≤ 88) : (limbs (dvV (fz x) (fz y) k).natAbs).length ≤ 10 := by
  have h1 := shl_len (v := (fz x).natAbs) rfl k
  have h2 := fz_len hf rfl
  have h3 : (limbs (qN (fz x) k / qD (fz y) k)).length ≤ 8 := by
    have h4 := limbs_len_mono (Nat.div_le_self (qN (fz x) k) (qD (fz y) k))
    rw [qN_up] at h4 ⊢
    omega
  refine Nat.le_trans (twice_len (v := qN (fz x) k / qD (fz y) k) ?_ h3) (by omega)
  unfold dvV
  have e : qk (qN (fz x) k) (qD (fz y) k) ≤ 2 * (qN (fz x) k / qD (fz y) k) + 1 := by
    unfold qk; split <;> omega
  generalize qk (qN (fz x) k) (qD (fz y) k) = Q at e ⊢
  generalize qN (fz x) k / qD (fz y) k = R at e ⊢
  rcases sgn2 h h' with g | g <;> rw [g] <;> omega

set_option maxHeartbeats 4000000 in
theorem specDivF_any (x y : Nat) (mode : Int) (w : World) (hx : x < 4294967296) (hy : y < 4294967296) (hf1 : fin32 x = true) (hf2 : fin32 y = true) (hm1 : 0 ≤ mode) (hm2 : mode ≤ 4) (h0 : fz y ≠ 0) :
    Calls Tryz.prog 40 #[.float .f32 x, .float .f32 y, .int .i64 mode] w fun e w' => e = .returned (.tuple #[.float .f32 (diF x y mode), .int .i64 (diL x y mode)]) ∧ Below w.heap.size w w' := by
  have Hxy := Lib.hid (And.intro hx hy)
  have Hf := Lib.hid (And.intro hf1 hf2)
  have Hmo := Lib.hid (And.intro hm1 hm2)
  obtain ⟨e1, e2⟩ := fe_small hf1
  obtain ⟨e3, e4⟩ := fe_small hf2
  obtain ⟨w1, hw1⟩ : ∃ w1, w1 = w := ⟨_, rfl⟩
  have Bel1 : Hid (Below w.heap.size w w1) := Lib.hid (by rw [hw1]; exact Below.refl _ _)
  have Hw := Lib.hid hw1
  have H0 := Lib.hid h0
  have hE := eq_zero32 x hx (fin_nan hf1)
  clear h0 hx hy hf1 hf2 hm1 hm2 hw1
  have hst := store_int Tryz.prog
  have hst2 := store_slice Tryz.prog
  by_cases h0 : fz x = 0
  · have Hres := Lib.hid (di_eq (x := x) (y := y) mode h0)
    rw [decide_eq_true (fz_zero.1 h0)] at hE
    clear h0
    go_enter Tryz.func40, Tryz.ntmps40
    go_wp2_with fail
    rw [← Hw.out]
    refine (bitB_any x _ Hxy.out.1 Hf.out.1).mono ?_
    rintro e w9 ⟨rfl, rfl⟩
    go_wp2_with fail
    refine (bitB_any y _ Hxy.out.2 Hf.out.2).mono ?_
    rintro e w9 ⟨rfl, rfl⟩
    go_wp2_with fail
    refine (zero_any (neg32 x != neg32 y) _).mono ?_
    rintro e w9 ⟨rfl, rfl⟩
    go_wp2_with fail
    go_ret2
    exact ⟨by rw [Hres.out.1, Hres.out.2]; rfl, Bel1.out⟩
  · rw [decide_eq_false (fun e => h0 (fz_zero.2 e))] at hE
    obtain ⟨k, hk⟩ : ∃ k : Nat, (k : Int) = 64 + (blen (fz y).natAbs : Int) - blen (fz x).natAbs := ⟨(64 + (blen (fz y).natAbs : Int) - blen (fz x).natAbs).toNat, by have := blen_small Hf.out.1; omega⟩
    have Hk := Lib.hid hk
    have Hkk : Hid (k ≤ 88) := Lib.hid (by have := blen_small Hf.out.2; omega)
    have hkb : (k : Int) ≤ 88 := by have := Hkk.out; omega
    have Hres := Lib.hid (di_ne (x := x) (y := y) mode h0 H0.out Hf.out.1 hk)
    have Hx0 := Lib.hid h0
    clear h0 hk
    go_enter Tryz.func40, Tryz.ntmps40
    go_wp2_with fail
    rw [← Hw.out]
    refine (specOfD_any x _ Hxy.out.1 Hf.out.1).mono ?_
    rintro e w2 ⟨S2, A2, n2, c2, rfl, hzo, hb⟩
    rw [show nx (ofM x) (ofP x) = fe x from rfl]
    have Zx2 : Hid (ZV w2 (fz x) S2 A2 n2 c2) := Lib.hid hzo.zv
    have Hnx : Hid ((n2 : Int) ≤ 1) := Lib.hid (fz_len Hf.out.1 hzo.zv.len)
    clear hzo
    have Sz2 := Lib.hid (Below.size hb)
    have Bel2 := Lib.hid (belNext Bel1.out hb)
    clear hb Bel1
    go_wp2_with fail
    refine (specOfD_any y _ Hxy.out.2 Hf.out.2).mono ?_
    rintro e w3 ⟨S3, A3, n3, c3, rfl, hzo, hb⟩
    rw [show nx (ofM y) (ofP y) = fe y from rfl]
    have Zy3 : Hid (ZV w3 (fz y) S3 A3 n3 c3) := Lib.hid hzo.zv
    have Hny : Hid ((n3 : Int) ≤ 1) := Lib.hid (fz_len Hf.out.2 hzo.zv.len)
    clear hzo
    have Sz3 := Lib.hid (Below.size hb)
    have Bel3 := Lib.hid (belNext Bel2.out hb)
    have Zx3 := Lib.hid (Zx2.out.next hb)
    clear hb Bel2 Zx2
    go_wp2_with fail
    refine (specRatio_any (fz x) S2 (fe x) (fz y) S3 (fe y) A2 A3 n2 c2 n3 c3 k _ Zx3.out Zy3.out Hx0.out H0.out (by have := Hnx.out; omega) (by have := Hny.out; omega) (by omega) (by omega) (by omega) (by omega) Hk.out).mono ?_
    rintro e w4 ⟨Sr, Ar, nr, cr, rfl, hzo, hb⟩
    obtain ⟨P, hP⟩ : ∃ P, P = dvV (fz x) (fz y) k := ⟨_, rfl⟩
    obtain ⟨q, hq⟩ : ∃ q, q = fe x - k - fe y - 1 := ⟨_, rfl⟩
    rw [← hP, ← hq]
    rw [← hP] at hzo
    obtain ⟨v, hv⟩ : ∃ v, v = nx P q := ⟨_, rfl⟩
    rw [← hv]
    have HP := Lib.hid hP
    have Hq := Lib.hid hq
    have Hv := Lib.hid hv
    have Zo4 : Hid (ZV w4 (nz P) Sr Ar nr cr) := Lib.hid hzo.zv
    have Hpl : Hid ((limbs P.natAbs).length ≤ 10) := Lib.hid (by rw [hP]; exact dv_len Hx0.out H0.out Hf.out.1 Hkk.out)
    have Hnr : Hid ((nr : Int) ≤ 10) := Lib.hid (by have h := hzo.zv.len; have h2 := limbs_len_mono (nz_le P); have h3 := Hpl.out; omega)
    have Hodd : Hid (nz P ≠ 0 → (nz P).natAbs % 2 = 1) := Lib.hid (fun h => nz_odd (fun e => h (nz_eq_zero.2 e)))
    have hv1 : -2000 ≤ v ∧ v ≤ 2000 := by
      rw [hv]
      by_cases h0 : P = 0
      · rw [h0, nx_zero]; omega
      · rw [nx_ne h0]; have h := tz_le (v := P.natAbs) rfl; have h3 := Hpl.out; omega
    obtain ⟨hv1, hv2⟩ := hv1
    clear hzo hP hq hv
    have Sz4 := Lib.hid (Below.size hb)
    have Bel4 := Lib.hid (belNext Bel3.out hb)
    have Zx4 := Lib.hid (Zx3.out.next hb)
    have Zy4 := Lib.hid (Zy3.out.next hb)
    clear hb Bel3 Zx3 Zy3
    go_wp2_with fail
    refine (specRound_any (nz P) Sr v mode Ar nr cr _ Zo4.out Hodd.out (by have := Hnr.out; omega) (by omega) (by omega) Hmo.out.1 Hmo.out.2).mono ?_
    rintro e w5 ⟨rfl, hb⟩
    rw [Hv.out, HP.out, Hq.out, ← Hres.out.1, ← Hres.out.2]
    have Sz5 := Lib.hid (Below.size hb)
    have Bel5 := Lib.hid (belNext Bel4.out hb)
    have Zx5 := Lib.hid (Zx4.out.next hb)
    have Zy5 := Lib.hid (Zy4.out.next hb)
    have Zo5 := Lib.hid (Zo4.out.next hb)
    clear hb Bel4 Zx4 Zy4 Zo4
    go_wp2_with fail
    go_ret2
    exact ⟨rfl, Bel5.out⟩

set_option maxHeartbeats 4000000 in
theorem implDivideIn_any (x y : Nat) (mode : Int) (w : World) (hx : x < 4294967296) (hy : y < 4294967296) (hT : TabZ w) :
    Calls Tryz.prog 16 #[.float .f32 x, .float .f32 y, .int .i64 mode] w fun e w' => e = .returned (.tuple #[.float .f32 (dqF x y mode), .int .i64 (dqL x y mode), .int .i64 (dqC x y mode)]) ∧ Below w.heap.size w w' := by
  have Hxy := Lib.hid (And.intro hx hy)
  obtain ⟨w1, hw1⟩ : ∃ w1, w1 = w.alloc (.cells #[.float .f32 x, .float .f32 y] 37) := ⟨_, rfl⟩
  have Hr : Hid (Rd w1 w1.heap.size (some ⟨w.heap.size, 0, none⟩) (fs [x, y])) := Lib.hid (by rw [hw1]; exact rd_two _ _ _ _)
  have Bel1 : Hid (Below w.heap.size w w1) := Lib.hid (by rw [hw1]; exact belAlloc1 _ _)
  have Tb1 := Lib.hid (hT.next Bel1.out)
  have Hw := Lib.hid hw1
  clear hx hy hw1 hT
  go_enter Tryz.func16, Tryz.ntmps16
  go_wp2_with fail
  rw [← Hw.out]
  refine (check_any mode [x, y] _ 2 2 _ w1 Hr.out rfl (by omega) (by have h := Hxy.out; simp; exact h)).mono ?_
  rintro e w9 ⟨rfl, rfl⟩
  by_cases hc : ckE [x, y] mode = 0
  · have Hc := Lib.hid hc
    obtain ⟨hf1, hf2, hm1, hm2⟩ := ckE_zero hc
    have Hf := Lib.hid (And.intro hf1 hf2)
    have Hmo := Lib.hid (And.intro hm1 hm2)
    have hE := eq_zero32 y Hxy.out.2 (fin_nan hf2)
    obtain ⟨e1, e2⟩ := fe_small hf1
    obtain ⟨e3, e4⟩ := fe_small hf2
    rw [hc]
    clear hc hf1 hf2 hm1 hm2
    by_cases h0 : fz y = 0
    · rw [decide_eq_true (fz_zero.1 h0)] at hE
      have Hres : Hid (dqC x y mode = 5) := Lib.hid (by unfold dqC; rw [if_pos Hc.out, if_pos h0])
      have Hr2 : Hid (dqF x y mode = 0 ∧ dqL x y mode = 0) := Lib.hid (by unfold dqF dqL; rw [if_neg (by rw [Hres.out]; omega), if_neg (by rw [Hres.out]; omega)]; exact ⟨rfl, rfl⟩)
      clear h0
      go_wp2_with fail
      go_ret3
      exact ⟨ret_flo Hr2.out.1.symm Hr2.out.2.symm Hres.out.symm, Bel1.out⟩
    · rw [decide_eq_false (fun e => h0 (fz_zero.2 e))] at hE
      have Hres : Hid (dqC x y mode = 0) := Lib.hid (by unfold dqC; rw [if_pos Hc.out, if_neg h0])
      have Hr2 : Hid (dqF x y mode = diF x y mode ∧ dqL x y mode = diL x y mode) := Lib.hid (by unfold dqF dqL; rw [if_pos Hres.out, if_pos Hres.out]; exact ⟨rfl, rfl⟩)
      have H0 := Lib.hid h0
      clear h0
      go_wp2_with fail
      refine (exactOf_any x _ Hxy.out.1 Hf.out.1 Tb1.out).mono ?_
      rintro e w2 ⟨S2, A2, n2, c2, rfl, hzo, hb⟩
      rw [show nx (ofM x) (ofP x) = fe x from rfl]
      have Zx2 : Hid (ZV w2 (fz x) S2 A2 n2 c2) := Lib.hid hzo.zv
      have Hn2 : Hid ((n2 : Int) ≤ 1) := Lib.hid (fz_len Hf.out.1 hzo.zv.len)
      clear hzo
      have Sz2 := Lib.hid (Below.size hb)
      have Bel2 := Lib.hid (belNext Bel1.out hb)
      have Tb2 := Lib.hid (Tb1.out.next hb)
      clear hb Bel1 Tb1
      go_wp2_with fail
      refine (exactOf_any y _ Hxy.out.2 Hf.out.2 Tb2.out).mono ?_
      rintro e w3 ⟨S3, A3, n3, c3, rfl, hzo, hb⟩
      rw [show nx (ofM y) (ofP y) = fe y from rfl]
      have Zy3 : Hid (ZV w3 (fz y) S3 A3 n3 c3) := Lib.hid hzo.zv
      have Hn3 : Hid ((n3 : Int) ≤ 1) := Lib.hid (fz_len Hf.out.2 hzo.zv.len)
      clear hzo
      have Sz3 := Lib.hid (Below.size hb)
      have Bel3 := Lib.hid (belNext Bel2.out hb)
      have Tb3 := Lib.hid (Tb2.out.next hb)
      have Zx3 := Lib.hid (Zx2.out.next hb)
      clear hb Bel2 Tb2 Zx2
      go_wp2_with fail
      refine (exOver_any (fz x) S2 (fe x) (sgn x) (fz y) S3 (fe y) (sgn y) A2 A3 n2 c2 n3 c3 _ Zx3.out Zy3.out (by have := Hn2.out; omega) (by have := Hn3.out; omega) (by omega) (by omega) (by omega) (by omega) H0.out (by have := sgn_pm x; omega) (by have := sgn_pm x; omega) (by have := sgn_pm y; omega) (by have := sgn_pm y; omega) Tb3.out).mono ?_
      rintro e w4 ⟨S4, A4, n4, c4, rfl, hzo, hb⟩
      have Zr4 : Hid (ZV w4 (ovZ (fz x) (fe x) (fz y) (fe y)) S4 A4 n4 c4) := Lib.hid hzo.zv
      have Hn4 : Hid ((n4 : Int) ≤ 10) := Lib.hid (by have h := ov_len Hf.out.1 Hf.out.2; rw [hzo.zv.len] at h; omega)
      obtain ⟨v1, v2⟩ := ov_exp Hf.out.1 Hf.out.2
      obtain ⟨E4, hE4⟩ : ∃ E4, E4 = ovE (fz x) (fe x) (fz y) (fe y) := ⟨_, rfl⟩
      obtain ⟨g4, hg4⟩ : ∃ g4, g4 = sgn x * sgn y := ⟨_, rfl⟩
      obtain ⟨z4, hz4⟩ : ∃ z4, z4 = ovZ (fz x) (fe x) (fz y) (fe y) := ⟨_, rfl⟩
      rw [← hE4] at v1 v2 ⊢
      rw [← hg4]
      rw [← hz4] at Zr4
      have Hr3 : Hid (xF z4 E4 g4 mode = diF x y mode ∧ xL z4 E4 mode = diL x y mode) := Lib.hid (by rw [hz4, hE4, hg4]; exact ⟨rfl, rfl⟩)
      clear hzo hE4 hg4 hz4
      have Sz4 := Lib.hid (Below.size hb)
      have Bel4 := Lib.hid (belNext Bel3.out hb)
      have Tb4 := Lib.hid (Tb3.out.next hb)
      have Zx4 := Lib.hid (Zx3.out.next hb)
      have Zy4 := Lib.hid (Zy3.out.next hb)
      clear hb Bel3 Tb3 Zx3 Zy3
      go_wp2_with fail
      refine (exRounded_any z4 S4 E4 g4 mode A4 n4 c4 _ Zr4.out (by have := Hn4.out; omega) (by omega) (by omega) Hmo.out.1 Hmo.out.2 Tb4.out).mono ?_
      rintro e w5 ⟨rfl, hb⟩
      rw [Hr3.out.1, Hr3.out.2]
      have Sz5 := Lib.hid (Below.size hb)
      have Bel5 := Lib.hid (belNext Bel4.out hb)
      have Tb5 := Lib.hid (Tb4.out.next hb)
      have Zx5 := Lib.hid (Zx4.out.next hb)
      have Zy5 := Lib.hid (Zy4.out.next hb)
      have Zr5 := Lib.hid (Zr4.out.next hb)
      clear hb Bel4 Tb4 Zx4 Zy4 Zr4
      go_wp2_with fail
      go_ret3
      exact ⟨ret_flo Hr2.out.1.symm Hr2.out.2.symm Hres.out.symm, Bel5.out⟩
  · obtain ⟨cd, hcd⟩ : ∃ cd, cd = ckE [x, y] mode := ⟨_, rfl⟩
    rw [← hcd] at hc
    have hc2 : (cd == 0) = false := beq_false_of_ne hc
    have hc3 : (cd != 0) = true := by simp [hc]
    have Hres : Hid (dqC x y mode = cd) := Lib.hid (by unfold dqC; rw [if_neg (by rw [← hcd]; exact hc), hcd])
    have Hr2 : Hid (dqF x y mode = 0 ∧ dqL x y mode = 0) := Lib.hid (by unfold dqF dqL; rw [if_neg (by rw [Hres.out]; exact hc), if_neg (by rw [Hres.out]; exact hc)]; exact ⟨rfl, rfl⟩)
    rw [← hcd]
    clear hcd
    go_wp2_with fail
    go_ret3
    exact ⟨ret_flo Hr2.out.1.symm Hr2.out.2.symm Hres.out.symm, Bel1.out⟩

set_option maxHeartbeats 4000000 in
theorem specDivideIn_any (x y : Nat) (mode : Int) (w : World) (hx : x < 4294967296) (hy : y < 4294967296) :
    Calls Tryz.prog 15 #[.float .f32 x, .float .f32 y, .int .i64 mode] w fun e w' => e = .returned (.tuple #[.float .f32 (dqF x y mode), .int .i64 (dqL x y mode), .int .i64 (dqC x y mode)]) ∧ Below w.heap.size w w' := by
  have Hxy := Lib.hid (And.intro hx hy)
  obtain ⟨w1, hw1⟩ : ∃ w1, w1 = w := ⟨_, rfl⟩
  have Bel1 : Hid (Below w.heap.size w w1) := Lib.hid (by rw [hw1]; exact Below.refl _ _)
  have Hw := Lib.hid hw1
  clear hx hy hw1
  go_enter Tryz.func15, Tryz.ntmps15
  go_wp2_with fail
  rw [← Hw.out]
  refine (specTwo_any x y mode _ Hxy.out.1 Hxy.out.2).mono ?_
  rintro e w2 ⟨rfl, hb⟩
  have Sz2 := Lib.hid (Below.size hb)
  have Bel2 := Lib.hid (belNext Bel1.out hb)
  clear hb Bel1
  by_cases hc : ckE [x, y] mode = 0
  · have Hc := Lib.hid hc
    obtain ⟨hf1, hf2, hm1, hm2⟩ := ckE_zero hc
    have Hf := Lib.hid (And.intro hf1 hf2)
    have Hmo := Lib.hid (And.intro hm1 hm2)
    have hE := eq_zero32 y Hxy.out.2 (fin_nan hf2)
    obtain ⟨e1, e2⟩ := fe_small hf1
    obtain ⟨e3, e4⟩ := fe_small hf2
    rw [hc]
    clear hc hf1 hf2 hm1 hm2
    by_cases h0 : fz y = 0
    · rw [decide_eq_true (fz_zero.1 h0)] at hE
      have Hres : Hid (dqC x y mode = 5) := Lib.hid (by unfold dqC; rw [if_pos Hc.out, if_pos h0])
      have Hr2 : Hid (dqF x y mode = 0 ∧ dqL x y mode = 0) := Lib.hid (by unfold dqF dqL; rw [if_neg (by rw [Hres.out]; omega), if_neg (by rw [Hres.out]; omega)]; exact ⟨rfl, rfl⟩)
      clear h0
      go_wp2_with fail
      go_ret3
      exact ⟨ret_flo Hr2.out.1.symm Hr2.out.2.symm Hres.out.symm, Bel2.out⟩
    · rw [decide_eq_false (fun e => h0 (fz_zero.2 e))] at hE
      have Hres : Hid (dqC x y mode = 0) := Lib.hid (by unfold dqC; rw [if_pos Hc.out, if_neg h0])
      have Hr2 : Hid (dqF x y mode = diF x y mode ∧ dqL x y mode = diL x y mode) := Lib.hid (by unfold dqF dqL; rw [if_pos Hres.out, if_pos Hres.out]; exact ⟨rfl, rfl⟩)
      have H0 := Lib.hid h0
      clear h0
      go_wp2_with fail
      refine (specDivF_any x y mode _ Hxy.out.1 Hxy.out.2 Hf.out.1 Hf.out.2 Hmo.out.1 Hmo.out.2 H0.out).mono ?_
      rintro e w3 ⟨rfl, hb⟩
      have Sz3 := Lib.hid (Below.size hb)
      have Bel3 := Lib.hid (belNext Bel2.out hb)
      clear hb Bel2
      go_wp2_with fail
      go_ret3
      exact ⟨ret_flo Hr2.out.1.symm Hr2.out.2.symm Hres.out.symm, Bel3.out⟩
  · obtain ⟨cd, hcd⟩ : ∃ cd, cd = ckE [x, y] mode := ⟨_, rfl⟩
    rw [← hcd] at hc
    have hc2 : (cd == 0) = false := beq_false_of_ne hc
    have hc3 : (cd != 0) = true := by simp [hc]
    have Hres : Hid (dqC x y mode = cd) := Lib.hid (by unfold dqC; rw [if_neg (by rw [← hcd]; exact hc), hcd])
    have Hr2 : Hid (dqF x y mode = 0 ∧ dqL x y mode = 0) := Lib.hid (by unfold dqF dqL; rw [if_neg (by rw [Hres.out]; exact hc), if_neg (by rw [Hres.out]; exact hc)]; exact ⟨rfl, rfl⟩)
    rw [← hcd]
    clear hcd
    go_wp2_with fail
    go_ret3
    exact ⟨ret_flo Hr2.out.1.symm Hr2.out.2.symm Hres.out.symm, Bel2.out⟩

end Go.Proofs.YtcjamfoiilgfoaaGreatDoor
