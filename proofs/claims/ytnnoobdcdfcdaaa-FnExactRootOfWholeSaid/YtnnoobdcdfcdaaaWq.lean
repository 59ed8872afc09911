/- The sum of two whole numbers, of the program. -/
import Derived.Test.YtnnoobdcdfcdaaaCw
import Derived.Test.YtnnoobdcdfcdaaaWo
import Derived.Test.YtnnoobdcdfcdaaaMi
namespace Go.Proofs.Ytnnoobdcdfcdaaa
set_option maxRecDepth 100000
open Go.RowKit
set_option linter.unusedSimpArgs false
set_option linter.unusedVariables false

theorem three_boxes (w : World) (s s' : Int) (A A' : Option Addr) (n n' c c' : Nat) (t t' t2 : TypeId) :
    ∃ W, W = ((w.alloc (.cells #[.int .i64 s, .slice A n c] t)).alloc (.cells #[.int .i64 s', .slice A' n' c'] t')).alloc (.cells #[.int .i64 0, .slice none 0 0] t2) ∧
      Box W w.heap.size s A n c ∧ Box W (w.heap.size + 1) s' A' n' c' ∧ ResB W (w.heap.size + 1 + 1) ∧ Below w.heap.size w W := by
  obtain ⟨h1, h2, h3⟩ := two_boxes w s s' A A' n n' c c' t t'
  have h := belAlloc1 ((w.alloc (.cells #[.int .i64 s, .slice A n c] t)).alloc (.cells #[.int .i64 s', .slice A' n' c'] t')) (.cells #[.int .i64 0, .slice none 0 0] t2)
  have hr := resBox_new ((w.alloc (.cells #[.int .i64 s, .slice A n c] t)).alloc (.cells #[.int .i64 s', .slice A' n' c'] t')) t2
  have e : ((w.alloc (.cells #[.int .i64 s, .slice A n c] t)).alloc (.cells #[.int .i64 s', .slice A' n' c'] t')).heap.size = w.heap.size + 1 + 1 := by simp
  rw [e] at hr
  exact ⟨_, rfl, h1.next h, h2.next h, hr, h3.trans (h.mono (by simp; omega))⟩

theorem limbs_len_add {a b n n' : Nat} (hn : (limbs a).length = n) (hn' : (limbs b).length = n') (hle : n' ≤ n) : (limbs (a + b)).length ≤ n + 1 := by
  refine limbs_len_le.2 ?_
  have h1 := (limbs_len_le (v := a) (n := n)).1 (by omega)
  have h2 := (limbs_len_le (v := b) (n := n)).1 (by omega)
  rw [Nat.pow_succ, Bs_eq] at *
  omega
theorem limbs_len_sum (a b : Nat) {n n' : Nat} (hn : (limbs a).length = n) (hn' : (limbs b).length = n') : (limbs (a + b)).length ≤ n + n' + 1 := by
  rcases Nat.le_total n' n with h | h
  · have := limbs_len_add hn hn' h; omega
  · have := limbs_len_add hn' hn h; rw [Nat.add_comm] at this; omega
theorem limbs_len_mono {a b : Nat} (h : a ≤ b) : (limbs a).length ≤ (limbs b).length := limbs_len_le.2 (Nat.lt_of_le_of_lt h (limbs_len_le.1 (Nat.le_refl _)))
theorem Sg.one {s : Int} {v : Nat} (h : Sg s v) : s = 1 ∨ s = -1 ∨ v = 0 := by
  obtain ⟨h1, h2, h3⟩ := h
  by_cases h0 : v = 0
  · exact .inr (.inr h0)
  · omega

theorem sum_one {s : Int} {a b : Nat} (h : Sg s a) (h' : Sg s b) : s = 1 ∨ s = -1 ∨ a + b = 0 := by
  obtain ⟨h1, h2, h3⟩ := h
  obtain ⟨g1, g2, g3⟩ := h'
  omega
theorem diff_one {s : Int} {a b : Nat} (h : Sg s b) (hlt : a < b) : s = 1 ∨ s = -1 ∨ b - a = 0 := by
  obtain ⟨h1, h2, h3⟩ := h
  omega
theorem sum_same {s : Int} {a b : Nat} : s * ((a + b : Nat) : Int) = s * a + s * b := by rw [Int.natCast_add, Int.mul_add]
theorem sum_second {s s' : Int} {a b : Nat} (h : Sg s a) (h' : Sg s' b) (hne : s ≠ s') (hlt : a < b) : s' * ((b - a : Nat) : Int) = s * a + s' * b := by
  obtain ⟨h1, h2, h3⟩ := h
  obtain ⟨g1, g2, g3⟩ := h'
  have e1 : s = -1 ∨ s = 0 ∨ s = 1 := by omega
  have e2 : s' = -1 ∨ s' = 0 ∨ s' = 1 := by omega
  rcases e1 with rfl | rfl | rfl <;> rcases e2 with rfl | rfl | rfl <;> simp at h3 g3 hne ⊢ <;> omega
theorem sum_first {s s' : Int} {a b : Nat} (h : Sg s a) (h' : Sg s' b) (hne : s ≠ s') (hlt : b < a) : s * ((a - b : Nat) : Int) = s * a + s' * b := by
  rw [sum_second h' h (Ne.symm hne) hlt, Int.add_comm]
theorem zero_sum {s s' : Int} {a b : Nat} (h : Sg s a) (h' : Sg s' b) (hne : s ≠ s') (heq : a = b) : s * a + s' * b = 0 := by
  obtain ⟨h1, h2, h3⟩ := h
  obtain ⟨g1, g2, g3⟩ := h'
  subst heq
  have e1 : s = -1 ∨ s = 0 ∨ s = 1 := by omega
  have e2 : s' = -1 ∨ s' = 0 ∨ s' = 1 := by omega
  rcases e1 with rfl | rfl | rfl <;> rcases e2 with rfl | rfl | rfl <;> simp at h3 g3 hne ⊢ <;> omega

set_option maxHeartbeats 4000000 in
theorem implPlus_any (s s' : Int) (a b : Nat) (A A' : Option Addr) (n n' c c' : Nat) (w : World) (hs : Sg s a) (hs' : Sg s' b) (hr : Rd w w.heap.size A (vs (limbs a))) (hr' : Rd w w.heap.size A' (vs (limbs b))) (hn : (limbs a).length = n) (hn' : (limbs b).length = n') (hm : (n : Int) ≤ 90000) (hm' : (n' : Int) ≤ 90000) :
    Calls Try.prog 55 #[.agg #[.int .i64 s, .slice A n c], .agg #[.int .i64 s', .slice A' n' c']] w fun e w' => ∃ val, e = .returned val ∧ Wz w' w.heap.size w'.heap.size (s * a + s' * b) val ∧ Below w.heap.size w w' := by
  have hst := store_int Try.prog
  have hst2 := store_slice Try.prog
  obtain ⟨w1, hw1, hb1, hb2, hb3, hb4⟩ := three_boxes w s s' A A' n n' c c' 26 26 26
  have Ra1 : Hid (Rt w1 w.heap.size A (vs (limbs a))) := Lib.hid ⟨hr.below hb4, hb4.size⟩
  have Rb1 : Hid (Rt w1 w.heap.size A' (vs (limbs b))) := Lib.hid ⟨hr'.below hb4, hb4.size⟩
  have Hn := Lib.hid hn
  have Hn' := Lib.hid hn'
  have Hs := Lib.hid hs
  have Hs' := Lib.hid hs'
  have Hw := Lib.hid hw1
  have Bx1 := Lib.hid hb1
  have By1 := Lib.hid hb2
  have Rs1 := Lib.hid hb3
  have Bel1 := Lib.hid hb4
  have H100 : Hid ((n : Int) ≤ 100000 ∧ (n' : Int) ≤ 100000) := Lib.hid (by omega)
  clear hr hr' hn hn' hs hs' hw1 hb1 hb2 hb3 hb4
  by_cases he : s = s'
  · subst he
    go_enter Try.func55, Try.ntmps55
    go_wp2_with fail
    rw [← Hw.out]
    obtain ⟨⟨hx1, hx2⟩, hx3⟩ := Bx1.out
    obtain ⟨⟨hy1, hy2⟩, hy3⟩ := By1.out
    go_quiet (fail)
    have hq : Below w1.heap.size w1 (w1.drewN nq) := below_drewN (Below.refl _ _) nq
    obtain ⟨w2, hw2⟩ : ∃ w2, w2 = w1.drewN nq := ⟨_, rfl⟩
    rw [← hw2] at hq ⊢
    have Bel2 := Lib.hid (belNext Bel1.out hq)
    have Bx2 := Lib.hid (Bx1.out.next hq)
    have By2 := Lib.hid (By1.out.next hq)
    have Rs2 := Lib.hid (Rs1.out.next hq)
    have Ra2 := Lib.hid (Ra1.out.next hq)
    have Rb2 := Lib.hid (Rb1.out.next hq)
    clear Bel1 Bx1 By1 Rs1 Ra1 Rb1
    clear hw2 hq hx1 hx2 hx3 hy1 hy2 hy3
    obtain ⟨⟨hx1, hx2⟩, hx3⟩ := Bx2.out
    obtain ⟨⟨hy1, hy2⟩, hy3⟩ := By2.out
    go_wp2_with fail
    have H8 : Hid (((limbs (a + b)).length : Int) ≤ 1000000) := Lib.hid (by have := limbs_len_sum a b Hn.out Hn'.out; omega)
    refine wp_region_held_drew (S := fun w' => w'.cell? ⟨w.heap.size, 0, none⟩ = some (.int .i64 s)) (by kernel_rfl) Bx2.out.1.1 (fun hHeld => ?_)
    clear hx1 hx2 hx3 hy1 hy2 hy3
    refine wpAnyH_take (i := 0) (v := ?_) rfl (by kernel_rfl) (by kernel_rfl) (by kernel_rfl) (fun _ _ _ h => h) (Or.inl ⟨by rfl, ?_⟩) (by assumption) ?_
    rotate_left
    · (intro w hSw; (try dsimp only at hSw); go_simp; (try with_reducible rfl))
    try simp only [Act.put, List.setIfInBounds_toArray, List.set_cons_zero, List.set_cons_succ]
    refine wpAnyH_take (i := 1) (v := ?_) rfl (by kernel_rfl) (by kernel_rfl) (by kernel_rfl) (fun _ _ _ h => h) (Or.inl ⟨by rfl, ?_⟩) (by assumption) ?_
    rotate_left
    · (intro w hSw; (try dsimp only at hSw); go_simp; (try with_reducible rfl))
    try simp only [Act.put, List.setIfInBounds_toArray, List.set_cons_zero, List.set_cons_succ]
    refine wpAnyH_take (i := 2) (v := ?_) rfl (by kernel_rfl) (by kernel_rfl) (by kernel_rfl) (fun _ _ _ h => h) (Or.inl ⟨by rfl, ?_⟩) (by assumption) ?_
    rotate_left
    · (intro w hSw; (try dsimp only at hSw); go_simp; (try with_reducible rfl))
    try simp only [Act.put, List.setIfInBounds_toArray, List.set_cons_zero, List.set_cons_succ]
    refine wpAnyH_take (i := 3) (v := ?_) rfl (by kernel_rfl) (by kernel_rfl) (by kernel_rfl) (fun _ _ _ h => h) (Or.inl ⟨by rfl, ?_⟩) (by assumption) ?_
    rotate_left
    · (intro w hSw; (try dsimp only at hSw); go_simp; (try with_reducible rfl))
    try simp only [Act.put, List.setIfInBounds_toArray, List.set_cons_zero, List.set_cons_succ]
    refine wpAnyH_ready (rs := [4]) (by kernel_rfl) (by simp) ?_
    refine AllReadyH.cons rfl (fun K hK => ?_) AllReadyH.nil
    go_simp
    refine (natPlus_any a b A A' n n' c c' _ _ w2.drew Ra2.out.1 Rb2.out.1 Ra2.out.2 Rb2.out.2 Hn.out Hn'.out H100.out.1 H100.out.2).mono ?_
    rintro e w8 ⟨A8, rfl, ho8, hb0⟩
    have hb8 := belDrew hb0
    have Hb8 := Lib.hid hb8
    have O8 := Lib.hid ho8
    refine hK.out _ _ (Bx2.out.next hb8).1.1 (fun hHeld => ?_)
    have Bz8 := Lib.hid (Bx2.out.next hb8)
    have Rs8 := Lib.hid (Rs2.out.next hb8)
    have Bel8 := Lib.hid (belNext Bel2.out hb8)
    clear hK K ho8 hb0 hb8
    try simp only [Act.put, List.setIfInBounds_toArray, List.set_cons_zero, List.set_cons_succ]
    refine wpAnyH_ready (rs := [5]) (by kernel_rfl) (by simp) ?_
    refine AllReadyH.cons rfl (fun K hK => ?_) AllReadyH.nil
    go_simp
    refine (signed_any s (a + b : Nat) A8 _ _ _ _ _ O8.out rfl (by have := H8.out; omega) (Nat.le_refl _)).mono ?_
    rintro e w9 ⟨val, rfl, hv, hb9⟩
    have Hz : Hid (Wz w9 w2.heap.size w9.heap.size (s * a + s * b) val) := Lib.hid ((((hv.z (sum_one Hs.out Hs'.out)).wide (Nat.le_refl _) hb9.size)).cast_ sum_same)
    have Rs9 := Lib.hid (Rs8.out.next hb9)
    have Bel9 := Lib.hid (belNext Bel8.out hb9)
    refine hK.out _ _ (Bz8.out.next hb9).1.1 (fun hHeld => ?_)
    have Bz9 := Lib.hid (Bz8.out.next hb9)
    clear hK K hv hb9
    try simp only [Act.put, List.setIfInBounds_toArray, List.set_cons_zero, List.set_cons_succ]
    obtain ⟨A9, c9, hval, _⟩ := Hz.out
    subst hval
    obtain ⟨⟨r1, r2, r3, r4⟩, _⟩ := Rs9.out
    have Hlt := Lib.hid Rs2.out.2
    refine wpAnyH_ready (rs := [6]) (by kernel_rfl) (by simp) ?_
    refine AllReadyH.cons rfl (fun K hK => ?_) AllReadyH.nil
    go_simp
    refine hK.out _ _ (by have h := Bz9.out.1.1; rw [World.cell?_setCell_other _ _ _ _ (by simp), World.cell?_setCell_other _ _ _ _ (by simp)]; exact h) (fun hHeld => ?_)
    clear hK K hHeld
    try simp only [Act.put, List.setIfInBounds_toArray, List.set_cons_zero, List.set_cons_succ]
    refine wpAnyH_done (by kernel_rfl) ?_ _
    go_wp2_with fail
    refine bodyPost_ret (v := .agg #[.int .i64 (s * a + s * b).sign, .slice A9 (limbs (s * a + s * b).natAbs).length c9]) (by simp [results, Try.results55, go_sem, r1, r2]) rfl ⟨_, rfl, ?_, ?_⟩
    · exact ((Hz.out.setCell (by have := Hlt.out; simp; omega) _).setCell (by have := Hlt.out; simp; omega) _).wide (by have := Hlt.out; omega) (by simp)
    · exact (Bel9.out.setCell (by simp; omega) _).setCell (by simp; omega) _
  · have hne : (s == s') = false := beq_false_of_ne he
    go_enter Try.func55, Try.ntmps55
    go_wp2_with fail
    rw [← Hw.out]
    obtain ⟨⟨hx1, hx2⟩, hx3⟩ := Bx1.out
    obtain ⟨⟨hy1, hy2⟩, hy3⟩ := By1.out
    go_quiet (fail)
    have hq : Below w1.heap.size w1 (w1.drewN nq) := below_drewN (Below.refl _ _) nq
    obtain ⟨w2, hw2⟩ : ∃ w2, w2 = w1.drewN nq := ⟨_, rfl⟩
    rw [← hw2] at hq ⊢
    have Bel2 := Lib.hid (belNext Bel1.out hq)
    have Bx2 := Lib.hid (Bx1.out.next hq)
    have By2 := Lib.hid (By1.out.next hq)
    have Rs2 := Lib.hid (Rs1.out.next hq)
    have Ra2 := Lib.hid (Ra1.out.next hq)
    have Rb2 := Lib.hid (Rb1.out.next hq)
    clear Bel1 Bx1 By1 Rs1 Ra1 Rb1
    clear hw2 hq hx1 hx2 hx3 hy1 hy2 hy3
    obtain ⟨⟨hx1, hx2⟩, hx3⟩ := Bx2.out
    obtain ⟨⟨hy1, hy2⟩, hy3⟩ := By2.out
    go_wp2_with fail
    refine (natCmp_any a b A A' n n' c c' _ _ _ Ra2.out.1 Rb2.out.1 Hn.out Hn'.out H100.out.1 H100.out.2).mono ?_
    rintro e w3 ⟨rfl, q, hw3⟩
    have hq : Below w2.heap.size w2 w3 := by rw [hw3]; exact below_drewN (Below.refl _ _) q
    clear hw3 hx1 hx2 hx3 hy1 hy2 hy3
    have Bel3 := Lib.hid (belNext Bel2.out hq)
    have Bx3 := Lib.hid (Bx2.out.next hq)
    have By3 := Lib.hid (By2.out.next hq)
    have Rs3 := Lib.hid (Rs2.out.next hq)
    have Ra3 := Lib.hid (Ra2.out.next hq)
    have Rb3 := Lib.hid (Rb2.out.next hq)
    clear Bel2 Bx2 By2 Rs2 Ra2 Rb2
    clear hq
    obtain ⟨⟨hx1, hx2⟩, hx3⟩ := Bx3.out
    obtain ⟨⟨hy1, hy2⟩, hy3⟩ := By3.out
    rcases Nat.lt_trichotomy a b with hlt | heq | hgt
    · have hc := cmpI_lt (show (a : Int) < b by omega)
      rw [hc]
      have Hlt0 := Lib.hid hlt
      clear hc hlt
      go_wp2_with fail
      have H8 : Hid (((limbs (b - a)).length : Int) ≤ 1000000) := Lib.hid (by have := limbs_len_mono (show b - a ≤ b by omega); have := Hn'.out; omega)
      refine wp_region_held_drew (S := fun w' => w'.cell? ⟨w.heap.size + 1, 0, none⟩ = some (.int .i64 s')) (by kernel_rfl) By3.out.1.1 (fun hHeld => ?_)
      clear hx1 hx2 hx3 hy1 hy2 hy3
      refine wpAnyH_take (i := 0) (v := ?_) rfl (by kernel_rfl) (by kernel_rfl) (by kernel_rfl) (fun _ _ _ h => h) (Or.inl ⟨by rfl, ?_⟩) (by assumption) ?_
      rotate_left
      · (intro w hSw; (try dsimp only at hSw); go_simp; (try with_reducible rfl))
      try simp only [Act.put, List.setIfInBounds_toArray, List.set_cons_zero, List.set_cons_succ]
      refine wpAnyH_take (i := 1) (v := ?_) rfl (by kernel_rfl) (by kernel_rfl) (by kernel_rfl) (fun _ _ _ h => h) (Or.inl ⟨by rfl, ?_⟩) (by assumption) ?_
      rotate_left
      · (intro w hSw; (try dsimp only at hSw); go_simp; (try with_reducible rfl))
      try simp only [Act.put, List.setIfInBounds_toArray, List.set_cons_zero, List.set_cons_succ]
      refine wpAnyH_take (i := 2) (v := ?_) rfl (by kernel_rfl) (by kernel_rfl) (by kernel_rfl) (fun _ _ _ h => h) (Or.inl ⟨by rfl, ?_⟩) (by assumption) ?_
      rotate_left
      · (intro w hSw; (try dsimp only at hSw); go_simp; (try with_reducible rfl))
      try simp only [Act.put, List.setIfInBounds_toArray, List.set_cons_zero, List.set_cons_succ]
      refine wpAnyH_take (i := 3) (v := ?_) rfl (by kernel_rfl) (by kernel_rfl) (by kernel_rfl) (fun _ _ _ h => h) (Or.inl ⟨by rfl, ?_⟩) (by assumption) ?_
      rotate_left
      · (intro w hSw; (try dsimp only at hSw); go_simp; (try with_reducible rfl))
      try simp only [Act.put, List.setIfInBounds_toArray, List.set_cons_zero, List.set_cons_succ]
      refine wpAnyH_ready (rs := [4]) (by kernel_rfl) (by simp) ?_
      refine AllReadyH.cons rfl (fun K hK => ?_) AllReadyH.nil
      go_simp
      refine (natMinus_any b a A' A n' n c' c _ _ w3.drew Rb3.out.1 Ra3.out.1 Rb3.out.2 Ra3.out.2 Hn'.out Hn.out H100.out.2 H100.out.1 (Nat.le_of_lt Hlt0.out)).mono ?_
      rintro e w8 ⟨A8, rfl, ho8, hb0⟩
      have hb8 := belDrew hb0
      have Hb8 := Lib.hid hb8
      have O8 := Lib.hid ho8
      refine hK.out _ _ (By3.out.next hb8).1.1 (fun hHeld => ?_)
      have Bz8 := Lib.hid (By3.out.next hb8)
      have Rs8 := Lib.hid (Rs3.out.next hb8)
      have Bel8 := Lib.hid (belNext Bel3.out hb8)
      clear hK K ho8 hb0 hb8
      try simp only [Act.put, List.setIfInBounds_toArray, List.set_cons_zero, List.set_cons_succ]
      refine wpAnyH_ready (rs := [5]) (by kernel_rfl) (by simp) ?_
      refine AllReadyH.cons rfl (fun K hK => ?_) AllReadyH.nil
      go_simp
      refine (signed_any s' (b - a : Nat) A8 _ _ _ _ _ O8.out rfl (by have := H8.out; omega) (Nat.le_refl _)).mono ?_
      rintro e w9 ⟨val, rfl, hv, hb9⟩
      have Hz : Hid (Wz w9 w3.heap.size w9.heap.size (s * a + s' * b) val) := Lib.hid ((((hv.z (diff_one Hs'.out Hlt0.out)).wide (Nat.le_refl _) hb9.size)).cast_ (sum_second Hs.out Hs'.out he Hlt0.out))
      have Rs9 := Lib.hid (Rs8.out.next hb9)
      have Bel9 := Lib.hid (belNext Bel8.out hb9)
      refine hK.out _ _ (Bz8.out.next hb9).1.1 (fun hHeld => ?_)
      have Bz9 := Lib.hid (Bz8.out.next hb9)
      clear hK K hv hb9
      try simp only [Act.put, List.setIfInBounds_toArray, List.set_cons_zero, List.set_cons_succ]
      obtain ⟨A9, c9, hval, _⟩ := Hz.out
      subst hval
      obtain ⟨⟨r1, r2, r3, r4⟩, _⟩ := Rs9.out
      have Hlt := Lib.hid Rs3.out.2
      refine wpAnyH_ready (rs := [6]) (by kernel_rfl) (by simp) ?_
      refine AllReadyH.cons rfl (fun K hK => ?_) AllReadyH.nil
      go_simp
      refine hK.out _ _ (by have h := Bz9.out.1.1; rw [World.cell?_setCell_other _ _ _ _ (by simp), World.cell?_setCell_other _ _ _ _ (by simp)]; exact h) (fun hHeld => ?_)
      clear hK K hHeld
      try simp only [Act.put, List.setIfInBounds_toArray, List.set_cons_zero, List.set_cons_succ]
      refine wpAnyH_done (by kernel_rfl) ?_ _
      go_wp2_with fail
      refine bodyPost_ret (v := .agg #[.int .i64 (s * a + s' * b).sign, .slice A9 (limbs (s * a + s' * b).natAbs).length c9]) (by simp [results, Try.results55, go_sem, r1, r2]) rfl ⟨_, rfl, ?_, ?_⟩
      · exact ((Hz.out.setCell (by have := Hlt.out; simp; omega) _).setCell (by have := Hlt.out; simp; omega) _).wide (by have := Hlt.out; omega) (by simp)
      · exact (Bel9.out.setCell (by simp; omega) _).setCell (by simp; omega) _
    · have hc : cmpI (a : Int) b = 0 := by rw [heq]; exact cmpI_eq _
      rw [hc]
      have Hzz : Hid (s * a + s' * b = 0) := Lib.hid (zero_sum Hs.out Hs'.out he heq)
      clear hc heq
      obtain ⟨⟨r1, r2, r3, r4⟩, _⟩ := Rs3.out
      go_wp2_with fail
      refine bodyPost_ret (v := .agg #[.int .i64 0, .slice none 0 0]) (by simp [results, Try.results55, go_sem, r1, r2]) rfl ⟨_, rfl, ?_, ?_⟩
      · rw [Hzz.out]
        exact ⟨none, 0, by simp [limbs_zero], by simp [limbs_zero, vs, li, vi]; exact .inl rfl, by simp [limbs_zero]⟩
      · exact (Bel3.out.setCell (by simp; omega) _).setCell (by simp; omega) _
    · have hc := cmpI_gt (show (b : Int) < a by omega)
      rw [hc]
      have Hlt0 := Lib.hid hgt
      clear hc hgt
      go_wp2_with fail
      have H8 : Hid (((limbs (a - b)).length : Int) ≤ 1000000) := Lib.hid (by have := limbs_len_mono (show a - b ≤ a by omega); have := Hn.out; omega)
      refine wp_region_held_drew (S := fun w' => w'.cell? ⟨w.heap.size, 0, none⟩ = some (.int .i64 s)) (by kernel_rfl) Bx3.out.1.1 (fun hHeld => ?_)
      clear hx1 hx2 hx3 hy1 hy2 hy3
      refine wpAnyH_take (i := 0) (v := ?_) rfl (by kernel_rfl) (by kernel_rfl) (by kernel_rfl) (fun _ _ _ h => h) (Or.inl ⟨by rfl, ?_⟩) (by assumption) ?_
      rotate_left
      · (intro w hSw; (try dsimp only at hSw); go_simp; (try with_reducible rfl))
      try simp only [Act.put, List.setIfInBounds_toArray, List.set_cons_zero, List.set_cons_succ]
      refine wpAnyH_take (i := 1) (v := ?_) rfl (by kernel_rfl) (by kernel_rfl) (by kernel_rfl) (fun _ _ _ h => h) (Or.inl ⟨by rfl, ?_⟩) (by assumption) ?_
      rotate_left
      · (intro w hSw; (try dsimp only at hSw); go_simp; (try with_reducible rfl))
      try simp only [Act.put, List.setIfInBounds_toArray, List.set_cons_zero, List.set_cons_succ]
      refine wpAnyH_take (i := 2) (v := ?_) rfl (by kernel_rfl) (by kernel_rfl) (by kernel_rfl) (fun _ _ _ h => h) (Or.inl ⟨by rfl, ?_⟩) (by assumption) ?_
      rotate_left
      · (intro w hSw; (try dsimp only at hSw); go_simp; (try with_reducible rfl))
      try simp only [Act.put, List.setIfInBounds_toArray, List.set_cons_zero, List.set_cons_succ]
      refine wpAnyH_take (i := 3) (v := ?_) rfl (by kernel_rfl) (by kernel_rfl) (by kernel_rfl) (fun _ _ _ h => h) (Or.inl ⟨by rfl, ?_⟩) (by assumption) ?_
      rotate_left
      · (intro w hSw; (try dsimp only at hSw); go_simp; (try with_reducible rfl))
      try simp only [Act.put, List.setIfInBounds_toArray, List.set_cons_zero, List.set_cons_succ]
      refine wpAnyH_ready (rs := [4]) (by kernel_rfl) (by simp) ?_
      refine AllReadyH.cons rfl (fun K hK => ?_) AllReadyH.nil
      go_simp
      refine (natMinus_any a b A A' n n' c c' _ _ w3.drew Ra3.out.1 Rb3.out.1 Ra3.out.2 Rb3.out.2 Hn.out Hn'.out H100.out.1 H100.out.2 (Nat.le_of_lt Hlt0.out)).mono ?_
      rintro e w8 ⟨A8, rfl, ho8, hb0⟩
      have hb8 := belDrew hb0
      have Hb8 := Lib.hid hb8
      have O8 := Lib.hid ho8
      refine hK.out _ _ (Bx3.out.next hb8).1.1 (fun hHeld => ?_)
      have Bz8 := Lib.hid (Bx3.out.next hb8)
      have Rs8 := Lib.hid (Rs3.out.next hb8)
      have Bel8 := Lib.hid (belNext Bel3.out hb8)
      clear hK K ho8 hb0 hb8
      try simp only [Act.put, List.setIfInBounds_toArray, List.set_cons_zero, List.set_cons_succ]
      refine wpAnyH_ready (rs := [5]) (by kernel_rfl) (by simp) ?_
      refine AllReadyH.cons rfl (fun K hK => ?_) AllReadyH.nil
      go_simp
      refine (signed_any s (a - b : Nat) A8 _ _ _ _ _ O8.out rfl (by have := H8.out; omega) (Nat.le_refl _)).mono ?_
      rintro e w9 ⟨val, rfl, hv, hb9⟩
      have Hz : Hid (Wz w9 w3.heap.size w9.heap.size (s * a + s' * b) val) := Lib.hid ((((hv.z (diff_one Hs.out Hlt0.out)).wide (Nat.le_refl _) hb9.size)).cast_ (sum_first Hs.out Hs'.out he Hlt0.out))
      have Rs9 := Lib.hid (Rs8.out.next hb9)
      have Bel9 := Lib.hid (belNext Bel8.out hb9)
      refine hK.out _ _ (Bz8.out.next hb9).1.1 (fun hHeld => ?_)
      have Bz9 := Lib.hid (Bz8.out.next hb9)
      clear hK K hv hb9
      try simp only [Act.put, List.setIfInBounds_toArray, List.set_cons_zero, List.set_cons_succ]
      obtain ⟨A9, c9, hval, _⟩ := Hz.out
      subst hval
      obtain ⟨⟨r1, r2, r3, r4⟩, _⟩ := Rs9.out
      have Hlt := Lib.hid Rs3.out.2
      refine wpAnyH_ready (rs := [6]) (by kernel_rfl) (by simp) ?_
      refine AllReadyH.cons rfl (fun K hK => ?_) AllReadyH.nil
      go_simp
      refine hK.out _ _ (by have h := Bz9.out.1.1; rw [World.cell?_setCell_other _ _ _ _ (by simp), World.cell?_setCell_other _ _ _ _ (by simp)]; exact h) (fun hHeld => ?_)
      clear hK K hHeld
      try simp only [Act.put, List.setIfInBounds_toArray, List.set_cons_zero, List.set_cons_succ]
      refine wpAnyH_done (by kernel_rfl) ?_ _
      go_wp2_with fail
      refine bodyPost_ret (v := .agg #[.int .i64 (s * a + s' * b).sign, .slice A9 (limbs (s * a + s' * b).natAbs).length c9]) (by simp [results, Try.results55, go_sem, r1, r2]) rfl ⟨_, rfl, ?_, ?_⟩
      · exact ((Hz.out.setCell (by have := Hlt.out; simp; omega) _).setCell (by have := Hlt.out; simp; omega) _).wide (by have := Hlt.out; omega) (by simp)
      · exact (Bel9.out.setCell (by simp; omega) _).setCell (by simp; omega) _
end Go.Proofs.Ytnnoobdcdfcdaaa
