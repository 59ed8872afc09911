/- Sums, opposites and differences of whole numbers, of the model. -/
import Derived.Test.YtnnoobdcdfcdaaaSa
import Derived.Test.YtnnoobdcdfcdaaaWq
namespace Go.Proofs.Ytnnoobdcdfcdaaa
set_option maxRecDepth 100000
open Go.RowKit
set_option linter.unusedSimpArgs false
set_option linter.unusedVariables false

theorem Box.keep {w : World} {b n c : Nat} {s : Int} {A : Option Addr} (h : Box w b s A n c) {p : Addr} (hp : p.block ≠ b) (u : Value) : Box (w.setCell p u) b s A n c := by
  have hk : (w.setCell p u).heap[b]? = w.heap[b]? := Below.heap_setCell _ _ _ _ (Ne.symm hp)
  exact ⟨⟨(World.cell?_of_block (a := ⟨b, 0, none⟩) hk).trans h.1.1, (World.cell?_of_block (a := ⟨b, 1, none⟩) hk).trans h.1.2⟩, by simpa using h.2⟩
theorem box_res (w : World) (s : Int) (A : Option Addr) (n c : Nat) (t t2 : TypeId) :
    ∃ W, W = (w.alloc (.cells #[.int .i64 s, .slice A n c] t)).alloc (.cells #[.int .i64 0, .slice none 0 0] t2) ∧ Box W w.heap.size s A n c ∧ ResB W (w.heap.size + 1) ∧ Below w.heap.size w W := by
  have h := belAlloc1 (w.alloc (.cells #[.int .i64 s, .slice A n c] t)) (.cells #[.int .i64 0, .slice none 0 0] t2)
  have hr := resBox_new (w.alloc (.cells #[.int .i64 s, .slice A n c] t)) t2
  have e : (w.alloc (.cells #[.int .i64 s, .slice A n c] t)).heap.size = w.heap.size + 1 := by simp
  rw [e] at hr
  exact ⟨_, rfl, (Box.new w s A n c t).next h, hr, (belAlloc1 w _).trans (h.mono (by simp))⟩
theorem Sg.zero {v : Nat} (h : Sg 0 v) : v = 0 := h.2.2.1 rfl

set_option maxHeartbeats 4000000 in
theorem specAdd_any (s s' : Int) (a b : Nat) (A A' : Option Addr) (n n' c c' : Nat) (w : World) (hs : Sg s a) (hs' : Sg s' b) (hr : Rd w w.heap.size A (vs (limbs a))) (hr' : Rd w w.heap.size A' (vs (limbs b))) (hn : (limbs a).length = n) (hn' : (limbs b).length = n') (hm : (n : Int) ≤ 90000) (hm' : (n' : Int) ≤ 90000) (hcap : n ≤ c) (hcap' : n' ≤ c') :
    Calls Try.prog 58 #[.agg #[.int .i64 s, .slice A n c], .agg #[.int .i64 s', .slice A' n' c']] w fun e w' => ∃ val, e = .returned val ∧ Wz w' w.heap.size w'.heap.size (s * a + s' * b) val ∧ Below w.heap.size w w' := by
  have hst := store_int Try.prog
  have hst2 := store_slice Try.prog
  obtain ⟨w1, hw1, hb1, hb2, hb3, hb4⟩ := three_boxes w s s' A A' n n' c c' 26 26 26
  have Ra1 : Hid (Rt w1 w.heap.size A (vs (limbs a))) := Lib.hid ⟨hr.below hb4, hb4.size⟩
  have Rb1 : Hid (Rt w1 w.heap.size A' (vs (limbs b))) := Lib.hid ⟨hr'.below hb4, hb4.size⟩
  have Hn := Lib.hid hn
  have Hn' := Lib.hid hn'
  have Hs := Lib.hid hs
  have Hs' := Lib.hid hs'
  have Hw := Lib.hid hw1
  have Bx1 := Lib.hid hb1
  have By1 := Lib.hid hb2
  have Rs1 := Lib.hid hb3
  have Bel1 := Lib.hid hb4
  have H100 : Hid ((n : Int) ≤ 90000 ∧ (n' : Int) ≤ 90000) := Lib.hid ⟨hm, hm'⟩
  have H1001 : Hid ((n : Int) ≤ 100000 ∧ (n' : Int) ≤ 100000) := Lib.hid (by omega)
  have Hcap : Hid ((n : Int) ≤ c ∧ (n' : Int) ≤ c') := Lib.hid (by omega)
  clear hr hr' hn hn' hs hs' hw1 hb1 hb2 hb3 hb4 hcap hcap'
  by_cases h0 : s = 0
  · subst h0
    go_enter Try.func58, Try.ntmps58
    go_wp2_with fail
    rw [← Hw.out]
    obtain ⟨⟨hx1, hx2⟩, hx3⟩ := Bx1.out
    obtain ⟨⟨hy1, hy2⟩, hy3⟩ := By1.out
    refine (make_any s' A' n' c' _ (limbs b) _ Rb1.out.1 Rb1.out.2 Hn'.out (Lim_limbs _) Hcap.out.2 (by omega)).mono ?_
    rintro e w9 ⟨val, rfl, hv, hb9⟩
    have Hz : Hid (Wz w9 w1.heap.size w9.heap.size (0 * a + s' * b) val) := Lib.hid ((hv.z (by rw [V_limbs]; exact Hs'.out.one)).cast_ (by rw [V_limbs]; exact (by simp)))
    have Rs9 := Lib.hid (Rs1.out.next hb9)
    have Bel9 := Lib.hid (belNext Bel1.out hb9)
    have Hlt := Lib.hid Rs1.out.2
    clear hv hb9 hx1 hx2 hx3 hy1 hy2 hy3
    obtain ⟨A9, c9, hval, _⟩ := Hz.out
    subst hval
    obtain ⟨⟨r1, r2, r3, r4⟩, _⟩ := Rs9.out
    go_wp2_with fail
    refine bodyPost_ret (v := .agg #[.int .i64 (0 * a + s' * b).sign, .slice A9 (limbs (0 * a + s' * b).natAbs).length c9]) (by simp [results, Try.results58, go_sem, r1, r2]) rfl ⟨_, rfl, ?_, ?_⟩
    · exact ((Hz.out.setCell (by have := Hlt.out; simp; omega) _).setCell (by have := Hlt.out; simp; omega) _).wide (by have := Hlt.out; omega) (by simp)
    · exact (Bel9.out.setCell (by simp; omega) _).setCell (by simp; omega) _
  · have h0b : (s == 0) = false := beq_false_of_ne h0
    by_cases h1 : s' = 0
    · subst h1
      go_enter Try.func58, Try.ntmps58
      go_wp2_with fail
      rw [← Hw.out]
      obtain ⟨⟨hx1, hx2⟩, hx3⟩ := Bx1.out
      obtain ⟨⟨hy1, hy2⟩, hy3⟩ := By1.out
      refine (make_any s A n c _ (limbs a) _ Ra1.out.1 Ra1.out.2 Hn.out (Lim_limbs _) Hcap.out.1 (by omega)).mono ?_
      rintro e w9 ⟨val, rfl, hv, hb9⟩
      have Hz : Hid (Wz w9 w1.heap.size w9.heap.size (s * a + 0 * b) val) := Lib.hid ((hv.z (by rw [V_limbs]; exact Hs.out.one)).cast_ (by rw [V_limbs]; exact (by simp)))
      have Rs9 := Lib.hid (Rs1.out.next hb9)
      have Bel9 := Lib.hid (belNext Bel1.out hb9)
      have Hlt := Lib.hid Rs1.out.2
      clear hv hb9 hx1 hx2 hx3 hy1 hy2 hy3
      obtain ⟨A9, c9, hval, _⟩ := Hz.out
      subst hval
      obtain ⟨⟨r1, r2, r3, r4⟩, _⟩ := Rs9.out
      go_wp2_with fail
      refine bodyPost_ret (v := .agg #[.int .i64 (s * a + 0 * b).sign, .slice A9 (limbs (s * a + 0 * b).natAbs).length c9]) (by simp [results, Try.results58, go_sem, r1, r2]) rfl ⟨_, rfl, ?_, ?_⟩
      · exact ((Hz.out.setCell (by have := Hlt.out; simp; omega) _).setCell (by have := Hlt.out; simp; omega) _).wide (by have := Hlt.out; omega) (by simp)
      · exact (Bel9.out.setCell (by simp; omega) _).setCell (by simp; omega) _
    · have h1b : (s' == 0) = false := beq_false_of_ne h1
      by_cases he : s = s'
      · subst he
        clear h0 h1
        go_enter Try.func58, Try.ntmps58
        go_wp2_with fail
        rw [← Hw.out]
        obtain ⟨⟨hx1, hx2⟩, hx3⟩ := Bx1.out
        obtain ⟨⟨hy1, hy2⟩, hy3⟩ := By1.out
        refine wp_region_held_drew (S := fun w' => (w'.cell? ⟨w.heap.size, 0, none⟩ = some (.int .i64 s) ∧ w'.cell? ⟨w.heap.size, 1, none⟩ = some (.slice A n c)) ∧ (w'.cell? ⟨w.heap.size + 1, 0, none⟩ = some (.int .i64 s) ∧ w'.cell? ⟨w.heap.size + 1, 1, none⟩ = some (.slice A' n' c'))) (by kernel_rfl) ⟨Bx1.out.1, By1.out.1⟩ (fun hHeld => ?_)
        clear hx1 hx2 hx3 hy1 hy2 hy3
        refine wpAnyH_take (i := 0) (v := ?_) rfl (by kernel_rfl) (by kernel_rfl) (by kernel_rfl) (fun _ _ _ h => h) (Or.inl ⟨by rfl, ?_⟩) (by assumption) ?_
        rotate_left
        · (intro w hSw; (try dsimp only at hSw); go_simp; (try with_reducible rfl))
        try simp only [Act.put, List.setIfInBounds_toArray, List.set_cons_zero, List.set_cons_succ]
        refine wpAnyH_take (i := 1) (v := ?_) rfl (by kernel_rfl) (by kernel_rfl) (by kernel_rfl) (fun _ _ _ h => h) (Or.inl ⟨by rfl, ?_⟩) (by assumption) ?_
        rotate_left
        · (intro w hSw; (try dsimp only at hSw); go_simp; (try with_reducible rfl))
        try simp only [Act.put, List.setIfInBounds_toArray, List.set_cons_zero, List.set_cons_succ]
        refine wpAnyH_take (i := 2) (v := ?_) rfl (by kernel_rfl) (by kernel_rfl) (by kernel_rfl) (fun _ _ _ h => h) (Or.inl ⟨by rfl, ?_⟩) (by assumption) ?_
        rotate_left
        · (intro w hSw; (try dsimp only at hSw); go_simp; (try with_reducible rfl))
        try simp only [Act.put, List.setIfInBounds_toArray, List.set_cons_zero, List.set_cons_succ]
        refine wpAnyH_take (i := 3) (v := ?_) rfl (by kernel_rfl) (by kernel_rfl) (by kernel_rfl) (fun _ _ _ h => h) (Or.inl ⟨by rfl, ?_⟩) (by assumption) ?_
        rotate_left
        · (intro w hSw; (try dsimp only at hSw); go_simp; (try with_reducible rfl))
        try simp only [Act.put, List.setIfInBounds_toArray, List.set_cons_zero, List.set_cons_succ]
        refine wpAnyH_take (i := 4) (v := ?_) rfl (by kernel_rfl) (by kernel_rfl) (by kernel_rfl) (fun _ _ _ h => h) (Or.inl ⟨by rfl, ?_⟩) (by assumption) ?_
        rotate_left
        · (intro w hSw; (try dsimp only at hSw); go_simp; (try with_reducible rfl))
        try simp only [Act.put, List.setIfInBounds_toArray, List.set_cons_zero, List.set_cons_succ]
        refine wpAnyH_take (i := 5) (v := ?_) rfl (by kernel_rfl) (by kernel_rfl) (by kernel_rfl) (fun _ _ _ h => h) (Or.inl ⟨by rfl, ?_⟩) (by assumption) ?_
        rotate_left
        · (intro w hSw; (try dsimp only at hSw); go_simp; (try with_reducible rfl))
        try simp only [Act.put, List.setIfInBounds_toArray, List.set_cons_zero, List.set_cons_succ]
        refine wpAnyH_ready (rs := [6]) (by kernel_rfl) (by simp) ?_
        refine AllReadyH.cons rfl (fun K hK => ?_) AllReadyH.nil
        go_simp
        refine (specPlusL_any a b A A' n n' c c' _ _ w1.drew Ra1.out.1 Rb1.out.1 Ra1.out.2 Rb1.out.2 Hn.out Hn'.out H1001.out.1 H1001.out.2).mono ?_
        rintro e w8 ⟨v8, ys, rfl, ho8, hl8, hv8, hn8, hb0⟩
        have hb8 := belDrew hb0
        obtain ⟨A8, c8, hA8, hc8⟩ := ho8.form
        subst hA8
        have O8 := Lib.hid ho8.rd
        have L8 := Lib.hid hl8
        have V8 : Hid (V ys = a + b) := Lib.hid (by rw [hv8])
        have N8 : Hid ((ys.length : Int) ≤ 1000000 ∧ (ys.length : Int) ≤ c8) := Lib.hid (by have := H100.out; omega)
        refine hK.out _ _ ⟨(Bx1.out.next hb8).1, (By1.out.next hb8).1⟩ (fun hHeld => ?_)
        have Bx8 := Lib.hid (Bx1.out.next hb8)
        have By8 := Lib.hid (By1.out.next hb8)
        have Rs8 := Lib.hid (Rs1.out.next hb8)
        have Bel8 := Lib.hid (belNext Bel1.out hb8)
        have Sz8 : Hid (w1.heap.size ≤ w8.heap.size) := Lib.hid hb8.size
        clear hK K ho8 hb0 hb8 hl8 hv8 hn8 hc8
        try simp only [Act.put, List.setIfInBounds_toArray, List.set_cons_zero, List.set_cons_succ]
        refine wpAnyH_ready (rs := [7]) (by kernel_rfl) (by simp) ?_
        refine AllReadyH.cons rfl (fun K hK => ?_) AllReadyH.nil
        go_simp
        refine (make_any s A8 ys.length c8 w8.heap.size ys w8 O8.out (Nat.le_refl _) rfl L8.out N8.out.2 N8.out.1).mono ?_
        rintro e w9 ⟨val, rfl, hv, hb9⟩
        have Hz : Hid (Wz w9 w8.heap.size w9.heap.size (s * a + s * b) val) := Lib.hid ((hv.z (by rw [V8.out]; exact sum_one Hs.out Hs'.out)).cast_ (by rw [V8.out]; exact sum_same))
        have Rs9 := Lib.hid (Rs8.out.next hb9)
        have Bel9 := Lib.hid (belNext Bel8.out hb9)
        refine hK.out _ _ ⟨(Bx8.out.next hb9).1, (By8.out.next hb9).1⟩ (fun hHeld => ?_)
        have Bx9 := Lib.hid (Bx8.out.next hb9)
        have By9 := Lib.hid (By8.out.next hb9)
        clear hK K hv hb9
        try simp only [Act.put, List.setIfInBounds_toArray, List.set_cons_zero, List.set_cons_succ]
        obtain ⟨A9, c9, hval, _⟩ := Hz.out
        subst hval
        obtain ⟨⟨r1, r2, r3, r4⟩, _⟩ := Rs9.out
        have Hlt : Hid (w.heap.size + 1 + 1 < w8.heap.size) := Lib.hid Rs8.out.2
        refine wpAnyH_ready (rs := [8]) (by kernel_rfl) (by simp) ?_
        refine AllReadyH.cons rfl (fun K hK => ?_) AllReadyH.nil
        go_simp
        refine hK.out _ _ ⟨((Bx9.out.keep (by simp; omega) _).keep (by simp; omega) _).1, ((By9.out.keep (by simp) _).keep (by simp) _).1⟩ (fun hHeld => ?_)
        clear hK K hHeld
        try simp only [Act.put, List.setIfInBounds_toArray, List.set_cons_zero, List.set_cons_succ]
        refine wpAnyH_done (by kernel_rfl) ?_ _
        go_wp2_with fail
        refine bodyPost_ret (v := .agg #[.int .i64 (s * a + s * b).sign, .slice A9 (limbs (s * a + s * b).natAbs).length c9]) (by simp [results, Try.results58, go_sem, r1, r2]) rfl ⟨_, rfl, ?_, ?_⟩
        · exact ((Hz.out.setCell (by have := Hlt.out; simp; omega) _).setCell (by have := Hlt.out; simp; omega) _).wide (by have := Hlt.out; omega) (by simp)
        · exact (Bel9.out.setCell (by simp; omega) _).setCell (by simp; omega) _
      · have hne : (s == s') = false := beq_false_of_ne he
        clear h0 h1
        go_enter Try.func58, Try.ntmps58
        go_wp2_with fail
        rw [← Hw.out]
        obtain ⟨⟨hx1, hx2⟩, hx3⟩ := Bx1.out
        obtain ⟨⟨hy1, hy2⟩, hy3⟩ := By1.out
        refine (specCmpL_any a b A A' n n' c c' _ _ _ Ra1.out.1 Rb1.out.1 Hn.out Hn'.out H1001.out.1 H1001.out.2).mono ?_
        rintro e w2 ⟨rfl, q, hw2⟩
        have hq : Below w1.heap.size w1 w2 := by rw [hw2]; exact below_drewN (Below.refl _ _) q
        clear hw2 hx1 hx2 hx3 hy1 hy2 hy3
        have Bel2 := Lib.hid (belNext Bel1.out hq)
        have Bx2 := Lib.hid (Bx1.out.next hq)
        have By2 := Lib.hid (By1.out.next hq)
        have Rs2 := Lib.hid (Rs1.out.next hq)
        have Ra2 := Lib.hid (Ra1.out.next hq)
        have Rb2 := Lib.hid (Rb1.out.next hq)
        clear Bel1 Bx1 By1 Rs1 Ra1 Rb1
        clear hq
        obtain ⟨⟨hx1, hx2⟩, hx3⟩ := Bx2.out
        obtain ⟨⟨hy1, hy2⟩, hy3⟩ := By2.out
        by_cases hlt : a < b
        · have hc := cmpI_lt (show (a : Int) < b by omega)
          rw [hc]
          have Hlt0 := Lib.hid hlt
          clear hc hlt
          go_wp2_with fail
          refine wp_region_held_drew (S := fun w' => (w'.cell? ⟨w.heap.size, 0, none⟩ = some (.int .i64 s) ∧ w'.cell? ⟨w.heap.size, 1, none⟩ = some (.slice A n c)) ∧ (w'.cell? ⟨w.heap.size + 1, 0, none⟩ = some (.int .i64 s') ∧ w'.cell? ⟨w.heap.size + 1, 1, none⟩ = some (.slice A' n' c'))) (by kernel_rfl) ⟨Bx2.out.1, By2.out.1⟩ (fun hHeld => ?_)
          clear hx1 hx2 hx3 hy1 hy2 hy3
          refine wpAnyH_take (i := 0) (v := ?_) rfl (by kernel_rfl) (by kernel_rfl) (by kernel_rfl) (fun _ _ _ h => h) (Or.inl ⟨by rfl, ?_⟩) (by assumption) ?_
          rotate_left
          · (intro w hSw; (try dsimp only at hSw); go_simp; (try with_reducible rfl))
          try simp only [Act.put, List.setIfInBounds_toArray, List.set_cons_zero, List.set_cons_succ]
          refine wpAnyH_take (i := 1) (v := ?_) rfl (by kernel_rfl) (by kernel_rfl) (by kernel_rfl) (fun _ _ _ h => h) (Or.inl ⟨by rfl, ?_⟩) (by assumption) ?_
          rotate_left
          · (intro w hSw; (try dsimp only at hSw); go_simp; (try with_reducible rfl))
          try simp only [Act.put, List.setIfInBounds_toArray, List.set_cons_zero, List.set_cons_succ]
          refine wpAnyH_take (i := 2) (v := ?_) rfl (by kernel_rfl) (by kernel_rfl) (by kernel_rfl) (fun _ _ _ h => h) (Or.inl ⟨by rfl, ?_⟩) (by assumption) ?_
          rotate_left
          · (intro w hSw; (try dsimp only at hSw); go_simp; (try with_reducible rfl))
          try simp only [Act.put, List.setIfInBounds_toArray, List.set_cons_zero, List.set_cons_succ]
          refine wpAnyH_take (i := 3) (v := ?_) rfl (by kernel_rfl) (by kernel_rfl) (by kernel_rfl) (fun _ _ _ h => h) (Or.inl ⟨by rfl, ?_⟩) (by assumption) ?_
          rotate_left
          · (intro w hSw; (try dsimp only at hSw); go_simp; (try with_reducible rfl))
          try simp only [Act.put, List.setIfInBounds_toArray, List.set_cons_zero, List.set_cons_succ]
          refine wpAnyH_take (i := 4) (v := ?_) rfl (by kernel_rfl) (by kernel_rfl) (by kernel_rfl) (fun _ _ _ h => h) (Or.inl ⟨by rfl, ?_⟩) (by assumption) ?_
          rotate_left
          · (intro w hSw; (try dsimp only at hSw); go_simp; (try with_reducible rfl))
          try simp only [Act.put, List.setIfInBounds_toArray, List.set_cons_zero, List.set_cons_succ]
          refine wpAnyH_take (i := 5) (v := ?_) rfl (by kernel_rfl) (by kernel_rfl) (by kernel_rfl) (fun _ _ _ h => h) (Or.inl ⟨by rfl, ?_⟩) (by assumption) ?_
          rotate_left
          · (intro w hSw; (try dsimp only at hSw); go_simp; (try with_reducible rfl))
          try simp only [Act.put, List.setIfInBounds_toArray, List.set_cons_zero, List.set_cons_succ]
          refine wpAnyH_ready (rs := [6]) (by kernel_rfl) (by simp) ?_
          refine AllReadyH.cons rfl (fun K hK => ?_) AllReadyH.nil
          go_simp
          refine (specMinusL_any b a A' A n' n c' c _ _ w2.drew Rb2.out.1 Ra2.out.1 Rb2.out.2 Ra2.out.2 Hn'.out Hn.out H1001.out.2 H1001.out.1 (Nat.le_of_lt Hlt0.out)).mono ?_
          rintro e w8 ⟨v8, ys, rfl, ho8, hl8, hv8, hn8, hb0⟩
          have hb8 := belDrew hb0
          obtain ⟨A8, c8, hA8, hc8⟩ := ho8.form
          subst hA8
          have O8 := Lib.hid ho8.rd
          have L8 := Lib.hid hl8
          have V8 : Hid (V ys = b - a) := Lib.hid (by rw [hv8])
          have N8 : Hid ((ys.length : Int) ≤ 1000000 ∧ (ys.length : Int) ≤ c8) := Lib.hid (by have := H100.out; omega)
          refine hK.out _ _ ⟨(Bx2.out.next hb8).1, (By2.out.next hb8).1⟩ (fun hHeld => ?_)
          have Bx8 := Lib.hid (Bx2.out.next hb8)
          have By8 := Lib.hid (By2.out.next hb8)
          have Rs8 := Lib.hid (Rs2.out.next hb8)
          have Bel8 := Lib.hid (belNext Bel2.out hb8)
          have Sz8 : Hid (w2.heap.size ≤ w8.heap.size) := Lib.hid hb8.size
          clear hK K ho8 hb0 hb8 hl8 hv8 hn8 hc8
          try simp only [Act.put, List.setIfInBounds_toArray, List.set_cons_zero, List.set_cons_succ]
          refine wpAnyH_ready (rs := [7]) (by kernel_rfl) (by simp) ?_
          refine AllReadyH.cons rfl (fun K hK => ?_) AllReadyH.nil
          go_simp
          refine (make_any s' A8 ys.length c8 w8.heap.size ys w8 O8.out (Nat.le_refl _) rfl L8.out N8.out.2 N8.out.1).mono ?_
          rintro e w9 ⟨val, rfl, hv, hb9⟩
          have Hz : Hid (Wz w9 w8.heap.size w9.heap.size (s * a + s' * b) val) := Lib.hid ((hv.z (by rw [V8.out]; exact diff_one Hs'.out Hlt0.out)).cast_ (by rw [V8.out]; exact sum_second Hs.out Hs'.out he Hlt0.out))
          have Rs9 := Lib.hid (Rs8.out.next hb9)
          have Bel9 := Lib.hid (belNext Bel8.out hb9)
          refine hK.out _ _ ⟨(Bx8.out.next hb9).1, (By8.out.next hb9).1⟩ (fun hHeld => ?_)
          have Bx9 := Lib.hid (Bx8.out.next hb9)
          have By9 := Lib.hid (By8.out.next hb9)
          clear hK K hv hb9
          try simp only [Act.put, List.setIfInBounds_toArray, List.set_cons_zero, List.set_cons_succ]
          obtain ⟨A9, c9, hval, _⟩ := Hz.out
          subst hval
          obtain ⟨⟨r1, r2, r3, r4⟩, _⟩ := Rs9.out
          have Hlt : Hid (w.heap.size + 1 + 1 < w8.heap.size) := Lib.hid Rs8.out.2
          refine wpAnyH_ready (rs := [8]) (by kernel_rfl) (by simp) ?_
          refine AllReadyH.cons rfl (fun K hK => ?_) AllReadyH.nil
          go_simp
          refine hK.out _ _ ⟨((Bx9.out.keep (by simp; omega) _).keep (by simp; omega) _).1, ((By9.out.keep (by simp) _).keep (by simp) _).1⟩ (fun hHeld => ?_)
          clear hK K hHeld
          try simp only [Act.put, List.setIfInBounds_toArray, List.set_cons_zero, List.set_cons_succ]
          refine wpAnyH_done (by kernel_rfl) ?_ _
          go_wp2_with fail
          refine bodyPost_ret (v := .agg #[.int .i64 (s * a + s' * b).sign, .slice A9 (limbs (s * a + s' * b).natAbs).length c9]) (by simp [results, Try.results58, go_sem, r1, r2]) rfl ⟨_, rfl, ?_, ?_⟩
          · exact ((Hz.out.setCell (by have := Hlt.out; simp; omega) _).setCell (by have := Hlt.out; simp; omega) _).wide (by have := Hlt.out; omega) (by simp)
          · exact (Bel9.out.setCell (by simp; omega) _).setCell (by simp; omega) _
        · have hge : (0 : Int) ≤ cmpI a b := by
            rcases Nat.lt_or_ge b a with h | h
            · rw [cmpI_gt (by omega)]; omega
            · have : a = b := by omega
              rw [this, cmpI_eq]; omega
          have Hle0 : Hid (b ≤ a) := Lib.hid (by omega)
          have Hsum : Hid (s * ((a - b : Nat) : Int) = s * a + s' * b ∧ (s = 1 ∨ s = -1 ∨ a - b = 0)) := Lib.hid (by
            refine ⟨?_, Or.imp_right (Or.imp_right (fun h => by omega)) Hs.out.one⟩
            rcases Nat.lt_or_ge b a with h | h
            · exact sum_first Hs.out Hs'.out he h
            · rw [zero_sum Hs.out Hs'.out he (by omega), show a - b = 0 by omega]; simp)
          generalize cmpI (a : Int) b = cm at *
          clear hlt
          go_wp2_with fail
          refine wp_region_held_drew (S := fun w' => (w'.cell? ⟨w.heap.size, 0, none⟩ = some (.int .i64 s) ∧ w'.cell? ⟨w.heap.size, 1, none⟩ = some (.slice A n c)) ∧ (w'.cell? ⟨w.heap.size + 1, 0, none⟩ = some (.int .i64 s') ∧ w'.cell? ⟨w.heap.size + 1, 1, none⟩ = some (.slice A' n' c'))) (by kernel_rfl) ⟨Bx2.out.1, By2.out.1⟩ (fun hHeld => ?_)
          clear hx1 hx2 hx3 hy1 hy2 hy3
          refine wpAnyH_take (i := 0) (v := ?_) rfl (by kernel_rfl) (by kernel_rfl) (by kernel_rfl) (fun _ _ _ h => h) (Or.inl ⟨by rfl, ?_⟩) (by assumption) ?_
          rotate_left
          · (intro w hSw; (try dsimp only at hSw); go_simp; (try with_reducible rfl))
          try simp only [Act.put, List.setIfInBounds_toArray, List.set_cons_zero, List.set_cons_succ]
          refine wpAnyH_take (i := 1) (v := ?_) rfl (by kernel_rfl) (by kernel_rfl) (by kernel_rfl) (fun _ _ _ h => h) (Or.inl ⟨by rfl, ?_⟩) (by assumption) ?_
          rotate_left
          · (intro w hSw; (try dsimp only at hSw); go_simp; (try with_reducible rfl))
          try simp only [Act.put, List.setIfInBounds_toArray, List.set_cons_zero, List.set_cons_succ]
          refine wpAnyH_take (i := 2) (v := ?_) rfl (by kernel_rfl) (by kernel_rfl) (by kernel_rfl) (fun _ _ _ h => h) (Or.inl ⟨by rfl, ?_⟩) (by assumption) ?_
          rotate_left
          · (intro w hSw; (try dsimp only at hSw); go_simp; (try with_reducible rfl))
          try simp only [Act.put, List.setIfInBounds_toArray, List.set_cons_zero, List.set_cons_succ]
          refine wpAnyH_take (i := 3) (v := ?_) rfl (by kernel_rfl) (by kernel_rfl) (by kernel_rfl) (fun _ _ _ h => h) (Or.inl ⟨by rfl, ?_⟩) (by assumption) ?_
          rotate_left
          · (intro w hSw; (try dsimp only at hSw); go_simp; (try with_reducible rfl))
          try simp only [Act.put, List.setIfInBounds_toArray, List.set_cons_zero, List.set_cons_succ]
          refine wpAnyH_take (i := 4) (v := ?_) rfl (by kernel_rfl) (by kernel_rfl) (by kernel_rfl) (fun _ _ _ h => h) (Or.inl ⟨by rfl, ?_⟩) (by assumption) ?_
          rotate_left
          · (intro w hSw; (try dsimp only at hSw); go_simp; (try with_reducible rfl))
          try simp only [Act.put, List.setIfInBounds_toArray, List.set_cons_zero, List.set_cons_succ]
          refine wpAnyH_take (i := 5) (v := ?_) rfl (by kernel_rfl) (by kernel_rfl) (by kernel_rfl) (fun _ _ _ h => h) (Or.inl ⟨by rfl, ?_⟩) (by assumption) ?_
          rotate_left
          · (intro w hSw; (try dsimp only at hSw); go_simp; (try with_reducible rfl))
          try simp only [Act.put, List.setIfInBounds_toArray, List.set_cons_zero, List.set_cons_succ]
          refine wpAnyH_ready (rs := [6]) (by kernel_rfl) (by simp) ?_
          refine AllReadyH.cons rfl (fun K hK => ?_) AllReadyH.nil
          go_simp
          refine (specMinusL_any a b A A' n n' c c' _ _ w2.drew Ra2.out.1 Rb2.out.1 Ra2.out.2 Rb2.out.2 Hn.out Hn'.out H1001.out.1 H1001.out.2 Hle0.out).mono ?_
          rintro e w8 ⟨v8, ys, rfl, ho8, hl8, hv8, hn8, hb0⟩
          have hb8 := belDrew hb0
          obtain ⟨A8, c8, hA8, hc8⟩ := ho8.form
          subst hA8
          have O8 := Lib.hid ho8.rd
          have L8 := Lib.hid hl8
          have V8 : Hid (V ys = a - b) := Lib.hid (by rw [hv8])
          have N8 : Hid ((ys.length : Int) ≤ 1000000 ∧ (ys.length : Int) ≤ c8) := Lib.hid (by have := H100.out; omega)
          refine hK.out _ _ ⟨(Bx2.out.next hb8).1, (By2.out.next hb8).1⟩ (fun hHeld => ?_)
          have Bx8 := Lib.hid (Bx2.out.next hb8)
          have By8 := Lib.hid (By2.out.next hb8)
          have Rs8 := Lib.hid (Rs2.out.next hb8)
          have Bel8 := Lib.hid (belNext Bel2.out hb8)
          have Sz8 : Hid (w2.heap.size ≤ w8.heap.size) := Lib.hid hb8.size
          clear hK K ho8 hb0 hb8 hl8 hv8 hn8 hc8
          try simp only [Act.put, List.setIfInBounds_toArray, List.set_cons_zero, List.set_cons_succ]
          refine wpAnyH_ready (rs := [7]) (by kernel_rfl) (by simp) ?_
          refine AllReadyH.cons rfl (fun K hK => ?_) AllReadyH.nil
          go_simp
          refine (make_any s A8 ys.length c8 w8.heap.size ys w8 O8.out (Nat.le_refl _) rfl L8.out N8.out.2 N8.out.1).mono ?_
          rintro e w9 ⟨val, rfl, hv, hb9⟩
          have Hz : Hid (Wz w9 w8.heap.size w9.heap.size (s * a + s' * b) val) := Lib.hid ((hv.z (by rw [V8.out]; exact Hsum.out.2)).cast_ (by rw [V8.out]; exact Hsum.out.1))
          have Rs9 := Lib.hid (Rs8.out.next hb9)
          have Bel9 := Lib.hid (belNext Bel8.out hb9)
          refine hK.out _ _ ⟨(Bx8.out.next hb9).1, (By8.out.next hb9).1⟩ (fun hHeld => ?_)
          have Bx9 := Lib.hid (Bx8.out.next hb9)
          have By9 := Lib.hid (By8.out.next hb9)
          clear hK K hv hb9
          try simp only [Act.put, List.setIfInBounds_toArray, List.set_cons_zero, List.set_cons_succ]
          obtain ⟨A9, c9, hval, _⟩ := Hz.out
          subst hval
          obtain ⟨⟨r1, r2, r3, r4⟩, _⟩ := Rs9.out
          have Hlt : Hid (w.heap.size + 1 + 1 < w8.heap.size) := Lib.hid Rs8.out.2
          refine wpAnyH_ready (rs := [8]) (by kernel_rfl) (by simp) ?_
          refine AllReadyH.cons rfl (fun K hK => ?_) AllReadyH.nil
          go_simp
          refine hK.out _ _ ⟨((Bx9.out.keep (by simp; omega) _).keep (by simp; omega) _).1, ((By9.out.keep (by simp) _).keep (by simp) _).1⟩ (fun hHeld => ?_)
          clear hK K hHeld
          try simp only [Act.put, List.setIfInBounds_toArray, List.set_cons_zero, List.set_cons_succ]
          refine wpAnyH_done (by kernel_rfl) ?_ _
          go_wp2_with fail
          refine bodyPost_ret (v := .agg #[.int .i64 (s * a + s' * b).sign, .slice A9 (limbs (s * a + s' * b).natAbs).length c9]) (by simp [results, Try.results58, go_sem, r1, r2]) rfl ⟨_, rfl, ?_, ?_⟩
          · exact ((Hz.out.setCell (by have := Hlt.out; simp; omega) _).setCell (by have := Hlt.out; simp; omega) _).wide (by have := Hlt.out; omega) (by simp)
          · exact (Bel9.out.setCell (by simp; omega) _).setCell (by simp; omega) _

set_option maxHeartbeats 400000 in
theorem specNeg_any (s : Int) (a : Nat) (A : Option Addr) (n c B : Nat) (w : World) (hs : Sg s a) (hr : Rd w B A (vs (limbs a))) (hB : B ≤ w.heap.size) (hn : (limbs a).length = n) (hm : (n : Int) ≤ 90000) (hcap : n ≤ c) :
    Calls Try.prog 92 #[.agg #[.int .i64 s, .slice A n c]] w fun e w' => ∃ val, e = .returned val ∧ Wz w' w.heap.size w'.heap.size (-s * a) val ∧ Below w.heap.size w w' := by
  have hst := store_int Try.prog
  have hst2 := store_slice Try.prog
  obtain ⟨w1, hw1, hb1, hb3, hb4⟩ := box_res w s A n c 26 26
  have Ra1 : Hid (Rt w1 B A (vs (limbs a))) := Lib.hid ⟨hr.below (hb4.mono hB), Nat.le_trans hB hb4.size⟩
  have Hn := Lib.hid hn
  have Hs := Lib.hid hs
  have Hw := Lib.hid hw1
  have Bx1 := Lib.hid hb1
  have Rs1 := Lib.hid hb3
  have Bel1 := Lib.hid hb4
  have Hcap : Hid ((n : Int) ≤ c) := Lib.hid (by omega)
  have hs1 := hs.1
  have hs2 := hs.2.1
  have Hone : Hid (-s = 1 ∨ -s = -1 ∨ a = 0) := Lib.hid (by rcases hs.one with h | h | h <;> omega)
  clear hr hn hs hw1 hb1 hb3 hb4 hcap hB
  go_enter Try.func92, Try.ntmps92
  go_wp2_with fail
  rw [← Hw.out]
  refine (make_any (-s) A n c _ (limbs a) _ Ra1.out.1 Ra1.out.2 Hn.out (Lim_limbs _) Hcap.out (by omega)).mono ?_
  rintro e w9 ⟨val, rfl, hv, hb9⟩
  have Hz : Hid (Wz w9 w1.heap.size w9.heap.size (-s * a) val) := Lib.hid ((hv.z (by rw [V_limbs]; exact Hone.out)).cast_ (by rw [V_limbs]))
  have Rs9 := Lib.hid (Rs1.out.next hb9)
  have Bel9 := Lib.hid (belNext Bel1.out hb9)
  have Hlt := Lib.hid Rs1.out.2
  clear hv hb9
  obtain ⟨A9, c9, hval, _⟩ := Hz.out
  subst hval
  obtain ⟨⟨r1, r2, r3, r4⟩, _⟩ := Rs9.out
  go_wp2_with fail
  refine bodyPost_ret (v := .agg #[.int .i64 (-s * a).sign, .slice A9 (limbs (-s * a).natAbs).length c9]) (by simp [results, Try.results92, go_sem, r1, r2]) rfl ⟨_, rfl, ?_, ?_⟩
  · exact ((Hz.out.setCell (by have := Hlt.out; simp; omega) _).setCell (by have := Hlt.out; simp; omega) _).wide (by have := Hlt.out; omega) (by simp)
  · exact (Bel9.out.setCell (by simp) _).setCell (by simp) _
end Go.Proofs.Ytnnoobdcdfcdaaa
