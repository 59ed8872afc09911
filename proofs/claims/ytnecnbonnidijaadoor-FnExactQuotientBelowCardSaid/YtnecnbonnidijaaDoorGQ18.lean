/- Texts of this seat, joined: Qj Qk Ql -/
import Derived.Test.YtnecnbonnidijaaDoorGQ12
import Derived.Test.YtnecnbonnidijaaDoorGQ7
import Derived.Test.YtnecnbonnidijaaDoorGQ6
import Derived.Test.YtnecnbonnidijaaDoorGQ16
import Derived.Deep.QuietTactic
import Derived.BigQuiet
/- Quotients of exact numbers from below, of the model. -/
namespace Go.Proofs.YtnecnbonnidijaaDoor
set_option maxRecDepth 100000
open Go.RowKit
set_option linter.unusedSimpArgs false
set_option linter.unusedVariables false
attribute [local go_sem ↓] Go.wp_at_zero Go.wp_at_succ

theorem MB.made {w : World} {b n c : Nat} {s : Int} {A : Option Addr} (h : ResB w b) : MB (st w b s A n c) b s A n c := by
  obtain ⟨⟨h0, h1, h2, h3⟩, h4⟩ := h
  refine ⟨⟨?_, ?_, ?_, ?_⟩, by rw [st_size]; exact h4⟩ <;> · unfold st; go_simp
theorem MB.newB (w : World) (s : Int) (A : Option Addr) (n c : Nat) (t : TypeId) : MB (w.alloc (.cells #[.int .i64 s, .slice A n c] t)) w.heap.size s A n c := by
  refine ⟨⟨?_, ?_, ?_, ?_⟩, ?_⟩ <;> first | (simp; done) | go_simp
theorem sgn_bd (z z' : Int) : -1 ≤ z.sign * z'.sign ∧ z.sign * z'.sign ≤ 1 := by
  have h : ∀ x : Int, x.sign = -1 ∨ x.sign = 0 ∨ x.sign = 1 := fun x => by
    rcases Int.lt_trichotomy x 0 with a | a | a
    · exact .inl (Int.sign_eq_neg_one_of_neg a)
    · exact .inr (.inl (by rw [a]; rfl))
    · exact .inr (.inr (Int.sign_eq_one_of_pos a))
  rcases h z with a | a | a <;> rcases h z' with b | b | b <;> rw [a, b] <;> decide
theorem qz_len (z z' : Int) (N D : Nat) : (limbs (z.sign * z'.sign * ((N / D : Nat) : Int)).natAbs).length ≤ (limbs N).length := limbs_len_mono (by
  have hb := sgn_bd z z'
  have hd := Nat.div_le_self N D
  generalize N / D = q at hd ⊢
  generalize z.sign * z'.sign = t at hb ⊢
  rcases (show t = -1 ∨ t = 0 ∨ t = 1 by omega) with h | h | h <;> rw [h] <;> omega)
theorem DBox.stN {w : World} {b b' n n' c c' : Nat} {S S' E : Int} {A A' : Option Addr} (h : DBox w b S A n c E) (hne : b ≠ b') : DBox (st w b' S' A' n' c') b S A n c E :=
  ⟨⟨(World.cell?_of_block (a := ⟨b, 0, none⟩) (st_heap hne)).trans h.1.1, (World.cell?_of_block (a := ⟨b, 1, none⟩) (st_heap hne)).trans h.1.2.1, (World.cell?_of_block (a := ⟨b, 2, none⟩) (st_heap hne)).trans h.1.2.2⟩, by rw [st_size]; exact h.2⟩
theorem specSubZ_any (z z' S S' : Int) (A A' : Option Addr) (n n' c c' : Nat) (w : World) (hz : ZV w z S A n c) (hz' : ZV w z' S' A' n' c') (hm : (n : Int) ≤ 90000) (hm' : (n' : Int) ≤ 90000) :
    Calls Tryd.prog 93 #[.agg #[.int .i64 S, .slice A n c], .agg #[.int .i64 S', .slice A' n' c']] w fun e w' => ∃ Sr Ar nr cr, e = .returned (.agg #[.int .i64 Sr, .slice Ar nr cr]) ∧ ZO w' w.heap.size w'.heap.size (z - z') Sr Ar nr cr ∧ Below w.heap.size w w' := by
  refine (specSub_any S S' z.natAbs z'.natAbs A A' n n' c c' w hz.sg hz'.sg hz.rd hz'.rd hz.len hz'.len hm hm' hz.cap hz'.cap).mono ?_
  rintro e w' ⟨val, rfl, hv, hb⟩
  obtain ⟨S8, A8, n8, c8, rfl, hzo⟩ := Wz.zo (hv.cast_ (z' := z - z') (by rw [hz.val, Int.neg_mul, hz'.val]; omega)) (Nat.le_refl _)
  exact ⟨S8, A8, n8, c8, rfl, hzo, hb⟩
set_option maxHeartbeats 16000000 in
theorem specQuo_any (z S E z' S' E' k : Int) (A A' : Option Addr) (n c n' c' : Nat) (w : World) (hz : ZV w z S A n c) (hz' : ZV w z' S' A' n' c') (h0 : z' ≠ 0) (hm : (n : Int) ≤ 1000) (hm' : (n' : Int) ≤ 1000) (h1 : -10000 ≤ E) (h2 : E ≤ 10000) (h3 : -10000 ≤ E') (h4 : E' ≤ 10000) (h5 : -10000 ≤ k) (h6 : k ≤ 10000) :
    Calls Tryd.prog 46 #[.agg #[.int .i64 S, .slice A n c, .int .i64 E], .agg #[.int .i64 S', .slice A' n' c', .int .i64 E'], .int .i64 k] w fun e w' => ∃ Sr Ar nr cr, e = .returned (.agg #[.int .i64 Sr, .slice Ar nr cr, .int .i64 (nx (quZ z z' (E - E' + k)) (-k))]) ∧ ZO w' w.heap.size w'.heap.size (nz (quZ z z' (E - E' + k))) Sr Ar nr cr ∧ Below w.heap.size w w' := by
  have hst := store_int Tryd.prog
  have hst2 := store_slice Tryd.prog
  obtain ⟨w1, hw1, hb1, hb2, hb3, hb4⟩ := dbox2_res w S S' A A' n n' c c' E E' 30 30 30
  have RsD1 := Lib.hid hb3
  have Hlt : Hid (w.heap.size + 1 + 1 < w1.heap.size) := Lib.hid hb3.2
  have Zv1 := Lib.hid (hz.next hb4)
  have Zw1 := Lib.hid (hz'.next hb4)
  have Hw := Lib.hid hw1
  have Bx1 := Lib.hid hb1
  have By1 := Lib.hid hb2
  have Bel1 := Lib.hid hb4
  have Hn : Hid ((limbs z.natAbs).length = n) := Lib.hid hz.2.1
  have Hn' : Hid ((limbs z'.natAbs).length = n') := Lib.hid hz'.2.1
  have Hm : Hid ((n : Int) ≤ 1000 ∧ (n' : Int) ≤ 1000) := Lib.hid ⟨hm, hm'⟩
  have H0 := Lib.hid h0
  have HS : Hid (S = z.sign ∧ S' = z'.sign) := Lib.hid ⟨hz.1, hz'.1⟩
  obtain ⟨s, hs⟩ : ∃ s, s = E - E' + k := ⟨_, rfl⟩
  have hs1 : -30000 ≤ s ∧ s ≤ 30000 := by omega
  have Hs := Lib.hid hs
  have hwr1 : IntKind.i64.wrap (E - E') = E - E' := IntWalk.i64_in _ (by omega)
  have hwr2 : IntKind.i64.wrap (E - E' + k) = s := by rw [← hs]; exact IntWalk.i64_in _ (by omega)
  rw [← hs]
  clear hz hz' hw1 hb1 hb2 hb3 hb4 hm hm' h0 hs
  go_enter Tryd.func46, Tryd.ntmps46
  go_wp2_with fail
  rw [← Hw.out]
  obtain ⟨⟨hBx0, hBx1, hBx2⟩, hBx3⟩ := Bx1.out
  obtain ⟨⟨hBy0, hBy1, hBy2⟩, hBy3⟩ := By1.out
  obtain ⟨⟨hRsD0, hRsD1, hRsD2, hRsD3, hRsD4, hRsD5⟩, hRsD6⟩ := RsD1.out
  go_cut [7, 8, 9] from 12 to 22 (fun t7 t8 t9 wx => ∃ (bt bb : Nat), t7 = .pointer (some ⟨bt, 0, none⟩) ∧ t8 = .pointer (some ⟨bb, 0, none⟩) ∧ t9 = .int .i64 s ∧ MB wx bt S A n c ∧ MB wx bb S' A' n' c' ∧ bt ≠ bb ∧ w1.heap.size ≤ bt ∧ w1.heap.size ≤ bb ∧ Below w1.heap.size w1 wx)
  case first =>
    have BelC1 : Hid (Below w1.heap.size w1 w1) := Lib.hid (Below.refl _ _)
    refine wp_region_held_drew (S := fun w' => (w'.cell? ⟨w.heap.size, 0, none⟩ = some (.int .i64 S) ∧ w'.cell? ⟨w.heap.size, 1, none⟩ = some (.slice A n c) ∧ w'.cell? ⟨w.heap.size, 2, none⟩ = some (.int .i64 E)) ∧ (w'.cell? ⟨w.heap.size + 1, 0, none⟩ = some (.int .i64 S') ∧ w'.cell? ⟨w.heap.size + 1, 1, none⟩ = some (.slice A' n' c') ∧ w'.cell? ⟨w.heap.size + 1, 2, none⟩ = some (.int .i64 E'))) (by kernel_rfl) ⟨Bx1.out.1, By1.out.1⟩ (fun hHeld => ?_)
    clear hBx0 hBx1 hBx2 hBx3 hBy0 hBy1 hBy2 hBy3 hRsD0 hRsD1 hRsD2 hRsD3 hRsD4 hRsD5 hRsD6
    refine wpAnyH_take (i := 0) (v := ?_) rfl (by kernel_rfl) (by kernel_rfl) (by kernel_rfl) (fun _ _ _ h => h) (Or.inl ⟨by rfl, ?_⟩) (by assumption) ?_
    rotate_left
    · (intro w hSw; (try dsimp only at hSw); go_simp; (try with_reducible rfl))
    try simp only [Act.put, List.setIfInBounds_toArray, List.set_cons_zero, List.set_cons_succ, List.getElem_toArray, List.getElem_cons_succ, List.getElem_cons_zero]
    refine wpAnyH_take (i := 1) (v := ?_) rfl (by kernel_rfl) (by kernel_rfl) (by kernel_rfl) (fun _ _ _ h => h) (Or.inl ⟨by rfl, ?_⟩) (by assumption) ?_
    rotate_left
    · (intro w hSw; (try dsimp only at hSw); go_simp; (try with_reducible rfl))
    try simp only [Act.put, List.setIfInBounds_toArray, List.set_cons_zero, List.set_cons_succ, List.getElem_toArray, List.getElem_cons_succ, List.getElem_cons_zero]
    refine wpAnyH_take (i := 2) (v := ?_) rfl (by kernel_rfl) (by kernel_rfl) (by kernel_rfl) (fun _ _ _ h => h) (Or.inl ⟨by rfl, ?_⟩) (by assumption) ?_
    rotate_left
    · (intro w hSw; (try dsimp only at hSw); go_simp; (try with_reducible rfl))
    try simp only [Act.put, List.setIfInBounds_toArray, List.set_cons_zero, List.set_cons_succ, List.getElem_toArray, List.getElem_cons_succ, List.getElem_cons_zero]
    refine wpAnyH_take (i := 3) (v := ?_) rfl (by kernel_rfl) (by kernel_rfl) (by kernel_rfl) (fun _ _ _ h => h) (Or.inl ⟨by rfl, ?_⟩) (by assumption) ?_
    rotate_left
    · (intro w hSw; (try dsimp only at hSw); go_simp; (try with_reducible rfl))
    try simp only [Act.put, List.setIfInBounds_toArray, List.set_cons_zero, List.set_cons_succ, List.getElem_toArray, List.getElem_cons_succ, List.getElem_cons_zero]
    refine wpAnyH_take (i := 4) (v := ?_) rfl (by kernel_rfl) (by kernel_rfl) (by kernel_rfl) (fun _ _ _ h => h) (Or.inl ⟨by rfl, ?_⟩) (by assumption) ?_
    rotate_left
    · (intro w hSw; (try dsimp only at hSw); go_simp; (try with_reducible rfl))
    try simp only [Act.put, List.setIfInBounds_toArray, List.set_cons_zero, List.set_cons_succ, List.getElem_toArray, List.getElem_cons_succ, List.getElem_cons_zero]
    refine wpAnyH_take (i := 5) (v := ?_) rfl (by kernel_rfl) (by kernel_rfl) (by kernel_rfl) (fun _ _ _ h => h) (Or.inl ⟨by rfl, ?_⟩) (by assumption) ?_
    rotate_left
    · (intro w hSw; (try dsimp only at hSw); go_simp; (try with_reducible rfl))
    try simp only [Act.put, List.setIfInBounds_toArray, List.set_cons_zero, List.set_cons_succ, List.getElem_toArray, List.getElem_cons_succ, List.getElem_cons_zero]
    refine wpAnyH_take (i := 6) (v := ?_) rfl (by kernel_rfl) (by kernel_rfl) (by kernel_rfl) (fun _ _ _ h => h) (Or.inl ⟨by rfl, ?_⟩) (by assumption) ?_
    rotate_left
    · (intro w hSw; (try dsimp only at hSw); go_simp; (try with_reducible rfl))
    try simp only [Act.put, List.setIfInBounds_toArray, List.set_cons_zero, List.set_cons_succ, List.getElem_toArray, List.getElem_cons_succ, List.getElem_cons_zero]
    refine wpAnyH_take (i := 7) (v := ?_) rfl (by kernel_rfl) (by kernel_rfl) (by kernel_rfl) (fun _ _ _ h => h) (Or.inl ⟨by rfl, ?_⟩) (by assumption) ?_
    rotate_left
    · (intro w hSw; (try dsimp only at hSw); go_simp; (try with_reducible rfl))
    try simp only [Act.put, List.setIfInBounds_toArray, List.set_cons_zero, List.set_cons_succ, List.getElem_toArray, List.getElem_cons_succ, List.getElem_cons_zero]
    refine wpAnyH_take (i := 8) (v := ?_) rfl (by kernel_rfl) (by kernel_rfl) (by kernel_rfl) (fun _ _ _ h => h) (Or.inl ⟨by rfl, ?_⟩) (by assumption) ?_
    rotate_left
    · (intro w hSw; (try dsimp only at hSw); go_simp; (try with_reducible rfl))
    try simp only [Act.put, List.setIfInBounds_toArray, List.set_cons_zero, List.set_cons_succ, List.getElem_toArray, List.getElem_cons_succ, List.getElem_cons_zero]
    refine wpAnyH_take (i := 9) (v := ?_) rfl (by kernel_rfl) (by kernel_rfl) (by kernel_rfl) (fun _ _ _ h => h) (Or.inl ⟨by rfl, ?_⟩) (by assumption) ?_
    rotate_left
    · (intro w hSw; (try dsimp only at hSw); go_simp; (try with_reducible rfl))
    try simp only [Act.put, List.setIfInBounds_toArray, List.set_cons_zero, List.set_cons_succ, List.getElem_toArray, List.getElem_cons_succ, List.getElem_cons_zero]
    refine wpAnyH_take (i := 10) (v := ?_) rfl (by kernel_rfl) (by kernel_rfl) (by kernel_rfl) (fun _ _ _ h => h) (Or.inl ⟨by rfl, ?_⟩) (by assumption) ?_
    rotate_left
    · (intro w hSw; (try dsimp only at hSw); go_simp; (try with_reducible rfl))
    try simp only [Act.put, List.setIfInBounds_toArray, List.set_cons_zero, List.set_cons_succ, List.getElem_toArray, List.getElem_cons_succ, List.getElem_cons_zero]
    refine wpAnyH_ready (rs := [11, 12]) (by kernel_rfl) (by simp) ?_
    refine AllReadyH.cons rfl (fun K hK => ?_) (AllReadyH.cons rfl (fun K hK => ?_) AllReadyH.nil)
    · go_simp
      obtain ⟨w2, hw⟩ : ∃ w2, w2 = (w1.alloc (.cells #[.int .i64 0, .slice none 0 0] 28)).drew := ⟨_, rfl⟩
      have hb : Below w1.heap.size w1 w2 := by rw [hw]; exact (belAlloc1 _ _).drew
      obtain ⟨fT, hf⟩ : ∃ f, f = w1.heap.size := ⟨_, rfl⟩
      have RsT2 : Hid (ResB w2 fT) := Lib.hid (by rw [hw, hf]; exact resBox_new w1 _)
      have HfT : Hid (w1.heap.size ≤ fT ∧ fT < w2.heap.size) := Lib.hid ⟨by omega, RsT2.out.2⟩
      rw [← hw]
      try rw [← hf]
      refine hK.out _ _ ⟨(Bx1.out.next hb).1, (By1.out.next hb).1⟩ (fun hHeld => ?_)
      clear hK K hw hf
      have Sz2 := Lib.hid (Below.size hb)
      have Bel2 := Lib.hid (belNext Bel1.out hb)
      have Bx2 := Lib.hid (Bx1.out.next hb)
      have By2 := Lib.hid (By1.out.next hb)
      have RsD2 := Lib.hid (RsD1.out.next hb)
      have Zv2 := Lib.hid (Zv1.out.next hb)
      have Zw2 := Lib.hid (Zw1.out.next hb)
      have BelC2 := Lib.hid (belNext BelC1.out hb)
      clear hb Bel1 Bx1 By1 RsD1 Zv1 Zw1 BelC1
      try simp only [Act.put, List.setIfInBounds_toArray, List.set_cons_zero, List.set_cons_succ, List.getElem_toArray, List.getElem_cons_succ, List.getElem_cons_zero]
      refine wpAnyH_ready (rs := [12]) (by kernel_rfl) (by simp) ?_
      refine AllReadyH.cons rfl (fun K hK => ?_) AllReadyH.nil
      · go_simp
        obtain ⟨w3, hw⟩ : ∃ w3, w3 = w2.alloc (.cells #[.int .i64 0, .slice none 0 0] 28) := ⟨_, rfl⟩
        have hb : Below w2.heap.size w2 w3 := by rw [hw]; exact belAlloc1 _ _
        obtain ⟨fU, hf⟩ : ∃ f, f = w2.heap.size := ⟨_, rfl⟩
        have RsU3 : Hid (ResB w3 fU) := Lib.hid (by rw [hw, hf]; exact resBox_new w2 _)
        have HfU : Hid (w2.heap.size ≤ fU ∧ fU < w3.heap.size) := Lib.hid ⟨by omega, RsU3.out.2⟩
        rw [← hw]
        try rw [← hf]
        refine hK.out _ _ ⟨(Bx2.out.next hb).1, (By2.out.next hb).1⟩ (fun hHeld => ?_)
        clear hK K hw hf
        have Sz3 := Lib.hid (Below.size hb)
        have Bel3 := Lib.hid (belNext Bel2.out hb)
        have Bx3 := Lib.hid (Bx2.out.next hb)
        have By3 := Lib.hid (By2.out.next hb)
        have RsD3 := Lib.hid (RsD2.out.next hb)
        have Zv3 := Lib.hid (Zv2.out.next hb)
        have Zw3 := Lib.hid (Zw2.out.next hb)
        have BelC3 := Lib.hid (belNext BelC2.out hb)
        have RsT3 := Lib.hid (RsT2.out.next hb)
        clear hb Bel2 Bx2 By2 RsD2 Zv2 Zw2 BelC2 RsT2
        try simp only [Act.put, List.setIfInBounds_toArray, List.set_cons_zero, List.set_cons_succ, List.getElem_toArray, List.getElem_cons_succ, List.getElem_cons_zero]
        have hqr : fT ≠ fU := (by have zz0 := Hlt.out; have zz1 := Sz2.out; have zz2 := HfT.out; have zz3 := Sz3.out; have zz4 := HfU.out; first | omega | (simp; done) | (simp; omega))
        obtain ⟨⟨r1, r2, r3, r4⟩, r5⟩ := RsT3.out
        obtain ⟨⟨s1, s2, s3, s4⟩, s5⟩ := RsU3.out
        refine wpAnyH_ready (rs := [13]) (by kernel_rfl) (by simp) ?_
        refine AllReadyH.cons rfl (fun K hK => ?_) AllReadyH.nil
        go_simp
        refine hK.out _ (_root_.Go.Proofs.YtnecnbonnidijaaDoor.st w3 fT S A n c) ⟨(Bx3.out.stN (by have zz0 := Hlt.out; have zz1 := Sz2.out; have zz2 := HfT.out; have zz3 := Sz3.out; have zz4 := HfU.out; first | omega | (simp; done) | (simp; omega))).1, (By3.out.stN (by have zz0 := Hlt.out; have zz1 := Sz2.out; have zz2 := HfT.out; have zz3 := Sz3.out; have zz4 := HfU.out; first | omega | (simp; done) | (simp; omega))).1⟩ (fun hHeld => ?_)
        clear hK K
        try simp only [Act.put, List.setIfInBounds_toArray, List.set_cons_zero, List.set_cons_succ, List.getElem_toArray, List.getElem_cons_succ, List.getElem_cons_zero]
        obtain ⟨⟨u1, u2, u3, u4⟩, u5⟩ := RsU3.out.st_ (b' := fT) (s' := S) (A' := A) (n' := n) (c' := c) (fun e => hqr e.symm)
        refine wpAnyH_ready (rs := [14]) (by kernel_rfl) (by simp) ?_
        refine AllReadyH.cons rfl (fun K hK => ?_) AllReadyH.nil
        go_simp
        refine hK.out _ (_root_.Go.Proofs.YtnecnbonnidijaaDoor.st (_root_.Go.Proofs.YtnecnbonnidijaaDoor.st w3 fT S A n c) fU S' A' n' c') ⟨((Bx3.out.stN (by have zz0 := Hlt.out; have zz1 := Sz2.out; have zz2 := HfT.out; have zz3 := Sz3.out; have zz4 := HfU.out; first | omega | (simp; done) | (simp; omega))).stN (by have zz0 := Hlt.out; have zz1 := Sz2.out; have zz2 := HfT.out; have zz3 := Sz3.out; have zz4 := HfU.out; first | omega | (simp; done) | (simp; omega))).1, ((By3.out.stN (by have zz0 := Hlt.out; have zz1 := Sz2.out; have zz2 := HfT.out; have zz3 := Sz3.out; have zz4 := HfU.out; first | omega | (simp; done) | (simp; omega))).stN (by have zz0 := Hlt.out; have zz1 := Sz2.out; have zz2 := HfT.out; have zz3 := Sz3.out; have zz4 := HfU.out; first | omega | (simp; done) | (simp; omega))).1⟩ (fun hHeld => ?_)
        clear hK K
        try simp only [Act.put, List.setIfInBounds_toArray, List.set_cons_zero, List.set_cons_succ, List.getElem_toArray, List.getElem_cons_succ, List.getElem_cons_zero]
        refine wpAnyH_ready (rs := [15]) (by kernel_rfl) (by simp) ?_
        refine AllReadyH.cons rfl (fun K hK => ?_) AllReadyH.nil
        go_simp
        refine hK.out _ _ ⟨((Bx3.out.stN (by have zz0 := Hlt.out; have zz1 := Sz2.out; have zz2 := HfT.out; have zz3 := Sz3.out; have zz4 := HfU.out; first | omega | (simp; done) | (simp; omega))).stN (by have zz0 := Hlt.out; have zz1 := Sz2.out; have zz2 := HfT.out; have zz3 := Sz3.out; have zz4 := HfU.out; first | omega | (simp; done) | (simp; omega))).1, ((By3.out.stN (by have zz0 := Hlt.out; have zz1 := Sz2.out; have zz2 := HfT.out; have zz3 := Sz3.out; have zz4 := HfU.out; first | omega | (simp; done) | (simp; omega))).stN (by have zz0 := Hlt.out; have zz1 := Sz2.out; have zz2 := HfT.out; have zz3 := Sz3.out; have zz4 := HfU.out; first | omega | (simp; done) | (simp; omega))).1⟩ (fun hHeld => ?_)
        clear hK K hHeld
        try simp only [Act.put, List.setIfInBounds_toArray, List.set_cons_zero, List.set_cons_succ, List.getElem_toArray, List.getElem_cons_succ, List.getElem_cons_zero]
        refine wpAnyH_done (by kernel_rfl) ?_ _
        go_wp2_with fail
        go_meet
        exact ⟨fT, fU, rfl, rfl, rfl, (MB.made RsT3.out).st_ hqr, MB.made (RsU3.out.st_ (fun e => hqr e.symm)), hqr, (by have zz0 := Hlt.out; have zz1 := Sz2.out; have zz2 := HfT.out; have zz3 := Sz3.out; have zz4 := HfU.out; first | omega | (simp; done) | (simp; omega)), (by have zz0 := Hlt.out; have zz1 := Sz2.out; have zz2 := HfT.out; have zz3 := Sz3.out; have zz4 := HfU.out; first | omega | (simp; done) | (simp; omega)), belSt (belSt BelC3.out (by have zz0 := Hlt.out; have zz1 := Sz2.out; have zz2 := HfT.out; have zz3 := Sz3.out; have zz4 := HfU.out; first | omega | (simp; done) | (simp; omega))) (by have zz0 := Hlt.out; have zz1 := Sz2.out; have zz2 := HfT.out; have zz3 := Sz3.out; have zz4 := HfU.out; first | omega | (simp; done) | (simp; omega))⟩
    · go_simp
      obtain ⟨w2, hw⟩ : ∃ w2, w2 = (w1.alloc (.cells #[.int .i64 0, .slice none 0 0] 28)).drew := ⟨_, rfl⟩
      have hb : Below w1.heap.size w1 w2 := by rw [hw]; exact (belAlloc1 _ _).drew
      obtain ⟨fU, hf⟩ : ∃ f, f = w1.heap.size := ⟨_, rfl⟩
      have RsU2 : Hid (ResB w2 fU) := Lib.hid (by rw [hw, hf]; exact resBox_new w1 _)
      have HfU : Hid (w1.heap.size ≤ fU ∧ fU < w2.heap.size) := Lib.hid ⟨by omega, RsU2.out.2⟩
      rw [← hw]
      try rw [← hf]
      refine hK.out _ _ ⟨(Bx1.out.next hb).1, (By1.out.next hb).1⟩ (fun hHeld => ?_)
      clear hK K hw hf
      have Sz2 := Lib.hid (Below.size hb)
      have Bel2 := Lib.hid (belNext Bel1.out hb)
      have Bx2 := Lib.hid (Bx1.out.next hb)
      have By2 := Lib.hid (By1.out.next hb)
      have RsD2 := Lib.hid (RsD1.out.next hb)
      have Zv2 := Lib.hid (Zv1.out.next hb)
      have Zw2 := Lib.hid (Zw1.out.next hb)
      have BelC2 := Lib.hid (belNext BelC1.out hb)
      clear hb Bel1 Bx1 By1 RsD1 Zv1 Zw1 BelC1
      try simp only [Act.put, List.setIfInBounds_toArray, List.set_cons_zero, List.set_cons_succ, List.getElem_toArray, List.getElem_cons_succ, List.getElem_cons_zero]
      refine wpAnyH_ready (rs := [11]) (by kernel_rfl) (by simp) ?_
      refine AllReadyH.cons rfl (fun K hK => ?_) AllReadyH.nil
      · go_simp
        obtain ⟨w3, hw⟩ : ∃ w3, w3 = w2.alloc (.cells #[.int .i64 0, .slice none 0 0] 28) := ⟨_, rfl⟩
        have hb : Below w2.heap.size w2 w3 := by rw [hw]; exact belAlloc1 _ _
        obtain ⟨fT, hf⟩ : ∃ f, f = w2.heap.size := ⟨_, rfl⟩
        have RsT3 : Hid (ResB w3 fT) := Lib.hid (by rw [hw, hf]; exact resBox_new w2 _)
        have HfT : Hid (w2.heap.size ≤ fT ∧ fT < w3.heap.size) := Lib.hid ⟨by omega, RsT3.out.2⟩
        rw [← hw]
        try rw [← hf]
        refine hK.out _ _ ⟨(Bx2.out.next hb).1, (By2.out.next hb).1⟩ (fun hHeld => ?_)
        clear hK K hw hf
        have Sz3 := Lib.hid (Below.size hb)
        have Bel3 := Lib.hid (belNext Bel2.out hb)
        have Bx3 := Lib.hid (Bx2.out.next hb)
        have By3 := Lib.hid (By2.out.next hb)
        have RsD3 := Lib.hid (RsD2.out.next hb)
        have Zv3 := Lib.hid (Zv2.out.next hb)
        have Zw3 := Lib.hid (Zw2.out.next hb)
        have BelC3 := Lib.hid (belNext BelC2.out hb)
        have RsU3 := Lib.hid (RsU2.out.next hb)
        clear hb Bel2 Bx2 By2 RsD2 Zv2 Zw2 BelC2 RsU2
        try simp only [Act.put, List.setIfInBounds_toArray, List.set_cons_zero, List.set_cons_succ, List.getElem_toArray, List.getElem_cons_succ, List.getElem_cons_zero]
        have hqr : fT ≠ fU := (by have zz0 := Hlt.out; have zz1 := Sz2.out; have zz2 := HfU.out; have zz3 := Sz3.out; have zz4 := HfT.out; first | omega | (simp; done) | (simp; omega))
        obtain ⟨⟨r1, r2, r3, r4⟩, r5⟩ := RsT3.out
        obtain ⟨⟨s1, s2, s3, s4⟩, s5⟩ := RsU3.out
        refine wpAnyH_ready (rs := [13]) (by kernel_rfl) (by simp) ?_
        refine AllReadyH.cons rfl (fun K hK => ?_) AllReadyH.nil
        go_simp
        refine hK.out _ (_root_.Go.Proofs.YtnecnbonnidijaaDoor.st w3 fT S A n c) ⟨(Bx3.out.stN (by have zz0 := Hlt.out; have zz1 := Sz2.out; have zz2 := HfU.out; have zz3 := Sz3.out; have zz4 := HfT.out; first | omega | (simp; done) | (simp; omega))).1, (By3.out.stN (by have zz0 := Hlt.out; have zz1 := Sz2.out; have zz2 := HfU.out; have zz3 := Sz3.out; have zz4 := HfT.out; first | omega | (simp; done) | (simp; omega))).1⟩ (fun hHeld => ?_)
        clear hK K
        try simp only [Act.put, List.setIfInBounds_toArray, List.set_cons_zero, List.set_cons_succ, List.getElem_toArray, List.getElem_cons_succ, List.getElem_cons_zero]
        obtain ⟨⟨u1, u2, u3, u4⟩, u5⟩ := RsU3.out.st_ (b' := fT) (s' := S) (A' := A) (n' := n) (c' := c) (fun e => hqr e.symm)
        refine wpAnyH_ready (rs := [14]) (by kernel_rfl) (by simp) ?_
        refine AllReadyH.cons rfl (fun K hK => ?_) AllReadyH.nil
        go_simp
        refine hK.out _ (_root_.Go.Proofs.YtnecnbonnidijaaDoor.st (_root_.Go.Proofs.YtnecnbonnidijaaDoor.st w3 fT S A n c) fU S' A' n' c') ⟨((Bx3.out.stN (by have zz0 := Hlt.out; have zz1 := Sz2.out; have zz2 := HfU.out; have zz3 := Sz3.out; have zz4 := HfT.out; first | omega | (simp; done) | (simp; omega))).stN (by have zz0 := Hlt.out; have zz1 := Sz2.out; have zz2 := HfU.out; have zz3 := Sz3.out; have zz4 := HfT.out; first | omega | (simp; done) | (simp; omega))).1, ((By3.out.stN (by have zz0 := Hlt.out; have zz1 := Sz2.out; have zz2 := HfU.out; have zz3 := Sz3.out; have zz4 := HfT.out; first | omega | (simp; done) | (simp; omega))).stN (by have zz0 := Hlt.out; have zz1 := Sz2.out; have zz2 := HfU.out; have zz3 := Sz3.out; have zz4 := HfT.out; first | omega | (simp; done) | (simp; omega))).1⟩ (fun hHeld => ?_)
        clear hK K
        try simp only [Act.put, List.setIfInBounds_toArray, List.set_cons_zero, List.set_cons_succ, List.getElem_toArray, List.getElem_cons_succ, List.getElem_cons_zero]
        refine wpAnyH_ready (rs := [15]) (by kernel_rfl) (by simp) ?_
        refine AllReadyH.cons rfl (fun K hK => ?_) AllReadyH.nil
        go_simp
        refine hK.out _ _ ⟨((Bx3.out.stN (by have zz0 := Hlt.out; have zz1 := Sz2.out; have zz2 := HfU.out; have zz3 := Sz3.out; have zz4 := HfT.out; first | omega | (simp; done) | (simp; omega))).stN (by have zz0 := Hlt.out; have zz1 := Sz2.out; have zz2 := HfU.out; have zz3 := Sz3.out; have zz4 := HfT.out; first | omega | (simp; done) | (simp; omega))).1, ((By3.out.stN (by have zz0 := Hlt.out; have zz1 := Sz2.out; have zz2 := HfU.out; have zz3 := Sz3.out; have zz4 := HfT.out; first | omega | (simp; done) | (simp; omega))).stN (by have zz0 := Hlt.out; have zz1 := Sz2.out; have zz2 := HfU.out; have zz3 := Sz3.out; have zz4 := HfT.out; first | omega | (simp; done) | (simp; omega))).1⟩ (fun hHeld => ?_)
        clear hK K hHeld
        try simp only [Act.put, List.setIfInBounds_toArray, List.set_cons_zero, List.set_cons_succ, List.getElem_toArray, List.getElem_cons_succ, List.getElem_cons_zero]
        refine wpAnyH_done (by kernel_rfl) ?_ _
        go_wp2_with fail
        go_meet
        exact ⟨fT, fU, rfl, rfl, rfl, (MB.made RsT3.out).st_ hqr, MB.made (RsU3.out.st_ (fun e => hqr e.symm)), hqr, (by have zz0 := Hlt.out; have zz1 := Sz2.out; have zz2 := HfU.out; have zz3 := Sz3.out; have zz4 := HfT.out; first | omega | (simp; done) | (simp; omega)), (by have zz0 := Hlt.out; have zz1 := Sz2.out; have zz2 := HfU.out; have zz3 := Sz3.out; have zz4 := HfT.out; first | omega | (simp; done) | (simp; omega)), belSt (belSt BelC3.out (by have zz0 := Hlt.out; have zz1 := Sz2.out; have zz2 := HfU.out; have zz3 := Sz3.out; have zz4 := HfT.out; first | omega | (simp; done) | (simp; omega))) (by have zz0 := Hlt.out; have zz1 := Sz2.out; have zz2 := HfU.out; have zz3 := Sz3.out; have zz4 := HfT.out; first | omega | (simp; done) | (simp; omega))⟩
  case rest =>
    obtain ⟨bt, bb, ht7, ht8, ht9, hbt, hbb, hne, hl1, hl2, hb⟩ := hcut
    subst ht7 ht8 ht9
    obtain ⟨w2, hwc⟩ : ∃ w2, w2 = wc := ⟨_, rfl⟩
    rw [← hwc] at hbt hbb hb ⊢
    clear hwc hwr1 hwr2
    have Mt2 := Lib.hid hbt
    have Mb2 := Lib.hid hbb
    have Hbt : Hid (w1.heap.size ≤ bt ∧ w1.heap.size ≤ bb ∧ bt < w2.heap.size ∧ bb < w2.heap.size) := Lib.hid ⟨hl1, hl2, hbt.2, hbb.2⟩
    have Hne := Lib.hid hne
    clear hbt hbb hl1 hl2 hne
    have BelC2 := Lib.hid hb
    have Sz2 := Lib.hid (Below.size hb)
    clear hb hBx0 hBx1 hBx2 hBx3 hBy0 hBy1 hBy2 hBy3 hRsD0 hRsD1 hRsD2 hRsD3 hRsD4 hRsD5 hRsD6
    by_cases hs0 : 0 ≤ s
    · obtain ⟨m, hm⟩ : ∃ m : Nat, s = m := ⟨(s).toNat, by omega⟩
      have hmb : (m : Int) ≤ 30000 := by omega
      have Hsm : Hid (s = m) := Lib.hid (by omega)
      subst hm
      obtain ⟨⟨hmt0, hmt1, hmt2, hmt3⟩, hmt4⟩ := Mt2.out
      obtain ⟨⟨hmb_0, hmb_1, hmb_2, hmb_3⟩, hmb_4⟩ := Mb2.out
      go_wp2_with fail
      refine (specLeft_any z S A n c m w2 (Zv1.out.next BelC2.out) (by have := Hm.out; omega) (by omega)).mono ?_
      rintro e w3 ⟨S2, A2, n2, c2, rfl, hzo, hb⟩
      have Zl3 := Lib.hid hzo
      have HS2 : Hid (S2 = S) := Lib.hid (by rw [hzo.1, sign_pow_mul]; exact HS.out.1.symm)
      have Hn2 : Hid ((n2 : Int) ≤ 3000) := Lib.hid (by have h := shl_len Hn.out m; have e := hzo.2.1; rw [abs_pow_mul] at e; rw [e] at h; have := Hm.out; omega)
      clear hzo
      have Sz3 := Lib.hid (Below.size hb)
      have BelC3 := Lib.hid (belNext BelC2.out hb)
      have Mt3 := Lib.hid (Mt2.out.next hb)
      have Mb3 := Lib.hid (Mb2.out.next hb)
      clear hb BelC2 Mt2 Mb2 hmt0 hmt1 hmt2 hmt3 hmt4 hmb_0 hmb_1 hmb_2 hmb_3 hmb_4
      obtain ⟨⟨hmt0, hmt1, hmt2, hmt3⟩, hmt4⟩ := Mt3.out
      obtain ⟨⟨hmb_0, hmb_1, hmb_2, hmb_3⟩, hmb_4⟩ := Mb3.out
      go_upto_region 5 with fail
      obtain ⟨w4, hw⟩ : ∃ w4, w4 = (w3.setCell ⟨bt, 0, none⟩ (.int .i64 S2)).setCell ⟨bt, 1, none⟩ (.slice A2 n2 c2) := ⟨_, rfl⟩
      rw [← hw]
      have hst3 : w4 = _root_.Go.Proofs.YtnecnbonnidijaaDoor.st w3 bt S2 A2 n2 c2 := hw
      clear hmt0 hmt1 hmt2 hmt3 hmt4 hmb_0 hmb_1 hmb_2 hmb_3 hmb_4
      have Mt4 : Hid (MB w4 bt S2 A2 n2 c2) := Lib.hid (by rw [hst3]; exact Mt3.out.over)
      have Mb4 := Lib.hid (show MB w4 _ _ _ _ _ by rw [hst3]; exact Mb3.out.st_ (fun e => Hne.out e.symm))
      have Zl4 := Lib.hid (show ZO w4 _ _ _ _ _ _ _ by rw [hst3]; exact Zl3.out.st_ (.inl (by have zz0 := Hlt.out; have zz1 := Sz2.out; have zz2 := Hbt.out; have zz3 := Hne.out; have zz4 := Sz3.out; first | omega | (simp; done) | (simp; omega))))
      have Sz4 : Hid (w3.heap.size ≤ w4.heap.size) := Lib.hid (by rw [hst3, st_size]; exact Nat.le_refl _)
      have BelC4 : Hid (Below w1.heap.size w1 w4) := Lib.hid (by rw [hst3]; exact belSt BelC3.out (by have zz0 := Hlt.out; have zz1 := Sz2.out; have zz2 := Hbt.out; have zz3 := Hne.out; have zz4 := Sz3.out; first | omega | (simp; done) | (simp; omega)))
      clear hw hst3 Mt3 Mb3 Zl3 BelC3
      have Bt4 : Hid (Box w4 bt S2 A2 n2 c2) := Lib.hid Mt4.out.box
      have Bb4 : Hid (Box w4 bb S' A' n' c') := Lib.hid Mb4.out.box
      clear Mt4 Mb4
      obtain ⟨⟨hBt0, hBt1⟩, hBt2⟩ := Bt4.out
      obtain ⟨⟨hBb0, hBb1⟩, hBb2⟩ := Bb4.out
      go_wp2_with fail
      refine (specDivMod_any ((2 : Int) ^ m * z) (z') S2 S' A2 A' n2 n' c2 c' w4 Zl4.out.zv (Zw1.out.next BelC4.out) H0.out (by have := Hm.out; have := Hn2.out; omega) (by have := Hm.out; have := Hn2.out; omega)).mono ?_
      rintro e w5 ⟨Sq, Aq, nq, cq, Sr, Ar, nr, cr, rfl, hzq, hzr, hb⟩
      have Zq5 := Lib.hid (hzq.cast_ (z' := z.sign * z'.sign * ((qN z (m : Int) / qD z' (m : Int) : Nat) : Int)) (by simp only [HS2.out, HS.out.1, HS.out.2, abs_pow_mul, qN_up, qD_up]))
      have HSr : Hid (Sr = (z.sign * ((qN z (m : Int) % qD z' (m : Int) : Nat) : Int)).sign) := Lib.hid (by rw [hzr.1]; simp only [HS2.out, HS.out.1, HS.out.2, abs_pow_mul, qN_up, qD_up])
      have Hnq : Hid ((nq : Int) ≤ 3001) := Lib.hid (by have h := qz_len z z' (qN z (m : Int)) (qD z' (m : Int)); rw [Zq5.out.2.1] at h; have h2 := shl_len Hn.out m; rw [qN_up] at h; have := Hm.out; omega)
      clear hzq hzr
      have Sz5 := Lib.hid (Below.size hb)
      have BelC5 := Lib.hid (belNext BelC4.out hb)
      have Zl5 := Lib.hid (Zl4.out.next hb)
      have Bt5 := Lib.hid (Bt4.out.next hb)
      have Bb5 := Lib.hid (Bb4.out.next hb)
      clear hb BelC4 Zl4 Bt4 Bb4 hBt0 hBt1 hBt2 hBb0 hBb1 hBb2
      go_upto_region 6 with fail
      obtain ⟨w6, hw⟩ : ∃ w6, w6 = (w5.alloc (.cells #[.int .i64 Sq, .slice Aq nq cq] 28)).alloc (.cells #[.int .i64 Sr, .slice Ar nr cr] 28) := ⟨_, rfl⟩
      rw [← hw]
      have hmq : MB w6 w5.heap.size Sq Aq nq cq := by rw [hw]; exact (MB.newB _ _ _ _ _ _).next (belAlloc1 _ _)
      have hbr : Box w6 (w5.heap.size + 1) Sr Ar nr cr := by
        rw [hw]
        have h := Box.new (w5.alloc (.cells #[.int .i64 Sq, .slice Aq nq cq] 28)) Sr Ar nr cr 28
        have e : (w5.alloc (.cells #[.int .i64 Sq, .slice Aq nq cq] 28)).heap.size = w5.heap.size + 1 := by simp
        rw [e] at h
        exact h
      have hb : Below w5.heap.size w5 w6 := by rw [hw]; exact belNext (belAlloc1 _ _) (belAlloc1 _ _)
      obtain ⟨fq, hfq⟩ : ∃ f, f = w5.heap.size := ⟨_, rfl⟩
      obtain ⟨fr, hfr⟩ : ∃ f, f = w5.heap.size + 1 := ⟨_, rfl⟩
      rw [← hfr]
      rw [← hfq] at hmq ⊢
      rw [← hfr] at hbr
      have Mq6 := Lib.hid hmq
      have Br6 := Lib.hid hbr
      have Hfq : Hid (w5.heap.size ≤ fq ∧ fq < w6.heap.size ∧ fq ≠ fr) := Lib.hid ⟨by omega, hmq.2, by omega⟩
      clear hw hmq hbr hfq hfr
      have Sz6 := Lib.hid (Below.size hb)
      have BelC6 := Lib.hid (belNext BelC5.out hb)
      have Zl6 := Lib.hid (Zl5.out.next hb)
      have Bt6 := Lib.hid (Bt5.out.next hb)
      have Bb6 := Lib.hid (Bb5.out.next hb)
      have Zq6 := Lib.hid (Zq5.out.next hb)
      clear hb BelC5 Zl5 Bt5 Bb5 Zq5
      clear Zl6
      have hwk : IntKind.i64.wrap (-k) = -k := IntWalk.i64_in _ (by omega)
      by_cases hr0 : Sr = 0
      · have Hq1 : Hid (z.sign * z'.sign * ((qN z (m : Int) / qD z' (m : Int) : Nat) : Int) = quZ z z' (m : Int)) := Lib.hid (by
          unfold quZ
          rw [if_neg]
          intro h
          have e := HSr.out
          rw [hr0] at e
          have e2 := Int.sign_eq_zero_iff_zero.1 e.symm
          rcases Int.mul_eq_zero.1 e2 with e3 | e3
          · rw [e3] at h; simp at h
          · omega)
        have hd : (Sr != 0) = false := by rw [hr0]; rfl
        clear hr0
        obtain ⟨⟨hBt0, hBt1⟩, hBt2⟩ := Bt6.out
        obtain ⟨⟨hBb0, hBb1⟩, hBb2⟩ := Bb6.out
        obtain ⟨⟨hBr0, hBr1⟩, hBr2⟩ := Br6.out
        obtain ⟨⟨hmq_0, hmq_1, hmq_2, hmq_3⟩, hmq_4⟩ := Mq6.out
        go_wp2_with fail
        refine (specMakeD_any (quZ z z' (m : Int)) Sq (-k) Aq nq cq w6 (Zq6.out.zv.cast_ Hq1.out) (by have := Hnq.out; omega) (by omega) (by omega)).mono ?_
        rintro e w7 ⟨S9, A9, n9, c9, rfl, hzo, hb⟩
        obtain ⟨X9, hX9⟩ : ∃ X9, X9 = nx (quZ z z' (m : Int)) (-k) := ⟨_, rfl⟩
        rw [← hX9]
        have HX9 := Lib.hid hX9
        have Zp7 := Lib.hid hzo
        clear hzo hX9
        have Sz7 := Lib.hid (Below.size hb)
        have BelC7 := Lib.hid (belNext BelC6.out hb)
        have Bt7 := Lib.hid (Bt6.out.next hb)
        have Bb7 := Lib.hid (Bb6.out.next hb)
        have Zq7 := Lib.hid (Zq6.out.next hb)
        have Mq7 := Lib.hid (Mq6.out.next hb)
        have Br7 := Lib.hid (Br6.out.next hb)
        clear hb BelC6 Bt6 Bb6 Zq6 Mq6 Br6 hBt0 hBt1 hBt2 hBb0 hBb1 hBb2 hBr0 hBr1 hBr2 hmq_0 hmq_1 hmq_2 hmq_3 hmq_4
        have RsD7 := Lib.hid (RsD1.out.next BelC7.out)
        have Bel7 := Lib.hid (belNext Bel1.out BelC7.out)
        clear RsD1 Bel1
        obtain ⟨⟨hBt0, hBt1⟩, hBt2⟩ := Bt7.out
        obtain ⟨⟨hBb0, hBb1⟩, hBb2⟩ := Bb7.out
        obtain ⟨⟨hBr0, hBr1⟩, hBr2⟩ := Br7.out
        obtain ⟨⟨hRsD0, hRsD1, hRsD2, hRsD3, hRsD4, hRsD5⟩, hRsD6⟩ := RsD7.out
        go_wp2_with fail
        refine bodyPost_ret (v := .agg #[.int .i64 S9, .slice A9 n9 c9, .int .i64 X9]) (by simp [results, Tryd.results46, go_sem, hRsD0, hRsD1, hRsD2]) rfl ⟨S9, A9, n9, c9, by rw [HX9.out], ?_, ?_⟩
        · exact (((Zp7.out.setCell (.inl (by have zz0 := Hlt.out; have zz1 := Sz2.out; have zz2 := Hbt.out; have zz3 := Hne.out; have zz4 := Sz3.out; have zz5 := Sz4.out; have zz6 := Sz5.out; have zz7 := Sz6.out; have zz8 := Hfq.out; have zz9 := Sz7.out; first | omega | (simp; done) | (simp; omega))) _).setCell (.inl (by have zz0 := Hlt.out; have zz1 := Sz2.out; have zz2 := Hbt.out; have zz3 := Hne.out; have zz4 := Sz3.out; have zz5 := Sz4.out; have zz6 := Sz5.out; have zz7 := Sz6.out; have zz8 := Hfq.out; have zz9 := Sz7.out; first | omega | (simp; done) | (simp; omega))) _).setCell (.inl (by have zz0 := Hlt.out; have zz1 := Sz2.out; have zz2 := Hbt.out; have zz3 := Hne.out; have zz4 := Sz3.out; have zz5 := Sz4.out; have zz6 := Sz5.out; have zz7 := Sz6.out; have zz8 := Hfq.out; have zz9 := Sz7.out; first | omega | (simp; done) | (simp; omega))) _).wide (by have zz0 := Hlt.out; have zz1 := Sz2.out; have zz2 := Hbt.out; have zz3 := Hne.out; have zz4 := Sz3.out; have zz5 := Sz4.out; have zz6 := Sz5.out; have zz7 := Sz6.out; have zz8 := Hfq.out; have zz9 := Sz7.out; first | omega | (simp; done) | (simp; omega)) (by have zz0 := Hlt.out; have zz1 := Sz2.out; have zz2 := Hbt.out; have zz3 := Hne.out; have zz4 := Sz3.out; have zz5 := Sz4.out; have zz6 := Sz5.out; have zz7 := Sz6.out; have zz8 := Hfq.out; have zz9 := Sz7.out; first | omega | (simp; done) | (simp; omega)) (by have zz0 := Hlt.out; have zz1 := Sz2.out; have zz2 := Hbt.out; have zz3 := Hne.out; have zz4 := Sz3.out; have zz5 := Sz4.out; have zz6 := Sz5.out; have zz7 := Sz6.out; have zz8 := Hfq.out; have zz9 := Sz7.out; first | omega | (simp; done) | (simp; omega))
        · exact ((Bel7.out.setCell (by have zz0 := Hlt.out; have zz1 := Sz2.out; have zz2 := Hbt.out; have zz3 := Hne.out; have zz4 := Sz3.out; have zz5 := Sz4.out; have zz6 := Sz5.out; have zz7 := Sz6.out; have zz8 := Hfq.out; have zz9 := Sz7.out; first | omega | (simp; done) | (simp; omega)) _).setCell (by have zz0 := Hlt.out; have zz1 := Sz2.out; have zz2 := Hbt.out; have zz3 := Hne.out; have zz4 := Sz3.out; have zz5 := Sz4.out; have zz6 := Sz5.out; have zz7 := Sz6.out; have zz8 := Hfq.out; have zz9 := Sz7.out; first | omega | (simp; done) | (simp; omega)) _).setCell (by have zz0 := Hlt.out; have zz1 := Sz2.out; have zz2 := Hbt.out; have zz3 := Hne.out; have zz4 := Sz3.out; have zz5 := Sz4.out; have zz6 := Sz5.out; have zz7 := Sz6.out; have zz8 := Hfq.out; have zz9 := Sz7.out; first | omega | (simp; done) | (simp; omega)) _
      · have hd : (Sr != 0) = true := by simp [hr0]
        have hN : Hid (¬ (z.sign = 0 ∨ ((qN z (m : Int) % qD z' (m : Int) : Nat) : Int) = 0)) := Lib.hid (fun h => hr0 (by rw [HSr.out]; rcases h with h | h <;> rw [h] <;> simp))
        clear hr0
        have HT1 : Hid (S2 = z.sign ∧ S' = z'.sign) := Lib.hid ⟨HS2.out.trans HS.out.1, HS.out.2⟩
        have hbd := sgn_bd z z'
        have Hss : Hid (wrap64 (S2 * S') = z.sign * z'.sign) := Lib.hid (by rw [HT1.out.1, HT1.out.2]; exact wrap64_small (by omega) (by omega))
        by_cases ht0 : z.sign * z'.sign < 0
        · have Hq1 : Hid (z.sign * z'.sign * ((qN z (m : Int) / qD z' (m : Int) : Nat) : Int) - ((1 : Nat) : Int) = quZ z z' (m : Int)) := Lib.hid (by
            unfold quZ
            rw [if_pos ⟨ht0, by have h := hN.out; omega⟩, show z.sign * z'.sign = -1 by omega]
            omega)
          have ht1 : decide (wrap64 (S2 * S') < 0) = true := decide_eq_true (by rw [Hss.out]; exact ht0)
          clear ht0 hbd
          obtain ⟨⟨hBt0, hBt1⟩, hBt2⟩ := Bt6.out
          obtain ⟨⟨hBb0, hBb1⟩, hBb2⟩ := Bb6.out
          obtain ⟨⟨hBr0, hBr1⟩, hBr2⟩ := Br6.out
          go_wp2_with fail
          clear hBt0 hBt1 hBt2 hBb0 hBb1 hBb2 hBr0 hBr1 hBr2
          refine wp_region_held_drew (S := fun w' => (w'.cell? ⟨fr, 0, none⟩ = some (.int .i64 Sr) ∧ w'.cell? ⟨fr, 1, none⟩ = some (.slice Ar nr cr))) (by kernel_rfl) Br6.out.1 (fun hHeld => ?_)
          obtain ⟨⟨hmq_0, hmq_1, hmq_2, hmq_3⟩, hmq_4⟩ := Mq6.out
          refine wpAnyH_ready (rs := [0, 1]) (by kernel_rfl) (by simp) ?_
          refine AllReadyH.cons rfl (fun K hK => ?_) (AllReadyH.cons rfl (fun K hK => ?_) AllReadyH.nil)
          · go_simp
            refine hK.out _ _ hHeld (fun hHeld => ?_)
            clear hK K
            try simp only [Act.put, List.setIfInBounds_toArray, List.set_cons_zero, List.set_cons_succ, List.getElem_toArray, List.getElem_cons_succ, List.getElem_cons_zero]
            clear hmq_0 hmq_1 hmq_2 hmq_3 hmq_4
            refine wpAnyH_ready (rs := [1]) (by kernel_rfl) (by simp) ?_
            refine AllReadyH.cons rfl (fun K hK => ?_) AllReadyH.nil
            go_simp
            refine (specOne_any w6.drew).mono ?_
            rintro e w7 ⟨S7, A7, n7, c7, rfl, hzo, hn7, hb0⟩
            have hb : Below w6.heap.size w6 w7 := belDrew hb0
            have Zo7 := Lib.hid hzo
            have Hn7 := Lib.hid hn7
            clear hzo hn7
            refine hK.out _ _ (Br6.out.next hb).1 (fun hHeld => ?_)
            clear hK K hb0
            have Sz7 := Lib.hid (Below.size hb)
            have BelC7 := Lib.hid (belNext BelC6.out hb)
            have Bt7 := Lib.hid (Bt6.out.next hb)
            have Bb7 := Lib.hid (Bb6.out.next hb)
            have Zq7 := Lib.hid (Zq6.out.next hb)
            have Mq7 := Lib.hid (Mq6.out.next hb)
            have Br7 := Lib.hid (Br6.out.next hb)
            clear hb BelC6 Bt6 Bb6 Zq6 Mq6 Br6
            try simp only [Act.put, List.setIfInBounds_toArray, List.set_cons_zero, List.set_cons_succ, List.getElem_toArray, List.getElem_cons_succ, List.getElem_cons_zero]
            refine wpAnyH_ready (rs := [2]) (by kernel_rfl) (by simp) ?_
            refine AllReadyH.cons rfl (fun K hK => ?_) AllReadyH.nil
            go_simp
            refine (specSubZ_any (z.sign * z'.sign * ((qN z (m : Int) / qD z' (m : Int) : Nat) : Int)) ((1 : Nat) : Int) Sq S7 Aq A7 nq n7 cq c7 w7 Zq7.out.zv Zo7.out.zv (by have := Hnq.out; omega) (by have := Hn7.out; omega)).mono ?_
            rintro e w8 ⟨S8, A8, n8, c8, rfl, hzo, hb0⟩
            have hb : Below w7.heap.size w7 w8 := hb0
            have Zs8 := Lib.hid (hzo.cast_ Hq1.out)
            have Hn8 : Hid ((n8 : Int) ≤ 3005) := Lib.hid (by
              have e := Zq7.out.2.1
              have e2 := hzo.2.1
              have h2 := limbs_len_mono (show (z.sign * z'.sign * ((qN z (m : Int) / qD z' (m : Int) : Nat) : Int) - ((1 : Nat) : Int)).natAbs ≤ (z.sign * z'.sign * ((qN z (m : Int) / qD z' (m : Int) : Nat) : Int)).natAbs + 1 by omega)
              have h3 := limbs_len_sum (z.sign * z'.sign * ((qN z (m : Int) / qD z' (m : Int) : Nat) : Int)).natAbs 1 rfl (show (limbs 1).length = 1 by rw [limbs_1]; rfl)
              have h4 := Hnq.out
              rw [e2] at h2
              rw [e] at h3
              omega)
            clear hzo
            refine hK.out _ _ ((Br7.out.next hb).1) (fun hHeld => ?_)
            clear hK K hb0
            have Sz8 := Lib.hid (Below.size hb)
            have BelC8 := Lib.hid (belNext BelC7.out hb)
            have Bt8 := Lib.hid (Bt7.out.next hb)
            have Bb8 := Lib.hid (Bb7.out.next hb)
            have Zq8 := Lib.hid (Zq7.out.next hb)
            have Mq8 := Lib.hid (Mq7.out.next hb)
            have Br8 := Lib.hid (Br7.out.next hb)
            have Zo8 := Lib.hid (Zo7.out.next hb)
            clear hb BelC7 Bt7 Bb7 Zq7 Mq7 Br7 Zo7
            try simp only [Act.put, List.setIfInBounds_toArray, List.set_cons_zero, List.set_cons_succ, List.getElem_toArray, List.getElem_cons_succ, List.getElem_cons_zero]
            obtain ⟨⟨hmq_0, hmq_1, hmq_2, hmq_3⟩, hmq_4⟩ := Mq8.out
            refine wpAnyH_ready (rs := [3]) (by kernel_rfl) (by simp) ?_
            refine AllReadyH.cons rfl (fun K hK => ?_) AllReadyH.nil
            go_simp
            refine hK.out _ (_root_.Go.Proofs.YtnecnbonnidijaaDoor.st w8 fq S8 A8 n8 c8) (Br8.out.st_ (by have zz0 := Hlt.out; have zz1 := Sz2.out; have zz2 := Hbt.out; have zz3 := Hne.out; have zz4 := Sz3.out; have zz5 := Sz4.out; have zz6 := Sz5.out; have zz7 := Sz6.out; have zz8 := Hfq.out; have zz9 := Sz7.out; have zz10 := Sz8.out; first | omega | (simp; done) | (simp; omega))).1 (fun hHeld => ?_)
            clear hK K hHeld
            try simp only [Act.put, List.setIfInBounds_toArray, List.set_cons_zero, List.set_cons_succ, List.getElem_toArray, List.getElem_cons_succ, List.getElem_cons_zero]
            refine wpAnyH_done (by kernel_rfl) ?_ _
            obtain ⟨w9, hw⟩ : ∃ w9, w9 = _root_.Go.Proofs.YtnecnbonnidijaaDoor.st w8 fq S8 A8 n8 c8 := ⟨_, rfl⟩
            rw [← hw]
            clear hmq_0 hmq_1 hmq_2 hmq_3 hmq_4
            have Mq9 : Hid (MB w9 fq S8 A8 n8 c8) := Lib.hid (by rw [hw]; exact Mq8.out.over)
            have Zs9 := Lib.hid (show ZO w9 _ _ _ _ _ _ _ by rw [hw]; exact Zs8.out.st_ (.inl (by have zz0 := Hlt.out; have zz1 := Sz2.out; have zz2 := Hbt.out; have zz3 := Hne.out; have zz4 := Sz3.out; have zz5 := Sz4.out; have zz6 := Sz5.out; have zz7 := Sz6.out; have zz8 := Hfq.out; have zz9 := Sz7.out; have zz10 := Sz8.out; first | omega | (simp; done) | (simp; omega))))
            have Sz9 : Hid (w8.heap.size ≤ w9.heap.size) := Lib.hid (by rw [hw, st_size]; exact Nat.le_refl _)
            have BelC9 : Hid (Below w1.heap.size w1 w9) := Lib.hid (by rw [hw]; exact belSt BelC8.out (by have zz0 := Hlt.out; have zz1 := Sz2.out; have zz2 := Hbt.out; have zz3 := Hne.out; have zz4 := Sz3.out; have zz5 := Sz4.out; have zz6 := Sz5.out; have zz7 := Sz6.out; have zz8 := Hfq.out; have zz9 := Sz7.out; have zz10 := Sz8.out; first | omega | (simp; done) | (simp; omega)))
            clear hw Mq8 Zs8 BelC8
            obtain ⟨⟨hmq_0, hmq_1, hmq_2, hmq_3⟩, hmq_4⟩ := Mq9.out
            go_wp2_with fail
            refine (specMakeD_any (quZ z z' (m : Int)) S8 (-k) A8 n8 c8 w9 Zs9.out.zv (by have := Hn8.out; omega) (by omega) (by omega)).mono ?_
            rintro e w10 ⟨S9, A9, n9, c9, rfl, hzo, hb⟩
            obtain ⟨X9, hX9⟩ : ∃ X9, X9 = nx (quZ z z' (m : Int)) (-k) := ⟨_, rfl⟩
            rw [← hX9]
            have HX9 := Lib.hid hX9
            have Zp10 := Lib.hid hzo
            clear hzo hX9
            have Sz10 := Lib.hid (Below.size hb)
            have BelC10 := Lib.hid (belNext BelC9.out hb)
            have Mq10 := Lib.hid (Mq9.out.next hb)
            have Zs10 := Lib.hid (Zs9.out.next hb)
            clear hb BelC9 Mq9 Zs9 hmq_0 hmq_1 hmq_2 hmq_3 hmq_4
            have RsD10 := Lib.hid (RsD1.out.next BelC10.out)
            have Bel10 := Lib.hid (belNext Bel1.out BelC10.out)
            clear RsD1 Bel1
            obtain ⟨⟨hRsD0, hRsD1, hRsD2, hRsD3, hRsD4, hRsD5⟩, hRsD6⟩ := RsD10.out
            go_wp2_with fail
            refine bodyPost_ret (v := .agg #[.int .i64 S9, .slice A9 n9 c9, .int .i64 X9]) (by simp [results, Tryd.results46, go_sem, hRsD0, hRsD1, hRsD2]) rfl ⟨S9, A9, n9, c9, by rw [HX9.out], ?_, ?_⟩
            · exact (((Zp10.out.setCell (.inl (by have zz0 := Hlt.out; have zz1 := Sz2.out; have zz2 := Hbt.out; have zz3 := Hne.out; have zz4 := Sz3.out; have zz5 := Sz4.out; have zz6 := Sz5.out; have zz7 := Sz6.out; have zz8 := Hfq.out; have zz9 := Sz7.out; have zz10 := Sz8.out; have zz11 := Sz9.out; have zz12 := Sz10.out; first | omega | (simp; done) | (simp; omega))) _).setCell (.inl (by have zz0 := Hlt.out; have zz1 := Sz2.out; have zz2 := Hbt.out; have zz3 := Hne.out; have zz4 := Sz3.out; have zz5 := Sz4.out; have zz6 := Sz5.out; have zz7 := Sz6.out; have zz8 := Hfq.out; have zz9 := Sz7.out; have zz10 := Sz8.out; have zz11 := Sz9.out; have zz12 := Sz10.out; first | omega | (simp; done) | (simp; omega))) _).setCell (.inl (by have zz0 := Hlt.out; have zz1 := Sz2.out; have zz2 := Hbt.out; have zz3 := Hne.out; have zz4 := Sz3.out; have zz5 := Sz4.out; have zz6 := Sz5.out; have zz7 := Sz6.out; have zz8 := Hfq.out; have zz9 := Sz7.out; have zz10 := Sz8.out; have zz11 := Sz9.out; have zz12 := Sz10.out; first | omega | (simp; done) | (simp; omega))) _).wide (by have zz0 := Hlt.out; have zz1 := Sz2.out; have zz2 := Hbt.out; have zz3 := Hne.out; have zz4 := Sz3.out; have zz5 := Sz4.out; have zz6 := Sz5.out; have zz7 := Sz6.out; have zz8 := Hfq.out; have zz9 := Sz7.out; have zz10 := Sz8.out; have zz11 := Sz9.out; have zz12 := Sz10.out; first | omega | (simp; done) | (simp; omega)) (by have zz0 := Hlt.out; have zz1 := Sz2.out; have zz2 := Hbt.out; have zz3 := Hne.out; have zz4 := Sz3.out; have zz5 := Sz4.out; have zz6 := Sz5.out; have zz7 := Sz6.out; have zz8 := Hfq.out; have zz9 := Sz7.out; have zz10 := Sz8.out; have zz11 := Sz9.out; have zz12 := Sz10.out; first | omega | (simp; done) | (simp; omega)) (by have zz0 := Hlt.out; have zz1 := Sz2.out; have zz2 := Hbt.out; have zz3 := Hne.out; have zz4 := Sz3.out; have zz5 := Sz4.out; have zz6 := Sz5.out; have zz7 := Sz6.out; have zz8 := Hfq.out; have zz9 := Sz7.out; have zz10 := Sz8.out; have zz11 := Sz9.out; have zz12 := Sz10.out; first | omega | (simp; done) | (simp; omega))
            · exact ((Bel10.out.setCell (by have zz0 := Hlt.out; have zz1 := Sz2.out; have zz2 := Hbt.out; have zz3 := Hne.out; have zz4 := Sz3.out; have zz5 := Sz4.out; have zz6 := Sz5.out; have zz7 := Sz6.out; have zz8 := Hfq.out; have zz9 := Sz7.out; have zz10 := Sz8.out; have zz11 := Sz9.out; have zz12 := Sz10.out; first | omega | (simp; done) | (simp; omega)) _).setCell (by have zz0 := Hlt.out; have zz1 := Sz2.out; have zz2 := Hbt.out; have zz3 := Hne.out; have zz4 := Sz3.out; have zz5 := Sz4.out; have zz6 := Sz5.out; have zz7 := Sz6.out; have zz8 := Hfq.out; have zz9 := Sz7.out; have zz10 := Sz8.out; have zz11 := Sz9.out; have zz12 := Sz10.out; first | omega | (simp; done) | (simp; omega)) _).setCell (by have zz0 := Hlt.out; have zz1 := Sz2.out; have zz2 := Hbt.out; have zz3 := Hne.out; have zz4 := Sz3.out; have zz5 := Sz4.out; have zz6 := Sz5.out; have zz7 := Sz6.out; have zz8 := Hfq.out; have zz9 := Sz7.out; have zz10 := Sz8.out; have zz11 := Sz9.out; have zz12 := Sz10.out; first | omega | (simp; done) | (simp; omega)) _
          · go_simp
            clear hmq_0 hmq_1 hmq_2 hmq_3 hmq_4
            refine (specOne_any w6.drew).mono ?_
            rintro e w7 ⟨S7, A7, n7, c7, rfl, hzo, hn7, hb0⟩
            have hb : Below w6.heap.size w6 w7 := belDrew hb0
            have Zo7 := Lib.hid hzo
            have Hn7 := Lib.hid hn7
            clear hzo hn7
            refine hK.out _ _ (Br6.out.next hb).1 (fun hHeld => ?_)
            clear hK K hb0
            have Sz7 := Lib.hid (Below.size hb)
            have BelC7 := Lib.hid (belNext BelC6.out hb)
            have Bt7 := Lib.hid (Bt6.out.next hb)
            have Bb7 := Lib.hid (Bb6.out.next hb)
            have Zq7 := Lib.hid (Zq6.out.next hb)
            have Mq7 := Lib.hid (Mq6.out.next hb)
            have Br7 := Lib.hid (Br6.out.next hb)
            clear hb BelC6 Bt6 Bb6 Zq6 Mq6 Br6
            try simp only [Act.put, List.setIfInBounds_toArray, List.set_cons_zero, List.set_cons_succ, List.getElem_toArray, List.getElem_cons_succ, List.getElem_cons_zero]
            obtain ⟨⟨hmq_0, hmq_1, hmq_2, hmq_3⟩, hmq_4⟩ := Mq7.out
            refine wpAnyH_ready (rs := [0]) (by kernel_rfl) (by simp) ?_
            refine AllReadyH.cons rfl (fun K hK => ?_) AllReadyH.nil
            go_simp
            refine hK.out _ _ hHeld (fun hHeld => ?_)
            clear hK K
            try simp only [Act.put, List.setIfInBounds_toArray, List.set_cons_zero, List.set_cons_succ, List.getElem_toArray, List.getElem_cons_succ, List.getElem_cons_zero]
            clear hmq_0 hmq_1 hmq_2 hmq_3 hmq_4
            refine wpAnyH_ready (rs := [2]) (by kernel_rfl) (by simp) ?_
            refine AllReadyH.cons rfl (fun K hK => ?_) AllReadyH.nil
            go_simp
            refine (specSubZ_any (z.sign * z'.sign * ((qN z (m : Int) / qD z' (m : Int) : Nat) : Int)) ((1 : Nat) : Int) Sq S7 Aq A7 nq n7 cq c7 w7 Zq7.out.zv Zo7.out.zv (by have := Hnq.out; omega) (by have := Hn7.out; omega)).mono ?_
            rintro e w8 ⟨S8, A8, n8, c8, rfl, hzo, hb0⟩
            have hb : Below w7.heap.size w7 w8 := hb0
            have Zs8 := Lib.hid (hzo.cast_ Hq1.out)
            have Hn8 : Hid ((n8 : Int) ≤ 3005) := Lib.hid (by
              have e := Zq7.out.2.1
              have e2 := hzo.2.1
              have h2 := limbs_len_mono (show (z.sign * z'.sign * ((qN z (m : Int) / qD z' (m : Int) : Nat) : Int) - ((1 : Nat) : Int)).natAbs ≤ (z.sign * z'.sign * ((qN z (m : Int) / qD z' (m : Int) : Nat) : Int)).natAbs + 1 by omega)
              have h3 := limbs_len_sum (z.sign * z'.sign * ((qN z (m : Int) / qD z' (m : Int) : Nat) : Int)).natAbs 1 rfl (show (limbs 1).length = 1 by rw [limbs_1]; rfl)
              have h4 := Hnq.out
              rw [e2] at h2
              rw [e] at h3
              omega)
            clear hzo
            refine hK.out _ _ ((Br7.out.next hb).1) (fun hHeld => ?_)
            clear hK K hb0
            have Sz8 := Lib.hid (Below.size hb)
            have BelC8 := Lib.hid (belNext BelC7.out hb)
            have Bt8 := Lib.hid (Bt7.out.next hb)
            have Bb8 := Lib.hid (Bb7.out.next hb)
            have Zq8 := Lib.hid (Zq7.out.next hb)
            have Mq8 := Lib.hid (Mq7.out.next hb)
            have Br8 := Lib.hid (Br7.out.next hb)
            have Zo8 := Lib.hid (Zo7.out.next hb)
            clear hb BelC7 Bt7 Bb7 Zq7 Mq7 Br7 Zo7
            try simp only [Act.put, List.setIfInBounds_toArray, List.set_cons_zero, List.set_cons_succ, List.getElem_toArray, List.getElem_cons_succ, List.getElem_cons_zero]
            obtain ⟨⟨hmq_0, hmq_1, hmq_2, hmq_3⟩, hmq_4⟩ := Mq8.out
            refine wpAnyH_ready (rs := [3]) (by kernel_rfl) (by simp) ?_
            refine AllReadyH.cons rfl (fun K hK => ?_) AllReadyH.nil
            go_simp
            refine hK.out _ (_root_.Go.Proofs.YtnecnbonnidijaaDoor.st w8 fq S8 A8 n8 c8) (Br8.out.st_ (by have zz0 := Hlt.out; have zz1 := Sz2.out; have zz2 := Hbt.out; have zz3 := Hne.out; have zz4 := Sz3.out; have zz5 := Sz4.out; have zz6 := Sz5.out; have zz7 := Sz6.out; have zz8 := Hfq.out; have zz9 := Sz7.out; have zz10 := Sz8.out; first | omega | (simp; done) | (simp; omega))).1 (fun hHeld => ?_)
            clear hK K hHeld
            try simp only [Act.put, List.setIfInBounds_toArray, List.set_cons_zero, List.set_cons_succ, List.getElem_toArray, List.getElem_cons_succ, List.getElem_cons_zero]
            refine wpAnyH_done (by kernel_rfl) ?_ _
            obtain ⟨w9, hw⟩ : ∃ w9, w9 = _root_.Go.Proofs.YtnecnbonnidijaaDoor.st w8 fq S8 A8 n8 c8 := ⟨_, rfl⟩
            rw [← hw]
            clear hmq_0 hmq_1 hmq_2 hmq_3 hmq_4
            have Mq9 : Hid (MB w9 fq S8 A8 n8 c8) := Lib.hid (by rw [hw]; exact Mq8.out.over)
            have Zs9 := Lib.hid (show ZO w9 _ _ _ _ _ _ _ by rw [hw]; exact Zs8.out.st_ (.inl (by have zz0 := Hlt.out; have zz1 := Sz2.out; have zz2 := Hbt.out; have zz3 := Hne.out; have zz4 := Sz3.out; have zz5 := Sz4.out; have zz6 := Sz5.out; have zz7 := Sz6.out; have zz8 := Hfq.out; have zz9 := Sz7.out; have zz10 := Sz8.out; first | omega | (simp; done) | (simp; omega))))
            have Sz9 : Hid (w8.heap.size ≤ w9.heap.size) := Lib.hid (by rw [hw, st_size]; exact Nat.le_refl _)
            have BelC9 : Hid (Below w1.heap.size w1 w9) := Lib.hid (by rw [hw]; exact belSt BelC8.out (by have zz0 := Hlt.out; have zz1 := Sz2.out; have zz2 := Hbt.out; have zz3 := Hne.out; have zz4 := Sz3.out; have zz5 := Sz4.out; have zz6 := Sz5.out; have zz7 := Sz6.out; have zz8 := Hfq.out; have zz9 := Sz7.out; have zz10 := Sz8.out; first | omega | (simp; done) | (simp; omega)))
            clear hw Mq8 Zs8 BelC8
            obtain ⟨⟨hmq_0, hmq_1, hmq_2, hmq_3⟩, hmq_4⟩ := Mq9.out
            go_wp2_with fail
            refine (specMakeD_any (quZ z z' (m : Int)) S8 (-k) A8 n8 c8 w9 Zs9.out.zv (by have := Hn8.out; omega) (by omega) (by omega)).mono ?_
            rintro e w10 ⟨S9, A9, n9, c9, rfl, hzo, hb⟩
            obtain ⟨X9, hX9⟩ : ∃ X9, X9 = nx (quZ z z' (m : Int)) (-k) := ⟨_, rfl⟩
            rw [← hX9]
            have HX9 := Lib.hid hX9
            have Zp10 := Lib.hid hzo
            clear hzo hX9
            have Sz10 := Lib.hid (Below.size hb)
            have BelC10 := Lib.hid (belNext BelC9.out hb)
            have Mq10 := Lib.hid (Mq9.out.next hb)
            have Zs10 := Lib.hid (Zs9.out.next hb)
            clear hb BelC9 Mq9 Zs9 hmq_0 hmq_1 hmq_2 hmq_3 hmq_4
            have RsD10 := Lib.hid (RsD1.out.next BelC10.out)
            have Bel10 := Lib.hid (belNext Bel1.out BelC10.out)
            clear RsD1 Bel1
            obtain ⟨⟨hRsD0, hRsD1, hRsD2, hRsD3, hRsD4, hRsD5⟩, hRsD6⟩ := RsD10.out
            go_wp2_with fail
            refine bodyPost_ret (v := .agg #[.int .i64 S9, .slice A9 n9 c9, .int .i64 X9]) (by simp [results, Tryd.results46, go_sem, hRsD0, hRsD1, hRsD2]) rfl ⟨S9, A9, n9, c9, by rw [HX9.out], ?_, ?_⟩
            · exact (((Zp10.out.setCell (.inl (by have zz0 := Hlt.out; have zz1 := Sz2.out; have zz2 := Hbt.out; have zz3 := Hne.out; have zz4 := Sz3.out; have zz5 := Sz4.out; have zz6 := Sz5.out; have zz7 := Sz6.out; have zz8 := Hfq.out; have zz9 := Sz7.out; have zz10 := Sz8.out; have zz11 := Sz9.out; have zz12 := Sz10.out; first | omega | (simp; done) | (simp; omega))) _).setCell (.inl (by have zz0 := Hlt.out; have zz1 := Sz2.out; have zz2 := Hbt.out; have zz3 := Hne.out; have zz4 := Sz3.out; have zz5 := Sz4.out; have zz6 := Sz5.out; have zz7 := Sz6.out; have zz8 := Hfq.out; have zz9 := Sz7.out; have zz10 := Sz8.out; have zz11 := Sz9.out; have zz12 := Sz10.out; first | omega | (simp; done) | (simp; omega))) _).setCell (.inl (by have zz0 := Hlt.out; have zz1 := Sz2.out; have zz2 := Hbt.out; have zz3 := Hne.out; have zz4 := Sz3.out; have zz5 := Sz4.out; have zz6 := Sz5.out; have zz7 := Sz6.out; have zz8 := Hfq.out; have zz9 := Sz7.out; have zz10 := Sz8.out; have zz11 := Sz9.out; have zz12 := Sz10.out; first | omega | (simp; done) | (simp; omega))) _).wide (by have zz0 := Hlt.out; have zz1 := Sz2.out; have zz2 := Hbt.out; have zz3 := Hne.out; have zz4 := Sz3.out; have zz5 := Sz4.out; have zz6 := Sz5.out; have zz7 := Sz6.out; have zz8 := Hfq.out; have zz9 := Sz7.out; have zz10 := Sz8.out; have zz11 := Sz9.out; have zz12 := Sz10.out; first | omega | (simp; done) | (simp; omega)) (by have zz0 := Hlt.out; have zz1 := Sz2.out; have zz2 := Hbt.out; have zz3 := Hne.out; have zz4 := Sz3.out; have zz5 := Sz4.out; have zz6 := Sz5.out; have zz7 := Sz6.out; have zz8 := Hfq.out; have zz9 := Sz7.out; have zz10 := Sz8.out; have zz11 := Sz9.out; have zz12 := Sz10.out; first | omega | (simp; done) | (simp; omega)) (by have zz0 := Hlt.out; have zz1 := Sz2.out; have zz2 := Hbt.out; have zz3 := Hne.out; have zz4 := Sz3.out; have zz5 := Sz4.out; have zz6 := Sz5.out; have zz7 := Sz6.out; have zz8 := Hfq.out; have zz9 := Sz7.out; have zz10 := Sz8.out; have zz11 := Sz9.out; have zz12 := Sz10.out; first | omega | (simp; done) | (simp; omega))
            · exact ((Bel10.out.setCell (by have zz0 := Hlt.out; have zz1 := Sz2.out; have zz2 := Hbt.out; have zz3 := Hne.out; have zz4 := Sz3.out; have zz5 := Sz4.out; have zz6 := Sz5.out; have zz7 := Sz6.out; have zz8 := Hfq.out; have zz9 := Sz7.out; have zz10 := Sz8.out; have zz11 := Sz9.out; have zz12 := Sz10.out; first | omega | (simp; done) | (simp; omega)) _).setCell (by have zz0 := Hlt.out; have zz1 := Sz2.out; have zz2 := Hbt.out; have zz3 := Hne.out; have zz4 := Sz3.out; have zz5 := Sz4.out; have zz6 := Sz5.out; have zz7 := Sz6.out; have zz8 := Hfq.out; have zz9 := Sz7.out; have zz10 := Sz8.out; have zz11 := Sz9.out; have zz12 := Sz10.out; first | omega | (simp; done) | (simp; omega)) _).setCell (by have zz0 := Hlt.out; have zz1 := Sz2.out; have zz2 := Hbt.out; have zz3 := Hne.out; have zz4 := Sz3.out; have zz5 := Sz4.out; have zz6 := Sz5.out; have zz7 := Sz6.out; have zz8 := Hfq.out; have zz9 := Sz7.out; have zz10 := Sz8.out; have zz11 := Sz9.out; have zz12 := Sz10.out; first | omega | (simp; done) | (simp; omega)) _
        · have Hq1 : Hid (z.sign * z'.sign * ((qN z (m : Int) / qD z' (m : Int) : Nat) : Int) = quZ z z' (m : Int)) := Lib.hid (by
            unfold quZ
            rw [if_neg (fun h => ht0 h.1)])
          have ht1 : decide (wrap64 (S2 * S') < 0) = false := decide_eq_false (by rw [Hss.out]; exact ht0)
          clear ht0 hbd
          obtain ⟨⟨hBt0, hBt1⟩, hBt2⟩ := Bt6.out
          obtain ⟨⟨hBb0, hBb1⟩, hBb2⟩ := Bb6.out
          obtain ⟨⟨hBr0, hBr1⟩, hBr2⟩ := Br6.out
          obtain ⟨⟨hmq_0, hmq_1, hmq_2, hmq_3⟩, hmq_4⟩ := Mq6.out
          go_wp2_with fail
          refine (specMakeD_any (quZ z z' (m : Int)) Sq (-k) Aq nq cq w6 (Zq6.out.zv.cast_ Hq1.out) (by have := Hnq.out; omega) (by omega) (by omega)).mono ?_
          rintro e w7 ⟨S9, A9, n9, c9, rfl, hzo, hb⟩
          obtain ⟨X9, hX9⟩ : ∃ X9, X9 = nx (quZ z z' (m : Int)) (-k) := ⟨_, rfl⟩
          rw [← hX9]
          have HX9 := Lib.hid hX9
          have Zp7 := Lib.hid hzo
          clear hzo hX9
          have Sz7 := Lib.hid (Below.size hb)
          have BelC7 := Lib.hid (belNext BelC6.out hb)
          have Bt7 := Lib.hid (Bt6.out.next hb)
          have Bb7 := Lib.hid (Bb6.out.next hb)
          have Zq7 := Lib.hid (Zq6.out.next hb)
          have Mq7 := Lib.hid (Mq6.out.next hb)
          have Br7 := Lib.hid (Br6.out.next hb)
          clear hb BelC6 Bt6 Bb6 Zq6 Mq6 Br6 hBt0 hBt1 hBt2 hBb0 hBb1 hBb2 hBr0 hBr1 hBr2 hmq_0 hmq_1 hmq_2 hmq_3 hmq_4
          have RsD7 := Lib.hid (RsD1.out.next BelC7.out)
          have Bel7 := Lib.hid (belNext Bel1.out BelC7.out)
          clear RsD1 Bel1
          obtain ⟨⟨hBt0, hBt1⟩, hBt2⟩ := Bt7.out
          obtain ⟨⟨hBb0, hBb1⟩, hBb2⟩ := Bb7.out
          obtain ⟨⟨hBr0, hBr1⟩, hBr2⟩ := Br7.out
          obtain ⟨⟨hRsD0, hRsD1, hRsD2, hRsD3, hRsD4, hRsD5⟩, hRsD6⟩ := RsD7.out
          go_wp2_with fail
          refine bodyPost_ret (v := .agg #[.int .i64 S9, .slice A9 n9 c9, .int .i64 X9]) (by simp [results, Tryd.results46, go_sem, hRsD0, hRsD1, hRsD2]) rfl ⟨S9, A9, n9, c9, by rw [HX9.out], ?_, ?_⟩
          · exact (((Zp7.out.setCell (.inl (by have zz0 := Hlt.out; have zz1 := Sz2.out; have zz2 := Hbt.out; have zz3 := Hne.out; have zz4 := Sz3.out; have zz5 := Sz4.out; have zz6 := Sz5.out; have zz7 := Sz6.out; have zz8 := Hfq.out; have zz9 := Sz7.out; first | omega | (simp; done) | (simp; omega))) _).setCell (.inl (by have zz0 := Hlt.out; have zz1 := Sz2.out; have zz2 := Hbt.out; have zz3 := Hne.out; have zz4 := Sz3.out; have zz5 := Sz4.out; have zz6 := Sz5.out; have zz7 := Sz6.out; have zz8 := Hfq.out; have zz9 := Sz7.out; first | omega | (simp; done) | (simp; omega))) _).setCell (.inl (by have zz0 := Hlt.out; have zz1 := Sz2.out; have zz2 := Hbt.out; have zz3 := Hne.out; have zz4 := Sz3.out; have zz5 := Sz4.out; have zz6 := Sz5.out; have zz7 := Sz6.out; have zz8 := Hfq.out; have zz9 := Sz7.out; first | omega | (simp; done) | (simp; omega))) _).wide (by have zz0 := Hlt.out; have zz1 := Sz2.out; have zz2 := Hbt.out; have zz3 := Hne.out; have zz4 := Sz3.out; have zz5 := Sz4.out; have zz6 := Sz5.out; have zz7 := Sz6.out; have zz8 := Hfq.out; have zz9 := Sz7.out; first | omega | (simp; done) | (simp; omega)) (by have zz0 := Hlt.out; have zz1 := Sz2.out; have zz2 := Hbt.out; have zz3 := Hne.out; have zz4 := Sz3.out; have zz5 := Sz4.out; have zz6 := Sz5.out; have zz7 := Sz6.out; have zz8 := Hfq.out; have zz9 := Sz7.out; first | omega | (simp; done) | (simp; omega)) (by have zz0 := Hlt.out; have zz1 := Sz2.out; have zz2 := Hbt.out; have zz3 := Hne.out; have zz4 := Sz3.out; have zz5 := Sz4.out; have zz6 := Sz5.out; have zz7 := Sz6.out; have zz8 := Hfq.out; have zz9 := Sz7.out; first | omega | (simp; done) | (simp; omega))
          · exact ((Bel7.out.setCell (by have zz0 := Hlt.out; have zz1 := Sz2.out; have zz2 := Hbt.out; have zz3 := Hne.out; have zz4 := Sz3.out; have zz5 := Sz4.out; have zz6 := Sz5.out; have zz7 := Sz6.out; have zz8 := Hfq.out; have zz9 := Sz7.out; first | omega | (simp; done) | (simp; omega)) _).setCell (by have zz0 := Hlt.out; have zz1 := Sz2.out; have zz2 := Hbt.out; have zz3 := Hne.out; have zz4 := Sz3.out; have zz5 := Sz4.out; have zz6 := Sz5.out; have zz7 := Sz6.out; have zz8 := Hfq.out; have zz9 := Sz7.out; first | omega | (simp; done) | (simp; omega)) _).setCell (by have zz0 := Hlt.out; have zz1 := Sz2.out; have zz2 := Hbt.out; have zz3 := Hne.out; have zz4 := Sz3.out; have zz5 := Sz4.out; have zz6 := Sz5.out; have zz7 := Sz6.out; have zz8 := Hfq.out; have zz9 := Sz7.out; first | omega | (simp; done) | (simp; omega)) _
    · obtain ⟨m, hm⟩ : ∃ m : Nat, -s = m := ⟨(-s).toNat, by omega⟩
      have hmb : (m : Int) ≤ 30000 := by omega
      have Hsm : Hid (s = -(m : Int)) := Lib.hid (by omega)
      have hneg : IntKind.i64.wrap (-s) = m := by rw [hm]; exact IntWalk.i64_in _ (by omega)
      have hneg2 : wrap64 (-s) = m := by rw [hm]; exact wrap64_small (by omega) (by omega)
      clear hm
      obtain ⟨⟨hmt0, hmt1, hmt2, hmt3⟩, hmt4⟩ := Mt2.out
      obtain ⟨⟨hmb_0, hmb_1, hmb_2, hmb_3⟩, hmb_4⟩ := Mb2.out
      go_wp2_with fail
      refine (specLeft_any z' S' A' n' c' m w2 (Zw1.out.next BelC2.out) (by have := Hm.out; omega) (by omega)).mono ?_
      rintro e w3 ⟨S2, A2, n2, c2, rfl, hzo, hb⟩
      have Zl3 := Lib.hid hzo
      have HS2 : Hid (S2 = S') := Lib.hid (by rw [hzo.1, sign_pow_mul]; exact HS.out.2.symm)
      have Hn2 : Hid ((n2 : Int) ≤ 3000) := Lib.hid (by have h := shl_len Hn'.out m; have e := hzo.2.1; rw [abs_pow_mul] at e; rw [e] at h; have := Hm.out; omega)
      clear hzo
      have Sz3 := Lib.hid (Below.size hb)
      have BelC3 := Lib.hid (belNext BelC2.out hb)
      have Mt3 := Lib.hid (Mt2.out.next hb)
      have Mb3 := Lib.hid (Mb2.out.next hb)
      clear hb BelC2 Mt2 Mb2 hmt0 hmt1 hmt2 hmt3 hmt4 hmb_0 hmb_1 hmb_2 hmb_3 hmb_4
      obtain ⟨⟨hmt0, hmt1, hmt2, hmt3⟩, hmt4⟩ := Mt3.out
      obtain ⟨⟨hmb_0, hmb_1, hmb_2, hmb_3⟩, hmb_4⟩ := Mb3.out
      go_upto_region 5 with fail
      obtain ⟨w4, hw⟩ : ∃ w4, w4 = (w3.setCell ⟨bb, 0, none⟩ (.int .i64 S2)).setCell ⟨bb, 1, none⟩ (.slice A2 n2 c2) := ⟨_, rfl⟩
      rw [← hw]
      have hst3 : w4 = _root_.Go.Proofs.YtnecnbonnidijaaDoor.st w3 bb S2 A2 n2 c2 := hw
      clear hmt0 hmt1 hmt2 hmt3 hmt4 hmb_0 hmb_1 hmb_2 hmb_3 hmb_4
      have Mb4 : Hid (MB w4 bb S2 A2 n2 c2) := Lib.hid (by rw [hst3]; exact Mb3.out.over)
      have Mt4 := Lib.hid (show MB w4 _ _ _ _ _ by rw [hst3]; exact Mt3.out.st_ Hne.out)
      have Zl4 := Lib.hid (show ZO w4 _ _ _ _ _ _ _ by rw [hst3]; exact Zl3.out.st_ (.inl (by have zz0 := Hlt.out; have zz1 := Sz2.out; have zz2 := Hbt.out; have zz3 := Hne.out; have zz4 := Sz3.out; first | omega | (simp; done) | (simp; omega))))
      have Sz4 : Hid (w3.heap.size ≤ w4.heap.size) := Lib.hid (by rw [hst3, st_size]; exact Nat.le_refl _)
      have BelC4 : Hid (Below w1.heap.size w1 w4) := Lib.hid (by rw [hst3]; exact belSt BelC3.out (by have zz0 := Hlt.out; have zz1 := Sz2.out; have zz2 := Hbt.out; have zz3 := Hne.out; have zz4 := Sz3.out; first | omega | (simp; done) | (simp; omega)))
      clear hw hst3 Mt3 Mb3 Zl3 BelC3
      have Bt4 : Hid (Box w4 bt S A n c) := Lib.hid Mt4.out.box
      have Bb4 : Hid (Box w4 bb S2 A2 n2 c2) := Lib.hid Mb4.out.box
      clear Mt4 Mb4
      obtain ⟨⟨hBt0, hBt1⟩, hBt2⟩ := Bt4.out
      obtain ⟨⟨hBb0, hBb1⟩, hBb2⟩ := Bb4.out
      go_wp2_with fail
      refine (specDivMod_any (z) ((2 : Int) ^ m * z') S S2 A A2 n n2 c c2 w4 (Zv1.out.next BelC4.out) Zl4.out.zv (Int.mul_ne_zero (by have := Int.pow_pos (n := (2 : Int)) (m := m) (by omega); omega) H0.out) (by have := Hm.out; have := Hn2.out; omega) (by have := Hm.out; have := Hn2.out; omega)).mono ?_
      rintro e w5 ⟨Sq, Aq, nq, cq, Sr, Ar, nr, cr, rfl, hzq, hzr, hb⟩
      have Zq5 := Lib.hid (hzq.cast_ (z' := z.sign * z'.sign * ((qN z s / qD z' s : Nat) : Int)) (by rw [Hsm.out]; simp only [HS2.out, HS.out.1, HS.out.2, abs_pow_mul, qN_down, qD_down]))
      have HSr : Hid (Sr = (z.sign * ((qN z s % qD z' s : Nat) : Int)).sign) := Lib.hid (by rw [hzr.1]; rw [Hsm.out]; simp only [HS2.out, HS.out.1, HS.out.2, abs_pow_mul, qN_down, qD_down])
      have Hnq : Hid ((nq : Int) ≤ 3001) := Lib.hid (by have h := qz_len z z' (qN z s) (qD z' s); rw [Zq5.out.2.1] at h; rw [Hsm.out, qN_down, Hn.out] at h; have := Hm.out; omega)
      clear hzq hzr
      have Sz5 := Lib.hid (Below.size hb)
      have BelC5 := Lib.hid (belNext BelC4.out hb)
      have Zl5 := Lib.hid (Zl4.out.next hb)
      have Bt5 := Lib.hid (Bt4.out.next hb)
      have Bb5 := Lib.hid (Bb4.out.next hb)
      clear hb BelC4 Zl4 Bt4 Bb4 hBt0 hBt1 hBt2 hBb0 hBb1 hBb2
      go_upto_region 6 with fail
      obtain ⟨w6, hw⟩ : ∃ w6, w6 = (w5.alloc (.cells #[.int .i64 Sq, .slice Aq nq cq] 28)).alloc (.cells #[.int .i64 Sr, .slice Ar nr cr] 28) := ⟨_, rfl⟩
      rw [← hw]
      have hmq : MB w6 w5.heap.size Sq Aq nq cq := by rw [hw]; exact (MB.newB _ _ _ _ _ _).next (belAlloc1 _ _)
      have hbr : Box w6 (w5.heap.size + 1) Sr Ar nr cr := by
        rw [hw]
        have h := Box.new (w5.alloc (.cells #[.int .i64 Sq, .slice Aq nq cq] 28)) Sr Ar nr cr 28
        have e : (w5.alloc (.cells #[.int .i64 Sq, .slice Aq nq cq] 28)).heap.size = w5.heap.size + 1 := by simp
        rw [e] at h
        exact h
      have hb : Below w5.heap.size w5 w6 := by rw [hw]; exact belNext (belAlloc1 _ _) (belAlloc1 _ _)
      obtain ⟨fq, hfq⟩ : ∃ f, f = w5.heap.size := ⟨_, rfl⟩
      obtain ⟨fr, hfr⟩ : ∃ f, f = w5.heap.size + 1 := ⟨_, rfl⟩
      rw [← hfr]
      rw [← hfq] at hmq ⊢
      rw [← hfr] at hbr
      have Mq6 := Lib.hid hmq
      have Br6 := Lib.hid hbr
      have Hfq : Hid (w5.heap.size ≤ fq ∧ fq < w6.heap.size ∧ fq ≠ fr) := Lib.hid ⟨by omega, hmq.2, by omega⟩
      clear hw hmq hbr hfq hfr
      have Sz6 := Lib.hid (Below.size hb)
      have BelC6 := Lib.hid (belNext BelC5.out hb)
      have Zl6 := Lib.hid (Zl5.out.next hb)
      have Bt6 := Lib.hid (Bt5.out.next hb)
      have Bb6 := Lib.hid (Bb5.out.next hb)
      have Zq6 := Lib.hid (Zq5.out.next hb)
      clear hb BelC5 Zl5 Bt5 Bb5 Zq5
      clear Zl6
      have hwk : IntKind.i64.wrap (-k) = -k := IntWalk.i64_in _ (by omega)
      by_cases hr0 : Sr = 0
      · have Hq1 : Hid (z.sign * z'.sign * ((qN z s / qD z' s : Nat) : Int) = quZ z z' s) := Lib.hid (by
          unfold quZ
          rw [if_neg]
          intro h
          have e := HSr.out
          rw [hr0] at e
          have e2 := Int.sign_eq_zero_iff_zero.1 e.symm
          rcases Int.mul_eq_zero.1 e2 with e3 | e3
          · rw [e3] at h; simp at h
          · omega)
        have hd : (Sr != 0) = false := by rw [hr0]; rfl
        clear hr0
        obtain ⟨⟨hBt0, hBt1⟩, hBt2⟩ := Bt6.out
        obtain ⟨⟨hBb0, hBb1⟩, hBb2⟩ := Bb6.out
        obtain ⟨⟨hBr0, hBr1⟩, hBr2⟩ := Br6.out
        obtain ⟨⟨hmq_0, hmq_1, hmq_2, hmq_3⟩, hmq_4⟩ := Mq6.out
        go_wp2_with fail
        refine (specMakeD_any (quZ z z' s) Sq (-k) Aq nq cq w6 (Zq6.out.zv.cast_ Hq1.out) (by have := Hnq.out; omega) (by omega) (by omega)).mono ?_
        rintro e w7 ⟨S9, A9, n9, c9, rfl, hzo, hb⟩
        obtain ⟨X9, hX9⟩ : ∃ X9, X9 = nx (quZ z z' s) (-k) := ⟨_, rfl⟩
        rw [← hX9]
        have HX9 := Lib.hid hX9
        have Zp7 := Lib.hid hzo
        clear hzo hX9
        have Sz7 := Lib.hid (Below.size hb)
        have BelC7 := Lib.hid (belNext BelC6.out hb)
        have Bt7 := Lib.hid (Bt6.out.next hb)
        have Bb7 := Lib.hid (Bb6.out.next hb)
        have Zq7 := Lib.hid (Zq6.out.next hb)
        have Mq7 := Lib.hid (Mq6.out.next hb)
        have Br7 := Lib.hid (Br6.out.next hb)
        clear hb BelC6 Bt6 Bb6 Zq6 Mq6 Br6 hBt0 hBt1 hBt2 hBb0 hBb1 hBb2 hBr0 hBr1 hBr2 hmq_0 hmq_1 hmq_2 hmq_3 hmq_4
        have RsD7 := Lib.hid (RsD1.out.next BelC7.out)
        have Bel7 := Lib.hid (belNext Bel1.out BelC7.out)
        clear RsD1 Bel1
        obtain ⟨⟨hBt0, hBt1⟩, hBt2⟩ := Bt7.out
        obtain ⟨⟨hBb0, hBb1⟩, hBb2⟩ := Bb7.out
        obtain ⟨⟨hBr0, hBr1⟩, hBr2⟩ := Br7.out
        obtain ⟨⟨hRsD0, hRsD1, hRsD2, hRsD3, hRsD4, hRsD5⟩, hRsD6⟩ := RsD7.out
        go_wp2_with fail
        refine bodyPost_ret (v := .agg #[.int .i64 S9, .slice A9 n9 c9, .int .i64 X9]) (by simp [results, Tryd.results46, go_sem, hRsD0, hRsD1, hRsD2]) rfl ⟨S9, A9, n9, c9, by rw [HX9.out], ?_, ?_⟩
        · exact (((Zp7.out.setCell (.inl (by have zz0 := Hlt.out; have zz1 := Sz2.out; have zz2 := Hbt.out; have zz3 := Hne.out; have zz4 := Sz3.out; have zz5 := Sz4.out; have zz6 := Sz5.out; have zz7 := Sz6.out; have zz8 := Hfq.out; have zz9 := Sz7.out; first | omega | (simp; done) | (simp; omega))) _).setCell (.inl (by have zz0 := Hlt.out; have zz1 := Sz2.out; have zz2 := Hbt.out; have zz3 := Hne.out; have zz4 := Sz3.out; have zz5 := Sz4.out; have zz6 := Sz5.out; have zz7 := Sz6.out; have zz8 := Hfq.out; have zz9 := Sz7.out; first | omega | (simp; done) | (simp; omega))) _).setCell (.inl (by have zz0 := Hlt.out; have zz1 := Sz2.out; have zz2 := Hbt.out; have zz3 := Hne.out; have zz4 := Sz3.out; have zz5 := Sz4.out; have zz6 := Sz5.out; have zz7 := Sz6.out; have zz8 := Hfq.out; have zz9 := Sz7.out; first | omega | (simp; done) | (simp; omega))) _).wide (by have zz0 := Hlt.out; have zz1 := Sz2.out; have zz2 := Hbt.out; have zz3 := Hne.out; have zz4 := Sz3.out; have zz5 := Sz4.out; have zz6 := Sz5.out; have zz7 := Sz6.out; have zz8 := Hfq.out; have zz9 := Sz7.out; first | omega | (simp; done) | (simp; omega)) (by have zz0 := Hlt.out; have zz1 := Sz2.out; have zz2 := Hbt.out; have zz3 := Hne.out; have zz4 := Sz3.out; have zz5 := Sz4.out; have zz6 := Sz5.out; have zz7 := Sz6.out; have zz8 := Hfq.out; have zz9 := Sz7.out; first | omega | (simp; done) | (simp; omega)) (by have zz0 := Hlt.out; have zz1 := Sz2.out; have zz2 := Hbt.out; have zz3 := Hne.out; have zz4 := Sz3.out; have zz5 := Sz4.out; have zz6 := Sz5.out; have zz7 := Sz6.out; have zz8 := Hfq.out; have zz9 := Sz7.out; first | omega | (simp; done) | (simp; omega))
        · exact ((Bel7.out.setCell (by have zz0 := Hlt.out; have zz1 := Sz2.out; have zz2 := Hbt.out; have zz3 := Hne.out; have zz4 := Sz3.out; have zz5 := Sz4.out; have zz6 := Sz5.out; have zz7 := Sz6.out; have zz8 := Hfq.out; have zz9 := Sz7.out; first | omega | (simp; done) | (simp; omega)) _).setCell (by have zz0 := Hlt.out; have zz1 := Sz2.out; have zz2 := Hbt.out; have zz3 := Hne.out; have zz4 := Sz3.out; have zz5 := Sz4.out; have zz6 := Sz5.out; have zz7 := Sz6.out; have zz8 := Hfq.out; have zz9 := Sz7.out; first | omega | (simp; done) | (simp; omega)) _).setCell (by have zz0 := Hlt.out; have zz1 := Sz2.out; have zz2 := Hbt.out; have zz3 := Hne.out; have zz4 := Sz3.out; have zz5 := Sz4.out; have zz6 := Sz5.out; have zz7 := Sz6.out; have zz8 := Hfq.out; have zz9 := Sz7.out; first | omega | (simp; done) | (simp; omega)) _
      · have hd : (Sr != 0) = true := by simp [hr0]
        have hN : Hid (¬ (z.sign = 0 ∨ ((qN z s % qD z' s : Nat) : Int) = 0)) := Lib.hid (fun h => hr0 (by rw [HSr.out]; rcases h with h | h <;> rw [h] <;> simp))
        clear hr0
        have HT1 : Hid (S = z.sign ∧ S2 = z'.sign) := Lib.hid ⟨HS.out.1, HS2.out.trans HS.out.2⟩
        have hbd := sgn_bd z z'
        have Hss : Hid (wrap64 (S * S2) = z.sign * z'.sign) := Lib.hid (by rw [HT1.out.1, HT1.out.2]; exact wrap64_small (by omega) (by omega))
        by_cases ht0 : z.sign * z'.sign < 0
        · have Hq1 : Hid (z.sign * z'.sign * ((qN z s / qD z' s : Nat) : Int) - ((1 : Nat) : Int) = quZ z z' s) := Lib.hid (by
            unfold quZ
            rw [if_pos ⟨ht0, by have h := hN.out; omega⟩, show z.sign * z'.sign = -1 by omega]
            omega)
          have ht1 : decide (wrap64 (S * S2) < 0) = true := decide_eq_true (by rw [Hss.out]; exact ht0)
          clear ht0 hbd
          obtain ⟨⟨hBt0, hBt1⟩, hBt2⟩ := Bt6.out
          obtain ⟨⟨hBb0, hBb1⟩, hBb2⟩ := Bb6.out
          obtain ⟨⟨hBr0, hBr1⟩, hBr2⟩ := Br6.out
          go_wp2_with fail
          clear hBt0 hBt1 hBt2 hBb0 hBb1 hBb2 hBr0 hBr1 hBr2
          refine wp_region_held_drew (S := fun w' => (w'.cell? ⟨fr, 0, none⟩ = some (.int .i64 Sr) ∧ w'.cell? ⟨fr, 1, none⟩ = some (.slice Ar nr cr))) (by kernel_rfl) Br6.out.1 (fun hHeld => ?_)
          obtain ⟨⟨hmq_0, hmq_1, hmq_2, hmq_3⟩, hmq_4⟩ := Mq6.out
          refine wpAnyH_ready (rs := [0, 1]) (by kernel_rfl) (by simp) ?_
          refine AllReadyH.cons rfl (fun K hK => ?_) (AllReadyH.cons rfl (fun K hK => ?_) AllReadyH.nil)
          · go_simp
            refine hK.out _ _ hHeld (fun hHeld => ?_)
            clear hK K
            try simp only [Act.put, List.setIfInBounds_toArray, List.set_cons_zero, List.set_cons_succ, List.getElem_toArray, List.getElem_cons_succ, List.getElem_cons_zero]
            clear hmq_0 hmq_1 hmq_2 hmq_3 hmq_4
            refine wpAnyH_ready (rs := [1]) (by kernel_rfl) (by simp) ?_
            refine AllReadyH.cons rfl (fun K hK => ?_) AllReadyH.nil
            go_simp
            refine (specOne_any w6.drew).mono ?_
            rintro e w7 ⟨S7, A7, n7, c7, rfl, hzo, hn7, hb0⟩
            have hb : Below w6.heap.size w6 w7 := belDrew hb0
            have Zo7 := Lib.hid hzo
            have Hn7 := Lib.hid hn7
            clear hzo hn7
            refine hK.out _ _ (Br6.out.next hb).1 (fun hHeld => ?_)
            clear hK K hb0
            have Sz7 := Lib.hid (Below.size hb)
            have BelC7 := Lib.hid (belNext BelC6.out hb)
            have Bt7 := Lib.hid (Bt6.out.next hb)
            have Bb7 := Lib.hid (Bb6.out.next hb)
            have Zq7 := Lib.hid (Zq6.out.next hb)
            have Mq7 := Lib.hid (Mq6.out.next hb)
            have Br7 := Lib.hid (Br6.out.next hb)
            clear hb BelC6 Bt6 Bb6 Zq6 Mq6 Br6
            try simp only [Act.put, List.setIfInBounds_toArray, List.set_cons_zero, List.set_cons_succ, List.getElem_toArray, List.getElem_cons_succ, List.getElem_cons_zero]
            refine wpAnyH_ready (rs := [2]) (by kernel_rfl) (by simp) ?_
            refine AllReadyH.cons rfl (fun K hK => ?_) AllReadyH.nil
            go_simp
            refine (specSubZ_any (z.sign * z'.sign * ((qN z s / qD z' s : Nat) : Int)) ((1 : Nat) : Int) Sq S7 Aq A7 nq n7 cq c7 w7 Zq7.out.zv Zo7.out.zv (by have := Hnq.out; omega) (by have := Hn7.out; omega)).mono ?_
            rintro e w8 ⟨S8, A8, n8, c8, rfl, hzo, hb0⟩
            have hb : Below w7.heap.size w7 w8 := hb0
            have Zs8 := Lib.hid (hzo.cast_ Hq1.out)
            have Hn8 : Hid ((n8 : Int) ≤ 3005) := Lib.hid (by
              have e := Zq7.out.2.1
              have e2 := hzo.2.1
              have h2 := limbs_len_mono (show (z.sign * z'.sign * ((qN z s / qD z' s : Nat) : Int) - ((1 : Nat) : Int)).natAbs ≤ (z.sign * z'.sign * ((qN z s / qD z' s : Nat) : Int)).natAbs + 1 by omega)
              have h3 := limbs_len_sum (z.sign * z'.sign * ((qN z s / qD z' s : Nat) : Int)).natAbs 1 rfl (show (limbs 1).length = 1 by rw [limbs_1]; rfl)
              have h4 := Hnq.out
              rw [e2] at h2
              rw [e] at h3
              omega)
            clear hzo
            refine hK.out _ _ ((Br7.out.next hb).1) (fun hHeld => ?_)
            clear hK K hb0
            have Sz8 := Lib.hid (Below.size hb)
            have BelC8 := Lib.hid (belNext BelC7.out hb)
            have Bt8 := Lib.hid (Bt7.out.next hb)
            have Bb8 := Lib.hid (Bb7.out.next hb)
            have Zq8 := Lib.hid (Zq7.out.next hb)
            have Mq8 := Lib.hid (Mq7.out.next hb)
            have Br8 := Lib.hid (Br7.out.next hb)
            have Zo8 := Lib.hid (Zo7.out.next hb)
            clear hb BelC7 Bt7 Bb7 Zq7 Mq7 Br7 Zo7
            try simp only [Act.put, List.setIfInBounds_toArray, List.set_cons_zero, List.set_cons_succ, List.getElem_toArray, List.getElem_cons_succ, List.getElem_cons_zero]
            obtain ⟨⟨hmq_0, hmq_1, hmq_2, hmq_3⟩, hmq_4⟩ := Mq8.out
            refine wpAnyH_ready (rs := [3]) (by kernel_rfl) (by simp) ?_
            refine AllReadyH.cons rfl (fun K hK => ?_) AllReadyH.nil
            go_simp
            refine hK.out _ (_root_.Go.Proofs.YtnecnbonnidijaaDoor.st w8 fq S8 A8 n8 c8) (Br8.out.st_ (by have zz0 := Hlt.out; have zz1 := Sz2.out; have zz2 := Hbt.out; have zz3 := Hne.out; have zz4 := Sz3.out; have zz5 := Sz4.out; have zz6 := Sz5.out; have zz7 := Sz6.out; have zz8 := Hfq.out; have zz9 := Sz7.out; have zz10 := Sz8.out; first | omega | (simp; done) | (simp; omega))).1 (fun hHeld => ?_)
            clear hK K hHeld
            try simp only [Act.put, List.setIfInBounds_toArray, List.set_cons_zero, List.set_cons_succ, List.getElem_toArray, List.getElem_cons_succ, List.getElem_cons_zero]
            refine wpAnyH_done (by kernel_rfl) ?_ _
            obtain ⟨w9, hw⟩ : ∃ w9, w9 = _root_.Go.Proofs.YtnecnbonnidijaaDoor.st w8 fq S8 A8 n8 c8 := ⟨_, rfl⟩
            rw [← hw]
            clear hmq_0 hmq_1 hmq_2 hmq_3 hmq_4
            have Mq9 : Hid (MB w9 fq S8 A8 n8 c8) := Lib.hid (by rw [hw]; exact Mq8.out.over)
            have Zs9 := Lib.hid (show ZO w9 _ _ _ _ _ _ _ by rw [hw]; exact Zs8.out.st_ (.inl (by have zz0 := Hlt.out; have zz1 := Sz2.out; have zz2 := Hbt.out; have zz3 := Hne.out; have zz4 := Sz3.out; have zz5 := Sz4.out; have zz6 := Sz5.out; have zz7 := Sz6.out; have zz8 := Hfq.out; have zz9 := Sz7.out; have zz10 := Sz8.out; first | omega | (simp; done) | (simp; omega))))
            have Sz9 : Hid (w8.heap.size ≤ w9.heap.size) := Lib.hid (by rw [hw, st_size]; exact Nat.le_refl _)
            have BelC9 : Hid (Below w1.heap.size w1 w9) := Lib.hid (by rw [hw]; exact belSt BelC8.out (by have zz0 := Hlt.out; have zz1 := Sz2.out; have zz2 := Hbt.out; have zz3 := Hne.out; have zz4 := Sz3.out; have zz5 := Sz4.out; have zz6 := Sz5.out; have zz7 := Sz6.out; have zz8 := Hfq.out; have zz9 := Sz7.out; have zz10 := Sz8.out; first | omega | (simp; done) | (simp; omega)))
            clear hw Mq8 Zs8 BelC8
            obtain ⟨⟨hmq_0, hmq_1, hmq_2, hmq_3⟩, hmq_4⟩ := Mq9.out
            go_wp2_with fail
            refine (specMakeD_any (quZ z z' s) S8 (-k) A8 n8 c8 w9 Zs9.out.zv (by have := Hn8.out; omega) (by omega) (by omega)).mono ?_
            rintro e w10 ⟨S9, A9, n9, c9, rfl, hzo, hb⟩
            obtain ⟨X9, hX9⟩ : ∃ X9, X9 = nx (quZ z z' s) (-k) := ⟨_, rfl⟩
            rw [← hX9]
            have HX9 := Lib.hid hX9
            have Zp10 := Lib.hid hzo
            clear hzo hX9
            have Sz10 := Lib.hid (Below.size hb)
            have BelC10 := Lib.hid (belNext BelC9.out hb)
            have Mq10 := Lib.hid (Mq9.out.next hb)
            have Zs10 := Lib.hid (Zs9.out.next hb)
            clear hb BelC9 Mq9 Zs9 hmq_0 hmq_1 hmq_2 hmq_3 hmq_4
            have RsD10 := Lib.hid (RsD1.out.next BelC10.out)
            have Bel10 := Lib.hid (belNext Bel1.out BelC10.out)
            clear RsD1 Bel1
            obtain ⟨⟨hRsD0, hRsD1, hRsD2, hRsD3, hRsD4, hRsD5⟩, hRsD6⟩ := RsD10.out
            go_wp2_with fail
            refine bodyPost_ret (v := .agg #[.int .i64 S9, .slice A9 n9 c9, .int .i64 X9]) (by simp [results, Tryd.results46, go_sem, hRsD0, hRsD1, hRsD2]) rfl ⟨S9, A9, n9, c9, by rw [HX9.out], ?_, ?_⟩
            · exact (((Zp10.out.setCell (.inl (by have zz0 := Hlt.out; have zz1 := Sz2.out; have zz2 := Hbt.out; have zz3 := Hne.out; have zz4 := Sz3.out; have zz5 := Sz4.out; have zz6 := Sz5.out; have zz7 := Sz6.out; have zz8 := Hfq.out; have zz9 := Sz7.out; have zz10 := Sz8.out; have zz11 := Sz9.out; have zz12 := Sz10.out; first | omega | (simp; done) | (simp; omega))) _).setCell (.inl (by have zz0 := Hlt.out; have zz1 := Sz2.out; have zz2 := Hbt.out; have zz3 := Hne.out; have zz4 := Sz3.out; have zz5 := Sz4.out; have zz6 := Sz5.out; have zz7 := Sz6.out; have zz8 := Hfq.out; have zz9 := Sz7.out; have zz10 := Sz8.out; have zz11 := Sz9.out; have zz12 := Sz10.out; first | omega | (simp; done) | (simp; omega))) _).setCell (.inl (by have zz0 := Hlt.out; have zz1 := Sz2.out; have zz2 := Hbt.out; have zz3 := Hne.out; have zz4 := Sz3.out; have zz5 := Sz4.out; have zz6 := Sz5.out; have zz7 := Sz6.out; have zz8 := Hfq.out; have zz9 := Sz7.out; have zz10 := Sz8.out; have zz11 := Sz9.out; have zz12 := Sz10.out; first | omega | (simp; done) | (simp; omega))) _).wide (by have zz0 := Hlt.out; have zz1 := Sz2.out; have zz2 := Hbt.out; have zz3 := Hne.out; have zz4 := Sz3.out; have zz5 := Sz4.out; have zz6 := Sz5.out; have zz7 := Sz6.out; have zz8 := Hfq.out; have zz9 := Sz7.out; have zz10 := Sz8.out; have zz11 := Sz9.out; have zz12 := Sz10.out; first | omega | (simp; done) | (simp; omega)) (by have zz0 := Hlt.out; have zz1 := Sz2.out; have zz2 := Hbt.out; have zz3 := Hne.out; have zz4 := Sz3.out; have zz5 := Sz4.out; have zz6 := Sz5.out; have zz7 := Sz6.out; have zz8 := Hfq.out; have zz9 := Sz7.out; have zz10 := Sz8.out; have zz11 := Sz9.out; have zz12 := Sz10.out; first | omega | (simp; done) | (simp; omega)) (by have zz0 := Hlt.out; have zz1 := Sz2.out; have zz2 := Hbt.out; have zz3 := Hne.out; have zz4 := Sz3.out; have zz5 := Sz4.out; have zz6 := Sz5.out; have zz7 := Sz6.out; have zz8 := Hfq.out; have zz9 := Sz7.out; have zz10 := Sz8.out; have zz11 := Sz9.out; have zz12 := Sz10.out; first | omega | (simp; done) | (simp; omega))
            · exact ((Bel10.out.setCell (by have zz0 := Hlt.out; have zz1 := Sz2.out; have zz2 := Hbt.out; have zz3 := Hne.out; have zz4 := Sz3.out; have zz5 := Sz4.out; have zz6 := Sz5.out; have zz7 := Sz6.out; have zz8 := Hfq.out; have zz9 := Sz7.out; have zz10 := Sz8.out; have zz11 := Sz9.out; have zz12 := Sz10.out; first | omega | (simp; done) | (simp; omega)) _).setCell (by have zz0 := Hlt.out; have zz1 := Sz2.out; have zz2 := Hbt.out; have zz3 := Hne.out; have zz4 := Sz3.out; have zz5 := Sz4.out; have zz6 := Sz5.out; have zz7 := Sz6.out; have zz8 := Hfq.out; have zz9 := Sz7.out; have zz10 := Sz8.out; have zz11 := Sz9.out; have zz12 := Sz10.out; first | omega | (simp; done) | (simp; omega)) _).setCell (by have zz0 := Hlt.out; have zz1 := Sz2.out; have zz2 := Hbt.out; have zz3 := Hne.out; have zz4 := Sz3.out; have zz5 := Sz4.out; have zz6 := Sz5.out; have zz7 := Sz6.out; have zz8 := Hfq.out; have zz9 := Sz7.out; have zz10 := Sz8.out; have zz11 := Sz9.out; have zz12 := Sz10.out; first | omega | (simp; done) | (simp; omega)) _
          · go_simp
            clear hmq_0 hmq_1 hmq_2 hmq_3 hmq_4
            refine (specOne_any w6.drew).mono ?_
            rintro e w7 ⟨S7, A7, n7, c7, rfl, hzo, hn7, hb0⟩
            have hb : Below w6.heap.size w6 w7 := belDrew hb0
            have Zo7 := Lib.hid hzo
            have Hn7 := Lib.hid hn7
            clear hzo hn7
            refine hK.out _ _ (Br6.out.next hb).1 (fun hHeld => ?_)
            clear hK K hb0
            have Sz7 := Lib.hid (Below.size hb)
            have BelC7 := Lib.hid (belNext BelC6.out hb)
            have Bt7 := Lib.hid (Bt6.out.next hb)
            have Bb7 := Lib.hid (Bb6.out.next hb)
            have Zq7 := Lib.hid (Zq6.out.next hb)
            have Mq7 := Lib.hid (Mq6.out.next hb)
            have Br7 := Lib.hid (Br6.out.next hb)
            clear hb BelC6 Bt6 Bb6 Zq6 Mq6 Br6
            try simp only [Act.put, List.setIfInBounds_toArray, List.set_cons_zero, List.set_cons_succ, List.getElem_toArray, List.getElem_cons_succ, List.getElem_cons_zero]
            obtain ⟨⟨hmq_0, hmq_1, hmq_2, hmq_3⟩, hmq_4⟩ := Mq7.out
            refine wpAnyH_ready (rs := [0]) (by kernel_rfl) (by simp) ?_
            refine AllReadyH.cons rfl (fun K hK => ?_) AllReadyH.nil
            go_simp
            refine hK.out _ _ hHeld (fun hHeld => ?_)
            clear hK K
            try simp only [Act.put, List.setIfInBounds_toArray, List.set_cons_zero, List.set_cons_succ, List.getElem_toArray, List.getElem_cons_succ, List.getElem_cons_zero]
            clear hmq_0 hmq_1 hmq_2 hmq_3 hmq_4
            refine wpAnyH_ready (rs := [2]) (by kernel_rfl) (by simp) ?_
            refine AllReadyH.cons rfl (fun K hK => ?_) AllReadyH.nil
            go_simp
            refine (specSubZ_any (z.sign * z'.sign * ((qN z s / qD z' s : Nat) : Int)) ((1 : Nat) : Int) Sq S7 Aq A7 nq n7 cq c7 w7 Zq7.out.zv Zo7.out.zv (by have := Hnq.out; omega) (by have := Hn7.out; omega)).mono ?_
            rintro e w8 ⟨S8, A8, n8, c8, rfl, hzo, hb0⟩
            have hb : Below w7.heap.size w7 w8 := hb0
            have Zs8 := Lib.hid (hzo.cast_ Hq1.out)
            have Hn8 : Hid ((n8 : Int) ≤ 3005) := Lib.hid (by
              have e := Zq7.out.2.1
              have e2 := hzo.2.1
              have h2 := limbs_len_mono (show (z.sign * z'.sign * ((qN z s / qD z' s : Nat) : Int) - ((1 : Nat) : Int)).natAbs ≤ (z.sign * z'.sign * ((qN z s / qD z' s : Nat) : Int)).natAbs + 1 by omega)
              have h3 := limbs_len_sum (z.sign * z'.sign * ((qN z s / qD z' s : Nat) : Int)).natAbs 1 rfl (show (limbs 1).length = 1 by rw [limbs_1]; rfl)
              have h4 := Hnq.out
              rw [e2] at h2
              rw [e] at h3
              omega)
            clear hzo
            refine hK.out _ _ ((Br7.out.next hb).1) (fun hHeld => ?_)
            clear hK K hb0
            have Sz8 := Lib.hid (Below.size hb)
            have BelC8 := Lib.hid (belNext BelC7.out hb)
            have Bt8 := Lib.hid (Bt7.out.next hb)
            have Bb8 := Lib.hid (Bb7.out.next hb)
            have Zq8 := Lib.hid (Zq7.out.next hb)
            have Mq8 := Lib.hid (Mq7.out.next hb)
            have Br8 := Lib.hid (Br7.out.next hb)
            have Zo8 := Lib.hid (Zo7.out.next hb)
            clear hb BelC7 Bt7 Bb7 Zq7 Mq7 Br7 Zo7
            try simp only [Act.put, List.setIfInBounds_toArray, List.set_cons_zero, List.set_cons_succ, List.getElem_toArray, List.getElem_cons_succ, List.getElem_cons_zero]
            obtain ⟨⟨hmq_0, hmq_1, hmq_2, hmq_3⟩, hmq_4⟩ := Mq8.out
            refine wpAnyH_ready (rs := [3]) (by kernel_rfl) (by simp) ?_
            refine AllReadyH.cons rfl (fun K hK => ?_) AllReadyH.nil
            go_simp
            refine hK.out _ (_root_.Go.Proofs.YtnecnbonnidijaaDoor.st w8 fq S8 A8 n8 c8) (Br8.out.st_ (by have zz0 := Hlt.out; have zz1 := Sz2.out; have zz2 := Hbt.out; have zz3 := Hne.out; have zz4 := Sz3.out; have zz5 := Sz4.out; have zz6 := Sz5.out; have zz7 := Sz6.out; have zz8 := Hfq.out; have zz9 := Sz7.out; have zz10 := Sz8.out; first | omega | (simp; done) | (simp; omega))).1 (fun hHeld => ?_)
            clear hK K hHeld
            try simp only [Act.put, List.setIfInBounds_toArray, List.set_cons_zero, List.set_cons_succ, List.getElem_toArray, List.getElem_cons_succ, List.getElem_cons_zero]
            refine wpAnyH_done (by kernel_rfl) ?_ _
            obtain ⟨w9, hw⟩ : ∃ w9, w9 = _root_.Go.Proofs.YtnecnbonnidijaaDoor.st w8 fq S8 A8 n8 c8 := ⟨_, rfl⟩
            rw [← hw]
            clear hmq_0 hmq_1 hmq_2 hmq_3 hmq_4
            have Mq9 : Hid (MB w9 fq S8 A8 n8 c8) := Lib.hid (by rw [hw]; exact Mq8.out.over)
            have Zs9 := Lib.hid (show ZO w9 _ _ _ _ _ _ _ by rw [hw]; exact Zs8.out.st_ (.inl (by have zz0 := Hlt.out; have zz1 := Sz2.out; have zz2 := Hbt.out; have zz3 := Hne.out; have zz4 := Sz3.out; have zz5 := Sz4.out; have zz6 := Sz5.out; have zz7 := Sz6.out; have zz8 := Hfq.out; have zz9 := Sz7.out; have zz10 := Sz8.out; first | omega | (simp; done) | (simp; omega))))
            have Sz9 : Hid (w8.heap.size ≤ w9.heap.size) := Lib.hid (by rw [hw, st_size]; exact Nat.le_refl _)
            have BelC9 : Hid (Below w1.heap.size w1 w9) := Lib.hid (by rw [hw]; exact belSt BelC8.out (by have zz0 := Hlt.out; have zz1 := Sz2.out; have zz2 := Hbt.out; have zz3 := Hne.out; have zz4 := Sz3.out; have zz5 := Sz4.out; have zz6 := Sz5.out; have zz7 := Sz6.out; have zz8 := Hfq.out; have zz9 := Sz7.out; have zz10 := Sz8.out; first | omega | (simp; done) | (simp; omega)))
            clear hw Mq8 Zs8 BelC8
            obtain ⟨⟨hmq_0, hmq_1, hmq_2, hmq_3⟩, hmq_4⟩ := Mq9.out
            go_wp2_with fail
            refine (specMakeD_any (quZ z z' s) S8 (-k) A8 n8 c8 w9 Zs9.out.zv (by have := Hn8.out; omega) (by omega) (by omega)).mono ?_
            rintro e w10 ⟨S9, A9, n9, c9, rfl, hzo, hb⟩
            obtain ⟨X9, hX9⟩ : ∃ X9, X9 = nx (quZ z z' s) (-k) := ⟨_, rfl⟩
            rw [← hX9]
            have HX9 := Lib.hid hX9
            have Zp10 := Lib.hid hzo
            clear hzo hX9
            have Sz10 := Lib.hid (Below.size hb)
            have BelC10 := Lib.hid (belNext BelC9.out hb)
            have Mq10 := Lib.hid (Mq9.out.next hb)
            have Zs10 := Lib.hid (Zs9.out.next hb)
            clear hb BelC9 Mq9 Zs9 hmq_0 hmq_1 hmq_2 hmq_3 hmq_4
            have RsD10 := Lib.hid (RsD1.out.next BelC10.out)
            have Bel10 := Lib.hid (belNext Bel1.out BelC10.out)
            clear RsD1 Bel1
            obtain ⟨⟨hRsD0, hRsD1, hRsD2, hRsD3, hRsD4, hRsD5⟩, hRsD6⟩ := RsD10.out
            go_wp2_with fail
            refine bodyPost_ret (v := .agg #[.int .i64 S9, .slice A9 n9 c9, .int .i64 X9]) (by simp [results, Tryd.results46, go_sem, hRsD0, hRsD1, hRsD2]) rfl ⟨S9, A9, n9, c9, by rw [HX9.out], ?_, ?_⟩
            · exact (((Zp10.out.setCell (.inl (by have zz0 := Hlt.out; have zz1 := Sz2.out; have zz2 := Hbt.out; have zz3 := Hne.out; have zz4 := Sz3.out; have zz5 := Sz4.out; have zz6 := Sz5.out; have zz7 := Sz6.out; have zz8 := Hfq.out; have zz9 := Sz7.out; have zz10 := Sz8.out; have zz11 := Sz9.out; have zz12 := Sz10.out; first | omega | (simp; done) | (simp; omega))) _).setCell (.inl (by have zz0 := Hlt.out; have zz1 := Sz2.out; have zz2 := Hbt.out; have zz3 := Hne.out; have zz4 := Sz3.out; have zz5 := Sz4.out; have zz6 := Sz5.out; have zz7 := Sz6.out; have zz8 := Hfq.out; have zz9 := Sz7.out; have zz10 := Sz8.out; have zz11 := Sz9.out; have zz12 := Sz10.out; first | omega | (simp; done) | (simp; omega))) _).setCell (.inl (by have zz0 := Hlt.out; have zz1 := Sz2.out; have zz2 := Hbt.out; have zz3 := Hne.out; have zz4 := Sz3.out; have zz5 := Sz4.out; have zz6 := Sz5.out; have zz7 := Sz6.out; have zz8 := Hfq.out; have zz9 := Sz7.out; have zz10 := Sz8.out; have zz11 := Sz9.out; have zz12 := Sz10.out; first | omega | (simp; done) | (simp; omega))) _).wide (by have zz0 := Hlt.out; have zz1 := Sz2.out; have zz2 := Hbt.out; have zz3 := Hne.out; have zz4 := Sz3.out; have zz5 := Sz4.out; have zz6 := Sz5.out; have zz7 := Sz6.out; have zz8 := Hfq.out; have zz9 := Sz7.out; have zz10 := Sz8.out; have zz11 := Sz9.out; have zz12 := Sz10.out; first | omega | (simp; done) | (simp; omega)) (by have zz0 := Hlt.out; have zz1 := Sz2.out; have zz2 := Hbt.out; have zz3 := Hne.out; have zz4 := Sz3.out; have zz5 := Sz4.out; have zz6 := Sz5.out; have zz7 := Sz6.out; have zz8 := Hfq.out; have zz9 := Sz7.out; have zz10 := Sz8.out; have zz11 := Sz9.out; have zz12 := Sz10.out; first | omega | (simp; done) | (simp; omega)) (by have zz0 := Hlt.out; have zz1 := Sz2.out; have zz2 := Hbt.out; have zz3 := Hne.out; have zz4 := Sz3.out; have zz5 := Sz4.out; have zz6 := Sz5.out; have zz7 := Sz6.out; have zz8 := Hfq.out; have zz9 := Sz7.out; have zz10 := Sz8.out; have zz11 := Sz9.out; have zz12 := Sz10.out; first | omega | (simp; done) | (simp; omega))
            · exact ((Bel10.out.setCell (by have zz0 := Hlt.out; have zz1 := Sz2.out; have zz2 := Hbt.out; have zz3 := Hne.out; have zz4 := Sz3.out; have zz5 := Sz4.out; have zz6 := Sz5.out; have zz7 := Sz6.out; have zz8 := Hfq.out; have zz9 := Sz7.out; have zz10 := Sz8.out; have zz11 := Sz9.out; have zz12 := Sz10.out; first | omega | (simp; done) | (simp; omega)) _).setCell (by have zz0 := Hlt.out; have zz1 := Sz2.out; have zz2 := Hbt.out; have zz3 := Hne.out; have zz4 := Sz3.out; have zz5 := Sz4.out; have zz6 := Sz5.out; have zz7 := Sz6.out; have zz8 := Hfq.out; have zz9 := Sz7.out; have zz10 := Sz8.out; have zz11 := Sz9.out; have zz12 := Sz10.out; first | omega | (simp; done) | (simp; omega)) _).setCell (by have zz0 := Hlt.out; have zz1 := Sz2.out; have zz2 := Hbt.out; have zz3 := Hne.out; have zz4 := Sz3.out; have zz5 := Sz4.out; have zz6 := Sz5.out; have zz7 := Sz6.out; have zz8 := Hfq.out; have zz9 := Sz7.out; have zz10 := Sz8.out; have zz11 := Sz9.out; have zz12 := Sz10.out; first | omega | (simp; done) | (simp; omega)) _
        · have Hq1 : Hid (z.sign * z'.sign * ((qN z s / qD z' s : Nat) : Int) = quZ z z' s) := Lib.hid (by
            unfold quZ
            rw [if_neg (fun h => ht0 h.1)])
          have ht1 : decide (wrap64 (S * S2) < 0) = false := decide_eq_false (by rw [Hss.out]; exact ht0)
          clear ht0 hbd
          obtain ⟨⟨hBt0, hBt1⟩, hBt2⟩ := Bt6.out
          obtain ⟨⟨hBb0, hBb1⟩, hBb2⟩ := Bb6.out
          obtain ⟨⟨hBr0, hBr1⟩, hBr2⟩ := Br6.out
          obtain ⟨⟨hmq_0, hmq_1, hmq_2, hmq_3⟩, hmq_4⟩ := Mq6.out
          go_wp2_with fail
          refine (specMakeD_any (quZ z z' s) Sq (-k) Aq nq cq w6 (Zq6.out.zv.cast_ Hq1.out) (by have := Hnq.out; omega) (by omega) (by omega)).mono ?_
          rintro e w7 ⟨S9, A9, n9, c9, rfl, hzo, hb⟩
          obtain ⟨X9, hX9⟩ : ∃ X9, X9 = nx (quZ z z' s) (-k) := ⟨_, rfl⟩
          rw [← hX9]
          have HX9 := Lib.hid hX9
          have Zp7 := Lib.hid hzo
          clear hzo hX9
          have Sz7 := Lib.hid (Below.size hb)
          have BelC7 := Lib.hid (belNext BelC6.out hb)
          have Bt7 := Lib.hid (Bt6.out.next hb)
          have Bb7 := Lib.hid (Bb6.out.next hb)
          have Zq7 := Lib.hid (Zq6.out.next hb)
          have Mq7 := Lib.hid (Mq6.out.next hb)
          have Br7 := Lib.hid (Br6.out.next hb)
          clear hb BelC6 Bt6 Bb6 Zq6 Mq6 Br6 hBt0 hBt1 hBt2 hBb0 hBb1 hBb2 hBr0 hBr1 hBr2 hmq_0 hmq_1 hmq_2 hmq_3 hmq_4
          have RsD7 := Lib.hid (RsD1.out.next BelC7.out)
          have Bel7 := Lib.hid (belNext Bel1.out BelC7.out)
          clear RsD1 Bel1
          obtain ⟨⟨hBt0, hBt1⟩, hBt2⟩ := Bt7.out
          obtain ⟨⟨hBb0, hBb1⟩, hBb2⟩ := Bb7.out
          obtain ⟨⟨hBr0, hBr1⟩, hBr2⟩ := Br7.out
          obtain ⟨⟨hRsD0, hRsD1, hRsD2, hRsD3, hRsD4, hRsD5⟩, hRsD6⟩ := RsD7.out
          go_wp2_with fail
          refine bodyPost_ret (v := .agg #[.int .i64 S9, .slice A9 n9 c9, .int .i64 X9]) (by simp [results, Tryd.results46, go_sem, hRsD0, hRsD1, hRsD2]) rfl ⟨S9, A9, n9, c9, by rw [HX9.out], ?_, ?_⟩
          · exact (((Zp7.out.setCell (.inl (by have zz0 := Hlt.out; have zz1 := Sz2.out; have zz2 := Hbt.out; have zz3 := Hne.out; have zz4 := Sz3.out; have zz5 := Sz4.out; have zz6 := Sz5.out; have zz7 := Sz6.out; have zz8 := Hfq.out; have zz9 := Sz7.out; first | omega | (simp; done) | (simp; omega))) _).setCell (.inl (by have zz0 := Hlt.out; have zz1 := Sz2.out; have zz2 := Hbt.out; have zz3 := Hne.out; have zz4 := Sz3.out; have zz5 := Sz4.out; have zz6 := Sz5.out; have zz7 := Sz6.out; have zz8 := Hfq.out; have zz9 := Sz7.out; first | omega | (simp; done) | (simp; omega))) _).setCell (.inl (by have zz0 := Hlt.out; have zz1 := Sz2.out; have zz2 := Hbt.out; have zz3 := Hne.out; have zz4 := Sz3.out; have zz5 := Sz4.out; have zz6 := Sz5.out; have zz7 := Sz6.out; have zz8 := Hfq.out; have zz9 := Sz7.out; first | omega | (simp; done) | (simp; omega))) _).wide (by have zz0 := Hlt.out; have zz1 := Sz2.out; have zz2 := Hbt.out; have zz3 := Hne.out; have zz4 := Sz3.out; have zz5 := Sz4.out; have zz6 := Sz5.out; have zz7 := Sz6.out; have zz8 := Hfq.out; have zz9 := Sz7.out; first | omega | (simp; done) | (simp; omega)) (by have zz0 := Hlt.out; have zz1 := Sz2.out; have zz2 := Hbt.out; have zz3 := Hne.out; have zz4 := Sz3.out; have zz5 := Sz4.out; have zz6 := Sz5.out; have zz7 := Sz6.out; have zz8 := Hfq.out; have zz9 := Sz7.out; first | omega | (simp; done) | (simp; omega)) (by have zz0 := Hlt.out; have zz1 := Sz2.out; have zz2 := Hbt.out; have zz3 := Hne.out; have zz4 := Sz3.out; have zz5 := Sz4.out; have zz6 := Sz5.out; have zz7 := Sz6.out; have zz8 := Hfq.out; have zz9 := Sz7.out; first | omega | (simp; done) | (simp; omega))
          · exact ((Bel7.out.setCell (by have zz0 := Hlt.out; have zz1 := Sz2.out; have zz2 := Hbt.out; have zz3 := Hne.out; have zz4 := Sz3.out; have zz5 := Sz4.out; have zz6 := Sz5.out; have zz7 := Sz6.out; have zz8 := Hfq.out; have zz9 := Sz7.out; first | omega | (simp; done) | (simp; omega)) _).setCell (by have zz0 := Hlt.out; have zz1 := Sz2.out; have zz2 := Hbt.out; have zz3 := Hne.out; have zz4 := Sz3.out; have zz5 := Sz4.out; have zz6 := Sz5.out; have zz7 := Sz6.out; have zz8 := Hfq.out; have zz9 := Sz7.out; first | omega | (simp; done) | (simp; omega)) _).setCell (by have zz0 := Hlt.out; have zz1 := Sz2.out; have zz2 := Hbt.out; have zz3 := Hne.out; have zz4 := Sz3.out; have zz5 := Sz4.out; have zz6 := Sz5.out; have zz7 := Sz6.out; have zz8 := Hfq.out; have zz9 := Sz7.out; first | omega | (simp; done) | (simp; omega)) _

end Go.Proofs.YtnecnbonnidijaaDoor
/- QuotientBelow, of the program. -/
namespace Go.Proofs.YtnecnbonnidijaaDoor
set_option maxRecDepth 100000
open Go.RowKit
set_option linter.unusedSimpArgs false
set_option linter.unusedVariables false

/-- the arguments of a quotient are in their ranges -/
def qbC (S : Int) (xs : List Int) (E S' : Int) (xs' : List Int) (E' : Int) : Prop := S' ≠ 0 ∧ (blen (magW S xs) : Int) + E ≤ 500 ∧ -500 < (blen (magW S' xs') : Int) + E'
noncomputable instance (S : Int) (xs : List Int) (E S' : Int) (xs' : List Int) (E' : Int) : Decidable (qbC S xs E S' xs' E') := by unfold qbC; infer_instance
noncomputable def qbQ (S : Int) (xs : List Int) (E S' : Int) (xs' : List Int) (E' k : Int) : Int := quZ (S * magW S xs) (S' * magW S' xs') (E - E' + k)
noncomputable def qbZ (S : Int) (xs : List Int) (E S' : Int) (xs' : List Int) (E' k : Int) : Int := if bD S xs E S' xs' E' = true then if 0 ≤ k ∧ k ≤ 500 then if qbC S xs E S' xs' E' then fdZ (qbQ S xs E S' xs' E' k) (-k) else 0 else 0 else 0
noncomputable def qbX (S : Int) (xs : List Int) (E S' : Int) (xs' : List Int) (E' k : Int) : Int := if bD S xs E S' xs' E' = true then if 0 ≤ k ∧ k ≤ 500 then if qbC S xs E S' xs' E' then fdX (qbQ S xs E S' xs' E' k) (-k) else 0 else 0 else 0
noncomputable def qbE (S : Int) (xs : List Int) (E S' : Int) (xs' : List Int) (E' k : Int) : Int := if bD S xs E S' xs' E' = true then if 0 ≤ k ∧ k ≤ 500 then if qbC S xs E S' xs' E' then fdE (qbQ S xs E S' xs' E' k) (-k) else 5 else 2 else 1
theorem qb_yes {S E S' E' k z z' : Int} {xs xs' : List Int} (h : bD S xs E S' xs' E' = true) (hk : 0 ≤ k ∧ k ≤ 500) (hc : qbC S xs E S' xs' E') (hz : isZ z S xs) (hz' : isZ z' S' xs') : qbZ S xs E S' xs' E' k = fdZ (quZ z z' (E - E' + k)) (-k) ∧ qbX S xs E S' xs' E' k = fdX (quZ z z' (E - E' + k)) (-k) ∧ qbE S xs E S' xs' E' k = fdE (quZ z z' (E - E' + k)) (-k) := by
  unfold qbZ qbX qbE qbQ; rw [if_pos h, if_pos h, if_pos h, if_pos hk, if_pos hk, if_pos hk, if_pos hc, if_pos hc, if_pos hc, val_isZ hz, val_isZ hz']; exact ⟨rfl, rfl, rfl⟩
theorem qb_state {S E S' E' k : Int} {xs xs' : List Int} (h : bD S xs E S' xs' E' = true) (hk : 0 ≤ k ∧ k ≤ 500) (hc : ¬ qbC S xs E S' xs' E') : qbZ S xs E S' xs' E' k = 0 ∧ qbX S xs E S' xs' E' k = 0 ∧ qbE S xs E S' xs' E' k = 5 := by
  unfold qbZ qbX qbE; rw [if_pos h, if_pos h, if_pos h, if_pos hk, if_pos hk, if_pos hk, if_neg hc, if_neg hc, if_neg hc]; exact ⟨rfl, rfl, rfl⟩
theorem qb_range {S E S' E' k : Int} {xs xs' : List Int} (h : bD S xs E S' xs' E' = true) (hk : ¬ (0 ≤ k ∧ k ≤ 500)) : qbZ S xs E S' xs' E' k = 0 ∧ qbX S xs E S' xs' E' k = 0 ∧ qbE S xs E S' xs' E' k = 2 := by
  unfold qbZ qbX qbE; rw [if_pos h, if_pos h, if_pos h, if_neg hk, if_neg hk, if_neg hk]; exact ⟨rfl, rfl, rfl⟩
theorem qb_no {S E S' E' k : Int} {xs xs' : List Int} (h : bD S xs E S' xs' E' = false) : qbZ S xs E S' xs' E' k = 0 ∧ qbX S xs E S' xs' E' k = 0 ∧ qbE S xs E S' xs' E' k = 1 := by
  unfold qbZ qbX qbE; rw [h]; exact ⟨rfl, rfl, rfl⟩
theorem qb_len (S : Int) (xs : List Int) (E S' : Int) (xs' : List Int) (E' k : Int) : (limbs (qbZ S xs E S' xs' E' k).natAbs).length ≤ 100 := by
  unfold qbZ
  split
  · split
    · split
      · exact fd_len _ _
      · simp [limbs_zero]
    · simp [limbs_zero]
  · simp [limbs_zero]

set_option maxHeartbeats 8000000 in
theorem implQbW_any (S : Int) (A : Option Addr) (n c : Nat) (E : Int) (xs : List Int) (S' : Int) (A' : Option Addr) (n' c' : Nat) (E' : Int) (xs' : List Int) (k : Int) (w : World) (hr : Rd w w.heap.size A (vi xs)) (hn : xs.length = n) (hm : n ≤ 1048580) (hr' : Rd w w.heap.size A' (vi xs')) (hn' : xs'.length = n') (hm' : n' ≤ 1048580) (hc : n ≤ c) (hc' : n' ≤ c') (hT : TabZ w) :
    Calls Tryd.prog 15 #[.agg #[.int .i64 S, .slice A n c, .int .i64 E], .agg #[.int .i64 S', .slice A' n' c', .int .i64 E'], .int .i64 k] w fun e w' => ∃ Sr Ar nr cr, e = .returned (.tuple #[.agg #[.int .i64 Sr, .slice Ar nr cr, .int .i64 (qbX S xs E S' xs' E' k)], .int .i64 (qbE S xs E S' xs' E' k)]) ∧ ZO w' w.heap.size w'.heap.size (qbZ S xs E S' xs' E' k) Sr Ar nr cr ∧ Below w.heap.size w w' := by
  have hst := store_int Tryd.prog
  have hst2 := store_slice Tryd.prog
  obtain ⟨w1, hw1, hb1, hb2, hb3, hb4⟩ := dbox2_res w S S' A A' n n' c c' E E' 30 30 30
  have RsD1 := Lib.hid hb3
  have Hlt : Hid (w.heap.size + 1 + 1 < w1.heap.size) := Lib.hid hb3.2
  have Hr := Lib.hid hr
  have Hn := Lib.hid hn
  have Hm := Lib.hid hm
  have Hr' := Lib.hid hr'
  have Hn' := Lib.hid hn'
  have Hm' := Lib.hid hm'
  have Hc := Lib.hid hc
  have Hc' := Lib.hid hc'
  have Hw := Lib.hid hw1
  have Bx1 := Lib.hid hb1
  have By1 := Lib.hid hb2
  have Bel1 := Lib.hid hb4
  clear hr hn hr' hn' hc hc' hw1 hb1 hb2 hb4 hb3
  have HT := Lib.hid hT
  clear hT
  go_enter Tryd.func15, Tryd.ntmps15
  go_wp2_with fail
  rw [← Hw.out]
  obtain ⟨⟨hBx0, hBx1, hBx2⟩, hBx3⟩ := Bx1.out
  obtain ⟨⟨hBy0, hBy1, hBy2⟩, hBy3⟩ := By1.out
  obtain ⟨⟨hRsD0, hRsD1, hRsD2, hRsD3, hRsD4, hRsD5⟩, hRsD6⟩ := RsD1.out
  refine (implIsD_any S A n c E xs _ ((Hr.out.below Bel1.out).up Bel1.out.size) Hn.out Hm.out).mono ?_
  rintro e w2 ⟨rfl, hb⟩
  have Sz2 := Lib.hid (Below.size hb)
  have Bel2 := Lib.hid (belNext Bel1.out hb)
  have Bx2 := Lib.hid (Bx1.out.next hb)
  have By2 := Lib.hid (By1.out.next hb)
  have RsD2 := Lib.hid (RsD1.out.next hb)
  clear hb Bel1 Bx1 By1 RsD1 hBx0 hBx1 hBx2 hBx3 hBy0 hBy1 hBy2 hBy3 hRsD0 hRsD1 hRsD2 hRsD3 hRsD4 hRsD5 hRsD6
  obtain ⟨⟨hBx0, hBx1, hBx2⟩, hBx3⟩ := Bx2.out
  obtain ⟨⟨hBy0, hBy1, hBy2⟩, hBy3⟩ := By2.out
  obtain ⟨⟨hRsD0, hRsD1, hRsD2, hRsD3, hRsD4, hRsD5⟩, hRsD6⟩ := RsD2.out
  by_cases hD : isD S xs E = true
  · have HD := Lib.hid hD
    rw [hD]
    clear hD
    go_wp2_with fail
    refine (implIsD_any S' A' n' c' E' xs' _ ((Hr'.out.below Bel2.out).up Bel2.out.size) Hn'.out Hm'.out).mono ?_
    rintro e w3 ⟨rfl, hb⟩
    have Sz3 := Lib.hid (Below.size hb)
    have Bel3 := Lib.hid (belNext Bel2.out hb)
    have Bx3 := Lib.hid (Bx2.out.next hb)
    have By3 := Lib.hid (By2.out.next hb)
    have RsD3 := Lib.hid (RsD2.out.next hb)
    clear hb Bel2 Bx2 By2 RsD2 hBx0 hBx1 hBx2 hBx3 hBy0 hBy1 hBy2 hBy3 hRsD0 hRsD1 hRsD2 hRsD3 hRsD4 hRsD5 hRsD6
    obtain ⟨⟨hBx0, hBx1, hBx2⟩, hBx3⟩ := Bx3.out
    obtain ⟨⟨hBy0, hBy1, hBy2⟩, hBy3⟩ := By3.out
    obtain ⟨⟨hRsD0, hRsD1, hRsD2, hRsD3, hRsD4, hRsD5⟩, hRsD6⟩ := RsD3.out
    by_cases hD' : isD S' xs' E' = true
    · have HD' := Lib.hid hD'
      rw [hD']
      clear hD'
      have HB := Lib.hid (bD_yes HD.out HD'.out)
      obtain ⟨z, hz, hok, hzv, hn100⟩ := isD_data HD.out Hr.out Hn.out Hc.out
      obtain ⟨z', hz', hok', hzv', hn100'⟩ := isD_data HD'.out Hr'.out Hn'.out Hc'.out
      have Hz := Lib.hid hzv
      have Hz' := Lib.hid hzv'
      have Hmg := Lib.hid (And.intro (rt_mag hz) (rt_mag hz'))
      have hE1 := hok.2.1
      have hE2 := hok.2.2.1
      have hE3 := hok'.2.1
      have hE4 := hok'.2.2.1
      have Hiz := Lib.hid (And.intro hz hz')
      have HS2 : Hid (S' = z'.sign) := Lib.hid hzv'.1
      clear hz hz' hzv hzv' hok hok'
      go_wp2_with fail
      by_cases hk : 0 ≤ k ∧ k ≤ 500
      · have Hk := Lib.hid hk
        refine (outside_no k 500 _ hk.1 hk.2).mono ?_
        rintro e w9 ⟨rfl, rfl⟩
        obtain ⟨hk1, hk2⟩ := hk
        by_cases h0 : S' = 0
        · have Hres := Lib.hid (qb_state HB.out Hk.out (fun h => h.1 h0) (k := k))
          have hs0 : (S' == 0) = true := by rw [h0]; rfl
          clear h0
          go_wp2_with fail
          refine bodyPost_ret (v := .tuple #[.agg #[.int .i64 0, .slice none 0 0, .int .i64 0], .int .i64 5]) (by simp [results, Tryd.results15, go_sem, hRsD0, hRsD1, hRsD2]) rfl ⟨0, none, 0, 0, by rw [Hres.out.2.1, Hres.out.2.2], ?_, ?_⟩
          · rw [Hres.out.1]; exact ZO.zero (Nat.le_refl _)
          · exact ((Bel3.out.setCell (by have zz0 := Hlt.out; have zz1 := Sz2.out; have zz2 := Sz3.out; first | omega | (simp; done) | (simp; omega)) _).setCell (by have zz0 := Hlt.out; have zz1 := Sz2.out; have zz2 := Sz3.out; first | omega | (simp; done) | (simp; omega)) _).setCell (by have zz0 := Hlt.out; have zz1 := Sz2.out; have zz2 := Sz3.out; first | omega | (simp; done) | (simp; omega)) _
        · have hs0 : (S' == 0) = false := beq_false_of_ne h0
          have H0 := Lib.hid h0
          have HZ0 : Hid (z' ≠ 0) := Lib.hid (fun e => h0 (by rw [HS2.out, e]; rfl))
          clear h0
          go_wp2_with fail
          refine (implTop_any z S E A n c _ (Hz.out.next Bel3.out) (by omega) (by omega) (by omega)).mono ?_
          rintro e w4 ⟨rfl, hb⟩
          obtain ⟨bl, hbl⟩ : ∃ bl, bl = blen z.natAbs := ⟨_, rfl⟩
          rw [← hbl]
          have Hbl := Lib.hid hbl
          clear hbl
          have Sz4 := Lib.hid (Below.size hb)
          have Bel4 := Lib.hid (belNext Bel3.out hb)
          have Bx4 := Lib.hid (Bx3.out.next hb)
          have By4 := Lib.hid (By3.out.next hb)
          have RsD4 := Lib.hid (RsD3.out.next hb)
          clear hb Bel3 Bx3 By3 RsD3 hBx0 hBx1 hBx2 hBx3 hBy0 hBy1 hBy2 hBy3 hRsD0 hRsD1 hRsD2 hRsD3 hRsD4 hRsD5 hRsD6
          obtain ⟨⟨hBx0, hBx1, hBx2⟩, hBx3⟩ := Bx4.out
          obtain ⟨⟨hBy0, hBy1, hBy2⟩, hBy3⟩ := By4.out
          obtain ⟨⟨hRsD0, hRsD1, hRsD2, hRsD3, hRsD4, hRsD5⟩, hRsD6⟩ := RsD4.out
          by_cases ht : (bl : Int) + E ≤ 500
          · have hk5 : decide (500 < (bl : Int) + E) = false := decide_eq_false (by omega)
            have Ht := Lib.hid ht
            clear ht
            go_wp2_with fail
            refine (implTop_any z' S' E' A' n' c' _ (Hz'.out.next Bel4.out) (by omega) (by omega) (by omega)).mono ?_
            rintro e w5 ⟨rfl, hb⟩
            obtain ⟨bm, hbm⟩ : ∃ bm, bm = blen z'.natAbs := ⟨_, rfl⟩
            rw [← hbm]
            have Hbm := Lib.hid hbm
            clear hbm
            have Sz5 := Lib.hid (Below.size hb)
            have Bel5 := Lib.hid (belNext Bel4.out hb)
            have Bx5 := Lib.hid (Bx4.out.next hb)
            have By5 := Lib.hid (By4.out.next hb)
            have RsD5 := Lib.hid (RsD4.out.next hb)
            clear hb Bel4 Bx4 By4 RsD4 hBx0 hBx1 hBx2 hBx3 hBy0 hBy1 hBy2 hBy3 hRsD0 hRsD1 hRsD2 hRsD3 hRsD4 hRsD5 hRsD6
            obtain ⟨⟨hBx0, hBx1, hBx2⟩, hBx3⟩ := Bx5.out
            obtain ⟨⟨hBy0, hBy1, hBy2⟩, hBy3⟩ := By5.out
            obtain ⟨⟨hRsD0, hRsD1, hRsD2, hRsD3, hRsD4, hRsD5⟩, hRsD6⟩ := RsD5.out
            by_cases ht2 : -500 < (bm : Int) + E'
            · have hk6 : decide ((bm : Int) + E' ≤ -500) = false := decide_eq_false (by omega)
              have Hres := Lib.hid (qb_yes HB.out Hk.out ⟨H0.out, by rw [Hmg.out.1, ← Hbl.out]; exact Ht.out, by rw [Hmg.out.2, ← Hbm.out]; exact ht2⟩ Hiz.out.1 Hiz.out.2)
              clear ht2
              go_wp2_with fail
              refine (implQuo_any z S E z' S' E' k A A' n c n' c' _ (Hz.out.next Bel5.out) (Hz'.out.next Bel5.out) HZ0.out (by omega) (by omega) (by omega) (by omega) (by omega) (by omega) (by omega) (by omega)).mono ?_
              rintro e w6 ⟨S2, A2, n2, c2, rfl, hzo, hb⟩
              obtain ⟨Q, hQ⟩ : ∃ Q, Q = quZ z z' (E - E' + k) := ⟨_, rfl⟩
              rw [← hQ] at hzo Hres
              have Zo6 := Lib.hid hzo
              have Hn2 : Hid ((n2 : Int) ≤ 4000) := Lib.hid (by have h := quZ_len (z := z) (z' := z') (s := E - E' + k) Hz.out.2.1; rw [← hQ, hzo.2.1] at h; omega)
              clear hzo hQ
              have Sz6 := Lib.hid (Below.size hb)
              have Bel6 := Lib.hid (belNext Bel5.out hb)
              have Bx6 := Lib.hid (Bx5.out.next hb)
              have By6 := Lib.hid (By5.out.next hb)
              have RsD6 := Lib.hid (RsD5.out.next hb)
              clear hb Bel5 Bx5 By5 RsD5 hBx0 hBx1 hBx2 hBx3 hBy0 hBy1 hBy2 hBy3 hRsD0 hRsD1 hRsD2 hRsD3 hRsD4 hRsD5 hRsD6
              obtain ⟨⟨hBx0, hBx1, hBx2⟩, hBx3⟩ := Bx6.out
              obtain ⟨⟨hBy0, hBy1, hBy2⟩, hBy3⟩ := By6.out
              obtain ⟨⟨hRsD0, hRsD1, hRsD2, hRsD3, hRsD4, hRsD5⟩, hRsD6⟩ := RsD6.out
              go_wp2_with fail
              refine (implLimD_any Q S2 (-k) A2 n2 c2 _ Zo6.out.zv Hn2.out (by omega) (by omega) (HT.out.next Bel6.out)).mono ?_
              rintro e w7 ⟨S9, A9, n9, c9, rfl, hzo, hb⟩
              have Zp7 := Lib.hid hzo
              clear hzo
              have Sz7 := Lib.hid (Below.size hb)
              have Bel7 := Lib.hid (belNext Bel6.out hb)
              have Bx7 := Lib.hid (Bx6.out.next hb)
              have By7 := Lib.hid (By6.out.next hb)
              have RsD7 := Lib.hid (RsD6.out.next hb)
              clear hb Bel6 Bx6 By6 RsD6 hBx0 hBx1 hBx2 hBx3 hBy0 hBy1 hBy2 hBy3 hRsD0 hRsD1 hRsD2 hRsD3 hRsD4 hRsD5 hRsD6
              obtain ⟨⟨hBx0, hBx1, hBx2⟩, hBx3⟩ := Bx7.out
              obtain ⟨⟨hBy0, hBy1, hBy2⟩, hBy3⟩ := By7.out
              obtain ⟨⟨hRsD0, hRsD1, hRsD2, hRsD3, hRsD4, hRsD5⟩, hRsD6⟩ := RsD7.out
              go_wp2_with fail
              refine bodyPost_ret (v := .tuple #[.agg #[.int .i64 S9, .slice A9 n9 c9, .int .i64 (fdX Q (-k))], .int .i64 (fdE Q (-k))]) (by simp [results, Tryd.results15, go_sem, hRsD0, hRsD1, hRsD2]) rfl ⟨S9, A9, n9, c9, by rw [Hres.out.2.1, Hres.out.2.2], ?_, ?_⟩
              · rw [Hres.out.1]; exact (((Zp7.out.setCell (.inl (by have zz0 := Hlt.out; have zz1 := Sz2.out; have zz2 := Sz3.out; have zz3 := Sz4.out; have zz4 := Sz5.out; have zz5 := Sz6.out; have zz6 := Sz7.out; first | omega | (simp; done) | (simp; omega))) _).setCell (.inl (by have zz0 := Hlt.out; have zz1 := Sz2.out; have zz2 := Sz3.out; have zz3 := Sz4.out; have zz4 := Sz5.out; have zz5 := Sz6.out; have zz6 := Sz7.out; first | omega | (simp; done) | (simp; omega))) _).setCell (.inl (by have zz0 := Hlt.out; have zz1 := Sz2.out; have zz2 := Sz3.out; have zz3 := Sz4.out; have zz4 := Sz5.out; have zz5 := Sz6.out; have zz6 := Sz7.out; first | omega | (simp; done) | (simp; omega))) _).wide (by have zz0 := Hlt.out; have zz1 := Sz2.out; have zz2 := Sz3.out; have zz3 := Sz4.out; have zz4 := Sz5.out; have zz5 := Sz6.out; have zz6 := Sz7.out; first | omega | (simp; done) | (simp; omega)) (by have zz0 := Hlt.out; have zz1 := Sz2.out; have zz2 := Sz3.out; have zz3 := Sz4.out; have zz4 := Sz5.out; have zz5 := Sz6.out; have zz6 := Sz7.out; first | omega | (simp; done) | (simp; omega)) (by have zz0 := Hlt.out; have zz1 := Sz2.out; have zz2 := Sz3.out; have zz3 := Sz4.out; have zz4 := Sz5.out; have zz5 := Sz6.out; have zz6 := Sz7.out; first | omega | (simp; done) | (simp; omega))
              · exact ((Bel7.out.setCell (by have zz0 := Hlt.out; have zz1 := Sz2.out; have zz2 := Sz3.out; have zz3 := Sz4.out; have zz4 := Sz5.out; have zz5 := Sz6.out; have zz6 := Sz7.out; first | omega | (simp; done) | (simp; omega)) _).setCell (by have zz0 := Hlt.out; have zz1 := Sz2.out; have zz2 := Sz3.out; have zz3 := Sz4.out; have zz4 := Sz5.out; have zz5 := Sz6.out; have zz6 := Sz7.out; first | omega | (simp; done) | (simp; omega)) _).setCell (by have zz0 := Hlt.out; have zz1 := Sz2.out; have zz2 := Sz3.out; have zz3 := Sz4.out; have zz4 := Sz5.out; have zz5 := Sz6.out; have zz6 := Sz7.out; first | omega | (simp; done) | (simp; omega)) _
            · have hk6 : decide ((bm : Int) + E' ≤ -500) = true := decide_eq_true (by omega)
              have Hres := Lib.hid (qb_state HB.out Hk.out (fun h => ht2 (by have h3 := h.2.2; rw [Hmg.out.2, ← Hbm.out] at h3; exact h3)) (k := k))
              clear ht2
              go_wp2_with fail
              refine bodyPost_ret (v := .tuple #[.agg #[.int .i64 0, .slice none 0 0, .int .i64 0], .int .i64 5]) (by simp [results, Tryd.results15, go_sem, hRsD0, hRsD1, hRsD2]) rfl ⟨0, none, 0, 0, by rw [Hres.out.2.1, Hres.out.2.2], ?_, ?_⟩
              · rw [Hres.out.1]; exact ZO.zero (Nat.le_refl _)
              · exact ((Bel5.out.setCell (by have zz0 := Hlt.out; have zz1 := Sz2.out; have zz2 := Sz3.out; have zz3 := Sz4.out; have zz4 := Sz5.out; first | omega | (simp; done) | (simp; omega)) _).setCell (by have zz0 := Hlt.out; have zz1 := Sz2.out; have zz2 := Sz3.out; have zz3 := Sz4.out; have zz4 := Sz5.out; first | omega | (simp; done) | (simp; omega)) _).setCell (by have zz0 := Hlt.out; have zz1 := Sz2.out; have zz2 := Sz3.out; have zz3 := Sz4.out; have zz4 := Sz5.out; first | omega | (simp; done) | (simp; omega)) _
          · have hk5 : decide (500 < (bl : Int) + E) = true := decide_eq_true (by omega)
            have Hres := Lib.hid (qb_state HB.out Hk.out (fun h => ht (by have h3 := h.2.1; rw [Hmg.out.1, ← Hbl.out] at h3; exact h3)) (k := k))
            clear ht
            go_wp2_with fail
            refine bodyPost_ret (v := .tuple #[.agg #[.int .i64 0, .slice none 0 0, .int .i64 0], .int .i64 5]) (by simp [results, Tryd.results15, go_sem, hRsD0, hRsD1, hRsD2]) rfl ⟨0, none, 0, 0, by rw [Hres.out.2.1, Hres.out.2.2], ?_, ?_⟩
            · rw [Hres.out.1]; exact ZO.zero (Nat.le_refl _)
            · exact ((Bel4.out.setCell (by have zz0 := Hlt.out; have zz1 := Sz2.out; have zz2 := Sz3.out; have zz3 := Sz4.out; first | omega | (simp; done) | (simp; omega)) _).setCell (by have zz0 := Hlt.out; have zz1 := Sz2.out; have zz2 := Sz3.out; have zz3 := Sz4.out; first | omega | (simp; done) | (simp; omega)) _).setCell (by have zz0 := Hlt.out; have zz1 := Sz2.out; have zz2 := Sz3.out; have zz3 := Sz4.out; first | omega | (simp; done) | (simp; omega)) _
      · have Hres := Lib.hid (qb_range HB.out hk)
        refine (outside_yes k 500 _ (by omega)).mono ?_
        rintro e w9 ⟨rfl, rfl⟩
        clear hk
        go_wp2_with fail
        refine bodyPost_ret (v := .tuple #[.agg #[.int .i64 0, .slice none 0 0, .int .i64 0], .int .i64 2]) (by simp [results, Tryd.results15, go_sem, hRsD0, hRsD1, hRsD2]) rfl ⟨0, none, 0, 0, by rw [Hres.out.2.1, Hres.out.2.2], ?_, ?_⟩
        · rw [Hres.out.1]; exact ZO.zero (Nat.le_refl _)
        · exact ((Bel3.out.setCell (by have zz0 := Hlt.out; have zz1 := Sz2.out; have zz2 := Sz3.out; first | omega | (simp; done) | (simp; omega)) _).setCell (by have zz0 := Hlt.out; have zz1 := Sz2.out; have zz2 := Sz3.out; first | omega | (simp; done) | (simp; omega)) _).setCell (by have zz0 := Hlt.out; have zz1 := Sz2.out; have zz2 := Sz3.out; first | omega | (simp; done) | (simp; omega)) _
    · have hD2 : isD S' xs' E' = false := by simpa using hD'
      have Hres := Lib.hid (qb_no (bD_no2 HD.out hD2) (k := k))
      rw [hD2]
      clear hD' hD2
      go_wp2_with fail
      refine bodyPost_ret (v := .tuple #[.agg #[.int .i64 0, .slice none 0 0, .int .i64 0], .int .i64 1]) (by simp [results, Tryd.results15, go_sem, hRsD0, hRsD1, hRsD2]) rfl ⟨0, none, 0, 0, by rw [Hres.out.2.1, Hres.out.2.2], ?_, ?_⟩
      · rw [Hres.out.1]; exact ZO.zero (Nat.le_refl _)
      · exact ((Bel3.out.setCell (by have zz0 := Hlt.out; have zz1 := Sz2.out; have zz2 := Sz3.out; first | omega | (simp; done) | (simp; omega)) _).setCell (by have zz0 := Hlt.out; have zz1 := Sz2.out; have zz2 := Sz3.out; first | omega | (simp; done) | (simp; omega)) _).setCell (by have zz0 := Hlt.out; have zz1 := Sz2.out; have zz2 := Sz3.out; first | omega | (simp; done) | (simp; omega)) _
  · have hD2 : isD S xs E = false := by simpa using hD
    have Hres := Lib.hid (qb_no (bD_no (S' := S') (xs' := xs') (E' := E') hD2) (k := k))
    rw [hD2]
    clear hD hD2
    go_wp2_with fail
    refine bodyPost_ret (v := .tuple #[.agg #[.int .i64 0, .slice none 0 0, .int .i64 0], .int .i64 1]) (by simp [results, Tryd.results15, go_sem, hRsD0, hRsD1, hRsD2]) rfl ⟨0, none, 0, 0, by rw [Hres.out.2.1, Hres.out.2.2], ?_, ?_⟩
    · rw [Hres.out.1]; exact ZO.zero (Nat.le_refl _)
    · exact ((Bel2.out.setCell (by have zz0 := Hlt.out; have zz1 := Sz2.out; first | omega | (simp; done) | (simp; omega)) _).setCell (by have zz0 := Hlt.out; have zz1 := Sz2.out; first | omega | (simp; done) | (simp; omega)) _).setCell (by have zz0 := Hlt.out; have zz1 := Sz2.out; first | omega | (simp; done) | (simp; omega)) _

end Go.Proofs.YtnecnbonnidijaaDoor
/- QuotientBelow, of the model. -/
namespace Go.Proofs.YtnecnbonnidijaaDoor
set_option maxRecDepth 100000
open Go.RowKit
set_option linter.unusedSimpArgs false
set_option linter.unusedVariables false

set_option maxHeartbeats 16000000 in
theorem specQbW_any (S : Int) (A : Option Addr) (n c : Nat) (E : Int) (xs : List Int) (S' : Int) (A' : Option Addr) (n' c' : Nat) (E' : Int) (xs' : List Int) (k : Int) (w : World) (hr : Rd w w.heap.size A (vi xs)) (hn : xs.length = n) (hm : n ≤ 1048580) (hr' : Rd w w.heap.size A' (vi xs')) (hn' : xs'.length = n') (hm' : n' ≤ 1048580) (hc : n ≤ c) (hc' : n' ≤ c') :
    Calls Tryd.prog 13 #[.agg #[.int .i64 S, .slice A n c, .int .i64 E], .agg #[.int .i64 S', .slice A' n' c', .int .i64 E'], .int .i64 k] w fun e w' => ∃ Sr Ar nr cr, e = .returned (.tuple #[.agg #[.int .i64 Sr, .slice Ar nr cr, .int .i64 (qbX S xs E S' xs' E' k)], .int .i64 (qbE S xs E S' xs' E' k)]) ∧ ZO w' w.heap.size w'.heap.size (qbZ S xs E S' xs' E' k) Sr Ar nr cr ∧ Below w.heap.size w w' := by
  have hst := store_int Tryd.prog
  have hst2 := store_slice Tryd.prog
  obtain ⟨w1, hw1, hb1, hb2, hb3, hb4⟩ := dbox2_res w S S' A A' n n' c c' E E' 30 30 30
  have RsD1 := Lib.hid hb3
  have Hlt : Hid (w.heap.size + 1 + 1 < w1.heap.size) := Lib.hid hb3.2
  have Hr := Lib.hid hr
  have Hn := Lib.hid hn
  have Hm := Lib.hid hm
  have Hr' := Lib.hid hr'
  have Hn' := Lib.hid hn'
  have Hm' := Lib.hid hm'
  have Hc := Lib.hid hc
  have Hc' := Lib.hid hc'
  have Hw := Lib.hid hw1
  have Bx1 := Lib.hid hb1
  have By1 := Lib.hid hb2
  have Bel1 := Lib.hid hb4
  clear hr hn hr' hn' hc hc' hw1 hb1 hb2 hb4 hb3
  go_enter Tryd.func13, Tryd.ntmps13
  go_wp2_with fail
  rw [← Hw.out]
  obtain ⟨⟨hBx0, hBx1, hBx2⟩, hBx3⟩ := Bx1.out
  obtain ⟨⟨hBy0, hBy1, hBy2⟩, hBy3⟩ := By1.out
  obtain ⟨⟨hRsD0, hRsD1, hRsD2, hRsD3, hRsD4, hRsD5⟩, hRsD6⟩ := RsD1.out
  refine (specBothD_any S A n c E xs S' A' n' c' E' xs' _ ((Hr.out.below Bel1.out).up Bel1.out.size) Hn.out Hm.out ((Hr'.out.below Bel1.out).up Bel1.out.size) Hn'.out Hm'.out).mono ?_
  rintro e w2 ⟨rfl, hb⟩
  have Sz2 := Lib.hid (Below.size hb)
  have Bel2 := Lib.hid (belNext Bel1.out hb)
  have Bx2 := Lib.hid (Bx1.out.next hb)
  have By2 := Lib.hid (By1.out.next hb)
  have RsD2 := Lib.hid (RsD1.out.next hb)
  clear hb Bel1 Bx1 By1 RsD1 hBx0 hBx1 hBx2 hBx3 hBy0 hBy1 hBy2 hBy3 hRsD0 hRsD1 hRsD2 hRsD3 hRsD4 hRsD5 hRsD6
  obtain ⟨⟨hBx0, hBx1, hBx2⟩, hBx3⟩ := Bx2.out
  obtain ⟨⟨hBy0, hBy1, hBy2⟩, hBy3⟩ := By2.out
  obtain ⟨⟨hRsD0, hRsD1, hRsD2, hRsD3, hRsD4, hRsD5⟩, hRsD6⟩ := RsD2.out
  by_cases hB : bD S xs E S' xs' E' = true
  · have hbe : bDE S xs E S' xs' E' = 0 := by unfold bDE; rw [if_pos hB]
    rw [hbe]
    clear hbe
    have HB := Lib.hid hB
    have HD : Hid (isD S xs E = true) := Lib.hid (by unfold bD at hB; simp at hB; exact hB.1)
    have HD' : Hid (isD S' xs' E' = true) := Lib.hid (by unfold bD at hB; simp at hB; exact hB.2)
    clear hB
    obtain ⟨z, hz, hok, hzv, hn100⟩ := isD_data HD.out Hr.out Hn.out Hc.out
    obtain ⟨z', hz', hok', hzv', hn100'⟩ := isD_data HD'.out Hr'.out Hn'.out Hc'.out
    have Hz := Lib.hid hzv
    have Hz' := Lib.hid hzv'
    have Hmg := Lib.hid (And.intro (rt_mag hz) (rt_mag hz'))
    have hE1 := hok.2.1
    have hE2 := hok.2.2.1
    have hE3 := hok'.2.1
    have hE4 := hok'.2.2.1
    have Hiz := Lib.hid (And.intro hz hz')
    have HS2 : Hid (S' = z'.sign) := Lib.hid hzv'.1
    clear hz hz' hzv hzv' hok hok'
    by_cases hk : 0 ≤ k ∧ k ≤ 500
    · have Hk := Lib.hid hk
      have hdk : decide (0 ≤ k ∧ k ≤ 500) = true := decide_eq_true hk
      obtain ⟨hk1, hk2⟩ := hk
      go_wp2_with fail
      refine (in_any k 0 500 _).mono ?_
      rintro e w9 ⟨rfl, rfl⟩
      rw [hdk]
      clear hdk
      by_cases h0 : S' = 0
      · have Hres := Lib.hid (qb_state HB.out Hk.out (fun h => h.1 h0) (k := k))
        have hs0 : (S' == 0) = true := by rw [h0]; rfl
        clear h0
        go_wp2_with fail
        go_quiet (fail)
        go_wp2_with fail
        refine bodyPost_ret (v := .tuple #[.agg #[.int .i64 0, .slice none 0 0, .int .i64 0], .int .i64 5]) (by simp [results, Tryd.results13, go_sem, hRsD0, hRsD1, hRsD2]) rfl ⟨0, none, 0, 0, by rw [Hres.out.2.1, Hres.out.2.2], ?_, ?_⟩
        · rw [Hres.out.1]; exact ZO.zero (Nat.le_refl _)
        · exact (((below_drewN Bel2.out _).setCell (by have zz0 := Hlt.out; have zz1 := Sz2.out; first | omega | (simp; done) | (simp; omega)) _).setCell (by have zz0 := Hlt.out; have zz1 := Sz2.out; first | omega | (simp; done) | (simp; omega)) _).setCell (by have zz0 := Hlt.out; have zz1 := Sz2.out; first | omega | (simp; done) | (simp; omega)) _
      · have hs0 : (S' == 0) = false := beq_false_of_ne h0
        have H0 := Lib.hid h0
        have HZ0 : Hid (z' ≠ 0) := Lib.hid (fun e => h0 (by rw [HS2.out, e]; rfl))
        clear h0
        obtain ⟨bl, hbl⟩ : ∃ bl, bl = blen z.natAbs := ⟨_, rfl⟩
        have Hbl := Lib.hid hbl
        have hbl1 : (bl : Int) ≤ 2400 := by have h := blen_lt.2 (by have h := limbs_len_le.1 (show (limbs z.natAbs).length ≤ n by rw [Hz.out.2.1]; exact Nat.le_refl _); rw [Bs_pow] at h; exact h); omega
        clear hbl
        obtain ⟨bm, hbm⟩ : ∃ bm, bm = blen z'.natAbs := ⟨_, rfl⟩
        have Hbm := Lib.hid hbm
        have hbm1 : (bm : Int) ≤ 2400 := by have h := blen_lt.2 (by have h := limbs_len_le.1 (show (limbs z'.natAbs).length ≤ n' by rw [Hz'.out.2.1]; exact Nat.le_refl _); rw [Bs_pow] at h; exact h); omega
        clear hbm
        have Hwr : Hid (IntKind.i64.wrap ((bl : Int) + E) = bl + E) := Lib.hid (IntWalk.i64_in _ (by omega))
        have Hwr2 : Hid (IntKind.i64.wrap ((bm : Int) + E') = bm + E') := Lib.hid (IntWalk.i64_in _ (by omega))
        have H100 : Hid ((n : Int) ≤ 100000) := Lib.hid (by omega)
        have H100' : Hid ((n' : Int) ≤ 100000) := Lib.hid (by omega)
        by_cases ht : (bl : Int) + E ≤ 500
        · have hk5 : decide (500 < (bl : Int) + E) = false := decide_eq_false (by omega)
          have Ht := Lib.hid ht
          clear ht
          by_cases ht2 : -500 < (bm : Int) + E'
          · have hk6 : decide ((bm : Int) + E' ≤ -500) = false := decide_eq_false (by omega)
            have Hres := Lib.hid (qb_yes HB.out Hk.out ⟨H0.out, by rw [Hmg.out.1, ← Hbl.out]; exact Ht.out, by rw [Hmg.out.2, ← Hbm.out]; exact ht2⟩ Hiz.out.1 Hiz.out.2)
            clear ht2
            go_wp2_with fail
            refine wp_region_held_drew (S := fun w' => (w'.cell? ⟨w.heap.size, 0, none⟩ = some (.int .i64 S) ∧ w'.cell? ⟨w.heap.size, 1, none⟩ = some (.slice A n c) ∧ w'.cell? ⟨w.heap.size, 2, none⟩ = some (.int .i64 E)) ∧ (w'.cell? ⟨w.heap.size + 1, 0, none⟩ = some (.int .i64 S') ∧ w'.cell? ⟨w.heap.size + 1, 1, none⟩ = some (.slice A' n' c') ∧ w'.cell? ⟨w.heap.size + 1, 2, none⟩ = some (.int .i64 E'))) (by kernel_rfl) ⟨Bx2.out.1, By2.out.1⟩ (fun hHeld => ?_)
            clear hBx0 hBx1 hBx2 hBx3 hBy0 hBy1 hBy2 hBy3 hRsD0 hRsD1 hRsD2 hRsD3 hRsD4 hRsD5 hRsD6
            refine wpAnyH_take (i := 0) (v := ?_) rfl (by kernel_rfl) (by kernel_rfl) (by kernel_rfl) (fun _ _ _ h => h) (Or.inl ⟨by rfl, ?_⟩) (by assumption) ?_
            rotate_left
            · (intro w hSw; (try dsimp only at hSw); go_simp; (try with_reducible rfl))
            try simp only [Act.put, List.setIfInBounds_toArray, List.set_cons_zero, List.set_cons_succ, List.getElem_toArray, List.getElem_cons_succ, List.getElem_cons_zero]
            refine wpAnyH_take (i := 1) (v := ?_) rfl (by kernel_rfl) (by kernel_rfl) (by kernel_rfl) (fun _ _ _ h => h) (Or.inl ⟨by rfl, ?_⟩) (by assumption) ?_
            rotate_left
            · (intro w hSw; (try dsimp only at hSw); go_simp; (try with_reducible rfl))
            try simp only [Act.put, List.setIfInBounds_toArray, List.set_cons_zero, List.set_cons_succ, List.getElem_toArray, List.getElem_cons_succ, List.getElem_cons_zero]
            refine wpAnyH_take (i := 2) (v := ?_) rfl (by kernel_rfl) (by kernel_rfl) (by kernel_rfl) (fun _ _ _ h => h) (Or.inl ⟨by rfl, ?_⟩) (by assumption) ?_
            rotate_left
            · (intro w hSw; (try dsimp only at hSw); go_simp; (try with_reducible rfl))
            try simp only [Act.put, List.setIfInBounds_toArray, List.set_cons_zero, List.set_cons_succ, List.getElem_toArray, List.getElem_cons_succ, List.getElem_cons_zero]
            refine wpAnyH_take (i := 3) (v := ?_) rfl (by kernel_rfl) (by kernel_rfl) (by kernel_rfl) (fun _ _ _ h => h) (Or.inl ⟨by rfl, ?_⟩) (by assumption) ?_
            rotate_left
            · (intro w hSw; (try dsimp only at hSw); go_simp; (try with_reducible rfl))
            try simp only [Act.put, List.setIfInBounds_toArray, List.set_cons_zero, List.set_cons_succ, List.getElem_toArray, List.getElem_cons_succ, List.getElem_cons_zero]
            refine wpAnyH_take (i := 4) (v := ?_) rfl (by kernel_rfl) (by kernel_rfl) (by kernel_rfl) (fun _ _ _ h => h) (Or.inl ⟨by rfl, ?_⟩) (by assumption) ?_
            rotate_left
            · (intro w hSw; (try dsimp only at hSw); go_simp; (try with_reducible rfl))
            try simp only [Act.put, List.setIfInBounds_toArray, List.set_cons_zero, List.set_cons_succ, List.getElem_toArray, List.getElem_cons_succ, List.getElem_cons_zero]
            refine wpAnyH_take (i := 5) (v := ?_) rfl (by kernel_rfl) (by kernel_rfl) (by kernel_rfl) (fun _ _ _ h => h) (Or.inl ⟨by rfl, ?_⟩) (by assumption) ?_
            rotate_left
            · (intro w hSw; (try dsimp only at hSw); go_simp; (try with_reducible rfl))
            try simp only [Act.put, List.setIfInBounds_toArray, List.set_cons_zero, List.set_cons_succ, List.getElem_toArray, List.getElem_cons_succ, List.getElem_cons_zero]
            refine wpAnyH_take (i := 6) (v := ?_) rfl (by kernel_rfl) (by kernel_rfl) (by kernel_rfl) (fun _ _ _ h => h) (Or.inl ⟨by rfl, ?_⟩) (by assumption) ?_
            rotate_left
            · (intro w hSw; (try dsimp only at hSw); go_simp; (try with_reducible rfl))
            try simp only [Act.put, List.setIfInBounds_toArray, List.set_cons_zero, List.set_cons_succ, List.getElem_toArray, List.getElem_cons_succ, List.getElem_cons_zero]
            refine wpAnyH_take (i := 8) (v := ?_) rfl (by kernel_rfl) (by kernel_rfl) (by kernel_rfl) (fun _ _ _ h => h) (Or.inl ⟨by rfl, ?_⟩) (by assumption) ?_
            rotate_left
            · (intro w hSw; (try dsimp only at hSw); go_simp; (try with_reducible rfl))
            try simp only [Act.put, List.setIfInBounds_toArray, List.set_cons_zero, List.set_cons_succ, List.getElem_toArray, List.getElem_cons_succ, List.getElem_cons_zero]
            refine wpAnyH_take (i := 9) (v := ?_) rfl (by kernel_rfl) (by kernel_rfl) (by kernel_rfl) (fun _ _ _ h => h) (Or.inl ⟨by rfl, ?_⟩) (by assumption) ?_
            rotate_left
            · (intro w hSw; (try dsimp only at hSw); go_simp; (try with_reducible rfl))
            try simp only [Act.put, List.setIfInBounds_toArray, List.set_cons_zero, List.set_cons_succ, List.getElem_toArray, List.getElem_cons_succ, List.getElem_cons_zero]
            refine wpAnyH_ready (rs := [7]) (by kernel_rfl) (by simp) ?_
            refine AllReadyH.cons rfl (fun K hK => ?_) AllReadyH.nil
            go_simp
            refine (specLen_any S z.natAbs A n c _ w2.drew (Hz.out.next Bel2.out).rd (Nat.le_refl _) Hz.out.2.1 H100.out).mono ?_
            rintro e w3 ⟨rfl, hb0⟩
            have hb : Below w2.heap.size w2 w3 := belDrew hb0
            rw [← Hbl.out]
            refine hK.out _ _ ⟨(Bx2.out.next hb).1, (By2.out.next hb).1⟩ (fun hHeld => ?_)
            clear hK K hb0
            have Sz3 := Lib.hid (Below.size hb)
            have Bel3 := Lib.hid (belNext Bel2.out hb)
            have Bx3 := Lib.hid (Bx2.out.next hb)
            have By3 := Lib.hid (By2.out.next hb)
            have RsD3 := Lib.hid (RsD2.out.next hb)
            clear hb Bel2 Bx2 By2 RsD2
            try simp only [Act.put, List.setIfInBounds_toArray, List.set_cons_zero, List.set_cons_succ, List.getElem_toArray, List.getElem_cons_succ, List.getElem_cons_zero]
            have hwr := Hwr.out
            refine wpAnyH_take (i := 10) (v := ?_) rfl (by kernel_rfl) (by kernel_rfl) (by kernel_rfl) (fun _ _ _ h => h) (Or.inl ⟨by rfl, ?_⟩) (by assumption) ?_
            rotate_left
            · (intro w hSw; (try dsimp only at hSw); go_simp; (try with_reducible rfl))
            try simp only [Act.put, List.setIfInBounds_toArray, List.set_cons_zero, List.set_cons_succ, List.getElem_toArray, List.getElem_cons_succ, List.getElem_cons_zero]
            refine wpAnyH_take (i := 11) (v := ?_) rfl (by kernel_rfl) (by kernel_rfl) (by kernel_rfl) (fun _ _ _ h => h) (Or.inl ⟨by rfl, ?_⟩) (by assumption) ?_
            rotate_left
            · (intro w hSw; (try dsimp only at hSw); go_simp; (try with_reducible rfl))
            try simp only [Act.put, List.setIfInBounds_toArray, List.set_cons_zero, List.set_cons_succ, List.getElem_toArray, List.getElem_cons_succ, List.getElem_cons_zero]
            refine wpAnyH_take (i := 12) (v := ?_) rfl (by kernel_rfl) (by kernel_rfl) (by kernel_rfl) (fun _ _ _ h => h) (Or.inl ⟨by rfl, ?_⟩) (by assumption) ?_
            rotate_left
            · (intro w hSw; (try dsimp only at hSw); go_simp; (try with_reducible rfl))
            try simp only [Act.put, List.setIfInBounds_toArray, List.set_cons_zero, List.set_cons_succ, List.getElem_toArray, List.getElem_cons_succ, List.getElem_cons_zero]
            refine wpAnyH_take (i := 13) (v := ?_) rfl (by kernel_rfl) (by kernel_rfl) (by kernel_rfl) (fun _ _ _ h => h) (Or.inl ⟨by rfl, ?_⟩) (by assumption) ?_
            rotate_left
            · (intro w hSw; (try dsimp only at hSw); go_simp; (try with_reducible rfl))
            try simp only [Act.put, List.setIfInBounds_toArray, List.set_cons_zero, List.set_cons_succ, List.getElem_toArray, List.getElem_cons_succ, List.getElem_cons_zero]
            refine wpAnyH_take (i := 14) (v := ?_) rfl (by kernel_rfl) (by kernel_rfl) (by kernel_rfl) (fun _ _ _ h => h) (Or.inl ⟨by rfl, ?_⟩) (by assumption) ?_
            rotate_left
            · (intro w hSw; (try dsimp only at hSw); go_simp; (try with_reducible rfl))
            try simp only [Act.put, List.setIfInBounds_toArray, List.set_cons_zero, List.set_cons_succ, List.getElem_toArray, List.getElem_cons_succ, List.getElem_cons_zero]
            refine wpAnyH_take (i := 15) (v := ?_) rfl (by kernel_rfl) (by kernel_rfl) (by kernel_rfl) (fun _ _ _ h => h) (Or.inl ⟨by rfl, ?_⟩) (by assumption) ?_
            rotate_left
            · (intro w hSw; (try dsimp only at hSw); go_simp; (try with_reducible rfl))
            try simp only [Act.put, List.setIfInBounds_toArray, List.set_cons_zero, List.set_cons_succ, List.getElem_toArray, List.getElem_cons_succ, List.getElem_cons_zero]
            refine wpAnyH_take (i := 17) (v := ?_) rfl (by kernel_rfl) (by kernel_rfl) (by kernel_rfl) (fun _ _ _ h => h) (Or.inl ⟨by rfl, ?_⟩) (by assumption) ?_
            rotate_left
            · (intro w hSw; (try dsimp only at hSw); go_simp; (try with_reducible rfl))
            try simp only [Act.put, List.setIfInBounds_toArray, List.set_cons_zero, List.set_cons_succ, List.getElem_toArray, List.getElem_cons_succ, List.getElem_cons_zero]
            refine wpAnyH_take (i := 18) (v := ?_) rfl (by kernel_rfl) (by kernel_rfl) (by kernel_rfl) (fun _ _ _ h => h) (Or.inl ⟨by rfl, ?_⟩) (by assumption) ?_
            rotate_left
            · (intro w hSw; (try dsimp only at hSw); go_simp; (try with_reducible rfl))
            try simp only [Act.put, List.setIfInBounds_toArray, List.set_cons_zero, List.set_cons_succ, List.getElem_toArray, List.getElem_cons_succ, List.getElem_cons_zero]
            refine wpAnyH_ready (rs := [16]) (by kernel_rfl) (by simp) ?_
            refine AllReadyH.cons rfl (fun K hK => ?_) AllReadyH.nil
            go_simp
            refine (specLen_any S' z'.natAbs A' n' c' _ w3 (Hz'.out.next Bel3.out).rd (Nat.le_refl _) Hz'.out.2.1 H100'.out).mono ?_
            rintro e w4 ⟨rfl, hb0⟩
            have hb : Below w3.heap.size w3 w4 := hb0
            rw [← Hbm.out]
            refine hK.out _ _ ⟨(Bx3.out.next hb).1, (By3.out.next hb).1⟩ (fun hHeld => ?_)
            clear hK K hb0
            have Sz4 := Lib.hid (Below.size hb)
            have Bel4 := Lib.hid (belNext Bel3.out hb)
            have Bx4 := Lib.hid (Bx3.out.next hb)
            have By4 := Lib.hid (By3.out.next hb)
            have RsD4 := Lib.hid (RsD3.out.next hb)
            clear hb Bel3 Bx3 By3 RsD3
            try simp only [Act.put, List.setIfInBounds_toArray, List.set_cons_zero, List.set_cons_succ, List.getElem_toArray, List.getElem_cons_succ, List.getElem_cons_zero]
            have hwr2 := Hwr2.out
            refine wpAnyH_take (i := 19) (v := ?_) rfl (by kernel_rfl) (by kernel_rfl) (by kernel_rfl) (fun _ _ _ h => h) (Or.inl ⟨by rfl, ?_⟩) (by assumption) ?_
            rotate_left
            · (intro w hSw; (try dsimp only at hSw); go_simp; (try with_reducible rfl))
            try simp only [Act.put, List.setIfInBounds_toArray, List.set_cons_zero, List.set_cons_succ, List.getElem_toArray, List.getElem_cons_succ, List.getElem_cons_zero]
            refine wpAnyH_take (i := 20) (v := ?_) rfl (by kernel_rfl) (by kernel_rfl) (by kernel_rfl) (fun _ _ _ h => h) (Or.inl ⟨by rfl, ?_⟩) (by assumption) ?_
            rotate_left
            · (intro w hSw; (try dsimp only at hSw); go_simp; (try with_reducible rfl))
            try simp only [Act.put, List.setIfInBounds_toArray, List.set_cons_zero, List.set_cons_succ, List.getElem_toArray, List.getElem_cons_succ, List.getElem_cons_zero]
            refine wpAnyH_take (i := 21) (v := ?_) rfl (by kernel_rfl) (by kernel_rfl) (by kernel_rfl) (fun _ _ _ h => h) (Or.inl ⟨by rfl, ?_⟩) (by assumption) ?_
            rotate_left
            · (intro w hSw; (try dsimp only at hSw); go_simp; (try with_reducible rfl))
            try simp only [Act.put, List.setIfInBounds_toArray, List.set_cons_zero, List.set_cons_succ, List.getElem_toArray, List.getElem_cons_succ, List.getElem_cons_zero]
            refine wpAnyH_ready (rs := [22]) (by kernel_rfl) (by simp) ?_
            refine AllReadyH.cons rfl (fun K hK => ?_) AllReadyH.nil
            go_simp
            refine hK.out _ _ hHeld (fun hHeld => ?_)
            clear hK K
            try simp only [Act.put, List.setIfInBounds_toArray, List.set_cons_zero, List.set_cons_succ, List.getElem_toArray, List.getElem_cons_succ, List.getElem_cons_zero]
            clear hHeld
            refine wpAnyH_done (by kernel_rfl) ?_ _
            obtain ⟨⟨hBx0, hBx1, hBx2⟩, hBx3⟩ := Bx4.out
            obtain ⟨⟨hBy0, hBy1, hBy2⟩, hBy3⟩ := By4.out
            obtain ⟨⟨hRsD0, hRsD1, hRsD2, hRsD3, hRsD4, hRsD5⟩, hRsD6⟩ := RsD4.out
            go_wp2_with fail
            refine (specQuo_any z S E z' S' E' k A A' n c n' c' _ (Hz.out.next Bel4.out) (Hz'.out.next Bel4.out) HZ0.out (by omega) (by omega) (by omega) (by omega) (by omega) (by omega) (by omega) (by omega)).mono ?_
            rintro e w5 ⟨S2, A2, n2, c2, rfl, hzo, hb⟩
            obtain ⟨Q, hQ⟩ : ∃ Q, Q = quZ z z' (E - E' + k) := ⟨_, rfl⟩
            rw [← hQ] at hzo Hres
            rw [← hQ]
            have Zo5 := Lib.hid hzo
            have Hn2 : Hid (n2 ≤ 1048580) := Lib.hid (by have h := quZ_len (z := z) (z' := z') (s := E - E' + k) Hz.out.2.1; have h2 := limbs_len_mono (nz_le Q); rw [← hQ] at h; have e := hzo.2.1; omega)
            obtain ⟨X2, hX2⟩ : ∃ X2, X2 = nx Q (-k) := ⟨_, rfl⟩
            rw [← hX2]
            have HX2 := Lib.hid hX2
            clear hzo hQ hX2
            have Sz5 := Lib.hid (Below.size hb)
            have Bel5 := Lib.hid (belNext Bel4.out hb)
            have Bx5 := Lib.hid (Bx4.out.next hb)
            have By5 := Lib.hid (By4.out.next hb)
            have RsD5 := Lib.hid (RsD4.out.next hb)
            clear hb Bel4 Bx4 By4 RsD4 hBx0 hBx1 hBx2 hBx3 hBy0 hBy1 hBy2 hBy3 hRsD0 hRsD1 hRsD2 hRsD3 hRsD4 hRsD5 hRsD6
            obtain ⟨⟨hBx0, hBx1, hBx2⟩, hBx3⟩ := Bx5.out
            obtain ⟨⟨hBy0, hBy1, hBy2⟩, hBy3⟩ := By5.out
            obtain ⟨⟨hRsD0, hRsD1, hRsD2, hRsD3, hRsD4, hRsD5⟩, hRsD6⟩ := RsD5.out
            go_wp2_with fail
            refine (specFitD_any Q (-k) S2 X2 A2 n2 c2 _ _ _ Zo5.out Hn2.out HX2.out (by have zz0 := Hlt.out; have zz1 := Sz2.out; have zz2 := Sz3.out; have zz3 := Sz4.out; have zz4 := Sz5.out; first | omega | (simp; done) | (simp; omega))).mono ?_
            rintro e w6 ⟨S9, A9, n9, c9, rfl, hzo, hb⟩
            have Zp6 := Lib.hid hzo
            clear hzo
            have Sz6 := Lib.hid (Below.size hb)
            have Bel6 := Lib.hid (belNext Bel5.out hb)
            have Bx6 := Lib.hid (Bx5.out.next hb)
            have By6 := Lib.hid (By5.out.next hb)
            have RsD6 := Lib.hid (RsD5.out.next hb)
            clear hb Bel5 Bx5 By5 RsD5 hBx0 hBx1 hBx2 hBx3 hBy0 hBy1 hBy2 hBy3 hRsD0 hRsD1 hRsD2 hRsD3 hRsD4 hRsD5 hRsD6
            obtain ⟨⟨hBx0, hBx1, hBx2⟩, hBx3⟩ := Bx6.out
            obtain ⟨⟨hBy0, hBy1, hBy2⟩, hBy3⟩ := By6.out
            obtain ⟨⟨hRsD0, hRsD1, hRsD2, hRsD3, hRsD4, hRsD5⟩, hRsD6⟩ := RsD6.out
            go_wp2_with fail
            obtain ⟨⟨r0, r1, r2⟩, _⟩ := (DBox.made (S := S9) (A := A9) (n := n9) (c := c9) (E := (fdX Q (-k))) hRsD6 ⟨_, hRsD0⟩ ⟨_, hRsD1⟩ ⟨_, hRsD2⟩).next (belAlloc1 _ (.cells #[.int .i64 S9, .slice A9 n9 c9, .int .i64 (fdX Q (-k))] 30))
            simp only [st3] at r0 r1 r2
            refine bodyPost_ret (v := .tuple #[.agg #[.int .i64 S9, .slice A9 n9 c9, .int .i64 (fdX Q (-k))], .int .i64 (fdE Q (-k))]) (by simp [results, Tryd.results13, go_sem, r0, r1, r2]) rfl ⟨S9, A9, n9, c9, by rw [Hres.out.2.1, Hres.out.2.2], ?_, ?_⟩
            · rw [Hres.out.1]; exact ((((Zp6.out.setCell (.inl (by have zz0 := Hlt.out; have zz1 := Sz2.out; have zz2 := Sz3.out; have zz3 := Sz4.out; have zz4 := Sz5.out; have zz5 := Sz6.out; first | omega | (simp; done) | (simp; omega))) _).setCell (.inl (by have zz0 := Hlt.out; have zz1 := Sz2.out; have zz2 := Sz3.out; have zz3 := Sz4.out; have zz4 := Sz5.out; have zz5 := Sz6.out; first | omega | (simp; done) | (simp; omega))) _).setCell (.inl (by have zz0 := Hlt.out; have zz1 := Sz2.out; have zz2 := Sz3.out; have zz3 := Sz4.out; have zz4 := Sz5.out; have zz5 := Sz6.out; first | omega | (simp; done) | (simp; omega))) _).alloc _).wide (by have zz0 := Hlt.out; have zz1 := Sz2.out; have zz2 := Sz3.out; have zz3 := Sz4.out; have zz4 := Sz5.out; have zz5 := Sz6.out; first | omega | (simp; done) | (simp; omega)) (by have zz0 := Hlt.out; have zz1 := Sz2.out; have zz2 := Sz3.out; have zz3 := Sz4.out; have zz4 := Sz5.out; have zz5 := Sz6.out; first | omega | (simp; done) | (simp; omega)) (by have zz0 := Hlt.out; have zz1 := Sz2.out; have zz2 := Sz3.out; have zz3 := Sz4.out; have zz4 := Sz5.out; have zz5 := Sz6.out; first | omega | (simp; done) | (simp; omega))
            · exact (((Bel6.out.setCell (by have zz0 := Hlt.out; have zz1 := Sz2.out; have zz2 := Sz3.out; have zz3 := Sz4.out; have zz4 := Sz5.out; have zz5 := Sz6.out; first | omega | (simp; done) | (simp; omega)) _).setCell (by have zz0 := Hlt.out; have zz1 := Sz2.out; have zz2 := Sz3.out; have zz3 := Sz4.out; have zz4 := Sz5.out; have zz5 := Sz6.out; first | omega | (simp; done) | (simp; omega)) _).setCell (by have zz0 := Hlt.out; have zz1 := Sz2.out; have zz2 := Sz3.out; have zz3 := Sz4.out; have zz4 := Sz5.out; have zz5 := Sz6.out; first | omega | (simp; done) | (simp; omega)) _).alloc (by have zz0 := Hlt.out; have zz1 := Sz2.out; have zz2 := Sz3.out; have zz3 := Sz4.out; have zz4 := Sz5.out; have zz5 := Sz6.out; first | omega | (simp; done) | (simp; omega)) _
          · have hk6 : decide ((bm : Int) + E' ≤ -500) = true := decide_eq_true (by omega)
            have Hres := Lib.hid (qb_state HB.out Hk.out (fun h => ht2 (by have h3 := h.2.2; rw [Hmg.out.2, ← Hbm.out] at h3; exact h3)) (k := k))
            clear ht2
            go_wp2_with fail
            refine wp_region_held_drew (S := fun w' => (w'.cell? ⟨w.heap.size, 0, none⟩ = some (.int .i64 S) ∧ w'.cell? ⟨w.heap.size, 1, none⟩ = some (.slice A n c) ∧ w'.cell? ⟨w.heap.size, 2, none⟩ = some (.int .i64 E)) ∧ (w'.cell? ⟨w.heap.size + 1, 0, none⟩ = some (.int .i64 S') ∧ w'.cell? ⟨w.heap.size + 1, 1, none⟩ = some (.slice A' n' c') ∧ w'.cell? ⟨w.heap.size + 1, 2, none⟩ = some (.int .i64 E'))) (by kernel_rfl) ⟨Bx2.out.1, By2.out.1⟩ (fun hHeld => ?_)
            clear hBx0 hBx1 hBx2 hBx3 hBy0 hBy1 hBy2 hBy3 hRsD0 hRsD1 hRsD2 hRsD3 hRsD4 hRsD5 hRsD6
            refine wpAnyH_take (i := 0) (v := ?_) rfl (by kernel_rfl) (by kernel_rfl) (by kernel_rfl) (fun _ _ _ h => h) (Or.inl ⟨by rfl, ?_⟩) (by assumption) ?_
            rotate_left
            · (intro w hSw; (try dsimp only at hSw); go_simp; (try with_reducible rfl))
            try simp only [Act.put, List.setIfInBounds_toArray, List.set_cons_zero, List.set_cons_succ, List.getElem_toArray, List.getElem_cons_succ, List.getElem_cons_zero]
            refine wpAnyH_take (i := 1) (v := ?_) rfl (by kernel_rfl) (by kernel_rfl) (by kernel_rfl) (fun _ _ _ h => h) (Or.inl ⟨by rfl, ?_⟩) (by assumption) ?_
            rotate_left
            · (intro w hSw; (try dsimp only at hSw); go_simp; (try with_reducible rfl))
            try simp only [Act.put, List.setIfInBounds_toArray, List.set_cons_zero, List.set_cons_succ, List.getElem_toArray, List.getElem_cons_succ, List.getElem_cons_zero]
            refine wpAnyH_take (i := 2) (v := ?_) rfl (by kernel_rfl) (by kernel_rfl) (by kernel_rfl) (fun _ _ _ h => h) (Or.inl ⟨by rfl, ?_⟩) (by assumption) ?_
            rotate_left
            · (intro w hSw; (try dsimp only at hSw); go_simp; (try with_reducible rfl))
            try simp only [Act.put, List.setIfInBounds_toArray, List.set_cons_zero, List.set_cons_succ, List.getElem_toArray, List.getElem_cons_succ, List.getElem_cons_zero]
            refine wpAnyH_take (i := 3) (v := ?_) rfl (by kernel_rfl) (by kernel_rfl) (by kernel_rfl) (fun _ _ _ h => h) (Or.inl ⟨by rfl, ?_⟩) (by assumption) ?_
            rotate_left
            · (intro w hSw; (try dsimp only at hSw); go_simp; (try with_reducible rfl))
            try simp only [Act.put, List.setIfInBounds_toArray, List.set_cons_zero, List.set_cons_succ, List.getElem_toArray, List.getElem_cons_succ, List.getElem_cons_zero]
            refine wpAnyH_take (i := 4) (v := ?_) rfl (by kernel_rfl) (by kernel_rfl) (by kernel_rfl) (fun _ _ _ h => h) (Or.inl ⟨by rfl, ?_⟩) (by assumption) ?_
            rotate_left
            · (intro w hSw; (try dsimp only at hSw); go_simp; (try with_reducible rfl))
            try simp only [Act.put, List.setIfInBounds_toArray, List.set_cons_zero, List.set_cons_succ, List.getElem_toArray, List.getElem_cons_succ, List.getElem_cons_zero]
            refine wpAnyH_take (i := 5) (v := ?_) rfl (by kernel_rfl) (by kernel_rfl) (by kernel_rfl) (fun _ _ _ h => h) (Or.inl ⟨by rfl, ?_⟩) (by assumption) ?_
            rotate_left
            · (intro w hSw; (try dsimp only at hSw); go_simp; (try with_reducible rfl))
            try simp only [Act.put, List.setIfInBounds_toArray, List.set_cons_zero, List.set_cons_succ, List.getElem_toArray, List.getElem_cons_succ, List.getElem_cons_zero]
            refine wpAnyH_take (i := 6) (v := ?_) rfl (by kernel_rfl) (by kernel_rfl) (by kernel_rfl) (fun _ _ _ h => h) (Or.inl ⟨by rfl, ?_⟩) (by assumption) ?_
            rotate_left
            · (intro w hSw; (try dsimp only at hSw); go_simp; (try with_reducible rfl))
            try simp only [Act.put, List.setIfInBounds_toArray, List.set_cons_zero, List.set_cons_succ, List.getElem_toArray, List.getElem_cons_succ, List.getElem_cons_zero]
            refine wpAnyH_take (i := 8) (v := ?_) rfl (by kernel_rfl) (by kernel_rfl) (by kernel_rfl) (fun _ _ _ h => h) (Or.inl ⟨by rfl, ?_⟩) (by assumption) ?_
            rotate_left
            · (intro w hSw; (try dsimp only at hSw); go_simp; (try with_reducible rfl))
            try simp only [Act.put, List.setIfInBounds_toArray, List.set_cons_zero, List.set_cons_succ, List.getElem_toArray, List.getElem_cons_succ, List.getElem_cons_zero]
            refine wpAnyH_take (i := 9) (v := ?_) rfl (by kernel_rfl) (by kernel_rfl) (by kernel_rfl) (fun _ _ _ h => h) (Or.inl ⟨by rfl, ?_⟩) (by assumption) ?_
            rotate_left
            · (intro w hSw; (try dsimp only at hSw); go_simp; (try with_reducible rfl))
            try simp only [Act.put, List.setIfInBounds_toArray, List.set_cons_zero, List.set_cons_succ, List.getElem_toArray, List.getElem_cons_succ, List.getElem_cons_zero]
            refine wpAnyH_ready (rs := [7]) (by kernel_rfl) (by simp) ?_
            refine AllReadyH.cons rfl (fun K hK => ?_) AllReadyH.nil
            go_simp
            refine (specLen_any S z.natAbs A n c _ w2.drew (Hz.out.next Bel2.out).rd (Nat.le_refl _) Hz.out.2.1 H100.out).mono ?_
            rintro e w3 ⟨rfl, hb0⟩
            have hb : Below w2.heap.size w2 w3 := belDrew hb0
            rw [← Hbl.out]
            refine hK.out _ _ ⟨(Bx2.out.next hb).1, (By2.out.next hb).1⟩ (fun hHeld => ?_)
            clear hK K hb0
            have Sz3 := Lib.hid (Below.size hb)
            have Bel3 := Lib.hid (belNext Bel2.out hb)
            have Bx3 := Lib.hid (Bx2.out.next hb)
            have By3 := Lib.hid (By2.out.next hb)
            have RsD3 := Lib.hid (RsD2.out.next hb)
            clear hb Bel2 Bx2 By2 RsD2
            try simp only [Act.put, List.setIfInBounds_toArray, List.set_cons_zero, List.set_cons_succ, List.getElem_toArray, List.getElem_cons_succ, List.getElem_cons_zero]
            have hwr := Hwr.out
            refine wpAnyH_take (i := 10) (v := ?_) rfl (by kernel_rfl) (by kernel_rfl) (by kernel_rfl) (fun _ _ _ h => h) (Or.inl ⟨by rfl, ?_⟩) (by assumption) ?_
            rotate_left
            · (intro w hSw; (try dsimp only at hSw); go_simp; (try with_reducible rfl))
            try simp only [Act.put, List.setIfInBounds_toArray, List.set_cons_zero, List.set_cons_succ, List.getElem_toArray, List.getElem_cons_succ, List.getElem_cons_zero]
            refine wpAnyH_take (i := 11) (v := ?_) rfl (by kernel_rfl) (by kernel_rfl) (by kernel_rfl) (fun _ _ _ h => h) (Or.inl ⟨by rfl, ?_⟩) (by assumption) ?_
            rotate_left
            · (intro w hSw; (try dsimp only at hSw); go_simp; (try with_reducible rfl))
            try simp only [Act.put, List.setIfInBounds_toArray, List.set_cons_zero, List.set_cons_succ, List.getElem_toArray, List.getElem_cons_succ, List.getElem_cons_zero]
            refine wpAnyH_take (i := 12) (v := ?_) rfl (by kernel_rfl) (by kernel_rfl) (by kernel_rfl) (fun _ _ _ h => h) (Or.inl ⟨by rfl, ?_⟩) (by assumption) ?_
            rotate_left
            · (intro w hSw; (try dsimp only at hSw); go_simp; (try with_reducible rfl))
            try simp only [Act.put, List.setIfInBounds_toArray, List.set_cons_zero, List.set_cons_succ, List.getElem_toArray, List.getElem_cons_succ, List.getElem_cons_zero]
            refine wpAnyH_take (i := 13) (v := ?_) rfl (by kernel_rfl) (by kernel_rfl) (by kernel_rfl) (fun _ _ _ h => h) (Or.inl ⟨by rfl, ?_⟩) (by assumption) ?_
            rotate_left
            · (intro w hSw; (try dsimp only at hSw); go_simp; (try with_reducible rfl))
            try simp only [Act.put, List.setIfInBounds_toArray, List.set_cons_zero, List.set_cons_succ, List.getElem_toArray, List.getElem_cons_succ, List.getElem_cons_zero]
            refine wpAnyH_take (i := 14) (v := ?_) rfl (by kernel_rfl) (by kernel_rfl) (by kernel_rfl) (fun _ _ _ h => h) (Or.inl ⟨by rfl, ?_⟩) (by assumption) ?_
            rotate_left
            · (intro w hSw; (try dsimp only at hSw); go_simp; (try with_reducible rfl))
            try simp only [Act.put, List.setIfInBounds_toArray, List.set_cons_zero, List.set_cons_succ, List.getElem_toArray, List.getElem_cons_succ, List.getElem_cons_zero]
            refine wpAnyH_take (i := 15) (v := ?_) rfl (by kernel_rfl) (by kernel_rfl) (by kernel_rfl) (fun _ _ _ h => h) (Or.inl ⟨by rfl, ?_⟩) (by assumption) ?_
            rotate_left
            · (intro w hSw; (try dsimp only at hSw); go_simp; (try with_reducible rfl))
            try simp only [Act.put, List.setIfInBounds_toArray, List.set_cons_zero, List.set_cons_succ, List.getElem_toArray, List.getElem_cons_succ, List.getElem_cons_zero]
            refine wpAnyH_take (i := 17) (v := ?_) rfl (by kernel_rfl) (by kernel_rfl) (by kernel_rfl) (fun _ _ _ h => h) (Or.inl ⟨by rfl, ?_⟩) (by assumption) ?_
            rotate_left
            · (intro w hSw; (try dsimp only at hSw); go_simp; (try with_reducible rfl))
            try simp only [Act.put, List.setIfInBounds_toArray, List.set_cons_zero, List.set_cons_succ, List.getElem_toArray, List.getElem_cons_succ, List.getElem_cons_zero]
            refine wpAnyH_take (i := 18) (v := ?_) rfl (by kernel_rfl) (by kernel_rfl) (by kernel_rfl) (fun _ _ _ h => h) (Or.inl ⟨by rfl, ?_⟩) (by assumption) ?_
            rotate_left
            · (intro w hSw; (try dsimp only at hSw); go_simp; (try with_reducible rfl))
            try simp only [Act.put, List.setIfInBounds_toArray, List.set_cons_zero, List.set_cons_succ, List.getElem_toArray, List.getElem_cons_succ, List.getElem_cons_zero]
            refine wpAnyH_ready (rs := [16]) (by kernel_rfl) (by simp) ?_
            refine AllReadyH.cons rfl (fun K hK => ?_) AllReadyH.nil
            go_simp
            refine (specLen_any S' z'.natAbs A' n' c' _ w3 (Hz'.out.next Bel3.out).rd (Nat.le_refl _) Hz'.out.2.1 H100'.out).mono ?_
            rintro e w4 ⟨rfl, hb0⟩
            have hb : Below w3.heap.size w3 w4 := hb0
            rw [← Hbm.out]
            refine hK.out _ _ ⟨(Bx3.out.next hb).1, (By3.out.next hb).1⟩ (fun hHeld => ?_)
            clear hK K hb0
            have Sz4 := Lib.hid (Below.size hb)
            have Bel4 := Lib.hid (belNext Bel3.out hb)
            have Bx4 := Lib.hid (Bx3.out.next hb)
            have By4 := Lib.hid (By3.out.next hb)
            have RsD4 := Lib.hid (RsD3.out.next hb)
            clear hb Bel3 Bx3 By3 RsD3
            try simp only [Act.put, List.setIfInBounds_toArray, List.set_cons_zero, List.set_cons_succ, List.getElem_toArray, List.getElem_cons_succ, List.getElem_cons_zero]
            have hwr2 := Hwr2.out
            refine wpAnyH_take (i := 19) (v := ?_) rfl (by kernel_rfl) (by kernel_rfl) (by kernel_rfl) (fun _ _ _ h => h) (Or.inl ⟨by rfl, ?_⟩) (by assumption) ?_
            rotate_left
            · (intro w hSw; (try dsimp only at hSw); go_simp; (try with_reducible rfl))
            try simp only [Act.put, List.setIfInBounds_toArray, List.set_cons_zero, List.set_cons_succ, List.getElem_toArray, List.getElem_cons_succ, List.getElem_cons_zero]
            refine wpAnyH_take (i := 20) (v := ?_) rfl (by kernel_rfl) (by kernel_rfl) (by kernel_rfl) (fun _ _ _ h => h) (Or.inl ⟨by rfl, ?_⟩) (by assumption) ?_
            rotate_left
            · (intro w hSw; (try dsimp only at hSw); go_simp; (try with_reducible rfl))
            try simp only [Act.put, List.setIfInBounds_toArray, List.set_cons_zero, List.set_cons_succ, List.getElem_toArray, List.getElem_cons_succ, List.getElem_cons_zero]
            refine wpAnyH_take (i := 21) (v := ?_) rfl (by kernel_rfl) (by kernel_rfl) (by kernel_rfl) (fun _ _ _ h => h) (Or.inl ⟨by rfl, ?_⟩) (by assumption) ?_
            rotate_left
            · (intro w hSw; (try dsimp only at hSw); go_simp; (try with_reducible rfl))
            try simp only [Act.put, List.setIfInBounds_toArray, List.set_cons_zero, List.set_cons_succ, List.getElem_toArray, List.getElem_cons_succ, List.getElem_cons_zero]
            refine wpAnyH_ready (rs := [22]) (by kernel_rfl) (by simp) ?_
            refine AllReadyH.cons rfl (fun K hK => ?_) AllReadyH.nil
            go_simp
            refine hK.out _ _ hHeld (fun hHeld => ?_)
            clear hK K
            try simp only [Act.put, List.setIfInBounds_toArray, List.set_cons_zero, List.set_cons_succ, List.getElem_toArray, List.getElem_cons_succ, List.getElem_cons_zero]
            clear hHeld
            refine wpAnyH_done (by kernel_rfl) ?_ _
            obtain ⟨⟨hBx0, hBx1, hBx2⟩, hBx3⟩ := Bx4.out
            obtain ⟨⟨hBy0, hBy1, hBy2⟩, hBy3⟩ := By4.out
            obtain ⟨⟨hRsD0, hRsD1, hRsD2, hRsD3, hRsD4, hRsD5⟩, hRsD6⟩ := RsD4.out
            go_wp2_with fail
            refine bodyPost_ret (v := .tuple #[.agg #[.int .i64 0, .slice none 0 0, .int .i64 0], .int .i64 5]) (by simp [results, Tryd.results13, go_sem, hRsD0, hRsD1, hRsD2]) rfl ⟨0, none, 0, 0, by rw [Hres.out.2.1, Hres.out.2.2], ?_, ?_⟩
            · rw [Hres.out.1]; exact ZO.zero (Nat.le_refl _)
            · exact ((Bel4.out.setCell (by have zz0 := Hlt.out; have zz1 := Sz2.out; have zz2 := Sz3.out; have zz3 := Sz4.out; first | omega | (simp; done) | (simp; omega)) _).setCell (by have zz0 := Hlt.out; have zz1 := Sz2.out; have zz2 := Sz3.out; have zz3 := Sz4.out; first | omega | (simp; done) | (simp; omega)) _).setCell (by have zz0 := Hlt.out; have zz1 := Sz2.out; have zz2 := Sz3.out; have zz3 := Sz4.out; first | omega | (simp; done) | (simp; omega)) _
        · have hk5 : decide (500 < (bl : Int) + E) = true := decide_eq_true (by omega)
          have Hres := Lib.hid (qb_state HB.out Hk.out (fun h => ht (by have h3 := h.2.1; rw [Hmg.out.1, ← Hbl.out] at h3; exact h3)) (k := k))
          clear ht
          go_wp2_with fail
          refine wp_region_held_drew (S := fun w' => (w'.cell? ⟨w.heap.size, 0, none⟩ = some (.int .i64 S) ∧ w'.cell? ⟨w.heap.size, 1, none⟩ = some (.slice A n c) ∧ w'.cell? ⟨w.heap.size, 2, none⟩ = some (.int .i64 E)) ∧ (w'.cell? ⟨w.heap.size + 1, 0, none⟩ = some (.int .i64 S') ∧ w'.cell? ⟨w.heap.size + 1, 1, none⟩ = some (.slice A' n' c') ∧ w'.cell? ⟨w.heap.size + 1, 2, none⟩ = some (.int .i64 E'))) (by kernel_rfl) ⟨Bx2.out.1, By2.out.1⟩ (fun hHeld => ?_)
          clear hBx0 hBx1 hBx2 hBx3 hBy0 hBy1 hBy2 hBy3 hRsD0 hRsD1 hRsD2 hRsD3 hRsD4 hRsD5 hRsD6
          refine wpAnyH_take (i := 0) (v := ?_) rfl (by kernel_rfl) (by kernel_rfl) (by kernel_rfl) (fun _ _ _ h => h) (Or.inl ⟨by rfl, ?_⟩) (by assumption) ?_
          rotate_left
          · (intro w hSw; (try dsimp only at hSw); go_simp; (try with_reducible rfl))
          try simp only [Act.put, List.setIfInBounds_toArray, List.set_cons_zero, List.set_cons_succ, List.getElem_toArray, List.getElem_cons_succ, List.getElem_cons_zero]
          refine wpAnyH_take (i := 1) (v := ?_) rfl (by kernel_rfl) (by kernel_rfl) (by kernel_rfl) (fun _ _ _ h => h) (Or.inl ⟨by rfl, ?_⟩) (by assumption) ?_
          rotate_left
          · (intro w hSw; (try dsimp only at hSw); go_simp; (try with_reducible rfl))
          try simp only [Act.put, List.setIfInBounds_toArray, List.set_cons_zero, List.set_cons_succ, List.getElem_toArray, List.getElem_cons_succ, List.getElem_cons_zero]
          refine wpAnyH_take (i := 2) (v := ?_) rfl (by kernel_rfl) (by kernel_rfl) (by kernel_rfl) (fun _ _ _ h => h) (Or.inl ⟨by rfl, ?_⟩) (by assumption) ?_
          rotate_left
          · (intro w hSw; (try dsimp only at hSw); go_simp; (try with_reducible rfl))
          try simp only [Act.put, List.setIfInBounds_toArray, List.set_cons_zero, List.set_cons_succ, List.getElem_toArray, List.getElem_cons_succ, List.getElem_cons_zero]
          refine wpAnyH_take (i := 3) (v := ?_) rfl (by kernel_rfl) (by kernel_rfl) (by kernel_rfl) (fun _ _ _ h => h) (Or.inl ⟨by rfl, ?_⟩) (by assumption) ?_
          rotate_left
          · (intro w hSw; (try dsimp only at hSw); go_simp; (try with_reducible rfl))
          try simp only [Act.put, List.setIfInBounds_toArray, List.set_cons_zero, List.set_cons_succ, List.getElem_toArray, List.getElem_cons_succ, List.getElem_cons_zero]
          refine wpAnyH_take (i := 4) (v := ?_) rfl (by kernel_rfl) (by kernel_rfl) (by kernel_rfl) (fun _ _ _ h => h) (Or.inl ⟨by rfl, ?_⟩) (by assumption) ?_
          rotate_left
          · (intro w hSw; (try dsimp only at hSw); go_simp; (try with_reducible rfl))
          try simp only [Act.put, List.setIfInBounds_toArray, List.set_cons_zero, List.set_cons_succ, List.getElem_toArray, List.getElem_cons_succ, List.getElem_cons_zero]
          refine wpAnyH_take (i := 5) (v := ?_) rfl (by kernel_rfl) (by kernel_rfl) (by kernel_rfl) (fun _ _ _ h => h) (Or.inl ⟨by rfl, ?_⟩) (by assumption) ?_
          rotate_left
          · (intro w hSw; (try dsimp only at hSw); go_simp; (try with_reducible rfl))
          try simp only [Act.put, List.setIfInBounds_toArray, List.set_cons_zero, List.set_cons_succ, List.getElem_toArray, List.getElem_cons_succ, List.getElem_cons_zero]
          refine wpAnyH_take (i := 6) (v := ?_) rfl (by kernel_rfl) (by kernel_rfl) (by kernel_rfl) (fun _ _ _ h => h) (Or.inl ⟨by rfl, ?_⟩) (by assumption) ?_
          rotate_left
          · (intro w hSw; (try dsimp only at hSw); go_simp; (try with_reducible rfl))
          try simp only [Act.put, List.setIfInBounds_toArray, List.set_cons_zero, List.set_cons_succ, List.getElem_toArray, List.getElem_cons_succ, List.getElem_cons_zero]
          refine wpAnyH_take (i := 8) (v := ?_) rfl (by kernel_rfl) (by kernel_rfl) (by kernel_rfl) (fun _ _ _ h => h) (Or.inl ⟨by rfl, ?_⟩) (by assumption) ?_
          rotate_left
          · (intro w hSw; (try dsimp only at hSw); go_simp; (try with_reducible rfl))
          try simp only [Act.put, List.setIfInBounds_toArray, List.set_cons_zero, List.set_cons_succ, List.getElem_toArray, List.getElem_cons_succ, List.getElem_cons_zero]
          refine wpAnyH_take (i := 9) (v := ?_) rfl (by kernel_rfl) (by kernel_rfl) (by kernel_rfl) (fun _ _ _ h => h) (Or.inl ⟨by rfl, ?_⟩) (by assumption) ?_
          rotate_left
          · (intro w hSw; (try dsimp only at hSw); go_simp; (try with_reducible rfl))
          try simp only [Act.put, List.setIfInBounds_toArray, List.set_cons_zero, List.set_cons_succ, List.getElem_toArray, List.getElem_cons_succ, List.getElem_cons_zero]
          refine wpAnyH_ready (rs := [7]) (by kernel_rfl) (by simp) ?_
          refine AllReadyH.cons rfl (fun K hK => ?_) AllReadyH.nil
          go_simp
          refine (specLen_any S z.natAbs A n c _ w2.drew (Hz.out.next Bel2.out).rd (Nat.le_refl _) Hz.out.2.1 H100.out).mono ?_
          rintro e w3 ⟨rfl, hb0⟩
          have hb : Below w2.heap.size w2 w3 := belDrew hb0
          rw [← Hbl.out]
          refine hK.out _ _ ⟨(Bx2.out.next hb).1, (By2.out.next hb).1⟩ (fun hHeld => ?_)
          clear hK K hb0
          have Sz3 := Lib.hid (Below.size hb)
          have Bel3 := Lib.hid (belNext Bel2.out hb)
          have Bx3 := Lib.hid (Bx2.out.next hb)
          have By3 := Lib.hid (By2.out.next hb)
          have RsD3 := Lib.hid (RsD2.out.next hb)
          clear hb Bel2 Bx2 By2 RsD2
          try simp only [Act.put, List.setIfInBounds_toArray, List.set_cons_zero, List.set_cons_succ, List.getElem_toArray, List.getElem_cons_succ, List.getElem_cons_zero]
          have hwr := Hwr.out
          refine wpAnyH_take (i := 10) (v := ?_) rfl (by kernel_rfl) (by kernel_rfl) (by kernel_rfl) (fun _ _ _ h => h) (Or.inl ⟨by rfl, ?_⟩) (by assumption) ?_
          rotate_left
          · (intro w hSw; (try dsimp only at hSw); go_simp; (try with_reducible rfl))
          try simp only [Act.put, List.setIfInBounds_toArray, List.set_cons_zero, List.set_cons_succ, List.getElem_toArray, List.getElem_cons_succ, List.getElem_cons_zero]
          refine wpAnyH_take (i := 11) (v := ?_) rfl (by kernel_rfl) (by kernel_rfl) (by kernel_rfl) (fun _ _ _ h => h) (Or.inl ⟨by rfl, ?_⟩) (by assumption) ?_
          rotate_left
          · (intro w hSw; (try dsimp only at hSw); go_simp; (try with_reducible rfl))
          try simp only [Act.put, List.setIfInBounds_toArray, List.set_cons_zero, List.set_cons_succ, List.getElem_toArray, List.getElem_cons_succ, List.getElem_cons_zero]
          refine wpAnyH_take (i := 12) (v := ?_) rfl (by kernel_rfl) (by kernel_rfl) (by kernel_rfl) (fun _ _ _ h => h) (Or.inl ⟨by rfl, ?_⟩) (by assumption) ?_
          rotate_left
          · (intro w hSw; (try dsimp only at hSw); go_simp; (try with_reducible rfl))
          try simp only [Act.put, List.setIfInBounds_toArray, List.set_cons_zero, List.set_cons_succ, List.getElem_toArray, List.getElem_cons_succ, List.getElem_cons_zero]
          refine wpAnyH_take (i := 13) (v := ?_) rfl (by kernel_rfl) (by kernel_rfl) (by kernel_rfl) (fun _ _ _ h => h) (Or.inl ⟨by rfl, ?_⟩) (by assumption) ?_
          rotate_left
          · (intro w hSw; (try dsimp only at hSw); go_simp; (try with_reducible rfl))
          try simp only [Act.put, List.setIfInBounds_toArray, List.set_cons_zero, List.set_cons_succ, List.getElem_toArray, List.getElem_cons_succ, List.getElem_cons_zero]
          refine wpAnyH_take (i := 14) (v := undef) rfl (by kernel_rfl) (by kernel_rfl) (by kernel_rfl) (fun _ _ _ h => h) (Or.inr ⟨by rfl, rfl⟩) (by assumption) ?_
          try simp only [Act.put, List.setIfInBounds_toArray, List.set_cons_zero, List.set_cons_succ, List.getElem_toArray, List.getElem_cons_succ, List.getElem_cons_zero]
          refine wpAnyH_take (i := 15) (v := undef) rfl (by kernel_rfl) (by kernel_rfl) (by kernel_rfl) (fun _ _ _ h => h) (Or.inr ⟨by rfl, rfl⟩) (by assumption) ?_
          try simp only [Act.put, List.setIfInBounds_toArray, List.set_cons_zero, List.set_cons_succ, List.getElem_toArray, List.getElem_cons_succ, List.getElem_cons_zero]
          refine wpAnyH_take (i := 16) (v := undef) rfl (by kernel_rfl) (by kernel_rfl) (by kernel_rfl) (fun _ _ _ h => h) (Or.inr ⟨by rfl, rfl⟩) (by assumption) ?_
          try simp only [Act.put, List.setIfInBounds_toArray, List.set_cons_zero, List.set_cons_succ, List.getElem_toArray, List.getElem_cons_succ, List.getElem_cons_zero]
          refine wpAnyH_take (i := 17) (v := undef) rfl (by kernel_rfl) (by kernel_rfl) (by kernel_rfl) (fun _ _ _ h => h) (Or.inr ⟨by rfl, rfl⟩) (by assumption) ?_
          try simp only [Act.put, List.setIfInBounds_toArray, List.set_cons_zero, List.set_cons_succ, List.getElem_toArray, List.getElem_cons_succ, List.getElem_cons_zero]
          refine wpAnyH_take (i := 18) (v := undef) rfl (by kernel_rfl) (by kernel_rfl) (by kernel_rfl) (fun _ _ _ h => h) (Or.inr ⟨by rfl, rfl⟩) (by assumption) ?_
          try simp only [Act.put, List.setIfInBounds_toArray, List.set_cons_zero, List.set_cons_succ, List.getElem_toArray, List.getElem_cons_succ, List.getElem_cons_zero]
          refine wpAnyH_take (i := 19) (v := undef) rfl (by kernel_rfl) (by kernel_rfl) (by kernel_rfl) (fun _ _ _ h => h) (Or.inr ⟨by rfl, rfl⟩) (by assumption) ?_
          try simp only [Act.put, List.setIfInBounds_toArray, List.set_cons_zero, List.set_cons_succ, List.getElem_toArray, List.getElem_cons_succ, List.getElem_cons_zero]
          refine wpAnyH_take (i := 20) (v := undef) rfl (by kernel_rfl) (by kernel_rfl) (by kernel_rfl) (fun _ _ _ h => h) (Or.inr ⟨by rfl, rfl⟩) (by assumption) ?_
          try simp only [Act.put, List.setIfInBounds_toArray, List.set_cons_zero, List.set_cons_succ, List.getElem_toArray, List.getElem_cons_succ, List.getElem_cons_zero]
          refine wpAnyH_take (i := 21) (v := ?_) rfl (by kernel_rfl) (by kernel_rfl) (by kernel_rfl) (fun _ _ _ h => h) (Or.inl ⟨by rfl, ?_⟩) (by assumption) ?_
          rotate_left
          · (intro w hSw; (try dsimp only at hSw); go_simp; (try with_reducible rfl))
          try simp only [Act.put, List.setIfInBounds_toArray, List.set_cons_zero, List.set_cons_succ, List.getElem_toArray, List.getElem_cons_succ, List.getElem_cons_zero]
          refine wpAnyH_ready (rs := [22]) (by kernel_rfl) (by simp) ?_
          refine AllReadyH.cons rfl (fun K hK => ?_) AllReadyH.nil
          go_simp
          refine hK.out _ _ hHeld (fun hHeld => ?_)
          clear hK K
          try simp only [Act.put, List.setIfInBounds_toArray, List.set_cons_zero, List.set_cons_succ, List.getElem_toArray, List.getElem_cons_succ, List.getElem_cons_zero]
          clear hHeld
          refine wpAnyH_done (by kernel_rfl) ?_ _
          obtain ⟨⟨hBx0, hBx1, hBx2⟩, hBx3⟩ := Bx3.out
          obtain ⟨⟨hBy0, hBy1, hBy2⟩, hBy3⟩ := By3.out
          obtain ⟨⟨hRsD0, hRsD1, hRsD2, hRsD3, hRsD4, hRsD5⟩, hRsD6⟩ := RsD3.out
          go_wp2_with fail
          refine bodyPost_ret (v := .tuple #[.agg #[.int .i64 0, .slice none 0 0, .int .i64 0], .int .i64 5]) (by simp [results, Tryd.results13, go_sem, hRsD0, hRsD1, hRsD2]) rfl ⟨0, none, 0, 0, by rw [Hres.out.2.1, Hres.out.2.2], ?_, ?_⟩
          · rw [Hres.out.1]; exact ZO.zero (Nat.le_refl _)
          · exact ((Bel3.out.setCell (by have zz0 := Hlt.out; have zz1 := Sz2.out; have zz2 := Sz3.out; first | omega | (simp; done) | (simp; omega)) _).setCell (by have zz0 := Hlt.out; have zz1 := Sz2.out; have zz2 := Sz3.out; first | omega | (simp; done) | (simp; omega)) _).setCell (by have zz0 := Hlt.out; have zz1 := Sz2.out; have zz2 := Sz3.out; first | omega | (simp; done) | (simp; omega)) _
    · have Hres := Lib.hid (qb_range HB.out hk)
      have hdk : decide (0 ≤ k ∧ k ≤ 500) = false := decide_eq_false hk
      clear hk
      go_wp2_with fail
      refine (in_any k 0 500 _).mono ?_
      rintro e w9 ⟨rfl, rfl⟩
      rw [hdk]
      clear hdk
      go_wp2_with fail
      refine bodyPost_ret (v := .tuple #[.agg #[.int .i64 0, .slice none 0 0, .int .i64 0], .int .i64 2]) (by simp [results, Tryd.results13, go_sem, hRsD0, hRsD1, hRsD2]) rfl ⟨0, none, 0, 0, by rw [Hres.out.2.1, Hres.out.2.2], ?_, ?_⟩
      · rw [Hres.out.1]; exact ZO.zero (Nat.le_refl _)
      · exact ((Bel2.out.setCell (by have zz0 := Hlt.out; have zz1 := Sz2.out; first | omega | (simp; done) | (simp; omega)) _).setCell (by have zz0 := Hlt.out; have zz1 := Sz2.out; first | omega | (simp; done) | (simp; omega)) _).setCell (by have zz0 := Hlt.out; have zz1 := Sz2.out; first | omega | (simp; done) | (simp; omega)) _
  · have hB2 : bD S xs E S' xs' E' = false := by simpa using hB
    have hbe : bDE S xs E S' xs' E' = 1 := by unfold bDE; rw [hB2]; rfl
    rw [hbe]
    have Hres := Lib.hid (qb_no hB2 (k := k))
    clear hbe hB hB2
    go_wp2_with fail
    refine bodyPost_ret (v := .tuple #[.agg #[.int .i64 0, .slice none 0 0, .int .i64 0], .int .i64 1]) (by simp [results, Tryd.results13, go_sem, hRsD0, hRsD1, hRsD2]) rfl ⟨0, none, 0, 0, by rw [Hres.out.2.1, Hres.out.2.2], ?_, ?_⟩
    · rw [Hres.out.1]; exact ZO.zero (Nat.le_refl _)
    · exact ((Bel2.out.setCell (by have zz0 := Hlt.out; have zz1 := Sz2.out; first | omega | (simp; done) | (simp; omega)) _).setCell (by have zz0 := Hlt.out; have zz1 := Sz2.out; first | omega | (simp; done) | (simp; omega)) _).setCell (by have zz0 := Hlt.out; have zz1 := Sz2.out; first | omega | (simp; done) | (simp; omega)) _

end Go.Proofs.YtnecnbonnidijaaDoor
