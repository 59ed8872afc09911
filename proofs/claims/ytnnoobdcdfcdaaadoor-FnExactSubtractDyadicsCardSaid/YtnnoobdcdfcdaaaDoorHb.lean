/- Exact numbers without their last twos, and limited, of the program. -/
import Derived.Test.YtnnoobdcdfcdaaaDoorHa
namespace Go.Proofs.YtnnoobdcdfcdaaaDoor
set_option maxRecDepth 100000
open Go.RowKit
set_option linter.unusedSimpArgs false
set_option linter.unusedVariables false

/-- an exact number is laid into a box -/
def st3 (w : World) (b : Nat) (S : Int) (A : Option Addr) (n c : Nat) (E : Int) : World := ((w.setCell ⟨b, 0, none⟩ (.int .i64 S)).setCell ⟨b, 1, none⟩ (.slice A n c)).setCell ⟨b, 2, none⟩ (.int .i64 E)
/-- nothing of a box is frozen -/
def Fr3 (w : World) (b : Nat) : Prop := (w.frozen? ⟨b, 0, none⟩ = false ∧ w.frozen? ⟨b, 1, none⟩ = false ∧ w.frozen? ⟨b, 2, none⟩ = false) ∧ b < w.heap.size
section
variable {w w' : World} {b : Nat} {S E : Int} {A : Option Addr} {n c : Nat}
theorem Fr3.next (h : Fr3 w b) (hb : Below w.heap.size w w') : Fr3 w' b :=
  ⟨⟨(hb.frozen (p := ⟨b, 0, none⟩) h.2).trans h.1.1, (hb.frozen (p := ⟨b, 1, none⟩) h.2).trans h.1.2.1, (hb.frozen (p := ⟨b, 2, none⟩) h.2).trans h.1.2.2⟩, Nat.lt_of_lt_of_le h.2 hb.size⟩
theorem Fr3.drew (h : Fr3 w b) : Fr3 w.drew b := h
theorem Fr3.new (w : World) (S : Int) (A : Option Addr) (n c : Nat) (E : Int) (t : TypeId) : Fr3 (w.alloc (.cells #[.int .i64 S, .slice A n c, .int .i64 E] t)) w.heap.size := by
  refine ⟨⟨?_, ?_, ?_⟩, ?_⟩
  · go_simp
  · go_simp
  · go_simp
  · simp
theorem st3_size : (st3 w b S A n c E).heap.size = w.heap.size := by unfold st3; simp
theorem st3_heap {g : Nat} (h : g ≠ b) : (st3 w b S A n c E).heap[g]? = w.heap[g]? := by
  unfold st3
  rw [Below.heap_setCell _ _ _ _ (by exact h), Below.heap_setCell _ _ _ _ (by exact h), Below.heap_setCell _ _ _ _ (by exact h)]
theorem st3_cell {g o : Nat} (h : g ≠ b) : (st3 w b S A n c E).cell? ⟨g, o, none⟩ = w.cell? ⟨g, o, none⟩ := World.cell?_of_block (a := ⟨g, o, none⟩) (st3_heap h)
theorem st3_frozen {g o : Nat} (h : g ≠ b) : (st3 w b S A n c E).frozen? ⟨g, o, none⟩ = w.frozen? ⟨g, o, none⟩ := by unfold World.frozen?; rw [st3_heap h]
theorem DBox.st3_ {b' : Nat} {S' E' : Int} {A' : Option Addr} {n' c' : Nat} (h : DBox w b' S' A' n' c' E') (hne : b' ≠ b) : DBox (st3 w b S A n c E) b' S' A' n' c' E' :=
  ⟨⟨(st3_cell hne).trans h.1.1, (st3_cell hne).trans h.1.2.1, (st3_cell hne).trans h.1.2.2⟩, by rw [st3_size]; exact h.2⟩
theorem DRes.st3_ {b' : Nat} (h : DRes w b') (hne : b' ≠ b) : DRes (st3 w b S A n c E) b' :=
  ⟨⟨(st3_cell hne).trans h.1.1, (st3_cell hne).trans h.1.2.1, (st3_cell hne).trans h.1.2.2.1, (st3_frozen hne).trans h.1.2.2.2.1, (st3_frozen hne).trans h.1.2.2.2.2.1, (st3_frozen hne).trans h.1.2.2.2.2.2⟩, by rw [st3_size]; exact h.2⟩
theorem Fr3.st3_ {b' : Nat} (h : Fr3 w b') (hne : b' ≠ b) : Fr3 (st3 w b S A n c E) b' :=
  ⟨⟨(st3_frozen hne).trans h.1.1, (st3_frozen hne).trans h.1.2.1, (st3_frozen hne).trans h.1.2.2⟩, by rw [st3_size]; exact h.2⟩
theorem ZO.st3_ {lo hi : Nat} {z S' : Int} {A' : Option Addr} {n' c' : Nat} (h : ZO w lo hi z S' A' n' c') (hne : b < lo ∨ hi ≤ b) : ZO (st3 w b S A n c E) lo hi z S' A' n' c' :=
  ⟨h.1, h.2.1, h.2.2.1, h.2.2.2.1.keep (fun g h1 h2 _ => st3_heap (by omega)), by rw [st3_size]; exact h.2.2.2.2⟩
theorem TabZ.st3_ (h : TabZ w) (hne : 0 ≠ b) : TabZ (st3 w b S A n c E) := fun j hj => (st3_cell hne).trans (h j hj)
theorem belSt3 {W : World} (h : Below W.heap.size W w) (hb : W.heap.size ≤ b) : Below W.heap.size W (st3 w b S A n c E) := ((h.setCell hb _).setCell hb _).setCell hb _
theorem DBox.made (h : b < w.heap.size) (h0 : ∃ u, w.cell? ⟨b, 0, none⟩ = some u) (h1 : ∃ u, w.cell? ⟨b, 1, none⟩ = some u) (h2 : ∃ u, w.cell? ⟨b, 2, none⟩ = some u) : DBox (st3 w b S A n c E) b S A n c E := by
  obtain ⟨u0, h0⟩ := h0
  obtain ⟨u1, h1⟩ := h1
  obtain ⟨u2, h2⟩ := h2
  refine ⟨⟨?_, ?_, ?_⟩, by rw [st3_size]; exact h⟩ <;> · unfold st3; go_simp
theorem Fr3.made (h : Fr3 w b) : Fr3 (st3 w b S A n c E) b := by
  obtain ⟨⟨h0, h1, h2⟩, h3⟩ := h
  refine ⟨⟨?_, ?_, ?_⟩, by rw [st3_size]; exact h3⟩ <;> · unfold st3; go_simp
end

theorem shZ_tz {z : Int} : shZ z (-((tz z.natAbs : Nat) : Int)) = nz z := by
  have hs := (nz_facts z).1
  have ha := (nz_facts z).2
  have key : z.sign * ((z.natAbs / 2 ^ tz z.natAbs : Nat) : Int) = nz z := rfl
  by_cases h0 : tz z.natAbs = 0
  · rw [h0, shZ_up (by omega)]
    rw [h0] at key
    simp at key
    simp
    rw [← key, Int.sign_mul_natAbs]
  · rw [← key]
    by_cases hn : z.sign < 0
    · exact (sh_down_exact rfl hn (by omega) (by omega)).symm
    · exact (sh_down_nonneg rfl hn (by omega)).symm
theorem sign_eq_zero {z S : Int} (hS : S = z.sign) : S = 0 ↔ z = 0 := by rw [hS, Int.sign_eq_zero_iff_zero]
theorem nx_bound {z E : Int} {n : Nat} (hn : (limbs z.natAbs).length = n) (h : (n : Int) ≤ 50000) (h1 : -1000000 ≤ E) (h2 : E ≤ 1000000) : -1000000 ≤ nx z E ∧ nx z E ≤ 2200000 := by
  by_cases h0 : z = 0
  · rw [h0, nx_zero]; omega
  · rw [nx_ne h0]
    have := tz_le hn
    omega

set_option maxHeartbeats 2000000 in
theorem implNormal_any (z S E : Int) (A : Option Addr) (n c : Nat) (w : World) (hz : ZV w z S A n c) (hm : (n : Int) ≤ 4000) (h1 : -1000000 ≤ E) (h2 : E ≤ 1000000) (hT : TabZ w) :
    Calls Tryd.prog 102 #[.agg #[.int .i64 S, .slice A n c, .int .i64 E]] w fun e w' => ∃ S' A' n' c', e = .returned (.agg #[.int .i64 S', .slice A' n' c', .int .i64 (nx z E)]) ∧ ZO w' w.heap.size w'.heap.size (nz z) S' A' n' c' ∧ Below w.heap.size w w' := by
  have hst := store_int Tryd.prog
  have hst2 := store_slice Tryd.prog
  obtain ⟨w1, hw1, hb1, hb3, hb4⟩ := dbox_res w S A n c E 34 34
  have Zv1 := Lib.hid (hz.next hb4)
  have Tb1 := Lib.hid (hT.next hb4)
  have Hw := Lib.hid hw1
  have Bx1 := Lib.hid hb1
  have RsD1 := Lib.hid hb3
  have Bel1 := Lib.hid hb4
  have HS : Hid (S = z.sign) := Lib.hid hz.1
  have Hn : Hid ((limbs z.natAbs).length = n) := Lib.hid hz.2.1
  have Hm : Hid ((n : Int) ≤ 4000) := Lib.hid hm
  have Hlt : Hid (w.heap.size + 1 < w1.heap.size) := Lib.hid hb3.2
  have Ht : Hid ((tz z.natAbs : Int) ≤ 96000) := Lib.hid (by have := tz_le hz.2.1; omega)
  clear hz hT hw1 hb1 hb3 hb4
  go_enter Tryd.func102, Tryd.ntmps102
  go_wp2_with fail
  rw [← Hw.out]
  obtain ⟨⟨hBx0, hBx1, hBx2⟩, hBx3⟩ := Bx1.out
  obtain ⟨⟨hRsD0, hRsD1, hRsD2, hRsD3, hRsD4, hRsD5⟩, hRsD6⟩ := RsD1.out
  refine (natZeros_any z.natAbs A n c _ _ Zv1.out.rd Hn.out (by omega) Tb1.out).mono ?_
  rintro e w9 ⟨rfl, rfl⟩
  obtain ⟨zt, hzt⟩ : ∃ zt, zt = tz z.natAbs := ⟨_, rfl⟩
  rw [← hzt] at Ht ⊢
  have Hzt := Lib.hid hzt
  have hzt1 : (zt : Int) ≤ 96000 := Ht.out
  clear hzt
  go_wp2_with fail
  refine (implShifted_any z S (-(zt : Int)) A n c _ Zv1.out (by have := Hm.out; omega) (by omega) (by omega) Tb1.out).mono ?_
  rintro e w2 ⟨S2, A2, n2, c2, rfl, hzo, hb⟩
  have Zo2 := Lib.hid (hzo.cast_ (z' := nz z) (by rw [Hzt.out]; exact shZ_tz))
  clear hzo
  have Sz2 := Lib.hid (Below.size hb)
  have Bel2 := Lib.hid (belNext Bel1.out hb)
  have Bx2 := Lib.hid (Bx1.out.next hb)
  have RsD2 := Lib.hid (RsD1.out.next hb)
  have Zv2 := Lib.hid (Zv1.out.next hb)
  have Tb2 := Lib.hid (Tb1.out.next hb)
  clear hb Bel1 Bx1 RsD1 Zv1 Tb1 hBx0 hBx1 hBx2 hBx3 hRsD0 hRsD1 hRsD2 hRsD3 hRsD4 hRsD5 hRsD6
  obtain ⟨⟨hBx0, hBx1, hBx2⟩, hBx3⟩ := Bx2.out
  obtain ⟨⟨hRsD0, hRsD1, hRsD2, hRsD3, hRsD4, hRsD5⟩, hRsD6⟩ := RsD2.out
  by_cases h0 : z = 0
  · have hs2 : S2 = 0 := (sign_eq_zero Zo2.out.1).2 (nz_eq_zero.2 h0)
    subst hs2
    have H0 := Lib.hid h0
    clear h0
    go_wp2_with fail
    obtain ⟨⟨r0, r1, r2⟩, _⟩ := (DBox.made (S := 0) (A := none) (n := 0) (c := 0) (E := 0) hRsD6 ⟨_, hRsD0⟩ ⟨_, hRsD1⟩ ⟨_, hRsD2⟩).next (belAlloc1 _ (.cells #[.int .i64 0, .slice A2 n2 c2] 26))
    simp only [st3] at r0 r1 r2
    refine bodyPost_ret (v := .agg #[.int .i64 0, .slice none 0 0, .int .i64 0]) (by simp [results, Tryd.results102, go_sem, r0, r1, r2]) rfl ⟨0, none, 0, 0, by rw [H0.out, nx_zero], ?_, ?_⟩
    · rw [H0.out, nz_zero]; exact ZO.zero (Nat.le_refl _)
    · exact (((Bel2.out.setCell (by have zz0 := Hlt.out; have zz1 := Sz2.out; first | omega | (simp; done) | (simp; omega)) _).setCell (by have zz0 := Hlt.out; have zz1 := Sz2.out; first | omega | (simp; done) | (simp; omega)) _).setCell (by have zz0 := Hlt.out; have zz1 := Sz2.out; first | omega | (simp; done) | (simp; omega)) _).alloc (by have zz0 := Hlt.out; have zz1 := Sz2.out; first | omega | (simp; done) | (simp; omega)) _
  · have hs2 : (S2 == 0) = false := beq_false_of_ne (fun e => h0 (nz_eq_zero.1 ((sign_eq_zero Zo2.out.1).1 e)))
    have Hnx : Hid (nx z E = E + (zt : Int)) := Lib.hid (by rw [Hzt.out]; exact nx_ne h0)
    clear h0
    go_wp2_with fail
    obtain ⟨⟨r0, r1, r2⟩, _⟩ := (DBox.made (S := S2) (A := A2) (n := n2) (c := c2) (E := (E + (zt : Int))) hRsD6 ⟨_, hRsD0⟩ ⟨_, hRsD1⟩ ⟨_, hRsD2⟩).next (belAlloc1 _ (.cells #[.int .i64 S2, .slice A2 n2 c2] 26))
    simp only [st3] at r0 r1 r2
    refine bodyPost_ret (v := .agg #[.int .i64 S2, .slice A2 n2 c2, .int .i64 (E + (zt : Int))]) (by simp [results, Tryd.results102, go_sem, r0, r1, r2]) rfl ⟨S2, A2, n2, c2, by rw [Hnx.out], ?_, ?_⟩
    · exact ((((Zo2.out.setCell (.inl (by have zz0 := Hlt.out; have zz1 := Sz2.out; first | omega | (simp; done) | (simp; omega))) _).setCell (.inl (by have zz0 := Hlt.out; have zz1 := Sz2.out; first | omega | (simp; done) | (simp; omega))) _).setCell (.inl (by have zz0 := Hlt.out; have zz1 := Sz2.out; first | omega | (simp; done) | (simp; omega))) _).alloc _).wide (by have zz0 := Hlt.out; have zz1 := Sz2.out; first | omega | (simp; done) | (simp; omega)) (by simp) (by simp)
    · exact (((Bel2.out.setCell (by have zz0 := Hlt.out; have zz1 := Sz2.out; first | omega | (simp; done) | (simp; omega)) _).setCell (by have zz0 := Hlt.out; have zz1 := Sz2.out; first | omega | (simp; done) | (simp; omega)) _).setCell (by have zz0 := Hlt.out; have zz1 := Sz2.out; first | omega | (simp; done) | (simp; omega)) _).alloc (by have zz0 := Hlt.out; have zz1 := Sz2.out; first | omega | (simp; done) | (simp; omega)) _
end Go.Proofs.YtnnoobdcdfcdaaaDoor
