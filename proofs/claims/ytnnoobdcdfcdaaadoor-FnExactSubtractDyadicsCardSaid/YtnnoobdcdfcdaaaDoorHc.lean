/- Exact numbers, limited, of the program. -/
import Derived.Test.YtnnoobdcdfcdaaaDoorHb
namespace Go.Proofs.YtnnoobdcdfcdaaaDoor
set_option maxRecDepth 100000
open Go.RowKit
set_option linter.unusedSimpArgs false
set_option linter.unusedVariables false

/-- the number fits -/
def okN (z E : Int) : Prop := (limbs (nz z).natAbs).length ≤ 100 ∧ -3000 ≤ nx z E ∧ nx z E ≤ 3000
open Classical in
noncomputable def fdZ (z E : Int) : Int := if okN z E then nz z else 0
open Classical in
noncomputable def fdX (z E : Int) : Int := if okN z E then nx z E else 0
open Classical in
noncomputable def fdE (z E : Int) : Int := if okN z E then 0 else 3
open Classical in
theorem fd_yes {z E : Int} (h : okN z E) : fdZ z E = nz z ∧ fdX z E = nx z E ∧ fdE z E = 0 := ⟨if_pos h, if_pos h, if_pos h⟩
open Classical in
theorem fd_no {z E : Int} (h : ¬ okN z E) : fdZ z E = 0 ∧ fdX z E = 0 ∧ fdE z E = 3 := ⟨if_neg h, if_neg h, if_neg h⟩
theorem fd_len (z E : Int) : (limbs (fdZ z E).natAbs).length ≤ 100 := by
  by_cases h : okN z E
  · rw [(fd_yes h).1]; exact h.1
  · rw [(fd_no h).1]; simp [limbs_zero]
theorem fd_shl (k : Nat) (z e : Int) : fdZ ((2 : Int) ^ k * z) e = fdZ z (e + k) ∧ fdX ((2 : Int) ^ k * z) e = fdX z (e + k) ∧ fdE ((2 : Int) ^ k * z) e = fdE z (e + k) := by
  unfold fdZ fdX fdE okN
  rw [nz_shl, nx_shl]
  exact ⟨rfl, rfl, rfl⟩
theorem fd_same {z e z' e' : Int} (h : nz z = nz z') (h' : nx z e = nx z' e') : fdZ z e = fdZ z' e' ∧ fdX z e = fdX z' e' ∧ fdE z e = fdE z' e' := by
  unfold fdZ fdX fdE okN
  rw [h, h']
  exact ⟨rfl, rfl, rfl⟩

set_option maxHeartbeats 400000 in
theorem beyond_yes (x l : Int) (w : World) (h : x < -l ∨ l < x) (h1 : 0 ≤ l) (h2 : l ≤ 1000000) : Calls Tryd.prog 63 #[.int .i64 x, .int .i64 l] w fun e w' => e = .returned (.bool true) ∧ w = w' := by
  by_cases h3 : x < -l
  · have h4 : decide (x < -l) = true := decide_eq_true h3
    go_enter Tryd.func63, Tryd.ntmps63
    go_wp2_with fail
    go_ret
    exact ⟨rfl, rfl⟩
  · have h4 : decide (x < -l) = false := decide_eq_false h3
    have h5 : decide (l < x) = true := decide_eq_true (by omega)
    go_enter Tryd.func63, Tryd.ntmps63
    go_wp2_with fail
    go_ret
    exact ⟨rfl, rfl⟩
theorem beyond_no (x l : Int) (w : World) (h : -l ≤ x) (h' : x ≤ l) (h1 : 0 ≤ l) (h2 : l ≤ 1000000) : Calls Tryd.prog 63 #[.int .i64 x, .int .i64 l] w fun e w' => e = .returned (.bool false) ∧ w = w' := by
  have h4 : decide (x < -l) = false := decide_eq_false (by omega)
  have h5 : decide (l < x) = false := decide_eq_false (by omega)
  go_enter Tryd.func63, Tryd.ntmps63
  go_wp2_with fail
  go_ret
  exact ⟨rfl, rfl⟩

set_option maxHeartbeats 2000000 in
theorem implLimD_any (z S E : Int) (A : Option Addr) (n c : Nat) (w : World) (hz : ZV w z S A n c) (hm : (n : Int) ≤ 4000) (h1 : -1000000 ≤ E) (h2 : E ≤ 1000000) (hT : TabZ w) :
    Calls Tryd.prog 64 #[.agg #[.int .i64 S, .slice A n c, .int .i64 E]] w fun e w' => ∃ Sr Ar nr cr, e = .returned (.tuple #[.agg #[.int .i64 Sr, .slice Ar nr cr, .int .i64 (fdX z E)], .int .i64 (fdE z E)]) ∧ ZO w' w.heap.size w'.heap.size (fdZ z E) Sr Ar nr cr ∧ Below w.heap.size w w' := by
  have hst := store_int Tryd.prog
  have hst2 := store_slice Tryd.prog
  obtain ⟨w1, hw1, hb1, hb3, hb4⟩ := dbox_res w S A n c E 34 34
  have RsD1 := Lib.hid hb3
  have Hlt : Hid (w.heap.size + 1 < w1.heap.size) := Lib.hid hb3.2
  have Zv1 := Lib.hid (hz.next hb4)
  have Fr1 : Hid (Fr3 w1 w.heap.size) := Lib.hid (by rw [hw1]; exact (Fr3.new _ _ _ _ _ _ _).next (belAlloc1 _ _))
  have Hw := Lib.hid hw1
  have Bx1 := Lib.hid hb1
  have Bel1 := Lib.hid hb4
  have HS : Hid (S = z.sign) := Lib.hid hz.1
  have Hn : Hid ((limbs z.natAbs).length = n) := Lib.hid hz.2.1
  have Hm : Hid ((n : Int) ≤ 4000) := Lib.hid hm
  have Tb1 := Lib.hid (hT.next hb4)
  clear hT
  clear hz hw1 hb1 hb4 hb3
  go_enter Tryd.func64, Tryd.ntmps64
  go_wp2_with fail
  rw [← Hw.out]
  obtain ⟨⟨hBx0, hBx1, hBx2⟩, hBx3⟩ := Bx1.out
  obtain ⟨⟨hRsD0, hRsD1, hRsD2, hRsD3, hRsD4, hRsD5⟩, hRsD6⟩ := RsD1.out
  refine (implNormal_any z S E A n c _ Zv1.out (by have := Hm.out; omega) h1 h2 Tb1.out).mono ?_
  rintro e w2 ⟨S2, A2, n2, c2, rfl, hzo, hb⟩
  have Zo2 := Lib.hid hzo
  obtain ⟨E2, hE2⟩ : ∃ E2, E2 = nx z E := ⟨_, rfl⟩
  rw [← hE2]
  have HE2 := Lib.hid hE2
  have hnb := nx_bound Hn.out (by have := Hm.out; omega) h1 h2
  rw [← hE2] at hnb
  obtain ⟨hE2a, hE2b⟩ := hnb
  clear hzo hE2 Zv1 Tb1
  have Sz2 := Lib.hid (Below.size hb)
  have Bel2 := Lib.hid (belNext Bel1.out hb)
  have Bx2 := Lib.hid (Bx1.out.next hb)
  have RsD2 := Lib.hid (RsD1.out.next hb)
  have Fr2 := Lib.hid (Fr1.out.next hb)
  clear hb Bel1 Bx1 RsD1 Fr1 hBx0 hBx1 hBx2 hBx3 hRsD0 hRsD1 hRsD2 hRsD3 hRsD4 hRsD5 hRsD6
  obtain ⟨⟨hBx0, hBx1, hBx2⟩, hBx3⟩ := Bx2.out
  obtain ⟨⟨hRsD0, hRsD1, hRsD2, hRsD3, hRsD4, hRsD5⟩, hRsD6⟩ := RsD2.out
  obtain ⟨⟨hFr0, hFr1, hFr2⟩, _⟩ := Fr2.out
  go_wp2_with fail
  obtain ⟨w3, hw3⟩ : ∃ w3, w3 = st3 w2 w.heap.size S2 A2 n2 c2 E2 := ⟨_, rfl⟩
  have Bel3 : Hid (Below w.heap.size w w3) := Lib.hid (by rw [hw3]; exact belSt3 Bel2.out (Nat.le_refl _))
  have Bx3 : Hid (DBox w3 w.heap.size S2 A2 n2 c2 E2) := Lib.hid (by rw [hw3]; exact DBox.made Bx2.out.2 ⟨_, hBx0⟩ ⟨_, hBx1⟩ ⟨_, hBx2⟩)
  have RsD3 : Hid (DRes w3 (w.heap.size + 1)) := Lib.hid (by rw [hw3]; exact RsD2.out.st3_ (by omega))
  have Zo3 : Hid (ZO w3 w1.heap.size w2.heap.size (nz z) S2 A2 n2 c2) := Lib.hid (by rw [hw3]; exact Zo2.out.st3_ (.inl (by have := Hlt.out; omega)))
  have Sz3 : Hid (w2.heap.size = w3.heap.size) := Lib.hid (by rw [hw3, st3_size])
  unfold st3 at hw3
  rw [← hw3]
  clear hw3 hFr0 hFr1 hFr2
  clear hBx0 hBx1 hBx2 hBx3 hRsD0 hRsD1 hRsD2 hRsD3 hRsD4 hRsD5 hRsD6
  clear Bel2 Bx2 RsD2 Zo2 Fr2
  refine (tooLarge_any S2 A2 n2 c2 _).mono ?_
  rintro e w4 ⟨rfl, hb⟩
  have Sz4 := Lib.hid (Below.size hb)
  have Bel4 := Lib.hid (belNext Bel3.out hb)
  have Bx4 := Lib.hid (Bx3.out.next hb)
  have RsD4 := Lib.hid (RsD3.out.next hb)
  have Zo4 := Lib.hid (Zo3.out.next hb)
  clear hb Bel3 Bx3 RsD3 Zo3
  obtain ⟨⟨hBx0, hBx1, hBx2⟩, hBx3⟩ := Bx4.out
  obtain ⟨⟨hRsD0, hRsD1, hRsD2, hRsD3, hRsD4, hRsD5⟩, hRsD6⟩ := RsD4.out
  by_cases hl : n2 ≤ 100
  · have hi1 : decide ((100 : Int) < (n2 : Int)) = false := decide_eq_false (by omega)
    rw [hi1]
    clear hi1
    by_cases hr : -3000 ≤ E2 ∧ E2 ≤ 3000
    · obtain ⟨hr1, hr2⟩ := hr
      have Hf : Hid (okN z E) := Lib.hid ⟨by rw [Zo4.out.2.1]; exact hl, by rw [← HE2.out]; exact hr1, by rw [← HE2.out]; exact hr2⟩
      go_wp2_with fail
      refine (beyond_no E2 3000 _ hr1 hr2 (by omega) (by omega)).mono ?_
      rintro e w9 ⟨rfl, rfl⟩
      go_wp2_with fail
      refine bodyPost_ret (v := .tuple #[.agg #[.int .i64 S2, .slice A2 n2 c2, .int .i64 E2], .int .i64 0]) (by simp [results, Tryd.results64, go_sem, hRsD0, hRsD1, hRsD2]) rfl ⟨S2, A2, n2, c2, by rw [(fd_yes Hf.out).2.1, (fd_yes Hf.out).2.2, HE2.out], ?_, ?_⟩
      · rw [(fd_yes Hf.out).1]; exact (((Zo4.out.setCell (.inl (by have zz0 := Hlt.out; have zz1 := Sz2.out; have zz2 := Sz3.out; have zz3 := Sz4.out; first | omega | (simp; done) | (simp; omega))) _).setCell (.inl (by have zz0 := Hlt.out; have zz1 := Sz2.out; have zz2 := Sz3.out; have zz3 := Sz4.out; first | omega | (simp; done) | (simp; omega))) _).setCell (.inl (by have zz0 := Hlt.out; have zz1 := Sz2.out; have zz2 := Sz3.out; have zz3 := Sz4.out; first | omega | (simp; done) | (simp; omega))) _).wide (by have zz0 := Hlt.out; have zz1 := Sz2.out; have zz2 := Sz3.out; have zz3 := Sz4.out; first | omega | (simp; done) | (simp; omega)) (by have zz0 := Hlt.out; have zz1 := Sz2.out; have zz2 := Sz3.out; have zz3 := Sz4.out; first | omega | (simp; done) | (simp; omega)) (by have zz0 := Hlt.out; have zz1 := Sz2.out; have zz2 := Sz3.out; have zz3 := Sz4.out; first | omega | (simp; done) | (simp; omega))
      · exact ((Bel4.out.setCell (by have zz0 := Hlt.out; have zz1 := Sz2.out; have zz2 := Sz3.out; have zz3 := Sz4.out; first | omega | (simp; done) | (simp; omega)) _).setCell (by have zz0 := Hlt.out; have zz1 := Sz2.out; have zz2 := Sz3.out; have zz3 := Sz4.out; first | omega | (simp; done) | (simp; omega)) _).setCell (by have zz0 := Hlt.out; have zz1 := Sz2.out; have zz2 := Sz3.out; have zz3 := Sz4.out; first | omega | (simp; done) | (simp; omega)) _
    · have Hf : Hid (¬ okN z E) := Lib.hid (fun h => hr (by rw [HE2.out]; exact ⟨h.2.1, h.2.2⟩))
      have hr2 : E2 < -3000 ∨ 3000 < E2 := by omega
      clear hr
      go_wp2_with fail
      refine (beyond_yes E2 3000 _ hr2 (by omega) (by omega)).mono ?_
      rintro e w9 ⟨rfl, rfl⟩
      go_wp2_with fail
      refine bodyPost_ret (v := .tuple #[.agg #[.int .i64 0, .slice none 0 0, .int .i64 0], .int .i64 3]) (by simp [results, Tryd.results64, go_sem, hRsD0, hRsD1, hRsD2]) rfl ⟨0, none, 0, 0, by rw [(fd_no Hf.out).2.1, (fd_no Hf.out).2.2], ?_, ?_⟩
      · rw [(fd_no Hf.out).1]; exact ZO.zero (Nat.le_refl _)
      · exact ((Bel4.out.setCell (by have zz0 := Hlt.out; have zz1 := Sz2.out; have zz2 := Sz3.out; have zz3 := Sz4.out; first | omega | (simp; done) | (simp; omega)) _).setCell (by have zz0 := Hlt.out; have zz1 := Sz2.out; have zz2 := Sz3.out; have zz3 := Sz4.out; first | omega | (simp; done) | (simp; omega)) _).setCell (by have zz0 := Hlt.out; have zz1 := Sz2.out; have zz2 := Sz3.out; have zz3 := Sz4.out; first | omega | (simp; done) | (simp; omega)) _
  · have hi1 : decide ((100 : Int) < (n2 : Int)) = true := decide_eq_true (by omega)
    rw [hi1]
    clear hi1
    have Hf : Hid (¬ okN z E) := Lib.hid (fun h => hl (by have := h.1; rw [Zo4.out.2.1] at this; exact this))
    clear hl
    go_wp2_with fail
    refine bodyPost_ret (v := .tuple #[.agg #[.int .i64 0, .slice none 0 0, .int .i64 0], .int .i64 3]) (by simp [results, Tryd.results64, go_sem, hRsD0, hRsD1, hRsD2]) rfl ⟨0, none, 0, 0, by rw [(fd_no Hf.out).2.1, (fd_no Hf.out).2.2], ?_, ?_⟩
    · rw [(fd_no Hf.out).1]; exact ZO.zero (Nat.le_refl _)
    · exact ((Bel4.out.setCell (by have zz0 := Hlt.out; have zz1 := Sz2.out; have zz2 := Sz3.out; have zz3 := Sz4.out; first | omega | (simp; done) | (simp; omega)) _).setCell (by have zz0 := Hlt.out; have zz1 := Sz2.out; have zz2 := Sz3.out; have zz3 := Sz4.out; first | omega | (simp; done) | (simp; omega)) _).setCell (by have zz0 := Hlt.out; have zz1 := Sz2.out; have zz2 := Sz3.out; have zz3 := Sz4.out; first | omega | (simp; done) | (simp; omega)) _
end Go.Proofs.YtnnoobdcdfcdaaaDoor
