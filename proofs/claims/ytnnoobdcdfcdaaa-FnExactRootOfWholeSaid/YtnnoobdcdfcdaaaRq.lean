/- RootOfWhole, of the program and of the model. -/
import Derived.Test.YtnnoobdcdfcdaaaRp
import Derived.Test.YtnnoobdcdfcdaaaHh
namespace Go.Proofs.Ytnnoobdcdfcdaaa
set_option maxRecDepth 100000
open Go.RowKit
set_option linter.unusedSimpArgs false
set_option linter.unusedVariables false

theorem rt_mag {z S : Int} {xs : List Int} (hz : isZ z S xs) : magW S xs = z.natAbs := by
  obtain ⟨v, h1, h2, _⟩ := okW_limbs (isW_true (okW_iff.2 ⟨z, hz⟩))
  have h3 : limbs z.natAbs = limbs v := by
    have := congrArg nats (hz.2.1.symm.trans h1)
    rwa [nats_li, nats_li] at this
  rw [h2, ← limbs_inj h3]
/-- what RootOfWhole gives -/
noncomputable def rtRZ (S : Int) (xs : List Int) : Int := if isW S xs = true then if 0 ≤ S then (rt (magW S xs) : Int) else 0 else 0
noncomputable def rtRE (S : Int) (xs : List Int) : Int := if isW S xs = true then if 0 ≤ S then 0 else 5 else 1
theorem rtR_yes {S z : Int} {xs : List Int} (h : isW S xs = true) (hz : isZ z S xs) (hs : 0 ≤ S) : rtRZ S xs = (rt z.natAbs : Int) ∧ rtRE S xs = 0 := by
  unfold rtRZ rtRE; rw [if_pos h, if_pos h, if_pos hs, if_pos hs, rt_mag hz]; exact ⟨rfl, rfl⟩
theorem rtR_neg {S : Int} {xs : List Int} (h : isW S xs = true) (hs : ¬ 0 ≤ S) : rtRZ S xs = 0 ∧ rtRE S xs = 5 := by
  unfold rtRZ rtRE; rw [if_pos h, if_pos h, if_neg hs, if_neg hs]; exact ⟨rfl, rfl⟩
theorem rtR_no {S : Int} {xs : List Int} (h : isW S xs = false) : rtRZ S xs = 0 ∧ rtRE S xs = 1 := by
  unfold rtRZ rtRE; rw [h]; exact ⟨rfl, rfl⟩
theorem rtR_len (S : Int) (xs : List Int) : (limbs (rtRZ S xs).natAbs).length ≤ 100 := by
  unfold rtRZ
  split
  · rename_i h
    split
    · obtain ⟨z, hz⟩ := okW_iff.1 (okW_of h)
      have hl : (limbs z.natAbs).length = xs.length := by rw [hz.2.1, li_len]
      rw [rt_mag hz, Int.natAbs_natCast]
      have h1 := limbs_len_mono (rt_le z.natAbs)
      have h2 := hz.2.2
      omega
    · simp [limbs_zero]
  · simp [limbs_zero]
theorem root_nonneg {w : World} {z S : Int} {A : Option Addr} {n c : Nat} (h : ZV w z S A n c) (hs : 0 ≤ S) : ZV w ((z.natAbs : Nat) : Int) S A n c := by
  refine h.cast_ ?_
  have h1 := h.1
  rcases Int.lt_or_le z 0 with hz | hz
  · rw [Int.sign_eq_neg_one_of_neg hz] at h1; omega
  · omega

set_option maxHeartbeats 4000000 in
theorem implRootW_any (S : Int) (A : Option Addr) (n c : Nat) (xs : List Int) (w : World) (hr : Rd w w.heap.size A (vi xs)) (hn : xs.length = n) (hm : n ≤ 1048580) (hc : n ≤ c) :
    Calls Try.prog 15 #[.agg #[.int .i64 S, .slice A n c]] w fun e w' => ∃ val, e = .returned (.tuple #[val, .int .i64 (rtRE S xs)]) ∧ Wz w' w.heap.size w'.heap.size (rtRZ S xs) val ∧ Below w.heap.size w w' := by
  have hst := store_int Try.prog
  have hst2 := store_slice Try.prog
  obtain ⟨w1, hw1, hb1, hb3, hb4⟩ := box_res w S A n c 26 26
  have Hr := Lib.hid hr
  have Hn := Lib.hid hn
  have Hm := Lib.hid hm
  have Hc := Lib.hid hc
  have Hw := Lib.hid hw1
  have Bx1 := Lib.hid hb1
  have Rs1 := Lib.hid hb3
  have Bel1 := Lib.hid hb4
  have Hlt : Hid (w.heap.size + 1 < w1.heap.size) := Lib.hid hb3.2
  clear hr hn hw1 hb1 hb3 hb4 hc
  go_enter Try.func15, Try.ntmps15
  go_wp2_with fail
  rw [← Hw.out]
  obtain ⟨⟨hBx0, hBx1⟩, hBx2⟩ := Bx1.out
  obtain ⟨⟨hRs0, hRs1, hRs2, hRs3⟩, hRs4⟩ := Rs1.out
  refine (implIsW_any S A n c xs _ ((Hr.out.below Bel1.out).up Bel1.out.size) Hn.out Hm.out).mono ?_
  rintro e w2 ⟨rfl, hb⟩
  have Sz2 := Lib.hid (Below.size hb)
  have Bel2 := Lib.hid (belNext Bel1.out hb)
  have Bx2 := Lib.hid (Bx1.out.next hb)
  have Rs2 := Lib.hid (Rs1.out.next hb)
  clear hb Bel1 Bx1 Rs1 hBx0 hBx1 hBx2 hRs0 hRs1 hRs2 hRs3 hRs4
  obtain ⟨⟨hBx0, hBx1⟩, hBx2⟩ := Bx2.out
  obtain ⟨⟨hRs0, hRs1, hRs2, hRs3⟩, hRs4⟩ := Rs2.out
  by_cases hW : isW S xs = true
  · have HW := Lib.hid hW
    rw [hW]
    clear hW
    by_cases hs : 0 ≤ S
    · obtain ⟨z, hz, hzv, hn100⟩ := isW_data HW.out Hr.out Hn.out Hc.out
      have Hres := Lib.hid (rtR_yes HW.out hz hs)
      have Hz := Lib.hid (root_nonneg hzv hs)
      have hk4 : decide (S < 0) = false := decide_eq_false (by omega)
      have Hln : Hid ((limbs z.natAbs).length = n) := Lib.hid hzv.2.1
      obtain ⟨v, hv⟩ : ∃ v, v = z.natAbs := ⟨_, rfl⟩
      rw [← hv] at Hres Hz Hln
      clear hz hzv hs hv z
      go_wp2_with fail
      refine (natRoot_any v A n c _ _ (by have h := (Hz.out.next Bel2.out).rd; simpa using h) (Nat.le_refl _) Hln.out (by omega)).mono ?_
      rintro e w3 ⟨A2, c2, rfl, ho, hcap, hb⟩
      obtain ⟨q, hq⟩ : ∃ q, q = rt v := ⟨_, rfl⟩
      rw [← hq] at ho hcap ⊢
      obtain ⟨nr, hnr⟩ : ∃ nr, nr = (limbs q).length := ⟨_, rfl⟩
      rw [← hnr] at hcap ⊢
      have Oz := Lib.hid ho
      have Hcap := Lib.hid hcap
      have Hq := Lib.hid hq
      have Hnr := Lib.hid hnr
      clear ho hcap hq hnr
      have Sz3 := Lib.hid (Below.size hb)
      have Bel3 := Lib.hid (belNext Bel2.out hb)
      have Bx3 := Lib.hid (Bx2.out.next hb)
      have Rs3 := Lib.hid (Rs2.out.next hb)
      clear hb Bel2 Bx2 Rs2 hBx0 hBx1 hBx2 hRs0 hRs1 hRs2 hRs3 hRs4
      obtain ⟨⟨hBx0, hBx1⟩, hBx2⟩ := Bx3.out
      obtain ⟨⟨hRs0, hRs1, hRs2, hRs3⟩, hRs4⟩ := Rs3.out
      go_wp2_with fail
      refine (signed_any 1 q A2 nr c2 _ _ _ Oz.out Hnr.out.symm (by have h := limbs_len_mono (rt_le v); have := Hln.out; have h2 := Hnr.out; rw [Hq.out] at h2; omega) Hcap.out).mono ?_
      rintro e w4 ⟨val, rfl, hv, hb⟩
      obtain ⟨S9, A9, n9, c9, rfl, hzo⟩ := Wz.zo (((hv.z (.inl rfl)).wide (Nat.le_refl _) hb.size).cast_ (z' := (rt v : Int)) (by rw [Hq.out, Int.one_mul])) (Nat.le_refl _)
      have Zp4 := Lib.hid hzo
      clear hv hzo
      have Sz4 := Lib.hid (Below.size hb)
      have Bel4 := Lib.hid (belNext Bel3.out hb)
      have Bx4 := Lib.hid (Bx3.out.next hb)
      have Rs4 := Lib.hid (Rs3.out.next hb)
      clear hb Bel3 Bx3 Rs3 hBx0 hBx1 hBx2 hRs0 hRs1 hRs2 hRs3 hRs4
      obtain ⟨⟨hBx0, hBx1⟩, hBx2⟩ := Bx4.out
      obtain ⟨⟨hRs0, hRs1, hRs2, hRs3⟩, hRs4⟩ := Rs4.out
      go_wp2_with fail
      refine bodyPost_ret (v := .tuple #[.agg #[.int .i64 S9, .slice A9 n9 c9], .int .i64 0]) (by simp [results, Try.results15, go_sem, hRs0, hRs1]) rfl ⟨_, ret_val Hres.out.2.symm rfl, ?_, ?_⟩
      · rw [Hres.out.1]; exact (((Zp4.out.setCell (.inl (by have zz0 := Hlt.out; have zz1 := Sz2.out; have zz2 := Sz3.out; have zz3 := Sz4.out; first | omega | (simp; done) | (simp; omega))) _).setCell (.inl (by have zz0 := Hlt.out; have zz1 := Sz2.out; have zz2 := Sz3.out; have zz3 := Sz4.out; first | omega | (simp; done) | (simp; omega))) _).wide (by have zz0 := Hlt.out; have zz1 := Sz2.out; have zz2 := Sz3.out; have zz3 := Sz4.out; first | omega | (simp; done) | (simp; omega)) (by have zz0 := Hlt.out; have zz1 := Sz2.out; have zz2 := Sz3.out; have zz3 := Sz4.out; first | omega | (simp; done) | (simp; omega)) (by have zz0 := Hlt.out; have zz1 := Sz2.out; have zz2 := Sz3.out; have zz3 := Sz4.out; first | omega | (simp; done) | (simp; omega))).wz
      · exact (Bel4.out.setCell (by have zz0 := Hlt.out; have zz1 := Sz2.out; have zz2 := Sz3.out; have zz3 := Sz4.out; first | omega | (simp; done) | (simp; omega)) _).setCell (by have zz0 := Hlt.out; have zz1 := Sz2.out; have zz2 := Sz3.out; have zz3 := Sz4.out; first | omega | (simp; done) | (simp; omega)) _
    · have Hres := Lib.hid (rtR_neg HW.out hs)
      have hk4 : decide (S < 0) = true := decide_eq_true (by omega)
      clear hs
      go_wp2_with fail
      refine bodyPost_ret (v := .tuple #[.agg #[.int .i64 0, .slice none 0 0], .int .i64 5]) (by simp [results, Try.results15, go_sem, hRs0, hRs1]) rfl ⟨_, ret_val (by rw [Hres.out.2]) rfl, ?_, ?_⟩
      · rw [Hres.out.1]; exact Wz.zero_ _ _ _
      · exact (Bel2.out.setCell (by have zz0 := Hlt.out; have zz1 := Sz2.out; first | omega | (simp; done) | (simp; omega)) _).setCell (by have zz0 := Hlt.out; have zz1 := Sz2.out; first | omega | (simp; done) | (simp; omega)) _
  · have hW2 : isW S xs = false := by simpa using hW
    have Hres := Lib.hid (rtR_no hW2)
    rw [hW2]
    clear hW hW2
    go_wp2_with fail
    refine bodyPost_ret (v := .tuple #[.agg #[.int .i64 0, .slice none 0 0], .int .i64 1]) (by simp [results, Try.results15, go_sem, hRs0, hRs1]) rfl ⟨_, ret_val (by rw [Hres.out.2]) rfl, ?_, ?_⟩
    · rw [Hres.out.1]; exact Wz.zero_ _ _ _
    · exact (Bel2.out.setCell (by have zz0 := Hlt.out; have zz1 := Sz2.out; first | omega | (simp; done) | (simp; omega)) _).setCell (by have zz0 := Hlt.out; have zz1 := Sz2.out; first | omega | (simp; done) | (simp; omega)) _

set_option maxHeartbeats 4000000 in
theorem specRootW_any (S : Int) (A : Option Addr) (n c : Nat) (xs : List Int) (w : World) (hr : Rd w w.heap.size A (vi xs)) (hn : xs.length = n) (hm : n ≤ 1048580) (hc : n ≤ c) :
    Calls Try.prog 14 #[.agg #[.int .i64 S, .slice A n c]] w fun e w' => ∃ val, e = .returned (.tuple #[val, .int .i64 (rtRE S xs)]) ∧ Wz w' w.heap.size w'.heap.size (rtRZ S xs) val ∧ Below w.heap.size w w' := by
  have hst := store_int Try.prog
  have hst2 := store_slice Try.prog
  obtain ⟨w1, hw1, hb1, hb3, hb4⟩ := box_res w S A n c 26 26
  have Hr := Lib.hid hr
  have Hn := Lib.hid hn
  have Hm := Lib.hid hm
  have Hc := Lib.hid hc
  have Hw := Lib.hid hw1
  have Bx1 := Lib.hid hb1
  have Rs1 := Lib.hid hb3
  have Bel1 := Lib.hid hb4
  have Hlt : Hid (w.heap.size + 1 < w1.heap.size) := Lib.hid hb3.2
  clear hr hn hw1 hb1 hb3 hb4 hc
  go_enter Try.func14, Try.ntmps14
  go_wp2_with fail
  rw [← Hw.out]
  obtain ⟨⟨hBx0, hBx1⟩, hBx2⟩ := Bx1.out
  obtain ⟨⟨hRs0, hRs1, hRs2, hRs3⟩, hRs4⟩ := Rs1.out
  refine (specIs_any S A n c xs _ ((Hr.out.below Bel1.out).up Bel1.out.size) Hn.out Hm.out).mono ?_
  rintro e w2 ⟨rfl, hb⟩
  have Sz2 := Lib.hid (Below.size hb)
  have Bel2 := Lib.hid (belNext Bel1.out hb)
  have Bx2 := Lib.hid (Bx1.out.next hb)
  have Rs2 := Lib.hid (Rs1.out.next hb)
  clear hb Bel1 Bx1 Rs1 hBx0 hBx1 hBx2 hRs0 hRs1 hRs2 hRs3 hRs4
  obtain ⟨⟨hBx0, hBx1⟩, hBx2⟩ := Bx2.out
  obtain ⟨⟨hRs0, hRs1, hRs2, hRs3⟩, hRs4⟩ := Rs2.out
  by_cases hW : isW S xs = true
  · have HW := Lib.hid hW
    rw [hW]
    clear hW
    by_cases hs : 0 ≤ S
    · obtain ⟨z, hz, hzv, hn100⟩ := isW_data HW.out Hr.out Hn.out Hc.out
      have Hres := Lib.hid (rtR_yes HW.out hz hs)
      have Hz := Lib.hid (root_nonneg hzv hs)
      have hk4 : decide (S < 0) = false := decide_eq_false (by omega)
      have Hln : Hid ((limbs z.natAbs).length = n) := Lib.hid hzv.2.1
      obtain ⟨v, hv⟩ : ∃ v, v = z.natAbs := ⟨_, rfl⟩
      rw [← hv] at Hres Hz Hln
      clear hz hzv hs hv z
      go_wp2_with fail
      refine (specRoot_any v S A n c _ (Hz.out.next Bel2.out) (by omega)).mono ?_
      rintro e w3 ⟨S9, A9, n9, c9, rfl, hzo, hb⟩
      have Zp3 := Lib.hid hzo
      clear hzo
      have Sz3 := Lib.hid (Below.size hb)
      have Bel3 := Lib.hid (belNext Bel2.out hb)
      have Bx3 := Lib.hid (Bx2.out.next hb)
      have Rs3 := Lib.hid (Rs2.out.next hb)
      clear hb Bel2 Bx2 Rs2 hBx0 hBx1 hBx2 hRs0 hRs1 hRs2 hRs3 hRs4
      obtain ⟨⟨hBx0, hBx1⟩, hBx2⟩ := Bx3.out
      obtain ⟨⟨hRs0, hRs1, hRs2, hRs3⟩, hRs4⟩ := Rs3.out
      go_wp2_with fail
      refine bodyPost_ret (v := .tuple #[.agg #[.int .i64 S9, .slice A9 n9 c9], .int .i64 0]) (by simp [results, Try.results14, go_sem, hRs0, hRs1]) rfl ⟨_, ret_val Hres.out.2.symm rfl, ?_, ?_⟩
      · rw [Hres.out.1]; exact (((Zp3.out.setCell (.inl (by have zz0 := Hlt.out; have zz1 := Sz2.out; have zz2 := Sz3.out; first | omega | (simp; done) | (simp; omega))) _).setCell (.inl (by have zz0 := Hlt.out; have zz1 := Sz2.out; have zz2 := Sz3.out; first | omega | (simp; done) | (simp; omega))) _).wide (by have zz0 := Hlt.out; have zz1 := Sz2.out; have zz2 := Sz3.out; first | omega | (simp; done) | (simp; omega)) (by have zz0 := Hlt.out; have zz1 := Sz2.out; have zz2 := Sz3.out; first | omega | (simp; done) | (simp; omega)) (by have zz0 := Hlt.out; have zz1 := Sz2.out; have zz2 := Sz3.out; first | omega | (simp; done) | (simp; omega))).wz
      · exact (Bel3.out.setCell (by have zz0 := Hlt.out; have zz1 := Sz2.out; have zz2 := Sz3.out; first | omega | (simp; done) | (simp; omega)) _).setCell (by have zz0 := Hlt.out; have zz1 := Sz2.out; have zz2 := Sz3.out; first | omega | (simp; done) | (simp; omega)) _
    · have Hres := Lib.hid (rtR_neg HW.out hs)
      have hk4 : decide (S < 0) = true := decide_eq_true (by omega)
      clear hs
      go_wp2_with fail
      refine bodyPost_ret (v := .tuple #[.agg #[.int .i64 0, .slice none 0 0], .int .i64 5]) (by simp [results, Try.results14, go_sem, hRs0, hRs1]) rfl ⟨_, ret_val (by rw [Hres.out.2]) rfl, ?_, ?_⟩
      · rw [Hres.out.1]; exact Wz.zero_ _ _ _
      · exact (Bel2.out.setCell (by have zz0 := Hlt.out; have zz1 := Sz2.out; first | omega | (simp; done) | (simp; omega)) _).setCell (by have zz0 := Hlt.out; have zz1 := Sz2.out; first | omega | (simp; done) | (simp; omega)) _
  · have hW2 : isW S xs = false := by simpa using hW
    have Hres := Lib.hid (rtR_no hW2)
    rw [hW2]
    clear hW hW2
    go_wp2_with fail
    refine bodyPost_ret (v := .tuple #[.agg #[.int .i64 0, .slice none 0 0], .int .i64 1]) (by simp [results, Try.results14, go_sem, hRs0, hRs1]) rfl ⟨_, ret_val (by rw [Hres.out.2]) rfl, ?_, ?_⟩
    · rw [Hres.out.1]; exact Wz.zero_ _ _ _
    · exact (Bel2.out.setCell (by have zz0 := Hlt.out; have zz1 := Sz2.out; first | omega | (simp; done) | (simp; omega)) _).setCell (by have zz0 := Hlt.out; have zz1 := Sz2.out; first | omega | (simp; done) | (simp; omega)) _

end Go.Proofs.Ytnnoobdcdfcdaaa
