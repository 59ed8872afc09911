/- ShiftWhole and MakeDyadic, of the program and of the model. -/
import Derived.Test.YtnnoobdcdfcdaaaDoorHi
namespace Go.Proofs.YtnnoobdcdfcdaaaDoor
set_option maxRecDepth 100000
open Go.RowKit
set_option linter.unusedSimpArgs false
set_option linter.unusedVariables false

theorem val_isZ {z S : Int} {xs : List Int} (hz : isZ z S xs) : S * (magW S xs : Int) = z := by
  obtain ⟨v, h1, h2, _⟩ := okW_limbs (isW_true (okW_iff.2 ⟨z, hz⟩))
  have h3 : limbs z.natAbs = limbs v := by
    have := congrArg nats (hz.2.1.symm.trans h1)
    rwa [nats_li, nats_li] at this
  rw [h2, ← limbs_inj h3, hz.1, Int.sign_mul_natAbs]
theorem shr_abs (z : Int) (m : Nat) : (z / (2 : Int) ^ m).natAbs ≤ z.natAbs := by
  rcases Int.lt_or_le z 0 with h | h
  · conv => lhs; rw [neg_of h]
    rw [shr_neg]
    have h1 : z.natAbs / 2 ^ m ≤ z.natAbs := Nat.div_le_self _ _
    by_cases h0 : z.natAbs % 2 ^ m = 0
    · rw [if_pos h0]; generalize z.natAbs / 2 ^ m = q at *; omega
    · rw [if_neg h0]
      have h2 : 2 ^ m ≠ 1 := fun e => by rw [e] at h0; omega
      have h3 := Nat.two_pow_pos m
      have h4 : z.natAbs / 2 ^ m < z.natAbs := Nat.div_lt_self (by omega) (by omega)
      clear h0 h2 h3
      generalize z.natAbs / 2 ^ m = q at *
      omega
  · have e : z = ((z.natAbs : Nat) : Int) := by omega
    conv => lhs; rw [e]
    rw [shr_pos]
    have h1 : z.natAbs / 2 ^ m ≤ z.natAbs := Nat.div_le_self _ _
    generalize z.natAbs / 2 ^ m = q at *
    omega
theorem shZ_len {z k : Int} {n : Nat} (hn : (limbs z.natAbs).length = n) (hk : k ≤ 100000) : (limbs (shZ z k).natAbs).length ≤ n + 4170 := by
  by_cases h : 0 ≤ k
  · rw [shZ_up h, abs_pow_mul]
    have := shl_len hn k.toNat
    omega
  · rw [shZ_down (by omega)]
    have := limbs_len_mono (shr_abs z (-k).toNat)
    omega
/-- what ShiftWhole gives -/
noncomputable def shRZ (S : Int) (xs : List Int) (k : Int) : Int := if isW S xs = true then if -5000 ≤ k ∧ k ≤ 5000 then fitZ (shZ (S * magW S xs) k) else 0 else 0
noncomputable def shRE (S : Int) (xs : List Int) (k : Int) : Int := if isW S xs = true then if -5000 ≤ k ∧ k ≤ 5000 then fitE (shZ (S * magW S xs) k) else 2 else 1
theorem shR_yes {S z k : Int} {xs : List Int} (h : isW S xs = true) (hz : isZ z S xs) (hk : -5000 ≤ k ∧ k ≤ 5000) : shRZ S xs k = fitZ (shZ z k) ∧ shRE S xs k = fitE (shZ z k) := by
  unfold shRZ shRE; rw [if_pos h, if_pos h, if_pos hk, if_pos hk, val_isZ hz]; exact ⟨rfl, rfl⟩
theorem shR_range {S k : Int} {xs : List Int} (h : isW S xs = true) (hk : ¬ (-5000 ≤ k ∧ k ≤ 5000)) : shRZ S xs k = 0 ∧ shRE S xs k = 2 := by
  unfold shRZ shRE; rw [if_pos h, if_pos h, if_neg hk, if_neg hk]; exact ⟨rfl, rfl⟩
theorem shR_no {S k : Int} {xs : List Int} (h : isW S xs = false) : shRZ S xs k = 0 ∧ shRE S xs k = 1 := by
  unfold shRZ shRE; rw [h]; exact ⟨rfl, rfl⟩
theorem shR_len (S : Int) (xs : List Int) (k : Int) : (limbs (shRZ S xs k).natAbs).length ≤ 100 := by
  unfold shRZ
  split
  · split
    · exact fit_len _
    · simp [limbs_zero]
  · simp [limbs_zero]
/-- what MakeDyadic gives -/
noncomputable def mkRZ (S : Int) (xs : List Int) (k : Int) : Int := if isW S xs = true then if -6000 ≤ k ∧ k ≤ 6000 then fdZ (S * magW S xs) k else 0 else 0
noncomputable def mkRX (S : Int) (xs : List Int) (k : Int) : Int := if isW S xs = true then if -6000 ≤ k ∧ k ≤ 6000 then fdX (S * magW S xs) k else 0 else 0
noncomputable def mkRE (S : Int) (xs : List Int) (k : Int) : Int := if isW S xs = true then if -6000 ≤ k ∧ k ≤ 6000 then fdE (S * magW S xs) k else 2 else 1
theorem mkR_yes {S z k : Int} {xs : List Int} (h : isW S xs = true) (hz : isZ z S xs) (hk : -6000 ≤ k ∧ k ≤ 6000) : mkRZ S xs k = fdZ z k ∧ mkRX S xs k = fdX z k ∧ mkRE S xs k = fdE z k := by
  unfold mkRZ mkRX mkRE; rw [if_pos h, if_pos h, if_pos h, if_pos hk, if_pos hk, if_pos hk, val_isZ hz]; exact ⟨rfl, rfl, rfl⟩
theorem mkR_range {S k : Int} {xs : List Int} (h : isW S xs = true) (hk : ¬ (-6000 ≤ k ∧ k ≤ 6000)) : mkRZ S xs k = 0 ∧ mkRX S xs k = 0 ∧ mkRE S xs k = 2 := by
  unfold mkRZ mkRX mkRE; rw [if_pos h, if_pos h, if_pos h, if_neg hk, if_neg hk, if_neg hk]; exact ⟨rfl, rfl, rfl⟩
theorem mkR_no {S k : Int} {xs : List Int} (h : isW S xs = false) : mkRZ S xs k = 0 ∧ mkRX S xs k = 0 ∧ mkRE S xs k = 1 := by
  unfold mkRZ mkRX mkRE; rw [h]; exact ⟨rfl, rfl, rfl⟩
theorem mkR_len (S : Int) (xs : List Int) (k : Int) : (limbs (mkRZ S xs k).natAbs).length ≤ 100 := by
  unfold mkRZ
  split
  · split
    · exact fd_len _ _
    · simp [limbs_zero]
  · simp [limbs_zero]

theorem nz_le (z : Int) : (nz z).natAbs ≤ z.natAbs := by rw [(nz_facts z).2]; exact Nat.div_le_self _ _

set_option maxHeartbeats 4000000 in
theorem implShiftW_any (S : Int) (A : Option Addr) (n c : Nat) (xs : List Int) (k : Int) (w : World) (hr : Rd w w.heap.size A (vi xs)) (hn : xs.length = n) (hm : n ≤ 1048580) (hc : n ≤ c) (hT : TabZ w) :
    Calls Tryd.prog 18 #[.agg #[.int .i64 S, .slice A n c], .int .i64 k] w fun e w' => ∃ val, e = .returned (.tuple #[val, .int .i64 (shRE S xs k)]) ∧ Wz w' w.heap.size w'.heap.size (shRZ S xs k) val ∧ Below w.heap.size w w' := by
  have hst := store_int Tryd.prog
  have hst2 := store_slice Tryd.prog
  obtain ⟨w1, hw1, hb1, hb3, hb4⟩ := box_res w S A n c 26 26
  have Hr := Lib.hid hr
  have Hn := Lib.hid hn
  have Hm := Lib.hid hm
  have Hc := Lib.hid hc
  have Hw := Lib.hid hw1
  have Bx1 := Lib.hid hb1
  have Rs1 := Lib.hid hb3
  have Bel1 := Lib.hid hb4
  have Hlt : Hid (w.heap.size + 1 < w1.heap.size) := Lib.hid hb3.2
  clear hr hn hw1 hb1 hb3 hb4 hc
  have HT := Lib.hid hT
  clear hT
  go_enter Tryd.func18, Tryd.ntmps18
  go_wp2_with fail
  rw [← Hw.out]
  obtain ⟨⟨hBx0, hBx1⟩, hBx2⟩ := Bx1.out
  obtain ⟨⟨hRs0, hRs1, hRs2, hRs3⟩, hRs4⟩ := Rs1.out
  refine (implIsW_any S A n c xs _ ((Hr.out.below Bel1.out).up Bel1.out.size) Hn.out Hm.out).mono ?_
  rintro e w2 ⟨rfl, hb⟩
  have Sz2 := Lib.hid (Below.size hb)
  have Bel2 := Lib.hid (belNext Bel1.out hb)
  have Bx2 := Lib.hid (Bx1.out.next hb)
  have Rs2 := Lib.hid (Rs1.out.next hb)
  clear hb Bel1 Bx1 Rs1 hBx0 hBx1 hBx2 hRs0 hRs1 hRs2 hRs3 hRs4
  obtain ⟨⟨hBx0, hBx1⟩, hBx2⟩ := Bx2.out
  obtain ⟨⟨hRs0, hRs1, hRs2, hRs3⟩, hRs4⟩ := Rs2.out
  by_cases hW : isW S xs = true
  · have HW := Lib.hid hW
    rw [hW]
    clear hW
    by_cases hk : -5000 ≤ k ∧ k ≤ 5000
    · obtain ⟨z, hz, hzv, hn100⟩ := isW_data HW.out Hr.out Hn.out Hc.out
      have Hres := Lib.hid (shR_yes HW.out hz hk)
      have Hz := Lib.hid hzv
      obtain ⟨hk1, hk2⟩ := hk
      clear hz hzv
      have hk4 : decide (k < -5000) = false := decide_eq_false (by omega)
      have hk5 : decide (5000 < k) = false := decide_eq_false (by omega)
      go_wp2_with fail
      refine (implShifted_any z S k A n c _ (Hz.out.next Bel2.out) (by omega) (by omega) (by omega) (HT.out.next Bel2.out)).mono ?_
      rintro e w3 ⟨S2, A2, n2, c2, rfl, hzo, hb⟩
      have Zo3 := Lib.hid hzo
      clear hzo
      have Sz3 := Lib.hid (Below.size hb)
      have Bel3 := Lib.hid (belNext Bel2.out hb)
      have Bx3 := Lib.hid (Bx2.out.next hb)
      have Rs3 := Lib.hid (Rs2.out.next hb)
      clear hb Bel2 Bx2 Rs2 hBx0 hBx1 hBx2 hRs0 hRs1 hRs2 hRs3 hRs4
      obtain ⟨⟨hBx0, hBx1⟩, hBx2⟩ := Bx3.out
      obtain ⟨⟨hRs0, hRs1, hRs2, hRs3⟩, hRs4⟩ := Rs3.out
      go_wp2_with fail
      refine (implLim_any (shZ z k) S2 A2 n2 c2 _ _ _ Zo3.out.2.2.2.1 Zo3.out.2.2.2.2 Zo3.out.1 Zo3.out.2.1 Zo3.out.2.2.1 (by have h := shZ_len (k := k) Hz.out.2.1 (by omega); rw [Zo3.out.2.1] at h; omega)).mono ?_
      rintro e w4 ⟨val, rfl, hv, hb⟩
      have Zp4 := Lib.hid hv
      clear hv
      obtain ⟨A9, c9, hval, _⟩ := Zp4.out
      subst hval
      have Sz4 := Lib.hid (Below.size hb)
      have Bel4 := Lib.hid (belNext Bel3.out hb)
      have Bx4 := Lib.hid (Bx3.out.next hb)
      have Rs4 := Lib.hid (Rs3.out.next hb)
      clear hb Bel3 Bx3 Rs3 hBx0 hBx1 hBx2 hRs0 hRs1 hRs2 hRs3 hRs4
      obtain ⟨⟨hBx0, hBx1⟩, hBx2⟩ := Bx4.out
      obtain ⟨⟨hRs0, hRs1, hRs2, hRs3⟩, hRs4⟩ := Rs4.out
      go_wp2_with fail
      refine bodyPost_ret (v := .tuple #[.agg #[.int .i64 (fitZ (shZ z k)).sign, .slice A9 (limbs (fitZ (shZ z k)).natAbs).length c9], .int .i64 (fitE (shZ z k))]) (by simp [results, Tryd.results18, go_sem, hRs0, hRs1]) rfl ⟨_, ret_val Hres.out.2.symm rfl, ?_, ?_⟩
      · rw [Hres.out.1]; exact ((Zp4.out.setCell (by have zz0 := Hlt.out; have zz1 := Sz2.out; have zz2 := Sz3.out; have zz3 := Sz4.out; first | omega | (simp; done) | (simp; omega)) _).setCell (by have zz0 := Hlt.out; have zz1 := Sz2.out; have zz2 := Sz3.out; have zz3 := Sz4.out; first | omega | (simp; done) | (simp; omega)) _).wide (by have zz0 := Hlt.out; have zz1 := Sz2.out; have zz2 := Sz3.out; have zz3 := Sz4.out; first | omega | (simp; done) | (simp; omega)) (by have zz0 := Hlt.out; have zz1 := Sz2.out; have zz2 := Sz3.out; have zz3 := Sz4.out; first | omega | (simp; done) | (simp; omega))
      · exact (Bel4.out.setCell (by have zz0 := Hlt.out; have zz1 := Sz2.out; have zz2 := Sz3.out; have zz3 := Sz4.out; first | omega | (simp; done) | (simp; omega)) _).setCell (by have zz0 := Hlt.out; have zz1 := Sz2.out; have zz2 := Sz3.out; have zz3 := Sz4.out; first | omega | (simp; done) | (simp; omega)) _
    · have Hres := Lib.hid (shR_range HW.out hk)
      by_cases hk3 : k < -5000
      · have hk4 : decide (k < -5000) = true := decide_eq_true hk3
        clear hk
        go_wp2_with fail
        refine bodyPost_ret (v := .tuple #[.agg #[.int .i64 0, .slice none 0 0], .int .i64 2]) (by simp [results, Tryd.results18, go_sem, hRs0, hRs1]) rfl ⟨_, ret_val (by rw [Hres.out.2]) rfl, ?_, ?_⟩
        · rw [Hres.out.1]; exact Wz.zero_ _ _ _
        · exact (Bel2.out.setCell (by have zz0 := Hlt.out; have zz1 := Sz2.out; first | omega | (simp; done) | (simp; omega)) _).setCell (by have zz0 := Hlt.out; have zz1 := Sz2.out; first | omega | (simp; done) | (simp; omega)) _
      · have hk4 : decide (k < -5000) = false := decide_eq_false hk3
        have hk5 : decide (5000 < k) = true := decide_eq_true (by omega)
        clear hk
        go_wp2_with fail
        refine bodyPost_ret (v := .tuple #[.agg #[.int .i64 0, .slice none 0 0], .int .i64 2]) (by simp [results, Tryd.results18, go_sem, hRs0, hRs1]) rfl ⟨_, ret_val (by rw [Hres.out.2]) rfl, ?_, ?_⟩
        · rw [Hres.out.1]; exact Wz.zero_ _ _ _
        · exact (Bel2.out.setCell (by have zz0 := Hlt.out; have zz1 := Sz2.out; first | omega | (simp; done) | (simp; omega)) _).setCell (by have zz0 := Hlt.out; have zz1 := Sz2.out; first | omega | (simp; done) | (simp; omega)) _
  · have hW2 : isW S xs = false := by simpa using hW
    have Hres := Lib.hid (shR_no (k := k) hW2)
    rw [hW2]
    clear hW hW2
    go_wp2_with fail
    refine bodyPost_ret (v := .tuple #[.agg #[.int .i64 0, .slice none 0 0], .int .i64 1]) (by simp [results, Tryd.results18, go_sem, hRs0, hRs1]) rfl ⟨_, ret_val (by rw [Hres.out.2]) rfl, ?_, ?_⟩
    · rw [Hres.out.1]; exact Wz.zero_ _ _ _
    · exact (Bel2.out.setCell (by have zz0 := Hlt.out; have zz1 := Sz2.out; first | omega | (simp; done) | (simp; omega)) _).setCell (by have zz0 := Hlt.out; have zz1 := Sz2.out; first | omega | (simp; done) | (simp; omega)) _

set_option maxHeartbeats 4000000 in
theorem specShiftW_any (S : Int) (A : Option Addr) (n c : Nat) (xs : List Int) (k : Int) (w : World) (hr : Rd w w.heap.size A (vi xs)) (hn : xs.length = n) (hm : n ≤ 1048580) (hc : n ≤ c) :
    Calls Tryd.prog 16 #[.agg #[.int .i64 S, .slice A n c], .int .i64 k] w fun e w' => ∃ val, e = .returned (.tuple #[val, .int .i64 (shRE S xs k)]) ∧ Wz w' w.heap.size w'.heap.size (shRZ S xs k) val ∧ Below w.heap.size w w' := by
  have hst := store_int Tryd.prog
  have hst2 := store_slice Tryd.prog
  obtain ⟨w1, hw1, hb1, hb3, hb4⟩ := box_res w S A n c 26 26
  have Hr := Lib.hid hr
  have Hn := Lib.hid hn
  have Hm := Lib.hid hm
  have Hc := Lib.hid hc
  have Hw := Lib.hid hw1
  have Bx1 := Lib.hid hb1
  have Rs1 := Lib.hid hb3
  have Bel1 := Lib.hid hb4
  have Hlt : Hid (w.heap.size + 1 < w1.heap.size) := Lib.hid hb3.2
  clear hr hn hw1 hb1 hb3 hb4 hc
  go_enter Tryd.func16, Tryd.ntmps16
  go_wp2_with fail
  rw [← Hw.out]
  obtain ⟨⟨hBx0, hBx1⟩, hBx2⟩ := Bx1.out
  obtain ⟨⟨hRs0, hRs1, hRs2, hRs3⟩, hRs4⟩ := Rs1.out
  refine (specIs_any S A n c xs _ ((Hr.out.below Bel1.out).up Bel1.out.size) Hn.out Hm.out).mono ?_
  rintro e w2 ⟨rfl, hb⟩
  have Sz2 := Lib.hid (Below.size hb)
  have Bel2 := Lib.hid (belNext Bel1.out hb)
  have Bx2 := Lib.hid (Bx1.out.next hb)
  have Rs2 := Lib.hid (Rs1.out.next hb)
  clear hb Bel1 Bx1 Rs1 hBx0 hBx1 hBx2 hRs0 hRs1 hRs2 hRs3 hRs4
  obtain ⟨⟨hBx0, hBx1⟩, hBx2⟩ := Bx2.out
  obtain ⟨⟨hRs0, hRs1, hRs2, hRs3⟩, hRs4⟩ := Rs2.out
  by_cases hW : isW S xs = true
  · have HW := Lib.hid hW
    rw [hW]
    clear hW
    by_cases hk : -5000 ≤ k ∧ k ≤ 5000
    · obtain ⟨z, hz, hzv, hn100⟩ := isW_data HW.out Hr.out Hn.out Hc.out
      have Hres := Lib.hid (shR_yes HW.out hz hk)
      have Hz := Lib.hid hzv
      obtain ⟨hk1, hk2⟩ := hk
      clear hz hzv
      go_wp2_with fail
      refine (in_any k (-5000) 5000 _).mono ?_
      rintro e w9 ⟨rfl, rfl⟩
      have hin : decide (-5000 ≤ k ∧ k ≤ 5000) = true := decide_eq_true ⟨hk1, hk2⟩
      rw [hin]
      clear hin
      go_wp2_with fail
      refine (specShift_any z S k A n c _ (Hz.out.next Bel2.out) (by omega) (by omega) (by omega)).mono ?_
      rintro e w3 ⟨S2, A2, n2, c2, rfl, hzo, hb⟩
      have Zo3 := Lib.hid hzo
      clear hzo
      have Sz3 := Lib.hid (Below.size hb)
      have Bel3 := Lib.hid (belNext Bel2.out hb)
      have Bx3 := Lib.hid (Bx2.out.next hb)
      have Rs3 := Lib.hid (Rs2.out.next hb)
      clear hb Bel2 Bx2 Rs2 hBx0 hBx1 hBx2 hRs0 hRs1 hRs2 hRs3 hRs4
      obtain ⟨⟨hBx0, hBx1⟩, hBx2⟩ := Bx3.out
      obtain ⟨⟨hRs0, hRs1, hRs2, hRs3⟩, hRs4⟩ := Rs3.out
      go_wp2_with fail
      refine (specFit_any (shZ z k) S2 A2 n2 c2 _ _ _ Zo3.out.2.2.2.1 Zo3.out.2.2.2.2 Zo3.out.1 Zo3.out.2.1 Zo3.out.2.2.1 (by have h := shZ_len (k := k) Hz.out.2.1 (by omega); rw [Zo3.out.2.1] at h; omega)).mono ?_
      rintro e w4 ⟨val, rfl, hv, hb⟩
      have Zp4 := Lib.hid hv
      clear hv
      obtain ⟨A9, c9, hval, _⟩ := Zp4.out
      subst hval
      have Sz4 := Lib.hid (Below.size hb)
      have Bel4 := Lib.hid (belNext Bel3.out hb)
      have Bx4 := Lib.hid (Bx3.out.next hb)
      have Rs4 := Lib.hid (Rs3.out.next hb)
      clear hb Bel3 Bx3 Rs3 hBx0 hBx1 hBx2 hRs0 hRs1 hRs2 hRs3 hRs4
      obtain ⟨⟨hBx0, hBx1⟩, hBx2⟩ := Bx4.out
      obtain ⟨⟨hRs0, hRs1, hRs2, hRs3⟩, hRs4⟩ := Rs4.out
      go_wp2_with fail
      obtain ⟨⟨r0, r1⟩, _⟩ := (Box.made (s := (fitZ (shZ z k)).sign) (A := A9) (n := (limbs (fitZ (shZ z k)).natAbs).length) (c := c9) ⟨hRs0, hRs1⟩ hRs4).next (belAlloc1 _ (.cells #[.int .i64 (fitZ (shZ z k)).sign, .slice A9 (limbs (fitZ (shZ z k)).natAbs).length c9] 26))
      simp only [st] at r0 r1
      refine bodyPost_ret (v := .tuple #[.agg #[.int .i64 (fitZ (shZ z k)).sign, .slice A9 (limbs (fitZ (shZ z k)).natAbs).length c9], .int .i64 (fitE (shZ z k))]) (by simp [results, Tryd.results16, go_sem, r0, r1]) rfl ⟨_, ret_val Hres.out.2.symm rfl, ?_, ?_⟩
      · rw [Hres.out.1]; exact (((Zp4.out.setCell (by have zz0 := Hlt.out; have zz1 := Sz2.out; have zz2 := Sz3.out; have zz3 := Sz4.out; first | omega | (simp; done) | (simp; omega)) _).setCell (by have zz0 := Hlt.out; have zz1 := Sz2.out; have zz2 := Sz3.out; have zz3 := Sz4.out; first | omega | (simp; done) | (simp; omega)) _).keep (belAlloc1 _ _)).wide (by have zz0 := Hlt.out; have zz1 := Sz2.out; have zz2 := Sz3.out; have zz3 := Sz4.out; first | omega | (simp; done) | (simp; omega)) (by have zz0 := Hlt.out; have zz1 := Sz2.out; have zz2 := Sz3.out; have zz3 := Sz4.out; first | omega | (simp; done) | (simp; omega))
      · exact ((Bel4.out.setCell (by have zz0 := Hlt.out; have zz1 := Sz2.out; have zz2 := Sz3.out; have zz3 := Sz4.out; first | omega | (simp; done) | (simp; omega)) _).setCell (by have zz0 := Hlt.out; have zz1 := Sz2.out; have zz2 := Sz3.out; have zz3 := Sz4.out; first | omega | (simp; done) | (simp; omega)) _).alloc (by have zz0 := Hlt.out; have zz1 := Sz2.out; have zz2 := Sz3.out; have zz3 := Sz4.out; first | omega | (simp; done) | (simp; omega)) _
    · have Hres := Lib.hid (shR_range HW.out hk)
      go_wp2_with fail
      refine (in_any k (-5000) 5000 _).mono ?_
      rintro e w9 ⟨rfl, rfl⟩
      have hin : decide (-5000 ≤ k ∧ k ≤ 5000) = false := decide_eq_false hk
      rw [hin]
      clear hin hk
      go_wp2_with fail
      refine bodyPost_ret (v := .tuple #[.agg #[.int .i64 0, .slice none 0 0], .int .i64 2]) (by simp [results, Tryd.results16, go_sem, hRs0, hRs1]) rfl ⟨_, ret_val (by rw [Hres.out.2]) rfl, ?_, ?_⟩
      · rw [Hres.out.1]; exact Wz.zero_ _ _ _
      · exact (Bel2.out.setCell (by have zz0 := Hlt.out; have zz1 := Sz2.out; first | omega | (simp; done) | (simp; omega)) _).setCell (by have zz0 := Hlt.out; have zz1 := Sz2.out; first | omega | (simp; done) | (simp; omega)) _
  · have hW2 : isW S xs = false := by simpa using hW
    have Hres := Lib.hid (shR_no (k := k) hW2)
    rw [hW2]
    clear hW hW2
    go_wp2_with fail
    refine bodyPost_ret (v := .tuple #[.agg #[.int .i64 0, .slice none 0 0], .int .i64 1]) (by simp [results, Tryd.results16, go_sem, hRs0, hRs1]) rfl ⟨_, ret_val (by rw [Hres.out.2]) rfl, ?_, ?_⟩
    · rw [Hres.out.1]; exact Wz.zero_ _ _ _
    · exact (Bel2.out.setCell (by have zz0 := Hlt.out; have zz1 := Sz2.out; first | omega | (simp; done) | (simp; omega)) _).setCell (by have zz0 := Hlt.out; have zz1 := Sz2.out; first | omega | (simp; done) | (simp; omega)) _

set_option maxHeartbeats 4000000 in
theorem implMakeDW_any (S : Int) (A : Option Addr) (n c : Nat) (xs : List Int) (k : Int) (w : World) (hr : Rd w w.heap.size A (vi xs)) (hn : xs.length = n) (hm : n ≤ 1048580) (hc : n ≤ c) (hT : TabZ w) :
    Calls Tryd.prog 23 #[.agg #[.int .i64 S, .slice A n c], .int .i64 k] w fun e w' => ∃ Sr Ar nr cr, e = .returned (.tuple #[.agg #[.int .i64 Sr, .slice Ar nr cr, .int .i64 (mkRX S xs k)], .int .i64 (mkRE S xs k)]) ∧ ZO w' w.heap.size w'.heap.size (mkRZ S xs k) Sr Ar nr cr ∧ Below w.heap.size w w' := by
  have hst := store_int Tryd.prog
  have hst2 := store_slice Tryd.prog
  obtain ⟨w1, hw1⟩ : ∃ w1, w1 = (w.alloc (.cells #[.int .i64 S, .slice A n c] 26)).alloc (.cells #[.int .i64 0, .slice none 0 0, .int .i64 0] 34) := ⟨_, rfl⟩
  have Bx1 : Hid (Box w1 w.heap.size S A n c) := Lib.hid (by rw [hw1]; exact (Box.new _ _ _ _ _ _).next (belAlloc1 _ _))
  have RsD1 : Hid (DRes w1 (w.heap.size + 1)) := Lib.hid (by rw [hw1]; have h := DRes.new (w.alloc (.cells #[.int .i64 S, .slice A n c] 26)) 34; simpa using h)
  have Bel1 : Hid (Below w.heap.size w w1) := Lib.hid (by rw [hw1]; exact belNext (belAlloc1 _ _) (belAlloc1 _ _))
  have Hlt : Hid (w.heap.size + 1 < w1.heap.size) := Lib.hid RsD1.out.2
  have Hr := Lib.hid hr
  have Hn := Lib.hid hn
  have Hm := Lib.hid hm
  have Hc := Lib.hid hc
  have Hw := Lib.hid hw1
  clear hr hn hw1 hc
  have HT := Lib.hid hT
  clear hT
  go_enter Tryd.func23, Tryd.ntmps23
  go_wp2_with fail
  rw [← Hw.out]
  obtain ⟨⟨hBx0, hBx1⟩, hBx2⟩ := Bx1.out
  obtain ⟨⟨hRsD0, hRsD1, hRsD2, hRsD3, hRsD4, hRsD5⟩, hRsD6⟩ := RsD1.out
  refine (implIsW_any S A n c xs _ ((Hr.out.below Bel1.out).up Bel1.out.size) Hn.out Hm.out).mono ?_
  rintro e w2 ⟨rfl, hb⟩
  have Sz2 := Lib.hid (Below.size hb)
  have Bel2 := Lib.hid (belNext Bel1.out hb)
  have Bx2 := Lib.hid (Bx1.out.next hb)
  have RsD2 := Lib.hid (RsD1.out.next hb)
  clear hb Bel1 Bx1 RsD1 hBx0 hBx1 hBx2 hRsD0 hRsD1 hRsD2 hRsD3 hRsD4 hRsD5 hRsD6
  obtain ⟨⟨hBx0, hBx1⟩, hBx2⟩ := Bx2.out
  obtain ⟨⟨hRsD0, hRsD1, hRsD2, hRsD3, hRsD4, hRsD5⟩, hRsD6⟩ := RsD2.out
  by_cases hW : isW S xs = true
  · have HW := Lib.hid hW
    rw [hW]
    clear hW
    by_cases hk : -6000 ≤ k ∧ k ≤ 6000
    · obtain ⟨z, hz, hzv, hn100⟩ := isW_data HW.out Hr.out Hn.out Hc.out
      have Hres := Lib.hid (mkR_yes HW.out hz hk)
      have Hz := Lib.hid hzv
      obtain ⟨hk1, hk2⟩ := hk
      clear hz hzv
      go_wp2_with fail
      refine (beyond_no k 6000 _ hk1 hk2 (by omega) (by omega)).mono ?_
      rintro e w9 ⟨rfl, rfl⟩
      go_wp2_with fail
      refine (implLimD_any z S k A n c _ (Hz.out.next Bel2.out) (by omega) (by omega) (by omega) (HT.out.next Bel2.out)).mono ?_
      rintro e w3 ⟨S9, A9, n9, c9, rfl, hzo, hb⟩
      have Zp3 := Lib.hid hzo
      clear hzo
      have Sz3 := Lib.hid (Below.size hb)
      have Bel3 := Lib.hid (belNext Bel2.out hb)
      have Bx3 := Lib.hid (Bx2.out.next hb)
      have RsD3 := Lib.hid (RsD2.out.next hb)
      clear hb Bel2 Bx2 RsD2 hBx0 hBx1 hBx2 hRsD0 hRsD1 hRsD2 hRsD3 hRsD4 hRsD5 hRsD6
      obtain ⟨⟨hBx0, hBx1⟩, hBx2⟩ := Bx3.out
      obtain ⟨⟨hRsD0, hRsD1, hRsD2, hRsD3, hRsD4, hRsD5⟩, hRsD6⟩ := RsD3.out
      go_wp2_with fail
      refine bodyPost_ret (v := .tuple #[.agg #[.int .i64 S9, .slice A9 n9 c9, .int .i64 (fdX z k)], .int .i64 (fdE z k)]) (by simp [results, Tryd.results23, go_sem, hRsD0, hRsD1, hRsD2]) rfl ⟨S9, A9, n9, c9, by rw [Hres.out.2.1, Hres.out.2.2], ?_, ?_⟩
      · rw [Hres.out.1]; exact (((Zp3.out.setCell (.inl (by have zz0 := Hlt.out; have zz1 := Sz2.out; have zz2 := Sz3.out; first | omega | (simp; done) | (simp; omega))) _).setCell (.inl (by have zz0 := Hlt.out; have zz1 := Sz2.out; have zz2 := Sz3.out; first | omega | (simp; done) | (simp; omega))) _).setCell (.inl (by have zz0 := Hlt.out; have zz1 := Sz2.out; have zz2 := Sz3.out; first | omega | (simp; done) | (simp; omega))) _).wide (by have zz0 := Hlt.out; have zz1 := Sz2.out; have zz2 := Sz3.out; first | omega | (simp; done) | (simp; omega)) (by have zz0 := Hlt.out; have zz1 := Sz2.out; have zz2 := Sz3.out; first | omega | (simp; done) | (simp; omega)) (by have zz0 := Hlt.out; have zz1 := Sz2.out; have zz2 := Sz3.out; first | omega | (simp; done) | (simp; omega))
      · exact ((Bel3.out.setCell (by have zz0 := Hlt.out; have zz1 := Sz2.out; have zz2 := Sz3.out; first | omega | (simp; done) | (simp; omega)) _).setCell (by have zz0 := Hlt.out; have zz1 := Sz2.out; have zz2 := Sz3.out; first | omega | (simp; done) | (simp; omega)) _).setCell (by have zz0 := Hlt.out; have zz1 := Sz2.out; have zz2 := Sz3.out; first | omega | (simp; done) | (simp; omega)) _
    · have Hres := Lib.hid (mkR_range HW.out hk)
      have hk3 : k < -6000 ∨ 6000 < k := by omega
      clear hk
      go_wp2_with fail
      refine (beyond_yes k 6000 _ hk3 (by omega) (by omega)).mono ?_
      rintro e w9 ⟨rfl, rfl⟩
      go_wp2_with fail
      refine bodyPost_ret (v := .tuple #[.agg #[.int .i64 0, .slice none 0 0, .int .i64 0], .int .i64 2]) (by simp [results, Tryd.results23, go_sem, hRsD0, hRsD1, hRsD2]) rfl ⟨0, none, 0, 0, by rw [Hres.out.2.1, Hres.out.2.2], ?_, ?_⟩
      · rw [Hres.out.1]; exact ZO.zero (Nat.le_refl _)
      · exact ((Bel2.out.setCell (by have zz0 := Hlt.out; have zz1 := Sz2.out; first | omega | (simp; done) | (simp; omega)) _).setCell (by have zz0 := Hlt.out; have zz1 := Sz2.out; first | omega | (simp; done) | (simp; omega)) _).setCell (by have zz0 := Hlt.out; have zz1 := Sz2.out; first | omega | (simp; done) | (simp; omega)) _
  · have hW2 : isW S xs = false := by simpa using hW
    have Hres := Lib.hid (mkR_no (k := k) hW2)
    rw [hW2]
    clear hW hW2
    go_wp2_with fail
    refine bodyPost_ret (v := .tuple #[.agg #[.int .i64 0, .slice none 0 0, .int .i64 0], .int .i64 1]) (by simp [results, Tryd.results23, go_sem, hRsD0, hRsD1, hRsD2]) rfl ⟨0, none, 0, 0, by rw [Hres.out.2.1, Hres.out.2.2], ?_, ?_⟩
    · rw [Hres.out.1]; exact ZO.zero (Nat.le_refl _)
    · exact ((Bel2.out.setCell (by have zz0 := Hlt.out; have zz1 := Sz2.out; first | omega | (simp; done) | (simp; omega)) _).setCell (by have zz0 := Hlt.out; have zz1 := Sz2.out; first | omega | (simp; done) | (simp; omega)) _).setCell (by have zz0 := Hlt.out; have zz1 := Sz2.out; first | omega | (simp; done) | (simp; omega)) _

set_option maxHeartbeats 4000000 in
theorem specMakeDW_any (S : Int) (A : Option Addr) (n c : Nat) (xs : List Int) (k : Int) (w : World) (hr : Rd w w.heap.size A (vi xs)) (hn : xs.length = n) (hm : n ≤ 1048580) (hc : n ≤ c) :
    Calls Tryd.prog 22 #[.agg #[.int .i64 S, .slice A n c], .int .i64 k] w fun e w' => ∃ Sr Ar nr cr, e = .returned (.tuple #[.agg #[.int .i64 Sr, .slice Ar nr cr, .int .i64 (mkRX S xs k)], .int .i64 (mkRE S xs k)]) ∧ ZO w' w.heap.size w'.heap.size (mkRZ S xs k) Sr Ar nr cr ∧ Below w.heap.size w w' := by
  have hst := store_int Tryd.prog
  have hst2 := store_slice Tryd.prog
  obtain ⟨w1, hw1⟩ : ∃ w1, w1 = (w.alloc (.cells #[.int .i64 S, .slice A n c] 26)).alloc (.cells #[.int .i64 0, .slice none 0 0, .int .i64 0] 34) := ⟨_, rfl⟩
  have Bx1 : Hid (Box w1 w.heap.size S A n c) := Lib.hid (by rw [hw1]; exact (Box.new _ _ _ _ _ _).next (belAlloc1 _ _))
  have RsD1 : Hid (DRes w1 (w.heap.size + 1)) := Lib.hid (by rw [hw1]; have h := DRes.new (w.alloc (.cells #[.int .i64 S, .slice A n c] 26)) 34; simpa using h)
  have Bel1 : Hid (Below w.heap.size w w1) := Lib.hid (by rw [hw1]; exact belNext (belAlloc1 _ _) (belAlloc1 _ _))
  have Hlt : Hid (w.heap.size + 1 < w1.heap.size) := Lib.hid RsD1.out.2
  have Hr := Lib.hid hr
  have Hn := Lib.hid hn
  have Hm := Lib.hid hm
  have Hc := Lib.hid hc
  have Hw := Lib.hid hw1
  clear hr hn hw1 hc
  go_enter Tryd.func22, Tryd.ntmps22
  go_wp2_with fail
  rw [← Hw.out]
  obtain ⟨⟨hBx0, hBx1⟩, hBx2⟩ := Bx1.out
  obtain ⟨⟨hRsD0, hRsD1, hRsD2, hRsD3, hRsD4, hRsD5⟩, hRsD6⟩ := RsD1.out
  refine (specIs_any S A n c xs _ ((Hr.out.below Bel1.out).up Bel1.out.size) Hn.out Hm.out).mono ?_
  rintro e w2 ⟨rfl, hb⟩
  have Sz2 := Lib.hid (Below.size hb)
  have Bel2 := Lib.hid (belNext Bel1.out hb)
  have Bx2 := Lib.hid (Bx1.out.next hb)
  have RsD2 := Lib.hid (RsD1.out.next hb)
  clear hb Bel1 Bx1 RsD1 hBx0 hBx1 hBx2 hRsD0 hRsD1 hRsD2 hRsD3 hRsD4 hRsD5 hRsD6
  obtain ⟨⟨hBx0, hBx1⟩, hBx2⟩ := Bx2.out
  obtain ⟨⟨hRsD0, hRsD1, hRsD2, hRsD3, hRsD4, hRsD5⟩, hRsD6⟩ := RsD2.out
  by_cases hW : isW S xs = true
  · have HW := Lib.hid hW
    rw [hW]
    clear hW
    by_cases hk : -6000 ≤ k ∧ k ≤ 6000
    · obtain ⟨z, hz, hzv, hn100⟩ := isW_data HW.out Hr.out Hn.out Hc.out
      have Hres := Lib.hid (mkR_yes HW.out hz hk)
      have Hz := Lib.hid hzv
      obtain ⟨hk1, hk2⟩ := hk
      clear hz hzv
      go_wp2_with fail
      refine (in_any k (-6000) 6000 _).mono ?_
      rintro e w9 ⟨rfl, rfl⟩
      have hin : decide (-6000 ≤ k ∧ k ≤ 6000) = true := decide_eq_true ⟨hk1, hk2⟩
      rw [hin]
      clear hin
      go_wp2_with fail
      refine (specMakeD_any z S k A n c _ (Hz.out.next Bel2.out) (by omega) (by omega) (by omega)).mono ?_
      rintro e w3 ⟨S2, A2, n2, c2, rfl, hzo, hb⟩
      have Zo3 := Lib.hid hzo
      clear hzo
      have Hn2 : Hid (n2 ≤ 1048580) := Lib.hid (by have h := limbs_len_mono (nz_le z); have e := Zo3.out.2.1; have e2 := Hz.out.2.1; omega)
      have Sz3 := Lib.hid (Below.size hb)
      have Bel3 := Lib.hid (belNext Bel2.out hb)
      have Bx3 := Lib.hid (Bx2.out.next hb)
      have RsD3 := Lib.hid (RsD2.out.next hb)
      clear hb Bel2 Bx2 RsD2 hBx0 hBx1 hBx2 hRsD0 hRsD1 hRsD2 hRsD3 hRsD4 hRsD5 hRsD6
      obtain ⟨⟨hBx0, hBx1⟩, hBx2⟩ := Bx3.out
      obtain ⟨⟨hRsD0, hRsD1, hRsD2, hRsD3, hRsD4, hRsD5⟩, hRsD6⟩ := RsD3.out
      go_wp2_with fail
      refine (specFitD_any z k S2 (nx z k) A2 n2 c2 _ _ _ Zo3.out Hn2.out rfl (by have zz0 := Hlt.out; have zz1 := Sz2.out; have zz2 := Sz3.out; first | omega | (simp; done) | (simp; omega))).mono ?_
      rintro e w4 ⟨S9, A9, n9, c9, rfl, hzo, hb⟩
      have Zp4 := Lib.hid hzo
      clear hzo
      have Sz4 := Lib.hid (Below.size hb)
      have Bel4 := Lib.hid (belNext Bel3.out hb)
      have Bx4 := Lib.hid (Bx3.out.next hb)
      have RsD4 := Lib.hid (RsD3.out.next hb)
      clear hb Bel3 Bx3 RsD3 hBx0 hBx1 hBx2 hRsD0 hRsD1 hRsD2 hRsD3 hRsD4 hRsD5 hRsD6
      obtain ⟨⟨hBx0, hBx1⟩, hBx2⟩ := Bx4.out
      obtain ⟨⟨hRsD0, hRsD1, hRsD2, hRsD3, hRsD4, hRsD5⟩, hRsD6⟩ := RsD4.out
      go_wp2_with fail
      obtain ⟨⟨r0, r1, r2⟩, _⟩ := (DBox.made (S := S9) (A := A9) (n := n9) (c := c9) (E := (fdX z k)) hRsD6 ⟨_, hRsD0⟩ ⟨_, hRsD1⟩ ⟨_, hRsD2⟩).next (belAlloc1 _ (.cells #[.int .i64 S9, .slice A9 n9 c9, .int .i64 (fdX z k)] 34))
      simp only [st3] at r0 r1 r2
      refine bodyPost_ret (v := .tuple #[.agg #[.int .i64 S9, .slice A9 n9 c9, .int .i64 (fdX z k)], .int .i64 (fdE z k)]) (by simp [results, Tryd.results22, go_sem, r0, r1, r2]) rfl ⟨S9, A9, n9, c9, by rw [Hres.out.2.1, Hres.out.2.2], ?_, ?_⟩
      · rw [Hres.out.1]; exact ((((Zp4.out.setCell (.inl (by have zz0 := Hlt.out; have zz1 := Sz2.out; have zz2 := Sz3.out; have zz3 := Sz4.out; first | omega | (simp; done) | (simp; omega))) _).setCell (.inl (by have zz0 := Hlt.out; have zz1 := Sz2.out; have zz2 := Sz3.out; have zz3 := Sz4.out; first | omega | (simp; done) | (simp; omega))) _).setCell (.inl (by have zz0 := Hlt.out; have zz1 := Sz2.out; have zz2 := Sz3.out; have zz3 := Sz4.out; first | omega | (simp; done) | (simp; omega))) _).alloc _).wide (by have zz0 := Hlt.out; have zz1 := Sz2.out; have zz2 := Sz3.out; have zz3 := Sz4.out; first | omega | (simp; done) | (simp; omega)) (by have zz0 := Hlt.out; have zz1 := Sz2.out; have zz2 := Sz3.out; have zz3 := Sz4.out; first | omega | (simp; done) | (simp; omega)) (by have zz0 := Hlt.out; have zz1 := Sz2.out; have zz2 := Sz3.out; have zz3 := Sz4.out; first | omega | (simp; done) | (simp; omega))
      · exact (((Bel4.out.setCell (by have zz0 := Hlt.out; have zz1 := Sz2.out; have zz2 := Sz3.out; have zz3 := Sz4.out; first | omega | (simp; done) | (simp; omega)) _).setCell (by have zz0 := Hlt.out; have zz1 := Sz2.out; have zz2 := Sz3.out; have zz3 := Sz4.out; first | omega | (simp; done) | (simp; omega)) _).setCell (by have zz0 := Hlt.out; have zz1 := Sz2.out; have zz2 := Sz3.out; have zz3 := Sz4.out; first | omega | (simp; done) | (simp; omega)) _).alloc (by have zz0 := Hlt.out; have zz1 := Sz2.out; have zz2 := Sz3.out; have zz3 := Sz4.out; first | omega | (simp; done) | (simp; omega)) _
    · have Hres := Lib.hid (mkR_range HW.out hk)
      go_wp2_with fail
      refine (in_any k (-6000) 6000 _).mono ?_
      rintro e w9 ⟨rfl, rfl⟩
      have hin : decide (-6000 ≤ k ∧ k ≤ 6000) = false := decide_eq_false hk
      rw [hin]
      clear hin hk
      go_wp2_with fail
      refine bodyPost_ret (v := .tuple #[.agg #[.int .i64 0, .slice none 0 0, .int .i64 0], .int .i64 2]) (by simp [results, Tryd.results22, go_sem, hRsD0, hRsD1, hRsD2]) rfl ⟨0, none, 0, 0, by rw [Hres.out.2.1, Hres.out.2.2], ?_, ?_⟩
      · rw [Hres.out.1]; exact ZO.zero (Nat.le_refl _)
      · exact ((Bel2.out.setCell (by have zz0 := Hlt.out; have zz1 := Sz2.out; first | omega | (simp; done) | (simp; omega)) _).setCell (by have zz0 := Hlt.out; have zz1 := Sz2.out; first | omega | (simp; done) | (simp; omega)) _).setCell (by have zz0 := Hlt.out; have zz1 := Sz2.out; first | omega | (simp; done) | (simp; omega)) _
  · have hW2 : isW S xs = false := by simpa using hW
    have Hres := Lib.hid (mkR_no (k := k) hW2)
    rw [hW2]
    clear hW hW2
    go_wp2_with fail
    refine bodyPost_ret (v := .tuple #[.agg #[.int .i64 0, .slice none 0 0, .int .i64 0], .int .i64 1]) (by simp [results, Tryd.results22, go_sem, hRsD0, hRsD1, hRsD2]) rfl ⟨0, none, 0, 0, by rw [Hres.out.2.1, Hres.out.2.2], ?_, ?_⟩
    · rw [Hres.out.1]; exact ZO.zero (Nat.le_refl _)
    · exact ((Bel2.out.setCell (by have zz0 := Hlt.out; have zz1 := Sz2.out; first | omega | (simp; done) | (simp; omega)) _).setCell (by have zz0 := Hlt.out; have zz1 := Sz2.out; first | omega | (simp; done) | (simp; omega)) _).setCell (by have zz0 := Hlt.out; have zz1 := Sz2.out; first | omega | (simp; done) | (simp; omega)) _

end Go.Proofs.YtnnoobdcdfcdaaaDoor
