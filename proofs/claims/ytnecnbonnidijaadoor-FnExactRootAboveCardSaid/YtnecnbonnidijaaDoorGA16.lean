/- Texts of this seat, joined: Rq Rt Ru Rv -/
import Derived.Test.YtnecnbonnidijaaDoorGA7
import Derived.Test.YtnecnbonnidijaaDoorGA6
import Derived.Test.YtnecnbonnidijaaDoorGA15
import Derived.Deep.QuietTactic
import Derived.BigQuiet
/- RootOfWhole, of the program and of the model. -/
namespace Go.Proofs.YtnecnbonnidijaaDoor
set_option maxRecDepth 100000
open Go.RowKit
set_option linter.unusedSimpArgs false
set_option linter.unusedVariables false

theorem rt_mag {z S : Int} {xs : List Int} (hz : isZ z S xs) : magW S xs = z.natAbs := by
  obtain ⟨v, h1, h2, _⟩ := okW_limbs (isW_true (okW_iff.2 ⟨z, hz⟩))
  have h3 : limbs z.natAbs = limbs v := by
    have := congrArg nats (hz.2.1.symm.trans h1)
    rwa [nats_li, nats_li] at this
  rw [h2, ← limbs_inj h3]
/-- what RootOfWhole gives -/
noncomputable def rtRZ (S : Int) (xs : List Int) : Int := if isW S xs = true then if 0 ≤ S then (rt (magW S xs) : Int) else 0 else 0
noncomputable def rtRE (S : Int) (xs : List Int) : Int := if isW S xs = true then if 0 ≤ S then 0 else 5 else 1
end Go.Proofs.YtnecnbonnidijaaDoor
/- RootBelow, of the program and of the model. -/
namespace Go.Proofs.YtnecnbonnidijaaDoor
set_option maxRecDepth 100000
open Go.RowKit
set_option linter.unusedSimpArgs false
set_option linter.unusedVariables false

/-- the arguments of a root are in their ranges -/
def rbC (S : Int) (xs : List Int) (E k : Int) : Prop := 0 ≤ k ∧ k ≤ 200 ∧ 0 ≤ S ∧ (blen (magW S xs) : Int) + E ≤ 400
noncomputable instance (S : Int) (xs : List Int) (E k : Int) : Decidable (rbC S xs E k) := by unfold rbC; infer_instance
/-- the root of the steps -/
noncomputable def rbR (z E k : Int) : Int := ((rt (shZ z (E + 2 * k)).natAbs : Nat) : Int)
noncomputable def rbZ (S : Int) (xs : List Int) (E k : Int) : Int := if isD S xs E = true then if rbC S xs E k then nz (rbR (S * magW S xs) E k) else 0 else 0
noncomputable def rbX (S : Int) (xs : List Int) (E k : Int) : Int := if isD S xs E = true then if rbC S xs E k then nx (rbR (S * magW S xs) E k) (-k) else 0 else 0
noncomputable def rbE (S : Int) (xs : List Int) (E k : Int) : Int := if isD S xs E = true then if rbC S xs E k then 0 else 2 else 1
theorem rb_yes {S z E k : Int} {xs : List Int} (h : isD S xs E = true) (hz : isZ z S xs) (hk : rbC S xs E k) : rbZ S xs E k = nz (rbR z E k) ∧ rbX S xs E k = nx (rbR z E k) (-k) ∧ rbE S xs E k = 0 := by
  unfold rbZ rbX rbE; rw [if_pos h, if_pos h, if_pos h, if_pos hk, if_pos hk, if_pos hk, val_isZ hz]; exact ⟨rfl, rfl, rfl⟩
theorem rb_range {S E k : Int} {xs : List Int} (h : isD S xs E = true) (hk : ¬ rbC S xs E k) : rbZ S xs E k = 0 ∧ rbX S xs E k = 0 ∧ rbE S xs E k = 2 := by
  unfold rbZ rbX rbE; rw [if_pos h, if_pos h, if_pos h, if_neg hk, if_neg hk, if_neg hk]; exact ⟨rfl, rfl, rfl⟩
theorem rb_no {S E k : Int} {xs : List Int} (h : isD S xs E = false) : rbZ S xs E k = 0 ∧ rbX S xs E k = 0 ∧ rbE S xs E k = 1 := by
  unfold rbZ rbX rbE; rw [h]; exact ⟨rfl, rfl, rfl⟩
theorem shZ_small {z s : Int} (hn : (limbs z.natAbs).length ≤ 100) (h : (blen z.natAbs : Int) + s ≤ 800) : (limbs (shZ z s).natAbs).length ≤ 100 := by
  obtain ⟨m, hm⟩ : ∃ m, m = 100 := ⟨_, rfl⟩
  rw [← hm] at hn ⊢
  by_cases hs : 0 ≤ s
  · rw [shZ_up hs, abs_pow_mul, limbs_len_le, Bs_pow]
    have h1 := blen_lt.1 (Nat.le_refl (blen z.natAbs))
    have h2 : 2 ^ s.toNat * z.natAbs < 2 ^ s.toNat * 2 ^ blen z.natAbs := Nat.mul_lt_mul_of_pos_left h1 (Nat.two_pow_pos _)
    rw [← Nat.pow_add] at h2
    exact Nat.lt_of_lt_of_le h2 (Nat.pow_le_pow_right (by omega) (by omega))
  · rw [shZ_down (by omega)]
    exact Nat.le_trans (limbs_len_mono (shr_abs z (-s).toNat)) hn
set_option maxHeartbeats 400000 in
theorem outside_yes (x l : Int) (w : World) (h : x < 0 ∨ l < x) : Calls Tryd.prog 49 #[.int .i64 x, .int .i64 l] w fun e w' => e = .returned (.bool true) ∧ w = w' := by
  by_cases h3 : x < 0
  · have h4 : decide (x < 0) = true := decide_eq_true h3
    go_enter Tryd.func49, Tryd.ntmps49
    go_wp2_with fail
    go_ret
    exact ⟨rfl, rfl⟩
  · have h4 : decide (x < 0) = false := decide_eq_false h3
    have h5 : decide (l < x) = true := decide_eq_true (by omega)
    go_enter Tryd.func49, Tryd.ntmps49
    go_wp2_with fail
    go_ret
    exact ⟨rfl, rfl⟩
set_option maxHeartbeats 400000 in
theorem outside_no (x l : Int) (w : World) (h : 0 ≤ x) (h' : x ≤ l) : Calls Tryd.prog 49 #[.int .i64 x, .int .i64 l] w fun e w' => e = .returned (.bool false) ∧ w = w' := by
  have h4 : decide (x < 0) = false := decide_eq_false (by omega)
  have h5 : decide (l < x) = false := decide_eq_false (by omega)
  go_enter Tryd.func49, Tryd.ntmps49
  go_wp2_with fail
  go_ret
  exact ⟨rfl, rfl⟩

set_option maxHeartbeats 4000000 in
theorem implCheckR_any (S : Int) (A : Option Addr) (n c : Nat) (xs : List Int) (E k : Int) (w : World) (hr : Rd w w.heap.size A (vi xs)) (hn : xs.length = n) (hm : n ≤ 1048580) (hc : n ≤ c) :
    Calls Tryd.prog 58 #[.agg #[.int .i64 S, .slice A n c, .int .i64 E], .int .i64 k] w fun e w' => e = .returned (.int .i64 (rbE S xs E k)) ∧ Below w.heap.size w w' := by
  obtain ⟨w1, hw1⟩ : ∃ w1, w1 = w.alloc (.cells #[.int .i64 S, .slice A n c, .int .i64 E] 30) := ⟨_, rfl⟩
  have Bx1 : Hid (DBox w1 w.heap.size S A n c E) := Lib.hid (by rw [hw1]; exact DBox.new _ _ _ _ _ _ _)
  have Bel1 : Hid (Below w.heap.size w w1) := Lib.hid (by rw [hw1]; exact belAlloc1 _ _)
  have Hr := Lib.hid hr
  have Hn := Lib.hid hn
  have Hm := Lib.hid hm
  have Hc := Lib.hid hc
  have Hw := Lib.hid hw1
  clear hr hn hw1 hc
  go_enter Tryd.func58, Tryd.ntmps58
  go_wp2_with fail
  rw [← Hw.out]
  obtain ⟨⟨hBx0, hBx1, hBx2⟩, hBx3⟩ := Bx1.out
  refine (implIsD_any S A n c E xs _ ((Hr.out.below Bel1.out).up Bel1.out.size) Hn.out Hm.out).mono ?_
  rintro e w2 ⟨rfl, hb⟩
  have Sz2 := Lib.hid (Below.size hb)
  have Bel2 := Lib.hid (belNext Bel1.out hb)
  have Bx2 := Lib.hid (Bx1.out.next hb)
  clear hb Bel1 Bx1 hBx0 hBx1 hBx2 hBx3
  obtain ⟨⟨hBx0, hBx1, hBx2⟩, hBx3⟩ := Bx2.out
  by_cases hW : isD S xs E = true
  · have HW := Lib.hid hW
    rw [hW]
    clear hW
    obtain ⟨z, hz, hok, hzv, hn100⟩ := isD_data HW.out Hr.out Hn.out Hc.out
    have Hz := Lib.hid hzv
    have Hmg := Lib.hid (rt_mag hz)
    have hE1 := hok.2.1
    have hE2 := hok.2.2.1
    clear hz hzv hok
    by_cases hs : 0 ≤ S
    · have hk4 : decide (S < 0) = false := decide_eq_false (by omega)
      have Hs := Lib.hid hs
      clear hs
      go_wp2_with fail
      refine (implTop_any z S E A n c _ (Hz.out.next Bel2.out) (by omega) (by omega) (by omega)).mono ?_
      rintro e w3 ⟨rfl, hb⟩
      obtain ⟨bl, hbl⟩ : ∃ bl, bl = blen z.natAbs := ⟨_, rfl⟩
      rw [← hbl]
      have Hbl := Lib.hid hbl
      clear hbl
      have Sz3 := Lib.hid (Below.size hb)
      have Bel3 := Lib.hid (belNext Bel2.out hb)
      have Bx3 := Lib.hid (Bx2.out.next hb)
      clear hb Bel2 Bx2 hBx0 hBx1 hBx2 hBx3
      obtain ⟨⟨hBx0, hBx1, hBx2⟩, hBx3⟩ := Bx3.out
      by_cases ht : (bl : Int) + E ≤ 400
      · have hk5 : decide (400 < (bl : Int) + E) = false := decide_eq_false (by omega)
        have Ht := Lib.hid ht
        clear ht
        go_wp2_with fail
        by_cases hk : 0 ≤ k ∧ k ≤ 200
        · have Hres := Lib.hid (rb_yes HW.out (isD_of HW.out).choose_spec.1 (k := k) ⟨hk.1, hk.2, Hs.out, by rw [Hmg.out, ← Hbl.out]; exact Ht.out⟩)
          refine (outside_no k 200 _ hk.1 hk.2).mono ?_
          rintro e w9 ⟨rfl, rfl⟩
          clear hk
          go_wp2_with fail
          go_ret
          exact ⟨ret_int Hres.out.2.2.symm, Bel3.out⟩
        · have Hres := Lib.hid (rb_range (k := k) HW.out (fun h => hk ⟨h.1, h.2.1⟩))
          refine (outside_yes k 200 _ (by omega)).mono ?_
          rintro e w9 ⟨rfl, rfl⟩
          clear hk
          go_wp2_with fail
          go_ret
          exact ⟨ret_int Hres.out.2.2.symm, Bel3.out⟩
      · have hk5 : decide (400 < (bl : Int) + E) = true := decide_eq_true (by omega)
        have Hres := Lib.hid (rb_range (k := k) HW.out (fun h => ht (by have h4 := h.2.2.2; rw [Hmg.out, ← Hbl.out] at h4; exact h4)))
        clear ht
        go_wp2_with fail
        go_ret
        exact ⟨ret_int Hres.out.2.2.symm, Bel3.out⟩
    · have hk4 : decide (S < 0) = true := decide_eq_true (by omega)
      have Hres := Lib.hid (rb_range (k := k) HW.out (fun h => hs h.2.2.1))
      clear hs
      go_wp2_with fail
      go_ret
      exact ⟨ret_int Hres.out.2.2.symm, Bel2.out⟩
  · have hW2 : isD S xs E = false := by simpa using hW
    have Hres := Lib.hid (rb_no (k := k) hW2)
    rw [hW2]
    clear hW hW2
    go_wp2_with fail
    go_ret
    exact ⟨ret_int Hres.out.2.2.symm, Bel2.out⟩

end Go.Proofs.YtnecnbonnidijaaDoor
/- The code of a root, of the model. -/
namespace Go.Proofs.YtnecnbonnidijaaDoor
set_option maxRecDepth 100000
open Go.RowKit
set_option linter.unusedSimpArgs false
set_option linter.unusedVariables false

set_option maxHeartbeats 4000000 in
theorem specCheckR_any (S : Int) (A : Option Addr) (n c : Nat) (xs : List Int) (E k : Int) (w : World) (hr : Rd w w.heap.size A (vi xs)) (hn : xs.length = n) (hm : n ≤ 1048580) (hc : n ≤ c) :
    Calls Tryd.prog 56 #[.agg #[.int .i64 S, .slice A n c, .int .i64 E], .int .i64 k] w fun e w' => e = .returned (.int .i64 (rbE S xs E k)) ∧ Below w.heap.size w w' := by
  obtain ⟨w1, hw1⟩ : ∃ w1, w1 = w.alloc (.cells #[.int .i64 S, .slice A n c, .int .i64 E] 30) := ⟨_, rfl⟩
  have Bx1 : Hid (DBox w1 w.heap.size S A n c E) := Lib.hid (by rw [hw1]; exact DBox.new _ _ _ _ _ _ _)
  have Bel1 : Hid (Below w.heap.size w w1) := Lib.hid (by rw [hw1]; exact belAlloc1 _ _)
  have Hr := Lib.hid hr
  have Hn := Lib.hid hn
  have Hm := Lib.hid hm
  have Hc := Lib.hid hc
  have Hw := Lib.hid hw1
  clear hr hn hw1 hc
  go_enter Tryd.func56, Tryd.ntmps56
  go_wp2_with fail
  rw [← Hw.out]
  obtain ⟨⟨hBx0, hBx1, hBx2⟩, hBx3⟩ := Bx1.out
  refine (specRange_any S A n c E xs k 0 200 _ ((Hr.out.below Bel1.out).up Bel1.out.size) Hn.out Hm.out).mono ?_
  rintro e w2 ⟨rfl, hb⟩
  have Sz2 := Lib.hid (Below.size hb)
  have Bel2 := Lib.hid (belNext Bel1.out hb)
  have Bx2 := Lib.hid (Bx1.out.next hb)
  clear hb Bel1 Bx1 hBx0 hBx1 hBx2 hBx3
  obtain ⟨⟨hBx0, hBx1, hBx2⟩, hBx3⟩ := Bx2.out
  by_cases hW : isD S xs E = true
  · have HW := Lib.hid hW
    clear hW
    obtain ⟨z, hz, hok, hzv, hn100⟩ := isD_data HW.out Hr.out Hn.out Hc.out
    have Hz := Lib.hid hzv
    have Hmg := Lib.hid (rt_mag hz)
    have hE1 := hok.2.1
    have hE2 := hok.2.2.1
    clear hz hzv hok
    by_cases hk : 0 ≤ k ∧ k ≤ 200
    · have hrg : rgE S xs E k 0 200 = 0 := by unfold rgE; rw [if_pos HW.out, if_pos hk]
      rw [hrg]
      have Hk := Lib.hid hk
      clear hrg hk
      by_cases hs : 0 ≤ S
      · have hk4 : decide (S < 0) = false := decide_eq_false (by omega)
        have Hs := Lib.hid hs
        clear hs
        obtain ⟨bl, hbl⟩ : ∃ bl, bl = blen z.natAbs := ⟨_, rfl⟩
        have Hbl := Lib.hid hbl
        have hbl1 : (bl : Int) ≤ 2400 := by have h := blen_lt.2 (by have h := limbs_len_le.1 (show (limbs z.natAbs).length ≤ n by rw [Hz.out.2.1]; exact Nat.le_refl _); rw [Bs_pow] at h; exact h); omega
        clear hbl
        have Hwr : Hid (IntKind.i64.wrap ((bl : Int) + E) = bl + E) := Lib.hid (IntWalk.i64_in _ (by omega))
        have H100 : Hid ((n : Int) ≤ 100000) := Lib.hid (by omega)
        by_cases ht : (bl : Int) + E ≤ 400
        · have hk5 : decide (400 < (bl : Int) + E) = false := decide_eq_false (by omega)
          have Hres := Lib.hid (rb_yes HW.out (isD_of HW.out).choose_spec.1 (k := k) ⟨Hk.out.1, Hk.out.2, Hs.out, by rw [Hmg.out, ← Hbl.out]; exact ht⟩)
          clear ht
          go_wp2_with fail
          refine wp_region_held_drew (S := fun w' => (w'.cell? ⟨w.heap.size, 0, none⟩ = some (.int .i64 S) ∧ w'.cell? ⟨w.heap.size, 1, none⟩ = some (.slice A n c) ∧ w'.cell? ⟨w.heap.size, 2, none⟩ = some (.int .i64 E))) (by kernel_rfl) Bx2.out.1 (fun hHeld => ?_)
          clear hBx0 hBx1 hBx2 hBx3
          refine wpAnyH_take (i := 0) (v := ?_) rfl (by kernel_rfl) (by kernel_rfl) (by kernel_rfl) (fun _ _ _ h => h) (Or.inl ⟨by rfl, ?_⟩) (by assumption) ?_
          rotate_left
          · (intro w hSw; (try dsimp only at hSw); go_simp; (try with_reducible rfl))
          try simp only [Act.put, List.setIfInBounds_toArray, List.set_cons_zero, List.set_cons_succ, List.getElem_toArray, List.getElem_cons_succ, List.getElem_cons_zero]
          refine wpAnyH_take (i := 1) (v := ?_) rfl (by kernel_rfl) (by kernel_rfl) (by kernel_rfl) (fun _ _ _ h => h) (Or.inl ⟨by rfl, ?_⟩) (by assumption) ?_
          rotate_left
          · (intro w hSw; (try dsimp only at hSw); go_simp; (try with_reducible rfl))
          try simp only [Act.put, List.setIfInBounds_toArray, List.set_cons_zero, List.set_cons_succ, List.getElem_toArray, List.getElem_cons_succ, List.getElem_cons_zero]
          refine wpAnyH_take (i := 2) (v := ?_) rfl (by kernel_rfl) (by kernel_rfl) (by kernel_rfl) (fun _ _ _ h => h) (Or.inl ⟨by rfl, ?_⟩) (by assumption) ?_
          rotate_left
          · (intro w hSw; (try dsimp only at hSw); go_simp; (try with_reducible rfl))
          try simp only [Act.put, List.setIfInBounds_toArray, List.set_cons_zero, List.set_cons_succ, List.getElem_toArray, List.getElem_cons_succ, List.getElem_cons_zero]
          refine wpAnyH_take (i := 3) (v := ?_) rfl (by kernel_rfl) (by kernel_rfl) (by kernel_rfl) (fun _ _ _ h => h) (Or.inl ⟨by rfl, ?_⟩) (by assumption) ?_
          rotate_left
          · (intro w hSw; (try dsimp only at hSw); go_simp; (try with_reducible rfl))
          try simp only [Act.put, List.setIfInBounds_toArray, List.set_cons_zero, List.set_cons_succ, List.getElem_toArray, List.getElem_cons_succ, List.getElem_cons_zero]
          refine wpAnyH_take (i := 4) (v := ?_) rfl (by kernel_rfl) (by kernel_rfl) (by kernel_rfl) (fun _ _ _ h => h) (Or.inl ⟨by rfl, ?_⟩) (by assumption) ?_
          rotate_left
          · (intro w hSw; (try dsimp only at hSw); go_simp; (try with_reducible rfl))
          try simp only [Act.put, List.setIfInBounds_toArray, List.set_cons_zero, List.set_cons_succ, List.getElem_toArray, List.getElem_cons_succ, List.getElem_cons_zero]
          refine wpAnyH_take (i := 5) (v := ?_) rfl (by kernel_rfl) (by kernel_rfl) (by kernel_rfl) (fun _ _ _ h => h) (Or.inl ⟨by rfl, ?_⟩) (by assumption) ?_
          rotate_left
          · (intro w hSw; (try dsimp only at hSw); go_simp; (try with_reducible rfl))
          try simp only [Act.put, List.setIfInBounds_toArray, List.set_cons_zero, List.set_cons_succ, List.getElem_toArray, List.getElem_cons_succ, List.getElem_cons_zero]
          refine wpAnyH_take (i := 6) (v := ?_) rfl (by kernel_rfl) (by kernel_rfl) (by kernel_rfl) (fun _ _ _ h => h) (Or.inl ⟨by rfl, ?_⟩) (by assumption) ?_
          rotate_left
          · (intro w hSw; (try dsimp only at hSw); go_simp; (try with_reducible rfl))
          try simp only [Act.put, List.setIfInBounds_toArray, List.set_cons_zero, List.set_cons_succ, List.getElem_toArray, List.getElem_cons_succ, List.getElem_cons_zero]
          refine wpAnyH_take (i := 7) (v := ?_) rfl (by kernel_rfl) (by kernel_rfl) (by kernel_rfl) (fun _ _ _ h => h) (Or.inl ⟨by rfl, ?_⟩) (by assumption) ?_
          rotate_left
          · (intro w hSw; (try dsimp only at hSw); go_simp; (try with_reducible rfl))
          try simp only [Act.put, List.setIfInBounds_toArray, List.set_cons_zero, List.set_cons_succ, List.getElem_toArray, List.getElem_cons_succ, List.getElem_cons_zero]
          refine wpAnyH_take (i := 8) (v := ?_) rfl (by kernel_rfl) (by kernel_rfl) (by kernel_rfl) (fun _ _ _ h => h) (Or.inl ⟨by rfl, ?_⟩) (by assumption) ?_
          rotate_left
          · (intro w hSw; (try dsimp only at hSw); go_simp; (try with_reducible rfl))
          try simp only [Act.put, List.setIfInBounds_toArray, List.set_cons_zero, List.set_cons_succ, List.getElem_toArray, List.getElem_cons_succ, List.getElem_cons_zero]
          refine wpAnyH_take (i := 9) (v := ?_) rfl (by kernel_rfl) (by kernel_rfl) (by kernel_rfl) (fun _ _ _ h => h) (Or.inl ⟨by rfl, ?_⟩) (by assumption) ?_
          rotate_left
          · (intro w hSw; (try dsimp only at hSw); go_simp; (try with_reducible rfl))
          try simp only [Act.put, List.setIfInBounds_toArray, List.set_cons_zero, List.set_cons_succ, List.getElem_toArray, List.getElem_cons_succ, List.getElem_cons_zero]
          refine wpAnyH_take (i := 11) (v := ?_) rfl (by kernel_rfl) (by kernel_rfl) (by kernel_rfl) (fun _ _ _ h => h) (Or.inl ⟨by rfl, ?_⟩) (by assumption) ?_
          rotate_left
          · (intro w hSw; (try dsimp only at hSw); go_simp; (try with_reducible rfl))
          try simp only [Act.put, List.setIfInBounds_toArray, List.set_cons_zero, List.set_cons_succ, List.getElem_toArray, List.getElem_cons_succ, List.getElem_cons_zero]
          refine wpAnyH_take (i := 12) (v := ?_) rfl (by kernel_rfl) (by kernel_rfl) (by kernel_rfl) (fun _ _ _ h => h) (Or.inl ⟨by rfl, ?_⟩) (by assumption) ?_
          rotate_left
          · (intro w hSw; (try dsimp only at hSw); go_simp; (try with_reducible rfl))
          try simp only [Act.put, List.setIfInBounds_toArray, List.set_cons_zero, List.set_cons_succ, List.getElem_toArray, List.getElem_cons_succ, List.getElem_cons_zero]
          refine wpAnyH_ready (rs := [10]) (by kernel_rfl) (by simp) ?_
          refine AllReadyH.cons rfl (fun K hK => ?_) AllReadyH.nil
          go_simp
          refine (specLen_any S z.natAbs A n c _ w2.drew (Hz.out.next Bel2.out).rd (Nat.le_refl _) Hz.out.2.1 H100.out).mono ?_
          rintro e w3 ⟨rfl, hb0⟩
          have hb : Below w2.heap.size w2 w3 := belDrew hb0
          rw [← Hbl.out]
          refine hK.out _ _ ((Bx2.out.next hb).1) (fun hHeld => ?_)
          clear hK K hb0
          have Sz3 := Lib.hid (Below.size hb)
          have Bel3 := Lib.hid (belNext Bel2.out hb)
          have Bx3 := Lib.hid (Bx2.out.next hb)
          clear hb Bel2 Bx2
          try simp only [Act.put, List.setIfInBounds_toArray, List.set_cons_zero, List.set_cons_succ, List.getElem_toArray, List.getElem_cons_succ, List.getElem_cons_zero]
          have hwr := Hwr.out
          refine wpAnyH_take (i := 13) (v := ?_) rfl (by kernel_rfl) (by kernel_rfl) (by kernel_rfl) (fun _ _ _ h => h) (Or.inl ⟨by rfl, ?_⟩) (by assumption) ?_
          rotate_left
          · (intro w hSw; (try dsimp only at hSw); go_simp; (try with_reducible rfl))
          try simp only [Act.put, List.setIfInBounds_toArray, List.set_cons_zero, List.set_cons_succ, List.getElem_toArray, List.getElem_cons_succ, List.getElem_cons_zero]
          refine wpAnyH_take (i := 14) (v := ?_) rfl (by kernel_rfl) (by kernel_rfl) (by kernel_rfl) (fun _ _ _ h => h) (Or.inl ⟨by rfl, ?_⟩) (by assumption) ?_
          rotate_left
          · (intro w hSw; (try dsimp only at hSw); go_simp; (try with_reducible rfl))
          try simp only [Act.put, List.setIfInBounds_toArray, List.set_cons_zero, List.set_cons_succ, List.getElem_toArray, List.getElem_cons_succ, List.getElem_cons_zero]
          refine wpAnyH_take (i := 15) (v := ?_) rfl (by kernel_rfl) (by kernel_rfl) (by kernel_rfl) (fun _ _ _ h => h) (Or.inl ⟨by rfl, ?_⟩) (by assumption) ?_
          rotate_left
          · (intro w hSw; (try dsimp only at hSw); go_simp; (try with_reducible rfl))
          try simp only [Act.put, List.setIfInBounds_toArray, List.set_cons_zero, List.set_cons_succ, List.getElem_toArray, List.getElem_cons_succ, List.getElem_cons_zero]
          refine wpAnyH_take (i := 16) (v := ?_) rfl (by kernel_rfl) (by kernel_rfl) (by kernel_rfl) (fun _ _ _ h => h) (Or.inl ⟨by rfl, ?_⟩) (by assumption) ?_
          rotate_left
          · (intro w hSw; (try dsimp only at hSw); go_simp; (try with_reducible rfl))
          try simp only [Act.put, List.setIfInBounds_toArray, List.set_cons_zero, List.set_cons_succ, List.getElem_toArray, List.getElem_cons_succ, List.getElem_cons_zero]
          clear hHeld
          refine wpAnyH_done (by kernel_rfl) ?_ _
          go_wp2_with fail
          go_ret
          exact ⟨ret_int Hres.out.2.2.symm, Bel3.out⟩
        · have hk5 : decide (400 < (bl : Int) + E) = true := decide_eq_true (by omega)
          have Hres := Lib.hid (rb_range (k := k) HW.out (fun h => ht (by have h4 := h.2.2.2; rw [Hmg.out, ← Hbl.out] at h4; exact h4)))
          clear ht
          go_wp2_with fail
          refine wp_region_held_drew (S := fun w' => (w'.cell? ⟨w.heap.size, 0, none⟩ = some (.int .i64 S) ∧ w'.cell? ⟨w.heap.size, 1, none⟩ = some (.slice A n c) ∧ w'.cell? ⟨w.heap.size, 2, none⟩ = some (.int .i64 E))) (by kernel_rfl) Bx2.out.1 (fun hHeld => ?_)
          clear hBx0 hBx1 hBx2 hBx3
          refine wpAnyH_take (i := 0) (v := ?_) rfl (by kernel_rfl) (by kernel_rfl) (by kernel_rfl) (fun _ _ _ h => h) (Or.inl ⟨by rfl, ?_⟩) (by assumption) ?_
          rotate_left
          · (intro w hSw; (try dsimp only at hSw); go_simp; (try with_reducible rfl))
          try simp only [Act.put, List.setIfInBounds_toArray, List.set_cons_zero, List.set_cons_succ, List.getElem_toArray, List.getElem_cons_succ, List.getElem_cons_zero]
          refine wpAnyH_take (i := 1) (v := ?_) rfl (by kernel_rfl) (by kernel_rfl) (by kernel_rfl) (fun _ _ _ h => h) (Or.inl ⟨by rfl, ?_⟩) (by assumption) ?_
          rotate_left
          · (intro w hSw; (try dsimp only at hSw); go_simp; (try with_reducible rfl))
          try simp only [Act.put, List.setIfInBounds_toArray, List.set_cons_zero, List.set_cons_succ, List.getElem_toArray, List.getElem_cons_succ, List.getElem_cons_zero]
          refine wpAnyH_take (i := 2) (v := ?_) rfl (by kernel_rfl) (by kernel_rfl) (by kernel_rfl) (fun _ _ _ h => h) (Or.inl ⟨by rfl, ?_⟩) (by assumption) ?_
          rotate_left
          · (intro w hSw; (try dsimp only at hSw); go_simp; (try with_reducible rfl))
          try simp only [Act.put, List.setIfInBounds_toArray, List.set_cons_zero, List.set_cons_succ, List.getElem_toArray, List.getElem_cons_succ, List.getElem_cons_zero]
          refine wpAnyH_take (i := 3) (v := ?_) rfl (by kernel_rfl) (by kernel_rfl) (by kernel_rfl) (fun _ _ _ h => h) (Or.inl ⟨by rfl, ?_⟩) (by assumption) ?_
          rotate_left
          · (intro w hSw; (try dsimp only at hSw); go_simp; (try with_reducible rfl))
          try simp only [Act.put, List.setIfInBounds_toArray, List.set_cons_zero, List.set_cons_succ, List.getElem_toArray, List.getElem_cons_succ, List.getElem_cons_zero]
          refine wpAnyH_take (i := 4) (v := ?_) rfl (by kernel_rfl) (by kernel_rfl) (by kernel_rfl) (fun _ _ _ h => h) (Or.inl ⟨by rfl, ?_⟩) (by assumption) ?_
          rotate_left
          · (intro w hSw; (try dsimp only at hSw); go_simp; (try with_reducible rfl))
          try simp only [Act.put, List.setIfInBounds_toArray, List.set_cons_zero, List.set_cons_succ, List.getElem_toArray, List.getElem_cons_succ, List.getElem_cons_zero]
          refine wpAnyH_take (i := 5) (v := ?_) rfl (by kernel_rfl) (by kernel_rfl) (by kernel_rfl) (fun _ _ _ h => h) (Or.inl ⟨by rfl, ?_⟩) (by assumption) ?_
          rotate_left
          · (intro w hSw; (try dsimp only at hSw); go_simp; (try with_reducible rfl))
          try simp only [Act.put, List.setIfInBounds_toArray, List.set_cons_zero, List.set_cons_succ, List.getElem_toArray, List.getElem_cons_succ, List.getElem_cons_zero]
          refine wpAnyH_take (i := 6) (v := ?_) rfl (by kernel_rfl) (by kernel_rfl) (by kernel_rfl) (fun _ _ _ h => h) (Or.inl ⟨by rfl, ?_⟩) (by assumption) ?_
          rotate_left
          · (intro w hSw; (try dsimp only at hSw); go_simp; (try with_reducible rfl))
          try simp only [Act.put, List.setIfInBounds_toArray, List.set_cons_zero, List.set_cons_succ, List.getElem_toArray, List.getElem_cons_succ, List.getElem_cons_zero]
          refine wpAnyH_take (i := 7) (v := ?_) rfl (by kernel_rfl) (by kernel_rfl) (by kernel_rfl) (fun _ _ _ h => h) (Or.inl ⟨by rfl, ?_⟩) (by assumption) ?_
          rotate_left
          · (intro w hSw; (try dsimp only at hSw); go_simp; (try with_reducible rfl))
          try simp only [Act.put, List.setIfInBounds_toArray, List.set_cons_zero, List.set_cons_succ, List.getElem_toArray, List.getElem_cons_succ, List.getElem_cons_zero]
          refine wpAnyH_take (i := 8) (v := ?_) rfl (by kernel_rfl) (by kernel_rfl) (by kernel_rfl) (fun _ _ _ h => h) (Or.inl ⟨by rfl, ?_⟩) (by assumption) ?_
          rotate_left
          · (intro w hSw; (try dsimp only at hSw); go_simp; (try with_reducible rfl))
          try simp only [Act.put, List.setIfInBounds_toArray, List.set_cons_zero, List.set_cons_succ, List.getElem_toArray, List.getElem_cons_succ, List.getElem_cons_zero]
          refine wpAnyH_take (i := 9) (v := ?_) rfl (by kernel_rfl) (by kernel_rfl) (by kernel_rfl) (fun _ _ _ h => h) (Or.inl ⟨by rfl, ?_⟩) (by assumption) ?_
          rotate_left
          · (intro w hSw; (try dsimp only at hSw); go_simp; (try with_reducible rfl))
          try simp only [Act.put, List.setIfInBounds_toArray, List.set_cons_zero, List.set_cons_succ, List.getElem_toArray, List.getElem_cons_succ, List.getElem_cons_zero]
          refine wpAnyH_take (i := 11) (v := ?_) rfl (by kernel_rfl) (by kernel_rfl) (by kernel_rfl) (fun _ _ _ h => h) (Or.inl ⟨by rfl, ?_⟩) (by assumption) ?_
          rotate_left
          · (intro w hSw; (try dsimp only at hSw); go_simp; (try with_reducible rfl))
          try simp only [Act.put, List.setIfInBounds_toArray, List.set_cons_zero, List.set_cons_succ, List.getElem_toArray, List.getElem_cons_succ, List.getElem_cons_zero]
          refine wpAnyH_take (i := 12) (v := ?_) rfl (by kernel_rfl) (by kernel_rfl) (by kernel_rfl) (fun _ _ _ h => h) (Or.inl ⟨by rfl, ?_⟩) (by assumption) ?_
          rotate_left
          · (intro w hSw; (try dsimp only at hSw); go_simp; (try with_reducible rfl))
          try simp only [Act.put, List.setIfInBounds_toArray, List.set_cons_zero, List.set_cons_succ, List.getElem_toArray, List.getElem_cons_succ, List.getElem_cons_zero]
          refine wpAnyH_ready (rs := [10]) (by kernel_rfl) (by simp) ?_
          refine AllReadyH.cons rfl (fun K hK => ?_) AllReadyH.nil
          go_simp
          refine (specLen_any S z.natAbs A n c _ w2.drew (Hz.out.next Bel2.out).rd (Nat.le_refl _) Hz.out.2.1 H100.out).mono ?_
          rintro e w3 ⟨rfl, hb0⟩
          have hb : Below w2.heap.size w2 w3 := belDrew hb0
          rw [← Hbl.out]
          refine hK.out _ _ ((Bx2.out.next hb).1) (fun hHeld => ?_)
          clear hK K hb0
          have Sz3 := Lib.hid (Below.size hb)
          have Bel3 := Lib.hid (belNext Bel2.out hb)
          have Bx3 := Lib.hid (Bx2.out.next hb)
          clear hb Bel2 Bx2
          try simp only [Act.put, List.setIfInBounds_toArray, List.set_cons_zero, List.set_cons_succ, List.getElem_toArray, List.getElem_cons_succ, List.getElem_cons_zero]
          have hwr := Hwr.out
          refine wpAnyH_take (i := 13) (v := ?_) rfl (by kernel_rfl) (by kernel_rfl) (by kernel_rfl) (fun _ _ _ h => h) (Or.inl ⟨by rfl, ?_⟩) (by assumption) ?_
          rotate_left
          · (intro w hSw; (try dsimp only at hSw); go_simp; (try with_reducible rfl))
          try simp only [Act.put, List.setIfInBounds_toArray, List.set_cons_zero, List.set_cons_succ, List.getElem_toArray, List.getElem_cons_succ, List.getElem_cons_zero]
          refine wpAnyH_take (i := 14) (v := ?_) rfl (by kernel_rfl) (by kernel_rfl) (by kernel_rfl) (fun _ _ _ h => h) (Or.inl ⟨by rfl, ?_⟩) (by assumption) ?_
          rotate_left
          · (intro w hSw; (try dsimp only at hSw); go_simp; (try with_reducible rfl))
          try simp only [Act.put, List.setIfInBounds_toArray, List.set_cons_zero, List.set_cons_succ, List.getElem_toArray, List.getElem_cons_succ, List.getElem_cons_zero]
          refine wpAnyH_take (i := 15) (v := ?_) rfl (by kernel_rfl) (by kernel_rfl) (by kernel_rfl) (fun _ _ _ h => h) (Or.inl ⟨by rfl, ?_⟩) (by assumption) ?_
          rotate_left
          · (intro w hSw; (try dsimp only at hSw); go_simp; (try with_reducible rfl))
          try simp only [Act.put, List.setIfInBounds_toArray, List.set_cons_zero, List.set_cons_succ, List.getElem_toArray, List.getElem_cons_succ, List.getElem_cons_zero]
          refine wpAnyH_take (i := 16) (v := ?_) rfl (by kernel_rfl) (by kernel_rfl) (by kernel_rfl) (fun _ _ _ h => h) (Or.inl ⟨by rfl, ?_⟩) (by assumption) ?_
          rotate_left
          · (intro w hSw; (try dsimp only at hSw); go_simp; (try with_reducible rfl))
          try simp only [Act.put, List.setIfInBounds_toArray, List.set_cons_zero, List.set_cons_succ, List.getElem_toArray, List.getElem_cons_succ, List.getElem_cons_zero]
          clear hHeld
          refine wpAnyH_done (by kernel_rfl) ?_ _
          go_wp2_with fail
          go_ret
          exact ⟨ret_int Hres.out.2.2.symm, Bel3.out⟩
      · have hk4 : decide (S < 0) = true := decide_eq_true (by omega)
        have Hres := Lib.hid (rb_range (k := k) HW.out (fun h => hs h.2.2.1))
        clear hs
        go_wp2_with fail
        go_quiet (fail)
        go_wp2_with fail
        go_ret
        exact ⟨ret_int Hres.out.2.2.symm, below_drewN Bel2.out _⟩
    · have hrg : rgE S xs E k 0 200 = 2 := by unfold rgE; rw [if_pos HW.out, if_neg hk]
      rw [hrg]
      have Hres := Lib.hid (rb_range (k := k) HW.out (fun h => hk ⟨h.1, h.2.1⟩))
      clear hrg hk
      go_wp2_with fail
      go_quiet (fail)
      go_wp2_with fail
      go_ret
      exact ⟨ret_int Hres.out.2.2.symm, below_drewN Bel2.out _⟩
  · have hW2 : isD S xs E = false := by simpa using hW
    have hrg : rgE S xs E k 0 200 = 1 := by unfold rgE; rw [if_neg hW]
    rw [hrg]
    have Hres := Lib.hid (rb_no (k := k) hW2)
    clear hrg hW hW2
    go_wp2_with fail
    go_quiet (fail)
    go_wp2_with fail
    go_ret
    exact ⟨ret_int Hres.out.2.2.symm, below_drewN Bel2.out _⟩

end Go.Proofs.YtnecnbonnidijaaDoor
/- RootBelow, of the program and of the model. -/
namespace Go.Proofs.YtnecnbonnidijaaDoor
set_option maxRecDepth 100000
open Go.RowKit
set_option linter.unusedSimpArgs false
set_option linter.unusedVariables false

end Go.Proofs.YtnecnbonnidijaaDoor
