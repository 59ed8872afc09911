/- Comparing whole numbers, of the program and of the model. -/
import Derived.Test.YtnnoobdcdfcdaaaBx
import Derived.Test.YtnnoobdcdfcdaaaLn
namespace Go.Proofs.Ytnnoobdcdfcdaaa
set_option maxRecDepth 100000
open Go.RowKit
set_option linter.unusedSimpArgs false
set_option linter.unusedVariables false

/-- -1, 0 or 1 -/
def cmpI (a b : Int) : Int := if a < b then -1 else if a = b then 0 else 1
theorem cmpI_lt {a b : Int} (h : a < b) : cmpI a b = -1 := if_pos h
theorem cmpI_eq (a : Int) : cmpI a a = 0 := by unfold cmpI; simp
theorem cmpI_gt {a b : Int} (h : b < a) : cmpI a b = 1 := by unfold cmpI; rw [if_neg (by omega), if_neg (by omega)]
theorem cmpI_small (a b : Int) : -1 ≤ cmpI a b ∧ cmpI a b ≤ 1 := by unfold cmpI; split <;> (try split) <;> omega

theorem isNaN64_any (x : Int) (w : World) : Calls Try.prog 98 #[.int .i64 x] w fun e w' => e = .returned (.bool false) ∧ w = w' := by
  go_enter Try.func98, Try.ntmps98
  go_wp2_with fail
  go_ret
  exact ⟨ret_bool (by simp), rfl⟩
theorem isNaN_any (x : Int) (w : World) : Calls Try.prog 99 #[.int .i64 x] w fun e w' => e = .returned (.bool false) ∧ w = w' := by
  go_enter Try.func99, Try.ntmps99
  go_wp2_with fail
  go_ret
  exact ⟨ret_bool (by simp), rfl⟩
theorem cmp64_any (x y : Int) (w : World) : Calls Try.prog 88 #[.int .i64 x, .int .i64 y] w fun e w' => e = .returned (.int .i64 (cmpI x y)) ∧ w = w' := by
  rcases Int.lt_trichotomy x y with h | h | h
  · have H := Lib.hid (cmpI_lt h)
    go_enter Try.func88, Try.ntmps88
    go_wp2_with (first | (go_at_call 98; refine (isNaN64_any _ _).mono ?_; rintro e w' ⟨rfl, rfl⟩))
    go_ret
    exact ⟨ret_int H.out.symm, rfl⟩
  · subst h
    have H := Lib.hid (cmpI_eq x)
    go_enter Try.func88, Try.ntmps88
    go_wp2_with (first | (go_at_call 98; refine (isNaN64_any _ _).mono ?_; rintro e w' ⟨rfl, rfl⟩))
    go_ret
    exact ⟨ret_int H.out.symm, rfl⟩
  · have H := Lib.hid (cmpI_gt h)
    have h2 : ¬ x < y := by omega
    go_enter Try.func88, Try.ntmps88
    go_wp2_with (first | (go_at_call 98; refine (isNaN64_any _ _).mono ?_; rintro e w' ⟨rfl, rfl⟩))
    go_ret
    exact ⟨ret_int H.out.symm, rfl⟩
theorem cmpInt_any (x y : Int) (w : World) : Calls Try.prog 95 #[.int .i64 x, .int .i64 y] w fun e w' => e = .returned (.int .i64 (cmpI x y)) ∧ w = w' := by
  rcases Int.lt_trichotomy x y with h | h | h
  · have H := Lib.hid (cmpI_lt h)
    go_enter Try.func95, Try.ntmps95
    go_wp2_with (first | (go_at_call 99; refine (isNaN_any _ _).mono ?_; rintro e w' ⟨rfl, rfl⟩))
    go_ret
    exact ⟨ret_int H.out.symm, rfl⟩
  · subst h
    have H := Lib.hid (cmpI_eq x)
    go_enter Try.func95, Try.ntmps95
    go_wp2_with (first | (go_at_call 99; refine (isNaN_any _ _).mono ?_; rintro e w' ⟨rfl, rfl⟩))
    go_ret
    exact ⟨ret_int H.out.symm, rfl⟩
  · have H := Lib.hid (cmpI_gt h)
    have h2 : ¬ x < y := by omega
    go_enter Try.func95, Try.ntmps95
    go_wp2_with (first | (go_at_call 99; refine (isNaN_any _ _).mono ?_; rintro e w' ⟨rfl, rfl⟩))
    go_ret
    exact ⟨ret_int H.out.symm, rfl⟩

theorem drop_same {xs ys : List Nat} {k : Nat} (hk : k < xs.length) (hk' : k < ys.length) (h : xs.drop (k + 1) = ys.drop (k + 1)) (he : xs[k] = ys[k]) : xs.drop k = ys.drop k := by
  rw [List.drop_eq_getElem_cons hk, List.drop_eq_getElem_cons hk', h, he]

theorem cmp_limbs_lt {a b k : Nat} (hl : (limbs a).length = (limbs b).length) (hk : k < (limbs a).length) (hk' : k < (limbs b).length) (hs : (limbs a).drop (k + 1) = (limbs b).drop (k + 1)) (hlt : (limbs a)[k] < (limbs b)[k]) : cmpI a b = -1 := by
  have := cmp_at (Lim_limbs a) hl hk hk' hs hlt
  rw [V_limbs, V_limbs] at this
  exact cmpI_lt (by omega)
theorem cmp_limbs_gt {a b k : Nat} (hl : (limbs a).length = (limbs b).length) (hk : k < (limbs a).length) (hk' : k < (limbs b).length) (hs : (limbs a).drop (k + 1) = (limbs b).drop (k + 1)) (hlt : (limbs b)[k] < (limbs a)[k]) : cmpI a b = 1 := by
  have := cmp_at (Lim_limbs b) hl.symm hk' hk hs.symm hlt
  rw [V_limbs, V_limbs] at this
  exact cmpI_gt (by omega)

set_option maxHeartbeats 1000000 in
theorem natCmp_any (a b : Nat) (A A' : Option Addr) (n n' c c' B B' : Nat) (w : World) (hr : Rd w B A (vs (limbs a))) (hr' : Rd w B' A' (vs (limbs b))) (hn : (limbs a).length = n) (hn' : (limbs b).length = n') (hm : (n : Int) ≤ 100000) (hm' : (n' : Int) ≤ 100000) :
    Calls Try.prog 74 #[.slice A n c, .slice A' n' c'] w fun e w' => e = .returned (.int .i64 (cmpI a b)) ∧ ∃ q, w' = w.drewN q := by
  by_cases hl : n = n'
  · subst hl
    have Hn := Lib.hid hn
    have Hn' := Lib.hid hn'
    have Hl : Hid ((limbs a).length = (limbs b).length) := Lib.hid (by rw [hn, hn'])
    clear hn hn' hm'
    have hnn : (n : Int) = n := rfl
    clear hnn
    go_enter Try.func74, Try.ntmps74
    go_wp2_with fail
    go_step3
    go_wp2_with fail
    go_step3
    go_wp2_with fail
    go_loopw [5] (fun i wr => ∃ k : Nat, k ≤ n ∧ i = .int .i64 ((k : Int) - 1) ∧ ((limbs a).drop k = (limbs b).drop k) ∧ ∃ q, wr = w.drewN q) (fun i _ => ((intOf i) + 1).toNat)
    case atStart => exact ⟨n, Nat.le_refl _, rfl, by rw [List.drop_of_length_le (by have := Hn.out; omega), List.drop_of_length_le (by have := Hn'.out; omega)], 0, rfl⟩
    case round =>
      obtain ⟨k, hk, rfl, hs, q, hq⟩ := hrel
      have hr := hr.drewN q
      have hr' := hr'.drewN q
      rw [← hq] at hr hr'
      have Hq := Lib.hid hq
      have Hs := Lib.hid hs
      clear hq hs
      by_cases h0 : k = 0
      · subst h0
        have Hab : Hid (cmpI a b = 0) := Lib.hid (by
          have h := Hs.out
          simp only [List.drop_zero] at h
          rw [limbs_inj h, cmpI_eq])
        clear hr hr'
        go_wp2_with fail
        (try rw [Exit.noGoto_ret])
        go_ret
        exact ⟨ret_int Hab.out.symm, q, Hq.out⟩
      · obtain ⟨j, rfl⟩ : ∃ j, k = j + 1 := ⟨k - 1, by omega⟩
        have hkx : j < (limbs a).length := by rw [Hn.out]; omega
        have hky : j < (limbs b).length := by rw [Hn'.out]; omega
        obtain ⟨p, hp, _⟩ := hr.some_ (by rw [vs_len]; omega)
        obtain ⟨p', hp', _⟩ := hr'.some_ (by rw [vs_len]; omega)
        subst hp hp'
        have hc1 := hr.cell (k := j) (by rw [vs_len]; exact hkx)
        have hc2 := hr'.cell (k := j) (by rw [vs_len]; exact hky)
        rw [vs_get hkx] at hc1
        rw [vs_get hky] at hc2
        have hj : ((j + 1 : Nat) : Int) - 1 = j := by omega
        rw [hj]
        have hjn : (j : Int) < n := by omega
        have Hj : Hid (((j + 1 : Nat) : Int) - 1 = j) := Lib.hid hj
        clear hr hr' hj h0
        rcases Nat.lt_trichotomy (limbs a)[j] (limbs b)[j] with hlt | heq | hgt
        · have H := Lib.hid (cmp_limbs_lt Hl.out hkx hky Hs.out hlt)
          generalize (limbs a)[j] = x at *
          generalize (limbs b)[j] = y at *
          have e1 : ((x : Int) == y) = false := beq_false_of_ne (by omega)
          have e2 : (x : Int) < y := by omega
          clear hlt
          go_wp2_with fail
          go_quiet (fail)
          go_wp2_with fail
          go_quiet (fail)
          go_wp2_with fail
          (try rw [Exit.noGoto_ret])
          go_ret
          exact ⟨ret_int H.out.symm, _, by rw [Hq.out, World.drewN_drewN, World.drewN_drewN]⟩
        · have H := Lib.hid (drop_same hkx hky Hs.out heq)
          rw [heq] at hc1
          generalize (limbs b)[j] = y at *
          clear heq
          go_wp2_with fail
          go_quiet (fail)
          go_wp2_with fail
          go_roundw
          case rel => exact ⟨j, by omega, rfl, H.out, _, by rw [Hq.out, World.drewN_drewN]⟩
          case measure => simp [intOf]
        · have H := Lib.hid (cmp_limbs_gt Hl.out hkx hky Hs.out hgt)
          generalize (limbs a)[j] = x at *
          generalize (limbs b)[j] = y at *
          have e1 : ((x : Int) == y) = false := beq_false_of_ne (by omega)
          have e2 : (y : Int) < x := by omega
          have e3 : ¬ (x : Int) < y := by omega
          clear hgt
          go_wp2_with fail
          go_quiet (fail)
          go_wp2_with fail
          go_quiet (fail)
          go_wp2_with fail
          (try rw [Exit.noGoto_ret])
          go_ret
          exact ⟨ret_int H.out.symm, _, by rw [Hq.out, World.drewN_drewN, World.drewN_drewN]⟩
  · have H : Hid (cmpI n n' = cmpI a b) := Lib.hid (by
      rcases Nat.lt_or_ge n n' with h | h
      · have := lt_of_len (a := a) (b := b) (by omega)
        rw [cmpI_lt (by omega), cmpI_lt (by omega)]
      · have := lt_of_len (a := b) (b := a) (by omega)
        rw [cmpI_gt (by omega), cmpI_gt (by omega)])
    have hne : ((n : Int) == n') = false := by simp; omega
    clear hr hr' hn hn'
    go_enter Try.func74, Try.ntmps74
    go_wp2_with fail
    go_step3
    go_wp2_with fail
    refine (cmpInt_any _ _ _).mono ?_
    rintro e w' ⟨rfl, rfl⟩
    go_wp2_with fail
    (try rw [Exit.noGoto_ret])
    go_ret
    exact ⟨ret_int H.out, 0, rfl⟩

set_option maxHeartbeats 1000000 in
theorem specCmpL_any (a b : Nat) (A A' : Option Addr) (n n' c c' B B' : Nat) (w : World) (hr : Rd w B A (vs (limbs a))) (hr' : Rd w B' A' (vs (limbs b))) (hn : (limbs a).length = n) (hn' : (limbs b).length = n') (hm : (n : Int) ≤ 100000) (hm' : (n' : Int) ≤ 100000) :
    Calls Try.prog 90 #[.slice A n c, .slice A' n' c'] w fun e w' => e = .returned (.int .i64 (cmpI a b)) ∧ ∃ q, w' = w.drewN q := by
  rcases Nat.lt_trichotomy n n' with hl | hl | hl
  · have H : Hid (cmpI a b = -1) := Lib.hid (cmpI_lt (by have := lt_of_len (a := a) (b := b) (by omega); omega))
    have hne : ((n : Int) == n') = false := beq_false_of_ne (by omega)
    clear hr hr' hn hn'
    go_enter Try.func90, Try.ntmps90
    go_wp2_with fail
    go_ret
    exact ⟨ret_int H.out.symm, 0, rfl⟩
  · subst hl
    have Hn := Lib.hid hn
    have Hn' := Lib.hid hn'
    have Hl : Hid ((limbs a).length = (limbs b).length) := Lib.hid (by rw [hn, hn'])
    clear hn hn' hm'
    go_enter Try.func90, Try.ntmps90
    go_wp2_with fail
    go_loopw [5] (fun i wr => ∃ k : Nat, k ≤ n ∧ i = .int .i64 ((k : Int) - 1) ∧ ((limbs a).drop k = (limbs b).drop k) ∧ ∃ q, wr = w.drewN q) (fun i _ => ((intOf i) + 1).toNat)
    case atStart => exact ⟨n, Nat.le_refl _, rfl, by rw [List.drop_of_length_le (by have := Hn.out; omega), List.drop_of_length_le (by have := Hn'.out; omega)], 0, rfl⟩
    case round =>
      obtain ⟨k, hk, rfl, hs, q, hq⟩ := hrel
      have hr := hr.drewN q
      have hr' := hr'.drewN q
      rw [← hq] at hr hr'
      have Hq := Lib.hid hq
      have Hs := Lib.hid hs
      clear hq hs
      by_cases h0 : k = 0
      · subst h0
        have Hab : Hid (cmpI a b = 0) := Lib.hid (by
          have h := Hs.out
          simp only [List.drop_zero] at h
          rw [limbs_inj h, cmpI_eq])
        clear hr hr'
        go_wp2_with fail
        go_ret
        exact ⟨ret_int Hab.out.symm, q, Hq.out⟩
      · obtain ⟨j, rfl⟩ : ∃ j, k = j + 1 := ⟨k - 1, by omega⟩
        have hkx : j < (limbs a).length := by rw [Hn.out]; omega
        have hky : j < (limbs b).length := by rw [Hn'.out]; omega
        obtain ⟨p, hp, _⟩ := hr.some_ (by rw [vs_len]; omega)
        obtain ⟨p', hp', _⟩ := hr'.some_ (by rw [vs_len]; omega)
        subst hp hp'
        have hc1 := hr.cell (k := j) (by rw [vs_len]; exact hkx)
        have hc2 := hr'.cell (k := j) (by rw [vs_len]; exact hky)
        rw [vs_get hkx] at hc1
        rw [vs_get hky] at hc2
        have hj : ((j + 1 : Nat) : Int) - 1 = j := by omega
        rw [hj]
        have hjn : (j : Int) < n := by omega
        have Hj : Hid (((j + 1 : Nat) : Int) - 1 = j) := Lib.hid hj
        clear hr hr' hj h0
        rcases Nat.lt_trichotomy (limbs a)[j] (limbs b)[j] with hlt | heq | hgt
        · have H := Lib.hid (cmp_limbs_lt Hl.out hkx hky Hs.out hlt)
          generalize (limbs a)[j] = x at *
          generalize (limbs b)[j] = y at *
          have e1 : ((x : Int) == y) = false := beq_false_of_ne (by omega)
          have e2 : (x : Int) < y := by omega
          clear hlt
          go_wp2_with fail
          go_quiet (fail)
          go_wp2_with fail
          go_quiet (fail)
          go_wp2_with fail
          go_ret
          exact ⟨ret_int H.out.symm, _, by rw [Hq.out, World.drewN_drewN, World.drewN_drewN]⟩
        · have H := Lib.hid (drop_same hkx hky Hs.out heq)
          rw [heq] at hc1
          generalize (limbs b)[j] = y at *
          clear heq
          go_wp2_with fail
          go_quiet (fail)
          go_wp2_with fail
          go_roundw
          case rel => exact ⟨j, by omega, rfl, H.out, _, by rw [Hq.out, World.drewN_drewN]⟩
          case measure => simp [intOf]
        · have H := Lib.hid (cmp_limbs_gt Hl.out hkx hky Hs.out hgt)
          generalize (limbs a)[j] = x at *
          generalize (limbs b)[j] = y at *
          have e1 : ((x : Int) == y) = false := beq_false_of_ne (by omega)
          have e2 : (y : Int) < x := by omega
          have e3 : ¬ (x : Int) < y := by omega
          clear hgt
          go_wp2_with fail
          go_quiet (fail)
          go_wp2_with fail
          go_quiet (fail)
          go_wp2_with fail
          go_ret
          exact ⟨ret_int H.out.symm, _, by rw [Hq.out, World.drewN_drewN, World.drewN_drewN]⟩
  · have H : Hid (cmpI a b = 1) := Lib.hid (cmpI_gt (by have := lt_of_len (a := b) (b := a) (by omega); omega))
    have hne : ((n : Int) == n') = false := beq_false_of_ne (by omega)
    have hnl : ¬ (n : Int) < n' := by omega
    clear hr hr' hn hn'
    go_enter Try.func90, Try.ntmps90
    go_wp2_with fail
    go_ret
    exact ⟨ret_int H.out.symm, 0, rfl⟩

/-- signs and absolute values -/
def Sg (s : Int) (v : Nat) : Prop := -1 ≤ s ∧ s ≤ 1 ∧ (s = 0 ↔ v = 0)
theorem cmp_signs {s s' : Int} {v v' : Nat} (h : Sg s v) (h' : Sg s' v') (hne : s ≠ s') : cmpI s s' = cmpI (s * v) (s' * v') := by
  obtain ⟨h1, h2, h3⟩ := h
  obtain ⟨g1, g2, g3⟩ := h'
  have a : s = -1 ∨ s = 0 ∨ s = 1 := by omega
  have b : s' = -1 ∨ s' = 0 ∨ s' = 1 := by omega
  rcases a with rfl | rfl | rfl <;> rcases b with rfl | rfl | rfl <;> simp at h3 g3 hne ⊢
  all_goals first
    | (rw [cmpI_lt (by omega), cmpI_lt (by omega)])
    | (rw [cmpI_gt (by omega), cmpI_gt (by omega)])
theorem cmp_same {s : Int} {v v' : Nat} (h : Sg s v) (h' : Sg s v') : s * cmpI v v' = cmpI (s * v) (s * v') := by
  obtain ⟨h1, h2, h3⟩ := h
  obtain ⟨g1, g2, g3⟩ := h'
  have a : s = -1 ∨ s = 0 ∨ s = 1 := by omega
  rcases a with rfl | rfl | rfl
  · rcases Nat.lt_trichotomy v v' with h | h | h
    · rw [cmpI_lt (by omega), cmpI_gt (by omega)]; rfl
    · rw [h, cmpI_eq, cmpI_eq]; rfl
    · rw [cmpI_gt (by omega), cmpI_lt (by omega)]; rfl
  · simp [cmpI_eq]
  · simp

set_option maxHeartbeats 400000 in
theorem implCmp_any (s s' : Int) (a b : Nat) (A A' : Option Addr) (n n' c c' : Nat) (w : World) (hs : Sg s a) (hs' : Sg s' b) (hr : Rd w w.heap.size A (vs (limbs a))) (hr' : Rd w w.heap.size A' (vs (limbs b))) (hn : (limbs a).length = n) (hn' : (limbs b).length = n') (hm : (n : Int) ≤ 100000) (hm' : (n' : Int) ≤ 100000) :
    Calls Try.prog 56 #[.agg #[.int .i64 s, .slice A n c], .agg #[.int .i64 s', .slice A' n' c']] w fun e w' => e = .returned (.int .i64 (cmpI (s * a) (s' * b))) ∧ Below w.heap.size w w' := by
  have Hb := Lib.hid (two_boxes w s s' A A' n n' c c' 26 26)
  have Hr := Lib.hid hr
  have Hr' := Lib.hid hr'
  have Hn := Lib.hid hn
  have Hn' := Lib.hid hn'
  clear hr hr' hn hn'
  by_cases he : s = s'
  · subst he
    have Hc := Lib.hid (cmp_same hs hs')
    have Hw : Hid (wrap64 (s * cmpI a b) = cmpI (s * a) (s * b)) := Lib.hid (by rw [Hc.out]; have := cmpI_small (s * a) (s * b); unfold wrap64; omega)
    have hsm : (-1 ≤ s) ∧ (s ≤ 1) := ⟨hs.1, hs.2.1⟩
    have hs1 := hsm.1
    have hs2 := hsm.2
    clear hs hs' hsm
    go_enter Try.func56, Try.ntmps56
    go_wp2_with fail
    obtain ⟨w1, hw1⟩ : ∃ w1, w1 = (w.alloc (.cells #[.int .i64 s, .slice A n c] 26)).alloc (.cells #[.int .i64 s, .slice A' n' c'] 26) := ⟨_, rfl⟩
    rw [← hw1] at Hb ⊢
    clear hw1
    obtain ⟨⟨hx1, hx2⟩, hx3⟩ := Hb.out.1
    obtain ⟨⟨hy1, hy2⟩, hy3⟩ := Hb.out.2.1
    have Hr1 := Lib.hid (Hr.out.below Hb.out.2.2)
    have Hr1' := Lib.hid (Hr'.out.below Hb.out.2.2)
    go_quiet ((go_at_call 74; exact Calls.quiet_of (natCmp_any a b A A' n n' c c' _ _ _ Hr1.out Hr1'.out Hn.out Hn'.out hm hm')))
    go_wp2_with fail
    go_ret
    exact ⟨ret_int Hw.out, below_drewN Hb.out.2.2 nq⟩
  · have Hc := Lib.hid (cmp_signs hs hs' he)
    have hne : (s == s') = false := beq_false_of_ne he
    clear hs hs' he
    go_enter Try.func56, Try.ntmps56
    go_wp2_with fail
    refine (cmp64_any _ _ _).mono ?_
    rintro e w' ⟨rfl, rfl⟩
    go_wp2_with fail
    go_ret
    exact ⟨ret_int Hc.out, Hb.out.2.2⟩
set_option maxHeartbeats 400000 in
theorem specCmp_any (s s' : Int) (a b : Nat) (A A' : Option Addr) (n n' c c' : Nat) (w : World) (hs : Sg s a) (hs' : Sg s' b) (hr : Rd w w.heap.size A (vs (limbs a))) (hr' : Rd w w.heap.size A' (vs (limbs b))) (hn : (limbs a).length = n) (hn' : (limbs b).length = n') (hm : (n : Int) ≤ 100000) (hm' : (n' : Int) ≤ 100000) :
    Calls Try.prog 68 #[.agg #[.int .i64 s, .slice A n c], .agg #[.int .i64 s', .slice A' n' c']] w fun e w' => e = .returned (.int .i64 (cmpI (s * a) (s' * b))) ∧ Below w.heap.size w w' := by
  have Hb := Lib.hid (two_boxes w s s' A A' n n' c c' 26 26)
  have Hr := Lib.hid hr
  have Hr' := Lib.hid hr'
  have Hn := Lib.hid hn
  have Hn' := Lib.hid hn'
  clear hr hr' hn hn'
  by_cases he : s = s'
  · subst he
    have Hc := Lib.hid (cmp_same hs hs')
    have Hw : Hid (wrap64 (s * cmpI a b) = cmpI (s * a) (s * b)) := Lib.hid (by rw [Hc.out]; have := cmpI_small (s * a) (s * b); unfold wrap64; omega)
    have hsm : (-1 ≤ s) ∧ (s ≤ 1) := ⟨hs.1, hs.2.1⟩
    have hs1 := hsm.1
    have hs2 := hsm.2
    clear hs hs' hsm
    go_enter Try.func68, Try.ntmps68
    go_wp2_with fail
    obtain ⟨w1, hw1⟩ : ∃ w1, w1 = (w.alloc (.cells #[.int .i64 s, .slice A n c] 26)).alloc (.cells #[.int .i64 s, .slice A' n' c'] 26) := ⟨_, rfl⟩
    rw [← hw1] at Hb ⊢
    clear hw1
    obtain ⟨⟨hx1, hx2⟩, hx3⟩ := Hb.out.1
    obtain ⟨⟨hy1, hy2⟩, hy3⟩ := Hb.out.2.1
    have Hr1 := Lib.hid (Hr.out.below Hb.out.2.2)
    have Hr1' := Lib.hid (Hr'.out.below Hb.out.2.2)
    go_quiet ((go_at_call 90; exact Calls.quiet_of (specCmpL_any a b A A' n n' c c' _ _ _ Hr1.out Hr1'.out Hn.out Hn'.out hm hm')))
    go_wp2_with fail
    go_ret
    exact ⟨ret_int Hw.out, below_drewN Hb.out.2.2 nq⟩
  · have Hc := Lib.hid (cmp_signs hs hs' he)
    have hne : (s == s') = false := beq_false_of_ne he
    rcases Int.lt_trichotomy s s' with hlt | hlt | hlt
    · have Hc2 := Lib.hid (cmpI_lt hlt)
      clear hs hs' he
      go_enter Try.func68, Try.ntmps68
      go_wp2_with fail
      go_ret
      exact ⟨ret_int (by rw [← Hc.out, Hc2.out]), Hb.out.2.2⟩
    · exact absurd hlt he
    · have Hc2 := Lib.hid (cmpI_gt hlt)
      have hnl : ¬ s < s' := by omega
      clear hs hs' he
      go_enter Try.func68, Try.ntmps68
      go_wp2_with fail
      go_ret
      exact ⟨ret_int (by rw [← Hc.out, Hc2.out]), Hb.out.2.2⟩


/-! the functions of the chapter -/
/-- both are whole numbers -/
noncomputable def both (s0 : Int) (xs0 : List Int) (s1 : Int) (xs1 : List Int) : Bool := isW s0 xs0 && isW s1 xs1
noncomputable def errB (s0 : Int) (xs0 : List Int) (s1 : Int) (xs1 : List Int) : Int := if both s0 xs0 s1 xs1 = true then 0 else 1
noncomputable def cmpR (s0 : Int) (xs0 : List Int) (s1 : Int) (xs1 : List Int) : Int := if both s0 xs0 s1 xs1 = true then cmpI (s0 * magW s0 xs0) (s1 * magW s1 xs1) else 0
theorem both_yes {s0 s1 : Int} {xs0 xs1 : List Int} (h0 : isW s0 xs0 = true) (h1 : isW s1 xs1 = true) : both s0 xs0 s1 xs1 = true := by unfold both; rw [h0, h1]; rfl
theorem both_no0 {s0 s1 : Int} {xs0 xs1 : List Int} (h0 : isW s0 xs0 = false) : ¬ both s0 xs0 s1 xs1 = true := by unfold both; rw [h0]; simp
theorem both_no1 {s0 s1 : Int} {xs0 xs1 : List Int} (h1 : isW s1 xs1 = false) : ¬ both s0 xs0 s1 xs1 = true := by unfold both; rw [h1]; simp
theorem both_1 {s0 s1 : Int} {xs0 xs1 : List Int} (h : both s0 xs0 s1 xs1 = true) : isW s0 xs0 = true := by unfold both at h; simp at h; exact h.1
theorem both_2 {s0 s1 : Int} {xs0 xs1 : List Int} (h : both s0 xs0 s1 xs1 = true) : isW s1 xs1 = true := by unfold both at h; simp at h; exact h.2
/-- what is known of a whole number -/
theorem okW_data {s : Int} {xs : List Int} {n : Nat} (hn : xs.length = n) (h : isW s xs = true) : ∃ v, magW s xs = v ∧ Sg s v ∧ vi xs = vs (limbs v) ∧ (limbs v).length = n ∧ n ≤ 100 := by
  obtain ⟨z, h1, h2, h3⟩ := okW_iff.1 (okW_of h)
  have ho := okW_of h
  have hl : (limbs z.natAbs).length = n := by rw [← hn, h2, li_len]
  refine ⟨z.natAbs, by unfold magW; rw [h2, nats_li, V_limbs], ⟨ho.1, ho.2.1, ?_⟩, by rw [h2]; rfl, hl, by omega⟩
  rw [h1, Int.sign_eq_zero_iff_zero]; omega

set_option maxHeartbeats 1000000 in
theorem implCmpW_any (s0 : Int) (A0 : Option Addr) (n0 c0 : Nat) (xs0 : List Int) (s1 : Int) (A1 : Option Addr) (n1 c1 : Nat) (xs1 : List Int) (w : World) (hr0 : Rd w w.heap.size A0 (vi xs0)) (hn0 : xs0.length = n0) (hm0 : n0 ≤ 1048580) (hr1 : Rd w w.heap.size A1 (vi xs1)) (hn1 : xs1.length = n1) (hm1 : n1 ≤ 1048580) :
    Calls Try.prog 23 #[.agg #[.int .i64 s0, .slice A0 n0 c0], .agg #[.int .i64 s1, .slice A1 n1 c1]] w fun e w' => e = .returned (.tuple #[.int .i64 (cmpR s0 xs0 s1 xs1), .int .i64 (errB s0 xs0 s1 xs1)]) ∧ Below w.heap.size w w' := by
  have Hb := Lib.hid (two_boxes w s0 s1 A0 A1 n0 n1 c0 c1 26 26)
  have Hn0 := Lib.hid hn0
  have Hn1 := Lib.hid hn1
  have Hm0 := Lib.hid hm0
  have Hm1 := Lib.hid hm1
  have Hr0 := Lib.hid hr0
  have Hr1 := Lib.hid hr1
  clear hn0 hn1 hm0 hm1 hr0 hr1
  go_enter Try.func23, Try.ntmps23
  go_wp2_with fail
  obtain ⟨w1, hw1⟩ : ∃ w1, w1 = (w.alloc (.cells #[.int .i64 s0, .slice A0 n0 c0] 26)).alloc (.cells #[.int .i64 s1, .slice A1 n1 c1] 26) := ⟨_, rfl⟩
  rw [← hw1] at Hb ⊢
  clear hw1
  obtain ⟨bx, byy, hbel⟩ := Hb.out
  have Bx1 := Lib.hid bx
  have By1 := Lib.hid byy
  have Bel1 := Lib.hid hbel
  have Ra1 : Hid (Rt w1 w.heap.size A0 (vi xs0)) := Lib.hid ⟨Hr0.out.below hbel, hbel.size⟩
  have Rb1 : Hid (Rt w1 w.heap.size A1 (vi xs1)) := Lib.hid ⟨Hr1.out.below hbel, hbel.size⟩
  clear bx byy hbel Hb Hr0 Hr1
  obtain ⟨⟨hx1, hx2⟩, hx3⟩ := Bx1.out
  obtain ⟨⟨hy1, hy2⟩, hy3⟩ := By1.out
  refine (implIsW_any s0 A0 n0 c0 xs0 _ Ra1.out.all Hn0.out Hm0.out).mono ?_
  rintro e w2 ⟨rfl, hb⟩
  clear hx1 hx2 hx3 hy1 hy2 hy3
  have Bel2 := Lib.hid (belNext Bel1.out hb)
  have Bx2 := Lib.hid (Bx1.out.next hb)
  have By2 := Lib.hid (By1.out.next hb)
  have Ra2 := Lib.hid (Ra1.out.next hb)
  have Rb2 := Lib.hid (Rb1.out.next hb)
  clear hb Bel1 Bx1 By1 Ra1 Rb1
  obtain ⟨⟨hx1, hx2⟩, hx3⟩ := Bx2.out
  obtain ⟨⟨hy1, hy2⟩, hy3⟩ := By2.out
  by_cases h0 : isW s0 xs0 = true
  · rw [h0]
    go_wp2_with fail
    refine (implIsW_any s1 A1 n1 c1 xs1 _ Rb2.out.all Hn1.out Hm1.out).mono ?_
    rintro e w3 ⟨rfl, hb⟩
    clear hx1 hx2 hx3 hy1 hy2 hy3
    have Bel3 := Lib.hid (belNext Bel2.out hb)
    have Bx3 := Lib.hid (Bx2.out.next hb)
    have By3 := Lib.hid (By2.out.next hb)
    have Ra3 := Lib.hid (Ra2.out.next hb)
    have Rb3 := Lib.hid (Rb2.out.next hb)
    clear hb Bel2 Bx2 By2 Ra2 Rb2
    obtain ⟨⟨hx1, hx2⟩, hx3⟩ := Bx3.out
    obtain ⟨⟨hy1, hy2⟩, hy3⟩ := By3.out
    by_cases h1 : isW s1 xs1 = true
    · rw [h1]
      obtain ⟨v0, hv0, hs0, hx0, hl0, hh0⟩ := okW_data Hn0.out h0
      obtain ⟨v1, hv1, hs1, hx1', hl1, hh1⟩ := okW_data Hn1.out h1
      have Hres : Hid (cmpR s0 xs0 s1 xs1 = cmpI (s0 * v0) (s1 * v1) ∧ errB s0 xs0 s1 xs1 = 0) := Lib.hid (by unfold cmpR errB; rw [if_pos (both_yes h0 h1), if_pos (both_yes h0 h1), hv0, hv1]; exact ⟨rfl, rfl⟩)
      have Hd : Hid (Sg s0 v0 ∧ Sg s1 v1 ∧ (limbs v0).length = n0 ∧ (limbs v1).length = n1 ∧ (n0 : Int) ≤ 100000 ∧ (n1 : Int) ≤ 100000) := Lib.hid ⟨hs0, hs1, hl0, hl1, by omega, by omega⟩
      have Hx0 := Lib.hid hx0
      have Hx1 := Lib.hid hx1'
      clear h0 h1 hv0 hs0 hx0 hl0 hh0 hv1 hs1 hx1' hl1 hh1
      go_wp2_with fail
      refine (implCmp_any s0 s1 v0 v1 A0 A1 n0 n1 c0 c1 _ Hd.out.1 Hd.out.2.1 (Ra3.out.all.eq_ Hx0.out) (Rb3.out.all.eq_ Hx1.out) Hd.out.2.2.1 Hd.out.2.2.2.1 Hd.out.2.2.2.2.1 Hd.out.2.2.2.2.2).mono ?_
      rintro e w4 ⟨rfl, hb⟩
      have Bel4 := Lib.hid (belNext Bel3.out hb)
      clear hb
      go_wp2_with fail
      go_ret2
      exact ⟨ret_two Hres.out.1.symm Hres.out.2.symm, Bel4.out⟩
    · have h1' : isW s1 xs1 = false := by simpa using h1
      rw [h1']
      have Hres : Hid (cmpR s0 xs0 s1 xs1 = 0 ∧ errB s0 xs0 s1 xs1 = 1) := Lib.hid (by unfold cmpR errB; rw [if_neg (both_no1 h1'), if_neg (both_no1 h1')]; exact ⟨rfl, rfl⟩)
      clear h1 h1'
      go_wp2_with fail
      go_ret2
      exact ⟨ret_two Hres.out.1.symm Hres.out.2.symm, Bel3.out⟩
  · have h0' : isW s0 xs0 = false := by simpa using h0
    rw [h0']
    have Hres : Hid (cmpR s0 xs0 s1 xs1 = 0 ∧ errB s0 xs0 s1 xs1 = 1) := Lib.hid (by unfold cmpR errB; rw [if_neg (both_no0 h0'), if_neg (both_no0 h0')]; exact ⟨rfl, rfl⟩)
    clear h0 h0'
    go_wp2_with fail
    go_ret2
    exact ⟨ret_two Hres.out.1.symm Hres.out.2.symm, Bel2.out⟩

set_option maxHeartbeats 1000000 in
theorem specBoth_any (s0 : Int) (A0 : Option Addr) (n0 c0 : Nat) (xs0 : List Int) (s1 : Int) (A1 : Option Addr) (n1 c1 : Nat) (xs1 : List Int) (w : World) (hr0 : Rd w w.heap.size A0 (vi xs0)) (hn0 : xs0.length = n0) (hm0 : n0 ≤ 1048580) (hr1 : Rd w w.heap.size A1 (vi xs1)) (hn1 : xs1.length = n1) (hm1 : n1 ≤ 1048580) :
    Calls Try.prog 39 #[.agg #[.int .i64 s0, .slice A0 n0 c0], .agg #[.int .i64 s1, .slice A1 n1 c1]] w fun e w' => e = .returned (.int .i64 (errB s0 xs0 s1 xs1)) ∧ Below w.heap.size w w' := by
  have Hb := Lib.hid (two_boxes w s0 s1 A0 A1 n0 n1 c0 c1 26 26)
  have Hn0 := Lib.hid hn0
  have Hn1 := Lib.hid hn1
  have Hm0 := Lib.hid hm0
  have Hm1 := Lib.hid hm1
  have Hr0 := Lib.hid hr0
  have Hr1 := Lib.hid hr1
  clear hn0 hn1 hm0 hm1 hr0 hr1
  go_enter Try.func39, Try.ntmps39
  go_wp2_with fail
  obtain ⟨w1, hw1⟩ : ∃ w1, w1 = (w.alloc (.cells #[.int .i64 s0, .slice A0 n0 c0] 26)).alloc (.cells #[.int .i64 s1, .slice A1 n1 c1] 26) := ⟨_, rfl⟩
  rw [← hw1] at Hb ⊢
  clear hw1
  obtain ⟨bx, byy, hbel⟩ := Hb.out
  have Bx1 := Lib.hid bx
  have By1 := Lib.hid byy
  have Bel1 := Lib.hid hbel
  have Ra1 : Hid (Rt w1 w.heap.size A0 (vi xs0)) := Lib.hid ⟨Hr0.out.below hbel, hbel.size⟩
  have Rb1 : Hid (Rt w1 w.heap.size A1 (vi xs1)) := Lib.hid ⟨Hr1.out.below hbel, hbel.size⟩
  clear bx byy hbel Hb Hr0 Hr1
  obtain ⟨⟨hx1, hx2⟩, hx3⟩ := Bx1.out
  obtain ⟨⟨hy1, hy2⟩, hy3⟩ := By1.out
  refine (specIs_any s0 A0 n0 c0 xs0 _ Ra1.out.all Hn0.out Hm0.out).mono ?_
  rintro e w2 ⟨rfl, hb⟩
  clear hx1 hx2 hx3 hy1 hy2 hy3
  have Bel2 := Lib.hid (belNext Bel1.out hb)
  have Bx2 := Lib.hid (Bx1.out.next hb)
  have By2 := Lib.hid (By1.out.next hb)
  have Ra2 := Lib.hid (Ra1.out.next hb)
  have Rb2 := Lib.hid (Rb1.out.next hb)
  clear hb Bel1 Bx1 By1 Ra1 Rb1
  obtain ⟨⟨hx1, hx2⟩, hx3⟩ := Bx2.out
  obtain ⟨⟨hy1, hy2⟩, hy3⟩ := By2.out
  by_cases h0 : isW s0 xs0 = true
  · rw [h0]
    go_wp2_with fail
    refine (specIs_any s1 A1 n1 c1 xs1 _ Rb2.out.all Hn1.out Hm1.out).mono ?_
    rintro e w3 ⟨rfl, hb⟩
    clear hx1 hx2 hx3 hy1 hy2 hy3
    have Bel3 := Lib.hid (belNext Bel2.out hb)
    have Bx3 := Lib.hid (Bx2.out.next hb)
    have By3 := Lib.hid (By2.out.next hb)
    have Ra3 := Lib.hid (Ra2.out.next hb)
    have Rb3 := Lib.hid (Rb2.out.next hb)
    clear hb Bel2 Bx2 By2 Ra2 Rb2
    obtain ⟨⟨hx1, hx2⟩, hx3⟩ := Bx3.out
    obtain ⟨⟨hy1, hy2⟩, hy3⟩ := By3.out
    by_cases h1 : isW s1 xs1 = true
    · rw [h1]
      have Hres : Hid (errB s0 xs0 s1 xs1 = 0) := Lib.hid (by unfold errB; rw [if_pos (both_yes h0 h1)])
      clear h0 h1
      go_wp2_with fail
      go_ret
      exact ⟨ret_int Hres.out.symm, Bel3.out⟩
    · have h1' : isW s1 xs1 = false := by simpa using h1
      rw [h1']
      have Hres : Hid (errB s0 xs0 s1 xs1 = 1) := Lib.hid (by unfold errB; rw [if_neg (both_no1 h1')])
      clear h1 h1'
      go_wp2_with fail
      go_ret
      exact ⟨ret_int Hres.out.symm, Bel3.out⟩
  · have h0' : isW s0 xs0 = false := by simpa using h0
    rw [h0']
    have Hres : Hid (errB s0 xs0 s1 xs1 = 1) := Lib.hid (by unfold errB; rw [if_neg (both_no0 h0')])
    clear h0 h0'
    go_wp2_with fail
    go_ret
    exact ⟨ret_int Hres.out.symm, Bel2.out⟩

end Go.Proofs.Ytnnoobdcdfcdaaa
