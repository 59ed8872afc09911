/- What an interval is, of the program and of the model. -/
import Derived.Test.YtlhdlomabgoadaaIi
namespace Go.Proofs.Ytlhdlomabgoadaa
set_option maxRecDepth 100000
open Go.RowKit
set_option linter.unusedSimpArgs false
set_option linter.unusedVariables false

theorem isI_bits (l h : Nat) (hl : l < 4294967296) (hh : h < 4294967296) : isI l h = (pl32 l && pl32 h && ((FloatKind.f32.format.order l h == some .lt) || (FloatKind.f32.format.order l h == some .eq)) && (FloatKind.f32.format.order l 2139095040 == some .lt) && (FloatKind.f32.format.order h 4286578688 == some .gt)) := by
  unfold isI
  by_cases h1 : pl32 l = true
  · by_cases h2 : pl32 h = true
    · have p1 := Pl.mk' hl h1
      have p2 := Pl.mk' hh h2
      rw [le32 l h hl hh p1.2.1 p2.2.1, lt32 l _ hl (by omega) p1.2.1 (by decide), gt32 h _ hh (by omega) p2.2.1 (by decide), place32_inf, place32_minf]
    · have h2 : pl32 h = false := by simpa using h2
      rw [h2]; simp
  · have h1 : pl32 l = false := by simpa using h1
    rw [h1]; simp
theorem pl_not (b : Nat) : pl32 b = (!nan32 b && !decide (b = 2147483648)) := by
  unfold pl32
  by_cases h : b = 2147483648
  · rw [decide_eq_true h, decide_eq_false (by simpa using h)]; rfl
  · rw [decide_eq_false h, decide_eq_true (by simpa using h)]; rfl
theorem isI_bits2 (l h : Nat) (hl : l < 4294967296) (hh : h < 4294967296) : isI l h = (!decide (l = 2147483648) && !decide (h = 2147483648) && (((FloatKind.f32.format.order l h == some .lt) || (FloatKind.f32.format.order l h == some .eq)) && (FloatKind.f32.format.order l 2139095040 == some .lt) && (FloatKind.f32.format.order h 4286578688 == some .gt))) := by
  rw [isI_bits l h hl hh, pl_not, pl_not]
  by_cases h1 : nan32 l = true
  · have e : FloatKind.f32.format.order l h = none := order32_nan l h (.inl h1)
    rw [e]; simp
  · by_cases h2 : nan32 h = true
    · have e : FloatKind.f32.format.order l h = none := order32_nan l h (.inr h2)
      rw [e]; simp
    · have h1 : nan32 l = false := by simpa using h1
      have h2 : nan32 h = false := by simpa using h2
      rw [h1, h2]
      simp only [Bool.not_false, Bool.true_and, Bool.and_assoc]
set_option maxHeartbeats 4000000 in
theorem implIsI_any (l h : Nat) (w : World) (hl : l < 4294967296) (hh : h < 4294967296) :
    Calls Try.prog 15 #[.agg #[.float .f32 l, .float .f32 h]] w fun e w' => e = .returned (.bool (isI l h)) ∧ Below w.heap.size w w' := by
  have hr := isI_bits2 l h hl hh
  obtain ⟨m1, hm1⟩ : ∃ m1, m1 = decide (l = 2147483648) := ⟨_, rfl⟩
  obtain ⟨m2, hm2⟩ : ∃ m2, m2 = decide (h = 2147483648) := ⟨_, rfl⟩
  have H1 : Hid (∀ w, Calls Try.prog 36 #[.float .f32 l] w fun e w' => e = .returned (.bool m1) ∧ w = w') := Lib.hid (fun w => by rw [hm1]; exact mz_any l w hl)
  have H2 : Hid (∀ w, Calls Try.prog 36 #[.float .f32 h] w fun e w' => e = .returned (.bool m2) ∧ w = w') := Lib.hid (fun w => by rw [hm2]; exact mz_any h w hh)
  rw [← hm1, ← hm2] at hr
  obtain ⟨x1, hx1⟩ : ∃ x, ((FloatKind.f32.format.order l h == some .lt) || (FloatKind.f32.format.order l h == some .eq)) = x := ⟨_, rfl⟩
  obtain ⟨x3, hx3⟩ : ∃ x, (FloatKind.f32.format.order l 2139095040 == some .lt) = x := ⟨_, rfl⟩
  obtain ⟨x4, hx4⟩ : ∃ x, (FloatKind.f32.format.order h 4286578688 == some .gt) = x := ⟨_, rfl⟩
  rw [hx1, hx3, hx4] at hr
  have Hr := Lib.hid hr
  clear hr hm1 hm2 hl hh
  obtain ⟨w1, hw1, hp0, hB_⟩ := ib_1 w l h 26
  have P0_1 := Lib.hid hp0
  have hst := store_float Try.prog
  have B1 := Lib.hid hB_
  have Hw := Lib.hid hw1
  clear hw1 hp0 hB_
  obtain ⟨⟨c00, c01⟩, c02⟩ := P0_1.out
  go_enter Try.func15, Try.ntmps15
  go_wp2_with fail
  rw [← Hw.out]
  refine (H1.out _).mono ?_
  rintro e w9 ⟨rfl, rfl⟩
  cases m1
  · go_wp2_with fail
    refine (H2.out _).mono ?_
    rintro e w9 ⟨rfl, rfl⟩
    cases m2
    · go_wp2_with fail
      cases x1
      · skip
        go_quiet ((first | (go_at_call 37; first | with_reducible exact quietQ (infF_pos _) | with_reducible exact quietQ (infF_neg _))))
        go_wp2_with fail
        go_ret
        exact ⟨ret_boolI (by rw [Hr.out]; rfl), below_drewN B1.out nq⟩
      · skip
        cases x3
        · skip
          go_quiet ((first | (go_at_call 37; first | with_reducible exact quietQ (infF_pos _) | with_reducible exact quietQ (infF_neg _))))
          go_wp2_with fail
          go_ret
          exact ⟨ret_boolI (by rw [Hr.out]; rfl), below_drewN B1.out nq⟩
        · skip
          cases x4
          · skip
            go_quiet ((first | (go_at_call 37; first | with_reducible exact quietQ (infF_pos _) | with_reducible exact quietQ (infF_neg _))))
            go_wp2_with fail
            go_ret
            exact ⟨ret_boolI (by rw [Hr.out]; rfl), below_drewN B1.out nq⟩
          · skip
            go_quiet ((first | (go_at_call 37; first | with_reducible exact quietQ (infF_pos _) | with_reducible exact quietQ (infF_neg _))))
            go_wp2_with fail
            go_ret
            exact ⟨ret_boolI (by rw [Hr.out]; rfl), below_drewN B1.out nq⟩
    · skip
      go_wp2_with fail
      go_ret
      exact ⟨ret_boolI (by rw [Hr.out]; rfl), B1.out⟩
  · skip
    go_wp2_with fail
    go_ret
    exact ⟨ret_boolI (by rw [Hr.out]; rfl), B1.out⟩
set_option maxHeartbeats 4000000 in
theorem specIsI_any (l h : Nat) (w : World) (hl : l < 4294967296) (hh : h < 4294967296) :
    Calls Try.prog 35 #[.agg #[.float .f32 l, .float .f32 h]] w fun e w' => e = .returned (.bool (isI l h)) ∧ Below w.heap.size w w' := by
  have hr := isI_bits l h hl hh
  obtain ⟨m1, hm1⟩ : ∃ m1, m1 = pl32 l := ⟨_, rfl⟩
  obtain ⟨m2, hm2⟩ : ∃ m2, m2 = pl32 h := ⟨_, rfl⟩
  have H1 : Hid (∀ w, Calls Try.prog 59 #[.float .f32 l] w fun e w' => e = .returned (.bool m1) ∧ w = w') := Lib.hid (fun w => by rw [hm1]; exact plain_any l w hl)
  have H2 : Hid (∀ w, Calls Try.prog 59 #[.float .f32 h] w fun e w' => e = .returned (.bool m2) ∧ w = w') := Lib.hid (fun w => by rw [hm2]; exact plain_any h w hh)
  rw [← hm1, ← hm2] at hr
  obtain ⟨x1, hx1⟩ : ∃ x, ((FloatKind.f32.format.order l h == some .lt) || (FloatKind.f32.format.order l h == some .eq)) = x := ⟨_, rfl⟩
  obtain ⟨x3, hx3⟩ : ∃ x, (FloatKind.f32.format.order l 2139095040 == some .lt) = x := ⟨_, rfl⟩
  obtain ⟨x4, hx4⟩ : ∃ x, (FloatKind.f32.format.order h 4286578688 == some .gt) = x := ⟨_, rfl⟩
  rw [hx1, hx3, hx4] at hr
  have Hr := Lib.hid hr
  clear hr hm1 hm2 hl hh
  have hng := neg_inf
  obtain ⟨w1, hw1, hp0, hB_⟩ := ib_1 w l h 26
  have P0_1 := Lib.hid hp0
  have hst := store_float Try.prog
  have B1 := Lib.hid hB_
  have Hw := Lib.hid hw1
  clear hw1 hp0 hB_
  obtain ⟨⟨c00, c01⟩, c02⟩ := P0_1.out
  go_enter Try.func35, Try.ntmps35
  go_wp2_with fail
  rw [← Hw.out]
  cases m1
  · skip
    go_quiet ((first | (go_at_call 59; first | with_reducible exact quietQ (H1.out _) | with_reducible exact quietQ (H2.out _)) | (go_at_call 60; with_reducible exact quietQ (huge_any _))))
    go_wp2_with fail
    go_ret
    exact ⟨ret_boolI (by rw [Hr.out]; rfl), below_drewN B1.out nq⟩
  · cases m2
    · skip
      go_quiet ((first | (go_at_call 59; first | with_reducible exact quietQ (H1.out _) | with_reducible exact quietQ (H2.out _)) | (go_at_call 60; with_reducible exact quietQ (huge_any _))))
      go_wp2_with fail
      go_ret
      exact ⟨ret_boolI (by rw [Hr.out]; rfl), below_drewN B1.out nq⟩
    · skip
      cases x1
      · skip
        go_quiet ((first | (go_at_call 59; first | with_reducible exact quietQ (H1.out _) | with_reducible exact quietQ (H2.out _)) | (go_at_call 60; with_reducible exact quietQ (huge_any _))))
        go_wp2_with fail
        go_ret
        exact ⟨ret_boolI (by rw [Hr.out]; rfl), below_drewN B1.out nq⟩
      · skip
        cases x3
        · skip
          go_quiet ((first | (go_at_call 59; first | with_reducible exact quietQ (H1.out _) | with_reducible exact quietQ (H2.out _)) | (go_at_call 60; with_reducible exact quietQ (huge_any _))))
          go_wp2_with fail
          go_ret
          exact ⟨ret_boolI (by rw [Hr.out]; rfl), below_drewN B1.out nq⟩
        · skip
          cases x4
          · skip
            go_quiet ((first | (go_at_call 59; first | with_reducible exact quietQ (H1.out _) | with_reducible exact quietQ (H2.out _)) | (go_at_call 60; with_reducible exact quietQ (huge_any _))))
            go_wp2_with fail
            go_ret
            exact ⟨ret_boolI (by rw [Hr.out]; rfl), below_drewN B1.out nq⟩
          · skip
            go_quiet ((first | (go_at_call 59; first | with_reducible exact quietQ (H1.out _) | with_reducible exact quietQ (H2.out _)) | (go_at_call 60; with_reducible exact quietQ (huge_any _))))
            go_wp2_with fail
            go_ret
            exact ⟨ret_boolI (by rw [Hr.out]; rfl), below_drewN B1.out nq⟩
end Go.Proofs.Ytlhdlomabgoadaa
