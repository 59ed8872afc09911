/- Functions of intervals with a code, of the program and of the model: the rest of the not rounded ones. -/
import Derived.Test.YtlhdlomabgoadaaIl
namespace Go.Proofs.Ytlhdlomabgoadaa
set_option maxRecDepth 100000
open Go.RowKit
set_option linter.unusedSimpArgs false
set_option linter.unusedVariables false

set_option maxHeartbeats 1000000 in
theorem implMeetW_any (l h l' h' : Nat) (w : World) (hl : l < 4294967296) (hh : h < 4294967296) (hlq : l' < 4294967296) (hhq : h' < 4294967296) :
    Calls Try.prog 26 #[.agg #[.float .f32 l, .float .f32 h], .agg #[.float .f32 l', .float .f32 h']] w fun e w' => e = .returned (.tuple #[.agg #[.float .f32 ((meL l h l' h')), .float .f32 ((meH l h l' h'))], .int .i64 (meE l h l' h')]) ∧ Below w.heap.size w w' := by
  by_cases b1 : isI l h = true
  · by_cases b2 : isI l' h' = true
    · obtain ⟨pl, ph, k1, k2, k3⟩ := isI_facts hl hh b1
      obtain ⟨plq, phq, k4, k5, k6⟩ := isI_facts hlq hhq b2
      have b : bI l h l' h' = true := by unfold bI; rw [b1, b2]; rfl
      have H1 : Hid (∀ w, Calls Try.prog 15 #[.agg #[.float .f32 l, .float .f32 h]] w fun e w' => e = .returned (.bool true) ∧ Below w.heap.size w w') := Lib.hid (fun w => by rw [← b1]; exact implIsI_any l h w hl hh)
      have H2 : Hid (∀ w, Calls Try.prog 15 #[.agg #[.float .f32 l', .float .f32 h']] w fun e w' => e = .returned (.bool true) ∧ Below w.heap.size w w') := Lib.hid (fun w => by rw [← b2]; exact implIsI_any l' h' w hlq hhq)
      have H3 : Hid (∀ w, _) := Lib.hid (fun w => implOrder_any l h l' h' w pl ph plq phq)
      have hmx : ∀ ts t w, (Builtin.max_ ts t #[.float .f32 l, .float .f32 l']).run Try.prog w = .ok (.float .f32 (mx l l')) w := fun ts t w => run_max32 pl plq ts t w
      have hmn : ∀ ts t w, (Builtin.min_ ts t #[.float .f32 h, .float .f32 h']).run Try.prog w = .ok (.float .f32 (mn h h')) w := fun ts t w => run_min32 ph phq ts t w
      have hm := me_ord k1 k4
      obtain ⟨q, hq⟩ : ∃ q, q = ordI l h l' h' := ⟨_, rfl⟩
      rw [← hq] at H3 hm
      clear hq
      by_cases z : q = 0
      · rw [decide_eq_true z] at hm
        have e0 : (.tuple #[.agg #[.float .f32 ((meL l h l' h')), .float .f32 ((meH l h l' h'))], .int .i64 (meE l h l' h')] : Value) = .tuple #[.agg #[.float .f32 ((mx l l')), .float .f32 ((mn h h'))], .int .i64 0] := by unfold meL meH meE; simp [b, hm]
        rw [e0]
        clear e0 b hm
        clear hl hh hlq hhq b1 b2 pl ph plq phq k1 k2 k3 k4 k5 k6
        subst z
        obtain ⟨w1, hw1, hp0, hp1, hr_, hB_⟩ := ib_2r w l h l' h' 26 26
        have P0_1 := Lib.hid hp0
        have P1_1 := Lib.hid hp1
        have R_1 := Lib.hid hr_
        have hst := store_float Try.prog
        have B1 := Lib.hid hB_
        have Hw := Lib.hid hw1
        clear hw1 hp0 hp1 hr_ hB_
        obtain ⟨⟨c00, c01⟩, c02⟩ := P0_1.out
        obtain ⟨⟨c10, c11⟩, c12⟩ := P1_1.out
        obtain ⟨⟨r0, r1, r2, r3⟩, r4⟩ := R_1.out
        go_enter Try.func26, Try.ntmps26
        go_wp2_with fail
        rw [← Hw.out]
        refine (H1.out _).mono ?_
        rintro e w2 ⟨rfl, hb⟩
        have B2 := Lib.hid (belNext B1.out hb)
        have P0_2 := Lib.hid (P0_1.out.next hb)
        have P1_2 := Lib.hid (P1_1.out.next hb)
        have R_2 := Lib.hid (R_1.out.next hb)
        clear hb c00 c01 c02 c10 c11 c12 r0 r1 r2 r3 r4
        obtain ⟨⟨c00, c01⟩, c02⟩ := P0_2.out
        obtain ⟨⟨c10, c11⟩, c12⟩ := P1_2.out
        obtain ⟨⟨r0, r1, r2, r3⟩, r4⟩ := R_2.out
        go_wp2_with fail
        refine (H2.out _).mono ?_
        rintro e w3 ⟨rfl, hb⟩
        have B3 := Lib.hid (belNext B2.out hb)
        have P0_3 := Lib.hid (P0_2.out.next hb)
        have P1_3 := Lib.hid (P1_2.out.next hb)
        have R_3 := Lib.hid (R_2.out.next hb)
        clear hb c00 c01 c02 c10 c11 c12 r0 r1 r2 r3 r4
        obtain ⟨⟨c00, c01⟩, c02⟩ := P0_3.out
        obtain ⟨⟨c10, c11⟩, c12⟩ := P1_3.out
        obtain ⟨⟨r0, r1, r2, r3⟩, r4⟩ := R_3.out
        go_wp2_with fail
        refine (H3.out _).mono ?_
        rintro e w4 ⟨rfl, hb⟩
        have B4 := Lib.hid (belNext B3.out hb)
        have P0_4 := Lib.hid (P0_3.out.next hb)
        have P1_4 := Lib.hid (P1_3.out.next hb)
        have R_4 := Lib.hid (R_3.out.next hb)
        clear hb c00 c01 c02 c10 c11 c12 r0 r1 r2 r3 r4
        obtain ⟨⟨c00, c01⟩, c02⟩ := P0_4.out
        obtain ⟨⟨c10, c11⟩, c12⟩ := P1_4.out
        obtain ⟨⟨r0, r1, r2, r3⟩, r4⟩ := R_4.out
        go_wp2_with fail
        refine bodyPost_ret (v := .tuple #[.agg #[.float .f32 ((mx l l')), .float .f32 ((mn h h'))], .int .i64 0]) (by simp [results, Try.results26, go_sem, r0, r1]) rfl ⟨rfl, ?_⟩
        repeat (first | exact B4.out | exact Below.refl _ _ | refine Below.drew ?_ | refine Below.alloc ?_ (by first | (simp; done) | (simp; omega)) _ | refine Below.setCell ?_ (by first | (simp; done) | (simp; omega)) _)
      · rw [decide_eq_false z] at hm
        have e0 : (.tuple #[.agg #[.float .f32 ((meL l h l' h')), .float .f32 ((meH l h l' h'))], .int .i64 (meE l h l' h')] : Value) = .tuple #[.agg #[.float .f32 0, .float .f32 0], .int .i64 4] := by unfold meL meH meE; simp [b, hm]
        rw [e0]
        clear e0 b hm
        clear hl hh hlq hhq b1 b2 pl ph plq phq k1 k2 k3 k4 k5 k6
        have hz : (q != 0) = true := by simpa using z
        have hz2 : (q == 0) = false := by simpa using z
        clear hmx hmn
        obtain ⟨w1, hw1, hp0, hp1, hr_, hB_⟩ := ib_2r w l h l' h' 26 26
        have P0_1 := Lib.hid hp0
        have P1_1 := Lib.hid hp1
        have R_1 := Lib.hid hr_
        have hst := store_float Try.prog
        have B1 := Lib.hid hB_
        have Hw := Lib.hid hw1
        clear hw1 hp0 hp1 hr_ hB_
        obtain ⟨⟨c00, c01⟩, c02⟩ := P0_1.out
        obtain ⟨⟨c10, c11⟩, c12⟩ := P1_1.out
        obtain ⟨⟨r0, r1, r2, r3⟩, r4⟩ := R_1.out
        go_enter Try.func26, Try.ntmps26
        go_wp2_with fail
        rw [← Hw.out]
        refine (H1.out _).mono ?_
        rintro e w2 ⟨rfl, hb⟩
        have B2 := Lib.hid (belNext B1.out hb)
        have P0_2 := Lib.hid (P0_1.out.next hb)
        have P1_2 := Lib.hid (P1_1.out.next hb)
        have R_2 := Lib.hid (R_1.out.next hb)
        clear hb c00 c01 c02 c10 c11 c12 r0 r1 r2 r3 r4
        obtain ⟨⟨c00, c01⟩, c02⟩ := P0_2.out
        obtain ⟨⟨c10, c11⟩, c12⟩ := P1_2.out
        obtain ⟨⟨r0, r1, r2, r3⟩, r4⟩ := R_2.out
        go_wp2_with fail
        refine (H2.out _).mono ?_
        rintro e w3 ⟨rfl, hb⟩
        have B3 := Lib.hid (belNext B2.out hb)
        have P0_3 := Lib.hid (P0_2.out.next hb)
        have P1_3 := Lib.hid (P1_2.out.next hb)
        have R_3 := Lib.hid (R_2.out.next hb)
        clear hb c00 c01 c02 c10 c11 c12 r0 r1 r2 r3 r4
        obtain ⟨⟨c00, c01⟩, c02⟩ := P0_3.out
        obtain ⟨⟨c10, c11⟩, c12⟩ := P1_3.out
        obtain ⟨⟨r0, r1, r2, r3⟩, r4⟩ := R_3.out
        go_wp2_with fail
        refine (H3.out _).mono ?_
        rintro e w4 ⟨rfl, hb⟩
        have B4 := Lib.hid (belNext B3.out hb)
        have P0_4 := Lib.hid (P0_3.out.next hb)
        have P1_4 := Lib.hid (P1_3.out.next hb)
        have R_4 := Lib.hid (R_3.out.next hb)
        clear hb c00 c01 c02 c10 c11 c12 r0 r1 r2 r3 r4
        obtain ⟨⟨c00, c01⟩, c02⟩ := P0_4.out
        obtain ⟨⟨c10, c11⟩, c12⟩ := P1_4.out
        obtain ⟨⟨r0, r1, r2, r3⟩, r4⟩ := R_4.out
        go_wp2_with fail
        refine bodyPost_ret (v := .tuple #[.agg #[.float .f32 0, .float .f32 0], .int .i64 4]) (by simp [results, Try.results26, go_sem, r0, r1]) rfl ⟨rfl, ?_⟩
        repeat (first | exact B4.out | exact Below.refl _ _ | refine Below.drew ?_ | refine Below.alloc ?_ (by first | (simp; done) | (simp; omega)) _ | refine Below.setCell ?_ (by first | (simp; done) | (simp; omega)) _)
    · have b2 : isI l' h' = false := by simpa using b2
      have b : bI l h l' h' = false := by unfold bI; rw [b1, b2]; rfl
      have e0 : (.tuple #[.agg #[.float .f32 ((meL l h l' h')), .float .f32 ((meH l h l' h'))], .int .i64 (meE l h l' h')] : Value) = .tuple #[.agg #[.float .f32 0, .float .f32 0], .int .i64 1] := by unfold meL meH meE; simp [b]
      rw [e0]
      clear e0 b
      have H1 : Hid (∀ w, Calls Try.prog 15 #[.agg #[.float .f32 l, .float .f32 h]] w fun e w' => e = .returned (.bool true) ∧ Below w.heap.size w w') := Lib.hid (fun w => by rw [← b1]; exact implIsI_any l h w hl hh)
      have H2 : Hid (∀ w, Calls Try.prog 15 #[.agg #[.float .f32 l', .float .f32 h']] w fun e w' => e = .returned (.bool false) ∧ Below w.heap.size w w') := Lib.hid (fun w => by rw [← b2]; exact implIsI_any l' h' w hlq hhq)
      clear hl hh hlq hhq b1 b2
      obtain ⟨w1, hw1, hp0, hp1, hr_, hB_⟩ := ib_2r w l h l' h' 26 26
      have P0_1 := Lib.hid hp0
      have P1_1 := Lib.hid hp1
      have R_1 := Lib.hid hr_
      have hst := store_float Try.prog
      have B1 := Lib.hid hB_
      have Hw := Lib.hid hw1
      clear hw1 hp0 hp1 hr_ hB_
      obtain ⟨⟨c00, c01⟩, c02⟩ := P0_1.out
      obtain ⟨⟨c10, c11⟩, c12⟩ := P1_1.out
      obtain ⟨⟨r0, r1, r2, r3⟩, r4⟩ := R_1.out
      go_enter Try.func26, Try.ntmps26
      go_wp2_with fail
      rw [← Hw.out]
      refine (H1.out _).mono ?_
      rintro e w2 ⟨rfl, hb⟩
      have B2 := Lib.hid (belNext B1.out hb)
      have P0_2 := Lib.hid (P0_1.out.next hb)
      have P1_2 := Lib.hid (P1_1.out.next hb)
      have R_2 := Lib.hid (R_1.out.next hb)
      clear hb c00 c01 c02 c10 c11 c12 r0 r1 r2 r3 r4
      obtain ⟨⟨c00, c01⟩, c02⟩ := P0_2.out
      obtain ⟨⟨c10, c11⟩, c12⟩ := P1_2.out
      obtain ⟨⟨r0, r1, r2, r3⟩, r4⟩ := R_2.out
      go_wp2_with fail
      refine (H2.out _).mono ?_
      rintro e w3 ⟨rfl, hb⟩
      have B3 := Lib.hid (belNext B2.out hb)
      have P0_3 := Lib.hid (P0_2.out.next hb)
      have P1_3 := Lib.hid (P1_2.out.next hb)
      have R_3 := Lib.hid (R_2.out.next hb)
      clear hb c00 c01 c02 c10 c11 c12 r0 r1 r2 r3 r4
      obtain ⟨⟨c00, c01⟩, c02⟩ := P0_3.out
      obtain ⟨⟨c10, c11⟩, c12⟩ := P1_3.out
      obtain ⟨⟨r0, r1, r2, r3⟩, r4⟩ := R_3.out
      go_wp2_with fail
      refine bodyPost_ret (v := .tuple #[.agg #[.float .f32 0, .float .f32 0], .int .i64 1]) (by simp [results, Try.results26, go_sem, r0, r1]) rfl ⟨rfl, ?_⟩
      repeat (first | exact B3.out | exact Below.refl _ _ | refine Below.drew ?_ | refine Below.alloc ?_ (by first | (simp; done) | (simp; omega)) _ | refine Below.setCell ?_ (by first | (simp; done) | (simp; omega)) _)
  · have b1 : isI l h = false := by simpa using b1
    have b : bI l h l' h' = false := by unfold bI; rw [b1]; rfl
    have e0 : (.tuple #[.agg #[.float .f32 ((meL l h l' h')), .float .f32 ((meH l h l' h'))], .int .i64 (meE l h l' h')] : Value) = .tuple #[.agg #[.float .f32 0, .float .f32 0], .int .i64 1] := by unfold meL meH meE; simp [b]
    rw [e0]
    clear e0 b
    have H1 : Hid (∀ w, Calls Try.prog 15 #[.agg #[.float .f32 l, .float .f32 h]] w fun e w' => e = .returned (.bool false) ∧ Below w.heap.size w w') := Lib.hid (fun w => by rw [← b1]; exact implIsI_any l h w hl hh)
    clear hl hh hlq hhq b1
    obtain ⟨w1, hw1, hp0, hp1, hr_, hB_⟩ := ib_2r w l h l' h' 26 26
    have P0_1 := Lib.hid hp0
    have P1_1 := Lib.hid hp1
    have R_1 := Lib.hid hr_
    have hst := store_float Try.prog
    have B1 := Lib.hid hB_
    have Hw := Lib.hid hw1
    clear hw1 hp0 hp1 hr_ hB_
    obtain ⟨⟨c00, c01⟩, c02⟩ := P0_1.out
    obtain ⟨⟨c10, c11⟩, c12⟩ := P1_1.out
    obtain ⟨⟨r0, r1, r2, r3⟩, r4⟩ := R_1.out
    go_enter Try.func26, Try.ntmps26
    go_wp2_with fail
    rw [← Hw.out]
    refine (H1.out _).mono ?_
    rintro e w2 ⟨rfl, hb⟩
    have B2 := Lib.hid (belNext B1.out hb)
    have P0_2 := Lib.hid (P0_1.out.next hb)
    have P1_2 := Lib.hid (P1_1.out.next hb)
    have R_2 := Lib.hid (R_1.out.next hb)
    clear hb c00 c01 c02 c10 c11 c12 r0 r1 r2 r3 r4
    obtain ⟨⟨c00, c01⟩, c02⟩ := P0_2.out
    obtain ⟨⟨c10, c11⟩, c12⟩ := P1_2.out
    obtain ⟨⟨r0, r1, r2, r3⟩, r4⟩ := R_2.out
    go_wp2_with fail
    refine bodyPost_ret (v := .tuple #[.agg #[.float .f32 0, .float .f32 0], .int .i64 1]) (by simp [results, Try.results26, go_sem, r0, r1]) rfl ⟨rfl, ?_⟩
    repeat (first | exact B2.out | exact Below.refl _ _ | refine Below.drew ?_ | refine Below.alloc ?_ (by first | (simp; done) | (simp; omega)) _ | refine Below.setCell ?_ (by first | (simp; done) | (simp; omega)) _)
set_option maxHeartbeats 1000000 in
theorem implOrderW_any (l h l' h' : Nat) (w : World) (hl : l < 4294967296) (hh : h < 4294967296) (hlq : l' < 4294967296) (hhq : h' < 4294967296) :
    Calls Try.prog 32 #[.agg #[.float .f32 l, .float .f32 h], .agg #[.float .f32 l', .float .f32 h']] w fun e w' => e = .returned (.tuple #[.int .i64 (orI l h l' h'), .int .i64 (cI (bI l h l' h'))]) ∧ Below w.heap.size w w' := by
  by_cases b1 : isI l h = true
  · by_cases b2 : isI l' h' = true
    · obtain ⟨pl, ph, k1, k2, k3⟩ := isI_facts hl hh b1
      obtain ⟨plq, phq, k4, k5, k6⟩ := isI_facts hlq hhq b2
      have b : bI l h l' h' = true := by unfold bI; rw [b1, b2]; rfl
      have H1 : Hid (∀ w, Calls Try.prog 15 #[.agg #[.float .f32 l, .float .f32 h]] w fun e w' => e = .returned (.bool true) ∧ Below w.heap.size w w') := Lib.hid (fun w => by rw [← b1]; exact implIsI_any l h w hl hh)
      have H2 : Hid (∀ w, Calls Try.prog 15 #[.agg #[.float .f32 l', .float .f32 h']] w fun e w' => e = .returned (.bool true) ∧ Below w.heap.size w w') := Lib.hid (fun w => by rw [← b2]; exact implIsI_any l' h' w hlq hhq)
      have e0 : (.tuple #[.int .i64 (orI l h l' h'), .int .i64 (cI (bI l h l' h'))] : Value) = .tuple #[.int .i64 (ordI l h l' h'), .int .i64 0] := by unfold orI cI; simp [b]
      rw [e0]
      have H3 : Hid (∀ w, _) := Lib.hid (fun w => implOrder_any l h l' h' w pl ph plq phq)
      obtain ⟨q, hq⟩ : ∃ q, q = ordI l h l' h' := ⟨_, rfl⟩
      rw [← hq] at H3 ⊢
      clear e0 hq b
      clear hl hh hlq hhq b1 b2 pl ph plq phq k1 k2 k3 k4 k5 k6
      obtain ⟨w1, hw1, hp0, hp1, hB_⟩ := ib_2 w l h l' h' 26
      have P0_1 := Lib.hid hp0
      have P1_1 := Lib.hid hp1
      have hst := store_float Try.prog
      have B1 := Lib.hid hB_
      have Hw := Lib.hid hw1
      clear hw1 hp0 hp1 hB_
      obtain ⟨⟨c00, c01⟩, c02⟩ := P0_1.out
      obtain ⟨⟨c10, c11⟩, c12⟩ := P1_1.out
      go_enter Try.func32, Try.ntmps32
      go_wp2_with fail
      rw [← Hw.out]
      refine (H1.out _).mono ?_
      rintro e w2 ⟨rfl, hb⟩
      have B2 := Lib.hid (belNext B1.out hb)
      have P0_2 := Lib.hid (P0_1.out.next hb)
      have P1_2 := Lib.hid (P1_1.out.next hb)
      clear hb c00 c01 c02 c10 c11 c12
      obtain ⟨⟨c00, c01⟩, c02⟩ := P0_2.out
      obtain ⟨⟨c10, c11⟩, c12⟩ := P1_2.out
      go_wp2_with fail
      refine (H2.out _).mono ?_
      rintro e w3 ⟨rfl, hb⟩
      have B3 := Lib.hid (belNext B2.out hb)
      have P0_3 := Lib.hid (P0_2.out.next hb)
      have P1_3 := Lib.hid (P1_2.out.next hb)
      clear hb c00 c01 c02 c10 c11 c12
      obtain ⟨⟨c00, c01⟩, c02⟩ := P0_3.out
      obtain ⟨⟨c10, c11⟩, c12⟩ := P1_3.out
      go_wp2_with fail
      refine (H3.out _).mono ?_
      rintro e w4 ⟨rfl, hb⟩
      have B4 := Lib.hid (belNext B3.out hb)
      have P0_4 := Lib.hid (P0_3.out.next hb)
      have P1_4 := Lib.hid (P1_3.out.next hb)
      clear hb c00 c01 c02 c10 c11 c12
      obtain ⟨⟨c00, c01⟩, c02⟩ := P0_4.out
      obtain ⟨⟨c10, c11⟩, c12⟩ := P1_4.out
      go_wp2_with fail
      first | go_ret | go_ret2
      exact ⟨rfl, B4.out⟩
    · have b2 : isI l' h' = false := by simpa using b2
      have b : bI l h l' h' = false := by unfold bI; rw [b1, b2]; rfl
      have e0 : (.tuple #[.int .i64 (orI l h l' h'), .int .i64 (cI (bI l h l' h'))] : Value) = .tuple #[.int .i64 0, .int .i64 1] := by unfold orI cI; simp [b]
      rw [e0]
      clear e0 b
      have H1 : Hid (∀ w, Calls Try.prog 15 #[.agg #[.float .f32 l, .float .f32 h]] w fun e w' => e = .returned (.bool true) ∧ Below w.heap.size w w') := Lib.hid (fun w => by rw [← b1]; exact implIsI_any l h w hl hh)
      have H2 : Hid (∀ w, Calls Try.prog 15 #[.agg #[.float .f32 l', .float .f32 h']] w fun e w' => e = .returned (.bool false) ∧ Below w.heap.size w w') := Lib.hid (fun w => by rw [← b2]; exact implIsI_any l' h' w hlq hhq)
      clear hl hh hlq hhq b1 b2
      obtain ⟨w1, hw1, hp0, hp1, hB_⟩ := ib_2 w l h l' h' 26
      have P0_1 := Lib.hid hp0
      have P1_1 := Lib.hid hp1
      have hst := store_float Try.prog
      have B1 := Lib.hid hB_
      have Hw := Lib.hid hw1
      clear hw1 hp0 hp1 hB_
      obtain ⟨⟨c00, c01⟩, c02⟩ := P0_1.out
      obtain ⟨⟨c10, c11⟩, c12⟩ := P1_1.out
      go_enter Try.func32, Try.ntmps32
      go_wp2_with fail
      rw [← Hw.out]
      refine (H1.out _).mono ?_
      rintro e w2 ⟨rfl, hb⟩
      have B2 := Lib.hid (belNext B1.out hb)
      have P0_2 := Lib.hid (P0_1.out.next hb)
      have P1_2 := Lib.hid (P1_1.out.next hb)
      clear hb c00 c01 c02 c10 c11 c12
      obtain ⟨⟨c00, c01⟩, c02⟩ := P0_2.out
      obtain ⟨⟨c10, c11⟩, c12⟩ := P1_2.out
      go_wp2_with fail
      refine (H2.out _).mono ?_
      rintro e w3 ⟨rfl, hb⟩
      have B3 := Lib.hid (belNext B2.out hb)
      have P0_3 := Lib.hid (P0_2.out.next hb)
      have P1_3 := Lib.hid (P1_2.out.next hb)
      clear hb c00 c01 c02 c10 c11 c12
      obtain ⟨⟨c00, c01⟩, c02⟩ := P0_3.out
      obtain ⟨⟨c10, c11⟩, c12⟩ := P1_3.out
      go_wp2_with fail
      first | go_ret | go_ret2
      exact ⟨rfl, B3.out⟩
  · have b1 : isI l h = false := by simpa using b1
    have b : bI l h l' h' = false := by unfold bI; rw [b1]; rfl
    have e0 : (.tuple #[.int .i64 (orI l h l' h'), .int .i64 (cI (bI l h l' h'))] : Value) = .tuple #[.int .i64 0, .int .i64 1] := by unfold orI cI; simp [b]
    rw [e0]
    clear e0 b
    have H1 : Hid (∀ w, Calls Try.prog 15 #[.agg #[.float .f32 l, .float .f32 h]] w fun e w' => e = .returned (.bool false) ∧ Below w.heap.size w w') := Lib.hid (fun w => by rw [← b1]; exact implIsI_any l h w hl hh)
    clear hl hh hlq hhq b1
    obtain ⟨w1, hw1, hp0, hp1, hB_⟩ := ib_2 w l h l' h' 26
    have P0_1 := Lib.hid hp0
    have P1_1 := Lib.hid hp1
    have hst := store_float Try.prog
    have B1 := Lib.hid hB_
    have Hw := Lib.hid hw1
    clear hw1 hp0 hp1 hB_
    obtain ⟨⟨c00, c01⟩, c02⟩ := P0_1.out
    obtain ⟨⟨c10, c11⟩, c12⟩ := P1_1.out
    go_enter Try.func32, Try.ntmps32
    go_wp2_with fail
    rw [← Hw.out]
    refine (H1.out _).mono ?_
    rintro e w2 ⟨rfl, hb⟩
    have B2 := Lib.hid (belNext B1.out hb)
    have P0_2 := Lib.hid (P0_1.out.next hb)
    have P1_2 := Lib.hid (P1_1.out.next hb)
    clear hb c00 c01 c02 c10 c11 c12
    obtain ⟨⟨c00, c01⟩, c02⟩ := P0_2.out
    obtain ⟨⟨c10, c11⟩, c12⟩ := P1_2.out
    go_wp2_with fail
    first | go_ret | go_ret2
    exact ⟨rfl, B2.out⟩
set_option maxHeartbeats 1000000 in
theorem implPartW_any (l h l' h' : Nat) (w : World) (hl : l < 4294967296) (hh : h < 4294967296) (hlq : l' < 4294967296) (hhq : h' < 4294967296) :
    Calls Try.prog 28 #[.agg #[.float .f32 l, .float .f32 h], .agg #[.float .f32 l', .float .f32 h']] w fun e w' => e = .returned (.tuple #[.bool (ptB l h l' h'), .int .i64 (cI (bI l h l' h'))]) ∧ Below w.heap.size w w' := by
  by_cases b : bI l h l' h' = true
  · have bb := b
    unfold bI at bb
    simp only [Bool.and_eq_true] at bb
    obtain ⟨pl, ph, k1, k2, k3⟩ := isI_facts hl hh bb.1
    obtain ⟨plq, phq, k4, k5, k6⟩ := isI_facts hlq hhq bb.2
    have H1 : Hid (∀ w, Calls Try.prog 24 #[.agg #[.float .f32 l, .float .f32 h], .agg #[.float .f32 l', .float .f32 h']] w fun e w' => e = .returned (.tuple #[.agg #[.float .f32 ((mn l l')), .float .f32 ((mx h h'))], .int .i64 0]) ∧ Below w.heap.size w w') := Lib.hid (fun w => by
      have h := implHullW_any l h l' h' w hl hh hlq hhq
      unfold huL huH cI at h
      simpa [b] using h)
    have q1 := mn_pl pl plq
    have q2 := mx_pl ph phq
    have f1 := eq32 (mn l l') l' q1.1 plq.1 q1.2.1 plq.2.1
    have f2 := eq32 (mx h h') h' q2.1 phq.1 q2.2.1 phq.2.1
    rw [mn_place] at f1
    rw [mx_place] at f2
    have g1 : decide (min (place32 l) (place32 l') = place32 l') = decide (place32 l' ≤ place32 l) := by rw [decide_eq_decide]; omega
    have g2 : decide (max (place32 h) (place32 h') = place32 h') = decide (place32 h ≤ place32 h') := by rw [decide_eq_decide]; omega
    rw [g1] at f1
    rw [g2] at f2
    have e0 : (.tuple #[.bool (ptB l h l' h'), .int .i64 (cI (bI l h l' h'))] : Value) = .tuple #[.bool (decide (place32 l' ≤ place32 l) && decide (place32 h ≤ place32 h')), .int .i64 0] := by unfold ptB cI; simp [b]
    rw [e0]
    obtain ⟨y1, hy1⟩ : ∃ y, y = decide (place32 l' ≤ place32 l) := ⟨_, rfl⟩
    obtain ⟨y2, hy2⟩ : ∃ y, y = decide (place32 h ≤ place32 h') := ⟨_, rfl⟩
    rw [← hy1] at f1 ⊢
    rw [← hy2] at f2 ⊢
    obtain ⟨a, ha⟩ : ∃ a, a = mn l l' := ⟨_, rfl⟩
    obtain ⟨c, hc⟩ : ∃ c, c = mx h h' := ⟨_, rfl⟩
    rw [← ha] at H1 f1
    rw [← hc] at H1 f2
    have heq : ∀ w, (binOp .eql 26 (.agg #[.float .f32 a, .float .f32 c]) (.agg #[.float .f32 l', .float .f32 h'])).run Try.prog w = .ok (.bool (y1 && y2)) w := fun w => by rw [← f1, ← f2]; exact run_iv_eql a c l' h' w
    clear e0 hy1 hy2 ha hc q1 q2 g1 g2 f1 f2 b bb pl ph plq phq k1 k2 k3 k4 k5 k6 hl hh hlq hhq
    obtain ⟨w1, hw1, hp0, hp1, hB_⟩ := ib_2 w l h l' h' 26
    have P0_1 := Lib.hid hp0
    have P1_1 := Lib.hid hp1
    have hst := store_float Try.prog
    have B1 := Lib.hid hB_
    have Hw := Lib.hid hw1
    clear hw1 hp0 hp1 hB_
    obtain ⟨⟨c00, c01⟩, c02⟩ := P0_1.out
    obtain ⟨⟨c10, c11⟩, c12⟩ := P1_1.out
    go_enter Try.func28, Try.ntmps28
    go_wp2_with fail
    rw [← Hw.out]
    refine (H1.out _).mono ?_
    rintro e w2 ⟨rfl, hb⟩
    have B2 := Lib.hid (belNext B1.out hb)
    have P0_2 := Lib.hid (P0_1.out.next hb)
    have P1_2 := Lib.hid (P1_1.out.next hb)
    clear hb c00 c01 c02 c10 c11 c12
    obtain ⟨⟨c00, c01⟩, c02⟩ := P0_2.out
    obtain ⟨⟨c10, c11⟩, c12⟩ := P1_2.out
    go_upto_region 2 with fail
    obtain ⟨w3, hw⟩ : ∃ w3, w3 = w2.alloc (.cells #[.float .f32 a, .float .f32 c] 26) := ⟨_, rfl⟩
    rw [← hw]
    have hb : Below w2.heap.size w2 w3 := by rw [hw]; exact belAlloc1 _ _
    have P2_3 : Hid (IB w3 w2.heap.size a c) := Lib.hid (by rw [hw]; exact IB.new _ _ _ _)
    clear hw
    have P1_3 := Lib.hid (P1_2.out.next hb)
    have B3 := Lib.hid (belNext B2.out hb)
    clear hb c00 c01 c02 c10 c11 c12
    obtain ⟨⟨c10, c11⟩, c12⟩ := P1_3.out
    obtain ⟨⟨c20, c21⟩, c22⟩ := P2_3.out
    go_wp2_with fail
    first | go_ret | go_ret2
    exact ⟨rfl, B3.out⟩
  · have b : bI l h l' h' = false := by simpa using b
    have H1 : Hid (∀ w, Calls Try.prog 24 #[.agg #[.float .f32 l, .float .f32 h], .agg #[.float .f32 l', .float .f32 h']] w fun e w' => e = .returned (.tuple #[.agg #[.float .f32 0, .float .f32 0], .int .i64 1]) ∧ Below w.heap.size w w') := Lib.hid (fun w => by
      have h := implHullW_any l h l' h' w hl hh hlq hhq
      unfold huL huH cI at h
      simpa [b] using h)
    have e0 : (.tuple #[.bool (ptB l h l' h'), .int .i64 (cI (bI l h l' h'))] : Value) = .tuple #[.bool false, .int .i64 1] := by unfold ptB cI; simp [b]
    rw [e0]
    clear e0 b hl hh hlq hhq
    obtain ⟨w1, hw1, hp0, hp1, hB_⟩ := ib_2 w l h l' h' 26
    have P0_1 := Lib.hid hp0
    have P1_1 := Lib.hid hp1
    have hst := store_float Try.prog
    have B1 := Lib.hid hB_
    have Hw := Lib.hid hw1
    clear hw1 hp0 hp1 hB_
    obtain ⟨⟨c00, c01⟩, c02⟩ := P0_1.out
    obtain ⟨⟨c10, c11⟩, c12⟩ := P1_1.out
    go_enter Try.func28, Try.ntmps28
    go_wp2_with fail
    rw [← Hw.out]
    refine (H1.out _).mono ?_
    rintro e w2 ⟨rfl, hb⟩
    have B2 := Lib.hid (belNext B1.out hb)
    have P0_2 := Lib.hid (P0_1.out.next hb)
    have P1_2 := Lib.hid (P1_1.out.next hb)
    clear hb c00 c01 c02 c10 c11 c12
    obtain ⟨⟨c00, c01⟩, c02⟩ := P0_2.out
    obtain ⟨⟨c10, c11⟩, c12⟩ := P1_2.out
    go_upto_region 2 with fail
    obtain ⟨w3, hw⟩ : ∃ w3, w3 = w2.alloc (.cells #[.float .f32 0, .float .f32 0] 26) := ⟨_, rfl⟩
    rw [← hw]
    have hb : Below w2.heap.size w2 w3 := by rw [hw]; exact belAlloc1 _ _
    have P2_3 : Hid (IB w3 w2.heap.size 0 0) := Lib.hid (by rw [hw]; exact IB.new _ _ _ _)
    clear hw
    have P1_3 := Lib.hid (P1_2.out.next hb)
    have B3 := Lib.hid (belNext B2.out hb)
    clear hb c00 c01 c02 c10 c11 c12
    obtain ⟨⟨c10, c11⟩, c12⟩ := P1_3.out
    obtain ⟨⟨c20, c21⟩, c22⟩ := P2_3.out
    go_wp2_with fail
    first | go_ret | go_ret2
    exact ⟨rfl, B3.out⟩
set_option maxHeartbeats 1000000 in
theorem combAbsW_any (l h : Nat) (w : World) (hl : l < 4294967296) (hh : h < 4294967296) :
    Calls Try.prog 42 #[.func (.func 43) #[] #[], .agg #[.float .f32 l, .float .f32 h]] w fun e w' => e = .returned (.tuple #[.agg #[.float .f32 ((abLw l h)), .float .f32 ((abHw l h))], .int .i64 (cI (isI l h))]) ∧ Below w.heap.size w w' := by
  by_cases b1 : isI l h = true
  · obtain ⟨pl, ph, k1, k2, k3⟩ := isI_facts hl hh b1
    have H1 : Hid (∀ w, Calls Try.prog 15 #[.agg #[.float .f32 l, .float .f32 h]] w fun e w' => e = .returned (.bool true) ∧ Below w.heap.size w w') := Lib.hid (fun w => by rw [← b1]; exact implIsI_any l h w hl hh)
    have e0 : (.tuple #[.agg #[.float .f32 ((abLw l h)), .float .f32 ((abHw l h))], .int .i64 (cI (isI l h))] : Value) = .tuple #[.agg #[.float .f32 ((abL l h)), .float .f32 ((abH l h))], .int .i64 0] := by unfold abLw abHw cI; simp [b1]
    rw [e0]
    have H3 : Hid (∀ w, _) := Lib.hid (fun w => implIAbs_any l h w pl ph)
    obtain ⟨RL, hRL⟩ : ∃ r, r = (abL l h) := ⟨_, rfl⟩
    obtain ⟨RH, hRH⟩ : ∃ r, r = (abH l h) := ⟨_, rfl⟩
    rw [← hRL, ← hRH] at H3 ⊢
    clear e0 hl hh b1 pl ph k1 k2 k3 hRL hRH
    obtain ⟨w1, hw1, hp0, hr_, hB_⟩ := ib_1r w l h 26 26
    have P0_1 := Lib.hid hp0
    have R_1 := Lib.hid hr_
    have hst := store_float Try.prog
    have B1 := Lib.hid hB_
    have Hw := Lib.hid hw1
    clear hw1 hp0 hr_ hB_
    obtain ⟨⟨c00, c01⟩, c02⟩ := P0_1.out
    obtain ⟨⟨r0, r1, r2, r3⟩, r4⟩ := R_1.out
    go_enter Try.func42, Try.ntmps42
    go_wp2_with fail
    rw [← Hw.out]
    refine (H1.out _).mono ?_
    rintro e w2 ⟨rfl, hb⟩
    have B2 := Lib.hid (belNext B1.out hb)
    have P0_2 := Lib.hid (P0_1.out.next hb)
    have R_2 := Lib.hid (R_1.out.next hb)
    clear hb c00 c01 c02 r0 r1 r2 r3 r4
    obtain ⟨⟨c00, c01⟩, c02⟩ := P0_2.out
    obtain ⟨⟨r0, r1, r2, r3⟩, r4⟩ := R_2.out
    go_wp2_with fail
    refine (H3.out _).mono ?_
    rintro e w3 ⟨rfl, hb⟩
    have B3 := Lib.hid (belNext B2.out hb)
    have P0_3 := Lib.hid (P0_2.out.next hb)
    have R_3 := Lib.hid (R_2.out.next hb)
    clear hb c00 c01 c02 r0 r1 r2 r3 r4
    obtain ⟨⟨c00, c01⟩, c02⟩ := P0_3.out
    obtain ⟨⟨r0, r1, r2, r3⟩, r4⟩ := R_3.out
    go_wp2_with fail
    refine bodyPost_ret (v := .tuple #[.agg #[.float .f32 RL, .float .f32 RH], .int .i64 0]) (by simp [results, Try.results42, go_sem, r0, r1]) rfl ⟨rfl, ?_⟩
    repeat (first | exact B3.out | exact Below.refl _ _ | refine Below.drew ?_ | refine Below.alloc ?_ (by first | (simp; done) | (simp; omega)) _ | refine Below.setCell ?_ (by first | (simp; done) | (simp; omega)) _)
  · have b1 : isI l h = false := by simpa using b1
    have H1 : Hid (∀ w, Calls Try.prog 15 #[.agg #[.float .f32 l, .float .f32 h]] w fun e w' => e = .returned (.bool false) ∧ Below w.heap.size w w') := Lib.hid (fun w => by rw [← b1]; exact implIsI_any l h w hl hh)
    have e0 : (.tuple #[.agg #[.float .f32 ((abLw l h)), .float .f32 ((abHw l h))], .int .i64 (cI (isI l h))] : Value) = .tuple #[.agg #[.float .f32 0, .float .f32 0], .int .i64 1] := by unfold abLw abHw cI; simp [b1]
    rw [e0]
    clear e0 hl hh b1
    obtain ⟨w1, hw1, hp0, hr_, hB_⟩ := ib_1r w l h 26 26
    have P0_1 := Lib.hid hp0
    have R_1 := Lib.hid hr_
    have hst := store_float Try.prog
    have B1 := Lib.hid hB_
    have Hw := Lib.hid hw1
    clear hw1 hp0 hr_ hB_
    obtain ⟨⟨c00, c01⟩, c02⟩ := P0_1.out
    obtain ⟨⟨r0, r1, r2, r3⟩, r4⟩ := R_1.out
    go_enter Try.func42, Try.ntmps42
    go_wp2_with fail
    rw [← Hw.out]
    refine (H1.out _).mono ?_
    rintro e w2 ⟨rfl, hb⟩
    have B2 := Lib.hid (belNext B1.out hb)
    have P0_2 := Lib.hid (P0_1.out.next hb)
    have R_2 := Lib.hid (R_1.out.next hb)
    clear hb c00 c01 c02 r0 r1 r2 r3 r4
    obtain ⟨⟨c00, c01⟩, c02⟩ := P0_2.out
    obtain ⟨⟨r0, r1, r2, r3⟩, r4⟩ := R_2.out
    go_wp2_with fail
    refine bodyPost_ret (v := .tuple #[.agg #[.float .f32 0, .float .f32 0], .int .i64 1]) (by simp [results, Try.results42, go_sem, r0, r1]) rfl ⟨rfl, ?_⟩
    repeat (first | exact B2.out | exact Below.refl _ _ | refine Below.drew ?_ | refine Below.alloc ?_ (by first | (simp; done) | (simp; omega)) _ | refine Below.setCell ?_ (by first | (simp; done) | (simp; omega)) _)
set_option maxHeartbeats 1000000 in
theorem implAbsW_any (l h : Nat) (w : World) (hl : l < 4294967296) (hh : h < 4294967296) :
    Calls Try.prog 20 #[.agg #[.float .f32 l, .float .f32 h]] w fun e w' => e = .returned (.tuple #[.agg #[.float .f32 ((abLw l h)), .float .f32 ((abHw l h))], .int .i64 (cI (isI l h))]) ∧ Below w.heap.size w w' := by
  have H1 : Hid (∀ w, _) := Lib.hid (fun w => combAbsW_any l h w hl hh)
  obtain ⟨RL, hRL⟩ : ∃ r, r = abLw l h := ⟨_, rfl⟩
  obtain ⟨RH, hRH⟩ : ∃ r, r = abHw l h := ⟨_, rfl⟩
  obtain ⟨RE, hRE⟩ : ∃ r, r = cI (isI l h) := ⟨_, rfl⟩
  rw [← hRL, ← hRH, ← hRE] at H1 ⊢
  clear hl hh hRL hRH hRE
  obtain ⟨w1, hw1, hp0, hr_, hB_⟩ := ib_1r w l h 26 26
  have P0_1 := Lib.hid hp0
  have R_1 := Lib.hid hr_
  have hst := store_float Try.prog
  have B1 := Lib.hid hB_
  have Hw := Lib.hid hw1
  clear hw1 hp0 hr_ hB_
  obtain ⟨⟨c00, c01⟩, c02⟩ := P0_1.out
  obtain ⟨⟨r0, r1, r2, r3⟩, r4⟩ := R_1.out
  go_enter Try.func20, Try.ntmps20
  go_wp2_with fail
  rw [← Hw.out]
  refine (H1.out _).mono ?_
  rintro e w2 ⟨rfl, hb⟩
  have B2 := Lib.hid (belNext B1.out hb)
  have P0_2 := Lib.hid (P0_1.out.next hb)
  have R_2 := Lib.hid (R_1.out.next hb)
  clear hb c00 c01 c02 r0 r1 r2 r3 r4
  obtain ⟨⟨c00, c01⟩, c02⟩ := P0_2.out
  obtain ⟨⟨r0, r1, r2, r3⟩, r4⟩ := R_2.out
  go_wp2_with fail
  refine bodyPost_ret (v := .tuple #[.agg #[.float .f32 RL, .float .f32 RH], .int .i64 RE]) (by simp [results, Try.results20, go_sem, r0, r1]) rfl ⟨rfl, ?_⟩
  repeat (first | exact B2.out | exact Below.refl _ _ | refine Below.drew ?_ | refine Below.alloc ?_ (by first | (simp; done) | (simp; omega)) _ | refine Below.setCell ?_ (by first | (simp; done) | (simp; omega)) _)
set_option maxHeartbeats 1000000 in
theorem specAbsW_any (l h : Nat) (w : World) (hl : l < 4294967296) (hh : h < 4294967296) :
    Calls Try.prog 19 #[.agg #[.float .f32 l, .float .f32 h]] w fun e w' => e = .returned (.tuple #[.agg #[.float .f32 ((abLw l h)), .float .f32 ((abHw l h))], .int .i64 (cI (isI l h))]) ∧ Below w.heap.size w w' := by
  by_cases b1 : isI l h = true
  · obtain ⟨pl, ph, k1, k2, k3⟩ := isI_facts hl hh b1
    have H1 : Hid (∀ w, Calls Try.prog 35 #[.agg #[.float .f32 l, .float .f32 h]] w fun e w' => e = .returned (.bool true) ∧ Below w.heap.size w w') := Lib.hid (fun w => by rw [← b1]; exact specIsI_any l h w hl hh)
    have e0 : (.tuple #[.agg #[.float .f32 ((abLw l h)), .float .f32 ((abHw l h))], .int .i64 (cI (isI l h))] : Value) = .tuple #[.agg #[.float .f32 ((abL l h)), .float .f32 ((abH l h))], .int .i64 0] := by unfold abLw abHw cI; simp [b1]
    rw [e0]
    have H3 : Hid (∀ w, _) := Lib.hid (fun w => specIAbs_any l h w pl ph)
    obtain ⟨RL, hRL⟩ : ∃ r, r = (abL l h) := ⟨_, rfl⟩
    obtain ⟨RH, hRH⟩ : ∃ r, r = (abH l h) := ⟨_, rfl⟩
    rw [← hRL, ← hRH] at H3 ⊢
    clear e0 hl hh b1 pl ph k1 k2 k3 hRL hRH
    obtain ⟨w1, hw1, hp0, hr_, hB_⟩ := ib_1r w l h 26 26
    have P0_1 := Lib.hid hp0
    have R_1 := Lib.hid hr_
    have hst := store_float Try.prog
    have B1 := Lib.hid hB_
    have Hw := Lib.hid hw1
    clear hw1 hp0 hr_ hB_
    obtain ⟨⟨c00, c01⟩, c02⟩ := P0_1.out
    obtain ⟨⟨r0, r1, r2, r3⟩, r4⟩ := R_1.out
    go_enter Try.func19, Try.ntmps19
    go_wp2_with fail
    rw [← Hw.out]
    refine (H1.out _).mono ?_
    rintro e w2 ⟨rfl, hb⟩
    have B2 := Lib.hid (belNext B1.out hb)
    have P0_2 := Lib.hid (P0_1.out.next hb)
    have R_2 := Lib.hid (R_1.out.next hb)
    clear hb c00 c01 c02 r0 r1 r2 r3 r4
    obtain ⟨⟨c00, c01⟩, c02⟩ := P0_2.out
    obtain ⟨⟨r0, r1, r2, r3⟩, r4⟩ := R_2.out
    go_wp2_with fail
    refine (H3.out _).mono ?_
    rintro e w3 ⟨rfl, hb⟩
    have B3 := Lib.hid (belNext B2.out hb)
    have P0_3 := Lib.hid (P0_2.out.next hb)
    have R_3 := Lib.hid (R_2.out.next hb)
    clear hb c00 c01 c02 r0 r1 r2 r3 r4
    obtain ⟨⟨c00, c01⟩, c02⟩ := P0_3.out
    obtain ⟨⟨r0, r1, r2, r3⟩, r4⟩ := R_3.out
    go_wp2_with fail
    refine bodyPost_ret (v := .tuple #[.agg #[.float .f32 RL, .float .f32 RH], .int .i64 0]) (by simp [results, Try.results19, go_sem, r0, r1]) rfl ⟨rfl, ?_⟩
    repeat (first | exact B3.out | exact Below.refl _ _ | refine Below.drew ?_ | refine Below.alloc ?_ (by first | (simp; done) | (simp; omega)) _ | refine Below.setCell ?_ (by first | (simp; done) | (simp; omega)) _)
  · have b1 : isI l h = false := by simpa using b1
    have H1 : Hid (∀ w, Calls Try.prog 35 #[.agg #[.float .f32 l, .float .f32 h]] w fun e w' => e = .returned (.bool false) ∧ Below w.heap.size w w') := Lib.hid (fun w => by rw [← b1]; exact specIsI_any l h w hl hh)
    have e0 : (.tuple #[.agg #[.float .f32 ((abLw l h)), .float .f32 ((abHw l h))], .int .i64 (cI (isI l h))] : Value) = .tuple #[.agg #[.float .f32 0, .float .f32 0], .int .i64 1] := by unfold abLw abHw cI; simp [b1]
    rw [e0]
    clear e0 hl hh b1
    obtain ⟨w1, hw1, hp0, hr_, hB_⟩ := ib_1r w l h 26 26
    have P0_1 := Lib.hid hp0
    have R_1 := Lib.hid hr_
    have hst := store_float Try.prog
    have B1 := Lib.hid hB_
    have Hw := Lib.hid hw1
    clear hw1 hp0 hr_ hB_
    obtain ⟨⟨c00, c01⟩, c02⟩ := P0_1.out
    obtain ⟨⟨r0, r1, r2, r3⟩, r4⟩ := R_1.out
    go_enter Try.func19, Try.ntmps19
    go_wp2_with fail
    rw [← Hw.out]
    refine (H1.out _).mono ?_
    rintro e w2 ⟨rfl, hb⟩
    have B2 := Lib.hid (belNext B1.out hb)
    have P0_2 := Lib.hid (P0_1.out.next hb)
    have R_2 := Lib.hid (R_1.out.next hb)
    clear hb c00 c01 c02 r0 r1 r2 r3 r4
    obtain ⟨⟨c00, c01⟩, c02⟩ := P0_2.out
    obtain ⟨⟨r0, r1, r2, r3⟩, r4⟩ := R_2.out
    go_wp2_with fail
    refine bodyPost_ret (v := .tuple #[.agg #[.float .f32 0, .float .f32 0], .int .i64 1]) (by simp [results, Try.results19, go_sem, r0, r1]) rfl ⟨rfl, ?_⟩
    repeat (first | exact B2.out | exact Below.refl _ _ | refine Below.drew ?_ | refine Below.alloc ?_ (by first | (simp; done) | (simp; omega)) _ | refine Below.setCell ?_ (by first | (simp; done) | (simp; omega)) _)
set_option maxHeartbeats 1000000 in
theorem combNegW_any (l h : Nat) (w : World) (hl : l < 4294967296) (hh : h < 4294967296) :
    Calls Try.prog 42 #[.func (.func 45) #[] #[], .agg #[.float .f32 l, .float .f32 h]] w fun e w' => e = .returned (.tuple #[.agg #[.float .f32 ((ngLw l h)), .float .f32 ((ngHw l h))], .int .i64 (cI (isI l h))]) ∧ Below w.heap.size w w' := by
  by_cases b1 : isI l h = true
  · obtain ⟨pl, ph, k1, k2, k3⟩ := isI_facts hl hh b1
    have H1 : Hid (∀ w, Calls Try.prog 15 #[.agg #[.float .f32 l, .float .f32 h]] w fun e w' => e = .returned (.bool true) ∧ Below w.heap.size w w') := Lib.hid (fun w => by rw [← b1]; exact implIsI_any l h w hl hh)
    have e0 : (.tuple #[.agg #[.float .f32 ((ngLw l h)), .float .f32 ((ngHw l h))], .int .i64 (cI (isI l h))] : Value) = .tuple #[.agg #[.float .f32 ((opp h)), .float .f32 ((opp l))], .int .i64 0] := by unfold ngLw ngHw cI; simp [b1]
    rw [e0]
    have H3 : Hid (∀ w, _) := Lib.hid (fun w => implIOpp_any l h w pl ph)
    obtain ⟨RL, hRL⟩ : ∃ r, r = (opp h) := ⟨_, rfl⟩
    obtain ⟨RH, hRH⟩ : ∃ r, r = (opp l) := ⟨_, rfl⟩
    rw [← hRL, ← hRH] at H3 ⊢
    clear e0 hl hh b1 pl ph k1 k2 k3 hRL hRH
    obtain ⟨w1, hw1, hp0, hr_, hB_⟩ := ib_1r w l h 26 26
    have P0_1 := Lib.hid hp0
    have R_1 := Lib.hid hr_
    have hst := store_float Try.prog
    have B1 := Lib.hid hB_
    have Hw := Lib.hid hw1
    clear hw1 hp0 hr_ hB_
    obtain ⟨⟨c00, c01⟩, c02⟩ := P0_1.out
    obtain ⟨⟨r0, r1, r2, r3⟩, r4⟩ := R_1.out
    go_enter Try.func42, Try.ntmps42
    go_wp2_with fail
    rw [← Hw.out]
    refine (H1.out _).mono ?_
    rintro e w2 ⟨rfl, hb⟩
    have B2 := Lib.hid (belNext B1.out hb)
    have P0_2 := Lib.hid (P0_1.out.next hb)
    have R_2 := Lib.hid (R_1.out.next hb)
    clear hb c00 c01 c02 r0 r1 r2 r3 r4
    obtain ⟨⟨c00, c01⟩, c02⟩ := P0_2.out
    obtain ⟨⟨r0, r1, r2, r3⟩, r4⟩ := R_2.out
    go_wp2_with fail
    refine (H3.out _).mono ?_
    rintro e w3 ⟨rfl, hb⟩
    have B3 := Lib.hid (belNext B2.out hb)
    have P0_3 := Lib.hid (P0_2.out.next hb)
    have R_3 := Lib.hid (R_2.out.next hb)
    clear hb c00 c01 c02 r0 r1 r2 r3 r4
    obtain ⟨⟨c00, c01⟩, c02⟩ := P0_3.out
    obtain ⟨⟨r0, r1, r2, r3⟩, r4⟩ := R_3.out
    go_wp2_with fail
    refine bodyPost_ret (v := .tuple #[.agg #[.float .f32 RL, .float .f32 RH], .int .i64 0]) (by simp [results, Try.results42, go_sem, r0, r1]) rfl ⟨rfl, ?_⟩
    repeat (first | exact B3.out | exact Below.refl _ _ | refine Below.drew ?_ | refine Below.alloc ?_ (by first | (simp; done) | (simp; omega)) _ | refine Below.setCell ?_ (by first | (simp; done) | (simp; omega)) _)
  · have b1 : isI l h = false := by simpa using b1
    have H1 : Hid (∀ w, Calls Try.prog 15 #[.agg #[.float .f32 l, .float .f32 h]] w fun e w' => e = .returned (.bool false) ∧ Below w.heap.size w w') := Lib.hid (fun w => by rw [← b1]; exact implIsI_any l h w hl hh)
    have e0 : (.tuple #[.agg #[.float .f32 ((ngLw l h)), .float .f32 ((ngHw l h))], .int .i64 (cI (isI l h))] : Value) = .tuple #[.agg #[.float .f32 0, .float .f32 0], .int .i64 1] := by unfold ngLw ngHw cI; simp [b1]
    rw [e0]
    clear e0 hl hh b1
    obtain ⟨w1, hw1, hp0, hr_, hB_⟩ := ib_1r w l h 26 26
    have P0_1 := Lib.hid hp0
    have R_1 := Lib.hid hr_
    have hst := store_float Try.prog
    have B1 := Lib.hid hB_
    have Hw := Lib.hid hw1
    clear hw1 hp0 hr_ hB_
    obtain ⟨⟨c00, c01⟩, c02⟩ := P0_1.out
    obtain ⟨⟨r0, r1, r2, r3⟩, r4⟩ := R_1.out
    go_enter Try.func42, Try.ntmps42
    go_wp2_with fail
    rw [← Hw.out]
    refine (H1.out _).mono ?_
    rintro e w2 ⟨rfl, hb⟩
    have B2 := Lib.hid (belNext B1.out hb)
    have P0_2 := Lib.hid (P0_1.out.next hb)
    have R_2 := Lib.hid (R_1.out.next hb)
    clear hb c00 c01 c02 r0 r1 r2 r3 r4
    obtain ⟨⟨c00, c01⟩, c02⟩ := P0_2.out
    obtain ⟨⟨r0, r1, r2, r3⟩, r4⟩ := R_2.out
    go_wp2_with fail
    refine bodyPost_ret (v := .tuple #[.agg #[.float .f32 0, .float .f32 0], .int .i64 1]) (by simp [results, Try.results42, go_sem, r0, r1]) rfl ⟨rfl, ?_⟩
    repeat (first | exact B2.out | exact Below.refl _ _ | refine Below.drew ?_ | refine Below.alloc ?_ (by first | (simp; done) | (simp; omega)) _ | refine Below.setCell ?_ (by first | (simp; done) | (simp; omega)) _)
set_option maxHeartbeats 1000000 in
theorem implNegW_any (l h : Nat) (w : World) (hl : l < 4294967296) (hh : h < 4294967296) :
    Calls Try.prog 22 #[.agg #[.float .f32 l, .float .f32 h]] w fun e w' => e = .returned (.tuple #[.agg #[.float .f32 ((ngLw l h)), .float .f32 ((ngHw l h))], .int .i64 (cI (isI l h))]) ∧ Below w.heap.size w w' := by
  have H1 : Hid (∀ w, _) := Lib.hid (fun w => combNegW_any l h w hl hh)
  obtain ⟨RL, hRL⟩ : ∃ r, r = ngLw l h := ⟨_, rfl⟩
  obtain ⟨RH, hRH⟩ : ∃ r, r = ngHw l h := ⟨_, rfl⟩
  obtain ⟨RE, hRE⟩ : ∃ r, r = cI (isI l h) := ⟨_, rfl⟩
  rw [← hRL, ← hRH, ← hRE] at H1 ⊢
  clear hl hh hRL hRH hRE
  obtain ⟨w1, hw1, hp0, hr_, hB_⟩ := ib_1r w l h 26 26
  have P0_1 := Lib.hid hp0
  have R_1 := Lib.hid hr_
  have hst := store_float Try.prog
  have B1 := Lib.hid hB_
  have Hw := Lib.hid hw1
  clear hw1 hp0 hr_ hB_
  obtain ⟨⟨c00, c01⟩, c02⟩ := P0_1.out
  obtain ⟨⟨r0, r1, r2, r3⟩, r4⟩ := R_1.out
  go_enter Try.func22, Try.ntmps22
  go_wp2_with fail
  rw [← Hw.out]
  refine (H1.out _).mono ?_
  rintro e w2 ⟨rfl, hb⟩
  have B2 := Lib.hid (belNext B1.out hb)
  have P0_2 := Lib.hid (P0_1.out.next hb)
  have R_2 := Lib.hid (R_1.out.next hb)
  clear hb c00 c01 c02 r0 r1 r2 r3 r4
  obtain ⟨⟨c00, c01⟩, c02⟩ := P0_2.out
  obtain ⟨⟨r0, r1, r2, r3⟩, r4⟩ := R_2.out
  go_wp2_with fail
  refine bodyPost_ret (v := .tuple #[.agg #[.float .f32 RL, .float .f32 RH], .int .i64 RE]) (by simp [results, Try.results22, go_sem, r0, r1]) rfl ⟨rfl, ?_⟩
  repeat (first | exact B2.out | exact Below.refl _ _ | refine Below.drew ?_ | refine Below.alloc ?_ (by first | (simp; done) | (simp; omega)) _ | refine Below.setCell ?_ (by first | (simp; done) | (simp; omega)) _)
set_option maxHeartbeats 1000000 in
theorem specNegW_any (l h : Nat) (w : World) (hl : l < 4294967296) (hh : h < 4294967296) :
    Calls Try.prog 21 #[.agg #[.float .f32 l, .float .f32 h]] w fun e w' => e = .returned (.tuple #[.agg #[.float .f32 ((ngLw l h)), .float .f32 ((ngHw l h))], .int .i64 (cI (isI l h))]) ∧ Below w.heap.size w w' := by
  by_cases b1 : isI l h = true
  · obtain ⟨pl, ph, k1, k2, k3⟩ := isI_facts hl hh b1
    have H1 : Hid (∀ w, Calls Try.prog 35 #[.agg #[.float .f32 l, .float .f32 h]] w fun e w' => e = .returned (.bool true) ∧ Below w.heap.size w w') := Lib.hid (fun w => by rw [← b1]; exact specIsI_any l h w hl hh)
    have e0 : (.tuple #[.agg #[.float .f32 ((ngLw l h)), .float .f32 ((ngHw l h))], .int .i64 (cI (isI l h))] : Value) = .tuple #[.agg #[.float .f32 ((opp h)), .float .f32 ((opp l))], .int .i64 0] := by unfold ngLw ngHw cI; simp [b1]
    rw [e0]
    have H3 : Hid (∀ w, _) := Lib.hid (fun w => specINeg_any l h w pl ph)
    obtain ⟨RL, hRL⟩ : ∃ r, r = (opp h) := ⟨_, rfl⟩
    obtain ⟨RH, hRH⟩ : ∃ r, r = (opp l) := ⟨_, rfl⟩
    rw [← hRL, ← hRH] at H3 ⊢
    clear e0 hl hh b1 pl ph k1 k2 k3 hRL hRH
    obtain ⟨w1, hw1, hp0, hr_, hB_⟩ := ib_1r w l h 26 26
    have P0_1 := Lib.hid hp0
    have R_1 := Lib.hid hr_
    have hst := store_float Try.prog
    have B1 := Lib.hid hB_
    have Hw := Lib.hid hw1
    clear hw1 hp0 hr_ hB_
    obtain ⟨⟨c00, c01⟩, c02⟩ := P0_1.out
    obtain ⟨⟨r0, r1, r2, r3⟩, r4⟩ := R_1.out
    go_enter Try.func21, Try.ntmps21
    go_wp2_with fail
    rw [← Hw.out]
    refine (H1.out _).mono ?_
    rintro e w2 ⟨rfl, hb⟩
    have B2 := Lib.hid (belNext B1.out hb)
    have P0_2 := Lib.hid (P0_1.out.next hb)
    have R_2 := Lib.hid (R_1.out.next hb)
    clear hb c00 c01 c02 r0 r1 r2 r3 r4
    obtain ⟨⟨c00, c01⟩, c02⟩ := P0_2.out
    obtain ⟨⟨r0, r1, r2, r3⟩, r4⟩ := R_2.out
    go_wp2_with fail
    refine (H3.out _).mono ?_
    rintro e w3 ⟨rfl, hb⟩
    have B3 := Lib.hid (belNext B2.out hb)
    have P0_3 := Lib.hid (P0_2.out.next hb)
    have R_3 := Lib.hid (R_2.out.next hb)
    clear hb c00 c01 c02 r0 r1 r2 r3 r4
    obtain ⟨⟨c00, c01⟩, c02⟩ := P0_3.out
    obtain ⟨⟨r0, r1, r2, r3⟩, r4⟩ := R_3.out
    go_wp2_with fail
    refine bodyPost_ret (v := .tuple #[.agg #[.float .f32 RL, .float .f32 RH], .int .i64 0]) (by simp [results, Try.results21, go_sem, r0, r1]) rfl ⟨rfl, ?_⟩
    repeat (first | exact B3.out | exact Below.refl _ _ | refine Below.drew ?_ | refine Below.alloc ?_ (by first | (simp; done) | (simp; omega)) _ | refine Below.setCell ?_ (by first | (simp; done) | (simp; omega)) _)
  · have b1 : isI l h = false := by simpa using b1
    have H1 : Hid (∀ w, Calls Try.prog 35 #[.agg #[.float .f32 l, .float .f32 h]] w fun e w' => e = .returned (.bool false) ∧ Below w.heap.size w w') := Lib.hid (fun w => by rw [← b1]; exact specIsI_any l h w hl hh)
    have e0 : (.tuple #[.agg #[.float .f32 ((ngLw l h)), .float .f32 ((ngHw l h))], .int .i64 (cI (isI l h))] : Value) = .tuple #[.agg #[.float .f32 0, .float .f32 0], .int .i64 1] := by unfold ngLw ngHw cI; simp [b1]
    rw [e0]
    clear e0 hl hh b1
    obtain ⟨w1, hw1, hp0, hr_, hB_⟩ := ib_1r w l h 26 26
    have P0_1 := Lib.hid hp0
    have R_1 := Lib.hid hr_
    have hst := store_float Try.prog
    have B1 := Lib.hid hB_
    have Hw := Lib.hid hw1
    clear hw1 hp0 hr_ hB_
    obtain ⟨⟨c00, c01⟩, c02⟩ := P0_1.out
    obtain ⟨⟨r0, r1, r2, r3⟩, r4⟩ := R_1.out
    go_enter Try.func21, Try.ntmps21
    go_wp2_with fail
    rw [← Hw.out]
    refine (H1.out _).mono ?_
    rintro e w2 ⟨rfl, hb⟩
    have B2 := Lib.hid (belNext B1.out hb)
    have P0_2 := Lib.hid (P0_1.out.next hb)
    have R_2 := Lib.hid (R_1.out.next hb)
    clear hb c00 c01 c02 r0 r1 r2 r3 r4
    obtain ⟨⟨c00, c01⟩, c02⟩ := P0_2.out
    obtain ⟨⟨r0, r1, r2, r3⟩, r4⟩ := R_2.out
    go_wp2_with fail
    refine bodyPost_ret (v := .tuple #[.agg #[.float .f32 0, .float .f32 0], .int .i64 1]) (by simp [results, Try.results21, go_sem, r0, r1]) rfl ⟨rfl, ?_⟩
    repeat (first | exact B2.out | exact Below.refl _ _ | refine Below.drew ?_ | refine Below.alloc ?_ (by first | (simp; done) | (simp; omega)) _ | refine Below.setCell ?_ (by first | (simp; done) | (simp; omega)) _)
set_option maxHeartbeats 1000000 in
theorem combWidW_any (l h : Nat) (w : World) (hl : l < 4294967296) (hh : h < 4294967296) :
    Calls Try.prog 42 #[.func (.func 58) #[] #[], .agg #[.float .f32 l, .float .f32 h]] w fun e w' => e = .returned (.tuple #[.agg #[.float .f32 ((wiLw l h)), .float .f32 ((wiHw l h))], .int .i64 (cI (isI l h))]) ∧ Below w.heap.size w w' := by
  by_cases b1 : isI l h = true
  · obtain ⟨pl, ph, k1, k2, k3⟩ := isI_facts hl hh b1
    have H1 : Hid (∀ w, Calls Try.prog 15 #[.agg #[.float .f32 l, .float .f32 h]] w fun e w' => e = .returned (.bool true) ∧ Below w.heap.size w w') := Lib.hid (fun w => by rw [← b1]; exact implIsI_any l h w hl hh)
    have e0 : (.tuple #[.agg #[.float .f32 ((wiLw l h)), .float .f32 ((wiHw l h))], .int .i64 (cI (isI l h))] : Value) = .tuple #[.agg #[.float .f32 ((at32 (beside l (-1)))), .float .f32 ((at32 (beside h 1)))], .int .i64 0] := by unfold wiLw wiHw cI; simp [b1]
    rw [e0]
    have H3 : Hid (∀ w, _) := Lib.hid (fun w => implWid_any l h w pl ph)
    obtain ⟨RL, hRL⟩ : ∃ r, r = (at32 (beside l (-1))) := ⟨_, rfl⟩
    obtain ⟨RH, hRH⟩ : ∃ r, r = (at32 (beside h 1)) := ⟨_, rfl⟩
    rw [← hRL, ← hRH] at H3 ⊢
    clear e0 hl hh b1 pl ph k1 k2 k3 hRL hRH
    obtain ⟨w1, hw1, hp0, hr_, hB_⟩ := ib_1r w l h 26 26
    have P0_1 := Lib.hid hp0
    have R_1 := Lib.hid hr_
    have hst := store_float Try.prog
    have B1 := Lib.hid hB_
    have Hw := Lib.hid hw1
    clear hw1 hp0 hr_ hB_
    obtain ⟨⟨c00, c01⟩, c02⟩ := P0_1.out
    obtain ⟨⟨r0, r1, r2, r3⟩, r4⟩ := R_1.out
    go_enter Try.func42, Try.ntmps42
    go_wp2_with fail
    rw [← Hw.out]
    refine (H1.out _).mono ?_
    rintro e w2 ⟨rfl, hb⟩
    have B2 := Lib.hid (belNext B1.out hb)
    have P0_2 := Lib.hid (P0_1.out.next hb)
    have R_2 := Lib.hid (R_1.out.next hb)
    clear hb c00 c01 c02 r0 r1 r2 r3 r4
    obtain ⟨⟨c00, c01⟩, c02⟩ := P0_2.out
    obtain ⟨⟨r0, r1, r2, r3⟩, r4⟩ := R_2.out
    go_wp2_with fail
    refine (H3.out _).mono ?_
    rintro e w3 ⟨rfl, hb⟩
    have B3 := Lib.hid (belNext B2.out hb)
    have P0_3 := Lib.hid (P0_2.out.next hb)
    have R_3 := Lib.hid (R_2.out.next hb)
    clear hb c00 c01 c02 r0 r1 r2 r3 r4
    obtain ⟨⟨c00, c01⟩, c02⟩ := P0_3.out
    obtain ⟨⟨r0, r1, r2, r3⟩, r4⟩ := R_3.out
    go_wp2_with fail
    refine bodyPost_ret (v := .tuple #[.agg #[.float .f32 RL, .float .f32 RH], .int .i64 0]) (by simp [results, Try.results42, go_sem, r0, r1]) rfl ⟨rfl, ?_⟩
    repeat (first | exact B3.out | exact Below.refl _ _ | refine Below.drew ?_ | refine Below.alloc ?_ (by first | (simp; done) | (simp; omega)) _ | refine Below.setCell ?_ (by first | (simp; done) | (simp; omega)) _)
  · have b1 : isI l h = false := by simpa using b1
    have H1 : Hid (∀ w, Calls Try.prog 15 #[.agg #[.float .f32 l, .float .f32 h]] w fun e w' => e = .returned (.bool false) ∧ Below w.heap.size w w') := Lib.hid (fun w => by rw [← b1]; exact implIsI_any l h w hl hh)
    have e0 : (.tuple #[.agg #[.float .f32 ((wiLw l h)), .float .f32 ((wiHw l h))], .int .i64 (cI (isI l h))] : Value) = .tuple #[.agg #[.float .f32 0, .float .f32 0], .int .i64 1] := by unfold wiLw wiHw cI; simp [b1]
    rw [e0]
    clear e0 hl hh b1
    obtain ⟨w1, hw1, hp0, hr_, hB_⟩ := ib_1r w l h 26 26
    have P0_1 := Lib.hid hp0
    have R_1 := Lib.hid hr_
    have hst := store_float Try.prog
    have B1 := Lib.hid hB_
    have Hw := Lib.hid hw1
    clear hw1 hp0 hr_ hB_
    obtain ⟨⟨c00, c01⟩, c02⟩ := P0_1.out
    obtain ⟨⟨r0, r1, r2, r3⟩, r4⟩ := R_1.out
    go_enter Try.func42, Try.ntmps42
    go_wp2_with fail
    rw [← Hw.out]
    refine (H1.out _).mono ?_
    rintro e w2 ⟨rfl, hb⟩
    have B2 := Lib.hid (belNext B1.out hb)
    have P0_2 := Lib.hid (P0_1.out.next hb)
    have R_2 := Lib.hid (R_1.out.next hb)
    clear hb c00 c01 c02 r0 r1 r2 r3 r4
    obtain ⟨⟨c00, c01⟩, c02⟩ := P0_2.out
    obtain ⟨⟨r0, r1, r2, r3⟩, r4⟩ := R_2.out
    go_wp2_with fail
    refine bodyPost_ret (v := .tuple #[.agg #[.float .f32 0, .float .f32 0], .int .i64 1]) (by simp [results, Try.results42, go_sem, r0, r1]) rfl ⟨rfl, ?_⟩
    repeat (first | exact B2.out | exact Below.refl _ _ | refine Below.drew ?_ | refine Below.alloc ?_ (by first | (simp; done) | (simp; omega)) _ | refine Below.setCell ?_ (by first | (simp; done) | (simp; omega)) _)
set_option maxHeartbeats 1000000 in
theorem implWidW_any (l h : Nat) (w : World) (hl : l < 4294967296) (hh : h < 4294967296) :
    Calls Try.prog 34 #[.agg #[.float .f32 l, .float .f32 h]] w fun e w' => e = .returned (.tuple #[.agg #[.float .f32 ((wiLw l h)), .float .f32 ((wiHw l h))], .int .i64 (cI (isI l h))]) ∧ Below w.heap.size w w' := by
  have H1 : Hid (∀ w, _) := Lib.hid (fun w => combWidW_any l h w hl hh)
  obtain ⟨RL, hRL⟩ : ∃ r, r = wiLw l h := ⟨_, rfl⟩
  obtain ⟨RH, hRH⟩ : ∃ r, r = wiHw l h := ⟨_, rfl⟩
  obtain ⟨RE, hRE⟩ : ∃ r, r = cI (isI l h) := ⟨_, rfl⟩
  rw [← hRL, ← hRH, ← hRE] at H1 ⊢
  clear hl hh hRL hRH hRE
  obtain ⟨w1, hw1, hp0, hr_, hB_⟩ := ib_1r w l h 26 26
  have P0_1 := Lib.hid hp0
  have R_1 := Lib.hid hr_
  have hst := store_float Try.prog
  have B1 := Lib.hid hB_
  have Hw := Lib.hid hw1
  clear hw1 hp0 hr_ hB_
  obtain ⟨⟨c00, c01⟩, c02⟩ := P0_1.out
  obtain ⟨⟨r0, r1, r2, r3⟩, r4⟩ := R_1.out
  go_enter Try.func34, Try.ntmps34
  go_wp2_with fail
  rw [← Hw.out]
  refine (H1.out _).mono ?_
  rintro e w2 ⟨rfl, hb⟩
  have B2 := Lib.hid (belNext B1.out hb)
  have P0_2 := Lib.hid (P0_1.out.next hb)
  have R_2 := Lib.hid (R_1.out.next hb)
  clear hb c00 c01 c02 r0 r1 r2 r3 r4
  obtain ⟨⟨c00, c01⟩, c02⟩ := P0_2.out
  obtain ⟨⟨r0, r1, r2, r3⟩, r4⟩ := R_2.out
  go_wp2_with fail
  refine bodyPost_ret (v := .tuple #[.agg #[.float .f32 RL, .float .f32 RH], .int .i64 RE]) (by simp [results, Try.results34, go_sem, r0, r1]) rfl ⟨rfl, ?_⟩
  repeat (first | exact B2.out | exact Below.refl _ _ | refine Below.drew ?_ | refine Below.alloc ?_ (by first | (simp; done) | (simp; omega)) _ | refine Below.setCell ?_ (by first | (simp; done) | (simp; omega)) _)
set_option maxHeartbeats 1000000 in
theorem specWidW_any (l h : Nat) (w : World) (hl : l < 4294967296) (hh : h < 4294967296) :
    Calls Try.prog 33 #[.agg #[.float .f32 l, .float .f32 h]] w fun e w' => e = .returned (.tuple #[.agg #[.float .f32 ((wiLw l h)), .float .f32 ((wiHw l h))], .int .i64 (cI (isI l h))]) ∧ Below w.heap.size w w' := by
  by_cases b1 : isI l h = true
  · obtain ⟨pl, ph, k1, k2, k3⟩ := isI_facts hl hh b1
    have H1 : Hid (∀ w, Calls Try.prog 35 #[.agg #[.float .f32 l, .float .f32 h]] w fun e w' => e = .returned (.bool true) ∧ Below w.heap.size w w') := Lib.hid (fun w => by rw [← b1]; exact specIsI_any l h w hl hh)
    have e0 : (.tuple #[.agg #[.float .f32 ((wiLw l h)), .float .f32 ((wiHw l h))], .int .i64 (cI (isI l h))] : Value) = .tuple #[.agg #[.float .f32 ((at32 (beside l (-1)))), .float .f32 ((at32 (beside h 1)))], .int .i64 0] := by unfold wiLw wiHw cI; simp [b1]
    rw [e0]
    have A1 := at_pl (-1) pl
    have A2 := at_pl 1 ph
    have S1 : Hid (∀ w, _) := Lib.hid (fun w => step_any l (-1) w pl.1 pl.2.1 (by decide) (by decide))
    have S2 : Hid (∀ w, _) := Lib.hid (fun w => step_any h 1 w ph.1 ph.2.1 (by decide) (by decide))
    obtain ⟨RL, hRL⟩ : ∃ r, r = (at32 (beside l (-1))) := ⟨_, rfl⟩
    obtain ⟨RH, hRH⟩ : ∃ r, r = (at32 (beside h 1)) := ⟨_, rfl⟩
    rw [← hRL] at S1 A1
    rw [← hRH] at S2 A2
    rw [← hRL, ← hRH]
    have H3 : Hid (∀ w, Calls Try.prog 38 #[.float .f32 RL, .float .f32 RH] w fun e w' => e = .returned (.agg #[.float .f32 RL, .float .f32 RH]) ∧ Below w.heap.size w w') := Lib.hid (fun w => by
      have h := specMake_any RL RH w A1.1 A2.1
      rw [wz_id A1, wz_id A2] at h
      exact h)
    clear e0 hl hh b1 pl ph k1 k2 k3 hRL hRH A1 A2
    obtain ⟨w1, hw1, hp0, hr_, hB_⟩ := ib_1r w l h 26 26
    have P0_1 := Lib.hid hp0
    have R_1 := Lib.hid hr_
    have hst := store_float Try.prog
    have B1 := Lib.hid hB_
    have Hw := Lib.hid hw1
    clear hw1 hp0 hr_ hB_
    obtain ⟨⟨c00, c01⟩, c02⟩ := P0_1.out
    obtain ⟨⟨r0, r1, r2, r3⟩, r4⟩ := R_1.out
    go_enter Try.func33, Try.ntmps33
    go_wp2_with fail
    rw [← Hw.out]
    refine (H1.out _).mono ?_
    rintro e w2 ⟨rfl, hb⟩
    have B2 := Lib.hid (belNext B1.out hb)
    have P0_2 := Lib.hid (P0_1.out.next hb)
    have R_2 := Lib.hid (R_1.out.next hb)
    clear hb c00 c01 c02 r0 r1 r2 r3 r4
    obtain ⟨⟨c00, c01⟩, c02⟩ := P0_2.out
    obtain ⟨⟨r0, r1, r2, r3⟩, r4⟩ := R_2.out
    go_wp2_with fail
    refine wp_region_held_drew (S := fun w' => (w'.cell? ⟨w.heap.size, 0, none⟩ = some (.float .f32 l) ∧ w'.cell? ⟨w.heap.size, 1, none⟩ = some (.float .f32 h))) (by kernel_rfl) P0_2.out.1 (fun hHeld => ?_)
    clear c00 c01 c02 r0 r1 r2 r3 r4
    refine wpAnyH_take (i := 0) (v := ?_) rfl (by kernel_rfl) (by kernel_rfl) (by kernel_rfl) (fun _ _ _ h => h) (Or.inl ⟨by rfl, ?_⟩) (by assumption) ?_
    rotate_left
    · (intro w hSw; (try dsimp only at hSw); go_simp; (try with_reducible rfl))
    try simp only [Act.put, List.setIfInBounds_toArray, List.set_cons_zero, List.set_cons_succ, List.getElem_toArray, List.getElem_cons_succ, List.getElem_cons_zero]
    refine wpAnyH_take (i := 1) (v := ?_) rfl (by kernel_rfl) (by kernel_rfl) (by kernel_rfl) (fun _ _ _ h => h) (Or.inl ⟨by rfl, ?_⟩) (by assumption) ?_
    rotate_left
    · (intro w hSw; (try dsimp only at hSw); go_simp; (try with_reducible rfl))
    try simp only [Act.put, List.setIfInBounds_toArray, List.set_cons_zero, List.set_cons_succ, List.getElem_toArray, List.getElem_cons_succ, List.getElem_cons_zero]
    refine wpAnyH_take (i := 3) (v := ?_) rfl (by kernel_rfl) (by kernel_rfl) (by kernel_rfl) (fun _ _ _ h => h) (Or.inl ⟨by rfl, ?_⟩) (by assumption) ?_
    rotate_left
    · (intro w hSw; (try dsimp only at hSw); go_simp; (try with_reducible rfl))
    try simp only [Act.put, List.setIfInBounds_toArray, List.set_cons_zero, List.set_cons_succ, List.getElem_toArray, List.getElem_cons_succ, List.getElem_cons_zero]
    refine wpAnyH_take (i := 4) (v := ?_) rfl (by kernel_rfl) (by kernel_rfl) (by kernel_rfl) (fun _ _ _ h => h) (Or.inl ⟨by rfl, ?_⟩) (by assumption) ?_
    rotate_left
    · (intro w hSw; (try dsimp only at hSw); go_simp; (try with_reducible rfl))
    try simp only [Act.put, List.setIfInBounds_toArray, List.set_cons_zero, List.set_cons_succ, List.getElem_toArray, List.getElem_cons_succ, List.getElem_cons_zero]
    refine wpAnyH_ready (rs := [2]) (by kernel_rfl) (by simp) ?_
    refine AllReadyH.cons rfl (fun K hK => ?_) AllReadyH.nil
    go_simp
    refine (S1.out _).mono ?_
    rintro e w3 ⟨rfl, nd, hnd⟩
    have hb : Below w2.heap.size w2 w3 := by rw [hnd]; exact below_drewN (Below.refl _ _).drew nd
    refine hK.out _ _ (P0_2.out.next hb).1 (fun hHeld => ?_)
    clear hK K hnd
    have B3 := Lib.hid (belNext B2.out hb)
    have P0_3 := Lib.hid (P0_2.out.next hb)
    have R_3 := Lib.hid (R_2.out.next hb)
    clear hb
    try simp only [Act.put, List.setIfInBounds_toArray, List.set_cons_zero, List.set_cons_succ, List.getElem_toArray, List.getElem_cons_succ, List.getElem_cons_zero]
    refine wpAnyH_ready (rs := [5]) (by kernel_rfl) (by simp) ?_
    refine AllReadyH.cons rfl (fun K hK => ?_) AllReadyH.nil
    go_simp
    refine (S2.out _).mono ?_
    rintro e w4 ⟨rfl, nd, hnd⟩
    have hb : Below w3.heap.size w3 w4 := by rw [hnd]; exact below_drewN (Below.refl _ _) nd
    refine hK.out _ _ (P0_3.out.next hb).1 (fun hHeld => ?_)
    clear hK K hnd
    have B4 := Lib.hid (belNext B3.out hb)
    have P0_4 := Lib.hid (P0_3.out.next hb)
    have R_4 := Lib.hid (R_3.out.next hb)
    clear hb
    try simp only [Act.put, List.setIfInBounds_toArray, List.set_cons_zero, List.set_cons_succ, List.getElem_toArray, List.getElem_cons_succ, List.getElem_cons_zero]
    refine wpAnyH_ready (rs := [6]) (by kernel_rfl) (by simp) ?_
    refine AllReadyH.cons rfl (fun K hK => ?_) AllReadyH.nil
    go_simp
    refine (H3.out _).mono ?_
    rintro e w5 ⟨rfl, hb⟩
    refine hK.out _ _ (P0_4.out.next hb).1 (fun hHeld => ?_)
    clear hK K
    have B5 := Lib.hid (belNext B4.out hb)
    have P0_5 := Lib.hid (P0_4.out.next hb)
    have R_5 := Lib.hid (R_4.out.next hb)
    clear hb
    try simp only [Act.put, List.setIfInBounds_toArray, List.set_cons_zero, List.set_cons_succ, List.getElem_toArray, List.getElem_cons_succ, List.getElem_cons_zero]
    obtain ⟨⟨r0, r1, r2, r3⟩, r4⟩ := R_5.out
    refine wpAnyH_ready (rs := [7]) (by kernel_rfl) (by simp) ?_
    refine AllReadyH.cons rfl (fun K hK => ?_) AllReadyH.nil
    go_simp
    refine hK.out _ _ (((P0_5.out.keep (p := ⟨w.heap.size + 1, 0, none⟩) (by simp) _).keep (p := ⟨w.heap.size + 1, 1, none⟩) (by simp) _).1) (fun hHeld => ?_)
    clear hK K
    try simp only [Act.put, List.setIfInBounds_toArray, List.set_cons_zero, List.set_cons_succ, List.getElem_toArray, List.getElem_cons_succ, List.getElem_cons_zero]
    refine wpAnyH_ready (rs := [8]) (by kernel_rfl) (by simp) ?_
    refine AllReadyH.cons rfl (fun K hK => ?_) AllReadyH.nil
    go_simp
    refine hK.out _ _ hHeld (fun hHeld => ?_)
    clear hK K hHeld
    try simp only [Act.put, List.setIfInBounds_toArray, List.set_cons_zero, List.set_cons_succ, List.getElem_toArray, List.getElem_cons_succ, List.getElem_cons_zero]
    refine wpAnyH_done (by kernel_rfl) ?_ _
    go_wp2_with fail
    refine bodyPost_ret (v := .tuple #[.agg #[.float .f32 RL, .float .f32 RH], .int .i64 0]) (by simp [results, Try.results33, go_sem, r0, r1]) rfl ⟨rfl, ?_⟩
    repeat (first | exact B5.out | exact Below.refl _ _ | refine Below.drew ?_ | refine Below.alloc ?_ (by first | (simp; done) | (simp; omega)) _ | refine Below.setCell ?_ (by first | (simp; done) | (simp; omega)) _)
  · have b1 : isI l h = false := by simpa using b1
    have H1 : Hid (∀ w, Calls Try.prog 35 #[.agg #[.float .f32 l, .float .f32 h]] w fun e w' => e = .returned (.bool false) ∧ Below w.heap.size w w') := Lib.hid (fun w => by rw [← b1]; exact specIsI_any l h w hl hh)
    have e0 : (.tuple #[.agg #[.float .f32 ((wiLw l h)), .float .f32 ((wiHw l h))], .int .i64 (cI (isI l h))] : Value) = .tuple #[.agg #[.float .f32 0, .float .f32 0], .int .i64 1] := by unfold wiLw wiHw cI; simp [b1]
    rw [e0]
    clear e0 hl hh b1
    obtain ⟨w1, hw1, hp0, hr_, hB_⟩ := ib_1r w l h 26 26
    have P0_1 := Lib.hid hp0
    have R_1 := Lib.hid hr_
    have hst := store_float Try.prog
    have B1 := Lib.hid hB_
    have Hw := Lib.hid hw1
    clear hw1 hp0 hr_ hB_
    obtain ⟨⟨c00, c01⟩, c02⟩ := P0_1.out
    obtain ⟨⟨r0, r1, r2, r3⟩, r4⟩ := R_1.out
    go_enter Try.func33, Try.ntmps33
    go_wp2_with fail
    rw [← Hw.out]
    refine (H1.out _).mono ?_
    rintro e w2 ⟨rfl, hb⟩
    have B2 := Lib.hid (belNext B1.out hb)
    have P0_2 := Lib.hid (P0_1.out.next hb)
    have R_2 := Lib.hid (R_1.out.next hb)
    clear hb c00 c01 c02 r0 r1 r2 r3 r4
    obtain ⟨⟨c00, c01⟩, c02⟩ := P0_2.out
    obtain ⟨⟨r0, r1, r2, r3⟩, r4⟩ := R_2.out
    go_wp2_with fail
    refine bodyPost_ret (v := .tuple #[.agg #[.float .f32 0, .float .f32 0], .int .i64 1]) (by simp [results, Try.results33, go_sem, r0, r1]) rfl ⟨rfl, ?_⟩
    repeat (first | exact B2.out | exact Below.refl _ _ | refine Below.drew ?_ | refine Below.alloc ?_ (by first | (simp; done) | (simp; omega)) _ | refine Below.setCell ?_ (by first | (simp; done) | (simp; omega)) _)
set_option maxHeartbeats 1000000 in
theorem implHasW_any (l h x : Nat) (w : World) (hl : l < 4294967296) (hh : h < 4294967296) (hx : x < 4294967296) :
    Calls Try.prog 30 #[.agg #[.float .f32 l, .float .f32 h], .float .f32 x] w fun e w' => e = .returned (.tuple #[.bool (haB l h x), .int .i64 (haE l h x)]) ∧ Below w.heap.size w w' := by
  by_cases b1 : isI l h = true
  · obtain ⟨pl, ph, k1, k2, k3⟩ := isI_facts hl hh b1
    have H1 : Hid (∀ w, Calls Try.prog 15 #[.agg #[.float .f32 l, .float .f32 h]] w fun e w' => e = .returned (.bool true) ∧ Below w.heap.size w w') := Lib.hid (fun w => by rw [← b1]; exact implIsI_any l h w hl hh)
    by_cases b2 : fin32 x = true
    · have H2 : Hid (∀ w, Calls Try.prog 55 #[.float .f32 x] w fun e w' => e = .returned (.bool true) ∧ Below w.heap.size w w') := Lib.hid (fun w => by rw [← b2]; exact (implFinite_any x w hx).mono (by rintro e w9 ⟨rfl, rfl⟩; exact ⟨rfl, Below.refl _ _⟩))
      have H3 : Hid (∀ w, _) := Lib.hid (fun w => implHas_any l h x w pl ph hx (fin_nan b2))
      have e0 : (.tuple #[.bool (haB l h x), .int .i64 (haE l h x)] : Value) = .tuple #[.bool (decide (place32 l ≤ place32 x) && decide (place32 x ≤ place32 h)), .int .i64 0] := by unfold haB haE; simp [b1, b2]
      rw [e0]
      obtain ⟨y, hy⟩ : ∃ y, y = (decide (place32 l ≤ place32 x) && decide (place32 x ≤ place32 h)) := ⟨_, rfl⟩
      rw [← hy] at H3 ⊢
      clear e0 hy hl hh hx b1 b2 pl ph k1 k2 k3
      obtain ⟨w1, hw1, hp0, hB_⟩ := ib_1 w l h 26
      have P0_1 := Lib.hid hp0
      have hst := store_float Try.prog
      have B1 := Lib.hid hB_
      have Hw := Lib.hid hw1
      clear hw1 hp0 hB_
      obtain ⟨⟨c00, c01⟩, c02⟩ := P0_1.out
      go_enter Try.func30, Try.ntmps30
      go_wp2_with fail
      rw [← Hw.out]
      refine (H1.out _).mono ?_
      rintro e w2 ⟨rfl, hb⟩
      have B2 := Lib.hid (belNext B1.out hb)
      have P0_2 := Lib.hid (P0_1.out.next hb)
      clear hb c00 c01 c02
      obtain ⟨⟨c00, c01⟩, c02⟩ := P0_2.out
      go_wp2_with fail
      refine (H2.out _).mono ?_
      rintro e w3 ⟨rfl, hb⟩
      have B3 := Lib.hid (belNext B2.out hb)
      have P0_3 := Lib.hid (P0_2.out.next hb)
      clear hb c00 c01 c02
      obtain ⟨⟨c00, c01⟩, c02⟩ := P0_3.out
      go_wp2_with fail
      refine (H3.out _).mono ?_
      rintro e w4 ⟨rfl, hb⟩
      have B4 := Lib.hid (belNext B3.out hb)
      have P0_4 := Lib.hid (P0_3.out.next hb)
      clear hb c00 c01 c02
      obtain ⟨⟨c00, c01⟩, c02⟩ := P0_4.out
      go_wp2_with fail
      first | go_ret | go_ret2
      exact ⟨rfl, B4.out⟩
    · have b2 : fin32 x = false := by simpa using b2
      have H2 : Hid (∀ w, Calls Try.prog 55 #[.float .f32 x] w fun e w' => e = .returned (.bool false) ∧ Below w.heap.size w w') := Lib.hid (fun w => by rw [← b2]; exact (implFinite_any x w hx).mono (by rintro e w9 ⟨rfl, rfl⟩; exact ⟨rfl, Below.refl _ _⟩))
      have e0 : (.tuple #[.bool (haB l h x), .int .i64 (haE l h x)] : Value) = .tuple #[.bool false, .int .i64 2] := by unfold haB haE; simp [b1, b2]
      rw [e0]
      clear e0 hl hh hx b1 b2 pl ph k1 k2 k3
      obtain ⟨w1, hw1, hp0, hB_⟩ := ib_1 w l h 26
      have P0_1 := Lib.hid hp0
      have hst := store_float Try.prog
      have B1 := Lib.hid hB_
      have Hw := Lib.hid hw1
      clear hw1 hp0 hB_
      obtain ⟨⟨c00, c01⟩, c02⟩ := P0_1.out
      go_enter Try.func30, Try.ntmps30
      go_wp2_with fail
      rw [← Hw.out]
      refine (H1.out _).mono ?_
      rintro e w2 ⟨rfl, hb⟩
      have B2 := Lib.hid (belNext B1.out hb)
      have P0_2 := Lib.hid (P0_1.out.next hb)
      clear hb c00 c01 c02
      obtain ⟨⟨c00, c01⟩, c02⟩ := P0_2.out
      go_wp2_with fail
      refine (H2.out _).mono ?_
      rintro e w3 ⟨rfl, hb⟩
      have B3 := Lib.hid (belNext B2.out hb)
      have P0_3 := Lib.hid (P0_2.out.next hb)
      clear hb c00 c01 c02
      obtain ⟨⟨c00, c01⟩, c02⟩ := P0_3.out
      go_wp2_with fail
      first | go_ret | go_ret2
      exact ⟨rfl, B3.out⟩
  · have b1 : isI l h = false := by simpa using b1
    have H1 : Hid (∀ w, Calls Try.prog 15 #[.agg #[.float .f32 l, .float .f32 h]] w fun e w' => e = .returned (.bool false) ∧ Below w.heap.size w w') := Lib.hid (fun w => by rw [← b1]; exact implIsI_any l h w hl hh)
    have e0 : (.tuple #[.bool (haB l h x), .int .i64 (haE l h x)] : Value) = .tuple #[.bool false, .int .i64 1] := by unfold haB haE; simp [b1]
    rw [e0]
    clear e0 hl hh hx b1
    obtain ⟨w1, hw1, hp0, hB_⟩ := ib_1 w l h 26
    have P0_1 := Lib.hid hp0
    have hst := store_float Try.prog
    have B1 := Lib.hid hB_
    have Hw := Lib.hid hw1
    clear hw1 hp0 hB_
    obtain ⟨⟨c00, c01⟩, c02⟩ := P0_1.out
    go_enter Try.func30, Try.ntmps30
    go_wp2_with fail
    rw [← Hw.out]
    refine (H1.out _).mono ?_
    rintro e w2 ⟨rfl, hb⟩
    have B2 := Lib.hid (belNext B1.out hb)
    have P0_2 := Lib.hid (P0_1.out.next hb)
    clear hb c00 c01 c02
    obtain ⟨⟨c00, c01⟩, c02⟩ := P0_2.out
    go_wp2_with fail
    first | go_ret | go_ret2
    exact ⟨rfl, B2.out⟩
set_option maxHeartbeats 1000000 in
theorem specHasW_any (l h x : Nat) (w : World) (hl : l < 4294967296) (hh : h < 4294967296) (hx : x < 4294967296) :
    Calls Try.prog 29 #[.agg #[.float .f32 l, .float .f32 h], .float .f32 x] w fun e w' => e = .returned (.tuple #[.bool (haB l h x), .int .i64 (haE l h x)]) ∧ Below w.heap.size w w' := by
  by_cases b1 : isI l h = true
  · obtain ⟨pl, ph, k1, k2, k3⟩ := isI_facts hl hh b1
    have H1 : Hid (∀ w, Calls Try.prog 35 #[.agg #[.float .f32 l, .float .f32 h]] w fun e w' => e = .returned (.bool true) ∧ Below w.heap.size w w') := Lib.hid (fun w => by rw [← b1]; exact specIsI_any l h w hl hh)
    by_cases b2 : fin32 x = true
    · have H2 : Hid (∀ w, Calls Try.prog 53 #[.float .f32 x] w fun e w' => e = .returned (.bool true) ∧ Below w.heap.size w w') := Lib.hid (fun w => by rw [← b2]; exact finI_any x w hx)
      have H3 : Hid (∀ w, _) := Lib.hid (fun w => specHas_any l h x w pl ph hx (fin_nan b2))
      have e0 : (.tuple #[.bool (haB l h x), .int .i64 (haE l h x)] : Value) = .tuple #[.bool (decide (place32 l ≤ place32 x) && decide (place32 x ≤ place32 h)), .int .i64 0] := by unfold haB haE; simp [b1, b2]
      rw [e0]
      obtain ⟨y, hy⟩ : ∃ y, y = (decide (place32 l ≤ place32 x) && decide (place32 x ≤ place32 h)) := ⟨_, rfl⟩
      rw [← hy] at H3 ⊢
      clear e0 hy hl hh hx b1 b2 pl ph k1 k2 k3
      obtain ⟨w1, hw1, hp0, hB_⟩ := ib_1 w l h 26
      have P0_1 := Lib.hid hp0
      have hst := store_float Try.prog
      have B1 := Lib.hid hB_
      have Hw := Lib.hid hw1
      clear hw1 hp0 hB_
      obtain ⟨⟨c00, c01⟩, c02⟩ := P0_1.out
      go_enter Try.func29, Try.ntmps29
      go_wp2_with fail
      rw [← Hw.out]
      refine (H1.out _).mono ?_
      rintro e w2 ⟨rfl, hb⟩
      have B2 := Lib.hid (belNext B1.out hb)
      have P0_2 := Lib.hid (P0_1.out.next hb)
      clear hb c00 c01 c02
      obtain ⟨⟨c00, c01⟩, c02⟩ := P0_2.out
      go_wp2_with fail
      refine (H2.out _).mono ?_
      rintro e w3 ⟨rfl, hb⟩
      have B3 := Lib.hid (belNext B2.out hb)
      have P0_3 := Lib.hid (P0_2.out.next hb)
      clear hb c00 c01 c02
      obtain ⟨⟨c00, c01⟩, c02⟩ := P0_3.out
      go_wp2_with fail
      refine (H3.out _).mono ?_
      rintro e w4 ⟨rfl, hb⟩
      have B4 := Lib.hid (belNext B3.out hb)
      have P0_4 := Lib.hid (P0_3.out.next hb)
      clear hb c00 c01 c02
      obtain ⟨⟨c00, c01⟩, c02⟩ := P0_4.out
      go_wp2_with fail
      first | go_ret | go_ret2
      exact ⟨rfl, B4.out⟩
    · have b2 : fin32 x = false := by simpa using b2
      have H2 : Hid (∀ w, Calls Try.prog 53 #[.float .f32 x] w fun e w' => e = .returned (.bool false) ∧ Below w.heap.size w w') := Lib.hid (fun w => by rw [← b2]; exact finI_any x w hx)
      have e0 : (.tuple #[.bool (haB l h x), .int .i64 (haE l h x)] : Value) = .tuple #[.bool false, .int .i64 2] := by unfold haB haE; simp [b1, b2]
      rw [e0]
      clear e0 hl hh hx b1 b2 pl ph k1 k2 k3
      obtain ⟨w1, hw1, hp0, hB_⟩ := ib_1 w l h 26
      have P0_1 := Lib.hid hp0
      have hst := store_float Try.prog
      have B1 := Lib.hid hB_
      have Hw := Lib.hid hw1
      clear hw1 hp0 hB_
      obtain ⟨⟨c00, c01⟩, c02⟩ := P0_1.out
      go_enter Try.func29, Try.ntmps29
      go_wp2_with fail
      rw [← Hw.out]
      refine (H1.out _).mono ?_
      rintro e w2 ⟨rfl, hb⟩
      have B2 := Lib.hid (belNext B1.out hb)
      have P0_2 := Lib.hid (P0_1.out.next hb)
      clear hb c00 c01 c02
      obtain ⟨⟨c00, c01⟩, c02⟩ := P0_2.out
      go_wp2_with fail
      refine (H2.out _).mono ?_
      rintro e w3 ⟨rfl, hb⟩
      have B3 := Lib.hid (belNext B2.out hb)
      have P0_3 := Lib.hid (P0_2.out.next hb)
      clear hb c00 c01 c02
      obtain ⟨⟨c00, c01⟩, c02⟩ := P0_3.out
      go_wp2_with fail
      first | go_ret | go_ret2
      exact ⟨rfl, B3.out⟩
  · have b1 : isI l h = false := by simpa using b1
    have H1 : Hid (∀ w, Calls Try.prog 35 #[.agg #[.float .f32 l, .float .f32 h]] w fun e w' => e = .returned (.bool false) ∧ Below w.heap.size w w') := Lib.hid (fun w => by rw [← b1]; exact specIsI_any l h w hl hh)
    have e0 : (.tuple #[.bool (haB l h x), .int .i64 (haE l h x)] : Value) = .tuple #[.bool false, .int .i64 1] := by unfold haB haE; simp [b1]
    rw [e0]
    clear e0 hl hh hx b1
    obtain ⟨w1, hw1, hp0, hB_⟩ := ib_1 w l h 26
    have P0_1 := Lib.hid hp0
    have hst := store_float Try.prog
    have B1 := Lib.hid hB_
    have Hw := Lib.hid hw1
    clear hw1 hp0 hB_
    obtain ⟨⟨c00, c01⟩, c02⟩ := P0_1.out
    go_enter Try.func29, Try.ntmps29
    go_wp2_with fail
    rw [← Hw.out]
    refine (H1.out _).mono ?_
    rintro e w2 ⟨rfl, hb⟩
    have B2 := Lib.hid (belNext B1.out hb)
    have P0_2 := Lib.hid (P0_1.out.next hb)
    clear hb c00 c01 c02
    obtain ⟨⟨c00, c01⟩, c02⟩ := P0_2.out
    go_wp2_with fail
    first | go_ret | go_ret2
    exact ⟨rfl, B2.out⟩
set_option maxHeartbeats 1000000 in
theorem implIvOfW_any (x y : Nat) (w : World) (hx : x < 4294967296) (hy : y < 4294967296) :
    Calls Try.prog 17 #[.float .f32 x, .float .f32 y] w fun e w' => e = .returned (.tuple #[.agg #[.float .f32 ((ivL x y)), .float .f32 ((ivH x y))], .int .i64 (ivE x y)]) ∧ Below w.heap.size w w' := by
  have hl := wz_lt hx
  have hh := wz_lt hy
  have Z1 : Hid (∀ w, _) := Lib.hid (fun w => wz_any x w hx)
  have Z2 : Hid (∀ w, _) := Lib.hid (fun w => wz_any y w hy)
  have hd : ivL x y = (if isI (wz x) (wz y) = true then wz x else 0) ∧ ivH x y = (if isI (wz x) (wz y) = true then wz y else 0) ∧ ivE x y = (if isI (wz x) (wz y) = true then 0 else 2) := ⟨rfl, rfl, rfl⟩
  obtain ⟨d1, d2, d3⟩ := hd
  rw [d1, d2, d3]
  obtain ⟨l, hL⟩ : ∃ l, l = wz x := ⟨_, rfl⟩
  obtain ⟨u, hH⟩ : ∃ u, u = wz y := ⟨_, rfl⟩
  rw [← hL] at hl
  rw [← hH] at hh
  rw [← hL] at Z1
  rw [← hH] at Z2
  rw [← hL, ← hH]
  clear hL hH d1 d2 d3 hx hy
  have hst := store_float Try.prog
  by_cases b1 : isI l u = true
  · skip
    have H1 : Hid (∀ w, Calls Try.prog 15 #[.agg #[.float .f32 l, .float .f32 u]] w fun e w' => e = .returned (.bool true) ∧ Below w.heap.size w w') := Lib.hid (fun w => by rw [← b1]; exact implIsI_any l u w hl hh)
    rw [b1]
    clear b1 hl hh
    obtain ⟨w1, hw1, hr_, hB_⟩ := ib_0r w  26
    have R_1 := Lib.hid hr_
    have hst := store_float Try.prog
    have B1 := Lib.hid hB_
    have Hw := Lib.hid hw1
    clear hw1 hr_ hB_
    obtain ⟨⟨r0, r1, r2, r3⟩, r4⟩ := R_1.out
    go_enter Try.func17, Try.ntmps17
    go_wp2_with fail
    rw [← Hw.out]
    refine (Z1.out _).mono ?_
    rintro e w9 ⟨rfl, rfl⟩
    go_wp2_with fail
    refine (Z2.out _).mono ?_
    rintro e w9 ⟨rfl, rfl⟩
    go_upto_region 2 with fail
    obtain ⟨w2, hw⟩ : ∃ w2, w2 = w1.alloc (.cells #[.float .f32 l, .float .f32 u] 26) := ⟨_, rfl⟩
    rw [← hw]
    have hb : Below w1.heap.size w1 w2 := by rw [hw]; exact belAlloc1 _ _
    have P0_2 : Hid (IB w2 w1.heap.size l u) := Lib.hid (by rw [hw]; exact IB.new _ _ _ _)
    clear hw
    have B2 := Lib.hid (belNext B1.out hb)
    have R_2 := Lib.hid (R_1.out.next hb)
    clear hb r0 r1 r2 r3 r4
    obtain ⟨⟨c00, c01⟩, c02⟩ := P0_2.out
    obtain ⟨⟨r0, r1, r2, r3⟩, r4⟩ := R_2.out
    go_wp2_with fail
    refine (H1.out _).mono ?_
    rintro e w3 ⟨rfl, hb⟩
    have B3 := Lib.hid (belNext B2.out hb)
    have P0_3 := Lib.hid (P0_2.out.next hb)
    have R_3 := Lib.hid (R_2.out.next hb)
    clear hb c00 c01 c02 r0 r1 r2 r3 r4
    obtain ⟨⟨c00, c01⟩, c02⟩ := P0_3.out
    obtain ⟨⟨r0, r1, r2, r3⟩, r4⟩ := R_3.out
    go_wp2_with fail
    refine bodyPost_ret (v := .tuple #[.agg #[.float .f32 l, .float .f32 u], .int .i64 0]) (by simp [results, Try.results17, go_sem, r0, r1]) rfl ⟨rfl, ?_⟩
    repeat (first | exact B3.out | exact Below.refl _ _ | refine Below.drew ?_ | refine Below.alloc ?_ (by first | (simp; done) | (simp; omega)) _ | refine Below.setCell ?_ (by first | (simp; done) | (simp; omega)) _)
  · have b1 : isI l u = false := by simpa using b1
    have H1 : Hid (∀ w, Calls Try.prog 15 #[.agg #[.float .f32 l, .float .f32 u]] w fun e w' => e = .returned (.bool false) ∧ Below w.heap.size w w') := Lib.hid (fun w => by rw [← b1]; exact implIsI_any l u w hl hh)
    rw [b1]
    clear b1 hl hh
    obtain ⟨w1, hw1, hr_, hB_⟩ := ib_0r w  26
    have R_1 := Lib.hid hr_
    have hst := store_float Try.prog
    have B1 := Lib.hid hB_
    have Hw := Lib.hid hw1
    clear hw1 hr_ hB_
    obtain ⟨⟨r0, r1, r2, r3⟩, r4⟩ := R_1.out
    go_enter Try.func17, Try.ntmps17
    go_wp2_with fail
    rw [← Hw.out]
    refine (Z1.out _).mono ?_
    rintro e w9 ⟨rfl, rfl⟩
    go_wp2_with fail
    refine (Z2.out _).mono ?_
    rintro e w9 ⟨rfl, rfl⟩
    go_upto_region 2 with fail
    obtain ⟨w2, hw⟩ : ∃ w2, w2 = w1.alloc (.cells #[.float .f32 l, .float .f32 u] 26) := ⟨_, rfl⟩
    rw [← hw]
    have hb : Below w1.heap.size w1 w2 := by rw [hw]; exact belAlloc1 _ _
    have P0_2 : Hid (IB w2 w1.heap.size l u) := Lib.hid (by rw [hw]; exact IB.new _ _ _ _)
    clear hw
    have B2 := Lib.hid (belNext B1.out hb)
    have R_2 := Lib.hid (R_1.out.next hb)
    clear hb r0 r1 r2 r3 r4
    obtain ⟨⟨c00, c01⟩, c02⟩ := P0_2.out
    obtain ⟨⟨r0, r1, r2, r3⟩, r4⟩ := R_2.out
    go_wp2_with fail
    refine (H1.out _).mono ?_
    rintro e w3 ⟨rfl, hb⟩
    have B3 := Lib.hid (belNext B2.out hb)
    have P0_3 := Lib.hid (P0_2.out.next hb)
    have R_3 := Lib.hid (R_2.out.next hb)
    clear hb c00 c01 c02 r0 r1 r2 r3 r4
    obtain ⟨⟨c00, c01⟩, c02⟩ := P0_3.out
    obtain ⟨⟨r0, r1, r2, r3⟩, r4⟩ := R_3.out
    go_wp2_with fail
    refine bodyPost_ret (v := .tuple #[.agg #[.float .f32 0, .float .f32 0], .int .i64 2]) (by simp [results, Try.results17, go_sem, r0, r1]) rfl ⟨rfl, ?_⟩
    repeat (first | exact B3.out | exact Below.refl _ _ | refine Below.drew ?_ | refine Below.alloc ?_ (by first | (simp; done) | (simp; omega)) _ | refine Below.setCell ?_ (by first | (simp; done) | (simp; omega)) _)
set_option maxHeartbeats 1000000 in
theorem specIvOfW_any (x y : Nat) (w : World) (hx : x < 4294967296) (hy : y < 4294967296) :
    Calls Try.prog 16 #[.float .f32 x, .float .f32 y] w fun e w' => e = .returned (.tuple #[.agg #[.float .f32 ((ivL x y)), .float .f32 ((ivH x y))], .int .i64 (ivE x y)]) ∧ Below w.heap.size w w' := by
  have hl := wz_lt hx
  have hh := wz_lt hy
  have Z1 : Hid (∀ w, _) := Lib.hid (fun w => specMake_any x y w hx hy)
  have hd : ivL x y = (if isI (wz x) (wz y) = true then wz x else 0) ∧ ivH x y = (if isI (wz x) (wz y) = true then wz y else 0) ∧ ivE x y = (if isI (wz x) (wz y) = true then 0 else 2) := ⟨rfl, rfl, rfl⟩
  obtain ⟨d1, d2, d3⟩ := hd
  rw [d1, d2, d3]
  obtain ⟨l, hL⟩ : ∃ l, l = wz x := ⟨_, rfl⟩
  obtain ⟨u, hH⟩ : ∃ u, u = wz y := ⟨_, rfl⟩
  rw [← hL] at hl
  rw [← hH] at hh
  rw [← hL] at Z1
  rw [← hH] at Z1
  rw [← hL, ← hH]
  clear hL hH d1 d2 d3 hx hy
  have hst := store_float Try.prog
  by_cases b1 : isI l u = true
  · skip
    have H1 : Hid (∀ w, Calls Try.prog 35 #[.agg #[.float .f32 l, .float .f32 u]] w fun e w' => e = .returned (.bool true) ∧ Below w.heap.size w w') := Lib.hid (fun w => by rw [← b1]; exact specIsI_any l u w hl hh)
    rw [b1]
    clear b1 hl hh
    obtain ⟨w1, hw1, hr_, hB_⟩ := ib_0r w  26
    have R_1 := Lib.hid hr_
    have hst := store_float Try.prog
    have B1 := Lib.hid hB_
    have Hw := Lib.hid hw1
    clear hw1 hr_ hB_
    obtain ⟨⟨r0, r1, r2, r3⟩, r4⟩ := R_1.out
    go_enter Try.func16, Try.ntmps16
    go_wp2_with fail
    rw [← Hw.out]
    refine (Z1.out _).mono ?_
    rintro e w2 ⟨rfl, hb⟩
    have B2 := Lib.hid (belNext B1.out hb)
    have R_2 := Lib.hid (R_1.out.next hb)
    clear hb r0 r1 r2 r3 r4
    obtain ⟨⟨r0, r1, r2, r3⟩, r4⟩ := R_2.out
    go_upto_region 2 with fail
    obtain ⟨w3, hw⟩ : ∃ w3, w3 = w2.alloc (.cells #[.float .f32 l, .float .f32 u] 26) := ⟨_, rfl⟩
    rw [← hw]
    have hb : Below w2.heap.size w2 w3 := by rw [hw]; exact belAlloc1 _ _
    have P0_3 : Hid (IB w3 w2.heap.size l u) := Lib.hid (by rw [hw]; exact IB.new _ _ _ _)
    clear hw
    have B3 := Lib.hid (belNext B2.out hb)
    have R_3 := Lib.hid (R_2.out.next hb)
    clear hb r0 r1 r2 r3 r4
    obtain ⟨⟨c00, c01⟩, c02⟩ := P0_3.out
    obtain ⟨⟨r0, r1, r2, r3⟩, r4⟩ := R_3.out
    go_wp2_with fail
    refine (H1.out _).mono ?_
    rintro e w4 ⟨rfl, hb⟩
    have B4 := Lib.hid (belNext B3.out hb)
    have P0_4 := Lib.hid (P0_3.out.next hb)
    have R_4 := Lib.hid (R_3.out.next hb)
    clear hb c00 c01 c02 r0 r1 r2 r3 r4
    obtain ⟨⟨c00, c01⟩, c02⟩ := P0_4.out
    obtain ⟨⟨r0, r1, r2, r3⟩, r4⟩ := R_4.out
    go_wp2_with fail
    refine bodyPost_ret (v := .tuple #[.agg #[.float .f32 l, .float .f32 u], .int .i64 0]) (by simp [results, Try.results16, go_sem, r0, r1]) rfl ⟨rfl, ?_⟩
    repeat (first | exact B4.out | exact Below.refl _ _ | refine Below.drew ?_ | refine Below.alloc ?_ (by first | (simp; done) | (simp; omega)) _ | refine Below.setCell ?_ (by first | (simp; done) | (simp; omega)) _)
  · have b1 : isI l u = false := by simpa using b1
    have H1 : Hid (∀ w, Calls Try.prog 35 #[.agg #[.float .f32 l, .float .f32 u]] w fun e w' => e = .returned (.bool false) ∧ Below w.heap.size w w') := Lib.hid (fun w => by rw [← b1]; exact specIsI_any l u w hl hh)
    rw [b1]
    clear b1 hl hh
    obtain ⟨w1, hw1, hr_, hB_⟩ := ib_0r w  26
    have R_1 := Lib.hid hr_
    have hst := store_float Try.prog
    have B1 := Lib.hid hB_
    have Hw := Lib.hid hw1
    clear hw1 hr_ hB_
    obtain ⟨⟨r0, r1, r2, r3⟩, r4⟩ := R_1.out
    go_enter Try.func16, Try.ntmps16
    go_wp2_with fail
    rw [← Hw.out]
    refine (Z1.out _).mono ?_
    rintro e w2 ⟨rfl, hb⟩
    have B2 := Lib.hid (belNext B1.out hb)
    have R_2 := Lib.hid (R_1.out.next hb)
    clear hb r0 r1 r2 r3 r4
    obtain ⟨⟨r0, r1, r2, r3⟩, r4⟩ := R_2.out
    go_upto_region 2 with fail
    obtain ⟨w3, hw⟩ : ∃ w3, w3 = w2.alloc (.cells #[.float .f32 l, .float .f32 u] 26) := ⟨_, rfl⟩
    rw [← hw]
    have hb : Below w2.heap.size w2 w3 := by rw [hw]; exact belAlloc1 _ _
    have P0_3 : Hid (IB w3 w2.heap.size l u) := Lib.hid (by rw [hw]; exact IB.new _ _ _ _)
    clear hw
    have B3 := Lib.hid (belNext B2.out hb)
    have R_3 := Lib.hid (R_2.out.next hb)
    clear hb r0 r1 r2 r3 r4
    obtain ⟨⟨c00, c01⟩, c02⟩ := P0_3.out
    obtain ⟨⟨r0, r1, r2, r3⟩, r4⟩ := R_3.out
    go_wp2_with fail
    refine (H1.out _).mono ?_
    rintro e w4 ⟨rfl, hb⟩
    have B4 := Lib.hid (belNext B3.out hb)
    have P0_4 := Lib.hid (P0_3.out.next hb)
    have R_4 := Lib.hid (R_3.out.next hb)
    clear hb c00 c01 c02 r0 r1 r2 r3 r4
    obtain ⟨⟨c00, c01⟩, c02⟩ := P0_4.out
    obtain ⟨⟨r0, r1, r2, r3⟩, r4⟩ := R_4.out
    go_wp2_with fail
    refine bodyPost_ret (v := .tuple #[.agg #[.float .f32 0, .float .f32 0], .int .i64 2]) (by simp [results, Try.results16, go_sem, r0, r1]) rfl ⟨rfl, ?_⟩
    repeat (first | exact B4.out | exact Below.refl _ _ | refine Below.drew ?_ | refine Below.alloc ?_ (by first | (simp; done) | (simp; omega)) _ | refine Below.setCell ?_ (by first | (simp; done) | (simp; omega)) _)
set_option maxHeartbeats 1000000 in
theorem specIsIW_any (l h : Nat) (w : World) (hl : l < 4294967296) (hh : h < 4294967296) :
    Calls Try.prog 13 #[.agg #[.float .f32 l, .float .f32 h]] w fun e w' => e = .returned (.bool (isI l h)) ∧ Below w.heap.size w w' := by
  have H1 : Hid (∀ w, _) := Lib.hid (fun w => specIsI_any l h w hl hh)
  obtain ⟨b, hb⟩ : ∃ b, b = isI l h := ⟨_, rfl⟩
  rw [← hb] at H1 ⊢
  clear hl hh hb
  obtain ⟨w1, hw1, hp0, hB_⟩ := ib_1 w l h 26
  have P0_1 := Lib.hid hp0
  have hst := store_float Try.prog
  have B1 := Lib.hid hB_
  have Hw := Lib.hid hw1
  clear hw1 hp0 hB_
  obtain ⟨⟨c00, c01⟩, c02⟩ := P0_1.out
  go_enter Try.func13, Try.ntmps13
  go_wp2_with fail
  rw [← Hw.out]
  refine (H1.out _).mono ?_
  rintro e w2 ⟨rfl, hb⟩
  have B2 := Lib.hid (belNext B1.out hb)
  have P0_2 := Lib.hid (P0_1.out.next hb)
  clear hb c00 c01 c02
  obtain ⟨⟨c00, c01⟩, c02⟩ := P0_2.out
  go_wp2_with fail
  first | go_ret | go_ret2
  exact ⟨rfl, B2.out⟩
theorem ivw_ok {x y : Nat} (hx : x < 4294967296) (hy : y < 4294967296) : (ivL x y < 4294967296 ∧ nan32 (ivL x y) = false) ∧ (ivH x y < 4294967296 ∧ nan32 (ivH x y) = false) := by
  unfold ivL ivH
  by_cases h : isI (wz x) (wz y) = true
  · obtain ⟨p, q, _⟩ := isI_facts (wz_lt hx) (wz_lt hy) h
    rw [if_pos h, if_pos h]; exact ⟨pl_Ok p, pl_Ok q⟩
  · rw [if_neg h, if_neg h]; exact ⟨pl_Ok Pl.zero, pl_Ok Pl.zero⟩
theorem un_ok {l h : Nat} (a b : Nat) (f : isI l h = true → Pl a ∧ Pl b) : ((if isI l h = true then a else 0) < 4294967296 ∧ nan32 (if isI l h = true then a else 0) = false) ∧ ((if isI l h = true then b else 0) < 4294967296 ∧ nan32 (if isI l h = true then b else 0) = false) := by
  by_cases h : isI l h = true
  · rw [if_pos h, if_pos h]; exact ⟨pl_Ok (f h).1, pl_Ok (f h).2⟩
  · rw [if_neg h, if_neg h]; exact ⟨pl_Ok Pl.zero, pl_Ok Pl.zero⟩
theorem ab_ok {l h : Nat} (hl : l < 4294967296) (hh : h < 4294967296) : (abLw l h < 4294967296 ∧ nan32 (abLw l h) = false) ∧ (abHw l h < 4294967296 ∧ nan32 (abHw l h) = false) :=
  un_ok _ _ fun x => ab_pl (isI_facts hl hh x).1 (isI_facts hl hh x).2.1
theorem ngw_ok {l h : Nat} (hl : l < 4294967296) (hh : h < 4294967296) : (ngLw l h < 4294967296 ∧ nan32 (ngLw l h) = false) ∧ (ngHw l h < 4294967296 ∧ nan32 (ngHw l h) = false) :=
  un_ok _ _ fun x => ⟨opp_pl (isI_facts hl hh x).2.1, opp_pl (isI_facts hl hh x).1⟩
theorem wi_ok {l h : Nat} (hl : l < 4294967296) (hh : h < 4294967296) : (wiLw l h < 4294967296 ∧ nan32 (wiLw l h) = false) ∧ (wiHw l h < 4294967296 ∧ nan32 (wiHw l h) = false) :=
  un_ok _ _ fun x => ⟨at_pl _ (isI_facts hl hh x).1, at_pl _ (isI_facts hl hh x).2.1⟩
theorem bI_facts {l h l' h' : Nat} (hl : l < 4294967296) (hh : h < 4294967296) (hlq : l' < 4294967296) (hhq : h' < 4294967296) (b : bI l h l' h' = true) : Pl l ∧ Pl h ∧ Pl l' ∧ Pl h' := by
  unfold bI at b
  simp only [Bool.and_eq_true] at b
  exact ⟨(isI_facts hl hh b.1).1, (isI_facts hl hh b.1).2.1, (isI_facts hlq hhq b.2).1, (isI_facts hlq hhq b.2).2.1⟩
theorem hu_ok {l h l' h' : Nat} (hl : l < 4294967296) (hh : h < 4294967296) (hlq : l' < 4294967296) (hhq : h' < 4294967296) : (huL l h l' h' < 4294967296 ∧ nan32 (huL l h l' h') = false) ∧ (huH l h l' h' < 4294967296 ∧ nan32 (huH l h l' h') = false) := by
  unfold huL huH
  by_cases b : bI l h l' h' = true
  · obtain ⟨p1, p2, p3, p4⟩ := bI_facts hl hh hlq hhq b
    rw [if_pos b, if_pos b]; exact ⟨pl_Ok (mn_pl p1 p3), pl_Ok (mx_pl p2 p4)⟩
  · rw [if_neg b, if_neg b]; exact ⟨pl_Ok Pl.zero, pl_Ok Pl.zero⟩
theorem me_ok {l h l' h' : Nat} (hl : l < 4294967296) (hh : h < 4294967296) (hlq : l' < 4294967296) (hhq : h' < 4294967296) : (meL l h l' h' < 4294967296 ∧ nan32 (meL l h l' h') = false) ∧ (meH l h l' h' < 4294967296 ∧ nan32 (meH l h l' h') = false) := by
  unfold meL meH
  by_cases b : bI l h l' h' = true
  · obtain ⟨p1, p2, p3, p4⟩ := bI_facts hl hh hlq hhq b
    rw [if_pos b, if_pos b]
    by_cases m : meB l h l' h' = true
    · rw [if_pos m, if_pos m]; exact ⟨pl_Ok (mx_pl p1 p3), pl_Ok (mn_pl p2 p4)⟩
    · rw [if_neg m, if_neg m]; exact ⟨pl_Ok Pl.zero, pl_Ok Pl.zero⟩
  · rw [if_neg b, if_neg b]; exact ⟨pl_Ok Pl.zero, pl_Ok Pl.zero⟩
end Go.Proofs.Ytlhdlomabgoadaa
