/- Functions of intervals with a code, of the program and of the model: not rounded ones. -/
import Derived.Test.YtlhdlomabgoadaaIq
namespace Go.Proofs.Ytlhdlomabgoadaa
set_option maxRecDepth 100000
open Go.RowKit
set_option linter.unusedSimpArgs false
set_option linter.unusedVariables false

/-- both are intervals -/
def bI (l h l' h' : Nat) : Bool := isI l h && isI l' h'
def cI (b : Bool) : Int := if b = true then 0 else 1
def huL (l h l' h' : Nat) : Nat := if bI l h l' h' = true then mn l l' else 0
def huH (l h l' h' : Nat) : Nat := if bI l h l' h' = true then mx h h' else 0
def meB (l h l' h' : Nat) : Bool := decide (place32 (mx l l') ≤ place32 (mn h h'))
def meL (l h l' h' : Nat) : Nat := if bI l h l' h' = true then if meB l h l' h' = true then mx l l' else 0 else 0
def meH (l h l' h' : Nat) : Nat := if bI l h l' h' = true then if meB l h l' h' = true then mn h h' else 0 else 0
def meE (l h l' h' : Nat) : Int := if bI l h l' h' = true then if meB l h l' h' = true then 0 else 4 else 1
def ptB (l h l' h' : Nat) : Bool := bI l h l' h' && (decide (place32 l' ≤ place32 l) && decide (place32 h ≤ place32 h'))
def orI (l h l' h' : Nat) : Int := if bI l h l' h' = true then ordI l h l' h' else 0
def haB (l h x : Nat) : Bool := isI l h && fin32 x && (decide (place32 l ≤ place32 x) && decide (place32 x ≤ place32 h))
def haE (l h x : Nat) : Int := if isI l h = true then if fin32 x = true then 0 else 2 else 1
def abLw (l h : Nat) : Nat := if isI l h = true then abL l h else 0
def abHw (l h : Nat) : Nat := if isI l h = true then abH l h else 0
def ngLw (l h : Nat) : Nat := if isI l h = true then opp h else 0
def ngHw (l h : Nat) : Nat := if isI l h = true then opp l else 0
def wiLw (l h : Nat) : Nat := if isI l h = true then at32 (beside l (-1)) else 0
def wiHw (l h : Nat) : Nat := if isI l h = true then at32 (beside h 1) else 0
def ivL (x y : Nat) : Nat := if isI (wz x) (wz y) = true then wz x else 0
def ivH (x y : Nat) : Nat := if isI (wz x) (wz y) = true then wz y else 0
def ivE (x y : Nat) : Int := if isI (wz x) (wz y) = true then 0 else 2
theorem me_ord {l h l' h' : Nat} (x : place32 l ≤ place32 h) (y : place32 l' ≤ place32 h') : meB l h l' h' = decide (ordI l h l' h' = 0) := by
  unfold meB ordI
  rw [mx_place, mn_place, decide_eq_decide]
  split
  · omega
  · split <;> omega
theorem pl_Ok {b : Nat} (h : Pl b) : b < 4294967296 ∧ nan32 b = false := ⟨h.1, h.2.1⟩
set_option maxHeartbeats 1000000 in
theorem specIBoth_any (l h l' h' : Nat) (w : World) (hl : l < 4294967296) (hh : h < 4294967296) (hlq : l' < 4294967296) (hhq : h' < 4294967296) :
    Calls Try.prog 46 #[.agg #[.float .f32 l, .float .f32 h], .agg #[.float .f32 l', .float .f32 h']] w fun e w' => e = .returned (.int .i64 (cI (bI l h l' h'))) ∧ Below w.heap.size w w' := by
  have H1 : Hid (∀ w, _) := Lib.hid (fun w => specIsI_any l h w hl hh)
  have H2 : Hid (∀ w, _) := Lib.hid (fun w => specIsI_any l' h' w hlq hhq)
  have hr : bI l h l' h' = (isI l h && isI l' h') := rfl
  obtain ⟨b1, hb1⟩ : ∃ b, b = isI l h := ⟨_, rfl⟩
  obtain ⟨b2, hb2⟩ : ∃ b, b = isI l' h' := ⟨_, rfl⟩
  rw [← hb1] at H1 hr
  rw [← hb2] at H2 hr
  rw [hr]
  clear hl hh hlq hhq hr hb1 hb2
  obtain ⟨w1, hw1, hp0, hp1, hB_⟩ := ib_2 w l h l' h' 26
  have P0_1 := Lib.hid hp0
  have P1_1 := Lib.hid hp1
  have hst := store_float Try.prog
  have B1 := Lib.hid hB_
  have Hw := Lib.hid hw1
  clear hw1 hp0 hp1 hB_
  obtain ⟨⟨c00, c01⟩, c02⟩ := P0_1.out
  obtain ⟨⟨c10, c11⟩, c12⟩ := P1_1.out
  go_enter Try.func46, Try.ntmps46
  go_wp2_with fail
  rw [← Hw.out]
  refine (H1.out _).mono ?_
  rintro e w2 ⟨rfl, hb⟩
  have B2 := Lib.hid (belNext B1.out hb)
  have P0_2 := Lib.hid (P0_1.out.next hb)
  have P1_2 := Lib.hid (P1_1.out.next hb)
  clear hb c00 c01 c02 c10 c11 c12
  obtain ⟨⟨c00, c01⟩, c02⟩ := P0_2.out
  obtain ⟨⟨c10, c11⟩, c12⟩ := P1_2.out
  cases b1
  · go_wp2_with fail
    first | go_ret | go_ret2
    exact ⟨rfl, B2.out⟩
  · go_wp2_with fail
    refine (H2.out _).mono ?_
    rintro e w3 ⟨rfl, hb⟩
    have B3 := Lib.hid (belNext B2.out hb)
    have P0_3 := Lib.hid (P0_2.out.next hb)
    have P1_3 := Lib.hid (P1_2.out.next hb)
    clear hb c00 c01 c02 c10 c11 c12
    obtain ⟨⟨c00, c01⟩, c02⟩ := P0_3.out
    obtain ⟨⟨c10, c11⟩, c12⟩ := P1_3.out
    cases b2
    · go_wp2_with fail
      first | go_ret | go_ret2
      exact ⟨rfl, B3.out⟩
    · go_wp2_with fail
      first | go_ret | go_ret2
      exact ⟨rfl, B3.out⟩
set_option maxHeartbeats 1000000 in
theorem combHull_any (l h l' h' : Nat) (w : World) (hl : l < 4294967296) (hh : h < 4294967296) (hlq : l' < 4294967296) (hhq : h' < 4294967296) :
    Calls Try.prog 48 #[.func (.func 49) #[] #[], .agg #[.float .f32 l, .float .f32 h], .agg #[.float .f32 l', .float .f32 h']] w fun e w' => e = .returned (.tuple #[.agg #[.float .f32 ((huL l h l' h')), .float .f32 ((huH l h l' h'))], .int .i64 (cI (bI l h l' h'))]) ∧ Below w.heap.size w w' := by
  by_cases b1 : isI l h = true
  · by_cases b2 : isI l' h' = true
    · obtain ⟨pl, ph, k1, k2, k3⟩ := isI_facts hl hh b1
      obtain ⟨plq, phq, k4, k5, k6⟩ := isI_facts hlq hhq b2
      have H1 : Hid (∀ w, Calls Try.prog 15 #[.agg #[.float .f32 l, .float .f32 h]] w fun e w' => e = .returned (.bool true) ∧ Below w.heap.size w w') := Lib.hid (fun w => by rw [← b1]; exact implIsI_any l h w hl hh)
      have H2 : Hid (∀ w, Calls Try.prog 15 #[.agg #[.float .f32 l', .float .f32 h']] w fun e w' => e = .returned (.bool true) ∧ Below w.heap.size w w') := Lib.hid (fun w => by rw [← b2]; exact implIsI_any l' h' w hlq hhq)
      have e0 : (.tuple #[.agg #[.float .f32 ((huL l h l' h')), .float .f32 ((huH l h l' h'))], .int .i64 (cI (bI l h l' h'))] : Value) = .tuple #[.agg #[.float .f32 ((mn l l')), .float .f32 ((mx h h'))], .int .i64 0] := by unfold huL huH bI cI; simp [b1, b2]
      rw [e0]
      have H3 : Hid (∀ w, _) := Lib.hid (fun w => implHull_any l h l' h' w pl ph plq phq)
      clear e0
      clear hl hh hlq hhq b1 b2 pl ph plq phq k1 k2 k3 k4 k5 k6
      obtain ⟨w1, hw1, hp0, hp1, hr_, hB_⟩ := ib_2r w l h l' h' 26 26
      have P0_1 := Lib.hid hp0
      have P1_1 := Lib.hid hp1
      have R_1 := Lib.hid hr_
      have hst := store_float Try.prog
      have B1 := Lib.hid hB_
      have Hw := Lib.hid hw1
      clear hw1 hp0 hp1 hr_ hB_
      obtain ⟨⟨c00, c01⟩, c02⟩ := P0_1.out
      obtain ⟨⟨c10, c11⟩, c12⟩ := P1_1.out
      obtain ⟨⟨r0, r1, r2, r3⟩, r4⟩ := R_1.out
      go_enter Try.func48, Try.ntmps48
      go_wp2_with fail
      rw [← Hw.out]
      refine (H1.out _).mono ?_
      rintro e w2 ⟨rfl, hb⟩
      have B2 := Lib.hid (belNext B1.out hb)
      have P0_2 := Lib.hid (P0_1.out.next hb)
      have P1_2 := Lib.hid (P1_1.out.next hb)
      have R_2 := Lib.hid (R_1.out.next hb)
      clear hb c00 c01 c02 c10 c11 c12 r0 r1 r2 r3 r4
      obtain ⟨⟨c00, c01⟩, c02⟩ := P0_2.out
      obtain ⟨⟨c10, c11⟩, c12⟩ := P1_2.out
      obtain ⟨⟨r0, r1, r2, r3⟩, r4⟩ := R_2.out
      go_wp2_with fail
      refine (H2.out _).mono ?_
      rintro e w3 ⟨rfl, hb⟩
      have B3 := Lib.hid (belNext B2.out hb)
      have P0_3 := Lib.hid (P0_2.out.next hb)
      have P1_3 := Lib.hid (P1_2.out.next hb)
      have R_3 := Lib.hid (R_2.out.next hb)
      clear hb c00 c01 c02 c10 c11 c12 r0 r1 r2 r3 r4
      obtain ⟨⟨c00, c01⟩, c02⟩ := P0_3.out
      obtain ⟨⟨c10, c11⟩, c12⟩ := P1_3.out
      obtain ⟨⟨r0, r1, r2, r3⟩, r4⟩ := R_3.out
      go_wp2_with fail
      refine (H3.out _).mono ?_
      rintro e w4 ⟨rfl, hb⟩
      have B4 := Lib.hid (belNext B3.out hb)
      have P0_4 := Lib.hid (P0_3.out.next hb)
      have P1_4 := Lib.hid (P1_3.out.next hb)
      have R_4 := Lib.hid (R_3.out.next hb)
      clear hb c00 c01 c02 c10 c11 c12 r0 r1 r2 r3 r4
      obtain ⟨⟨c00, c01⟩, c02⟩ := P0_4.out
      obtain ⟨⟨c10, c11⟩, c12⟩ := P1_4.out
      obtain ⟨⟨r0, r1, r2, r3⟩, r4⟩ := R_4.out
      go_wp2_with fail
      refine bodyPost_ret (v := .tuple #[.agg #[.float .f32 ((mn l l')), .float .f32 ((mx h h'))], .int .i64 0]) (by simp [results, Try.results48, go_sem, r0, r1]) rfl ⟨rfl, ?_⟩
      repeat (first | exact B4.out | exact Below.refl _ _ | refine Below.drew ?_ | refine Below.alloc ?_ (by first | (simp; done) | (simp; omega)) _ | refine Below.setCell ?_ (by first | (simp; done) | (simp; omega)) _)
    · have b2 : isI l' h' = false := by simpa using b2
      have e0 : (.tuple #[.agg #[.float .f32 ((huL l h l' h')), .float .f32 ((huH l h l' h'))], .int .i64 (cI (bI l h l' h'))] : Value) = .tuple #[.agg #[.float .f32 0, .float .f32 0], .int .i64 1] := by unfold huL huH bI cI; simp [b1, b2]
      rw [e0]
      clear e0
      have H1 : Hid (∀ w, Calls Try.prog 15 #[.agg #[.float .f32 l, .float .f32 h]] w fun e w' => e = .returned (.bool true) ∧ Below w.heap.size w w') := Lib.hid (fun w => by rw [← b1]; exact implIsI_any l h w hl hh)
      have H2 : Hid (∀ w, Calls Try.prog 15 #[.agg #[.float .f32 l', .float .f32 h']] w fun e w' => e = .returned (.bool false) ∧ Below w.heap.size w w') := Lib.hid (fun w => by rw [← b2]; exact implIsI_any l' h' w hlq hhq)
      clear hl hh hlq hhq b1 b2
      obtain ⟨w1, hw1, hp0, hp1, hr_, hB_⟩ := ib_2r w l h l' h' 26 26
      have P0_1 := Lib.hid hp0
      have P1_1 := Lib.hid hp1
      have R_1 := Lib.hid hr_
      have hst := store_float Try.prog
      have B1 := Lib.hid hB_
      have Hw := Lib.hid hw1
      clear hw1 hp0 hp1 hr_ hB_
      obtain ⟨⟨c00, c01⟩, c02⟩ := P0_1.out
      obtain ⟨⟨c10, c11⟩, c12⟩ := P1_1.out
      obtain ⟨⟨r0, r1, r2, r3⟩, r4⟩ := R_1.out
      go_enter Try.func48, Try.ntmps48
      go_wp2_with fail
      rw [← Hw.out]
      refine (H1.out _).mono ?_
      rintro e w2 ⟨rfl, hb⟩
      have B2 := Lib.hid (belNext B1.out hb)
      have P0_2 := Lib.hid (P0_1.out.next hb)
      have P1_2 := Lib.hid (P1_1.out.next hb)
      have R_2 := Lib.hid (R_1.out.next hb)
      clear hb c00 c01 c02 c10 c11 c12 r0 r1 r2 r3 r4
      obtain ⟨⟨c00, c01⟩, c02⟩ := P0_2.out
      obtain ⟨⟨c10, c11⟩, c12⟩ := P1_2.out
      obtain ⟨⟨r0, r1, r2, r3⟩, r4⟩ := R_2.out
      go_wp2_with fail
      refine (H2.out _).mono ?_
      rintro e w3 ⟨rfl, hb⟩
      have B3 := Lib.hid (belNext B2.out hb)
      have P0_3 := Lib.hid (P0_2.out.next hb)
      have P1_3 := Lib.hid (P1_2.out.next hb)
      have R_3 := Lib.hid (R_2.out.next hb)
      clear hb c00 c01 c02 c10 c11 c12 r0 r1 r2 r3 r4
      obtain ⟨⟨c00, c01⟩, c02⟩ := P0_3.out
      obtain ⟨⟨c10, c11⟩, c12⟩ := P1_3.out
      obtain ⟨⟨r0, r1, r2, r3⟩, r4⟩ := R_3.out
      go_wp2_with fail
      refine bodyPost_ret (v := .tuple #[.agg #[.float .f32 0, .float .f32 0], .int .i64 1]) (by simp [results, Try.results48, go_sem, r0, r1]) rfl ⟨rfl, ?_⟩
      repeat (first | exact B3.out | exact Below.refl _ _ | refine Below.drew ?_ | refine Below.alloc ?_ (by first | (simp; done) | (simp; omega)) _ | refine Below.setCell ?_ (by first | (simp; done) | (simp; omega)) _)
  · have b1 : isI l h = false := by simpa using b1
    have e0 : (.tuple #[.agg #[.float .f32 ((huL l h l' h')), .float .f32 ((huH l h l' h'))], .int .i64 (cI (bI l h l' h'))] : Value) = .tuple #[.agg #[.float .f32 0, .float .f32 0], .int .i64 1] := by unfold huL huH bI cI; simp [b1]
    rw [e0]
    clear e0
    have H1 : Hid (∀ w, Calls Try.prog 15 #[.agg #[.float .f32 l, .float .f32 h]] w fun e w' => e = .returned (.bool false) ∧ Below w.heap.size w w') := Lib.hid (fun w => by rw [← b1]; exact implIsI_any l h w hl hh)
    clear hl hh hlq hhq b1
    obtain ⟨w1, hw1, hp0, hp1, hr_, hB_⟩ := ib_2r w l h l' h' 26 26
    have P0_1 := Lib.hid hp0
    have P1_1 := Lib.hid hp1
    have R_1 := Lib.hid hr_
    have hst := store_float Try.prog
    have B1 := Lib.hid hB_
    have Hw := Lib.hid hw1
    clear hw1 hp0 hp1 hr_ hB_
    obtain ⟨⟨c00, c01⟩, c02⟩ := P0_1.out
    obtain ⟨⟨c10, c11⟩, c12⟩ := P1_1.out
    obtain ⟨⟨r0, r1, r2, r3⟩, r4⟩ := R_1.out
    go_enter Try.func48, Try.ntmps48
    go_wp2_with fail
    rw [← Hw.out]
    refine (H1.out _).mono ?_
    rintro e w2 ⟨rfl, hb⟩
    have B2 := Lib.hid (belNext B1.out hb)
    have P0_2 := Lib.hid (P0_1.out.next hb)
    have P1_2 := Lib.hid (P1_1.out.next hb)
    have R_2 := Lib.hid (R_1.out.next hb)
    clear hb c00 c01 c02 c10 c11 c12 r0 r1 r2 r3 r4
    obtain ⟨⟨c00, c01⟩, c02⟩ := P0_2.out
    obtain ⟨⟨c10, c11⟩, c12⟩ := P1_2.out
    obtain ⟨⟨r0, r1, r2, r3⟩, r4⟩ := R_2.out
    go_wp2_with fail
    refine bodyPost_ret (v := .tuple #[.agg #[.float .f32 0, .float .f32 0], .int .i64 1]) (by simp [results, Try.results48, go_sem, r0, r1]) rfl ⟨rfl, ?_⟩
    repeat (first | exact B2.out | exact Below.refl _ _ | refine Below.drew ?_ | refine Below.alloc ?_ (by first | (simp; done) | (simp; omega)) _ | refine Below.setCell ?_ (by first | (simp; done) | (simp; omega)) _)
set_option maxHeartbeats 1000000 in
theorem implHullW_any (l h l' h' : Nat) (w : World) (hl : l < 4294967296) (hh : h < 4294967296) (hlq : l' < 4294967296) (hhq : h' < 4294967296) :
    Calls Try.prog 24 #[.agg #[.float .f32 l, .float .f32 h], .agg #[.float .f32 l', .float .f32 h']] w fun e w' => e = .returned (.tuple #[.agg #[.float .f32 ((huL l h l' h')), .float .f32 ((huH l h l' h'))], .int .i64 (cI (bI l h l' h'))]) ∧ Below w.heap.size w w' := by
  have H1 : Hid (∀ w, _) := Lib.hid (fun w => combHull_any l h l' h' w hl hh hlq hhq)
  obtain ⟨RL, hRL⟩ : ∃ r, r = huL l h l' h' := ⟨_, rfl⟩
  obtain ⟨RH, hRH⟩ : ∃ r, r = huH l h l' h' := ⟨_, rfl⟩
  obtain ⟨RE, hRE⟩ : ∃ r, r = cI (bI l h l' h') := ⟨_, rfl⟩
  rw [← hRL, ← hRH, ← hRE] at H1 ⊢
  clear hl hh hlq hhq hRL hRH hRE
  obtain ⟨w1, hw1, hp0, hp1, hr_, hB_⟩ := ib_2r w l h l' h' 26 26
  have P0_1 := Lib.hid hp0
  have P1_1 := Lib.hid hp1
  have R_1 := Lib.hid hr_
  have hst := store_float Try.prog
  have B1 := Lib.hid hB_
  have Hw := Lib.hid hw1
  clear hw1 hp0 hp1 hr_ hB_
  obtain ⟨⟨c00, c01⟩, c02⟩ := P0_1.out
  obtain ⟨⟨c10, c11⟩, c12⟩ := P1_1.out
  obtain ⟨⟨r0, r1, r2, r3⟩, r4⟩ := R_1.out
  go_enter Try.func24, Try.ntmps24
  go_wp2_with fail
  rw [← Hw.out]
  refine (H1.out _).mono ?_
  rintro e w2 ⟨rfl, hb⟩
  have B2 := Lib.hid (belNext B1.out hb)
  have P0_2 := Lib.hid (P0_1.out.next hb)
  have P1_2 := Lib.hid (P1_1.out.next hb)
  have R_2 := Lib.hid (R_1.out.next hb)
  clear hb c00 c01 c02 c10 c11 c12 r0 r1 r2 r3 r4
  obtain ⟨⟨c00, c01⟩, c02⟩ := P0_2.out
  obtain ⟨⟨c10, c11⟩, c12⟩ := P1_2.out
  obtain ⟨⟨r0, r1, r2, r3⟩, r4⟩ := R_2.out
  go_wp2_with fail
  refine bodyPost_ret (v := .tuple #[.agg #[.float .f32 RL, .float .f32 RH], .int .i64 RE]) (by simp [results, Try.results24, go_sem, r0, r1]) rfl ⟨rfl, ?_⟩
  repeat (first | exact B2.out | exact Below.refl _ _ | refine Below.drew ?_ | refine Below.alloc ?_ (by first | (simp; done) | (simp; omega)) _ | refine Below.setCell ?_ (by first | (simp; done) | (simp; omega)) _)
set_option maxHeartbeats 1000000 in
theorem specHullW_any (l h l' h' : Nat) (w : World) (hl : l < 4294967296) (hh : h < 4294967296) (hlq : l' < 4294967296) (hhq : h' < 4294967296) :
    Calls Try.prog 23 #[.agg #[.float .f32 l, .float .f32 h], .agg #[.float .f32 l', .float .f32 h']] w fun e w' => e = .returned (.tuple #[.agg #[.float .f32 ((huL l h l' h')), .float .f32 ((huH l h l' h'))], .int .i64 (cI (bI l h l' h'))]) ∧ Below w.heap.size w w' := by
  by_cases b : bI l h l' h' = true
  · have HB : Hid (∀ w, Calls Try.prog 46 #[.agg #[.float .f32 l, .float .f32 h], .agg #[.float .f32 l', .float .f32 h']] w fun e w' => e = .returned (.int .i64 0) ∧ Below w.heap.size w w') := Lib.hid (fun w => by have h := specIBoth_any l h l' h' w hl hh hlq hhq; rw [b] at h; exact h)
    have bb := b
    unfold bI at bb
    simp only [Bool.and_eq_true] at bb
    obtain ⟨pl, ph, k1, k2, k3⟩ := isI_facts hl hh bb.1
    obtain ⟨plq, phq, k4, k5, k6⟩ := isI_facts hlq hhq bb.2
    have e0 : (.tuple #[.agg #[.float .f32 ((huL l h l' h')), .float .f32 ((huH l h l' h'))], .int .i64 (cI (bI l h l' h'))] : Value) = .tuple #[.agg #[.float .f32 ((mn l l')), .float .f32 ((mx h h'))], .int .i64 0] := by unfold huL huH cI; simp [b]
    rw [e0]
    have H3 : Hid (∀ w, _) := Lib.hid (fun w => specHull_any l h l' h' w pl ph plq phq)
    clear e0
    clear hl hh hlq hhq b bb pl ph plq phq k1 k2 k3 k4 k5 k6
    obtain ⟨w1, hw1, hp0, hp1, hr_, hB_⟩ := ib_2r w l h l' h' 26 26
    have P0_1 := Lib.hid hp0
    have P1_1 := Lib.hid hp1
    have R_1 := Lib.hid hr_
    have hst := store_float Try.prog
    have B1 := Lib.hid hB_
    have Hw := Lib.hid hw1
    clear hw1 hp0 hp1 hr_ hB_
    obtain ⟨⟨c00, c01⟩, c02⟩ := P0_1.out
    obtain ⟨⟨c10, c11⟩, c12⟩ := P1_1.out
    obtain ⟨⟨r0, r1, r2, r3⟩, r4⟩ := R_1.out
    go_enter Try.func23, Try.ntmps23
    go_wp2_with fail
    rw [← Hw.out]
    refine (HB.out _).mono ?_
    rintro e w2 ⟨rfl, hb⟩
    have B2 := Lib.hid (belNext B1.out hb)
    have P0_2 := Lib.hid (P0_1.out.next hb)
    have P1_2 := Lib.hid (P1_1.out.next hb)
    have R_2 := Lib.hid (R_1.out.next hb)
    clear hb c00 c01 c02 c10 c11 c12 r0 r1 r2 r3 r4
    obtain ⟨⟨c00, c01⟩, c02⟩ := P0_2.out
    obtain ⟨⟨c10, c11⟩, c12⟩ := P1_2.out
    obtain ⟨⟨r0, r1, r2, r3⟩, r4⟩ := R_2.out
    go_wp2_with fail
    refine (H3.out _).mono ?_
    rintro e w3 ⟨rfl, hb⟩
    have B3 := Lib.hid (belNext B2.out hb)
    have P0_3 := Lib.hid (P0_2.out.next hb)
    have P1_3 := Lib.hid (P1_2.out.next hb)
    have R_3 := Lib.hid (R_2.out.next hb)
    clear hb c00 c01 c02 c10 c11 c12 r0 r1 r2 r3 r4
    obtain ⟨⟨c00, c01⟩, c02⟩ := P0_3.out
    obtain ⟨⟨c10, c11⟩, c12⟩ := P1_3.out
    obtain ⟨⟨r0, r1, r2, r3⟩, r4⟩ := R_3.out
    go_wp2_with fail
    refine bodyPost_ret (v := .tuple #[.agg #[.float .f32 ((mn l l')), .float .f32 ((mx h h'))], .int .i64 0]) (by simp [results, Try.results23, go_sem, r0, r1]) rfl ⟨rfl, ?_⟩
    repeat (first | exact B3.out | exact Below.refl _ _ | refine Below.drew ?_ | refine Below.alloc ?_ (by first | (simp; done) | (simp; omega)) _ | refine Below.setCell ?_ (by first | (simp; done) | (simp; omega)) _)
  · have b : bI l h l' h' = false := by simpa using b
    have HB : Hid (∀ w, Calls Try.prog 46 #[.agg #[.float .f32 l, .float .f32 h], .agg #[.float .f32 l', .float .f32 h']] w fun e w' => e = .returned (.int .i64 1) ∧ Below w.heap.size w w') := Lib.hid (fun w => by have h := specIBoth_any l h l' h' w hl hh hlq hhq; rw [b] at h; exact h)
    have e0 : (.tuple #[.agg #[.float .f32 ((huL l h l' h')), .float .f32 ((huH l h l' h'))], .int .i64 (cI (bI l h l' h'))] : Value) = .tuple #[.agg #[.float .f32 0, .float .f32 0], .int .i64 1] := by unfold huL huH cI; simp [b]
    rw [e0]
    clear e0 hl hh hlq hhq b
    obtain ⟨w1, hw1, hp0, hp1, hr_, hB_⟩ := ib_2r w l h l' h' 26 26
    have P0_1 := Lib.hid hp0
    have P1_1 := Lib.hid hp1
    have R_1 := Lib.hid hr_
    have hst := store_float Try.prog
    have B1 := Lib.hid hB_
    have Hw := Lib.hid hw1
    clear hw1 hp0 hp1 hr_ hB_
    obtain ⟨⟨c00, c01⟩, c02⟩ := P0_1.out
    obtain ⟨⟨c10, c11⟩, c12⟩ := P1_1.out
    obtain ⟨⟨r0, r1, r2, r3⟩, r4⟩ := R_1.out
    go_enter Try.func23, Try.ntmps23
    go_wp2_with fail
    rw [← Hw.out]
    refine (HB.out _).mono ?_
    rintro e w2 ⟨rfl, hb⟩
    have B2 := Lib.hid (belNext B1.out hb)
    have P0_2 := Lib.hid (P0_1.out.next hb)
    have P1_2 := Lib.hid (P1_1.out.next hb)
    have R_2 := Lib.hid (R_1.out.next hb)
    clear hb c00 c01 c02 c10 c11 c12 r0 r1 r2 r3 r4
    obtain ⟨⟨c00, c01⟩, c02⟩ := P0_2.out
    obtain ⟨⟨c10, c11⟩, c12⟩ := P1_2.out
    obtain ⟨⟨r0, r1, r2, r3⟩, r4⟩ := R_2.out
    go_wp2_with fail
    refine bodyPost_ret (v := .tuple #[.agg #[.float .f32 0, .float .f32 0], .int .i64 1]) (by simp [results, Try.results23, go_sem, r0, r1]) rfl ⟨rfl, ?_⟩
    repeat (first | exact B2.out | exact Below.refl _ _ | refine Below.drew ?_ | refine Below.alloc ?_ (by first | (simp; done) | (simp; omega)) _ | refine Below.setCell ?_ (by first | (simp; done) | (simp; omega)) _)
set_option maxHeartbeats 1000000 in
theorem specPartW_any (l h l' h' : Nat) (w : World) (hl : l < 4294967296) (hh : h < 4294967296) (hlq : l' < 4294967296) (hhq : h' < 4294967296) :
    Calls Try.prog 27 #[.agg #[.float .f32 l, .float .f32 h], .agg #[.float .f32 l', .float .f32 h']] w fun e w' => e = .returned (.tuple #[.bool (ptB l h l' h'), .int .i64 (cI (bI l h l' h'))]) ∧ Below w.heap.size w w' := by
  by_cases b : bI l h l' h' = true
  · have HB : Hid (∀ w, Calls Try.prog 46 #[.agg #[.float .f32 l, .float .f32 h], .agg #[.float .f32 l', .float .f32 h']] w fun e w' => e = .returned (.int .i64 0) ∧ Below w.heap.size w w') := Lib.hid (fun w => by have h := specIBoth_any l h l' h' w hl hh hlq hhq; rw [b] at h; exact h)
    have bb := b
    unfold bI at bb
    simp only [Bool.and_eq_true] at bb
    obtain ⟨pl, ph, k1, k2, k3⟩ := isI_facts hl hh bb.1
    obtain ⟨plq, phq, k4, k5, k6⟩ := isI_facts hlq hhq bb.2
    have e0 : (.tuple #[.bool (ptB l h l' h'), .int .i64 (cI (bI l h l' h'))] : Value) = .tuple #[.bool (decide (place32 l' ≤ place32 l) && decide (place32 h ≤ place32 h')), .int .i64 0] := by unfold ptB cI; simp [b]
    rw [e0]
    have H3 : Hid (∀ w, _) := Lib.hid (fun w => specPart_any l h l' h' w pl ph plq phq)
    obtain ⟨y, hy⟩ : ∃ y, y = (decide (place32 l' ≤ place32 l) && decide (place32 h ≤ place32 h')) := ⟨_, rfl⟩
    rw [← hy] at H3 ⊢
    clear e0 hy
    clear hl hh hlq hhq b bb pl ph plq phq k1 k2 k3 k4 k5 k6
    obtain ⟨w1, hw1, hp0, hp1, hB_⟩ := ib_2 w l h l' h' 26
    have P0_1 := Lib.hid hp0
    have P1_1 := Lib.hid hp1
    have hst := store_float Try.prog
    have B1 := Lib.hid hB_
    have Hw := Lib.hid hw1
    clear hw1 hp0 hp1 hB_
    obtain ⟨⟨c00, c01⟩, c02⟩ := P0_1.out
    obtain ⟨⟨c10, c11⟩, c12⟩ := P1_1.out
    go_enter Try.func27, Try.ntmps27
    go_wp2_with fail
    rw [← Hw.out]
    refine (HB.out _).mono ?_
    rintro e w2 ⟨rfl, hb⟩
    have B2 := Lib.hid (belNext B1.out hb)
    have P0_2 := Lib.hid (P0_1.out.next hb)
    have P1_2 := Lib.hid (P1_1.out.next hb)
    clear hb c00 c01 c02 c10 c11 c12
    obtain ⟨⟨c00, c01⟩, c02⟩ := P0_2.out
    obtain ⟨⟨c10, c11⟩, c12⟩ := P1_2.out
    go_wp2_with fail
    refine (H3.out _).mono ?_
    rintro e w3 ⟨rfl, hb⟩
    have B3 := Lib.hid (belNext B2.out hb)
    have P0_3 := Lib.hid (P0_2.out.next hb)
    have P1_3 := Lib.hid (P1_2.out.next hb)
    clear hb c00 c01 c02 c10 c11 c12
    obtain ⟨⟨c00, c01⟩, c02⟩ := P0_3.out
    obtain ⟨⟨c10, c11⟩, c12⟩ := P1_3.out
    go_wp2_with fail
    first | go_ret | go_ret2
    exact ⟨rfl, B3.out⟩
  · have b : bI l h l' h' = false := by simpa using b
    have HB : Hid (∀ w, Calls Try.prog 46 #[.agg #[.float .f32 l, .float .f32 h], .agg #[.float .f32 l', .float .f32 h']] w fun e w' => e = .returned (.int .i64 1) ∧ Below w.heap.size w w') := Lib.hid (fun w => by have h := specIBoth_any l h l' h' w hl hh hlq hhq; rw [b] at h; exact h)
    have e0 : (.tuple #[.bool (ptB l h l' h'), .int .i64 (cI (bI l h l' h'))] : Value) = .tuple #[.bool false, .int .i64 1] := by unfold ptB cI; simp [b]
    rw [e0]
    clear e0 hl hh hlq hhq b
    obtain ⟨w1, hw1, hp0, hp1, hB_⟩ := ib_2 w l h l' h' 26
    have P0_1 := Lib.hid hp0
    have P1_1 := Lib.hid hp1
    have hst := store_float Try.prog
    have B1 := Lib.hid hB_
    have Hw := Lib.hid hw1
    clear hw1 hp0 hp1 hB_
    obtain ⟨⟨c00, c01⟩, c02⟩ := P0_1.out
    obtain ⟨⟨c10, c11⟩, c12⟩ := P1_1.out
    go_enter Try.func27, Try.ntmps27
    go_wp2_with fail
    rw [← Hw.out]
    refine (HB.out _).mono ?_
    rintro e w2 ⟨rfl, hb⟩
    have B2 := Lib.hid (belNext B1.out hb)
    have P0_2 := Lib.hid (P0_1.out.next hb)
    have P1_2 := Lib.hid (P1_1.out.next hb)
    clear hb c00 c01 c02 c10 c11 c12
    obtain ⟨⟨c00, c01⟩, c02⟩ := P0_2.out
    obtain ⟨⟨c10, c11⟩, c12⟩ := P1_2.out
    go_wp2_with fail
    first | go_ret | go_ret2
    exact ⟨rfl, B2.out⟩
set_option maxHeartbeats 1000000 in
theorem specOrderW_any (l h l' h' : Nat) (w : World) (hl : l < 4294967296) (hh : h < 4294967296) (hlq : l' < 4294967296) (hhq : h' < 4294967296) :
    Calls Try.prog 31 #[.agg #[.float .f32 l, .float .f32 h], .agg #[.float .f32 l', .float .f32 h']] w fun e w' => e = .returned (.tuple #[.int .i64 (orI l h l' h'), .int .i64 (cI (bI l h l' h'))]) ∧ Below w.heap.size w w' := by
  by_cases b : bI l h l' h' = true
  · have HB : Hid (∀ w, Calls Try.prog 46 #[.agg #[.float .f32 l, .float .f32 h], .agg #[.float .f32 l', .float .f32 h']] w fun e w' => e = .returned (.int .i64 0) ∧ Below w.heap.size w w') := Lib.hid (fun w => by have h := specIBoth_any l h l' h' w hl hh hlq hhq; rw [b] at h; exact h)
    have bb := b
    unfold bI at bb
    simp only [Bool.and_eq_true] at bb
    obtain ⟨pl, ph, k1, k2, k3⟩ := isI_facts hl hh bb.1
    obtain ⟨plq, phq, k4, k5, k6⟩ := isI_facts hlq hhq bb.2
    have e0 : (.tuple #[.int .i64 (orI l h l' h'), .int .i64 (cI (bI l h l' h'))] : Value) = .tuple #[.int .i64 (ordI l h l' h'), .int .i64 0] := by unfold orI cI; simp [b]
    rw [e0]
    have f1 := lt32 h l' ph.1 plq.1 ph.2.1 plq.2.1
    have f2 := gt32 l h' pl.1 phq.1 pl.2.1 phq.2.1
    clear e0
    clear hl hh hlq hhq b bb pl ph plq phq k1 k2 k3 k4 k5 k6
    by_cases h1 : place32 h < place32 l'
    · have e1 : ordI l h l' h' = -1 := by unfold ordI; rw [if_pos h1]
      rw [decide_eq_true h1] at f1
      rw [e1]
      clear h1 e1 f2
      obtain ⟨w1, hw1, hp0, hp1, hB_⟩ := ib_2 w l h l' h' 26
      have P0_1 := Lib.hid hp0
      have P1_1 := Lib.hid hp1
      have hst := store_float Try.prog
      have B1 := Lib.hid hB_
      have Hw := Lib.hid hw1
      clear hw1 hp0 hp1 hB_
      obtain ⟨⟨c00, c01⟩, c02⟩ := P0_1.out
      obtain ⟨⟨c10, c11⟩, c12⟩ := P1_1.out
      go_enter Try.func31, Try.ntmps31
      go_wp2_with fail
      rw [← Hw.out]
      refine (HB.out _).mono ?_
      rintro e w2 ⟨rfl, hb⟩
      have B2 := Lib.hid (belNext B1.out hb)
      have P0_2 := Lib.hid (P0_1.out.next hb)
      have P1_2 := Lib.hid (P1_1.out.next hb)
      clear hb c00 c01 c02 c10 c11 c12
      obtain ⟨⟨c00, c01⟩, c02⟩ := P0_2.out
      obtain ⟨⟨c10, c11⟩, c12⟩ := P1_2.out
      go_wp2_with fail
      first | go_ret | go_ret2
      exact ⟨rfl, B2.out⟩
    · rw [decide_eq_false h1] at f1
      by_cases h2 : place32 h' < place32 l
      · have e1 : ordI l h l' h' = 1 := by unfold ordI; rw [if_neg h1, if_pos h2]
        rw [decide_eq_true h2] at f2
        rw [e1]
        clear h1 h2 e1
        obtain ⟨w1, hw1, hp0, hp1, hB_⟩ := ib_2 w l h l' h' 26
        have P0_1 := Lib.hid hp0
        have P1_1 := Lib.hid hp1
        have hst := store_float Try.prog
        have B1 := Lib.hid hB_
        have Hw := Lib.hid hw1
        clear hw1 hp0 hp1 hB_
        obtain ⟨⟨c00, c01⟩, c02⟩ := P0_1.out
        obtain ⟨⟨c10, c11⟩, c12⟩ := P1_1.out
        go_enter Try.func31, Try.ntmps31
        go_wp2_with fail
        rw [← Hw.out]
        refine (HB.out _).mono ?_
        rintro e w2 ⟨rfl, hb⟩
        have B2 := Lib.hid (belNext B1.out hb)
        have P0_2 := Lib.hid (P0_1.out.next hb)
        have P1_2 := Lib.hid (P1_1.out.next hb)
        clear hb c00 c01 c02 c10 c11 c12
        obtain ⟨⟨c00, c01⟩, c02⟩ := P0_2.out
        obtain ⟨⟨c10, c11⟩, c12⟩ := P1_2.out
        go_wp2_with fail
        first | go_ret | go_ret2
        exact ⟨rfl, B2.out⟩
      · have e1 : ordI l h l' h' = 0 := by unfold ordI; rw [if_neg h1, if_neg h2]
        rw [decide_eq_false h2] at f2
        rw [e1]
        clear h1 h2 e1
        obtain ⟨w1, hw1, hp0, hp1, hB_⟩ := ib_2 w l h l' h' 26
        have P0_1 := Lib.hid hp0
        have P1_1 := Lib.hid hp1
        have hst := store_float Try.prog
        have B1 := Lib.hid hB_
        have Hw := Lib.hid hw1
        clear hw1 hp0 hp1 hB_
        obtain ⟨⟨c00, c01⟩, c02⟩ := P0_1.out
        obtain ⟨⟨c10, c11⟩, c12⟩ := P1_1.out
        go_enter Try.func31, Try.ntmps31
        go_wp2_with fail
        rw [← Hw.out]
        refine (HB.out _).mono ?_
        rintro e w2 ⟨rfl, hb⟩
        have B2 := Lib.hid (belNext B1.out hb)
        have P0_2 := Lib.hid (P0_1.out.next hb)
        have P1_2 := Lib.hid (P1_1.out.next hb)
        clear hb c00 c01 c02 c10 c11 c12
        obtain ⟨⟨c00, c01⟩, c02⟩ := P0_2.out
        obtain ⟨⟨c10, c11⟩, c12⟩ := P1_2.out
        go_wp2_with fail
        first | go_ret | go_ret2
        exact ⟨rfl, B2.out⟩
  · have b : bI l h l' h' = false := by simpa using b
    have HB : Hid (∀ w, Calls Try.prog 46 #[.agg #[.float .f32 l, .float .f32 h], .agg #[.float .f32 l', .float .f32 h']] w fun e w' => e = .returned (.int .i64 1) ∧ Below w.heap.size w w') := Lib.hid (fun w => by have h := specIBoth_any l h l' h' w hl hh hlq hhq; rw [b] at h; exact h)
    have e0 : (.tuple #[.int .i64 (orI l h l' h'), .int .i64 (cI (bI l h l' h'))] : Value) = .tuple #[.int .i64 0, .int .i64 1] := by unfold orI cI; simp [b]
    rw [e0]
    clear e0 hl hh hlq hhq b
    obtain ⟨w1, hw1, hp0, hp1, hB_⟩ := ib_2 w l h l' h' 26
    have P0_1 := Lib.hid hp0
    have P1_1 := Lib.hid hp1
    have hst := store_float Try.prog
    have B1 := Lib.hid hB_
    have Hw := Lib.hid hw1
    clear hw1 hp0 hp1 hB_
    obtain ⟨⟨c00, c01⟩, c02⟩ := P0_1.out
    obtain ⟨⟨c10, c11⟩, c12⟩ := P1_1.out
    go_enter Try.func31, Try.ntmps31
    go_wp2_with fail
    rw [← Hw.out]
    refine (HB.out _).mono ?_
    rintro e w2 ⟨rfl, hb⟩
    have B2 := Lib.hid (belNext B1.out hb)
    have P0_2 := Lib.hid (P0_1.out.next hb)
    have P1_2 := Lib.hid (P1_1.out.next hb)
    clear hb c00 c01 c02 c10 c11 c12
    obtain ⟨⟨c00, c01⟩, c02⟩ := P0_2.out
    obtain ⟨⟨c10, c11⟩, c12⟩ := P1_2.out
    go_wp2_with fail
    first | go_ret | go_ret2
    exact ⟨rfl, B2.out⟩
set_option maxHeartbeats 1000000 in
theorem specMeetW_any (l h l' h' : Nat) (w : World) (hl : l < 4294967296) (hh : h < 4294967296) (hlq : l' < 4294967296) (hhq : h' < 4294967296) :
    Calls Try.prog 25 #[.agg #[.float .f32 l, .float .f32 h], .agg #[.float .f32 l', .float .f32 h']] w fun e w' => e = .returned (.tuple #[.agg #[.float .f32 ((meL l h l' h')), .float .f32 ((meH l h l' h'))], .int .i64 (meE l h l' h')]) ∧ Below w.heap.size w w' := by
  by_cases b : bI l h l' h' = true
  · have HB : Hid (∀ w, Calls Try.prog 46 #[.agg #[.float .f32 l, .float .f32 h], .agg #[.float .f32 l', .float .f32 h']] w fun e w' => e = .returned (.int .i64 0) ∧ Below w.heap.size w w') := Lib.hid (fun w => by have h := specIBoth_any l h l' h' w hl hh hlq hhq; rw [b] at h; exact h)
    have bb := b
    unfold bI at bb
    simp only [Bool.and_eq_true] at bb
    obtain ⟨pl, ph, k1, k2, k3⟩ := isI_facts hl hh bb.1
    obtain ⟨plq, phq, k4, k5, k6⟩ := isI_facts hlq hhq bb.2
    have H3 : Hid (∀ w, Calls Try.prog 50 #[.agg #[.float .f32 l, .float .f32 h], .agg #[.float .f32 l', .float .f32 h']] w fun e w' => e = .returned (.tuple #[.agg #[.float .f32 ((mx l l')), .float .f32 ((mn h h'))], .bool (meB l h l' h')]) ∧ Below w.heap.size w w') := Lib.hid (fun w => specMeet_any l h l' h' w pl ph plq phq)
    by_cases m : meB l h l' h' = true
    · have e0 : (.tuple #[.agg #[.float .f32 ((meL l h l' h')), .float .f32 ((meH l h l' h'))], .int .i64 (meE l h l' h')] : Value) = .tuple #[.agg #[.float .f32 ((mx l l')), .float .f32 ((mn h h'))], .int .i64 0] := by unfold meL meH meE; simp [b, m]
      rw [e0]
      rw [m] at H3
      clear e0 m
      clear hl hh hlq hhq b bb pl ph plq phq k1 k2 k3 k4 k5 k6
      obtain ⟨w1, hw1, hp0, hp1, hr_, hB_⟩ := ib_2r w l h l' h' 26 26
      have P0_1 := Lib.hid hp0
      have P1_1 := Lib.hid hp1
      have R_1 := Lib.hid hr_
      have hst := store_float Try.prog
      have B1 := Lib.hid hB_
      have Hw := Lib.hid hw1
      clear hw1 hp0 hp1 hr_ hB_
      obtain ⟨⟨c00, c01⟩, c02⟩ := P0_1.out
      obtain ⟨⟨c10, c11⟩, c12⟩ := P1_1.out
      obtain ⟨⟨r0, r1, r2, r3⟩, r4⟩ := R_1.out
      go_enter Try.func25, Try.ntmps25
      go_wp2_with fail
      rw [← Hw.out]
      refine (HB.out _).mono ?_
      rintro e w2 ⟨rfl, hb⟩
      have B2 := Lib.hid (belNext B1.out hb)
      have P0_2 := Lib.hid (P0_1.out.next hb)
      have P1_2 := Lib.hid (P1_1.out.next hb)
      have R_2 := Lib.hid (R_1.out.next hb)
      clear hb c00 c01 c02 c10 c11 c12 r0 r1 r2 r3 r4
      obtain ⟨⟨c00, c01⟩, c02⟩ := P0_2.out
      obtain ⟨⟨c10, c11⟩, c12⟩ := P1_2.out
      obtain ⟨⟨r0, r1, r2, r3⟩, r4⟩ := R_2.out
      go_wp2_with fail
      refine (H3.out _).mono ?_
      rintro e w3 ⟨rfl, hb⟩
      have B3 := Lib.hid (belNext B2.out hb)
      have P0_3 := Lib.hid (P0_2.out.next hb)
      have P1_3 := Lib.hid (P1_2.out.next hb)
      have R_3 := Lib.hid (R_2.out.next hb)
      clear hb c00 c01 c02 c10 c11 c12 r0 r1 r2 r3 r4
      obtain ⟨⟨c00, c01⟩, c02⟩ := P0_3.out
      obtain ⟨⟨c10, c11⟩, c12⟩ := P1_3.out
      obtain ⟨⟨r0, r1, r2, r3⟩, r4⟩ := R_3.out
      go_upto_region 5 with fail
      obtain ⟨w4, hw⟩ : ∃ w4, w4 = w3.alloc (.cells #[.float .f32 ((mx l l')), .float .f32 ((mn h h'))] 26) := ⟨_, rfl⟩
      rw [← hw]
      have hb : Below w3.heap.size w3 w4 := by rw [hw]; exact belAlloc1 _ _
      have P2_4 : Hid (IB w4 w3.heap.size (mx l l') (mn h h')) := Lib.hid (by rw [hw]; exact IB.new _ _ _ _)
      clear hw
      have B4 := Lib.hid (belNext B3.out hb)
      have R_4 := Lib.hid (R_3.out.next hb)
      clear hb c00 c01 c02 c10 c11 c12 r0 r1 r2 r3 r4
      obtain ⟨⟨c20, c21⟩, c22⟩ := P2_4.out
      obtain ⟨⟨r0, r1, r2, r3⟩, r4⟩ := R_4.out
      go_wp2_with fail
      refine bodyPost_ret (v := .tuple #[.agg #[.float .f32 ((mx l l')), .float .f32 ((mn h h'))], .int .i64 0]) (by simp [results, Try.results25, go_sem, r0, r1]) rfl ⟨rfl, ?_⟩
      repeat (first | exact B4.out | exact Below.refl _ _ | refine Below.drew ?_ | refine Below.alloc ?_ (by first | (simp; done) | (simp; omega)) _ | refine Below.setCell ?_ (by first | (simp; done) | (simp; omega)) _)
    · have m : meB l h l' h' = false := by simpa using m
      have e0 : (.tuple #[.agg #[.float .f32 ((meL l h l' h')), .float .f32 ((meH l h l' h'))], .int .i64 (meE l h l' h')] : Value) = .tuple #[.agg #[.float .f32 0, .float .f32 0], .int .i64 4] := by unfold meL meH meE; simp [b, m]
      rw [e0]
      rw [m] at H3
      clear e0 m
      clear hl hh hlq hhq b bb pl ph plq phq k1 k2 k3 k4 k5 k6
      obtain ⟨w1, hw1, hp0, hp1, hr_, hB_⟩ := ib_2r w l h l' h' 26 26
      have P0_1 := Lib.hid hp0
      have P1_1 := Lib.hid hp1
      have R_1 := Lib.hid hr_
      have hst := store_float Try.prog
      have B1 := Lib.hid hB_
      have Hw := Lib.hid hw1
      clear hw1 hp0 hp1 hr_ hB_
      obtain ⟨⟨c00, c01⟩, c02⟩ := P0_1.out
      obtain ⟨⟨c10, c11⟩, c12⟩ := P1_1.out
      obtain ⟨⟨r0, r1, r2, r3⟩, r4⟩ := R_1.out
      go_enter Try.func25, Try.ntmps25
      go_wp2_with fail
      rw [← Hw.out]
      refine (HB.out _).mono ?_
      rintro e w2 ⟨rfl, hb⟩
      have B2 := Lib.hid (belNext B1.out hb)
      have P0_2 := Lib.hid (P0_1.out.next hb)
      have P1_2 := Lib.hid (P1_1.out.next hb)
      have R_2 := Lib.hid (R_1.out.next hb)
      clear hb c00 c01 c02 c10 c11 c12 r0 r1 r2 r3 r4
      obtain ⟨⟨c00, c01⟩, c02⟩ := P0_2.out
      obtain ⟨⟨c10, c11⟩, c12⟩ := P1_2.out
      obtain ⟨⟨r0, r1, r2, r3⟩, r4⟩ := R_2.out
      go_wp2_with fail
      refine (H3.out _).mono ?_
      rintro e w3 ⟨rfl, hb⟩
      have B3 := Lib.hid (belNext B2.out hb)
      have P0_3 := Lib.hid (P0_2.out.next hb)
      have P1_3 := Lib.hid (P1_2.out.next hb)
      have R_3 := Lib.hid (R_2.out.next hb)
      clear hb c00 c01 c02 c10 c11 c12 r0 r1 r2 r3 r4
      obtain ⟨⟨c00, c01⟩, c02⟩ := P0_3.out
      obtain ⟨⟨c10, c11⟩, c12⟩ := P1_3.out
      obtain ⟨⟨r0, r1, r2, r3⟩, r4⟩ := R_3.out
      go_upto_region 5 with fail
      obtain ⟨w4, hw⟩ : ∃ w4, w4 = w3.alloc (.cells #[.float .f32 ((mx l l')), .float .f32 ((mn h h'))] 26) := ⟨_, rfl⟩
      rw [← hw]
      have hb : Below w3.heap.size w3 w4 := by rw [hw]; exact belAlloc1 _ _
      have P2_4 : Hid (IB w4 w3.heap.size (mx l l') (mn h h')) := Lib.hid (by rw [hw]; exact IB.new _ _ _ _)
      clear hw
      have B4 := Lib.hid (belNext B3.out hb)
      have R_4 := Lib.hid (R_3.out.next hb)
      clear hb c00 c01 c02 c10 c11 c12 r0 r1 r2 r3 r4
      obtain ⟨⟨c20, c21⟩, c22⟩ := P2_4.out
      obtain ⟨⟨r0, r1, r2, r3⟩, r4⟩ := R_4.out
      go_wp2_with fail
      refine bodyPost_ret (v := .tuple #[.agg #[.float .f32 0, .float .f32 0], .int .i64 4]) (by simp [results, Try.results25, go_sem, r0, r1]) rfl ⟨rfl, ?_⟩
      repeat (first | exact B4.out | exact Below.refl _ _ | refine Below.drew ?_ | refine Below.alloc ?_ (by first | (simp; done) | (simp; omega)) _ | refine Below.setCell ?_ (by first | (simp; done) | (simp; omega)) _)
  · have b : bI l h l' h' = false := by simpa using b
    have HB : Hid (∀ w, Calls Try.prog 46 #[.agg #[.float .f32 l, .float .f32 h], .agg #[.float .f32 l', .float .f32 h']] w fun e w' => e = .returned (.int .i64 1) ∧ Below w.heap.size w w') := Lib.hid (fun w => by have h := specIBoth_any l h l' h' w hl hh hlq hhq; rw [b] at h; exact h)
    have e0 : (.tuple #[.agg #[.float .f32 ((meL l h l' h')), .float .f32 ((meH l h l' h'))], .int .i64 (meE l h l' h')] : Value) = .tuple #[.agg #[.float .f32 0, .float .f32 0], .int .i64 1] := by unfold meL meH meE; simp [b]
    rw [e0]
    clear e0 hl hh hlq hhq b
    obtain ⟨w1, hw1, hp0, hp1, hr_, hB_⟩ := ib_2r w l h l' h' 26 26
    have P0_1 := Lib.hid hp0
    have P1_1 := Lib.hid hp1
    have R_1 := Lib.hid hr_
    have hst := store_float Try.prog
    have B1 := Lib.hid hB_
    have Hw := Lib.hid hw1
    clear hw1 hp0 hp1 hr_ hB_
    obtain ⟨⟨c00, c01⟩, c02⟩ := P0_1.out
    obtain ⟨⟨c10, c11⟩, c12⟩ := P1_1.out
    obtain ⟨⟨r0, r1, r2, r3⟩, r4⟩ := R_1.out
    go_enter Try.func25, Try.ntmps25
    go_wp2_with fail
    rw [← Hw.out]
    refine (HB.out _).mono ?_
    rintro e w2 ⟨rfl, hb⟩
    have B2 := Lib.hid (belNext B1.out hb)
    have P0_2 := Lib.hid (P0_1.out.next hb)
    have P1_2 := Lib.hid (P1_1.out.next hb)
    have R_2 := Lib.hid (R_1.out.next hb)
    clear hb c00 c01 c02 c10 c11 c12 r0 r1 r2 r3 r4
    obtain ⟨⟨c00, c01⟩, c02⟩ := P0_2.out
    obtain ⟨⟨c10, c11⟩, c12⟩ := P1_2.out
    obtain ⟨⟨r0, r1, r2, r3⟩, r4⟩ := R_2.out
    go_wp2_with fail
    refine bodyPost_ret (v := .tuple #[.agg #[.float .f32 0, .float .f32 0], .int .i64 1]) (by simp [results, Try.results25, go_sem, r0, r1]) rfl ⟨rfl, ?_⟩
    repeat (first | exact B2.out | exact Below.refl _ _ | refine Below.drew ?_ | refine Below.alloc ?_ (by first | (simp; done) | (simp; omega)) _ | refine Below.setCell ?_ (by first | (simp; done) | (simp; omega)) _)
end Go.Proofs.Ytlhdlomabgoadaa
