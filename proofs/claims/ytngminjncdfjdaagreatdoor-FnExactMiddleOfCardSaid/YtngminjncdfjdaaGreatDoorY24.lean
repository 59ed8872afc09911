/- Texts of this seat, joined: Ug Uh -/
import Derived.Test.YtngminjncdfjdaaGreatDoorY23
/- Sums and differences of intervals, of the model. -/
namespace Go.Proofs.YtngminjncdfjdaaGreatDoor
set_option maxRecDepth 100000
open Go.RowKit
set_option linter.unusedSimpArgs false
set_option linter.unusedVariables false

theorem ad_norm {x y n : Nat} (f1 : fin32 x = true) (f2 : fin32 y = true) (hn : (limbs (nz (adZ x y)).natAbs).length = n) : (n : Int) ≤ 21 ∧ (-400 ≤ nx (adZ x y) (min (fe x) (fe y)) ∧ nx (adZ x y) (min (fe x) (fe y)) ≤ 2000) := by
  obtain ⟨a1, a2⟩ := fe_small f1
  obtain ⟨a3, a4⟩ := fe_small f2
  have hN : ∀ m, (limbs (adZ x y).natAbs).length = m → (m : Int) ≤ 21 := fun m hm => sum_small (Nat.lt_of_lt_of_le (fz_small f1) (by decide)) (Nat.lt_of_lt_of_le (fz_small f2) (by decide)) (by omega) (by omega) hm
  have h1 := hN _ rfl
  have h2 := limbs_len_mono (nz_le (adZ x y))
  refine ⟨by omega, ?_⟩
  by_cases h0 : adZ x y = 0
  · rw [h0, nx_zero]; omega
  · rw [nx_ne h0]
    have := tz_le (v := (adZ x y).natAbs) rfl
    omega
/-- a sum of two floats as the model rounds it -/
def sW (x y : Nat) (k : Int) : Nat := rdF (nz (adZ x y)) (nx (adZ x y) (min (fe x) (fe y))) k
theorem sW_wz (x y : Nat) (k : Int) : wz (sW x y k) = wz (adF x y k) := (wz_norm _ _ _ _).symm
theorem sW_lt (x y : Nat) (k : Int) : sW x y k < 4294967296 := (rdF_ok _ _ _).1
set_option maxHeartbeats 1000000 in
theorem addOf_any (x y : Nat) (Sx Sy : Int) (Ax Ay : Option Addr) (a b c d : Nat) (w : World) (f1 : fin32 x = true) (f2 : fin32 y = true) (hx : ZV w (fz x) Sx Ax a b) (hy : ZV w (fz y) Sy Ay c d) :
    Calls Tryz.prog 41 #[.agg #[.int .i64 Sx, .slice Ax a b, .int .i64 (fe x)], .agg #[.int .i64 Sy, .slice Ay c d, .int .i64 (fe y)]] w fun e w' => ∃ Sr Ar nr cr, e = .returned (.agg #[.int .i64 Sr, .slice Ar nr cr, .int .i64 (nx (adZ x y) (min (fe x) (fe y)))]) ∧ ZV w' (nz (adZ x y)) Sr Ar nr cr ∧ ((nr : Int) ≤ 21 ∧ (-400 ≤ nx (adZ x y) (min (fe x) (fe y)) ∧ nx (adZ x y) (min (fe x) (fe y)) ≤ 2000)) ∧ Below w.heap.size w w' := by
  obtain ⟨a1, a2⟩ := fe_small f1
  obtain ⟨a3, a4⟩ := fe_small f2
  have n1 := fz_len f1 hx.len
  have n2 := fz_len f2 hy.len
  refine (specAddD_any (fz x) Sx (fe x) (fz y) Sy (fe y) Ax Ay a b c d w hx hy (by omega) (by omega) (by omega) (by omega) (by omega) (by omega)).mono ?_
  rintro e w' ⟨Sr, Ar, nr, cr, rfl, hzo, hb⟩
  exact ⟨Sr, Ar, nr, cr, rfl, hzo.zv, ad_norm f1 f2 hzo.zv.len, hb⟩
theorem ofV_any (x : Nat) (w : World) (hx : x < 4294967296) (hf : fin32 x = true) :
    Calls Tryz.prog 42 #[.float .f32 x] w fun e w' => ∃ Sr Ar nr cr, e = .returned (.agg #[.int .i64 Sr, .slice Ar nr cr, .int .i64 (fe x)]) ∧ ZV w' (fz x) Sr Ar nr cr ∧ Below w.heap.size w w' := by
  refine (specOfD_any x w hx hf).mono ?_
  rintro e w' ⟨Sr, Ar, nr, cr, rfl, hzo, hb⟩
  exact ⟨Sr, Ar, nr, cr, rfl, hzo.zv, hb⟩
theorem downV_any (x y : Nat) (S : Int) (A : Option Addr) (n c : Nat) (w : World) (hz : ZV w (nz (adZ x y)) S A n c) (hm : (n : Int) ≤ 21 ∧ (-400 ≤ nx (adZ x y) (min (fe x) (fe y)) ∧ nx (adZ x y) (min (fe x) (fe y)) ≤ 2000)) :
    Calls Tryz.prog 40 #[.agg #[.int .i64 S, .slice A n c, .int .i64 (nx (adZ x y) (min (fe x) (fe y)))]] w fun e w' => e = .returned (.float .f32 (sW x y 1)) ∧ Below w.heap.size w w' :=
  specDownD_any _ S _ A n c w hz (fun e => nz_odd3 (fun z => e (by rw [z, nz_zero]))) (by omega) (by omega) (by omega)
theorem upV_any (x y : Nat) (S : Int) (A : Option Addr) (n c : Nat) (w : World) (hz : ZV w (nz (adZ x y)) S A n c) (hm : (n : Int) ≤ 21 ∧ (-400 ≤ nx (adZ x y) (min (fe x) (fe y)) ∧ nx (adZ x y) (min (fe x) (fe y)) ≤ 2000)) :
    Calls Tryz.prog 43 #[.agg #[.int .i64 S, .slice A n c, .int .i64 (nx (adZ x y) (min (fe x) (fe y)))]] w fun e w' => e = .returned (.float .f32 (sW x y 2)) ∧ Below w.heap.size w w' :=
  specUpD_any _ S _ A n c w hz (fun e => nz_odd3 (fun z => e (by rw [z, nz_zero]))) (by omega) (by omega) (by omega)
set_option maxHeartbeats 16000000 in
theorem specIAdd_any (l h l' h' : Nat) (w : World) (pl : Pl l) (ph : Pl h) (plq : Pl l') (phq : Pl h') :
    Calls Tryz.prog 22 #[.agg #[.float .f32 l, .float .f32 h], .agg #[.float .f32 l', .float .f32 h']] w fun e w' => e = .returned (.agg #[.float .f32 ((sV l l' 1 4286578688)), .float .f32 ((sV h h' 2 2139095040))]) ∧ Below w.heap.size w w' := by
  have ngi := neg_inf
  by_cases f1 : fin32 l = true
  · by_cases f2 : fin32 l' = true
    · skip
      by_cases f3 : fin32 h = true
      · by_cases f4 : fin32 h' = true
        · skip
          have e1 : sV l l' 1 4286578688 = wz (sW l l' 1) := by unfold sV; rw [if_pos ⟨f1, f2⟩, sW_wz]
          have e2 : sV h h' 2 2139095040 = wz (sW h h' 2) := by unfold sV; rw [if_pos ⟨f3, f4⟩, sW_wz]
          rw [e1, e2]
          have F1 : Hid (∀ w, Calls Tryz.prog 39 #[.float .f32 l] w fun e w' => e = .returned (.bool true) ∧ Below w.heap.size w w') := Lib.hid (fun w => by rw [← f1]; exact finI_any l w pl.1)
          have F2 : Hid (∀ w, Calls Tryz.prog 39 #[.float .f32 l'] w fun e w' => e = .returned (.bool true) ∧ Below w.heap.size w w') := Lib.hid (fun w => by rw [← f2]; exact finI_any l' w plq.1)
          have F3 : Hid (∀ w, Calls Tryz.prog 39 #[.float .f32 h] w fun e w' => e = .returned (.bool true) ∧ Below w.heap.size w w') := Lib.hid (fun w => by rw [← f3]; exact finI_any h w ph.1)
          have F4 : Hid (∀ w, Calls Tryz.prog 39 #[.float .f32 h'] w fun e w' => e = .returned (.bool true) ∧ Below w.heap.size w w') := Lib.hid (fun w => by rw [← f4]; exact finI_any h' w phq.1)
          have OL : Hid (∀ w, _) := Lib.hid (fun w => ofV_any l w pl.1 f1)
          have OM : Hid (∀ w, _) := Lib.hid (fun w => ofV_any l' w plq.1 f2)
          have AL : Hid (∀ Sx Sy Ax Ay a b c d w, _ → _ → _) := Lib.hid (fun Sx Sy Ax Ay a b c d w u v => addOf_any l l' Sx Sy Ax Ay a b c d w f1 f2 u v)
          have OH : Hid (∀ w, _) := Lib.hid (fun w => ofV_any h w ph.1 f3)
          have OG : Hid (∀ w, _) := Lib.hid (fun w => ofV_any h' w phq.1 f4)
          have AH : Hid (∀ Sx Sy Ax Ay a b c d w, _ → _ → _) := Lib.hid (fun Sx Sy Ax Ay a b c d w u v => addOf_any h h' Sx Sy Ax Ay a b c d w f3 f4 u v)
          obtain ⟨v1, hv1⟩ : ∃ v, v = sW l l' 1 := ⟨_, rfl⟩
          obtain ⟨v2, hv2⟩ : ∃ v, v = sW h h' 2 := ⟨_, rfl⟩
          have l1 : v1 < 4294967296 := by rw [hv1]; exact sW_lt _ _ _
          have l2 : v2 < 4294967296 := by rw [hv2]; exact sW_lt _ _ _
          have MK : Hid (∀ w, _) := Lib.hid (fun w => specMake_any v1 v2 w l1 l2)
          obtain ⟨z1, hz1⟩ : ∃ z, z = wz v1 := ⟨_, rfl⟩
          obtain ⟨z2, hz2⟩ : ∃ z, z = wz v2 := ⟨_, rfl⟩
          rw [← hz1, ← hz2] at MK
          rw [← hv1, ← hv2, ← hz1, ← hz2]
          have HV := Lib.hid (And.intro hv1 hv2)
          clear e1 e2 l1 l2 hz1 hz2 pl ph plq phq f1 f3 hv1 hv2 f2 f4
          obtain ⟨w1, hw1, hp0, hp1, hr_, hB_⟩ := ib_2r w l h l' h' 25 25
          have P0_1 := Lib.hid hp0
          have P1_1 := Lib.hid hp1
          have R_1 := Lib.hid hr_
          have hst := store_float Tryz.prog
          have B1 := Lib.hid hB_
          have Hw := Lib.hid hw1
          clear hw1 hp0 hp1 hr_ hB_
          obtain ⟨⟨c00, c01⟩, c02⟩ := P0_1.out
          obtain ⟨⟨c10, c11⟩, c12⟩ := P1_1.out
          obtain ⟨⟨r0, r1, r2, r3⟩, r4⟩ := R_1.out
          go_enter Tryz.func22, Tryz.ntmps22
          go_wp2_with fail
          rw [← Hw.out]
          refine (huge_any _).mono ?_
          rintro e w9 ⟨rfl, rfl⟩
          go_wp2_with fail
          refine (huge_any _).mono ?_
          rintro e w9 ⟨rfl, rfl⟩
          go_wp2_with fail
          refine (F1.out _).mono ?_
          rintro e w2 ⟨rfl, hb⟩
          have B2 := Lib.hid (belNext B1.out hb)
          have P0_2 := Lib.hid (P0_1.out.next hb)
          have P1_2 := Lib.hid (P1_1.out.next hb)
          have R_2 := Lib.hid (R_1.out.next hb)
          clear hb c00 c01 c02 c10 c11 c12 r0 r1 r2 r3 r4
          obtain ⟨⟨c00, c01⟩, c02⟩ := P0_2.out
          obtain ⟨⟨c10, c11⟩, c12⟩ := P1_2.out
          obtain ⟨⟨r0, r1, r2, r3⟩, r4⟩ := R_2.out
          go_wp2_with fail
          refine (F2.out _).mono ?_
          rintro e w3 ⟨rfl, hb⟩
          have B3 := Lib.hid (belNext B2.out hb)
          have P0_3 := Lib.hid (P0_2.out.next hb)
          have P1_3 := Lib.hid (P1_2.out.next hb)
          have R_3 := Lib.hid (R_2.out.next hb)
          clear hb c00 c01 c02 c10 c11 c12 r0 r1 r2 r3 r4
          obtain ⟨⟨c00, c01⟩, c02⟩ := P0_3.out
          obtain ⟨⟨c10, c11⟩, c12⟩ := P1_3.out
          obtain ⟨⟨r0, r1, r2, r3⟩, r4⟩ := R_3.out
          go_wp2_with fail
          refine wp_region_held_drew (S := fun w' => (w'.cell? ⟨w.heap.size, 0, none⟩ = some (.float .f32 l) ∧ w'.cell? ⟨w.heap.size, 1, none⟩ = some (.float .f32 h)) ∧ (w'.cell? ⟨w.heap.size + 1, 0, none⟩ = some (.float .f32 l') ∧ w'.cell? ⟨w.heap.size + 1, 1, none⟩ = some (.float .f32 h'))) (by kernel_rfl) ⟨P0_3.out.1, P1_3.out.1⟩ (fun hHeld => ?_)
          clear c00 c01 c02 c10 c11 c12 r0 r1 r2 r3 r4
          refine wpAnyH_take (i := 0) (v := ?_) rfl (by kernel_rfl) (by kernel_rfl) (by kernel_rfl) (fun _ _ _ h => h) (Or.inl ⟨by rfl, ?_⟩) (by assumption) ?_
          rotate_left
          · (intro w hSw; (try dsimp only at hSw); go_simp; (try with_reducible rfl))
          try simp only [Act.put, List.setIfInBounds_toArray, List.set_cons_zero, List.set_cons_succ, List.getElem_toArray, List.getElem_cons_succ, List.getElem_cons_zero]
          refine wpAnyH_take (i := 1) (v := ?_) rfl (by kernel_rfl) (by kernel_rfl) (by kernel_rfl) (fun _ _ _ h => h) (Or.inl ⟨by rfl, ?_⟩) (by assumption) ?_
          rotate_left
          · (intro w hSw; (try dsimp only at hSw); go_simp; (try with_reducible rfl))
          try simp only [Act.put, List.setIfInBounds_toArray, List.set_cons_zero, List.set_cons_succ, List.getElem_toArray, List.getElem_cons_succ, List.getElem_cons_zero]
          refine wpAnyH_take (i := 3) (v := ?_) rfl (by kernel_rfl) (by kernel_rfl) (by kernel_rfl) (fun _ _ _ h => h) (Or.inl ⟨by rfl, ?_⟩) (by assumption) ?_
          rotate_left
          · (intro w hSw; (try dsimp only at hSw); go_simp; (try with_reducible rfl))
          try simp only [Act.put, List.setIfInBounds_toArray, List.set_cons_zero, List.set_cons_succ, List.getElem_toArray, List.getElem_cons_succ, List.getElem_cons_zero]
          refine wpAnyH_take (i := 4) (v := ?_) rfl (by kernel_rfl) (by kernel_rfl) (by kernel_rfl) (fun _ _ _ h => h) (Or.inl ⟨by rfl, ?_⟩) (by assumption) ?_
          rotate_left
          · (intro w hSw; (try dsimp only at hSw); go_simp; (try with_reducible rfl))
          try simp only [Act.put, List.setIfInBounds_toArray, List.set_cons_zero, List.set_cons_succ, List.getElem_toArray, List.getElem_cons_succ, List.getElem_cons_zero]
          refine wpAnyH_ready (rs := [2]) (by kernel_rfl) (by simp) ?_
          refine AllReadyH.cons rfl (fun K hK => ?_) AllReadyH.nil
          go_simp
          refine (OL.out w3.drew).mono ?_
          rintro e w4 ⟨S1, A1, n1, c1, rfl, hz, hb0⟩
          have hb : Below w3.heap.size w3 w4 := belDrew hb0
          refine hK.out _ _ ⟨(P0_3.out.next hb).1, (P1_3.out.next hb).1⟩ (fun hHeld => ?_)
          clear hK K hb0
          have Za_4 := Lib.hid hz
          clear hz
          have B4 := Lib.hid (belNext B3.out hb)
          have P0_4 := Lib.hid (P0_3.out.next hb)
          have P1_4 := Lib.hid (P1_3.out.next hb)
          have R_4 := Lib.hid (R_3.out.next hb)
          clear hb
          try simp only [Act.put, List.setIfInBounds_toArray, List.set_cons_zero, List.set_cons_succ, List.getElem_toArray, List.getElem_cons_succ, List.getElem_cons_zero]
          refine wpAnyH_ready (rs := [5]) (by kernel_rfl) (by simp) ?_
          refine AllReadyH.cons rfl (fun K hK => ?_) AllReadyH.nil
          go_simp
          refine (OM.out w4).mono ?_
          rintro e w5 ⟨S2, A2, n2, c2, rfl, hz, hb0⟩
          have hb : Below w4.heap.size w4 w5 := hb0
          refine hK.out _ _ ⟨(P0_4.out.next hb).1, (P1_4.out.next hb).1⟩ (fun hHeld => ?_)
          clear hK K hb0
          have Zb_5 := Lib.hid hz
          clear hz
          have B5 := Lib.hid (belNext B4.out hb)
          have P0_5 := Lib.hid (P0_4.out.next hb)
          have P1_5 := Lib.hid (P1_4.out.next hb)
          have R_5 := Lib.hid (R_4.out.next hb)
          have Za_5 := Lib.hid (Za_4.out.next hb)
          clear hb
          try simp only [Act.put, List.setIfInBounds_toArray, List.set_cons_zero, List.set_cons_succ, List.getElem_toArray, List.getElem_cons_succ, List.getElem_cons_zero]
          refine wpAnyH_ready (rs := [6]) (by kernel_rfl) (by simp) ?_
          refine AllReadyH.cons rfl (fun K hK => ?_) AllReadyH.nil
          go_simp
          refine (AL.out S1 S2 A1 A2 n1 c1 n2 c2 w5 Za_5.out Zb_5.out).mono ?_
          rintro e w6 ⟨S3, A3, n3, c3, rfl, hz, hn3, hb0⟩
          have hb : Below w5.heap.size w5 w6 := hb0
          refine hK.out _ _ ⟨(P0_5.out.next hb).1, (P1_5.out.next hb).1⟩ (fun hHeld => ?_)
          clear hK K hb0
          have N3 := Lib.hid hn3
          clear hn3
          have Zc_6 := Lib.hid hz
          clear hz
          have B6 := Lib.hid (belNext B5.out hb)
          have P0_6 := Lib.hid (P0_5.out.next hb)
          have P1_6 := Lib.hid (P1_5.out.next hb)
          have R_6 := Lib.hid (R_5.out.next hb)
          have Za_6 := Lib.hid (Za_5.out.next hb)
          have Zb_6 := Lib.hid (Zb_5.out.next hb)
          clear hb
          try simp only [Act.put, List.setIfInBounds_toArray, List.set_cons_zero, List.set_cons_succ, List.getElem_toArray, List.getElem_cons_succ, List.getElem_cons_zero]
          refine wpAnyH_ready (rs := [7]) (by kernel_rfl) (by simp) ?_
          refine AllReadyH.cons rfl (fun K hK => ?_) AllReadyH.nil
          go_simp
          refine (downV_any l l' S3 A3 n3 c3 w6 Zc_6.out N3.out).mono ?_
          rintro e w7 ⟨rfl, hb0⟩
          have hb : Below w6.heap.size w6 w7 := hb0
          refine hK.out _ _ ⟨(P0_6.out.next hb).1, (P1_6.out.next hb).1⟩ (fun hHeld => ?_)
          clear hK K hb0
          rw [← HV.out.1]
          have B7 := Lib.hid (belNext B6.out hb)
          have P0_7 := Lib.hid (P0_6.out.next hb)
          have P1_7 := Lib.hid (P1_6.out.next hb)
          have R_7 := Lib.hid (R_6.out.next hb)
          have Za_7 := Lib.hid (Za_6.out.next hb)
          have Zb_7 := Lib.hid (Zb_6.out.next hb)
          have Zc_7 := Lib.hid (Zc_6.out.next hb)
          clear hb
          try simp only [Act.put, List.setIfInBounds_toArray, List.set_cons_zero, List.set_cons_succ, List.getElem_toArray, List.getElem_cons_succ, List.getElem_cons_zero]
          refine wpAnyH_ready (rs := [8]) (by kernel_rfl) (by simp) ?_
          refine AllReadyH.cons rfl (fun K hK => ?_) AllReadyH.nil
          go_simp
          refine hK.out _ _ hHeld (fun hHeld => ?_)
          clear hK K
          try simp only [Act.put, List.setIfInBounds_toArray, List.set_cons_zero, List.set_cons_succ, List.getElem_toArray, List.getElem_cons_succ, List.getElem_cons_zero]
          clear hHeld
          refine wpAnyH_done (by kernel_rfl) ?_ _
          obtain ⟨⟨c00, c01⟩, c02⟩ := P0_7.out
          obtain ⟨⟨c10, c11⟩, c12⟩ := P1_7.out
          obtain ⟨⟨r0, r1, r2, r3⟩, r4⟩ := R_7.out
          go_wp2_with fail
          refine (F3.out _).mono ?_
          rintro e w8 ⟨rfl, hb⟩
          have B8 := Lib.hid (belNext B7.out hb)
          have P0_8 := Lib.hid (P0_7.out.next hb)
          have P1_8 := Lib.hid (P1_7.out.next hb)
          have R_8 := Lib.hid (R_7.out.next hb)
          clear hb c00 c01 c02 c10 c11 c12 r0 r1 r2 r3 r4
          obtain ⟨⟨c00, c01⟩, c02⟩ := P0_8.out
          obtain ⟨⟨c10, c11⟩, c12⟩ := P1_8.out
          obtain ⟨⟨r0, r1, r2, r3⟩, r4⟩ := R_8.out
          go_wp2_with fail
          refine (F4.out _).mono ?_
          rintro e w9 ⟨rfl, hb⟩
          have B9 := Lib.hid (belNext B8.out hb)
          have P0_9 := Lib.hid (P0_8.out.next hb)
          have P1_9 := Lib.hid (P1_8.out.next hb)
          have R_9 := Lib.hid (R_8.out.next hb)
          clear hb c00 c01 c02 c10 c11 c12 r0 r1 r2 r3 r4
          obtain ⟨⟨c00, c01⟩, c02⟩ := P0_9.out
          obtain ⟨⟨c10, c11⟩, c12⟩ := P1_9.out
          obtain ⟨⟨r0, r1, r2, r3⟩, r4⟩ := R_9.out
          go_wp2_with fail
          refine wp_region_held_drew (S := fun w' => (w'.cell? ⟨w.heap.size, 0, none⟩ = some (.float .f32 l) ∧ w'.cell? ⟨w.heap.size, 1, none⟩ = some (.float .f32 h)) ∧ (w'.cell? ⟨w.heap.size + 1, 0, none⟩ = some (.float .f32 l') ∧ w'.cell? ⟨w.heap.size + 1, 1, none⟩ = some (.float .f32 h'))) (by kernel_rfl) ⟨P0_9.out.1, P1_9.out.1⟩ (fun hHeld => ?_)
          clear c00 c01 c02 c10 c11 c12 r0 r1 r2 r3 r4
          refine wpAnyH_take (i := 0) (v := ?_) rfl (by kernel_rfl) (by kernel_rfl) (by kernel_rfl) (fun _ _ _ h => h) (Or.inl ⟨by rfl, ?_⟩) (by assumption) ?_
          rotate_left
          · (intro w hSw; (try dsimp only at hSw); go_simp; (try with_reducible rfl))
          try simp only [Act.put, List.setIfInBounds_toArray, List.set_cons_zero, List.set_cons_succ, List.getElem_toArray, List.getElem_cons_succ, List.getElem_cons_zero]
          refine wpAnyH_take (i := 1) (v := ?_) rfl (by kernel_rfl) (by kernel_rfl) (by kernel_rfl) (fun _ _ _ h => h) (Or.inl ⟨by rfl, ?_⟩) (by assumption) ?_
          rotate_left
          · (intro w hSw; (try dsimp only at hSw); go_simp; (try with_reducible rfl))
          try simp only [Act.put, List.setIfInBounds_toArray, List.set_cons_zero, List.set_cons_succ, List.getElem_toArray, List.getElem_cons_succ, List.getElem_cons_zero]
          refine wpAnyH_take (i := 3) (v := ?_) rfl (by kernel_rfl) (by kernel_rfl) (by kernel_rfl) (fun _ _ _ h => h) (Or.inl ⟨by rfl, ?_⟩) (by assumption) ?_
          rotate_left
          · (intro w hSw; (try dsimp only at hSw); go_simp; (try with_reducible rfl))
          try simp only [Act.put, List.setIfInBounds_toArray, List.set_cons_zero, List.set_cons_succ, List.getElem_toArray, List.getElem_cons_succ, List.getElem_cons_zero]
          refine wpAnyH_take (i := 4) (v := ?_) rfl (by kernel_rfl) (by kernel_rfl) (by kernel_rfl) (fun _ _ _ h => h) (Or.inl ⟨by rfl, ?_⟩) (by assumption) ?_
          rotate_left
          · (intro w hSw; (try dsimp only at hSw); go_simp; (try with_reducible rfl))
          try simp only [Act.put, List.setIfInBounds_toArray, List.set_cons_zero, List.set_cons_succ, List.getElem_toArray, List.getElem_cons_succ, List.getElem_cons_zero]
          refine wpAnyH_ready (rs := [2]) (by kernel_rfl) (by simp) ?_
          refine AllReadyH.cons rfl (fun K hK => ?_) AllReadyH.nil
          go_simp
          refine (OH.out w9.drew).mono ?_
          rintro e w10 ⟨S1, A1, n1, c1, rfl, hz, hb0⟩
          have hb : Below w9.heap.size w9 w10 := belDrew hb0
          refine hK.out _ _ ⟨(P0_9.out.next hb).1, (P1_9.out.next hb).1⟩ (fun hHeld => ?_)
          clear hK K hb0
          have Za_10 := Lib.hid hz
          clear hz
          have B10 := Lib.hid (belNext B9.out hb)
          have P0_10 := Lib.hid (P0_9.out.next hb)
          have P1_10 := Lib.hid (P1_9.out.next hb)
          have R_10 := Lib.hid (R_9.out.next hb)
          clear hb
          try simp only [Act.put, List.setIfInBounds_toArray, List.set_cons_zero, List.set_cons_succ, List.getElem_toArray, List.getElem_cons_succ, List.getElem_cons_zero]
          refine wpAnyH_ready (rs := [5]) (by kernel_rfl) (by simp) ?_
          refine AllReadyH.cons rfl (fun K hK => ?_) AllReadyH.nil
          go_simp
          refine (OG.out w10).mono ?_
          rintro e w11 ⟨S2, A2, n2, c2, rfl, hz, hb0⟩
          have hb : Below w10.heap.size w10 w11 := hb0
          refine hK.out _ _ ⟨(P0_10.out.next hb).1, (P1_10.out.next hb).1⟩ (fun hHeld => ?_)
          clear hK K hb0
          have Zb_11 := Lib.hid hz
          clear hz
          have B11 := Lib.hid (belNext B10.out hb)
          have P0_11 := Lib.hid (P0_10.out.next hb)
          have P1_11 := Lib.hid (P1_10.out.next hb)
          have R_11 := Lib.hid (R_10.out.next hb)
          have Za_11 := Lib.hid (Za_10.out.next hb)
          clear hb
          try simp only [Act.put, List.setIfInBounds_toArray, List.set_cons_zero, List.set_cons_succ, List.getElem_toArray, List.getElem_cons_succ, List.getElem_cons_zero]
          refine wpAnyH_ready (rs := [6]) (by kernel_rfl) (by simp) ?_
          refine AllReadyH.cons rfl (fun K hK => ?_) AllReadyH.nil
          go_simp
          refine (AH.out S1 S2 A1 A2 n1 c1 n2 c2 w11 Za_11.out Zb_11.out).mono ?_
          rintro e w12 ⟨S3, A3, n3, c3, rfl, hz, hn3, hb0⟩
          have hb : Below w11.heap.size w11 w12 := hb0
          refine hK.out _ _ ⟨(P0_11.out.next hb).1, (P1_11.out.next hb).1⟩ (fun hHeld => ?_)
          clear hK K hb0
          have N3 := Lib.hid hn3
          clear hn3
          have Zc_12 := Lib.hid hz
          clear hz
          have B12 := Lib.hid (belNext B11.out hb)
          have P0_12 := Lib.hid (P0_11.out.next hb)
          have P1_12 := Lib.hid (P1_11.out.next hb)
          have R_12 := Lib.hid (R_11.out.next hb)
          have Za_12 := Lib.hid (Za_11.out.next hb)
          have Zb_12 := Lib.hid (Zb_11.out.next hb)
          clear hb
          try simp only [Act.put, List.setIfInBounds_toArray, List.set_cons_zero, List.set_cons_succ, List.getElem_toArray, List.getElem_cons_succ, List.getElem_cons_zero]
          refine wpAnyH_ready (rs := [7]) (by kernel_rfl) (by simp) ?_
          refine AllReadyH.cons rfl (fun K hK => ?_) AllReadyH.nil
          go_simp
          refine (upV_any h h' S3 A3 n3 c3 w12 Zc_12.out N3.out).mono ?_
          rintro e w13 ⟨rfl, hb0⟩
          have hb : Below w12.heap.size w12 w13 := hb0
          refine hK.out _ _ ⟨(P0_12.out.next hb).1, (P1_12.out.next hb).1⟩ (fun hHeld => ?_)
          clear hK K hb0
          rw [← HV.out.2]
          have B13 := Lib.hid (belNext B12.out hb)
          have P0_13 := Lib.hid (P0_12.out.next hb)
          have P1_13 := Lib.hid (P1_12.out.next hb)
          have R_13 := Lib.hid (R_12.out.next hb)
          have Za_13 := Lib.hid (Za_12.out.next hb)
          have Zb_13 := Lib.hid (Zb_12.out.next hb)
          have Zc_13 := Lib.hid (Zc_12.out.next hb)
          clear hb
          try simp only [Act.put, List.setIfInBounds_toArray, List.set_cons_zero, List.set_cons_succ, List.getElem_toArray, List.getElem_cons_succ, List.getElem_cons_zero]
          refine wpAnyH_ready (rs := [8]) (by kernel_rfl) (by simp) ?_
          refine AllReadyH.cons rfl (fun K hK => ?_) AllReadyH.nil
          go_simp
          refine hK.out _ _ hHeld (fun hHeld => ?_)
          clear hK K
          try simp only [Act.put, List.setIfInBounds_toArray, List.set_cons_zero, List.set_cons_succ, List.getElem_toArray, List.getElem_cons_succ, List.getElem_cons_zero]
          clear hHeld
          refine wpAnyH_done (by kernel_rfl) ?_ _
          obtain ⟨⟨c00, c01⟩, c02⟩ := P0_13.out
          obtain ⟨⟨c10, c11⟩, c12⟩ := P1_13.out
          obtain ⟨⟨r0, r1, r2, r3⟩, r4⟩ := R_13.out
          go_wp2_with fail
          refine (MK.out _).mono ?_
          rintro e w14 ⟨rfl, hb⟩
          have B14 := Lib.hid (belNext B13.out hb)
          have P0_14 := Lib.hid (P0_13.out.next hb)
          have P1_14 := Lib.hid (P1_13.out.next hb)
          have R_14 := Lib.hid (R_13.out.next hb)
          clear hb c00 c01 c02 c10 c11 c12 r0 r1 r2 r3 r4
          obtain ⟨⟨c00, c01⟩, c02⟩ := P0_14.out
          obtain ⟨⟨c10, c11⟩, c12⟩ := P1_14.out
          obtain ⟨⟨r0, r1, r2, r3⟩, r4⟩ := R_14.out
          go_wp2_with fail
          refine bodyPost_ret (v := .agg #[.float .f32 z1, .float .f32 z2]) (by simp [results, Tryz.results22, go_sem, r0, r1]) rfl ⟨rfl, ?_⟩
          repeat (first | exact B14.out | exact Below.refl _ _ | refine Below.drew ?_ | refine Below.alloc ?_ (by first | (simp; done) | (simp; omega)) _ | refine Below.setCell ?_ (by first | (simp; done) | (simp; omega)) _)
        · have f4 : fin32 h' = false := by simpa using f4
          have e1 : sV l l' 1 4286578688 = wz (sW l l' 1) := by unfold sV; rw [if_pos ⟨f1, f2⟩, sW_wz]
          have e2 : sV h h' 2 2139095040 = wz 2139095040 := by unfold sV; rw [if_neg (by rw [f4]; simp), wz_id Pl.inf]
          rw [e1, e2]
          have F1 : Hid (∀ w, Calls Tryz.prog 39 #[.float .f32 l] w fun e w' => e = .returned (.bool true) ∧ Below w.heap.size w w') := Lib.hid (fun w => by rw [← f1]; exact finI_any l w pl.1)
          have F2 : Hid (∀ w, Calls Tryz.prog 39 #[.float .f32 l'] w fun e w' => e = .returned (.bool true) ∧ Below w.heap.size w w') := Lib.hid (fun w => by rw [← f2]; exact finI_any l' w plq.1)
          have F3 : Hid (∀ w, Calls Tryz.prog 39 #[.float .f32 h] w fun e w' => e = .returned (.bool true) ∧ Below w.heap.size w w') := Lib.hid (fun w => by rw [← f3]; exact finI_any h w ph.1)
          have F4 : Hid (∀ w, Calls Tryz.prog 39 #[.float .f32 h'] w fun e w' => e = .returned (.bool false) ∧ Below w.heap.size w w') := Lib.hid (fun w => by rw [← f4]; exact finI_any h' w phq.1)
          have OL : Hid (∀ w, _) := Lib.hid (fun w => ofV_any l w pl.1 f1)
          have OM : Hid (∀ w, _) := Lib.hid (fun w => ofV_any l' w plq.1 f2)
          have AL : Hid (∀ Sx Sy Ax Ay a b c d w, _ → _ → _) := Lib.hid (fun Sx Sy Ax Ay a b c d w u v => addOf_any l l' Sx Sy Ax Ay a b c d w f1 f2 u v)
          obtain ⟨v1, hv1⟩ : ∃ v, v = sW l l' 1 := ⟨_, rfl⟩
          obtain ⟨v2, hv2⟩ : ∃ v, v = 2139095040 := ⟨_, rfl⟩
          have l1 : v1 < 4294967296 := by rw [hv1]; exact sW_lt _ _ _
          have l2 : v2 < 4294967296 := by rw [hv2]; omega
          have MK : Hid (∀ w, _) := Lib.hid (fun w => specMake_any v1 v2 w l1 l2)
          obtain ⟨z1, hz1⟩ : ∃ z, z = wz v1 := ⟨_, rfl⟩
          obtain ⟨z2, hz2⟩ : ∃ z, z = wz v2 := ⟨_, rfl⟩
          rw [← hz1, ← hz2] at MK
          rw [← hv1, ← hv2, ← hz1, ← hz2]
          have HV := Lib.hid (And.intro hv1 hv2)
          clear e1 e2 l1 l2 hz1 hz2 pl ph plq phq f1 f3 hv1 hv2 f2 f4
          obtain ⟨w1, hw1, hp0, hp1, hr_, hB_⟩ := ib_2r w l h l' h' 25 25
          have P0_1 := Lib.hid hp0
          have P1_1 := Lib.hid hp1
          have R_1 := Lib.hid hr_
          have hst := store_float Tryz.prog
          have B1 := Lib.hid hB_
          have Hw := Lib.hid hw1
          clear hw1 hp0 hp1 hr_ hB_
          obtain ⟨⟨c00, c01⟩, c02⟩ := P0_1.out
          obtain ⟨⟨c10, c11⟩, c12⟩ := P1_1.out
          obtain ⟨⟨r0, r1, r2, r3⟩, r4⟩ := R_1.out
          go_enter Tryz.func22, Tryz.ntmps22
          go_wp2_with fail
          rw [← Hw.out]
          refine (huge_any _).mono ?_
          rintro e w9 ⟨rfl, rfl⟩
          go_wp2_with fail
          refine (huge_any _).mono ?_
          rintro e w9 ⟨rfl, rfl⟩
          go_wp2_with fail
          refine (F1.out _).mono ?_
          rintro e w2 ⟨rfl, hb⟩
          have B2 := Lib.hid (belNext B1.out hb)
          have P0_2 := Lib.hid (P0_1.out.next hb)
          have P1_2 := Lib.hid (P1_1.out.next hb)
          have R_2 := Lib.hid (R_1.out.next hb)
          clear hb c00 c01 c02 c10 c11 c12 r0 r1 r2 r3 r4
          obtain ⟨⟨c00, c01⟩, c02⟩ := P0_2.out
          obtain ⟨⟨c10, c11⟩, c12⟩ := P1_2.out
          obtain ⟨⟨r0, r1, r2, r3⟩, r4⟩ := R_2.out
          go_wp2_with fail
          refine (F2.out _).mono ?_
          rintro e w3 ⟨rfl, hb⟩
          have B3 := Lib.hid (belNext B2.out hb)
          have P0_3 := Lib.hid (P0_2.out.next hb)
          have P1_3 := Lib.hid (P1_2.out.next hb)
          have R_3 := Lib.hid (R_2.out.next hb)
          clear hb c00 c01 c02 c10 c11 c12 r0 r1 r2 r3 r4
          obtain ⟨⟨c00, c01⟩, c02⟩ := P0_3.out
          obtain ⟨⟨c10, c11⟩, c12⟩ := P1_3.out
          obtain ⟨⟨r0, r1, r2, r3⟩, r4⟩ := R_3.out
          go_wp2_with fail
          refine wp_region_held_drew (S := fun w' => (w'.cell? ⟨w.heap.size, 0, none⟩ = some (.float .f32 l) ∧ w'.cell? ⟨w.heap.size, 1, none⟩ = some (.float .f32 h)) ∧ (w'.cell? ⟨w.heap.size + 1, 0, none⟩ = some (.float .f32 l') ∧ w'.cell? ⟨w.heap.size + 1, 1, none⟩ = some (.float .f32 h'))) (by kernel_rfl) ⟨P0_3.out.1, P1_3.out.1⟩ (fun hHeld => ?_)
          clear c00 c01 c02 c10 c11 c12 r0 r1 r2 r3 r4
          refine wpAnyH_take (i := 0) (v := ?_) rfl (by kernel_rfl) (by kernel_rfl) (by kernel_rfl) (fun _ _ _ h => h) (Or.inl ⟨by rfl, ?_⟩) (by assumption) ?_
          rotate_left
          · (intro w hSw; (try dsimp only at hSw); go_simp; (try with_reducible rfl))
          try simp only [Act.put, List.setIfInBounds_toArray, List.set_cons_zero, List.set_cons_succ, List.getElem_toArray, List.getElem_cons_succ, List.getElem_cons_zero]
          refine wpAnyH_take (i := 1) (v := ?_) rfl (by kernel_rfl) (by kernel_rfl) (by kernel_rfl) (fun _ _ _ h => h) (Or.inl ⟨by rfl, ?_⟩) (by assumption) ?_
          rotate_left
          · (intro w hSw; (try dsimp only at hSw); go_simp; (try with_reducible rfl))
          try simp only [Act.put, List.setIfInBounds_toArray, List.set_cons_zero, List.set_cons_succ, List.getElem_toArray, List.getElem_cons_succ, List.getElem_cons_zero]
          refine wpAnyH_take (i := 3) (v := ?_) rfl (by kernel_rfl) (by kernel_rfl) (by kernel_rfl) (fun _ _ _ h => h) (Or.inl ⟨by rfl, ?_⟩) (by assumption) ?_
          rotate_left
          · (intro w hSw; (try dsimp only at hSw); go_simp; (try with_reducible rfl))
          try simp only [Act.put, List.setIfInBounds_toArray, List.set_cons_zero, List.set_cons_succ, List.getElem_toArray, List.getElem_cons_succ, List.getElem_cons_zero]
          refine wpAnyH_take (i := 4) (v := ?_) rfl (by kernel_rfl) (by kernel_rfl) (by kernel_rfl) (fun _ _ _ h => h) (Or.inl ⟨by rfl, ?_⟩) (by assumption) ?_
          rotate_left
          · (intro w hSw; (try dsimp only at hSw); go_simp; (try with_reducible rfl))
          try simp only [Act.put, List.setIfInBounds_toArray, List.set_cons_zero, List.set_cons_succ, List.getElem_toArray, List.getElem_cons_succ, List.getElem_cons_zero]
          refine wpAnyH_ready (rs := [2]) (by kernel_rfl) (by simp) ?_
          refine AllReadyH.cons rfl (fun K hK => ?_) AllReadyH.nil
          go_simp
          refine (OL.out w3.drew).mono ?_
          rintro e w4 ⟨S1, A1, n1, c1, rfl, hz, hb0⟩
          have hb : Below w3.heap.size w3 w4 := belDrew hb0
          refine hK.out _ _ ⟨(P0_3.out.next hb).1, (P1_3.out.next hb).1⟩ (fun hHeld => ?_)
          clear hK K hb0
          have Za_4 := Lib.hid hz
          clear hz
          have B4 := Lib.hid (belNext B3.out hb)
          have P0_4 := Lib.hid (P0_3.out.next hb)
          have P1_4 := Lib.hid (P1_3.out.next hb)
          have R_4 := Lib.hid (R_3.out.next hb)
          clear hb
          try simp only [Act.put, List.setIfInBounds_toArray, List.set_cons_zero, List.set_cons_succ, List.getElem_toArray, List.getElem_cons_succ, List.getElem_cons_zero]
          refine wpAnyH_ready (rs := [5]) (by kernel_rfl) (by simp) ?_
          refine AllReadyH.cons rfl (fun K hK => ?_) AllReadyH.nil
          go_simp
          refine (OM.out w4).mono ?_
          rintro e w5 ⟨S2, A2, n2, c2, rfl, hz, hb0⟩
          have hb : Below w4.heap.size w4 w5 := hb0
          refine hK.out _ _ ⟨(P0_4.out.next hb).1, (P1_4.out.next hb).1⟩ (fun hHeld => ?_)
          clear hK K hb0
          have Zb_5 := Lib.hid hz
          clear hz
          have B5 := Lib.hid (belNext B4.out hb)
          have P0_5 := Lib.hid (P0_4.out.next hb)
          have P1_5 := Lib.hid (P1_4.out.next hb)
          have R_5 := Lib.hid (R_4.out.next hb)
          have Za_5 := Lib.hid (Za_4.out.next hb)
          clear hb
          try simp only [Act.put, List.setIfInBounds_toArray, List.set_cons_zero, List.set_cons_succ, List.getElem_toArray, List.getElem_cons_succ, List.getElem_cons_zero]
          refine wpAnyH_ready (rs := [6]) (by kernel_rfl) (by simp) ?_
          refine AllReadyH.cons rfl (fun K hK => ?_) AllReadyH.nil
          go_simp
          refine (AL.out S1 S2 A1 A2 n1 c1 n2 c2 w5 Za_5.out Zb_5.out).mono ?_
          rintro e w6 ⟨S3, A3, n3, c3, rfl, hz, hn3, hb0⟩
          have hb : Below w5.heap.size w5 w6 := hb0
          refine hK.out _ _ ⟨(P0_5.out.next hb).1, (P1_5.out.next hb).1⟩ (fun hHeld => ?_)
          clear hK K hb0
          have N3 := Lib.hid hn3
          clear hn3
          have Zc_6 := Lib.hid hz
          clear hz
          have B6 := Lib.hid (belNext B5.out hb)
          have P0_6 := Lib.hid (P0_5.out.next hb)
          have P1_6 := Lib.hid (P1_5.out.next hb)
          have R_6 := Lib.hid (R_5.out.next hb)
          have Za_6 := Lib.hid (Za_5.out.next hb)
          have Zb_6 := Lib.hid (Zb_5.out.next hb)
          clear hb
          try simp only [Act.put, List.setIfInBounds_toArray, List.set_cons_zero, List.set_cons_succ, List.getElem_toArray, List.getElem_cons_succ, List.getElem_cons_zero]
          refine wpAnyH_ready (rs := [7]) (by kernel_rfl) (by simp) ?_
          refine AllReadyH.cons rfl (fun K hK => ?_) AllReadyH.nil
          go_simp
          refine (downV_any l l' S3 A3 n3 c3 w6 Zc_6.out N3.out).mono ?_
          rintro e w7 ⟨rfl, hb0⟩
          have hb : Below w6.heap.size w6 w7 := hb0
          refine hK.out _ _ ⟨(P0_6.out.next hb).1, (P1_6.out.next hb).1⟩ (fun hHeld => ?_)
          clear hK K hb0
          rw [← HV.out.1]
          have B7 := Lib.hid (belNext B6.out hb)
          have P0_7 := Lib.hid (P0_6.out.next hb)
          have P1_7 := Lib.hid (P1_6.out.next hb)
          have R_7 := Lib.hid (R_6.out.next hb)
          have Za_7 := Lib.hid (Za_6.out.next hb)
          have Zb_7 := Lib.hid (Zb_6.out.next hb)
          have Zc_7 := Lib.hid (Zc_6.out.next hb)
          clear hb
          try simp only [Act.put, List.setIfInBounds_toArray, List.set_cons_zero, List.set_cons_succ, List.getElem_toArray, List.getElem_cons_succ, List.getElem_cons_zero]
          refine wpAnyH_ready (rs := [8]) (by kernel_rfl) (by simp) ?_
          refine AllReadyH.cons rfl (fun K hK => ?_) AllReadyH.nil
          go_simp
          refine hK.out _ _ hHeld (fun hHeld => ?_)
          clear hK K
          try simp only [Act.put, List.setIfInBounds_toArray, List.set_cons_zero, List.set_cons_succ, List.getElem_toArray, List.getElem_cons_succ, List.getElem_cons_zero]
          clear hHeld
          refine wpAnyH_done (by kernel_rfl) ?_ _
          obtain ⟨⟨c00, c01⟩, c02⟩ := P0_7.out
          obtain ⟨⟨c10, c11⟩, c12⟩ := P1_7.out
          obtain ⟨⟨r0, r1, r2, r3⟩, r4⟩ := R_7.out
          go_wp2_with fail
          refine (F3.out _).mono ?_
          rintro e w8 ⟨rfl, hb⟩
          have B8 := Lib.hid (belNext B7.out hb)
          have P0_8 := Lib.hid (P0_7.out.next hb)
          have P1_8 := Lib.hid (P1_7.out.next hb)
          have R_8 := Lib.hid (R_7.out.next hb)
          clear hb c00 c01 c02 c10 c11 c12 r0 r1 r2 r3 r4
          obtain ⟨⟨c00, c01⟩, c02⟩ := P0_8.out
          obtain ⟨⟨c10, c11⟩, c12⟩ := P1_8.out
          obtain ⟨⟨r0, r1, r2, r3⟩, r4⟩ := R_8.out
          go_wp2_with fail
          refine (F4.out _).mono ?_
          rintro e w9 ⟨rfl, hb⟩
          have B9 := Lib.hid (belNext B8.out hb)
          have P0_9 := Lib.hid (P0_8.out.next hb)
          have P1_9 := Lib.hid (P1_8.out.next hb)
          have R_9 := Lib.hid (R_8.out.next hb)
          clear hb c00 c01 c02 c10 c11 c12 r0 r1 r2 r3 r4
          obtain ⟨⟨c00, c01⟩, c02⟩ := P0_9.out
          obtain ⟨⟨c10, c11⟩, c12⟩ := P1_9.out
          obtain ⟨⟨r0, r1, r2, r3⟩, r4⟩ := R_9.out
          go_wp2_with fail
          rw [← HV.out.2]
          refine (MK.out _).mono ?_
          rintro e w10 ⟨rfl, hb⟩
          have B10 := Lib.hid (belNext B9.out hb)
          have P0_10 := Lib.hid (P0_9.out.next hb)
          have P1_10 := Lib.hid (P1_9.out.next hb)
          have R_10 := Lib.hid (R_9.out.next hb)
          clear hb c00 c01 c02 c10 c11 c12 r0 r1 r2 r3 r4
          obtain ⟨⟨c00, c01⟩, c02⟩ := P0_10.out
          obtain ⟨⟨c10, c11⟩, c12⟩ := P1_10.out
          obtain ⟨⟨r0, r1, r2, r3⟩, r4⟩ := R_10.out
          go_wp2_with fail
          refine bodyPost_ret (v := .agg #[.float .f32 z1, .float .f32 z2]) (by simp [results, Tryz.results22, go_sem, r0, r1]) rfl ⟨rfl, ?_⟩
          repeat (first | exact B10.out | exact Below.refl _ _ | refine Below.drew ?_ | refine Below.alloc ?_ (by first | (simp; done) | (simp; omega)) _ | refine Below.setCell ?_ (by first | (simp; done) | (simp; omega)) _)
      · have f3 : fin32 h = false := by simpa using f3
        have e1 : sV l l' 1 4286578688 = wz (sW l l' 1) := by unfold sV; rw [if_pos ⟨f1, f2⟩, sW_wz]
        have e2 : sV h h' 2 2139095040 = wz 2139095040 := by unfold sV; rw [if_neg (by rw [f3]; simp), wz_id Pl.inf]
        rw [e1, e2]
        have F1 : Hid (∀ w, Calls Tryz.prog 39 #[.float .f32 l] w fun e w' => e = .returned (.bool true) ∧ Below w.heap.size w w') := Lib.hid (fun w => by rw [← f1]; exact finI_any l w pl.1)
        have F2 : Hid (∀ w, Calls Tryz.prog 39 #[.float .f32 l'] w fun e w' => e = .returned (.bool true) ∧ Below w.heap.size w w') := Lib.hid (fun w => by rw [← f2]; exact finI_any l' w plq.1)
        have F3 : Hid (∀ w, Calls Tryz.prog 39 #[.float .f32 h] w fun e w' => e = .returned (.bool false) ∧ Below w.heap.size w w') := Lib.hid (fun w => by rw [← f3]; exact finI_any h w ph.1)
        have OL : Hid (∀ w, _) := Lib.hid (fun w => ofV_any l w pl.1 f1)
        have OM : Hid (∀ w, _) := Lib.hid (fun w => ofV_any l' w plq.1 f2)
        have AL : Hid (∀ Sx Sy Ax Ay a b c d w, _ → _ → _) := Lib.hid (fun Sx Sy Ax Ay a b c d w u v => addOf_any l l' Sx Sy Ax Ay a b c d w f1 f2 u v)
        obtain ⟨v1, hv1⟩ : ∃ v, v = sW l l' 1 := ⟨_, rfl⟩
        obtain ⟨v2, hv2⟩ : ∃ v, v = 2139095040 := ⟨_, rfl⟩
        have l1 : v1 < 4294967296 := by rw [hv1]; exact sW_lt _ _ _
        have l2 : v2 < 4294967296 := by rw [hv2]; omega
        have MK : Hid (∀ w, _) := Lib.hid (fun w => specMake_any v1 v2 w l1 l2)
        obtain ⟨z1, hz1⟩ : ∃ z, z = wz v1 := ⟨_, rfl⟩
        obtain ⟨z2, hz2⟩ : ∃ z, z = wz v2 := ⟨_, rfl⟩
        rw [← hz1, ← hz2] at MK
        rw [← hv1, ← hv2, ← hz1, ← hz2]
        have HV := Lib.hid (And.intro hv1 hv2)
        clear e1 e2 l1 l2 hz1 hz2 pl ph plq phq f1 f3 hv1 hv2 f2
        obtain ⟨w1, hw1, hp0, hp1, hr_, hB_⟩ := ib_2r w l h l' h' 25 25
        have P0_1 := Lib.hid hp0
        have P1_1 := Lib.hid hp1
        have R_1 := Lib.hid hr_
        have hst := store_float Tryz.prog
        have B1 := Lib.hid hB_
        have Hw := Lib.hid hw1
        clear hw1 hp0 hp1 hr_ hB_
        obtain ⟨⟨c00, c01⟩, c02⟩ := P0_1.out
        obtain ⟨⟨c10, c11⟩, c12⟩ := P1_1.out
        obtain ⟨⟨r0, r1, r2, r3⟩, r4⟩ := R_1.out
        go_enter Tryz.func22, Tryz.ntmps22
        go_wp2_with fail
        rw [← Hw.out]
        refine (huge_any _).mono ?_
        rintro e w9 ⟨rfl, rfl⟩
        go_wp2_with fail
        refine (huge_any _).mono ?_
        rintro e w9 ⟨rfl, rfl⟩
        go_wp2_with fail
        refine (F1.out _).mono ?_
        rintro e w2 ⟨rfl, hb⟩
        have B2 := Lib.hid (belNext B1.out hb)
        have P0_2 := Lib.hid (P0_1.out.next hb)
        have P1_2 := Lib.hid (P1_1.out.next hb)
        have R_2 := Lib.hid (R_1.out.next hb)
        clear hb c00 c01 c02 c10 c11 c12 r0 r1 r2 r3 r4
        obtain ⟨⟨c00, c01⟩, c02⟩ := P0_2.out
        obtain ⟨⟨c10, c11⟩, c12⟩ := P1_2.out
        obtain ⟨⟨r0, r1, r2, r3⟩, r4⟩ := R_2.out
        go_wp2_with fail
        refine (F2.out _).mono ?_
        rintro e w3 ⟨rfl, hb⟩
        have B3 := Lib.hid (belNext B2.out hb)
        have P0_3 := Lib.hid (P0_2.out.next hb)
        have P1_3 := Lib.hid (P1_2.out.next hb)
        have R_3 := Lib.hid (R_2.out.next hb)
        clear hb c00 c01 c02 c10 c11 c12 r0 r1 r2 r3 r4
        obtain ⟨⟨c00, c01⟩, c02⟩ := P0_3.out
        obtain ⟨⟨c10, c11⟩, c12⟩ := P1_3.out
        obtain ⟨⟨r0, r1, r2, r3⟩, r4⟩ := R_3.out
        go_wp2_with fail
        refine wp_region_held_drew (S := fun w' => (w'.cell? ⟨w.heap.size, 0, none⟩ = some (.float .f32 l) ∧ w'.cell? ⟨w.heap.size, 1, none⟩ = some (.float .f32 h)) ∧ (w'.cell? ⟨w.heap.size + 1, 0, none⟩ = some (.float .f32 l') ∧ w'.cell? ⟨w.heap.size + 1, 1, none⟩ = some (.float .f32 h'))) (by kernel_rfl) ⟨P0_3.out.1, P1_3.out.1⟩ (fun hHeld => ?_)
        clear c00 c01 c02 c10 c11 c12 r0 r1 r2 r3 r4
        refine wpAnyH_take (i := 0) (v := ?_) rfl (by kernel_rfl) (by kernel_rfl) (by kernel_rfl) (fun _ _ _ h => h) (Or.inl ⟨by rfl, ?_⟩) (by assumption) ?_
        rotate_left
        · (intro w hSw; (try dsimp only at hSw); go_simp; (try with_reducible rfl))
        try simp only [Act.put, List.setIfInBounds_toArray, List.set_cons_zero, List.set_cons_succ, List.getElem_toArray, List.getElem_cons_succ, List.getElem_cons_zero]
        refine wpAnyH_take (i := 1) (v := ?_) rfl (by kernel_rfl) (by kernel_rfl) (by kernel_rfl) (fun _ _ _ h => h) (Or.inl ⟨by rfl, ?_⟩) (by assumption) ?_
        rotate_left
        · (intro w hSw; (try dsimp only at hSw); go_simp; (try with_reducible rfl))
        try simp only [Act.put, List.setIfInBounds_toArray, List.set_cons_zero, List.set_cons_succ, List.getElem_toArray, List.getElem_cons_succ, List.getElem_cons_zero]
        refine wpAnyH_take (i := 3) (v := ?_) rfl (by kernel_rfl) (by kernel_rfl) (by kernel_rfl) (fun _ _ _ h => h) (Or.inl ⟨by rfl, ?_⟩) (by assumption) ?_
        rotate_left
        · (intro w hSw; (try dsimp only at hSw); go_simp; (try with_reducible rfl))
        try simp only [Act.put, List.setIfInBounds_toArray, List.set_cons_zero, List.set_cons_succ, List.getElem_toArray, List.getElem_cons_succ, List.getElem_cons_zero]
        refine wpAnyH_take (i := 4) (v := ?_) rfl (by kernel_rfl) (by kernel_rfl) (by kernel_rfl) (fun _ _ _ h => h) (Or.inl ⟨by rfl, ?_⟩) (by assumption) ?_
        rotate_left
        · (intro w hSw; (try dsimp only at hSw); go_simp; (try with_reducible rfl))
        try simp only [Act.put, List.setIfInBounds_toArray, List.set_cons_zero, List.set_cons_succ, List.getElem_toArray, List.getElem_cons_succ, List.getElem_cons_zero]
        refine wpAnyH_ready (rs := [2]) (by kernel_rfl) (by simp) ?_
        refine AllReadyH.cons rfl (fun K hK => ?_) AllReadyH.nil
        go_simp
        refine (OL.out w3.drew).mono ?_
        rintro e w4 ⟨S1, A1, n1, c1, rfl, hz, hb0⟩
        have hb : Below w3.heap.size w3 w4 := belDrew hb0
        refine hK.out _ _ ⟨(P0_3.out.next hb).1, (P1_3.out.next hb).1⟩ (fun hHeld => ?_)
        clear hK K hb0
        have Za_4 := Lib.hid hz
        clear hz
        have B4 := Lib.hid (belNext B3.out hb)
        have P0_4 := Lib.hid (P0_3.out.next hb)
        have P1_4 := Lib.hid (P1_3.out.next hb)
        have R_4 := Lib.hid (R_3.out.next hb)
        clear hb
        try simp only [Act.put, List.setIfInBounds_toArray, List.set_cons_zero, List.set_cons_succ, List.getElem_toArray, List.getElem_cons_succ, List.getElem_cons_zero]
        refine wpAnyH_ready (rs := [5]) (by kernel_rfl) (by simp) ?_
        refine AllReadyH.cons rfl (fun K hK => ?_) AllReadyH.nil
        go_simp
        refine (OM.out w4).mono ?_
        rintro e w5 ⟨S2, A2, n2, c2, rfl, hz, hb0⟩
        have hb : Below w4.heap.size w4 w5 := hb0
        refine hK.out _ _ ⟨(P0_4.out.next hb).1, (P1_4.out.next hb).1⟩ (fun hHeld => ?_)
        clear hK K hb0
        have Zb_5 := Lib.hid hz
        clear hz
        have B5 := Lib.hid (belNext B4.out hb)
        have P0_5 := Lib.hid (P0_4.out.next hb)
        have P1_5 := Lib.hid (P1_4.out.next hb)
        have R_5 := Lib.hid (R_4.out.next hb)
        have Za_5 := Lib.hid (Za_4.out.next hb)
        clear hb
        try simp only [Act.put, List.setIfInBounds_toArray, List.set_cons_zero, List.set_cons_succ, List.getElem_toArray, List.getElem_cons_succ, List.getElem_cons_zero]
        refine wpAnyH_ready (rs := [6]) (by kernel_rfl) (by simp) ?_
        refine AllReadyH.cons rfl (fun K hK => ?_) AllReadyH.nil
        go_simp
        refine (AL.out S1 S2 A1 A2 n1 c1 n2 c2 w5 Za_5.out Zb_5.out).mono ?_
        rintro e w6 ⟨S3, A3, n3, c3, rfl, hz, hn3, hb0⟩
        have hb : Below w5.heap.size w5 w6 := hb0
        refine hK.out _ _ ⟨(P0_5.out.next hb).1, (P1_5.out.next hb).1⟩ (fun hHeld => ?_)
        clear hK K hb0
        have N3 := Lib.hid hn3
        clear hn3
        have Zc_6 := Lib.hid hz
        clear hz
        have B6 := Lib.hid (belNext B5.out hb)
        have P0_6 := Lib.hid (P0_5.out.next hb)
        have P1_6 := Lib.hid (P1_5.out.next hb)
        have R_6 := Lib.hid (R_5.out.next hb)
        have Za_6 := Lib.hid (Za_5.out.next hb)
        have Zb_6 := Lib.hid (Zb_5.out.next hb)
        clear hb
        try simp only [Act.put, List.setIfInBounds_toArray, List.set_cons_zero, List.set_cons_succ, List.getElem_toArray, List.getElem_cons_succ, List.getElem_cons_zero]
        refine wpAnyH_ready (rs := [7]) (by kernel_rfl) (by simp) ?_
        refine AllReadyH.cons rfl (fun K hK => ?_) AllReadyH.nil
        go_simp
        refine (downV_any l l' S3 A3 n3 c3 w6 Zc_6.out N3.out).mono ?_
        rintro e w7 ⟨rfl, hb0⟩
        have hb : Below w6.heap.size w6 w7 := hb0
        refine hK.out _ _ ⟨(P0_6.out.next hb).1, (P1_6.out.next hb).1⟩ (fun hHeld => ?_)
        clear hK K hb0
        rw [← HV.out.1]
        have B7 := Lib.hid (belNext B6.out hb)
        have P0_7 := Lib.hid (P0_6.out.next hb)
        have P1_7 := Lib.hid (P1_6.out.next hb)
        have R_7 := Lib.hid (R_6.out.next hb)
        have Za_7 := Lib.hid (Za_6.out.next hb)
        have Zb_7 := Lib.hid (Zb_6.out.next hb)
        have Zc_7 := Lib.hid (Zc_6.out.next hb)
        clear hb
        try simp only [Act.put, List.setIfInBounds_toArray, List.set_cons_zero, List.set_cons_succ, List.getElem_toArray, List.getElem_cons_succ, List.getElem_cons_zero]
        refine wpAnyH_ready (rs := [8]) (by kernel_rfl) (by simp) ?_
        refine AllReadyH.cons rfl (fun K hK => ?_) AllReadyH.nil
        go_simp
        refine hK.out _ _ hHeld (fun hHeld => ?_)
        clear hK K
        try simp only [Act.put, List.setIfInBounds_toArray, List.set_cons_zero, List.set_cons_succ, List.getElem_toArray, List.getElem_cons_succ, List.getElem_cons_zero]
        clear hHeld
        refine wpAnyH_done (by kernel_rfl) ?_ _
        obtain ⟨⟨c00, c01⟩, c02⟩ := P0_7.out
        obtain ⟨⟨c10, c11⟩, c12⟩ := P1_7.out
        obtain ⟨⟨r0, r1, r2, r3⟩, r4⟩ := R_7.out
        go_wp2_with fail
        refine (F3.out _).mono ?_
        rintro e w8 ⟨rfl, hb⟩
        have B8 := Lib.hid (belNext B7.out hb)
        have P0_8 := Lib.hid (P0_7.out.next hb)
        have P1_8 := Lib.hid (P1_7.out.next hb)
        have R_8 := Lib.hid (R_7.out.next hb)
        clear hb c00 c01 c02 c10 c11 c12 r0 r1 r2 r3 r4
        obtain ⟨⟨c00, c01⟩, c02⟩ := P0_8.out
        obtain ⟨⟨c10, c11⟩, c12⟩ := P1_8.out
        obtain ⟨⟨r0, r1, r2, r3⟩, r4⟩ := R_8.out
        go_wp2_with fail
        rw [← HV.out.2]
        refine (MK.out _).mono ?_
        rintro e w9 ⟨rfl, hb⟩
        have B9 := Lib.hid (belNext B8.out hb)
        have P0_9 := Lib.hid (P0_8.out.next hb)
        have P1_9 := Lib.hid (P1_8.out.next hb)
        have R_9 := Lib.hid (R_8.out.next hb)
        clear hb c00 c01 c02 c10 c11 c12 r0 r1 r2 r3 r4
        obtain ⟨⟨c00, c01⟩, c02⟩ := P0_9.out
        obtain ⟨⟨c10, c11⟩, c12⟩ := P1_9.out
        obtain ⟨⟨r0, r1, r2, r3⟩, r4⟩ := R_9.out
        go_wp2_with fail
        refine bodyPost_ret (v := .agg #[.float .f32 z1, .float .f32 z2]) (by simp [results, Tryz.results22, go_sem, r0, r1]) rfl ⟨rfl, ?_⟩
        repeat (first | exact B9.out | exact Below.refl _ _ | refine Below.drew ?_ | refine Below.alloc ?_ (by first | (simp; done) | (simp; omega)) _ | refine Below.setCell ?_ (by first | (simp; done) | (simp; omega)) _)
    · have f2 : fin32 l' = false := by simpa using f2
      by_cases f3 : fin32 h = true
      · by_cases f4 : fin32 h' = true
        · skip
          have e1 : sV l l' 1 4286578688 = wz 4286578688 := by unfold sV; rw [if_neg (by rw [f2]; simp), wz_id Pl.minf]
          have e2 : sV h h' 2 2139095040 = wz (sW h h' 2) := by unfold sV; rw [if_pos ⟨f3, f4⟩, sW_wz]
          rw [e1, e2]
          have F1 : Hid (∀ w, Calls Tryz.prog 39 #[.float .f32 l] w fun e w' => e = .returned (.bool true) ∧ Below w.heap.size w w') := Lib.hid (fun w => by rw [← f1]; exact finI_any l w pl.1)
          have F2 : Hid (∀ w, Calls Tryz.prog 39 #[.float .f32 l'] w fun e w' => e = .returned (.bool false) ∧ Below w.heap.size w w') := Lib.hid (fun w => by rw [← f2]; exact finI_any l' w plq.1)
          have F3 : Hid (∀ w, Calls Tryz.prog 39 #[.float .f32 h] w fun e w' => e = .returned (.bool true) ∧ Below w.heap.size w w') := Lib.hid (fun w => by rw [← f3]; exact finI_any h w ph.1)
          have F4 : Hid (∀ w, Calls Tryz.prog 39 #[.float .f32 h'] w fun e w' => e = .returned (.bool true) ∧ Below w.heap.size w w') := Lib.hid (fun w => by rw [← f4]; exact finI_any h' w phq.1)
          have OH : Hid (∀ w, _) := Lib.hid (fun w => ofV_any h w ph.1 f3)
          have OG : Hid (∀ w, _) := Lib.hid (fun w => ofV_any h' w phq.1 f4)
          have AH : Hid (∀ Sx Sy Ax Ay a b c d w, _ → _ → _) := Lib.hid (fun Sx Sy Ax Ay a b c d w u v => addOf_any h h' Sx Sy Ax Ay a b c d w f3 f4 u v)
          obtain ⟨v1, hv1⟩ : ∃ v, v = 4286578688 := ⟨_, rfl⟩
          obtain ⟨v2, hv2⟩ : ∃ v, v = sW h h' 2 := ⟨_, rfl⟩
          have l1 : v1 < 4294967296 := by rw [hv1]; omega
          have l2 : v2 < 4294967296 := by rw [hv2]; exact sW_lt _ _ _
          have MK : Hid (∀ w, _) := Lib.hid (fun w => specMake_any v1 v2 w l1 l2)
          obtain ⟨z1, hz1⟩ : ∃ z, z = wz v1 := ⟨_, rfl⟩
          obtain ⟨z2, hz2⟩ : ∃ z, z = wz v2 := ⟨_, rfl⟩
          rw [← hz1, ← hz2] at MK
          rw [← hv1, ← hv2, ← hz1, ← hz2]
          have HV := Lib.hid (And.intro hv1 hv2)
          clear e1 e2 l1 l2 hz1 hz2 pl ph plq phq f1 f3 hv1 hv2 f2 f4
          obtain ⟨w1, hw1, hp0, hp1, hr_, hB_⟩ := ib_2r w l h l' h' 25 25
          have P0_1 := Lib.hid hp0
          have P1_1 := Lib.hid hp1
          have R_1 := Lib.hid hr_
          have hst := store_float Tryz.prog
          have B1 := Lib.hid hB_
          have Hw := Lib.hid hw1
          clear hw1 hp0 hp1 hr_ hB_
          obtain ⟨⟨c00, c01⟩, c02⟩ := P0_1.out
          obtain ⟨⟨c10, c11⟩, c12⟩ := P1_1.out
          obtain ⟨⟨r0, r1, r2, r3⟩, r4⟩ := R_1.out
          go_enter Tryz.func22, Tryz.ntmps22
          go_wp2_with fail
          rw [← Hw.out]
          refine (huge_any _).mono ?_
          rintro e w9 ⟨rfl, rfl⟩
          go_wp2_with fail
          refine (huge_any _).mono ?_
          rintro e w9 ⟨rfl, rfl⟩
          go_wp2_with fail
          refine (F1.out _).mono ?_
          rintro e w2 ⟨rfl, hb⟩
          have B2 := Lib.hid (belNext B1.out hb)
          have P0_2 := Lib.hid (P0_1.out.next hb)
          have P1_2 := Lib.hid (P1_1.out.next hb)
          have R_2 := Lib.hid (R_1.out.next hb)
          clear hb c00 c01 c02 c10 c11 c12 r0 r1 r2 r3 r4
          obtain ⟨⟨c00, c01⟩, c02⟩ := P0_2.out
          obtain ⟨⟨c10, c11⟩, c12⟩ := P1_2.out
          obtain ⟨⟨r0, r1, r2, r3⟩, r4⟩ := R_2.out
          go_wp2_with fail
          refine (F2.out _).mono ?_
          rintro e w3 ⟨rfl, hb⟩
          have B3 := Lib.hid (belNext B2.out hb)
          have P0_3 := Lib.hid (P0_2.out.next hb)
          have P1_3 := Lib.hid (P1_2.out.next hb)
          have R_3 := Lib.hid (R_2.out.next hb)
          clear hb c00 c01 c02 c10 c11 c12 r0 r1 r2 r3 r4
          obtain ⟨⟨c00, c01⟩, c02⟩ := P0_3.out
          obtain ⟨⟨c10, c11⟩, c12⟩ := P1_3.out
          obtain ⟨⟨r0, r1, r2, r3⟩, r4⟩ := R_3.out
          go_wp2_with fail
          refine (F3.out _).mono ?_
          rintro e w4 ⟨rfl, hb⟩
          have B4 := Lib.hid (belNext B3.out hb)
          have P0_4 := Lib.hid (P0_3.out.next hb)
          have P1_4 := Lib.hid (P1_3.out.next hb)
          have R_4 := Lib.hid (R_3.out.next hb)
          clear hb c00 c01 c02 c10 c11 c12 r0 r1 r2 r3 r4
          obtain ⟨⟨c00, c01⟩, c02⟩ := P0_4.out
          obtain ⟨⟨c10, c11⟩, c12⟩ := P1_4.out
          obtain ⟨⟨r0, r1, r2, r3⟩, r4⟩ := R_4.out
          go_wp2_with fail
          refine (F4.out _).mono ?_
          rintro e w5 ⟨rfl, hb⟩
          have B5 := Lib.hid (belNext B4.out hb)
          have P0_5 := Lib.hid (P0_4.out.next hb)
          have P1_5 := Lib.hid (P1_4.out.next hb)
          have R_5 := Lib.hid (R_4.out.next hb)
          clear hb c00 c01 c02 c10 c11 c12 r0 r1 r2 r3 r4
          obtain ⟨⟨c00, c01⟩, c02⟩ := P0_5.out
          obtain ⟨⟨c10, c11⟩, c12⟩ := P1_5.out
          obtain ⟨⟨r0, r1, r2, r3⟩, r4⟩ := R_5.out
          go_wp2_with fail
          refine wp_region_held_drew (S := fun w' => (w'.cell? ⟨w.heap.size, 0, none⟩ = some (.float .f32 l) ∧ w'.cell? ⟨w.heap.size, 1, none⟩ = some (.float .f32 h)) ∧ (w'.cell? ⟨w.heap.size + 1, 0, none⟩ = some (.float .f32 l') ∧ w'.cell? ⟨w.heap.size + 1, 1, none⟩ = some (.float .f32 h'))) (by kernel_rfl) ⟨P0_5.out.1, P1_5.out.1⟩ (fun hHeld => ?_)
          clear c00 c01 c02 c10 c11 c12 r0 r1 r2 r3 r4
          refine wpAnyH_take (i := 0) (v := ?_) rfl (by kernel_rfl) (by kernel_rfl) (by kernel_rfl) (fun _ _ _ h => h) (Or.inl ⟨by rfl, ?_⟩) (by assumption) ?_
          rotate_left
          · (intro w hSw; (try dsimp only at hSw); go_simp; (try with_reducible rfl))
          try simp only [Act.put, List.setIfInBounds_toArray, List.set_cons_zero, List.set_cons_succ, List.getElem_toArray, List.getElem_cons_succ, List.getElem_cons_zero]
          refine wpAnyH_take (i := 1) (v := ?_) rfl (by kernel_rfl) (by kernel_rfl) (by kernel_rfl) (fun _ _ _ h => h) (Or.inl ⟨by rfl, ?_⟩) (by assumption) ?_
          rotate_left
          · (intro w hSw; (try dsimp only at hSw); go_simp; (try with_reducible rfl))
          try simp only [Act.put, List.setIfInBounds_toArray, List.set_cons_zero, List.set_cons_succ, List.getElem_toArray, List.getElem_cons_succ, List.getElem_cons_zero]
          refine wpAnyH_take (i := 3) (v := ?_) rfl (by kernel_rfl) (by kernel_rfl) (by kernel_rfl) (fun _ _ _ h => h) (Or.inl ⟨by rfl, ?_⟩) (by assumption) ?_
          rotate_left
          · (intro w hSw; (try dsimp only at hSw); go_simp; (try with_reducible rfl))
          try simp only [Act.put, List.setIfInBounds_toArray, List.set_cons_zero, List.set_cons_succ, List.getElem_toArray, List.getElem_cons_succ, List.getElem_cons_zero]
          refine wpAnyH_take (i := 4) (v := ?_) rfl (by kernel_rfl) (by kernel_rfl) (by kernel_rfl) (fun _ _ _ h => h) (Or.inl ⟨by rfl, ?_⟩) (by assumption) ?_
          rotate_left
          · (intro w hSw; (try dsimp only at hSw); go_simp; (try with_reducible rfl))
          try simp only [Act.put, List.setIfInBounds_toArray, List.set_cons_zero, List.set_cons_succ, List.getElem_toArray, List.getElem_cons_succ, List.getElem_cons_zero]
          refine wpAnyH_ready (rs := [2]) (by kernel_rfl) (by simp) ?_
          refine AllReadyH.cons rfl (fun K hK => ?_) AllReadyH.nil
          go_simp
          refine (OH.out w5.drew).mono ?_
          rintro e w6 ⟨S1, A1, n1, c1, rfl, hz, hb0⟩
          have hb : Below w5.heap.size w5 w6 := belDrew hb0
          refine hK.out _ _ ⟨(P0_5.out.next hb).1, (P1_5.out.next hb).1⟩ (fun hHeld => ?_)
          clear hK K hb0
          have Za_6 := Lib.hid hz
          clear hz
          have B6 := Lib.hid (belNext B5.out hb)
          have P0_6 := Lib.hid (P0_5.out.next hb)
          have P1_6 := Lib.hid (P1_5.out.next hb)
          have R_6 := Lib.hid (R_5.out.next hb)
          clear hb
          try simp only [Act.put, List.setIfInBounds_toArray, List.set_cons_zero, List.set_cons_succ, List.getElem_toArray, List.getElem_cons_succ, List.getElem_cons_zero]
          refine wpAnyH_ready (rs := [5]) (by kernel_rfl) (by simp) ?_
          refine AllReadyH.cons rfl (fun K hK => ?_) AllReadyH.nil
          go_simp
          refine (OG.out w6).mono ?_
          rintro e w7 ⟨S2, A2, n2, c2, rfl, hz, hb0⟩
          have hb : Below w6.heap.size w6 w7 := hb0
          refine hK.out _ _ ⟨(P0_6.out.next hb).1, (P1_6.out.next hb).1⟩ (fun hHeld => ?_)
          clear hK K hb0
          have Zb_7 := Lib.hid hz
          clear hz
          have B7 := Lib.hid (belNext B6.out hb)
          have P0_7 := Lib.hid (P0_6.out.next hb)
          have P1_7 := Lib.hid (P1_6.out.next hb)
          have R_7 := Lib.hid (R_6.out.next hb)
          have Za_7 := Lib.hid (Za_6.out.next hb)
          clear hb
          try simp only [Act.put, List.setIfInBounds_toArray, List.set_cons_zero, List.set_cons_succ, List.getElem_toArray, List.getElem_cons_succ, List.getElem_cons_zero]
          refine wpAnyH_ready (rs := [6]) (by kernel_rfl) (by simp) ?_
          refine AllReadyH.cons rfl (fun K hK => ?_) AllReadyH.nil
          go_simp
          refine (AH.out S1 S2 A1 A2 n1 c1 n2 c2 w7 Za_7.out Zb_7.out).mono ?_
          rintro e w8 ⟨S3, A3, n3, c3, rfl, hz, hn3, hb0⟩
          have hb : Below w7.heap.size w7 w8 := hb0
          refine hK.out _ _ ⟨(P0_7.out.next hb).1, (P1_7.out.next hb).1⟩ (fun hHeld => ?_)
          clear hK K hb0
          have N3 := Lib.hid hn3
          clear hn3
          have Zc_8 := Lib.hid hz
          clear hz
          have B8 := Lib.hid (belNext B7.out hb)
          have P0_8 := Lib.hid (P0_7.out.next hb)
          have P1_8 := Lib.hid (P1_7.out.next hb)
          have R_8 := Lib.hid (R_7.out.next hb)
          have Za_8 := Lib.hid (Za_7.out.next hb)
          have Zb_8 := Lib.hid (Zb_7.out.next hb)
          clear hb
          try simp only [Act.put, List.setIfInBounds_toArray, List.set_cons_zero, List.set_cons_succ, List.getElem_toArray, List.getElem_cons_succ, List.getElem_cons_zero]
          refine wpAnyH_ready (rs := [7]) (by kernel_rfl) (by simp) ?_
          refine AllReadyH.cons rfl (fun K hK => ?_) AllReadyH.nil
          go_simp
          refine (upV_any h h' S3 A3 n3 c3 w8 Zc_8.out N3.out).mono ?_
          rintro e w9 ⟨rfl, hb0⟩
          have hb : Below w8.heap.size w8 w9 := hb0
          refine hK.out _ _ ⟨(P0_8.out.next hb).1, (P1_8.out.next hb).1⟩ (fun hHeld => ?_)
          clear hK K hb0
          rw [← HV.out.2]
          have B9 := Lib.hid (belNext B8.out hb)
          have P0_9 := Lib.hid (P0_8.out.next hb)
          have P1_9 := Lib.hid (P1_8.out.next hb)
          have R_9 := Lib.hid (R_8.out.next hb)
          have Za_9 := Lib.hid (Za_8.out.next hb)
          have Zb_9 := Lib.hid (Zb_8.out.next hb)
          have Zc_9 := Lib.hid (Zc_8.out.next hb)
          clear hb
          try simp only [Act.put, List.setIfInBounds_toArray, List.set_cons_zero, List.set_cons_succ, List.getElem_toArray, List.getElem_cons_succ, List.getElem_cons_zero]
          refine wpAnyH_ready (rs := [8]) (by kernel_rfl) (by simp) ?_
          refine AllReadyH.cons rfl (fun K hK => ?_) AllReadyH.nil
          go_simp
          refine hK.out _ _ hHeld (fun hHeld => ?_)
          clear hK K
          try simp only [Act.put, List.setIfInBounds_toArray, List.set_cons_zero, List.set_cons_succ, List.getElem_toArray, List.getElem_cons_succ, List.getElem_cons_zero]
          clear hHeld
          refine wpAnyH_done (by kernel_rfl) ?_ _
          obtain ⟨⟨c00, c01⟩, c02⟩ := P0_9.out
          obtain ⟨⟨c10, c11⟩, c12⟩ := P1_9.out
          obtain ⟨⟨r0, r1, r2, r3⟩, r4⟩ := R_9.out
          go_wp2_with fail
          rw [← HV.out.1]
          refine (MK.out _).mono ?_
          rintro e w10 ⟨rfl, hb⟩
          have B10 := Lib.hid (belNext B9.out hb)
          have P0_10 := Lib.hid (P0_9.out.next hb)
          have P1_10 := Lib.hid (P1_9.out.next hb)
          have R_10 := Lib.hid (R_9.out.next hb)
          clear hb c00 c01 c02 c10 c11 c12 r0 r1 r2 r3 r4
          obtain ⟨⟨c00, c01⟩, c02⟩ := P0_10.out
          obtain ⟨⟨c10, c11⟩, c12⟩ := P1_10.out
          obtain ⟨⟨r0, r1, r2, r3⟩, r4⟩ := R_10.out
          go_wp2_with fail
          refine bodyPost_ret (v := .agg #[.float .f32 z1, .float .f32 z2]) (by simp [results, Tryz.results22, go_sem, r0, r1]) rfl ⟨rfl, ?_⟩
          repeat (first | exact B10.out | exact Below.refl _ _ | refine Below.drew ?_ | refine Below.alloc ?_ (by first | (simp; done) | (simp; omega)) _ | refine Below.setCell ?_ (by first | (simp; done) | (simp; omega)) _)
        · have f4 : fin32 h' = false := by simpa using f4
          have e1 : sV l l' 1 4286578688 = wz 4286578688 := by unfold sV; rw [if_neg (by rw [f2]; simp), wz_id Pl.minf]
          have e2 : sV h h' 2 2139095040 = wz 2139095040 := by unfold sV; rw [if_neg (by rw [f4]; simp), wz_id Pl.inf]
          rw [e1, e2]
          have F1 : Hid (∀ w, Calls Tryz.prog 39 #[.float .f32 l] w fun e w' => e = .returned (.bool true) ∧ Below w.heap.size w w') := Lib.hid (fun w => by rw [← f1]; exact finI_any l w pl.1)
          have F2 : Hid (∀ w, Calls Tryz.prog 39 #[.float .f32 l'] w fun e w' => e = .returned (.bool false) ∧ Below w.heap.size w w') := Lib.hid (fun w => by rw [← f2]; exact finI_any l' w plq.1)
          have F3 : Hid (∀ w, Calls Tryz.prog 39 #[.float .f32 h] w fun e w' => e = .returned (.bool true) ∧ Below w.heap.size w w') := Lib.hid (fun w => by rw [← f3]; exact finI_any h w ph.1)
          have F4 : Hid (∀ w, Calls Tryz.prog 39 #[.float .f32 h'] w fun e w' => e = .returned (.bool false) ∧ Below w.heap.size w w') := Lib.hid (fun w => by rw [← f4]; exact finI_any h' w phq.1)
          obtain ⟨v1, hv1⟩ : ∃ v, v = 4286578688 := ⟨_, rfl⟩
          obtain ⟨v2, hv2⟩ : ∃ v, v = 2139095040 := ⟨_, rfl⟩
          have l1 : v1 < 4294967296 := by rw [hv1]; omega
          have l2 : v2 < 4294967296 := by rw [hv2]; omega
          have MK : Hid (∀ w, _) := Lib.hid (fun w => specMake_any v1 v2 w l1 l2)
          obtain ⟨z1, hz1⟩ : ∃ z, z = wz v1 := ⟨_, rfl⟩
          obtain ⟨z2, hz2⟩ : ∃ z, z = wz v2 := ⟨_, rfl⟩
          rw [← hz1, ← hz2] at MK
          rw [← hv1, ← hv2, ← hz1, ← hz2]
          have HV := Lib.hid (And.intro hv1 hv2)
          clear e1 e2 l1 l2 hz1 hz2 pl ph plq phq f1 f3 hv1 hv2 f2 f4
          obtain ⟨w1, hw1, hp0, hp1, hr_, hB_⟩ := ib_2r w l h l' h' 25 25
          have P0_1 := Lib.hid hp0
          have P1_1 := Lib.hid hp1
          have R_1 := Lib.hid hr_
          have hst := store_float Tryz.prog
          have B1 := Lib.hid hB_
          have Hw := Lib.hid hw1
          clear hw1 hp0 hp1 hr_ hB_
          obtain ⟨⟨c00, c01⟩, c02⟩ := P0_1.out
          obtain ⟨⟨c10, c11⟩, c12⟩ := P1_1.out
          obtain ⟨⟨r0, r1, r2, r3⟩, r4⟩ := R_1.out
          go_enter Tryz.func22, Tryz.ntmps22
          go_wp2_with fail
          rw [← Hw.out]
          refine (huge_any _).mono ?_
          rintro e w9 ⟨rfl, rfl⟩
          go_wp2_with fail
          refine (huge_any _).mono ?_
          rintro e w9 ⟨rfl, rfl⟩
          go_wp2_with fail
          refine (F1.out _).mono ?_
          rintro e w2 ⟨rfl, hb⟩
          have B2 := Lib.hid (belNext B1.out hb)
          have P0_2 := Lib.hid (P0_1.out.next hb)
          have P1_2 := Lib.hid (P1_1.out.next hb)
          have R_2 := Lib.hid (R_1.out.next hb)
          clear hb c00 c01 c02 c10 c11 c12 r0 r1 r2 r3 r4
          obtain ⟨⟨c00, c01⟩, c02⟩ := P0_2.out
          obtain ⟨⟨c10, c11⟩, c12⟩ := P1_2.out
          obtain ⟨⟨r0, r1, r2, r3⟩, r4⟩ := R_2.out
          go_wp2_with fail
          refine (F2.out _).mono ?_
          rintro e w3 ⟨rfl, hb⟩
          have B3 := Lib.hid (belNext B2.out hb)
          have P0_3 := Lib.hid (P0_2.out.next hb)
          have P1_3 := Lib.hid (P1_2.out.next hb)
          have R_3 := Lib.hid (R_2.out.next hb)
          clear hb c00 c01 c02 c10 c11 c12 r0 r1 r2 r3 r4
          obtain ⟨⟨c00, c01⟩, c02⟩ := P0_3.out
          obtain ⟨⟨c10, c11⟩, c12⟩ := P1_3.out
          obtain ⟨⟨r0, r1, r2, r3⟩, r4⟩ := R_3.out
          go_wp2_with fail
          refine (F3.out _).mono ?_
          rintro e w4 ⟨rfl, hb⟩
          have B4 := Lib.hid (belNext B3.out hb)
          have P0_4 := Lib.hid (P0_3.out.next hb)
          have P1_4 := Lib.hid (P1_3.out.next hb)
          have R_4 := Lib.hid (R_3.out.next hb)
          clear hb c00 c01 c02 c10 c11 c12 r0 r1 r2 r3 r4
          obtain ⟨⟨c00, c01⟩, c02⟩ := P0_4.out
          obtain ⟨⟨c10, c11⟩, c12⟩ := P1_4.out
          obtain ⟨⟨r0, r1, r2, r3⟩, r4⟩ := R_4.out
          go_wp2_with fail
          refine (F4.out _).mono ?_
          rintro e w5 ⟨rfl, hb⟩
          have B5 := Lib.hid (belNext B4.out hb)
          have P0_5 := Lib.hid (P0_4.out.next hb)
          have P1_5 := Lib.hid (P1_4.out.next hb)
          have R_5 := Lib.hid (R_4.out.next hb)
          clear hb c00 c01 c02 c10 c11 c12 r0 r1 r2 r3 r4
          obtain ⟨⟨c00, c01⟩, c02⟩ := P0_5.out
          obtain ⟨⟨c10, c11⟩, c12⟩ := P1_5.out
          obtain ⟨⟨r0, r1, r2, r3⟩, r4⟩ := R_5.out
          go_wp2_with fail
          rw [← HV.out.1, ← HV.out.2]
          refine (MK.out _).mono ?_
          rintro e w6 ⟨rfl, hb⟩
          have B6 := Lib.hid (belNext B5.out hb)
          have P0_6 := Lib.hid (P0_5.out.next hb)
          have P1_6 := Lib.hid (P1_5.out.next hb)
          have R_6 := Lib.hid (R_5.out.next hb)
          clear hb c00 c01 c02 c10 c11 c12 r0 r1 r2 r3 r4
          obtain ⟨⟨c00, c01⟩, c02⟩ := P0_6.out
          obtain ⟨⟨c10, c11⟩, c12⟩ := P1_6.out
          obtain ⟨⟨r0, r1, r2, r3⟩, r4⟩ := R_6.out
          go_wp2_with fail
          refine bodyPost_ret (v := .agg #[.float .f32 z1, .float .f32 z2]) (by simp [results, Tryz.results22, go_sem, r0, r1]) rfl ⟨rfl, ?_⟩
          repeat (first | exact B6.out | exact Below.refl _ _ | refine Below.drew ?_ | refine Below.alloc ?_ (by first | (simp; done) | (simp; omega)) _ | refine Below.setCell ?_ (by first | (simp; done) | (simp; omega)) _)
      · have f3 : fin32 h = false := by simpa using f3
        have e1 : sV l l' 1 4286578688 = wz 4286578688 := by unfold sV; rw [if_neg (by rw [f2]; simp), wz_id Pl.minf]
        have e2 : sV h h' 2 2139095040 = wz 2139095040 := by unfold sV; rw [if_neg (by rw [f3]; simp), wz_id Pl.inf]
        rw [e1, e2]
        have F1 : Hid (∀ w, Calls Tryz.prog 39 #[.float .f32 l] w fun e w' => e = .returned (.bool true) ∧ Below w.heap.size w w') := Lib.hid (fun w => by rw [← f1]; exact finI_any l w pl.1)
        have F2 : Hid (∀ w, Calls Tryz.prog 39 #[.float .f32 l'] w fun e w' => e = .returned (.bool false) ∧ Below w.heap.size w w') := Lib.hid (fun w => by rw [← f2]; exact finI_any l' w plq.1)
        have F3 : Hid (∀ w, Calls Tryz.prog 39 #[.float .f32 h] w fun e w' => e = .returned (.bool false) ∧ Below w.heap.size w w') := Lib.hid (fun w => by rw [← f3]; exact finI_any h w ph.1)
        obtain ⟨v1, hv1⟩ : ∃ v, v = 4286578688 := ⟨_, rfl⟩
        obtain ⟨v2, hv2⟩ : ∃ v, v = 2139095040 := ⟨_, rfl⟩
        have l1 : v1 < 4294967296 := by rw [hv1]; omega
        have l2 : v2 < 4294967296 := by rw [hv2]; omega
        have MK : Hid (∀ w, _) := Lib.hid (fun w => specMake_any v1 v2 w l1 l2)
        obtain ⟨z1, hz1⟩ : ∃ z, z = wz v1 := ⟨_, rfl⟩
        obtain ⟨z2, hz2⟩ : ∃ z, z = wz v2 := ⟨_, rfl⟩
        rw [← hz1, ← hz2] at MK
        rw [← hv1, ← hv2, ← hz1, ← hz2]
        have HV := Lib.hid (And.intro hv1 hv2)
        clear e1 e2 l1 l2 hz1 hz2 pl ph plq phq f1 f3 hv1 hv2 f2
        obtain ⟨w1, hw1, hp0, hp1, hr_, hB_⟩ := ib_2r w l h l' h' 25 25
        have P0_1 := Lib.hid hp0
        have P1_1 := Lib.hid hp1
        have R_1 := Lib.hid hr_
        have hst := store_float Tryz.prog
        have B1 := Lib.hid hB_
        have Hw := Lib.hid hw1
        clear hw1 hp0 hp1 hr_ hB_
        obtain ⟨⟨c00, c01⟩, c02⟩ := P0_1.out
        obtain ⟨⟨c10, c11⟩, c12⟩ := P1_1.out
        obtain ⟨⟨r0, r1, r2, r3⟩, r4⟩ := R_1.out
        go_enter Tryz.func22, Tryz.ntmps22
        go_wp2_with fail
        rw [← Hw.out]
        refine (huge_any _).mono ?_
        rintro e w9 ⟨rfl, rfl⟩
        go_wp2_with fail
        refine (huge_any _).mono ?_
        rintro e w9 ⟨rfl, rfl⟩
        go_wp2_with fail
        refine (F1.out _).mono ?_
        rintro e w2 ⟨rfl, hb⟩
        have B2 := Lib.hid (belNext B1.out hb)
        have P0_2 := Lib.hid (P0_1.out.next hb)
        have P1_2 := Lib.hid (P1_1.out.next hb)
        have R_2 := Lib.hid (R_1.out.next hb)
        clear hb c00 c01 c02 c10 c11 c12 r0 r1 r2 r3 r4
        obtain ⟨⟨c00, c01⟩, c02⟩ := P0_2.out
        obtain ⟨⟨c10, c11⟩, c12⟩ := P1_2.out
        obtain ⟨⟨r0, r1, r2, r3⟩, r4⟩ := R_2.out
        go_wp2_with fail
        refine (F2.out _).mono ?_
        rintro e w3 ⟨rfl, hb⟩
        have B3 := Lib.hid (belNext B2.out hb)
        have P0_3 := Lib.hid (P0_2.out.next hb)
        have P1_3 := Lib.hid (P1_2.out.next hb)
        have R_3 := Lib.hid (R_2.out.next hb)
        clear hb c00 c01 c02 c10 c11 c12 r0 r1 r2 r3 r4
        obtain ⟨⟨c00, c01⟩, c02⟩ := P0_3.out
        obtain ⟨⟨c10, c11⟩, c12⟩ := P1_3.out
        obtain ⟨⟨r0, r1, r2, r3⟩, r4⟩ := R_3.out
        go_wp2_with fail
        refine (F3.out _).mono ?_
        rintro e w4 ⟨rfl, hb⟩
        have B4 := Lib.hid (belNext B3.out hb)
        have P0_4 := Lib.hid (P0_3.out.next hb)
        have P1_4 := Lib.hid (P1_3.out.next hb)
        have R_4 := Lib.hid (R_3.out.next hb)
        clear hb c00 c01 c02 c10 c11 c12 r0 r1 r2 r3 r4
        obtain ⟨⟨c00, c01⟩, c02⟩ := P0_4.out
        obtain ⟨⟨c10, c11⟩, c12⟩ := P1_4.out
        obtain ⟨⟨r0, r1, r2, r3⟩, r4⟩ := R_4.out
        go_wp2_with fail
        rw [← HV.out.1, ← HV.out.2]
        refine (MK.out _).mono ?_
        rintro e w5 ⟨rfl, hb⟩
        have B5 := Lib.hid (belNext B4.out hb)
        have P0_5 := Lib.hid (P0_4.out.next hb)
        have P1_5 := Lib.hid (P1_4.out.next hb)
        have R_5 := Lib.hid (R_4.out.next hb)
        clear hb c00 c01 c02 c10 c11 c12 r0 r1 r2 r3 r4
        obtain ⟨⟨c00, c01⟩, c02⟩ := P0_5.out
        obtain ⟨⟨c10, c11⟩, c12⟩ := P1_5.out
        obtain ⟨⟨r0, r1, r2, r3⟩, r4⟩ := R_5.out
        go_wp2_with fail
        refine bodyPost_ret (v := .agg #[.float .f32 z1, .float .f32 z2]) (by simp [results, Tryz.results22, go_sem, r0, r1]) rfl ⟨rfl, ?_⟩
        repeat (first | exact B5.out | exact Below.refl _ _ | refine Below.drew ?_ | refine Below.alloc ?_ (by first | (simp; done) | (simp; omega)) _ | refine Below.setCell ?_ (by first | (simp; done) | (simp; omega)) _)
  · have f1 : fin32 l = false := by simpa using f1
    by_cases f3 : fin32 h = true
    · by_cases f4 : fin32 h' = true
      · skip
        have e1 : sV l l' 1 4286578688 = wz 4286578688 := by unfold sV; rw [if_neg (by rw [f1]; simp), wz_id Pl.minf]
        have e2 : sV h h' 2 2139095040 = wz (sW h h' 2) := by unfold sV; rw [if_pos ⟨f3, f4⟩, sW_wz]
        rw [e1, e2]
        have F1 : Hid (∀ w, Calls Tryz.prog 39 #[.float .f32 l] w fun e w' => e = .returned (.bool false) ∧ Below w.heap.size w w') := Lib.hid (fun w => by rw [← f1]; exact finI_any l w pl.1)
        have F3 : Hid (∀ w, Calls Tryz.prog 39 #[.float .f32 h] w fun e w' => e = .returned (.bool true) ∧ Below w.heap.size w w') := Lib.hid (fun w => by rw [← f3]; exact finI_any h w ph.1)
        have F4 : Hid (∀ w, Calls Tryz.prog 39 #[.float .f32 h'] w fun e w' => e = .returned (.bool true) ∧ Below w.heap.size w w') := Lib.hid (fun w => by rw [← f4]; exact finI_any h' w phq.1)
        have OH : Hid (∀ w, _) := Lib.hid (fun w => ofV_any h w ph.1 f3)
        have OG : Hid (∀ w, _) := Lib.hid (fun w => ofV_any h' w phq.1 f4)
        have AH : Hid (∀ Sx Sy Ax Ay a b c d w, _ → _ → _) := Lib.hid (fun Sx Sy Ax Ay a b c d w u v => addOf_any h h' Sx Sy Ax Ay a b c d w f3 f4 u v)
        obtain ⟨v1, hv1⟩ : ∃ v, v = 4286578688 := ⟨_, rfl⟩
        obtain ⟨v2, hv2⟩ : ∃ v, v = sW h h' 2 := ⟨_, rfl⟩
        have l1 : v1 < 4294967296 := by rw [hv1]; omega
        have l2 : v2 < 4294967296 := by rw [hv2]; exact sW_lt _ _ _
        have MK : Hid (∀ w, _) := Lib.hid (fun w => specMake_any v1 v2 w l1 l2)
        obtain ⟨z1, hz1⟩ : ∃ z, z = wz v1 := ⟨_, rfl⟩
        obtain ⟨z2, hz2⟩ : ∃ z, z = wz v2 := ⟨_, rfl⟩
        rw [← hz1, ← hz2] at MK
        rw [← hv1, ← hv2, ← hz1, ← hz2]
        have HV := Lib.hid (And.intro hv1 hv2)
        clear e1 e2 l1 l2 hz1 hz2 pl ph plq phq f1 f3 hv1 hv2 f4
        obtain ⟨w1, hw1, hp0, hp1, hr_, hB_⟩ := ib_2r w l h l' h' 25 25
        have P0_1 := Lib.hid hp0
        have P1_1 := Lib.hid hp1
        have R_1 := Lib.hid hr_
        have hst := store_float Tryz.prog
        have B1 := Lib.hid hB_
        have Hw := Lib.hid hw1
        clear hw1 hp0 hp1 hr_ hB_
        obtain ⟨⟨c00, c01⟩, c02⟩ := P0_1.out
        obtain ⟨⟨c10, c11⟩, c12⟩ := P1_1.out
        obtain ⟨⟨r0, r1, r2, r3⟩, r4⟩ := R_1.out
        go_enter Tryz.func22, Tryz.ntmps22
        go_wp2_with fail
        rw [← Hw.out]
        refine (huge_any _).mono ?_
        rintro e w9 ⟨rfl, rfl⟩
        go_wp2_with fail
        refine (huge_any _).mono ?_
        rintro e w9 ⟨rfl, rfl⟩
        go_wp2_with fail
        refine (F1.out _).mono ?_
        rintro e w2 ⟨rfl, hb⟩
        have B2 := Lib.hid (belNext B1.out hb)
        have P0_2 := Lib.hid (P0_1.out.next hb)
        have P1_2 := Lib.hid (P1_1.out.next hb)
        have R_2 := Lib.hid (R_1.out.next hb)
        clear hb c00 c01 c02 c10 c11 c12 r0 r1 r2 r3 r4
        obtain ⟨⟨c00, c01⟩, c02⟩ := P0_2.out
        obtain ⟨⟨c10, c11⟩, c12⟩ := P1_2.out
        obtain ⟨⟨r0, r1, r2, r3⟩, r4⟩ := R_2.out
        go_wp2_with fail
        refine (F3.out _).mono ?_
        rintro e w3 ⟨rfl, hb⟩
        have B3 := Lib.hid (belNext B2.out hb)
        have P0_3 := Lib.hid (P0_2.out.next hb)
        have P1_3 := Lib.hid (P1_2.out.next hb)
        have R_3 := Lib.hid (R_2.out.next hb)
        clear hb c00 c01 c02 c10 c11 c12 r0 r1 r2 r3 r4
        obtain ⟨⟨c00, c01⟩, c02⟩ := P0_3.out
        obtain ⟨⟨c10, c11⟩, c12⟩ := P1_3.out
        obtain ⟨⟨r0, r1, r2, r3⟩, r4⟩ := R_3.out
        go_wp2_with fail
        refine (F4.out _).mono ?_
        rintro e w4 ⟨rfl, hb⟩
        have B4 := Lib.hid (belNext B3.out hb)
        have P0_4 := Lib.hid (P0_3.out.next hb)
        have P1_4 := Lib.hid (P1_3.out.next hb)
        have R_4 := Lib.hid (R_3.out.next hb)
        clear hb c00 c01 c02 c10 c11 c12 r0 r1 r2 r3 r4
        obtain ⟨⟨c00, c01⟩, c02⟩ := P0_4.out
        obtain ⟨⟨c10, c11⟩, c12⟩ := P1_4.out
        obtain ⟨⟨r0, r1, r2, r3⟩, r4⟩ := R_4.out
        go_wp2_with fail
        refine wp_region_held_drew (S := fun w' => (w'.cell? ⟨w.heap.size, 0, none⟩ = some (.float .f32 l) ∧ w'.cell? ⟨w.heap.size, 1, none⟩ = some (.float .f32 h)) ∧ (w'.cell? ⟨w.heap.size + 1, 0, none⟩ = some (.float .f32 l') ∧ w'.cell? ⟨w.heap.size + 1, 1, none⟩ = some (.float .f32 h'))) (by kernel_rfl) ⟨P0_4.out.1, P1_4.out.1⟩ (fun hHeld => ?_)
        clear c00 c01 c02 c10 c11 c12 r0 r1 r2 r3 r4
        refine wpAnyH_take (i := 0) (v := ?_) rfl (by kernel_rfl) (by kernel_rfl) (by kernel_rfl) (fun _ _ _ h => h) (Or.inl ⟨by rfl, ?_⟩) (by assumption) ?_
        rotate_left
        · (intro w hSw; (try dsimp only at hSw); go_simp; (try with_reducible rfl))
        try simp only [Act.put, List.setIfInBounds_toArray, List.set_cons_zero, List.set_cons_succ, List.getElem_toArray, List.getElem_cons_succ, List.getElem_cons_zero]
        refine wpAnyH_take (i := 1) (v := ?_) rfl (by kernel_rfl) (by kernel_rfl) (by kernel_rfl) (fun _ _ _ h => h) (Or.inl ⟨by rfl, ?_⟩) (by assumption) ?_
        rotate_left
        · (intro w hSw; (try dsimp only at hSw); go_simp; (try with_reducible rfl))
        try simp only [Act.put, List.setIfInBounds_toArray, List.set_cons_zero, List.set_cons_succ, List.getElem_toArray, List.getElem_cons_succ, List.getElem_cons_zero]
        refine wpAnyH_take (i := 3) (v := ?_) rfl (by kernel_rfl) (by kernel_rfl) (by kernel_rfl) (fun _ _ _ h => h) (Or.inl ⟨by rfl, ?_⟩) (by assumption) ?_
        rotate_left
        · (intro w hSw; (try dsimp only at hSw); go_simp; (try with_reducible rfl))
        try simp only [Act.put, List.setIfInBounds_toArray, List.set_cons_zero, List.set_cons_succ, List.getElem_toArray, List.getElem_cons_succ, List.getElem_cons_zero]
        refine wpAnyH_take (i := 4) (v := ?_) rfl (by kernel_rfl) (by kernel_rfl) (by kernel_rfl) (fun _ _ _ h => h) (Or.inl ⟨by rfl, ?_⟩) (by assumption) ?_
        rotate_left
        · (intro w hSw; (try dsimp only at hSw); go_simp; (try with_reducible rfl))
        try simp only [Act.put, List.setIfInBounds_toArray, List.set_cons_zero, List.set_cons_succ, List.getElem_toArray, List.getElem_cons_succ, List.getElem_cons_zero]
        refine wpAnyH_ready (rs := [2]) (by kernel_rfl) (by simp) ?_
        refine AllReadyH.cons rfl (fun K hK => ?_) AllReadyH.nil
        go_simp
        refine (OH.out w4.drew).mono ?_
        rintro e w5 ⟨S1, A1, n1, c1, rfl, hz, hb0⟩
        have hb : Below w4.heap.size w4 w5 := belDrew hb0
        refine hK.out _ _ ⟨(P0_4.out.next hb).1, (P1_4.out.next hb).1⟩ (fun hHeld => ?_)
        clear hK K hb0
        have Za_5 := Lib.hid hz
        clear hz
        have B5 := Lib.hid (belNext B4.out hb)
        have P0_5 := Lib.hid (P0_4.out.next hb)
        have P1_5 := Lib.hid (P1_4.out.next hb)
        have R_5 := Lib.hid (R_4.out.next hb)
        clear hb
        try simp only [Act.put, List.setIfInBounds_toArray, List.set_cons_zero, List.set_cons_succ, List.getElem_toArray, List.getElem_cons_succ, List.getElem_cons_zero]
        refine wpAnyH_ready (rs := [5]) (by kernel_rfl) (by simp) ?_
        refine AllReadyH.cons rfl (fun K hK => ?_) AllReadyH.nil
        go_simp
        refine (OG.out w5).mono ?_
        rintro e w6 ⟨S2, A2, n2, c2, rfl, hz, hb0⟩
        have hb : Below w5.heap.size w5 w6 := hb0
        refine hK.out _ _ ⟨(P0_5.out.next hb).1, (P1_5.out.next hb).1⟩ (fun hHeld => ?_)
        clear hK K hb0
        have Zb_6 := Lib.hid hz
        clear hz
        have B6 := Lib.hid (belNext B5.out hb)
        have P0_6 := Lib.hid (P0_5.out.next hb)
        have P1_6 := Lib.hid (P1_5.out.next hb)
        have R_6 := Lib.hid (R_5.out.next hb)
        have Za_6 := Lib.hid (Za_5.out.next hb)
        clear hb
        try simp only [Act.put, List.setIfInBounds_toArray, List.set_cons_zero, List.set_cons_succ, List.getElem_toArray, List.getElem_cons_succ, List.getElem_cons_zero]
        refine wpAnyH_ready (rs := [6]) (by kernel_rfl) (by simp) ?_
        refine AllReadyH.cons rfl (fun K hK => ?_) AllReadyH.nil
        go_simp
        refine (AH.out S1 S2 A1 A2 n1 c1 n2 c2 w6 Za_6.out Zb_6.out).mono ?_
        rintro e w7 ⟨S3, A3, n3, c3, rfl, hz, hn3, hb0⟩
        have hb : Below w6.heap.size w6 w7 := hb0
        refine hK.out _ _ ⟨(P0_6.out.next hb).1, (P1_6.out.next hb).1⟩ (fun hHeld => ?_)
        clear hK K hb0
        have N3 := Lib.hid hn3
        clear hn3
        have Zc_7 := Lib.hid hz
        clear hz
        have B7 := Lib.hid (belNext B6.out hb)
        have P0_7 := Lib.hid (P0_6.out.next hb)
        have P1_7 := Lib.hid (P1_6.out.next hb)
        have R_7 := Lib.hid (R_6.out.next hb)
        have Za_7 := Lib.hid (Za_6.out.next hb)
        have Zb_7 := Lib.hid (Zb_6.out.next hb)
        clear hb
        try simp only [Act.put, List.setIfInBounds_toArray, List.set_cons_zero, List.set_cons_succ, List.getElem_toArray, List.getElem_cons_succ, List.getElem_cons_zero]
        refine wpAnyH_ready (rs := [7]) (by kernel_rfl) (by simp) ?_
        refine AllReadyH.cons rfl (fun K hK => ?_) AllReadyH.nil
        go_simp
        refine (upV_any h h' S3 A3 n3 c3 w7 Zc_7.out N3.out).mono ?_
        rintro e w8 ⟨rfl, hb0⟩
        have hb : Below w7.heap.size w7 w8 := hb0
        refine hK.out _ _ ⟨(P0_7.out.next hb).1, (P1_7.out.next hb).1⟩ (fun hHeld => ?_)
        clear hK K hb0
        rw [← HV.out.2]
        have B8 := Lib.hid (belNext B7.out hb)
        have P0_8 := Lib.hid (P0_7.out.next hb)
        have P1_8 := Lib.hid (P1_7.out.next hb)
        have R_8 := Lib.hid (R_7.out.next hb)
        have Za_8 := Lib.hid (Za_7.out.next hb)
        have Zb_8 := Lib.hid (Zb_7.out.next hb)
        have Zc_8 := Lib.hid (Zc_7.out.next hb)
        clear hb
        try simp only [Act.put, List.setIfInBounds_toArray, List.set_cons_zero, List.set_cons_succ, List.getElem_toArray, List.getElem_cons_succ, List.getElem_cons_zero]
        refine wpAnyH_ready (rs := [8]) (by kernel_rfl) (by simp) ?_
        refine AllReadyH.cons rfl (fun K hK => ?_) AllReadyH.nil
        go_simp
        refine hK.out _ _ hHeld (fun hHeld => ?_)
        clear hK K
        try simp only [Act.put, List.setIfInBounds_toArray, List.set_cons_zero, List.set_cons_succ, List.getElem_toArray, List.getElem_cons_succ, List.getElem_cons_zero]
        clear hHeld
        refine wpAnyH_done (by kernel_rfl) ?_ _
        obtain ⟨⟨c00, c01⟩, c02⟩ := P0_8.out
        obtain ⟨⟨c10, c11⟩, c12⟩ := P1_8.out
        obtain ⟨⟨r0, r1, r2, r3⟩, r4⟩ := R_8.out
        go_wp2_with fail
        rw [← HV.out.1]
        refine (MK.out _).mono ?_
        rintro e w9 ⟨rfl, hb⟩
        have B9 := Lib.hid (belNext B8.out hb)
        have P0_9 := Lib.hid (P0_8.out.next hb)
        have P1_9 := Lib.hid (P1_8.out.next hb)
        have R_9 := Lib.hid (R_8.out.next hb)
        clear hb c00 c01 c02 c10 c11 c12 r0 r1 r2 r3 r4
        obtain ⟨⟨c00, c01⟩, c02⟩ := P0_9.out
        obtain ⟨⟨c10, c11⟩, c12⟩ := P1_9.out
        obtain ⟨⟨r0, r1, r2, r3⟩, r4⟩ := R_9.out
        go_wp2_with fail
        refine bodyPost_ret (v := .agg #[.float .f32 z1, .float .f32 z2]) (by simp [results, Tryz.results22, go_sem, r0, r1]) rfl ⟨rfl, ?_⟩
        repeat (first | exact B9.out | exact Below.refl _ _ | refine Below.drew ?_ | refine Below.alloc ?_ (by first | (simp; done) | (simp; omega)) _ | refine Below.setCell ?_ (by first | (simp; done) | (simp; omega)) _)
      · have f4 : fin32 h' = false := by simpa using f4
        have e1 : sV l l' 1 4286578688 = wz 4286578688 := by unfold sV; rw [if_neg (by rw [f1]; simp), wz_id Pl.minf]
        have e2 : sV h h' 2 2139095040 = wz 2139095040 := by unfold sV; rw [if_neg (by rw [f4]; simp), wz_id Pl.inf]
        rw [e1, e2]
        have F1 : Hid (∀ w, Calls Tryz.prog 39 #[.float .f32 l] w fun e w' => e = .returned (.bool false) ∧ Below w.heap.size w w') := Lib.hid (fun w => by rw [← f1]; exact finI_any l w pl.1)
        have F3 : Hid (∀ w, Calls Tryz.prog 39 #[.float .f32 h] w fun e w' => e = .returned (.bool true) ∧ Below w.heap.size w w') := Lib.hid (fun w => by rw [← f3]; exact finI_any h w ph.1)
        have F4 : Hid (∀ w, Calls Tryz.prog 39 #[.float .f32 h'] w fun e w' => e = .returned (.bool false) ∧ Below w.heap.size w w') := Lib.hid (fun w => by rw [← f4]; exact finI_any h' w phq.1)
        obtain ⟨v1, hv1⟩ : ∃ v, v = 4286578688 := ⟨_, rfl⟩
        obtain ⟨v2, hv2⟩ : ∃ v, v = 2139095040 := ⟨_, rfl⟩
        have l1 : v1 < 4294967296 := by rw [hv1]; omega
        have l2 : v2 < 4294967296 := by rw [hv2]; omega
        have MK : Hid (∀ w, _) := Lib.hid (fun w => specMake_any v1 v2 w l1 l2)
        obtain ⟨z1, hz1⟩ : ∃ z, z = wz v1 := ⟨_, rfl⟩
        obtain ⟨z2, hz2⟩ : ∃ z, z = wz v2 := ⟨_, rfl⟩
        rw [← hz1, ← hz2] at MK
        rw [← hv1, ← hv2, ← hz1, ← hz2]
        have HV := Lib.hid (And.intro hv1 hv2)
        clear e1 e2 l1 l2 hz1 hz2 pl ph plq phq f1 f3 hv1 hv2 f4
        obtain ⟨w1, hw1, hp0, hp1, hr_, hB_⟩ := ib_2r w l h l' h' 25 25
        have P0_1 := Lib.hid hp0
        have P1_1 := Lib.hid hp1
        have R_1 := Lib.hid hr_
        have hst := store_float Tryz.prog
        have B1 := Lib.hid hB_
        have Hw := Lib.hid hw1
        clear hw1 hp0 hp1 hr_ hB_
        obtain ⟨⟨c00, c01⟩, c02⟩ := P0_1.out
        obtain ⟨⟨c10, c11⟩, c12⟩ := P1_1.out
        obtain ⟨⟨r0, r1, r2, r3⟩, r4⟩ := R_1.out
        go_enter Tryz.func22, Tryz.ntmps22
        go_wp2_with fail
        rw [← Hw.out]
        refine (huge_any _).mono ?_
        rintro e w9 ⟨rfl, rfl⟩
        go_wp2_with fail
        refine (huge_any _).mono ?_
        rintro e w9 ⟨rfl, rfl⟩
        go_wp2_with fail
        refine (F1.out _).mono ?_
        rintro e w2 ⟨rfl, hb⟩
        have B2 := Lib.hid (belNext B1.out hb)
        have P0_2 := Lib.hid (P0_1.out.next hb)
        have P1_2 := Lib.hid (P1_1.out.next hb)
        have R_2 := Lib.hid (R_1.out.next hb)
        clear hb c00 c01 c02 c10 c11 c12 r0 r1 r2 r3 r4
        obtain ⟨⟨c00, c01⟩, c02⟩ := P0_2.out
        obtain ⟨⟨c10, c11⟩, c12⟩ := P1_2.out
        obtain ⟨⟨r0, r1, r2, r3⟩, r4⟩ := R_2.out
        go_wp2_with fail
        refine (F3.out _).mono ?_
        rintro e w3 ⟨rfl, hb⟩
        have B3 := Lib.hid (belNext B2.out hb)
        have P0_3 := Lib.hid (P0_2.out.next hb)
        have P1_3 := Lib.hid (P1_2.out.next hb)
        have R_3 := Lib.hid (R_2.out.next hb)
        clear hb c00 c01 c02 c10 c11 c12 r0 r1 r2 r3 r4
        obtain ⟨⟨c00, c01⟩, c02⟩ := P0_3.out
        obtain ⟨⟨c10, c11⟩, c12⟩ := P1_3.out
        obtain ⟨⟨r0, r1, r2, r3⟩, r4⟩ := R_3.out
        go_wp2_with fail
        refine (F4.out _).mono ?_
        rintro e w4 ⟨rfl, hb⟩
        have B4 := Lib.hid (belNext B3.out hb)
        have P0_4 := Lib.hid (P0_3.out.next hb)
        have P1_4 := Lib.hid (P1_3.out.next hb)
        have R_4 := Lib.hid (R_3.out.next hb)
        clear hb c00 c01 c02 c10 c11 c12 r0 r1 r2 r3 r4
        obtain ⟨⟨c00, c01⟩, c02⟩ := P0_4.out
        obtain ⟨⟨c10, c11⟩, c12⟩ := P1_4.out
        obtain ⟨⟨r0, r1, r2, r3⟩, r4⟩ := R_4.out
        go_wp2_with fail
        rw [← HV.out.1, ← HV.out.2]
        refine (MK.out _).mono ?_
        rintro e w5 ⟨rfl, hb⟩
        have B5 := Lib.hid (belNext B4.out hb)
        have P0_5 := Lib.hid (P0_4.out.next hb)
        have P1_5 := Lib.hid (P1_4.out.next hb)
        have R_5 := Lib.hid (R_4.out.next hb)
        clear hb c00 c01 c02 c10 c11 c12 r0 r1 r2 r3 r4
        obtain ⟨⟨c00, c01⟩, c02⟩ := P0_5.out
        obtain ⟨⟨c10, c11⟩, c12⟩ := P1_5.out
        obtain ⟨⟨r0, r1, r2, r3⟩, r4⟩ := R_5.out
        go_wp2_with fail
        refine bodyPost_ret (v := .agg #[.float .f32 z1, .float .f32 z2]) (by simp [results, Tryz.results22, go_sem, r0, r1]) rfl ⟨rfl, ?_⟩
        repeat (first | exact B5.out | exact Below.refl _ _ | refine Below.drew ?_ | refine Below.alloc ?_ (by first | (simp; done) | (simp; omega)) _ | refine Below.setCell ?_ (by first | (simp; done) | (simp; omega)) _)
    · have f3 : fin32 h = false := by simpa using f3
      have e1 : sV l l' 1 4286578688 = wz 4286578688 := by unfold sV; rw [if_neg (by rw [f1]; simp), wz_id Pl.minf]
      have e2 : sV h h' 2 2139095040 = wz 2139095040 := by unfold sV; rw [if_neg (by rw [f3]; simp), wz_id Pl.inf]
      rw [e1, e2]
      have F1 : Hid (∀ w, Calls Tryz.prog 39 #[.float .f32 l] w fun e w' => e = .returned (.bool false) ∧ Below w.heap.size w w') := Lib.hid (fun w => by rw [← f1]; exact finI_any l w pl.1)
      have F3 : Hid (∀ w, Calls Tryz.prog 39 #[.float .f32 h] w fun e w' => e = .returned (.bool false) ∧ Below w.heap.size w w') := Lib.hid (fun w => by rw [← f3]; exact finI_any h w ph.1)
      obtain ⟨v1, hv1⟩ : ∃ v, v = 4286578688 := ⟨_, rfl⟩
      obtain ⟨v2, hv2⟩ : ∃ v, v = 2139095040 := ⟨_, rfl⟩
      have l1 : v1 < 4294967296 := by rw [hv1]; omega
      have l2 : v2 < 4294967296 := by rw [hv2]; omega
      have MK : Hid (∀ w, _) := Lib.hid (fun w => specMake_any v1 v2 w l1 l2)
      obtain ⟨z1, hz1⟩ : ∃ z, z = wz v1 := ⟨_, rfl⟩
      obtain ⟨z2, hz2⟩ : ∃ z, z = wz v2 := ⟨_, rfl⟩
      rw [← hz1, ← hz2] at MK
      rw [← hv1, ← hv2, ← hz1, ← hz2]
      have HV := Lib.hid (And.intro hv1 hv2)
      clear e1 e2 l1 l2 hz1 hz2 pl ph plq phq f1 f3 hv1 hv2
      obtain ⟨w1, hw1, hp0, hp1, hr_, hB_⟩ := ib_2r w l h l' h' 25 25
      have P0_1 := Lib.hid hp0
      have P1_1 := Lib.hid hp1
      have R_1 := Lib.hid hr_
      have hst := store_float Tryz.prog
      have B1 := Lib.hid hB_
      have Hw := Lib.hid hw1
      clear hw1 hp0 hp1 hr_ hB_
      obtain ⟨⟨c00, c01⟩, c02⟩ := P0_1.out
      obtain ⟨⟨c10, c11⟩, c12⟩ := P1_1.out
      obtain ⟨⟨r0, r1, r2, r3⟩, r4⟩ := R_1.out
      go_enter Tryz.func22, Tryz.ntmps22
      go_wp2_with fail
      rw [← Hw.out]
      refine (huge_any _).mono ?_
      rintro e w9 ⟨rfl, rfl⟩
      go_wp2_with fail
      refine (huge_any _).mono ?_
      rintro e w9 ⟨rfl, rfl⟩
      go_wp2_with fail
      refine (F1.out _).mono ?_
      rintro e w2 ⟨rfl, hb⟩
      have B2 := Lib.hid (belNext B1.out hb)
      have P0_2 := Lib.hid (P0_1.out.next hb)
      have P1_2 := Lib.hid (P1_1.out.next hb)
      have R_2 := Lib.hid (R_1.out.next hb)
      clear hb c00 c01 c02 c10 c11 c12 r0 r1 r2 r3 r4
      obtain ⟨⟨c00, c01⟩, c02⟩ := P0_2.out
      obtain ⟨⟨c10, c11⟩, c12⟩ := P1_2.out
      obtain ⟨⟨r0, r1, r2, r3⟩, r4⟩ := R_2.out
      go_wp2_with fail
      refine (F3.out _).mono ?_
      rintro e w3 ⟨rfl, hb⟩
      have B3 := Lib.hid (belNext B2.out hb)
      have P0_3 := Lib.hid (P0_2.out.next hb)
      have P1_3 := Lib.hid (P1_2.out.next hb)
      have R_3 := Lib.hid (R_2.out.next hb)
      clear hb c00 c01 c02 c10 c11 c12 r0 r1 r2 r3 r4
      obtain ⟨⟨c00, c01⟩, c02⟩ := P0_3.out
      obtain ⟨⟨c10, c11⟩, c12⟩ := P1_3.out
      obtain ⟨⟨r0, r1, r2, r3⟩, r4⟩ := R_3.out
      go_wp2_with fail
      rw [← HV.out.1, ← HV.out.2]
      refine (MK.out _).mono ?_
      rintro e w4 ⟨rfl, hb⟩
      have B4 := Lib.hid (belNext B3.out hb)
      have P0_4 := Lib.hid (P0_3.out.next hb)
      have P1_4 := Lib.hid (P1_3.out.next hb)
      have R_4 := Lib.hid (R_3.out.next hb)
      clear hb c00 c01 c02 c10 c11 c12 r0 r1 r2 r3 r4
      obtain ⟨⟨c00, c01⟩, c02⟩ := P0_4.out
      obtain ⟨⟨c10, c11⟩, c12⟩ := P1_4.out
      obtain ⟨⟨r0, r1, r2, r3⟩, r4⟩ := R_4.out
      go_wp2_with fail
      refine bodyPost_ret (v := .agg #[.float .f32 z1, .float .f32 z2]) (by simp [results, Tryz.results22, go_sem, r0, r1]) rfl ⟨rfl, ?_⟩
      repeat (first | exact B4.out | exact Below.refl _ _ | refine Below.drew ?_ | refine Below.alloc ?_ (by first | (simp; done) | (simp; omega)) _ | refine Below.setCell ?_ (by first | (simp; done) | (simp; omega)) _)
end Go.Proofs.YtngminjncdfjdaaGreatDoor
/- Sums and differences of intervals of the model: the rest. -/
namespace Go.Proofs.YtngminjncdfjdaaGreatDoor
set_option maxRecDepth 100000
open Go.RowKit
set_option linter.unusedSimpArgs false
set_option linter.unusedVariables false

set_option maxHeartbeats 4000000 in
theorem specISub_any (l h l' h' : Nat) (w : World) (pl : Pl l) (ph : Pl h) (plq : Pl l') (phq : Pl h') :
    Calls Tryz.prog 25 #[.agg #[.float .f32 l, .float .f32 h], .agg #[.float .f32 l', .float .f32 h']] w fun e w' => e = .returned (.agg #[.float .f32 ((sV l (opp h') 1 4286578688)), .float .f32 ((sV h (opp l') 2 2139095040))]) ∧ Below w.heap.size w w' := by
  have EO : Hid (∀ w, _) := Lib.hid (fun w => specINeg_any l' h' w plq phq)
  have EP : Hid (∀ w, _) := Lib.hid (fun w => specIAdd_any l h (opp h') (opp l') w pl ph (opp_pl phq) (opp_pl plq))
  obtain ⟨f1, hf1⟩ : ∃ f, f = sV l (opp h') 1 4286578688 := ⟨_, rfl⟩
  obtain ⟨f2, hf2⟩ : ∃ f, f = sV h (opp l') 2 2139095040 := ⟨_, rfl⟩
  obtain ⟨o1, ho1⟩ : ∃ o, o = opp h' := ⟨_, rfl⟩
  obtain ⟨o2, ho2⟩ : ∃ o, o = opp l' := ⟨_, rfl⟩
  rw [← hf1, ← hf2] at EP
  rw [← ho1, ← ho2] at EP EO
  rw [← hf1, ← hf2]
  clear pl ph plq phq hf1 hf2 ho1 ho2
  obtain ⟨w1, hw1, hp0, hp1, hr_, hB_⟩ := ib_2r w l h l' h' 25 25
  have P0_1 := Lib.hid hp0
  have P1_1 := Lib.hid hp1
  have R_1 := Lib.hid hr_
  have hst := store_float Tryz.prog
  have B1 := Lib.hid hB_
  have Hw := Lib.hid hw1
  clear hw1 hp0 hp1 hr_ hB_
  obtain ⟨⟨c00, c01⟩, c02⟩ := P0_1.out
  obtain ⟨⟨c10, c11⟩, c12⟩ := P1_1.out
  obtain ⟨⟨r0, r1, r2, r3⟩, r4⟩ := R_1.out
  go_enter Tryz.func25, Tryz.ntmps25
  go_upto_region 1 with fail
  rw [← Hw.out]
  refine wp_region_held_drew (S := fun w' => (w'.cell? ⟨w.heap.size, 0, none⟩ = some (.float .f32 l) ∧ w'.cell? ⟨w.heap.size, 1, none⟩ = some (.float .f32 h)) ∧ (w'.cell? ⟨w.heap.size + 1, 0, none⟩ = some (.float .f32 l') ∧ w'.cell? ⟨w.heap.size + 1, 1, none⟩ = some (.float .f32 h'))) (by kernel_rfl) ⟨P0_1.out.1, P1_1.out.1⟩ (fun hHeld => ?_)
  clear c00 c01 c02 c10 c11 c12 r0 r1 r2 r3 r4
  refine wpAnyH_take (i := 0) (v := ?_) rfl (by kernel_rfl) (by kernel_rfl) (by kernel_rfl) (fun _ _ _ h => h) (Or.inl ⟨by rfl, ?_⟩) (by assumption) ?_
  rotate_left
  · (intro w hSw; (try dsimp only at hSw); go_simp; (try with_reducible rfl))
  try simp only [Act.put, List.setIfInBounds_toArray, List.set_cons_zero, List.set_cons_succ, List.getElem_toArray, List.getElem_cons_succ, List.getElem_cons_zero]
  refine wpAnyH_take (i := 1) (v := ?_) rfl (by kernel_rfl) (by kernel_rfl) (by kernel_rfl) (fun _ _ _ h => h) (Or.inl ⟨by rfl, ?_⟩) (by assumption) ?_
  rotate_left
  · (intro w hSw; (try dsimp only at hSw); go_simp; (try with_reducible rfl))
  try simp only [Act.put, List.setIfInBounds_toArray, List.set_cons_zero, List.set_cons_succ, List.getElem_toArray, List.getElem_cons_succ, List.getElem_cons_zero]
  refine wpAnyH_ready (rs := [2]) (by kernel_rfl) (by simp) ?_
  refine AllReadyH.cons rfl (fun K hK => ?_) AllReadyH.nil
  go_simp
  refine (EO.out w1.drew).mono ?_
  rintro e w2 ⟨rfl, hb0⟩
  have hb : Below w1.heap.size w1 w2 := belDrew hb0
  refine hK.out _ _ ⟨(P0_1.out.next hb).1, (P1_1.out.next hb).1⟩ (fun hHeld => ?_)
  clear hK K hb0
  have B2 := Lib.hid (belNext B1.out hb)
  have P0_2 := Lib.hid (P0_1.out.next hb)
  have P1_2 := Lib.hid (P1_1.out.next hb)
  have R_2 := Lib.hid (R_1.out.next hb)
  clear hb
  try simp only [Act.put, List.setIfInBounds_toArray, List.set_cons_zero, List.set_cons_succ, List.getElem_toArray, List.getElem_cons_succ, List.getElem_cons_zero]
  refine wpAnyH_ready (rs := [3]) (by kernel_rfl) (by simp) ?_
  refine AllReadyH.cons rfl (fun K hK => ?_) AllReadyH.nil
  go_simp
  refine (EP.out w2).mono ?_
  rintro e w3 ⟨rfl, hb0⟩
  have hb : Below w2.heap.size w2 w3 := hb0
  refine hK.out _ _ ⟨(P0_2.out.next hb).1, (P1_2.out.next hb).1⟩ (fun hHeld => ?_)
  clear hK K hb0
  have B3 := Lib.hid (belNext B2.out hb)
  have P0_3 := Lib.hid (P0_2.out.next hb)
  have P1_3 := Lib.hid (P1_2.out.next hb)
  have R_3 := Lib.hid (R_2.out.next hb)
  clear hb
  try simp only [Act.put, List.setIfInBounds_toArray, List.set_cons_zero, List.set_cons_succ, List.getElem_toArray, List.getElem_cons_succ, List.getElem_cons_zero]
  obtain ⟨⟨r0, r1, r2, r3⟩, r4⟩ := R_3.out
  refine wpAnyH_ready (rs := [4]) (by kernel_rfl) (by simp) ?_
  refine AllReadyH.cons rfl (fun K hK => ?_) AllReadyH.nil
  go_simp
  refine hK.out _ _ ⟨((P0_3.out.keep (p := ⟨w.heap.size + 2, 0, none⟩) (by simp) _).keep (p := ⟨w.heap.size + 2, 1, none⟩) (by simp) _).1, ((P1_3.out.keep (p := ⟨w.heap.size + 2, 0, none⟩) (by simp) _).keep (p := ⟨w.heap.size + 2, 1, none⟩) (by simp) _).1⟩ (fun hHeld => ?_)
  clear hK K hHeld
  try simp only [Act.put, List.setIfInBounds_toArray, List.set_cons_zero, List.set_cons_succ, List.getElem_toArray, List.getElem_cons_succ, List.getElem_cons_zero]
  refine wpAnyH_done (by kernel_rfl) ?_ _
  go_wp2_with fail
  refine bodyPost_ret (v := .agg #[.float .f32 f1, .float .f32 f2]) (by simp [results, Tryz.results25, go_sem, r0, r1]) rfl ⟨rfl, ?_⟩
  repeat (first | exact B3.out | exact Below.refl _ _ | refine Below.drew ?_ | refine Below.alloc ?_ (by first | (simp; done) | (simp; omega)) _ | refine Below.setCell ?_ (by first | (simp; done) | (simp; omega)) _)
set_option maxHeartbeats 2000000 in
theorem specAddIW_any (l h l' h' : Nat) (w : World) (hl : l < 4294967296) (hh : h < 4294967296) (hlq : l' < 4294967296) (hhq : h' < 4294967296) :
    Calls Tryz.prog 8 #[.agg #[.float .f32 l, .float .f32 h], .agg #[.float .f32 l', .float .f32 h']] w fun e w' => e = .returned (.tuple #[.agg #[.float .f32 ((adLw l h l' h')), .float .f32 ((adHw l h l' h'))], .int .i64 (cI (bI l h l' h'))]) ∧ Below w.heap.size w w' := by
  by_cases b : bI l h l' h' = true
  · have bb := b
    unfold bI at bb
    simp only [Bool.and_eq_true] at bb
    obtain ⟨pl, ph, q1, q2, q3⟩ := isI_facts hl hh bb.1
    obtain ⟨plq, phq, q4, q5, q6⟩ := isI_facts hlq hhq bb.2
    have HB : Hid (∀ w, Calls Tryz.prog 21 #[.agg #[.float .f32 l, .float .f32 h], .agg #[.float .f32 l', .float .f32 h']] w fun e w' => e = .returned (.int .i64 0) ∧ Below w.heap.size w w') := Lib.hid (fun w => by have h := specIBoth_any l h l' h' w hl hh hlq hhq; rw [b] at h; exact h)
    have e0 : (.tuple #[.agg #[.float .f32 ((adLw l h l' h')), .float .f32 ((adHw l h l' h'))], .int .i64 (cI (bI l h l' h'))] : Value) = .tuple #[.agg #[.float .f32 ((sV l l' 1 4286578688)), .float .f32 ((sV h h' 2 2139095040))], .int .i64 0] := by unfold adLw adHw cI; simp [b]
    rw [e0]
    clear e0
    have H3 : Hid (∀ w, _) := Lib.hid (fun w => specIAdd_any l h l' h' w pl ph plq phq)
    obtain ⟨f1, hf1⟩ : ∃ f, f = (sV l l' 1 4286578688) := ⟨_, rfl⟩
    obtain ⟨f2, hf2⟩ : ∃ f, f = (sV h h' 2 2139095040) := ⟨_, rfl⟩
    rw [← hf1, ← hf2] at H3 ⊢
    clear hf1 hf2 b bb pl ph plq phq q1 q2 q3 q4 q5 q6 hl hh hlq hhq
    obtain ⟨w1, hw1, hp0, hp1, hr_, hB_⟩ := ib_2r w l h l' h' 25 25
    have P0_1 := Lib.hid hp0
    have P1_1 := Lib.hid hp1
    have R_1 := Lib.hid hr_
    have hst := store_float Tryz.prog
    have B1 := Lib.hid hB_
    have Hw := Lib.hid hw1
    clear hw1 hp0 hp1 hr_ hB_
    obtain ⟨⟨c00, c01⟩, c02⟩ := P0_1.out
    obtain ⟨⟨c10, c11⟩, c12⟩ := P1_1.out
    obtain ⟨⟨r0, r1, r2, r3⟩, r4⟩ := R_1.out
    go_enter Tryz.func8, Tryz.ntmps8
    go_wp2_with fail
    rw [← Hw.out]
    refine (HB.out _).mono ?_
    rintro e w2 ⟨rfl, hb⟩
    have B2 := Lib.hid (belNext B1.out hb)
    have P0_2 := Lib.hid (P0_1.out.next hb)
    have P1_2 := Lib.hid (P1_1.out.next hb)
    have R_2 := Lib.hid (R_1.out.next hb)
    clear hb c00 c01 c02 c10 c11 c12 r0 r1 r2 r3 r4
    obtain ⟨⟨c00, c01⟩, c02⟩ := P0_2.out
    obtain ⟨⟨c10, c11⟩, c12⟩ := P1_2.out
    obtain ⟨⟨r0, r1, r2, r3⟩, r4⟩ := R_2.out
    go_wp2_with fail
    refine (H3.out _).mono ?_
    rintro e w3 ⟨rfl, hb⟩
    have B3 := Lib.hid (belNext B2.out hb)
    have P0_3 := Lib.hid (P0_2.out.next hb)
    have P1_3 := Lib.hid (P1_2.out.next hb)
    have R_3 := Lib.hid (R_2.out.next hb)
    clear hb c00 c01 c02 c10 c11 c12 r0 r1 r2 r3 r4
    obtain ⟨⟨c00, c01⟩, c02⟩ := P0_3.out
    obtain ⟨⟨c10, c11⟩, c12⟩ := P1_3.out
    obtain ⟨⟨r0, r1, r2, r3⟩, r4⟩ := R_3.out
    go_wp2_with fail
    refine bodyPost_ret (v := .tuple #[.agg #[.float .f32 f1, .float .f32 f2], .int .i64 0]) (by simp [results, Tryz.results8, go_sem, r0, r1]) rfl ⟨rfl, ?_⟩
    repeat (first | exact B3.out | exact Below.refl _ _ | refine Below.drew ?_ | refine Below.alloc ?_ (by first | (simp; done) | (simp; omega)) _ | refine Below.setCell ?_ (by first | (simp; done) | (simp; omega)) _)
  · have b : bI l h l' h' = false := by simpa using b
    have HB : Hid (∀ w, Calls Tryz.prog 21 #[.agg #[.float .f32 l, .float .f32 h], .agg #[.float .f32 l', .float .f32 h']] w fun e w' => e = .returned (.int .i64 1) ∧ Below w.heap.size w w') := Lib.hid (fun w => by have h := specIBoth_any l h l' h' w hl hh hlq hhq; rw [b] at h; exact h)
    have e0 : (.tuple #[.agg #[.float .f32 ((adLw l h l' h')), .float .f32 ((adHw l h l' h'))], .int .i64 (cI (bI l h l' h'))] : Value) = .tuple #[.agg #[.float .f32 0, .float .f32 0], .int .i64 1] := by unfold adLw adHw cI; simp [b]
    rw [e0]
    clear e0 hl hh hlq hhq b
    obtain ⟨w1, hw1, hp0, hp1, hr_, hB_⟩ := ib_2r w l h l' h' 25 25
    have P0_1 := Lib.hid hp0
    have P1_1 := Lib.hid hp1
    have R_1 := Lib.hid hr_
    have hst := store_float Tryz.prog
    have B1 := Lib.hid hB_
    have Hw := Lib.hid hw1
    clear hw1 hp0 hp1 hr_ hB_
    obtain ⟨⟨c00, c01⟩, c02⟩ := P0_1.out
    obtain ⟨⟨c10, c11⟩, c12⟩ := P1_1.out
    obtain ⟨⟨r0, r1, r2, r3⟩, r4⟩ := R_1.out
    go_enter Tryz.func8, Tryz.ntmps8
    go_wp2_with fail
    rw [← Hw.out]
    refine (HB.out _).mono ?_
    rintro e w2 ⟨rfl, hb⟩
    have B2 := Lib.hid (belNext B1.out hb)
    have P0_2 := Lib.hid (P0_1.out.next hb)
    have P1_2 := Lib.hid (P1_1.out.next hb)
    have R_2 := Lib.hid (R_1.out.next hb)
    clear hb c00 c01 c02 c10 c11 c12 r0 r1 r2 r3 r4
    obtain ⟨⟨c00, c01⟩, c02⟩ := P0_2.out
    obtain ⟨⟨c10, c11⟩, c12⟩ := P1_2.out
    obtain ⟨⟨r0, r1, r2, r3⟩, r4⟩ := R_2.out
    go_wp2_with fail
    refine bodyPost_ret (v := .tuple #[.agg #[.float .f32 0, .float .f32 0], .int .i64 1]) (by simp [results, Tryz.results8, go_sem, r0, r1]) rfl ⟨rfl, ?_⟩
    repeat (first | exact B2.out | exact Below.refl _ _ | refine Below.drew ?_ | refine Below.alloc ?_ (by first | (simp; done) | (simp; omega)) _ | refine Below.setCell ?_ (by first | (simp; done) | (simp; omega)) _)
set_option maxHeartbeats 2000000 in
theorem specSubIW_any (l h l' h' : Nat) (w : World) (hl : l < 4294967296) (hh : h < 4294967296) (hlq : l' < 4294967296) (hhq : h' < 4294967296) :
    Calls Tryz.prog 12 #[.agg #[.float .f32 l, .float .f32 h], .agg #[.float .f32 l', .float .f32 h']] w fun e w' => e = .returned (.tuple #[.agg #[.float .f32 ((sbLw l h l' h')), .float .f32 ((sbHw l h l' h'))], .int .i64 (cI (bI l h l' h'))]) ∧ Below w.heap.size w w' := by
  by_cases b : bI l h l' h' = true
  · have bb := b
    unfold bI at bb
    simp only [Bool.and_eq_true] at bb
    obtain ⟨pl, ph, q1, q2, q3⟩ := isI_facts hl hh bb.1
    obtain ⟨plq, phq, q4, q5, q6⟩ := isI_facts hlq hhq bb.2
    have HB : Hid (∀ w, Calls Tryz.prog 21 #[.agg #[.float .f32 l, .float .f32 h], .agg #[.float .f32 l', .float .f32 h']] w fun e w' => e = .returned (.int .i64 0) ∧ Below w.heap.size w w') := Lib.hid (fun w => by have h := specIBoth_any l h l' h' w hl hh hlq hhq; rw [b] at h; exact h)
    have e0 : (.tuple #[.agg #[.float .f32 ((sbLw l h l' h')), .float .f32 ((sbHw l h l' h'))], .int .i64 (cI (bI l h l' h'))] : Value) = .tuple #[.agg #[.float .f32 ((sV l (opp h') 1 4286578688)), .float .f32 ((sV h (opp l') 2 2139095040))], .int .i64 0] := by unfold sbLw sbHw cI; simp [b]
    rw [e0]
    clear e0
    have H3 : Hid (∀ w, _) := Lib.hid (fun w => specISub_any l h l' h' w pl ph plq phq)
    obtain ⟨f1, hf1⟩ : ∃ f, f = (sV l (opp h') 1 4286578688) := ⟨_, rfl⟩
    obtain ⟨f2, hf2⟩ : ∃ f, f = (sV h (opp l') 2 2139095040) := ⟨_, rfl⟩
    rw [← hf1, ← hf2] at H3 ⊢
    clear hf1 hf2 b bb pl ph plq phq q1 q2 q3 q4 q5 q6 hl hh hlq hhq
    obtain ⟨w1, hw1, hp0, hp1, hr_, hB_⟩ := ib_2r w l h l' h' 25 25
    have P0_1 := Lib.hid hp0
    have P1_1 := Lib.hid hp1
    have R_1 := Lib.hid hr_
    have hst := store_float Tryz.prog
    have B1 := Lib.hid hB_
    have Hw := Lib.hid hw1
    clear hw1 hp0 hp1 hr_ hB_
    obtain ⟨⟨c00, c01⟩, c02⟩ := P0_1.out
    obtain ⟨⟨c10, c11⟩, c12⟩ := P1_1.out
    obtain ⟨⟨r0, r1, r2, r3⟩, r4⟩ := R_1.out
    go_enter Tryz.func12, Tryz.ntmps12
    go_wp2_with fail
    rw [← Hw.out]
    refine (HB.out _).mono ?_
    rintro e w2 ⟨rfl, hb⟩
    have B2 := Lib.hid (belNext B1.out hb)
    have P0_2 := Lib.hid (P0_1.out.next hb)
    have P1_2 := Lib.hid (P1_1.out.next hb)
    have R_2 := Lib.hid (R_1.out.next hb)
    clear hb c00 c01 c02 c10 c11 c12 r0 r1 r2 r3 r4
    obtain ⟨⟨c00, c01⟩, c02⟩ := P0_2.out
    obtain ⟨⟨c10, c11⟩, c12⟩ := P1_2.out
    obtain ⟨⟨r0, r1, r2, r3⟩, r4⟩ := R_2.out
    go_wp2_with fail
    refine (H3.out _).mono ?_
    rintro e w3 ⟨rfl, hb⟩
    have B3 := Lib.hid (belNext B2.out hb)
    have P0_3 := Lib.hid (P0_2.out.next hb)
    have P1_3 := Lib.hid (P1_2.out.next hb)
    have R_3 := Lib.hid (R_2.out.next hb)
    clear hb c00 c01 c02 c10 c11 c12 r0 r1 r2 r3 r4
    obtain ⟨⟨c00, c01⟩, c02⟩ := P0_3.out
    obtain ⟨⟨c10, c11⟩, c12⟩ := P1_3.out
    obtain ⟨⟨r0, r1, r2, r3⟩, r4⟩ := R_3.out
    go_wp2_with fail
    refine bodyPost_ret (v := .tuple #[.agg #[.float .f32 f1, .float .f32 f2], .int .i64 0]) (by simp [results, Tryz.results12, go_sem, r0, r1]) rfl ⟨rfl, ?_⟩
    repeat (first | exact B3.out | exact Below.refl _ _ | refine Below.drew ?_ | refine Below.alloc ?_ (by first | (simp; done) | (simp; omega)) _ | refine Below.setCell ?_ (by first | (simp; done) | (simp; omega)) _)
  · have b : bI l h l' h' = false := by simpa using b
    have HB : Hid (∀ w, Calls Tryz.prog 21 #[.agg #[.float .f32 l, .float .f32 h], .agg #[.float .f32 l', .float .f32 h']] w fun e w' => e = .returned (.int .i64 1) ∧ Below w.heap.size w w') := Lib.hid (fun w => by have h := specIBoth_any l h l' h' w hl hh hlq hhq; rw [b] at h; exact h)
    have e0 : (.tuple #[.agg #[.float .f32 ((sbLw l h l' h')), .float .f32 ((sbHw l h l' h'))], .int .i64 (cI (bI l h l' h'))] : Value) = .tuple #[.agg #[.float .f32 0, .float .f32 0], .int .i64 1] := by unfold sbLw sbHw cI; simp [b]
    rw [e0]
    clear e0 hl hh hlq hhq b
    obtain ⟨w1, hw1, hp0, hp1, hr_, hB_⟩ := ib_2r w l h l' h' 25 25
    have P0_1 := Lib.hid hp0
    have P1_1 := Lib.hid hp1
    have R_1 := Lib.hid hr_
    have hst := store_float Tryz.prog
    have B1 := Lib.hid hB_
    have Hw := Lib.hid hw1
    clear hw1 hp0 hp1 hr_ hB_
    obtain ⟨⟨c00, c01⟩, c02⟩ := P0_1.out
    obtain ⟨⟨c10, c11⟩, c12⟩ := P1_1.out
    obtain ⟨⟨r0, r1, r2, r3⟩, r4⟩ := R_1.out
    go_enter Tryz.func12, Tryz.ntmps12
    go_wp2_with fail
    rw [← Hw.out]
    refine (HB.out _).mono ?_
    rintro e w2 ⟨rfl, hb⟩
    have B2 := Lib.hid (belNext B1.out hb)
    have P0_2 := Lib.hid (P0_1.out.next hb)
    have P1_2 := Lib.hid (P1_1.out.next hb)
    have R_2 := Lib.hid (R_1.out.next hb)
    clear hb c00 c01 c02 c10 c11 c12 r0 r1 r2 r3 r4
    obtain ⟨⟨c00, c01⟩, c02⟩ := P0_2.out
    obtain ⟨⟨c10, c11⟩, c12⟩ := P1_2.out
    obtain ⟨⟨r0, r1, r2, r3⟩, r4⟩ := R_2.out
    go_wp2_with fail
    refine bodyPost_ret (v := .tuple #[.agg #[.float .f32 0, .float .f32 0], .int .i64 1]) (by simp [results, Tryz.results12, go_sem, r0, r1]) rfl ⟨rfl, ?_⟩
    repeat (first | exact B2.out | exact Below.refl _ _ | refine Below.drew ?_ | refine Below.alloc ?_ (by first | (simp; done) | (simp; omega)) _ | refine Below.setCell ?_ (by first | (simp; done) | (simp; omega)) _)
end Go.Proofs.YtngminjncdfjdaaGreatDoor
