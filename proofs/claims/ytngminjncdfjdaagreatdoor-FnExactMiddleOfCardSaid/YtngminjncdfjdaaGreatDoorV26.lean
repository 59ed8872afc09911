/- Texts of this seat, joined: Un -/
import Derived.Test.YtngminjncdfjdaaGreatDoorV25
import Derived.Test.YtngminjncdfjdaaGreatDoorY24
import Derived.Test.YtngminjncdfjdaaGreatDoorV21
import Derived.Test.YtngminjncdfjdaaGreatDoorV9
import Derived.Deep.DeepCutAuto
/- Middles of intervals, of the model. -/
namespace Go.Proofs.YtngminjncdfjdaaGreatDoor
set_option maxRecDepth 100000
open Go.RowKit
set_option linter.unusedSimpArgs false
set_option linter.unusedVariables false

theorem DBox.exp_ {w : World} {b n c : Nat} {S E : Int} {A : Option Addr} (x : DBox w b S A n c E) (h : Int) : DBox (w.setCell ⟨b, 2, none⟩ (.int .i64 h)) b S A n c h := by
  obtain ⟨⟨x0, x1, x2⟩, x3⟩ := x
  refine ⟨⟨?_, ?_, ?_⟩, by simpa using x3⟩ <;> go_simp
theorem IB.st3_ {w : World} {b b' l' h' n c : Nat} {S E : Int} {A : Option Addr} (x : IB w b' l' h') (hne : b' ≠ b) : IB (st3 w b S A n c E) b' l' h' :=
  ⟨⟨(st3_cell hne).trans x.1.1, (st3_cell hne).trans x.1.2⟩, by rw [st3_size]; exact x.2⟩
theorem mdV_norm {l h : Nat} : mdV l h = if adZ l h = 0 then 0 else wz (rdF (nz (adZ l h)) (nx (adZ l h) (min (fe l) (fe h)) - 1) 0) := by
  unfold mdV
  by_cases z : adZ l h = 0
  · rw [if_pos z]; unfold xF; rw [if_pos z, wz_zF]
  · rw [if_neg z, wz_norm, nx_ne z, nx_ne z]
    congr 2
    omega
set_option maxHeartbeats 1000000 in
theorem specBounded_any (l h : Nat) (w : World) (pl : Pl l) (ph : Pl h) :
    Calls Tryz.prog 33 #[.agg #[.float .f32 l, .float .f32 h]] w fun e w' => e = .returned (.bool (fin32 l && fin32 h)) ∧ Below w.heap.size w w' := by
  have F1 : Hid (∀ w, _) := Lib.hid (fun w => finI_any l w pl.1)
  have F2 : Hid (∀ w, _) := Lib.hid (fun w => finI_any h w ph.1)
  obtain ⟨b1, hb1⟩ : ∃ b, b = fin32 l := ⟨_, rfl⟩
  obtain ⟨b2, hb2⟩ : ∃ b, b = fin32 h := ⟨_, rfl⟩
  rw [← hb1] at F1
  rw [← hb2] at F2
  rw [← hb1, ← hb2]
  clear pl ph hb1 hb2
  obtain ⟨w1, hw1, hp0, hB_⟩ := ib_1 w l h 25
  have P0_1 := Lib.hid hp0
  have hst := store_float Tryz.prog
  have B1 := Lib.hid hB_
  have Hw := Lib.hid hw1
  clear hw1 hp0 hB_
  obtain ⟨⟨c00, c01⟩, c02⟩ := P0_1.out
  go_enter Tryz.func33, Tryz.ntmps33
  go_wp2_with fail
  rw [← Hw.out]
  refine (F1.out _).mono ?_
  rintro e w2 ⟨rfl, hb⟩
  have B2 := Lib.hid (belNext B1.out hb)
  have P0_2 := Lib.hid (P0_1.out.next hb)
  clear hb c00 c01 c02
  obtain ⟨⟨c00, c01⟩, c02⟩ := P0_2.out
  cases b1
  · go_wp2_with fail
    go_ret
    exact ⟨rfl, B2.out⟩
  · go_wp2_with fail
    refine (F2.out _).mono ?_
    rintro e w3 ⟨rfl, hb⟩
    have B3 := Lib.hid (belNext B2.out hb)
    have P0_3 := Lib.hid (P0_2.out.next hb)
    clear hb c00 c01 c02
    obtain ⟨⟨c00, c01⟩, c02⟩ := P0_3.out
    go_wp2_with fail
    go_ret
    exact ⟨ret_boolI (by simp), B3.out⟩
set_option maxHeartbeats 16000000 in
theorem specMiddle_any (l h : Nat) (w : World) (pl : Pl l) (ph : Pl h) (f1 : fin32 l = true) (f2 : fin32 h = true) :
    Calls Tryz.prog 34 #[.agg #[.float .f32 l, .float .f32 h]] w fun e w' => e = .returned (.float .f32 (mdV l h)) ∧ Below w.heap.size w w' := by
  have OL : Hid (∀ w, _) := Lib.hid (fun w => ofV_any l w pl.1 f1)
  have OH : Hid (∀ w, _) := Lib.hid (fun w => ofV_any h w ph.1 f2)
  have AL : Hid (∀ Sx Sy Ax Ay a b c d w, ZV w (fz l) Sx Ax a b → ZV w (fz h) Sy Ay c d → Calls Tryz.prog 41 #[.agg #[.int .i64 Sx, .slice Ax a b, .int .i64 (fe l)], .agg #[.int .i64 Sy, .slice Ay c d, .int .i64 (fe h)]] w fun e w' => ∃ Sr Ar nr cr, e = .returned (.agg #[.int .i64 Sr, .slice Ar nr cr, .int .i64 (nx (adZ l h) (min (fe l) (fe h)))]) ∧ ZO w' w.heap.size w'.heap.size (nz (adZ l h)) Sr Ar nr cr ∧ Below w.heap.size w w') := Lib.hid (fun Sx Sy Ax Ay a b c d w u v => by
    obtain ⟨a1, a2⟩ := fe_small f1
    obtain ⟨a3, a4⟩ := fe_small f2
    have n1 := fz_len f1 u.len
    have n2 := fz_len f2 v.len
    exact specAddD_any (fz l) Sx (fe l) (fz h) Sy (fe h) Ax Ay a b c d w u v (by omega) (by omega) (by omega) (by omega) (by omega) (by omega))
  have HN : Hid (∀ n, (limbs (nz (adZ l h)).natAbs).length = n → (n : Int) ≤ 21) := Lib.hid (fun n x => (ad_norm f1 f2 x).1)
  have hx := (ad_norm f1 f2 rfl).2
  obtain ⟨x9, hx9⟩ : ∃ x, x = nx (adZ l h) (min (fe l) (fe h)) := ⟨_, rfl⟩
  obtain ⟨z9, hz9⟩ : ∃ z, z = nz (adZ l h) := ⟨_, rfl⟩
  have e0 : mdV l h = if z9 = 0 then 0 else wz (rdF z9 (x9 - 1) 0) := by
    rw [mdV_norm, hz9, hx9]
    by_cases z : adZ l h = 0
    · rw [if_pos z, if_pos (nz_eq_zero.2 z)]
    · rw [if_neg z, if_neg (fun q => z (nz_eq_zero.1 q))]
  have HO : Hid (z9 ≠ 0 → z9.natAbs % 2 = 1) := Lib.hid (fun e => by rw [hz9]; exact nz_odd3 (fun z => e (by rw [hz9, z, nz_zero])))
  rw [← hx9] at AL hx
  rw [← hz9] at AL HN
  rw [e0]
  obtain ⟨hx1, hx2⟩ := hx
  have HRD : Hid (∀ S A n c w, ZV w z9 S A n c → _) := Lib.hid (fun S A n c w a => specRound_any z9 S (x9 - 1) 0 A n c w a HO.out (by have := HN.out _ a.len; omega) (by omega) (by omega) (by decide) (by decide))
  obtain ⟨f9, hf9⟩ : ∃ f, f = rdF z9 (x9 - 1) 0 := ⟨_, rfl⟩
  obtain ⟨g9, hg9⟩ : ∃ g, g = rdL z9 (x9 - 1) 0 := ⟨_, rfl⟩
  have lt9 : f9 < 4294967296 := by rw [hf9]; exact (rdF_ok _ _ _).1
  have HZR : Hid (∀ w, _) := Lib.hid (fun w => zeroI_any f9 w lt9)
  rw [← hf9, ← hg9] at HRD
  rw [← hf9]
  obtain ⟨v9, hv9⟩ : ∃ v, v = if z9 = 0 then 0 else wz f9 := ⟨_, rfl⟩
  rw [← hv9]
  have HV : Hid ((z9 = 0 → v9 = 0) ∧ (z9 ≠ 0 → v9 = wz f9)) := Lib.hid ⟨fun q => by rw [hv9, if_pos q], fun q => by rw [hv9, if_neg q]⟩
  clear hx9 hz9 e0 f1 f2 pl ph hf9 hg9 lt9 hv9
  obtain ⟨w1, hw1, hp0, hB_⟩ := ib_1 w l h 25
  have P0_1 := Lib.hid hp0
  have hst := store_float Tryz.prog
  have B1 := Lib.hid hB_
  have Hw := Lib.hid hw1
  clear hw1 hp0 hB_
  obtain ⟨⟨c00, c01⟩, c02⟩ := P0_1.out
  go_enter Tryz.func34, Tryz.ntmps34
  go_upto_region 1 with fail
  rw [← Hw.out]
  go_cut [3] from 6 to 12 (fun t1 wx => ∃ (bq : Nat) (S : Int) (A : Option Addr) (n c lo hi : Nat), t1 = .pointer (some ⟨bq, 0, none⟩) ∧ DBox wx bq S A n c x9 ∧ Fr3 wx bq ∧ ZO wx lo hi z9 S A n c ∧ (bq < lo ∨ hi ≤ bq) ∧ w.heap.size ≤ bq ∧ Below w.heap.size w wx)
  case first =>
    refine wp_region_held_drew (S := fun w' => (w'.cell? ⟨w.heap.size, 0, none⟩ = some (.float .f32 l) ∧ w'.cell? ⟨w.heap.size, 1, none⟩ = some (.float .f32 h))) (by kernel_rfl) P0_1.out.1 (fun hHeld => ?_)
    clear c00 c01 c02
    have Sz1 : Hid (w.heap.size < w1.heap.size) := Lib.hid P0_1.out.2
    refine wpAnyH_take (i := 0) (v := ?_) rfl (by kernel_rfl) (by kernel_rfl) (by kernel_rfl) (fun _ _ _ h => h) (Or.inl ⟨by rfl, ?_⟩) (by assumption) ?_
    rotate_left
    · (intro w hSw; (try dsimp only at hSw); go_simp; (try with_reducible rfl))
    try simp only [Act.put, List.setIfInBounds_toArray, List.set_cons_zero, List.set_cons_succ, List.getElem_toArray, List.getElem_cons_succ, List.getElem_cons_zero]
    refine wpAnyH_take (i := 1) (v := ?_) rfl (by kernel_rfl) (by kernel_rfl) (by kernel_rfl) (fun _ _ _ h => h) (Or.inl ⟨by rfl, ?_⟩) (by assumption) ?_
    rotate_left
    · (intro w hSw; (try dsimp only at hSw); go_simp; (try with_reducible rfl))
    try simp only [Act.put, List.setIfInBounds_toArray, List.set_cons_zero, List.set_cons_succ, List.getElem_toArray, List.getElem_cons_succ, List.getElem_cons_zero]
    refine wpAnyH_take (i := 3) (v := ?_) rfl (by kernel_rfl) (by kernel_rfl) (by kernel_rfl) (fun _ _ _ h => h) (Or.inl ⟨by rfl, ?_⟩) (by assumption) ?_
    rotate_left
    · (intro w hSw; (try dsimp only at hSw); go_simp; (try with_reducible rfl))
    try simp only [Act.put, List.setIfInBounds_toArray, List.set_cons_zero, List.set_cons_succ, List.getElem_toArray, List.getElem_cons_succ, List.getElem_cons_zero]
    refine wpAnyH_take (i := 4) (v := ?_) rfl (by kernel_rfl) (by kernel_rfl) (by kernel_rfl) (fun _ _ _ h => h) (Or.inl ⟨by rfl, ?_⟩) (by assumption) ?_
    rotate_left
    · (intro w hSw; (try dsimp only at hSw); go_simp; (try with_reducible rfl))
    try simp only [Act.put, List.setIfInBounds_toArray, List.set_cons_zero, List.set_cons_succ, List.getElem_toArray, List.getElem_cons_succ, List.getElem_cons_zero]
    refine wpAnyH_ready (rs := [2, 7]) (by kernel_rfl) (by simp) ?_
    refine AllReadyH.cons rfl (fun K hK => ?_) (AllReadyH.cons rfl (fun K hK => ?_) AllReadyH.nil)
    · go_simp
      refine (OL.out w1.drew).mono ?_
      rintro e w2 ⟨S4, A4, n4, c4, rfl, hz, hb0⟩
      have hb : Below w1.heap.size w1 w2 := belDrew hb0
      refine hK.out _ _ (P0_1.out.next hb).1 (fun hHeld => ?_)
      clear hK K hb0
      have B2 := Lib.hid (belNext B1.out hb)
      have P0_2 := Lib.hid (P0_1.out.next hb)
      have Sz2 : Hid (w1.heap.size ≤ w2.heap.size) := Lib.hid hb.size
      clear hb
      have Za_2 := Lib.hid hz
      clear hz
      try simp only [Act.put, List.setIfInBounds_toArray, List.set_cons_zero, List.set_cons_succ, List.getElem_toArray, List.getElem_cons_succ, List.getElem_cons_zero]
      refine wpAnyH_ready (rs := [5, 7]) (by kernel_rfl) (by simp) ?_
      refine AllReadyH.cons rfl (fun K hK => ?_) (AllReadyH.cons rfl (fun K hK => ?_) AllReadyH.nil)
      · go_simp
        refine (OH.out w2).mono ?_
        rintro e w3 ⟨S5, A5, n5, c5, rfl, hz, hb0⟩
        have hb : Below w2.heap.size w2 w3 := hb0
        refine hK.out _ _ (P0_2.out.next hb).1 (fun hHeld => ?_)
        clear hK K hb0
        have B3 := Lib.hid (belNext B2.out hb)
        have P0_3 := Lib.hid (P0_2.out.next hb)
        have Za_3 := Lib.hid (Za_2.out.next hb)
        have Sz3 : Hid (w2.heap.size ≤ w3.heap.size) := Lib.hid hb.size
        clear hb
        have Zb_3 := Lib.hid hz
        clear hz
        try simp only [Act.put, List.setIfInBounds_toArray, List.set_cons_zero, List.set_cons_succ, List.getElem_toArray, List.getElem_cons_succ, List.getElem_cons_zero]
        refine wpAnyH_ready (rs := [6, 7]) (by kernel_rfl) (by simp) ?_
        refine AllReadyH.cons rfl (fun K hK => ?_) (AllReadyH.cons rfl (fun K hK => ?_) AllReadyH.nil)
        · go_simp
          refine (AL.out S4 S5 A4 A5 n4 c4 n5 c5 w3 Za_3.out Zb_3.out).mono ?_
          rintro e w4 ⟨S6, A6, n6, c6, rfl, hz, hb0⟩
          have hb : Below w3.heap.size w3 w4 := hb0
          refine hK.out _ _ (P0_3.out.next hb).1 (fun hHeld => ?_)
          clear hK K hb0
          have B4 := Lib.hid (belNext B3.out hb)
          have P0_4 := Lib.hid (P0_3.out.next hb)
          have Za_4 := Lib.hid (Za_3.out.next hb)
          have Zb_4 := Lib.hid (Zb_3.out.next hb)
          have Sz4 : Hid (w3.heap.size ≤ w4.heap.size) := Lib.hid hb.size
          clear hb
          have Zs_4 := Lib.hid hz
          clear hz
          try simp only [Act.put, List.setIfInBounds_toArray, List.set_cons_zero, List.set_cons_succ, List.getElem_toArray, List.getElem_cons_succ, List.getElem_cons_zero]
          refine wpAnyH_ready (rs := [7]) (by kernel_rfl) (by simp) ?_
          refine AllReadyH.cons rfl (fun K hK => ?_) AllReadyH.nil
          go_simp
          obtain ⟨w5, hw⟩ : ∃ w5, w5 = w4.alloc (.cells #[.int .i64 0, .slice none 0 0, .int .i64 0] 48) := ⟨_, rfl⟩
          have hb : Below w4.heap.size w4 w5 := by rw [hw]; exact belAlloc1 _ _
          have Sb5 : Hid (w4.heap.size + 1 = w5.heap.size) := Lib.hid (by rw [hw]; simp)
          have R_5 : Hid (DRes w5 w4.heap.size) := Lib.hid (by rw [hw]; exact DRes.new _ _)
          rw [← hw]
          refine hK.out _ _ (P0_4.out.next hb).1 (fun hHeld => ?_)
          clear hK K hw
          have B5 := Lib.hid (belNext B4.out hb)
          have P0_5 := Lib.hid (P0_4.out.next hb)
          have Za_5 := Lib.hid (Za_4.out.next hb)
          have Zb_5 := Lib.hid (Zb_4.out.next hb)
          have Zs_5 := Lib.hid (Zs_4.out.next hb)
          have Sz5 : Hid (w4.heap.size ≤ w5.heap.size) := Lib.hid hb.size
          clear hb
          try simp only [Act.put, List.setIfInBounds_toArray, List.set_cons_zero, List.set_cons_succ, List.getElem_toArray, List.getElem_cons_succ, List.getElem_cons_zero]
          refine wpAnyH_ready (rs := [8]) (by kernel_rfl) (by simp) ?_
          refine AllReadyH.cons rfl (fun K hK => ?_) AllReadyH.nil
          obtain ⟨⟨r0, r1, r2, r3, r4, r5⟩, r6⟩ := R_5.out
          have hst := store_int Tryz.prog
          have hst2 := store_slice Tryz.prog
          go_simp
          refine hK.out _ (st3 w5 (w4.heap.size) S6 A6 n6 c6 x9) (P0_5.out.st3_ (by have zz0 := Sz1.out; have zz1 := Sz2.out; have zz2 := Sz3.out; have zz3 := Sz4.out; have zz4 := Sb5.out; have zz5 := Sz5.out; first | omega | (simp; omega))).1 (fun hHeld => ?_)
          clear hK K hHeld
          try simp only [Act.put, List.setIfInBounds_toArray, List.set_cons_zero, List.set_cons_succ, List.getElem_toArray, List.getElem_cons_succ, List.getElem_cons_zero]
          refine wpAnyH_done (by kernel_rfl) ?_ _
          go_wp2_with fail
          go_meet
          exact ⟨w4.heap.size, S6, A6, n6, c6, w3.heap.size, w4.heap.size, rfl, DBox.made r6 ⟨_, r0⟩ ⟨_, r1⟩ ⟨_, r2⟩, Fr3.made ⟨⟨r3, r4, r5⟩, r6⟩, Zs_5.out.st3_ (by have zz0 := Sz1.out; have zz1 := Sz2.out; have zz2 := Sz3.out; have zz3 := Sz4.out; have zz4 := Sb5.out; have zz5 := Sz5.out; first | omega | (simp; omega)), (by have zz0 := Sz1.out; have zz1 := Sz2.out; have zz2 := Sz3.out; have zz3 := Sz4.out; have zz4 := Sb5.out; have zz5 := Sz5.out; first | omega | (simp; omega)), (by have zz0 := Sz1.out; have zz1 := Sz2.out; have zz2 := Sz3.out; have zz3 := Sz4.out; have zz4 := Sb5.out; have zz5 := Sz5.out; first | omega | (simp; omega)), belSt3 B5.out (by have zz0 := Sz1.out; have zz1 := Sz2.out; have zz2 := Sz3.out; have zz3 := Sz4.out; have zz4 := Sb5.out; have zz5 := Sz5.out; first | omega | (simp; omega))⟩
        · go_simp
          obtain ⟨w4, hw⟩ : ∃ w4, w4 = w3.alloc (.cells #[.int .i64 0, .slice none 0 0, .int .i64 0] 48) := ⟨_, rfl⟩
          have hb : Below w3.heap.size w3 w4 := by rw [hw]; exact belAlloc1 _ _
          have Sb4 : Hid (w3.heap.size + 1 = w4.heap.size) := Lib.hid (by rw [hw]; simp)
          have R_4 : Hid (DRes w4 w3.heap.size) := Lib.hid (by rw [hw]; exact DRes.new _ _)
          rw [← hw]
          refine hK.out _ _ (P0_3.out.next hb).1 (fun hHeld => ?_)
          clear hK K hw
          have B4 := Lib.hid (belNext B3.out hb)
          have P0_4 := Lib.hid (P0_3.out.next hb)
          have Za_4 := Lib.hid (Za_3.out.next hb)
          have Zb_4 := Lib.hid (Zb_3.out.next hb)
          have Sz4 : Hid (w3.heap.size ≤ w4.heap.size) := Lib.hid hb.size
          clear hb
          try simp only [Act.put, List.setIfInBounds_toArray, List.set_cons_zero, List.set_cons_succ, List.getElem_toArray, List.getElem_cons_succ, List.getElem_cons_zero]
          refine wpAnyH_ready (rs := [6]) (by kernel_rfl) (by simp) ?_
          refine AllReadyH.cons rfl (fun K hK => ?_) AllReadyH.nil
          go_simp
          refine (AL.out S4 S5 A4 A5 n4 c4 n5 c5 w4 Za_4.out Zb_4.out).mono ?_
          rintro e w5 ⟨S6, A6, n6, c6, rfl, hz, hb0⟩
          have hb : Below w4.heap.size w4 w5 := hb0
          refine hK.out _ _ (P0_4.out.next hb).1 (fun hHeld => ?_)
          clear hK K hb0
          have B5 := Lib.hid (belNext B4.out hb)
          have P0_5 := Lib.hid (P0_4.out.next hb)
          have Za_5 := Lib.hid (Za_4.out.next hb)
          have Zb_5 := Lib.hid (Zb_4.out.next hb)
          have R_5 := Lib.hid (R_4.out.next hb)
          have Sz5 : Hid (w4.heap.size ≤ w5.heap.size) := Lib.hid hb.size
          clear hb
          have Zs_5 := Lib.hid hz
          clear hz
          try simp only [Act.put, List.setIfInBounds_toArray, List.set_cons_zero, List.set_cons_succ, List.getElem_toArray, List.getElem_cons_succ, List.getElem_cons_zero]
          refine wpAnyH_ready (rs := [8]) (by kernel_rfl) (by simp) ?_
          refine AllReadyH.cons rfl (fun K hK => ?_) AllReadyH.nil
          obtain ⟨⟨r0, r1, r2, r3, r4, r5⟩, r6⟩ := R_5.out
          have hst := store_int Tryz.prog
          have hst2 := store_slice Tryz.prog
          go_simp
          refine hK.out _ (st3 w5 (w3.heap.size) S6 A6 n6 c6 x9) (P0_5.out.st3_ (by have zz0 := Sz1.out; have zz1 := Sz2.out; have zz2 := Sz3.out; have zz3 := Sb4.out; have zz4 := Sz4.out; have zz5 := Sz5.out; first | omega | (simp; omega))).1 (fun hHeld => ?_)
          clear hK K hHeld
          try simp only [Act.put, List.setIfInBounds_toArray, List.set_cons_zero, List.set_cons_succ, List.getElem_toArray, List.getElem_cons_succ, List.getElem_cons_zero]
          refine wpAnyH_done (by kernel_rfl) ?_ _
          go_wp2_with fail
          go_meet
          exact ⟨w3.heap.size, S6, A6, n6, c6, w4.heap.size, w5.heap.size, rfl, DBox.made r6 ⟨_, r0⟩ ⟨_, r1⟩ ⟨_, r2⟩, Fr3.made ⟨⟨r3, r4, r5⟩, r6⟩, Zs_5.out.st3_ (by have zz0 := Sz1.out; have zz1 := Sz2.out; have zz2 := Sz3.out; have zz3 := Sb4.out; have zz4 := Sz4.out; have zz5 := Sz5.out; first | omega | (simp; omega)), (by have zz0 := Sz1.out; have zz1 := Sz2.out; have zz2 := Sz3.out; have zz3 := Sb4.out; have zz4 := Sz4.out; have zz5 := Sz5.out; first | omega | (simp; omega)), (by have zz0 := Sz1.out; have zz1 := Sz2.out; have zz2 := Sz3.out; have zz3 := Sb4.out; have zz4 := Sz4.out; have zz5 := Sz5.out; first | omega | (simp; omega)), belSt3 B5.out (by have zz0 := Sz1.out; have zz1 := Sz2.out; have zz2 := Sz3.out; have zz3 := Sb4.out; have zz4 := Sz4.out; have zz5 := Sz5.out; first | omega | (simp; omega))⟩
      · go_simp
        obtain ⟨w3, hw⟩ : ∃ w3, w3 = w2.alloc (.cells #[.int .i64 0, .slice none 0 0, .int .i64 0] 48) := ⟨_, rfl⟩
        have hb : Below w2.heap.size w2 w3 := by rw [hw]; exact belAlloc1 _ _
        have Sb3 : Hid (w2.heap.size + 1 = w3.heap.size) := Lib.hid (by rw [hw]; simp)
        have R_3 : Hid (DRes w3 w2.heap.size) := Lib.hid (by rw [hw]; exact DRes.new _ _)
        rw [← hw]
        refine hK.out _ _ (P0_2.out.next hb).1 (fun hHeld => ?_)
        clear hK K hw
        have B3 := Lib.hid (belNext B2.out hb)
        have P0_3 := Lib.hid (P0_2.out.next hb)
        have Za_3 := Lib.hid (Za_2.out.next hb)
        have Sz3 : Hid (w2.heap.size ≤ w3.heap.size) := Lib.hid hb.size
        clear hb
        try simp only [Act.put, List.setIfInBounds_toArray, List.set_cons_zero, List.set_cons_succ, List.getElem_toArray, List.getElem_cons_succ, List.getElem_cons_zero]
        refine wpAnyH_ready (rs := [5]) (by kernel_rfl) (by simp) ?_
        refine AllReadyH.cons rfl (fun K hK => ?_) AllReadyH.nil
        go_simp
        refine (OH.out w3).mono ?_
        rintro e w4 ⟨S5, A5, n5, c5, rfl, hz, hb0⟩
        have hb : Below w3.heap.size w3 w4 := hb0
        refine hK.out _ _ (P0_3.out.next hb).1 (fun hHeld => ?_)
        clear hK K hb0
        have B4 := Lib.hid (belNext B3.out hb)
        have P0_4 := Lib.hid (P0_3.out.next hb)
        have Za_4 := Lib.hid (Za_3.out.next hb)
        have R_4 := Lib.hid (R_3.out.next hb)
        have Sz4 : Hid (w3.heap.size ≤ w4.heap.size) := Lib.hid hb.size
        clear hb
        have Zb_4 := Lib.hid hz
        clear hz
        try simp only [Act.put, List.setIfInBounds_toArray, List.set_cons_zero, List.set_cons_succ, List.getElem_toArray, List.getElem_cons_succ, List.getElem_cons_zero]
        refine wpAnyH_ready (rs := [6]) (by kernel_rfl) (by simp) ?_
        refine AllReadyH.cons rfl (fun K hK => ?_) AllReadyH.nil
        go_simp
        refine (AL.out S4 S5 A4 A5 n4 c4 n5 c5 w4 Za_4.out Zb_4.out).mono ?_
        rintro e w5 ⟨S6, A6, n6, c6, rfl, hz, hb0⟩
        have hb : Below w4.heap.size w4 w5 := hb0
        refine hK.out _ _ (P0_4.out.next hb).1 (fun hHeld => ?_)
        clear hK K hb0
        have B5 := Lib.hid (belNext B4.out hb)
        have P0_5 := Lib.hid (P0_4.out.next hb)
        have Za_5 := Lib.hid (Za_4.out.next hb)
        have Zb_5 := Lib.hid (Zb_4.out.next hb)
        have R_5 := Lib.hid (R_4.out.next hb)
        have Sz5 : Hid (w4.heap.size ≤ w5.heap.size) := Lib.hid hb.size
        clear hb
        have Zs_5 := Lib.hid hz
        clear hz
        try simp only [Act.put, List.setIfInBounds_toArray, List.set_cons_zero, List.set_cons_succ, List.getElem_toArray, List.getElem_cons_succ, List.getElem_cons_zero]
        refine wpAnyH_ready (rs := [8]) (by kernel_rfl) (by simp) ?_
        refine AllReadyH.cons rfl (fun K hK => ?_) AllReadyH.nil
        obtain ⟨⟨r0, r1, r2, r3, r4, r5⟩, r6⟩ := R_5.out
        have hst := store_int Tryz.prog
        have hst2 := store_slice Tryz.prog
        go_simp
        refine hK.out _ (st3 w5 (w2.heap.size) S6 A6 n6 c6 x9) (P0_5.out.st3_ (by have zz0 := Sz1.out; have zz1 := Sz2.out; have zz2 := Sb3.out; have zz3 := Sz3.out; have zz4 := Sz4.out; have zz5 := Sz5.out; first | omega | (simp; omega))).1 (fun hHeld => ?_)
        clear hK K hHeld
        try simp only [Act.put, List.setIfInBounds_toArray, List.set_cons_zero, List.set_cons_succ, List.getElem_toArray, List.getElem_cons_succ, List.getElem_cons_zero]
        refine wpAnyH_done (by kernel_rfl) ?_ _
        go_wp2_with fail
        go_meet
        exact ⟨w2.heap.size, S6, A6, n6, c6, w4.heap.size, w5.heap.size, rfl, DBox.made r6 ⟨_, r0⟩ ⟨_, r1⟩ ⟨_, r2⟩, Fr3.made ⟨⟨r3, r4, r5⟩, r6⟩, Zs_5.out.st3_ (by have zz0 := Sz1.out; have zz1 := Sz2.out; have zz2 := Sb3.out; have zz3 := Sz3.out; have zz4 := Sz4.out; have zz5 := Sz5.out; first | omega | (simp; omega)), (by have zz0 := Sz1.out; have zz1 := Sz2.out; have zz2 := Sb3.out; have zz3 := Sz3.out; have zz4 := Sz4.out; have zz5 := Sz5.out; first | omega | (simp; omega)), (by have zz0 := Sz1.out; have zz1 := Sz2.out; have zz2 := Sb3.out; have zz3 := Sz3.out; have zz4 := Sz4.out; have zz5 := Sz5.out; first | omega | (simp; omega)), belSt3 B5.out (by have zz0 := Sz1.out; have zz1 := Sz2.out; have zz2 := Sb3.out; have zz3 := Sz3.out; have zz4 := Sz4.out; have zz5 := Sz5.out; first | omega | (simp; omega))⟩
    · go_simp
      obtain ⟨w2, hw⟩ : ∃ w2, w2 = (w1.alloc (.cells #[.int .i64 0, .slice none 0 0, .int .i64 0] 48)).drew := ⟨_, rfl⟩
      have hb : Below w1.heap.size w1 w2 := by rw [hw]; exact (belAlloc1 _ _).drew
      have Sb2 : Hid (w1.heap.size + 1 = w2.heap.size) := Lib.hid (by rw [hw]; simp)
      have R_2 : Hid (DRes w2 w1.heap.size) := Lib.hid (by rw [hw]; exact (DRes.new w1 _).drew)
      rw [← hw]
      refine hK.out _ _ (P0_1.out.next hb).1 (fun hHeld => ?_)
      clear hK K hw
      have B2 := Lib.hid (belNext B1.out hb)
      have P0_2 := Lib.hid (P0_1.out.next hb)
      have Sz2 : Hid (w1.heap.size ≤ w2.heap.size) := Lib.hid hb.size
      clear hb
      try simp only [Act.put, List.setIfInBounds_toArray, List.set_cons_zero, List.set_cons_succ, List.getElem_toArray, List.getElem_cons_succ, List.getElem_cons_zero]
      refine wpAnyH_ready (rs := [2]) (by kernel_rfl) (by simp) ?_
      refine AllReadyH.cons rfl (fun K hK => ?_) AllReadyH.nil
      go_simp
      refine (OL.out w2).mono ?_
      rintro e w3 ⟨S4, A4, n4, c4, rfl, hz, hb0⟩
      have hb : Below w2.heap.size w2 w3 := hb0
      refine hK.out _ _ (P0_2.out.next hb).1 (fun hHeld => ?_)
      clear hK K hb0
      have B3 := Lib.hid (belNext B2.out hb)
      have P0_3 := Lib.hid (P0_2.out.next hb)
      have R_3 := Lib.hid (R_2.out.next hb)
      have Sz3 : Hid (w2.heap.size ≤ w3.heap.size) := Lib.hid hb.size
      clear hb
      have Za_3 := Lib.hid hz
      clear hz
      try simp only [Act.put, List.setIfInBounds_toArray, List.set_cons_zero, List.set_cons_succ, List.getElem_toArray, List.getElem_cons_succ, List.getElem_cons_zero]
      refine wpAnyH_ready (rs := [5]) (by kernel_rfl) (by simp) ?_
      refine AllReadyH.cons rfl (fun K hK => ?_) AllReadyH.nil
      go_simp
      refine (OH.out w3).mono ?_
      rintro e w4 ⟨S5, A5, n5, c5, rfl, hz, hb0⟩
      have hb : Below w3.heap.size w3 w4 := hb0
      refine hK.out _ _ (P0_3.out.next hb).1 (fun hHeld => ?_)
      clear hK K hb0
      have B4 := Lib.hid (belNext B3.out hb)
      have P0_4 := Lib.hid (P0_3.out.next hb)
      have Za_4 := Lib.hid (Za_3.out.next hb)
      have R_4 := Lib.hid (R_3.out.next hb)
      have Sz4 : Hid (w3.heap.size ≤ w4.heap.size) := Lib.hid hb.size
      clear hb
      have Zb_4 := Lib.hid hz
      clear hz
      try simp only [Act.put, List.setIfInBounds_toArray, List.set_cons_zero, List.set_cons_succ, List.getElem_toArray, List.getElem_cons_succ, List.getElem_cons_zero]
      refine wpAnyH_ready (rs := [6]) (by kernel_rfl) (by simp) ?_
      refine AllReadyH.cons rfl (fun K hK => ?_) AllReadyH.nil
      go_simp
      refine (AL.out S4 S5 A4 A5 n4 c4 n5 c5 w4 Za_4.out Zb_4.out).mono ?_
      rintro e w5 ⟨S6, A6, n6, c6, rfl, hz, hb0⟩
      have hb : Below w4.heap.size w4 w5 := hb0
      refine hK.out _ _ (P0_4.out.next hb).1 (fun hHeld => ?_)
      clear hK K hb0
      have B5 := Lib.hid (belNext B4.out hb)
      have P0_5 := Lib.hid (P0_4.out.next hb)
      have Za_5 := Lib.hid (Za_4.out.next hb)
      have Zb_5 := Lib.hid (Zb_4.out.next hb)
      have R_5 := Lib.hid (R_4.out.next hb)
      have Sz5 : Hid (w4.heap.size ≤ w5.heap.size) := Lib.hid hb.size
      clear hb
      have Zs_5 := Lib.hid hz
      clear hz
      try simp only [Act.put, List.setIfInBounds_toArray, List.set_cons_zero, List.set_cons_succ, List.getElem_toArray, List.getElem_cons_succ, List.getElem_cons_zero]
      refine wpAnyH_ready (rs := [8]) (by kernel_rfl) (by simp) ?_
      refine AllReadyH.cons rfl (fun K hK => ?_) AllReadyH.nil
      obtain ⟨⟨r0, r1, r2, r3, r4, r5⟩, r6⟩ := R_5.out
      have hst := store_int Tryz.prog
      have hst2 := store_slice Tryz.prog
      go_simp
      refine hK.out _ (st3 w5 (w1.heap.size) S6 A6 n6 c6 x9) (P0_5.out.st3_ (by have zz0 := Sz1.out; have zz1 := Sb2.out; have zz2 := Sz2.out; have zz3 := Sz3.out; have zz4 := Sz4.out; have zz5 := Sz5.out; first | omega | (simp; omega))).1 (fun hHeld => ?_)
      clear hK K hHeld
      try simp only [Act.put, List.setIfInBounds_toArray, List.set_cons_zero, List.set_cons_succ, List.getElem_toArray, List.getElem_cons_succ, List.getElem_cons_zero]
      refine wpAnyH_done (by kernel_rfl) ?_ _
      go_wp2_with fail
      go_meet
      exact ⟨w1.heap.size, S6, A6, n6, c6, w4.heap.size, w5.heap.size, rfl, DBox.made r6 ⟨_, r0⟩ ⟨_, r1⟩ ⟨_, r2⟩, Fr3.made ⟨⟨r3, r4, r5⟩, r6⟩, Zs_5.out.st3_ (by have zz0 := Sz1.out; have zz1 := Sb2.out; have zz2 := Sz2.out; have zz3 := Sz3.out; have zz4 := Sz4.out; have zz5 := Sz5.out; first | omega | (simp; omega)), (by have zz0 := Sz1.out; have zz1 := Sb2.out; have zz2 := Sz2.out; have zz3 := Sz3.out; have zz4 := Sz4.out; have zz5 := Sz5.out; first | omega | (simp; omega)), (by have zz0 := Sz1.out; have zz1 := Sb2.out; have zz2 := Sz2.out; have zz3 := Sz3.out; have zz4 := Sz4.out; have zz5 := Sz5.out; first | omega | (simp; omega)), belSt3 B5.out (by have zz0 := Sz1.out; have zz1 := Sb2.out; have zz2 := Sz2.out; have zz3 := Sz3.out; have zz4 := Sz4.out; have zz5 := Sz5.out; first | omega | (simp; omega))⟩
  case rest =>
    obtain ⟨w20, hwc⟩ : ∃ w20, w20 = wc := ⟨_, rfl⟩
    rw [← hwc] at hcut ⊢
    clear hwc c00 c01 c02
    obtain ⟨bq, S6, A6, n6, c6, lo, hi, rfl, he, hfr, hz, hne, hbq, hB⟩ := hcut
    have HS6 : Hid (S6 = z9.sign) := Lib.hid hz.1
    have D20 := Lib.hid he
    have Z20 := Lib.hid hz
    have B20 := Lib.hid hB
    have Hne := Lib.hid (And.intro hne hbq)
    have hst := store_int Tryz.prog
    obtain ⟨⟨d0, d1, d2⟩, d3⟩ := he
    obtain ⟨⟨fr0, fr1, fr2⟩, fr3⟩ := hfr
    clear hz hne hbq hB
    have hwr : IntKind.i64.wrap (x9 - 1) = x9 - 1 := IntWalk.i64_in _ (by omega)
    go_upto_region 3 with fail
    obtain ⟨w21, hw⟩ : ∃ w21, w21 = w20.setCell ⟨bq, 2, none⟩ (.int .i64 (x9 - 1)) := ⟨_, rfl⟩
    rw [← hw]
    have D21 : Hid (DBox w21 bq S6 A6 n6 c6 (x9 - 1)) := Lib.hid (by rw [hw]; exact D20.out.exp_ _)
    have Z21 : Hid (ZO w21 lo hi z9 S6 A6 n6 c6) := Lib.hid (by rw [hw]; exact Z20.out.setCell (by have := Hne.out; first | exact this.1 | omega) _)
    have B21 : Hid (Below w.heap.size w w21) := Lib.hid (by rw [hw]; exact B20.out.setCell Hne.out.2 _)
    clear hw d0 d1 d2 d3 fr0 fr1 fr2 fr3 hwr
    obtain ⟨⟨d0, d1, d2⟩, d3⟩ := D21.out
    by_cases z0 : z9 = 0
    · have hs : S6 = 0 := by rw [HS6.out, z0]; rfl
      have HZ0 := Lib.hid z0
      clear HS6
      subst hs
      clear z0
      go_wp2_with fail
      go_ret
      exact ⟨ret_fI (HV.out.1 HZ0.out).symm, B21.out⟩
    · have hs : (S6 == 0) = false := beq_false_of_ne (by rw [HS6.out]; exact fun q => z0 (Int.sign_eq_zero_iff_zero.1 q))
      have HZ0 := Lib.hid z0
      clear z0
      go_wp2_with fail
      refine (HRD.out S6 A6 n6 c6 _ Z21.out.zv).mono ?_
      rintro e w22 ⟨rfl, hb⟩
      have B22 := Lib.hid (belNext B21.out hb)
      clear hb d0 d1 d2 d3
      go_wp2_with fail
      refine (HZR.out _).mono ?_
      rintro e w9 ⟨rfl, rfl⟩
      go_wp2_with fail
      go_ret
      exact ⟨ret_fI (HV.out.2 HZ0.out).symm, B22.out⟩
set_option maxHeartbeats 2000000 in
theorem specMiddleW_any (l h : Nat) (w : World) (hl : l < 4294967296) (hh : h < 4294967296) :
    Calls Tryz.prog 17 #[.agg #[.float .f32 l, .float .f32 h]] w fun e w' => e = .returned (.tuple #[.float .f32 (mdW l h), .int .i64 (mdC l h)]) ∧ Below w.heap.size w w' := by
  by_cases b1 : isI l h = true
  · obtain ⟨pl, ph, k1, k2, k3⟩ := isI_facts hl hh b1
    have HI : Hid (∀ w, Calls Tryz.prog 27 #[.agg #[.float .f32 l, .float .f32 h]] w fun e w' => e = .returned (.bool true) ∧ Below w.heap.size w w') := Lib.hid (fun w => by rw [← b1]; exact specIsI_any l h w hl hh)
    by_cases ff : fin32 l = true ∧ fin32 h = true
    · have e0 : (.tuple #[.float .f32 (mdW l h), .int .i64 (mdC l h)] : Value) = .tuple #[.float .f32 (mdV l h), .int .i64 0] := by unfold mdW mdC; rw [if_pos b1, if_pos ff, if_pos b1, if_pos ff]
      rw [e0]
      have hq : (fin32 l && fin32 h) = true := by rw [ff.1, ff.2]; rfl
      have HB : Hid (∀ w, Calls Tryz.prog 33 #[.agg #[.float .f32 l, .float .f32 h]] w fun e w' => e = .returned (.bool true) ∧ Below w.heap.size w w') := Lib.hid (fun w => by have q := specBounded_any l h w pl ph; rw [hq] at q; exact q)
      have H3 : Hid (∀ w, _) := Lib.hid (fun w => specMiddle_any l h w pl ph ff.1 ff.2)
      obtain ⟨v, hv⟩ : ∃ v, v = mdV l h := ⟨_, rfl⟩
      rw [← hv] at H3 ⊢
      clear e0 hq ff pl ph k1 k2 k3 b1 hl hh hv
      obtain ⟨w1, hw1, hp0, hB_⟩ := ib_1 w l h 25
      have P0_1 := Lib.hid hp0
      have hst := store_float Tryz.prog
      have B1 := Lib.hid hB_
      have Hw := Lib.hid hw1
      clear hw1 hp0 hB_
      obtain ⟨⟨c00, c01⟩, c02⟩ := P0_1.out
      go_enter Tryz.func17, Tryz.ntmps17
      go_wp2_with fail
      rw [← Hw.out]
      refine (HI.out _).mono ?_
      rintro e w2 ⟨rfl, hb⟩
      have B2 := Lib.hid (belNext B1.out hb)
      have P0_2 := Lib.hid (P0_1.out.next hb)
      clear hb c00 c01 c02
      obtain ⟨⟨c00, c01⟩, c02⟩ := P0_2.out
      go_wp2_with fail
      refine (HB.out _).mono ?_
      rintro e w3 ⟨rfl, hb⟩
      have B3 := Lib.hid (belNext B2.out hb)
      have P0_3 := Lib.hid (P0_2.out.next hb)
      clear hb c00 c01 c02
      obtain ⟨⟨c00, c01⟩, c02⟩ := P0_3.out
      go_wp2_with fail
      refine (H3.out _).mono ?_
      rintro e w4 ⟨rfl, hb⟩
      have B4 := Lib.hid (belNext B3.out hb)
      have P0_4 := Lib.hid (P0_3.out.next hb)
      clear hb c00 c01 c02
      obtain ⟨⟨c00, c01⟩, c02⟩ := P0_4.out
      go_wp2_with fail
      go_ret2
      exact ⟨rfl, B4.out⟩
    · have e0 : (.tuple #[.float .f32 (mdW l h), .int .i64 (mdC l h)] : Value) = .tuple #[.float .f32 0, .int .i64 5] := by unfold mdW mdC; rw [if_pos b1, if_neg ff, if_pos b1, if_neg ff]
      rw [e0]
      have hq : (fin32 l && fin32 h) = false := by cases h1 : fin32 l <;> cases h2 : fin32 h <;> simp_all
      have HB : Hid (∀ w, Calls Tryz.prog 33 #[.agg #[.float .f32 l, .float .f32 h]] w fun e w' => e = .returned (.bool false) ∧ Below w.heap.size w w') := Lib.hid (fun w => by have q := specBounded_any l h w pl ph; rw [hq] at q; exact q)
      clear e0 hq ff pl ph k1 k2 k3 b1 hl hh
      obtain ⟨w1, hw1, hp0, hB_⟩ := ib_1 w l h 25
      have P0_1 := Lib.hid hp0
      have hst := store_float Tryz.prog
      have B1 := Lib.hid hB_
      have Hw := Lib.hid hw1
      clear hw1 hp0 hB_
      obtain ⟨⟨c00, c01⟩, c02⟩ := P0_1.out
      go_enter Tryz.func17, Tryz.ntmps17
      go_wp2_with fail
      rw [← Hw.out]
      refine (HI.out _).mono ?_
      rintro e w2 ⟨rfl, hb⟩
      have B2 := Lib.hid (belNext B1.out hb)
      have P0_2 := Lib.hid (P0_1.out.next hb)
      clear hb c00 c01 c02
      obtain ⟨⟨c00, c01⟩, c02⟩ := P0_2.out
      go_wp2_with fail
      refine (HB.out _).mono ?_
      rintro e w3 ⟨rfl, hb⟩
      have B3 := Lib.hid (belNext B2.out hb)
      have P0_3 := Lib.hid (P0_2.out.next hb)
      clear hb c00 c01 c02
      obtain ⟨⟨c00, c01⟩, c02⟩ := P0_3.out
      go_wp2_with fail
      go_ret2
      exact ⟨rfl, B3.out⟩
  · have b1 : isI l h = false := by simpa using b1
    have HI : Hid (∀ w, Calls Tryz.prog 27 #[.agg #[.float .f32 l, .float .f32 h]] w fun e w' => e = .returned (.bool false) ∧ Below w.heap.size w w') := Lib.hid (fun w => by rw [← b1]; exact specIsI_any l h w hl hh)
    have e0 : (.tuple #[.float .f32 (mdW l h), .int .i64 (mdC l h)] : Value) = .tuple #[.float .f32 0, .int .i64 1] := by unfold mdW mdC; rw [b1]; rfl
    rw [e0]
    clear e0 b1 hl hh
    obtain ⟨w1, hw1, hp0, hB_⟩ := ib_1 w l h 25
    have P0_1 := Lib.hid hp0
    have hst := store_float Tryz.prog
    have B1 := Lib.hid hB_
    have Hw := Lib.hid hw1
    clear hw1 hp0 hB_
    obtain ⟨⟨c00, c01⟩, c02⟩ := P0_1.out
    go_enter Tryz.func17, Tryz.ntmps17
    go_wp2_with fail
    rw [← Hw.out]
    refine (HI.out _).mono ?_
    rintro e w2 ⟨rfl, hb⟩
    have B2 := Lib.hid (belNext B1.out hb)
    have P0_2 := Lib.hid (P0_1.out.next hb)
    clear hb c00 c01 c02
    obtain ⟨⟨c00, c01⟩, c02⟩ := P0_2.out
    go_wp2_with fail
    go_ret2
    exact ⟨rfl, B2.out⟩
end Go.Proofs.YtngminjncdfjdaaGreatDoor
