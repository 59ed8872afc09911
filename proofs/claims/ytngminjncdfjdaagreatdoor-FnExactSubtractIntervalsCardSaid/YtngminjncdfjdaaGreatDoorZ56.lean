/- FnExactSubtractIntervals returns true at every two intervals of the laws: the program's SubtractIntervals gives the interval and the code that the model gives. Condition: the table math/bits.deBruijn64tab is as Go's library lays it (tied to the text). -/
import Derived.Test.YtngminjncdfjdaaGreatDoorRows
import Derived.Test.YtngminjncdfjdaaGreatDoorY24
import Derived.Test.YtngminjncdfjdaaGreatDoorY21
import Derived.Test.YtngminjncdfjdaaGreatDoorY6
import Derived.Test.YtngminjncdfjdaaGreatDoorY1
import Derived.Test.YtngminjncdfjdaaGreatDoorTie
import Derived.Test.YtngminjncdfjdaaGreatDoorCards
import Derived.SevenTiedAt
import Derived.ProofKit
import Derived.OpenShut
import Derived.Deep.RegionHeld3
import Derived.Deep.DeepCutAuto
namespace Go.Proofs.YtngminjncdfjdaaGreatDoor.fnExactSubtractIntervals
set_option maxRecDepth 100000
open Go Go.ChangeShapes Go.WideShapes Go.ChangeAt Go.RowKit
set_option linter.unusedVariables false
set_option linter.unusedSimpArgs false

theorem own : ownKnob Tryz.prog.godebug = none := by kernel_rfl

set_option maxHeartbeats 16000000 in
set_option maxRecDepth 100000 in
theorem walk (x0 y0 x1 y1 : Nat) (w : World) (wx0 : x0 < 4294967296) (wy0 : y0 < 4294967296) (wx1 : x1 < 4294967296) (wy1 : y1 < 4294967296) (hT : TabZ w) :
    Calls Tryz.prog 4 #[.agg #[.float .f32 x0, .float .f32 y0], .agg #[.float .f32 x1, .float .f32 y1]] w fun e w' => e = .returned (.bool true) ∧ Below w.heap.size w w' := by
  have HT := Lib.hid hT
  clear hT
  have hok := sb_ok4 x0 y0 x1 y1
  obtain ⟨l9, hl9⟩ : ∃ v, v = sbLw x0 y0 x1 y1 := ⟨_, rfl⟩
  obtain ⟨h9, hh9⟩ : ∃ v, v = sbHw x0 y0 x1 y1 := ⟨_, rfl⟩
  obtain ⟨e9, he9⟩ : ∃ v, v = cI (bI x0 y0 x1 y1) := ⟨_, rfl⟩
  rw [← hl9, ← hh9] at hok
  have HO := Lib.hid hok
  have HS : Hid (∀ w, Calls Tryz.prog 12 #[.agg #[.float .f32 x0, .float .f32 y0], .agg #[.float .f32 x1, .float .f32 y1]] w fun e w' => e = .returned (.tuple #[.agg #[.float .f32 l9, .float .f32 h9], .int .i64 e9]) ∧ Below w.heap.size w w') := Lib.hid (fun w => by rw [hl9, hh9, he9]; exact specSubIW_any x0 y0 x1 y1 w wx0 wy0 wx1 wy1)
  have HI : Hid (∀ w, TabZ w → Calls Tryz.prog 13 #[.agg #[.float .f32 x0, .float .f32 y0], .agg #[.float .f32 x1, .float .f32 y1]] w fun e w' => e = .returned (.tuple #[.agg #[.float .f32 l9, .float .f32 h9], .int .i64 e9]) ∧ Below w.heap.size w w') := Lib.hid (fun w t => by rw [hl9, hh9, he9]; exact implSubIW_any x0 y0 x1 y1 w wx0 wy0 wx1 wy1 t)
  clear hok hl9 hh9 he9 wx0 wy0 wx1 wy1
  obtain ⟨w1, hw1, hp0, hp1, hB_⟩ := ib_2 w x0 y0 x1 y1 24
  have P0_1 := Lib.hid hp0
  have P1_1 := Lib.hid hp1
  have hst := store_float Tryz.prog
  have B1 := Lib.hid hB_
  have Hw := Lib.hid hw1
  clear hw1 hp0 hp1 hB_
  obtain ⟨⟨c00, c01⟩, c02⟩ := P0_1.out
  obtain ⟨⟨c10, c11⟩, c12⟩ := P1_1.out
  go_enter Tryz.func4, Tryz.ntmps4
  go_wp2_with fail
  rw [← Hw.out]
  have S0 : Hid (w.heap.size + 1 < w1.heap.size) := Lib.hid P1_1.out.2
  go_cut [5, 6] from 9 to 16 (fun t1 t2 wx => ∃ (bq : Nat), t1 = .pointer (some ⟨bq, 0, none⟩) ∧ t2 = .int .i64 e9 ∧ IB wx bq l9 h9 ∧ Below w.heap.size w wx ∧ IB wx (w.heap.size) x0 y0 ∧ IB wx (w.heap.size + 1) x1 y1)
  case first =>
    refine wp_region_held_drew (S := fun w' => (w'.cell? ⟨w.heap.size, 0, none⟩ = some (.float .f32 x0) ∧ w'.cell? ⟨w.heap.size, 1, none⟩ = some (.float .f32 y0)) ∧ (w'.cell? ⟨w.heap.size + 1, 0, none⟩ = some (.float .f32 x1) ∧ w'.cell? ⟨w.heap.size + 1, 1, none⟩ = some (.float .f32 y1))) (by kernel_rfl) ⟨P0_1.out.1, P1_1.out.1⟩ (fun hHeld => ?_)
    clear c00 c01 c02 c10 c11 c12
    refine wpAnyH_take (i := 0) (v := ?_) rfl (by kernel_rfl) (by kernel_rfl) (by kernel_rfl) (fun _ _ _ h => h) (Or.inl ⟨by rfl, ?_⟩) (by assumption) ?_
    rotate_left
    · (intro w hSw; (try dsimp only at hSw); go_simp; (try with_reducible rfl))
    try simp only [Act.put, List.setIfInBounds_toArray, List.set_cons_zero, List.set_cons_succ, List.getElem_toArray, List.getElem_cons_succ, List.getElem_cons_zero]
    refine wpAnyH_take (i := 2) (v := ?_) rfl (by kernel_rfl) (by kernel_rfl) (by kernel_rfl) (fun _ _ _ h => h) (Or.inl ⟨by rfl, ?_⟩) (by assumption) ?_
    rotate_left
    · (intro w hSw; (try dsimp only at hSw); go_simp; (try with_reducible rfl))
    try simp only [Act.put, List.setIfInBounds_toArray, List.set_cons_zero, List.set_cons_succ, List.getElem_toArray, List.getElem_cons_succ, List.getElem_cons_zero]
    refine wpAnyH_ready (rs := [1, 8]) (by kernel_rfl) (by simp) ?_
    refine AllReadyH.cons rfl (fun K hK => ?_) (AllReadyH.cons rfl (fun K hK => ?_) AllReadyH.nil)
    · go_simp
      refine (toIv_any x0 y0 w1.drew).mono ?_
      rintro e w2 ⟨rfl, hb0⟩
      have hb : Below w1.heap.size w1 w2 := belDrew hb0
      refine hK.out _ _ ⟨(P0_1.out.next hb).1, (P1_1.out.next hb).1⟩ (fun hHeld => ?_)
      clear hK K hb0
      have B2 := Lib.hid (belNext B1.out hb)
      have P0_2 := Lib.hid (P0_1.out.next hb)
      have P1_2 := Lib.hid (P1_1.out.next hb)
      have Sz2 : Hid (w1.heap.size ≤ w2.heap.size) := Lib.hid hb.size
      clear hb
      try simp only [Act.put, List.setIfInBounds_toArray, List.set_cons_zero, List.set_cons_succ, List.getElem_toArray, List.getElem_cons_succ, List.getElem_cons_zero]
      refine wpAnyH_ready (rs := [3, 8]) (by kernel_rfl) (by simp) ?_
      refine AllReadyH.cons rfl (fun K hK => ?_) (AllReadyH.cons rfl (fun K hK => ?_) AllReadyH.nil)
      · go_simp
        refine (toIv_any x1 y1 w2).mono ?_
        rintro e w3 ⟨rfl, hb0⟩
        have hb : Below w2.heap.size w2 w3 := hb0
        refine hK.out _ _ ⟨(P0_2.out.next hb).1, (P1_2.out.next hb).1⟩ (fun hHeld => ?_)
        clear hK K hb0
        have B3 := Lib.hid (belNext B2.out hb)
        have P0_3 := Lib.hid (P0_2.out.next hb)
        have P1_3 := Lib.hid (P1_2.out.next hb)
        have Sz3 : Hid (w2.heap.size ≤ w3.heap.size) := Lib.hid hb.size
        clear hb
        try simp only [Act.put, List.setIfInBounds_toArray, List.set_cons_zero, List.set_cons_succ, List.getElem_toArray, List.getElem_cons_succ, List.getElem_cons_zero]
        refine wpAnyH_ready (rs := [4, 8]) (by kernel_rfl) (by simp) ?_
        refine AllReadyH.cons rfl (fun K hK => ?_) (AllReadyH.cons rfl (fun K hK => ?_) AllReadyH.nil)
        · go_simp
          refine (HS.out w3).mono ?_
          rintro e w4 ⟨rfl, hb0⟩
          have hb : Below w3.heap.size w3 w4 := hb0
          refine hK.out _ _ ⟨(P0_3.out.next hb).1, (P1_3.out.next hb).1⟩ (fun hHeld => ?_)
          clear hK K hb0
          have B4 := Lib.hid (belNext B3.out hb)
          have P0_4 := Lib.hid (P0_3.out.next hb)
          have P1_4 := Lib.hid (P1_3.out.next hb)
          have Sz4 : Hid (w3.heap.size ≤ w4.heap.size) := Lib.hid hb.size
          clear hb
          try simp only [Act.put, List.setIfInBounds_toArray, List.set_cons_zero, List.set_cons_succ, List.getElem_toArray, List.getElem_cons_succ, List.getElem_cons_zero]
          refine wpAnyH_take (i := 5) (v := ?_) rfl (by kernel_rfl) (by kernel_rfl) (by kernel_rfl) (fun _ _ _ h => h) (Or.inl ⟨by rfl, ?_⟩) (by assumption) ?_
          rotate_left
          · (intro w hSw; (try dsimp only at hSw); go_simp; (try with_reducible rfl))
          try simp only [Act.put, List.setIfInBounds_toArray, List.set_cons_zero, List.set_cons_succ, List.getElem_toArray, List.getElem_cons_succ, List.getElem_cons_zero]
          refine wpAnyH_take (i := 6) (v := ?_) rfl (by kernel_rfl) (by kernel_rfl) (by kernel_rfl) (fun _ _ _ h => h) (Or.inl ⟨by rfl, ?_⟩) (by assumption) ?_
          rotate_left
          · (intro w hSw; (try dsimp only at hSw); go_simp; (try with_reducible rfl))
          try simp only [Act.put, List.setIfInBounds_toArray, List.set_cons_zero, List.set_cons_succ, List.getElem_toArray, List.getElem_cons_succ, List.getElem_cons_zero]
          refine wpAnyH_take (i := 7) (v := ?_) rfl (by kernel_rfl) (by kernel_rfl) (by kernel_rfl) (fun _ _ _ h => h) (Or.inl ⟨by rfl, ?_⟩) (by assumption) ?_
          rotate_left
          · (intro w hSw; (try dsimp only at hSw); go_simp; (try with_reducible rfl))
          try simp only [Act.put, List.setIfInBounds_toArray, List.set_cons_zero, List.set_cons_succ, List.getElem_toArray, List.getElem_cons_succ, List.getElem_cons_zero]
          refine wpAnyH_ready (rs := [8]) (by kernel_rfl) (by simp) ?_
          refine AllReadyH.cons rfl (fun K hK => ?_) AllReadyH.nil
          go_simp
          obtain ⟨w5, hw⟩ : ∃ w5, w5 = w4.alloc (.cells #[.float .f32 0, .float .f32 0] 25) := ⟨_, rfl⟩
          have hb : Below w4.heap.size w4 w5 := by rw [hw]; exact belAlloc1 _ _
          have Sb5 : Hid (w4.heap.size + 1 = w5.heap.size) := Lib.hid (by rw [hw]; simp)
          have R_5 : Hid (IR w5 w4.heap.size) := Lib.hid (by rw [hw]; exact IR.new _ _)
          rw [← hw]
          refine hK.out _ _ ⟨(P0_4.out.next hb).1, (P1_4.out.next hb).1⟩ (fun hHeld => ?_)
          clear hK K hw
          have B5 := Lib.hid (belNext B4.out hb)
          have P0_5 := Lib.hid (P0_4.out.next hb)
          have P1_5 := Lib.hid (P1_4.out.next hb)
          have Sz5 : Hid (w4.heap.size ≤ w5.heap.size) := Lib.hid hb.size
          clear hb
          try simp only [Act.put, List.setIfInBounds_toArray, List.set_cons_zero, List.set_cons_succ, List.getElem_toArray, List.getElem_cons_succ, List.getElem_cons_zero]
          refine wpAnyH_ready (rs := [9]) (by kernel_rfl) (by simp) ?_
          refine AllReadyH.cons rfl (fun K hK => ?_) AllReadyH.nil
          obtain ⟨⟨r0, r1, r2, r3⟩, r4⟩ := R_5.out
          go_simp
          refine hK.out _ (st2 w5 (w4.heap.size) l9 h9) ⟨(P0_5.out.st2_ (by have zz0 := S0.out; have zz1 := Sz2.out; have zz2 := Sz3.out; have zz3 := Sz4.out; have zz4 := Sb5.out; have zz5 := Sz5.out; first | omega | (simp; omega))).1, (P1_5.out.st2_ (by have zz0 := S0.out; have zz1 := Sz2.out; have zz2 := Sz3.out; have zz3 := Sz4.out; have zz4 := Sb5.out; have zz5 := Sz5.out; first | omega | (simp; omega))).1⟩ (fun hHeld => ?_)
          clear hK K
          try simp only [Act.put, List.setIfInBounds_toArray, List.set_cons_zero, List.set_cons_succ, List.getElem_toArray, List.getElem_cons_succ, List.getElem_cons_zero]
          refine wpAnyH_ready (rs := [10]) (by kernel_rfl) (by simp) ?_
          refine AllReadyH.cons rfl (fun K hK => ?_) AllReadyH.nil
          go_simp
          refine hK.out _ _ hHeld (fun hHeld => ?_)
          clear hK K hHeld
          try simp only [Act.put, List.setIfInBounds_toArray, List.set_cons_zero, List.set_cons_succ, List.getElem_toArray, List.getElem_cons_succ, List.getElem_cons_zero]
          refine wpAnyH_done (by kernel_rfl) ?_ _
          go_wp2_with fail
          go_meet
          exact ⟨w4.heap.size, rfl, rfl, IB.made R_5.out, belSt2 B5.out (by have zz0 := S0.out; have zz1 := Sz2.out; have zz2 := Sz3.out; have zz3 := Sz4.out; have zz4 := Sb5.out; have zz5 := Sz5.out; first | omega | (simp; omega)), P0_5.out.st2_ (by have zz0 := S0.out; have zz1 := Sz2.out; have zz2 := Sz3.out; have zz3 := Sz4.out; have zz4 := Sb5.out; have zz5 := Sz5.out; first | omega | (simp; omega)), P1_5.out.st2_ (by have zz0 := S0.out; have zz1 := Sz2.out; have zz2 := Sz3.out; have zz3 := Sz4.out; have zz4 := Sb5.out; have zz5 := Sz5.out; first | omega | (simp; omega))⟩
        · go_simp
          obtain ⟨w4, hw⟩ : ∃ w4, w4 = w3.alloc (.cells #[.float .f32 0, .float .f32 0] 25) := ⟨_, rfl⟩
          have hb : Below w3.heap.size w3 w4 := by rw [hw]; exact belAlloc1 _ _
          have Sb4 : Hid (w3.heap.size + 1 = w4.heap.size) := Lib.hid (by rw [hw]; simp)
          have R_4 : Hid (IR w4 w3.heap.size) := Lib.hid (by rw [hw]; exact IR.new _ _)
          rw [← hw]
          refine hK.out _ _ ⟨(P0_3.out.next hb).1, (P1_3.out.next hb).1⟩ (fun hHeld => ?_)
          clear hK K hw
          have B4 := Lib.hid (belNext B3.out hb)
          have P0_4 := Lib.hid (P0_3.out.next hb)
          have P1_4 := Lib.hid (P1_3.out.next hb)
          have Sz4 : Hid (w3.heap.size ≤ w4.heap.size) := Lib.hid hb.size
          clear hb
          try simp only [Act.put, List.setIfInBounds_toArray, List.set_cons_zero, List.set_cons_succ, List.getElem_toArray, List.getElem_cons_succ, List.getElem_cons_zero]
          refine wpAnyH_ready (rs := [4]) (by kernel_rfl) (by simp) ?_
          refine AllReadyH.cons rfl (fun K hK => ?_) AllReadyH.nil
          go_simp
          refine (HS.out w4).mono ?_
          rintro e w5 ⟨rfl, hb0⟩
          have hb : Below w4.heap.size w4 w5 := hb0
          refine hK.out _ _ ⟨(P0_4.out.next hb).1, (P1_4.out.next hb).1⟩ (fun hHeld => ?_)
          clear hK K hb0
          have B5 := Lib.hid (belNext B4.out hb)
          have P0_5 := Lib.hid (P0_4.out.next hb)
          have P1_5 := Lib.hid (P1_4.out.next hb)
          have R_5 := Lib.hid (R_4.out.next hb)
          have Sz5 : Hid (w4.heap.size ≤ w5.heap.size) := Lib.hid hb.size
          clear hb
          try simp only [Act.put, List.setIfInBounds_toArray, List.set_cons_zero, List.set_cons_succ, List.getElem_toArray, List.getElem_cons_succ, List.getElem_cons_zero]
          refine wpAnyH_take (i := 5) (v := ?_) rfl (by kernel_rfl) (by kernel_rfl) (by kernel_rfl) (fun _ _ _ h => h) (Or.inl ⟨by rfl, ?_⟩) (by assumption) ?_
          rotate_left
          · (intro w hSw; (try dsimp only at hSw); go_simp; (try with_reducible rfl))
          try simp only [Act.put, List.setIfInBounds_toArray, List.set_cons_zero, List.set_cons_succ, List.getElem_toArray, List.getElem_cons_succ, List.getElem_cons_zero]
          refine wpAnyH_take (i := 6) (v := ?_) rfl (by kernel_rfl) (by kernel_rfl) (by kernel_rfl) (fun _ _ _ h => h) (Or.inl ⟨by rfl, ?_⟩) (by assumption) ?_
          rotate_left
          · (intro w hSw; (try dsimp only at hSw); go_simp; (try with_reducible rfl))
          try simp only [Act.put, List.setIfInBounds_toArray, List.set_cons_zero, List.set_cons_succ, List.getElem_toArray, List.getElem_cons_succ, List.getElem_cons_zero]
          refine wpAnyH_take (i := 7) (v := ?_) rfl (by kernel_rfl) (by kernel_rfl) (by kernel_rfl) (fun _ _ _ h => h) (Or.inl ⟨by rfl, ?_⟩) (by assumption) ?_
          rotate_left
          · (intro w hSw; (try dsimp only at hSw); go_simp; (try with_reducible rfl))
          try simp only [Act.put, List.setIfInBounds_toArray, List.set_cons_zero, List.set_cons_succ, List.getElem_toArray, List.getElem_cons_succ, List.getElem_cons_zero]
          refine wpAnyH_ready (rs := [9]) (by kernel_rfl) (by simp) ?_
          refine AllReadyH.cons rfl (fun K hK => ?_) AllReadyH.nil
          obtain ⟨⟨r0, r1, r2, r3⟩, r4⟩ := R_5.out
          go_simp
          refine hK.out _ (st2 w5 (w3.heap.size) l9 h9) ⟨(P0_5.out.st2_ (by have zz0 := S0.out; have zz1 := Sz2.out; have zz2 := Sz3.out; have zz3 := Sb4.out; have zz4 := Sz4.out; have zz5 := Sz5.out; first | omega | (simp; omega))).1, (P1_5.out.st2_ (by have zz0 := S0.out; have zz1 := Sz2.out; have zz2 := Sz3.out; have zz3 := Sb4.out; have zz4 := Sz4.out; have zz5 := Sz5.out; first | omega | (simp; omega))).1⟩ (fun hHeld => ?_)
          clear hK K
          try simp only [Act.put, List.setIfInBounds_toArray, List.set_cons_zero, List.set_cons_succ, List.getElem_toArray, List.getElem_cons_succ, List.getElem_cons_zero]
          refine wpAnyH_ready (rs := [10]) (by kernel_rfl) (by simp) ?_
          refine AllReadyH.cons rfl (fun K hK => ?_) AllReadyH.nil
          go_simp
          refine hK.out _ _ hHeld (fun hHeld => ?_)
          clear hK K hHeld
          try simp only [Act.put, List.setIfInBounds_toArray, List.set_cons_zero, List.set_cons_succ, List.getElem_toArray, List.getElem_cons_succ, List.getElem_cons_zero]
          refine wpAnyH_done (by kernel_rfl) ?_ _
          go_wp2_with fail
          go_meet
          exact ⟨w3.heap.size, rfl, rfl, IB.made R_5.out, belSt2 B5.out (by have zz0 := S0.out; have zz1 := Sz2.out; have zz2 := Sz3.out; have zz3 := Sb4.out; have zz4 := Sz4.out; have zz5 := Sz5.out; first | omega | (simp; omega)), P0_5.out.st2_ (by have zz0 := S0.out; have zz1 := Sz2.out; have zz2 := Sz3.out; have zz3 := Sb4.out; have zz4 := Sz4.out; have zz5 := Sz5.out; first | omega | (simp; omega)), P1_5.out.st2_ (by have zz0 := S0.out; have zz1 := Sz2.out; have zz2 := Sz3.out; have zz3 := Sb4.out; have zz4 := Sz4.out; have zz5 := Sz5.out; first | omega | (simp; omega))⟩
      · go_simp
        obtain ⟨w3, hw⟩ : ∃ w3, w3 = w2.alloc (.cells #[.float .f32 0, .float .f32 0] 25) := ⟨_, rfl⟩
        have hb : Below w2.heap.size w2 w3 := by rw [hw]; exact belAlloc1 _ _
        have Sb3 : Hid (w2.heap.size + 1 = w3.heap.size) := Lib.hid (by rw [hw]; simp)
        have R_3 : Hid (IR w3 w2.heap.size) := Lib.hid (by rw [hw]; exact IR.new _ _)
        rw [← hw]
        refine hK.out _ _ ⟨(P0_2.out.next hb).1, (P1_2.out.next hb).1⟩ (fun hHeld => ?_)
        clear hK K hw
        have B3 := Lib.hid (belNext B2.out hb)
        have P0_3 := Lib.hid (P0_2.out.next hb)
        have P1_3 := Lib.hid (P1_2.out.next hb)
        have Sz3 : Hid (w2.heap.size ≤ w3.heap.size) := Lib.hid hb.size
        clear hb
        try simp only [Act.put, List.setIfInBounds_toArray, List.set_cons_zero, List.set_cons_succ, List.getElem_toArray, List.getElem_cons_succ, List.getElem_cons_zero]
        refine wpAnyH_ready (rs := [3]) (by kernel_rfl) (by simp) ?_
        refine AllReadyH.cons rfl (fun K hK => ?_) AllReadyH.nil
        go_simp
        refine (toIv_any x1 y1 w3).mono ?_
        rintro e w4 ⟨rfl, hb0⟩
        have hb : Below w3.heap.size w3 w4 := hb0
        refine hK.out _ _ ⟨(P0_3.out.next hb).1, (P1_3.out.next hb).1⟩ (fun hHeld => ?_)
        clear hK K hb0
        have B4 := Lib.hid (belNext B3.out hb)
        have P0_4 := Lib.hid (P0_3.out.next hb)
        have P1_4 := Lib.hid (P1_3.out.next hb)
        have R_4 := Lib.hid (R_3.out.next hb)
        have Sz4 : Hid (w3.heap.size ≤ w4.heap.size) := Lib.hid hb.size
        clear hb
        try simp only [Act.put, List.setIfInBounds_toArray, List.set_cons_zero, List.set_cons_succ, List.getElem_toArray, List.getElem_cons_succ, List.getElem_cons_zero]
        refine wpAnyH_ready (rs := [4]) (by kernel_rfl) (by simp) ?_
        refine AllReadyH.cons rfl (fun K hK => ?_) AllReadyH.nil
        go_simp
        refine (HS.out w4).mono ?_
        rintro e w5 ⟨rfl, hb0⟩
        have hb : Below w4.heap.size w4 w5 := hb0
        refine hK.out _ _ ⟨(P0_4.out.next hb).1, (P1_4.out.next hb).1⟩ (fun hHeld => ?_)
        clear hK K hb0
        have B5 := Lib.hid (belNext B4.out hb)
        have P0_5 := Lib.hid (P0_4.out.next hb)
        have P1_5 := Lib.hid (P1_4.out.next hb)
        have R_5 := Lib.hid (R_4.out.next hb)
        have Sz5 : Hid (w4.heap.size ≤ w5.heap.size) := Lib.hid hb.size
        clear hb
        try simp only [Act.put, List.setIfInBounds_toArray, List.set_cons_zero, List.set_cons_succ, List.getElem_toArray, List.getElem_cons_succ, List.getElem_cons_zero]
        refine wpAnyH_take (i := 5) (v := ?_) rfl (by kernel_rfl) (by kernel_rfl) (by kernel_rfl) (fun _ _ _ h => h) (Or.inl ⟨by rfl, ?_⟩) (by assumption) ?_
        rotate_left
        · (intro w hSw; (try dsimp only at hSw); go_simp; (try with_reducible rfl))
        try simp only [Act.put, List.setIfInBounds_toArray, List.set_cons_zero, List.set_cons_succ, List.getElem_toArray, List.getElem_cons_succ, List.getElem_cons_zero]
        refine wpAnyH_take (i := 6) (v := ?_) rfl (by kernel_rfl) (by kernel_rfl) (by kernel_rfl) (fun _ _ _ h => h) (Or.inl ⟨by rfl, ?_⟩) (by assumption) ?_
        rotate_left
        · (intro w hSw; (try dsimp only at hSw); go_simp; (try with_reducible rfl))
        try simp only [Act.put, List.setIfInBounds_toArray, List.set_cons_zero, List.set_cons_succ, List.getElem_toArray, List.getElem_cons_succ, List.getElem_cons_zero]
        refine wpAnyH_take (i := 7) (v := ?_) rfl (by kernel_rfl) (by kernel_rfl) (by kernel_rfl) (fun _ _ _ h => h) (Or.inl ⟨by rfl, ?_⟩) (by assumption) ?_
        rotate_left
        · (intro w hSw; (try dsimp only at hSw); go_simp; (try with_reducible rfl))
        try simp only [Act.put, List.setIfInBounds_toArray, List.set_cons_zero, List.set_cons_succ, List.getElem_toArray, List.getElem_cons_succ, List.getElem_cons_zero]
        refine wpAnyH_ready (rs := [9]) (by kernel_rfl) (by simp) ?_
        refine AllReadyH.cons rfl (fun K hK => ?_) AllReadyH.nil
        obtain ⟨⟨r0, r1, r2, r3⟩, r4⟩ := R_5.out
        go_simp
        refine hK.out _ (st2 w5 (w2.heap.size) l9 h9) ⟨(P0_5.out.st2_ (by have zz0 := S0.out; have zz1 := Sz2.out; have zz2 := Sb3.out; have zz3 := Sz3.out; have zz4 := Sz4.out; have zz5 := Sz5.out; first | omega | (simp; omega))).1, (P1_5.out.st2_ (by have zz0 := S0.out; have zz1 := Sz2.out; have zz2 := Sb3.out; have zz3 := Sz3.out; have zz4 := Sz4.out; have zz5 := Sz5.out; first | omega | (simp; omega))).1⟩ (fun hHeld => ?_)
        clear hK K
        try simp only [Act.put, List.setIfInBounds_toArray, List.set_cons_zero, List.set_cons_succ, List.getElem_toArray, List.getElem_cons_succ, List.getElem_cons_zero]
        refine wpAnyH_ready (rs := [10]) (by kernel_rfl) (by simp) ?_
        refine AllReadyH.cons rfl (fun K hK => ?_) AllReadyH.nil
        go_simp
        refine hK.out _ _ hHeld (fun hHeld => ?_)
        clear hK K hHeld
        try simp only [Act.put, List.setIfInBounds_toArray, List.set_cons_zero, List.set_cons_succ, List.getElem_toArray, List.getElem_cons_succ, List.getElem_cons_zero]
        refine wpAnyH_done (by kernel_rfl) ?_ _
        go_wp2_with fail
        go_meet
        exact ⟨w2.heap.size, rfl, rfl, IB.made R_5.out, belSt2 B5.out (by have zz0 := S0.out; have zz1 := Sz2.out; have zz2 := Sb3.out; have zz3 := Sz3.out; have zz4 := Sz4.out; have zz5 := Sz5.out; first | omega | (simp; omega)), P0_5.out.st2_ (by have zz0 := S0.out; have zz1 := Sz2.out; have zz2 := Sb3.out; have zz3 := Sz3.out; have zz4 := Sz4.out; have zz5 := Sz5.out; first | omega | (simp; omega)), P1_5.out.st2_ (by have zz0 := S0.out; have zz1 := Sz2.out; have zz2 := Sb3.out; have zz3 := Sz3.out; have zz4 := Sz4.out; have zz5 := Sz5.out; first | omega | (simp; omega))⟩
    · go_simp
      obtain ⟨w2, hw⟩ : ∃ w2, w2 = (w1.alloc (.cells #[.float .f32 0, .float .f32 0] 25)).drew := ⟨_, rfl⟩
      have hb : Below w1.heap.size w1 w2 := by rw [hw]; exact (belAlloc1 _ _).drew
      have Sb2 : Hid (w1.heap.size + 1 = w2.heap.size) := Lib.hid (by rw [hw]; simp)
      have R_2 : Hid (IR w2 w1.heap.size) := Lib.hid (by rw [hw]; exact (IR.new w1 _).drew)
      rw [← hw]
      refine hK.out _ _ ⟨(P0_1.out.next hb).1, (P1_1.out.next hb).1⟩ (fun hHeld => ?_)
      clear hK K hw
      have B2 := Lib.hid (belNext B1.out hb)
      have P0_2 := Lib.hid (P0_1.out.next hb)
      have P1_2 := Lib.hid (P1_1.out.next hb)
      have Sz2 : Hid (w1.heap.size ≤ w2.heap.size) := Lib.hid hb.size
      clear hb
      try simp only [Act.put, List.setIfInBounds_toArray, List.set_cons_zero, List.set_cons_succ, List.getElem_toArray, List.getElem_cons_succ, List.getElem_cons_zero]
      refine wpAnyH_ready (rs := [1]) (by kernel_rfl) (by simp) ?_
      refine AllReadyH.cons rfl (fun K hK => ?_) AllReadyH.nil
      go_simp
      refine (toIv_any x0 y0 w2).mono ?_
      rintro e w3 ⟨rfl, hb0⟩
      have hb : Below w2.heap.size w2 w3 := hb0
      refine hK.out _ _ ⟨(P0_2.out.next hb).1, (P1_2.out.next hb).1⟩ (fun hHeld => ?_)
      clear hK K hb0
      have B3 := Lib.hid (belNext B2.out hb)
      have P0_3 := Lib.hid (P0_2.out.next hb)
      have P1_3 := Lib.hid (P1_2.out.next hb)
      have R_3 := Lib.hid (R_2.out.next hb)
      have Sz3 : Hid (w2.heap.size ≤ w3.heap.size) := Lib.hid hb.size
      clear hb
      try simp only [Act.put, List.setIfInBounds_toArray, List.set_cons_zero, List.set_cons_succ, List.getElem_toArray, List.getElem_cons_succ, List.getElem_cons_zero]
      refine wpAnyH_ready (rs := [3]) (by kernel_rfl) (by simp) ?_
      refine AllReadyH.cons rfl (fun K hK => ?_) AllReadyH.nil
      go_simp
      refine (toIv_any x1 y1 w3).mono ?_
      rintro e w4 ⟨rfl, hb0⟩
      have hb : Below w3.heap.size w3 w4 := hb0
      refine hK.out _ _ ⟨(P0_3.out.next hb).1, (P1_3.out.next hb).1⟩ (fun hHeld => ?_)
      clear hK K hb0
      have B4 := Lib.hid (belNext B3.out hb)
      have P0_4 := Lib.hid (P0_3.out.next hb)
      have P1_4 := Lib.hid (P1_3.out.next hb)
      have R_4 := Lib.hid (R_3.out.next hb)
      have Sz4 : Hid (w3.heap.size ≤ w4.heap.size) := Lib.hid hb.size
      clear hb
      try simp only [Act.put, List.setIfInBounds_toArray, List.set_cons_zero, List.set_cons_succ, List.getElem_toArray, List.getElem_cons_succ, List.getElem_cons_zero]
      refine wpAnyH_ready (rs := [4]) (by kernel_rfl) (by simp) ?_
      refine AllReadyH.cons rfl (fun K hK => ?_) AllReadyH.nil
      go_simp
      refine (HS.out w4).mono ?_
      rintro e w5 ⟨rfl, hb0⟩
      have hb : Below w4.heap.size w4 w5 := hb0
      refine hK.out _ _ ⟨(P0_4.out.next hb).1, (P1_4.out.next hb).1⟩ (fun hHeld => ?_)
      clear hK K hb0
      have B5 := Lib.hid (belNext B4.out hb)
      have P0_5 := Lib.hid (P0_4.out.next hb)
      have P1_5 := Lib.hid (P1_4.out.next hb)
      have R_5 := Lib.hid (R_4.out.next hb)
      have Sz5 : Hid (w4.heap.size ≤ w5.heap.size) := Lib.hid hb.size
      clear hb
      try simp only [Act.put, List.setIfInBounds_toArray, List.set_cons_zero, List.set_cons_succ, List.getElem_toArray, List.getElem_cons_succ, List.getElem_cons_zero]
      refine wpAnyH_take (i := 5) (v := ?_) rfl (by kernel_rfl) (by kernel_rfl) (by kernel_rfl) (fun _ _ _ h => h) (Or.inl ⟨by rfl, ?_⟩) (by assumption) ?_
      rotate_left
      · (intro w hSw; (try dsimp only at hSw); go_simp; (try with_reducible rfl))
      try simp only [Act.put, List.setIfInBounds_toArray, List.set_cons_zero, List.set_cons_succ, List.getElem_toArray, List.getElem_cons_succ, List.getElem_cons_zero]
      refine wpAnyH_take (i := 6) (v := ?_) rfl (by kernel_rfl) (by kernel_rfl) (by kernel_rfl) (fun _ _ _ h => h) (Or.inl ⟨by rfl, ?_⟩) (by assumption) ?_
      rotate_left
      · (intro w hSw; (try dsimp only at hSw); go_simp; (try with_reducible rfl))
      try simp only [Act.put, List.setIfInBounds_toArray, List.set_cons_zero, List.set_cons_succ, List.getElem_toArray, List.getElem_cons_succ, List.getElem_cons_zero]
      refine wpAnyH_take (i := 7) (v := ?_) rfl (by kernel_rfl) (by kernel_rfl) (by kernel_rfl) (fun _ _ _ h => h) (Or.inl ⟨by rfl, ?_⟩) (by assumption) ?_
      rotate_left
      · (intro w hSw; (try dsimp only at hSw); go_simp; (try with_reducible rfl))
      try simp only [Act.put, List.setIfInBounds_toArray, List.set_cons_zero, List.set_cons_succ, List.getElem_toArray, List.getElem_cons_succ, List.getElem_cons_zero]
      refine wpAnyH_ready (rs := [9]) (by kernel_rfl) (by simp) ?_
      refine AllReadyH.cons rfl (fun K hK => ?_) AllReadyH.nil
      obtain ⟨⟨r0, r1, r2, r3⟩, r4⟩ := R_5.out
      go_simp
      refine hK.out _ (st2 w5 (w1.heap.size) l9 h9) ⟨(P0_5.out.st2_ (by have zz0 := S0.out; have zz1 := Sb2.out; have zz2 := Sz2.out; have zz3 := Sz3.out; have zz4 := Sz4.out; have zz5 := Sz5.out; first | omega | (simp; omega))).1, (P1_5.out.st2_ (by have zz0 := S0.out; have zz1 := Sb2.out; have zz2 := Sz2.out; have zz3 := Sz3.out; have zz4 := Sz4.out; have zz5 := Sz5.out; first | omega | (simp; omega))).1⟩ (fun hHeld => ?_)
      clear hK K
      try simp only [Act.put, List.setIfInBounds_toArray, List.set_cons_zero, List.set_cons_succ, List.getElem_toArray, List.getElem_cons_succ, List.getElem_cons_zero]
      refine wpAnyH_ready (rs := [10]) (by kernel_rfl) (by simp) ?_
      refine AllReadyH.cons rfl (fun K hK => ?_) AllReadyH.nil
      go_simp
      refine hK.out _ _ hHeld (fun hHeld => ?_)
      clear hK K hHeld
      try simp only [Act.put, List.setIfInBounds_toArray, List.set_cons_zero, List.set_cons_succ, List.getElem_toArray, List.getElem_cons_succ, List.getElem_cons_zero]
      refine wpAnyH_done (by kernel_rfl) ?_ _
      go_wp2_with fail
      go_meet
      exact ⟨w1.heap.size, rfl, rfl, IB.made R_5.out, belSt2 B5.out (by have zz0 := S0.out; have zz1 := Sb2.out; have zz2 := Sz2.out; have zz3 := Sz3.out; have zz4 := Sz4.out; have zz5 := Sz5.out; first | omega | (simp; omega)), P0_5.out.st2_ (by have zz0 := S0.out; have zz1 := Sb2.out; have zz2 := Sz2.out; have zz3 := Sz3.out; have zz4 := Sz4.out; have zz5 := Sz5.out; first | omega | (simp; omega)), P1_5.out.st2_ (by have zz0 := S0.out; have zz1 := Sb2.out; have zz2 := Sz2.out; have zz3 := Sz3.out; have zz4 := Sz4.out; have zz5 := Sz5.out; first | omega | (simp; omega))⟩
  case rest =>
    obtain ⟨w21, hwc⟩ : ∃ w21, w21 = wc := ⟨_, rfl⟩
    rw [← hwc] at hcut ⊢
    clear hwc
    obtain ⟨bs, rfl, rfl, hbx, hB, hP0, hP1⟩ := hcut
    have P0_21 := Lib.hid hP0
    have P1_21 := Lib.hid hP1
    have B21 := Lib.hid hB
    have P2_21 := Lib.hid hbx
    clear hB hbx hP0 hP1 c00 c01 c02 c10 c11 c12
    have Sx21 : Hid (w.heap.size + 1 < w21.heap.size) := Lib.hid P1_21.out.2
    have Sy21 : Hid (bs < w21.heap.size) := Lib.hid P2_21.out.2
    obtain ⟨⟨c00, c01⟩, c02⟩ := P0_21.out
    obtain ⟨⟨c10, c11⟩, c12⟩ := P1_21.out
    obtain ⟨⟨c20, c21⟩, c22⟩ := P2_21.out
    go_wp2_with fail
    go_cut [7, 8] from 17 to 24 (fun t1 t2 wx => ∃ (bq : Nat), t1 = .pointer (some ⟨bq, 0, none⟩) ∧ t2 = .int .i64 e9 ∧ IB wx bq l9 h9 ∧ Below w.heap.size w wx ∧ IB wx (w.heap.size) x0 y0 ∧ IB wx (w.heap.size + 1) x1 y1 ∧ IB wx (bs) l9 h9)
    case first =>
      refine wp_region_held_drew (S := fun w' => (w'.cell? ⟨w.heap.size, 0, none⟩ = some (.float .f32 x0) ∧ w'.cell? ⟨w.heap.size, 1, none⟩ = some (.float .f32 y0)) ∧ (w'.cell? ⟨w.heap.size + 1, 0, none⟩ = some (.float .f32 x1) ∧ w'.cell? ⟨w.heap.size + 1, 1, none⟩ = some (.float .f32 y1))) (by kernel_rfl) ⟨P0_21.out.1, P1_21.out.1⟩ (fun hHeld => ?_)
      clear c00 c01 c02 c10 c11 c12 c20 c21 c22
      refine wpAnyH_take (i := 0) (v := ?_) rfl (by kernel_rfl) (by kernel_rfl) (by kernel_rfl) (fun _ _ _ h => h) (Or.inl ⟨by rfl, ?_⟩) (by assumption) ?_
      rotate_left
      · (intro w hSw; (try dsimp only at hSw); go_simp; (try with_reducible rfl))
      try simp only [Act.put, List.setIfInBounds_toArray, List.set_cons_zero, List.set_cons_succ, List.getElem_toArray, List.getElem_cons_succ, List.getElem_cons_zero]
      refine wpAnyH_take (i := 2) (v := ?_) rfl (by kernel_rfl) (by kernel_rfl) (by kernel_rfl) (fun _ _ _ h => h) (Or.inl ⟨by rfl, ?_⟩) (by assumption) ?_
      rotate_left
      · (intro w hSw; (try dsimp only at hSw); go_simp; (try with_reducible rfl))
      try simp only [Act.put, List.setIfInBounds_toArray, List.set_cons_zero, List.set_cons_succ, List.getElem_toArray, List.getElem_cons_succ, List.getElem_cons_zero]
      refine wpAnyH_ready (rs := [1, 8]) (by kernel_rfl) (by simp) ?_
      refine AllReadyH.cons rfl (fun K hK => ?_) (AllReadyH.cons rfl (fun K hK => ?_) AllReadyH.nil)
      · go_simp
        refine (toIv_any x0 y0 w21.drew).mono ?_
        rintro e w22 ⟨rfl, hb0⟩
        have hb : Below w21.heap.size w21 w22 := belDrew hb0
        refine hK.out _ _ ⟨(P0_21.out.next hb).1, (P1_21.out.next hb).1⟩ (fun hHeld => ?_)
        clear hK K hb0
        have B22 := Lib.hid (belNext B21.out hb)
        have P0_22 := Lib.hid (P0_21.out.next hb)
        have P1_22 := Lib.hid (P1_21.out.next hb)
        have P2_22 := Lib.hid (P2_21.out.next hb)
        have Sz22 : Hid (w21.heap.size ≤ w22.heap.size) := Lib.hid hb.size
        clear hb
        try simp only [Act.put, List.setIfInBounds_toArray, List.set_cons_zero, List.set_cons_succ, List.getElem_toArray, List.getElem_cons_succ, List.getElem_cons_zero]
        refine wpAnyH_ready (rs := [3, 8]) (by kernel_rfl) (by simp) ?_
        refine AllReadyH.cons rfl (fun K hK => ?_) (AllReadyH.cons rfl (fun K hK => ?_) AllReadyH.nil)
        · go_simp
          refine (toIv_any x1 y1 w22).mono ?_
          rintro e w23 ⟨rfl, hb0⟩
          have hb : Below w22.heap.size w22 w23 := hb0
          refine hK.out _ _ ⟨(P0_22.out.next hb).1, (P1_22.out.next hb).1⟩ (fun hHeld => ?_)
          clear hK K hb0
          have B23 := Lib.hid (belNext B22.out hb)
          have P0_23 := Lib.hid (P0_22.out.next hb)
          have P1_23 := Lib.hid (P1_22.out.next hb)
          have P2_23 := Lib.hid (P2_22.out.next hb)
          have Sz23 : Hid (w22.heap.size ≤ w23.heap.size) := Lib.hid hb.size
          clear hb
          try simp only [Act.put, List.setIfInBounds_toArray, List.set_cons_zero, List.set_cons_succ, List.getElem_toArray, List.getElem_cons_succ, List.getElem_cons_zero]
          refine wpAnyH_ready (rs := [4, 8]) (by kernel_rfl) (by simp) ?_
          refine AllReadyH.cons rfl (fun K hK => ?_) (AllReadyH.cons rfl (fun K hK => ?_) AllReadyH.nil)
          · go_simp
            refine (HI.out w23 (HT.out.next B23.out)).mono ?_
            rintro e w24 ⟨rfl, hb0⟩
            have hb : Below w23.heap.size w23 w24 := hb0
            refine hK.out _ _ ⟨(P0_23.out.next hb).1, (P1_23.out.next hb).1⟩ (fun hHeld => ?_)
            clear hK K hb0
            have B24 := Lib.hid (belNext B23.out hb)
            have P0_24 := Lib.hid (P0_23.out.next hb)
            have P1_24 := Lib.hid (P1_23.out.next hb)
            have P2_24 := Lib.hid (P2_23.out.next hb)
            have Sz24 : Hid (w23.heap.size ≤ w24.heap.size) := Lib.hid hb.size
            clear hb
            try simp only [Act.put, List.setIfInBounds_toArray, List.set_cons_zero, List.set_cons_succ, List.getElem_toArray, List.getElem_cons_succ, List.getElem_cons_zero]
            refine wpAnyH_take (i := 5) (v := ?_) rfl (by kernel_rfl) (by kernel_rfl) (by kernel_rfl) (fun _ _ _ h => h) (Or.inl ⟨by rfl, ?_⟩) (by assumption) ?_
            rotate_left
            · (intro w hSw; (try dsimp only at hSw); go_simp; (try with_reducible rfl))
            try simp only [Act.put, List.setIfInBounds_toArray, List.set_cons_zero, List.set_cons_succ, List.getElem_toArray, List.getElem_cons_succ, List.getElem_cons_zero]
            refine wpAnyH_take (i := 6) (v := ?_) rfl (by kernel_rfl) (by kernel_rfl) (by kernel_rfl) (fun _ _ _ h => h) (Or.inl ⟨by rfl, ?_⟩) (by assumption) ?_
            rotate_left
            · (intro w hSw; (try dsimp only at hSw); go_simp; (try with_reducible rfl))
            try simp only [Act.put, List.setIfInBounds_toArray, List.set_cons_zero, List.set_cons_succ, List.getElem_toArray, List.getElem_cons_succ, List.getElem_cons_zero]
            refine wpAnyH_take (i := 7) (v := ?_) rfl (by kernel_rfl) (by kernel_rfl) (by kernel_rfl) (fun _ _ _ h => h) (Or.inl ⟨by rfl, ?_⟩) (by assumption) ?_
            rotate_left
            · (intro w hSw; (try dsimp only at hSw); go_simp; (try with_reducible rfl))
            try simp only [Act.put, List.setIfInBounds_toArray, List.set_cons_zero, List.set_cons_succ, List.getElem_toArray, List.getElem_cons_succ, List.getElem_cons_zero]
            refine wpAnyH_ready (rs := [8]) (by kernel_rfl) (by simp) ?_
            refine AllReadyH.cons rfl (fun K hK => ?_) AllReadyH.nil
            go_simp
            obtain ⟨w25, hw⟩ : ∃ w25, w25 = w24.alloc (.cells #[.float .f32 0, .float .f32 0] 25) := ⟨_, rfl⟩
            have hb : Below w24.heap.size w24 w25 := by rw [hw]; exact belAlloc1 _ _
            have Sb25 : Hid (w24.heap.size + 1 = w25.heap.size) := Lib.hid (by rw [hw]; simp)
            have R_25 : Hid (IR w25 w24.heap.size) := Lib.hid (by rw [hw]; exact IR.new _ _)
            rw [← hw]
            refine hK.out _ _ ⟨(P0_24.out.next hb).1, (P1_24.out.next hb).1⟩ (fun hHeld => ?_)
            clear hK K hw
            have B25 := Lib.hid (belNext B24.out hb)
            have P0_25 := Lib.hid (P0_24.out.next hb)
            have P1_25 := Lib.hid (P1_24.out.next hb)
            have P2_25 := Lib.hid (P2_24.out.next hb)
            have Sz25 : Hid (w24.heap.size ≤ w25.heap.size) := Lib.hid hb.size
            clear hb
            try simp only [Act.put, List.setIfInBounds_toArray, List.set_cons_zero, List.set_cons_succ, List.getElem_toArray, List.getElem_cons_succ, List.getElem_cons_zero]
            refine wpAnyH_ready (rs := [9]) (by kernel_rfl) (by simp) ?_
            refine AllReadyH.cons rfl (fun K hK => ?_) AllReadyH.nil
            obtain ⟨⟨r0, r1, r2, r3⟩, r4⟩ := R_25.out
            go_simp
            refine hK.out _ (st2 w25 (w24.heap.size) l9 h9) ⟨(P0_25.out.st2_ (by have zz0 := S0.out; have zz1 := Sx21.out; have zz2 := Sy21.out; have zz3 := Sz22.out; have zz4 := Sz23.out; have zz5 := Sz24.out; have zz6 := Sb25.out; have zz7 := Sz25.out; first | omega | (simp; omega))).1, (P1_25.out.st2_ (by have zz0 := S0.out; have zz1 := Sx21.out; have zz2 := Sy21.out; have zz3 := Sz22.out; have zz4 := Sz23.out; have zz5 := Sz24.out; have zz6 := Sb25.out; have zz7 := Sz25.out; first | omega | (simp; omega))).1⟩ (fun hHeld => ?_)
            clear hK K
            try simp only [Act.put, List.setIfInBounds_toArray, List.set_cons_zero, List.set_cons_succ, List.getElem_toArray, List.getElem_cons_succ, List.getElem_cons_zero]
            refine wpAnyH_ready (rs := [10]) (by kernel_rfl) (by simp) ?_
            refine AllReadyH.cons rfl (fun K hK => ?_) AllReadyH.nil
            go_simp
            refine hK.out _ _ hHeld (fun hHeld => ?_)
            clear hK K hHeld
            try simp only [Act.put, List.setIfInBounds_toArray, List.set_cons_zero, List.set_cons_succ, List.getElem_toArray, List.getElem_cons_succ, List.getElem_cons_zero]
            refine wpAnyH_done (by kernel_rfl) ?_ _
            go_wp2_with fail
            go_meet
            exact ⟨w24.heap.size, rfl, rfl, IB.made R_25.out, belSt2 B25.out (by have zz0 := S0.out; have zz1 := Sx21.out; have zz2 := Sy21.out; have zz3 := Sz22.out; have zz4 := Sz23.out; have zz5 := Sz24.out; have zz6 := Sb25.out; have zz7 := Sz25.out; first | omega | (simp; omega)), P0_25.out.st2_ (by have zz0 := S0.out; have zz1 := Sx21.out; have zz2 := Sy21.out; have zz3 := Sz22.out; have zz4 := Sz23.out; have zz5 := Sz24.out; have zz6 := Sb25.out; have zz7 := Sz25.out; first | omega | (simp; omega)), P1_25.out.st2_ (by have zz0 := S0.out; have zz1 := Sx21.out; have zz2 := Sy21.out; have zz3 := Sz22.out; have zz4 := Sz23.out; have zz5 := Sz24.out; have zz6 := Sb25.out; have zz7 := Sz25.out; first | omega | (simp; omega)), P2_25.out.st2_ (by have zz0 := S0.out; have zz1 := Sx21.out; have zz2 := Sy21.out; have zz3 := Sz22.out; have zz4 := Sz23.out; have zz5 := Sz24.out; have zz6 := Sb25.out; have zz7 := Sz25.out; first | omega | (simp; omega))⟩
          · go_simp
            obtain ⟨w24, hw⟩ : ∃ w24, w24 = w23.alloc (.cells #[.float .f32 0, .float .f32 0] 25) := ⟨_, rfl⟩
            have hb : Below w23.heap.size w23 w24 := by rw [hw]; exact belAlloc1 _ _
            have Sb24 : Hid (w23.heap.size + 1 = w24.heap.size) := Lib.hid (by rw [hw]; simp)
            have R_24 : Hid (IR w24 w23.heap.size) := Lib.hid (by rw [hw]; exact IR.new _ _)
            rw [← hw]
            refine hK.out _ _ ⟨(P0_23.out.next hb).1, (P1_23.out.next hb).1⟩ (fun hHeld => ?_)
            clear hK K hw
            have B24 := Lib.hid (belNext B23.out hb)
            have P0_24 := Lib.hid (P0_23.out.next hb)
            have P1_24 := Lib.hid (P1_23.out.next hb)
            have P2_24 := Lib.hid (P2_23.out.next hb)
            have Sz24 : Hid (w23.heap.size ≤ w24.heap.size) := Lib.hid hb.size
            clear hb
            try simp only [Act.put, List.setIfInBounds_toArray, List.set_cons_zero, List.set_cons_succ, List.getElem_toArray, List.getElem_cons_succ, List.getElem_cons_zero]
            refine wpAnyH_ready (rs := [4]) (by kernel_rfl) (by simp) ?_
            refine AllReadyH.cons rfl (fun K hK => ?_) AllReadyH.nil
            go_simp
            refine (HI.out w24 (HT.out.next B24.out)).mono ?_
            rintro e w25 ⟨rfl, hb0⟩
            have hb : Below w24.heap.size w24 w25 := hb0
            refine hK.out _ _ ⟨(P0_24.out.next hb).1, (P1_24.out.next hb).1⟩ (fun hHeld => ?_)
            clear hK K hb0
            have B25 := Lib.hid (belNext B24.out hb)
            have P0_25 := Lib.hid (P0_24.out.next hb)
            have P1_25 := Lib.hid (P1_24.out.next hb)
            have P2_25 := Lib.hid (P2_24.out.next hb)
            have R_25 := Lib.hid (R_24.out.next hb)
            have Sz25 : Hid (w24.heap.size ≤ w25.heap.size) := Lib.hid hb.size
            clear hb
            try simp only [Act.put, List.setIfInBounds_toArray, List.set_cons_zero, List.set_cons_succ, List.getElem_toArray, List.getElem_cons_succ, List.getElem_cons_zero]
            refine wpAnyH_take (i := 5) (v := ?_) rfl (by kernel_rfl) (by kernel_rfl) (by kernel_rfl) (fun _ _ _ h => h) (Or.inl ⟨by rfl, ?_⟩) (by assumption) ?_
            rotate_left
            · (intro w hSw; (try dsimp only at hSw); go_simp; (try with_reducible rfl))
            try simp only [Act.put, List.setIfInBounds_toArray, List.set_cons_zero, List.set_cons_succ, List.getElem_toArray, List.getElem_cons_succ, List.getElem_cons_zero]
            refine wpAnyH_take (i := 6) (v := ?_) rfl (by kernel_rfl) (by kernel_rfl) (by kernel_rfl) (fun _ _ _ h => h) (Or.inl ⟨by rfl, ?_⟩) (by assumption) ?_
            rotate_left
            · (intro w hSw; (try dsimp only at hSw); go_simp; (try with_reducible rfl))
            try simp only [Act.put, List.setIfInBounds_toArray, List.set_cons_zero, List.set_cons_succ, List.getElem_toArray, List.getElem_cons_succ, List.getElem_cons_zero]
            refine wpAnyH_take (i := 7) (v := ?_) rfl (by kernel_rfl) (by kernel_rfl) (by kernel_rfl) (fun _ _ _ h => h) (Or.inl ⟨by rfl, ?_⟩) (by assumption) ?_
            rotate_left
            · (intro w hSw; (try dsimp only at hSw); go_simp; (try with_reducible rfl))
            try simp only [Act.put, List.setIfInBounds_toArray, List.set_cons_zero, List.set_cons_succ, List.getElem_toArray, List.getElem_cons_succ, List.getElem_cons_zero]
            refine wpAnyH_ready (rs := [9]) (by kernel_rfl) (by simp) ?_
            refine AllReadyH.cons rfl (fun K hK => ?_) AllReadyH.nil
            obtain ⟨⟨r0, r1, r2, r3⟩, r4⟩ := R_25.out
            go_simp
            refine hK.out _ (st2 w25 (w23.heap.size) l9 h9) ⟨(P0_25.out.st2_ (by have zz0 := S0.out; have zz1 := Sx21.out; have zz2 := Sy21.out; have zz3 := Sz22.out; have zz4 := Sz23.out; have zz5 := Sb24.out; have zz6 := Sz24.out; have zz7 := Sz25.out; first | omega | (simp; omega))).1, (P1_25.out.st2_ (by have zz0 := S0.out; have zz1 := Sx21.out; have zz2 := Sy21.out; have zz3 := Sz22.out; have zz4 := Sz23.out; have zz5 := Sb24.out; have zz6 := Sz24.out; have zz7 := Sz25.out; first | omega | (simp; omega))).1⟩ (fun hHeld => ?_)
            clear hK K
            try simp only [Act.put, List.setIfInBounds_toArray, List.set_cons_zero, List.set_cons_succ, List.getElem_toArray, List.getElem_cons_succ, List.getElem_cons_zero]
            refine wpAnyH_ready (rs := [10]) (by kernel_rfl) (by simp) ?_
            refine AllReadyH.cons rfl (fun K hK => ?_) AllReadyH.nil
            go_simp
            refine hK.out _ _ hHeld (fun hHeld => ?_)
            clear hK K hHeld
            try simp only [Act.put, List.setIfInBounds_toArray, List.set_cons_zero, List.set_cons_succ, List.getElem_toArray, List.getElem_cons_succ, List.getElem_cons_zero]
            refine wpAnyH_done (by kernel_rfl) ?_ _
            go_wp2_with fail
            go_meet
            exact ⟨w23.heap.size, rfl, rfl, IB.made R_25.out, belSt2 B25.out (by have zz0 := S0.out; have zz1 := Sx21.out; have zz2 := Sy21.out; have zz3 := Sz22.out; have zz4 := Sz23.out; have zz5 := Sb24.out; have zz6 := Sz24.out; have zz7 := Sz25.out; first | omega | (simp; omega)), P0_25.out.st2_ (by have zz0 := S0.out; have zz1 := Sx21.out; have zz2 := Sy21.out; have zz3 := Sz22.out; have zz4 := Sz23.out; have zz5 := Sb24.out; have zz6 := Sz24.out; have zz7 := Sz25.out; first | omega | (simp; omega)), P1_25.out.st2_ (by have zz0 := S0.out; have zz1 := Sx21.out; have zz2 := Sy21.out; have zz3 := Sz22.out; have zz4 := Sz23.out; have zz5 := Sb24.out; have zz6 := Sz24.out; have zz7 := Sz25.out; first | omega | (simp; omega)), P2_25.out.st2_ (by have zz0 := S0.out; have zz1 := Sx21.out; have zz2 := Sy21.out; have zz3 := Sz22.out; have zz4 := Sz23.out; have zz5 := Sb24.out; have zz6 := Sz24.out; have zz7 := Sz25.out; first | omega | (simp; omega))⟩
        · go_simp
          obtain ⟨w23, hw⟩ : ∃ w23, w23 = w22.alloc (.cells #[.float .f32 0, .float .f32 0] 25) := ⟨_, rfl⟩
          have hb : Below w22.heap.size w22 w23 := by rw [hw]; exact belAlloc1 _ _
          have Sb23 : Hid (w22.heap.size + 1 = w23.heap.size) := Lib.hid (by rw [hw]; simp)
          have R_23 : Hid (IR w23 w22.heap.size) := Lib.hid (by rw [hw]; exact IR.new _ _)
          rw [← hw]
          refine hK.out _ _ ⟨(P0_22.out.next hb).1, (P1_22.out.next hb).1⟩ (fun hHeld => ?_)
          clear hK K hw
          have B23 := Lib.hid (belNext B22.out hb)
          have P0_23 := Lib.hid (P0_22.out.next hb)
          have P1_23 := Lib.hid (P1_22.out.next hb)
          have P2_23 := Lib.hid (P2_22.out.next hb)
          have Sz23 : Hid (w22.heap.size ≤ w23.heap.size) := Lib.hid hb.size
          clear hb
          try simp only [Act.put, List.setIfInBounds_toArray, List.set_cons_zero, List.set_cons_succ, List.getElem_toArray, List.getElem_cons_succ, List.getElem_cons_zero]
          refine wpAnyH_ready (rs := [3]) (by kernel_rfl) (by simp) ?_
          refine AllReadyH.cons rfl (fun K hK => ?_) AllReadyH.nil
          go_simp
          refine (toIv_any x1 y1 w23).mono ?_
          rintro e w24 ⟨rfl, hb0⟩
          have hb : Below w23.heap.size w23 w24 := hb0
          refine hK.out _ _ ⟨(P0_23.out.next hb).1, (P1_23.out.next hb).1⟩ (fun hHeld => ?_)
          clear hK K hb0
          have B24 := Lib.hid (belNext B23.out hb)
          have P0_24 := Lib.hid (P0_23.out.next hb)
          have P1_24 := Lib.hid (P1_23.out.next hb)
          have P2_24 := Lib.hid (P2_23.out.next hb)
          have R_24 := Lib.hid (R_23.out.next hb)
          have Sz24 : Hid (w23.heap.size ≤ w24.heap.size) := Lib.hid hb.size
          clear hb
          try simp only [Act.put, List.setIfInBounds_toArray, List.set_cons_zero, List.set_cons_succ, List.getElem_toArray, List.getElem_cons_succ, List.getElem_cons_zero]
          refine wpAnyH_ready (rs := [4]) (by kernel_rfl) (by simp) ?_
          refine AllReadyH.cons rfl (fun K hK => ?_) AllReadyH.nil
          go_simp
          refine (HI.out w24 (HT.out.next B24.out)).mono ?_
          rintro e w25 ⟨rfl, hb0⟩
          have hb : Below w24.heap.size w24 w25 := hb0
          refine hK.out _ _ ⟨(P0_24.out.next hb).1, (P1_24.out.next hb).1⟩ (fun hHeld => ?_)
          clear hK K hb0
          have B25 := Lib.hid (belNext B24.out hb)
          have P0_25 := Lib.hid (P0_24.out.next hb)
          have P1_25 := Lib.hid (P1_24.out.next hb)
          have P2_25 := Lib.hid (P2_24.out.next hb)
          have R_25 := Lib.hid (R_24.out.next hb)
          have Sz25 : Hid (w24.heap.size ≤ w25.heap.size) := Lib.hid hb.size
          clear hb
          try simp only [Act.put, List.setIfInBounds_toArray, List.set_cons_zero, List.set_cons_succ, List.getElem_toArray, List.getElem_cons_succ, List.getElem_cons_zero]
          refine wpAnyH_take (i := 5) (v := ?_) rfl (by kernel_rfl) (by kernel_rfl) (by kernel_rfl) (fun _ _ _ h => h) (Or.inl ⟨by rfl, ?_⟩) (by assumption) ?_
          rotate_left
          · (intro w hSw; (try dsimp only at hSw); go_simp; (try with_reducible rfl))
          try simp only [Act.put, List.setIfInBounds_toArray, List.set_cons_zero, List.set_cons_succ, List.getElem_toArray, List.getElem_cons_succ, List.getElem_cons_zero]
          refine wpAnyH_take (i := 6) (v := ?_) rfl (by kernel_rfl) (by kernel_rfl) (by kernel_rfl) (fun _ _ _ h => h) (Or.inl ⟨by rfl, ?_⟩) (by assumption) ?_
          rotate_left
          · (intro w hSw; (try dsimp only at hSw); go_simp; (try with_reducible rfl))
          try simp only [Act.put, List.setIfInBounds_toArray, List.set_cons_zero, List.set_cons_succ, List.getElem_toArray, List.getElem_cons_succ, List.getElem_cons_zero]
          refine wpAnyH_take (i := 7) (v := ?_) rfl (by kernel_rfl) (by kernel_rfl) (by kernel_rfl) (fun _ _ _ h => h) (Or.inl ⟨by rfl, ?_⟩) (by assumption) ?_
          rotate_left
          · (intro w hSw; (try dsimp only at hSw); go_simp; (try with_reducible rfl))
          try simp only [Act.put, List.setIfInBounds_toArray, List.set_cons_zero, List.set_cons_succ, List.getElem_toArray, List.getElem_cons_succ, List.getElem_cons_zero]
          refine wpAnyH_ready (rs := [9]) (by kernel_rfl) (by simp) ?_
          refine AllReadyH.cons rfl (fun K hK => ?_) AllReadyH.nil
          obtain ⟨⟨r0, r1, r2, r3⟩, r4⟩ := R_25.out
          go_simp
          refine hK.out _ (st2 w25 (w22.heap.size) l9 h9) ⟨(P0_25.out.st2_ (by have zz0 := S0.out; have zz1 := Sx21.out; have zz2 := Sy21.out; have zz3 := Sz22.out; have zz4 := Sb23.out; have zz5 := Sz23.out; have zz6 := Sz24.out; have zz7 := Sz25.out; first | omega | (simp; omega))).1, (P1_25.out.st2_ (by have zz0 := S0.out; have zz1 := Sx21.out; have zz2 := Sy21.out; have zz3 := Sz22.out; have zz4 := Sb23.out; have zz5 := Sz23.out; have zz6 := Sz24.out; have zz7 := Sz25.out; first | omega | (simp; omega))).1⟩ (fun hHeld => ?_)
          clear hK K
          try simp only [Act.put, List.setIfInBounds_toArray, List.set_cons_zero, List.set_cons_succ, List.getElem_toArray, List.getElem_cons_succ, List.getElem_cons_zero]
          refine wpAnyH_ready (rs := [10]) (by kernel_rfl) (by simp) ?_
          refine AllReadyH.cons rfl (fun K hK => ?_) AllReadyH.nil
          go_simp
          refine hK.out _ _ hHeld (fun hHeld => ?_)
          clear hK K hHeld
          try simp only [Act.put, List.setIfInBounds_toArray, List.set_cons_zero, List.set_cons_succ, List.getElem_toArray, List.getElem_cons_succ, List.getElem_cons_zero]
          refine wpAnyH_done (by kernel_rfl) ?_ _
          go_wp2_with fail
          go_meet
          exact ⟨w22.heap.size, rfl, rfl, IB.made R_25.out, belSt2 B25.out (by have zz0 := S0.out; have zz1 := Sx21.out; have zz2 := Sy21.out; have zz3 := Sz22.out; have zz4 := Sb23.out; have zz5 := Sz23.out; have zz6 := Sz24.out; have zz7 := Sz25.out; first | omega | (simp; omega)), P0_25.out.st2_ (by have zz0 := S0.out; have zz1 := Sx21.out; have zz2 := Sy21.out; have zz3 := Sz22.out; have zz4 := Sb23.out; have zz5 := Sz23.out; have zz6 := Sz24.out; have zz7 := Sz25.out; first | omega | (simp; omega)), P1_25.out.st2_ (by have zz0 := S0.out; have zz1 := Sx21.out; have zz2 := Sy21.out; have zz3 := Sz22.out; have zz4 := Sb23.out; have zz5 := Sz23.out; have zz6 := Sz24.out; have zz7 := Sz25.out; first | omega | (simp; omega)), P2_25.out.st2_ (by have zz0 := S0.out; have zz1 := Sx21.out; have zz2 := Sy21.out; have zz3 := Sz22.out; have zz4 := Sb23.out; have zz5 := Sz23.out; have zz6 := Sz24.out; have zz7 := Sz25.out; first | omega | (simp; omega))⟩
      · go_simp
        obtain ⟨w22, hw⟩ : ∃ w22, w22 = (w21.alloc (.cells #[.float .f32 0, .float .f32 0] 25)).drew := ⟨_, rfl⟩
        have hb : Below w21.heap.size w21 w22 := by rw [hw]; exact (belAlloc1 _ _).drew
        have Sb22 : Hid (w21.heap.size + 1 = w22.heap.size) := Lib.hid (by rw [hw]; simp)
        have R_22 : Hid (IR w22 w21.heap.size) := Lib.hid (by rw [hw]; exact (IR.new w21 _).drew)
        rw [← hw]
        refine hK.out _ _ ⟨(P0_21.out.next hb).1, (P1_21.out.next hb).1⟩ (fun hHeld => ?_)
        clear hK K hw
        have B22 := Lib.hid (belNext B21.out hb)
        have P0_22 := Lib.hid (P0_21.out.next hb)
        have P1_22 := Lib.hid (P1_21.out.next hb)
        have P2_22 := Lib.hid (P2_21.out.next hb)
        have Sz22 : Hid (w21.heap.size ≤ w22.heap.size) := Lib.hid hb.size
        clear hb
        try simp only [Act.put, List.setIfInBounds_toArray, List.set_cons_zero, List.set_cons_succ, List.getElem_toArray, List.getElem_cons_succ, List.getElem_cons_zero]
        refine wpAnyH_ready (rs := [1]) (by kernel_rfl) (by simp) ?_
        refine AllReadyH.cons rfl (fun K hK => ?_) AllReadyH.nil
        go_simp
        refine (toIv_any x0 y0 w22).mono ?_
        rintro e w23 ⟨rfl, hb0⟩
        have hb : Below w22.heap.size w22 w23 := hb0
        refine hK.out _ _ ⟨(P0_22.out.next hb).1, (P1_22.out.next hb).1⟩ (fun hHeld => ?_)
        clear hK K hb0
        have B23 := Lib.hid (belNext B22.out hb)
        have P0_23 := Lib.hid (P0_22.out.next hb)
        have P1_23 := Lib.hid (P1_22.out.next hb)
        have P2_23 := Lib.hid (P2_22.out.next hb)
        have R_23 := Lib.hid (R_22.out.next hb)
        have Sz23 : Hid (w22.heap.size ≤ w23.heap.size) := Lib.hid hb.size
        clear hb
        try simp only [Act.put, List.setIfInBounds_toArray, List.set_cons_zero, List.set_cons_succ, List.getElem_toArray, List.getElem_cons_succ, List.getElem_cons_zero]
        refine wpAnyH_ready (rs := [3]) (by kernel_rfl) (by simp) ?_
        refine AllReadyH.cons rfl (fun K hK => ?_) AllReadyH.nil
        go_simp
        refine (toIv_any x1 y1 w23).mono ?_
        rintro e w24 ⟨rfl, hb0⟩
        have hb : Below w23.heap.size w23 w24 := hb0
        refine hK.out _ _ ⟨(P0_23.out.next hb).1, (P1_23.out.next hb).1⟩ (fun hHeld => ?_)
        clear hK K hb0
        have B24 := Lib.hid (belNext B23.out hb)
        have P0_24 := Lib.hid (P0_23.out.next hb)
        have P1_24 := Lib.hid (P1_23.out.next hb)
        have P2_24 := Lib.hid (P2_23.out.next hb)
        have R_24 := Lib.hid (R_23.out.next hb)
        have Sz24 : Hid (w23.heap.size ≤ w24.heap.size) := Lib.hid hb.size
        clear hb
        try simp only [Act.put, List.setIfInBounds_toArray, List.set_cons_zero, List.set_cons_succ, List.getElem_toArray, List.getElem_cons_succ, List.getElem_cons_zero]
        refine wpAnyH_ready (rs := [4]) (by kernel_rfl) (by simp) ?_
        refine AllReadyH.cons rfl (fun K hK => ?_) AllReadyH.nil
        go_simp
        refine (HI.out w24 (HT.out.next B24.out)).mono ?_
        rintro e w25 ⟨rfl, hb0⟩
        have hb : Below w24.heap.size w24 w25 := hb0
        refine hK.out _ _ ⟨(P0_24.out.next hb).1, (P1_24.out.next hb).1⟩ (fun hHeld => ?_)
        clear hK K hb0
        have B25 := Lib.hid (belNext B24.out hb)
        have P0_25 := Lib.hid (P0_24.out.next hb)
        have P1_25 := Lib.hid (P1_24.out.next hb)
        have P2_25 := Lib.hid (P2_24.out.next hb)
        have R_25 := Lib.hid (R_24.out.next hb)
        have Sz25 : Hid (w24.heap.size ≤ w25.heap.size) := Lib.hid hb.size
        clear hb
        try simp only [Act.put, List.setIfInBounds_toArray, List.set_cons_zero, List.set_cons_succ, List.getElem_toArray, List.getElem_cons_succ, List.getElem_cons_zero]
        refine wpAnyH_take (i := 5) (v := ?_) rfl (by kernel_rfl) (by kernel_rfl) (by kernel_rfl) (fun _ _ _ h => h) (Or.inl ⟨by rfl, ?_⟩) (by assumption) ?_
        rotate_left
        · (intro w hSw; (try dsimp only at hSw); go_simp; (try with_reducible rfl))
        try simp only [Act.put, List.setIfInBounds_toArray, List.set_cons_zero, List.set_cons_succ, List.getElem_toArray, List.getElem_cons_succ, List.getElem_cons_zero]
        refine wpAnyH_take (i := 6) (v := ?_) rfl (by kernel_rfl) (by kernel_rfl) (by kernel_rfl) (fun _ _ _ h => h) (Or.inl ⟨by rfl, ?_⟩) (by assumption) ?_
        rotate_left
        · (intro w hSw; (try dsimp only at hSw); go_simp; (try with_reducible rfl))
        try simp only [Act.put, List.setIfInBounds_toArray, List.set_cons_zero, List.set_cons_succ, List.getElem_toArray, List.getElem_cons_succ, List.getElem_cons_zero]
        refine wpAnyH_take (i := 7) (v := ?_) rfl (by kernel_rfl) (by kernel_rfl) (by kernel_rfl) (fun _ _ _ h => h) (Or.inl ⟨by rfl, ?_⟩) (by assumption) ?_
        rotate_left
        · (intro w hSw; (try dsimp only at hSw); go_simp; (try with_reducible rfl))
        try simp only [Act.put, List.setIfInBounds_toArray, List.set_cons_zero, List.set_cons_succ, List.getElem_toArray, List.getElem_cons_succ, List.getElem_cons_zero]
        refine wpAnyH_ready (rs := [9]) (by kernel_rfl) (by simp) ?_
        refine AllReadyH.cons rfl (fun K hK => ?_) AllReadyH.nil
        obtain ⟨⟨r0, r1, r2, r3⟩, r4⟩ := R_25.out
        go_simp
        refine hK.out _ (st2 w25 (w21.heap.size) l9 h9) ⟨(P0_25.out.st2_ (by have zz0 := S0.out; have zz1 := Sx21.out; have zz2 := Sy21.out; have zz3 := Sb22.out; have zz4 := Sz22.out; have zz5 := Sz23.out; have zz6 := Sz24.out; have zz7 := Sz25.out; first | omega | (simp; omega))).1, (P1_25.out.st2_ (by have zz0 := S0.out; have zz1 := Sx21.out; have zz2 := Sy21.out; have zz3 := Sb22.out; have zz4 := Sz22.out; have zz5 := Sz23.out; have zz6 := Sz24.out; have zz7 := Sz25.out; first | omega | (simp; omega))).1⟩ (fun hHeld => ?_)
        clear hK K
        try simp only [Act.put, List.setIfInBounds_toArray, List.set_cons_zero, List.set_cons_succ, List.getElem_toArray, List.getElem_cons_succ, List.getElem_cons_zero]
        refine wpAnyH_ready (rs := [10]) (by kernel_rfl) (by simp) ?_
        refine AllReadyH.cons rfl (fun K hK => ?_) AllReadyH.nil
        go_simp
        refine hK.out _ _ hHeld (fun hHeld => ?_)
        clear hK K hHeld
        try simp only [Act.put, List.setIfInBounds_toArray, List.set_cons_zero, List.set_cons_succ, List.getElem_toArray, List.getElem_cons_succ, List.getElem_cons_zero]
        refine wpAnyH_done (by kernel_rfl) ?_ _
        go_wp2_with fail
        go_meet
        exact ⟨w21.heap.size, rfl, rfl, IB.made R_25.out, belSt2 B25.out (by have zz0 := S0.out; have zz1 := Sx21.out; have zz2 := Sy21.out; have zz3 := Sb22.out; have zz4 := Sz22.out; have zz5 := Sz23.out; have zz6 := Sz24.out; have zz7 := Sz25.out; first | omega | (simp; omega)), P0_25.out.st2_ (by have zz0 := S0.out; have zz1 := Sx21.out; have zz2 := Sy21.out; have zz3 := Sb22.out; have zz4 := Sz22.out; have zz5 := Sz23.out; have zz6 := Sz24.out; have zz7 := Sz25.out; first | omega | (simp; omega)), P1_25.out.st2_ (by have zz0 := S0.out; have zz1 := Sx21.out; have zz2 := Sy21.out; have zz3 := Sb22.out; have zz4 := Sz22.out; have zz5 := Sz23.out; have zz6 := Sz24.out; have zz7 := Sz25.out; first | omega | (simp; omega)), P2_25.out.st2_ (by have zz0 := S0.out; have zz1 := Sx21.out; have zz2 := Sy21.out; have zz3 := Sb22.out; have zz4 := Sz22.out; have zz5 := Sz23.out; have zz6 := Sz24.out; have zz7 := Sz25.out; first | omega | (simp; omega))⟩
    case rest =>
      obtain ⟨w41, hwc⟩ : ∃ w41, w41 = wc := ⟨_, rfl⟩
      rw [← hwc] at hcut ⊢
      clear hwc
      obtain ⟨bi, rfl, rfl, hbx, hB, hP0, hP1, hP2⟩ := hcut
      have P0_41 := Lib.hid hP0
      have P1_41 := Lib.hid hP1
      have P2_41 := Lib.hid hP2
      have B41 := Lib.hid hB
      have P3_41 := Lib.hid hbx
      clear hB hbx hP0 hP1 hP2 c00 c01 c02 c10 c11 c12 c20 c21 c22
      have Sx41 : Hid (w.heap.size + 1 < w41.heap.size) := Lib.hid P1_41.out.2
      have Sy41 : Hid (bi < w41.heap.size) := Lib.hid P3_41.out.2
      obtain ⟨⟨c00, c01⟩, c02⟩ := P0_41.out
      obtain ⟨⟨c10, c11⟩, c12⟩ := P1_41.out
      obtain ⟨⟨c20, c21⟩, c22⟩ := P2_41.out
      obtain ⟨⟨c30, c31⟩, c32⟩ := P3_41.out
      go_wp2_with fail
      refine (eqIv_yes l9 h9 _ HO.out.1 HO.out.2).mono ?_
      rintro e w99 ⟨rfl, hb⟩
      have B99 := Lib.hid (belNext B41.out hb)
      clear hb c00 c01 c02 c10 c11 c12 c20 c21 c22 c30 c31 c32
      go_wp2_with fail
      go_ret
      exact ⟨rfl, B99.out⟩

/-! the step from the walk to the given statement -/
set_option maxRecDepth 100000 in
theorem lifted (os : Os) (started : os.Started) (H : Type) (enc : TypeId × Value → H) :
    ReturnsInHanded {} Tryz.checked os 4 .any (fun w args => (Rows.fnExactSubtractIntervalsSpec.pre enc Tryz.prog Tryz.f4 [] false w args ∧ laidMetH Tryz.prog laidL w) ∧ sizedMet enc Tryz.prog Tryz.f4 (OpenSpec.ofChange Rows.fnExactSubtractIntervalsSpec) false w args) (Rows.fnExactSubtractIntervalsSpec.post enc Tryz.prog Tryz.f4 false true false false) := by
  refine returnsInHanded_of_change_and (C := Tryz.checked) (X := fun w _ => laidMetH Tryz.prog laidL w) (fun _ _ _ hh h => h.of_heap hh) own started (by kernel_rfl) Tryz.func4
    (ChangeSpec.witness_shaped (enc := enc) (C := Tryz.checked) (os := os) (X := fun w _ => laidMetH Tryz.prog laidL w) false (World.doorLaid Tryz.prog 14 os) #[.agg #[.float .f32 0, .float .f32 0], .agg #[.float .f32 0, .float .f32 0]] 8 rfl (World.shaped_of_RefB (by kernel_rfl) (by kernel_rfl)) (by kernel_rfl) (by kernel_rfl) (by kernel_rfl) (door_met os _)) ?_
  intro W base args ds gs before hval0 hW _ _ hL _
  have hval : ∀ (j : Nat) t v, Tryz.f4.params[j]? = some t → args[j]? = some v → Value.okWide Tryz.prog W .any base t v := hval0
  have hW' := hW
  obtain ⟨p, q, hA0, hV, rfl, hfz, hnd⟩ := hW
  have hA : DataW.TrodAll enc Tryz.prog W 0 (fun _ => true) true Tryz.f4.params.toList args.toList ds p := hA0
  rw [Tryz.params4] at hA hval
  obtain ⟨v0, vs0, d0, ds0, p0, q0, hargs, rfl, rfl, h0, r0⟩ := trodAll_cons hA
  obtain ⟨v1, vs1, d1, ds1, p1, q1, hargs1, rfl, rfl, h1, r1⟩ := trodAll_cons r0
  obtain ⟨rfl, rfl, rfl⟩ := trodAll_nil r1
  obtain rfl : args = #[v0, v1] := by cases args; simp_all
  obtain ⟨rfl, rfl⟩ := trodVars_none hV
  have hc0 := h0
  obtain ⟨x0, y0, rfl, wx0, wy0⟩ := open_iv (hval 0 24 v0 rfl rfl) h0
  have hc1 := h1
  obtain ⟨x1, y1, rfl, wx1, wy1⟩ := open_iv (hval 1 24 v1 rfl rfl) h1
  clear hA0 hval0
  simp only [List.append_nil] at hW'
  refine (walk x0 y0 x1 y1 W wx0 wy0 wx1 wy1 (tabz_of_laid hL)).mono fun e W' ⟨he, hg⟩ => ?_
  subst he
  exact ⟨_, rfl, law_end (pa := _) hW' (by simp) rfl (fun _ _ _ => (trodAll_cons_mk (shut_bool Tryz.underlying4 _) trodAll_mk0)) (fun sp hsp => (trodAll_cons_mk (carryB (by kernel_rfl) (of_decide_eq_true (by kernel_rfl)) hg hc0 (fun x hx => hW'.lt x (by simp [hx])) (fun x hx => hsp x (by simp [hx]))) (trodAll_cons_mk (carryB (by kernel_rfl) (of_decide_eq_true (by kernel_rfl)) hg hc1 (fun x hx => hW'.lt x (by simp [hx])) (fun x hx => hsp x (by simp [hx]))) trodAll_mk0))) rfl
    hg (ok_one (by kernel_rfl) rfl (okWide_bool_mk Tryz.underlying4 _))⟩

theorem row_proved : Rows.FnExactSubtractIntervalsSaid :=
  OpenClaim.holds_of_wide 4 Tryz.f4 rfl rfl rfl rfl rfl rfl rfl ⟨rfl, rfl, rfl, rfl, rfl⟩ rfl rfl rfl rfl rfl (by kernel_rfl) Tryz.func4 (by kernel_rfl)
    (of_decide_eq_true (by kernel_rfl)) (by unfold Func.isWrapper; first | (rw [if_pos (by decide +kernel)]; kernel_rfl) | (rw [if_neg (by decide +kernel)]; exact ⟨rfl, rfl⟩))
    (fun os started H enc _ => lifted os started H enc)

theorem proved : Rows.FnExactSubtractIntervalsCardSaid :=
  Claim7.holds_tied_plain_at .later [] [.data] true (true, "9c5f579a7c6aec9eddff474351764758cefedaba57148a21084d9c4075cecb48") true
    row_proved (fun _ h => by cases h) (by kernel_rfl) (fun _ h => by cases h) fnExactSubtractIntervals_row_tie rfl ⟨rfl, rfl⟩ (by kernel_rfl) rfl
    (fun f fn hf hfn => by
      obtain rfl : f = 4 := Option.some.inj ((show Tryz.prog.funcNamed "loop.example/g01172/laws.FnExactSubtractIntervals" = some 4 by kernel_rfl).symm.trans hf) |>.symm
      obtain rfl : fn = Tryz.f4 := (Option.some.inj (Tryz.func4.symm.trans hfn)).symm
      exact ⟨by kernel_rfl, fun j t ht => by
        rw [Tryz.params4] at ht
        have hm : t ∈ [24, 24] := by simpa using Array.mem_of_getElem? ht
        have hall : ([24, 24].all fun u => !Tryz.prog.wantsStandIn u) = true := by kernel_rfl
        exact (show Tryz.prog.wantsStandIn t = false by simpa using List.all_eq_true.1 hall t hm)⟩)
    (by kernel_rfl)
#print axioms proved
end Go.Proofs.YtngminjncdfjdaaGreatDoor.fnExactSubtractIntervals
