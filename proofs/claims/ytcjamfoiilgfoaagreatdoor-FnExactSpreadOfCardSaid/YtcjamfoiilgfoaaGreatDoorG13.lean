/- Texts of this seat, joined: Qf -/
import Derived.Test.YtcjamfoiilgfoaaGreatDoorG12
import Derived.Laws.EntriesVeiled
/- SpreadOf, of the model and of the program. -/
namespace Go.Proofs.YtcjamfoiilgfoaaGreatDoor
set_option maxRecDepth 100000
open Go.RowKit
set_option linter.unusedSimpArgs false
set_option linter.unusedVariables false
attribute [local go_sem ↓] Go.wp_at_zero Go.wp_at_succ

def spC (x y : Nat) (kind : Int) : Int := if fin32 x = true ∧ fin32 y = true then (if kind = 0 ∨ kind = 1 ∨ kind = 2 then 0 else if kind = 3 then (if fz y = 0 then 5 else 0) else 2) else 1
def spF (x y : Nat) (kind mode : Int) : Nat := if fin32 x = true ∧ fin32 y = true then (if kind = 0 then adF x y mode else if kind = 1 then sbF x y mode else if kind = 2 then muF x y mode else if kind = 3 then (if fz y = 0 then 0 else diF x y mode) else 0) else 0
theorem spF_ok (x y : Nat) (kind mode : Int) : spF x y kind mode < 4294967296 ∧ nan32 (spF x y kind mode) = false := by
  unfold spF
  split
  · split
    · exact xF_ok _ _ _ _
    · split
      · exact xF_ok _ _ _ _
      · split
        · exact xF_ok _ _ _ _
        · split
          · split
            · decide
            · exact xF_ok _ _ _ _
          · decide
  · decide
theorem ckE_fin {x y : Nat} {mode : Int} (h : fin32 x = true) (h' : fin32 y = true) (h1 : 0 ≤ mode) (h2 : mode ≤ 4) : ckE [x, y] mode = 0 := by rw [ckE_both h h', if_pos ⟨h1, h2⟩]
theorem ret_spr {a b c d : Nat} {k l : Int} (h : a = b) (g : c = d) (i : k = l) : Ending.returned (.tuple #[.float .f32 a, .float .f32 c, .int .i64 k]) = .returned (.tuple #[.float .f32 b, .float .f32 d, .int .i64 l]) := by rw [h, g, i]
set_option maxHeartbeats 1000000 in
theorem specKind0_any (x y : Nat) (mode : Int) (w : World) (hx : x < 4294967296) (hy : y < 4294967296) (hf1 : fin32 x = true) (hf2 : fin32 y = true) (hm1 : 0 ≤ mode) (hm2 : mode ≤ 4) :
    Calls Tryz.prog 54 #[.float .f32 x, .float .f32 y, .int .i64 0, .int .i64 mode] w fun e w' => e = .returned (.float .f32 (adF x y mode)) ∧ Below w.heap.size w w' := by
  have Hxy := Lib.hid (And.intro hx hy)
  have Hf := Lib.hid (And.intro hf1 hf2)
  have Hmo := Lib.hid (And.intro hm1 hm2)
  obtain ⟨w1, hw1⟩ : ∃ w1, w1 = w := ⟨_, rfl⟩
  have Bel1 : Hid (Below w.heap.size w w1) := Lib.hid (by rw [hw1]; exact Below.refl _ _)
  have Hw := Lib.hid hw1
  clear hx hy hf1 hf2 hm1 hm2 hw1
  go_enter Tryz.func54, Tryz.ntmps54
  go_wp2_with fail
  rw [← Hw.out]
  refine (specAddF_any x y mode _ Hxy.out.1 Hxy.out.2 Hf.out.1 Hf.out.2 Hmo.out.1 Hmo.out.2).mono ?_
  rintro e w2 ⟨rfl, hb⟩
  have Sz2 := Lib.hid (Below.size hb)
  have Bel2 := Lib.hid (belNext Bel1.out hb)
  clear hb Bel1
  go_wp2_with fail
  go_ret
  exact ⟨rfl, Bel2.out⟩

set_option maxHeartbeats 1000000 in
theorem specKind1_any (x y : Nat) (mode : Int) (w : World) (hx : x < 4294967296) (hy : y < 4294967296) (hf1 : fin32 x = true) (hf2 : fin32 y = true) (hm1 : 0 ≤ mode) (hm2 : mode ≤ 4) :
    Calls Tryz.prog 54 #[.float .f32 x, .float .f32 y, .int .i64 1, .int .i64 mode] w fun e w' => e = .returned (.float .f32 (sbF x y mode)) ∧ Below w.heap.size w w' := by
  have Hxy := Lib.hid (And.intro hx hy)
  have Hf := Lib.hid (And.intro hf1 hf2)
  have Hmo := Lib.hid (And.intro hm1 hm2)
  obtain ⟨w1, hw1⟩ : ∃ w1, w1 = w := ⟨_, rfl⟩
  have Bel1 : Hid (Below w.heap.size w w1) := Lib.hid (by rw [hw1]; exact Below.refl _ _)
  have Hw := Lib.hid hw1
  clear hx hy hf1 hf2 hm1 hm2 hw1
  go_enter Tryz.func54, Tryz.ntmps54
  go_wp2_with fail
  rw [← Hw.out]
  have Htn := Lib.hid (tn_facts Hxy.out.2 Hf.out.2)
  refine (turned_yes y _ Hxy.out.2 (fin_nan Hf.out.2)).mono ?_
  rintro e w9 ⟨rfl, rfl⟩
  rw [show (if 2147483648 ≤ y then y - 2147483648 else y + 2147483648) = tn y from rfl]
  go_wp2_with fail
  refine (specAddF_any x (tn y) mode _ Hxy.out.1 Htn.out.1 Hf.out.1 Htn.out.2.1 Hmo.out.1 Hmo.out.2).mono ?_
  rintro e w2 ⟨rfl, hb⟩
  rw [(sb_eq Hxy.out.2 Hf.out.2 mode).1, (sb_eq Hxy.out.2 Hf.out.2 mode).2]
  have Sz2 := Lib.hid (Below.size hb)
  have Bel2 := Lib.hid (belNext Bel1.out hb)
  clear hb Bel1
  go_wp2_with fail
  go_ret
  exact ⟨rfl, Bel2.out⟩

set_option maxHeartbeats 1000000 in
theorem specKind2_any (x y : Nat) (mode : Int) (w : World) (hx : x < 4294967296) (hy : y < 4294967296) (hf1 : fin32 x = true) (hf2 : fin32 y = true) (hm1 : 0 ≤ mode) (hm2 : mode ≤ 4) :
    Calls Tryz.prog 54 #[.float .f32 x, .float .f32 y, .int .i64 2, .int .i64 mode] w fun e w' => e = .returned (.float .f32 (muF x y mode)) ∧ Below w.heap.size w w' := by
  have Hxy := Lib.hid (And.intro hx hy)
  have Hf := Lib.hid (And.intro hf1 hf2)
  have Hmo := Lib.hid (And.intro hm1 hm2)
  obtain ⟨w1, hw1⟩ : ∃ w1, w1 = w := ⟨_, rfl⟩
  have Bel1 : Hid (Below w.heap.size w w1) := Lib.hid (by rw [hw1]; exact Below.refl _ _)
  have Hw := Lib.hid hw1
  clear hx hy hf1 hf2 hm1 hm2 hw1
  go_enter Tryz.func54, Tryz.ntmps54
  go_wp2_with fail
  rw [← Hw.out]
  refine (specMulF_any x y mode _ Hxy.out.1 Hxy.out.2 Hf.out.1 Hf.out.2 Hmo.out.1 Hmo.out.2).mono ?_
  rintro e w2 ⟨rfl, hb⟩
  have Sz2 := Lib.hid (Below.size hb)
  have Bel2 := Lib.hid (belNext Bel1.out hb)
  clear hb Bel1
  go_wp2_with fail
  go_ret
  exact ⟨rfl, Bel2.out⟩

set_option maxHeartbeats 1000000 in
theorem specKind3_any (x y : Nat) (mode : Int) (w : World) (hx : x < 4294967296) (hy : y < 4294967296) (hf1 : fin32 x = true) (hf2 : fin32 y = true) (hm1 : 0 ≤ mode) (hm2 : mode ≤ 4) (h0 : fz y ≠ 0) :
    Calls Tryz.prog 54 #[.float .f32 x, .float .f32 y, .int .i64 3, .int .i64 mode] w fun e w' => e = .returned (.float .f32 (diF x y mode)) ∧ Below w.heap.size w w' := by
  have Hxy := Lib.hid (And.intro hx hy)
  have Hf := Lib.hid (And.intro hf1 hf2)
  have Hmo := Lib.hid (And.intro hm1 hm2)
  obtain ⟨w1, hw1⟩ : ∃ w1, w1 = w := ⟨_, rfl⟩
  have Bel1 : Hid (Below w.heap.size w w1) := Lib.hid (by rw [hw1]; exact Below.refl _ _)
  have Hw := Lib.hid hw1
  have H0 := Lib.hid h0
  clear h0 hx hy hf1 hf2 hm1 hm2 hw1
  go_enter Tryz.func54, Tryz.ntmps54
  go_wp2_with fail
  rw [← Hw.out]
  refine (specDivF_any x y mode _ Hxy.out.1 Hxy.out.2 Hf.out.1 Hf.out.2 Hmo.out.1 Hmo.out.2 H0.out).mono ?_
  rintro e w2 ⟨rfl, hb⟩
  have Sz2 := Lib.hid (Below.size hb)
  have Bel2 := Lib.hid (belNext Bel1.out hb)
  clear hb Bel1
  go_wp2_with fail
  go_ret
  exact ⟨rfl, Bel2.out⟩

set_option maxHeartbeats 1000000 in
theorem specSpread0_any (x y : Nat) (w : World) (hx : x < 4294967296) (hy : y < 4294967296) (hf1 : fin32 x = true) (hf2 : fin32 y = true) :
    Calls Tryz.prog 22 #[.float .f32 x, .float .f32 y, .int .i64 0] w fun e w' => e = .returned (.tuple #[.float .f32 (spF x y 0 1), .float .f32 (spF x y 0 2), .int .i64 (spC x y 0)]) ∧ Below w.heap.size w w' := by
  have Hxy := Lib.hid (And.intro hx hy)
  have Hf := Lib.hid (And.intro hf1 hf2)
  have Hc0 : Hid (ckE [x, y] 0 = 0) := Lib.hid (ckE_fin hf1 hf2 (by omega) (by omega))
  obtain ⟨w1, hw1⟩ : ∃ w1, w1 = w := ⟨_, rfl⟩
  have Bel1 : Hid (Below w.heap.size w w1) := Lib.hid (by rw [hw1]; exact Below.refl _ _)
  have Hw := Lib.hid hw1
  clear hx hy hf1 hf2 hw1
  have Hres : Hid (adF x y 1 = spF x y 0 1 ∧ adF x y 2 = spF x y 0 2 ∧ (0 : Int) = spC x y 0) := Lib.hid (by simp [spF, spC, Hf.out.1, Hf.out.2])
  go_enter Tryz.func22, Tryz.ntmps22
  go_wp2_with fail
  rw [← Hw.out]
  refine (specTwo_any x y 0 _ Hxy.out.1 Hxy.out.2).mono ?_
  rintro e w2 ⟨rfl, hb⟩
  rw [Hc0.out]
  have Sz2 := Lib.hid (Below.size hb)
  have Bel2 := Lib.hid (belNext Bel1.out hb)
  clear hb Bel1
  go_wp2_with fail
  refine (in_yes 0 0 3 _ (by omega) (by omega)).mono ?_
  rintro e w9 ⟨rfl, rfl⟩
  go_wp2_with fail
  refine (specKind0_any x y 1 _ Hxy.out.1 Hxy.out.2 Hf.out.1 Hf.out.2 (by omega) (by omega)).mono ?_
  rintro e w3 ⟨rfl, hb⟩
  have Sz3 := Lib.hid (Below.size hb)
  have Bel3 := Lib.hid (belNext Bel2.out hb)
  clear hb Bel2
  go_wp2_with fail
  refine (specKind0_any x y 2 _ Hxy.out.1 Hxy.out.2 Hf.out.1 Hf.out.2 (by omega) (by omega)).mono ?_
  rintro e w4 ⟨rfl, hb⟩
  have Sz4 := Lib.hid (Below.size hb)
  have Bel4 := Lib.hid (belNext Bel3.out hb)
  clear hb Bel3
  go_wp2_with fail
  go_ret3
  exact ⟨ret_spr Hres.out.1 Hres.out.2.1 Hres.out.2.2, Bel4.out⟩

set_option maxHeartbeats 1000000 in
theorem specSpread1_any (x y : Nat) (w : World) (hx : x < 4294967296) (hy : y < 4294967296) (hf1 : fin32 x = true) (hf2 : fin32 y = true) :
    Calls Tryz.prog 22 #[.float .f32 x, .float .f32 y, .int .i64 1] w fun e w' => e = .returned (.tuple #[.float .f32 (spF x y 1 1), .float .f32 (spF x y 1 2), .int .i64 (spC x y 1)]) ∧ Below w.heap.size w w' := by
  have Hxy := Lib.hid (And.intro hx hy)
  have Hf := Lib.hid (And.intro hf1 hf2)
  have Hc0 : Hid (ckE [x, y] 0 = 0) := Lib.hid (ckE_fin hf1 hf2 (by omega) (by omega))
  obtain ⟨w1, hw1⟩ : ∃ w1, w1 = w := ⟨_, rfl⟩
  have Bel1 : Hid (Below w.heap.size w w1) := Lib.hid (by rw [hw1]; exact Below.refl _ _)
  have Hw := Lib.hid hw1
  clear hx hy hf1 hf2 hw1
  have Hres : Hid (sbF x y 1 = spF x y 1 1 ∧ sbF x y 2 = spF x y 1 2 ∧ (0 : Int) = spC x y 1) := Lib.hid (by simp [spF, spC, Hf.out.1, Hf.out.2])
  go_enter Tryz.func22, Tryz.ntmps22
  go_wp2_with fail
  rw [← Hw.out]
  refine (specTwo_any x y 0 _ Hxy.out.1 Hxy.out.2).mono ?_
  rintro e w2 ⟨rfl, hb⟩
  rw [Hc0.out]
  have Sz2 := Lib.hid (Below.size hb)
  have Bel2 := Lib.hid (belNext Bel1.out hb)
  clear hb Bel1
  go_wp2_with fail
  refine (in_yes 1 0 3 _ (by omega) (by omega)).mono ?_
  rintro e w9 ⟨rfl, rfl⟩
  go_wp2_with fail
  refine (specKind1_any x y 1 _ Hxy.out.1 Hxy.out.2 Hf.out.1 Hf.out.2 (by omega) (by omega)).mono ?_
  rintro e w3 ⟨rfl, hb⟩
  have Sz3 := Lib.hid (Below.size hb)
  have Bel3 := Lib.hid (belNext Bel2.out hb)
  clear hb Bel2
  go_wp2_with fail
  refine (specKind1_any x y 2 _ Hxy.out.1 Hxy.out.2 Hf.out.1 Hf.out.2 (by omega) (by omega)).mono ?_
  rintro e w4 ⟨rfl, hb⟩
  have Sz4 := Lib.hid (Below.size hb)
  have Bel4 := Lib.hid (belNext Bel3.out hb)
  clear hb Bel3
  go_wp2_with fail
  go_ret3
  exact ⟨ret_spr Hres.out.1 Hres.out.2.1 Hres.out.2.2, Bel4.out⟩

set_option maxHeartbeats 1000000 in
theorem specSpread2_any (x y : Nat) (w : World) (hx : x < 4294967296) (hy : y < 4294967296) (hf1 : fin32 x = true) (hf2 : fin32 y = true) :
    Calls Tryz.prog 22 #[.float .f32 x, .float .f32 y, .int .i64 2] w fun e w' => e = .returned (.tuple #[.float .f32 (spF x y 2 1), .float .f32 (spF x y 2 2), .int .i64 (spC x y 2)]) ∧ Below w.heap.size w w' := by
  have Hxy := Lib.hid (And.intro hx hy)
  have Hf := Lib.hid (And.intro hf1 hf2)
  have Hc0 : Hid (ckE [x, y] 0 = 0) := Lib.hid (ckE_fin hf1 hf2 (by omega) (by omega))
  obtain ⟨w1, hw1⟩ : ∃ w1, w1 = w := ⟨_, rfl⟩
  have Bel1 : Hid (Below w.heap.size w w1) := Lib.hid (by rw [hw1]; exact Below.refl _ _)
  have Hw := Lib.hid hw1
  clear hx hy hf1 hf2 hw1
  have Hres : Hid (muF x y 1 = spF x y 2 1 ∧ muF x y 2 = spF x y 2 2 ∧ (0 : Int) = spC x y 2) := Lib.hid (by simp [spF, spC, Hf.out.1, Hf.out.2])
  go_enter Tryz.func22, Tryz.ntmps22
  go_wp2_with fail
  rw [← Hw.out]
  refine (specTwo_any x y 0 _ Hxy.out.1 Hxy.out.2).mono ?_
  rintro e w2 ⟨rfl, hb⟩
  rw [Hc0.out]
  have Sz2 := Lib.hid (Below.size hb)
  have Bel2 := Lib.hid (belNext Bel1.out hb)
  clear hb Bel1
  go_wp2_with fail
  refine (in_yes 2 0 3 _ (by omega) (by omega)).mono ?_
  rintro e w9 ⟨rfl, rfl⟩
  go_wp2_with fail
  refine (specKind2_any x y 1 _ Hxy.out.1 Hxy.out.2 Hf.out.1 Hf.out.2 (by omega) (by omega)).mono ?_
  rintro e w3 ⟨rfl, hb⟩
  have Sz3 := Lib.hid (Below.size hb)
  have Bel3 := Lib.hid (belNext Bel2.out hb)
  clear hb Bel2
  go_wp2_with fail
  refine (specKind2_any x y 2 _ Hxy.out.1 Hxy.out.2 Hf.out.1 Hf.out.2 (by omega) (by omega)).mono ?_
  rintro e w4 ⟨rfl, hb⟩
  have Sz4 := Lib.hid (Below.size hb)
  have Bel4 := Lib.hid (belNext Bel3.out hb)
  clear hb Bel3
  go_wp2_with fail
  go_ret3
  exact ⟨ret_spr Hres.out.1 Hres.out.2.1 Hres.out.2.2, Bel4.out⟩

set_option maxHeartbeats 1000000 in
theorem specSpread3_any (x y : Nat) (w : World) (hx : x < 4294967296) (hy : y < 4294967296) (hf1 : fin32 x = true) (hf2 : fin32 y = true) :
    Calls Tryz.prog 22 #[.float .f32 x, .float .f32 y, .int .i64 3] w fun e w' => e = .returned (.tuple #[.float .f32 (spF x y 3 1), .float .f32 (spF x y 3 2), .int .i64 (spC x y 3)]) ∧ Below w.heap.size w w' := by
  have Hxy := Lib.hid (And.intro hx hy)
  have Hf := Lib.hid (And.intro hf1 hf2)
  have Hc0 : Hid (ckE [x, y] 0 = 0) := Lib.hid (ckE_fin hf1 hf2 (by omega) (by omega))
  obtain ⟨w1, hw1⟩ : ∃ w1, w1 = w := ⟨_, rfl⟩
  have Bel1 : Hid (Below w.heap.size w w1) := Lib.hid (by rw [hw1]; exact Below.refl _ _)
  have Hw := Lib.hid hw1
  have hE := eq_zero32 y hy (fin_nan hf2)
  clear hx hy hf1 hf2 hw1
  by_cases h0 : fz y = 0
  · rw [decide_eq_true (fz_zero.1 h0)] at hE
    have Hres : Hid (0 = spF x y 3 1 ∧ 0 = spF x y 3 2 ∧ (5 : Int) = spC x y 3) := Lib.hid (by simp [spF, spC, Hf.out.1, Hf.out.2, h0])
    clear h0
    go_enter Tryz.func22, Tryz.ntmps22
    go_wp2_with fail
    rw [← Hw.out]
    refine (specTwo_any x y 0 _ Hxy.out.1 Hxy.out.2).mono ?_
    rintro e w2 ⟨rfl, hb⟩
    rw [Hc0.out]
    have Sz2 := Lib.hid (Below.size hb)
    have Bel2 := Lib.hid (belNext Bel1.out hb)
    clear hb Bel1
    go_wp2_with fail
    refine (in_yes 3 0 3 _ (by omega) (by omega)).mono ?_
    rintro e w9 ⟨rfl, rfl⟩
    go_wp2_with fail
    go_ret3
    exact ⟨ret_spr Hres.out.1 Hres.out.2.1 Hres.out.2.2, Bel2.out⟩
  · rw [decide_eq_false (fun e => h0 (fz_zero.2 e))] at hE
    have Hres : Hid (diF x y 1 = spF x y 3 1 ∧ diF x y 2 = spF x y 3 2 ∧ (0 : Int) = spC x y 3) := Lib.hid (by simp [spF, spC, Hf.out.1, Hf.out.2, h0])
    have H0 := Lib.hid h0
    clear h0
    go_enter Tryz.func22, Tryz.ntmps22
    go_wp2_with fail
    rw [← Hw.out]
    refine (specTwo_any x y 0 _ Hxy.out.1 Hxy.out.2).mono ?_
    rintro e w2 ⟨rfl, hb⟩
    rw [Hc0.out]
    have Sz2 := Lib.hid (Below.size hb)
    have Bel2 := Lib.hid (belNext Bel1.out hb)
    clear hb Bel1
    go_wp2_with fail
    refine (in_yes 3 0 3 _ (by omega) (by omega)).mono ?_
    rintro e w9 ⟨rfl, rfl⟩
    go_wp2_with fail
    refine (specKind3_any x y 1 _ Hxy.out.1 Hxy.out.2 Hf.out.1 Hf.out.2 (by omega) (by omega) H0.out).mono ?_
    rintro e w3 ⟨rfl, hb⟩
    have Sz3 := Lib.hid (Below.size hb)
    have Bel3 := Lib.hid (belNext Bel2.out hb)
    clear hb Bel2
    go_wp2_with fail
    refine (specKind3_any x y 2 _ Hxy.out.1 Hxy.out.2 Hf.out.1 Hf.out.2 (by omega) (by omega) H0.out).mono ?_
    rintro e w4 ⟨rfl, hb⟩
    have Sz4 := Lib.hid (Below.size hb)
    have Bel4 := Lib.hid (belNext Bel3.out hb)
    clear hb Bel3
    go_wp2_with fail
    go_ret3
    exact ⟨ret_spr Hres.out.1 Hres.out.2.1 Hres.out.2.2, Bel4.out⟩

set_option maxHeartbeats 1000000 in
theorem specSpreadN_any (kind : Int) (x y : Nat) (w : World) (hx : x < 4294967296) (hy : y < 4294967296) (hf1 : fin32 x = true) (hf2 : fin32 y = true) (hk : kind < 0 ∨ 3 < kind) :
    Calls Tryz.prog 22 #[.float .f32 x, .float .f32 y, .int .i64 kind] w fun e w' => e = .returned (.tuple #[.float .f32 (spF x y kind 1), .float .f32 (spF x y kind 2), .int .i64 (spC x y kind)]) ∧ Below w.heap.size w w' := by
  have Hxy := Lib.hid (And.intro hx hy)
  have Hf := Lib.hid (And.intro hf1 hf2)
  have Hc0 : Hid (ckE [x, y] 0 = 0) := Lib.hid (ckE_fin hf1 hf2 (by omega) (by omega))
  obtain ⟨w1, hw1⟩ : ∃ w1, w1 = w := ⟨_, rfl⟩
  have Bel1 : Hid (Below w.heap.size w w1) := Lib.hid (by rw [hw1]; exact Below.refl _ _)
  have Hw := Lib.hid hw1
  have Hres : Hid (0 = spF x y kind 1 ∧ 0 = spF x y kind 2 ∧ (2 : Int) = spC x y kind) := Lib.hid (by
    have k0 : ¬ kind = 0 := by omega
    have k1 : ¬ kind = 1 := by omega
    have k2 : ¬ kind = 2 := by omega
    have k3 : ¬ kind = 3 := by omega
    simp [spF, spC, hf1, hf2, k0, k1, k2, k3])
  have Hk := Lib.hid hk
  clear hx hy hf1 hf2 hw1 hk
  go_enter Tryz.func22, Tryz.ntmps22
  go_wp2_with fail
  rw [← Hw.out]
  refine (specTwo_any x y 0 _ Hxy.out.1 Hxy.out.2).mono ?_
  rintro e w2 ⟨rfl, hb⟩
  rw [Hc0.out]
  have Sz2 := Lib.hid (Below.size hb)
  have Bel2 := Lib.hid (belNext Bel1.out hb)
  clear hb Bel1
  go_wp2_with fail
  refine (in_no kind 0 3 _ Hk.out).mono ?_
  rintro e w9 ⟨rfl, rfl⟩
  go_wp2_with fail
  go_ret3
  exact ⟨ret_spr Hres.out.1 Hres.out.2.1 Hres.out.2.2, Bel2.out⟩

set_option maxHeartbeats 1000000 in
theorem specSpreadI_any (kind : Int) (x y : Nat) (w : World) (hx : x < 4294967296) (hy : y < 4294967296) (hf : ¬ (fin32 x = true ∧ fin32 y = true)) :
    Calls Tryz.prog 22 #[.float .f32 x, .float .f32 y, .int .i64 kind] w fun e w' => e = .returned (.tuple #[.float .f32 (spF x y kind 1), .float .f32 (spF x y kind 2), .int .i64 (spC x y kind)]) ∧ Below w.heap.size w w' := by
  have Hxy := Lib.hid (And.intro hx hy)
  obtain ⟨w1, hw1⟩ : ∃ w1, w1 = w := ⟨_, rfl⟩
  have Bel1 : Hid (Below w.heap.size w w1) := Lib.hid (by rw [hw1]; exact Below.refl _ _)
  have Hw := Lib.hid hw1
  have Hres : Hid (0 = spF x y kind 1 ∧ 0 = spF x y kind 2 ∧ (1 : Int) = spC x y kind) := Lib.hid (by unfold spF spC; rw [if_neg hf, if_neg hf, if_neg hf]; exact ⟨rfl, rfl, rfl⟩)
  have Hc0 : Hid (ckE [x, y] 0 = 1) := Lib.hid (by
    cases h1 : fin32 x
    · exact ckE_first h1
    · exact ckE_second (by cases h2 : fin32 y; · rfl
                           · exact absurd ⟨h1, h2⟩ hf))
  clear hx hy hw1 hf
  go_enter Tryz.func22, Tryz.ntmps22
  go_wp2_with fail
  rw [← Hw.out]
  refine (specTwo_any x y 0 _ Hxy.out.1 Hxy.out.2).mono ?_
  rintro e w2 ⟨rfl, hb⟩
  rw [Hc0.out]
  have Sz2 := Lib.hid (Below.size hb)
  have Bel2 := Lib.hid (belNext Bel1.out hb)
  clear hb Bel1
  go_wp2_with fail
  go_ret3
  exact ⟨ret_spr Hres.out.1 Hres.out.2.1 Hres.out.2.2, Bel2.out⟩

set_option maxHeartbeats 2000000 in
theorem implSpread0_any (x y : Nat) (w : World) (hx : x < 4294967296) (hy : y < 4294967296) (hf1 : fin32 x = true) (hf2 : fin32 y = true) (hT : TabZ w) :
    Calls Tryz.prog 23 #[.float .f32 x, .float .f32 y, .int .i64 0] w fun e w' => e = .returned (.tuple #[.float .f32 (spF x y 0 1), .float .f32 (spF x y 0 2), .int .i64 (spC x y 0)]) ∧ Below w.heap.size w w' := by
  have Hxy := Lib.hid (And.intro hx hy)
  have Hf := Lib.hid (And.intro hf1 hf2)
  obtain ⟨w1, hw1⟩ : ∃ w1, w1 = w.alloc (.cells #[.func (.func 56) #[] #[], .func (.func 57) #[] #[], .func (.func 58) #[] #[], .func (.func 16) #[] #[]] 78) := ⟨_, rfl⟩
  have Bel1 : Hid (Below w.heap.size w w1) := Lib.hid (by rw [hw1]; exact belAlloc1 _ _)
  have Tb1 := Lib.hid (hT.next Bel1.out)
  have Hw := Lib.hid hw1
  have Hcl1 : Hid (w1.cell? ⟨w.heap.size, 0, none⟩ = some (.func (.func 56) #[] #[])) := Lib.hid (by rw [hw1]; simp)
  have Hsz : Hid (w.heap.size < w1.heap.size) := Lib.hid (by rw [hw1]; simp)
  have hcl := Hcl1.out
  have Hres : Hid (opF x y 1 (adF x y 1) = spF x y 0 1 ∧ opF x y 2 (adF x y 2) = spF x y 0 2 ∧ ckE [x, y] 1 = spC x y 0) := Lib.hid (by
    have c1 : ckE [x, y] 1 = 0 := ckE_fin hf1 hf2 (by omega) (by omega)
    have c2 : ckE [x, y] 2 = 0 := ckE_fin hf1 hf2 (by omega) (by omega)
    simp [spF, spC, opF, hf1, hf2, c1, c2])
  clear hx hy hf1 hf2 hw1 hT
  go_enter Tryz.func23, Tryz.ntmps23
  go_wp2_with fail
  refine (implFinite_any x _ Hxy.out.1).mono ?_
  rintro e w9 ⟨rfl, rfl⟩
  rw [Hf.out.1]
  go_wp2_with fail
  refine (implFinite_any y _ Hxy.out.2).mono ?_
  rintro e w9 ⟨rfl, rfl⟩
  rw [Hf.out.2]
  go_upto_region 4 with fail
  rw [← Hw.out]
  go_wp2_with fail
  refine (implAddIn_any x y 1 _ Hxy.out.1 Hxy.out.2 Tb1.out).mono ?_
  rintro e w2 ⟨rfl, hb⟩
  have hcl := (hb.cell (p := ⟨w.heap.size, 0, none⟩) Hsz.out).trans Hcl1.out
  have Sz2 := Lib.hid (Below.size hb)
  have Bel2 := Lib.hid (belNext Bel1.out hb)
  have Tb2 := Lib.hid (Tb1.out.next hb)
  clear hb Bel1 Tb1
  go_wp2_with fail
  refine (implAddIn_any x y 2 _ Hxy.out.1 Hxy.out.2 Tb2.out).mono ?_
  rintro e w3 ⟨rfl, hb⟩
  have Sz3 := Lib.hid (Below.size hb)
  have Bel3 := Lib.hid (belNext Bel2.out hb)
  have Tb3 := Lib.hid (Tb2.out.next hb)
  clear hb Bel2 Tb2
  go_wp2_with fail
  go_ret3
  exact ⟨ret_spr Hres.out.1 Hres.out.2.1 Hres.out.2.2, Bel3.out⟩

set_option maxHeartbeats 2000000 in
theorem implSpread1_any (x y : Nat) (w : World) (hx : x < 4294967296) (hy : y < 4294967296) (hf1 : fin32 x = true) (hf2 : fin32 y = true) (hT : TabZ w) :
    Calls Tryz.prog 23 #[.float .f32 x, .float .f32 y, .int .i64 1] w fun e w' => e = .returned (.tuple #[.float .f32 (spF x y 1 1), .float .f32 (spF x y 1 2), .int .i64 (spC x y 1)]) ∧ Below w.heap.size w w' := by
  have Hxy := Lib.hid (And.intro hx hy)
  have Hf := Lib.hid (And.intro hf1 hf2)
  obtain ⟨w1, hw1⟩ : ∃ w1, w1 = w.alloc (.cells #[.func (.func 56) #[] #[], .func (.func 57) #[] #[], .func (.func 58) #[] #[], .func (.func 16) #[] #[]] 78) := ⟨_, rfl⟩
  have Bel1 : Hid (Below w.heap.size w w1) := Lib.hid (by rw [hw1]; exact belAlloc1 _ _)
  have Tb1 := Lib.hid (hT.next Bel1.out)
  have Hw := Lib.hid hw1
  have Hcl1 : Hid (w1.cell? ⟨w.heap.size, 1, none⟩ = some (.func (.func 57) #[] #[])) := Lib.hid (by rw [hw1]; simp)
  have Hsz : Hid (w.heap.size < w1.heap.size) := Lib.hid (by rw [hw1]; simp)
  have hcl := Hcl1.out
  have Hres : Hid (opF x y 1 (sbF x y 1) = spF x y 1 1 ∧ opF x y 2 (sbF x y 2) = spF x y 1 2 ∧ ckE [x, y] 1 = spC x y 1) := Lib.hid (by
    have c1 : ckE [x, y] 1 = 0 := ckE_fin hf1 hf2 (by omega) (by omega)
    have c2 : ckE [x, y] 2 = 0 := ckE_fin hf1 hf2 (by omega) (by omega)
    simp [spF, spC, opF, hf1, hf2, c1, c2])
  clear hx hy hf1 hf2 hw1 hT
  go_enter Tryz.func23, Tryz.ntmps23
  go_wp2_with fail
  refine (implFinite_any x _ Hxy.out.1).mono ?_
  rintro e w9 ⟨rfl, rfl⟩
  rw [Hf.out.1]
  go_wp2_with fail
  refine (implFinite_any y _ Hxy.out.2).mono ?_
  rintro e w9 ⟨rfl, rfl⟩
  rw [Hf.out.2]
  go_upto_region 4 with fail
  rw [← Hw.out]
  go_wp2_with fail
  refine (implSubtractIn_any x y 1 _ Hxy.out.1 Hxy.out.2 Tb1.out).mono ?_
  rintro e w2 ⟨rfl, hb⟩
  have hcl := (hb.cell (p := ⟨w.heap.size, 1, none⟩) Hsz.out).trans Hcl1.out
  have Sz2 := Lib.hid (Below.size hb)
  have Bel2 := Lib.hid (belNext Bel1.out hb)
  have Tb2 := Lib.hid (Tb1.out.next hb)
  clear hb Bel1 Tb1
  go_wp2_with fail
  refine (implSubtractIn_any x y 2 _ Hxy.out.1 Hxy.out.2 Tb2.out).mono ?_
  rintro e w3 ⟨rfl, hb⟩
  have Sz3 := Lib.hid (Below.size hb)
  have Bel3 := Lib.hid (belNext Bel2.out hb)
  have Tb3 := Lib.hid (Tb2.out.next hb)
  clear hb Bel2 Tb2
  go_wp2_with fail
  go_ret3
  exact ⟨ret_spr Hres.out.1 Hres.out.2.1 Hres.out.2.2, Bel3.out⟩

set_option maxHeartbeats 2000000 in
theorem implSpread2_any (x y : Nat) (w : World) (hx : x < 4294967296) (hy : y < 4294967296) (hf1 : fin32 x = true) (hf2 : fin32 y = true) (hT : TabZ w) :
    Calls Tryz.prog 23 #[.float .f32 x, .float .f32 y, .int .i64 2] w fun e w' => e = .returned (.tuple #[.float .f32 (spF x y 2 1), .float .f32 (spF x y 2 2), .int .i64 (spC x y 2)]) ∧ Below w.heap.size w w' := by
  have Hxy := Lib.hid (And.intro hx hy)
  have Hf := Lib.hid (And.intro hf1 hf2)
  obtain ⟨w1, hw1⟩ : ∃ w1, w1 = w.alloc (.cells #[.func (.func 56) #[] #[], .func (.func 57) #[] #[], .func (.func 58) #[] #[], .func (.func 16) #[] #[]] 78) := ⟨_, rfl⟩
  have Bel1 : Hid (Below w.heap.size w w1) := Lib.hid (by rw [hw1]; exact belAlloc1 _ _)
  have Tb1 := Lib.hid (hT.next Bel1.out)
  have Hw := Lib.hid hw1
  have Hcl1 : Hid (w1.cell? ⟨w.heap.size, 2, none⟩ = some (.func (.func 58) #[] #[])) := Lib.hid (by rw [hw1]; simp)
  have Hsz : Hid (w.heap.size < w1.heap.size) := Lib.hid (by rw [hw1]; simp)
  have hcl := Hcl1.out
  have Hres : Hid (opF x y 1 (muF x y 1) = spF x y 2 1 ∧ opF x y 2 (muF x y 2) = spF x y 2 2 ∧ ckE [x, y] 1 = spC x y 2) := Lib.hid (by
    have c1 : ckE [x, y] 1 = 0 := ckE_fin hf1 hf2 (by omega) (by omega)
    have c2 : ckE [x, y] 2 = 0 := ckE_fin hf1 hf2 (by omega) (by omega)
    simp [spF, spC, opF, hf1, hf2, c1, c2])
  clear hx hy hf1 hf2 hw1 hT
  go_enter Tryz.func23, Tryz.ntmps23
  go_wp2_with fail
  refine (implFinite_any x _ Hxy.out.1).mono ?_
  rintro e w9 ⟨rfl, rfl⟩
  rw [Hf.out.1]
  go_wp2_with fail
  refine (implFinite_any y _ Hxy.out.2).mono ?_
  rintro e w9 ⟨rfl, rfl⟩
  rw [Hf.out.2]
  go_upto_region 4 with fail
  rw [← Hw.out]
  go_wp2_with fail
  refine (implMultiplyIn_any x y 1 _ Hxy.out.1 Hxy.out.2 Tb1.out).mono ?_
  rintro e w2 ⟨rfl, hb⟩
  have hcl := (hb.cell (p := ⟨w.heap.size, 2, none⟩) Hsz.out).trans Hcl1.out
  have Sz2 := Lib.hid (Below.size hb)
  have Bel2 := Lib.hid (belNext Bel1.out hb)
  have Tb2 := Lib.hid (Tb1.out.next hb)
  clear hb Bel1 Tb1
  go_wp2_with fail
  refine (implMultiplyIn_any x y 2 _ Hxy.out.1 Hxy.out.2 Tb2.out).mono ?_
  rintro e w3 ⟨rfl, hb⟩
  have Sz3 := Lib.hid (Below.size hb)
  have Bel3 := Lib.hid (belNext Bel2.out hb)
  have Tb3 := Lib.hid (Tb2.out.next hb)
  clear hb Bel2 Tb2
  go_wp2_with fail
  go_ret3
  exact ⟨ret_spr Hres.out.1 Hres.out.2.1 Hres.out.2.2, Bel3.out⟩

set_option maxHeartbeats 2000000 in
theorem implSpread3_any (x y : Nat) (w : World) (hx : x < 4294967296) (hy : y < 4294967296) (hf1 : fin32 x = true) (hf2 : fin32 y = true) (hT : TabZ w) :
    Calls Tryz.prog 23 #[.float .f32 x, .float .f32 y, .int .i64 3] w fun e w' => e = .returned (.tuple #[.float .f32 (spF x y 3 1), .float .f32 (spF x y 3 2), .int .i64 (spC x y 3)]) ∧ Below w.heap.size w w' := by
  have Hxy := Lib.hid (And.intro hx hy)
  have Hf := Lib.hid (And.intro hf1 hf2)
  obtain ⟨w1, hw1⟩ : ∃ w1, w1 = w.alloc (.cells #[.func (.func 56) #[] #[], .func (.func 57) #[] #[], .func (.func 58) #[] #[], .func (.func 16) #[] #[]] 78) := ⟨_, rfl⟩
  have Bel1 : Hid (Below w.heap.size w w1) := Lib.hid (by rw [hw1]; exact belAlloc1 _ _)
  have Tb1 := Lib.hid (hT.next Bel1.out)
  have Hw := Lib.hid hw1
  have Hcl1 : Hid (w1.cell? ⟨w.heap.size, 3, none⟩ = some (.func (.func 16) #[] #[])) := Lib.hid (by rw [hw1]; simp)
  have Hsz : Hid (w.heap.size < w1.heap.size) := Lib.hid (by rw [hw1]; simp)
  have hcl := Hcl1.out
  have Hres : Hid (dqF x y 1 = spF x y 3 1 ∧ dqF x y 2 = spF x y 3 2 ∧ dqC x y 1 = spC x y 3) := Lib.hid (by
    have c1 : ckE [x, y] 1 = 0 := ckE_fin hf1 hf2 (by omega) (by omega)
    have c2 : ckE [x, y] 2 = 0 := ckE_fin hf1 hf2 (by omega) (by omega)
    by_cases h0 : fz y = 0 <;> simp [spF, spC, dqF, dqC, hf1, hf2, c1, c2, h0])
  clear hx hy hf1 hf2 hw1 hT
  go_enter Tryz.func23, Tryz.ntmps23
  go_wp2_with fail
  refine (implFinite_any x _ Hxy.out.1).mono ?_
  rintro e w9 ⟨rfl, rfl⟩
  rw [Hf.out.1]
  go_wp2_with fail
  refine (implFinite_any y _ Hxy.out.2).mono ?_
  rintro e w9 ⟨rfl, rfl⟩
  rw [Hf.out.2]
  go_upto_region 4 with fail
  rw [← Hw.out]
  go_wp2_with fail
  refine (implDivideIn_any x y 1 _ Hxy.out.1 Hxy.out.2 Tb1.out).mono ?_
  rintro e w2 ⟨rfl, hb⟩
  have hcl := (hb.cell (p := ⟨w.heap.size, 3, none⟩) Hsz.out).trans Hcl1.out
  have Sz2 := Lib.hid (Below.size hb)
  have Bel2 := Lib.hid (belNext Bel1.out hb)
  have Tb2 := Lib.hid (Tb1.out.next hb)
  clear hb Bel1 Tb1
  go_wp2_with fail
  refine (implDivideIn_any x y 2 _ Hxy.out.1 Hxy.out.2 Tb2.out).mono ?_
  rintro e w3 ⟨rfl, hb⟩
  have Sz3 := Lib.hid (Below.size hb)
  have Bel3 := Lib.hid (belNext Bel2.out hb)
  have Tb3 := Lib.hid (Tb2.out.next hb)
  clear hb Bel2 Tb2
  go_wp2_with fail
  go_ret3
  exact ⟨ret_spr Hres.out.1 Hres.out.2.1 Hres.out.2.2, Bel3.out⟩

set_option maxHeartbeats 2000000 in
theorem implSpreadN_any (kind : Int) (x y : Nat) (w : World) (hx : x < 4294967296) (hy : y < 4294967296) (hf1 : fin32 x = true) (hf2 : fin32 y = true) (hT : TabZ w) (hk : kind < 0 ∨ 3 < kind) :
    Calls Tryz.prog 23 #[.float .f32 x, .float .f32 y, .int .i64 kind] w fun e w' => e = .returned (.tuple #[.float .f32 (spF x y kind 1), .float .f32 (spF x y kind 2), .int .i64 (spC x y kind)]) ∧ Below w.heap.size w w' := by
  have Hxy := Lib.hid (And.intro hx hy)
  have Hf := Lib.hid (And.intro hf1 hf2)
  obtain ⟨w1, hw1⟩ : ∃ w1, w1 = w.alloc (.cells #[.func (.func 56) #[] #[], .func (.func 57) #[] #[], .func (.func 58) #[] #[], .func (.func 16) #[] #[]] 78) := ⟨_, rfl⟩
  have Bel1 : Hid (Below w.heap.size w w1) := Lib.hid (by rw [hw1]; exact belAlloc1 _ _)
  have Tb1 := Lib.hid (hT.next Bel1.out)
  have Hw := Lib.hid hw1
  have Hres : Hid (0 = spF x y kind 1 ∧ 0 = spF x y kind 2 ∧ (2 : Int) = spC x y kind) := Lib.hid (by
    have k0 : ¬ kind = 0 := by omega
    have k1 : ¬ kind = 1 := by omega
    have k2 : ¬ kind = 2 := by omega
    have k3 : ¬ kind = 3 := by omega
    simp [spF, spC, hf1, hf2, k0, k1, k2, k3])
  have Hk := Lib.hid hk
  clear hx hy hf1 hf2 hw1 hT hk
  go_enter Tryz.func23, Tryz.ntmps23
  go_wp2_with fail
  refine (implFinite_any x _ Hxy.out.1).mono ?_
  rintro e w9 ⟨rfl, rfl⟩
  rw [Hf.out.1]
  go_wp2_with fail
  refine (implFinite_any y _ Hxy.out.2).mono ?_
  rintro e w9 ⟨rfl, rfl⟩
  rw [Hf.out.2]
  go_upto_region 4 with fail
  rw [← Hw.out]
  by_cases hk0 : kind < 0
  · go_wp2_with fail
    go_ret3
    exact ⟨ret_spr Hres.out.1 Hres.out.2.1 Hres.out.2.2, Bel1.out⟩
  · have hk4 : 4 ≤ kind := by have := Hk.out; omega
    go_wp2_with fail
    go_ret3
    exact ⟨ret_spr Hres.out.1 Hres.out.2.1 Hres.out.2.2, Bel1.out⟩

set_option maxHeartbeats 1000000 in
theorem implSpreadI_any (kind : Int) (x y : Nat) (w : World) (hx : x < 4294967296) (hy : y < 4294967296) (hf : ¬ (fin32 x = true ∧ fin32 y = true)) :
    Calls Tryz.prog 23 #[.float .f32 x, .float .f32 y, .int .i64 kind] w fun e w' => e = .returned (.tuple #[.float .f32 (spF x y kind 1), .float .f32 (spF x y kind 2), .int .i64 (spC x y kind)]) ∧ Below w.heap.size w w' := by
  have Hxy := Lib.hid (And.intro hx hy)
  have Hres : Hid (0 = spF x y kind 1 ∧ 0 = spF x y kind 2 ∧ (1 : Int) = spC x y kind) := Lib.hid (by unfold spF spC; rw [if_neg hf, if_neg hf, if_neg hf]; exact ⟨rfl, rfl, rfl⟩)
  cases h1 : fin32 x
  · have H1 := Lib.hid h1
    clear hx hy hf h1
    go_enter Tryz.func23, Tryz.ntmps23
    go_wp2_with fail
    refine (implFinite_any x _ Hxy.out.1).mono ?_
    rintro e w9 ⟨rfl, rfl⟩
    rw [H1.out]
    go_wp2_with fail
    go_ret3
    exact ⟨ret_spr Hres.out.1 Hres.out.2.1 Hres.out.2.2, Below.refl _ _⟩
  · have h2 : fin32 y = false := by
      cases h2 : fin32 y
      · rfl
      · exact absurd ⟨h1, h2⟩ hf
    have H1 := Lib.hid h1
    have H2 := Lib.hid h2
    clear hx hy hf h1 h2
    go_enter Tryz.func23, Tryz.ntmps23
    go_wp2_with fail
    refine (implFinite_any x _ Hxy.out.1).mono ?_
    rintro e w9 ⟨rfl, rfl⟩
    rw [H1.out]
    go_wp2_with fail
    refine (implFinite_any y _ Hxy.out.2).mono ?_
    rintro e w9 ⟨rfl, rfl⟩
    rw [H2.out]
    go_wp2_with fail
    go_ret3
    exact ⟨ret_spr Hres.out.1 Hres.out.2.1 Hres.out.2.2, Below.refl _ _⟩
theorem implSpread_any (kind : Int) (x y : Nat) (w : World) (hx : x < 4294967296) (hy : y < 4294967296) (hT : TabZ w) :
    Calls Tryz.prog 23 #[.float .f32 x, .float .f32 y, .int .i64 kind] w fun e w' => e = .returned (.tuple #[.float .f32 (spF x y kind 1), .float .f32 (spF x y kind 2), .int .i64 (spC x y kind)]) ∧ Below w.heap.size w w' := by
  by_cases hf : fin32 x = true ∧ fin32 y = true
  · by_cases h0 : kind = 0
    · subst h0; exact implSpread0_any x y w hx hy hf.1 hf.2 hT
    by_cases h1 : kind = 1
    · subst h1; exact implSpread1_any x y w hx hy hf.1 hf.2 hT
    by_cases h2 : kind = 2
    · subst h2; exact implSpread2_any x y w hx hy hf.1 hf.2 hT
    by_cases h3 : kind = 3
    · subst h3; exact implSpread3_any x y w hx hy hf.1 hf.2 hT
    exact implSpreadN_any kind x y w hx hy hf.1 hf.2 hT (by omega)
  · exact implSpreadI_any kind x y w hx hy hf
theorem specSpread_any (kind : Int) (x y : Nat) (w : World) (hx : x < 4294967296) (hy : y < 4294967296) :
    Calls Tryz.prog 22 #[.float .f32 x, .float .f32 y, .int .i64 kind] w fun e w' => e = .returned (.tuple #[.float .f32 (spF x y kind 1), .float .f32 (spF x y kind 2), .int .i64 (spC x y kind)]) ∧ Below w.heap.size w w' := by
  by_cases hf : fin32 x = true ∧ fin32 y = true
  · by_cases h0 : kind = 0
    · subst h0; exact specSpread0_any x y w hx hy hf.1 hf.2
    by_cases h1 : kind = 1
    · subst h1; exact specSpread1_any x y w hx hy hf.1 hf.2
    by_cases h2 : kind = 2
    · subst h2; exact specSpread2_any x y w hx hy hf.1 hf.2
    by_cases h3 : kind = 3
    · subst h3; exact specSpread3_any x y w hx hy hf.1 hf.2
    exact specSpreadN_any kind x y w hx hy hf.1 hf.2 (by omega)
  · exact specSpreadI_any kind x y w hx hy hf
end Go.Proofs.YtcjamfoiilgfoaaGreatDoor
