/- Texts of this seat, joined: Ke Kf Kg Kh Ki -/
import Derived.Test.YtngminjncdfjdaaGreatDoorY2
import Derived.Test.YtngminjncdfjdaaGreatDoorY4
import Derived.Deep.DeepCutAuto
/- Numbers of limbs as integers, cuts of an exact number, of the program. -/
namespace Go.Proofs.YtngminjncdfjdaaGreatDoor
set_option maxRecDepth 100000
open Go.RowKit
set_option linter.unusedSimpArgs false
set_option linter.unusedVariables false
attribute [local go_sem ↓] Go.wp_at_zero Go.wp_at_succ

/-- a result that is an excess, yet untouched -/
def ERes (w : World) (b : Nat) : Prop := (w.cell? ⟨b, 0, none⟩ = some (.int .i64 0) ∧ w.cell? ⟨b, 1, none⟩ = some (.bool false) ∧ w.cell? ⟨b, 2, none⟩ = some (.bool false) ∧ w.cell? ⟨b, 3, none⟩ = some (.int .i64 0) ∧ w.frozen? ⟨b, 0, none⟩ = false ∧ w.frozen? ⟨b, 1, none⟩ = false ∧ w.frozen? ⟨b, 2, none⟩ = false ∧ w.frozen? ⟨b, 3, none⟩ = false) ∧ b < w.heap.size
theorem ERes.next {w w' : World} {b : Nat} (x : ERes w b) (hb : Below w.heap.size w w') : ERes w' b :=
  ⟨⟨(hb.cell (p := ⟨b, 0, none⟩) x.2).trans x.1.1, (hb.cell (p := ⟨b, 1, none⟩) x.2).trans x.1.2.1, (hb.cell (p := ⟨b, 2, none⟩) x.2).trans x.1.2.2.1, (hb.cell (p := ⟨b, 3, none⟩) x.2).trans x.1.2.2.2.1, (hb.frozen (p := ⟨b, 0, none⟩) x.2).trans x.1.2.2.2.2.1, (hb.frozen (p := ⟨b, 1, none⟩) x.2).trans x.1.2.2.2.2.2.1, (hb.frozen (p := ⟨b, 2, none⟩) x.2).trans x.1.2.2.2.2.2.2.1, (hb.frozen (p := ⟨b, 3, none⟩) x.2).trans x.1.2.2.2.2.2.2.2⟩, Nat.lt_of_lt_of_le x.2 hb.size⟩
theorem ERes.new (w : World) (t : TypeId) : ERes (w.alloc (.cells #[.int .i64 0, .bool false, .bool false, .int .i64 0] t)) w.heap.size := by
  refine ⟨⟨?_, ?_, ?_, ?_, ?_, ?_, ?_, ?_⟩, ?_⟩
  · go_simp
  · go_simp
  · go_simp
  · go_simp
  · go_simp
  · go_simp
  · go_simp
  · go_simp
  · simp
theorem dbox_eres (w : World) (S : Int) (A : Option Addr) (n c : Nat) (E : Int) (t t2 : TypeId) : ∃ W, W = (w.alloc (.cells #[.int .i64 S, .slice A n c, .int .i64 E] t)).alloc (.cells #[.int .i64 0, .bool false, .bool false, .int .i64 0] t2) ∧ DBox W w.heap.size S A n c E ∧ ERes W (w.heap.size + 1) ∧ Below w.heap.size w W := by
  refine ⟨_, rfl, (DBox.new _ _ _ _ _ _ _).next (belAlloc1 _ _), ?_, belNext (belAlloc1 _ _) (belAlloc1 _ _)⟩
  have h := ERes.new (w.alloc (.cells #[.int .i64 S, .slice A n c, .int .i64 E] t)) t2
  simpa using h
theorem EBox.half {w : World} {b : Nat} {S h : Int} {o t : Bool} (x : EBox w b S o t h) (h' : Int) : EBox (w.setCell ⟨b, 3, none⟩ (.int .i64 h')) b S o t h' := by
  obtain ⟨⟨x0, x1, x2, x3⟩, x4⟩ := x
  refine ⟨⟨?_, ?_, ?_, ?_⟩, by simp; exact x4⟩
  · go_simp
  · go_simp
  · go_simp
  · go_simp
theorem V_two {v : Nat} (h : (limbs v).length ≤ 2) : ∀ k, k < (limbs v).length → V ((limbs v).take k) < 2 ^ (24 * k) := by
  intro k hk
  have := V_lt ((Lim_limbs v).take k)
  rw [List.length_take, Nat.min_eq_left (by omega), Bs_pow] at this
  exact this
theorem or_up (a x k : Nat) (ha : a < 2 ^ (24 * k)) (hx : x < Bs) (hk : k ≤ 1) : bits .or .i64 (a : Int) (((x * 2 ^ (24 * k) : Nat)) : Int) = ((a + Bs ^ k * x : Nat) : Int) := by
  have hb : x * 2 ^ (24 * k) < 9223372036854775808 := by
    rw [Bs_eq] at hx
    rcases (show k = 0 ∨ k = 1 by omega) with rfl | rfl
    · simp; omega
    · simp; omega
  have ha2 : a < 9223372036854775808 := by
    rcases (show k = 0 ∨ k = 1 by omega) with rfl | rfl
    · simp at ha; omega
    · simp at ha; omega
  rw [or_i64 _ _ ha2 hb, Bs_pow, Nat.mul_comm x, Nat.or_comm, ← Nat.two_pow_add_eq_or_of_lt ha]
  congr 1
  omega
theorem shl_up (x k : Nat) (hx : x < Bs) (hk : k ≤ 1) : wrap64 ((x : Int) * 2 ^ (24 * k)) = ((x * 2 ^ (24 * k) : Nat) : Int) := by
  rw [Bs_eq] at hx
  rcases (show k = 0 ∨ k = 1 by omega) with rfl | rfl
  · rw [show (x : Int) * 2 ^ (24 * 0) = ((x * 2 ^ (24 * 0) : Nat) : Int) by simp]; exact wrap64_small (by omega) (by simp; omega)
  · rw [show (x : Int) * 2 ^ (24 * 1) = ((x * 2 ^ (24 * 1) : Nat) : Int) by simp]; exact wrap64_small (by omega) (by simp; omega)

set_option maxHeartbeats 1000000 in
theorem natInt_any (v : Nat) (A : Option Addr) (n c B : Nat) (w : World) (hr : Rd w B A (vs (limbs v))) (hn : (limbs v).length = n) (hm : (n : Int) ≤ 2) :
    Calls Tryz.prog 124 #[.slice A n c] w fun e w' => e = .returned (.int .i64 v) ∧ w = w' := by
  have Hn := Lib.hid hn
  have Hr := Lib.hid hr
  clear hr hn
  go_enter Tryz.func124, Tryz.ntmps124
  go_wp2_with fail
  go_loop [3, 8] (fun t i => ∃ k : Nat, k ≤ n ∧ i = .int .i64 k ∧ t = .int .i64 (V ((limbs v).take k))) (fun _ i => n - (intOf i).toNat)
  case atStart => exact ⟨0, Nat.zero_le _, rfl, rfl⟩
  case round =>
    obtain ⟨k, hk, rfl, rfl⟩ := hrel
    by_cases hlt : k < n
    · have hkx : k < (limbs v).length := by rw [Hn.out]; exact hlt
      obtain ⟨q, hq, _⟩ := Hr.out.some_ (by rw [vs_len]; omega)
      subst hq
      have hcx := Hr.out.cell (k := k) (by rw [vs_len]; exact hkx)
      rw [vs_get hkx] at hcx
      have hxb := (Lim_limbs v).getElem hkx
      have HV := Lib.hid (V_take_succ hkx)
      have hvt := V_two (by rw [Hn.out]; omega) k hkx
      have hsw := shl_up _ k hxb (by omega)
      have hor := or_up _ _ k hvt hxb (by omega)
      have hx0 : (0 : Int) ≤ ((limbs v)[k] : Nat) := by omega
      have hx1 : (((limbs v)[k] : Nat) : Int) ≤ 16777215 := by rw [Bs_eq] at hxb; omega
      generalize (limbs v)[k] = x at *
      generalize V ((limbs v).take k) = t at *
      obtain ⟨y, hy⟩ : ∃ y, y = x * 2 ^ (24 * k) := ⟨_, rfl⟩
      rw [← hy] at hsw hor
      rw [← HV.out] at hor
      have hk24 : ((24 * (k : Int)).toNat) = 24 * k := by omega
      clear hvt hxb hy hkx
      go_wp2_with fail
      go_round
      case rel => exact ⟨k + 1, by omega, by go_num, rfl⟩
      case measure => simp [intOf]; omega
    · have hin : k = n := by omega
      subst hin
      have e : V ((limbs v).take (limbs v).length) = v := by rw [List.take_length, V_limbs]
      go_wp2_with fail
      go_ret
      exact ⟨ret_int (by rw [← Hn.out, e]), rfl⟩

theorem same_below {e : Ending} {v : Value} {w w' : World} (h : e = .returned v ∧ w = w') : e = .returned v ∧ Below w.heap.size w w' := ⟨h.1, by rw [← h.2]; exact Below.refl _ _⟩
theorem natIntB_any (v : Nat) (A : Option Addr) (n c B : Nat) (w : World) (hr : Rd w B A (vs (limbs v))) (hn : (limbs v).length = n) (hm : (n : Int) ≤ 2) :
    Calls Tryz.prog 124 #[.slice A n c] w fun e w' => e = .returned (.int .i64 v) ∧ Below w.heap.size w w' :=
  (natInt_any v A n c B w hr hn hm).mono fun _ _ h => same_below h
theorem natZerosB_any (v : Nat) (A : Option Addr) (n c B : Nat) (w : World) (hr : Rd w B A (vs (limbs v))) (hn : (limbs v).length = n) (hm : (n : Int) ≤ 100000) (hT : TabZ w) :
    Calls Tryz.prog 119 #[.slice A n c] w fun e w' => e = .returned (.int .i64 (tz v : Nat)) ∧ Below w.heap.size w w' :=
  (natZeros_any v A n c B w hr hn hm hT).mono fun _ _ h => same_below h

set_option maxHeartbeats 4000000 in
theorem implCutU_any (z S E q : Int) (A : Option Addr) (n c m : Nat) (w : World) (hz : ZV w z S A n c) (hm : (n : Int) ≤ 4000) (hE1 : -20000 ≤ E) (hE2 : E ≤ 20000) (hq1 : -20000 ≤ q) (hq2 : q ≤ 20000) (hl : q - E = -(m : Int)) (hx : (limbs (2 ^ m * z.natAbs)).length ≤ 2) :
    Calls Tryz.prog 103 #[.agg #[.int .i64 S, .slice A n c, .int .i64 E], .int .i64 q] w fun e w' => e = .returned (.tuple #[.int .i64 ((2 ^ m * z.natAbs : Nat) : Int), .agg #[.int .i64 S, .bool false, .bool false, .int .i64 0]]) ∧ Below w.heap.size w w' := by
  have hst := store_int Tryz.prog
  have hst2 := store_slice Tryz.prog
  obtain ⟨w1, hw1, hb1, hb3, hb4⟩ := dbox_eres w S A n c E 48 109
  have RsE1 := Lib.hid hb3
  have Hlt : Hid (w.heap.size + 1 < w1.heap.size) := Lib.hid hb3.2
  have Zv1 := Lib.hid (hz.next hb4)
  have Hw := Lib.hid hw1
  have Bx1 := Lib.hid hb1
  have Bel1 := Lib.hid hb4
  have Hn : Hid ((limbs z.natAbs).length = n) := Lib.hid hz.2.1
  have Hm : Hid ((n : Int) ≤ 4000) := Lib.hid hm
  clear hz hw1 hb1 hb3 hb4
  have Hx := Lib.hid hx
  have hm3 : (m : Int) ≤ 40000 := by omega
  clear hx
  go_enter Tryz.func103, Tryz.ntmps103
  go_wp2_with fail
  rw [← Hw.out]
  obtain ⟨⟨hBx0, hBx1, hBx2⟩, hBx3⟩ := Bx1.out
  obtain ⟨⟨hRsE0, hRsE1, hRsE2, hRsE3, hRsE4, hRsE5, hRsE6, hRsE7⟩, hRsE8⟩ := RsE1.out
  go_wp2_with fail
  refine wp_region_held_drew (S := fun w' => (w'.cell? ⟨w.heap.size, 0, none⟩ = some (.int .i64 S) ∧ w'.cell? ⟨w.heap.size, 1, none⟩ = some (.slice A n c) ∧ w'.cell? ⟨w.heap.size, 2, none⟩ = some (.int .i64 E))) (by kernel_rfl) Bx1.out.1 (fun hHeld => ?_)
  clear hBx0 hBx1 hBx2 hBx3 hRsE0 hRsE1 hRsE2 hRsE3 hRsE4 hRsE5 hRsE6 hRsE7 hRsE8
  have hwr : IntKind.i64.wrap (m : Int) = m := IntWalk.i64_in _ (by omega)
  refine wpAnyH_take (i := 0) (v := ?_) rfl (by kernel_rfl) (by kernel_rfl) (by kernel_rfl) (fun _ _ _ h => h) (Or.inl ⟨by rfl, ?_⟩) (by assumption) ?_
  rotate_left
  · (intro w hSw; (try dsimp only at hSw); go_simp; (try with_reducible rfl))
  try simp only [Act.put, List.setIfInBounds_toArray, List.set_cons_zero, List.set_cons_succ]
  refine wpAnyH_take (i := 1) (v := ?_) rfl (by kernel_rfl) (by kernel_rfl) (by kernel_rfl) (fun _ _ _ h => h) (Or.inl ⟨by rfl, ?_⟩) (by assumption) ?_
  rotate_left
  · (intro w hSw; (try dsimp only at hSw); go_simp; (try with_reducible rfl))
  try simp only [Act.put, List.setIfInBounds_toArray, List.set_cons_zero, List.set_cons_succ]
  refine wpAnyH_take (i := 2) (v := ?_) rfl (by kernel_rfl) (by kernel_rfl) (by kernel_rfl) (fun _ _ _ h => h) (Or.inl ⟨by rfl, ?_⟩) (by assumption) ?_
  rotate_left
  · (intro w hSw; (try dsimp only at hSw); go_simp; (try with_reducible rfl))
  try simp only [Act.put, List.setIfInBounds_toArray, List.set_cons_zero, List.set_cons_succ]
  refine wpAnyH_take (i := 5) (v := ?_) rfl (by kernel_rfl) (by kernel_rfl) (by kernel_rfl) (fun _ _ _ h => h) (Or.inl ⟨by rfl, ?_⟩) (by assumption) ?_
  rotate_left
  · (intro w hSw; (try dsimp only at hSw); go_simp; (try with_reducible rfl))
  try simp only [Act.put, List.setIfInBounds_toArray, List.set_cons_zero, List.set_cons_succ]
  refine wpAnyH_take (i := 6) (v := ?_) rfl (by kernel_rfl) (by kernel_rfl) (by kernel_rfl) (fun _ _ _ h => h) (Or.inl ⟨by rfl, ?_⟩) (by assumption) ?_
  rotate_left
  · (intro w hSw; (try dsimp only at hSw); go_simp; (try with_reducible rfl))
  try simp only [Act.put, List.setIfInBounds_toArray, List.set_cons_zero, List.set_cons_succ]
  refine wpAnyH_take (i := 7) (v := ?_) rfl (by kernel_rfl) (by kernel_rfl) (by kernel_rfl) (fun _ _ _ h => h) (Or.inl ⟨by rfl, ?_⟩) (by assumption) ?_
  rotate_left
  · (intro w hSw; (try dsimp only at hSw); go_simp; (try with_reducible rfl))
  try simp only [Act.put, List.setIfInBounds_toArray, List.set_cons_zero, List.set_cons_succ]
  refine wpAnyH_take (i := 8) (v := ?_) rfl (by kernel_rfl) (by kernel_rfl) (by kernel_rfl) (fun _ _ _ h => h) (Or.inl ⟨by rfl, ?_⟩) (by assumption) ?_
  rotate_left
  · (intro w hSw; (try dsimp only at hSw); go_simp; (try with_reducible rfl))
  try simp only [Act.put, List.setIfInBounds_toArray, List.set_cons_zero, List.set_cons_succ]
  refine wpAnyH_ready (rs := [3]) (by kernel_rfl) (by simp) ?_
  refine AllReadyH.cons rfl (fun K hK => ?_) AllReadyH.nil
  go_simp
  refine (natShl_any z.natAbs m A n c _ w1.drew Zv1.out.rd (Nat.le_refl _) Hn.out (by have := Hm.out; omega) (by omega)).mono ?_
  rintro e w2 ⟨A2, rfl, ho2, hb0⟩
  have hb : Below w1.heap.size w1 w2 := belDrew hb0
  have Ho2 := Lib.hid ho2
  clear ho2
  refine hK.out _ _ ((Bx1.out.next hb).1) (fun hHeld => ?_)
  clear hK K hb0
  have Sz2 := Lib.hid (Below.size hb)
  have Bel2 := Lib.hid (belNext Bel1.out hb)
  have Bx2 := Lib.hid (Bx1.out.next hb)
  have RsE2 := Lib.hid (RsE1.out.next hb)
  have Zv2 := Lib.hid (Zv1.out.next hb)
  clear hb Bel1 Bx1 RsE1 Zv1
  try simp only [Act.put, List.setIfInBounds_toArray, List.set_cons_zero, List.set_cons_succ]
  refine wpAnyH_ready (rs := [4]) (by kernel_rfl) (by simp) ?_
  refine AllReadyH.cons rfl (fun K hK => ?_) AllReadyH.nil
  go_simp
  refine (natIntB_any (2 ^ m * z.natAbs) A2 _ _ _ w2 Ho2.out.rd rfl (by have := Hx.out; omega)).mono ?_
  rintro e w3 ⟨rfl, hb0⟩
  have hb : Below w2.heap.size w2 w3 := hb0
  refine hK.out _ _ ((Bx2.out.next hb).1) (fun hHeld => ?_)
  clear hK K hb0
  have Sz3 := Lib.hid (Below.size hb)
  have Bel3 := Lib.hid (belNext Bel2.out hb)
  have Bx3 := Lib.hid (Bx2.out.next hb)
  have RsE3 := Lib.hid (RsE2.out.next hb)
  have Zv3 := Lib.hid (Zv2.out.next hb)
  clear hb Bel2 Bx2 RsE2 Zv2
  try simp only [Act.put, List.setIfInBounds_toArray, List.set_cons_zero, List.set_cons_succ]
  refine wpAnyH_ready (rs := [9]) (by kernel_rfl) (by simp) ?_
  refine AllReadyH.cons rfl (fun K hK => ?_) AllReadyH.nil
  go_simp
  refine hK.out _ _ hHeld (fun hHeld => ?_)
  clear hK K
  try simp only [Act.put, List.setIfInBounds_toArray, List.set_cons_zero, List.set_cons_succ]
  obtain ⟨⟨hRsE0, hRsE1, hRsE2, hRsE3, hRsE4, hRsE5, hRsE6, hRsE7⟩, hRsE8⟩ := RsE3.out
  refine wpAnyH_ready (rs := [10]) (by kernel_rfl) (by simp) ?_
  refine AllReadyH.cons rfl (fun K hK => ?_) AllReadyH.nil
  go_simp
  refine hK.out _ _ (((((Bx3.out.keep (by first | (simp; done) | (simp; omega)) _).keep (by first | (simp; done) | (simp; omega)) _).keep (by first | (simp; done) | (simp; omega)) _).keep (by first | (simp; done) | (simp; omega)) _).1) (fun hHeld => ?_)
  clear hK K hHeld
  try simp only [Act.put, List.setIfInBounds_toArray, List.set_cons_zero, List.set_cons_succ]
  refine wpAnyH_done (by kernel_rfl) ?_ _
  go_wp2_with fail
  refine bodyPost_ret (v := .tuple #[.int .i64 ((2 ^ m * z.natAbs : Nat) : Int), .agg #[.int .i64 S, .bool false, .bool false, .int .i64 0]]) (by simp [results, Tryz.results103, go_sem, hRsE0, hRsE1, hRsE2, hRsE3]) rfl ⟨rfl, ?_⟩
  exact (((Bel3.out.setCell (by have zz0 := Hlt.out; have zz1 := Sz2.out; have zz2 := Sz3.out; first | omega | (simp; done) | (simp; omega)) _).setCell (by have zz0 := Hlt.out; have zz1 := Sz2.out; have zz2 := Sz3.out; first | omega | (simp; done) | (simp; omega)) _).setCell (by have zz0 := Hlt.out; have zz1 := Sz2.out; have zz2 := Sz3.out; first | omega | (simp; done) | (simp; omega)) _).setCell (by have zz0 := Hlt.out; have zz1 := Sz2.out; have zz2 := Sz3.out; first | omega | (simp; done) | (simp; omega)) _

end Go.Proofs.YtngminjncdfjdaaGreatDoor
/- Cuts of an exact number that lose bits, of the program. -/
namespace Go.Proofs.YtngminjncdfjdaaGreatDoor
set_option maxRecDepth 100000
open Go.RowKit
set_option linter.unusedSimpArgs false
set_option linter.unusedVariables false
attribute [local go_sem ↓] Go.wp_at_zero Go.wp_at_succ

/-- an excess is laid into a box -/
def se4 (w : World) (b : Nat) (S : Int) (o t : Bool) (h : Int) : World := (((w.setCell ⟨b, 0, none⟩ (.int .i64 S)).setCell ⟨b, 1, none⟩ (.bool o)).setCell ⟨b, 2, none⟩ (.bool t)).setCell ⟨b, 3, none⟩ (.int .i64 h)
theorem se4_size {w : World} {b : Nat} {S h : Int} {o t : Bool} : (se4 w b S o t h).heap.size = w.heap.size := by unfold se4; simp
theorem belSe4 {W w : World} {b : Nat} {S h : Int} {o t : Bool} (x : Below W.heap.size W w) (hb : W.heap.size ≤ b) : Below W.heap.size W (se4 w b S o t h) := (((x.setCell hb _).setCell hb _).setCell hb _).setCell hb _
theorem ERes.made {w : World} {b : Nat} (x : ERes w b) (S h : Int) (o t : Bool) : EBox (se4 w b S o t h) b S o t h ∧ Fr4 (se4 w b S o t h) b := by
  obtain ⟨⟨x0, x1, x2, x3, x4, x5, x6, x7⟩, x8⟩ := x
  refine ⟨⟨⟨?_, ?_, ?_, ?_⟩, by rw [se4_size]; exact x8⟩, ⟨⟨?_, ?_, ?_, ?_⟩, by rw [se4_size]; exact x8⟩⟩ <;> · unfold se4; go_simp
theorem div_pow_pred (v : Nat) {m : Nat} (h : 1 ≤ m) : v / 2 ^ m = v / 2 ^ (m - 1) / 2 := by
  obtain ⟨k, rfl⟩ : ∃ k, m = k + 1 := ⟨m - 1, by omega⟩
  rw [Nat.add_sub_cancel, Nat.pow_succ, Nat.div_div_eq_div_mul]
theorem Fr4.keep {w : World} {b : Nat} (x : Fr4 w b) {q : Addr} (u : Value) : Fr4 (w.setCell q u) b := by
  refine ⟨⟨?_, ?_, ?_, ?_⟩, by have := x.2; simpa using this⟩
  · have := x.1.1; go_simp
  · have := x.1.2.1; go_simp
  · have := x.1.2.2.1; go_simp
  · have := x.1.2.2.2; go_simp

set_option maxHeartbeats 8000000 in
theorem implCutD_any (z S E q : Int) (A : Option Addr) (n c m : Nat) (w : World) (hz : ZV w z S A n c) (hm : (n : Int) ≤ 4000) (hE1 : -20000 ≤ E) (hE2 : E ≤ 20000) (hq1 : -20000 ≤ q) (hq2 : q ≤ 20000) (hl : q - E = (m : Int)) (hm1 : (1 : Int) ≤ m) (hx : z.natAbs / 2 ^ m < 16777216) (hT : TabZ w) :
    Calls Tryz.prog 103 #[.agg #[.int .i64 S, .slice A n c, .int .i64 E], .int .i64 q] w fun e w' => e = .returned (.tuple #[.int .i64 ((z.natAbs / 2 ^ m : Nat) : Int), .agg #[.int .i64 S, .bool (z.natAbs / 2 ^ m % 2 == 1), .bool (decide (tz z.natAbs < m)), .int .i64 (rH z.natAbs m)]]) ∧ Below w.heap.size w w' := by
  have hst := store_int Tryz.prog
  have hst2 := store_slice Tryz.prog
  obtain ⟨w1, hw1, hb1, hb3, hb4⟩ := dbox_eres w S A n c E 48 109
  have RsE1 := Lib.hid hb3
  have Hlt : Hid (w.heap.size + 1 < w1.heap.size) := Lib.hid hb3.2
  have Zv1 := Lib.hid (hz.next hb4)
  have Hw := Lib.hid hw1
  have Bx1 := Lib.hid hb1
  have Bel1 := Lib.hid hb4
  have Hn : Hid ((limbs z.natAbs).length = n) := Lib.hid hz.2.1
  have Hm : Hid ((n : Int) ≤ 4000) := Lib.hid hm
  clear hz hw1 hb1 hb3 hb4
  have Tb1 := Lib.hid (hT.next Bel1.out)
  have hm3 : (m : Int) ≤ 40000 := by omega
  have hlen1 : ((limbs (z.natAbs / 2 ^ m)).length : Int) ≤ 2 := by
    have h : (limbs (z.natAbs / 2 ^ m)).length ≤ 1 := limbs_len_le.2 (by rw [Bs_pow]; exact hx)
    omega
  have hlen2 : ((limbs (z.natAbs / 2 ^ (m - 1))).length : Int) ≤ 2 := by
    have h : (limbs (z.natAbs / 2 ^ (m - 1))).length ≤ 2 := limbs_len_le.2 (by
      rw [Bs_pow]
      have e := div_pow_pred z.natAbs (m := m) (by omega)
      rw [e] at hx
      omega)
    omega
  have Hl := Lib.hid (And.intro hlen1 hlen2)
  obtain ⟨M, hM⟩ : ∃ M, M = z.natAbs / 2 ^ m := ⟨_, rfl⟩
  obtain ⟨k1, hk⟩ : ∃ k1, k1 = m - 1 := ⟨_, rfl⟩
  have hk1 : (m : Int) - 1 = (k1 : Int) := by omega
  rw [← hk] at hlen2
  have Hl2 := Lib.hid hlen2
  obtain ⟨G, hG⟩ : ∃ G, G = z.natAbs / 2 ^ k1 := ⟨_, rfl⟩
  obtain ⟨T, hTz⟩ : ∃ T, T = tz z.natAbs := ⟨_, rfl⟩
  obtain ⟨r, hr⟩ : ∃ r, r = M % 2 := ⟨_, rfl⟩
  obtain ⟨g, hg⟩ : ∃ g, g = G % 2 := ⟨_, rfl⟩
  obtain ⟨ob, hob⟩ : ∃ ob, ob = (M % 2 == 1) := ⟨_, rfl⟩
  obtain ⟨tb, htb⟩ : ∃ tb, tb = decide (T < m) := ⟨_, rfl⟩
  have hM1 : (M : Int) ≤ 16777215 := by rw [hM]; omega
  have hG1 : (G : Int) ≤ 33554431 := by
    have e := div_pow_pred z.natAbs (m := m) (by omega)
    rw [e, ← hk, ← hG] at hx
    omega
  have ho1 : (M : Int) % 2 = (r : Int) := by omega
  have ho1' : (M : Int).tmod 2 = (r : Int) := by rw [Int.tmod_eq_emod_of_nonneg (by omega)]; omega
  have ho2 : ((r : Int) == 1) = ob := by rw [hob, ← hr, Bool.eq_iff_iff, beq_iff_eq, beq_iff_eq]; omega
  have ho3 : decide ((T : Int) < (m : Int)) = tb := by rw [htb]; simp
  have ho4 : decide (T < m) = tb := htb.symm
  have hg1 : (G : Int) % 2 = (g : Int) := by omega
  obtain ⟨hv, hhv⟩ : ∃ hv, hv = rH z.natAbs m := ⟨_, rfl⟩
  have HH : Hid (hv = if g = 1 then (if T = k1 then 0 else 1) else -1) := Lib.hid (by rw [hhv]; unfold rH; rw [show ((m : Int)).toNat = m by omega, ← hk, ← hG, ← hg, ← hTz])
  have HM := Lib.hid hM
  have HG := Lib.hid hG
  have HTz := Lib.hid hTz
  have Hob : Hid ((M % 2 == 1) = ob) := Lib.hid hob.symm
  have Htb := Lib.hid ho4
  have Hg := Lib.hid hg
  have Ho1 := Lib.hid ho1'
  rw [← hM, Hob.out, ← hhv, ← hTz, Htb.out]
  have HlM : Hid ((limbs M).length = (limbs (z.natAbs / 2 ^ m)).length) := Lib.hid (by rw [hM])
  have OBx := Bx1
  have ORs := RsE1
  have OZv := Zv1
  have OTb := Tb1
  have BelO1 : Hid (Below w1.heap.size w1 w1) := Lib.hid (Below.refl _ _)
  clear hlen1 hlen2 hx hM hG hTz hr hg hob htb hT ho1' hk hhv
  go_enter Tryz.func103, Tryz.ntmps103
  go_wp2_with fail
  rw [← Hw.out]
  obtain ⟨⟨hBx0, hBx1, hBx2⟩, hBx3⟩ := Bx1.out
  obtain ⟨⟨hRsE0, hRsE1, hRsE2, hRsE3, hRsE4, hRsE5, hRsE6, hRsE7⟩, hRsE8⟩ := RsE1.out
  go_wp2_with fail
  refine (natShr_any z.natAbs m A n c _ _ Zv1.out.rd (Nat.le_refl _) Hn.out (by have := Hm.out; omega) (by omega)).mono ?_
  rintro e w2 ⟨A2, rfl, ho9, hb⟩
  have Ho2 := Lib.hid ho9
  clear ho9
  have Sz2 := Lib.hid (Below.size hb)
  have Bel2 := Lib.hid (belNext Bel1.out hb)
  have BelO2 := Lib.hid (belNext BelO1.out hb)
  have Bx2 := Lib.hid (Bx1.out.next hb)
  have RsE2 := Lib.hid (RsE1.out.next hb)
  have Zv2 := Lib.hid (Zv1.out.next hb)
  have Tb2 := Lib.hid (Tb1.out.next hb)
  clear hb Bel1 BelO1 Bx1 RsE1 Zv1 Tb1 hBx0 hBx1 hBx2 hBx3 hRsE0 hRsE1 hRsE2 hRsE3 hRsE4 hRsE5 hRsE6 hRsE7 hRsE8
  obtain ⟨⟨hBx0, hBx1, hBx2⟩, hBx3⟩ := Bx2.out
  obtain ⟨⟨hRsE0, hRsE1, hRsE2, hRsE3, hRsE4, hRsE5, hRsE6, hRsE7⟩, hRsE8⟩ := RsE2.out
  go_wp2_with fail
  refine (natIntB_any (z.natAbs / 2 ^ m) A2 _ _ _ _ Ho2.out.rd rfl Hl.out.1).mono ?_
  rintro e w3 ⟨rfl, hb⟩
  rw [← HM.out]
  have Sz3 := Lib.hid (Below.size hb)
  have Bel3 := Lib.hid (belNext Bel2.out hb)
  have BelO3 := Lib.hid (belNext BelO2.out hb)
  have Bx3 := Lib.hid (Bx2.out.next hb)
  have RsE3 := Lib.hid (RsE2.out.next hb)
  have Zv3 := Lib.hid (Zv2.out.next hb)
  have Tb3 := Lib.hid (Tb2.out.next hb)
  clear hb Bel2 BelO2 Bx2 RsE2 Zv2 Tb2 hBx0 hBx1 hBx2 hBx3 hRsE0 hRsE1 hRsE2 hRsE3 hRsE4 hRsE5 hRsE6 hRsE7 hRsE8
  obtain ⟨⟨hBx0, hBx1, hBx2⟩, hBx3⟩ := Bx3.out
  obtain ⟨⟨hRsE0, hRsE1, hRsE2, hRsE3, hRsE4, hRsE5, hRsE6, hRsE7⟩, hRsE8⟩ := RsE3.out
  go_upto_region 6 with fail
  go_cut [9] from 32 to 42 (fun t9 wx => ∃ b7 : Nat, t9 = .pointer (some ⟨b7, 0, none⟩) ∧ EBox wx b7 S ob tb (-1) ∧ Fr4 wx b7 ∧ w3.heap.size ≤ b7 ∧ Below w3.heap.size w3 wx)
  case first =>
    have ho1 := Ho1.out
    refine wp_region_held_drew (S := fun w' => (w'.cell? ⟨w.heap.size, 0, none⟩ = some (.int .i64 S) ∧ w'.cell? ⟨w.heap.size, 1, none⟩ = some (.slice A n c) ∧ w'.cell? ⟨w.heap.size, 2, none⟩ = some (.int .i64 E))) (by kernel_rfl) Bx3.out.1 (fun hHeld => ?_)
    clear hBx0 hBx1 hBx2 hBx3 hRsE0 hRsE1 hRsE2 hRsE3 hRsE4 hRsE5 hRsE6 hRsE7 hRsE8
    refine wpAnyH_take (i := 0) (v := ?_) rfl (by kernel_rfl) (by kernel_rfl) (by kernel_rfl) (fun _ _ _ h => h) (Or.inl ⟨by rfl, ?_⟩) (by assumption) ?_
    rotate_left
    · (intro w hSw; (try dsimp only at hSw); go_simp; (try with_reducible rfl))
    try simp only [Act.put, List.setIfInBounds_toArray, List.set_cons_zero, List.set_cons_succ]
    refine wpAnyH_take (i := 1) (v := ?_) rfl (by kernel_rfl) (by kernel_rfl) (by kernel_rfl) (fun _ _ _ h => h) (Or.inl ⟨by rfl, ?_⟩) (by assumption) ?_
    rotate_left
    · (intro w hSw; (try dsimp only at hSw); go_simp; (try with_reducible rfl))
    try simp only [Act.put, List.setIfInBounds_toArray, List.set_cons_zero, List.set_cons_succ]
    refine wpAnyH_take (i := 2) (v := ?_) rfl (by kernel_rfl) (by kernel_rfl) (by kernel_rfl) (fun _ _ _ h => h) (Or.inl ⟨by rfl, ?_⟩) (by assumption) ?_
    rotate_left
    · (intro w hSw; (try dsimp only at hSw); go_simp; (try with_reducible rfl))
    try simp only [Act.put, List.setIfInBounds_toArray, List.set_cons_zero, List.set_cons_succ]
    refine wpAnyH_take (i := 3) (v := ?_) rfl (by kernel_rfl) (by kernel_rfl) (by kernel_rfl) (fun _ _ _ h => h) (Or.inl ⟨by rfl, ?_⟩) (by assumption) ?_
    rotate_left
    · (intro w hSw; (try dsimp only at hSw); go_simp; (try with_reducible rfl))
    try simp only [Act.put, List.setIfInBounds_toArray, List.set_cons_zero, List.set_cons_succ]
    refine wpAnyH_take (i := 4) (v := ?_) rfl (by kernel_rfl) (by kernel_rfl) (by kernel_rfl) (fun _ _ _ h => h) (Or.inl ⟨by rfl, ?_⟩) (by assumption) ?_
    rotate_left
    · (intro w hSw; (try dsimp only at hSw); go_simp; (try with_reducible rfl))
    try simp only [Act.put, List.setIfInBounds_toArray, List.set_cons_zero, List.set_cons_succ]
    refine wpAnyH_take (i := 5) (v := ?_) rfl (by kernel_rfl) (by kernel_rfl) (by kernel_rfl) (fun _ _ _ h => h) (Or.inl ⟨by rfl, ?_⟩) (by assumption) ?_
    rotate_left
    · (intro w hSw; (try dsimp only at hSw); go_simp; (try with_reducible rfl))
    try simp only [Act.put, List.setIfInBounds_toArray, List.set_cons_zero, List.set_cons_succ]
    refine wpAnyH_take (i := 6) (v := ?_) rfl (by kernel_rfl) (by kernel_rfl) (by kernel_rfl) (fun _ _ _ h => h) (Or.inl ⟨by rfl, ?_⟩) (by assumption) ?_
    rotate_left
    · (intro w hSw; (try dsimp only at hSw); go_simp; (try with_reducible rfl))
    try simp only [Act.put, List.setIfInBounds_toArray, List.set_cons_zero, List.set_cons_succ]
    refine wpAnyH_take (i := 8) (v := ?_) rfl (by kernel_rfl) (by kernel_rfl) (by kernel_rfl) (fun _ _ _ h => h) (Or.inl ⟨by rfl, ?_⟩) (by assumption) ?_
    rotate_left
    · (intro w hSw; (try dsimp only at hSw); go_simp; (try with_reducible rfl))
    try simp only [Act.put, List.setIfInBounds_toArray, List.set_cons_zero, List.set_cons_succ]
    refine wpAnyH_ready (rs := [7, 11]) (by kernel_rfl) (by simp) ?_
    refine AllReadyH.cons rfl (fun K hK => ?_) (AllReadyH.cons rfl (fun K hK => ?_) AllReadyH.nil)
    · go_simp
      refine (natZerosB_any z.natAbs A n c _ w3.drew Zv3.out.rd Hn.out (by have := Hm.out; omega) Tb3.out.drew).mono ?_
      rintro e y1 ⟨rfl, hb0⟩
      rw [← HTz.out]
      have hb : Below w3.heap.size w3 y1 := belDrew hb0
      refine hK.out _ _ (Bx3.out.next hb).1 (fun hHeld => ?_)
      clear hK K hb0
      have B1 := Lib.hid hb
      clear hb
      try simp only [Act.put, List.setIfInBounds_toArray, List.set_cons_zero, List.set_cons_succ]
      refine wpAnyH_take (i := 9) (v := ?_) rfl (by kernel_rfl) (by kernel_rfl) (by kernel_rfl) (fun _ _ _ h => h) (Or.inl ⟨by rfl, ?_⟩) (by assumption) ?_
      rotate_left
      · (intro w hSw; (try dsimp only at hSw); go_simp; (try with_reducible rfl))
      try simp only [Act.put, List.setIfInBounds_toArray, List.set_cons_zero, List.set_cons_succ]
      refine wpAnyH_take (i := 10) (v := ?_) rfl (by kernel_rfl) (by kernel_rfl) (by kernel_rfl) (fun _ _ _ h => h) (Or.inl ⟨by rfl, ?_⟩) (by assumption) ?_
      rotate_left
      · (intro w hSw; (try dsimp only at hSw); go_simp; (try with_reducible rfl))
      try simp only [Act.put, List.setIfInBounds_toArray, List.set_cons_zero, List.set_cons_succ]
      refine wpAnyH_ready (rs := [11]) (by kernel_rfl) (by simp) ?_
      refine AllReadyH.cons rfl (fun K hK => ?_) AllReadyH.nil
      go_simp
      obtain ⟨y2, hw⟩ : ∃ y2, y2 = y1.alloc (.cells #[.int .i64 0, .bool false, .bool false, .int .i64 0] 109) := ⟨_, rfl⟩
      have R2 : Hid (ERes y2 y1.heap.size) := Lib.hid (by rw [hw]; exact ERes.new _ _)
      have B2 : Hid (Below w3.heap.size w3 y2) := Lib.hid (belNext B1.out (by rw [hw]; exact belAlloc1 _ _))
      rw [← hw]
      refine hK.out _ _ (Bx3.out.next B2.out).1 (fun hHeld => ?_)
      clear hK K hw
      try simp only [Act.put, List.setIfInBounds_toArray, List.set_cons_zero, List.set_cons_succ]
      obtain ⟨⟨r0, r1, r2, r3, r4, r5, r6, r7⟩, r8⟩ := R2.out
      refine wpAnyH_ready (rs := [12]) (by kernel_rfl) (by simp) ?_
      refine AllReadyH.cons rfl (fun K hK => ?_) AllReadyH.nil
      go_simp
      refine hK.out _ (se4 y2 (y1.heap.size) S ob tb (-1)) ((Bx3.out.next (belSe4 B2.out B1.out.size)).1) (fun hHeld => ?_)
      clear hK K hHeld
      try simp only [Act.put, List.setIfInBounds_toArray, List.set_cons_zero, List.set_cons_succ]
      refine wpAnyH_done (by kernel_rfl) ?_ _
      go_wp2_with fail
      go_meet
      exact ⟨y1.heap.size, rfl, (R2.out.made _ _ _ _).1, (R2.out.made _ _ _ _).2, B1.out.size, belSe4 B2.out B1.out.size⟩
    · go_simp
      obtain ⟨y1, hw⟩ : ∃ y1, y1 = (w3.alloc (.cells #[.int .i64 0, .bool false, .bool false, .int .i64 0] 109)).drew := ⟨_, rfl⟩
      have R1 : Hid (ERes y1 w3.heap.size) := Lib.hid (by rw [hw]; exact ERes.new _ _)
      have B1 : Hid (Below w3.heap.size w3 y1) := Lib.hid (by rw [hw]; exact (belAlloc1 _ _).drew)
      rw [← hw]
      refine hK.out _ _ (Bx3.out.next B1.out).1 (fun hHeld => ?_)
      clear hK K hw
      try simp only [Act.put, List.setIfInBounds_toArray, List.set_cons_zero, List.set_cons_succ]
      refine wpAnyH_ready (rs := [7]) (by kernel_rfl) (by simp) ?_
      refine AllReadyH.cons rfl (fun K hK => ?_) AllReadyH.nil
      go_simp
      refine (natZerosB_any z.natAbs A n c _ y1 (Zv3.out.next B1.out).rd Hn.out (by have := Hm.out; omega) (Tb3.out.next B1.out)).mono ?_
      rintro e y2 ⟨rfl, hb⟩
      rw [← HTz.out]
      have B2 := Lib.hid (belNext B1.out hb)
      have R2 := Lib.hid (R1.out.next hb)
      refine hK.out _ _ (Bx3.out.next B2.out).1 (fun hHeld => ?_)
      clear hK K hb R1
      try simp only [Act.put, List.setIfInBounds_toArray, List.set_cons_zero, List.set_cons_succ]
      refine wpAnyH_take (i := 9) (v := ?_) rfl (by kernel_rfl) (by kernel_rfl) (by kernel_rfl) (fun _ _ _ h => h) (Or.inl ⟨by rfl, ?_⟩) (by assumption) ?_
      rotate_left
      · (intro w hSw; (try dsimp only at hSw); go_simp; (try with_reducible rfl))
      try simp only [Act.put, List.setIfInBounds_toArray, List.set_cons_zero, List.set_cons_succ]
      refine wpAnyH_take (i := 10) (v := ?_) rfl (by kernel_rfl) (by kernel_rfl) (by kernel_rfl) (fun _ _ _ h => h) (Or.inl ⟨by rfl, ?_⟩) (by assumption) ?_
      rotate_left
      · (intro w hSw; (try dsimp only at hSw); go_simp; (try with_reducible rfl))
      try simp only [Act.put, List.setIfInBounds_toArray, List.set_cons_zero, List.set_cons_succ]
      obtain ⟨⟨r0, r1, r2, r3, r4, r5, r6, r7⟩, r8⟩ := R2.out
      refine wpAnyH_ready (rs := [12]) (by kernel_rfl) (by simp) ?_
      refine AllReadyH.cons rfl (fun K hK => ?_) AllReadyH.nil
      go_simp
      refine hK.out _ (se4 y2 (w3.heap.size) S ob tb (-1)) ((Bx3.out.next (belSe4 B2.out (Nat.le_refl _))).1) (fun hHeld => ?_)
      clear hK K hHeld
      try simp only [Act.put, List.setIfInBounds_toArray, List.set_cons_zero, List.set_cons_succ]
      refine wpAnyH_done (by kernel_rfl) ?_ _
      go_wp2_with fail
      go_meet
      exact ⟨w3.heap.size, rfl, (R2.out.made _ _ _ _).1, (R2.out.made _ _ _ _).2, (Nat.le_refl _), belSe4 B2.out (Nat.le_refl _)⟩
  case rest =>
    obtain ⟨b7, hu7, hx7, hf7, hb7, hb⟩ := hcut
    subst hu7
    rename World => w4
    have Hb7 : Hid (w3.heap.size ≤ b7) := Lib.hid hb7
    have Ex4 := Lib.hid hx7
    have Fr44 := Lib.hid hf7
    clear hx7 hf7 hb7
    clear hBx0 hBx1 hBx2 hBx3 hRsE0 hRsE1 hRsE2 hRsE3 hRsE4 hRsE5 hRsE6 hRsE7 hRsE8
    have Sz4 := Lib.hid (Below.size hb)
    have Bel4 := Lib.hid (belNext Bel3.out hb)
    have BelO4 := Lib.hid (belNext BelO3.out hb)
    have Bx4 := Lib.hid (Bx3.out.next hb)
    have RsE4 := Lib.hid (RsE3.out.next hb)
    have Zv4 := Lib.hid (Zv3.out.next hb)
    have Tb4 := Lib.hid (Tb3.out.next hb)
    clear hb Bel3 BelO3 Bx3 RsE3 Zv3 Tb3
    obtain ⟨⟨hBx0, hBx1, hBx2⟩, hBx3⟩ := Bx4.out
    obtain ⟨⟨hEx0, hEx1, hEx2, hEx3⟩, hEx4⟩ := Ex4.out
    obtain ⟨⟨hRsE0, hRsE1, hRsE2, hRsE3, hRsE4, hRsE5, hRsE6, hRsE7⟩, hRsE8⟩ := RsE4.out
    obtain ⟨⟨hFr40, hFr41, hFr42, hFr43⟩, hFr44⟩ := Fr44.out
    go_wp2_with fail
    refine (natShr_any z.natAbs k1 A n c _ _ Zv4.out.rd (Nat.le_refl _) Hn.out (by have := Hm.out; omega) (by omega)).mono ?_
    rintro e w5 ⟨A3, rfl, ho9, hb⟩
    have Ho3 := Lib.hid ho9
    clear ho9
    have Sz5 := Lib.hid (Below.size hb)
    have Bel5 := Lib.hid (belNext Bel4.out hb)
    have BelO5 := Lib.hid (belNext BelO4.out hb)
    have Bx5 := Lib.hid (Bx4.out.next hb)
    have RsE5 := Lib.hid (RsE4.out.next hb)
    have Zv5 := Lib.hid (Zv4.out.next hb)
    have Tb5 := Lib.hid (Tb4.out.next hb)
    have Ex5 := Lib.hid (Ex4.out.next hb)
    have Fr45 := Lib.hid (Fr44.out.next hb)
    clear hb Bel4 BelO4 Bx4 RsE4 Zv4 Tb4 Ex4 Fr44 hBx0 hBx1 hBx2 hBx3 hEx0 hEx1 hEx2 hEx3 hEx4 hRsE0 hRsE1 hRsE2 hRsE3 hRsE4 hRsE5 hRsE6 hRsE7 hRsE8 hFr40 hFr41 hFr42 hFr43 hFr44
    obtain ⟨⟨hBx0, hBx1, hBx2⟩, hBx3⟩ := Bx5.out
    obtain ⟨⟨hEx0, hEx1, hEx2, hEx3⟩, hEx4⟩ := Ex5.out
    obtain ⟨⟨hRsE0, hRsE1, hRsE2, hRsE3, hRsE4, hRsE5, hRsE6, hRsE7⟩, hRsE8⟩ := RsE5.out
    obtain ⟨⟨hFr40, hFr41, hFr42, hFr43⟩, hFr44⟩ := Fr45.out
    go_wp2_with fail
    refine (natIntB_any (z.natAbs / 2 ^ k1) A3 _ _ _ _ Ho3.out.rd rfl Hl2.out).mono ?_
    rintro e w6 ⟨rfl, hb⟩
    rw [← HG.out]
    have Sz6 := Lib.hid (Below.size hb)
    have Bel6 := Lib.hid (belNext Bel5.out hb)
    have BelO6 := Lib.hid (belNext BelO5.out hb)
    have Bx6 := Lib.hid (Bx5.out.next hb)
    have RsE6 := Lib.hid (RsE5.out.next hb)
    have Zv6 := Lib.hid (Zv5.out.next hb)
    have Tb6 := Lib.hid (Tb5.out.next hb)
    have Ex6 := Lib.hid (Ex5.out.next hb)
    have Fr46 := Lib.hid (Fr45.out.next hb)
    clear hb Bel5 BelO5 Bx5 RsE5 Zv5 Tb5 Ex5 Fr45 hBx0 hBx1 hBx2 hBx3 hEx0 hEx1 hEx2 hEx3 hEx4 hRsE0 hRsE1 hRsE2 hRsE3 hRsE4 hRsE5 hRsE6 hRsE7 hRsE8 hFr40 hFr41 hFr42 hFr43 hFr44
    obtain ⟨⟨hBx0, hBx1, hBx2⟩, hBx3⟩ := Bx6.out
    obtain ⟨⟨hEx0, hEx1, hEx2, hEx3⟩, hEx4⟩ := Ex6.out
    obtain ⟨⟨hRsE0, hRsE1, hRsE2, hRsE3, hRsE4, hRsE5, hRsE6, hRsE7⟩, hRsE8⟩ := RsE6.out
    obtain ⟨⟨hFr40, hFr41, hFr42, hFr43⟩, hFr44⟩ := Fr46.out
    by_cases hgc : g = 1
    · have hgt : ((g : Int) == 1) = true := by rw [hgc]; rfl
      have hgn : (g == 1) = true := by rw [hgc]; rfl
      have Hgc := Lib.hid hgc
      clear hgc
      go_upto_region 9 with fail
      obtain ⟨w7, hw7⟩ : ∃ w7, w7 = w6.setCell ⟨b7, 3, none⟩ (.int .i64 1) := ⟨_, rfl⟩
      rw [← hw7]
      clear hBx0 hBx1 hBx2 hBx3 hEx0 hEx1 hEx2 hEx3 hEx4 hRsE0 hRsE1 hRsE2 hRsE3 hRsE4 hRsE5 hRsE6 hRsE7 hRsE8 hFr40 hFr41 hFr42 hFr43 hFr44
      have BelO7 : Hid (Below w1.heap.size w1 w7) := Lib.hid (by rw [hw7]; exact BelO6.out.setCell (by have zz0 := Hlt.out; have zz1 := Sz2.out; have zz2 := Sz3.out; have zz3 := Sz4.out; have zz4 := Hb7.out; have zz5 := Sz5.out; have zz6 := Sz6.out; first | omega | (simp; done) | (simp; omega)) _)
      have Bel7 : Hid (Below w.heap.size w w7) := Lib.hid (by rw [hw7]; exact Bel6.out.setCell (by have zz0 := Hlt.out; have zz1 := Sz2.out; have zz2 := Sz3.out; have zz3 := Sz4.out; have zz4 := Hb7.out; have zz5 := Sz5.out; have zz6 := Sz6.out; first | omega | (simp; done) | (simp; omega)) _)
      have Ex7 : Hid (EBox w7 b7 S ob tb 1) := Lib.hid (by rw [hw7]; exact Ex6.out.half _)
      have Fr47 : Hid (Fr4 w7 b7) := Lib.hid (by rw [hw7]; exact Fr46.out.keep _)
      have Sz7 : Hid (w6.heap.size ≤ w7.heap.size) := Lib.hid (by rw [hw7]; simp)
      have Bx7 := Lib.hid (OBx.out.next BelO7.out)
      have RsE7 := Lib.hid (ORs.out.next BelO7.out)
      have Zv7 := Lib.hid (OZv.out.next BelO7.out)
      have Tb7 := Lib.hid (OTb.out.next BelO7.out)
      clear hw7 BelO6 Bel6 Ex6 Fr46 Bx6 RsE6 Zv6 Tb6
      obtain ⟨⟨hBx0, hBx1, hBx2⟩, hBx3⟩ := Bx7.out
      obtain ⟨⟨hEx0, hEx1, hEx2, hEx3⟩, hEx4⟩ := Ex7.out
      obtain ⟨⟨hRsE0, hRsE1, hRsE2, hRsE3, hRsE4, hRsE5, hRsE6, hRsE7⟩, hRsE8⟩ := RsE7.out
      obtain ⟨⟨hFr40, hFr41, hFr42, hFr43⟩, hFr44⟩ := Fr47.out
      go_wp2_with fail
      refine (natZerosB_any z.natAbs A n c _ _ Zv7.out.rd Hn.out (by have := Hm.out; omega) Tb7.out).mono ?_
      rintro e w8 ⟨rfl, hb⟩
      rw [← HTz.out]
      have Sz8 := Lib.hid (Below.size hb)
      have Bel8 := Lib.hid (belNext Bel7.out hb)
      have BelO8 := Lib.hid (belNext BelO7.out hb)
      have Bx8 := Lib.hid (Bx7.out.next hb)
      have RsE8 := Lib.hid (RsE7.out.next hb)
      have Zv8 := Lib.hid (Zv7.out.next hb)
      have Tb8 := Lib.hid (Tb7.out.next hb)
      have Ex8 := Lib.hid (Ex7.out.next hb)
      have Fr48 := Lib.hid (Fr47.out.next hb)
      clear hb Bel7 BelO7 Bx7 RsE7 Zv7 Tb7 Ex7 Fr47 hBx0 hBx1 hBx2 hBx3 hEx0 hEx1 hEx2 hEx3 hEx4 hRsE0 hRsE1 hRsE2 hRsE3 hRsE4 hRsE5 hRsE6 hRsE7 hRsE8 hFr40 hFr41 hFr42 hFr43 hFr44
      obtain ⟨⟨hBx0, hBx1, hBx2⟩, hBx3⟩ := Bx8.out
      obtain ⟨⟨hEx0, hEx1, hEx2, hEx3⟩, hEx4⟩ := Ex8.out
      obtain ⟨⟨hRsE0, hRsE1, hRsE2, hRsE3, hRsE4, hRsE5, hRsE6, hRsE7⟩, hRsE8⟩ := RsE8.out
      obtain ⟨⟨hFr40, hFr41, hFr42, hFr43⟩, hFr44⟩ := Fr48.out
      by_cases hT : T = k1
      · have hTt : ((T : Int) == (k1 : Int)) = true := by rw [hT]; simp
        have hTn : (T == k1) = true := by rw [hT]; simp
        have Hh : Hid (hv = 0) := Lib.hid (by rw [HH.out, if_pos Hgc.out, if_pos hT])
        clear hT
        go_upto_region 11 with fail
        obtain ⟨w9, hw9⟩ : ∃ w9, w9 = w8.setCell ⟨b7, 3, none⟩ (.int .i64 0) := ⟨_, rfl⟩
        rw [← hw9]
        clear hBx0 hBx1 hBx2 hBx3 hEx0 hEx1 hEx2 hEx3 hEx4 hRsE0 hRsE1 hRsE2 hRsE3 hRsE4 hRsE5 hRsE6 hRsE7 hRsE8 hFr40 hFr41 hFr42 hFr43 hFr44
        have BelO9 : Hid (Below w1.heap.size w1 w9) := Lib.hid (by rw [hw9]; exact BelO8.out.setCell (by have zz0 := Hlt.out; have zz1 := Sz2.out; have zz2 := Sz3.out; have zz3 := Sz4.out; have zz4 := Hb7.out; have zz5 := Sz5.out; have zz6 := Sz6.out; have zz7 := Sz7.out; have zz8 := Sz8.out; first | omega | (simp; done) | (simp; omega)) _)
        have Bel9 : Hid (Below w.heap.size w w9) := Lib.hid (by rw [hw9]; exact Bel8.out.setCell (by have zz0 := Hlt.out; have zz1 := Sz2.out; have zz2 := Sz3.out; have zz3 := Sz4.out; have zz4 := Hb7.out; have zz5 := Sz5.out; have zz6 := Sz6.out; have zz7 := Sz7.out; have zz8 := Sz8.out; first | omega | (simp; done) | (simp; omega)) _)
        have Ex9 : Hid (EBox w9 b7 S ob tb 0) := Lib.hid (by rw [hw9]; exact Ex8.out.half _)
        have Fr49 : Hid (Fr4 w9 b7) := Lib.hid (by rw [hw9]; exact Fr48.out.keep _)
        have Sz9 : Hid (w8.heap.size ≤ w9.heap.size) := Lib.hid (by rw [hw9]; simp)
        have Bx9 := Lib.hid (OBx.out.next BelO9.out)
        have RsE9 := Lib.hid (ORs.out.next BelO9.out)
        have Zv9 := Lib.hid (OZv.out.next BelO9.out)
        have Tb9 := Lib.hid (OTb.out.next BelO9.out)
        clear hw9 BelO8 Bel8 Ex8 Fr48 Bx8 RsE8 Zv8 Tb8
        obtain ⟨⟨hBx0, hBx1, hBx2⟩, hBx3⟩ := Bx9.out
        obtain ⟨⟨hEx0, hEx1, hEx2, hEx3⟩, hEx4⟩ := Ex9.out
        obtain ⟨⟨hRsE0, hRsE1, hRsE2, hRsE3, hRsE4, hRsE5, hRsE6, hRsE7⟩, hRsE8⟩ := RsE9.out
        obtain ⟨⟨hFr40, hFr41, hFr42, hFr43⟩, hFr44⟩ := Fr49.out
        go_wp2_with fail
        refine wp_region_held_drew (S := fun w' => (w'.cell? ⟨b7, 0, none⟩ = some (.int .i64 S) ∧ w'.cell? ⟨b7, 1, none⟩ = some (.bool ob) ∧ w'.cell? ⟨b7, 2, none⟩ = some (.bool tb) ∧ w'.cell? ⟨b7, 3, none⟩ = some (.int .i64 0))) (by kernel_rfl) Ex9.out.1 (fun hHeld => ?_)
        clear hBx0 hBx1 hBx2 hBx3 hEx0 hEx1 hEx2 hEx3 hEx4 hRsE0 hRsE1 hRsE2 hRsE3 hRsE4 hRsE5 hRsE6 hRsE7 hRsE8 hFr40 hFr41 hFr42 hFr43 hFr44
        refine wpAnyH_take (i := 0) (v := ?_) rfl (by kernel_rfl) (by kernel_rfl) (by kernel_rfl) (fun _ _ _ h => h) (Or.inl ⟨by rfl, ?_⟩) (by assumption) ?_
        rotate_left
        · (intro w hSw; (try dsimp only at hSw); go_simp; (try with_reducible rfl))
        try simp only [Act.put, List.setIfInBounds_toArray, List.set_cons_zero, List.set_cons_succ]
        refine wpAnyH_take (i := 1) (v := ?_) rfl (by kernel_rfl) (by kernel_rfl) (by kernel_rfl) (fun _ _ _ h => h) (Or.inl ⟨by rfl, ?_⟩) (by assumption) ?_
        rotate_left
        · (intro w hSw; (try dsimp only at hSw); go_simp; (try with_reducible rfl))
        try simp only [Act.put, List.setIfInBounds_toArray, List.set_cons_zero, List.set_cons_succ]
        refine wpAnyH_ready (rs := [2]) (by kernel_rfl) (by simp) ?_
        refine AllReadyH.cons rfl (fun K hK => ?_) AllReadyH.nil
        go_simp
        refine hK.out _ _ hHeld (fun hHeld => ?_)
        clear hK K
        try simp only [Act.put, List.setIfInBounds_toArray, List.set_cons_zero, List.set_cons_succ]
        obtain ⟨⟨hRsE0, hRsE1, hRsE2, hRsE3, hRsE4, hRsE5, hRsE6, hRsE7⟩, hRsE8⟩ := RsE9.out
        refine wpAnyH_ready (rs := [3]) (by kernel_rfl) (by simp) ?_
        refine AllReadyH.cons rfl (fun K hK => ?_) AllReadyH.nil
        go_simp
        refine hK.out _ _ (((((Ex9.out.keep (by have zz0 := Hlt.out; have zz1 := Sz2.out; have zz2 := Sz3.out; have zz3 := Sz4.out; have zz4 := Hb7.out; have zz5 := Sz5.out; have zz6 := Sz6.out; have zz7 := Sz7.out; have zz8 := Sz8.out; have zz9 := Sz9.out; first | omega | (simp; done) | (simp; omega)) _).keep (by have zz0 := Hlt.out; have zz1 := Sz2.out; have zz2 := Sz3.out; have zz3 := Sz4.out; have zz4 := Hb7.out; have zz5 := Sz5.out; have zz6 := Sz6.out; have zz7 := Sz7.out; have zz8 := Sz8.out; have zz9 := Sz9.out; first | omega | (simp; done) | (simp; omega)) _).keep (by have zz0 := Hlt.out; have zz1 := Sz2.out; have zz2 := Sz3.out; have zz3 := Sz4.out; have zz4 := Hb7.out; have zz5 := Sz5.out; have zz6 := Sz6.out; have zz7 := Sz7.out; have zz8 := Sz8.out; have zz9 := Sz9.out; first | omega | (simp; done) | (simp; omega)) _).keep (by have zz0 := Hlt.out; have zz1 := Sz2.out; have zz2 := Sz3.out; have zz3 := Sz4.out; have zz4 := Hb7.out; have zz5 := Sz5.out; have zz6 := Sz6.out; have zz7 := Sz7.out; have zz8 := Sz8.out; have zz9 := Sz9.out; first | omega | (simp; done) | (simp; omega)) _).1) (fun hHeld => ?_)
        clear hK K hHeld
        try simp only [Act.put, List.setIfInBounds_toArray, List.set_cons_zero, List.set_cons_succ]
        refine wpAnyH_done (by kernel_rfl) ?_ _
        go_wp2_with fail
        refine bodyPost_ret (v := .tuple #[.int .i64 M, .agg #[.int .i64 S, .bool ob, .bool tb, .int .i64 0]]) (by simp [results, Tryz.results103, go_sem, hRsE0, hRsE1, hRsE2, hRsE3]) rfl ⟨by rw [Hh.out], ?_⟩
        exact ((((Bel9.out.setCell (by have zz0 := Hlt.out; have zz1 := Sz2.out; have zz2 := Sz3.out; have zz3 := Sz4.out; have zz4 := Hb7.out; have zz5 := Sz5.out; have zz6 := Sz6.out; have zz7 := Sz7.out; have zz8 := Sz8.out; have zz9 := Sz9.out; first | omega | (simp; done) | (simp; omega)) _).setCell (by have zz0 := Hlt.out; have zz1 := Sz2.out; have zz2 := Sz3.out; have zz3 := Sz4.out; have zz4 := Hb7.out; have zz5 := Sz5.out; have zz6 := Sz6.out; have zz7 := Sz7.out; have zz8 := Sz8.out; have zz9 := Sz9.out; first | omega | (simp; done) | (simp; omega)) _).setCell (by have zz0 := Hlt.out; have zz1 := Sz2.out; have zz2 := Sz3.out; have zz3 := Sz4.out; have zz4 := Hb7.out; have zz5 := Sz5.out; have zz6 := Sz6.out; have zz7 := Sz7.out; have zz8 := Sz8.out; have zz9 := Sz9.out; first | omega | (simp; done) | (simp; omega)) _).setCell (by have zz0 := Hlt.out; have zz1 := Sz2.out; have zz2 := Sz3.out; have zz3 := Sz4.out; have zz4 := Hb7.out; have zz5 := Sz5.out; have zz6 := Sz6.out; have zz7 := Sz7.out; have zz8 := Sz8.out; have zz9 := Sz9.out; first | omega | (simp; done) | (simp; omega)) _).drew
      · have hTt : ((T : Int) == (k1 : Int)) = false := beq_false_of_ne (by omega)
        have hTn : (T == k1) = false := beq_false_of_ne hT
        have Hh : Hid (hv = 1) := Lib.hid (by rw [HH.out, if_pos Hgc.out, if_neg hT])
        clear hT
        go_wp2_with fail
        refine wp_region_held_drew (S := fun w' => (w'.cell? ⟨b7, 0, none⟩ = some (.int .i64 S) ∧ w'.cell? ⟨b7, 1, none⟩ = some (.bool ob) ∧ w'.cell? ⟨b7, 2, none⟩ = some (.bool tb) ∧ w'.cell? ⟨b7, 3, none⟩ = some (.int .i64 1))) (by kernel_rfl) Ex8.out.1 (fun hHeld => ?_)
        clear hBx0 hBx1 hBx2 hBx3 hEx0 hEx1 hEx2 hEx3 hEx4 hRsE0 hRsE1 hRsE2 hRsE3 hRsE4 hRsE5 hRsE6 hRsE7 hRsE8 hFr40 hFr41 hFr42 hFr43 hFr44
        refine wpAnyH_take (i := 0) (v := ?_) rfl (by kernel_rfl) (by kernel_rfl) (by kernel_rfl) (fun _ _ _ h => h) (Or.inl ⟨by rfl, ?_⟩) (by assumption) ?_
        rotate_left
        · (intro w hSw; (try dsimp only at hSw); go_simp; (try with_reducible rfl))
        try simp only [Act.put, List.setIfInBounds_toArray, List.set_cons_zero, List.set_cons_succ]
        refine wpAnyH_take (i := 1) (v := ?_) rfl (by kernel_rfl) (by kernel_rfl) (by kernel_rfl) (fun _ _ _ h => h) (Or.inl ⟨by rfl, ?_⟩) (by assumption) ?_
        rotate_left
        · (intro w hSw; (try dsimp only at hSw); go_simp; (try with_reducible rfl))
        try simp only [Act.put, List.setIfInBounds_toArray, List.set_cons_zero, List.set_cons_succ]
        refine wpAnyH_ready (rs := [2]) (by kernel_rfl) (by simp) ?_
        refine AllReadyH.cons rfl (fun K hK => ?_) AllReadyH.nil
        go_simp
        refine hK.out _ _ hHeld (fun hHeld => ?_)
        clear hK K
        try simp only [Act.put, List.setIfInBounds_toArray, List.set_cons_zero, List.set_cons_succ]
        obtain ⟨⟨hRsE0, hRsE1, hRsE2, hRsE3, hRsE4, hRsE5, hRsE6, hRsE7⟩, hRsE8⟩ := RsE8.out
        refine wpAnyH_ready (rs := [3]) (by kernel_rfl) (by simp) ?_
        refine AllReadyH.cons rfl (fun K hK => ?_) AllReadyH.nil
        go_simp
        refine hK.out _ _ (((((Ex8.out.keep (by have zz0 := Hlt.out; have zz1 := Sz2.out; have zz2 := Sz3.out; have zz3 := Sz4.out; have zz4 := Hb7.out; have zz5 := Sz5.out; have zz6 := Sz6.out; have zz7 := Sz7.out; have zz8 := Sz8.out; first | omega | (simp; done) | (simp; omega)) _).keep (by have zz0 := Hlt.out; have zz1 := Sz2.out; have zz2 := Sz3.out; have zz3 := Sz4.out; have zz4 := Hb7.out; have zz5 := Sz5.out; have zz6 := Sz6.out; have zz7 := Sz7.out; have zz8 := Sz8.out; first | omega | (simp; done) | (simp; omega)) _).keep (by have zz0 := Hlt.out; have zz1 := Sz2.out; have zz2 := Sz3.out; have zz3 := Sz4.out; have zz4 := Hb7.out; have zz5 := Sz5.out; have zz6 := Sz6.out; have zz7 := Sz7.out; have zz8 := Sz8.out; first | omega | (simp; done) | (simp; omega)) _).keep (by have zz0 := Hlt.out; have zz1 := Sz2.out; have zz2 := Sz3.out; have zz3 := Sz4.out; have zz4 := Hb7.out; have zz5 := Sz5.out; have zz6 := Sz6.out; have zz7 := Sz7.out; have zz8 := Sz8.out; first | omega | (simp; done) | (simp; omega)) _).1) (fun hHeld => ?_)
        clear hK K hHeld
        try simp only [Act.put, List.setIfInBounds_toArray, List.set_cons_zero, List.set_cons_succ]
        refine wpAnyH_done (by kernel_rfl) ?_ _
        go_wp2_with fail
        refine bodyPost_ret (v := .tuple #[.int .i64 M, .agg #[.int .i64 S, .bool ob, .bool tb, .int .i64 1]]) (by simp [results, Tryz.results103, go_sem, hRsE0, hRsE1, hRsE2, hRsE3]) rfl ⟨by rw [Hh.out], ?_⟩
        exact ((((Bel8.out.setCell (by have zz0 := Hlt.out; have zz1 := Sz2.out; have zz2 := Sz3.out; have zz3 := Sz4.out; have zz4 := Hb7.out; have zz5 := Sz5.out; have zz6 := Sz6.out; have zz7 := Sz7.out; have zz8 := Sz8.out; first | omega | (simp; done) | (simp; omega)) _).setCell (by have zz0 := Hlt.out; have zz1 := Sz2.out; have zz2 := Sz3.out; have zz3 := Sz4.out; have zz4 := Hb7.out; have zz5 := Sz5.out; have zz6 := Sz6.out; have zz7 := Sz7.out; have zz8 := Sz8.out; first | omega | (simp; done) | (simp; omega)) _).setCell (by have zz0 := Hlt.out; have zz1 := Sz2.out; have zz2 := Sz3.out; have zz3 := Sz4.out; have zz4 := Hb7.out; have zz5 := Sz5.out; have zz6 := Sz6.out; have zz7 := Sz7.out; have zz8 := Sz8.out; first | omega | (simp; done) | (simp; omega)) _).setCell (by have zz0 := Hlt.out; have zz1 := Sz2.out; have zz2 := Sz3.out; have zz3 := Sz4.out; have zz4 := Hb7.out; have zz5 := Sz5.out; have zz6 := Sz6.out; have zz7 := Sz7.out; have zz8 := Sz8.out; first | omega | (simp; done) | (simp; omega)) _).drew
    · have hgt : ((g : Int) == 1) = false := beq_false_of_ne (by omega)
      have hgn : (g == 1) = false := beq_false_of_ne hgc
      have Hh : Hid (hv = -1) := Lib.hid (by rw [HH.out, if_neg hgc])
      clear hgc
      go_wp2_with fail
      refine wp_region_held_drew (S := fun w' => (w'.cell? ⟨b7, 0, none⟩ = some (.int .i64 S) ∧ w'.cell? ⟨b7, 1, none⟩ = some (.bool ob) ∧ w'.cell? ⟨b7, 2, none⟩ = some (.bool tb) ∧ w'.cell? ⟨b7, 3, none⟩ = some (.int .i64 (-1)))) (by kernel_rfl) Ex6.out.1 (fun hHeld => ?_)
      clear hBx0 hBx1 hBx2 hBx3 hEx0 hEx1 hEx2 hEx3 hEx4 hRsE0 hRsE1 hRsE2 hRsE3 hRsE4 hRsE5 hRsE6 hRsE7 hRsE8 hFr40 hFr41 hFr42 hFr43 hFr44
      refine wpAnyH_take (i := 0) (v := ?_) rfl (by kernel_rfl) (by kernel_rfl) (by kernel_rfl) (fun _ _ _ h => h) (Or.inl ⟨by rfl, ?_⟩) (by assumption) ?_
      rotate_left
      · (intro w hSw; (try dsimp only at hSw); go_simp; (try with_reducible rfl))
      try simp only [Act.put, List.setIfInBounds_toArray, List.set_cons_zero, List.set_cons_succ]
      refine wpAnyH_take (i := 1) (v := ?_) rfl (by kernel_rfl) (by kernel_rfl) (by kernel_rfl) (fun _ _ _ h => h) (Or.inl ⟨by rfl, ?_⟩) (by assumption) ?_
      rotate_left
      · (intro w hSw; (try dsimp only at hSw); go_simp; (try with_reducible rfl))
      try simp only [Act.put, List.setIfInBounds_toArray, List.set_cons_zero, List.set_cons_succ]
      refine wpAnyH_ready (rs := [2]) (by kernel_rfl) (by simp) ?_
      refine AllReadyH.cons rfl (fun K hK => ?_) AllReadyH.nil
      go_simp
      refine hK.out _ _ hHeld (fun hHeld => ?_)
      clear hK K
      try simp only [Act.put, List.setIfInBounds_toArray, List.set_cons_zero, List.set_cons_succ]
      obtain ⟨⟨hRsE0, hRsE1, hRsE2, hRsE3, hRsE4, hRsE5, hRsE6, hRsE7⟩, hRsE8⟩ := RsE6.out
      refine wpAnyH_ready (rs := [3]) (by kernel_rfl) (by simp) ?_
      refine AllReadyH.cons rfl (fun K hK => ?_) AllReadyH.nil
      go_simp
      refine hK.out _ _ (((((Ex6.out.keep (by have zz0 := Hlt.out; have zz1 := Sz2.out; have zz2 := Sz3.out; have zz3 := Sz4.out; have zz4 := Hb7.out; have zz5 := Sz5.out; have zz6 := Sz6.out; first | omega | (simp; done) | (simp; omega)) _).keep (by have zz0 := Hlt.out; have zz1 := Sz2.out; have zz2 := Sz3.out; have zz3 := Sz4.out; have zz4 := Hb7.out; have zz5 := Sz5.out; have zz6 := Sz6.out; first | omega | (simp; done) | (simp; omega)) _).keep (by have zz0 := Hlt.out; have zz1 := Sz2.out; have zz2 := Sz3.out; have zz3 := Sz4.out; have zz4 := Hb7.out; have zz5 := Sz5.out; have zz6 := Sz6.out; first | omega | (simp; done) | (simp; omega)) _).keep (by have zz0 := Hlt.out; have zz1 := Sz2.out; have zz2 := Sz3.out; have zz3 := Sz4.out; have zz4 := Hb7.out; have zz5 := Sz5.out; have zz6 := Sz6.out; first | omega | (simp; done) | (simp; omega)) _).1) (fun hHeld => ?_)
      clear hK K hHeld
      try simp only [Act.put, List.setIfInBounds_toArray, List.set_cons_zero, List.set_cons_succ]
      refine wpAnyH_done (by kernel_rfl) ?_ _
      go_wp2_with fail
      refine bodyPost_ret (v := .tuple #[.int .i64 M, .agg #[.int .i64 S, .bool ob, .bool tb, .int .i64 (-1)]]) (by simp [results, Tryz.results103, go_sem, hRsE0, hRsE1, hRsE2, hRsE3]) rfl ⟨by rw [Hh.out], ?_⟩
      exact ((((Bel6.out.setCell (by have zz0 := Hlt.out; have zz1 := Sz2.out; have zz2 := Sz3.out; have zz3 := Sz4.out; have zz4 := Hb7.out; have zz5 := Sz5.out; have zz6 := Sz6.out; first | omega | (simp; done) | (simp; omega)) _).setCell (by have zz0 := Hlt.out; have zz1 := Sz2.out; have zz2 := Sz3.out; have zz3 := Sz4.out; have zz4 := Hb7.out; have zz5 := Sz5.out; have zz6 := Sz6.out; first | omega | (simp; done) | (simp; omega)) _).setCell (by have zz0 := Hlt.out; have zz1 := Sz2.out; have zz2 := Sz3.out; have zz3 := Sz4.out; have zz4 := Hb7.out; have zz5 := Sz5.out; have zz6 := Sz6.out; first | omega | (simp; done) | (simp; omega)) _).setCell (by have zz0 := Hlt.out; have zz1 := Sz2.out; have zz2 := Sz3.out; have zz3 := Sz4.out; have zz4 := Hb7.out; have zz5 := Sz5.out; have zz6 := Sz6.out; first | omega | (simp; done) | (simp; omega)) _).drew

end Go.Proofs.YtngminjncdfjdaaGreatDoor
/- Cuts to the step of a float, infinite floats, opposites, of the program. -/
namespace Go.Proofs.YtngminjncdfjdaaGreatDoor
set_option maxRecDepth 100000
open Go.RowKit
set_option linter.unusedSimpArgs false
set_option linter.unusedVariables false
attribute [local go_sem ↓] Go.wp_at_zero Go.wp_at_succ

theorem limbs_small {x : Nat} (h : x < 16777216) : (limbs x).length ≤ 2 :=
  Nat.le_trans ((limbs_len_le (n := 1)).2 (by rw [Bs_pow]; exact h)) (by omega)
/-- a cut to the step of a float -/
theorem implCut_any (z S E q : Int) (A : Option Addr) (n c : Nat) (w : World) (hz : ZV w z S A n c) (hm : (n : Int) ≤ 4000) (hE1 : -20000 ≤ E) (hE2 : E ≤ 20000) (hq1 : -20000 ≤ q) (hq2 : q ≤ 20000) (hx : rT z.natAbs (q - E) < 16777216) (hT : TabZ w) :
    Calls Tryz.prog 103 #[.agg #[.int .i64 S, .slice A n c, .int .i64 E], .int .i64 q] w fun e w' => ∃ o h, e = .returned (.tuple #[.int .i64 (rT z.natAbs (q - E) : Nat), .agg #[.int .i64 S, .bool o, .bool (rB z.natAbs (q - E)), .int .i64 h]]) ∧ (rB z.natAbs (q - E) = true → o = (rT z.natAbs (q - E) % 2 == 1) ∧ h = rH z.natAbs (q - E)) ∧ Below w.heap.size w w' := by
  by_cases hl : q - E ≤ 0
  · obtain ⟨m, hm1⟩ : ∃ m : Nat, q - E = -(m : Int) := ⟨(E - q).toNat, by omega⟩
    have e1 : rT z.natAbs (q - E) = 2 ^ m * z.natAbs := by unfold rT; rw [if_pos hl, hm1, Int.neg_neg, Int.toNat_natCast, Nat.mul_comm]
    have e2 : rB z.natAbs (q - E) = false := by unfold rB; exact decide_eq_false (by omega)
    rw [e2]
    rw [e1] at hx ⊢
    refine (implCutU_any z S E q A n c m w hz hm hE1 hE2 hq1 hq2 hm1 (limbs_small hx)).mono ?_
    rintro e w' ⟨rfl, hb⟩
    exact ⟨false, 0, rfl, fun h => (by cases h), hb⟩
  · obtain ⟨m, hm1⟩ : ∃ m : Nat, q - E = (m : Int) := ⟨(q - E).toNat, by omega⟩
    have e1 : rT z.natAbs (q - E) = z.natAbs / 2 ^ m := by unfold rT; rw [if_neg hl, hm1, Int.toNat_natCast]
    have e2 : rB z.natAbs (q - E) = decide (tz z.natAbs < m) := by
      unfold rB; rw [hm1, Int.toNat_natCast, decide_eq_decide]; omega
    rw [e2]
    rw [e1] at hx ⊢
    refine (implCutD_any z S E q A n c m w hz hm hE1 hE2 hq1 hq2 hm1 (by omega) hx hT).mono ?_
    rintro e w' ⟨rfl, hb⟩
    exact ⟨_, _, rfl, fun _ => ⟨rfl, by rw [hm1]⟩, hb⟩

theorem near64_words (m : Nat) (q : Int) : ∃ r, r < 9223372036854775808 ∧ d64 false m q = r ∧ d64 true m q = 9223372036854775808 + r := by
  have hw : ∀ r, Ieee.double.word false r = r := fun r => by unfold Ieee.Format.word; rw [if_neg (by decide)]; try omega
  have hw2 : ∀ r, Ieee.double.word true r = 9223372036854775808 + r := fun r => by unfold Ieee.Format.word; rw [if_pos rfl]; rfl
  unfold d64 Ieee.Format.nearest
  by_cases h : m = 0
  · rw [if_pos h, if_pos h, hw, hw2]; exact ⟨0, by decide, rfl, rfl⟩
  · rw [if_neg h, if_neg h]
    dsimp only
    rw [cut_even, cut_even, hw, hw2]
    refine ⟨_, ?_, rfl, rfl⟩
    have e := double_inf
    omega
theorem neg64 {m : Nat} {q : Int} : Op.negFloat .f64 (d64 false m q) = d64 true m q := by
  obtain ⟨r, h1, h2, h3⟩ := near64_words m q
  rw [h2, h3]
  show r ^^^ 2 ^ 63 = _
  have e1 := @Nat.xor_mod_two_pow r (2 ^ 63) 63
  have e2 := @Nat.xor_div_two_pow r (2 ^ 63) 63
  have e3 := Nat.div_add_mod (r ^^^ 2 ^ 63) (2 ^ 63)
  rw [e1, e2, Nat.mod_self, Nat.xor_zero, Nat.div_self (by decide)] at e3
  have e4 : r / 2 ^ 63 = 0 := Nat.div_eq_of_lt h1
  have e5 : r % 2 ^ 63 = r := Nat.mod_eq_of_lt h1
  rw [e4, e5] at e3
  rw [← e3]
  rfl
theorem inf_pos (w : World) : Calls Tryz.prog 71 #[.int .i64 1] w fun e w' => e = .returned (.float .f64 9218868437227405312) ∧ w = w' := by
  have hx := run_ffrom64 9218868437227405312
  rw [show ((9218868437227405312 : Nat) : Int) = 9218868437227405312 from rfl] at hx
  go_enter Tryz.func71, Tryz.ntmps71
  go_wp2_with fail
  go_ret
  exact ⟨rfl, rfl⟩
theorem inf_neg (w : World) : Calls Tryz.prog 71 #[.int .i64 (-1)] w fun e w' => e = .returned (.float .f64 18442240474082181120) ∧ w = w' := by
  have hx := run_ffrom64 18442240474082181120
  rw [show ((18442240474082181120 : Nat) : Int) = 18442240474082181120 from rfl] at hx
  go_enter Tryz.func71, Tryz.ntmps71
  go_wp2_with fail
  go_ret
  exact ⟨rfl, rfl⟩
theorem conv_inf_pos : floatToFloatBits .f64 9218868437227405312 .f32 = some 2139095040 := by decide +kernel
theorem conv_inf_neg : floatToFloatBits .f64 18442240474082181120 .f32 = some 4286578688 := by decide +kernel
theorem top_pos : s32 false 16777215 104 = 2139095039 := by decide +kernel
theorem top_neg : s32 true 16777215 104 = 4286578687 := by decide +kernel
theorem len64_top (w : World) : Calls Tryz.prog 105 #[.int .u64 16777216] w fun e w' => e = .returned (.int .i64 25) ∧ w = w' := by
  go_enter Tryz.func105, Tryz.ntmps105
  go_wp2
  go_ret
  exact ⟨ret_int (show wrap64 (24 + wrap64 (Lib.len8 1)) = 25 by decide +kernel), rfl⟩
theorem len64B_any (x : Nat) (w : World) (hx : (x : Int) ≤ 16777216) : Calls Tryz.prog 105 #[.int .u64 x] w fun e w' => e = .returned (.int .i64 (blen x)) ∧ Below w.heap.size w w' := by
  by_cases h : x = 16777216
  · subst h
    rw [show ((16777216 : Nat) : Int) = 16777216 from rfl, blen_top]
    exact (len64_top w).mono fun _ _ h => same_below h
  · exact (len64_any x w (by rw [Bs_eq]; omega)).mono fun _ _ h => same_below h
end Go.Proofs.YtngminjncdfjdaaGreatDoor
/- Rounding to a float of 32 bits, of the program. -/
namespace Go.Proofs.YtngminjncdfjdaaGreatDoor
set_option maxRecDepth 100000
open Go.RowKit
set_option linter.unusedSimpArgs false
set_option linter.unusedVariables false
attribute [local go_sem ↓] Go.wp_at_zero Go.wp_at_succ

theorem blen_bound {z : Int} {n : Nat} (hn : (limbs z.natAbs).length = n) : (blen z.natAbs : Int) ≤ 24 * n := by
  have h := blen_lt.2 (by have h := limbs_len_le.1 (show (limbs z.natAbs).length ≤ n by omega); rw [Bs_pow] at h; exact h)
  omega
theorem store_bool (P : Program) (w : World) (a : Addr) (m : Mode) (b : Bool) : (store a (.bool b) m).run P w = stored P w a (.bool b) m := run_store P w a _ m rfl
theorem sign_pm {z S : Int} (h1 : S = z.sign) (h2 : z ≠ 0) : S = 1 ∨ S = -1 := by
  rcases Int.lt_trichotomy z 0 with h | h | h
  · right; rw [h1]; exact Int.sign_eq_neg_one_of_neg h
  · exact absurd h h2
  · left; rw [h1]; exact Int.sign_eq_one_of_pos h
theorem rd_fin {z E mode q : Int} {M bl : Nat} (h0 : z ≠ 0) (hq : q = rQ z.natAbs E) (hM : M = rM mode z.sign z.natAbs (q - E)) (hb : bl = blen z.natAbs) (ho : ¬ (128 : Int) < (blen M : Int) + q) : rdF z E mode = s32 (decide (z < 0)) M q ∧ rdL z E mode = if rB z.natAbs (q - E) = true then (if (bl : Int) + E ≤ -126 then 3 else 1) else 0 := by
  have e : ¬ rO mode z E = true := by unfold rO; rw [← hq, ← hM]; simpa using ho
  unfold rdF rdL
  rw [if_neg h0, if_neg h0, if_neg e, if_neg e, ← hq, ← hM, ← hb]
  exact ⟨rfl, rfl⟩
theorem rd_over {z E mode q : Int} {M : Nat} (h0 : z ≠ 0) (hq : q = rQ z.natAbs E) (hM : M = rM mode z.sign z.natAbs (q - E)) (ho : (128 : Int) < (blen M : Int) + q) : rdF z E mode = (if away mode z.sign false 1 = true then (if z < 0 then 4286578688 else 2139095040) else (if z < 0 then 4286578687 else 2139095039)) ∧ rdL z E mode = 5 := by
  have e : rO mode z E = true := by unfold rO; rw [← hq, ← hM]; simpa using ho
  unfold rdF rdL
  rw [if_neg h0, if_neg h0, if_pos e, if_pos e]
  exact ⟨rfl, rfl⟩
theorem EBox.made4 {w : World} {b : Nat} {S h : Int} {o t : Bool} (x : EBox w b S o t h) (S' h' : Int) (o' t' : Bool) : EBox ((((w.setCell ⟨b, 0, none⟩ (.int .i64 S')).setCell ⟨b, 1, none⟩ (.bool o')).setCell ⟨b, 2, none⟩ (.bool t')).setCell ⟨b, 3, none⟩ (.int .i64 h')) b S' o' t' h' := by
  obtain ⟨⟨x0, x1, x2, x3⟩, x4⟩ := x
  refine ⟨⟨?_, ?_, ?_, ?_⟩, by simp; exact x4⟩ <;> go_simp
set_option maxHeartbeats 16000000 in
theorem implRound_nz (z S E mode : Int) (A : Option Addr) (n c : Nat) (w : World) (hz : ZV w z S A n c) (h0 : z ≠ 0) (hm : (n : Int) ≤ 200) (hE1 : -15000 ≤ E) (hE2 : E ≤ 15000) (hm1 : 0 ≤ mode) (hm2 : mode ≤ 4) (hT : TabZ w) :
    Calls Tryz.prog 77 #[.agg #[.int .i64 S, .slice A n c, .int .i64 E], .int .i64 mode] w fun e w' => e = .returned (.tuple #[.float .f32 (rdF z E mode), .int .i64 (rdL z E mode)]) ∧ Below w.heap.size w w' := by
  have hst := store_int Tryz.prog
  have hst2 := store_slice Tryz.prog
  have hst3 := store_bool Tryz.prog
  obtain ⟨w1, hw1⟩ : ∃ w1, w1 = w.alloc (.cells #[.int .i64 S, .slice A n c, .int .i64 E] 48) := ⟨_, rfl⟩
  have Bx1 : Hid (DBox w1 w.heap.size S A n c E) := Lib.hid (by rw [hw1]; exact DBox.new _ _ _ _ _ _ _)
  have Bel1 : Hid (Below w.heap.size w w1) := Lib.hid (by rw [hw1]; exact belAlloc1 _ _)
  have Hlw : Hid (w.heap.size ≤ w1.heap.size) := Lib.hid Bel1.out.size
  have Zv1 := Lib.hid (hz.next Bel1.out)
  have Tb1 := Lib.hid (hT.next Bel1.out)
  have Hw := Lib.hid hw1
  have HS : Hid (S = z.sign) := Lib.hid hz.1
  have Hn : Hid ((limbs z.natAbs).length = n) := Lib.hid hz.2.1
  have Hm : Hid ((n : Int) ≤ 200) := Lib.hid hm
  have H0 := Lib.hid h0
  have hv0 : z.natAbs ≠ 0 := by omega
  have hbb := blen_bound Hn.out
  obtain ⟨bl, hbl⟩ : ∃ bl, bl = blen z.natAbs := ⟨_, rfl⟩
  rw [← hbl] at hbb
  have hbl1 : (bl : Int) ≤ 4800 := by omega
  obtain ⟨q, hq⟩ : ∃ q, q = rQ z.natAbs E := ⟨_, rfl⟩
  have Hq : Hid (q = max ((bl : Int) + E - 24) (-149)) := Lib.hid (by rw [hq, hbl]; rfl)
  have hq1 : -149 ≤ q := by have := Hq.out; omega
  have hq2 : q ≤ 19776 := by have := Hq.out; omega
  obtain ⟨T, hTt⟩ : ∃ T, T = rT z.natAbs (q - E) := ⟨_, rfl⟩
  obtain ⟨tb, htb⟩ : ∃ tb, tb = rB z.natAbs (q - E) := ⟨_, rfl⟩
  obtain ⟨M, hM⟩ : ∃ M, M = rM mode z.sign z.natAbs (q - E) := ⟨_, rfl⟩
  have hT1 : (T : Int) ≤ 16777215 := by have := rT_lt hv0 E; rw [hTt, hq]; omega
  have hM1 : (M : Int) ≤ 16777216 := by have := rM_le hv0 mode z.sign E; rw [hM, hq]; omega
  have Hbl := Lib.hid hbl
  have HQ := Lib.hid hq
  have HT := Lib.hid hTt
  have HB := Lib.hid htb
  have HM := Lib.hid hM
  have Hmo := Lib.hid (And.intro hm1 hm2)
  clear hz hw1 hm h0 hv0 hbb hbl hq hTt htb hM hT hm1 hm2
  go_enter Tryz.func77, Tryz.ntmps77
  go_wp2_with fail
  rw [← Hw.out]
  obtain ⟨⟨hBx0, hBx1, hBx2⟩, hBx3⟩ := Bx1.out
  refine (fmt32_any _).mono ?_
  rintro e w2 ⟨rfl, hb⟩
  have Sz2 := Lib.hid (Below.size hb)
  have Bel2 := Lib.hid (belNext Bel1.out hb)
  have Bx2 := Lib.hid (Bx1.out.next hb)
  have Zv2 := Lib.hid (Zv1.out.next hb)
  have Tb2 := Lib.hid (Tb1.out.next hb)
  clear hb Bel1 Bx1 Zv1 Tb1 hBx0 hBx1 hBx2 hBx3
  obtain ⟨⟨hBx0, hBx1, hBx2⟩, hBx3⟩ := Bx2.out
  go_upto_region 2 with fail
  obtain ⟨w3, hw3⟩ : ∃ w3, w3 = w2.alloc (.cells #[.int .i64 24, .int .i64 (-149), .int .i64 128] 105) := ⟨_, rfl⟩
  rw [← hw3]
  obtain ⟨f, hf⟩ : ∃ f, f = w2.heap.size := ⟨_, rfl⟩
  have hb : Below w2.heap.size w2 w3 := by rw [hw3]; exact belAlloc1 _ _
  have Fb3 : Hid (FBox w3 f 24 (-149) 128) := Lib.hid (by rw [hw3, hf]; exact FBox.new _ _ _ _ _)
  have Hf : Hid (w2.heap.size ≤ f) := Lib.hid (by omega)
  rw [← hf]
  clear hw3 hf
  have Sz3 := Lib.hid (Below.size hb)
  have Bel3 := Lib.hid (belNext Bel2.out hb)
  have Bx3 := Lib.hid (Bx2.out.next hb)
  have Zv3 := Lib.hid (Zv2.out.next hb)
  have Tb3 := Lib.hid (Tb2.out.next hb)
  clear hb Bel2 Bx2 Zv2 Tb2 hBx0 hBx1 hBx2 hBx3
  obtain ⟨⟨hBx0, hBx1, hBx2⟩, hBx3⟩ := Bx3.out
  obtain ⟨⟨hFb0, hFb1, hFb2⟩, hFb3⟩ := Fb3.out
  refine wp_region_held_drew (S := fun w' => (w'.cell? ⟨w.heap.size, 0, none⟩ = some (.int .i64 S) ∧ w'.cell? ⟨w.heap.size, 1, none⟩ = some (.slice A n c) ∧ w'.cell? ⟨w.heap.size, 2, none⟩ = some (.int .i64 E)) ∧ (w'.cell? ⟨f, 0, none⟩ = some (.int .i64 24) ∧ w'.cell? ⟨f, 1, none⟩ = some (.int .i64 (-149)) ∧ w'.cell? ⟨f, 2, none⟩ = some (.int .i64 128))) (by kernel_rfl) ⟨Bx3.out.1, Fb3.out.1⟩ (fun hHeld => ?_)
  clear hBx0 hBx1 hBx2 hBx3 hFb0 hFb1 hFb2 hFb3
  refine wpAnyH_take (i := 0) (v := ?_) rfl (by kernel_rfl) (by kernel_rfl) (by kernel_rfl) (fun _ _ _ h => h) (Or.inl ⟨by rfl, ?_⟩) (by assumption) ?_
  rotate_left
  · (intro w hSw; (try dsimp only at hSw); go_simp; (try with_reducible rfl))
  try simp only [Act.put, List.setIfInBounds_toArray, List.set_cons_zero, List.set_cons_succ, List.getElem_toArray, List.getElem_cons_succ, List.getElem_cons_zero]
  refine wpAnyH_take (i := 2) (v := ?_) rfl (by kernel_rfl) (by kernel_rfl) (by kernel_rfl) (fun _ _ _ h => h) (Or.inl ⟨by rfl, ?_⟩) (by assumption) ?_
  rotate_left
  · (intro w hSw; (try dsimp only at hSw); go_simp; (try with_reducible rfl))
  try simp only [Act.put, List.setIfInBounds_toArray, List.set_cons_zero, List.set_cons_succ, List.getElem_toArray, List.getElem_cons_succ, List.getElem_cons_zero]
  refine wpAnyH_take (i := 3) (v := ?_) rfl (by kernel_rfl) (by kernel_rfl) (by kernel_rfl) (fun _ _ _ h => h) (Or.inl ⟨by rfl, ?_⟩) (by assumption) ?_
  rotate_left
  · (intro w hSw; (try dsimp only at hSw); go_simp; (try with_reducible rfl))
  try simp only [Act.put, List.setIfInBounds_toArray, List.set_cons_zero, List.set_cons_succ, List.getElem_toArray, List.getElem_cons_succ, List.getElem_cons_zero]
  refine wpAnyH_take (i := 5) (v := ?_) rfl (by kernel_rfl) (by kernel_rfl) (by kernel_rfl) (fun _ _ _ h => h) (Or.inl ⟨by rfl, ?_⟩) (by assumption) ?_
  rotate_left
  · (intro w hSw; (try dsimp only at hSw); go_simp; (try with_reducible rfl))
  try simp only [Act.put, List.setIfInBounds_toArray, List.set_cons_zero, List.set_cons_succ, List.getElem_toArray, List.getElem_cons_succ, List.getElem_cons_zero]
  refine wpAnyH_take (i := 6) (v := ?_) rfl (by kernel_rfl) (by kernel_rfl) (by kernel_rfl) (fun _ _ _ h => h) (Or.inl ⟨by rfl, ?_⟩) (by assumption) ?_
  rotate_left
  · (intro w hSw; (try dsimp only at hSw); go_simp; (try with_reducible rfl))
  try simp only [Act.put, List.setIfInBounds_toArray, List.set_cons_zero, List.set_cons_succ, List.getElem_toArray, List.getElem_cons_succ, List.getElem_cons_zero]
  refine wpAnyH_ready (rs := [1]) (by kernel_rfl) (by simp) ?_
  refine AllReadyH.cons rfl (fun K hK => ?_) AllReadyH.nil
  go_simp
  refine (implTop_any z S E A n c w3.drew Zv3.out (by have := Hm.out; omega) (by omega) (by omega)).mono ?_
  rintro e w4 ⟨rfl, hb0⟩
  have hb : Below w3.heap.size w3 w4 := belDrew hb0
  rw [← Hbl.out]
  refine hK.out _ _ ⟨(Bx3.out.next hb).1, (Fb3.out.next hb).1⟩ (fun hHeld => ?_)
  clear hK K hb0
  have Sz4 := Lib.hid (Below.size hb)
  have Bel4 := Lib.hid (belNext Bel3.out hb)
  have Bx4 := Lib.hid (Bx3.out.next hb)
  have Zv4 := Lib.hid (Zv3.out.next hb)
  have Tb4 := Lib.hid (Tb3.out.next hb)
  have Fb4 := Lib.hid (Fb3.out.next hb)
  clear hb Bel3 Bx3 Zv3 Tb3 Fb3
  try simp only [Act.put, List.setIfInBounds_toArray, List.set_cons_zero, List.set_cons_succ, List.getElem_toArray, List.getElem_cons_succ, List.getElem_cons_zero]
  have hwr : IntKind.i64.wrap ((bl : Int) + E - 24) = (bl : Int) + E - 24 := IntWalk.i64_in _ (by omega)
  refine wpAnyH_take (i := 4) (v := ?_) rfl (by kernel_rfl) (by kernel_rfl) (by kernel_rfl) (fun _ _ _ h => h) (Or.inl ⟨by rfl, ?_⟩) (by assumption) ?_
  rotate_left
  · (intro w hSw; (try dsimp only at hSw); go_simp; (try with_reducible rfl))
  try simp only [Act.put, List.setIfInBounds_toArray, List.set_cons_zero, List.set_cons_succ, List.getElem_toArray, List.getElem_cons_succ, List.getElem_cons_zero]
  refine wpAnyH_take (i := 7) (v := ?_) rfl (by kernel_rfl) (by kernel_rfl) (by kernel_rfl) (fun _ _ _ h => h) (Or.inl ⟨by rfl, ?_⟩) (by assumption) ?_
  rotate_left
  · (intro w hSw; (try dsimp only at hSw); go_simp; (try with_reducible rfl))
  try simp only [Act.put, List.setIfInBounds_toArray, List.set_cons_zero, List.set_cons_succ, List.getElem_toArray, List.getElem_cons_succ, List.getElem_cons_zero]
  rw [← Hq.out]
  refine wpAnyH_ready (rs := [8]) (by kernel_rfl) (by simp) ?_
  refine AllReadyH.cons rfl (fun K hK => ?_) AllReadyH.nil
  go_simp
  refine hK.out _ _ hHeld (fun hHeld => ?_)
  clear hK K
  try simp only [Act.put, List.setIfInBounds_toArray, List.set_cons_zero, List.set_cons_succ, List.getElem_toArray, List.getElem_cons_succ, List.getElem_cons_zero]
  clear hHeld
  refine wpAnyH_done (by kernel_rfl) ?_ _
  clear hwr
  go_wp2_with fail
  refine (implCut_any z S E q A n c _ Zv4.out (by have := Hm.out; omega) (by omega) (by omega) (by omega) (by omega) (by rw [← HT.out]; omega) Tb4.out).mono ?_
  rintro e w5 ⟨o, h9, rfl, hoh, hb⟩
  rw [← HT.out, ← HB.out]
  rw [← HT.out, ← HB.out] at hoh
  have Hoh := Lib.hid hoh
  clear hoh
  have Sz5 := Lib.hid (Below.size hb)
  have Bel5 := Lib.hid (belNext Bel4.out hb)
  have Bx5 := Lib.hid (Bx4.out.next hb)
  have Zv5 := Lib.hid (Zv4.out.next hb)
  have Tb5 := Lib.hid (Tb4.out.next hb)
  have Fb5 := Lib.hid (Fb4.out.next hb)
  clear hb Bel4 Bx4 Zv4 Tb4 Fb4
  obtain ⟨⟨hBx0, hBx1, hBx2⟩, hBx3⟩ := Bx5.out
  obtain ⟨⟨hFb0, hFb1, hFb2⟩, hFb3⟩ := Fb5.out
  go_upto_region 4 with fail
  obtain ⟨w6, hw6⟩ : ∃ w6, w6 = w5.alloc (.cells #[.int .i64 S, .bool o, .bool tb, .int .i64 h9] 109) := ⟨_, rfl⟩
  rw [← hw6]
  obtain ⟨x, hx⟩ : ∃ x, x = w5.heap.size := ⟨_, rfl⟩
  have hb : Below w5.heap.size w5 w6 := by rw [hw6]; exact belAlloc1 _ _
  have Ex6 : Hid (EBox w6 x S o tb h9) := Lib.hid (by rw [hw6, hx]; exact EBox.new _ _ _ _ _ _)
  have Fr46 : Hid (Fr4 w6 x) := Lib.hid (by rw [hw6, hx]; exact Fr4.new _ _ _ _ _ _)
  have Hx : Hid (w5.heap.size ≤ x) := Lib.hid (by omega)
  rw [← hx]
  clear hw6 hx
  have Sz6 := Lib.hid (Below.size hb)
  have Bel6 := Lib.hid (belNext Bel5.out hb)
  have Bx6 := Lib.hid (Bx5.out.next hb)
  have Zv6 := Lib.hid (Zv5.out.next hb)
  have Tb6 := Lib.hid (Tb5.out.next hb)
  have Fb6 := Lib.hid (Fb5.out.next hb)
  clear hb Bel5 Bx5 Zv5 Tb5 Fb5 hBx0 hBx1 hBx2 hBx3 hFb0 hFb1 hFb2 hFb3
  obtain ⟨⟨hBx0, hBx1, hBx2⟩, hBx3⟩ := Bx6.out
  obtain ⟨⟨hFb0, hFb1, hFb2⟩, hFb3⟩ := Fb6.out
  obtain ⟨⟨hEx0, hEx1, hEx2, hEx3⟩, hEx4⟩ := Ex6.out
  obtain ⟨⟨hFr40, hFr41, hFr42, hFr43⟩, hFr44⟩ := Fr46.out
  obtain ⟨fl, hfl⟩ : ∃ fl : Int, fl = if tb = true then (if (bl : Int) + E ≤ -126 then 3 else 1) else 0 := ⟨_, rfl⟩
  have HF := Lib.hid hfl
  clear hfl
  have hwl : IntKind.i64.wrap (-125) = -125 := IntWalk.i64_in _ (by omega)
  have hor1 : bits .or .i64 0 1 = 1 := by decide +kernel
  have hor2 : bits .or .i64 1 2 = 3 := by decide +kernel
  have BelX6 : Hid (Below w6.heap.size w6 w6) := Lib.hid (Below.refl _ _)
  go_upto_if 28 with fail
  go_cut [8, 10] from 29 to 45 (fun t8 t10 wx => t8 = .int .i64 M ∧ t10 = .int .i64 fl ∧ Below w6.heap.size w6 wx)
  case first =>
    rcases tb with _ | _
    · have HMv : Hid ((M : Int) = T) := Lib.hid (by have h := HM.out; unfold rM at h; rw [← HB.out, ← HT.out, if_neg (by simp)] at h; omega)
      have HFv : Hid (fl = 0) := Lib.hid (by have h := HF.out; simpa using h)
      go_wp2_with fail
      go_meet
      exact ⟨by rw [HMv.out], by rw [HFv.out], Below.refl _ _⟩
    · obtain ⟨rfl, rfl⟩ := Hoh.out rfl
      go_wp2_with fail
      refine wp_region_held_drew (S := fun w' => (w'.cell? ⟨w.heap.size, 0, none⟩ = some (.int .i64 S) ∧ w'.cell? ⟨w.heap.size, 1, none⟩ = some (.slice A n c) ∧ w'.cell? ⟨w.heap.size, 2, none⟩ = some (.int .i64 E)) ∧ (w'.cell? ⟨f, 0, none⟩ = some (.int .i64 24) ∧ w'.cell? ⟨f, 1, none⟩ = some (.int .i64 (-149)) ∧ w'.cell? ⟨f, 2, none⟩ = some (.int .i64 128))) (by kernel_rfl) ⟨Bx6.out.1, Fb6.out.1⟩ (fun hHeld => ?_)
      clear hBx0 hBx1 hBx2 hBx3 hFb0 hFb1 hFb2 hFb3 hEx0 hEx1 hEx2 hEx3 hEx4 hFr40 hFr41 hFr42 hFr43 hFr44
      refine wpAnyH_take (i := 0) (v := ?_) rfl (by kernel_rfl) (by kernel_rfl) (by kernel_rfl) (fun _ _ _ h => h) (Or.inl ⟨by rfl, ?_⟩) (by assumption) ?_
      rotate_left
      · (intro w hSw; (try dsimp only at hSw); go_simp; (try with_reducible rfl))
      try simp only [Act.put, List.setIfInBounds_toArray, List.set_cons_zero, List.set_cons_succ, List.getElem_toArray, List.getElem_cons_succ, List.getElem_cons_zero]
      refine wpAnyH_take (i := 2) (v := ?_) rfl (by kernel_rfl) (by kernel_rfl) (by kernel_rfl) (fun _ _ _ h => h) (Or.inl ⟨by rfl, ?_⟩) (by assumption) ?_
      rotate_left
      · (intro w hSw; (try dsimp only at hSw); go_simp; (try with_reducible rfl))
      try simp only [Act.put, List.setIfInBounds_toArray, List.set_cons_zero, List.set_cons_succ, List.getElem_toArray, List.getElem_cons_succ, List.getElem_cons_zero]
      refine wpAnyH_take (i := 3) (v := ?_) rfl (by kernel_rfl) (by kernel_rfl) (by kernel_rfl) (fun _ _ _ h => h) (Or.inl ⟨by rfl, ?_⟩) (by assumption) ?_
      rotate_left
      · (intro w hSw; (try dsimp only at hSw); go_simp; (try with_reducible rfl))
      try simp only [Act.put, List.setIfInBounds_toArray, List.set_cons_zero, List.set_cons_succ, List.getElem_toArray, List.getElem_cons_succ, List.getElem_cons_zero]
      refine wpAnyH_take (i := 4) (v := ?_) rfl (by kernel_rfl) (by kernel_rfl) (by kernel_rfl) (fun _ _ _ h => h) (Or.inl ⟨by rfl, ?_⟩) (by assumption) ?_
      rotate_left
      · (intro w hSw; (try dsimp only at hSw); go_simp; (try with_reducible rfl))
      try simp only [Act.put, List.setIfInBounds_toArray, List.set_cons_zero, List.set_cons_succ, List.getElem_toArray, List.getElem_cons_succ, List.getElem_cons_zero]
      refine wpAnyH_take (i := 5) (v := ?_) rfl (by kernel_rfl) (by kernel_rfl) (by kernel_rfl) (fun _ _ _ h => h) (Or.inl ⟨by rfl, ?_⟩) (by assumption) ?_
      rotate_left
      · (intro w hSw; (try dsimp only at hSw); go_simp; (try with_reducible rfl))
      try simp only [Act.put, List.setIfInBounds_toArray, List.set_cons_zero, List.set_cons_succ, List.getElem_toArray, List.getElem_cons_succ, List.getElem_cons_zero]
      refine wpAnyH_take (i := 6) (v := ?_) rfl (by kernel_rfl) (by kernel_rfl) (by kernel_rfl) (fun _ _ _ h => h) (Or.inl ⟨by rfl, ?_⟩) (by assumption) ?_
      rotate_left
      · (intro w hSw; (try dsimp only at hSw); go_simp; (try with_reducible rfl))
      try simp only [Act.put, List.setIfInBounds_toArray, List.set_cons_zero, List.set_cons_succ, List.getElem_toArray, List.getElem_cons_succ, List.getElem_cons_zero]
      refine wpAnyH_ready (rs := [1]) (by kernel_rfl) (by simp) ?_
      refine AllReadyH.cons rfl (fun K hK => ?_) AllReadyH.nil
      go_simp
      refine (implTop_any z S E A n c w6.drew Zv6.out (by have := Hm.out; omega) (by omega) (by omega)).mono ?_
      rintro e w7 ⟨rfl, hb0⟩
      have hb : Below w6.heap.size w6 w7 := belDrew hb0
      rw [← Hbl.out]
      refine hK.out _ _ ⟨(Bx6.out.next hb).1, (Fb6.out.next hb).1⟩ (fun hHeld => ?_)
      clear hK K hb0
      have Sz7 := Lib.hid (Below.size hb)
      have Bel7 := Lib.hid (belNext Bel6.out hb)
      have Bx7 := Lib.hid (Bx6.out.next hb)
      have Zv7 := Lib.hid (Zv6.out.next hb)
      have Tb7 := Lib.hid (Tb6.out.next hb)
      have Fb7 := Lib.hid (Fb6.out.next hb)
      have Ex7 := Lib.hid (Ex6.out.next hb)
      have Fr47 := Lib.hid (Fr46.out.next hb)
      have BelX7 := Lib.hid (belNext BelX6.out hb)
      clear hb Bel6 Bx6 Zv6 Tb6 Fb6 Ex6 Fr46 BelX6
      try simp only [Act.put, List.setIfInBounds_toArray, List.set_cons_zero, List.set_cons_succ, List.getElem_toArray, List.getElem_cons_succ, List.getElem_cons_zero]
      refine wpAnyH_take (i := 7) (v := ?_) rfl (by kernel_rfl) (by kernel_rfl) (by kernel_rfl) (fun _ _ _ h => h) (Or.inl ⟨by rfl, ?_⟩) (by assumption) ?_
      rotate_left
      · (intro w hSw; (try dsimp only at hSw); go_simp; (try with_reducible rfl))
      try simp only [Act.put, List.setIfInBounds_toArray, List.set_cons_zero, List.set_cons_succ, List.getElem_toArray, List.getElem_cons_succ, List.getElem_cons_zero]
      clear hHeld
      refine wpAnyH_done (by kernel_rfl) ?_ _
      by_cases hti : (bl : Int) + E ≤ -126
      · have hti2 : decide ((bl : Int) + E < -125) = true := decide_eq_true (by omega)
        have HFv : Hid (fl = 3) := Lib.hid (by rw [HF.out]; simp [hti])
        have hti4 : (bl : Int) + E ≤ -126 := by omega
        clear hti
        obtain ⟨⟨hBx0, hBx1, hBx2⟩, hBx3⟩ := Bx7.out
        obtain ⟨⟨hFb0, hFb1, hFb2⟩, hFb3⟩ := Fb7.out
        obtain ⟨⟨hEx0, hEx1, hEx2, hEx3⟩, hEx4⟩ := Ex7.out
        obtain ⟨⟨hFr40, hFr41, hFr42, hFr43⟩, hFr44⟩ := Fr47.out
        go_wp2_with fail
        refine (leads_any mode S (T % 2 == 1) true (rH z.natAbs (q - E)) _ Hmo.out.1 Hmo.out.2).mono ?_
        rintro e w8 ⟨rfl, hb⟩
        have Sz8 := Lib.hid (Below.size hb)
        have Bel8 := Lib.hid (belNext Bel7.out hb)
        have Bx8 := Lib.hid (Bx7.out.next hb)
        have Zv8 := Lib.hid (Zv7.out.next hb)
        have Tb8 := Lib.hid (Tb7.out.next hb)
        have Fb8 := Lib.hid (Fb7.out.next hb)
        have Ex8 := Lib.hid (Ex7.out.next hb)
        have Fr48 := Lib.hid (Fr47.out.next hb)
        have BelX8 := Lib.hid (belNext BelX7.out hb)
        clear hb Bel7 Bx7 Zv7 Tb7 Fb7 Ex7 Fr47 BelX7 hBx0 hBx1 hBx2 hBx3 hFb0 hFb1 hFb2 hFb3 hEx0 hEx1 hEx2 hEx3 hEx4 hFr40 hFr41 hFr42 hFr43 hFr44
        obtain ⟨⟨hBx0, hBx1, hBx2⟩, hBx3⟩ := Bx8.out
        obtain ⟨⟨hFb0, hFb1, hFb2⟩, hFb3⟩ := Fb8.out
        obtain ⟨⟨hEx0, hEx1, hEx2, hEx3⟩, hEx4⟩ := Ex8.out
        obtain ⟨⟨hFr40, hFr41, hFr42, hFr43⟩, hFr44⟩ := Fr48.out
        by_cases haw : away mode S (T % 2 == 1) (rH z.natAbs (q - E)) = true
        · have HMv : Hid ((M : Int) = T + 1) := Lib.hid (by have h := HM.out; unfold rM at h; rw [← HB.out, ← HT.out, ← HS.out, if_pos ⟨rfl, haw⟩] at h; omega)
          rw [haw]
          clear haw
          go_wp2_with fail
          go_meet
          exact ⟨by rw [HMv.out], by rw [HFv.out], BelX8.out⟩
        · have haw2 : away mode S (T % 2 == 1) (rH z.natAbs (q - E)) = false := by simpa using haw
          have HMv : Hid ((M : Int) = T) := Lib.hid (by have h := HM.out; unfold rM at h; rw [← HB.out, ← HT.out, ← HS.out, if_neg (fun hh => haw hh.2)] at h; omega)
          rw [haw2]
          clear haw haw2
          go_wp2_with fail
          go_meet
          exact ⟨by rw [HMv.out], by rw [HFv.out], BelX8.out⟩
      · have hti2 : decide ((bl : Int) + E < -125) = false := decide_eq_false (by omega)
        have HFv : Hid (fl = 1) := Lib.hid (by rw [HF.out]; simp [hti])
        have hti4 : -125 ≤ (bl : Int) + E := by omega
        clear hti
        obtain ⟨⟨hBx0, hBx1, hBx2⟩, hBx3⟩ := Bx7.out
        obtain ⟨⟨hFb0, hFb1, hFb2⟩, hFb3⟩ := Fb7.out
        obtain ⟨⟨hEx0, hEx1, hEx2, hEx3⟩, hEx4⟩ := Ex7.out
        obtain ⟨⟨hFr40, hFr41, hFr42, hFr43⟩, hFr44⟩ := Fr47.out
        go_wp2_with fail
        refine (leads_any mode S (T % 2 == 1) true (rH z.natAbs (q - E)) _ Hmo.out.1 Hmo.out.2).mono ?_
        rintro e w8 ⟨rfl, hb⟩
        have Sz8 := Lib.hid (Below.size hb)
        have Bel8 := Lib.hid (belNext Bel7.out hb)
        have Bx8 := Lib.hid (Bx7.out.next hb)
        have Zv8 := Lib.hid (Zv7.out.next hb)
        have Tb8 := Lib.hid (Tb7.out.next hb)
        have Fb8 := Lib.hid (Fb7.out.next hb)
        have Ex8 := Lib.hid (Ex7.out.next hb)
        have Fr48 := Lib.hid (Fr47.out.next hb)
        have BelX8 := Lib.hid (belNext BelX7.out hb)
        clear hb Bel7 Bx7 Zv7 Tb7 Fb7 Ex7 Fr47 BelX7 hBx0 hBx1 hBx2 hBx3 hFb0 hFb1 hFb2 hFb3 hEx0 hEx1 hEx2 hEx3 hEx4 hFr40 hFr41 hFr42 hFr43 hFr44
        obtain ⟨⟨hBx0, hBx1, hBx2⟩, hBx3⟩ := Bx8.out
        obtain ⟨⟨hFb0, hFb1, hFb2⟩, hFb3⟩ := Fb8.out
        obtain ⟨⟨hEx0, hEx1, hEx2, hEx3⟩, hEx4⟩ := Ex8.out
        obtain ⟨⟨hFr40, hFr41, hFr42, hFr43⟩, hFr44⟩ := Fr48.out
        by_cases haw : away mode S (T % 2 == 1) (rH z.natAbs (q - E)) = true
        · have HMv : Hid ((M : Int) = T + 1) := Lib.hid (by have h := HM.out; unfold rM at h; rw [← HB.out, ← HT.out, ← HS.out, if_pos ⟨rfl, haw⟩] at h; omega)
          rw [haw]
          clear haw
          go_wp2_with fail
          go_meet
          exact ⟨by rw [HMv.out], by rw [HFv.out], BelX8.out⟩
        · have haw2 : away mode S (T % 2 == 1) (rH z.natAbs (q - E)) = false := by simpa using haw
          have HMv : Hid ((M : Int) = T) := Lib.hid (by have h := HM.out; unfold rM at h; rw [← HB.out, ← HT.out, ← HS.out, if_neg (fun hh => haw hh.2)] at h; omega)
          rw [haw2]
          clear haw haw2
          go_wp2_with fail
          go_meet
          exact ⟨by rw [HMv.out], by rw [HFv.out], BelX8.out⟩
  case rest =>
    obtain ⟨hu8, hu10, hb⟩ := hcut
    subst hu8 hu10
    rename World => w7
    clear hor1 hor2 hwl
    clear hBx0 hBx1 hBx2 hBx3 hFb0 hFb1 hFb2 hFb3 hEx0 hEx1 hEx2 hEx3 hEx4 hFr40 hFr41 hFr42 hFr43 hFr44
    have Sz7 := Lib.hid (Below.size hb)
    have Bel7 := Lib.hid (belNext Bel6.out hb)
    have Bx7 := Lib.hid (Bx6.out.next hb)
    have Zv7 := Lib.hid (Zv6.out.next hb)
    have Tb7 := Lib.hid (Tb6.out.next hb)
    have Fb7 := Lib.hid (Fb6.out.next hb)
    have Ex7 := Lib.hid (Ex6.out.next hb)
    have Fr47 := Lib.hid (Fr46.out.next hb)
    have BelX7 := Lib.hid (belNext BelX6.out hb)
    clear hb Bel6 Bx6 Zv6 Tb6 Fb6 Ex6 Fr46 BelX6
    have hwu : IntKind.u64.wrap (M : Int) = M := IntWalk.u64_in _ (by omega)
    obtain ⟨bm, hbm⟩ : ∃ bm, bm = blen M := ⟨_, rfl⟩
    have hbm1 : (bm : Int) ≤ 25 := by have := blen_lt.2 (show M < 2 ^ 25 by omega); omega
    have Hbm := Lib.hid hbm
    clear hbm
    have hwr : IntKind.i64.wrap ((bm : Int) + q) = (bm : Int) + q := IntWalk.i64_in _ (by omega)
    obtain ⟨⟨hBx0, hBx1, hBx2⟩, hBx3⟩ := Bx7.out
    obtain ⟨⟨hFb0, hFb1, hFb2⟩, hFb3⟩ := Fb7.out
    obtain ⟨⟨hEx0, hEx1, hEx2, hEx3⟩, hEx4⟩ := Ex7.out
    obtain ⟨⟨hFr40, hFr41, hFr42, hFr43⟩, hFr44⟩ := Fr47.out
    go_wp2_with fail
    refine wp_region_held_drew (S := fun w' => (w'.cell? ⟨f, 0, none⟩ = some (.int .i64 24) ∧ w'.cell? ⟨f, 1, none⟩ = some (.int .i64 (-149)) ∧ w'.cell? ⟨f, 2, none⟩ = some (.int .i64 128))) (by kernel_rfl) Fb7.out.1 (fun hHeld => ?_)
    clear hBx0 hBx1 hBx2 hBx3 hFb0 hFb1 hFb2 hFb3 hEx0 hEx1 hEx2 hEx3 hEx4 hFr40 hFr41 hFr42 hFr43 hFr44
    refine wpAnyH_take (i := 0) (v := ?_) rfl (by kernel_rfl) (by kernel_rfl) (by kernel_rfl) (fun _ _ _ h => h) (Or.inl ⟨by rfl, ?_⟩) (by assumption) ?_
    rotate_left
    · (intro w hSw; (try dsimp only at hSw); go_simp; (try with_reducible rfl))
    try simp only [Act.put, List.setIfInBounds_toArray, List.set_cons_zero, List.set_cons_succ, List.getElem_toArray, List.getElem_cons_succ, List.getElem_cons_zero]
    refine wpAnyH_take (i := 1) (v := ?_) rfl (by kernel_rfl) (by kernel_rfl) (by kernel_rfl) (fun _ _ _ h => h) (Or.inl ⟨by rfl, ?_⟩) (by assumption) ?_
    rotate_left
    · (intro w hSw; (try dsimp only at hSw); go_simp; (try with_reducible rfl))
    try simp only [Act.put, List.setIfInBounds_toArray, List.set_cons_zero, List.set_cons_succ, List.getElem_toArray, List.getElem_cons_succ, List.getElem_cons_zero]
    refine wpAnyH_take (i := 3) (v := ?_) rfl (by kernel_rfl) (by kernel_rfl) (by kernel_rfl) (fun _ _ _ h => h) (Or.inl ⟨by rfl, ?_⟩) (by assumption) ?_
    rotate_left
    · (intro w hSw; (try dsimp only at hSw); go_simp; (try with_reducible rfl))
    try simp only [Act.put, List.setIfInBounds_toArray, List.set_cons_zero, List.set_cons_succ, List.getElem_toArray, List.getElem_cons_succ, List.getElem_cons_zero]
    refine wpAnyH_take (i := 5) (v := ?_) rfl (by kernel_rfl) (by kernel_rfl) (by kernel_rfl) (fun _ _ _ h => h) (Or.inl ⟨by rfl, ?_⟩) (by assumption) ?_
    rotate_left
    · (intro w hSw; (try dsimp only at hSw); go_simp; (try with_reducible rfl))
    try simp only [Act.put, List.setIfInBounds_toArray, List.set_cons_zero, List.set_cons_succ, List.getElem_toArray, List.getElem_cons_succ, List.getElem_cons_zero]
    refine wpAnyH_take (i := 6) (v := ?_) rfl (by kernel_rfl) (by kernel_rfl) (by kernel_rfl) (fun _ _ _ h => h) (Or.inl ⟨by rfl, ?_⟩) (by assumption) ?_
    rotate_left
    · (intro w hSw; (try dsimp only at hSw); go_simp; (try with_reducible rfl))
    try simp only [Act.put, List.setIfInBounds_toArray, List.set_cons_zero, List.set_cons_succ, List.getElem_toArray, List.getElem_cons_succ, List.getElem_cons_zero]
    refine wpAnyH_ready (rs := [2]) (by kernel_rfl) (by simp) ?_
    refine AllReadyH.cons rfl (fun K hK => ?_) AllReadyH.nil
    go_simp
    refine (len64B_any M w7.drew hM1).mono ?_
    rintro e w8 ⟨rfl, hb0⟩
    have hb : Below w7.heap.size w7 w8 := belDrew hb0
    rw [← Hbm.out]
    refine hK.out _ _ ((Fb7.out.next hb).1) (fun hHeld => ?_)
    clear hK K hb0
    have Sz8 := Lib.hid (Below.size hb)
    have Bel8 := Lib.hid (belNext Bel7.out hb)
    have Bx8 := Lib.hid (Bx7.out.next hb)
    have Zv8 := Lib.hid (Zv7.out.next hb)
    have Tb8 := Lib.hid (Tb7.out.next hb)
    have Fb8 := Lib.hid (Fb7.out.next hb)
    have Ex8 := Lib.hid (Ex7.out.next hb)
    have Fr48 := Lib.hid (Fr47.out.next hb)
    have BelX8 := Lib.hid (belNext BelX7.out hb)
    clear hb Bel7 Bx7 Zv7 Tb7 Fb7 Ex7 Fr47 BelX7
    try simp only [Act.put, List.setIfInBounds_toArray, List.set_cons_zero, List.set_cons_succ, List.getElem_toArray, List.getElem_cons_succ, List.getElem_cons_zero]
    refine wpAnyH_take (i := 4) (v := ?_) rfl (by kernel_rfl) (by kernel_rfl) (by kernel_rfl) (fun _ _ _ h => h) (Or.inl ⟨by rfl, ?_⟩) (by assumption) ?_
    rotate_left
    · (intro w hSw; (try dsimp only at hSw); go_simp; (try with_reducible rfl))
    try simp only [Act.put, List.setIfInBounds_toArray, List.set_cons_zero, List.set_cons_succ, List.getElem_toArray, List.getElem_cons_succ, List.getElem_cons_zero]
    refine wpAnyH_take (i := 7) (v := ?_) rfl (by kernel_rfl) (by kernel_rfl) (by kernel_rfl) (fun _ _ _ h => h) (Or.inl ⟨by rfl, ?_⟩) (by assumption) ?_
    rotate_left
    · (intro w hSw; (try dsimp only at hSw); go_simp; (try with_reducible rfl))
    try simp only [Act.put, List.setIfInBounds_toArray, List.set_cons_zero, List.set_cons_succ, List.getElem_toArray, List.getElem_cons_succ, List.getElem_cons_zero]
    clear hHeld
    refine wpAnyH_done (by kernel_rfl) ?_ _
    clear hwu hwr
    have hSS := sign_pm HS.out H0.out
    have hzs : (z < 0 ↔ S = -1) := by rw [HS.out]; exact Int.sign_eq_neg_one_iff_neg.symm
    have HSS := Lib.hid hSS
    have Hzs := Lib.hid hzs
    clear hSS hzs
    by_cases hov : (128 : Int) < (bm : Int) + q
    · have hov2 : decide ((128 : Int) < (bm : Int) + q) = true := decide_eq_true hov
      have Hro := Lib.hid (rd_over H0.out HQ.out HM.out (by rw [← Hbm.out]; exact hov))
      have hor : bits .or .i64 fl 5 = 5 := by
        have h1 := Hq.out
        have h2 : fl = 0 ∨ fl = 1 := by rw [HF.out]; rw [if_neg (show ¬ (bl : Int) + E ≤ -126 by omega)]; cases tb <;> simp
        rcases h2 with h | h <;> rw [h] <;> decide +kernel
      have hw1 : IntKind.i64.wrap 16777215 = 16777215 := IntWalk.i64_in _ (by omega)
      have hw2 : IntKind.i64.wrap 104 = 104 := IntWalk.i64_in _ (by omega)
      have hw3 : IntKind.i64.wrap 16777216 = 16777216 := IntWalk.i64_in _ (by omega)
      obtain ⟨⟨hBx0, hBx1, hBx2⟩, hBx3⟩ := Bx8.out
      obtain ⟨⟨hFb0, hFb1, hFb2⟩, hFb3⟩ := Fb8.out
      obtain ⟨⟨hEx0, hEx1, hEx2, hEx3⟩, hEx4⟩ := Ex8.out
      obtain ⟨⟨hFr40, hFr41, hFr42, hFr43⟩, hFr44⟩ := Fr48.out
      go_wp2_with fail
      refine wp_region_held_drew (S := fun w' => (w'.cell? ⟨f, 0, none⟩ = some (.int .i64 24) ∧ w'.cell? ⟨f, 1, none⟩ = some (.int .i64 (-149)) ∧ w'.cell? ⟨f, 2, none⟩ = some (.int .i64 128))) (by kernel_rfl) Fb8.out.1 (fun hHeld => ?_)
      clear hBx0 hBx1 hBx2 hBx3 hFb0 hFb1 hFb2 hFb3 hEx0 hEx1 hEx2 hEx3 hEx4 hFr40 hFr41 hFr42 hFr43 hFr44
      refine wpAnyH_take (i := 0) (v := ?_) rfl (by kernel_rfl) (by kernel_rfl) (by kernel_rfl) (fun _ _ _ h => h) (Or.inl ⟨by rfl, ?_⟩) (by assumption) ?_
      rotate_left
      · (intro w hSw; (try dsimp only at hSw); go_simp; (try with_reducible rfl))
      try simp only [Act.put, List.setIfInBounds_toArray, List.set_cons_zero, List.set_cons_succ, List.getElem_toArray, List.getElem_cons_succ, List.getElem_cons_zero]
      refine wpAnyH_take (i := 1) (v := ?_) rfl (by kernel_rfl) (by kernel_rfl) (by kernel_rfl) (fun _ _ _ h => h) (Or.inl ⟨by rfl, ?_⟩) (by assumption) ?_
      rotate_left
      · (intro w hSw; (try dsimp only at hSw); go_simp; (try with_reducible rfl))
      try simp only [Act.put, List.setIfInBounds_toArray, List.set_cons_zero, List.set_cons_succ, List.getElem_toArray, List.getElem_cons_succ, List.getElem_cons_zero]
      refine wpAnyH_take (i := 2) (v := ?_) rfl (by kernel_rfl) (by kernel_rfl) (by kernel_rfl) (fun _ _ _ h => h) (Or.inl ⟨by rfl, ?_⟩) (by assumption) ?_
      rotate_left
      · (intro w hSw; (try dsimp only at hSw); go_simp; (try with_reducible rfl))
      try simp only [Act.put, List.setIfInBounds_toArray, List.set_cons_zero, List.set_cons_succ, List.getElem_toArray, List.getElem_cons_succ, List.getElem_cons_zero]
      refine wpAnyH_take (i := 3) (v := ?_) rfl (by kernel_rfl) (by kernel_rfl) (by kernel_rfl) (fun _ _ _ h => h) (Or.inl ⟨by rfl, ?_⟩) (by assumption) ?_
      rotate_left
      · (intro w hSw; (try dsimp only at hSw); go_simp; (try with_reducible rfl))
      try simp only [Act.put, List.setIfInBounds_toArray, List.set_cons_zero, List.set_cons_succ, List.getElem_toArray, List.getElem_cons_succ, List.getElem_cons_zero]
      refine wpAnyH_take (i := 4) (v := ?_) rfl (by kernel_rfl) (by kernel_rfl) (by kernel_rfl) (fun _ _ _ h => h) (Or.inl ⟨by rfl, ?_⟩) (by assumption) ?_
      rotate_left
      · (intro w hSw; (try dsimp only at hSw); go_simp; (try with_reducible rfl))
      try simp only [Act.put, List.setIfInBounds_toArray, List.set_cons_zero, List.set_cons_succ, List.getElem_toArray, List.getElem_cons_succ, List.getElem_cons_zero]
      refine wpAnyH_take (i := 5) (v := ?_) rfl (by kernel_rfl) (by kernel_rfl) (by kernel_rfl) (fun _ _ _ h => h) (Or.inl ⟨by rfl, ?_⟩) (by assumption) ?_
      rotate_left
      · (intro w hSw; (try dsimp only at hSw); go_simp; (try with_reducible rfl))
      try simp only [Act.put, List.setIfInBounds_toArray, List.set_cons_zero, List.set_cons_succ, List.getElem_toArray, List.getElem_cons_succ, List.getElem_cons_zero]
      refine wpAnyH_take (i := 6) (v := ?_) rfl (by kernel_rfl) (by kernel_rfl) (by kernel_rfl) (fun _ _ _ h => h) (Or.inl ⟨by rfl, ?_⟩) (by assumption) ?_
      rotate_left
      · (intro w hSw; (try dsimp only at hSw); go_simp; (try with_reducible rfl))
      try simp only [Act.put, List.setIfInBounds_toArray, List.set_cons_zero, List.set_cons_succ, List.getElem_toArray, List.getElem_cons_succ, List.getElem_cons_zero]
      refine wpAnyH_take (i := 7) (v := ?_) rfl (by kernel_rfl) (by kernel_rfl) (by kernel_rfl) (fun _ _ _ h => h) (Or.inl ⟨by rfl, ?_⟩) (by assumption) ?_
      rotate_left
      · (intro w hSw; (try dsimp only at hSw); go_simp; (try with_reducible rfl))
      try simp only [Act.put, List.setIfInBounds_toArray, List.set_cons_zero, List.set_cons_succ, List.getElem_toArray, List.getElem_cons_succ, List.getElem_cons_zero]
      refine wpAnyH_take (i := 8) (v := ?_) rfl (by kernel_rfl) (by kernel_rfl) (by kernel_rfl) (fun _ _ _ h => h) (Or.inl ⟨by rfl, ?_⟩) (by assumption) ?_
      rotate_left
      · (intro w hSw; (try dsimp only at hSw); go_simp; (try with_reducible rfl))
      try simp only [Act.put, List.setIfInBounds_toArray, List.set_cons_zero, List.set_cons_succ, List.getElem_toArray, List.getElem_cons_succ, List.getElem_cons_zero]
      refine wpAnyH_ready (rs := [9]) (by kernel_rfl) (by simp) ?_
      refine AllReadyH.cons rfl (fun K hK => ?_) AllReadyH.nil
      go_simp
      refine hK.out _ _ hHeld (fun hHeld => ?_)
      clear hK K
      try simp only [Act.put, List.setIfInBounds_toArray, List.set_cons_zero, List.set_cons_succ, List.getElem_toArray, List.getElem_cons_succ, List.getElem_cons_zero]
      refine wpAnyH_ready (rs := [10]) (by kernel_rfl) (by simp) ?_
      refine AllReadyH.cons rfl (fun K hK => ?_) AllReadyH.nil
      go_simp
      refine hK.out _ _ hHeld (fun hHeld => ?_)
      clear hK K
      try simp only [Act.put, List.setIfInBounds_toArray, List.set_cons_zero, List.set_cons_succ, List.getElem_toArray, List.getElem_cons_succ, List.getElem_cons_zero]
      clear hHeld
      refine wpAnyH_done (by kernel_rfl) ?_ _
      obtain ⟨⟨hBx0, hBx1, hBx2⟩, hBx3⟩ := Bx8.out
      obtain ⟨⟨hFb0, hFb1, hFb2⟩, hFb3⟩ := Fb8.out
      obtain ⟨⟨hEx0, hEx1, hEx2, hEx3⟩, hEx4⟩ := Ex8.out
      obtain ⟨⟨hFr40, hFr41, hFr42, hFr43⟩, hFr44⟩ := Fr48.out
      go_upto_region 15 with fail
      obtain ⟨w9, hw9⟩ : ∃ w9, w9 = ((((w8.setCell ⟨x, 0, none⟩ (.int .i64 S)).setCell ⟨x, 1, none⟩ (.bool false)).setCell ⟨x, 2, none⟩ (.bool false)).setCell ⟨x, 3, none⟩ (.int .i64 1)).drew := ⟨_, rfl⟩
      rw [← hw9]
      clear hBx0 hBx1 hBx2 hBx3 hFb0 hFb1 hFb2 hFb3 hEx0 hEx1 hEx2 hEx3 hEx4 hFr40 hFr41 hFr42 hFr43 hFr44
      have Ex9 : Hid (EBox w9 x S false false 1) := Lib.hid (by rw [hw9]; exact (Ex8.out.made4 _ _ _ _).drew)
      have Bel9 : Hid (Below w.heap.size w w9) := Lib.hid (by rw [hw9]; exact ((((Bel8.out.setCell (by have zz0 := Hx.out; have zz1 := Hlw.out; have zz2 := Sz2.out; have zz3 := Sz3.out; have zz4 := Hf.out; have zz5 := Sz4.out; have zz6 := Sz5.out; have zz7 := Sz6.out; have zz8 := Hx.out; have zz9 := Sz7.out; have zz10 := Sz8.out; first | omega | (simp; done) | (simp; omega)) _).setCell (by have zz0 := Hx.out; have zz1 := Hlw.out; have zz2 := Sz2.out; have zz3 := Sz3.out; have zz4 := Hf.out; have zz5 := Sz4.out; have zz6 := Sz5.out; have zz7 := Sz6.out; have zz8 := Hx.out; have zz9 := Sz7.out; have zz10 := Sz8.out; first | omega | (simp; done) | (simp; omega)) _).setCell (by have zz0 := Hx.out; have zz1 := Hlw.out; have zz2 := Sz2.out; have zz3 := Sz3.out; have zz4 := Hf.out; have zz5 := Sz4.out; have zz6 := Sz5.out; have zz7 := Sz6.out; have zz8 := Hx.out; have zz9 := Sz7.out; have zz10 := Sz8.out; first | omega | (simp; done) | (simp; omega)) _).setCell (by have zz0 := Hx.out; have zz1 := Hlw.out; have zz2 := Sz2.out; have zz3 := Sz3.out; have zz4 := Hf.out; have zz5 := Sz4.out; have zz6 := Sz5.out; have zz7 := Sz6.out; have zz8 := Hx.out; have zz9 := Sz7.out; have zz10 := Sz8.out; first | omega | (simp; done) | (simp; omega)) _).drew)
      have Sz9 : Hid (w8.heap.size ≤ w9.heap.size) := Lib.hid (by rw [hw9]; simp)
      clear hw9 Ex8 Bel8 Bx8 Fb8 Fr48
      obtain ⟨⟨hEx0, hEx1, hEx2, hEx3⟩, hEx4⟩ := Ex9.out
      go_wp2_with fail
      refine (leads_any mode S false false 1 _ Hmo.out.1 Hmo.out.2).mono ?_
      rintro e w10 ⟨rfl, hb⟩
      have Sz10 := Lib.hid (Below.size hb)
      have Bel10 := Lib.hid (belNext Bel9.out hb)
      have Ex10 := Lib.hid (Ex9.out.next hb)
      clear hb Bel9 Ex9 hEx0 hEx1 hEx2 hEx3 hEx4
      obtain ⟨⟨hEx0, hEx1, hEx2, hEx3⟩, hEx4⟩ := Ex10.out
      have HSo := HS.out
      by_cases haw : away mode S false 1 = true
      · have Haw := Lib.hid haw
        rw [haw]
        clear haw HSo
        rcases HSS.out with rfl | rfl
        · have Hres : Hid (rdF z E mode = 2139095040 ∧ rdL z E mode = 5) := Lib.hid ⟨by rw [Hro.out.1, ← HS.out, if_pos Haw.out, if_neg (fun h => by have := Hzs.out.1 h; omega)], Hro.out.2⟩
          have hcv : ∀ w, (convert 34 22 (.float .f64 9218868437227405312)).run Tryz.prog w = .ok (.float .f32 2139095040) w := fun w => run_convert_float_float w _ _ _ _ _ _ (by kernel_rfl) (by kernel_rfl) conv_inf_pos
          obtain ⟨⟨hEx0, hEx1, hEx2, hEx3⟩, hEx4⟩ := Ex10.out
          go_wp2_with fail
          refine (inf_pos _).mono ?_
          rintro e w99 ⟨rfl, rfl⟩
          go_wp2_with fail
          go_ret2
          exact ⟨by rw [Hres.out.1, Hres.out.2]; rfl, Bel10.out⟩
        · have Hres : Hid (rdF z E mode = 4286578688 ∧ rdL z E mode = 5) := Lib.hid ⟨by rw [Hro.out.1, ← HS.out, if_pos Haw.out, if_pos (Hzs.out.2 rfl)], Hro.out.2⟩
          have hcv : ∀ w, (convert 34 22 (.float .f64 18442240474082181120)).run Tryz.prog w = .ok (.float .f32 4286578688) w := fun w => run_convert_float_float w _ _ _ _ _ _ (by kernel_rfl) (by kernel_rfl) conv_inf_neg
          obtain ⟨⟨hEx0, hEx1, hEx2, hEx3⟩, hEx4⟩ := Ex10.out
          go_wp2_with fail
          refine (inf_neg _).mono ?_
          rintro e w99 ⟨rfl, rfl⟩
          go_wp2_with fail
          go_ret2
          exact ⟨by rw [Hres.out.1, Hres.out.2]; rfl, Bel10.out⟩
      · have haw2 : away mode S false 1 = false := by simpa using haw
        have Haw := Lib.hid haw2
        rw [haw2]
        clear haw haw2 HSo
        rcases HSS.out with rfl | rfl
        · have Hres : Hid (rdF z E mode = 2139095039 ∧ rdL z E mode = 5) := Lib.hid ⟨by rw [Hro.out.1, ← HS.out, if_neg (by rw [Haw.out]; simp), if_neg (fun h => by have := Hzs.out.1 h; omega)], Hro.out.2⟩
          have hif := int_to_64 16777215
          rw [show ((16777215 : Nat) : Int) = 16777215 from rfl] at hif
          have hcv : ∀ w, (convert 34 22 (.float .f64 (d64 false 16777215 104))).run Tryz.prog w = .ok (.float .f32 2139095039) w := fun w => run_convert_float_float w _ _ _ _ _ _ (by kernel_rfl) (by kernel_rfl) (by rw [← top_pos]; exact conv_6432 false (by decide) (by decide) (by decide))
          obtain ⟨⟨hEx0, hEx1, hEx2, hEx3⟩, hEx4⟩ := Ex10.out
          go_wp2_with fail
          refine (Ldexp_any 16777215 104 _ (by omega) (by omega) (by omega)).mono ?_
          rintro e w99 ⟨rfl, rfl⟩
          go_wp2_with fail
          go_ret2
          exact ⟨by rw [Hres.out.1, Hres.out.2]; rfl, Bel10.out⟩
        · have Hres : Hid (rdF z E mode = 4286578687 ∧ rdL z E mode = 5) := Lib.hid ⟨by rw [Hro.out.1, ← HS.out, if_neg (by rw [Haw.out]; simp), if_pos (Hzs.out.2 rfl)], Hro.out.2⟩
          have hif := int_to_64 16777215
          rw [show ((16777215 : Nat) : Int) = 16777215 from rfl] at hif
          have hcv : ∀ w, (convert 34 22 (.float .f64 (d64 true 16777215 104))).run Tryz.prog w = .ok (.float .f32 4286578687) w := fun w => run_convert_float_float w _ _ _ _ _ _ (by kernel_rfl) (by kernel_rfl) (by rw [← top_neg]; exact conv_6432 true (by decide) (by decide) (by decide))
          have hng := @neg64 16777215 104
          have hop : Op.unary .neg (.float .f64 (d64 false 16777215 104)) = pure (.float .f64 (Op.negFloat .f64 (d64 false 16777215 104))) := rfl
          obtain ⟨⟨hEx0, hEx1, hEx2, hEx3⟩, hEx4⟩ := Ex10.out
          go_wp2_with fail
          refine (Ldexp_any 16777215 104 _ (by omega) (by omega) (by omega)).mono ?_
          rintro e w99 ⟨rfl, rfl⟩
          go_wp2_with fail
          go_ret2
          exact ⟨by rw [Hres.out.1, Hres.out.2]; rfl, Bel10.out⟩
    · have hov2 : decide ((128 : Int) < (bm : Int) + q) = false := decide_eq_false hov
      have hov3 : (bm : Int) + q ≤ 128 := by omega
      have hq104 : q ≤ 104 := by have h1 := (rQ_le (v := z.natAbs) (by have := H0.out; omega) mode z.sign E (by rw [← HQ.out, ← HM.out, ← Hbm.out]; exact hov3)).2; rw [← HQ.out] at h1; exact h1
      have Hrf := Lib.hid (rd_fin H0.out HQ.out HM.out Hbl.out (by rw [← Hbm.out]; exact hov))
      clear hov
      have hMn : M ≤ 16777216 := by omega
      have hbq : (blen M : Int) + q ≤ 128 := by rw [← Hbm.out]; exact hov3
      rcases HSS.out with rfl | rfl
      · have Hres : Hid (rdF z E mode = s32 false M q ∧ rdL z E mode = fl) := Lib.hid ⟨by rw [Hrf.out.1, decide_eq_false (fun h => by have := Hzs.out.1 h; omega)], by rw [Hrf.out.2, ← HB.out, ← HF.out]⟩
        have hcv : ∀ w, (convert 34 22 (.float .f64 (d64 false M q))).run Tryz.prog w = .ok (.float .f32 (s32 false M q)) w := fun w => run_convert_float_float w _ _ _ _ _ _ (by kernel_rfl) (by kernel_rfl) (conv_r false hMn hq1 hq104 hbq)
        have hif := int_to_64 M
        clear hbq
        obtain ⟨⟨hBx0, hBx1, hBx2⟩, hBx3⟩ := Bx8.out
        obtain ⟨⟨hFb0, hFb1, hFb2⟩, hFb3⟩ := Fb8.out
        obtain ⟨⟨hEx0, hEx1, hEx2, hEx3⟩, hEx4⟩ := Ex8.out
        obtain ⟨⟨hFr40, hFr41, hFr42, hFr43⟩, hFr44⟩ := Fr48.out
        go_wp2_with fail
        refine (Ldexp_any M q _ (by omega) (by omega) (by omega)).mono ?_
        rintro e w99 ⟨rfl, rfl⟩
        go_wp2_with fail
        go_ret2
        exact ⟨by rw [Hres.out.1, Hres.out.2]; rfl, Bel8.out⟩
      · have Hres : Hid (rdF z E mode = s32 true M q ∧ rdL z E mode = fl) := Lib.hid ⟨by rw [Hrf.out.1, decide_eq_true (Hzs.out.2 rfl)], by rw [Hrf.out.2, ← HB.out, ← HF.out]⟩
        have hcv : ∀ w, (convert 34 22 (.float .f64 (d64 true M q))).run Tryz.prog w = .ok (.float .f32 (s32 true M q)) w := fun w => run_convert_float_float w _ _ _ _ _ _ (by kernel_rfl) (by kernel_rfl) (conv_r true hMn hq1 hq104 hbq)
        have hif := int_to_64 M
        have hng := @neg64 M q
        have hop : Op.unary .neg (.float .f64 (d64 false M q)) = pure (.float .f64 (Op.negFloat .f64 (d64 false M q))) := rfl
        clear hbq
        obtain ⟨⟨hBx0, hBx1, hBx2⟩, hBx3⟩ := Bx8.out
        obtain ⟨⟨hFb0, hFb1, hFb2⟩, hFb3⟩ := Fb8.out
        obtain ⟨⟨hEx0, hEx1, hEx2, hEx3⟩, hEx4⟩ := Ex8.out
        obtain ⟨⟨hFr40, hFr41, hFr42, hFr43⟩, hFr44⟩ := Fr48.out
        go_wp2_with fail
        refine (Ldexp_any M q _ (by omega) (by omega) (by omega)).mono ?_
        rintro e w99 ⟨rfl, rfl⟩
        go_wp2_with fail
        go_ret2
        exact ⟨by rw [Hres.out.1, Hres.out.2]; rfl, Bel8.out⟩

end Go.Proofs.YtngminjncdfjdaaGreatDoor
/- Rounding to a float of 32 bits, of the program: 0, and every exact number. -/
namespace Go.Proofs.YtngminjncdfjdaaGreatDoor
set_option maxRecDepth 100000
open Go.RowKit
set_option linter.unusedSimpArgs false
set_option linter.unusedVariables false
attribute [local go_sem ↓] Go.wp_at_zero Go.wp_at_succ

theorem rd_zero (E mode : Int) : rdF 0 E mode = 0 ∧ rdL 0 E mode = 0 := by unfold rdF rdL; rw [if_pos rfl, if_pos rfl]; exact ⟨rfl, rfl⟩
end Go.Proofs.YtngminjncdfjdaaGreatDoor
