/- Texts of this seat, joined: Uk Um -/
import Derived.Test.YtngminjncdfjdaaGreatDoorY22
import Derived.Test.YtngminjncdfjdaaGreatDoorV21
import Derived.Test.YtngminjncdfjdaaGreatDoorV9
import Derived.Deep.DeepCutAuto
/- Products of ends of intervals, of the program; whether both ends are finite. -/
namespace Go.Proofs.YtngminjncdfjdaaGreatDoor
set_option maxRecDepth 100000
open Go.RowKit
set_option linter.unusedSimpArgs false
set_option linter.unusedVariables false

set_option maxHeartbeats 1000000 in
theorem implAllFinI_any (l : List Nat) (A : Option Addr) (n c B : Nat) (w : World) (hr : Rd w B A (fs l)) (hn : l.length = n) (hm : (n : Int) ≤ 100) (hl : ∀ f ∈ l, f < 4294967296) :
    Calls Tryz.prog 35 #[.slice A n c] w fun e w' => e = .returned (.bool (l.all fin32)) ∧ w = w' := by
  have Hn := Lib.hid hn
  have Hr := Lib.hid hr
  have Hl := Lib.hid hl
  clear hr hn hl
  go_enter Tryz.func35, Tryz.ntmps35
  go_wp2_with fail
  go_loop [7] (fun i => ∃ k : Nat, k ≤ n ∧ i = .int .i64 k ∧ (l.take k).all fin32 = true) (fun i => n - (intOf i).toNat)
  case atStart => exact ⟨0, Nat.zero_le _, rfl, rfl⟩
  case round =>
    obtain ⟨k, hk, rfl, hall⟩ := hrel
    have Hall := Lib.hid hall
    clear hall
    by_cases hlt : k < n
    · have hkx : k < l.length := by rw [Hn.out]; exact hlt
      obtain ⟨q, hq, _⟩ := Hr.out.some_ (by rw [fs_len]; omega)
      subst hq
      have hcx := Hr.out.cell (k := k) (by rw [fs_len]; exact hkx)
      rw [fs_get hkx] at hcx
      have Hfb := Lib.hid (Hl.out _ (List.getElem_mem hkx))
      by_cases hf : fin32 l[k] = true
      · have Hnx := Lib.hid (all_take hkx Hall.out hf)
        generalize l[k] = x at *
        have Hf := Lib.hid hf
        clear hf hkx
        go_wp2_with fail
        refine (implFinite_any x _ Hfb.out).mono ?_
        rintro e w9 ⟨rfl, rfl⟩
        rw [Hf.out]
        go_wp2_with fail
        go_round
        case rel => exact ⟨k + 1, by omega, by go_num, Hnx.out⟩
        case measure => simp [intOf]; omega
      · have hf2 : fin32 l[k] = false := by simpa using hf
        have Hnx := Lib.hid (not_all hkx hf2)
        generalize l[k] = x at *
        have Hf := Lib.hid hf2
        clear hf hf2 hkx
        go_wp2_with fail
        refine (implFinite_any x _ Hfb.out).mono ?_
        rintro e w9 ⟨rfl, rfl⟩
        rw [Hf.out]
        go_wp2_with fail
        go_ret
        exact ⟨ret_boolI Hnx.out.symm, rfl⟩
    · have hin : k = n := by omega
      have Hal : Hid (l.all fin32 = true) := Lib.hid (by have h := Hall.out; rwa [List.take_of_length_le (by rw [Hn.out]; omega)] at h)
      subst hin
      go_wp2_with fail
      go_ret
      exact ⟨ret_boolI Hal.out.symm, rfl⟩

set_option maxHeartbeats 2000000 in
theorem endTimes_ff (z z' : Int) (S E g S' E' g' : Int) (A A' : Option Addr) (n c n' c' : Nat) (w : World) (hz : ZV w z S A n c) (hz' : ZV w z' S' A' n' c') (hm : (n : Int) ≤ 1000) (hm' : (n' : Int) ≤ 1000) (h1 : -10000 ≤ E) (h2 : E ≤ 10000) (h3 : -10000 ≤ E') (h4 : E' ≤ 10000) (hg1 : -1 ≤ g) (hg2 : g ≤ 1) (hg3 : -1 ≤ g') (hg4 : g' ≤ 1) :
    Calls Tryz.prog 36 #[.agg #[.int .i64 S, .slice A n c, .int .i64 E, .int .i64 g, .bool false], .agg #[.int .i64 S', .slice A' n' c', .int .i64 E', .int .i64 g', .bool false]] w fun e w' => ∃ Sr Ar nr cr, e = .returned (.agg #[.int .i64 Sr, .slice Ar nr cr, .int .i64 (E + E'), .int .i64 (g * g'), .bool false]) ∧ ZV w' (z * z') Sr Ar nr cr ∧ Below w.heap.size w w' := by
  have HX : Hid (∀ w, ZV w z S A n c → ZV w z' S' A' n' c' → _) := Lib.hid (fun w a b => exTimes_any z S E g z' S' E' g' A A' n c n' c' w a b hm hm' (by omega) (by omega) (by omega) (by omega) hg1 hg2 hg3 hg4)
  obtain ⟨q, hq⟩ : ∃ q, q = E + E' := ⟨_, rfl⟩
  obtain ⟨s, hs⟩ : ∃ s, s = g * g' := ⟨_, rfl⟩
  rw [← hq, ← hs] at HX ⊢
  have HZ := Lib.hid (And.intro hz hz')
  clear hz hz' hm hm' h1 h2 h3 h4 hg1 hg2 hg3 hg4 hq hs
  obtain ⟨w1, hw1, hp0, hp1, hr_, hB_⟩ := eb_2r w S S' A A' n n' c c' E E' g g' false false 52 52
  have hst := store_int Tryz.prog
  have hst2 := store_slice Tryz.prog
  have P0_1 := Lib.hid hp0
  have P1_1 := Lib.hid hp1
  have R_1 := Lib.hid hr_
  have B1 := Lib.hid hB_
  have Hw := Lib.hid hw1
  clear hw1 hp0 hp1 hr_ hB_
  obtain ⟨⟨e00, e01, e02, e03, e04⟩, e05⟩ := P0_1.out
  obtain ⟨⟨e10, e11, e12, e13, e14⟩, e15⟩ := P1_1.out
  obtain ⟨⟨r0, r1, r2, r3, r4, r5, r6, r7, r8, r9⟩, r10⟩ := R_1.out
  go_enter Tryz.func36, Tryz.ntmps36
  go_upto_region 1 with fail
  rw [← Hw.out]
  go_wp2_with fail
  refine (HX.out _ (HZ.out.1.next B1.out) (HZ.out.2.next B1.out)).mono ?_
  rintro e w2 ⟨Sr, Ar, nr, cr, rfl, hzo, hb⟩
  have B2 := Lib.hid (belNext B1.out hb)
  have R_2 := Lib.hid (R_1.out.next hb)
  have Z2 := Lib.hid hzo
  have Hl : Hid (w.heap.size + 2 < w1.heap.size) := Lib.hid r10
  clear hb hzo r0 r1 r2 r3 r4 r5 r6 r7 r8 r9 r10 e00 e01 e02 e03 e04 e05 e10 e11 e12 e13 e14 e15
  obtain ⟨⟨r0, r1, r2, r3, r4, r5, r6, r7, r8, r9⟩, r10⟩ := R_2.out
  go_wp2_with fail
  refine bodyPost_ret (v := .agg #[.int .i64 Sr, .slice Ar nr cr, .int .i64 q, .int .i64 s, .bool false]) (by simp [results, Tryz.results36, go_sem, r0, r1, r2, r3, r4]) rfl ⟨Sr, Ar, nr, cr, rfl, ?_, ?_⟩
  · refine ZO.zv (lo := w1.heap.size) (hi := w2.heap.size) ?_
    repeat (first | with_reducible exact Z2.out | with_reducible refine ZO.setCell ?_ (.inl (by have zl := Hl.out; first | omega | (simp; omega))) _)
  · repeat (first | with_reducible exact B2.out | with_reducible exact Below.refl _ _ | with_reducible refine Below.drew ?_ | with_reducible refine Below.alloc ?_ (by first | (simp; done) | (simp; omega)) _ | with_reducible refine Below.setCell ?_ (by first | (simp; done) | (simp; omega)) _)
set_option maxHeartbeats 1000000 in
theorem endPlus_fo (z z' : Int) (S E g S' E' g' : Int) (A A' : Option Addr) (n c n' c' : Nat) (w : World) (hz : ZV w z S A n c) (hz' : ZV w z' S' A' n' c') (hm : (n : Int) ≤ 4000) (hm' : (n' : Int) ≤ 4000) (h1 : -10000 ≤ E) (h2 : E ≤ 10000) (h3 : -10000 ≤ E') (h4 : E' ≤ 10000) (hT : TabZ w) :
    Calls Tryz.prog 31 #[.agg #[.int .i64 S, .slice A n c, .int .i64 E, .int .i64 g, .bool false], .agg #[.int .i64 S', .slice A' n' c', .int .i64 E', .int .i64 g', .bool false]] w fun e w' => ∃ Sr Ar nr cr, e = .returned (.agg #[.int .i64 Sr, .slice Ar nr cr, .int .i64 (min E E'), .int .i64 (sgS g g'), .bool false]) ∧ ZO w' w.heap.size w'.heap.size (sumZ z E z' E') Sr Ar nr cr ∧ Below w.heap.size w w' := by
  have HX : Hid (∀ w, ZV w z S A n c → ZV w z' S' A' n' c' → TabZ w → _) := Lib.hid (fun w a b t => exPlus_any z S E g z' S' E' g' A A' n c n' c' w a b hm hm' h1 h2 h3 h4 t)
  obtain ⟨q, hq⟩ : ∃ q, q = min E E' := ⟨_, rfl⟩
  obtain ⟨s, hs⟩ : ∃ s, s = sgS g g' := ⟨_, rfl⟩
  rw [← hq, ← hs] at HX ⊢
  have HZ := Lib.hid (And.intro hz (And.intro hz' hT))
  clear hz hz' hm hm' h1 h2 h3 h4 hT hq hs
  obtain ⟨w1, hw1, hp0, hp1, hr_, hB_⟩ := eb_2r w S S' A A' n n' c c' E E' g g' false false 52 52
  have hst := store_int Tryz.prog
  have hst2 := store_slice Tryz.prog
  have P0_1 := Lib.hid hp0
  have P1_1 := Lib.hid hp1
  have R_1 := Lib.hid hr_
  have B1 := Lib.hid hB_
  have Hw := Lib.hid hw1
  clear hw1 hp0 hp1 hr_ hB_
  obtain ⟨⟨e00, e01, e02, e03, e04⟩, e05⟩ := P0_1.out
  obtain ⟨⟨e10, e11, e12, e13, e14⟩, e15⟩ := P1_1.out
  obtain ⟨⟨r0, r1, r2, r3, r4, r5, r6, r7, r8, r9⟩, r10⟩ := R_1.out
  go_enter Tryz.func31, Tryz.ntmps31
  go_upto_region 1 with fail
  rw [← Hw.out]
  go_wp2_with fail
  refine (HX.out _ (HZ.out.1.next B1.out) (HZ.out.2.1.next B1.out) (HZ.out.2.2.next B1.out)).mono ?_
  rintro e w2 ⟨Sr, Ar, nr, cr, rfl, hzo, hb⟩
  have B2 := Lib.hid (belNext B1.out hb)
  have R_2 := Lib.hid (R_1.out.next hb)
  have Z2 := Lib.hid hzo
  have Hl : Hid (w.heap.size + 2 < w1.heap.size) := Lib.hid r10
  clear hb hzo r0 r1 r2 r3 r4 r5 r6 r7 r8 r9 r10 e00 e01 e02 e03 e04 e05 e10 e11 e12 e13 e14 e15
  obtain ⟨⟨r0, r1, r2, r3, r4, r5, r6, r7, r8, r9⟩, r10⟩ := R_2.out
  go_wp2_with fail
  refine bodyPost_ret (v := .agg #[.int .i64 Sr, .slice Ar nr cr, .int .i64 q, .int .i64 s, .bool false]) (by simp [results, Tryz.results31, go_sem, r0, r1, r2, r3, r4]) rfl ⟨Sr, Ar, nr, cr, rfl, ?_, ?_⟩
  · refine ZO.wide (lo := w1.heap.size) (hi := w2.heap.size) ?_ (by have := Hl.out; omega) (by simp) (by simp)
    repeat (first | with_reducible exact Z2.out | with_reducible refine ZO.setCell ?_ (.inl (by have zl := Hl.out; first | omega | (simp; omega))) _)
  · repeat (first | with_reducible exact B2.out | with_reducible exact Below.refl _ _ | with_reducible refine Below.drew ?_ | with_reducible refine Below.alloc ?_ (by first | (simp; done) | (simp; omega)) _ | with_reducible refine Below.setCell ?_ (by first | (simp; done) | (simp; omega)) _)
theorem half_facts : fz 1056964608 = 1 ∧ fe 1056964608 = -1 ∧ sgn 1056964608 = 1 ∧ fin32 1056964608 = true := by decide +kernel
/-- an end laid into a box -/
def st5 (w : World) (b : Nat) (S : Int) (A : Option Addr) (n c : Nat) (E g : Int) (i : Bool) : World := ((((w.setCell ⟨b, 0, none⟩ (.int .i64 S)).setCell ⟨b, 1, none⟩ (.slice A n c)).setCell ⟨b, 2, none⟩ (.int .i64 E)).setCell ⟨b, 3, none⟩ (.int .i64 g)).setCell ⟨b, 4, none⟩ (.bool i)
section
variable {w w' : World} {b n c : Nat} {S E g : Int} {A : Option Addr} {i : Bool}
theorem st5_size : (st5 w b S A n c E g i).heap.size = w.heap.size := by unfold st5; simp
theorem st5_heap {k : Nat} (h : k ≠ b) : (st5 w b S A n c E g i).heap[k]? = w.heap[k]? := by
  unfold st5
  rw [Below.heap_setCell _ _ _ _ (by exact h), Below.heap_setCell _ _ _ _ (by exact h), Below.heap_setCell _ _ _ _ (by exact h), Below.heap_setCell _ _ _ _ (by exact h), Below.heap_setCell _ _ _ _ (by exact h)]
theorem st5_cell {k o : Nat} (h : k ≠ b) : (st5 w b S A n c E g i).cell? ⟨k, o, none⟩ = w.cell? ⟨k, o, none⟩ := World.cell?_of_block (a := ⟨k, o, none⟩) (st5_heap h)
theorem IB.st5_ {b' l' h' : Nat} (x : IB w b' l' h') (hne : b' ≠ b) : IB (st5 w b S A n c E g i) b' l' h' :=
  ⟨⟨(st5_cell hne).trans x.1.1, (st5_cell hne).trans x.1.2⟩, by rw [st5_size]; exact x.2⟩
theorem belSt5 {W : World} (x : Below W.heap.size W w) (hb : W.heap.size ≤ b) : Below W.heap.size W (st5 w b S A n c E g i) := ((((x.setCell hb _).setCell hb _).setCell hb _).setCell hb _).setCell hb _
theorem EB.made (x : ER w b) : EB (st5 w b S A n c E g i) b S A n c E g i := by
  obtain ⟨⟨h0, h1, h2, h3, h4, g0, g1, g2, g3, g4⟩, h5⟩ := x
  refine ⟨⟨?_, ?_, ?_, ?_, ?_⟩, by rw [st5_size]; exact h5⟩ <;> · unfold st5; go_simp
theorem ZO.st5_ {lo hi : Nat} {z S' : Int} {A' : Option Addr} {n' c' : Nat} (h : ZO w lo hi z S' A' n' c') (hne : b < lo ∨ hi ≤ b) : ZO (st5 w b S A n c E g i) lo hi z S' A' n' c' :=
  ⟨h.1, h.2.1, h.2.2.1, h.2.2.2.1.keep (fun k h1 h2 _ => st5_heap (by omega)), by rw [st5_size]; exact h.2.2.2.2⟩
end
end Go.Proofs.YtngminjncdfjdaaGreatDoor
/- Middles of intervals, of the program. -/
namespace Go.Proofs.YtngminjncdfjdaaGreatDoor
set_option maxRecDepth 100000
open Go.RowKit
set_option linter.unusedSimpArgs false
set_option linter.unusedVariables false

theorem ER.drew {w : World} {b : Nat} (x : ER w b) : ER w.drew b := x
/-- the middle of an interval with finite ends -/
def mdV (l h : Nat) : Nat := wz (xF (adZ l h) (min (fe l) (fe h) + -1) (sgS (sgn l) (sgn h)) 0)
def mdW (l h : Nat) : Nat := if isI l h = true then if fin32 l = true ∧ fin32 h = true then mdV l h else 0 else 0
def mdC (l h : Nat) : Int := if isI l h = true then if fin32 l = true ∧ fin32 h = true then 0 else 5 else 1
theorem mdW_ok (l h : Nat) : mdW l h < 4294967296 ∧ nan32 (mdW l h) = false := by
  unfold mdW mdV
  split
  · split
    · exact wz_ok _ _ _ _
    · exact ⟨by omega, by decide⟩
  · exact ⟨by omega, by decide⟩
theorem two_ltI {h l : Nat} (x : h < 4294967296 ∧ l < 4294967296) : ∀ f ∈ [h, l], f < 4294967296 := by
  intro f hf
  simp only [List.mem_cons, List.not_mem_nil, or_false] at hf
  rcases hf with rfl | rfl
  · exact x.1
  · exact x.2
theorem sgS_bounds (a b : Nat) : -1 ≤ sgS (sgn a) (sgn b) ∧ sgS (sgn a) (sgn b) ≤ 1 := by
  have h1 := sgn_pm a
  unfold sgS
  split <;> omega
set_option maxHeartbeats 16000000 in
theorem implMiddleW_any (l h : Nat) (w : World) (hl : l < 4294967296) (hh : h < 4294967296) (hT : TabZ w) :
    Calls Tryz.prog 18 #[.agg #[.float .f32 l, .float .f32 h]] w fun e w' => e = .returned (.tuple #[.float .f32 (mdW l h), .int .i64 (mdC l h)]) ∧ Below w.heap.size w w' := by
  have HT := Lib.hid hT
  clear hT
  have HLH := Lib.hid (And.intro hl hh)
  by_cases b1 : isI l h = true
  · obtain ⟨pl, ph, k1, k2, k3⟩ := isI_facts hl hh b1
    have HI : Hid (∀ w, Calls Tryz.prog 29 #[.agg #[.float .f32 l, .float .f32 h]] w fun e w' => e = .returned (.bool true) ∧ Below w.heap.size w w') := Lib.hid (fun w => by rw [← b1]; exact implIsI_any l h w hl hh)
    by_cases ff : fin32 l = true ∧ fin32 h = true
    · have e0 : (.tuple #[.float .f32 (mdW l h), .int .i64 (mdC l h)] : Value) = .tuple #[.float .f32 (mdV l h), .int .i64 0] := by unfold mdW mdC; rw [if_pos b1, if_pos ff, if_pos b1, if_pos ff]
      rw [e0]
      have HA : Hid ([l, h].all fin32 = true) := Lib.hid (by simp [ff.1, ff.2])
      obtain ⟨f1, f2⟩ := ff
      have HL : Hid (∀ w, TabZ w → _) := Lib.hid (fun w t => endOf_f l w pl.1 f1 t)
      have HH : Hid (∀ w, TabZ w → _) := Lib.hid (fun w t => endOf_f h w ph.1 f2 t)
      have HF : Hid (∀ w, TabZ w → _) := Lib.hid (fun w t => endOf_f 1056964608 w (by omega) half_facts.2.2.2 t)
      rw [half_facts.1, half_facts.2.1, half_facts.2.2.1] at HF
      have HE : Hid ((-149 ≤ fe l ∧ fe l ≤ 128) ∧ (-149 ≤ fe h ∧ fe h ≤ 128)) := Lib.hid ⟨fe_small f1, fe_small f2⟩
      obtain ⟨z9, hz9⟩ : ∃ z, z = sumZ (fz l) (fe l) (fz h) (fe h) := ⟨_, rfl⟩
      obtain ⟨m9, hm9⟩ : ∃ m, m = min (fe l) (fe h) := ⟨_, rfl⟩
      obtain ⟨g9, hg9⟩ : ∃ g, g = sgS (sgn l) (sgn h) := ⟨_, rfl⟩
      have HN3 : Hid (∀ n, (limbs z9.natAbs).length = n → (n : Int) ≤ 21) := Lib.hid (fun n x => sum_small (z := fz l) (e := fe l) (z' := fz h) (e' := fe h) (Nat.lt_of_lt_of_le (fz_small f1) (by decide)) (Nat.lt_of_lt_of_le (fz_small f2) (by decide)) (by have := HE.out; omega) (by have := HE.out; omega) (by rw [← hz9]; exact x))
      have HP : Hid (∀ S A n c S' A' n' c' w, ZV w (fz l) S A n c → ZV w (fz h) S' A' n' c' → (n : Int) ≤ 1 → (n' : Int) ≤ 1 → TabZ w → _) := Lib.hid (fun S A n c S' A' n' c' w a b m m' t => endPlus_fo (fz l) (fz h) S (fe l) (sgn l) S' (fe h) (sgn h) A A' n c n' c' w a b (by omega) (by omega) (by have := HE.out; omega) (by have := HE.out; omega) (by have := HE.out; omega) (by have := HE.out; omega) t)
      rw [← hz9, ← hm9, ← hg9] at HP
      have hgb := sgS_bounds l h
      rw [← hg9] at hgb
      have hmb : -149 ≤ m9 ∧ m9 ≤ 128 := by have := HE.out; omega
      have HTM : Hid (∀ S A n c S' A' n' c' w, ZV w z9 S A n c → ZV w 1 S' A' n' c' → (n : Int) ≤ 21 → (n' : Int) ≤ 1 → _) := Lib.hid (fun S A n c S' A' n' c' w a b m m' => endTimes_ff z9 1 S m9 g9 S' (-1) 1 A A' n c n' c' w a b (by omega) (by omega) (by omega) (by omega) (by omega) (by omega) hgb.1 hgb.2 (by omega) (by omega))
      rw [Int.mul_one, Int.mul_one] at HTM
      obtain ⟨m8, hm8⟩ : ∃ m, m = m9 + -1 := ⟨_, rfl⟩
      rw [← hm8] at HTM
      have HFI : Hid (∀ S A n c w, ZV w z9 S A n c → (n : Int) ≤ 21 → TabZ w → _) := Lib.hid (fun S A n c w a m t => floatIn_f z9 S m8 g9 0 A n c w a (by omega) (by omega) (by omega) (by decide) (by decide) t)
      have e1 : mdV l h = wz (xF z9 m8 g9 0) := by unfold mdV adZ; rw [hm8, hm9, hg9, hz9]
      rw [e1]
      obtain ⟨v9, hv9⟩ : ∃ v, v = wz (xF z9 m8 g9 0) := ⟨_, rfl⟩
      rw [← hv9] at HFI ⊢
      clear e0 e1 hz9 hm9 hg9 hm8 hv9 hgb hmb f1 f2 pl ph k1 k2 k3 b1 hl hh
      obtain ⟨w1, hw1, hp0, hB_⟩ := ib_1 w l h 25
      have P0_1 := Lib.hid hp0
      have hst := store_float Tryz.prog
      have B1 := Lib.hid hB_
      have Hw := Lib.hid hw1
      clear hw1 hp0 hB_
      obtain ⟨⟨c00, c01⟩, c02⟩ := P0_1.out
      go_enter Tryz.func18, Tryz.ntmps18
      go_wp2_with fail
      rw [← Hw.out]
      refine (HI.out _).mono ?_
      rintro e w2 ⟨rfl, hb⟩
      have B2 := Lib.hid (belNext B1.out hb)
      have P0_2 := Lib.hid (P0_1.out.next hb)
      clear hb c00 c01 c02
      obtain ⟨⟨c00, c01⟩, c02⟩ := P0_2.out
      go_wp2_with fail
      obtain ⟨w3, hw⟩ : ∃ w3, w3 = w2.alloc (.cells #[.float .f32 l, .float .f32 h] 22) := ⟨_, rfl⟩
      rw [← hw]
      have hb : Below w2.heap.size w2 w3 := by rw [hw]; exact belAlloc1 _ _
      have HR : Hid (Rd w3 w3.heap.size (some ⟨w2.heap.size, 0, none⟩) (fs [l, h])) := Lib.hid (by rw [hw]; exact rd_two _ _ _ _)
      clear hw
      refine (implAllFinI_any [l, h] _ 2 2 _ w3 HR.out rfl (by omega) (two_ltI HLH.out)).mono ?_
      rintro e w9 ⟨rfl, rfl⟩
      rw [HA.out]
      have B3 := Lib.hid (belNext B2.out hb)
      have P0_3 := Lib.hid (P0_2.out.next hb)
      clear hb c00 c01 c02
      obtain ⟨⟨c00, c01⟩, c02⟩ := P0_3.out
      go_wp2_with fail
      go_cut [4] from 15 to 21 (fun t1 wx => ∃ (bq : Nat) (S : Int) (A : Option Addr) (n c : Nat), t1 = .pointer (some ⟨bq, 0, none⟩) ∧ EB wx bq S A n c m9 g9 false ∧ ZV wx z9 S A n c ∧ Below w.heap.size w wx)
      case first =>
        refine wp_region_held_drew (S := fun w' => (w'.cell? ⟨w.heap.size, 0, none⟩ = some (.float .f32 l) ∧ w'.cell? ⟨w.heap.size, 1, none⟩ = some (.float .f32 h))) (by kernel_rfl) P0_3.out.1 (fun hHeld => ?_)
        clear c00 c01 c02
        have Sz3 : Hid (w.heap.size < w3.heap.size) := Lib.hid P0_3.out.2
        refine wpAnyH_take (i := 0) (v := ?_) rfl (by kernel_rfl) (by kernel_rfl) (by kernel_rfl) (fun _ _ _ h => h) (Or.inl ⟨by rfl, ?_⟩) (by assumption) ?_
        rotate_left
        · (intro w hSw; (try dsimp only at hSw); go_simp; (try with_reducible rfl))
        try simp only [Act.put, List.setIfInBounds_toArray, List.set_cons_zero, List.set_cons_succ, List.getElem_toArray, List.getElem_cons_succ, List.getElem_cons_zero]
        refine wpAnyH_take (i := 1) (v := ?_) rfl (by kernel_rfl) (by kernel_rfl) (by kernel_rfl) (fun _ _ _ h => h) (Or.inl ⟨by rfl, ?_⟩) (by assumption) ?_
        rotate_left
        · (intro w hSw; (try dsimp only at hSw); go_simp; (try with_reducible rfl))
        try simp only [Act.put, List.setIfInBounds_toArray, List.set_cons_zero, List.set_cons_succ, List.getElem_toArray, List.getElem_cons_succ, List.getElem_cons_zero]
        refine wpAnyH_take (i := 3) (v := ?_) rfl (by kernel_rfl) (by kernel_rfl) (by kernel_rfl) (fun _ _ _ h => h) (Or.inl ⟨by rfl, ?_⟩) (by assumption) ?_
        rotate_left
        · (intro w hSw; (try dsimp only at hSw); go_simp; (try with_reducible rfl))
        try simp only [Act.put, List.setIfInBounds_toArray, List.set_cons_zero, List.set_cons_succ, List.getElem_toArray, List.getElem_cons_succ, List.getElem_cons_zero]
        refine wpAnyH_take (i := 4) (v := ?_) rfl (by kernel_rfl) (by kernel_rfl) (by kernel_rfl) (fun _ _ _ h => h) (Or.inl ⟨by rfl, ?_⟩) (by assumption) ?_
        rotate_left
        · (intro w hSw; (try dsimp only at hSw); go_simp; (try with_reducible rfl))
        try simp only [Act.put, List.setIfInBounds_toArray, List.set_cons_zero, List.set_cons_succ, List.getElem_toArray, List.getElem_cons_succ, List.getElem_cons_zero]
        refine wpAnyH_ready (rs := [2, 7]) (by kernel_rfl) (by simp) ?_
        refine AllReadyH.cons rfl (fun K hK => ?_) (AllReadyH.cons rfl (fun K hK => ?_) AllReadyH.nil)
        · go_simp
          refine (HL.out w3.drew (HT.out.next B3.out.drew)).mono ?_
          rintro e w4 ⟨S4, A4, n4, c4, rfl, hz, hn4, hb0⟩
          have hb : Below w3.heap.size w3 w4 := belDrew hb0
          refine hK.out _ _ (P0_3.out.next hb).1 (fun hHeld => ?_)
          clear hK K hb0
          have N4 := Lib.hid hn4
          clear hn4
          have B4 := Lib.hid (belNext B3.out hb)
          have P0_4 := Lib.hid (P0_3.out.next hb)
          have Sz4 : Hid (w3.heap.size ≤ w4.heap.size) := Lib.hid hb.size
          clear hb
          have Za_4 := Lib.hid hz
          clear hz
          try simp only [Act.put, List.setIfInBounds_toArray, List.set_cons_zero, List.set_cons_succ, List.getElem_toArray, List.getElem_cons_succ, List.getElem_cons_zero]
          refine wpAnyH_ready (rs := [5, 7]) (by kernel_rfl) (by simp) ?_
          refine AllReadyH.cons rfl (fun K hK => ?_) (AllReadyH.cons rfl (fun K hK => ?_) AllReadyH.nil)
          · go_simp
            refine (HH.out w4 (HT.out.next B4.out)).mono ?_
            rintro e w5 ⟨S5, A5, n5, c5, rfl, hz, hn5, hb0⟩
            have hb : Below w4.heap.size w4 w5 := hb0
            refine hK.out _ _ (P0_4.out.next hb).1 (fun hHeld => ?_)
            clear hK K hb0
            have N5 := Lib.hid hn5
            clear hn5
            have B5 := Lib.hid (belNext B4.out hb)
            have P0_5 := Lib.hid (P0_4.out.next hb)
            have Za_5 := Lib.hid (Za_4.out.next hb)
            have Sz5 : Hid (w4.heap.size ≤ w5.heap.size) := Lib.hid hb.size
            clear hb
            have Zb_5 := Lib.hid hz
            clear hz
            try simp only [Act.put, List.setIfInBounds_toArray, List.set_cons_zero, List.set_cons_succ, List.getElem_toArray, List.getElem_cons_succ, List.getElem_cons_zero]
            refine wpAnyH_ready (rs := [6, 7]) (by kernel_rfl) (by simp) ?_
            refine AllReadyH.cons rfl (fun K hK => ?_) (AllReadyH.cons rfl (fun K hK => ?_) AllReadyH.nil)
            · go_simp
              refine (HP.out S4 A4 n4 c4 S5 A5 n5 c5 w5 Za_5.out Zb_5.out N4.out N5.out (HT.out.next B5.out)).mono ?_
              rintro e w6 ⟨S6, A6, n6, c6, rfl, hz, hb0⟩
              have hb : Below w5.heap.size w5 w6 := hb0
              refine hK.out _ _ (P0_5.out.next hb).1 (fun hHeld => ?_)
              clear hK K hb0
              have B6 := Lib.hid (belNext B5.out hb)
              have P0_6 := Lib.hid (P0_5.out.next hb)
              have Za_6 := Lib.hid (Za_5.out.next hb)
              have Zb_6 := Lib.hid (Zb_5.out.next hb)
              have Sz6 : Hid (w5.heap.size ≤ w6.heap.size) := Lib.hid hb.size
              clear hb
              have Zs_6 := Lib.hid hz
              clear hz
              try simp only [Act.put, List.setIfInBounds_toArray, List.set_cons_zero, List.set_cons_succ, List.getElem_toArray, List.getElem_cons_succ, List.getElem_cons_zero]
              refine wpAnyH_ready (rs := [7]) (by kernel_rfl) (by simp) ?_
              refine AllReadyH.cons rfl (fun K hK => ?_) AllReadyH.nil
              go_simp
              obtain ⟨w7, hw⟩ : ∃ w7, w7 = w6.alloc (.cells #[.int .i64 0, .slice none 0 0, .int .i64 0, .int .i64 0, .bool false] 52) := ⟨_, rfl⟩
              have hb : Below w6.heap.size w6 w7 := by rw [hw]; exact belAlloc1 _ _
              have Sb7 : Hid (w6.heap.size + 1 = w7.heap.size) := Lib.hid (by rw [hw]; simp)
              have R_7 : Hid (ER w7 w6.heap.size) := Lib.hid (by rw [hw]; exact ER.new _ _)
              rw [← hw]
              refine hK.out _ _ (P0_6.out.next hb).1 (fun hHeld => ?_)
              clear hK K hw
              have B7 := Lib.hid (belNext B6.out hb)
              have P0_7 := Lib.hid (P0_6.out.next hb)
              have Za_7 := Lib.hid (Za_6.out.next hb)
              have Zb_7 := Lib.hid (Zb_6.out.next hb)
              have Zs_7 := Lib.hid (Zs_6.out.next hb)
              have Sz7 : Hid (w6.heap.size ≤ w7.heap.size) := Lib.hid hb.size
              clear hb
              try simp only [Act.put, List.setIfInBounds_toArray, List.set_cons_zero, List.set_cons_succ, List.getElem_toArray, List.getElem_cons_succ, List.getElem_cons_zero]
              refine wpAnyH_ready (rs := [8]) (by kernel_rfl) (by simp) ?_
              refine AllReadyH.cons rfl (fun K hK => ?_) AllReadyH.nil
              obtain ⟨⟨r0, r1, r2, r3, r4, r5, r6, r7, r8, r9⟩, r10⟩ := R_7.out
              have hst := store_int Tryz.prog
              have hst2 := store_slice Tryz.prog
              go_simp
              refine hK.out _ (st5 w7 (w6.heap.size) S6 A6 n6 c6 m9 g9 false) (P0_7.out.st5_ (by have zz0 := Sz3.out; have zz1 := Sz4.out; have zz2 := Sz5.out; have zz3 := Sz6.out; have zz4 := Sb7.out; have zz5 := Sz7.out; first | omega | (simp; omega))).1 (fun hHeld => ?_)
              clear hK K hHeld
              try simp only [Act.put, List.setIfInBounds_toArray, List.set_cons_zero, List.set_cons_succ, List.getElem_toArray, List.getElem_cons_succ, List.getElem_cons_zero]
              refine wpAnyH_done (by kernel_rfl) ?_ _
              go_wp2_with fail
              go_meet
              exact ⟨w6.heap.size, S6, A6, n6, c6, rfl, EB.made R_7.out, (Zs_7.out.st5_ (by have zz0 := Sz3.out; have zz1 := Sz4.out; have zz2 := Sz5.out; have zz3 := Sz6.out; have zz4 := Sb7.out; have zz5 := Sz7.out; first | omega | (simp; omega))).zv, belSt5 B7.out (by have zz0 := Sz3.out; have zz1 := Sz4.out; have zz2 := Sz5.out; have zz3 := Sz6.out; have zz4 := Sb7.out; have zz5 := Sz7.out; first | omega | (simp; omega))⟩
            · go_simp
              obtain ⟨w6, hw⟩ : ∃ w6, w6 = w5.alloc (.cells #[.int .i64 0, .slice none 0 0, .int .i64 0, .int .i64 0, .bool false] 52) := ⟨_, rfl⟩
              have hb : Below w5.heap.size w5 w6 := by rw [hw]; exact belAlloc1 _ _
              have Sb6 : Hid (w5.heap.size + 1 = w6.heap.size) := Lib.hid (by rw [hw]; simp)
              have R_6 : Hid (ER w6 w5.heap.size) := Lib.hid (by rw [hw]; exact ER.new _ _)
              rw [← hw]
              refine hK.out _ _ (P0_5.out.next hb).1 (fun hHeld => ?_)
              clear hK K hw
              have B6 := Lib.hid (belNext B5.out hb)
              have P0_6 := Lib.hid (P0_5.out.next hb)
              have Za_6 := Lib.hid (Za_5.out.next hb)
              have Zb_6 := Lib.hid (Zb_5.out.next hb)
              have Sz6 : Hid (w5.heap.size ≤ w6.heap.size) := Lib.hid hb.size
              clear hb
              try simp only [Act.put, List.setIfInBounds_toArray, List.set_cons_zero, List.set_cons_succ, List.getElem_toArray, List.getElem_cons_succ, List.getElem_cons_zero]
              refine wpAnyH_ready (rs := [6]) (by kernel_rfl) (by simp) ?_
              refine AllReadyH.cons rfl (fun K hK => ?_) AllReadyH.nil
              go_simp
              refine (HP.out S4 A4 n4 c4 S5 A5 n5 c5 w6 Za_6.out Zb_6.out N4.out N5.out (HT.out.next B6.out)).mono ?_
              rintro e w7 ⟨S6, A6, n6, c6, rfl, hz, hb0⟩
              have hb : Below w6.heap.size w6 w7 := hb0
              refine hK.out _ _ (P0_6.out.next hb).1 (fun hHeld => ?_)
              clear hK K hb0
              have B7 := Lib.hid (belNext B6.out hb)
              have P0_7 := Lib.hid (P0_6.out.next hb)
              have Za_7 := Lib.hid (Za_6.out.next hb)
              have Zb_7 := Lib.hid (Zb_6.out.next hb)
              have R_7 := Lib.hid (R_6.out.next hb)
              have Sz7 : Hid (w6.heap.size ≤ w7.heap.size) := Lib.hid hb.size
              clear hb
              have Zs_7 := Lib.hid hz
              clear hz
              try simp only [Act.put, List.setIfInBounds_toArray, List.set_cons_zero, List.set_cons_succ, List.getElem_toArray, List.getElem_cons_succ, List.getElem_cons_zero]
              refine wpAnyH_ready (rs := [8]) (by kernel_rfl) (by simp) ?_
              refine AllReadyH.cons rfl (fun K hK => ?_) AllReadyH.nil
              obtain ⟨⟨r0, r1, r2, r3, r4, r5, r6, r7, r8, r9⟩, r10⟩ := R_7.out
              have hst := store_int Tryz.prog
              have hst2 := store_slice Tryz.prog
              go_simp
              refine hK.out _ (st5 w7 (w5.heap.size) S6 A6 n6 c6 m9 g9 false) (P0_7.out.st5_ (by have zz0 := Sz3.out; have zz1 := Sz4.out; have zz2 := Sz5.out; have zz3 := Sb6.out; have zz4 := Sz6.out; have zz5 := Sz7.out; first | omega | (simp; omega))).1 (fun hHeld => ?_)
              clear hK K hHeld
              try simp only [Act.put, List.setIfInBounds_toArray, List.set_cons_zero, List.set_cons_succ, List.getElem_toArray, List.getElem_cons_succ, List.getElem_cons_zero]
              refine wpAnyH_done (by kernel_rfl) ?_ _
              go_wp2_with fail
              go_meet
              exact ⟨w5.heap.size, S6, A6, n6, c6, rfl, EB.made R_7.out, (Zs_7.out.st5_ (by have zz0 := Sz3.out; have zz1 := Sz4.out; have zz2 := Sz5.out; have zz3 := Sb6.out; have zz4 := Sz6.out; have zz5 := Sz7.out; first | omega | (simp; omega))).zv, belSt5 B7.out (by have zz0 := Sz3.out; have zz1 := Sz4.out; have zz2 := Sz5.out; have zz3 := Sb6.out; have zz4 := Sz6.out; have zz5 := Sz7.out; first | omega | (simp; omega))⟩
          · go_simp
            obtain ⟨w5, hw⟩ : ∃ w5, w5 = w4.alloc (.cells #[.int .i64 0, .slice none 0 0, .int .i64 0, .int .i64 0, .bool false] 52) := ⟨_, rfl⟩
            have hb : Below w4.heap.size w4 w5 := by rw [hw]; exact belAlloc1 _ _
            have Sb5 : Hid (w4.heap.size + 1 = w5.heap.size) := Lib.hid (by rw [hw]; simp)
            have R_5 : Hid (ER w5 w4.heap.size) := Lib.hid (by rw [hw]; exact ER.new _ _)
            rw [← hw]
            refine hK.out _ _ (P0_4.out.next hb).1 (fun hHeld => ?_)
            clear hK K hw
            have B5 := Lib.hid (belNext B4.out hb)
            have P0_5 := Lib.hid (P0_4.out.next hb)
            have Za_5 := Lib.hid (Za_4.out.next hb)
            have Sz5 : Hid (w4.heap.size ≤ w5.heap.size) := Lib.hid hb.size
            clear hb
            try simp only [Act.put, List.setIfInBounds_toArray, List.set_cons_zero, List.set_cons_succ, List.getElem_toArray, List.getElem_cons_succ, List.getElem_cons_zero]
            refine wpAnyH_ready (rs := [5]) (by kernel_rfl) (by simp) ?_
            refine AllReadyH.cons rfl (fun K hK => ?_) AllReadyH.nil
            go_simp
            refine (HH.out w5 (HT.out.next B5.out)).mono ?_
            rintro e w6 ⟨S5, A5, n5, c5, rfl, hz, hn5, hb0⟩
            have hb : Below w5.heap.size w5 w6 := hb0
            refine hK.out _ _ (P0_5.out.next hb).1 (fun hHeld => ?_)
            clear hK K hb0
            have N5 := Lib.hid hn5
            clear hn5
            have B6 := Lib.hid (belNext B5.out hb)
            have P0_6 := Lib.hid (P0_5.out.next hb)
            have Za_6 := Lib.hid (Za_5.out.next hb)
            have R_6 := Lib.hid (R_5.out.next hb)
            have Sz6 : Hid (w5.heap.size ≤ w6.heap.size) := Lib.hid hb.size
            clear hb
            have Zb_6 := Lib.hid hz
            clear hz
            try simp only [Act.put, List.setIfInBounds_toArray, List.set_cons_zero, List.set_cons_succ, List.getElem_toArray, List.getElem_cons_succ, List.getElem_cons_zero]
            refine wpAnyH_ready (rs := [6]) (by kernel_rfl) (by simp) ?_
            refine AllReadyH.cons rfl (fun K hK => ?_) AllReadyH.nil
            go_simp
            refine (HP.out S4 A4 n4 c4 S5 A5 n5 c5 w6 Za_6.out Zb_6.out N4.out N5.out (HT.out.next B6.out)).mono ?_
            rintro e w7 ⟨S6, A6, n6, c6, rfl, hz, hb0⟩
            have hb : Below w6.heap.size w6 w7 := hb0
            refine hK.out _ _ (P0_6.out.next hb).1 (fun hHeld => ?_)
            clear hK K hb0
            have B7 := Lib.hid (belNext B6.out hb)
            have P0_7 := Lib.hid (P0_6.out.next hb)
            have Za_7 := Lib.hid (Za_6.out.next hb)
            have Zb_7 := Lib.hid (Zb_6.out.next hb)
            have R_7 := Lib.hid (R_6.out.next hb)
            have Sz7 : Hid (w6.heap.size ≤ w7.heap.size) := Lib.hid hb.size
            clear hb
            have Zs_7 := Lib.hid hz
            clear hz
            try simp only [Act.put, List.setIfInBounds_toArray, List.set_cons_zero, List.set_cons_succ, List.getElem_toArray, List.getElem_cons_succ, List.getElem_cons_zero]
            refine wpAnyH_ready (rs := [8]) (by kernel_rfl) (by simp) ?_
            refine AllReadyH.cons rfl (fun K hK => ?_) AllReadyH.nil
            obtain ⟨⟨r0, r1, r2, r3, r4, r5, r6, r7, r8, r9⟩, r10⟩ := R_7.out
            have hst := store_int Tryz.prog
            have hst2 := store_slice Tryz.prog
            go_simp
            refine hK.out _ (st5 w7 (w4.heap.size) S6 A6 n6 c6 m9 g9 false) (P0_7.out.st5_ (by have zz0 := Sz3.out; have zz1 := Sz4.out; have zz2 := Sb5.out; have zz3 := Sz5.out; have zz4 := Sz6.out; have zz5 := Sz7.out; first | omega | (simp; omega))).1 (fun hHeld => ?_)
            clear hK K hHeld
            try simp only [Act.put, List.setIfInBounds_toArray, List.set_cons_zero, List.set_cons_succ, List.getElem_toArray, List.getElem_cons_succ, List.getElem_cons_zero]
            refine wpAnyH_done (by kernel_rfl) ?_ _
            go_wp2_with fail
            go_meet
            exact ⟨w4.heap.size, S6, A6, n6, c6, rfl, EB.made R_7.out, (Zs_7.out.st5_ (by have zz0 := Sz3.out; have zz1 := Sz4.out; have zz2 := Sb5.out; have zz3 := Sz5.out; have zz4 := Sz6.out; have zz5 := Sz7.out; first | omega | (simp; omega))).zv, belSt5 B7.out (by have zz0 := Sz3.out; have zz1 := Sz4.out; have zz2 := Sb5.out; have zz3 := Sz5.out; have zz4 := Sz6.out; have zz5 := Sz7.out; first | omega | (simp; omega))⟩
        · go_simp
          obtain ⟨w4, hw⟩ : ∃ w4, w4 = (w3.alloc (.cells #[.int .i64 0, .slice none 0 0, .int .i64 0, .int .i64 0, .bool false] 52)).drew := ⟨_, rfl⟩
          have hb : Below w3.heap.size w3 w4 := by rw [hw]; exact (belAlloc1 _ _).drew
          have Sb4 : Hid (w3.heap.size + 1 = w4.heap.size) := Lib.hid (by rw [hw]; simp)
          have R_4 : Hid (ER w4 w3.heap.size) := Lib.hid (by rw [hw]; exact (ER.new w3 _).drew)
          rw [← hw]
          refine hK.out _ _ (P0_3.out.next hb).1 (fun hHeld => ?_)
          clear hK K hw
          have B4 := Lib.hid (belNext B3.out hb)
          have P0_4 := Lib.hid (P0_3.out.next hb)
          have Sz4 : Hid (w3.heap.size ≤ w4.heap.size) := Lib.hid hb.size
          clear hb
          try simp only [Act.put, List.setIfInBounds_toArray, List.set_cons_zero, List.set_cons_succ, List.getElem_toArray, List.getElem_cons_succ, List.getElem_cons_zero]
          refine wpAnyH_ready (rs := [2]) (by kernel_rfl) (by simp) ?_
          refine AllReadyH.cons rfl (fun K hK => ?_) AllReadyH.nil
          go_simp
          refine (HL.out w4 (HT.out.next B4.out)).mono ?_
          rintro e w5 ⟨S4, A4, n4, c4, rfl, hz, hn4, hb0⟩
          have hb : Below w4.heap.size w4 w5 := hb0
          refine hK.out _ _ (P0_4.out.next hb).1 (fun hHeld => ?_)
          clear hK K hb0
          have N4 := Lib.hid hn4
          clear hn4
          have B5 := Lib.hid (belNext B4.out hb)
          have P0_5 := Lib.hid (P0_4.out.next hb)
          have R_5 := Lib.hid (R_4.out.next hb)
          have Sz5 : Hid (w4.heap.size ≤ w5.heap.size) := Lib.hid hb.size
          clear hb
          have Za_5 := Lib.hid hz
          clear hz
          try simp only [Act.put, List.setIfInBounds_toArray, List.set_cons_zero, List.set_cons_succ, List.getElem_toArray, List.getElem_cons_succ, List.getElem_cons_zero]
          refine wpAnyH_ready (rs := [5]) (by kernel_rfl) (by simp) ?_
          refine AllReadyH.cons rfl (fun K hK => ?_) AllReadyH.nil
          go_simp
          refine (HH.out w5 (HT.out.next B5.out)).mono ?_
          rintro e w6 ⟨S5, A5, n5, c5, rfl, hz, hn5, hb0⟩
          have hb : Below w5.heap.size w5 w6 := hb0
          refine hK.out _ _ (P0_5.out.next hb).1 (fun hHeld => ?_)
          clear hK K hb0
          have N5 := Lib.hid hn5
          clear hn5
          have B6 := Lib.hid (belNext B5.out hb)
          have P0_6 := Lib.hid (P0_5.out.next hb)
          have Za_6 := Lib.hid (Za_5.out.next hb)
          have R_6 := Lib.hid (R_5.out.next hb)
          have Sz6 : Hid (w5.heap.size ≤ w6.heap.size) := Lib.hid hb.size
          clear hb
          have Zb_6 := Lib.hid hz
          clear hz
          try simp only [Act.put, List.setIfInBounds_toArray, List.set_cons_zero, List.set_cons_succ, List.getElem_toArray, List.getElem_cons_succ, List.getElem_cons_zero]
          refine wpAnyH_ready (rs := [6]) (by kernel_rfl) (by simp) ?_
          refine AllReadyH.cons rfl (fun K hK => ?_) AllReadyH.nil
          go_simp
          refine (HP.out S4 A4 n4 c4 S5 A5 n5 c5 w6 Za_6.out Zb_6.out N4.out N5.out (HT.out.next B6.out)).mono ?_
          rintro e w7 ⟨S6, A6, n6, c6, rfl, hz, hb0⟩
          have hb : Below w6.heap.size w6 w7 := hb0
          refine hK.out _ _ (P0_6.out.next hb).1 (fun hHeld => ?_)
          clear hK K hb0
          have B7 := Lib.hid (belNext B6.out hb)
          have P0_7 := Lib.hid (P0_6.out.next hb)
          have Za_7 := Lib.hid (Za_6.out.next hb)
          have Zb_7 := Lib.hid (Zb_6.out.next hb)
          have R_7 := Lib.hid (R_6.out.next hb)
          have Sz7 : Hid (w6.heap.size ≤ w7.heap.size) := Lib.hid hb.size
          clear hb
          have Zs_7 := Lib.hid hz
          clear hz
          try simp only [Act.put, List.setIfInBounds_toArray, List.set_cons_zero, List.set_cons_succ, List.getElem_toArray, List.getElem_cons_succ, List.getElem_cons_zero]
          refine wpAnyH_ready (rs := [8]) (by kernel_rfl) (by simp) ?_
          refine AllReadyH.cons rfl (fun K hK => ?_) AllReadyH.nil
          obtain ⟨⟨r0, r1, r2, r3, r4, r5, r6, r7, r8, r9⟩, r10⟩ := R_7.out
          have hst := store_int Tryz.prog
          have hst2 := store_slice Tryz.prog
          go_simp
          refine hK.out _ (st5 w7 (w3.heap.size) S6 A6 n6 c6 m9 g9 false) (P0_7.out.st5_ (by have zz0 := Sz3.out; have zz1 := Sb4.out; have zz2 := Sz4.out; have zz3 := Sz5.out; have zz4 := Sz6.out; have zz5 := Sz7.out; first | omega | (simp; omega))).1 (fun hHeld => ?_)
          clear hK K hHeld
          try simp only [Act.put, List.setIfInBounds_toArray, List.set_cons_zero, List.set_cons_succ, List.getElem_toArray, List.getElem_cons_succ, List.getElem_cons_zero]
          refine wpAnyH_done (by kernel_rfl) ?_ _
          go_wp2_with fail
          go_meet
          exact ⟨w3.heap.size, S6, A6, n6, c6, rfl, EB.made R_7.out, (Zs_7.out.st5_ (by have zz0 := Sz3.out; have zz1 := Sb4.out; have zz2 := Sz4.out; have zz3 := Sz5.out; have zz4 := Sz6.out; have zz5 := Sz7.out; first | omega | (simp; omega))).zv, belSt5 B7.out (by have zz0 := Sz3.out; have zz1 := Sb4.out; have zz2 := Sz4.out; have zz3 := Sz5.out; have zz4 := Sz6.out; have zz5 := Sz7.out; first | omega | (simp; omega))⟩
      case rest =>
        obtain ⟨w20, hwc⟩ : ∃ w20, w20 = wc := ⟨_, rfl⟩
        rw [← hwc] at hcut ⊢
        clear hwc c00 c01 c02
        obtain ⟨bq, S6, A6, n6, c6, rfl, he, hz, hB⟩ := hcut
        have B20 := Lib.hid hB
        have E20 := Lib.hid he
        have N6 := Lib.hid (HN3.out _ hz.len)
        have Z20 := Lib.hid hz
        clear he hz hB
        obtain ⟨⟨e0, e1, e2, e3, e4⟩, e5⟩ := E20.out
        go_wp2_with fail
        refine wp_region_held_drew (S := fun w' => (w'.cell? ⟨bq, 0, none⟩ = some (.int .i64 S6) ∧ w'.cell? ⟨bq, 1, none⟩ = some (.slice A6 n6 c6) ∧ w'.cell? ⟨bq, 2, none⟩ = some (.int .i64 m9) ∧ w'.cell? ⟨bq, 3, none⟩ = some (.int .i64 g9) ∧ w'.cell? ⟨bq, 4, none⟩ = some (.bool false))) (by kernel_rfl) E20.out.1 (fun hHeld => ?_)
        clear e0 e1 e2 e3 e4 e5
        refine wpAnyH_take (i := 0) (v := ?_) rfl (by kernel_rfl) (by kernel_rfl) (by kernel_rfl) (fun _ _ _ h => h) (Or.inl ⟨by rfl, ?_⟩) (by assumption) ?_
        rotate_left
        · (intro w hSw; (try dsimp only at hSw); go_simp; (try with_reducible rfl))
        try simp only [Act.put, List.setIfInBounds_toArray, List.set_cons_zero, List.set_cons_succ, List.getElem_toArray, List.getElem_cons_succ, List.getElem_cons_zero]
        refine wpAnyH_ready (rs := [1]) (by kernel_rfl) (by simp) ?_
        refine AllReadyH.cons rfl (fun K hK => ?_) AllReadyH.nil
        go_simp
        refine (HF.out w20.drew (HT.out.next B20.out.drew)).mono ?_
        rintro e w21 ⟨S7, A7, n7, c7, rfl, hz, hn7, hb0⟩
        have hb : Below w20.heap.size w20 w21 := belDrew hb0
        refine hK.out _ _ (E20.out.next hb).1 (fun hHeld => ?_)
        clear hK K hb0
        have N7 := Lib.hid hn7
        have Y21 := Lib.hid hz
        clear hz hn7
        have B21 := Lib.hid (belNext B20.out hb)
        have E21 := Lib.hid (E20.out.next hb)
        have Z21 := Lib.hid (Z20.out.next hb)
        clear hb
        try simp only [Act.put, List.setIfInBounds_toArray, List.set_cons_zero, List.set_cons_succ, List.getElem_toArray, List.getElem_cons_succ, List.getElem_cons_zero]
        refine wpAnyH_ready (rs := [2]) (by kernel_rfl) (by simp) ?_
        refine AllReadyH.cons rfl (fun K hK => ?_) AllReadyH.nil
        go_simp
        refine (HTM.out S6 A6 n6 c6 S7 A7 n7 c7 w21 Z21.out Y21.out N6.out N7.out).mono ?_
        rintro e w22 ⟨S8, A8, n8, c8, rfl, hz, hb0⟩
        have hb : Below w21.heap.size w21 w22 := hb0
        refine hK.out _ _ (E21.out.next hb).1 (fun hHeld => ?_)
        clear hK K hb0
        have N8 := Lib.hid (HN3.out _ hz.len)
        have X22 := Lib.hid hz
        clear hz
        have B22 := Lib.hid (belNext B21.out hb)
        have E22 := Lib.hid (E21.out.next hb)
        have Z22 := Lib.hid (Z21.out.next hb)
        clear hb
        try simp only [Act.put, List.setIfInBounds_toArray, List.set_cons_zero, List.set_cons_succ, List.getElem_toArray, List.getElem_cons_succ, List.getElem_cons_zero]
        refine wpAnyH_ready (rs := [3]) (by kernel_rfl) (by simp) ?_
        refine AllReadyH.cons rfl (fun K hK => ?_) AllReadyH.nil
        go_simp
        refine (HFI.out S8 A8 n8 c8 w22 X22.out N8.out (HT.out.next B22.out)).mono ?_
        rintro e w23 ⟨rfl, hb0⟩
        have hb : Below w22.heap.size w22 w23 := hb0
        refine hK.out _ _ (E22.out.next hb).1 (fun hHeld => ?_)
        clear hK K hb0
        have B23 := Lib.hid (belNext B22.out hb)
        have E23 := Lib.hid (E22.out.next hb)
        have Z23 := Lib.hid (Z22.out.next hb)
        clear hb
        try simp only [Act.put, List.setIfInBounds_toArray, List.set_cons_zero, List.set_cons_succ, List.getElem_toArray, List.getElem_cons_succ, List.getElem_cons_zero]
        refine wpAnyH_ready (rs := [4]) (by kernel_rfl) (by simp) ?_
        refine AllReadyH.cons rfl (fun K hK => ?_) AllReadyH.nil
        go_simp
        refine hK.out _ _ hHeld (fun hHeld => ?_)
        clear hK K
        try simp only [Act.put, List.setIfInBounds_toArray, List.set_cons_zero, List.set_cons_succ, List.getElem_toArray, List.getElem_cons_succ, List.getElem_cons_zero]
        refine wpAnyH_ready (rs := [5]) (by kernel_rfl) (by simp) ?_
        refine AllReadyH.cons rfl (fun K hK => ?_) AllReadyH.nil
        go_simp
        refine hK.out _ _ hHeld (fun hHeld => ?_)
        clear hK K
        try simp only [Act.put, List.setIfInBounds_toArray, List.set_cons_zero, List.set_cons_succ, List.getElem_toArray, List.getElem_cons_succ, List.getElem_cons_zero]
        clear hHeld
        refine wpAnyH_done (by kernel_rfl) ?_ _
        go_wp2_with fail
        go_ret2
        exact ⟨rfl, B23.out⟩
    · have e0 : (.tuple #[.float .f32 (mdW l h), .int .i64 (mdC l h)] : Value) = .tuple #[.float .f32 0, .int .i64 5] := by unfold mdW mdC; rw [if_pos b1, if_neg ff, if_pos b1, if_neg ff]
      rw [e0]
      have HA : Hid ([l, h].all fin32 = false) := Lib.hid (by cases h1 : fin32 l <;> cases h2 : fin32 h <;> simp_all)
      clear e0 ff pl ph k1 k2 k3 b1 hl hh
      obtain ⟨w1, hw1, hp0, hB_⟩ := ib_1 w l h 25
      have P0_1 := Lib.hid hp0
      have hst := store_float Tryz.prog
      have B1 := Lib.hid hB_
      have Hw := Lib.hid hw1
      clear hw1 hp0 hB_
      obtain ⟨⟨c00, c01⟩, c02⟩ := P0_1.out
      go_enter Tryz.func18, Tryz.ntmps18
      go_wp2_with fail
      rw [← Hw.out]
      refine (HI.out _).mono ?_
      rintro e w2 ⟨rfl, hb⟩
      have B2 := Lib.hid (belNext B1.out hb)
      have P0_2 := Lib.hid (P0_1.out.next hb)
      clear hb c00 c01 c02
      obtain ⟨⟨c00, c01⟩, c02⟩ := P0_2.out
      go_wp2_with fail
      obtain ⟨w3, hw⟩ : ∃ w3, w3 = w2.alloc (.cells #[.float .f32 l, .float .f32 h] 22) := ⟨_, rfl⟩
      rw [← hw]
      have hb : Below w2.heap.size w2 w3 := by rw [hw]; exact belAlloc1 _ _
      have HR : Hid (Rd w3 w3.heap.size (some ⟨w2.heap.size, 0, none⟩) (fs [l, h])) := Lib.hid (by rw [hw]; exact rd_two _ _ _ _)
      clear hw
      refine (implAllFinI_any [l, h] _ 2 2 _ w3 HR.out rfl (by omega) (two_ltI HLH.out)).mono ?_
      rintro e w9 ⟨rfl, rfl⟩
      rw [HA.out]
      have B3 := Lib.hid (belNext B2.out hb)
      have P0_3 := Lib.hid (P0_2.out.next hb)
      clear hb c00 c01 c02
      obtain ⟨⟨c00, c01⟩, c02⟩ := P0_3.out
      go_wp2_with fail
      go_ret2
      exact ⟨rfl, B3.out⟩
  · have b1 : isI l h = false := by simpa using b1
    have HI : Hid (∀ w, Calls Tryz.prog 29 #[.agg #[.float .f32 l, .float .f32 h]] w fun e w' => e = .returned (.bool false) ∧ Below w.heap.size w w') := Lib.hid (fun w => by rw [← b1]; exact implIsI_any l h w hl hh)
    have e0 : (.tuple #[.float .f32 (mdW l h), .int .i64 (mdC l h)] : Value) = .tuple #[.float .f32 0, .int .i64 1] := by unfold mdW mdC; rw [b1]; rfl
    rw [e0]
    clear e0 b1 hl hh
    obtain ⟨w1, hw1, hp0, hB_⟩ := ib_1 w l h 25
    have P0_1 := Lib.hid hp0
    have hst := store_float Tryz.prog
    have B1 := Lib.hid hB_
    have Hw := Lib.hid hw1
    clear hw1 hp0 hB_
    obtain ⟨⟨c00, c01⟩, c02⟩ := P0_1.out
    go_enter Tryz.func18, Tryz.ntmps18
    go_wp2_with fail
    rw [← Hw.out]
    refine (HI.out _).mono ?_
    rintro e w2 ⟨rfl, hb⟩
    have B2 := Lib.hid (belNext B1.out hb)
    have P0_2 := Lib.hid (P0_1.out.next hb)
    clear hb c00 c01 c02
    obtain ⟨⟨c00, c01⟩, c02⟩ := P0_2.out
    go_wp2_with fail
    go_ret2
    exact ⟨rfl, B2.out⟩
end Go.Proofs.YtngminjncdfjdaaGreatDoor
