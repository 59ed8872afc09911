/- AddWholes and SubtractWholes, of the program and of the model. -/
import Derived.Test.YtnnoobdcdfcdaaaDoorSb
import Derived.Deep.DeepCutAuto
namespace Go.Proofs.YtnnoobdcdfcdaaaDoor
set_option maxRecDepth 100000
open Go.RowKit
set_option linter.unusedSimpArgs false
set_option linter.unusedVariables false

/-- a whole number that fits, else 0; and the code -/
def fitZ (z : Int) : Int := if (limbs z.natAbs).length ≤ 100 then z else 0
def fitE (z : Int) : Int := if (limbs z.natAbs).length ≤ 100 then 0 else 3
def opZ (z : Int) (b : Bool) : Int := if b = true then fitZ z else 0
def opE (z : Int) (b : Bool) : Int := if b = true then fitE z else 1
theorem fit_len (z : Int) : (limbs (fitZ z).natAbs).length ≤ 100 := by
  unfold fitZ
  split
  · assumption
  · simp [limbs_zero]
theorem op_len (z : Int) (b : Bool) : (limbs (opZ z b).natAbs).length ≤ 100 := by
  unfold opZ
  split
  · exact fit_len z
  · simp [limbs_zero]
theorem Wz.zero_ (w : World) (lo hi : Nat) : Wz w lo hi 0 (.agg #[.int .i64 0, .slice none 0 0]) := ⟨none, 0, by simp [limbs_zero], by simp [limbs_zero, vs, li, vi]; exact .inl rfl, by simp [limbs_zero]⟩
theorem ret_val {v v' : Value} {a b : Int} (h : a = b) (hv : v = v') : Ending.returned (.tuple #[v, .int .i64 a]) = .returned (.tuple #[v', .int .i64 b]) := by rw [h, hv]
theorem isW_limbs {z : Int} (h : (limbs z.natAbs).length ≤ 100) : isW z.sign (li (limbs z.natAbs)) = true := isW_true (okW_iff.2 ⟨z, rfl, rfl, h⟩)
theorem not_isW_limbs {z : Int} (h : ¬ (limbs z.natAbs).length ≤ 100) : isW z.sign (li (limbs z.natAbs)) = false := isW_false (fun ho => h (by have := ho.2.2.2.1; rwa [li_len] at this))

set_option maxHeartbeats 1000000 in
theorem specFit_any (z S : Int) (A : Option Addr) (n c lo hi : Nat) (w : World) (ho : Ow w lo hi A (vs (limbs z.natAbs))) (hhi : hi ≤ w.heap.size) (hS : S = z.sign) (hn : (limbs z.natAbs).length = n) (hcap : n ≤ c) (hm : n ≤ 1048580) :
    Calls Tryd.prog 52 #[.agg #[.int .i64 S, .slice A n c]] w fun e w' => ∃ val, e = .returned (.tuple #[val, .int .i64 (fitE z)]) ∧ Wz w' lo hi (fitZ z) val ∧ Below w.heap.size w w' := by
  have hst := store_int Tryd.prog
  have hst2 := store_slice Tryd.prog
  obtain ⟨w1, hw1, hb1, hb3, hb4⟩ := box_res w S A n c 26 26
  have O1 : Hid (Ot w1 lo hi A (vs (limbs z.natAbs))) := Lib.hid ⟨ho.below' hb4, Nat.le_trans hhi hb4.size⟩
  have Hn := Lib.hid hn
  have HS := Lib.hid hS
  have Hw := Lib.hid hw1
  have Bx1 := Lib.hid hb1
  have Rs1 := Lib.hid hb3
  have Bel1 := Lib.hid hb4
  have Hcap := Lib.hid hcap
  have Hm := Lib.hid hm
  have Hhi := Lib.hid hhi
  clear ho hhi hn hS hw1 hb1 hb3 hb4 hcap
  by_cases hfit : n ≤ 100
  · have Hf : Hid ((limbs z.natAbs).length ≤ 100) := Lib.hid (by rw [Hn.out]; exact hfit)
    go_enter Tryd.func52, Tryd.ntmps52
    go_wp2_with fail
    rw [← Hw.out]
    obtain ⟨⟨hx1, hx2⟩, hx3⟩ := Bx1.out
    refine (specIs_any S A n c (li (limbs z.natAbs)) _ O1.out.rt.all (by rw [li_len]; exact Hn.out) Hm.out).mono ?_
    rintro e w2 ⟨rfl, hb⟩
    have Bel2 := Lib.hid (belNext Bel1.out hb)
    have Bx2 := Lib.hid (Bx1.out.next hb)
    have Rs2 := Lib.hid (Rs1.out.next hb)
    have O2 := Lib.hid (O1.out.next hb)
    have Hlo : Hid (w.heap.size + 1 < w1.heap.size) := Lib.hid Rs1.out.2
    clear hb hx1 hx2 hx3 Bx1 Rs1 O1 Bel1
    have hi1 : isW S (li (limbs z.natAbs)) = true := by rw [HS.out]; exact isW_limbs Hf.out
    rw [hi1]
    clear hi1
    obtain ⟨⟨hx1, hx2⟩, hx3⟩ := Bx2.out
    obtain ⟨⟨r1, r2, r3, r4⟩, _⟩ := Rs2.out
    go_wp2_with fail
    refine bodyPost_ret (v := .tuple #[.agg #[.int .i64 S, .slice A n c], .int .i64 0]) (by simp [results, Tryd.results52, go_sem, r1, r2]) rfl ⟨_, ret_val (by unfold fitE; rw [if_pos Hf.out]) rfl, ?_, ?_⟩
    · have e : fitZ z = z := if_pos Hf.out
      rw [e]
      exact ⟨A, c, by rw [HS.out, Hn.out], (O2.out.1.setCell (.inr (by have := Hhi.out; simp; omega)) _).setCell (.inr (by have := Hhi.out; simp; omega)) _, by rw [Hn.out]; exact Hcap.out⟩
    · exact (Bel2.out.setCell (by simp) _).setCell (by simp) _
  · have Hf : Hid (¬ (limbs z.natAbs).length ≤ 100) := Lib.hid (by rw [Hn.out]; exact hfit)
    go_enter Tryd.func52, Tryd.ntmps52
    go_wp2_with fail
    rw [← Hw.out]
    obtain ⟨⟨hx1, hx2⟩, hx3⟩ := Bx1.out
    refine (specIs_any S A n c (li (limbs z.natAbs)) _ O1.out.rt.all (by rw [li_len]; exact Hn.out) Hm.out).mono ?_
    rintro e w2 ⟨rfl, hb⟩
    have Bel2 := Lib.hid (belNext Bel1.out hb)
    have Rs2 := Lib.hid (Rs1.out.next hb)
    clear hb hx1 hx2 hx3 Bx1 Rs1 O1 Bel1
    have hi1 : isW S (li (limbs z.natAbs)) = false := by rw [HS.out]; exact not_isW_limbs Hf.out
    rw [hi1]
    clear hi1
    obtain ⟨⟨r1, r2, r3, r4⟩, _⟩ := Rs2.out
    go_wp2_with fail
    refine bodyPost_ret (v := .tuple #[.agg #[.int .i64 0, .slice none 0 0], .int .i64 3]) (by simp [results, Tryd.results52, go_sem, r1, r2]) rfl ⟨_, ret_val (by unfold fitE; rw [if_neg Hf.out]) rfl, ?_, ?_⟩
    · have e : fitZ z = 0 := if_neg Hf.out
      rw [e]
      exact Wz.zero_ _ _ _
    · exact (Bel2.out.setCell (by simp) _).setCell (by simp) _

set_option maxHeartbeats 1000000 in
theorem implLim_any (z S : Int) (A : Option Addr) (n c lo hi : Nat) (w : World) (ho : Ow w lo hi A (vs (limbs z.natAbs))) (hhi : hi ≤ w.heap.size) (hS : S = z.sign) (hn : (limbs z.natAbs).length = n) (hcap : n ≤ c) (hm : n ≤ 1048580) :
    Calls Tryd.prog 57 #[.agg #[.int .i64 S, .slice A n c]] w fun e w' => ∃ val, e = .returned (.tuple #[val, .int .i64 (fitE z)]) ∧ Wz w' lo hi (fitZ z) val ∧ Below w.heap.size w w' := by
  have hst := store_int Tryd.prog
  have hst2 := store_slice Tryd.prog
  obtain ⟨w1, hw1, hb1, hb3, hb4⟩ := box_res w S A n c 26 26
  have O1 : Hid (Ot w1 lo hi A (vs (limbs z.natAbs))) := Lib.hid ⟨ho.below' hb4, Nat.le_trans hhi hb4.size⟩
  have Hn := Lib.hid hn
  have HS := Lib.hid hS
  have Hw := Lib.hid hw1
  have Bx1 := Lib.hid hb1
  have Rs1 := Lib.hid hb3
  have Bel1 := Lib.hid hb4
  have Hcap := Lib.hid hcap
  have Hm := Lib.hid hm
  have Hhi := Lib.hid hhi
  clear ho hhi hn hS hw1 hb1 hb3 hb4 hcap
  by_cases hfit : n ≤ 100
  · have Hf : Hid ((limbs z.natAbs).length ≤ 100) := Lib.hid (by rw [Hn.out]; exact hfit)
    go_enter Tryd.func57, Tryd.ntmps57
    go_wp2_with fail
    rw [← Hw.out]
    obtain ⟨⟨hx1, hx2⟩, hx3⟩ := Bx1.out
    refine (tooLarge_any S A n c _).mono ?_
    rintro e w2 ⟨rfl, hb⟩
    have Bel2 := Lib.hid (belNext Bel1.out hb)
    have Bx2 := Lib.hid (Bx1.out.next hb)
    have Rs2 := Lib.hid (Rs1.out.next hb)
    have O2 := Lib.hid (O1.out.next hb)
    have Hlo : Hid (w.heap.size + 1 < w1.heap.size) := Lib.hid Rs1.out.2
    clear hb hx1 hx2 hx3 Bx1 Rs1 O1 Bel1
    have hi1 : decide ((100 : Int) < (n : Int)) = false := decide_eq_false (by omega)
    rw [hi1]
    clear hi1
    obtain ⟨⟨hx1, hx2⟩, hx3⟩ := Bx2.out
    obtain ⟨⟨r1, r2, r3, r4⟩, _⟩ := Rs2.out
    go_wp2_with fail
    refine bodyPost_ret (v := .tuple #[.agg #[.int .i64 S, .slice A n c], .int .i64 0]) (by simp [results, Tryd.results57, go_sem, r1, r2]) rfl ⟨_, ret_val (by unfold fitE; rw [if_pos Hf.out]) rfl, ?_, ?_⟩
    · have e : fitZ z = z := if_pos Hf.out
      rw [e]
      exact ⟨A, c, by rw [HS.out, Hn.out], (O2.out.1.setCell (.inr (by have := Hhi.out; simp; omega)) _).setCell (.inr (by have := Hhi.out; simp; omega)) _, by rw [Hn.out]; exact Hcap.out⟩
    · exact (Bel2.out.setCell (by simp) _).setCell (by simp) _
  · have Hf : Hid (¬ (limbs z.natAbs).length ≤ 100) := Lib.hid (by rw [Hn.out]; exact hfit)
    go_enter Tryd.func57, Tryd.ntmps57
    go_wp2_with fail
    rw [← Hw.out]
    obtain ⟨⟨hx1, hx2⟩, hx3⟩ := Bx1.out
    refine (tooLarge_any S A n c _).mono ?_
    rintro e w2 ⟨rfl, hb⟩
    have Bel2 := Lib.hid (belNext Bel1.out hb)
    have Rs2 := Lib.hid (Rs1.out.next hb)
    clear hb hx1 hx2 hx3 Bx1 Rs1 O1 Bel1
    have hi1 : decide ((100 : Int) < (n : Int)) = true := decide_eq_true (by omega)
    rw [hi1]
    clear hi1
    obtain ⟨⟨r1, r2, r3, r4⟩, _⟩ := Rs2.out
    go_wp2_with fail
    refine bodyPost_ret (v := .tuple #[.agg #[.int .i64 0, .slice none 0 0], .int .i64 3]) (by simp [results, Tryd.results57, go_sem, r1, r2]) rfl ⟨_, ret_val (by unfold fitE; rw [if_neg Hf.out]) rfl, ?_, ?_⟩
    · have e : fitZ z = 0 := if_neg Hf.out
      rw [e]
      exact Wz.zero_ _ _ _
    · exact (Bel2.out.setCell (by simp) _).setCell (by simp) _

set_option maxHeartbeats 400000 in
theorem implOpp_any (s : Int) (A : Option Addr) (n c : Nat) (w : World) (h1 : -1 ≤ s) (h2 : s ≤ 1) :
    Calls Tryd.prog 106 #[.agg #[.int .i64 s, .slice A n c]] w fun e w' => e = .returned (.agg #[.int .i64 (-s), .slice A n c]) ∧ Below w.heap.size w w' := by
  have hst := store_int Tryd.prog
  have hst2 := store_slice Tryd.prog
  go_enter Tryd.func106, Tryd.ntmps106
  go_wp2_with fail
  refine bodyPost_ret (v := .agg #[.int .i64 (-s), .slice A n c]) (by simp [results, Tryd.results106, go_sem]) rfl ⟨rfl, ?_⟩
  exact ((Below.refl _ _).alloc (Nat.le_refl _) _).alloc (by simp) _
theorem Sg.neg {s : Int} {v : Nat} (h : Sg s v) : Sg (-s) v := ⟨by have := h.2.1; omega, by have := h.1; omega, by have := h.2.2; omega⟩

theorem sum_len {s s' : Int} {a b n n' : Nat} (hs : Sg s a) (hs' : Sg s' b) (hn : (limbs a).length = n) (hn' : (limbs b).length = n') : (limbs (s * (a : Int) + s' * b).natAbs).length ≤ n + n' + 1 := by
  have h := limbs_len_sum a b hn hn'
  refine Nat.le_trans (limbs_len_mono ?_) h
  obtain ⟨h1, h2, h3⟩ := hs
  obtain ⟨g1, g2, g3⟩ := hs'
  have e1 : s = -1 ∨ s = 0 ∨ s = 1 := by omega
  have e2 : s' = -1 ∨ s' = 0 ∨ s' = 1 := by omega
  rcases e1 with rfl | rfl | rfl <;> rcases e2 with rfl | rfl | rfl <;> simp <;> omega

set_option maxHeartbeats 1000000 in
theorem specSub_any (s s' : Int) (a b : Nat) (A A' : Option Addr) (n n' c c' : Nat) (w : World) (hs : Sg s a) (hs' : Sg s' b) (hr : Rd w w.heap.size A (vs (limbs a))) (hr' : Rd w w.heap.size A' (vs (limbs b))) (hn : (limbs a).length = n) (hn' : (limbs b).length = n') (hm : (n : Int) ≤ 90000) (hm' : (n' : Int) ≤ 90000) (hcap : n ≤ c) (hcap' : n' ≤ c') :
    Calls Tryd.prog 93 #[.agg #[.int .i64 s, .slice A n c], .agg #[.int .i64 s', .slice A' n' c']] w fun e w' => ∃ val, e = .returned val ∧ Wz w' w.heap.size w'.heap.size (s * a + -s' * b) val ∧ Below w.heap.size w w' := by
  have hst := store_int Tryd.prog
  have hst2 := store_slice Tryd.prog
  obtain ⟨w1, hw1, hb1, hb2, hb3, hb4⟩ := three_boxes w s s' A A' n n' c c' 26 26 26
  have Ra1 : Hid (Rt w1 w.heap.size A (vs (limbs a))) := Lib.hid ⟨hr.below hb4, hb4.size⟩
  have Rb1 : Hid (Rt w1 w.heap.size A' (vs (limbs b))) := Lib.hid ⟨hr'.below hb4, hb4.size⟩
  have Hn := Lib.hid hn
  have Hn' := Lib.hid hn'
  have Hs := Lib.hid hs
  have Hs' := Lib.hid hs'
  have Hw := Lib.hid hw1
  have Bx1 := Lib.hid hb1
  have By1 := Lib.hid hb2
  have Rs1 := Lib.hid hb3
  have Bel1 := Lib.hid hb4
  have H100 : Hid ((n : Int) ≤ 90000 ∧ (n' : Int) ≤ 90000) := Lib.hid ⟨hm, hm'⟩
  have Hcap : Hid (n ≤ c ∧ n' ≤ c') := Lib.hid ⟨hcap, hcap'⟩
  clear hr hr' hn hn' hs hs' hw1 hb1 hb2 hb3 hb4 hcap hcap'
  go_enter Tryd.func93, Tryd.ntmps93
  go_wp2_with fail
  rw [← Hw.out]
  refine wp_region_held_drew (S := fun w' => (w'.cell? ⟨w.heap.size, 0, none⟩ = some (.int .i64 s) ∧ w'.cell? ⟨w.heap.size, 1, none⟩ = some (.slice A n c)) ∧ (w'.cell? ⟨w.heap.size + 1, 0, none⟩ = some (.int .i64 s') ∧ w'.cell? ⟨w.heap.size + 1, 1, none⟩ = some (.slice A' n' c'))) (by kernel_rfl) ⟨Bx1.out.1, By1.out.1⟩ (fun hHeld => ?_)
  refine wpAnyH_take (i := 0) (v := ?_) rfl (by kernel_rfl) (by kernel_rfl) (by kernel_rfl) (fun _ _ _ h => h) (Or.inl ⟨by rfl, ?_⟩) (by assumption) ?_
  rotate_left
  · (intro w hSw; (try dsimp only at hSw); go_simp; (try with_reducible rfl))
  try simp only [Act.put, List.setIfInBounds_toArray, List.set_cons_zero, List.set_cons_succ]
  refine wpAnyH_take (i := 1) (v := ?_) rfl (by kernel_rfl) (by kernel_rfl) (by kernel_rfl) (fun _ _ _ h => h) (Or.inl ⟨by rfl, ?_⟩) (by assumption) ?_
  rotate_left
  · (intro w hSw; (try dsimp only at hSw); go_simp; (try with_reducible rfl))
  try simp only [Act.put, List.setIfInBounds_toArray, List.set_cons_zero, List.set_cons_succ]
  refine wpAnyH_ready (rs := [2]) (by kernel_rfl) (by simp) ?_
  refine AllReadyH.cons rfl (fun K hK => ?_) AllReadyH.nil
  go_simp
  refine (specNeg_any s' b A' n' c' w.heap.size w1.drew Hs'.out Rb1.out.1 Rb1.out.2 Hn'.out H100.out.2 Hcap.out.2).mono ?_
  rintro e w2 ⟨v2, rfl, hv2, hb0⟩
  have hb := belDrew hb0
  have Z2 := Lib.hid hv2
  have Bel2 := Lib.hid (belNext Bel1.out hb)
  have Bx2 := Lib.hid (Bx1.out.next hb)
  have By2 := Lib.hid (By1.out.next hb)
  have Rs2 := Lib.hid (Rs1.out.next hb)
  have Ra2 := Lib.hid (Ra1.out.next hb)
  have Hsz : Hid (w.heap.size + 1 + 1 < w1.heap.size) := Lib.hid Rs1.out.2
  refine hK.out _ _ ⟨Bx2.out.1, By2.out.1⟩ (fun hHeld => ?_)
  clear hK K hb hb0 hv2 Bx1 By1 Rs1 Ra1 Rb1 Bel1
  try simp only [Act.put, List.setIfInBounds_toArray, List.set_cons_zero, List.set_cons_succ]
  obtain ⟨A2, c2, hval, ho2, hc2⟩ := Z2.out
  subst hval
  have O2 := Lib.hid ho2
  have C2 := Lib.hid hc2
  have Hz2 : Hid ((-s' * (b : Int)).sign = -s' ∧ (-s' * (b : Int)).natAbs = b) := Lib.hid (sign_mul_abs (-s') b Hs'.out.neg.1 Hs'.out.neg.2.1 Hs'.out.neg.2.2)
  rw [Hz2.out.1, Hz2.out.2, Hn'.out]
  rw [Hz2.out.2] at O2 C2
  clear ho2 hc2 Z2
  refine wpAnyH_ready (rs := [3]) (by kernel_rfl) (by simp) ?_
  refine AllReadyH.cons rfl (fun K hK => ?_) AllReadyH.nil
  go_simp
  refine (specAdd_any s (-s') a b A A2 n n' c c2 w2 Hs.out Hs'.out.neg Ra2.out.all (O2.out.rd) Hn.out Hn'.out H100.out.1 H100.out.2 Hcap.out.1 (by rw [← Hn'.out]; exact C2.out)).mono ?_
  rintro e w9 ⟨val, rfl, hv, hb⟩
  have Hz := Lib.hid hv
  have Bel9 := Lib.hid (belNext Bel2.out hb)
  have Bx9 := Lib.hid (Bx2.out.next hb)
  have By9 := Lib.hid (By2.out.next hb)
  have Rs9 := Lib.hid (Rs2.out.next hb)
  have Hlt := Lib.hid Rs2.out.2
  refine hK.out _ _ ⟨Bx9.out.1, By9.out.1⟩ (fun hHeld => ?_)
  clear hK K hb hv
  try simp only [Act.put, List.setIfInBounds_toArray, List.set_cons_zero, List.set_cons_succ]
  obtain ⟨A9, c9, hval, _⟩ := Hz.out
  subst hval
  obtain ⟨⟨r1, r2, r3, r4⟩, _⟩ := Rs9.out
  refine wpAnyH_ready (rs := [4]) (by kernel_rfl) (by simp) ?_
  refine AllReadyH.cons rfl (fun K hK => ?_) AllReadyH.nil
  go_simp
  refine hK.out _ _ ⟨((Bx9.out.keep (by simp; omega) _).keep (by simp; omega) _).1, ((By9.out.keep (by simp) _).keep (by simp) _).1⟩ (fun hHeld => ?_)
  clear hK K hHeld
  try simp only [Act.put, List.setIfInBounds_toArray, List.set_cons_zero, List.set_cons_succ]
  refine wpAnyH_done (by kernel_rfl) ?_ _
  go_wp2_with fail
  refine bodyPost_ret (v := .agg #[.int .i64 (s * a + -s' * b).sign, .slice A9 (limbs (s * a + -s' * b).natAbs).length c9]) (by simp [results, Tryd.results93, go_sem, r1, r2]) rfl ⟨_, rfl, ?_, ?_⟩
  · exact ((Hz.out.setCell (by have := Hlt.out; simp; omega) _).setCell (by have := Hlt.out; simp; omega) _).wide (by have := Hlt.out; omega) (by simp)
  · exact (Bel9.out.setCell (by simp; omega) _).setCell (by simp; omega) _

end Go.Proofs.YtnnoobdcdfcdaaaDoor
