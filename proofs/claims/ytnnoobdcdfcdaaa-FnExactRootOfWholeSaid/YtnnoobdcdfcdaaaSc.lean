/- AddWholes and SubtractWholes, of the program and of the model. -/
import Derived.Test.YtnnoobdcdfcdaaaSb
import Derived.Deep.DeepCutAuto
namespace Go.Proofs.Ytnnoobdcdfcdaaa
set_option maxRecDepth 100000
open Go.RowKit
set_option linter.unusedSimpArgs false
set_option linter.unusedVariables false

/-- a whole number that fits, else 0; and the code -/
def fitZ (z : Int) : Int := if (limbs z.natAbs).length ≤ 100 then z else 0
def fitE (z : Int) : Int := if (limbs z.natAbs).length ≤ 100 then 0 else 3
def opZ (z : Int) (b : Bool) : Int := if b = true then fitZ z else 0
def opE (z : Int) (b : Bool) : Int := if b = true then fitE z else 1
theorem fit_len (z : Int) : (limbs (fitZ z).natAbs).length ≤ 100 := by
  unfold fitZ
  split
  · assumption
  · simp [limbs_zero]
theorem op_len (z : Int) (b : Bool) : (limbs (opZ z b).natAbs).length ≤ 100 := by
  unfold opZ
  split
  · exact fit_len z
  · simp [limbs_zero]
theorem Wz.zero_ (w : World) (lo hi : Nat) : Wz w lo hi 0 (.agg #[.int .i64 0, .slice none 0 0]) := ⟨none, 0, by simp [limbs_zero], by simp [limbs_zero, vs, li, vi]; exact .inl rfl, by simp [limbs_zero]⟩
theorem ret_val {v v' : Value} {a b : Int} (h : a = b) (hv : v = v') : Ending.returned (.tuple #[v, .int .i64 a]) = .returned (.tuple #[v', .int .i64 b]) := by rw [h, hv]
theorem isW_limbs {z : Int} (h : (limbs z.natAbs).length ≤ 100) : isW z.sign (li (limbs z.natAbs)) = true := isW_true (okW_iff.2 ⟨z, rfl, rfl, h⟩)
theorem not_isW_limbs {z : Int} (h : ¬ (limbs z.natAbs).length ≤ 100) : isW z.sign (li (limbs z.natAbs)) = false := isW_false (fun ho => h (by have := ho.2.2.2.1; rwa [li_len] at this))

set_option maxHeartbeats 1000000 in
theorem specFit_any (z S : Int) (A : Option Addr) (n c lo hi : Nat) (w : World) (ho : Ow w lo hi A (vs (limbs z.natAbs))) (hhi : hi ≤ w.heap.size) (hS : S = z.sign) (hn : (limbs z.natAbs).length = n) (hcap : n ≤ c) (hm : n ≤ 1048580) :
    Calls Try.prog 57 #[.agg #[.int .i64 S, .slice A n c]] w fun e w' => ∃ val, e = .returned (.tuple #[val, .int .i64 (fitE z)]) ∧ Wz w' lo hi (fitZ z) val ∧ Below w.heap.size w w' := by
  have hst := store_int Try.prog
  have hst2 := store_slice Try.prog
  obtain ⟨w1, hw1, hb1, hb3, hb4⟩ := box_res w S A n c 26 26
  have O1 : Hid (Ot w1 lo hi A (vs (limbs z.natAbs))) := Lib.hid ⟨ho.below' hb4, Nat.le_trans hhi hb4.size⟩
  have Hn := Lib.hid hn
  have HS := Lib.hid hS
  have Hw := Lib.hid hw1
  have Bx1 := Lib.hid hb1
  have Rs1 := Lib.hid hb3
  have Bel1 := Lib.hid hb4
  have Hcap := Lib.hid hcap
  have Hm := Lib.hid hm
  have Hhi := Lib.hid hhi
  clear ho hhi hn hS hw1 hb1 hb3 hb4 hcap
  by_cases hfit : n ≤ 100
  · have Hf : Hid ((limbs z.natAbs).length ≤ 100) := Lib.hid (by rw [Hn.out]; exact hfit)
    go_enter Try.func57, Try.ntmps57
    go_wp2_with fail
    rw [← Hw.out]
    obtain ⟨⟨hx1, hx2⟩, hx3⟩ := Bx1.out
    refine (specIs_any S A n c (li (limbs z.natAbs)) _ O1.out.rt.all (by rw [li_len]; exact Hn.out) Hm.out).mono ?_
    rintro e w2 ⟨rfl, hb⟩
    have Bel2 := Lib.hid (belNext Bel1.out hb)
    have Bx2 := Lib.hid (Bx1.out.next hb)
    have Rs2 := Lib.hid (Rs1.out.next hb)
    have O2 := Lib.hid (O1.out.next hb)
    have Hlo : Hid (w.heap.size + 1 < w1.heap.size) := Lib.hid Rs1.out.2
    clear hb hx1 hx2 hx3 Bx1 Rs1 O1 Bel1
    have hi1 : isW S (li (limbs z.natAbs)) = true := by rw [HS.out]; exact isW_limbs Hf.out
    rw [hi1]
    clear hi1
    obtain ⟨⟨hx1, hx2⟩, hx3⟩ := Bx2.out
    obtain ⟨⟨r1, r2, r3, r4⟩, _⟩ := Rs2.out
    go_wp2_with fail
    refine bodyPost_ret (v := .tuple #[.agg #[.int .i64 S, .slice A n c], .int .i64 0]) (by simp [results, Try.results57, go_sem, r1, r2]) rfl ⟨_, ret_val (by unfold fitE; rw [if_pos Hf.out]) rfl, ?_, ?_⟩
    · have e : fitZ z = z := if_pos Hf.out
      rw [e]
      exact ⟨A, c, by rw [HS.out, Hn.out], (O2.out.1.setCell (.inr (by have := Hhi.out; simp; omega)) _).setCell (.inr (by have := Hhi.out; simp; omega)) _, by rw [Hn.out]; exact Hcap.out⟩
    · exact (Bel2.out.setCell (by simp) _).setCell (by simp) _
  · have Hf : Hid (¬ (limbs z.natAbs).length ≤ 100) := Lib.hid (by rw [Hn.out]; exact hfit)
    go_enter Try.func57, Try.ntmps57
    go_wp2_with fail
    rw [← Hw.out]
    obtain ⟨⟨hx1, hx2⟩, hx3⟩ := Bx1.out
    refine (specIs_any S A n c (li (limbs z.natAbs)) _ O1.out.rt.all (by rw [li_len]; exact Hn.out) Hm.out).mono ?_
    rintro e w2 ⟨rfl, hb⟩
    have Bel2 := Lib.hid (belNext Bel1.out hb)
    have Rs2 := Lib.hid (Rs1.out.next hb)
    clear hb hx1 hx2 hx3 Bx1 Rs1 O1 Bel1
    have hi1 : isW S (li (limbs z.natAbs)) = false := by rw [HS.out]; exact not_isW_limbs Hf.out
    rw [hi1]
    clear hi1
    obtain ⟨⟨r1, r2, r3, r4⟩, _⟩ := Rs2.out
    go_wp2_with fail
    refine bodyPost_ret (v := .tuple #[.agg #[.int .i64 0, .slice none 0 0], .int .i64 3]) (by simp [results, Try.results57, go_sem, r1, r2]) rfl ⟨_, ret_val (by unfold fitE; rw [if_neg Hf.out]) rfl, ?_, ?_⟩
    · have e : fitZ z = 0 := if_neg Hf.out
      rw [e]
      exact Wz.zero_ _ _ _
    · exact (Bel2.out.setCell (by simp) _).setCell (by simp) _

set_option maxHeartbeats 1000000 in
theorem implLim_any (z S : Int) (A : Option Addr) (n c lo hi : Nat) (w : World) (ho : Ow w lo hi A (vs (limbs z.natAbs))) (hhi : hi ≤ w.heap.size) (hS : S = z.sign) (hn : (limbs z.natAbs).length = n) (hcap : n ≤ c) (hm : n ≤ 1048580) :
    Calls Try.prog 54 #[.agg #[.int .i64 S, .slice A n c]] w fun e w' => ∃ val, e = .returned (.tuple #[val, .int .i64 (fitE z)]) ∧ Wz w' lo hi (fitZ z) val ∧ Below w.heap.size w w' := by
  have hst := store_int Try.prog
  have hst2 := store_slice Try.prog
  obtain ⟨w1, hw1, hb1, hb3, hb4⟩ := box_res w S A n c 26 26
  have O1 : Hid (Ot w1 lo hi A (vs (limbs z.natAbs))) := Lib.hid ⟨ho.below' hb4, Nat.le_trans hhi hb4.size⟩
  have Hn := Lib.hid hn
  have HS := Lib.hid hS
  have Hw := Lib.hid hw1
  have Bx1 := Lib.hid hb1
  have Rs1 := Lib.hid hb3
  have Bel1 := Lib.hid hb4
  have Hcap := Lib.hid hcap
  have Hm := Lib.hid hm
  have Hhi := Lib.hid hhi
  clear ho hhi hn hS hw1 hb1 hb3 hb4 hcap
  by_cases hfit : n ≤ 100
  · have Hf : Hid ((limbs z.natAbs).length ≤ 100) := Lib.hid (by rw [Hn.out]; exact hfit)
    go_enter Try.func54, Try.ntmps54
    go_wp2_with fail
    rw [← Hw.out]
    obtain ⟨⟨hx1, hx2⟩, hx3⟩ := Bx1.out
    refine (tooLarge_any S A n c _).mono ?_
    rintro e w2 ⟨rfl, hb⟩
    have Bel2 := Lib.hid (belNext Bel1.out hb)
    have Bx2 := Lib.hid (Bx1.out.next hb)
    have Rs2 := Lib.hid (Rs1.out.next hb)
    have O2 := Lib.hid (O1.out.next hb)
    have Hlo : Hid (w.heap.size + 1 < w1.heap.size) := Lib.hid Rs1.out.2
    clear hb hx1 hx2 hx3 Bx1 Rs1 O1 Bel1
    have hi1 : decide ((100 : Int) < (n : Int)) = false := decide_eq_false (by omega)
    rw [hi1]
    clear hi1
    obtain ⟨⟨hx1, hx2⟩, hx3⟩ := Bx2.out
    obtain ⟨⟨r1, r2, r3, r4⟩, _⟩ := Rs2.out
    go_wp2_with fail
    refine bodyPost_ret (v := .tuple #[.agg #[.int .i64 S, .slice A n c], .int .i64 0]) (by simp [results, Try.results54, go_sem, r1, r2]) rfl ⟨_, ret_val (by unfold fitE; rw [if_pos Hf.out]) rfl, ?_, ?_⟩
    · have e : fitZ z = z := if_pos Hf.out
      rw [e]
      exact ⟨A, c, by rw [HS.out, Hn.out], (O2.out.1.setCell (.inr (by have := Hhi.out; simp; omega)) _).setCell (.inr (by have := Hhi.out; simp; omega)) _, by rw [Hn.out]; exact Hcap.out⟩
    · exact (Bel2.out.setCell (by simp) _).setCell (by simp) _
  · have Hf : Hid (¬ (limbs z.natAbs).length ≤ 100) := Lib.hid (by rw [Hn.out]; exact hfit)
    go_enter Try.func54, Try.ntmps54
    go_wp2_with fail
    rw [← Hw.out]
    obtain ⟨⟨hx1, hx2⟩, hx3⟩ := Bx1.out
    refine (tooLarge_any S A n c _).mono ?_
    rintro e w2 ⟨rfl, hb⟩
    have Bel2 := Lib.hid (belNext Bel1.out hb)
    have Rs2 := Lib.hid (Rs1.out.next hb)
    clear hb hx1 hx2 hx3 Bx1 Rs1 O1 Bel1
    have hi1 : decide ((100 : Int) < (n : Int)) = true := decide_eq_true (by omega)
    rw [hi1]
    clear hi1
    obtain ⟨⟨r1, r2, r3, r4⟩, _⟩ := Rs2.out
    go_wp2_with fail
    refine bodyPost_ret (v := .tuple #[.agg #[.int .i64 0, .slice none 0 0], .int .i64 3]) (by simp [results, Try.results54, go_sem, r1, r2]) rfl ⟨_, ret_val (by unfold fitE; rw [if_neg Hf.out]) rfl, ?_, ?_⟩
    · have e : fitZ z = 0 := if_neg Hf.out
      rw [e]
      exact Wz.zero_ _ _ _
    · exact (Bel2.out.setCell (by simp) _).setCell (by simp) _

set_option maxHeartbeats 400000 in
theorem implOpp_any (s : Int) (A : Option Addr) (n c : Nat) (w : World) (h1 : -1 ≤ s) (h2 : s ≤ 1) :
    Calls Try.prog 59 #[.agg #[.int .i64 s, .slice A n c]] w fun e w' => e = .returned (.agg #[.int .i64 (-s), .slice A n c]) ∧ Below w.heap.size w w' := by
  have hst := store_int Try.prog
  have hst2 := store_slice Try.prog
  go_enter Try.func59, Try.ntmps59
  go_wp2_with fail
  refine bodyPost_ret (v := .agg #[.int .i64 (-s), .slice A n c]) (by simp [results, Try.results59, go_sem]) rfl ⟨rfl, ?_⟩
  exact ((Below.refl _ _).alloc (Nat.le_refl _) _).alloc (by simp) _
theorem Sg.neg {s : Int} {v : Nat} (h : Sg s v) : Sg (-s) v := ⟨by have := h.2.1; omega, by have := h.1; omega, by have := h.2.2; omega⟩

theorem sum_len {s s' : Int} {a b n n' : Nat} (hs : Sg s a) (hs' : Sg s' b) (hn : (limbs a).length = n) (hn' : (limbs b).length = n') : (limbs (s * (a : Int) + s' * b).natAbs).length ≤ n + n' + 1 := by
  have h := limbs_len_sum a b hn hn'
  refine Nat.le_trans (limbs_len_mono ?_) h
  obtain ⟨h1, h2, h3⟩ := hs
  obtain ⟨g1, g2, g3⟩ := hs'
  have e1 : s = -1 ∨ s = 0 ∨ s = 1 := by omega
  have e2 : s' = -1 ∨ s' = 0 ∨ s' = 1 := by omega
  rcases e1 with rfl | rfl | rfl <;> rcases e2 with rfl | rfl | rfl <;> simp <;> omega

set_option maxHeartbeats 1000000 in
theorem specSub_any (s s' : Int) (a b : Nat) (A A' : Option Addr) (n n' c c' : Nat) (w : World) (hs : Sg s a) (hs' : Sg s' b) (hr : Rd w w.heap.size A (vs (limbs a))) (hr' : Rd w w.heap.size A' (vs (limbs b))) (hn : (limbs a).length = n) (hn' : (limbs b).length = n') (hm : (n : Int) ≤ 90000) (hm' : (n' : Int) ≤ 90000) (hcap : n ≤ c) (hcap' : n' ≤ c') :
    Calls Try.prog 60 #[.agg #[.int .i64 s, .slice A n c], .agg #[.int .i64 s', .slice A' n' c']] w fun e w' => ∃ val, e = .returned val ∧ Wz w' w.heap.size w'.heap.size (s * a + -s' * b) val ∧ Below w.heap.size w w' := by
  have hst := store_int Try.prog
  have hst2 := store_slice Try.prog
  obtain ⟨w1, hw1, hb1, hb2, hb3, hb4⟩ := three_boxes w s s' A A' n n' c c' 26 26 26
  have Ra1 : Hid (Rt w1 w.heap.size A (vs (limbs a))) := Lib.hid ⟨hr.below hb4, hb4.size⟩
  have Rb1 : Hid (Rt w1 w.heap.size A' (vs (limbs b))) := Lib.hid ⟨hr'.below hb4, hb4.size⟩
  have Hn := Lib.hid hn
  have Hn' := Lib.hid hn'
  have Hs := Lib.hid hs
  have Hs' := Lib.hid hs'
  have Hw := Lib.hid hw1
  have Bx1 := Lib.hid hb1
  have By1 := Lib.hid hb2
  have Rs1 := Lib.hid hb3
  have Bel1 := Lib.hid hb4
  have H100 : Hid ((n : Int) ≤ 90000 ∧ (n' : Int) ≤ 90000) := Lib.hid ⟨hm, hm'⟩
  have Hcap : Hid (n ≤ c ∧ n' ≤ c') := Lib.hid ⟨hcap, hcap'⟩
  clear hr hr' hn hn' hs hs' hw1 hb1 hb2 hb3 hb4 hcap hcap'
  go_enter Try.func60, Try.ntmps60
  go_wp2_with fail
  rw [← Hw.out]
  refine wp_region_held_drew (S := fun w' => (w'.cell? ⟨w.heap.size, 0, none⟩ = some (.int .i64 s) ∧ w'.cell? ⟨w.heap.size, 1, none⟩ = some (.slice A n c)) ∧ (w'.cell? ⟨w.heap.size + 1, 0, none⟩ = some (.int .i64 s') ∧ w'.cell? ⟨w.heap.size + 1, 1, none⟩ = some (.slice A' n' c'))) (by kernel_rfl) ⟨Bx1.out.1, By1.out.1⟩ (fun hHeld => ?_)
  refine wpAnyH_take (i := 0) (v := ?_) rfl (by kernel_rfl) (by kernel_rfl) (by kernel_rfl) (fun _ _ _ h => h) (Or.inl ⟨by rfl, ?_⟩) (by assumption) ?_
  rotate_left
  · (intro w hSw; (try dsimp only at hSw); go_simp; (try with_reducible rfl))
  try simp only [Act.put, List.setIfInBounds_toArray, List.set_cons_zero, List.set_cons_succ]
  refine wpAnyH_take (i := 1) (v := ?_) rfl (by kernel_rfl) (by kernel_rfl) (by kernel_rfl) (fun _ _ _ h => h) (Or.inl ⟨by rfl, ?_⟩) (by assumption) ?_
  rotate_left
  · (intro w hSw; (try dsimp only at hSw); go_simp; (try with_reducible rfl))
  try simp only [Act.put, List.setIfInBounds_toArray, List.set_cons_zero, List.set_cons_succ]
  refine wpAnyH_ready (rs := [2]) (by kernel_rfl) (by simp) ?_
  refine AllReadyH.cons rfl (fun K hK => ?_) AllReadyH.nil
  go_simp
  refine (specNeg_any s' b A' n' c' w.heap.size w1.drew Hs'.out Rb1.out.1 Rb1.out.2 Hn'.out H100.out.2 Hcap.out.2).mono ?_
  rintro e w2 ⟨v2, rfl, hv2, hb0⟩
  have hb := belDrew hb0
  have Z2 := Lib.hid hv2
  have Bel2 := Lib.hid (belNext Bel1.out hb)
  have Bx2 := Lib.hid (Bx1.out.next hb)
  have By2 := Lib.hid (By1.out.next hb)
  have Rs2 := Lib.hid (Rs1.out.next hb)
  have Ra2 := Lib.hid (Ra1.out.next hb)
  have Hsz : Hid (w.heap.size + 1 + 1 < w1.heap.size) := Lib.hid Rs1.out.2
  refine hK.out _ _ ⟨Bx2.out.1, By2.out.1⟩ (fun hHeld => ?_)
  clear hK K hb hb0 hv2 Bx1 By1 Rs1 Ra1 Rb1 Bel1
  try simp only [Act.put, List.setIfInBounds_toArray, List.set_cons_zero, List.set_cons_succ]
  obtain ⟨A2, c2, hval, ho2, hc2⟩ := Z2.out
  subst hval
  have O2 := Lib.hid ho2
  have C2 := Lib.hid hc2
  have Hz2 : Hid ((-s' * (b : Int)).sign = -s' ∧ (-s' * (b : Int)).natAbs = b) := Lib.hid (sign_mul_abs (-s') b Hs'.out.neg.1 Hs'.out.neg.2.1 Hs'.out.neg.2.2)
  rw [Hz2.out.1, Hz2.out.2, Hn'.out]
  rw [Hz2.out.2] at O2 C2
  clear ho2 hc2 Z2
  refine wpAnyH_ready (rs := [3]) (by kernel_rfl) (by simp) ?_
  refine AllReadyH.cons rfl (fun K hK => ?_) AllReadyH.nil
  go_simp
  refine (specAdd_any s (-s') a b A A2 n n' c c2 w2 Hs.out Hs'.out.neg Ra2.out.all (O2.out.rd) Hn.out Hn'.out H100.out.1 H100.out.2 Hcap.out.1 (by rw [← Hn'.out]; exact C2.out)).mono ?_
  rintro e w9 ⟨val, rfl, hv, hb⟩
  have Hz := Lib.hid hv
  have Bel9 := Lib.hid (belNext Bel2.out hb)
  have Bx9 := Lib.hid (Bx2.out.next hb)
  have By9 := Lib.hid (By2.out.next hb)
  have Rs9 := Lib.hid (Rs2.out.next hb)
  have Hlt := Lib.hid Rs2.out.2
  refine hK.out _ _ ⟨Bx9.out.1, By9.out.1⟩ (fun hHeld => ?_)
  clear hK K hb hv
  try simp only [Act.put, List.setIfInBounds_toArray, List.set_cons_zero, List.set_cons_succ]
  obtain ⟨A9, c9, hval, _⟩ := Hz.out
  subst hval
  obtain ⟨⟨r1, r2, r3, r4⟩, _⟩ := Rs9.out
  refine wpAnyH_ready (rs := [4]) (by kernel_rfl) (by simp) ?_
  refine AllReadyH.cons rfl (fun K hK => ?_) AllReadyH.nil
  go_simp
  refine hK.out _ _ ⟨((Bx9.out.keep (by simp; omega) _).keep (by simp; omega) _).1, ((By9.out.keep (by simp) _).keep (by simp) _).1⟩ (fun hHeld => ?_)
  clear hK K hHeld
  try simp only [Act.put, List.setIfInBounds_toArray, List.set_cons_zero, List.set_cons_succ]
  refine wpAnyH_done (by kernel_rfl) ?_ _
  go_wp2_with fail
  refine bodyPost_ret (v := .agg #[.int .i64 (s * a + -s' * b).sign, .slice A9 (limbs (s * a + -s' * b).natAbs).length c9]) (by simp [results, Try.results60, go_sem, r1, r2]) rfl ⟨_, rfl, ?_, ?_⟩
  · exact ((Hz.out.setCell (by have := Hlt.out; simp; omega) _).setCell (by have := Hlt.out; simp; omega) _).wide (by have := Hlt.out; omega) (by simp)
  · exact (Bel9.out.setCell (by simp; omega) _).setCell (by simp; omega) _

set_option maxHeartbeats 4000000 in
theorem implAddW_any (s0 : Int) (A0 : Option Addr) (n0 c0 : Nat) (xs0 : List Int) (s1 : Int) (A1 : Option Addr) (n1 c1 : Nat) (xs1 : List Int) (w : World) (hr0 : Rd w w.heap.size A0 (vi xs0)) (hn0 : xs0.length = n0) (hm0 : n0 ≤ 1048580) (hc0 : n0 ≤ c0) (hr1 : Rd w w.heap.size A1 (vi xs1)) (hn1 : xs1.length = n1) (hm1 : n1 ≤ 1048580) (hc1 : n1 ≤ c1) :
    Calls Try.prog 22 #[.agg #[.int .i64 s0, .slice A0 n0 c0], .agg #[.int .i64 s1, .slice A1 n1 c1]] w fun e w' => ∃ val, e = .returned (.tuple #[val, .int .i64 (opE (s0 * magW s0 xs0 + s1 * magW s1 xs1) (both s0 xs0 s1 xs1))]) ∧ Wz w' w.heap.size w'.heap.size (opZ (s0 * magW s0 xs0 + s1 * magW s1 xs1) (both s0 xs0 s1 xs1)) val ∧ Below w.heap.size w w' := by
  have hst := store_int Try.prog
  have hst2 := store_slice Try.prog
  obtain ⟨w1, hw1, hb1, hb2, hb3, hb4⟩ := three_boxes w s0 s1 A0 A1 n0 n1 c0 c1 26 26 26
  have Ra1 : Hid (Rt w1 w.heap.size A0 (vi xs0)) := Lib.hid ⟨hr0.below hb4, hb4.size⟩
  have Rb1 : Hid (Rt w1 w.heap.size A1 (vi xs1)) := Lib.hid ⟨hr1.below hb4, hb4.size⟩
  have Hn0 := Lib.hid hn0
  have Hn1 := Lib.hid hn1
  have Hm0 := Lib.hid hm0
  have Hm1 := Lib.hid hm1
  have Hc := Lib.hid (And.intro hc0 hc1)
  have Hw := Lib.hid hw1
  have Bx1 := Lib.hid hb1
  have By1 := Lib.hid hb2
  have Rs1 := Lib.hid hb3
  have Bel1 := Lib.hid hb4
  clear hr0 hr1 hn0 hn1 hm0 hm1 hw1 hb1 hb2 hb3 hb4 hc0 hc1
  go_enter Try.func22, Try.ntmps22
  go_wp2_with fail
  rw [← Hw.out]
  obtain ⟨⟨hx1, hx2⟩, hx3⟩ := Bx1.out
  obtain ⟨⟨hy1, hy2⟩, hy3⟩ := By1.out
  refine (implIsW_any s0 A0 n0 c0 xs0 _ Ra1.out.all Hn0.out Hm0.out).mono ?_
  rintro e w2 ⟨rfl, hb⟩
  clear hx1 hx2 hx3 hy1 hy2 hy3
  have Bel2 := Lib.hid (belNext Bel1.out hb)
  have Bx2 := Lib.hid (Bx1.out.next hb)
  have By2 := Lib.hid (By1.out.next hb)
  have Rs2 := Lib.hid (Rs1.out.next hb)
  have Ra2 := Lib.hid (Ra1.out.next hb)
  have Rb2 := Lib.hid (Rb1.out.next hb)
  clear hb Bel1 Bx1 By1 Rs1 Ra1 Rb1
  obtain ⟨⟨hx1, hx2⟩, hx3⟩ := Bx2.out
  obtain ⟨⟨hy1, hy2⟩, hy3⟩ := By2.out
  by_cases h0 : isW s0 xs0 = true
  · rw [h0]
    go_wp2_with fail
    refine (implIsW_any s1 A1 n1 c1 xs1 _ Rb2.out.all Hn1.out Hm1.out).mono ?_
    rintro e w3 ⟨rfl, hb⟩
    clear hx1 hx2 hx3 hy1 hy2 hy3
    have Bel3 := Lib.hid (belNext Bel2.out hb)
    have Bx3 := Lib.hid (Bx2.out.next hb)
    have By3 := Lib.hid (By2.out.next hb)
    have Rs3 := Lib.hid (Rs2.out.next hb)
    have Ra3 := Lib.hid (Ra2.out.next hb)
    have Rb3 := Lib.hid (Rb2.out.next hb)
    clear hb Bel2 Bx2 By2 Rs2 Ra2 Rb2
    obtain ⟨⟨hx1, hx2⟩, hx3⟩ := Bx3.out
    obtain ⟨⟨hy1, hy2⟩, hy3⟩ := By3.out
    by_cases h1 : isW s1 xs1 = true
    · rw [h1]
      obtain ⟨v0, hv0, hs0, hx0, hl0, hh0⟩ := okW_data Hn0.out h0
      obtain ⟨v1, hv1, hs1, hx1b, hl1, hh1⟩ := okW_data Hn1.out h1
      have hbo := both_yes h0 h1
      have Hres : Hid (opZ (s0 * magW s0 xs0 + s1 * magW s1 xs1) (both s0 xs0 s1 xs1) = fitZ (s0 * (v0 : Int) + s1 * v1) ∧ opE (s0 * magW s0 xs0 + s1 * magW s1 xs1) (both s0 xs0 s1 xs1) = fitE (s0 * (v0 : Int) + s1 * v1)) := Lib.hid (by unfold opZ opE; rw [if_pos hbo, if_pos hbo, hv0, hv1]; exact ⟨rfl, rfl⟩)
      have Hd : Hid (Sg s0 v0 ∧ Sg s1 v1 ∧ (limbs v0).length = n0 ∧ (limbs v1).length = n1 ∧ (n0 : Int) ≤ 100 ∧ (n1 : Int) ≤ 100) := Lib.hid ⟨hs0, hs1, hl0, hl1, by omega, by omega⟩
      have Hx0 := Lib.hid hx0
      have Hx1 := Lib.hid hx1b
      have H90 : Hid ((n0 : Int) ≤ 90000 ∧ (n1 : Int) ≤ 90000) := Lib.hid (by omega)
      clear h0 h1 hv0 hs0 hx0 hl0 hh0 hv1 hs1 hx1b hl1 hh1 hbo
      go_wp2_with fail
      refine (implPlus_any s0 s1 v0 v1 A0 A1 n0 n1 c0 c1 _ Hd.out.1 Hd.out.2.1 (Ra3.out.all.eq_ Hx0.out) (Rb3.out.all.eq_ Hx1.out) Hd.out.2.2.1 Hd.out.2.2.2.1 H90.out.1 H90.out.2).mono ?_
      rintro e w4 ⟨val, rfl, hv, hb⟩
      have Z := Lib.hid (And.intro hv hb.size)
      have Hlt := Lib.hid Rs3.out.2
      clear hx1 hx2 hx3 hy1 hy2 hy3
      have Bel4 := Lib.hid (belNext Bel3.out hb)
      have Bx4 := Lib.hid (Bx3.out.next hb)
      have By4 := Lib.hid (By3.out.next hb)
      have Rs4 := Lib.hid (Rs3.out.next hb)
      have Ra4 := Lib.hid (Ra3.out.next hb)
      have Rb4 := Lib.hid (Rb3.out.next hb)
      clear hb Bel3 Bx3 By3 Rs3 Ra3 Rb3
      clear hv
      obtain ⟨Az, cz, hval, hoz, hcz⟩ := Z.out.1
      subst hval
      have Oz := Lib.hid hoz
      have Cz := Lib.hid hcz
      clear hoz hcz
      go_wp2_with fail
      refine (implLim_any (s0 * (v0 : Int) + s1 * v1) _ Az _ cz _ _ _ Oz.out (Nat.le_refl _) rfl rfl Cz.out (by have := sum_len Hd.out.1 Hd.out.2.1 Hd.out.2.2.1 Hd.out.2.2.2.1; have := H90.out; omega)).mono ?_
      rintro e w5 ⟨val, rfl, hv, hb⟩
      have Hz : Hid (Wz w5 _ w5.heap.size (fitZ (s0 * (v0 : Int) + s1 * v1)) val) := Lib.hid (hv.wide (Nat.le_refl _) hb.size)
      have Bel5 := Lib.hid (belNext Bel4.out hb)
      have Bx5 := Lib.hid (Bx4.out.next hb)
      have By5 := Lib.hid (By4.out.next hb)
      have Rs5 := Lib.hid (Rs4.out.next hb)
      have Ra5 := Lib.hid (Ra4.out.next hb)
      have Rb5 := Lib.hid (Rb4.out.next hb)
      clear hb Bel4 Bx4 By4 Rs4 Ra4 Rb4
      clear hv
      obtain ⟨A9, c9, hval, _⟩ := Hz.out
      subst hval
      obtain ⟨⟨r1, r2, r3, r4⟩, _⟩ := Rs5.out
      go_wp2_with fail
      refine bodyPost_ret (v := .tuple #[.agg #[.int .i64 (fitZ (s0 * (v0 : Int) + s1 * v1)).sign, .slice A9 (limbs (fitZ (s0 * (v0 : Int) + s1 * v1)).natAbs).length c9], .int .i64 (fitE (s0 * (v0 : Int) + s1 * v1))]) (by simp [results, Try.results22, go_sem, r1, r2]) rfl ⟨_, ret_val Hres.out.2.symm rfl, ?_, ?_⟩
      · rw [Hres.out.1]
        exact ((Hz.out.setCell (by have := Hlt.out; simp; omega) _).setCell (by have := Hlt.out; simp; omega) _).wide (by have := Hlt.out; omega) (by first | (simp; done) | (simp; omega))
      · exact (Bel5.out.setCell (by simp; omega) _).setCell (by simp; omega) _
    · have h1' : isW s1 xs1 = false := by simpa using h1
      rw [h1']
      have Hres : Hid (opZ (s0 * magW s0 xs0 + s1 * magW s1 xs1) (both s0 xs0 s1 xs1) = 0 ∧ opE (s0 * magW s0 xs0 + s1 * magW s1 xs1) (both s0 xs0 s1 xs1) = 1) := Lib.hid (by unfold opZ opE; rw [if_neg (both_no1 h1'), if_neg (both_no1 h1')]; exact ⟨rfl, rfl⟩)
      clear h1 h1'
      obtain ⟨⟨r1, r2, r3, r4⟩, _⟩ := Rs3.out
      go_wp2_with fail
      refine bodyPost_ret (v := .tuple #[.agg #[.int .i64 0, .slice none 0 0], .int .i64 1]) (by simp [results, Try.results22, go_sem, r1, r2]) rfl ⟨_, ret_val Hres.out.2.symm rfl, ?_, ?_⟩
      · rw [Hres.out.1]; exact Wz.zero_ _ _ _
      · exact (Bel3.out.setCell (by simp; omega) _).setCell (by simp; omega) _
  · have h0' : isW s0 xs0 = false := by simpa using h0
    rw [h0']
    have Hres : Hid (opZ (s0 * magW s0 xs0 + s1 * magW s1 xs1) (both s0 xs0 s1 xs1) = 0 ∧ opE (s0 * magW s0 xs0 + s1 * magW s1 xs1) (both s0 xs0 s1 xs1) = 1) := Lib.hid (by unfold opZ opE; rw [if_neg (both_no0 h0'), if_neg (both_no0 h0')]; exact ⟨rfl, rfl⟩)
    clear h0 h0'
    obtain ⟨⟨r1, r2, r3, r4⟩, _⟩ := Rs2.out
    go_wp2_with fail
    refine bodyPost_ret (v := .tuple #[.agg #[.int .i64 0, .slice none 0 0], .int .i64 1]) (by simp [results, Try.results22, go_sem, r1, r2]) rfl ⟨_, ret_val Hres.out.2.symm rfl, ?_, ?_⟩
    · rw [Hres.out.1]; exact Wz.zero_ _ _ _
    · exact (Bel2.out.setCell (by simp; omega) _).setCell (by simp; omega) _

set_option maxHeartbeats 4000000 in
theorem implSubW_any (s0 : Int) (A0 : Option Addr) (n0 c0 : Nat) (xs0 : List Int) (s1 : Int) (A1 : Option Addr) (n1 c1 : Nat) (xs1 : List Int) (w : World) (hr0 : Rd w w.heap.size A0 (vi xs0)) (hn0 : xs0.length = n0) (hm0 : n0 ≤ 1048580) (hc0 : n0 ≤ c0) (hr1 : Rd w w.heap.size A1 (vi xs1)) (hn1 : xs1.length = n1) (hm1 : n1 ≤ 1048580) (hc1 : n1 ≤ c1) :
    Calls Try.prog 26 #[.agg #[.int .i64 s0, .slice A0 n0 c0], .agg #[.int .i64 s1, .slice A1 n1 c1]] w fun e w' => ∃ val, e = .returned (.tuple #[val, .int .i64 (opE (s0 * magW s0 xs0 + -s1 * magW s1 xs1) (both s0 xs0 s1 xs1))]) ∧ Wz w' w.heap.size w'.heap.size (opZ (s0 * magW s0 xs0 + -s1 * magW s1 xs1) (both s0 xs0 s1 xs1)) val ∧ Below w.heap.size w w' := by
  have hst := store_int Try.prog
  have hst2 := store_slice Try.prog
  obtain ⟨w1, hw1, hb1, hb2, hb3, hb4⟩ := three_boxes w s0 s1 A0 A1 n0 n1 c0 c1 26 26 26
  have Ra1 : Hid (Rt w1 w.heap.size A0 (vi xs0)) := Lib.hid ⟨hr0.below hb4, hb4.size⟩
  have Rb1 : Hid (Rt w1 w.heap.size A1 (vi xs1)) := Lib.hid ⟨hr1.below hb4, hb4.size⟩
  have Hn0 := Lib.hid hn0
  have Hn1 := Lib.hid hn1
  have Hm0 := Lib.hid hm0
  have Hm1 := Lib.hid hm1
  have Hc := Lib.hid (And.intro hc0 hc1)
  have Hw := Lib.hid hw1
  have Bx1 := Lib.hid hb1
  have By1 := Lib.hid hb2
  have Rs1 := Lib.hid hb3
  have Bel1 := Lib.hid hb4
  clear hr0 hr1 hn0 hn1 hm0 hm1 hw1 hb1 hb2 hb3 hb4 hc0 hc1
  go_enter Try.func26, Try.ntmps26
  go_wp2_with fail
  rw [← Hw.out]
  obtain ⟨⟨hx1, hx2⟩, hx3⟩ := Bx1.out
  obtain ⟨⟨hy1, hy2⟩, hy3⟩ := By1.out
  refine (implIsW_any s0 A0 n0 c0 xs0 _ Ra1.out.all Hn0.out Hm0.out).mono ?_
  rintro e w2 ⟨rfl, hb⟩
  clear hx1 hx2 hx3 hy1 hy2 hy3
  have Bel2 := Lib.hid (belNext Bel1.out hb)
  have Bx2 := Lib.hid (Bx1.out.next hb)
  have By2 := Lib.hid (By1.out.next hb)
  have Rs2 := Lib.hid (Rs1.out.next hb)
  have Ra2 := Lib.hid (Ra1.out.next hb)
  have Rb2 := Lib.hid (Rb1.out.next hb)
  clear hb Bel1 Bx1 By1 Rs1 Ra1 Rb1
  obtain ⟨⟨hx1, hx2⟩, hx3⟩ := Bx2.out
  obtain ⟨⟨hy1, hy2⟩, hy3⟩ := By2.out
  by_cases h0 : isW s0 xs0 = true
  · rw [h0]
    go_wp2_with fail
    refine (implIsW_any s1 A1 n1 c1 xs1 _ Rb2.out.all Hn1.out Hm1.out).mono ?_
    rintro e w3 ⟨rfl, hb⟩
    clear hx1 hx2 hx3 hy1 hy2 hy3
    have Bel3 := Lib.hid (belNext Bel2.out hb)
    have Bx3 := Lib.hid (Bx2.out.next hb)
    have By3 := Lib.hid (By2.out.next hb)
    have Rs3 := Lib.hid (Rs2.out.next hb)
    have Ra3 := Lib.hid (Ra2.out.next hb)
    have Rb3 := Lib.hid (Rb2.out.next hb)
    clear hb Bel2 Bx2 By2 Rs2 Ra2 Rb2
    obtain ⟨⟨hx1, hx2⟩, hx3⟩ := Bx3.out
    obtain ⟨⟨hy1, hy2⟩, hy3⟩ := By3.out
    by_cases h1 : isW s1 xs1 = true
    · rw [h1]
      obtain ⟨v0, hv0, hs0, hx0, hl0, hh0⟩ := okW_data Hn0.out h0
      obtain ⟨v1, hv1, hs1, hx1b, hl1, hh1⟩ := okW_data Hn1.out h1
      have hbo := both_yes h0 h1
      have Hres : Hid (opZ (s0 * magW s0 xs0 + -s1 * magW s1 xs1) (both s0 xs0 s1 xs1) = fitZ (s0 * (v0 : Int) + -s1 * v1) ∧ opE (s0 * magW s0 xs0 + -s1 * magW s1 xs1) (both s0 xs0 s1 xs1) = fitE (s0 * (v0 : Int) + -s1 * v1)) := Lib.hid (by unfold opZ opE; rw [if_pos hbo, if_pos hbo, hv0, hv1]; exact ⟨rfl, rfl⟩)
      have Hd : Hid (Sg s0 v0 ∧ Sg s1 v1 ∧ (limbs v0).length = n0 ∧ (limbs v1).length = n1 ∧ (n0 : Int) ≤ 100 ∧ (n1 : Int) ≤ 100) := Lib.hid ⟨hs0, hs1, hl0, hl1, by omega, by omega⟩
      have Hx0 := Lib.hid hx0
      have Hx1 := Lib.hid hx1b
      have H90 : Hid ((n0 : Int) ≤ 90000 ∧ (n1 : Int) ≤ 90000) := Lib.hid (by omega)
      clear h0 h1 hv0 hs0 hx0 hl0 hh0 hv1 hs1 hx1b hl1 hh1 hbo
      go_wp2_with fail
      refine wp_region_held_drew (S := fun w' => (w'.cell? ⟨w.heap.size, 0, none⟩ = some (.int .i64 s0) ∧ w'.cell? ⟨w.heap.size, 1, none⟩ = some (.slice A0 n0 c0)) ∧ (w'.cell? ⟨w.heap.size + 1, 0, none⟩ = some (.int .i64 s1) ∧ w'.cell? ⟨w.heap.size + 1, 1, none⟩ = some (.slice A1 n1 c1))) (by kernel_rfl) ⟨Bx3.out.1, By3.out.1⟩ (fun hHeld => ?_)
      clear hx1 hx2 hx3 hy1 hy2 hy3
      refine wpAnyH_take (i := 0) (v := ?_) rfl (by kernel_rfl) (by kernel_rfl) (by kernel_rfl) (fun _ _ _ h => h) (Or.inl ⟨by rfl, ?_⟩) (by assumption) ?_
      rotate_left
      · (intro w hSw; (try dsimp only at hSw); go_simp; (try with_reducible rfl))
      try simp only [Act.put, List.setIfInBounds_toArray, List.set_cons_zero, List.set_cons_succ]
      refine wpAnyH_take (i := 1) (v := ?_) rfl (by kernel_rfl) (by kernel_rfl) (by kernel_rfl) (fun _ _ _ h => h) (Or.inl ⟨by rfl, ?_⟩) (by assumption) ?_
      rotate_left
      · (intro w hSw; (try dsimp only at hSw); go_simp; (try with_reducible rfl))
      try simp only [Act.put, List.setIfInBounds_toArray, List.set_cons_zero, List.set_cons_succ]
      refine wpAnyH_ready (rs := [2]) (by kernel_rfl) (by simp) ?_
      refine AllReadyH.cons rfl (fun K hK => ?_) AllReadyH.nil
      go_simp
      refine (implOpp_any s1 A1 n1 c1 w3.drew Hd.out.2.1.1 Hd.out.2.1.2.1).mono ?_
      rintro e w4 ⟨rfl, hb0⟩
      have hb := belDrew hb0
      refine hK.out _ _ ⟨(Bx3.out.next hb).1, (By3.out.next hb).1⟩ (fun hHeld => ?_)
      clear hK K hb0
      have Bel4 := Lib.hid (belNext Bel3.out hb)
      have Bx4 := Lib.hid (Bx3.out.next hb)
      have By4 := Lib.hid (By3.out.next hb)
      have Rs4 := Lib.hid (Rs3.out.next hb)
      have Ra4 := Lib.hid (Ra3.out.next hb)
      have Rb4 := Lib.hid (Rb3.out.next hb)
      clear hb Bel3 Bx3 By3 Rs3 Ra3 Rb3
      try simp only [Act.put, List.setIfInBounds_toArray, List.set_cons_zero, List.set_cons_succ]
      refine wpAnyH_ready (rs := [3]) (by kernel_rfl) (by simp) ?_
      refine AllReadyH.cons rfl (fun K hK => ?_) AllReadyH.nil
      go_simp
      refine (implPlus_any s0 (-s1) v0 v1 A0 A1 n0 n1 c0 c1 w4 Hd.out.1 Hd.out.2.1.neg (Ra4.out.all.eq_ Hx0.out) (Rb4.out.all.eq_ Hx1.out) Hd.out.2.2.1 Hd.out.2.2.2.1 H90.out.1 H90.out.2).mono ?_
      rintro e w5 ⟨val, rfl, hv, hb⟩
      have Z := Lib.hid (And.intro hv hb.size)
      have Hlt := Lib.hid Rs4.out.2
      refine hK.out _ _ ⟨(Bx4.out.next hb).1, (By4.out.next hb).1⟩ (fun hHeld => ?_)
      clear hK K hv
      have Bel5 := Lib.hid (belNext Bel4.out hb)
      have Bx5 := Lib.hid (Bx4.out.next hb)
      have By5 := Lib.hid (By4.out.next hb)
      have Rs5 := Lib.hid (Rs4.out.next hb)
      have Ra5 := Lib.hid (Ra4.out.next hb)
      have Rb5 := Lib.hid (Rb4.out.next hb)
      clear hb Bel4 Bx4 By4 Rs4 Ra4 Rb4
      try simp only [Act.put, List.setIfInBounds_toArray, List.set_cons_zero, List.set_cons_succ]
      obtain ⟨Az, cz, hval, hoz, hcz⟩ := Z.out.1
      subst hval
      have Oz := Lib.hid hoz
      have Cz := Lib.hid hcz
      clear hoz hcz
      refine wpAnyH_ready (rs := [4]) (by kernel_rfl) (by simp) ?_
      refine AllReadyH.cons rfl (fun K hK => ?_) AllReadyH.nil
      go_simp
      refine (implLim_any (s0 * (v0 : Int) + -s1 * v1) _ Az _ cz _ _ w5 Oz.out (Nat.le_refl _) rfl rfl Cz.out (by have := sum_len Hd.out.1 Hd.out.2.1.neg Hd.out.2.2.1 Hd.out.2.2.2.1; have := H90.out; omega)).mono ?_
      rintro e w6 ⟨val, rfl, hv, hb⟩
      have Hz : Hid (Wz w6 _ w6.heap.size (fitZ (s0 * (v0 : Int) + -s1 * v1)) val) := Lib.hid (hv.wide (Nat.le_refl _) hb.size)
      refine hK.out _ _ ⟨(Bx5.out.next hb).1, (By5.out.next hb).1⟩ (fun hHeld => ?_)
      clear hK K hv
      have Bel6 := Lib.hid (belNext Bel5.out hb)
      have Bx6 := Lib.hid (Bx5.out.next hb)
      have By6 := Lib.hid (By5.out.next hb)
      have Rs6 := Lib.hid (Rs5.out.next hb)
      have Ra6 := Lib.hid (Ra5.out.next hb)
      have Rb6 := Lib.hid (Rb5.out.next hb)
      clear hb Bel5 Bx5 By5 Rs5 Ra5 Rb5
      try simp only [Act.put, List.setIfInBounds_toArray, List.set_cons_zero, List.set_cons_succ]
      obtain ⟨A9, c9, hval, _⟩ := Hz.out
      subst hval
      obtain ⟨⟨r1, r2, r3, r4⟩, _⟩ := Rs6.out
      refine wpAnyH_take (i := 5) (v := ?_) rfl (by kernel_rfl) (by kernel_rfl) (by kernel_rfl) (fun _ _ _ h => h) (Or.inl ⟨by rfl, ?_⟩) (by assumption) ?_
      rotate_left
      · (intro w hSw; (try dsimp only at hSw); go_simp; (try with_reducible rfl))
      try simp only [Act.put, List.setIfInBounds_toArray, List.set_cons_zero, List.set_cons_succ]
      refine wpAnyH_take (i := 6) (v := ?_) rfl (by kernel_rfl) (by kernel_rfl) (by kernel_rfl) (fun _ _ _ h => h) (Or.inl ⟨by rfl, ?_⟩) (by assumption) ?_
      rotate_left
      · (intro w hSw; (try dsimp only at hSw); go_simp; (try with_reducible rfl))
      try simp only [Act.put, List.setIfInBounds_toArray, List.set_cons_zero, List.set_cons_succ]
      refine wpAnyH_ready (rs := [7]) (by kernel_rfl) (by simp) ?_
      refine AllReadyH.cons rfl (fun K hK => ?_) AllReadyH.nil
      go_simp
      refine hK.out _ _ ⟨((Bx6.out.keep (by simp; omega) _).keep (by simp; omega) _).1, ((By6.out.keep (by simp) _).keep (by simp) _).1⟩ (fun hHeld => ?_)
      clear hK K
      try simp only [Act.put, List.setIfInBounds_toArray, List.set_cons_zero, List.set_cons_succ]
      refine wpAnyH_ready (rs := [8]) (by kernel_rfl) (by simp) ?_
      refine AllReadyH.cons rfl (fun K hK => ?_) AllReadyH.nil
      go_simp
      refine hK.out _ _ hHeld (fun hHeld => ?_)
      clear hK K hHeld
      try simp only [Act.put, List.setIfInBounds_toArray, List.set_cons_zero, List.set_cons_succ]
      refine wpAnyH_done (by kernel_rfl) ?_ _
      go_wp2_with fail
      refine bodyPost_ret (v := .tuple #[.agg #[.int .i64 (fitZ (s0 * (v0 : Int) + -s1 * v1)).sign, .slice A9 (limbs (fitZ (s0 * (v0 : Int) + -s1 * v1)).natAbs).length c9], .int .i64 (fitE (s0 * (v0 : Int) + -s1 * v1))]) (by simp [results, Try.results26, go_sem, r1, r2]) rfl ⟨_, ret_val Hres.out.2.symm rfl, ?_, ?_⟩
      · rw [Hres.out.1]
        exact ((Hz.out.setCell (by have := Hlt.out; simp; omega) _).setCell (by have := Hlt.out; simp; omega) _).wide (by have := Hlt.out; omega) (by first | (simp; done) | (simp; omega))
      · exact (Bel6.out.setCell (by simp; omega) _).setCell (by simp; omega) _
    · have h1' : isW s1 xs1 = false := by simpa using h1
      rw [h1']
      have Hres : Hid (opZ (s0 * magW s0 xs0 + -s1 * magW s1 xs1) (both s0 xs0 s1 xs1) = 0 ∧ opE (s0 * magW s0 xs0 + -s1 * magW s1 xs1) (both s0 xs0 s1 xs1) = 1) := Lib.hid (by unfold opZ opE; rw [if_neg (both_no1 h1'), if_neg (both_no1 h1')]; exact ⟨rfl, rfl⟩)
      clear h1 h1'
      obtain ⟨⟨r1, r2, r3, r4⟩, _⟩ := Rs3.out
      go_wp2_with fail
      refine bodyPost_ret (v := .tuple #[.agg #[.int .i64 0, .slice none 0 0], .int .i64 1]) (by simp [results, Try.results26, go_sem, r1, r2]) rfl ⟨_, ret_val Hres.out.2.symm rfl, ?_, ?_⟩
      · rw [Hres.out.1]; exact Wz.zero_ _ _ _
      · exact (Bel3.out.setCell (by simp; omega) _).setCell (by simp; omega) _
  · have h0' : isW s0 xs0 = false := by simpa using h0
    rw [h0']
    have Hres : Hid (opZ (s0 * magW s0 xs0 + -s1 * magW s1 xs1) (both s0 xs0 s1 xs1) = 0 ∧ opE (s0 * magW s0 xs0 + -s1 * magW s1 xs1) (both s0 xs0 s1 xs1) = 1) := Lib.hid (by unfold opZ opE; rw [if_neg (both_no0 h0'), if_neg (both_no0 h0')]; exact ⟨rfl, rfl⟩)
    clear h0 h0'
    obtain ⟨⟨r1, r2, r3, r4⟩, _⟩ := Rs2.out
    go_wp2_with fail
    refine bodyPost_ret (v := .tuple #[.agg #[.int .i64 0, .slice none 0 0], .int .i64 1]) (by simp [results, Try.results26, go_sem, r1, r2]) rfl ⟨_, ret_val Hres.out.2.symm rfl, ?_, ?_⟩
    · rw [Hres.out.1]; exact Wz.zero_ _ _ _
    · exact (Bel2.out.setCell (by simp; omega) _).setCell (by simp; omega) _

set_option maxHeartbeats 4000000 in
theorem specAddW_any (s0 : Int) (A0 : Option Addr) (n0 c0 : Nat) (xs0 : List Int) (s1 : Int) (A1 : Option Addr) (n1 c1 : Nat) (xs1 : List Int) (w : World) (hr0 : Rd w w.heap.size A0 (vi xs0)) (hn0 : xs0.length = n0) (hm0 : n0 ≤ 1048580) (hc0 : n0 ≤ c0) (hr1 : Rd w w.heap.size A1 (vi xs1)) (hn1 : xs1.length = n1) (hm1 : n1 ≤ 1048580) (hc1 : n1 ≤ c1) :
    Calls Try.prog 25 #[.agg #[.int .i64 s0, .slice A0 n0 c0], .agg #[.int .i64 s1, .slice A1 n1 c1]] w fun e w' => ∃ val, e = .returned (.tuple #[val, .int .i64 (opE (s0 * magW s0 xs0 + s1 * magW s1 xs1) (both s0 xs0 s1 xs1))]) ∧ Wz w' w.heap.size w'.heap.size (opZ (s0 * magW s0 xs0 + s1 * magW s1 xs1) (both s0 xs0 s1 xs1)) val ∧ Below w.heap.size w w' := by
  have hst := store_int Try.prog
  have hst2 := store_slice Try.prog
  obtain ⟨w1, hw1, hb1, hb2, hb3, hb4⟩ := three_boxes w s0 s1 A0 A1 n0 n1 c0 c1 26 26 26
  have Ra1 : Hid (Rt w1 w.heap.size A0 (vi xs0)) := Lib.hid ⟨hr0.below hb4, hb4.size⟩
  have Rb1 : Hid (Rt w1 w.heap.size A1 (vi xs1)) := Lib.hid ⟨hr1.below hb4, hb4.size⟩
  have Hn0 := Lib.hid hn0
  have Hn1 := Lib.hid hn1
  have Hm0 := Lib.hid hm0
  have Hm1 := Lib.hid hm1
  have Hc := Lib.hid (And.intro hc0 hc1)
  have Hw := Lib.hid hw1
  have Bx1 := Lib.hid hb1
  have By1 := Lib.hid hb2
  have Rs1 := Lib.hid hb3
  have Bel1 := Lib.hid hb4
  clear hr0 hr1 hn0 hn1 hm0 hm1 hw1 hb1 hb2 hb3 hb4 hc0 hc1
  go_enter Try.func25, Try.ntmps25
  go_wp2_with fail
  rw [← Hw.out]
  obtain ⟨⟨hx1, hx2⟩, hx3⟩ := Bx1.out
  obtain ⟨⟨hy1, hy2⟩, hy3⟩ := By1.out
  refine (specBoth_any s0 A0 n0 c0 xs0 s1 A1 n1 c1 xs1 _ Ra1.out.all Hn0.out Hm0.out Rb1.out.all Hn1.out Hm1.out).mono ?_
  rintro e w2 ⟨rfl, hb⟩
  clear hx1 hx2 hx3 hy1 hy2 hy3
  have Bel2 := Lib.hid (belNext Bel1.out hb)
  have Bx2 := Lib.hid (Bx1.out.next hb)
  have By2 := Lib.hid (By1.out.next hb)
  have Rs2 := Lib.hid (Rs1.out.next hb)
  have Ra2 := Lib.hid (Ra1.out.next hb)
  have Rb2 := Lib.hid (Rb1.out.next hb)
  clear hb Bel1 Bx1 By1 Rs1 Ra1 Rb1
  obtain ⟨⟨hx1, hx2⟩, hx3⟩ := Bx2.out
  obtain ⟨⟨hy1, hy2⟩, hy3⟩ := By2.out
  by_cases hbo : both s0 xs0 s1 xs1 = true
  · have he : errB s0 xs0 s1 xs1 = 0 := if_pos hbo
    rw [he]
    have h0 := both_1 hbo
    have h1 := both_2 hbo
    clear hbo he
    obtain ⟨v0, hv0, hs0, hx0, hl0, hh0⟩ := okW_data Hn0.out h0
    obtain ⟨v1, hv1, hs1, hx1b, hl1, hh1⟩ := okW_data Hn1.out h1
    have hbo := both_yes h0 h1
    have Hres : Hid (opZ (s0 * magW s0 xs0 + s1 * magW s1 xs1) (both s0 xs0 s1 xs1) = fitZ (s0 * (v0 : Int) + s1 * v1) ∧ opE (s0 * magW s0 xs0 + s1 * magW s1 xs1) (both s0 xs0 s1 xs1) = fitE (s0 * (v0 : Int) + s1 * v1)) := Lib.hid (by unfold opZ opE; rw [if_pos hbo, if_pos hbo, hv0, hv1]; exact ⟨rfl, rfl⟩)
    have Hd : Hid (Sg s0 v0 ∧ Sg s1 v1 ∧ (limbs v0).length = n0 ∧ (limbs v1).length = n1 ∧ (n0 : Int) ≤ 100 ∧ (n1 : Int) ≤ 100) := Lib.hid ⟨hs0, hs1, hl0, hl1, by omega, by omega⟩
    have Hx0 := Lib.hid hx0
    have Hx1 := Lib.hid hx1b
    have H90 : Hid ((n0 : Int) ≤ 90000 ∧ (n1 : Int) ≤ 90000) := Lib.hid (by omega)
    clear h0 h1 hv0 hs0 hx0 hl0 hh0 hv1 hs1 hx1b hl1 hh1 hbo
    go_wp2_with fail
    refine (specAdd_any s0 s1 v0 v1 A0 A1 n0 n1 c0 c1 _ Hd.out.1 Hd.out.2.1 (Ra2.out.all.eq_ Hx0.out) (Rb2.out.all.eq_ Hx1.out) Hd.out.2.2.1 Hd.out.2.2.2.1 H90.out.1 H90.out.2 Hc.out.1 Hc.out.2).mono ?_
    rintro e w3 ⟨val, rfl, hv, hb⟩
    have Z := Lib.hid (And.intro hv hb.size)
    have Hlt := Lib.hid Rs2.out.2
    clear hx1 hx2 hx3 hy1 hy2 hy3
    have Bel3 := Lib.hid (belNext Bel2.out hb)
    have Bx3 := Lib.hid (Bx2.out.next hb)
    have By3 := Lib.hid (By2.out.next hb)
    have Rs3 := Lib.hid (Rs2.out.next hb)
    have Ra3 := Lib.hid (Ra2.out.next hb)
    have Rb3 := Lib.hid (Rb2.out.next hb)
    clear hb Bel2 Bx2 By2 Rs2 Ra2 Rb2
    clear hv
    obtain ⟨Az, cz, hval, hoz, hcz⟩ := Z.out.1
    subst hval
    have Oz := Lib.hid hoz
    have Cz := Lib.hid hcz
    clear hoz hcz
    go_wp2_with fail
    refine (specFit_any (s0 * (v0 : Int) + s1 * v1) _ Az _ cz _ _ _ Oz.out (Nat.le_refl _) rfl rfl Cz.out (by have := sum_len Hd.out.1 Hd.out.2.1 Hd.out.2.2.1 Hd.out.2.2.2.1; have := H90.out; omega)).mono ?_
    rintro e w4 ⟨val, rfl, hv, hb⟩
    have Hz : Hid (Wz w4 _ w4.heap.size (fitZ (s0 * (v0 : Int) + s1 * v1)) val) := Lib.hid (hv.wide (Nat.le_refl _) hb.size)
    have Bel4 := Lib.hid (belNext Bel3.out hb)
    have Bx4 := Lib.hid (Bx3.out.next hb)
    have By4 := Lib.hid (By3.out.next hb)
    have Rs4 := Lib.hid (Rs3.out.next hb)
    have Ra4 := Lib.hid (Ra3.out.next hb)
    have Rb4 := Lib.hid (Rb3.out.next hb)
    clear hb Bel3 Bx3 By3 Rs3 Ra3 Rb3
    clear hv
    obtain ⟨A9, c9, hval, _⟩ := Hz.out
    subst hval
    go_upto_region 5 with (fail)
    obtain ⟨w5, hw5⟩ : ∃ w5, w5 = w4.alloc (.cells #[.int .i64 (fitZ (s0 * (v0 : Int) + s1 * v1)).sign, .slice A9 (limbs (fitZ (s0 * (v0 : Int) + s1 * v1)).natAbs).length c9] 26) := ⟨_, rfl⟩
    rw [← hw5]
    have hb : Below w4.heap.size w4 w5 := by rw [hw5]; exact belAlloc1 _ _
    have Bn : Hid (Box w5 w4.heap.size (fitZ (s0 * (v0 : Int) + s1 * v1)).sign A9 (limbs (fitZ (s0 * (v0 : Int) + s1 * v1)).natAbs).length c9) := Lib.hid (by rw [hw5]; exact Box.new _ _ _ _ _ _)
    have Hz5 := Lib.hid (Hz.out.keep hb)
    clear hw5 Hz
    have Bel5 := Lib.hid (belNext Bel4.out hb)
    have Bx5 := Lib.hid (Bx4.out.next hb)
    have By5 := Lib.hid (By4.out.next hb)
    have Rs5 := Lib.hid (Rs4.out.next hb)
    have Ra5 := Lib.hid (Ra4.out.next hb)
    have Rb5 := Lib.hid (Rb4.out.next hb)
    clear hb Bel4 Bx4 By4 Rs4 Ra4 Rb4
    have Hz := Hz5
    clear Hz5
    obtain ⟨⟨r1, r2, r3, r4⟩, _⟩ := Rs5.out
    obtain ⟨⟨hx1, hx2⟩, hx3⟩ := Bn.out
    go_wp2_with fail
    refine bodyPost_ret (v := .tuple #[.agg #[.int .i64 (fitZ (s0 * (v0 : Int) + s1 * v1)).sign, .slice A9 (limbs (fitZ (s0 * (v0 : Int) + s1 * v1)).natAbs).length c9], .int .i64 (fitE (s0 * (v0 : Int) + s1 * v1))]) (by simp [results, Try.results25, go_sem, r1, r2]) rfl ⟨_, ret_val Hres.out.2.symm rfl, ?_, ?_⟩
    · rw [Hres.out.1]
      exact ((Hz.out.setCell (by have := Hlt.out; simp; omega) _).setCell (by have := Hlt.out; simp; omega) _).wide (by have := Hlt.out; omega) (by first | (simp; done) | (simp; omega))
    · exact (Bel5.out.setCell (by simp; omega) _).setCell (by simp; omega) _
  · have he : errB s0 xs0 s1 xs1 = 1 := if_neg hbo
    rw [he]
    have Hres : Hid (opZ (s0 * magW s0 xs0 + s1 * magW s1 xs1) (both s0 xs0 s1 xs1) = 0 ∧ opE (s0 * magW s0 xs0 + s1 * magW s1 xs1) (both s0 xs0 s1 xs1) = 1) := Lib.hid (by unfold opZ opE; rw [if_neg hbo, if_neg hbo]; exact ⟨rfl, rfl⟩)
    clear hbo he
    obtain ⟨⟨r1, r2, r3, r4⟩, _⟩ := Rs2.out
    go_wp2_with fail
    refine bodyPost_ret (v := .tuple #[.agg #[.int .i64 0, .slice none 0 0], .int .i64 1]) (by simp [results, Try.results25, go_sem, r1, r2]) rfl ⟨_, ret_val Hres.out.2.symm rfl, ?_, ?_⟩
    · rw [Hres.out.1]; exact Wz.zero_ _ _ _
    · exact (Bel2.out.setCell (by simp; omega) _).setCell (by simp; omega) _

set_option maxHeartbeats 4000000 in
theorem specSubW_any (s0 : Int) (A0 : Option Addr) (n0 c0 : Nat) (xs0 : List Int) (s1 : Int) (A1 : Option Addr) (n1 c1 : Nat) (xs1 : List Int) (w : World) (hr0 : Rd w w.heap.size A0 (vi xs0)) (hn0 : xs0.length = n0) (hm0 : n0 ≤ 1048580) (hc0 : n0 ≤ c0) (hr1 : Rd w w.heap.size A1 (vi xs1)) (hn1 : xs1.length = n1) (hm1 : n1 ≤ 1048580) (hc1 : n1 ≤ c1) :
    Calls Try.prog 27 #[.agg #[.int .i64 s0, .slice A0 n0 c0], .agg #[.int .i64 s1, .slice A1 n1 c1]] w fun e w' => ∃ val, e = .returned (.tuple #[val, .int .i64 (opE (s0 * magW s0 xs0 + -s1 * magW s1 xs1) (both s0 xs0 s1 xs1))]) ∧ Wz w' w.heap.size w'.heap.size (opZ (s0 * magW s0 xs0 + -s1 * magW s1 xs1) (both s0 xs0 s1 xs1)) val ∧ Below w.heap.size w w' := by
  have hst := store_int Try.prog
  have hst2 := store_slice Try.prog
  obtain ⟨w1, hw1, hb1, hb2, hb3, hb4⟩ := three_boxes w s0 s1 A0 A1 n0 n1 c0 c1 26 26 26
  have Ra1 : Hid (Rt w1 w.heap.size A0 (vi xs0)) := Lib.hid ⟨hr0.below hb4, hb4.size⟩
  have Rb1 : Hid (Rt w1 w.heap.size A1 (vi xs1)) := Lib.hid ⟨hr1.below hb4, hb4.size⟩
  have Hn0 := Lib.hid hn0
  have Hn1 := Lib.hid hn1
  have Hm0 := Lib.hid hm0
  have Hm1 := Lib.hid hm1
  have Hc := Lib.hid (And.intro hc0 hc1)
  have Hw := Lib.hid hw1
  have Bx1 := Lib.hid hb1
  have By1 := Lib.hid hb2
  have Rs1 := Lib.hid hb3
  have Bel1 := Lib.hid hb4
  clear hr0 hr1 hn0 hn1 hm0 hm1 hw1 hb1 hb2 hb3 hb4 hc0 hc1
  go_enter Try.func27, Try.ntmps27
  go_wp2_with fail
  rw [← Hw.out]
  obtain ⟨⟨hx1, hx2⟩, hx3⟩ := Bx1.out
  obtain ⟨⟨hy1, hy2⟩, hy3⟩ := By1.out
  refine (specBoth_any s0 A0 n0 c0 xs0 s1 A1 n1 c1 xs1 _ Ra1.out.all Hn0.out Hm0.out Rb1.out.all Hn1.out Hm1.out).mono ?_
  rintro e w2 ⟨rfl, hb⟩
  clear hx1 hx2 hx3 hy1 hy2 hy3
  have Bel2 := Lib.hid (belNext Bel1.out hb)
  have Bx2 := Lib.hid (Bx1.out.next hb)
  have By2 := Lib.hid (By1.out.next hb)
  have Rs2 := Lib.hid (Rs1.out.next hb)
  have Ra2 := Lib.hid (Ra1.out.next hb)
  have Rb2 := Lib.hid (Rb1.out.next hb)
  clear hb Bel1 Bx1 By1 Rs1 Ra1 Rb1
  obtain ⟨⟨hx1, hx2⟩, hx3⟩ := Bx2.out
  obtain ⟨⟨hy1, hy2⟩, hy3⟩ := By2.out
  by_cases hbo : both s0 xs0 s1 xs1 = true
  · have he : errB s0 xs0 s1 xs1 = 0 := if_pos hbo
    rw [he]
    have h0 := both_1 hbo
    have h1 := both_2 hbo
    clear hbo he
    obtain ⟨v0, hv0, hs0, hx0, hl0, hh0⟩ := okW_data Hn0.out h0
    obtain ⟨v1, hv1, hs1, hx1b, hl1, hh1⟩ := okW_data Hn1.out h1
    have hbo := both_yes h0 h1
    have Hres : Hid (opZ (s0 * magW s0 xs0 + -s1 * magW s1 xs1) (both s0 xs0 s1 xs1) = fitZ (s0 * (v0 : Int) + -s1 * v1) ∧ opE (s0 * magW s0 xs0 + -s1 * magW s1 xs1) (both s0 xs0 s1 xs1) = fitE (s0 * (v0 : Int) + -s1 * v1)) := Lib.hid (by unfold opZ opE; rw [if_pos hbo, if_pos hbo, hv0, hv1]; exact ⟨rfl, rfl⟩)
    have Hd : Hid (Sg s0 v0 ∧ Sg s1 v1 ∧ (limbs v0).length = n0 ∧ (limbs v1).length = n1 ∧ (n0 : Int) ≤ 100 ∧ (n1 : Int) ≤ 100) := Lib.hid ⟨hs0, hs1, hl0, hl1, by omega, by omega⟩
    have Hx0 := Lib.hid hx0
    have Hx1 := Lib.hid hx1b
    have H90 : Hid ((n0 : Int) ≤ 90000 ∧ (n1 : Int) ≤ 90000) := Lib.hid (by omega)
    clear h0 h1 hv0 hs0 hx0 hl0 hh0 hv1 hs1 hx1b hl1 hh1 hbo
    go_wp2_with fail
    refine (specSub_any s0 s1 v0 v1 A0 A1 n0 n1 c0 c1 _ Hd.out.1 Hd.out.2.1 (Ra2.out.all.eq_ Hx0.out) (Rb2.out.all.eq_ Hx1.out) Hd.out.2.2.1 Hd.out.2.2.2.1 H90.out.1 H90.out.2 Hc.out.1 Hc.out.2).mono ?_
    rintro e w3 ⟨val, rfl, hv, hb⟩
    have Z := Lib.hid (And.intro hv hb.size)
    have Hlt := Lib.hid Rs2.out.2
    clear hx1 hx2 hx3 hy1 hy2 hy3
    have Bel3 := Lib.hid (belNext Bel2.out hb)
    have Bx3 := Lib.hid (Bx2.out.next hb)
    have By3 := Lib.hid (By2.out.next hb)
    have Rs3 := Lib.hid (Rs2.out.next hb)
    have Ra3 := Lib.hid (Ra2.out.next hb)
    have Rb3 := Lib.hid (Rb2.out.next hb)
    clear hb Bel2 Bx2 By2 Rs2 Ra2 Rb2
    clear hv
    obtain ⟨Az, cz, hval, hoz, hcz⟩ := Z.out.1
    subst hval
    have Oz := Lib.hid hoz
    have Cz := Lib.hid hcz
    clear hoz hcz
    go_wp2_with fail
    refine (specFit_any (s0 * (v0 : Int) + -s1 * v1) _ Az _ cz _ _ _ Oz.out (Nat.le_refl _) rfl rfl Cz.out (by have := sum_len Hd.out.1 Hd.out.2.1.neg Hd.out.2.2.1 Hd.out.2.2.2.1; have := H90.out; omega)).mono ?_
    rintro e w4 ⟨val, rfl, hv, hb⟩
    have Hz : Hid (Wz w4 _ w4.heap.size (fitZ (s0 * (v0 : Int) + -s1 * v1)) val) := Lib.hid (hv.wide (Nat.le_refl _) hb.size)
    have Bel4 := Lib.hid (belNext Bel3.out hb)
    have Bx4 := Lib.hid (Bx3.out.next hb)
    have By4 := Lib.hid (By3.out.next hb)
    have Rs4 := Lib.hid (Rs3.out.next hb)
    have Ra4 := Lib.hid (Ra3.out.next hb)
    have Rb4 := Lib.hid (Rb3.out.next hb)
    clear hb Bel3 Bx3 By3 Rs3 Ra3 Rb3
    clear hv
    obtain ⟨A9, c9, hval, _⟩ := Hz.out
    subst hval
    go_upto_region 5 with (fail)
    obtain ⟨w5, hw5⟩ : ∃ w5, w5 = w4.alloc (.cells #[.int .i64 (fitZ (s0 * (v0 : Int) + -s1 * v1)).sign, .slice A9 (limbs (fitZ (s0 * (v0 : Int) + -s1 * v1)).natAbs).length c9] 26) := ⟨_, rfl⟩
    rw [← hw5]
    have hb : Below w4.heap.size w4 w5 := by rw [hw5]; exact belAlloc1 _ _
    have Bn : Hid (Box w5 w4.heap.size (fitZ (s0 * (v0 : Int) + -s1 * v1)).sign A9 (limbs (fitZ (s0 * (v0 : Int) + -s1 * v1)).natAbs).length c9) := Lib.hid (by rw [hw5]; exact Box.new _ _ _ _ _ _)
    have Hz5 := Lib.hid (Hz.out.keep hb)
    clear hw5 Hz
    have Bel5 := Lib.hid (belNext Bel4.out hb)
    have Bx5 := Lib.hid (Bx4.out.next hb)
    have By5 := Lib.hid (By4.out.next hb)
    have Rs5 := Lib.hid (Rs4.out.next hb)
    have Ra5 := Lib.hid (Ra4.out.next hb)
    have Rb5 := Lib.hid (Rb4.out.next hb)
    clear hb Bel4 Bx4 By4 Rs4 Ra4 Rb4
    have Hz := Hz5
    clear Hz5
    obtain ⟨⟨r1, r2, r3, r4⟩, _⟩ := Rs5.out
    obtain ⟨⟨hx1, hx2⟩, hx3⟩ := Bn.out
    go_wp2_with fail
    refine bodyPost_ret (v := .tuple #[.agg #[.int .i64 (fitZ (s0 * (v0 : Int) + -s1 * v1)).sign, .slice A9 (limbs (fitZ (s0 * (v0 : Int) + -s1 * v1)).natAbs).length c9], .int .i64 (fitE (s0 * (v0 : Int) + -s1 * v1))]) (by simp [results, Try.results27, go_sem, r1, r2]) rfl ⟨_, ret_val Hres.out.2.symm rfl, ?_, ?_⟩
    · rw [Hres.out.1]
      exact ((Hz.out.setCell (by have := Hlt.out; simp; omega) _).setCell (by have := Hlt.out; simp; omega) _).wide (by have := Hlt.out; omega) (by first | (simp; done) | (simp; omega))
    · exact (Bel5.out.setCell (by simp; omega) _).setCell (by simp; omega) _
  · have he : errB s0 xs0 s1 xs1 = 1 := if_neg hbo
    rw [he]
    have Hres : Hid (opZ (s0 * magW s0 xs0 + -s1 * magW s1 xs1) (both s0 xs0 s1 xs1) = 0 ∧ opE (s0 * magW s0 xs0 + -s1 * magW s1 xs1) (both s0 xs0 s1 xs1) = 1) := Lib.hid (by unfold opZ opE; rw [if_neg hbo, if_neg hbo]; exact ⟨rfl, rfl⟩)
    clear hbo he
    obtain ⟨⟨r1, r2, r3, r4⟩, _⟩ := Rs2.out
    go_wp2_with fail
    refine bodyPost_ret (v := .tuple #[.agg #[.int .i64 0, .slice none 0 0], .int .i64 1]) (by simp [results, Try.results27, go_sem, r1, r2]) rfl ⟨_, ret_val Hres.out.2.symm rfl, ?_, ?_⟩
    · rw [Hres.out.1]; exact Wz.zero_ _ _ _
    · exact (Bel2.out.setCell (by simp; omega) _).setCell (by simp; omega) _
end Go.Proofs.Ytnnoobdcdfcdaaa
