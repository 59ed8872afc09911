/- The model's whole number of an integer. -/
import Derived.Test.YtnnoobdcdfcdaaaWo
import Derived.WalkSmall
namespace Go.Proofs.Ytnnoobdcdfcdaaa
set_option maxRecDepth 100000
open Go.RowKit
set_option linter.unusedSimpArgs false
set_option linter.unusedVariables false

theorem new_cells (w : World) (x : Nat) (t : TypeId) : ∀ j u, (vs [x])[j]? = some u → (w.alloc (.cells #[.int .i64 x] t)).cell? ((⟨w.heap.size, 0, none⟩ : Addr).add j) = some u := by
  intro j u h
  rw [add_zero_off, cell_of_row _ _ j #[.int .i64 x] t (0, 0) (heap_alloc_new _ _)]
  simpa [vs, vi, li] using h

/-- limbs in a row of the call's own, in the order that they were appended -/
def OwnL (w : World) (B : Nat) (v : Value) (ys : List Nat) : Prop := w.ownsRow B 2 1 v ys.length (vs ys)
theorem OwnL.form {w : World} {B : Nat} {v : Value} {ys : List Nat} (h : OwnL w B v ys) : ∃ A c, v = .slice A ys.length c ∧ ys.length ≤ c := by
  rcases h.2 with ⟨h1, h2⟩ | ⟨g, cap, cur, h1, _, _, h3, _⟩
  · exact ⟨none, 0, by rw [h1, h2], by omega⟩
  · exact ⟨some ⟨g, 0, none⟩, cap, h1, h3⟩
theorem OwnL.rd {w : World} {B : Nat} {A : Option Addr} {n c : Nat} {ys : List Nat} (h : OwnL w B (.slice A n c) ys) : Rd w w.heap.size A (vs ys) := by
  obtain ⟨A', c', e, _⟩ := h.form
  injection e with e1 e2 e3
  subst e1 e2 e3
  exact Rd.own h

set_option maxHeartbeats 1000000 in
theorem specOf_pos (m0 : Nat) (w : World) (h2 : (m0 : Int) ≤ 9223372036854775807) :
    Calls Try.prog 66 #[.int .i64 m0] w fun e w' => ∃ val, e = .returned val ∧ Wz w' w.heap.size w'.heap.size m0 val ∧ Below w.heap.size w w' := by
  have hst := store_int Try.prog
  have hst2 := store_slice Try.prog
  obtain ⟨i0, hi0, hz0, hz1, hz2⟩ := info_parts infoI
  have H2 := Lib.hid h2
  have hnn : ¬ (m0 : Int) < 0 := by omega
  clear h2
  go_enter Try.func66, Try.ntmps66
  go_wp2_with fail
  obtain ⟨w1, hw1⟩ : ∃ w1, w1 = w.alloc (.cells #[.int .i64 0, .slice none 0 0] 26) := ⟨_, rfl⟩
  rw [← hw1]
  have Rb1 := Lib.hid (resBox_new w 26)
  rw [← hw1] at Rb1
  have Bel1 : Hid (Below w.heap.size w w1) := Lib.hid (by rw [hw1]; exact belAlloc1 _ _)
  have Hlt := Lib.hid Rb1.out.2
  have hs1 : w1.heap.size = w.heap.size + 1 := by rw [hw1]; simp
  clear hw1
  have Hs1 := Lib.hid hs1
  have hown0 : OwnL (w1.alloc (.cells #[] 2)) w1.heap.size (.slice (some ⟨w.heap.size + 1, 0, none⟩) 0 0) [] := by
    have h := own_empty w1 2
    rw [hs1] at h ⊢
    exact h
  have Hown0 := Lib.hid hown0
  clear hs1 hown0
  go_loopw [0, 4, 5] (fun t l _ wr => ∃ (m : Nat) (ys : List Nat), t = .int .i64 m ∧ Lim ys ∧ ys.length + (limbs m).length ≤ 3 ∧ V ys + Bs ^ ys.length * m = m0 ∧ OwnL wr w1.heap.size l ys ∧ Below w1.heap.size w1 wr) (fun t _ _ _ => (intOf t).toNat)
  case atStart => exact ⟨m0, [], rfl, Lim_nil, by simp; exact limbs_len_le.2 (by have := H2.out; rw [Bs_eq]; omega), by simp [V], Hown0.out, belAlloc1 _ _⟩
  case round =>
    obtain ⟨m, ys, rfl, hl, hle, hv, hown, hb⟩ := hrel
    have Hl := Lib.hid hl
    have Hle := Lib.hid hle
    have Hv := Lib.hid hv
    have Hb := Lib.hid hb
    have Hown := Lib.hid hown
    obtain ⟨A, c, hA, hyc⟩ := hown.form
    subst hA
    have hmb : (m : Int) ≤ 9223372036854775807 := by
      have h3 := H2.out
      have h4 : m ≤ Bs ^ ys.length * m := Nat.le_mul_of_pos_left _ (Bs_pow_pos _)
      omega
    have hy3 : (ys.length : Int) ≤ 3 := by omega
    have Hyc := Lib.hid hyc
    clear hl hle hv hb hown hyc
    by_cases h0 : m = 0
    · subst h0
      have Hv2 : Hid (V ys = m0) := Lib.hid (by have := Hv.out; simpa using this)
      have Rb2 : Hid (ResB wr w.heap.size) := Lib.hid (Rb1.out.next Hb.out)
      go_wp2_with fail
      refine (make_any 1 A ys.length c wr.heap.size ys wr Hown.out.rd (Nat.le_refl _) rfl Hl.out (by have := Hyc.out; omega) (by omega)).mono ?_
      rintro e w3 ⟨val, rfl, hz, hb⟩
      have Bel3 := Lib.hid (belNext (belNext Bel1.out Hb.out) hb)
      have Rb3 := Lib.hid (Rb2.out.next hb)
      have Hz : Hid (Wz w3 wr.heap.size w3.heap.size m0 val) := Lib.hid ((hz.z (.inl rfl)).cast_ (by rw [Hv2.out]; omega))
      have Hlo : Hid (w.heap.size < wr.heap.size) := Lib.hid (by have := Hb.out.size; have := Hlt.out; omega)
      clear hz hb Rb2
      obtain ⟨A3, c3, hval, _⟩ := Hz.out
      subst hval
      obtain ⟨⟨r1, r2, r3, r4⟩, _⟩ := Rb3.out
      go_wp2_with fail
      refine bodyPost_ret (v := .agg #[.int .i64 (m0 : Int).sign, .slice A3 (limbs (m0 : Int).natAbs).length c3]) (by simp [results, Try.results66, go_sem, r1, r2]) rfl ⟨_, rfl, ?_, ?_⟩
      · exact ((Hz.out.setCell (by have := Hlo.out; simp; omega) _).setCell (by have := Hlo.out; simp; omega) _).wide (by have := Hlo.out; omega) (by simp)
      · exact (Bel3.out.setCell (by simp) _).setCell (by simp) _
    · have hm0 : ((m : Int) == 0) = false := beq_false_of_ne (by omega)
      have hm1 : (0 : Int) < m := by omega
      have hx : (m : Int) % 16777216 = ((m % Bs : Nat) : Int) := by rw [Bs_eq]; omega
      have Hx : Hid (m % Bs < Bs) := Lib.hid (Nat.mod_lt _ (by rw [Bs_eq]; omega))
      have hd : (m : Int) / 16777216 = ((m / Bs : Nat) : Int) := by rw [Bs_eq]; omega
      have Hnext : Hid (ys.length + 1 + (limbs (m / Bs)).length ≤ 3 ∧ V ys + Bs ^ ys.length * (m % Bs) + Bs ^ (ys.length + 1) * (m / Bs) = m0) := Lib.hid (by
        have h3 := Hle.out
        rw [limbs_pos h0, List.length_cons] at h3
        refine ⟨by omega, ?_⟩
        have := carry_step (c := m) (x := 0) ys.length Hv.out
        simpa using this)
      have Hd : Hid (m / Bs < m) := Lib.hid (by rw [Bs_eq]; omega)
      obtain ⟨x, hxe⟩ : ∃ x, x = m % Bs := ⟨_, rfl⟩
      obtain ⟨d, hde⟩ : ∃ d, d = m / Bs := ⟨_, rfl⟩
      rw [← hxe] at hx Hx Hnext
      rw [← hde] at hd Hnext Hd
      have hx0 : (0 : Int) ≤ x := by omega
      have hx1 : ¬ (x : Int) < 0 := by omega
      clear hxe hde
      go_wp2_with (at_builtin; refine wpList_append_own _ rfl (.tmp 17) (.tmp 19) _ rfl w1.heap.size 2 i0 _ 1 8 Try.underlying22 hi0 hz0 hz1 hz2 rfl (by omega) (.slice A ys.length c) ys.length (vs ys) rfl (World.ownsRow.alloc Hown.out _) ⟨wr.heap.size, 0, none⟩ 1 1 (vs [x]) rfl (by rw [vs_len]; rfl) (new_cells wr x _) (vs_one · [x]) (by unfold maxLen; omega) (by omega) (by have := Hb.out.size; simp; omega) ?_; intro v2 w2 hown2 hg2 _)
      have Hown2 : Hid (OwnL w2 w1.heap.size v2 (ys ++ [x])) := Lib.hid (by
        unfold OwnL
        rw [List.length_append, vs_append]
        exact hown2)
      have Hb2 : Hid (Below w1.heap.size w1 w2) := Lib.hid ((Hb.out.alloc Hb.out.size _).grown hg2 (by have := Hb.out.size; simp; omega) (fun k hk => (Hown.out.lt k hk).1))
      clear hown2 hg2
      go_roundw
      case rel => exact ⟨d, ys ++ [x], rfl, Hl.out.append (Lim_one Hx.out), by rw [List.length_append]; have := Hnext.out.1; simp; omega, by rw [V_append, List.length_append]; have := Hnext.out.2; simpa [V] using this, Hown2.out, Hb2.out⟩
      case measure => simp [intOf]; have := Hd.out; omega

set_option maxHeartbeats 1000000 in
theorem specOf_neg (z : Int) (m0 : Nat) (w : World) (hz : z = -(m0 : Int)) (h2 : (m0 : Int) ≤ 9223372036854775808) (h1 : (1 : Int) ≤ m0) :
    Calls Try.prog 66 #[.int .i64 z] w fun e w' => ∃ val, e = .returned val ∧ Wz w' w.heap.size w'.heap.size z val ∧ Below w.heap.size w w' := by
  have hst := store_int Try.prog
  have hst2 := store_slice Try.prog
  obtain ⟨i0, hi0, hz0, hz1, hz2⟩ := info_parts infoI
  have H2 := Lib.hid h2
  have hnn : z < 0 := by omega
  have Hzm := Lib.hid hz
  clear hz h1
  clear h2
  go_enter Try.func66, Try.ntmps66
  go_wp2_with fail
  obtain ⟨w1, hw1⟩ : ∃ w1, w1 = w.alloc (.cells #[.int .i64 0, .slice none 0 0] 26) := ⟨_, rfl⟩
  rw [← hw1]
  have Rb1 := Lib.hid (resBox_new w 26)
  rw [← hw1] at Rb1
  have Bel1 : Hid (Below w.heap.size w w1) := Lib.hid (by rw [hw1]; exact belAlloc1 _ _)
  have Hlt := Lib.hid Rb1.out.2
  have hs1 : w1.heap.size = w.heap.size + 1 := by rw [hw1]; simp
  clear hw1
  have Hs1 := Lib.hid hs1
  have hown0 : OwnL (w1.alloc (.cells #[] 2)) w1.heap.size (.slice (some ⟨w.heap.size + 1, 0, none⟩) 0 0) [] := by
    have h := own_empty w1 2
    rw [hs1] at h ⊢
    exact h
  have Hown0 := Lib.hid hown0
  clear hs1 hown0
  go_loopw [0, 4, 5] (fun t l _ wr => ∃ (m : Nat) (ys : List Nat), t = .int .i64 (-(m : Int)) ∧ Lim ys ∧ ys.length + (limbs m).length ≤ 3 ∧ V ys + Bs ^ ys.length * m = m0 ∧ OwnL wr w1.heap.size l ys ∧ Below w1.heap.size w1 wr) (fun t _ _ _ => (-(intOf t)).toNat)
  case atStart => exact ⟨m0, [], by rw [Hzm.out], Lim_nil, by simp; exact limbs_len_le.2 (by have := H2.out; rw [Bs_eq]; omega), by simp [V], Hown0.out, belAlloc1 _ _⟩
  case round =>
    obtain ⟨m, ys, rfl, hl, hle, hv, hown, hb⟩ := hrel
    have Hl := Lib.hid hl
    have Hle := Lib.hid hle
    have Hv := Lib.hid hv
    have Hb := Lib.hid hb
    have Hown := Lib.hid hown
    obtain ⟨A, c, hA, hyc⟩ := hown.form
    subst hA
    have hmb : (m : Int) ≤ 9223372036854775808 := by
      have h3 := H2.out
      have h4 : m ≤ Bs ^ ys.length * m := Nat.le_mul_of_pos_left _ (Bs_pow_pos _)
      omega
    have hy3 : (ys.length : Int) ≤ 3 := by omega
    have Hyc := Lib.hid hyc
    clear hl hle hv hb hown hyc
    by_cases h0 : m = 0
    · subst h0
      have Hv2 : Hid (V ys = m0) := Lib.hid (by have := Hv.out; simpa using this)
      have Rb2 : Hid (ResB wr w.heap.size) := Lib.hid (Rb1.out.next Hb.out)
      go_wp2_with fail
      refine (make_any (-1) A ys.length c wr.heap.size ys wr Hown.out.rd (Nat.le_refl _) rfl Hl.out (by have := Hyc.out; omega) (by omega)).mono ?_
      rintro e w3 ⟨val, rfl, hz, hb⟩
      have Bel3 := Lib.hid (belNext (belNext Bel1.out Hb.out) hb)
      have Rb3 := Lib.hid (Rb2.out.next hb)
      have Hz : Hid (Wz w3 wr.heap.size w3.heap.size z val) := Lib.hid ((hz.z (.inr (.inl rfl))).cast_ (by rw [Hv2.out, Hzm.out]; omega))
      have Hlo : Hid (w.heap.size < wr.heap.size) := Lib.hid (by have := Hb.out.size; have := Hlt.out; omega)
      clear hz hb Rb2
      obtain ⟨A3, c3, hval, _⟩ := Hz.out
      subst hval
      obtain ⟨⟨r1, r2, r3, r4⟩, _⟩ := Rb3.out
      go_wp2_with fail
      refine bodyPost_ret (v := .agg #[.int .i64 z.sign, .slice A3 (limbs z.natAbs).length c3]) (by simp [results, Try.results66, go_sem, r1, r2]) rfl ⟨_, rfl, ?_, ?_⟩
      · exact ((Hz.out.setCell (by have := Hlo.out; simp; omega) _).setCell (by have := Hlo.out; simp; omega) _).wide (by have := Hlo.out; omega) (by simp)
      · exact (Bel3.out.setCell (by simp) _).setCell (by simp) _
    · have hm0 : (-(m : Int) == 0) = false := beq_false_of_ne (by omega)
      have hm1 : -(m : Int) < 0 := by omega
      have hx : Int.tmod (-(m : Int)) 16777216 = -((m % Bs : Nat) : Int) := by rw [Bs_eq, Int.neg_tmod, Int.tmod_eq_emod_of_nonneg (by omega)]; omega
      have Hx : Hid (m % Bs < Bs) := Lib.hid (Nat.mod_lt _ (by rw [Bs_eq]; omega))
      have hd : Int.tdiv (-(m : Int)) 16777216 = -((m / Bs : Nat) : Int) := by rw [Bs_eq, Int.neg_tdiv, Int.tdiv_eq_ediv_of_nonneg (by omega)]; omega
      have Hnext : Hid (ys.length + 1 + (limbs (m / Bs)).length ≤ 3 ∧ V ys + Bs ^ ys.length * (m % Bs) + Bs ^ (ys.length + 1) * (m / Bs) = m0) := Lib.hid (by
        have h3 := Hle.out
        rw [limbs_pos h0, List.length_cons] at h3
        refine ⟨by omega, ?_⟩
        have := carry_step (c := m) (x := 0) ys.length Hv.out
        simpa using this)
      have Hd : Hid (m / Bs < m) := Lib.hid (by rw [Bs_eq]; omega)
      obtain ⟨x, hxe⟩ : ∃ x, x = m % Bs := ⟨_, rfl⟩
      obtain ⟨d, hde⟩ : ∃ d, d = m / Bs := ⟨_, rfl⟩
      rw [← hxe] at hx Hx Hnext
      rw [← hde] at hd Hnext Hd
      clear hxe hde
      have hdb : (d : Int) ≤ 9223372036854775807 := by have := Hd.out; omega
      by_cases hx0 : x = 0
      · have hx9 : Int.tmod (-(m : Int)) 16777216 = 0 := by rw [hx, hx0]; rfl
        rw [hx0] at Hx Hnext
        clear hx hx0
        go_wp2_with (at_builtin; refine wpList_append_own _ rfl (.tmp 17) (.tmp 19) _ rfl w1.heap.size 2 i0 _ 1 8 Try.underlying22 hi0 hz0 hz1 hz2 rfl (by omega) (.slice A ys.length c) ys.length (vs ys) rfl (World.ownsRow.alloc Hown.out _) ⟨wr.heap.size, 0, none⟩ 1 1 (vs [0]) rfl (by rw [vs_len]; rfl) (new_cells wr 0 _) (vs_one · [0]) (by unfold maxLen; omega) (by omega) (by have := Hb.out.size; simp; omega) ?_; intro v2 w2 hown2 hg2 _)
        have Hown2 : Hid (OwnL w2 w1.heap.size v2 (ys ++ [0])) := Lib.hid (by
          unfold OwnL
          rw [List.length_append, vs_append]
          exact hown2)
        have Hb2 : Hid (Below w1.heap.size w1 w2) := Lib.hid ((Hb.out.alloc Hb.out.size _).grown hg2 (by have := Hb.out.size; simp; omega) (fun k hk => (Hown.out.lt k hk).1))
        clear hown2 hg2
        go_roundw
        case rel => exact ⟨d, ys ++ [0], rfl, Hl.out.append (Lim_one Hx.out), by rw [List.length_append]; have := Hnext.out.1; simp; omega, by rw [V_append, List.length_append]; have := Hnext.out.2; simpa [V] using this, Hown2.out, Hb2.out⟩
        case measure => simp [intOf]; have := Hd.out; omega
      · have hx1 : -(x : Int) < 0 := by omega
        have hxb : (x : Int) ≤ 16777215 := by have := Hx.out; rw [Bs_eq] at this; omega
        go_wp2_with (at_builtin; refine wpList_append_own _ rfl (.tmp 17) (.tmp 19) _ rfl w1.heap.size 2 i0 _ 1 8 Try.underlying22 hi0 hz0 hz1 hz2 rfl (by omega) (.slice A ys.length c) ys.length (vs ys) rfl (World.ownsRow.alloc Hown.out _) ⟨wr.heap.size, 0, none⟩ 1 1 (vs [x]) rfl (by rw [vs_len]; rfl) (new_cells wr x _) (vs_one · [x]) (by unfold maxLen; omega) (by omega) (by have := Hb.out.size; simp; omega) ?_; intro v2 w2 hown2 hg2 _)
        have Hown2 : Hid (OwnL w2 w1.heap.size v2 (ys ++ [x])) := Lib.hid (by
          unfold OwnL
          rw [List.length_append, vs_append]
          exact hown2)
        have Hb2 : Hid (Below w1.heap.size w1 w2) := Lib.hid ((Hb.out.alloc Hb.out.size _).grown hg2 (by have := Hb.out.size; simp; omega) (fun k hk => (Hown.out.lt k hk).1))
        clear hown2 hg2
        go_roundw
        case rel => exact ⟨d, ys ++ [x], rfl, Hl.out.append (Lim_one Hx.out), by rw [List.length_append]; have := Hnext.out.1; simp; omega, by rw [V_append, List.length_append]; have := Hnext.out.2; simpa [V] using this, Hown2.out, Hb2.out⟩
        case measure => simp [intOf]; have := Hd.out; omega


theorem specOf_any (z : Int) (w : World) (h1 : -9223372036854775808 ≤ z) (h2 : z ≤ 9223372036854775807) :
    Calls Try.prog 66 #[.int .i64 z] w fun e w' => ∃ val, e = .returned val ∧ Wz w' w.heap.size w'.heap.size z val ∧ Below w.heap.size w w' := by
  by_cases hneg : z < 0
  · obtain ⟨m, rfl⟩ : ∃ m : Nat, z = -(m : Int) := ⟨(-z).toNat, by omega⟩
    exact specOf_neg _ m w rfl (by omega) (by omega)
  · obtain ⟨m, rfl⟩ : ∃ m : Nat, z = (m : Int) := ⟨z.toNat, by omega⟩
    exact specOf_pos m w (by omega)

end Go.Proofs.Ytnnoobdcdfcdaaa
