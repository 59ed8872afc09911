/- Texts of this seat, joined: Wo Wp Pl Mi Sa Cw Wq Sb Sc -/
import Derived.Test.YtngminjncdfjdaaGreatDoorY1
import Derived.WalkSmall
import Derived.Deep.DeepCutAuto
/- Whole numbers of integers, of the program and of the model. -/
namespace Go.Proofs.YtngminjncdfjdaaGreatDoor
set_option maxRecDepth 100000
open Go.RowKit
set_option linter.unusedSimpArgs false
set_option linter.unusedVariables false

theorem split3 (n : Nat) (hn : n < 18446744073709551616) : ∃ x y z : Nat, Lim [x, y, z] ∧ V [x, y, z] = n ∧ wrap64 (bits .and .u64 (n : Int) 16777215) = x ∧ wrap64 (bits .and .u64 ((n : Int) / 16777216) 16777215) = y ∧ wrap64 ((n : Int) / 281474976710656) = z := by
  refine ⟨n % 16777216, n / 16777216 % 16777216, n / 281474976710656, ?_, ?_, ?_, ?_, ?_⟩
  · intro u hu
    rw [Bs_eq]
    simp at hu
    omega
  · simp only [V, Bs_eq]; omega
  · rw [and24_u64, wrap64_small (by omega) (by omega)]; omega
  · rw [and24_u64, wrap64_small (by omega) (by omega)]; omega
  · rw [wrap64_small (by omega) (by omega)]; omega

set_option maxHeartbeats 400000 in
theorem natOf_any (n : Nat) (w : World) (hn : n < 18446744073709551616) :
    Calls Tryz.prog 113 #[.int .u64 n] w fun e w' => ∃ A, e = .returned (.slice A (limbs n).length (limbs n).length) ∧ Ow w' w.heap.size w'.heap.size A (vs (limbs n)) ∧ Below w.heap.size w w' := by
  obtain ⟨x, y, z, hl, hv, h1, h2, h3⟩ := split3 n hn
  have Hl := Lib.hid hl
  have Hv := Lib.hid hv
  clear hn hl hv
  go_enter Tryz.func113, Tryz.ntmps113
  go_wp2_with fail
  obtain ⟨w1, hw1⟩ : ∃ w1, w1 = w.alloc (.cells #[.int .i64 x, .int .i64 y, .int .i64 z] 2) := ⟨_, rfl⟩
  rw [← hw1]
  have ho : Ow w1 w.heap.size w1.heap.size (some ⟨w.heap.size, 0, none⟩) (vs [x, y, z]) := by
    refine .inr ⟨w.heap.size, _, rfl, Nat.le_refl _, by rw [hw1]; simp, by rw [hw1]; exact heap_alloc_new w _, rfl⟩
  have Ho := Lib.hid ho
  have Hb : Hid (Below w.heap.size w w1) := Lib.hid (by rw [hw1]; exact belAlloc1 _ _)
  clear hw1 ho
  refine (trim_any _ 3 3 w1.heap.size [x, y, z] w1 Ho.out.rd rfl Hl.out (by simp) (by simp)).mono ?_
  rintro e w2 ⟨rfl, q, rfl⟩
  have Hp : Hid (limbs n = [x, y, z].take (limbs n).length) := Lib.hid (by have := limbs_prefix Hl.out; rw [Hv.out] at this; exact this)
  rw [Hv.out]
  go_wp2_with fail
  go_ret
  exact ⟨_, rfl, (((Ho.out.take (limbs n).length).eq_ (by rw [← vs_take, ← Hp.out])).drewN q).wide (Nat.le_refl _) (Nat.le_refl _), below_drewN Hb.out q⟩

/-- a result's box, still empty -/
def ResB (w : World) (b : Nat) : Prop := (w.cell? ⟨b, 0, none⟩ = some (.int .i64 0) ∧ w.cell? ⟨b, 1, none⟩ = some (.slice none 0 0) ∧ w.frozen? ⟨b, 0, none⟩ = false ∧ w.frozen? ⟨b, 1, none⟩ = false) ∧ b < w.heap.size
theorem ResB.next {w w' : World} {b : Nat} (h : ResB w b) (hb : Below w.heap.size w w') : ResB w' b :=
  ⟨⟨(hb.cell (p := ⟨b, 0, none⟩) h.2).trans h.1.1, (hb.cell (p := ⟨b, 1, none⟩) h.2).trans h.1.2.1, (hb.frozen (p := ⟨b, 0, none⟩) h.2).trans h.1.2.2.1, (hb.frozen (p := ⟨b, 1, none⟩) h.2).trans h.1.2.2.2⟩, Nat.lt_of_lt_of_le h.2 hb.size⟩
theorem resBox_new (w : World) (t : TypeId) : ResB (w.alloc (.cells #[.int .i64 0, .slice none 0 0] t)) w.heap.size := ⟨⟨by simp, by simp, by go_simp, by go_simp⟩, by simp⟩
theorem Wz.setCell {w : World} {lo hi : Nat} {z : Int} {val : Value} (h : Wz w lo hi z val) {p : Addr} (hp : p.block < lo) (u : Value) : Wz (w.setCell p u) lo hi z val := by
  obtain ⟨A, c, e, o, h3⟩ := h
  exact ⟨A, c, e, o.setCell (.inl hp) u, h3⟩
theorem Wz.cast_ {w : World} {lo hi : Nat} {z z' : Int} {val : Value} (h : Wz w lo hi z val) (e : z = z') : Wz w lo hi z' val := e ▸ h
theorem limbs_short {n : Nat} (h : n < 18446744073709551616) : (((limbs n).length : Nat) : Int) ≤ 1000000 := by
  have : (limbs n).length ≤ 3 := limbs_len_le.2 (Nat.lt_of_lt_of_le h (by rw [Bs_eq]; decide))
  omega
theorem neg_wrap {z : Int} {m : Nat} (hz : z = -(m : Int)) (h0 : 0 < m) (h : m ≤ 9223372036854775808) : IntKind.u64.wrap (-IntKind.u64.wrap z) = m := by
  subst hz
  simp only [IntKind.wrap, show IntKind.u64.bits = 64 from rfl, show IntKind.u64.signed = false from rfl]
  simp
  omega
theorem pos_wrap {z : Int} {m : Nat} (hz : z = m) (h : m ≤ 9223372036854775807) : IntKind.u64.wrap z = m := by
  subst hz
  simp only [IntKind.wrap, show IntKind.u64.bits = 64 from rfl, show IntKind.u64.signed = false from rfl]
  simp
  omega

set_option maxHeartbeats 400000 in
theorem wholeOf_any (z : Int) (w : World) (h1 : -9223372036854775808 ≤ z) (h2 : z ≤ 9223372036854775807) :
    Calls Tryz.prog 96 #[.int .i64 z] w fun e w' => ∃ val, e = .returned val ∧ Wz w' w.heap.size w'.heap.size z val ∧ Below w.heap.size w w' := by
  have hst := store_int Tryz.prog
  have hst2 := store_slice Tryz.prog
  by_cases hneg : z < 0
  · obtain ⟨m, hm⟩ : ∃ m : Nat, z = -(m : Int) := ⟨(-z).toNat, by omega⟩
    have Hm : Hid (-1 * (m : Int) = z ∧ m < 18446744073709551616 ∧ 0 < m) := Lib.hid ⟨by omega, by omega, by omega⟩
    have hw := neg_wrap hm (by omega) (by omega)
    clear hm h1 h2
    go_enter Tryz.func96, Tryz.ntmps96
    go_wp2_with fail
    obtain ⟨w1, hw1⟩ : ∃ w1, w1 = w.alloc (.cells #[.int .i64 0, .slice none 0 0] 46) := ⟨_, rfl⟩
    rw [← hw1]
    have Rb1 := Lib.hid (resBox_new w 46)
    rw [← hw1] at Rb1
    have Bel1 : Hid (Below w.heap.size w w1) := Lib.hid (by rw [hw1]; exact belAlloc1 _ _)
    clear hw1
    refine (natOf_any m _ Hm.out.2.1).mono ?_
    rintro e w2 ⟨A2, rfl, ho, hb⟩
    have Bel2 := Lib.hid (belNext Bel1.out hb)
    have Rb2 := Lib.hid (Rb1.out.next hb)
    have O2 := Lib.hid ho
    have Hlt := Lib.hid Rb1.out.2
    clear hb ho Bel1 Rb1
    go_wp2_with fail
    refine (signed_any (-1) m A2 _ _ _ _ _ O2.out rfl (limbs_short Hm.out.2.1) (Nat.le_refl _)).mono ?_
    rintro e w3 ⟨val, rfl, hv, hb⟩
    have Bel3 := Lib.hid (belNext Bel2.out hb)
    have Rb3 := Lib.hid (Rb2.out.next hb)
    have Hz : Hid (Wz w3 w1.heap.size w3.heap.size z val) := Lib.hid (((hv.z (.inr (.inl rfl))).wide (Nat.le_refl _) hb.size).cast_ (by have := Hm.out.1; omega))
    clear hb hv Bel2 Rb2 O2
    obtain ⟨A3, c3, hval, _⟩ := Hz.out
    subst hval
    obtain ⟨⟨r1, r2, r3, r4⟩, _⟩ := Rb3.out
    go_wp2_with fail
    refine bodyPost_ret (v := .agg #[.int .i64 z.sign, .slice A3 (limbs z.natAbs).length c3]) (by simp [results, Tryz.results96, go_sem, r1, r2]) rfl ⟨_, rfl, ?_, ?_⟩
    · exact ((Hz.out.setCell (by have := Hlt.out; simp; omega) _).setCell (by have := Hlt.out; simp; omega) _).wide (by have := Hlt.out; omega) (by simp)
    · exact (Bel3.out.setCell (by simp) _).setCell (by simp) _
  · obtain ⟨m, hm⟩ : ∃ m : Nat, z = (m : Int) := ⟨z.toNat, by omega⟩
    have Hm : Hid (1 * (m : Int) = z ∧ m < 18446744073709551616) := Lib.hid ⟨by omega, by omega⟩
    have hw := pos_wrap hm (by omega)
    clear hm h1 h2
    go_enter Tryz.func96, Tryz.ntmps96
    go_wp2_with fail
    obtain ⟨w1, hw1⟩ : ∃ w1, w1 = w.alloc (.cells #[.int .i64 0, .slice none 0 0] 46) := ⟨_, rfl⟩
    rw [← hw1]
    have Rb1 := Lib.hid (resBox_new w 46)
    rw [← hw1] at Rb1
    have Bel1 : Hid (Below w.heap.size w w1) := Lib.hid (by rw [hw1]; exact belAlloc1 _ _)
    clear hw1
    refine (natOf_any m _ Hm.out.2).mono ?_
    rintro e w2 ⟨A2, rfl, ho, hb⟩
    have Bel2 := Lib.hid (belNext Bel1.out hb)
    have Rb2 := Lib.hid (Rb1.out.next hb)
    have O2 := Lib.hid ho
    have Hlt := Lib.hid Rb1.out.2
    clear hb ho Bel1 Rb1
    go_wp2_with fail
    refine (signed_any 1 m A2 _ _ _ _ _ O2.out rfl (limbs_short Hm.out.2) (Nat.le_refl _)).mono ?_
    rintro e w3 ⟨val, rfl, hv, hb⟩
    have Bel3 := Lib.hid (belNext Bel2.out hb)
    have Rb3 := Lib.hid (Rb2.out.next hb)
    have Hz : Hid (Wz w3 w1.heap.size w3.heap.size z val) := Lib.hid (((hv.z (.inl rfl)).wide (Nat.le_refl _) hb.size).cast_ (by have := Hm.out.1; omega))
    clear hb hv Bel2 Rb2 O2
    obtain ⟨A3, c3, hval, _⟩ := Hz.out
    subst hval
    obtain ⟨⟨r1, r2, r3, r4⟩, _⟩ := Rb3.out
    go_wp2_with fail
    refine bodyPost_ret (v := .agg #[.int .i64 z.sign, .slice A3 (limbs z.natAbs).length c3]) (by simp [results, Tryz.results96, go_sem, r1, r2]) rfl ⟨_, rfl, ?_, ?_⟩
    · exact ((Hz.out.setCell (by have := Hlt.out; simp; omega) _).setCell (by have := Hlt.out; simp; omega) _).wide (by have := Hlt.out; omega) (by simp)
    · exact (Bel3.out.setCell (by simp) _).setCell (by simp) _

end Go.Proofs.YtngminjncdfjdaaGreatDoor
/- The model's whole number of an integer. -/
namespace Go.Proofs.YtngminjncdfjdaaGreatDoor
set_option maxRecDepth 100000
open Go.RowKit
set_option linter.unusedSimpArgs false
set_option linter.unusedVariables false

theorem new_cells (w : World) (x : Nat) (t : TypeId) : ∀ j u, (vs [x])[j]? = some u → (w.alloc (.cells #[.int .i64 x] t)).cell? ((⟨w.heap.size, 0, none⟩ : Addr).add j) = some u := by
  intro j u h
  rw [add_zero_off, cell_of_row _ _ j #[.int .i64 x] t (0, 0) (heap_alloc_new _ _)]
  simpa [vs, vi, li] using h

/-- limbs in a row of the call's own, in the order that they were appended -/
def OwnL (w : World) (B : Nat) (v : Value) (ys : List Nat) : Prop := w.ownsRow B 2 1 v ys.length (vs ys)
theorem OwnL.form {w : World} {B : Nat} {v : Value} {ys : List Nat} (h : OwnL w B v ys) : ∃ A c, v = .slice A ys.length c ∧ ys.length ≤ c := by
  rcases h.2 with ⟨h1, h2⟩ | ⟨g, cap, cur, h1, _, _, h3, _⟩
  · exact ⟨none, 0, by rw [h1, h2], by omega⟩
  · exact ⟨some ⟨g, 0, none⟩, cap, h1, h3⟩
theorem OwnL.rd {w : World} {B : Nat} {A : Option Addr} {n c : Nat} {ys : List Nat} (h : OwnL w B (.slice A n c) ys) : Rd w w.heap.size A (vs ys) := by
  obtain ⟨A', c', e, _⟩ := h.form
  injection e with e1 e2 e3
  subst e1 e2 e3
  exact Rd.own h

set_option maxHeartbeats 1000000 in
theorem specOf_pos (m0 : Nat) (w : World) (h2 : (m0 : Int) ≤ 9223372036854775807) :
    Calls Tryz.prog 66 #[.int .i64 m0] w fun e w' => ∃ val, e = .returned val ∧ Wz w' w.heap.size w'.heap.size m0 val ∧ Below w.heap.size w w' := by
  have hst := store_int Tryz.prog
  have hst2 := store_slice Tryz.prog
  obtain ⟨i0, hi0, hz0, hz1, hz2⟩ := info_parts infoI
  have H2 := Lib.hid h2
  have hnn : ¬ (m0 : Int) < 0 := by omega
  clear h2
  go_enter Tryz.func66, Tryz.ntmps66
  go_wp2_with fail
  obtain ⟨w1, hw1⟩ : ∃ w1, w1 = w.alloc (.cells #[.int .i64 0, .slice none 0 0] 46) := ⟨_, rfl⟩
  rw [← hw1]
  have Rb1 := Lib.hid (resBox_new w 46)
  rw [← hw1] at Rb1
  have Bel1 : Hid (Below w.heap.size w w1) := Lib.hid (by rw [hw1]; exact belAlloc1 _ _)
  have Hlt := Lib.hid Rb1.out.2
  have hs1 : w1.heap.size = w.heap.size + 1 := by rw [hw1]; simp
  clear hw1
  have Hs1 := Lib.hid hs1
  have hown0 : OwnL (w1.alloc (.cells #[] 2)) w1.heap.size (.slice (some ⟨w.heap.size + 1, 0, none⟩) 0 0) [] := by
    have h := own_empty w1 2
    rw [hs1] at h ⊢
    exact h
  have Hown0 := Lib.hid hown0
  clear hs1 hown0
  go_loopw [0, 4, 5] (fun t l _ wr => ∃ (m : Nat) (ys : List Nat), t = .int .i64 m ∧ Lim ys ∧ ys.length + (limbs m).length ≤ 3 ∧ V ys + Bs ^ ys.length * m = m0 ∧ OwnL wr w1.heap.size l ys ∧ Below w1.heap.size w1 wr) (fun t _ _ _ => (intOf t).toNat)
  case atStart => exact ⟨m0, [], rfl, Lim_nil, by simp; exact limbs_len_le.2 (by have := H2.out; rw [Bs_eq]; omega), by simp [V], Hown0.out, belAlloc1 _ _⟩
  case round =>
    obtain ⟨m, ys, rfl, hl, hle, hv, hown, hb⟩ := hrel
    have Hl := Lib.hid hl
    have Hle := Lib.hid hle
    have Hv := Lib.hid hv
    have Hb := Lib.hid hb
    have Hown := Lib.hid hown
    obtain ⟨A, c, hA, hyc⟩ := hown.form
    subst hA
    have hmb : (m : Int) ≤ 9223372036854775807 := by
      have h3 := H2.out
      have h4 : m ≤ Bs ^ ys.length * m := Nat.le_mul_of_pos_left _ (Bs_pow_pos _)
      omega
    have hy3 : (ys.length : Int) ≤ 3 := by omega
    have Hyc := Lib.hid hyc
    clear hl hle hv hb hown hyc
    by_cases h0 : m = 0
    · subst h0
      have Hv2 : Hid (V ys = m0) := Lib.hid (by have := Hv.out; simpa using this)
      have Rb2 : Hid (ResB wr w.heap.size) := Lib.hid (Rb1.out.next Hb.out)
      go_wp2_with fail
      refine (make_any 1 A ys.length c wr.heap.size ys wr Hown.out.rd (Nat.le_refl _) rfl Hl.out (by have := Hyc.out; omega) (by omega)).mono ?_
      rintro e w3 ⟨val, rfl, hz, hb⟩
      have Bel3 := Lib.hid (belNext (belNext Bel1.out Hb.out) hb)
      have Rb3 := Lib.hid (Rb2.out.next hb)
      have Hz : Hid (Wz w3 wr.heap.size w3.heap.size m0 val) := Lib.hid ((hz.z (.inl rfl)).cast_ (by rw [Hv2.out]; omega))
      have Hlo : Hid (w.heap.size < wr.heap.size) := Lib.hid (by have := Hb.out.size; have := Hlt.out; omega)
      clear hz hb Rb2
      obtain ⟨A3, c3, hval, _⟩ := Hz.out
      subst hval
      obtain ⟨⟨r1, r2, r3, r4⟩, _⟩ := Rb3.out
      go_wp2_with fail
      refine bodyPost_ret (v := .agg #[.int .i64 (m0 : Int).sign, .slice A3 (limbs (m0 : Int).natAbs).length c3]) (by simp [results, Tryz.results66, go_sem, r1, r2]) rfl ⟨_, rfl, ?_, ?_⟩
      · exact ((Hz.out.setCell (by have := Hlo.out; simp; omega) _).setCell (by have := Hlo.out; simp; omega) _).wide (by have := Hlo.out; omega) (by simp)
      · exact (Bel3.out.setCell (by simp) _).setCell (by simp) _
    · have hm0 : ((m : Int) == 0) = false := beq_false_of_ne (by omega)
      have hm1 : (0 : Int) < m := by omega
      have hx : (m : Int) % 16777216 = ((m % Bs : Nat) : Int) := by rw [Bs_eq]; omega
      have Hx : Hid (m % Bs < Bs) := Lib.hid (Nat.mod_lt _ (by rw [Bs_eq]; omega))
      have hd : (m : Int) / 16777216 = ((m / Bs : Nat) : Int) := by rw [Bs_eq]; omega
      have Hnext : Hid (ys.length + 1 + (limbs (m / Bs)).length ≤ 3 ∧ V ys + Bs ^ ys.length * (m % Bs) + Bs ^ (ys.length + 1) * (m / Bs) = m0) := Lib.hid (by
        have h3 := Hle.out
        rw [limbs_pos h0, List.length_cons] at h3
        refine ⟨by omega, ?_⟩
        have := carry_step (c := m) (x := 0) ys.length Hv.out
        simpa using this)
      have Hd : Hid (m / Bs < m) := Lib.hid (by rw [Bs_eq]; omega)
      obtain ⟨x, hxe⟩ : ∃ x, x = m % Bs := ⟨_, rfl⟩
      obtain ⟨d, hde⟩ : ∃ d, d = m / Bs := ⟨_, rfl⟩
      rw [← hxe] at hx Hx Hnext
      rw [← hde] at hd Hnext Hd
      have hx0 : (0 : Int) ≤ x := by omega
      have hx1 : ¬ (x : Int) < 0 := by omega
      clear hxe hde
      go_wp2_with (at_builtin; refine wpList_append_own _ rfl (.tmp 17) (.tmp 19) _ rfl w1.heap.size 2 i0 _ 1 8 Tryz.underlying44 hi0 hz0 hz1 hz2 rfl (by omega) (.slice A ys.length c) ys.length (vs ys) rfl (World.ownsRow.alloc Hown.out _) ⟨wr.heap.size, 0, none⟩ 1 1 (vs [x]) rfl (by rw [vs_len]; rfl) (new_cells wr x _) (vs_one · [x]) (by unfold maxLen; omega) (by omega) (by have := Hb.out.size; simp; omega) ?_; intro v2 w2 hown2 hg2 _)
      have Hown2 : Hid (OwnL w2 w1.heap.size v2 (ys ++ [x])) := Lib.hid (by
        unfold OwnL
        rw [List.length_append, vs_append]
        exact hown2)
      have Hb2 : Hid (Below w1.heap.size w1 w2) := Lib.hid ((Hb.out.alloc Hb.out.size _).grown hg2 (by have := Hb.out.size; simp; omega) (fun k hk => (Hown.out.lt k hk).1))
      clear hown2 hg2
      go_roundw
      case rel => exact ⟨d, ys ++ [x], rfl, Hl.out.append (Lim_one Hx.out), by rw [List.length_append]; have := Hnext.out.1; simp; omega, by rw [V_append, List.length_append]; have := Hnext.out.2; simpa [V] using this, Hown2.out, Hb2.out⟩
      case measure => simp [intOf]; have := Hd.out; omega

set_option maxHeartbeats 1000000 in
theorem specOf_neg (z : Int) (m0 : Nat) (w : World) (hz : z = -(m0 : Int)) (h2 : (m0 : Int) ≤ 9223372036854775808) (h1 : (1 : Int) ≤ m0) :
    Calls Tryz.prog 66 #[.int .i64 z] w fun e w' => ∃ val, e = .returned val ∧ Wz w' w.heap.size w'.heap.size z val ∧ Below w.heap.size w w' := by
  have hst := store_int Tryz.prog
  have hst2 := store_slice Tryz.prog
  obtain ⟨i0, hi0, hz0, hz1, hz2⟩ := info_parts infoI
  have H2 := Lib.hid h2
  have hnn : z < 0 := by omega
  have Hzm := Lib.hid hz
  clear hz h1
  clear h2
  go_enter Tryz.func66, Tryz.ntmps66
  go_wp2_with fail
  obtain ⟨w1, hw1⟩ : ∃ w1, w1 = w.alloc (.cells #[.int .i64 0, .slice none 0 0] 46) := ⟨_, rfl⟩
  rw [← hw1]
  have Rb1 := Lib.hid (resBox_new w 46)
  rw [← hw1] at Rb1
  have Bel1 : Hid (Below w.heap.size w w1) := Lib.hid (by rw [hw1]; exact belAlloc1 _ _)
  have Hlt := Lib.hid Rb1.out.2
  have hs1 : w1.heap.size = w.heap.size + 1 := by rw [hw1]; simp
  clear hw1
  have Hs1 := Lib.hid hs1
  have hown0 : OwnL (w1.alloc (.cells #[] 2)) w1.heap.size (.slice (some ⟨w.heap.size + 1, 0, none⟩) 0 0) [] := by
    have h := own_empty w1 2
    rw [hs1] at h ⊢
    exact h
  have Hown0 := Lib.hid hown0
  clear hs1 hown0
  go_loopw [0, 4, 5] (fun t l _ wr => ∃ (m : Nat) (ys : List Nat), t = .int .i64 (-(m : Int)) ∧ Lim ys ∧ ys.length + (limbs m).length ≤ 3 ∧ V ys + Bs ^ ys.length * m = m0 ∧ OwnL wr w1.heap.size l ys ∧ Below w1.heap.size w1 wr) (fun t _ _ _ => (-(intOf t)).toNat)
  case atStart => exact ⟨m0, [], by rw [Hzm.out], Lim_nil, by simp; exact limbs_len_le.2 (by have := H2.out; rw [Bs_eq]; omega), by simp [V], Hown0.out, belAlloc1 _ _⟩
  case round =>
    obtain ⟨m, ys, rfl, hl, hle, hv, hown, hb⟩ := hrel
    have Hl := Lib.hid hl
    have Hle := Lib.hid hle
    have Hv := Lib.hid hv
    have Hb := Lib.hid hb
    have Hown := Lib.hid hown
    obtain ⟨A, c, hA, hyc⟩ := hown.form
    subst hA
    have hmb : (m : Int) ≤ 9223372036854775808 := by
      have h3 := H2.out
      have h4 : m ≤ Bs ^ ys.length * m := Nat.le_mul_of_pos_left _ (Bs_pow_pos _)
      omega
    have hy3 : (ys.length : Int) ≤ 3 := by omega
    have Hyc := Lib.hid hyc
    clear hl hle hv hb hown hyc
    by_cases h0 : m = 0
    · subst h0
      have Hv2 : Hid (V ys = m0) := Lib.hid (by have := Hv.out; simpa using this)
      have Rb2 : Hid (ResB wr w.heap.size) := Lib.hid (Rb1.out.next Hb.out)
      go_wp2_with fail
      refine (make_any (-1) A ys.length c wr.heap.size ys wr Hown.out.rd (Nat.le_refl _) rfl Hl.out (by have := Hyc.out; omega) (by omega)).mono ?_
      rintro e w3 ⟨val, rfl, hz, hb⟩
      have Bel3 := Lib.hid (belNext (belNext Bel1.out Hb.out) hb)
      have Rb3 := Lib.hid (Rb2.out.next hb)
      have Hz : Hid (Wz w3 wr.heap.size w3.heap.size z val) := Lib.hid ((hz.z (.inr (.inl rfl))).cast_ (by rw [Hv2.out, Hzm.out]; omega))
      have Hlo : Hid (w.heap.size < wr.heap.size) := Lib.hid (by have := Hb.out.size; have := Hlt.out; omega)
      clear hz hb Rb2
      obtain ⟨A3, c3, hval, _⟩ := Hz.out
      subst hval
      obtain ⟨⟨r1, r2, r3, r4⟩, _⟩ := Rb3.out
      go_wp2_with fail
      refine bodyPost_ret (v := .agg #[.int .i64 z.sign, .slice A3 (limbs z.natAbs).length c3]) (by simp [results, Tryz.results66, go_sem, r1, r2]) rfl ⟨_, rfl, ?_, ?_⟩
      · exact ((Hz.out.setCell (by have := Hlo.out; simp; omega) _).setCell (by have := Hlo.out; simp; omega) _).wide (by have := Hlo.out; omega) (by simp)
      · exact (Bel3.out.setCell (by simp) _).setCell (by simp) _
    · have hm0 : (-(m : Int) == 0) = false := beq_false_of_ne (by omega)
      have hm1 : -(m : Int) < 0 := by omega
      have hx : Int.tmod (-(m : Int)) 16777216 = -((m % Bs : Nat) : Int) := by rw [Bs_eq, Int.neg_tmod, Int.tmod_eq_emod_of_nonneg (by omega)]; omega
      have Hx : Hid (m % Bs < Bs) := Lib.hid (Nat.mod_lt _ (by rw [Bs_eq]; omega))
      have hd : Int.tdiv (-(m : Int)) 16777216 = -((m / Bs : Nat) : Int) := by rw [Bs_eq, Int.neg_tdiv, Int.tdiv_eq_ediv_of_nonneg (by omega)]; omega
      have Hnext : Hid (ys.length + 1 + (limbs (m / Bs)).length ≤ 3 ∧ V ys + Bs ^ ys.length * (m % Bs) + Bs ^ (ys.length + 1) * (m / Bs) = m0) := Lib.hid (by
        have h3 := Hle.out
        rw [limbs_pos h0, List.length_cons] at h3
        refine ⟨by omega, ?_⟩
        have := carry_step (c := m) (x := 0) ys.length Hv.out
        simpa using this)
      have Hd : Hid (m / Bs < m) := Lib.hid (by rw [Bs_eq]; omega)
      obtain ⟨x, hxe⟩ : ∃ x, x = m % Bs := ⟨_, rfl⟩
      obtain ⟨d, hde⟩ : ∃ d, d = m / Bs := ⟨_, rfl⟩
      rw [← hxe] at hx Hx Hnext
      rw [← hde] at hd Hnext Hd
      clear hxe hde
      have hdb : (d : Int) ≤ 9223372036854775807 := by have := Hd.out; omega
      by_cases hx0 : x = 0
      · have hx9 : Int.tmod (-(m : Int)) 16777216 = 0 := by rw [hx, hx0]; rfl
        rw [hx0] at Hx Hnext
        clear hx hx0
        go_wp2_with (at_builtin; refine wpList_append_own _ rfl (.tmp 17) (.tmp 19) _ rfl w1.heap.size 2 i0 _ 1 8 Tryz.underlying44 hi0 hz0 hz1 hz2 rfl (by omega) (.slice A ys.length c) ys.length (vs ys) rfl (World.ownsRow.alloc Hown.out _) ⟨wr.heap.size, 0, none⟩ 1 1 (vs [0]) rfl (by rw [vs_len]; rfl) (new_cells wr 0 _) (vs_one · [0]) (by unfold maxLen; omega) (by omega) (by have := Hb.out.size; simp; omega) ?_; intro v2 w2 hown2 hg2 _)
        have Hown2 : Hid (OwnL w2 w1.heap.size v2 (ys ++ [0])) := Lib.hid (by
          unfold OwnL
          rw [List.length_append, vs_append]
          exact hown2)
        have Hb2 : Hid (Below w1.heap.size w1 w2) := Lib.hid ((Hb.out.alloc Hb.out.size _).grown hg2 (by have := Hb.out.size; simp; omega) (fun k hk => (Hown.out.lt k hk).1))
        clear hown2 hg2
        go_roundw
        case rel => exact ⟨d, ys ++ [0], rfl, Hl.out.append (Lim_one Hx.out), by rw [List.length_append]; have := Hnext.out.1; simp; omega, by rw [V_append, List.length_append]; have := Hnext.out.2; simpa [V] using this, Hown2.out, Hb2.out⟩
        case measure => simp [intOf]; have := Hd.out; omega
      · have hx1 : -(x : Int) < 0 := by omega
        have hxb : (x : Int) ≤ 16777215 := by have := Hx.out; rw [Bs_eq] at this; omega
        go_wp2_with (at_builtin; refine wpList_append_own _ rfl (.tmp 17) (.tmp 19) _ rfl w1.heap.size 2 i0 _ 1 8 Tryz.underlying44 hi0 hz0 hz1 hz2 rfl (by omega) (.slice A ys.length c) ys.length (vs ys) rfl (World.ownsRow.alloc Hown.out _) ⟨wr.heap.size, 0, none⟩ 1 1 (vs [x]) rfl (by rw [vs_len]; rfl) (new_cells wr x _) (vs_one · [x]) (by unfold maxLen; omega) (by omega) (by have := Hb.out.size; simp; omega) ?_; intro v2 w2 hown2 hg2 _)
        have Hown2 : Hid (OwnL w2 w1.heap.size v2 (ys ++ [x])) := Lib.hid (by
          unfold OwnL
          rw [List.length_append, vs_append]
          exact hown2)
        have Hb2 : Hid (Below w1.heap.size w1 w2) := Lib.hid ((Hb.out.alloc Hb.out.size _).grown hg2 (by have := Hb.out.size; simp; omega) (fun k hk => (Hown.out.lt k hk).1))
        clear hown2 hg2
        go_roundw
        case rel => exact ⟨d, ys ++ [x], rfl, Hl.out.append (Lim_one Hx.out), by rw [List.length_append]; have := Hnext.out.1; simp; omega, by rw [V_append, List.length_append]; have := Hnext.out.2; simpa [V] using this, Hown2.out, Hb2.out⟩
        case measure => simp [intOf]; have := Hd.out; omega


theorem specOf_any (z : Int) (w : World) (h1 : -9223372036854775808 ≤ z) (h2 : z ≤ 9223372036854775807) :
    Calls Tryz.prog 66 #[.int .i64 z] w fun e w' => ∃ val, e = .returned val ∧ Wz w' w.heap.size w'.heap.size z val ∧ Below w.heap.size w w' := by
  by_cases hneg : z < 0
  · obtain ⟨m, rfl⟩ : ∃ m : Nat, z = -(m : Int) := ⟨(-z).toNat, by omega⟩
    exact specOf_neg _ m w rfl (by omega) (by omega)
  · obtain ⟨m, rfl⟩ : ∃ m : Nat, z = (m : Int) := ⟨z.toNat, by omega⟩
    exact specOf_pos m w (by omega)

end Go.Proofs.YtngminjncdfjdaaGreatDoor
/- Sums and differences of limbs, of the program. -/
namespace Go.Proofs.YtngminjncdfjdaaGreatDoor
set_option maxRecDepth 100000
open Go.RowKit
set_option linter.unusedSimpArgs false
set_option linter.unusedVariables false

theorem fill_set {ys : List Nat} {rest : List Value} {k d : Nat} (hy : ys.length = k) (hr : 0 < rest.length) : (vs ys ++ rest).set k (.int .i64 d) = vs (ys ++ [d]) ++ rest.drop 1 := by
  subst hy
  cases rest with
  | nil => simp at hr
  | cons r rs =>
    rw [List.set_append_right _ _ (by rw [vs_len]; omega), vs_len, Nat.sub_self, vs_append]
    simp [vs, vi, li]
theorem Lim.snoc {ys : List Nat} (h : Lim ys) {d : Nat} (hd : d < Bs) : Lim (ys ++ [d]) := h.append (Lim_one hd)
theorem V_snoc (ys : List Nat) (d : Nat) : V (ys ++ [d]) = V ys + Bs ^ ys.length * d := by rw [V_append]; simp [V]
theorem take_all {xs : List Nat} {n : Nat} (h : xs.length ≤ n) : xs.take n = xs := List.take_of_length_le h

theorem plus_step {ys : List Nat} {k c t T : Nat} (hy : ys.length = k) (hl : Lim ys) (hv : V ys + Bs ^ k * c = T) : Lim (ys ++ [(c + t) % Bs]) ∧ V (ys ++ [(c + t) % Bs]) + Bs ^ (k + 1) * ((c + t) / Bs) = T + Bs ^ k * t := by
  subst hy
  refine ⟨hl.snoc (Nat.mod_lt _ (by rw [Bs_eq]; omega)), ?_⟩
  rw [V_snoc]
  exact carry_step _ hv

set_option maxHeartbeats 2000000 in
theorem natPlus_or (a b : Nat) (A A' : Option Addr) (n n' c c' B B' : Nat) (w : World) (hr : Rd w B A (vs (limbs a))) (hr' : Rd w B' A' (vs (limbs b))) (hB : B ≤ w.heap.size) (hB' : B' ≤ w.heap.size) (hn : (limbs a).length = n) (hn' : (limbs b).length = n') (hm : (n : Int) ≤ 100000) (hm' : (n' : Int) ≤ 100000) (hle : n' ≤ n) :
    Calls Tryz.prog 120 #[.slice A n c, .slice A' n' c'] w fun e w' => ∃ A2, e = .returned (.slice A2 (limbs (a + b)).length (limbs (a + b)).length) ∧ Ow w' w.heap.size w'.heap.size A2 (vs (limbs (a + b))) ∧ Below w.heap.size w w' := by
  obtain ⟨i0, hi0, hz0, hz1, hz2⟩ := info_parts infoI
  have hst := store_int Tryz.prog
  have Hr := Lib.hid (hr.up hB)
  have Hr' := Lib.hid (hr'.up hB')
  have Hn := Lib.hid hn
  have Hn' := Lib.hid hn'
  have Hle := Lib.hid hle
  have hlt0 : ¬ (n : Int) < n' := by omega
  have hbytes : i0.bytes * (n + 1) ≤ 281474976710656 := by rw [hz2]; omega
  clear hr hr' hn hn' hB hB' hle
  go_enter Tryz.func120, Tryz.ntmps120
  go_wp2_with (refine wpList_make_full _ rfl _ _ _ rfl w.heap.size 2 i0 _ 1 Tryz.underlying118 hi0 hz0 hz1 _ _ _ _ (n + 1) rfl rfl rfl rfl hbytes (by unfold maxLen; omega) (Nat.le_refl _) ?_; intro w1 hown hg)
  obtain ⟨rest0, hrest⟩ : ∃ rest0, rest0 = (madeCells (Value.int .i64 0).cells ((n + 1) * 1)).toList := ⟨_, rfl⟩
  rw [← hrest] at hown
  have hrl : rest0.length = n + 1 := by have := hown.1; omega
  have Hrl := Lib.hid hrl
  have Hown := Lib.hid hown
  have Hb1 : Hid (Below w.heap.size w w1) := Lib.hid ((Below.refl _ _).grown hg (Nat.le_refl _) (by simp))
  clear hrest hrl hown hg
  go_loopw [6, 7, 8, 22] (fun cv _ _ i wr => ∃ (k cc : Nat) (ys : List Nat) (rest : List Value), k ≤ n ∧ i = .int .i64 k ∧ cv = .int .i64 cc ∧ cc ≤ 1 ∧ ys.length = k ∧ rest.length = n + 1 - k ∧ Lim ys ∧ V ys + Bs ^ k * cc = V ((limbs a).take k) + V ((limbs b).take k) ∧
    wr.ownsRow w.heap.size 2 1 (.slice (some ⟨w.heap.size, 0, none⟩) (n + 1) (n + 1)) (n + 1) (vs ys ++ rest) ∧ Below w.heap.size w wr) (fun _ _ _ i _ => n - (intOf i).toNat)
  case atStart => exact ⟨0, 0, [], rest0, Nat.zero_le _, rfl, rfl, by omega, rfl, Hrl.out, Lim_nil, by simp [V], Hown.out, Hb1.out⟩
  case round =>
    obtain ⟨k, cc, ys, rest, hk, rfl, rfl, hcc, hyl, hrl, hl, hv, hown, hb⟩ := hrel
    have Hyl := Lib.hid hyl
    have Hrl := Lib.hid hrl
    have Hl := Lib.hid hl
    have Hv := Lib.hid hv
    have Hcc := Lib.hid hcc
    have hcc0 : (0 : Int) ≤ cc := by omega
    have hcc1 : (cc : Int) ≤ 1 := by omega
    have hc2 : ∃ u, wr.cell? ⟨w.heap.size, k, none⟩ = some u := ⟨_, by rw [hown.cellAt k (by omega)]; exact List.getElem?_eq_getElem (by rw [List.length_append, vs_len]; omega)⟩
    obtain ⟨u, hu⟩ := hc2
    have hf2 := hown.frozenAt k
    have Hb := Lib.hid hb
    have Hown := Lib.hid hown
    have hnb : ((k : Int) < n + 1) := by omega
    clear hyl hrl hl hv hcc hb hown
    by_cases hlt : k < n
    · have hkx : k < (limbs a).length := by rw [Hn.out]; exact hlt
      have hra := Hr.out.below Hb.out
      obtain ⟨p, hp, _⟩ := hra.some_ (by rw [vs_len]; omega)
      subst hp
      have hcx := hra.cell (k := k) (by rw [vs_len]; exact hkx)
      rw [vs_get hkx] at hcx
      have Hva := Lib.hid (V_take_succ hkx)
      have Hxb := Lib.hid ((Lim_limbs a).getElem hkx)
      have hx0 : (0 : Int) ≤ ((limbs a)[k] : Nat) := by omega
      have hx1 : (((limbs a)[k] : Nat) : Int) ≤ 16777215 := by have := Hxb.out; rw [Bs_eq] at this; omega
      clear hra
      by_cases hlt2 : k < n'
      · have hky : k < (limbs b).length := by rw [Hn'.out]; exact hlt2
        have hrb := Hr'.out.below Hb.out
        obtain ⟨p', hp', _⟩ := hrb.some_ (by rw [vs_len]; omega)
        subst hp'
        have hcy := hrb.cell (k := k) (by rw [vs_len]; exact hky)
        rw [vs_get hky] at hcy
        have Hvb := Lib.hid (V_take_succ hky)
        have Hyb := Lib.hid ((Lim_limbs b).getElem hky)
        have hy0 : (0 : Int) ≤ ((limbs b)[k] : Nat) := by omega
        have hy1 : (((limbs b)[k] : Nat) : Int) ≤ 16777215 := by have := Hyb.out; rw [Bs_eq] at this; omega
        clear hrb
        generalize (limbs a)[k] = x at *
        generalize (limbs b)[k] = y at *
        have Hs := Lib.hid (plus_step (t := x + y) Hyl.out Hl.out Hv.out)
        have hand : bits .and .i64 ((cc : Int) + x + y) 16777215 = (((cc + (x + y)) % Bs : Nat) : Int) := by rw [and24_i64, Bs_eq]; omega
        have hshr : ((cc : Int) + x + y) / 16777216 = (((cc + (x + y)) / Bs : Nat) : Int) := by rw [Bs_eq]; omega
        have He : Hid ((cc + (x + y)) / Bs ≤ 1) := Lib.hid (by rw [Bs_eq]; omega)
        obtain ⟨d, hd⟩ : ∃ d, d = (cc + (x + y)) % Bs := ⟨_, rfl⟩
        obtain ⟨e, he⟩ : ∃ e, e = (cc + (x + y)) / Bs := ⟨_, rfl⟩
        rw [← hd] at hand Hs
        rw [← he] at hshr He Hs
        have hst2 := Hown.out.stored k (.int .i64 d)
        rw [fill_set Hyl.out (by have := Hrl.out; omega)] at hst2
        have H1 := Lib.hid hst2
        have hsum1 : (0 : Int) ≤ cc + x + y := by omega
        have hsum2 : (cc : Int) + x + y ≤ 33554431 := by omega
        clear hd he hst2
        go_wp2
        go_roundw
        case rel => exact ⟨k + 1, e, ys ++ [d], rest.drop 1, by omega, by go_num, rfl, He.out, by rw [List.length_append, Hyl.out]; rfl, by rw [List.length_drop, Hrl.out]; omega, Hs.out.1, by rw [Hs.out.2, Hva.out, Hvb.out, Nat.mul_add]; omega, H1.out.1, Hb.out.grown H1.out.2 Hb.out.size (by simp)⟩
        case measure => simp [intOf]; omega
      · have hnl2 : ¬ (k : Int) < n' := by omega
        have Hvb : Hid (V ((limbs b).take (k + 1)) = V ((limbs b).take k)) := Lib.hid (by rw [take_all (by have := Hn'.out; omega), take_all (by have := Hn'.out; omega)])
        generalize (limbs a)[k] = x at *
        have Hs := Lib.hid (plus_step (t := x) Hyl.out Hl.out Hv.out)
        have hand : bits .and .i64 ((cc : Int) + x) 16777215 = (((cc + x) % Bs : Nat) : Int) := by rw [and24_i64, Bs_eq]; omega
        have hshr : ((cc : Int) + x) / 16777216 = (((cc + x) / Bs : Nat) : Int) := by rw [Bs_eq]; omega
        have He : Hid ((cc + x) / Bs ≤ 1) := Lib.hid (by rw [Bs_eq]; omega)
        obtain ⟨d, hd⟩ : ∃ d, d = (cc + x) % Bs := ⟨_, rfl⟩
        obtain ⟨e, he⟩ : ∃ e, e = (cc + x) / Bs := ⟨_, rfl⟩
        rw [← hd] at hand Hs
        rw [← he] at hshr He Hs
        have hst2 := Hown.out.stored k (.int .i64 d)
        rw [fill_set Hyl.out (by have := Hrl.out; omega)] at hst2
        have H1 := Lib.hid hst2
        have hsum1 : (0 : Int) ≤ cc + x := by omega
        have hsum2 : (cc : Int) + x ≤ 33554431 := by omega
        clear hd he hst2
        go_wp2
        go_roundw
        case rel => exact ⟨k + 1, e, ys ++ [d], rest.drop 1, by omega, by go_num, rfl, He.out, by rw [List.length_append, Hyl.out]; rfl, by rw [List.length_drop, Hrl.out]; omega, Hs.out.1, by rw [Hs.out.2, Hva.out, Hvb.out]; omega, H1.out.1, Hb.out.grown H1.out.2 Hb.out.size (by simp)⟩
        case measure => simp [intOf]; omega
    · have hkn : k = n := by omega
      subst hkn
      have Hfin : Hid (Lim (ys ++ [cc]) ∧ V (ys ++ [cc]) = a + b ∧ (ys ++ [cc]).length = k + 1) := Lib.hid (by
        refine ⟨Hl.out.snoc (by have := Hcc.out; rw [Bs_eq]; omega), ?_, by rw [List.length_append, Hyl.out]; rfl⟩
        have h := Hv.out
        rw [take_all (by have := Hn.out; omega), take_all (by have := Hn'.out; have := Hle.out; omega), V_limbs, V_limbs] at h
        rw [V_snoc, Hyl.out]
        omega)
      have hst2 := Hown.out.stored k (.int .i64 cc)
      rw [fill_set Hyl.out (by have := Hrl.out; omega), List.eq_nil_of_length_eq_zero (l := rest.drop 1) (by rw [List.length_drop]; have := Hrl.out; omega), List.append_nil] at hst2
      have H1 := Lib.hid (Ow.own hst2.1)
      have H2 := Lib.hid (Hb.out.grown hst2.2 Hb.out.size (by simp))
      clear hst2 hlt
      go_wp2_with fail
      obtain ⟨w2, hw2⟩ : ∃ w2, w2 = wr.setCell ⟨w.heap.size, k, none⟩ (.int .i64 cc) := ⟨_, rfl⟩
      rw [← hw2] at H1 H2 ⊢
      clear hw2
      refine (trim_any _ (k + 1) (k + 1) w2.heap.size (ys ++ [cc]) w2 H1.out.rd Hfin.out.2.2 Hfin.out.1 (by omega) (by omega)).mono ?_
      rintro e w3 ⟨rfl, q, rfl⟩
      have Hp : Hid (limbs (a + b) = (ys ++ [cc]).take (limbs (a + b)).length) := Lib.hid (by have h := limbs_prefix Hfin.out.1; rw [Hfin.out.2.1] at h; exact h)
      rw [Hfin.out.2.1]
      go_wp2_with fail
      go_ret
      exact ⟨_, rfl, (((H1.out.take (limbs (a + b)).length).eq_ (by rw [← vs_take, ← Hp.out])).drewN q).wide (Nat.le_refl _) (Nat.le_refl _), below_drewN H2.out q⟩

set_option maxHeartbeats 2000000 in
theorem natPlus_sw (a b : Nat) (A A' : Option Addr) (n n' c c' B B' : Nat) (w : World) (hr : Rd w B A (vs (limbs a))) (hr' : Rd w B' A' (vs (limbs b))) (hB : B ≤ w.heap.size) (hB' : B' ≤ w.heap.size) (hn : (limbs a).length = n) (hn' : (limbs b).length = n') (hm : (n : Int) ≤ 100000) (hm' : (n' : Int) ≤ 100000) (hle : n < n') :
    Calls Tryz.prog 120 #[.slice A n c, .slice A' n' c'] w fun e w' => ∃ A2, e = .returned (.slice A2 (limbs (a + b)).length (limbs (a + b)).length) ∧ Ow w' w.heap.size w'.heap.size A2 (vs (limbs (a + b))) ∧ Below w.heap.size w w' := by
  obtain ⟨i0, hi0, hz0, hz1, hz2⟩ := info_parts infoI
  have hst := store_int Tryz.prog
  have Hr := Lib.hid (hr.up hB)
  have Hr' := Lib.hid (hr'.up hB')
  have Hn := Lib.hid hn
  have Hn' := Lib.hid hn'
  have Hle := Lib.hid hle
  have hlt0 : (n : Int) < n' := by omega
  have hbytes : i0.bytes * (n' + 1) ≤ 281474976710656 := by rw [hz2]; omega
  clear hr hr' hn hn' hB hB' hle
  go_enter Tryz.func120, Tryz.ntmps120
  go_wp2_with (refine wpList_make_full _ rfl _ _ _ rfl w.heap.size 2 i0 _ 1 Tryz.underlying118 hi0 hz0 hz1 _ _ _ _ (n' + 1) rfl rfl rfl rfl hbytes (by unfold maxLen; omega) (Nat.le_refl _) ?_; intro w1 hown hg)
  obtain ⟨rest0, hrest⟩ : ∃ rest0, rest0 = (madeCells (Value.int .i64 0).cells ((n' + 1) * 1)).toList := ⟨_, rfl⟩
  rw [← hrest] at hown
  have hrl : rest0.length = n' + 1 := by have := hown.1; omega
  have Hrl := Lib.hid hrl
  have Hown := Lib.hid hown
  have Hb1 : Hid (Below w.heap.size w w1) := Lib.hid ((Below.refl _ _).grown hg (Nat.le_refl _) (by simp))
  clear hrest hrl hown hg
  go_loopw [6, 7, 8, 22] (fun cv _ _ i wr => ∃ (k cc : Nat) (ys : List Nat) (rest : List Value), k ≤ n' ∧ i = .int .i64 k ∧ cv = .int .i64 cc ∧ cc ≤ 1 ∧ ys.length = k ∧ rest.length = n' + 1 - k ∧ Lim ys ∧ V ys + Bs ^ k * cc = V ((limbs b).take k) + V ((limbs a).take k) ∧
    wr.ownsRow w.heap.size 2 1 (.slice (some ⟨w.heap.size, 0, none⟩) (n' + 1) (n' + 1)) (n' + 1) (vs ys ++ rest) ∧ Below w.heap.size w wr) (fun _ _ _ i _ => n' - (intOf i).toNat)
  case atStart => exact ⟨0, 0, [], rest0, Nat.zero_le _, rfl, rfl, by omega, rfl, Hrl.out, Lim_nil, by simp [V], Hown.out, Hb1.out⟩
  case round =>
    obtain ⟨k, cc, ys, rest, hk, rfl, rfl, hcc, hyl, hrl, hl, hv, hown, hb⟩ := hrel
    have Hyl := Lib.hid hyl
    have Hrl := Lib.hid hrl
    have Hl := Lib.hid hl
    have Hv := Lib.hid hv
    have Hcc := Lib.hid hcc
    have hcc0 : (0 : Int) ≤ cc := by omega
    have hcc1 : (cc : Int) ≤ 1 := by omega
    have hc2 : ∃ u, wr.cell? ⟨w.heap.size, k, none⟩ = some u := ⟨_, by rw [hown.cellAt k (by omega)]; exact List.getElem?_eq_getElem (by rw [List.length_append, vs_len]; omega)⟩
    obtain ⟨u, hu⟩ := hc2
    have hf2 := hown.frozenAt k
    have Hb := Lib.hid hb
    have Hown := Lib.hid hown
    have hnb : ((k : Int) < n' + 1) := by omega
    clear hyl hrl hl hv hcc hb hown
    by_cases hlt : k < n'
    · have hkx : k < (limbs b).length := by rw [Hn'.out]; exact hlt
      have hra := Hr'.out.below Hb.out
      obtain ⟨p, hp, _⟩ := hra.some_ (by rw [vs_len]; omega)
      subst hp
      have hcx := hra.cell (k := k) (by rw [vs_len]; exact hkx)
      rw [vs_get hkx] at hcx
      have Hva := Lib.hid (V_take_succ hkx)
      have Hxb := Lib.hid ((Lim_limbs b).getElem hkx)
      have hx0 : (0 : Int) ≤ ((limbs b)[k] : Nat) := by omega
      have hx1 : (((limbs b)[k] : Nat) : Int) ≤ 16777215 := by have := Hxb.out; rw [Bs_eq] at this; omega
      clear hra
      by_cases hlt2 : k < n
      · have hky : k < (limbs a).length := by rw [Hn.out]; exact hlt2
        have hrb := Hr.out.below Hb.out
        obtain ⟨p', hp', _⟩ := hrb.some_ (by rw [vs_len]; omega)
        subst hp'
        have hcy := hrb.cell (k := k) (by rw [vs_len]; exact hky)
        rw [vs_get hky] at hcy
        have Hvb := Lib.hid (V_take_succ hky)
        have Hyb := Lib.hid ((Lim_limbs a).getElem hky)
        have hy0 : (0 : Int) ≤ ((limbs a)[k] : Nat) := by omega
        have hy1 : (((limbs a)[k] : Nat) : Int) ≤ 16777215 := by have := Hyb.out; rw [Bs_eq] at this; omega
        clear hrb
        generalize (limbs b)[k] = x at *
        generalize (limbs a)[k] = y at *
        have Hs := Lib.hid (plus_step (t := x + y) Hyl.out Hl.out Hv.out)
        have hand : bits .and .i64 ((cc : Int) + x + y) 16777215 = (((cc + (x + y)) % Bs : Nat) : Int) := by rw [and24_i64, Bs_eq]; omega
        have hshr : ((cc : Int) + x + y) / 16777216 = (((cc + (x + y)) / Bs : Nat) : Int) := by rw [Bs_eq]; omega
        have He : Hid ((cc + (x + y)) / Bs ≤ 1) := Lib.hid (by rw [Bs_eq]; omega)
        obtain ⟨d, hd⟩ : ∃ d, d = (cc + (x + y)) % Bs := ⟨_, rfl⟩
        obtain ⟨e, he⟩ : ∃ e, e = (cc + (x + y)) / Bs := ⟨_, rfl⟩
        rw [← hd] at hand Hs
        rw [← he] at hshr He Hs
        have hst2 := Hown.out.stored k (.int .i64 d)
        rw [fill_set Hyl.out (by have := Hrl.out; omega)] at hst2
        have H1 := Lib.hid hst2
        have hsum1 : (0 : Int) ≤ cc + x + y := by omega
        have hsum2 : (cc : Int) + x + y ≤ 33554431 := by omega
        clear hd he hst2
        go_wp2
        go_roundw
        case rel => exact ⟨k + 1, e, ys ++ [d], rest.drop 1, by omega, by go_num, rfl, He.out, by rw [List.length_append, Hyl.out]; rfl, by rw [List.length_drop, Hrl.out]; omega, Hs.out.1, by rw [Hs.out.2, Hva.out, Hvb.out, Nat.mul_add]; omega, H1.out.1, Hb.out.grown H1.out.2 Hb.out.size (by simp)⟩
        case measure => simp [intOf]; omega
      · have hnl2 : ¬ (k : Int) < n := by omega
        have Hvb : Hid (V ((limbs a).take (k + 1)) = V ((limbs a).take k)) := Lib.hid (by rw [take_all (by have := Hn.out; omega), take_all (by have := Hn.out; omega)])
        generalize (limbs b)[k] = x at *
        have Hs := Lib.hid (plus_step (t := x) Hyl.out Hl.out Hv.out)
        have hand : bits .and .i64 ((cc : Int) + x) 16777215 = (((cc + x) % Bs : Nat) : Int) := by rw [and24_i64, Bs_eq]; omega
        have hshr : ((cc : Int) + x) / 16777216 = (((cc + x) / Bs : Nat) : Int) := by rw [Bs_eq]; omega
        have He : Hid ((cc + x) / Bs ≤ 1) := Lib.hid (by rw [Bs_eq]; omega)
        obtain ⟨d, hd⟩ : ∃ d, d = (cc + x) % Bs := ⟨_, rfl⟩
        obtain ⟨e, he⟩ : ∃ e, e = (cc + x) / Bs := ⟨_, rfl⟩
        rw [← hd] at hand Hs
        rw [← he] at hshr He Hs
        have hst2 := Hown.out.stored k (.int .i64 d)
        rw [fill_set Hyl.out (by have := Hrl.out; omega)] at hst2
        have H1 := Lib.hid hst2
        have hsum1 : (0 : Int) ≤ cc + x := by omega
        have hsum2 : (cc : Int) + x ≤ 33554431 := by omega
        clear hd he hst2
        go_wp2
        go_roundw
        case rel => exact ⟨k + 1, e, ys ++ [d], rest.drop 1, by omega, by go_num, rfl, He.out, by rw [List.length_append, Hyl.out]; rfl, by rw [List.length_drop, Hrl.out]; omega, Hs.out.1, by rw [Hs.out.2, Hva.out, Hvb.out]; omega, H1.out.1, Hb.out.grown H1.out.2 Hb.out.size (by simp)⟩
        case measure => simp [intOf]; omega
    · have hkn : k = n' := by omega
      subst hkn
      have Hfin : Hid (Lim (ys ++ [cc]) ∧ V (ys ++ [cc]) = a + b ∧ (ys ++ [cc]).length = k + 1) := Lib.hid (by
        refine ⟨Hl.out.snoc (by have := Hcc.out; rw [Bs_eq]; omega), ?_, by rw [List.length_append, Hyl.out]; rfl⟩
        have h := Hv.out
        rw [take_all (by have := Hn'.out; omega), take_all (by have := Hn.out; have := Hle.out; omega), V_limbs, V_limbs] at h
        rw [V_snoc, Hyl.out]
        omega)
      have hst2 := Hown.out.stored k (.int .i64 cc)
      rw [fill_set Hyl.out (by have := Hrl.out; omega), List.eq_nil_of_length_eq_zero (l := rest.drop 1) (by rw [List.length_drop]; have := Hrl.out; omega), List.append_nil] at hst2
      have H1 := Lib.hid (Ow.own hst2.1)
      have H2 := Lib.hid (Hb.out.grown hst2.2 Hb.out.size (by simp))
      clear hst2 hlt
      go_wp2_with fail
      obtain ⟨w2, hw2⟩ : ∃ w2, w2 = wr.setCell ⟨w.heap.size, k, none⟩ (.int .i64 cc) := ⟨_, rfl⟩
      rw [← hw2] at H1 H2 ⊢
      clear hw2
      refine (trim_any _ (k + 1) (k + 1) w2.heap.size (ys ++ [cc]) w2 H1.out.rd Hfin.out.2.2 Hfin.out.1 (by omega) (by omega)).mono ?_
      rintro e w3 ⟨rfl, q, rfl⟩
      have Hp : Hid (limbs (a + b) = (ys ++ [cc]).take (limbs (a + b)).length) := Lib.hid (by have h := limbs_prefix Hfin.out.1; rw [Hfin.out.2.1] at h; exact h)
      rw [Hfin.out.2.1]
      go_wp2_with fail
      go_ret
      exact ⟨_, rfl, (((H1.out.take (limbs (a + b)).length).eq_ (by rw [← vs_take, ← Hp.out])).drewN q).wide (Nat.le_refl _) (Nat.le_refl _), below_drewN H2.out q⟩

theorem natPlus_any (a b : Nat) (A A' : Option Addr) (n n' c c' B B' : Nat) (w : World) (hr : Rd w B A (vs (limbs a))) (hr' : Rd w B' A' (vs (limbs b))) (hB : B ≤ w.heap.size) (hB' : B' ≤ w.heap.size) (hn : (limbs a).length = n) (hn' : (limbs b).length = n') (hm : (n : Int) ≤ 100000) (hm' : (n' : Int) ≤ 100000) :
    Calls Tryz.prog 120 #[.slice A n c, .slice A' n' c'] w fun e w' => ∃ A2, e = .returned (.slice A2 (limbs (a + b)).length (limbs (a + b)).length) ∧ Ow w' w.heap.size w'.heap.size A2 (vs (limbs (a + b))) ∧ Below w.heap.size w w' := by
  by_cases h : n < n'
  · exact natPlus_sw a b A A' n n' c c' B B' w hr hr' hB hB' hn hn' hm hm' h
  · exact natPlus_or a b A A' n n' c c' B B' w hr hr' hB hB' hn hn' hm hm' (by omega)
end Go.Proofs.YtngminjncdfjdaaGreatDoor
/- Differences of limbs, of the program. -/
namespace Go.Proofs.YtngminjncdfjdaaGreatDoor
set_option maxRecDepth 100000
open Go.RowKit
set_option linter.unusedSimpArgs false
set_option linter.unusedVariables false

theorem minus_step {ys : List Nat} {k : Nat} {c t T : Int} (hy : ys.length = k) (hl : Lim ys) (hv : (V ys : Int) + (Bs : Int) ^ k * c = T) : Lim (ys ++ [((c + t) % Bs).toNat]) ∧ (V (ys ++ [((c + t) % Bs).toNat]) : Int) + (Bs : Int) ^ (k + 1) * ((c + t) / Bs) = T + (Bs : Int) ^ k * t := by
  subst hy
  have h0 : 0 ≤ (c + t) % (Bs : Int) := Int.emod_nonneg _ (by rw [Bs_eq]; decide)
  have h1 : (c + t) % (Bs : Int) < Bs := Int.emod_lt_of_pos _ (by rw [Bs_eq]; decide)
  refine ⟨hl.snoc (by omega), ?_⟩
  rw [V_snoc]
  have h2 := carry_stepI (x := t) ys.length hv
  rw [← h2]
  simp only [Int.natCast_add, Int.natCast_mul, Int.natCast_pow, Int.toNat_of_nonneg h0]

theorem carry_none {v n : Nat} {c T : Int} (h : (v : Int) + (Bs : Int) ^ n * c = T) (hv : v < Bs ^ n) (hT : 0 ≤ T) (hc : c ≤ 0) : (v : Int) = T := by
  have hp : (0 : Int) < (Bs : Int) ^ n := by have := Bs_pow_pos n; exact_mod_cast this
  have hv2 : (v : Int) < (Bs : Int) ^ n := by exact_mod_cast hv
  rcases Int.lt_or_le c 0 with h1 | h1
  · exfalso
    have h2 : (Bs : Int) ^ n * c ≤ (Bs : Int) ^ n * (-1) := Int.mul_le_mul_of_nonneg_left (by omega) (by omega)
    omega
  · have : c = 0 := by omega
    subst this
    simpa using h

set_option maxHeartbeats 2000000 in
theorem natMinus_any (a b : Nat) (A A' : Option Addr) (n n' c c' B B' : Nat) (w : World) (hr : Rd w B A (vs (limbs a))) (hr' : Rd w B' A' (vs (limbs b))) (hB : B ≤ w.heap.size) (hB' : B' ≤ w.heap.size) (hn : (limbs a).length = n) (hn' : (limbs b).length = n') (hm : (n : Int) ≤ 100000) (hm' : (n' : Int) ≤ 100000) (hab : b ≤ a) :
    Calls Tryz.prog 122 #[.slice A n c, .slice A' n' c'] w fun e w' => ∃ A2, e = .returned (.slice A2 (limbs (a - b)).length (limbs (a - b)).length) ∧ Ow w' w.heap.size w'.heap.size A2 (vs (limbs (a - b))) ∧ Below w.heap.size w w' := by
  obtain ⟨i0, hi0, hz0, hz1, hz2⟩ := info_parts infoI
  have hst := store_int Tryz.prog
  have Hr := Lib.hid (hr.up hB)
  have Hr' := Lib.hid (hr'.up hB')
  have Hn := Lib.hid hn
  have Hn' := Lib.hid hn'
  have Hab := Lib.hid hab
  have Hle : Hid (n' ≤ n) := Lib.hid (by
    rcases Nat.lt_or_ge n n' with h | h
    · have := lt_of_len (a := a) (b := b) (by omega); omega
    · exact h)
  have hbytes : i0.bytes * n ≤ 281474976710656 := by rw [hz2]; omega
  clear hr hr' hn hn' hB hB' hab
  go_enter Tryz.func122, Tryz.ntmps122
  go_wp2_with (refine wpList_make_full _ rfl _ _ _ rfl w.heap.size 2 i0 _ 1 Tryz.underlying118 hi0 hz0 hz1 _ _ _ _ n rfl rfl rfl rfl hbytes (by unfold maxLen; omega) (Nat.le_refl _) ?_; intro w1 hown hg)
  obtain ⟨rest0, hrest⟩ : ∃ rest0, rest0 = (madeCells (Value.int .i64 0).cells (n * 1)).toList := ⟨_, rfl⟩
  rw [← hrest] at hown
  have hrl : rest0.length = n := by have := hown.1; omega
  have Hrl := Lib.hid hrl
  have Hown := Lib.hid hown
  have Hb1 : Hid (Below w.heap.size w w1) := Lib.hid ((Below.refl _ _).grown hg (Nat.le_refl _) (by simp))
  clear hrest hrl hown hg
  go_loopw [6, 7, 8, 14] (fun cv _ _ i wr => ∃ (k : Nat) (cc : Int) (ys : List Nat) (rest : List Value), k ≤ n ∧ i = .int .i64 k ∧ cv = .int .i64 cc ∧ (-1 ≤ cc ∧ cc ≤ 0) ∧ ys.length = k ∧ rest.length = n - k ∧ Lim ys ∧ (V ys : Int) + (Bs : Int) ^ k * cc = V ((limbs a).take k) - V ((limbs b).take k) ∧
    wr.ownsRow w.heap.size 2 1 (.slice (some ⟨w.heap.size, 0, none⟩) n n) n (vs ys ++ rest) ∧ Below w.heap.size w wr) (fun _ _ _ i _ => n - (intOf i).toNat)
  case atStart => exact ⟨0, 0, [], rest0, Nat.zero_le _, rfl, rfl, by omega, rfl, Hrl.out, Lim_nil, by simp [V], Hown.out, Hb1.out⟩
  case round =>
    obtain ⟨k, cc, ys, rest, hk, rfl, rfl, hcc, hyl, hrl, hl, hv, hown, hb⟩ := hrel
    have Hyl := Lib.hid hyl
    have Hrl := Lib.hid hrl
    have Hl := Lib.hid hl
    have Hv := Lib.hid hv
    have Hcc := Lib.hid hcc
    obtain ⟨hcc0, hcc1⟩ := hcc
    have Hb := Lib.hid hb
    have Hown := Lib.hid hown
    clear hyl hrl hl hv hb hown
    by_cases hlt : k < n
    · have hown := Hown.out
      have hc2 : ∃ u, wr.cell? ⟨w.heap.size, k, none⟩ = some u := ⟨_, by rw [hown.cellAt k (by omega)]; exact List.getElem?_eq_getElem (by rw [List.length_append, vs_len]; have := Hyl.out; have := Hrl.out; omega)⟩
      obtain ⟨u, hu⟩ := hc2
      have hf2 := hown.frozenAt k
      clear hown
      have hkx : k < (limbs a).length := by rw [Hn.out]; exact hlt
      have hra := Hr.out.below Hb.out
      obtain ⟨p, hp, _⟩ := hra.some_ (by rw [vs_len]; omega)
      subst hp
      have hcx := hra.cell (k := k) (by rw [vs_len]; exact hkx)
      rw [vs_get hkx] at hcx
      have Hva := Lib.hid (V_take_succ hkx)
      have Hxb := Lib.hid ((Lim_limbs a).getElem hkx)
      have hx0 : (0 : Int) ≤ ((limbs a)[k] : Nat) := by omega
      have hx1 : (((limbs a)[k] : Nat) : Int) ≤ 16777215 := by have := Hxb.out; rw [Bs_eq] at this; omega
      clear hra
      by_cases hlt2 : k < n'
      · have hky : k < (limbs b).length := by rw [Hn'.out]; exact hlt2
        have hrb := Hr'.out.below Hb.out
        obtain ⟨p', hp', _⟩ := hrb.some_ (by rw [vs_len]; omega)
        subst hp'
        have hcy := hrb.cell (k := k) (by rw [vs_len]; exact hky)
        rw [vs_get hky] at hcy
        have Hvb := Lib.hid (V_take_succ hky)
        have Hyb := Lib.hid ((Lim_limbs b).getElem hky)
        have hy0 : (0 : Int) ≤ ((limbs b)[k] : Nat) := by omega
        have hy1 : (((limbs b)[k] : Nat) : Int) ≤ 16777215 := by have := Hyb.out; rw [Bs_eq] at this; omega
        clear hrb
        generalize (limbs a)[k] = x at *
        generalize (limbs b)[k] = y at *
        have Hs := Lib.hid (minus_step (t := ((x : Int) - y)) Hyl.out Hl.out Hv.out)
        have hand : bits .and .i64 ((cc : Int) + x - y) 16777215 = ((((cc + ((x : Int) - y)) % Bs).toNat : Nat) : Int) := by rw [and24_i64, Bs_eq]; omega
        have hshr : ((cc : Int) + x - y) / 16777216 = (cc + ((x : Int) - y)) / Bs := by rw [Bs_eq, show cc + ((x : Int) - y) = (cc : Int) + x - y by omega]; rfl
        have He : Hid (-1 ≤ (cc + ((x : Int) - y)) / Bs ∧ (cc + ((x : Int) - y)) / Bs ≤ 0) := Lib.hid (by rw [Bs_eq]; omega)
        obtain ⟨d, hd⟩ : ∃ d, d = ((cc + ((x : Int) - y)) % Bs).toNat := ⟨_, rfl⟩
        obtain ⟨e, he⟩ : ∃ e, e = (cc + ((x : Int) - y)) / Bs := ⟨_, rfl⟩
        rw [← hd] at hand Hs
        rw [← he] at hshr He Hs
        have hst2 := Hown.out.stored k (.int .i64 d)
        rw [fill_set Hyl.out (by have := Hrl.out; omega)] at hst2
        have H1 := Lib.hid hst2
        have hsum1 : -16777216 ≤ (cc : Int) + x - y := by omega
        have hsum2 : (cc : Int) + x - y ≤ 16777215 := by omega
        clear hd he hst2
        go_wp2
        go_roundw
        case rel => exact ⟨k + 1, e, ys ++ [d], rest.drop 1, by omega, by go_num, rfl, He.out, by rw [List.length_append, Hyl.out]; rfl, by rw [List.length_drop, Hrl.out]; omega, Hs.out.1, by rw [Hs.out.2, Hva.out, Hvb.out]; rw [Int.mul_sub]; simp only [Int.natCast_add, Int.natCast_mul, Int.natCast_pow]; omega, H1.out.1, Hb.out.grown H1.out.2 Hb.out.size (by simp)⟩
        case measure => simp [intOf]; omega
      · have hnl2 : ¬ (k : Int) < n' := by omega
        have Hvb : Hid (V ((limbs b).take (k + 1)) = V ((limbs b).take k)) := Lib.hid (by rw [take_all (by have := Hn'.out; omega), take_all (by have := Hn'.out; omega)])
        generalize (limbs a)[k] = x at *
        have Hs := Lib.hid (minus_step (t := (x : Int)) Hyl.out Hl.out Hv.out)
        have hand : bits .and .i64 ((cc : Int) + x) 16777215 = ((((cc + (x : Int)) % Bs).toNat : Nat) : Int) := by rw [and24_i64, Bs_eq]; omega
        have hshr : ((cc : Int) + x) / 16777216 = (cc + (x : Int)) / Bs := by rw [Bs_eq, show cc + (x : Int) = (cc : Int) + x by omega]; rfl
        have He : Hid (-1 ≤ (cc + (x : Int)) / Bs ∧ (cc + (x : Int)) / Bs ≤ 0) := Lib.hid (by rw [Bs_eq]; omega)
        obtain ⟨d, hd⟩ : ∃ d, d = ((cc + (x : Int)) % Bs).toNat := ⟨_, rfl⟩
        obtain ⟨e, he⟩ : ∃ e, e = (cc + (x : Int)) / Bs := ⟨_, rfl⟩
        rw [← hd] at hand Hs
        rw [← he] at hshr He Hs
        have hst2 := Hown.out.stored k (.int .i64 d)
        rw [fill_set Hyl.out (by have := Hrl.out; omega)] at hst2
        have H1 := Lib.hid hst2
        have hsum1 : -16777216 ≤ (cc : Int) + x := by omega
        have hsum2 : (cc : Int) + x ≤ 16777215 := by omega
        clear hd he hst2
        go_wp2
        go_roundw
        case rel => exact ⟨k + 1, e, ys ++ [d], rest.drop 1, by omega, by go_num, rfl, He.out, by rw [List.length_append, Hyl.out]; rfl, by rw [List.length_drop, Hrl.out]; omega, Hs.out.1, by rw [Hs.out.2, Hva.out, Hvb.out]; simp only [Int.natCast_add, Int.natCast_mul, Int.natCast_pow]; omega, H1.out.1, Hb.out.grown H1.out.2 Hb.out.size (by simp)⟩
        case measure => simp [intOf]; omega
    · have hkn : k = n := by omega
      subst hkn
      have Hfin : Hid (V ys = a - b ∧ ys.length = k ∧ rest = []) := Lib.hid (by
        have h := Hv.out
        rw [take_all (by have := Hn.out; omega), take_all (by have := Hn'.out; have := Hle.out; omega), V_limbs, V_limbs] at h
        have h2 := V_lt Hl.out
        rw [Hyl.out] at h2
        have h3 := carry_none h h2 (by have := Hab.out; omega) hcc1
        exact ⟨by have := Hab.out; omega, Hyl.out, List.eq_nil_of_length_eq_zero (by rw [Hrl.out]; omega)⟩)
      have hown := Hown.out
      rw [Hfin.out.2.2, List.append_nil] at hown
      have H1 := Lib.hid (Ow.own hown)
      clear hlt hown
      go_wp2_with fail
      refine (trim_any _ k k wr.heap.size ys wr H1.out.rd Hfin.out.2.1 Hl.out (by omega) (by omega)).mono ?_
      rintro e w3 ⟨rfl, q, rfl⟩
      have Hp : Hid (limbs (a - b) = ys.take (limbs (a - b)).length) := Lib.hid (by have h := limbs_prefix Hl.out; rw [Hfin.out.1] at h; exact h)
      rw [Hfin.out.1]
      go_wp2_with fail
      go_ret
      exact ⟨_, rfl, (((H1.out.take (limbs (a - b)).length).eq_ (by rw [← vs_take, ← Hp.out])).drewN q).wide (Nat.le_refl _) (Nat.le_refl _), below_drewN Hb.out q⟩
end Go.Proofs.YtngminjncdfjdaaGreatDoor
/- Sums and differences of limbs, of the model. -/
namespace Go.Proofs.YtngminjncdfjdaaGreatDoor
set_option maxRecDepth 100000
open Go.RowKit
set_option linter.unusedSimpArgs false
set_option linter.unusedVariables false

theorem OwnL.snoc {w : World} {B : Nat} {v : Value} {ys : List Nat} {d : Nat} (h : w.ownsRow B 2 1 v (ys.length + 1) (vs ys ++ vs [d])) : OwnL w B v (ys ++ [d]) := by
  unfold OwnL
  rw [List.length_append, vs_append]
  exact h

set_option maxHeartbeats 4000000 in
theorem specPlusL_any (a b : Nat) (A A' : Option Addr) (n n' c c' B B' : Nat) (w : World) (hr : Rd w B A (vs (limbs a))) (hr' : Rd w B' A' (vs (limbs b))) (hB : B ≤ w.heap.size) (hB' : B' ≤ w.heap.size) (hn : (limbs a).length = n) (hn' : (limbs b).length = n') (hm : (n : Int) ≤ 100000) (hm' : (n' : Int) ≤ 100000) :
    Calls Tryz.prog 87 #[.slice A n c, .slice A' n' c'] w fun e w' => ∃ v ys, e = .returned v ∧ OwnL w' w.heap.size v ys ∧ Lim ys ∧ V ys = a + b ∧ ys.length ≤ n + n' + 1 ∧ Below w.heap.size w w' := by
  obtain ⟨i0, hi0, hz0, hz1, hz2⟩ := info_parts infoI
  have Hr := Lib.hid (hr.up hB)
  have Hr' := Lib.hid (hr'.up hB')
  have Hn := Lib.hid hn
  have Hn' := Lib.hid hn'
  have Hown0 : Hid (OwnL (w.alloc (.cells #[] 2)) w.heap.size (.slice (some ⟨w.heap.size, 0, none⟩) 0 0) []) := Lib.hid (own_empty w _)
  clear hr hr' hn hn' hB hB'
  go_enter Tryz.func87, Tryz.ntmps87
  go_wp2_with fail
  go_loopw [5, 6, 7] (fun l cv i wr => ∃ (k cc : Nat) (ys : List Nat), k ≤ n + n' + 1 ∧ i = .int .i64 k ∧ cv = .int .i64 cc ∧ cc ≤ 1 ∧ ((k ≤ n ∨ k ≤ n') ∨ cc = 0) ∧ ys.length = k ∧ Lim ys ∧ V ys + Bs ^ k * cc = V ((limbs a).take k) + V ((limbs b).take k) ∧ OwnL wr w.heap.size l ys ∧ Below w.heap.size w wr) (fun _ _ i _ => n + n' + 2 - (intOf i).toNat)
  case atStart => exact ⟨0, 0, [], by omega, rfl, rfl, by omega, .inr rfl, rfl, Lim_nil, by simp [V], Hown0.out, belAlloc1 _ _⟩
  case round =>
    obtain ⟨k, cc, ys, hk, rfl, rfl, hcc, hor, hyl, hl, hv, hown, hb⟩ := hrel
    have Hyl := Lib.hid hyl
    have Hl := Lib.hid hl
    have Hv := Lib.hid hv
    have Hcc := Lib.hid hcc
    have hcc0 : (0 : Int) ≤ cc := by omega
    have hcc1 : (cc : Int) ≤ 1 := by omega
    have Hb := Lib.hid hb
    have Hown := Lib.hid hown
    obtain ⟨Ao, co, hA, hyc⟩ := hown.form
    subst hA
    have hyl2 : (ys.length : Int) ≤ 200001 := by omega
    have Hor := Lib.hid hor
    clear hyl hl hv hcc hb hown hyc hor
    by_cases hlx : k < n
    · have hlx2 : (k : Int) < n := by omega
      have hkx : k < (limbs a).length := by rw [Hn.out]; exact hlx
      have hrx := Hr.out.below Hb.out
      obtain ⟨px, hpx, _⟩ := hrx.some_ (by rw [vs_len]; omega)
      subst hpx
      have hcx := hrx.cell (k := k) (by rw [vs_len]; exact hkx)
      rw [vs_get hkx] at hcx
      have Hvx := Lib.hid (V_take_succ hkx)
      have Hbx := Lib.hid ((Lim_limbs a).getElem hkx)
      have h0x : (0 : Int) ≤ ((limbs a)[k] : Nat) := by omega
      have h1x : (((limbs a)[k] : Nat) : Int) ≤ 16777215 := by have := Hbx.out; rw [Bs_eq] at this; omega
      clear hrx
      generalize (limbs a)[k] = x at *
      by_cases hly : k < n'
      · have hly2 : (k : Int) < n' := by omega
        have hky : k < (limbs b).length := by rw [Hn'.out]; exact hly
        have hry := Hr'.out.below Hb.out
        obtain ⟨py, hpy, _⟩ := hry.some_ (by rw [vs_len]; omega)
        subst hpy
        have hcy := hry.cell (k := k) (by rw [vs_len]; exact hky)
        rw [vs_get hky] at hcy
        have Hvy := Lib.hid (V_take_succ hky)
        have Hby := Lib.hid ((Lim_limbs b).getElem hky)
        have h0y : (0 : Int) ≤ ((limbs b)[k] : Nat) := by omega
        have h1y : (((limbs b)[k] : Nat) : Int) ≤ 16777215 := by have := Hby.out; rw [Bs_eq] at this; omega
        clear hry
        generalize (limbs b)[k] = y at *
        have Hs := Lib.hid (plus_step (t := x + y) Hyl.out Hl.out Hv.out)
        have hrem : ((cc : Int) + x + y) % 16777216 = (((cc + (x + y)) % Bs : Nat) : Int) := by rw [Bs_eq]; omega
        have hquo : ((cc : Int) + x + y) / 16777216 = (((cc + (x + y)) / Bs : Nat) : Int) := by rw [Bs_eq]; omega
        have He : Hid ((cc + (x + y)) / Bs ≤ 1) := Lib.hid (by rw [Bs_eq]; omega)
        obtain ⟨d, hd⟩ : ∃ d, d = (cc + (x + y)) % Bs := ⟨_, rfl⟩
        obtain ⟨e, he⟩ : ∃ e, e = (cc + (x + y)) / Bs := ⟨_, rfl⟩
        rw [← hd] at hrem Hs
        rw [← he] at hquo He Hs
        have hs1 : (0 : Int) ≤ (cc : Int) + x + y := by omega
        have hs2 : (cc : Int) + x + y ≤ 33554431 := by omega
        clear hd he
        go_wp2_with (at_builtin; refine wpList_append_own _ rfl (.tmp 45) (.tmp 48) _ rfl w.heap.size 2 i0 _ 1 8 Tryz.underlying44 hi0 hz0 hz1 hz2 rfl (by omega) (.slice Ao ys.length co) ys.length (vs ys) rfl (World.ownsRow.alloc Hown.out _) ⟨wr.heap.size, 0, none⟩ 1 1 (vs [d]) rfl (by rw [vs_len]; rfl) (new_cells wr d _) (vs_one · [d]) (by unfold maxLen; omega) (by omega) (by have := Hb.out.size; simp; omega) ?_; intro v2 w2 hown2 hg2 _)
        have Hown2 := Lib.hid (OwnL.snoc hown2)
        have Hb2 : Hid (Below w.heap.size w w2) := Lib.hid ((Hb.out.alloc Hb.out.size _).grown hg2 (by have := Hb.out.size; simp; omega) (fun k hk => (Hown.out.lt k hk).1))
        clear hown2 hg2
        go_roundw
        case rel => exact ⟨k + 1, e, ys ++ [d], by omega, by go_num, by first | rfl | rw [hquo], He.out, by left; omega, by rw [List.length_append, Hyl.out]; rfl, Hs.out.1, by rw [Hs.out.2, Hvx.out, Hvy.out, Nat.mul_add]; omega, Hown2.out, Hb2.out⟩
        case measure => simp [intOf]; omega
      · skip
        have hly' : ¬ (k : Int) < n' := by omega
        have Hvy : Hid (V ((limbs b).take (k + 1)) = V ((limbs b).take k)) := Lib.hid (by rw [take_all (by have := Hn'.out; omega), take_all (by have := Hn'.out; omega)])
        have Hs := Lib.hid (plus_step (t := x) Hyl.out Hl.out Hv.out)
        have hrem : ((cc : Int) + x) % 16777216 = (((cc + (x)) % Bs : Nat) : Int) := by rw [Bs_eq]; omega
        have hquo : ((cc : Int) + x) / 16777216 = (((cc + (x)) / Bs : Nat) : Int) := by rw [Bs_eq]; omega
        have He : Hid ((cc + (x)) / Bs ≤ 1) := Lib.hid (by rw [Bs_eq]; omega)
        obtain ⟨d, hd⟩ : ∃ d, d = (cc + (x)) % Bs := ⟨_, rfl⟩
        obtain ⟨e, he⟩ : ∃ e, e = (cc + (x)) / Bs := ⟨_, rfl⟩
        rw [← hd] at hrem Hs
        rw [← he] at hquo He Hs
        have hs1 : (0 : Int) ≤ (cc : Int) + x := by omega
        have hs2 : (cc : Int) + x ≤ 33554431 := by omega
        clear hd he
        go_wp2_with (at_builtin; refine wpList_append_own _ rfl (.tmp 45) (.tmp 48) _ rfl w.heap.size 2 i0 _ 1 8 Tryz.underlying44 hi0 hz0 hz1 hz2 rfl (by omega) (.slice Ao ys.length co) ys.length (vs ys) rfl (World.ownsRow.alloc Hown.out _) ⟨wr.heap.size, 0, none⟩ 1 1 (vs [d]) rfl (by rw [vs_len]; rfl) (new_cells wr d _) (vs_one · [d]) (by unfold maxLen; omega) (by omega) (by have := Hb.out.size; simp; omega) ?_; intro v2 w2 hown2 hg2 _)
        have Hown2 := Lib.hid (OwnL.snoc hown2)
        have Hb2 : Hid (Below w.heap.size w w2) := Lib.hid ((Hb.out.alloc Hb.out.size _).grown hg2 (by have := Hb.out.size; simp; omega) (fun k hk => (Hown.out.lt k hk).1))
        clear hown2 hg2
        go_roundw
        case rel => exact ⟨k + 1, e, ys ++ [d], by omega, by go_num, by first | rfl | rw [hquo], He.out, by left; omega, by rw [List.length_append, Hyl.out]; rfl, Hs.out.1, by rw [Hs.out.2, Hvx.out, Hvy.out]; omega, Hown2.out, Hb2.out⟩
        case measure => simp [intOf]; omega
    · skip
      have hlx' : ¬ (k : Int) < n := by omega
      have Hvx : Hid (V ((limbs a).take (k + 1)) = V ((limbs a).take k)) := Lib.hid (by rw [take_all (by have := Hn.out; omega), take_all (by have := Hn.out; omega)])
      by_cases hly : k < n'
      · have hly2 : (k : Int) < n' := by omega
        have hky : k < (limbs b).length := by rw [Hn'.out]; exact hly
        have hry := Hr'.out.below Hb.out
        obtain ⟨py, hpy, _⟩ := hry.some_ (by rw [vs_len]; omega)
        subst hpy
        have hcy := hry.cell (k := k) (by rw [vs_len]; exact hky)
        rw [vs_get hky] at hcy
        have Hvy := Lib.hid (V_take_succ hky)
        have Hby := Lib.hid ((Lim_limbs b).getElem hky)
        have h0y : (0 : Int) ≤ ((limbs b)[k] : Nat) := by omega
        have h1y : (((limbs b)[k] : Nat) : Int) ≤ 16777215 := by have := Hby.out; rw [Bs_eq] at this; omega
        clear hry
        generalize (limbs b)[k] = y at *
        have Hs := Lib.hid (plus_step (t := y) Hyl.out Hl.out Hv.out)
        have hrem : ((cc : Int) + y) % 16777216 = (((cc + (y)) % Bs : Nat) : Int) := by rw [Bs_eq]; omega
        have hquo : ((cc : Int) + y) / 16777216 = (((cc + (y)) / Bs : Nat) : Int) := by rw [Bs_eq]; omega
        have He : Hid ((cc + (y)) / Bs ≤ 1) := Lib.hid (by rw [Bs_eq]; omega)
        obtain ⟨d, hd⟩ : ∃ d, d = (cc + (y)) % Bs := ⟨_, rfl⟩
        obtain ⟨e, he⟩ : ∃ e, e = (cc + (y)) / Bs := ⟨_, rfl⟩
        rw [← hd] at hrem Hs
        rw [← he] at hquo He Hs
        have hs1 : (0 : Int) ≤ (cc : Int) + y := by omega
        have hs2 : (cc : Int) + y ≤ 33554431 := by omega
        clear hd he
        go_wp2_with (at_builtin; refine wpList_append_own _ rfl (.tmp 45) (.tmp 48) _ rfl w.heap.size 2 i0 _ 1 8 Tryz.underlying44 hi0 hz0 hz1 hz2 rfl (by omega) (.slice Ao ys.length co) ys.length (vs ys) rfl (World.ownsRow.alloc Hown.out _) ⟨wr.heap.size, 0, none⟩ 1 1 (vs [d]) rfl (by rw [vs_len]; rfl) (new_cells wr d _) (vs_one · [d]) (by unfold maxLen; omega) (by omega) (by have := Hb.out.size; simp; omega) ?_; intro v2 w2 hown2 hg2 _)
        have Hown2 := Lib.hid (OwnL.snoc hown2)
        have Hb2 : Hid (Below w.heap.size w w2) := Lib.hid ((Hb.out.alloc Hb.out.size _).grown hg2 (by have := Hb.out.size; simp; omega) (fun k hk => (Hown.out.lt k hk).1))
        clear hown2 hg2
        go_roundw
        case rel => exact ⟨k + 1, e, ys ++ [d], by omega, by go_num, by first | rfl | rw [hquo], He.out, by left; omega, by rw [List.length_append, Hyl.out]; rfl, Hs.out.1, by rw [Hs.out.2, Hvx.out, Hvy.out]; omega, Hown2.out, Hb2.out⟩
        case measure => simp [intOf]; omega
      · skip
        have hly' : ¬ (k : Int) < n' := by omega
        have Hvy : Hid (V ((limbs b).take (k + 1)) = V ((limbs b).take k)) := Lib.hid (by rw [take_all (by have := Hn'.out; omega), take_all (by have := Hn'.out; omega)])
        by_cases h0 : cc = 0
        · have Hfin : Hid (V ys = a + b ∧ ys.length ≤ n + n' + 1) := Lib.hid (by
            have h := Hv.out
            rw [h0, take_all (by have := Hn.out; omega), take_all (by have := Hn'.out; omega), V_limbs, V_limbs] at h
            exact ⟨by simpa using h, by rw [Hyl.out]; exact hk⟩)
          subst h0
          go_wp2_with fail
          go_ret
          exact ⟨.slice Ao ys.length co, rfl, ys, Hown.out, Hl.out, Hfin.out.1, Hfin.out.2, Hb.out⟩
        · have hc1 : (0 : Int) < cc := by omega
          have Hk2 : Hid (k ≤ n ∨ k ≤ n') := Lib.hid (Hor.out.resolve_right h0)
          have hk2 : k + 1 ≤ n + n' + 1 := by have := Hk2.out; omega
          have Hs := Lib.hid (plus_step (t := 0) Hyl.out Hl.out Hv.out)
          have hrem : ((cc : Int)) % 16777216 = (((cc + (0)) % Bs : Nat) : Int) := by rw [Bs_eq]; omega
          have hquo : ((cc : Int)) / 16777216 = (((cc + (0)) / Bs : Nat) : Int) := by rw [Bs_eq]; omega
          have He : Hid ((cc + (0)) / Bs ≤ 1 ∧ (cc + (0)) / Bs = 0) := Lib.hid (by rw [Bs_eq]; omega)
          obtain ⟨d, hd⟩ : ∃ d, d = (cc + (0)) % Bs := ⟨_, rfl⟩
          obtain ⟨e, he⟩ : ∃ e, e = (cc + (0)) / Bs := ⟨_, rfl⟩
          rw [← hd] at hrem Hs
          rw [← he] at hquo He Hs
          have hs1 : (0 : Int) ≤ (cc : Int) := by omega
          have hs2 : (cc : Int) ≤ 33554431 := by omega
          clear hd he
          go_wp2_with (at_builtin; refine wpList_append_own _ rfl (.tmp 45) (.tmp 48) _ rfl w.heap.size 2 i0 _ 1 8 Tryz.underlying44 hi0 hz0 hz1 hz2 rfl (by omega) (.slice Ao ys.length co) ys.length (vs ys) rfl (World.ownsRow.alloc Hown.out _) ⟨wr.heap.size, 0, none⟩ 1 1 (vs [d]) rfl (by rw [vs_len]; rfl) (new_cells wr d _) (vs_one · [d]) (by unfold maxLen; omega) (by omega) (by have := Hb.out.size; simp; omega) ?_; intro v2 w2 hown2 hg2 _)
          have Hown2 := Lib.hid (OwnL.snoc hown2)
          have Hb2 : Hid (Below w.heap.size w w2) := Lib.hid ((Hb.out.alloc Hb.out.size _).grown hg2 (by have := Hb.out.size; simp; omega) (fun k hk => (Hown.out.lt k hk).1))
          clear hown2 hg2
          go_roundw
          case rel => exact ⟨k + 1, e, ys ++ [d], by omega, by go_num, by first | rfl | rw [hquo], He.out.1, by right; exact He.out.2, by rw [List.length_append, Hyl.out]; rfl, Hs.out.1, by rw [Hs.out.2, Hvx.out, Hvy.out]; omega, Hown2.out, Hb2.out⟩
          case measure => simp [intOf]; omega

set_option maxHeartbeats 4000000 in
theorem specMinusL_any (a b : Nat) (A A' : Option Addr) (n n' c c' B B' : Nat) (w : World) (hr : Rd w B A (vs (limbs a))) (hr' : Rd w B' A' (vs (limbs b))) (hB : B ≤ w.heap.size) (hB' : B' ≤ w.heap.size) (hn : (limbs a).length = n) (hn' : (limbs b).length = n') (hm : (n : Int) ≤ 100000) (hm' : (n' : Int) ≤ 100000) (hab : b ≤ a) :
    Calls Tryz.prog 89 #[.slice A n c, .slice A' n' c'] w fun e w' => ∃ v ys, e = .returned v ∧ OwnL w' w.heap.size v ys ∧ Lim ys ∧ V ys = a - b ∧ ys.length = n ∧ Below w.heap.size w w' := by
  obtain ⟨i0, hi0, hz0, hz1, hz2⟩ := info_parts infoI
  have Hr := Lib.hid (hr.up hB)
  have Hr' := Lib.hid (hr'.up hB')
  have Hn := Lib.hid hn
  have Hn' := Lib.hid hn'
  have Hab := Lib.hid hab
  have Hle : Hid (n' ≤ n) := Lib.hid (by
    rcases Nat.lt_or_ge n n' with h | h
    · have := lt_of_len (a := a) (b := b) (by omega); omega
    · exact h)
  have Hown0 : Hid (OwnL (w.alloc (.cells #[] 2)) w.heap.size (.slice (some ⟨w.heap.size, 0, none⟩) 0 0) []) := Lib.hid (own_empty w _)
  clear hr hr' hn hn' hB hB' hab
  go_enter Tryz.func89, Tryz.ntmps89
  go_wp2_with fail
  go_loopw [5, 6, 7, 8] (fun l cv i _ wr => ∃ (k bb : Nat) (ys : List Nat), k ≤ n ∧ i = .int .i64 k ∧ cv = .int .i64 bb ∧ bb ≤ 1 ∧ ys.length = k ∧ Lim ys ∧ (V ys : Int) + (Bs : Int) ^ k * (-(bb : Int)) = V ((limbs a).take k) - V ((limbs b).take k) ∧ OwnL wr w.heap.size l ys ∧ Below w.heap.size w wr) (fun _ _ i _ _ => n - (intOf i).toNat)
  case atStart => exact ⟨0, 0, [], by omega, rfl, rfl, by omega, rfl, Lim_nil, by simp [V], Hown0.out, belAlloc1 _ _⟩
  case round =>
    obtain ⟨k, bb, ys, hk, rfl, rfl, hbb, hyl, hl, hv, hown, hb⟩ := hrel
    have Hyl := Lib.hid hyl
    have Hl := Lib.hid hl
    have Hv := Lib.hid hv
    have hb0 : (0 : Int) ≤ bb := by omega
    have hb1 : (bb : Int) ≤ 1 := by omega
    have Hb := Lib.hid hb
    have Hown := Lib.hid hown
    obtain ⟨Ao, co, hA, hyc⟩ := hown.form
    subst hA
    have hyl2 : (ys.length : Int) ≤ 200001 := by omega
    have Hbb := Lib.hid hbb
    clear hyl hl hv hb hown hyc hbb
    by_cases hlx : k < n
    · have hlx2 : (k : Int) < n := by omega
      have hkx : k < (limbs a).length := by rw [Hn.out]; exact hlx
      have hrx := Hr.out.below Hb.out
      obtain ⟨px, hpx, _⟩ := hrx.some_ (by rw [vs_len]; omega)
      subst hpx
      have hcx := hrx.cell (k := k) (by rw [vs_len]; exact hkx)
      rw [vs_get hkx] at hcx
      have Hvx := Lib.hid (V_take_succ hkx)
      have Hbx := Lib.hid ((Lim_limbs a).getElem hkx)
      have h0x : (0 : Int) ≤ ((limbs a)[k] : Nat) := by omega
      have h1x : (((limbs a)[k] : Nat) : Int) ≤ 16777215 := by have := Hbx.out; rw [Bs_eq] at this; omega
      clear hrx
      generalize (limbs a)[k] = x at *
      by_cases hly : k < n'
      · have hly2 : (k : Int) < n' := by omega
        have hky : k < (limbs b).length := by rw [Hn'.out]; exact hly
        have hry := Hr'.out.below Hb.out
        obtain ⟨py, hpy, _⟩ := hry.some_ (by rw [vs_len]; omega)
        subst hpy
        have hcy := hry.cell (k := k) (by rw [vs_len]; exact hky)
        rw [vs_get hky] at hcy
        have Hvy := Lib.hid (V_take_succ hky)
        have Hby := Lib.hid ((Lim_limbs b).getElem hky)
        have h0y : (0 : Int) ≤ ((limbs b)[k] : Nat) := by omega
        have h1y : (((limbs b)[k] : Nat) : Int) ≤ 16777215 := by have := Hby.out; rw [Bs_eq] at this; omega
        clear hry
        generalize (limbs b)[k] = y at *
        by_cases hneg : (x : Int) - bb - y < 0
        · skip
          have Hs := Lib.hid (minus_step (t := ((x : Int) - y)) Hyl.out Hl.out Hv.out)
          have hd1 : (x : Int) - bb - y + 16777216 = ((((-(bb : Int) + ((x : Int) - y)) % Bs).toNat : Nat) : Int) := by rw [Bs_eq]; omega
          have he1 : (-(bb : Int) + ((x : Int) - y)) / Bs = -((1 : Nat) : Int) := by rw [Bs_eq]; omega
          have hs1 : -16777216 ≤ (x : Int) - bb - y := by omega
          rw [he1] at Hs
          obtain ⟨d, hd⟩ : ∃ d, d = ((-(bb : Int) + ((x : Int) - y)) % Bs).toNat := ⟨_, rfl⟩
          rw [← hd] at hd1 Hs
          clear hd he1
          go_wp2_with (at_builtin; refine wpList_append_own _ rfl (.tmp 36) (.tmp 38) _ rfl w.heap.size 2 i0 _ 1 8 Tryz.underlying44 hi0 hz0 hz1 hz2 rfl (by omega) (.slice Ao ys.length co) ys.length (vs ys) rfl (World.ownsRow.alloc Hown.out _) ⟨wr.heap.size, 0, none⟩ 1 1 (vs [d]) rfl (by rw [vs_len]; rfl) (new_cells wr d _) (vs_one · [d]) (by unfold maxLen; omega) (by omega) (by have := Hb.out.size; simp; omega) ?_; intro v2 w2 hown2 hg2 _)
          have Hown2 := Lib.hid (OwnL.snoc hown2)
          have Hb2 : Hid (Below w.heap.size w w2) := Lib.hid ((Hb.out.alloc Hb.out.size _).grown hg2 (by have := Hb.out.size; simp; omega) (fun k hk => (Hown.out.lt k hk).1))
          clear hown2 hg2
          go_roundw
          case rel => exact ⟨k + 1, 1, ys ++ [d], by omega, by go_num, rfl, by omega, by rw [List.length_append, Hyl.out]; rfl, Hs.out.1, by rw [Hs.out.2, Hvx.out, Hvy.out]; rw [Int.mul_sub]; simp only [Int.natCast_add, Int.natCast_mul, Int.natCast_pow]; omega, Hown2.out, Hb2.out⟩
          case measure => simp [intOf]; omega
        · have hneg2 : 0 ≤ (x : Int) - bb - y := by omega
          clear hneg
          have Hs := Lib.hid (minus_step (t := ((x : Int) - y)) Hyl.out Hl.out Hv.out)
          have hd1 : (x : Int) - bb - y = ((((-(bb : Int) + ((x : Int) - y)) % Bs).toNat : Nat) : Int) := by rw [Bs_eq]; omega
          have he1 : (-(bb : Int) + ((x : Int) - y)) / Bs = -((0 : Nat) : Int) := by rw [Bs_eq]; omega
          have hs1 : (x : Int) - bb - y ≤ 16777215 := by omega
          rw [he1] at Hs
          obtain ⟨d, hd⟩ : ∃ d, d = ((-(bb : Int) + ((x : Int) - y)) % Bs).toNat := ⟨_, rfl⟩
          rw [← hd] at hd1 Hs
          have hd2 : ¬ (d : Int) < 0 := by omega
          clear hd he1
          go_wp2_with (at_builtin; refine wpList_append_own _ rfl (.tmp 36) (.tmp 38) _ rfl w.heap.size 2 i0 _ 1 8 Tryz.underlying44 hi0 hz0 hz1 hz2 rfl (by omega) (.slice Ao ys.length co) ys.length (vs ys) rfl (World.ownsRow.alloc Hown.out _) ⟨wr.heap.size, 0, none⟩ 1 1 (vs [d]) rfl (by rw [vs_len]; rfl) (new_cells wr d _) (vs_one · [d]) (by unfold maxLen; omega) (by omega) (by have := Hb.out.size; simp; omega) ?_; intro v2 w2 hown2 hg2 _)
          have Hown2 := Lib.hid (OwnL.snoc hown2)
          have Hb2 : Hid (Below w.heap.size w w2) := Lib.hid ((Hb.out.alloc Hb.out.size _).grown hg2 (by have := Hb.out.size; simp; omega) (fun k hk => (Hown.out.lt k hk).1))
          clear hown2 hg2
          go_roundw
          case rel => exact ⟨k + 1, 0, ys ++ [d], by omega, by go_num, rfl, by omega, by rw [List.length_append, Hyl.out]; rfl, Hs.out.1, by rw [Hs.out.2, Hvx.out, Hvy.out]; rw [Int.mul_sub]; simp only [Int.natCast_add, Int.natCast_mul, Int.natCast_pow]; omega, Hown2.out, Hb2.out⟩
          case measure => simp [intOf]; omega
      · skip
        have hly' : ¬ (k : Int) < n' := by omega
        have Hvy : Hid (V ((limbs b).take (k + 1)) = V ((limbs b).take k)) := Lib.hid (by rw [take_all (by have := Hn'.out; omega), take_all (by have := Hn'.out; omega)])
        by_cases hneg : (x : Int) - bb < 0
        · skip
          have Hs := Lib.hid (minus_step (t := (x : Int)) Hyl.out Hl.out Hv.out)
          have hd1 : (x : Int) - bb + 16777216 = ((((-(bb : Int) + (x : Int)) % Bs).toNat : Nat) : Int) := by rw [Bs_eq]; omega
          have he1 : (-(bb : Int) + (x : Int)) / Bs = -((1 : Nat) : Int) := by rw [Bs_eq]; omega
          have hs1 : -16777216 ≤ (x : Int) - bb := by omega
          rw [he1] at Hs
          obtain ⟨d, hd⟩ : ∃ d, d = ((-(bb : Int) + (x : Int)) % Bs).toNat := ⟨_, rfl⟩
          rw [← hd] at hd1 Hs
          clear hd he1
          go_wp2_with (at_builtin; refine wpList_append_own _ rfl (.tmp 36) (.tmp 38) _ rfl w.heap.size 2 i0 _ 1 8 Tryz.underlying44 hi0 hz0 hz1 hz2 rfl (by omega) (.slice Ao ys.length co) ys.length (vs ys) rfl (World.ownsRow.alloc Hown.out _) ⟨wr.heap.size, 0, none⟩ 1 1 (vs [d]) rfl (by rw [vs_len]; rfl) (new_cells wr d _) (vs_one · [d]) (by unfold maxLen; omega) (by omega) (by have := Hb.out.size; simp; omega) ?_; intro v2 w2 hown2 hg2 _)
          have Hown2 := Lib.hid (OwnL.snoc hown2)
          have Hb2 : Hid (Below w.heap.size w w2) := Lib.hid ((Hb.out.alloc Hb.out.size _).grown hg2 (by have := Hb.out.size; simp; omega) (fun k hk => (Hown.out.lt k hk).1))
          clear hown2 hg2
          go_roundw
          case rel => exact ⟨k + 1, 1, ys ++ [d], by omega, by go_num, rfl, by omega, by rw [List.length_append, Hyl.out]; rfl, Hs.out.1, by rw [Hs.out.2, Hvx.out, Hvy.out]; simp only [Int.natCast_add, Int.natCast_mul, Int.natCast_pow]; omega, Hown2.out, Hb2.out⟩
          case measure => simp [intOf]; omega
        · have hneg2 : 0 ≤ (x : Int) - bb := by omega
          clear hneg
          have Hs := Lib.hid (minus_step (t := (x : Int)) Hyl.out Hl.out Hv.out)
          have hd1 : (x : Int) - bb = ((((-(bb : Int) + (x : Int)) % Bs).toNat : Nat) : Int) := by rw [Bs_eq]; omega
          have he1 : (-(bb : Int) + (x : Int)) / Bs = -((0 : Nat) : Int) := by rw [Bs_eq]; omega
          have hs1 : (x : Int) - bb ≤ 16777215 := by omega
          rw [he1] at Hs
          obtain ⟨d, hd⟩ : ∃ d, d = ((-(bb : Int) + (x : Int)) % Bs).toNat := ⟨_, rfl⟩
          rw [← hd] at hd1 Hs
          have hd2 : ¬ (d : Int) < 0 := by omega
          clear hd he1
          go_wp2_with (at_builtin; refine wpList_append_own _ rfl (.tmp 36) (.tmp 38) _ rfl w.heap.size 2 i0 _ 1 8 Tryz.underlying44 hi0 hz0 hz1 hz2 rfl (by omega) (.slice Ao ys.length co) ys.length (vs ys) rfl (World.ownsRow.alloc Hown.out _) ⟨wr.heap.size, 0, none⟩ 1 1 (vs [d]) rfl (by rw [vs_len]; rfl) (new_cells wr d _) (vs_one · [d]) (by unfold maxLen; omega) (by omega) (by have := Hb.out.size; simp; omega) ?_; intro v2 w2 hown2 hg2 _)
          have Hown2 := Lib.hid (OwnL.snoc hown2)
          have Hb2 : Hid (Below w.heap.size w w2) := Lib.hid ((Hb.out.alloc Hb.out.size _).grown hg2 (by have := Hb.out.size; simp; omega) (fun k hk => (Hown.out.lt k hk).1))
          clear hown2 hg2
          go_roundw
          case rel => exact ⟨k + 1, 0, ys ++ [d], by omega, by go_num, rfl, by omega, by rw [List.length_append, Hyl.out]; rfl, Hs.out.1, by rw [Hs.out.2, Hvx.out, Hvy.out]; simp only [Int.natCast_add, Int.natCast_mul, Int.natCast_pow]; omega, Hown2.out, Hb2.out⟩
          case measure => simp [intOf]; omega
    · have Hfin : Hid (V ys = a - b ∧ ys.length = n) := Lib.hid (by
        have hkn : k = n := by omega
        have h := Hv.out
        rw [take_all (by have := Hn.out; omega), take_all (by have := Hn'.out; have := Hle.out; omega), V_limbs, V_limbs] at h
        have h2 := V_lt Hl.out
        rw [Hyl.out] at h2
        have h3 := carry_none h h2 (by have := Hab.out; omega) (by omega)
        exact ⟨by have := Hab.out; omega, by rw [Hyl.out, hkn]⟩)
      have hnl : ¬ (k : Int) < n := by omega
      go_wp2_with fail
      go_ret
      exact ⟨.slice Ao ys.length co, rfl, ys, Hown.out, Hl.out, Hfin.out.1, Hfin.out.2, Hb.out⟩
end Go.Proofs.YtngminjncdfjdaaGreatDoor
/- Comparing whole numbers, of the program and of the model. -/
namespace Go.Proofs.YtngminjncdfjdaaGreatDoor
set_option maxRecDepth 100000
open Go.RowKit
set_option linter.unusedSimpArgs false
set_option linter.unusedVariables false

/-- -1, 0 or 1 -/
def cmpI (a b : Int) : Int := if a < b then -1 else if a = b then 0 else 1
theorem cmpI_lt {a b : Int} (h : a < b) : cmpI a b = -1 := if_pos h
theorem cmpI_eq (a : Int) : cmpI a a = 0 := by unfold cmpI; simp
theorem cmpI_gt {a b : Int} (h : b < a) : cmpI a b = 1 := by unfold cmpI; rw [if_neg (by omega), if_neg (by omega)]
theorem isNaN_any (x : Int) (w : World) : Calls Tryz.prog 140 #[.int .i64 x] w fun e w' => e = .returned (.bool false) ∧ w = w' := by
  go_enter Tryz.func140, Tryz.ntmps140
  go_wp2_with fail
  go_ret
  exact ⟨ret_bool (by simp), rfl⟩
theorem cmpInt_any (x y : Int) (w : World) : Calls Tryz.prog 136 #[.int .i64 x, .int .i64 y] w fun e w' => e = .returned (.int .i64 (cmpI x y)) ∧ w = w' := by
  rcases Int.lt_trichotomy x y with h | h | h
  · have H := Lib.hid (cmpI_lt h)
    go_enter Tryz.func136, Tryz.ntmps136
    go_wp2_with (first | (go_at_call 140; refine (isNaN_any _ _).mono ?_; rintro e w' ⟨rfl, rfl⟩))
    go_ret
    exact ⟨ret_int H.out.symm, rfl⟩
  · subst h
    have H := Lib.hid (cmpI_eq x)
    go_enter Tryz.func136, Tryz.ntmps136
    go_wp2_with (first | (go_at_call 140; refine (isNaN_any _ _).mono ?_; rintro e w' ⟨rfl, rfl⟩))
    go_ret
    exact ⟨ret_int H.out.symm, rfl⟩
  · have H := Lib.hid (cmpI_gt h)
    have h2 : ¬ x < y := by omega
    go_enter Tryz.func136, Tryz.ntmps136
    go_wp2_with (first | (go_at_call 140; refine (isNaN_any _ _).mono ?_; rintro e w' ⟨rfl, rfl⟩))
    go_ret
    exact ⟨ret_int H.out.symm, rfl⟩

theorem drop_same {xs ys : List Nat} {k : Nat} (hk : k < xs.length) (hk' : k < ys.length) (h : xs.drop (k + 1) = ys.drop (k + 1)) (he : xs[k] = ys[k]) : xs.drop k = ys.drop k := by
  rw [List.drop_eq_getElem_cons hk, List.drop_eq_getElem_cons hk', h, he]

theorem cmp_limbs_lt {a b k : Nat} (hl : (limbs a).length = (limbs b).length) (hk : k < (limbs a).length) (hk' : k < (limbs b).length) (hs : (limbs a).drop (k + 1) = (limbs b).drop (k + 1)) (hlt : (limbs a)[k] < (limbs b)[k]) : cmpI a b = -1 := by
  have := cmp_at (Lim_limbs a) hl hk hk' hs hlt
  rw [V_limbs, V_limbs] at this
  exact cmpI_lt (by omega)
theorem cmp_limbs_gt {a b k : Nat} (hl : (limbs a).length = (limbs b).length) (hk : k < (limbs a).length) (hk' : k < (limbs b).length) (hs : (limbs a).drop (k + 1) = (limbs b).drop (k + 1)) (hlt : (limbs b)[k] < (limbs a)[k]) : cmpI a b = 1 := by
  have := cmp_at (Lim_limbs b) hl.symm hk' hk hs.symm hlt
  rw [V_limbs, V_limbs] at this
  exact cmpI_gt (by omega)

set_option maxHeartbeats 1000000 in
theorem natCmp_any (a b : Nat) (A A' : Option Addr) (n n' c c' B B' : Nat) (w : World) (hr : Rd w B A (vs (limbs a))) (hr' : Rd w B' A' (vs (limbs b))) (hn : (limbs a).length = n) (hn' : (limbs b).length = n') (hm : (n : Int) ≤ 100000) (hm' : (n' : Int) ≤ 100000) :
    Calls Tryz.prog 121 #[.slice A n c, .slice A' n' c'] w fun e w' => e = .returned (.int .i64 (cmpI a b)) ∧ ∃ q, w' = w.drewN q := by
  by_cases hl : n = n'
  · subst hl
    have Hn := Lib.hid hn
    have Hn' := Lib.hid hn'
    have Hl : Hid ((limbs a).length = (limbs b).length) := Lib.hid (by rw [hn, hn'])
    clear hn hn' hm'
    have hnn : (n : Int) = n := rfl
    clear hnn
    go_enter Tryz.func121, Tryz.ntmps121
    go_wp2_with fail
    go_step3
    go_wp2_with fail
    go_step3
    go_wp2_with fail
    go_loopw [5] (fun i wr => ∃ k : Nat, k ≤ n ∧ i = .int .i64 ((k : Int) - 1) ∧ ((limbs a).drop k = (limbs b).drop k) ∧ ∃ q, wr = w.drewN q) (fun i _ => ((intOf i) + 1).toNat)
    case atStart => exact ⟨n, Nat.le_refl _, rfl, by rw [List.drop_of_length_le (by have := Hn.out; omega), List.drop_of_length_le (by have := Hn'.out; omega)], 0, rfl⟩
    case round =>
      obtain ⟨k, hk, rfl, hs, q, hq⟩ := hrel
      have hr := hr.drewN q
      have hr' := hr'.drewN q
      rw [← hq] at hr hr'
      have Hq := Lib.hid hq
      have Hs := Lib.hid hs
      clear hq hs
      by_cases h0 : k = 0
      · subst h0
        have Hab : Hid (cmpI a b = 0) := Lib.hid (by
          have h := Hs.out
          simp only [List.drop_zero] at h
          rw [limbs_inj h, cmpI_eq])
        clear hr hr'
        go_wp2_with fail
        (try rw [Exit.noGoto_ret])
        go_ret
        exact ⟨ret_int Hab.out.symm, q, Hq.out⟩
      · obtain ⟨j, rfl⟩ : ∃ j, k = j + 1 := ⟨k - 1, by omega⟩
        have hkx : j < (limbs a).length := by rw [Hn.out]; omega
        have hky : j < (limbs b).length := by rw [Hn'.out]; omega
        obtain ⟨p, hp, _⟩ := hr.some_ (by rw [vs_len]; omega)
        obtain ⟨p', hp', _⟩ := hr'.some_ (by rw [vs_len]; omega)
        subst hp hp'
        have hc1 := hr.cell (k := j) (by rw [vs_len]; exact hkx)
        have hc2 := hr'.cell (k := j) (by rw [vs_len]; exact hky)
        rw [vs_get hkx] at hc1
        rw [vs_get hky] at hc2
        have hj : ((j + 1 : Nat) : Int) - 1 = j := by omega
        rw [hj]
        have hjn : (j : Int) < n := by omega
        have Hj : Hid (((j + 1 : Nat) : Int) - 1 = j) := Lib.hid hj
        clear hr hr' hj h0
        rcases Nat.lt_trichotomy (limbs a)[j] (limbs b)[j] with hlt | heq | hgt
        · have H := Lib.hid (cmp_limbs_lt Hl.out hkx hky Hs.out hlt)
          generalize (limbs a)[j] = x at *
          generalize (limbs b)[j] = y at *
          have e1 : ((x : Int) == y) = false := beq_false_of_ne (by omega)
          have e2 : (x : Int) < y := by omega
          clear hlt
          go_wp2_with fail
          go_quiet (fail)
          go_wp2_with fail
          go_quiet (fail)
          go_wp2_with fail
          (try rw [Exit.noGoto_ret])
          go_ret
          exact ⟨ret_int H.out.symm, _, by rw [Hq.out, World.drewN_drewN, World.drewN_drewN]⟩
        · have H := Lib.hid (drop_same hkx hky Hs.out heq)
          rw [heq] at hc1
          generalize (limbs b)[j] = y at *
          clear heq
          go_wp2_with fail
          go_quiet (fail)
          go_wp2_with fail
          go_roundw
          case rel => exact ⟨j, by omega, rfl, H.out, _, by rw [Hq.out, World.drewN_drewN]⟩
          case measure => simp [intOf]
        · have H := Lib.hid (cmp_limbs_gt Hl.out hkx hky Hs.out hgt)
          generalize (limbs a)[j] = x at *
          generalize (limbs b)[j] = y at *
          have e1 : ((x : Int) == y) = false := beq_false_of_ne (by omega)
          have e2 : (y : Int) < x := by omega
          have e3 : ¬ (x : Int) < y := by omega
          clear hgt
          go_wp2_with fail
          go_quiet (fail)
          go_wp2_with fail
          go_quiet (fail)
          go_wp2_with fail
          (try rw [Exit.noGoto_ret])
          go_ret
          exact ⟨ret_int H.out.symm, _, by rw [Hq.out, World.drewN_drewN, World.drewN_drewN]⟩
  · have H : Hid (cmpI n n' = cmpI a b) := Lib.hid (by
      rcases Nat.lt_or_ge n n' with h | h
      · have := lt_of_len (a := a) (b := b) (by omega)
        rw [cmpI_lt (by omega), cmpI_lt (by omega)]
      · have := lt_of_len (a := b) (b := a) (by omega)
        rw [cmpI_gt (by omega), cmpI_gt (by omega)])
    have hne : ((n : Int) == n') = false := by simp; omega
    clear hr hr' hn hn'
    go_enter Tryz.func121, Tryz.ntmps121
    go_wp2_with fail
    go_step3
    go_wp2_with fail
    refine (cmpInt_any _ _ _).mono ?_
    rintro e w' ⟨rfl, rfl⟩
    go_wp2_with fail
    (try rw [Exit.noGoto_ret])
    go_ret
    exact ⟨ret_int H.out, 0, rfl⟩

set_option maxHeartbeats 1000000 in
theorem specCmpL_any (a b : Nat) (A A' : Option Addr) (n n' c c' B B' : Nat) (w : World) (hr : Rd w B A (vs (limbs a))) (hr' : Rd w B' A' (vs (limbs b))) (hn : (limbs a).length = n) (hn' : (limbs b).length = n') (hm : (n : Int) ≤ 100000) (hm' : (n' : Int) ≤ 100000) :
    Calls Tryz.prog 88 #[.slice A n c, .slice A' n' c'] w fun e w' => e = .returned (.int .i64 (cmpI a b)) ∧ ∃ q, w' = w.drewN q := by
  rcases Nat.lt_trichotomy n n' with hl | hl | hl
  · have H : Hid (cmpI a b = -1) := Lib.hid (cmpI_lt (by have := lt_of_len (a := a) (b := b) (by omega); omega))
    have hne : ((n : Int) == n') = false := beq_false_of_ne (by omega)
    clear hr hr' hn hn'
    go_enter Tryz.func88, Tryz.ntmps88
    go_wp2_with fail
    go_ret
    exact ⟨ret_int H.out.symm, 0, rfl⟩
  · subst hl
    have Hn := Lib.hid hn
    have Hn' := Lib.hid hn'
    have Hl : Hid ((limbs a).length = (limbs b).length) := Lib.hid (by rw [hn, hn'])
    clear hn hn' hm'
    go_enter Tryz.func88, Tryz.ntmps88
    go_wp2_with fail
    go_loopw [5] (fun i wr => ∃ k : Nat, k ≤ n ∧ i = .int .i64 ((k : Int) - 1) ∧ ((limbs a).drop k = (limbs b).drop k) ∧ ∃ q, wr = w.drewN q) (fun i _ => ((intOf i) + 1).toNat)
    case atStart => exact ⟨n, Nat.le_refl _, rfl, by rw [List.drop_of_length_le (by have := Hn.out; omega), List.drop_of_length_le (by have := Hn'.out; omega)], 0, rfl⟩
    case round =>
      obtain ⟨k, hk, rfl, hs, q, hq⟩ := hrel
      have hr := hr.drewN q
      have hr' := hr'.drewN q
      rw [← hq] at hr hr'
      have Hq := Lib.hid hq
      have Hs := Lib.hid hs
      clear hq hs
      by_cases h0 : k = 0
      · subst h0
        have Hab : Hid (cmpI a b = 0) := Lib.hid (by
          have h := Hs.out
          simp only [List.drop_zero] at h
          rw [limbs_inj h, cmpI_eq])
        clear hr hr'
        go_wp2_with fail
        go_ret
        exact ⟨ret_int Hab.out.symm, q, Hq.out⟩
      · obtain ⟨j, rfl⟩ : ∃ j, k = j + 1 := ⟨k - 1, by omega⟩
        have hkx : j < (limbs a).length := by rw [Hn.out]; omega
        have hky : j < (limbs b).length := by rw [Hn'.out]; omega
        obtain ⟨p, hp, _⟩ := hr.some_ (by rw [vs_len]; omega)
        obtain ⟨p', hp', _⟩ := hr'.some_ (by rw [vs_len]; omega)
        subst hp hp'
        have hc1 := hr.cell (k := j) (by rw [vs_len]; exact hkx)
        have hc2 := hr'.cell (k := j) (by rw [vs_len]; exact hky)
        rw [vs_get hkx] at hc1
        rw [vs_get hky] at hc2
        have hj : ((j + 1 : Nat) : Int) - 1 = j := by omega
        rw [hj]
        have hjn : (j : Int) < n := by omega
        have Hj : Hid (((j + 1 : Nat) : Int) - 1 = j) := Lib.hid hj
        clear hr hr' hj h0
        rcases Nat.lt_trichotomy (limbs a)[j] (limbs b)[j] with hlt | heq | hgt
        · have H := Lib.hid (cmp_limbs_lt Hl.out hkx hky Hs.out hlt)
          generalize (limbs a)[j] = x at *
          generalize (limbs b)[j] = y at *
          have e1 : ((x : Int) == y) = false := beq_false_of_ne (by omega)
          have e2 : (x : Int) < y := by omega
          clear hlt
          go_wp2_with fail
          go_quiet (fail)
          go_wp2_with fail
          go_quiet (fail)
          go_wp2_with fail
          go_ret
          exact ⟨ret_int H.out.symm, _, by rw [Hq.out, World.drewN_drewN, World.drewN_drewN]⟩
        · have H := Lib.hid (drop_same hkx hky Hs.out heq)
          rw [heq] at hc1
          generalize (limbs b)[j] = y at *
          clear heq
          go_wp2_with fail
          go_quiet (fail)
          go_wp2_with fail
          go_roundw
          case rel => exact ⟨j, by omega, rfl, H.out, _, by rw [Hq.out, World.drewN_drewN]⟩
          case measure => simp [intOf]
        · have H := Lib.hid (cmp_limbs_gt Hl.out hkx hky Hs.out hgt)
          generalize (limbs a)[j] = x at *
          generalize (limbs b)[j] = y at *
          have e1 : ((x : Int) == y) = false := beq_false_of_ne (by omega)
          have e2 : (y : Int) < x := by omega
          have e3 : ¬ (x : Int) < y := by omega
          clear hgt
          go_wp2_with fail
          go_quiet (fail)
          go_wp2_with fail
          go_quiet (fail)
          go_wp2_with fail
          go_ret
          exact ⟨ret_int H.out.symm, _, by rw [Hq.out, World.drewN_drewN, World.drewN_drewN]⟩
  · have H : Hid (cmpI a b = 1) := Lib.hid (cmpI_gt (by have := lt_of_len (a := b) (b := a) (by omega); omega))
    have hne : ((n : Int) == n') = false := beq_false_of_ne (by omega)
    have hnl : ¬ (n : Int) < n' := by omega
    clear hr hr' hn hn'
    go_enter Tryz.func88, Tryz.ntmps88
    go_wp2_with fail
    go_ret
    exact ⟨ret_int H.out.symm, 0, rfl⟩

/-- signs and absolute values -/
def Sg (s : Int) (v : Nat) : Prop := -1 ≤ s ∧ s ≤ 1 ∧ (s = 0 ↔ v = 0)
/-! the functions of the chapter -/
/-- both are whole numbers -/
noncomputable def both (s0 : Int) (xs0 : List Int) (s1 : Int) (xs1 : List Int) : Bool := isW s0 xs0 && isW s1 xs1
noncomputable def errB (s0 : Int) (xs0 : List Int) (s1 : Int) (xs1 : List Int) : Int := if both s0 xs0 s1 xs1 = true then 0 else 1
noncomputable def cmpR (s0 : Int) (xs0 : List Int) (s1 : Int) (xs1 : List Int) : Int := if both s0 xs0 s1 xs1 = true then cmpI (s0 * magW s0 xs0) (s1 * magW s1 xs1) else 0
end Go.Proofs.YtngminjncdfjdaaGreatDoor
/- The sum of two whole numbers, of the program. -/
namespace Go.Proofs.YtngminjncdfjdaaGreatDoor
set_option maxRecDepth 100000
open Go.RowKit
set_option linter.unusedSimpArgs false
set_option linter.unusedVariables false

theorem three_boxes (w : World) (s s' : Int) (A A' : Option Addr) (n n' c c' : Nat) (t t' t2 : TypeId) :
    ∃ W, W = ((w.alloc (.cells #[.int .i64 s, .slice A n c] t)).alloc (.cells #[.int .i64 s', .slice A' n' c'] t')).alloc (.cells #[.int .i64 0, .slice none 0 0] t2) ∧
      Box W w.heap.size s A n c ∧ Box W (w.heap.size + 1) s' A' n' c' ∧ ResB W (w.heap.size + 1 + 1) ∧ Below w.heap.size w W := by
  obtain ⟨h1, h2, h3⟩ := two_boxes w s s' A A' n n' c c' t t'
  have h := belAlloc1 ((w.alloc (.cells #[.int .i64 s, .slice A n c] t)).alloc (.cells #[.int .i64 s', .slice A' n' c'] t')) (.cells #[.int .i64 0, .slice none 0 0] t2)
  have hr := resBox_new ((w.alloc (.cells #[.int .i64 s, .slice A n c] t)).alloc (.cells #[.int .i64 s', .slice A' n' c'] t')) t2
  have e : ((w.alloc (.cells #[.int .i64 s, .slice A n c] t)).alloc (.cells #[.int .i64 s', .slice A' n' c'] t')).heap.size = w.heap.size + 1 + 1 := by simp
  rw [e] at hr
  exact ⟨_, rfl, h1.next h, h2.next h, hr, h3.trans (h.mono (by simp; omega))⟩

theorem limbs_len_add {a b n n' : Nat} (hn : (limbs a).length = n) (hn' : (limbs b).length = n') (hle : n' ≤ n) : (limbs (a + b)).length ≤ n + 1 := by
  refine limbs_len_le.2 ?_
  have h1 := (limbs_len_le (v := a) (n := n)).1 (by omega)
  have h2 := (limbs_len_le (v := b) (n := n)).1 (by omega)
  rw [Nat.pow_succ, Bs_eq] at *
  omega
theorem limbs_len_sum (a b : Nat) {n n' : Nat} (hn : (limbs a).length = n) (hn' : (limbs b).length = n') : (limbs (a + b)).length ≤ n + n' + 1 := by
  rcases Nat.le_total n' n with h | h
  · have := limbs_len_add hn hn' h; omega
  · have := limbs_len_add hn' hn h; rw [Nat.add_comm] at this; omega
theorem limbs_len_mono {a b : Nat} (h : a ≤ b) : (limbs a).length ≤ (limbs b).length := limbs_len_le.2 (Nat.lt_of_le_of_lt h (limbs_len_le.1 (Nat.le_refl _)))
theorem Sg.one {s : Int} {v : Nat} (h : Sg s v) : s = 1 ∨ s = -1 ∨ v = 0 := by
  obtain ⟨h1, h2, h3⟩ := h
  by_cases h0 : v = 0
  · exact .inr (.inr h0)
  · omega

theorem sum_one {s : Int} {a b : Nat} (h : Sg s a) (h' : Sg s b) : s = 1 ∨ s = -1 ∨ a + b = 0 := by
  obtain ⟨h1, h2, h3⟩ := h
  obtain ⟨g1, g2, g3⟩ := h'
  omega
theorem diff_one {s : Int} {a b : Nat} (h : Sg s b) (hlt : a < b) : s = 1 ∨ s = -1 ∨ b - a = 0 := by
  obtain ⟨h1, h2, h3⟩ := h
  omega
theorem sum_same {s : Int} {a b : Nat} : s * ((a + b : Nat) : Int) = s * a + s * b := by rw [Int.natCast_add, Int.mul_add]
theorem sum_second {s s' : Int} {a b : Nat} (h : Sg s a) (h' : Sg s' b) (hne : s ≠ s') (hlt : a < b) : s' * ((b - a : Nat) : Int) = s * a + s' * b := by
  obtain ⟨h1, h2, h3⟩ := h
  obtain ⟨g1, g2, g3⟩ := h'
  have e1 : s = -1 ∨ s = 0 ∨ s = 1 := by omega
  have e2 : s' = -1 ∨ s' = 0 ∨ s' = 1 := by omega
  rcases e1 with rfl | rfl | rfl <;> rcases e2 with rfl | rfl | rfl <;> simp at h3 g3 hne ⊢ <;> omega
theorem sum_first {s s' : Int} {a b : Nat} (h : Sg s a) (h' : Sg s' b) (hne : s ≠ s') (hlt : b < a) : s * ((a - b : Nat) : Int) = s * a + s' * b := by
  rw [sum_second h' h (Ne.symm hne) hlt, Int.add_comm]
theorem zero_sum {s s' : Int} {a b : Nat} (h : Sg s a) (h' : Sg s' b) (hne : s ≠ s') (heq : a = b) : s * a + s' * b = 0 := by
  obtain ⟨h1, h2, h3⟩ := h
  obtain ⟨g1, g2, g3⟩ := h'
  subst heq
  have e1 : s = -1 ∨ s = 0 ∨ s = 1 := by omega
  have e2 : s' = -1 ∨ s' = 0 ∨ s' = 1 := by omega
  rcases e1 with rfl | rfl | rfl <;> rcases e2 with rfl | rfl | rfl <;> simp at h3 g3 hne ⊢ <;> omega

set_option maxHeartbeats 4000000 in
theorem implPlus_any (s s' : Int) (a b : Nat) (A A' : Option Addr) (n n' c c' : Nat) (w : World) (hs : Sg s a) (hs' : Sg s' b) (hr : Rd w w.heap.size A (vs (limbs a))) (hr' : Rd w w.heap.size A' (vs (limbs b))) (hn : (limbs a).length = n) (hn' : (limbs b).length = n') (hm : (n : Int) ≤ 90000) (hm' : (n' : Int) ≤ 90000) :
    Calls Tryz.prog 99 #[.agg #[.int .i64 s, .slice A n c], .agg #[.int .i64 s', .slice A' n' c']] w fun e w' => ∃ val, e = .returned val ∧ Wz w' w.heap.size w'.heap.size (s * a + s' * b) val ∧ Below w.heap.size w w' := by
  have hst := store_int Tryz.prog
  have hst2 := store_slice Tryz.prog
  obtain ⟨w1, hw1, hb1, hb2, hb3, hb4⟩ := three_boxes w s s' A A' n n' c c' 46 46 46
  have Ra1 : Hid (Rt w1 w.heap.size A (vs (limbs a))) := Lib.hid ⟨hr.below hb4, hb4.size⟩
  have Rb1 : Hid (Rt w1 w.heap.size A' (vs (limbs b))) := Lib.hid ⟨hr'.below hb4, hb4.size⟩
  have Hn := Lib.hid hn
  have Hn' := Lib.hid hn'
  have Hs := Lib.hid hs
  have Hs' := Lib.hid hs'
  have Hw := Lib.hid hw1
  have Bx1 := Lib.hid hb1
  have By1 := Lib.hid hb2
  have Rs1 := Lib.hid hb3
  have Bel1 := Lib.hid hb4
  have H100 : Hid ((n : Int) ≤ 100000 ∧ (n' : Int) ≤ 100000) := Lib.hid (by omega)
  clear hr hr' hn hn' hs hs' hw1 hb1 hb2 hb3 hb4
  by_cases he : s = s'
  · subst he
    go_enter Tryz.func99, Tryz.ntmps99
    go_wp2_with fail
    rw [← Hw.out]
    obtain ⟨⟨hx1, hx2⟩, hx3⟩ := Bx1.out
    obtain ⟨⟨hy1, hy2⟩, hy3⟩ := By1.out
    go_quiet (fail)
    have hq : Below w1.heap.size w1 (w1.drewN nq) := below_drewN (Below.refl _ _) nq
    obtain ⟨w2, hw2⟩ : ∃ w2, w2 = w1.drewN nq := ⟨_, rfl⟩
    rw [← hw2] at hq ⊢
    have Bel2 := Lib.hid (belNext Bel1.out hq)
    have Bx2 := Lib.hid (Bx1.out.next hq)
    have By2 := Lib.hid (By1.out.next hq)
    have Rs2 := Lib.hid (Rs1.out.next hq)
    have Ra2 := Lib.hid (Ra1.out.next hq)
    have Rb2 := Lib.hid (Rb1.out.next hq)
    clear Bel1 Bx1 By1 Rs1 Ra1 Rb1
    clear hw2 hq hx1 hx2 hx3 hy1 hy2 hy3
    obtain ⟨⟨hx1, hx2⟩, hx3⟩ := Bx2.out
    obtain ⟨⟨hy1, hy2⟩, hy3⟩ := By2.out
    go_wp2_with fail
    have H8 : Hid (((limbs (a + b)).length : Int) ≤ 1000000) := Lib.hid (by have := limbs_len_sum a b Hn.out Hn'.out; omega)
    refine wp_region_held_drew (S := fun w' => w'.cell? ⟨w.heap.size, 0, none⟩ = some (.int .i64 s)) (by kernel_rfl) Bx2.out.1.1 (fun hHeld => ?_)
    clear hx1 hx2 hx3 hy1 hy2 hy3
    refine wpAnyH_take (i := 0) (v := ?_) rfl (by kernel_rfl) (by kernel_rfl) (by kernel_rfl) (fun _ _ _ h => h) (Or.inl ⟨by rfl, ?_⟩) (by assumption) ?_
    rotate_left
    · (intro w hSw; (try dsimp only at hSw); go_simp; (try with_reducible rfl))
    try simp only [Act.put, List.setIfInBounds_toArray, List.set_cons_zero, List.set_cons_succ]
    refine wpAnyH_take (i := 1) (v := ?_) rfl (by kernel_rfl) (by kernel_rfl) (by kernel_rfl) (fun _ _ _ h => h) (Or.inl ⟨by rfl, ?_⟩) (by assumption) ?_
    rotate_left
    · (intro w hSw; (try dsimp only at hSw); go_simp; (try with_reducible rfl))
    try simp only [Act.put, List.setIfInBounds_toArray, List.set_cons_zero, List.set_cons_succ]
    refine wpAnyH_take (i := 2) (v := ?_) rfl (by kernel_rfl) (by kernel_rfl) (by kernel_rfl) (fun _ _ _ h => h) (Or.inl ⟨by rfl, ?_⟩) (by assumption) ?_
    rotate_left
    · (intro w hSw; (try dsimp only at hSw); go_simp; (try with_reducible rfl))
    try simp only [Act.put, List.setIfInBounds_toArray, List.set_cons_zero, List.set_cons_succ]
    refine wpAnyH_take (i := 3) (v := ?_) rfl (by kernel_rfl) (by kernel_rfl) (by kernel_rfl) (fun _ _ _ h => h) (Or.inl ⟨by rfl, ?_⟩) (by assumption) ?_
    rotate_left
    · (intro w hSw; (try dsimp only at hSw); go_simp; (try with_reducible rfl))
    try simp only [Act.put, List.setIfInBounds_toArray, List.set_cons_zero, List.set_cons_succ]
    refine wpAnyH_ready (rs := [4]) (by kernel_rfl) (by simp) ?_
    refine AllReadyH.cons rfl (fun K hK => ?_) AllReadyH.nil
    go_simp
    refine (natPlus_any a b A A' n n' c c' _ _ w2.drew Ra2.out.1 Rb2.out.1 Ra2.out.2 Rb2.out.2 Hn.out Hn'.out H100.out.1 H100.out.2).mono ?_
    rintro e w8 ⟨A8, rfl, ho8, hb0⟩
    have hb8 := belDrew hb0
    have Hb8 := Lib.hid hb8
    have O8 := Lib.hid ho8
    refine hK.out _ _ (Bx2.out.next hb8).1.1 (fun hHeld => ?_)
    have Bz8 := Lib.hid (Bx2.out.next hb8)
    have Rs8 := Lib.hid (Rs2.out.next hb8)
    have Bel8 := Lib.hid (belNext Bel2.out hb8)
    clear hK K ho8 hb0 hb8
    try simp only [Act.put, List.setIfInBounds_toArray, List.set_cons_zero, List.set_cons_succ]
    refine wpAnyH_ready (rs := [5]) (by kernel_rfl) (by simp) ?_
    refine AllReadyH.cons rfl (fun K hK => ?_) AllReadyH.nil
    go_simp
    refine (signed_any s (a + b : Nat) A8 _ _ _ _ _ O8.out rfl (by have := H8.out; omega) (Nat.le_refl _)).mono ?_
    rintro e w9 ⟨val, rfl, hv, hb9⟩
    have Hz : Hid (Wz w9 w2.heap.size w9.heap.size (s * a + s * b) val) := Lib.hid ((((hv.z (sum_one Hs.out Hs'.out)).wide (Nat.le_refl _) hb9.size)).cast_ sum_same)
    have Rs9 := Lib.hid (Rs8.out.next hb9)
    have Bel9 := Lib.hid (belNext Bel8.out hb9)
    refine hK.out _ _ (Bz8.out.next hb9).1.1 (fun hHeld => ?_)
    have Bz9 := Lib.hid (Bz8.out.next hb9)
    clear hK K hv hb9
    try simp only [Act.put, List.setIfInBounds_toArray, List.set_cons_zero, List.set_cons_succ]
    obtain ⟨A9, c9, hval, _⟩ := Hz.out
    subst hval
    obtain ⟨⟨r1, r2, r3, r4⟩, _⟩ := Rs9.out
    have Hlt := Lib.hid Rs2.out.2
    refine wpAnyH_ready (rs := [6]) (by kernel_rfl) (by simp) ?_
    refine AllReadyH.cons rfl (fun K hK => ?_) AllReadyH.nil
    go_simp
    refine hK.out _ _ (by have h := Bz9.out.1.1; rw [World.cell?_setCell_other _ _ _ _ (by simp), World.cell?_setCell_other _ _ _ _ (by simp)]; exact h) (fun hHeld => ?_)
    clear hK K hHeld
    try simp only [Act.put, List.setIfInBounds_toArray, List.set_cons_zero, List.set_cons_succ]
    refine wpAnyH_done (by kernel_rfl) ?_ _
    go_wp2_with fail
    refine bodyPost_ret (v := .agg #[.int .i64 (s * a + s * b).sign, .slice A9 (limbs (s * a + s * b).natAbs).length c9]) (by simp [results, Tryz.results99, go_sem, r1, r2]) rfl ⟨_, rfl, ?_, ?_⟩
    · exact ((Hz.out.setCell (by have := Hlt.out; simp; omega) _).setCell (by have := Hlt.out; simp; omega) _).wide (by have := Hlt.out; omega) (by simp)
    · exact (Bel9.out.setCell (by simp; omega) _).setCell (by simp; omega) _
  · have hne : (s == s') = false := beq_false_of_ne he
    go_enter Tryz.func99, Tryz.ntmps99
    go_wp2_with fail
    rw [← Hw.out]
    obtain ⟨⟨hx1, hx2⟩, hx3⟩ := Bx1.out
    obtain ⟨⟨hy1, hy2⟩, hy3⟩ := By1.out
    go_quiet (fail)
    have hq : Below w1.heap.size w1 (w1.drewN nq) := below_drewN (Below.refl _ _) nq
    obtain ⟨w2, hw2⟩ : ∃ w2, w2 = w1.drewN nq := ⟨_, rfl⟩
    rw [← hw2] at hq ⊢
    have Bel2 := Lib.hid (belNext Bel1.out hq)
    have Bx2 := Lib.hid (Bx1.out.next hq)
    have By2 := Lib.hid (By1.out.next hq)
    have Rs2 := Lib.hid (Rs1.out.next hq)
    have Ra2 := Lib.hid (Ra1.out.next hq)
    have Rb2 := Lib.hid (Rb1.out.next hq)
    clear Bel1 Bx1 By1 Rs1 Ra1 Rb1
    clear hw2 hq hx1 hx2 hx3 hy1 hy2 hy3
    obtain ⟨⟨hx1, hx2⟩, hx3⟩ := Bx2.out
    obtain ⟨⟨hy1, hy2⟩, hy3⟩ := By2.out
    go_wp2_with fail
    refine (natCmp_any a b A A' n n' c c' _ _ _ Ra2.out.1 Rb2.out.1 Hn.out Hn'.out H100.out.1 H100.out.2).mono ?_
    rintro e w3 ⟨rfl, q, hw3⟩
    have hq : Below w2.heap.size w2 w3 := by rw [hw3]; exact below_drewN (Below.refl _ _) q
    clear hw3 hx1 hx2 hx3 hy1 hy2 hy3
    have Bel3 := Lib.hid (belNext Bel2.out hq)
    have Bx3 := Lib.hid (Bx2.out.next hq)
    have By3 := Lib.hid (By2.out.next hq)
    have Rs3 := Lib.hid (Rs2.out.next hq)
    have Ra3 := Lib.hid (Ra2.out.next hq)
    have Rb3 := Lib.hid (Rb2.out.next hq)
    clear Bel2 Bx2 By2 Rs2 Ra2 Rb2
    clear hq
    obtain ⟨⟨hx1, hx2⟩, hx3⟩ := Bx3.out
    obtain ⟨⟨hy1, hy2⟩, hy3⟩ := By3.out
    rcases Nat.lt_trichotomy a b with hlt | heq | hgt
    · have hc := cmpI_lt (show (a : Int) < b by omega)
      rw [hc]
      have Hlt0 := Lib.hid hlt
      clear hc hlt
      go_wp2_with fail
      have H8 : Hid (((limbs (b - a)).length : Int) ≤ 1000000) := Lib.hid (by have := limbs_len_mono (show b - a ≤ b by omega); have := Hn'.out; omega)
      refine wp_region_held_drew (S := fun w' => w'.cell? ⟨w.heap.size + 1, 0, none⟩ = some (.int .i64 s')) (by kernel_rfl) By3.out.1.1 (fun hHeld => ?_)
      clear hx1 hx2 hx3 hy1 hy2 hy3
      refine wpAnyH_take (i := 0) (v := ?_) rfl (by kernel_rfl) (by kernel_rfl) (by kernel_rfl) (fun _ _ _ h => h) (Or.inl ⟨by rfl, ?_⟩) (by assumption) ?_
      rotate_left
      · (intro w hSw; (try dsimp only at hSw); go_simp; (try with_reducible rfl))
      try simp only [Act.put, List.setIfInBounds_toArray, List.set_cons_zero, List.set_cons_succ]
      refine wpAnyH_take (i := 1) (v := ?_) rfl (by kernel_rfl) (by kernel_rfl) (by kernel_rfl) (fun _ _ _ h => h) (Or.inl ⟨by rfl, ?_⟩) (by assumption) ?_
      rotate_left
      · (intro w hSw; (try dsimp only at hSw); go_simp; (try with_reducible rfl))
      try simp only [Act.put, List.setIfInBounds_toArray, List.set_cons_zero, List.set_cons_succ]
      refine wpAnyH_take (i := 2) (v := ?_) rfl (by kernel_rfl) (by kernel_rfl) (by kernel_rfl) (fun _ _ _ h => h) (Or.inl ⟨by rfl, ?_⟩) (by assumption) ?_
      rotate_left
      · (intro w hSw; (try dsimp only at hSw); go_simp; (try with_reducible rfl))
      try simp only [Act.put, List.setIfInBounds_toArray, List.set_cons_zero, List.set_cons_succ]
      refine wpAnyH_take (i := 3) (v := ?_) rfl (by kernel_rfl) (by kernel_rfl) (by kernel_rfl) (fun _ _ _ h => h) (Or.inl ⟨by rfl, ?_⟩) (by assumption) ?_
      rotate_left
      · (intro w hSw; (try dsimp only at hSw); go_simp; (try with_reducible rfl))
      try simp only [Act.put, List.setIfInBounds_toArray, List.set_cons_zero, List.set_cons_succ]
      refine wpAnyH_ready (rs := [4]) (by kernel_rfl) (by simp) ?_
      refine AllReadyH.cons rfl (fun K hK => ?_) AllReadyH.nil
      go_simp
      refine (natMinus_any b a A' A n' n c' c _ _ w3.drew Rb3.out.1 Ra3.out.1 Rb3.out.2 Ra3.out.2 Hn'.out Hn.out H100.out.2 H100.out.1 (Nat.le_of_lt Hlt0.out)).mono ?_
      rintro e w8 ⟨A8, rfl, ho8, hb0⟩
      have hb8 := belDrew hb0
      have Hb8 := Lib.hid hb8
      have O8 := Lib.hid ho8
      refine hK.out _ _ (By3.out.next hb8).1.1 (fun hHeld => ?_)
      have Bz8 := Lib.hid (By3.out.next hb8)
      have Rs8 := Lib.hid (Rs3.out.next hb8)
      have Bel8 := Lib.hid (belNext Bel3.out hb8)
      clear hK K ho8 hb0 hb8
      try simp only [Act.put, List.setIfInBounds_toArray, List.set_cons_zero, List.set_cons_succ]
      refine wpAnyH_ready (rs := [5]) (by kernel_rfl) (by simp) ?_
      refine AllReadyH.cons rfl (fun K hK => ?_) AllReadyH.nil
      go_simp
      refine (signed_any s' (b - a : Nat) A8 _ _ _ _ _ O8.out rfl (by have := H8.out; omega) (Nat.le_refl _)).mono ?_
      rintro e w9 ⟨val, rfl, hv, hb9⟩
      have Hz : Hid (Wz w9 w3.heap.size w9.heap.size (s * a + s' * b) val) := Lib.hid ((((hv.z (diff_one Hs'.out Hlt0.out)).wide (Nat.le_refl _) hb9.size)).cast_ (sum_second Hs.out Hs'.out he Hlt0.out))
      have Rs9 := Lib.hid (Rs8.out.next hb9)
      have Bel9 := Lib.hid (belNext Bel8.out hb9)
      refine hK.out _ _ (Bz8.out.next hb9).1.1 (fun hHeld => ?_)
      have Bz9 := Lib.hid (Bz8.out.next hb9)
      clear hK K hv hb9
      try simp only [Act.put, List.setIfInBounds_toArray, List.set_cons_zero, List.set_cons_succ]
      obtain ⟨A9, c9, hval, _⟩ := Hz.out
      subst hval
      obtain ⟨⟨r1, r2, r3, r4⟩, _⟩ := Rs9.out
      have Hlt := Lib.hid Rs3.out.2
      refine wpAnyH_ready (rs := [6]) (by kernel_rfl) (by simp) ?_
      refine AllReadyH.cons rfl (fun K hK => ?_) AllReadyH.nil
      go_simp
      refine hK.out _ _ (by have h := Bz9.out.1.1; rw [World.cell?_setCell_other _ _ _ _ (by simp), World.cell?_setCell_other _ _ _ _ (by simp)]; exact h) (fun hHeld => ?_)
      clear hK K hHeld
      try simp only [Act.put, List.setIfInBounds_toArray, List.set_cons_zero, List.set_cons_succ]
      refine wpAnyH_done (by kernel_rfl) ?_ _
      go_wp2_with fail
      refine bodyPost_ret (v := .agg #[.int .i64 (s * a + s' * b).sign, .slice A9 (limbs (s * a + s' * b).natAbs).length c9]) (by simp [results, Tryz.results99, go_sem, r1, r2]) rfl ⟨_, rfl, ?_, ?_⟩
      · exact ((Hz.out.setCell (by have := Hlt.out; simp; omega) _).setCell (by have := Hlt.out; simp; omega) _).wide (by have := Hlt.out; omega) (by simp)
      · exact (Bel9.out.setCell (by simp; omega) _).setCell (by simp; omega) _
    · have hc : cmpI (a : Int) b = 0 := by rw [heq]; exact cmpI_eq _
      rw [hc]
      have Hzz : Hid (s * a + s' * b = 0) := Lib.hid (zero_sum Hs.out Hs'.out he heq)
      clear hc heq
      obtain ⟨⟨r1, r2, r3, r4⟩, _⟩ := Rs3.out
      go_wp2_with fail
      refine bodyPost_ret (v := .agg #[.int .i64 0, .slice none 0 0]) (by simp [results, Tryz.results99, go_sem, r1, r2]) rfl ⟨_, rfl, ?_, ?_⟩
      · rw [Hzz.out]
        exact ⟨none, 0, by simp [limbs_zero], by simp [limbs_zero, vs, li, vi]; exact .inl rfl, by simp [limbs_zero]⟩
      · exact (Bel3.out.setCell (by simp; omega) _).setCell (by simp; omega) _
    · have hc := cmpI_gt (show (b : Int) < a by omega)
      rw [hc]
      have Hlt0 := Lib.hid hgt
      clear hc hgt
      go_wp2_with fail
      have H8 : Hid (((limbs (a - b)).length : Int) ≤ 1000000) := Lib.hid (by have := limbs_len_mono (show a - b ≤ a by omega); have := Hn.out; omega)
      refine wp_region_held_drew (S := fun w' => w'.cell? ⟨w.heap.size, 0, none⟩ = some (.int .i64 s)) (by kernel_rfl) Bx3.out.1.1 (fun hHeld => ?_)
      clear hx1 hx2 hx3 hy1 hy2 hy3
      refine wpAnyH_take (i := 0) (v := ?_) rfl (by kernel_rfl) (by kernel_rfl) (by kernel_rfl) (fun _ _ _ h => h) (Or.inl ⟨by rfl, ?_⟩) (by assumption) ?_
      rotate_left
      · (intro w hSw; (try dsimp only at hSw); go_simp; (try with_reducible rfl))
      try simp only [Act.put, List.setIfInBounds_toArray, List.set_cons_zero, List.set_cons_succ]
      refine wpAnyH_take (i := 1) (v := ?_) rfl (by kernel_rfl) (by kernel_rfl) (by kernel_rfl) (fun _ _ _ h => h) (Or.inl ⟨by rfl, ?_⟩) (by assumption) ?_
      rotate_left
      · (intro w hSw; (try dsimp only at hSw); go_simp; (try with_reducible rfl))
      try simp only [Act.put, List.setIfInBounds_toArray, List.set_cons_zero, List.set_cons_succ]
      refine wpAnyH_take (i := 2) (v := ?_) rfl (by kernel_rfl) (by kernel_rfl) (by kernel_rfl) (fun _ _ _ h => h) (Or.inl ⟨by rfl, ?_⟩) (by assumption) ?_
      rotate_left
      · (intro w hSw; (try dsimp only at hSw); go_simp; (try with_reducible rfl))
      try simp only [Act.put, List.setIfInBounds_toArray, List.set_cons_zero, List.set_cons_succ]
      refine wpAnyH_take (i := 3) (v := ?_) rfl (by kernel_rfl) (by kernel_rfl) (by kernel_rfl) (fun _ _ _ h => h) (Or.inl ⟨by rfl, ?_⟩) (by assumption) ?_
      rotate_left
      · (intro w hSw; (try dsimp only at hSw); go_simp; (try with_reducible rfl))
      try simp only [Act.put, List.setIfInBounds_toArray, List.set_cons_zero, List.set_cons_succ]
      refine wpAnyH_ready (rs := [4]) (by kernel_rfl) (by simp) ?_
      refine AllReadyH.cons rfl (fun K hK => ?_) AllReadyH.nil
      go_simp
      refine (natMinus_any a b A A' n n' c c' _ _ w3.drew Ra3.out.1 Rb3.out.1 Ra3.out.2 Rb3.out.2 Hn.out Hn'.out H100.out.1 H100.out.2 (Nat.le_of_lt Hlt0.out)).mono ?_
      rintro e w8 ⟨A8, rfl, ho8, hb0⟩
      have hb8 := belDrew hb0
      have Hb8 := Lib.hid hb8
      have O8 := Lib.hid ho8
      refine hK.out _ _ (Bx3.out.next hb8).1.1 (fun hHeld => ?_)
      have Bz8 := Lib.hid (Bx3.out.next hb8)
      have Rs8 := Lib.hid (Rs3.out.next hb8)
      have Bel8 := Lib.hid (belNext Bel3.out hb8)
      clear hK K ho8 hb0 hb8
      try simp only [Act.put, List.setIfInBounds_toArray, List.set_cons_zero, List.set_cons_succ]
      refine wpAnyH_ready (rs := [5]) (by kernel_rfl) (by simp) ?_
      refine AllReadyH.cons rfl (fun K hK => ?_) AllReadyH.nil
      go_simp
      refine (signed_any s (a - b : Nat) A8 _ _ _ _ _ O8.out rfl (by have := H8.out; omega) (Nat.le_refl _)).mono ?_
      rintro e w9 ⟨val, rfl, hv, hb9⟩
      have Hz : Hid (Wz w9 w3.heap.size w9.heap.size (s * a + s' * b) val) := Lib.hid ((((hv.z (diff_one Hs.out Hlt0.out)).wide (Nat.le_refl _) hb9.size)).cast_ (sum_first Hs.out Hs'.out he Hlt0.out))
      have Rs9 := Lib.hid (Rs8.out.next hb9)
      have Bel9 := Lib.hid (belNext Bel8.out hb9)
      refine hK.out _ _ (Bz8.out.next hb9).1.1 (fun hHeld => ?_)
      have Bz9 := Lib.hid (Bz8.out.next hb9)
      clear hK K hv hb9
      try simp only [Act.put, List.setIfInBounds_toArray, List.set_cons_zero, List.set_cons_succ]
      obtain ⟨A9, c9, hval, _⟩ := Hz.out
      subst hval
      obtain ⟨⟨r1, r2, r3, r4⟩, _⟩ := Rs9.out
      have Hlt := Lib.hid Rs3.out.2
      refine wpAnyH_ready (rs := [6]) (by kernel_rfl) (by simp) ?_
      refine AllReadyH.cons rfl (fun K hK => ?_) AllReadyH.nil
      go_simp
      refine hK.out _ _ (by have h := Bz9.out.1.1; rw [World.cell?_setCell_other _ _ _ _ (by simp), World.cell?_setCell_other _ _ _ _ (by simp)]; exact h) (fun hHeld => ?_)
      clear hK K hHeld
      try simp only [Act.put, List.setIfInBounds_toArray, List.set_cons_zero, List.set_cons_succ]
      refine wpAnyH_done (by kernel_rfl) ?_ _
      go_wp2_with fail
      refine bodyPost_ret (v := .agg #[.int .i64 (s * a + s' * b).sign, .slice A9 (limbs (s * a + s' * b).natAbs).length c9]) (by simp [results, Tryz.results99, go_sem, r1, r2]) rfl ⟨_, rfl, ?_, ?_⟩
      · exact ((Hz.out.setCell (by have := Hlt.out; simp; omega) _).setCell (by have := Hlt.out; simp; omega) _).wide (by have := Hlt.out; omega) (by simp)
      · exact (Bel9.out.setCell (by simp; omega) _).setCell (by simp; omega) _
end Go.Proofs.YtngminjncdfjdaaGreatDoor
/- Sums, opposites and differences of whole numbers, of the model. -/
namespace Go.Proofs.YtngminjncdfjdaaGreatDoor
set_option maxRecDepth 100000
open Go.RowKit
set_option linter.unusedSimpArgs false
set_option linter.unusedVariables false

theorem Box.keep {w : World} {b n c : Nat} {s : Int} {A : Option Addr} (h : Box w b s A n c) {p : Addr} (hp : p.block ≠ b) (u : Value) : Box (w.setCell p u) b s A n c := by
  have hk : (w.setCell p u).heap[b]? = w.heap[b]? := Below.heap_setCell _ _ _ _ (Ne.symm hp)
  exact ⟨⟨(World.cell?_of_block (a := ⟨b, 0, none⟩) hk).trans h.1.1, (World.cell?_of_block (a := ⟨b, 1, none⟩) hk).trans h.1.2⟩, by simpa using h.2⟩
theorem box_res (w : World) (s : Int) (A : Option Addr) (n c : Nat) (t t2 : TypeId) :
    ∃ W, W = (w.alloc (.cells #[.int .i64 s, .slice A n c] t)).alloc (.cells #[.int .i64 0, .slice none 0 0] t2) ∧ Box W w.heap.size s A n c ∧ ResB W (w.heap.size + 1) ∧ Below w.heap.size w W := by
  have h := belAlloc1 (w.alloc (.cells #[.int .i64 s, .slice A n c] t)) (.cells #[.int .i64 0, .slice none 0 0] t2)
  have hr := resBox_new (w.alloc (.cells #[.int .i64 s, .slice A n c] t)) t2
  have e : (w.alloc (.cells #[.int .i64 s, .slice A n c] t)).heap.size = w.heap.size + 1 := by simp
  rw [e] at hr
  exact ⟨_, rfl, (Box.new w s A n c t).next h, hr, (belAlloc1 w _).trans (h.mono (by simp))⟩
theorem Sg.zero {v : Nat} (h : Sg 0 v) : v = 0 := h.2.2.1 rfl

set_option maxHeartbeats 4000000 in
theorem specAdd_any (s s' : Int) (a b : Nat) (A A' : Option Addr) (n n' c c' : Nat) (w : World) (hs : Sg s a) (hs' : Sg s' b) (hr : Rd w w.heap.size A (vs (limbs a))) (hr' : Rd w w.heap.size A' (vs (limbs b))) (hn : (limbs a).length = n) (hn' : (limbs b).length = n') (hm : (n : Int) ≤ 90000) (hm' : (n' : Int) ≤ 90000) (hcap : n ≤ c) (hcap' : n' ≤ c') :
    Calls Tryz.prog 63 #[.agg #[.int .i64 s, .slice A n c], .agg #[.int .i64 s', .slice A' n' c']] w fun e w' => ∃ val, e = .returned val ∧ Wz w' w.heap.size w'.heap.size (s * a + s' * b) val ∧ Below w.heap.size w w' := by
  have hst := store_int Tryz.prog
  have hst2 := store_slice Tryz.prog
  obtain ⟨w1, hw1, hb1, hb2, hb3, hb4⟩ := three_boxes w s s' A A' n n' c c' 46 46 46
  have Ra1 : Hid (Rt w1 w.heap.size A (vs (limbs a))) := Lib.hid ⟨hr.below hb4, hb4.size⟩
  have Rb1 : Hid (Rt w1 w.heap.size A' (vs (limbs b))) := Lib.hid ⟨hr'.below hb4, hb4.size⟩
  have Hn := Lib.hid hn
  have Hn' := Lib.hid hn'
  have Hs := Lib.hid hs
  have Hs' := Lib.hid hs'
  have Hw := Lib.hid hw1
  have Bx1 := Lib.hid hb1
  have By1 := Lib.hid hb2
  have Rs1 := Lib.hid hb3
  have Bel1 := Lib.hid hb4
  have H100 : Hid ((n : Int) ≤ 90000 ∧ (n' : Int) ≤ 90000) := Lib.hid ⟨hm, hm'⟩
  have H1001 : Hid ((n : Int) ≤ 100000 ∧ (n' : Int) ≤ 100000) := Lib.hid (by omega)
  have Hcap : Hid ((n : Int) ≤ c ∧ (n' : Int) ≤ c') := Lib.hid (by omega)
  clear hr hr' hn hn' hs hs' hw1 hb1 hb2 hb3 hb4 hcap hcap'
  by_cases h0 : s = 0
  · subst h0
    go_enter Tryz.func63, Tryz.ntmps63
    go_wp2_with fail
    rw [← Hw.out]
    obtain ⟨⟨hx1, hx2⟩, hx3⟩ := Bx1.out
    obtain ⟨⟨hy1, hy2⟩, hy3⟩ := By1.out
    refine (make_any s' A' n' c' _ (limbs b) _ Rb1.out.1 Rb1.out.2 Hn'.out (Lim_limbs _) Hcap.out.2 (by omega)).mono ?_
    rintro e w9 ⟨val, rfl, hv, hb9⟩
    have Hz : Hid (Wz w9 w1.heap.size w9.heap.size (0 * a + s' * b) val) := Lib.hid ((hv.z (by rw [V_limbs]; exact Hs'.out.one)).cast_ (by rw [V_limbs]; exact (by simp)))
    have Rs9 := Lib.hid (Rs1.out.next hb9)
    have Bel9 := Lib.hid (belNext Bel1.out hb9)
    have Hlt := Lib.hid Rs1.out.2
    clear hv hb9 hx1 hx2 hx3 hy1 hy2 hy3
    obtain ⟨A9, c9, hval, _⟩ := Hz.out
    subst hval
    obtain ⟨⟨r1, r2, r3, r4⟩, _⟩ := Rs9.out
    go_wp2_with fail
    refine bodyPost_ret (v := .agg #[.int .i64 (0 * a + s' * b).sign, .slice A9 (limbs (0 * a + s' * b).natAbs).length c9]) (by simp [results, Tryz.results63, go_sem, r1, r2]) rfl ⟨_, rfl, ?_, ?_⟩
    · exact ((Hz.out.setCell (by have := Hlt.out; simp; omega) _).setCell (by have := Hlt.out; simp; omega) _).wide (by have := Hlt.out; omega) (by simp)
    · exact (Bel9.out.setCell (by simp; omega) _).setCell (by simp; omega) _
  · have h0b : (s == 0) = false := beq_false_of_ne h0
    by_cases h1 : s' = 0
    · subst h1
      go_enter Tryz.func63, Tryz.ntmps63
      go_wp2_with fail
      rw [← Hw.out]
      obtain ⟨⟨hx1, hx2⟩, hx3⟩ := Bx1.out
      obtain ⟨⟨hy1, hy2⟩, hy3⟩ := By1.out
      refine (make_any s A n c _ (limbs a) _ Ra1.out.1 Ra1.out.2 Hn.out (Lim_limbs _) Hcap.out.1 (by omega)).mono ?_
      rintro e w9 ⟨val, rfl, hv, hb9⟩
      have Hz : Hid (Wz w9 w1.heap.size w9.heap.size (s * a + 0 * b) val) := Lib.hid ((hv.z (by rw [V_limbs]; exact Hs.out.one)).cast_ (by rw [V_limbs]; exact (by simp)))
      have Rs9 := Lib.hid (Rs1.out.next hb9)
      have Bel9 := Lib.hid (belNext Bel1.out hb9)
      have Hlt := Lib.hid Rs1.out.2
      clear hv hb9 hx1 hx2 hx3 hy1 hy2 hy3
      obtain ⟨A9, c9, hval, _⟩ := Hz.out
      subst hval
      obtain ⟨⟨r1, r2, r3, r4⟩, _⟩ := Rs9.out
      go_wp2_with fail
      refine bodyPost_ret (v := .agg #[.int .i64 (s * a + 0 * b).sign, .slice A9 (limbs (s * a + 0 * b).natAbs).length c9]) (by simp [results, Tryz.results63, go_sem, r1, r2]) rfl ⟨_, rfl, ?_, ?_⟩
      · exact ((Hz.out.setCell (by have := Hlt.out; simp; omega) _).setCell (by have := Hlt.out; simp; omega) _).wide (by have := Hlt.out; omega) (by simp)
      · exact (Bel9.out.setCell (by simp; omega) _).setCell (by simp; omega) _
    · have h1b : (s' == 0) = false := beq_false_of_ne h1
      by_cases he : s = s'
      · subst he
        clear h0 h1
        go_enter Tryz.func63, Tryz.ntmps63
        go_wp2_with fail
        rw [← Hw.out]
        obtain ⟨⟨hx1, hx2⟩, hx3⟩ := Bx1.out
        obtain ⟨⟨hy1, hy2⟩, hy3⟩ := By1.out
        refine wp_region_held_drew (S := fun w' => (w'.cell? ⟨w.heap.size, 0, none⟩ = some (.int .i64 s) ∧ w'.cell? ⟨w.heap.size, 1, none⟩ = some (.slice A n c)) ∧ (w'.cell? ⟨w.heap.size + 1, 0, none⟩ = some (.int .i64 s) ∧ w'.cell? ⟨w.heap.size + 1, 1, none⟩ = some (.slice A' n' c'))) (by kernel_rfl) ⟨Bx1.out.1, By1.out.1⟩ (fun hHeld => ?_)
        clear hx1 hx2 hx3 hy1 hy2 hy3
        refine wpAnyH_take (i := 0) (v := ?_) rfl (by kernel_rfl) (by kernel_rfl) (by kernel_rfl) (fun _ _ _ h => h) (Or.inl ⟨by rfl, ?_⟩) (by assumption) ?_
        rotate_left
        · (intro w hSw; (try dsimp only at hSw); go_simp; (try with_reducible rfl))
        try simp only [Act.put, List.setIfInBounds_toArray, List.set_cons_zero, List.set_cons_succ]
        refine wpAnyH_take (i := 1) (v := ?_) rfl (by kernel_rfl) (by kernel_rfl) (by kernel_rfl) (fun _ _ _ h => h) (Or.inl ⟨by rfl, ?_⟩) (by assumption) ?_
        rotate_left
        · (intro w hSw; (try dsimp only at hSw); go_simp; (try with_reducible rfl))
        try simp only [Act.put, List.setIfInBounds_toArray, List.set_cons_zero, List.set_cons_succ]
        refine wpAnyH_take (i := 2) (v := ?_) rfl (by kernel_rfl) (by kernel_rfl) (by kernel_rfl) (fun _ _ _ h => h) (Or.inl ⟨by rfl, ?_⟩) (by assumption) ?_
        rotate_left
        · (intro w hSw; (try dsimp only at hSw); go_simp; (try with_reducible rfl))
        try simp only [Act.put, List.setIfInBounds_toArray, List.set_cons_zero, List.set_cons_succ]
        refine wpAnyH_take (i := 3) (v := ?_) rfl (by kernel_rfl) (by kernel_rfl) (by kernel_rfl) (fun _ _ _ h => h) (Or.inl ⟨by rfl, ?_⟩) (by assumption) ?_
        rotate_left
        · (intro w hSw; (try dsimp only at hSw); go_simp; (try with_reducible rfl))
        try simp only [Act.put, List.setIfInBounds_toArray, List.set_cons_zero, List.set_cons_succ]
        refine wpAnyH_take (i := 4) (v := ?_) rfl (by kernel_rfl) (by kernel_rfl) (by kernel_rfl) (fun _ _ _ h => h) (Or.inl ⟨by rfl, ?_⟩) (by assumption) ?_
        rotate_left
        · (intro w hSw; (try dsimp only at hSw); go_simp; (try with_reducible rfl))
        try simp only [Act.put, List.setIfInBounds_toArray, List.set_cons_zero, List.set_cons_succ]
        refine wpAnyH_take (i := 5) (v := ?_) rfl (by kernel_rfl) (by kernel_rfl) (by kernel_rfl) (fun _ _ _ h => h) (Or.inl ⟨by rfl, ?_⟩) (by assumption) ?_
        rotate_left
        · (intro w hSw; (try dsimp only at hSw); go_simp; (try with_reducible rfl))
        try simp only [Act.put, List.setIfInBounds_toArray, List.set_cons_zero, List.set_cons_succ]
        refine wpAnyH_ready (rs := [6]) (by kernel_rfl) (by simp) ?_
        refine AllReadyH.cons rfl (fun K hK => ?_) AllReadyH.nil
        go_simp
        refine (specPlusL_any a b A A' n n' c c' _ _ w1.drew Ra1.out.1 Rb1.out.1 Ra1.out.2 Rb1.out.2 Hn.out Hn'.out H1001.out.1 H1001.out.2).mono ?_
        rintro e w8 ⟨v8, ys, rfl, ho8, hl8, hv8, hn8, hb0⟩
        have hb8 := belDrew hb0
        obtain ⟨A8, c8, hA8, hc8⟩ := ho8.form
        subst hA8
        have O8 := Lib.hid ho8.rd
        have L8 := Lib.hid hl8
        have V8 : Hid (V ys = a + b) := Lib.hid (by rw [hv8])
        have N8 : Hid ((ys.length : Int) ≤ 1000000 ∧ (ys.length : Int) ≤ c8) := Lib.hid (by have := H100.out; omega)
        refine hK.out _ _ ⟨(Bx1.out.next hb8).1, (By1.out.next hb8).1⟩ (fun hHeld => ?_)
        have Bx8 := Lib.hid (Bx1.out.next hb8)
        have By8 := Lib.hid (By1.out.next hb8)
        have Rs8 := Lib.hid (Rs1.out.next hb8)
        have Bel8 := Lib.hid (belNext Bel1.out hb8)
        have Sz8 : Hid (w1.heap.size ≤ w8.heap.size) := Lib.hid hb8.size
        clear hK K ho8 hb0 hb8 hl8 hv8 hn8 hc8
        try simp only [Act.put, List.setIfInBounds_toArray, List.set_cons_zero, List.set_cons_succ]
        refine wpAnyH_ready (rs := [7]) (by kernel_rfl) (by simp) ?_
        refine AllReadyH.cons rfl (fun K hK => ?_) AllReadyH.nil
        go_simp
        refine (make_any s A8 ys.length c8 w8.heap.size ys w8 O8.out (Nat.le_refl _) rfl L8.out N8.out.2 N8.out.1).mono ?_
        rintro e w9 ⟨val, rfl, hv, hb9⟩
        have Hz : Hid (Wz w9 w8.heap.size w9.heap.size (s * a + s * b) val) := Lib.hid ((hv.z (by rw [V8.out]; exact sum_one Hs.out Hs'.out)).cast_ (by rw [V8.out]; exact sum_same))
        have Rs9 := Lib.hid (Rs8.out.next hb9)
        have Bel9 := Lib.hid (belNext Bel8.out hb9)
        refine hK.out _ _ ⟨(Bx8.out.next hb9).1, (By8.out.next hb9).1⟩ (fun hHeld => ?_)
        have Bx9 := Lib.hid (Bx8.out.next hb9)
        have By9 := Lib.hid (By8.out.next hb9)
        clear hK K hv hb9
        try simp only [Act.put, List.setIfInBounds_toArray, List.set_cons_zero, List.set_cons_succ]
        obtain ⟨A9, c9, hval, _⟩ := Hz.out
        subst hval
        obtain ⟨⟨r1, r2, r3, r4⟩, _⟩ := Rs9.out
        have Hlt : Hid (w.heap.size + 1 + 1 < w8.heap.size) := Lib.hid Rs8.out.2
        refine wpAnyH_ready (rs := [8]) (by kernel_rfl) (by simp) ?_
        refine AllReadyH.cons rfl (fun K hK => ?_) AllReadyH.nil
        go_simp
        refine hK.out _ _ ⟨((Bx9.out.keep (by simp; omega) _).keep (by simp; omega) _).1, ((By9.out.keep (by simp) _).keep (by simp) _).1⟩ (fun hHeld => ?_)
        clear hK K hHeld
        try simp only [Act.put, List.setIfInBounds_toArray, List.set_cons_zero, List.set_cons_succ]
        refine wpAnyH_done (by kernel_rfl) ?_ _
        go_wp2_with fail
        refine bodyPost_ret (v := .agg #[.int .i64 (s * a + s * b).sign, .slice A9 (limbs (s * a + s * b).natAbs).length c9]) (by simp [results, Tryz.results63, go_sem, r1, r2]) rfl ⟨_, rfl, ?_, ?_⟩
        · exact ((Hz.out.setCell (by have := Hlt.out; simp; omega) _).setCell (by have := Hlt.out; simp; omega) _).wide (by have := Hlt.out; omega) (by simp)
        · exact (Bel9.out.setCell (by simp; omega) _).setCell (by simp; omega) _
      · have hne : (s == s') = false := beq_false_of_ne he
        clear h0 h1
        go_enter Tryz.func63, Tryz.ntmps63
        go_wp2_with fail
        rw [← Hw.out]
        obtain ⟨⟨hx1, hx2⟩, hx3⟩ := Bx1.out
        obtain ⟨⟨hy1, hy2⟩, hy3⟩ := By1.out
        refine (specCmpL_any a b A A' n n' c c' _ _ _ Ra1.out.1 Rb1.out.1 Hn.out Hn'.out H1001.out.1 H1001.out.2).mono ?_
        rintro e w2 ⟨rfl, q, hw2⟩
        have hq : Below w1.heap.size w1 w2 := by rw [hw2]; exact below_drewN (Below.refl _ _) q
        clear hw2 hx1 hx2 hx3 hy1 hy2 hy3
        have Bel2 := Lib.hid (belNext Bel1.out hq)
        have Bx2 := Lib.hid (Bx1.out.next hq)
        have By2 := Lib.hid (By1.out.next hq)
        have Rs2 := Lib.hid (Rs1.out.next hq)
        have Ra2 := Lib.hid (Ra1.out.next hq)
        have Rb2 := Lib.hid (Rb1.out.next hq)
        clear Bel1 Bx1 By1 Rs1 Ra1 Rb1
        clear hq
        obtain ⟨⟨hx1, hx2⟩, hx3⟩ := Bx2.out
        obtain ⟨⟨hy1, hy2⟩, hy3⟩ := By2.out
        by_cases hlt : a < b
        · have hc := cmpI_lt (show (a : Int) < b by omega)
          rw [hc]
          have Hlt0 := Lib.hid hlt
          clear hc hlt
          go_wp2_with fail
          refine wp_region_held_drew (S := fun w' => (w'.cell? ⟨w.heap.size, 0, none⟩ = some (.int .i64 s) ∧ w'.cell? ⟨w.heap.size, 1, none⟩ = some (.slice A n c)) ∧ (w'.cell? ⟨w.heap.size + 1, 0, none⟩ = some (.int .i64 s') ∧ w'.cell? ⟨w.heap.size + 1, 1, none⟩ = some (.slice A' n' c'))) (by kernel_rfl) ⟨Bx2.out.1, By2.out.1⟩ (fun hHeld => ?_)
          clear hx1 hx2 hx3 hy1 hy2 hy3
          refine wpAnyH_take (i := 0) (v := ?_) rfl (by kernel_rfl) (by kernel_rfl) (by kernel_rfl) (fun _ _ _ h => h) (Or.inl ⟨by rfl, ?_⟩) (by assumption) ?_
          rotate_left
          · (intro w hSw; (try dsimp only at hSw); go_simp; (try with_reducible rfl))
          try simp only [Act.put, List.setIfInBounds_toArray, List.set_cons_zero, List.set_cons_succ]
          refine wpAnyH_take (i := 1) (v := ?_) rfl (by kernel_rfl) (by kernel_rfl) (by kernel_rfl) (fun _ _ _ h => h) (Or.inl ⟨by rfl, ?_⟩) (by assumption) ?_
          rotate_left
          · (intro w hSw; (try dsimp only at hSw); go_simp; (try with_reducible rfl))
          try simp only [Act.put, List.setIfInBounds_toArray, List.set_cons_zero, List.set_cons_succ]
          refine wpAnyH_take (i := 2) (v := ?_) rfl (by kernel_rfl) (by kernel_rfl) (by kernel_rfl) (fun _ _ _ h => h) (Or.inl ⟨by rfl, ?_⟩) (by assumption) ?_
          rotate_left
          · (intro w hSw; (try dsimp only at hSw); go_simp; (try with_reducible rfl))
          try simp only [Act.put, List.setIfInBounds_toArray, List.set_cons_zero, List.set_cons_succ]
          refine wpAnyH_take (i := 3) (v := ?_) rfl (by kernel_rfl) (by kernel_rfl) (by kernel_rfl) (fun _ _ _ h => h) (Or.inl ⟨by rfl, ?_⟩) (by assumption) ?_
          rotate_left
          · (intro w hSw; (try dsimp only at hSw); go_simp; (try with_reducible rfl))
          try simp only [Act.put, List.setIfInBounds_toArray, List.set_cons_zero, List.set_cons_succ]
          refine wpAnyH_take (i := 4) (v := ?_) rfl (by kernel_rfl) (by kernel_rfl) (by kernel_rfl) (fun _ _ _ h => h) (Or.inl ⟨by rfl, ?_⟩) (by assumption) ?_
          rotate_left
          · (intro w hSw; (try dsimp only at hSw); go_simp; (try with_reducible rfl))
          try simp only [Act.put, List.setIfInBounds_toArray, List.set_cons_zero, List.set_cons_succ]
          refine wpAnyH_take (i := 5) (v := ?_) rfl (by kernel_rfl) (by kernel_rfl) (by kernel_rfl) (fun _ _ _ h => h) (Or.inl ⟨by rfl, ?_⟩) (by assumption) ?_
          rotate_left
          · (intro w hSw; (try dsimp only at hSw); go_simp; (try with_reducible rfl))
          try simp only [Act.put, List.setIfInBounds_toArray, List.set_cons_zero, List.set_cons_succ]
          refine wpAnyH_ready (rs := [6]) (by kernel_rfl) (by simp) ?_
          refine AllReadyH.cons rfl (fun K hK => ?_) AllReadyH.nil
          go_simp
          refine (specMinusL_any b a A' A n' n c' c _ _ w2.drew Rb2.out.1 Ra2.out.1 Rb2.out.2 Ra2.out.2 Hn'.out Hn.out H1001.out.2 H1001.out.1 (Nat.le_of_lt Hlt0.out)).mono ?_
          rintro e w8 ⟨v8, ys, rfl, ho8, hl8, hv8, hn8, hb0⟩
          have hb8 := belDrew hb0
          obtain ⟨A8, c8, hA8, hc8⟩ := ho8.form
          subst hA8
          have O8 := Lib.hid ho8.rd
          have L8 := Lib.hid hl8
          have V8 : Hid (V ys = b - a) := Lib.hid (by rw [hv8])
          have N8 : Hid ((ys.length : Int) ≤ 1000000 ∧ (ys.length : Int) ≤ c8) := Lib.hid (by have := H100.out; omega)
          refine hK.out _ _ ⟨(Bx2.out.next hb8).1, (By2.out.next hb8).1⟩ (fun hHeld => ?_)
          have Bx8 := Lib.hid (Bx2.out.next hb8)
          have By8 := Lib.hid (By2.out.next hb8)
          have Rs8 := Lib.hid (Rs2.out.next hb8)
          have Bel8 := Lib.hid (belNext Bel2.out hb8)
          have Sz8 : Hid (w2.heap.size ≤ w8.heap.size) := Lib.hid hb8.size
          clear hK K ho8 hb0 hb8 hl8 hv8 hn8 hc8
          try simp only [Act.put, List.setIfInBounds_toArray, List.set_cons_zero, List.set_cons_succ]
          refine wpAnyH_ready (rs := [7]) (by kernel_rfl) (by simp) ?_
          refine AllReadyH.cons rfl (fun K hK => ?_) AllReadyH.nil
          go_simp
          refine (make_any s' A8 ys.length c8 w8.heap.size ys w8 O8.out (Nat.le_refl _) rfl L8.out N8.out.2 N8.out.1).mono ?_
          rintro e w9 ⟨val, rfl, hv, hb9⟩
          have Hz : Hid (Wz w9 w8.heap.size w9.heap.size (s * a + s' * b) val) := Lib.hid ((hv.z (by rw [V8.out]; exact diff_one Hs'.out Hlt0.out)).cast_ (by rw [V8.out]; exact sum_second Hs.out Hs'.out he Hlt0.out))
          have Rs9 := Lib.hid (Rs8.out.next hb9)
          have Bel9 := Lib.hid (belNext Bel8.out hb9)
          refine hK.out _ _ ⟨(Bx8.out.next hb9).1, (By8.out.next hb9).1⟩ (fun hHeld => ?_)
          have Bx9 := Lib.hid (Bx8.out.next hb9)
          have By9 := Lib.hid (By8.out.next hb9)
          clear hK K hv hb9
          try simp only [Act.put, List.setIfInBounds_toArray, List.set_cons_zero, List.set_cons_succ]
          obtain ⟨A9, c9, hval, _⟩ := Hz.out
          subst hval
          obtain ⟨⟨r1, r2, r3, r4⟩, _⟩ := Rs9.out
          have Hlt : Hid (w.heap.size + 1 + 1 < w8.heap.size) := Lib.hid Rs8.out.2
          refine wpAnyH_ready (rs := [8]) (by kernel_rfl) (by simp) ?_
          refine AllReadyH.cons rfl (fun K hK => ?_) AllReadyH.nil
          go_simp
          refine hK.out _ _ ⟨((Bx9.out.keep (by simp; omega) _).keep (by simp; omega) _).1, ((By9.out.keep (by simp) _).keep (by simp) _).1⟩ (fun hHeld => ?_)
          clear hK K hHeld
          try simp only [Act.put, List.setIfInBounds_toArray, List.set_cons_zero, List.set_cons_succ]
          refine wpAnyH_done (by kernel_rfl) ?_ _
          go_wp2_with fail
          refine bodyPost_ret (v := .agg #[.int .i64 (s * a + s' * b).sign, .slice A9 (limbs (s * a + s' * b).natAbs).length c9]) (by simp [results, Tryz.results63, go_sem, r1, r2]) rfl ⟨_, rfl, ?_, ?_⟩
          · exact ((Hz.out.setCell (by have := Hlt.out; simp; omega) _).setCell (by have := Hlt.out; simp; omega) _).wide (by have := Hlt.out; omega) (by simp)
          · exact (Bel9.out.setCell (by simp; omega) _).setCell (by simp; omega) _
        · have hge : (0 : Int) ≤ cmpI a b := by
            rcases Nat.lt_or_ge b a with h | h
            · rw [cmpI_gt (by omega)]; omega
            · have : a = b := by omega
              rw [this, cmpI_eq]; omega
          have Hle0 : Hid (b ≤ a) := Lib.hid (by omega)
          have Hsum : Hid (s * ((a - b : Nat) : Int) = s * a + s' * b ∧ (s = 1 ∨ s = -1 ∨ a - b = 0)) := Lib.hid (by
            refine ⟨?_, Or.imp_right (Or.imp_right (fun h => by omega)) Hs.out.one⟩
            rcases Nat.lt_or_ge b a with h | h
            · exact sum_first Hs.out Hs'.out he h
            · rw [zero_sum Hs.out Hs'.out he (by omega), show a - b = 0 by omega]; simp)
          generalize cmpI (a : Int) b = cm at *
          clear hlt
          go_wp2_with fail
          refine wp_region_held_drew (S := fun w' => (w'.cell? ⟨w.heap.size, 0, none⟩ = some (.int .i64 s) ∧ w'.cell? ⟨w.heap.size, 1, none⟩ = some (.slice A n c)) ∧ (w'.cell? ⟨w.heap.size + 1, 0, none⟩ = some (.int .i64 s') ∧ w'.cell? ⟨w.heap.size + 1, 1, none⟩ = some (.slice A' n' c'))) (by kernel_rfl) ⟨Bx2.out.1, By2.out.1⟩ (fun hHeld => ?_)
          clear hx1 hx2 hx3 hy1 hy2 hy3
          refine wpAnyH_take (i := 0) (v := ?_) rfl (by kernel_rfl) (by kernel_rfl) (by kernel_rfl) (fun _ _ _ h => h) (Or.inl ⟨by rfl, ?_⟩) (by assumption) ?_
          rotate_left
          · (intro w hSw; (try dsimp only at hSw); go_simp; (try with_reducible rfl))
          try simp only [Act.put, List.setIfInBounds_toArray, List.set_cons_zero, List.set_cons_succ]
          refine wpAnyH_take (i := 1) (v := ?_) rfl (by kernel_rfl) (by kernel_rfl) (by kernel_rfl) (fun _ _ _ h => h) (Or.inl ⟨by rfl, ?_⟩) (by assumption) ?_
          rotate_left
          · (intro w hSw; (try dsimp only at hSw); go_simp; (try with_reducible rfl))
          try simp only [Act.put, List.setIfInBounds_toArray, List.set_cons_zero, List.set_cons_succ]
          refine wpAnyH_take (i := 2) (v := ?_) rfl (by kernel_rfl) (by kernel_rfl) (by kernel_rfl) (fun _ _ _ h => h) (Or.inl ⟨by rfl, ?_⟩) (by assumption) ?_
          rotate_left
          · (intro w hSw; (try dsimp only at hSw); go_simp; (try with_reducible rfl))
          try simp only [Act.put, List.setIfInBounds_toArray, List.set_cons_zero, List.set_cons_succ]
          refine wpAnyH_take (i := 3) (v := ?_) rfl (by kernel_rfl) (by kernel_rfl) (by kernel_rfl) (fun _ _ _ h => h) (Or.inl ⟨by rfl, ?_⟩) (by assumption) ?_
          rotate_left
          · (intro w hSw; (try dsimp only at hSw); go_simp; (try with_reducible rfl))
          try simp only [Act.put, List.setIfInBounds_toArray, List.set_cons_zero, List.set_cons_succ]
          refine wpAnyH_take (i := 4) (v := ?_) rfl (by kernel_rfl) (by kernel_rfl) (by kernel_rfl) (fun _ _ _ h => h) (Or.inl ⟨by rfl, ?_⟩) (by assumption) ?_
          rotate_left
          · (intro w hSw; (try dsimp only at hSw); go_simp; (try with_reducible rfl))
          try simp only [Act.put, List.setIfInBounds_toArray, List.set_cons_zero, List.set_cons_succ]
          refine wpAnyH_take (i := 5) (v := ?_) rfl (by kernel_rfl) (by kernel_rfl) (by kernel_rfl) (fun _ _ _ h => h) (Or.inl ⟨by rfl, ?_⟩) (by assumption) ?_
          rotate_left
          · (intro w hSw; (try dsimp only at hSw); go_simp; (try with_reducible rfl))
          try simp only [Act.put, List.setIfInBounds_toArray, List.set_cons_zero, List.set_cons_succ]
          refine wpAnyH_ready (rs := [6]) (by kernel_rfl) (by simp) ?_
          refine AllReadyH.cons rfl (fun K hK => ?_) AllReadyH.nil
          go_simp
          refine (specMinusL_any a b A A' n n' c c' _ _ w2.drew Ra2.out.1 Rb2.out.1 Ra2.out.2 Rb2.out.2 Hn.out Hn'.out H1001.out.1 H1001.out.2 Hle0.out).mono ?_
          rintro e w8 ⟨v8, ys, rfl, ho8, hl8, hv8, hn8, hb0⟩
          have hb8 := belDrew hb0
          obtain ⟨A8, c8, hA8, hc8⟩ := ho8.form
          subst hA8
          have O8 := Lib.hid ho8.rd
          have L8 := Lib.hid hl8
          have V8 : Hid (V ys = a - b) := Lib.hid (by rw [hv8])
          have N8 : Hid ((ys.length : Int) ≤ 1000000 ∧ (ys.length : Int) ≤ c8) := Lib.hid (by have := H100.out; omega)
          refine hK.out _ _ ⟨(Bx2.out.next hb8).1, (By2.out.next hb8).1⟩ (fun hHeld => ?_)
          have Bx8 := Lib.hid (Bx2.out.next hb8)
          have By8 := Lib.hid (By2.out.next hb8)
          have Rs8 := Lib.hid (Rs2.out.next hb8)
          have Bel8 := Lib.hid (belNext Bel2.out hb8)
          have Sz8 : Hid (w2.heap.size ≤ w8.heap.size) := Lib.hid hb8.size
          clear hK K ho8 hb0 hb8 hl8 hv8 hn8 hc8
          try simp only [Act.put, List.setIfInBounds_toArray, List.set_cons_zero, List.set_cons_succ]
          refine wpAnyH_ready (rs := [7]) (by kernel_rfl) (by simp) ?_
          refine AllReadyH.cons rfl (fun K hK => ?_) AllReadyH.nil
          go_simp
          refine (make_any s A8 ys.length c8 w8.heap.size ys w8 O8.out (Nat.le_refl _) rfl L8.out N8.out.2 N8.out.1).mono ?_
          rintro e w9 ⟨val, rfl, hv, hb9⟩
          have Hz : Hid (Wz w9 w8.heap.size w9.heap.size (s * a + s' * b) val) := Lib.hid ((hv.z (by rw [V8.out]; exact Hsum.out.2)).cast_ (by rw [V8.out]; exact Hsum.out.1))
          have Rs9 := Lib.hid (Rs8.out.next hb9)
          have Bel9 := Lib.hid (belNext Bel8.out hb9)
          refine hK.out _ _ ⟨(Bx8.out.next hb9).1, (By8.out.next hb9).1⟩ (fun hHeld => ?_)
          have Bx9 := Lib.hid (Bx8.out.next hb9)
          have By9 := Lib.hid (By8.out.next hb9)
          clear hK K hv hb9
          try simp only [Act.put, List.setIfInBounds_toArray, List.set_cons_zero, List.set_cons_succ]
          obtain ⟨A9, c9, hval, _⟩ := Hz.out
          subst hval
          obtain ⟨⟨r1, r2, r3, r4⟩, _⟩ := Rs9.out
          have Hlt : Hid (w.heap.size + 1 + 1 < w8.heap.size) := Lib.hid Rs8.out.2
          refine wpAnyH_ready (rs := [8]) (by kernel_rfl) (by simp) ?_
          refine AllReadyH.cons rfl (fun K hK => ?_) AllReadyH.nil
          go_simp
          refine hK.out _ _ ⟨((Bx9.out.keep (by simp; omega) _).keep (by simp; omega) _).1, ((By9.out.keep (by simp) _).keep (by simp) _).1⟩ (fun hHeld => ?_)
          clear hK K hHeld
          try simp only [Act.put, List.setIfInBounds_toArray, List.set_cons_zero, List.set_cons_succ]
          refine wpAnyH_done (by kernel_rfl) ?_ _
          go_wp2_with fail
          refine bodyPost_ret (v := .agg #[.int .i64 (s * a + s' * b).sign, .slice A9 (limbs (s * a + s' * b).natAbs).length c9]) (by simp [results, Tryz.results63, go_sem, r1, r2]) rfl ⟨_, rfl, ?_, ?_⟩
          · exact ((Hz.out.setCell (by have := Hlt.out; simp; omega) _).setCell (by have := Hlt.out; simp; omega) _).wide (by have := Hlt.out; omega) (by simp)
          · exact (Bel9.out.setCell (by simp; omega) _).setCell (by simp; omega) _

end Go.Proofs.YtngminjncdfjdaaGreatDoor
/- AddWholes and SubtractWholes, of the program and of the model. -/
namespace Go.Proofs.YtngminjncdfjdaaGreatDoor
set_option maxRecDepth 100000
open Go.RowKit
set_option linter.unusedSimpArgs false
set_option linter.unusedVariables false

/-- a whole number that fits, else 0; and the code -/
def fitZ (z : Int) : Int := if (limbs z.natAbs).length ≤ 100 then z else 0
def fitE (z : Int) : Int := if (limbs z.natAbs).length ≤ 100 then 0 else 3
def opZ (z : Int) (b : Bool) : Int := if b = true then fitZ z else 0
def opE (z : Int) (b : Bool) : Int := if b = true then fitE z else 1
theorem Sg.neg {s : Int} {v : Nat} (h : Sg s v) : Sg (-s) v := ⟨by have := h.2.1; omega, by have := h.1; omega, by have := h.2.2; omega⟩

theorem sum_len {s s' : Int} {a b n n' : Nat} (hs : Sg s a) (hs' : Sg s' b) (hn : (limbs a).length = n) (hn' : (limbs b).length = n') : (limbs (s * (a : Int) + s' * b).natAbs).length ≤ n + n' + 1 := by
  have h := limbs_len_sum a b hn hn'
  refine Nat.le_trans (limbs_len_mono ?_) h
  obtain ⟨h1, h2, h3⟩ := hs
  obtain ⟨g1, g2, g3⟩ := hs'
  have e1 : s = -1 ∨ s = 0 ∨ s = 1 := by omega
  have e2 : s' = -1 ∨ s' = 0 ∨ s' = 1 := by omega
  rcases e1 with rfl | rfl | rfl <;> rcases e2 with rfl | rfl | rfl <;> simp <;> omega

end Go.Proofs.YtngminjncdfjdaaGreatDoor
