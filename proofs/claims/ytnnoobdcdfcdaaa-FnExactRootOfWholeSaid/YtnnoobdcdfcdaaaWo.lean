/- Whole numbers of integers, of the program and of the model. -/
import Derived.Test.YtnnoobdcdfcdaaaTm
import Derived.Test.YtnnoobdcdfcdaaaBm
namespace Go.Proofs.Ytnnoobdcdfcdaaa
set_option maxRecDepth 100000
open Go.RowKit
set_option linter.unusedSimpArgs false
set_option linter.unusedVariables false

theorem split3 (n : Nat) (hn : n < 18446744073709551616) : ∃ x y z : Nat, Lim [x, y, z] ∧ V [x, y, z] = n ∧ wrap64 (bits .and .u64 (n : Int) 16777215) = x ∧ wrap64 (bits .and .u64 ((n : Int) / 16777216) 16777215) = y ∧ wrap64 ((n : Int) / 281474976710656) = z := by
  refine ⟨n % 16777216, n / 16777216 % 16777216, n / 281474976710656, ?_, ?_, ?_, ?_, ?_⟩
  · intro u hu
    rw [Bs_eq]
    simp at hu
    omega
  · simp only [V, Bs_eq]; omega
  · rw [and24_u64, wrap64_small (by omega) (by omega)]; omega
  · rw [and24_u64, wrap64_small (by omega) (by omega)]; omega
  · rw [wrap64_small (by omega) (by omega)]; omega

set_option maxHeartbeats 400000 in
theorem natOf_any (n : Nat) (w : World) (hn : n < 18446744073709551616) :
    Calls Try.prog 93 #[.int .u64 n] w fun e w' => ∃ A, e = .returned (.slice A (limbs n).length (limbs n).length) ∧ Ow w' w.heap.size w'.heap.size A (vs (limbs n)) ∧ Below w.heap.size w w' := by
  obtain ⟨x, y, z, hl, hv, h1, h2, h3⟩ := split3 n hn
  have Hl := Lib.hid hl
  have Hv := Lib.hid hv
  clear hn hl hv
  go_enter Try.func93, Try.ntmps93
  go_wp2_with fail
  obtain ⟨w1, hw1⟩ : ∃ w1, w1 = w.alloc (.cells #[.int .i64 x, .int .i64 y, .int .i64 z] 2) := ⟨_, rfl⟩
  rw [← hw1]
  have ho : Ow w1 w.heap.size w1.heap.size (some ⟨w.heap.size, 0, none⟩) (vs [x, y, z]) := by
    refine .inr ⟨w.heap.size, _, rfl, Nat.le_refl _, by rw [hw1]; simp, by rw [hw1]; exact heap_alloc_new w _, rfl⟩
  have Ho := Lib.hid ho
  have Hb : Hid (Below w.heap.size w w1) := Lib.hid (by rw [hw1]; exact belAlloc1 _ _)
  clear hw1 ho
  refine (trim_any _ 3 3 w1.heap.size [x, y, z] w1 Ho.out.rd rfl Hl.out (by simp) (by simp)).mono ?_
  rintro e w2 ⟨rfl, q, rfl⟩
  have Hp : Hid (limbs n = [x, y, z].take (limbs n).length) := Lib.hid (by have := limbs_prefix Hl.out; rw [Hv.out] at this; exact this)
  rw [Hv.out]
  go_wp2_with fail
  go_ret
  exact ⟨_, rfl, (((Ho.out.take (limbs n).length).eq_ (by rw [← vs_take, ← Hp.out])).drewN q).wide (Nat.le_refl _) (Nat.le_refl _), below_drewN Hb.out q⟩

/-- a result's box, still empty -/
def ResB (w : World) (b : Nat) : Prop := (w.cell? ⟨b, 0, none⟩ = some (.int .i64 0) ∧ w.cell? ⟨b, 1, none⟩ = some (.slice none 0 0) ∧ w.frozen? ⟨b, 0, none⟩ = false ∧ w.frozen? ⟨b, 1, none⟩ = false) ∧ b < w.heap.size
theorem ResB.next {w w' : World} {b : Nat} (h : ResB w b) (hb : Below w.heap.size w w') : ResB w' b :=
  ⟨⟨(hb.cell (p := ⟨b, 0, none⟩) h.2).trans h.1.1, (hb.cell (p := ⟨b, 1, none⟩) h.2).trans h.1.2.1, (hb.frozen (p := ⟨b, 0, none⟩) h.2).trans h.1.2.2.1, (hb.frozen (p := ⟨b, 1, none⟩) h.2).trans h.1.2.2.2⟩, Nat.lt_of_lt_of_le h.2 hb.size⟩
theorem resBox_new (w : World) (t : TypeId) : ResB (w.alloc (.cells #[.int .i64 0, .slice none 0 0] t)) w.heap.size := ⟨⟨by simp, by simp, by go_simp, by go_simp⟩, by simp⟩
theorem Wz.setCell {w : World} {lo hi : Nat} {z : Int} {val : Value} (h : Wz w lo hi z val) {p : Addr} (hp : p.block < lo) (u : Value) : Wz (w.setCell p u) lo hi z val := by
  obtain ⟨A, c, e, o, h3⟩ := h
  exact ⟨A, c, e, o.setCell (.inl hp) u, h3⟩
theorem Wz.cast_ {w : World} {lo hi : Nat} {z z' : Int} {val : Value} (h : Wz w lo hi z val) (e : z = z') : Wz w lo hi z' val := e ▸ h
theorem limbs_short {n : Nat} (h : n < 18446744073709551616) : (((limbs n).length : Nat) : Int) ≤ 1000000 := by
  have : (limbs n).length ≤ 3 := limbs_len_le.2 (Nat.lt_of_lt_of_le h (by rw [Bs_eq]; decide))
  omega
theorem neg_wrap {z : Int} {m : Nat} (hz : z = -(m : Int)) (h0 : 0 < m) (h : m ≤ 9223372036854775808) : IntKind.u64.wrap (-IntKind.u64.wrap z) = m := by
  subst hz
  simp only [IntKind.wrap, show IntKind.u64.bits = 64 from rfl, show IntKind.u64.signed = false from rfl]
  simp
  omega
theorem pos_wrap {z : Int} {m : Nat} (hz : z = m) (h : m ≤ 9223372036854775807) : IntKind.u64.wrap z = m := by
  subst hz
  simp only [IntKind.wrap, show IntKind.u64.bits = 64 from rfl, show IntKind.u64.signed = false from rfl]
  simp
  omega

set_option maxHeartbeats 400000 in
theorem wholeOf_any (z : Int) (w : World) (h1 : -9223372036854775808 ≤ z) (h2 : z ≤ 9223372036854775807) :
    Calls Try.prog 64 #[.int .i64 z] w fun e w' => ∃ val, e = .returned val ∧ Wz w' w.heap.size w'.heap.size z val ∧ Below w.heap.size w w' := by
  have hst := store_int Try.prog
  have hst2 := store_slice Try.prog
  by_cases hneg : z < 0
  · obtain ⟨m, hm⟩ : ∃ m : Nat, z = -(m : Int) := ⟨(-z).toNat, by omega⟩
    have Hm : Hid (-1 * (m : Int) = z ∧ m < 18446744073709551616 ∧ 0 < m) := Lib.hid ⟨by omega, by omega, by omega⟩
    have hw := neg_wrap hm (by omega) (by omega)
    clear hm h1 h2
    go_enter Try.func64, Try.ntmps64
    go_wp2_with fail
    obtain ⟨w1, hw1⟩ : ∃ w1, w1 = w.alloc (.cells #[.int .i64 0, .slice none 0 0] 26) := ⟨_, rfl⟩
    rw [← hw1]
    have Rb1 := Lib.hid (resBox_new w 26)
    rw [← hw1] at Rb1
    have Bel1 : Hid (Below w.heap.size w w1) := Lib.hid (by rw [hw1]; exact belAlloc1 _ _)
    clear hw1
    refine (natOf_any m _ Hm.out.2.1).mono ?_
    rintro e w2 ⟨A2, rfl, ho, hb⟩
    have Bel2 := Lib.hid (belNext Bel1.out hb)
    have Rb2 := Lib.hid (Rb1.out.next hb)
    have O2 := Lib.hid ho
    have Hlt := Lib.hid Rb1.out.2
    clear hb ho Bel1 Rb1
    go_wp2_with fail
    refine (signed_any (-1) m A2 _ _ _ _ _ O2.out rfl (limbs_short Hm.out.2.1) (Nat.le_refl _)).mono ?_
    rintro e w3 ⟨val, rfl, hv, hb⟩
    have Bel3 := Lib.hid (belNext Bel2.out hb)
    have Rb3 := Lib.hid (Rb2.out.next hb)
    have Hz : Hid (Wz w3 w1.heap.size w3.heap.size z val) := Lib.hid (((hv.z (.inr (.inl rfl))).wide (Nat.le_refl _) hb.size).cast_ (by have := Hm.out.1; omega))
    clear hb hv Bel2 Rb2 O2
    obtain ⟨A3, c3, hval, _⟩ := Hz.out
    subst hval
    obtain ⟨⟨r1, r2, r3, r4⟩, _⟩ := Rb3.out
    go_wp2_with fail
    refine bodyPost_ret (v := .agg #[.int .i64 z.sign, .slice A3 (limbs z.natAbs).length c3]) (by simp [results, Try.results64, go_sem, r1, r2]) rfl ⟨_, rfl, ?_, ?_⟩
    · exact ((Hz.out.setCell (by have := Hlt.out; simp; omega) _).setCell (by have := Hlt.out; simp; omega) _).wide (by have := Hlt.out; omega) (by simp)
    · exact (Bel3.out.setCell (by simp) _).setCell (by simp) _
  · obtain ⟨m, hm⟩ : ∃ m : Nat, z = (m : Int) := ⟨z.toNat, by omega⟩
    have Hm : Hid (1 * (m : Int) = z ∧ m < 18446744073709551616) := Lib.hid ⟨by omega, by omega⟩
    have hw := pos_wrap hm (by omega)
    clear hm h1 h2
    go_enter Try.func64, Try.ntmps64
    go_wp2_with fail
    obtain ⟨w1, hw1⟩ : ∃ w1, w1 = w.alloc (.cells #[.int .i64 0, .slice none 0 0] 26) := ⟨_, rfl⟩
    rw [← hw1]
    have Rb1 := Lib.hid (resBox_new w 26)
    rw [← hw1] at Rb1
    have Bel1 : Hid (Below w.heap.size w w1) := Lib.hid (by rw [hw1]; exact belAlloc1 _ _)
    clear hw1
    refine (natOf_any m _ Hm.out.2).mono ?_
    rintro e w2 ⟨A2, rfl, ho, hb⟩
    have Bel2 := Lib.hid (belNext Bel1.out hb)
    have Rb2 := Lib.hid (Rb1.out.next hb)
    have O2 := Lib.hid ho
    have Hlt := Lib.hid Rb1.out.2
    clear hb ho Bel1 Rb1
    go_wp2_with fail
    refine (signed_any 1 m A2 _ _ _ _ _ O2.out rfl (limbs_short Hm.out.2) (Nat.le_refl _)).mono ?_
    rintro e w3 ⟨val, rfl, hv, hb⟩
    have Bel3 := Lib.hid (belNext Bel2.out hb)
    have Rb3 := Lib.hid (Rb2.out.next hb)
    have Hz : Hid (Wz w3 w1.heap.size w3.heap.size z val) := Lib.hid (((hv.z (.inl rfl)).wide (Nat.le_refl _) hb.size).cast_ (by have := Hm.out.1; omega))
    clear hb hv Bel2 Rb2 O2
    obtain ⟨A3, c3, hval, _⟩ := Hz.out
    subst hval
    obtain ⟨⟨r1, r2, r3, r4⟩, _⟩ := Rb3.out
    go_wp2_with fail
    refine bodyPost_ret (v := .agg #[.int .i64 z.sign, .slice A3 (limbs z.natAbs).length c3]) (by simp [results, Try.results64, go_sem, r1, r2]) rfl ⟨_, rfl, ?_, ?_⟩
    · exact ((Hz.out.setCell (by have := Hlt.out; simp; omega) _).setCell (by have := Hlt.out; simp; omega) _).wide (by have := Hlt.out; omega) (by simp)
    · exact (Bel3.out.setCell (by simp) _).setCell (by simp) _

set_option maxHeartbeats 400000 in
theorem implOf_any (z : Int) (w : World) (h1 : -9223372036854775808 ≤ z) (h2 : z ≤ 9223372036854775807) :
    Calls Try.prog 29 #[.int .i64 z] w fun e w' => ∃ val, e = .returned (.tuple #[val, .int .i64 0]) ∧ Wz w' w.heap.size w'.heap.size z val ∧ Below w.heap.size w w' := by
  have hst := store_int Try.prog
  have hst2 := store_slice Try.prog
  have H1 := Lib.hid h1
  have H2 := Lib.hid h2
  clear h1 h2
  go_enter Try.func29, Try.ntmps29
  go_wp2_with fail
  obtain ⟨w1, hw1⟩ : ∃ w1, w1 = w.alloc (.cells #[.int .i64 0, .slice none 0 0] 26) := ⟨_, rfl⟩
  rw [← hw1]
  have Rb1 := Lib.hid (resBox_new w 26)
  rw [← hw1] at Rb1
  have Bel1 : Hid (Below w.heap.size w w1) := Lib.hid (by rw [hw1]; exact belAlloc1 _ _)
  have Hlt := Lib.hid Rb1.out.2
  clear hw1
  refine (wholeOf_any z _ H1.out H2.out).mono ?_
  rintro e w3 ⟨val, rfl, hv, hb⟩
  have Bel3 := Lib.hid (belNext Bel1.out hb)
  have Rb3 := Lib.hid (Rb1.out.next hb)
  have Hz := Lib.hid hv
  clear hb hv Bel1 Rb1
  obtain ⟨A3, c3, hval, _⟩ := Hz.out
  subst hval
  obtain ⟨⟨r1, r2, r3, r4⟩, _⟩ := Rb3.out
  go_wp2_with fail
  refine bodyPost_ret (v := .tuple #[.agg #[.int .i64 z.sign, .slice A3 (limbs z.natAbs).length c3], .int .i64 0]) (by simp [results, Try.results29, go_sem, r1, r2]) rfl ⟨_, rfl, ?_, ?_⟩
  · exact ((Hz.out.setCell (by have := Hlt.out; simp; omega) _).setCell (by have := Hlt.out; simp; omega) _).wide (by have := Hlt.out; omega) (by simp)
  · exact (Bel3.out.setCell (by simp) _).setCell (by simp) _
end Go.Proofs.Ytnnoobdcdfcdaaa
