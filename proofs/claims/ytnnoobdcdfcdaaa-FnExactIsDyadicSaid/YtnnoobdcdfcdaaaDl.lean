/- The laws' functions over exact numbers: copies, sizes, equality, marks. -/
import Derived.Test.YtnnoobdcdfcdaaaHb
import Derived.Test.YtnnoobdcdfcdaaaWm
import Derived.Test.YtnnoobdcdfcdaaaBy
import Derived.Test.YtnnoobdcdfcdaaaLx
namespace Go.Proofs.Ytnnoobdcdfcdaaa
set_option maxRecDepth 100000
open Go.RowKit
set_option linter.unusedSimpArgs false
set_option linter.unusedVariables false

set_option maxHeartbeats 2000000 in
theorem toD2_any (S : Int) (A : Option Addr) (n c : Nat) (E : Int) (xs : List Int) (w : World) (B : Nat) (hr : Rd w B A (vi xs)) (hB : B ≤ w.heap.size) (hn : xs.length = n) (hm : n ≤ 1048576) :
    Calls Try.prog 35 #[.agg #[.int .i64 S, .slice A n c, .int .i64 E]] w fun e w' => ∃ A' c', e = .returned (.agg #[.int .i64 S, .slice A' n c', .int .i64 E]) ∧ Ow w' w.heap.size w'.heap.size A' (vi xs) ∧ Below w.heap.size w w' ∧ n ≤ c' := by
  have hst := store_int Try.prog
  have hst2 := store_slice Try.prog
  obtain ⟨w1, hw1⟩ : ∃ w1, w1 = ((w.alloc (.cells #[.int .i64 S, .slice A n c, .int .i64 E] 49)).alloc (.cells #[.int .i64 0, .slice none 0 0, .int .i64 0] 53)).alloc (.cells #[.int .i64 0, .slice none 0 0, .int .i64 0] 53) := ⟨_, rfl⟩
  have Bx1 : Hid (DBox w1 w.heap.size S A n c E) := Lib.hid (by rw [hw1]; exact ((DBox.new w S A n c E _).next (belAlloc1 _ _)).next (belAlloc1 _ _))
  have RsD1 : Hid (DRes w1 (w.heap.size + 1)) := Lib.hid (by rw [hw1]; have h := (DRes.new (w.alloc (.cells #[.int .i64 S, .slice A n c, .int .i64 E] 49)) 53).next (belAlloc1 _ (.cells #[.int .i64 0, .slice none 0 0, .int .i64 0] 53)); simpa using h)
  have RtD1 : Hid (DRes w1 (w.heap.size + 1 + 1)) := Lib.hid (by rw [hw1]; have h := DRes.new ((w.alloc (.cells #[.int .i64 S, .slice A n c, .int .i64 E] 49)).alloc (.cells #[.int .i64 0, .slice none 0 0, .int .i64 0] 53)) 53; simpa using h)
  have Bel1 : Hid (Below w.heap.size w w1) := Lib.hid (by rw [hw1]; exact belNext (belNext (belAlloc1 _ _) (belAlloc1 _ _)) (belAlloc1 _ _))
  have Hlt : Hid (w.heap.size + 1 + 1 < w1.heap.size) := Lib.hid RtD1.out.2
  have Hr := Lib.hid (hr.up hB)
  have Hn := Lib.hid hn
  have Hw := Lib.hid hw1
  clear hr hn hw1
  go_enter Try.func35, Try.ntmps35
  go_wp2_with fail
  rw [← Hw.out]
  obtain ⟨⟨hBx0, hBx1, hBx2⟩, hBx3⟩ := Bx1.out
  obtain ⟨⟨hRsD0, hRsD1, hRsD2, hRsD3, hRsD4, hRsD5⟩, hRsD6⟩ := RsD1.out
  refine (toW2_any S A n c xs _ w.heap.size (Hr.out.below Bel1.out) Bel1.out.size Hn.out hm).mono ?_
  rintro e w2 ⟨A', c', rfl, ho, hb, hcap⟩
  have Hcap := Lib.hid hcap
  have Ho2 := Lib.hid ho
  clear hcap ho
  have Sz2 := Lib.hid (Below.size hb)
  have Bel2 := Lib.hid (belNext Bel1.out hb)
  have Bx2 := Lib.hid (Bx1.out.next hb)
  have RsD2 := Lib.hid (RsD1.out.next hb)
  have RtD2 := Lib.hid (RtD1.out.next hb)
  clear hb Bel1 Bx1 RsD1 RtD1 hBx0 hBx1 hBx2 hBx3 hRsD0 hRsD1 hRsD2 hRsD3 hRsD4 hRsD5 hRsD6
  obtain ⟨⟨hBx0, hBx1, hBx2⟩, hBx3⟩ := Bx2.out
  obtain ⟨⟨hRsD0, hRsD1, hRsD2, hRsD3, hRsD4, hRsD5⟩, hRsD6⟩ := RsD2.out
  obtain ⟨⟨hT0, hT1, hT2, hT3, hT4, hT5⟩, hT6⟩ := RtD2.out
  go_wp2_with fail
  refine bodyPost_ret (v := .agg #[.int .i64 S, .slice A' n c', .int .i64 E]) (by simp [results, Try.results35, go_sem, hRsD0, hRsD1, hRsD2]) rfl ⟨A', c', rfl, ?_, ?_, Hcap.out⟩
  · exact ((((((Ho2.out.setCell (.inl (by have zz0 := Hlt.out; have zz1 := Sz2.out; first | omega | (simp; done) | (simp; omega))) _).setCell (.inl (by have zz0 := Hlt.out; have zz1 := Sz2.out; first | omega | (simp; done) | (simp; omega))) _).setCell (.inl (by have zz0 := Hlt.out; have zz1 := Sz2.out; first | omega | (simp; done) | (simp; omega))) _).setCell (.inl (by have zz0 := Hlt.out; have zz1 := Sz2.out; first | omega | (simp; done) | (simp; omega))) _).setCell (.inl (by have zz0 := Hlt.out; have zz1 := Sz2.out; first | omega | (simp; done) | (simp; omega))) _).setCell (.inl (by have zz0 := Hlt.out; have zz1 := Sz2.out; first | omega | (simp; done) | (simp; omega))) _).wide (by have zz0 := Hlt.out; have zz1 := Sz2.out; first | omega | (simp; done) | (simp; omega)) (by have zz0 := Hlt.out; have zz1 := Sz2.out; first | omega | (simp; done) | (simp; omega))
  · exact (((((Bel2.out.setCell (by have zz0 := Hlt.out; have zz1 := Sz2.out; first | omega | (simp; done) | (simp; omega)) _).setCell (by have zz0 := Hlt.out; have zz1 := Sz2.out; first | omega | (simp; done) | (simp; omega)) _).setCell (by have zz0 := Hlt.out; have zz1 := Sz2.out; first | omega | (simp; done) | (simp; omega)) _).setCell (by have zz0 := Hlt.out; have zz1 := Sz2.out; first | omega | (simp; done) | (simp; omega)) _).setCell (by have zz0 := Hlt.out; have zz1 := Sz2.out; first | omega | (simp; done) | (simp; omega)) _).setCell (by have zz0 := Hlt.out; have zz1 := Sz2.out; first | omega | (simp; done) | (simp; omega)) _

theorem toD_any (S : Int) (A : Option Addr) (n c : Nat) (E : Int) (xs : List Int) (w : World) (B : Nat) (hr : Rd w B A (vi xs)) (hB : B ≤ w.heap.size) (hn : xs.length = n) (hm : n ≤ 1048576) :
    Calls Try.prog 35 #[.agg #[.int .i64 S, .slice A n c, .int .i64 E]] w fun e w' => ∃ A' c', e = .returned (.agg #[.int .i64 S, .slice A' n c', .int .i64 E]) ∧ Ow w' w.heap.size w'.heap.size A' (vi xs) ∧ Below w.heap.size w w' := by
  refine (toD2_any S A n c E xs w B hr hB hn hm).mono ?_
  rintro e w' ⟨A', c', h1, h2, h3, _⟩
  exact ⟨A', c', h1, h2, h3⟩

set_option maxHeartbeats 400000 in
theorem szD_yes (S : Int) (A : Option Addr) (n c : Nat) (E left : Int) (w : World) (h0 : (n : Int) ≤ left) (h1 : left ≤ 1048576) :
    Calls Try.prog 33 #[.agg #[.int .i64 S, .slice A n c, .int .i64 E], .int .i64 left] w fun e w' => e = .returned (.int .i64 (left - n)) ∧ Below w.heap.size w w' := by
  obtain ⟨w1, hw1⟩ : ∃ w1, w1 = w.alloc (.cells #[.int .i64 S, .slice A n c, .int .i64 E] 49) := ⟨_, rfl⟩
  have Bx1 : Hid (DBox w1 w.heap.size S A n c E) := Lib.hid (by rw [hw1]; exact DBox.new _ _ _ _ _ _ _)
  have Bel1 : Hid (Below w.heap.size w w1) := Lib.hid (by rw [hw1]; exact belAlloc1 _ _)
  have Hw := Lib.hid hw1
  clear hw1
  go_enter Try.func33, Try.ntmps33
  go_wp2_with fail
  rw [← Hw.out]
  obtain ⟨⟨hBx0, hBx1, hBx2⟩, hBx3⟩ := Bx1.out
  refine (szW_yes S A n c left _ h0 h1).mono ?_
  rintro e w2 ⟨rfl, hb⟩
  have Sz2 := Lib.hid (Below.size hb)
  have Bel2 := Lib.hid (belNext Bel1.out hb)
  have Bx2 := Lib.hid (Bx1.out.next hb)
  clear hb Bel1 Bx1 hBx0 hBx1 hBx2 hBx3
  obtain ⟨⟨hBx0, hBx1, hBx2⟩, hBx3⟩ := Bx2.out
  go_wp2_with fail
  go_ret
  exact ⟨rfl, Bel2.out⟩

set_option maxHeartbeats 400000 in
theorem szD_no (S : Int) (A : Option Addr) (n c : Nat) (E left : Int) (w : World) (h0 : left < n) (h2 : 0 ≤ left) (h1 : left ≤ 1048576) (hm : (n : Int) ≤ 9223372036854775807) :
    Calls Try.prog 33 #[.agg #[.int .i64 S, .slice A n c, .int .i64 E], .int .i64 left] w fun e w' => e = .returned (.int .i64 (-1)) ∧ Below w.heap.size w w' := by
  obtain ⟨w1, hw1⟩ : ∃ w1, w1 = w.alloc (.cells #[.int .i64 S, .slice A n c, .int .i64 E] 49) := ⟨_, rfl⟩
  have Bx1 : Hid (DBox w1 w.heap.size S A n c E) := Lib.hid (by rw [hw1]; exact DBox.new _ _ _ _ _ _ _)
  have Bel1 : Hid (Below w.heap.size w w1) := Lib.hid (by rw [hw1]; exact belAlloc1 _ _)
  have Hw := Lib.hid hw1
  clear hw1
  go_enter Try.func33, Try.ntmps33
  go_wp2_with fail
  rw [← Hw.out]
  obtain ⟨⟨hBx0, hBx1, hBx2⟩, hBx3⟩ := Bx1.out
  refine (szW_no S A n c left _ h0 h2 h1 hm).mono ?_
  rintro e w2 ⟨rfl, hb⟩
  have Sz2 := Lib.hid (Below.size hb)
  have Bel2 := Lib.hid (belNext Bel1.out hb)
  have Bx2 := Lib.hid (Bx1.out.next hb)
  clear hb Bel1 Bx1 hBx0 hBx1 hBx2 hBx3
  obtain ⟨⟨hBx0, hBx1, hBx2⟩, hBx3⟩ := Bx2.out
  go_wp2_with fail
  go_ret
  exact ⟨rfl, Bel2.out⟩

set_option maxHeartbeats 1000000 in
theorem eqD_yes (S : Int) (A A' : Option Addr) (n c c' B B' : Nat) (E : Int) (xs : List Int) (w : World) (hr : Rd w B A (vi xs)) (hr' : Rd w B' A' (vi xs)) (hB : B ≤ w.heap.size) (hB' : B' ≤ w.heap.size) (hn : xs.length = n) (hm : n ≤ 1048576) :
    Calls Try.prog 37 #[.agg #[.int .i64 S, .slice A n c, .int .i64 E], .agg #[.int .i64 S, .slice A' n c', .int .i64 E]] w fun e w' => e = .returned (.bool true) ∧ Below w.heap.size w w' := by
  obtain ⟨w1, hw1, hb1, hb2, hb4⟩ := dbox2 w S S A A' n n c c' E E 53 53
  have Hr := Lib.hid (hr.up hB)
  have Hr' := Lib.hid (hr'.up hB')
  have Hn := Lib.hid hn
  have Hw := Lib.hid hw1
  have Bx1 := Lib.hid hb1
  have By1 := Lib.hid hb2
  have Bel1 := Lib.hid hb4
  clear hr hr' hn hw1 hb1 hb2 hb4
  go_enter Try.func37, Try.ntmps37
  go_wp2_with fail
  rw [← Hw.out]
  obtain ⟨⟨hBx0, hBx1, hBx2⟩, hBx3⟩ := Bx1.out
  obtain ⟨⟨hBy0, hBy1, hBy2⟩, hBy3⟩ := By1.out
  refine (eqW_yes S A A' n c c' w.heap.size w.heap.size xs _ (Hr.out.below Bel1.out) (Hr'.out.below Bel1.out) Bel1.out.size Bel1.out.size Hn.out hm).mono ?_
  rintro e w2 ⟨rfl, hb⟩
  have Sz2 := Lib.hid (Below.size hb)
  have Bel2 := Lib.hid (belNext Bel1.out hb)
  have Bx2 := Lib.hid (Bx1.out.next hb)
  have By2 := Lib.hid (By1.out.next hb)
  clear hb Bel1 Bx1 By1 hBx0 hBx1 hBx2 hBx3 hBy0 hBy1 hBy2 hBy3
  obtain ⟨⟨hBx0, hBx1, hBx2⟩, hBx3⟩ := Bx2.out
  obtain ⟨⟨hBy0, hBy1, hBy2⟩, hBy3⟩ := By2.out
  go_wp2_with fail
  go_ret
  exact ⟨rfl, Bel2.out⟩

theorem DBox.grown {w w' : World} {b n c lo hi : Nat} {S E : Int} {A : Option Addr} {row : Option Nat} (h : DBox w b S A n c E) (hg : w.grownBy w' row) (hr : ∀ g, row = some g → lo ≤ g ∧ g < hi) (hne : b < lo ∨ hi ≤ b) : DBox w' b S A n c E := by
  have hb : w'.heap[b]? = w.heap[b]? := hg.block b h.2 (fun e => by have := hr b e.symm; omega)
  exact ⟨⟨(World.cell?_of_block (a := ⟨b, 0, none⟩) hb).trans h.1.1, (World.cell?_of_block (a := ⟨b, 1, none⟩) hb).trans h.1.2.1, (World.cell?_of_block (a := ⟨b, 2, none⟩) hb).trans h.1.2.2⟩, Nat.lt_of_lt_of_le h.2 hg.size⟩
theorem Ot.st3_ {w : World} {b lo hi : Nat} {s E : Int} {A A' : Option Addr} {n c : Nat} {xs : List Value} (h : Ot w lo hi A' xs) (hne : b < lo ∨ hi ≤ b) : Ot (st3 w b s A n c E) lo hi A' xs :=
  ⟨h.1.keep (fun g h1 h2 _ => st3_heap (by omega)), by rw [st3_size]; exact h.2⟩
theorem Rt.st3_ {w : World} {b B : Nat} {s E : Int} {A A' : Option Addr} {n c : Nat} {xs : List Value} (h : Rt w B A' xs) (hB : B ≤ b) : Rt (st3 w b s A n c E) B A' xs :=
  ⟨h.1.carry (fun p hp => World.cell?_of_block (st3_heap (by omega))), by rw [st3_size]; exact h.2⟩
theorem resFormD {w : World} {lo hi : Nat} {z Sr S : Int} {Ar : Option Addr} {nr cr N : Nat} {XS : List Int} (h : ZO w lo hi z Sr Ar nr cr) (hS : S = z.sign) (hN : N = (limbs z.natAbs).length) (hX : XS = li (limbs z.natAbs)) : Sr = S ∧ nr = N ∧ Ow w lo hi Ar (vi XS) := by
  subst hS hN hX
  exact ⟨h.1, h.2.1.symm, h.2.2.2.1⟩
section
open Go.ChangeShapes Go.WideShapes Go.ChangeAt Go.Deep
variable {H : Type} {enc : TypeId × Value → H}
/-- an exact number of the laws that came in -/
theorem open_dyadic {W : World} {base : Nat} {v : Value} {d : DataW H} {p : List MemPlace} (hval : Value.okWide Try.prog W .any base 49 v)
    (h : DataW.Trod enc Try.prog W 0 (fun _ => true) true 49 v d p) :
    ∃ (s : Int) (A : Option Addr) (n c : Nat) (xs : List Int) (E : Int), v = .agg #[.int .i64 s, .slice A n c, .int .i64 E] ∧ Rd W W.heap.size A (vi xs) ∧ (xs.length = n ∧ (n : Int) ≤ 9223372036854775807) ∧ (∀ x ∈ xs, -9223372036854775808 ≤ x ∧ x ≤ 9223372036854775807) := by
  obtain ⟨cs, rfl, hsz⟩ := okWide_struct Try.underlying49 hval
  obtain ⟨c0, c1, c2, rfl⟩ := Go.Joins.array3 (hsz.trans (show Try.prog.cellsOf 49 = 3 by kernel_rfl))
  obtain ⟨fuel, hf⟩ := h
  obtain ⟨y0, y1, n, _, _, h0, h1⟩ := trod_struct2 Try.underlying49 hf
  have hW : Try.prog.cellsOf 24 = 2 := by kernel_rfl
  have hI : Try.prog.cellsOf 2 = 1 := by kernel_rfl
  have hS : Try.prog.cellsOf 22 = 1 := by kernel_rfl
  simp only [Value.cells, hW, hI] at h0 h1
  obtain ⟨z0, z1, m, _, _, g0, g1⟩ := trod_struct2 Try.underlying24 h0
  simp only [hI, hS] at g0 g1
  obtain ⟨s, e0, _, _⟩ := trod_i64 (v := c0) (by simpa using g0)
  obtain ⟨A, n', c, xs, e1, hr, hl, hm, hx⟩ := open_i64s_at (v := c1) (by simpa using g1)
  obtain ⟨E, e2, _, _⟩ := trod_i64 (v := c2) (by simpa using h1)
  subst e0 e1 e2
  exact ⟨s, A, n', c, xs, E, rfl, hr, ⟨hl, hm⟩, hx⟩
end
end Go.Proofs.Ytnnoobdcdfcdaaa
