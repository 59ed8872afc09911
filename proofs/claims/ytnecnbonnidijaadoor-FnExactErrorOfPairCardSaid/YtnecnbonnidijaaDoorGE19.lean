/- Texts of this seat, joined: Tf Ef Pe Pf Pg Ph Pt Pu -/
import Derived.Test.YtnecnbonnidijaaDoorGE10
import Derived.Test.YtnecnbonnidijaaDoorGE8
import Derived.Test.YtnecnbonnidijaaDoorGE4
import Derived.Test.YtnecnbonnidijaaDoorGE6
/- Exact sums of floats, of the program and of the model. -/
namespace Go.Proofs.YtnecnbonnidijaaDoor
set_option maxRecDepth 100000
open Go.RowKit
set_option linter.unusedSimpArgs false
set_option linter.unusedVariables false

theorem uI_uV (b : Nat) : uV (-149) (fz b) (fe b) = uI b := by
  unfold uV uI
  rw [show fe b - -149 = fe b + 149 by omega, Int.mul_comm]
def uS (l : List Nat) : Int := (l.map uI).sum
theorem uS_take {l : List Nat} {k : Nat} (hk : k < l.length) : uS (l.take (k + 1)) = uS (l.take k) + uI l[k] := by
  unfold uS
  rw [List.take_succ_eq_append_getElem hk, List.map_append, List.sum_append]
  simp
theorem uS_two (x y : Nat) : uS [x, y] = uI x + uI y := by unfold uS; simp
theorem uI_bound {b : Nat} (hf : fin32 b = true) : (uI b).natAbs ≤ 16777216 * 2 ^ 253 := by
  rw [uI_abs]
  have h1 := mant_lt (b % 2147483648)
  have h2 := expo_le (b % 2147483648) (of_decide_eq_true hf)
  exact Nat.mul_le_mul (by omega) (Nat.pow_le_pow_right (by omega) h2)
theorem uS_bound {l : List Nat} (hl : ∀ f ∈ l, fin32 f = true) : (uS l).natAbs ≤ l.length * (16777216 * 2 ^ 253) := by
  induction l with
  | nil => simp [uS]
  | cons b l ih =>
    have h1 := ih (fun f hf => hl f (by simp [hf]))
    have h2 := uI_bound (hl b (by simp))
    have e : uS (b :: l) = uI b + uS l := by unfold uS; simp
    rw [e, List.length_cons, Nat.add_mul, Nat.one_mul]
    omega
theorem lim_280 : 8 * (16777216 * 2 ^ 253) < Bs ^ 12 := by
  rw [Bs_pow]
  decide +kernel
theorem u_len {U : Int} (h : U.natAbs ≤ 8 * (16777216 * 2 ^ 253)) : (limbs U.natAbs).length ≤ 12 := by
  rw [limbs_len_le]
  exact Nat.lt_of_le_of_lt h lim_280
theorem uS_small {l : List Nat} {n : Nat} (hl : ∀ f ∈ l, fin32 f = true) (hn : l.length = n) (hm : (n : Int) ≤ 8) : (uS l).natAbs ≤ 8 * (16777216 * 2 ^ 253) :=
  Nat.le_trans (uS_bound hl) (Nat.mul_le_mul_right _ (by omega))
theorem z_len {Z E U : Int} (h : uV (-149) Z E = U) (hU : U.natAbs ≤ 8 * (16777216 * 2 ^ 253)) : (limbs Z.natAbs).length ≤ 12 :=
  Nat.le_trans (limbs_len_mono (by have h1 := uV_le (-149) Z E; rw [h] at h1; exact h1)) (u_len hU)
/-- the normal form of a sum, by its units alone -/
theorem z_norm {Z E U : Int} (h : uV (-149) Z E = U) (hE : -149 ≤ E) : nz Z = nz U ∧ nx Z E = nx U (-149) :=
  nzx_same (B := -149) hE (Int.le_refl _) (by rw [h, uV_one])
theorem nx_u {U : Int} (hU : U.natAbs ≤ 8 * (16777216 * 2 ^ 253)) : -149 ≤ nx U (-149) ∧ nx U (-149) ≤ 139 := by
  have h := u_len hU
  by_cases h0 : U = 0
  · rw [h0, nx_zero]; omega
  · rw [nx_ne h0]
    have := tz_le (v := U.natAbs) rfl
    omega

set_option maxHeartbeats 2000000 in
theorem implSumOf_any (l : List Nat) (A : Option Addr) (n c : Nat) (w : World) (hr : Rd w w.heap.size A (fs l)) (hn : l.length = n) (hm : (n : Int) ≤ 8) (hl : ∀ f ∈ l, f < 4294967296) (hf : ∀ f ∈ l, fin32 f = true) (hT : TabZ w) :
    Calls Tryd.prog 76 #[.slice A n c] w fun e w' => ∃ Z E Sr Ar nr cr, e = .returned (.agg #[.int .i64 Sr, .slice Ar nr cr, .int .i64 E]) ∧ ZO w' w.heap.size w'.heap.size Z Sr Ar nr cr ∧ uV (-149) Z E = uS l ∧ -149 ≤ E ∧ E ≤ 0 ∧ Below w.heap.size w w' := by
  have hst := store_int Tryd.prog
  have hst2 := store_slice Tryd.prog
  have Hn := Lib.hid hn
  have Hm := Lib.hid hm
  have Hl := Lib.hid hl
  have Hf := Lib.hid hf
  have Hr := Lib.hid hr
  have HT := Lib.hid hT
  obtain ⟨w1, hw1⟩ : ∃ w1, w1 = (w.alloc (.cells #[.int .i64 0, .slice none 0 0, .int .i64 0] 30)).alloc (.cells #[.int .i64 0, .slice none 0 0, .int .i64 0] 30) := ⟨_, rfl⟩
  have Bel1 : Hid (Below w.heap.size w w1) := Lib.hid (by rw [hw1]; exact belNext (belAlloc1 _ _) (belAlloc1 _ _))
  have Rs1 : Hid (DRes w1 w.heap.size) := Lib.hid (by rw [hw1]; exact (DRes.new _ _).next (belAlloc1 _ _))
  have Ba1 : Hid (DBox w1 (w.heap.size + 1) 0 none 0 0 0) := Lib.hid (by rw [hw1]; have h := DBox.new (w.alloc (.cells #[.int .i64 0, .slice none 0 0, .int .i64 0] 30)) 0 none 0 0 0 30; simpa using h)
  have Fr1 : Hid (Fr3 w1 (w.heap.size + 1)) := Lib.hid (by rw [hw1]; have h := Fr3.new (w.alloc (.cells #[.int .i64 0, .slice none 0 0, .int .i64 0] 30)) 0 none 0 0 0 30; simpa using h)
  have Hs1 : Hid (w.heap.size + 2 ≤ w1.heap.size) := Lib.hid (by rw [hw1]; simp)
  have Hw := Lib.hid hw1
  clear hn hm hl hf hr hT hw1
  go_enter Tryd.func76, Tryd.ntmps76
  go_wp2_with fail
  rw [← Hw.out]
  go_loopw [11] (fun i wr => ∃ (k : Nat) (Z E S : Int) (A' : Option Addr) (n' c' : Nat), k ≤ n ∧ i = .int .i64 k ∧ DBox wr (w.heap.size + 1) S A' n' c' E ∧ Fr3 wr (w.heap.size + 1) ∧ DRes wr w.heap.size ∧ ZO wr (w.heap.size + 2) wr.heap.size Z S A' n' c' ∧ uV (-149) Z E = uS (l.take k) ∧ -149 ≤ E ∧ E ≤ 0 ∧ Below w.heap.size w wr ∧ w.heap.size + 2 ≤ wr.heap.size) (fun i _ => n - (intOf i).toNat)
  case atStart => exact ⟨0, 0, 0, 0, none, 0, 0, Nat.zero_le _, rfl, Ba1.out, Fr1.out, Rs1.out, ZO.zero (Nat.le_refl _), by simp [uS, uV_zero], by omega, by omega, Bel1.out, Hs1.out⟩
  case round =>
    obtain ⟨k, Z, E, S, A', n', c', hk, rfl, hba, hfr, hrs, hzo, hu, hE1, hE2, hbel, hsz⟩ := hrel
    clear Ba1 Fr1 Rs1 Bel1 Hs1
    have Ba1 := Lib.hid hba
    have Fr1 := Lib.hid hfr
    have Rs1 := Lib.hid hrs
    have Zo1 := Lib.hid hzo
    have Hu := Lib.hid hu
    have Bel1 := Lib.hid hbel
    have Hs1 := Lib.hid hsz
    have Hz12 : Hid ((n' : Int) ≤ 12) := Lib.hid (by
      have h := z_len hu (uS_small (l := l.take k) (n := (l.take k).length) (fun f hf => Hf.out f (List.mem_of_mem_take hf)) rfl (by rw [List.length_take]; have := Hn.out; have := Hm.out; omega))
      have e := hzo.2.1
      omega)
    clear hrs hzo hu hbel hsz
    by_cases hlt : k < n
    · have hkx : k < l.length := by rw [Hn.out]; exact hlt
      have hrd := Hr.out.below Bel1.out
      obtain ⟨q, hq, _⟩ := hrd.some_ (by rw [fs_len]; omega)
      subst hq
      have hcx := hrd.cell (k := k) (by rw [fs_len]; exact hkx)
      rw [fs_get hkx] at hcx
      have Hxb := Lib.hid (Hl.out _ (List.getElem_mem hkx))
      have Hxf := Lib.hid (Hf.out _ (List.getElem_mem hkx))
      have Hnx := Lib.hid (uS_take hkx)
      generalize l[k] = x at *
      clear hkx hrd hba hfr
      go_wp2_with fail
      refine (implOf_any x _ Hxb.out (HT.out.next Bel1.out)).mono ?_
      rintro e w2 ⟨S2, A2, n2, c2, rfl, hzo, hb⟩
      have hof := of_yes2 Hxf.out
      have hzo : ZO w2 wr.heap.size w2.heap.size (fz x) S2 A2 n2 c2 := by rw [hof.1] at hzo; exact hzo
      rw [show ofX x = fe x from hof.2.1, hof.2.2]
      have hfe := fe_small Hxf.out
      obtain ⟨X, hX⟩ : ∃ X, X = fe x := ⟨_, rfl⟩
      rw [← hX] at hfe ⊢
      have HX := Lib.hid hX
      obtain ⟨hX1, hX2⟩ := hfe
      have Zx2 := Lib.hid hzo
      have Hn2 : Hid ((n2 : Int) ≤ 1) := Lib.hid (fz_len Hxf.out hzo.2.1)
      have Ba2 := Lib.hid (Ba1.out.next hb)
      have Fr2 := Lib.hid (Fr1.out.next hb)
      have Rs2 := Lib.hid (Rs1.out.next hb)
      have Zo2 := Lib.hid (Zo1.out.next hb)
      have Bel2 := Lib.hid (belNext Bel1.out hb)
      have Sz2 : Hid (wr.heap.size ≤ w2.heap.size) := Lib.hid hb.size
      clear hzo hb Ba1 Fr1 Rs1 Zo1 Bel1 hof hX hcx
      go_upto_region 6 with fail
      obtain ⟨w3, hw3⟩ : ∃ w3, w3 = w2.alloc (.cells #[.int .i64 S2, .slice A2 n2 c2, .int .i64 X] 30) := ⟨_, rfl⟩
      rw [← hw3]
      have hb : Below w2.heap.size w2 w3 := by rw [hw3]; exact belAlloc1 _ _
      have Bv3 : Hid (DBox w3 w2.heap.size S2 A2 n2 c2 X) := Lib.hid (by rw [hw3]; exact DBox.new _ _ _ _ _ _ _)
      have Ba3 := Lib.hid (Ba2.out.next hb)
      have Fr3_ := Lib.hid (Fr2.out.next hb)
      have Rs3 := Lib.hid (Rs2.out.next hb)
      have Zo3 := Lib.hid (Zo2.out.next hb)
      have Zx3 := Lib.hid (Zx2.out.next hb)
      have Bel3 := Lib.hid (belNext Bel2.out hb)
      have Sz3 : Hid (w2.heap.size < w3.heap.size) := Lib.hid (by rw [hw3]; simp)
      clear hw3 hb Ba2 Fr2 Rs2 Zo2 Zx2 Bel2
      obtain ⟨⟨hv0, hv1, hv2⟩, hv3⟩ := Bv3.out
      obtain ⟨⟨ha0, ha1, ha2⟩, ha3⟩ := Ba3.out
      go_wp2_with fail
      refine (implPlusD_any Z S E (fz x) S2 X A' A2 n' c' n2 c2 _ Zo3.out.zv Zx3.out.zv (by have := Hz12.out; omega) (by have := Hn2.out; omega) (by omega) (by omega) (by omega) (by omega) (HT.out.next Bel3.out)).mono ?_
      rintro e w4 ⟨S4, A4, n4, c4, rfl, hzo, hb⟩
      have Zr4 := Lib.hid hzo
      have Ba4 := Lib.hid (Ba3.out.next hb)
      have Fr4 := Lib.hid (Fr3_.out.next hb)
      have Rs4 := Lib.hid (Rs3.out.next hb)
      have Bel4 := Lib.hid (belNext Bel3.out hb)
      have Sz4 : Hid (w3.heap.size ≤ w4.heap.size) := Lib.hid hb.size
      have Hun : Hid (uV (-149) (sumZ Z E (fz x) X) (min E X) = uS (l.take (k + 1))) := Lib.hid (by rw [uV_sum hE1 hX1, Hu.out, HX.out, uI_uV, Hnx.out])
      have Hmn : Hid (-149 ≤ min E X ∧ min E X ≤ 0) := Lib.hid (by omega)
      obtain ⟨mE, hmE⟩ : ∃ mE, mE = min E X := ⟨_, rfl⟩
      rw [← hmE] at Hun Hmn ⊢
      clear hzo hb Ba3 Fr3_ Rs3 Zo3 Zx3 Bel3 hv0 hv1 hv2 hv3 ha0 ha1 ha2 ha3 hmE Bv3
      obtain ⟨⟨ha0, ha1, ha2⟩, ha3⟩ := Ba4.out
      obtain ⟨⟨hf0, hf1, hf2⟩, hf3⟩ := Fr4.out
      have hm8 := Hm.out
      go_wp2_with fail
      have hs2 := Hs1.out
      have hs3 := Sz2.out
      have hs4 := Sz3.out
      have hs5 := Sz4.out
      go_round
      case rel => exact ⟨k + 1, sumZ Z E (fz x) X, mE, S4, A4, n4, c4, by omega, by go_num, DBox.made ha3 ⟨_, ha0⟩ ⟨_, ha1⟩ ⟨_, ha2⟩, Fr4.out.made, Rs4.out.st3_ (by omega), (Zr4.out.st3_ (.inl (by omega))).wide (by omega) (by first | (rw [st3_size]; done) | (unfold st3; simp; done) | (unfold st3; simp; omega) | (simp; done) | (simp; omega)) (by first | (rw [st3_size]; done) | (unfold st3; simp; done) | (unfold st3; simp; omega) | (simp; done) | (simp; omega)), Hun.out, Hmn.out.1, Hmn.out.2, belSt3 Bel4.out (by omega), (by first | (rw [st3_size]; done) | (unfold st3; simp; done) | (unfold st3; simp; omega) | (simp; done) | (simp; omega))⟩
      case measure => simp [intOf]; omega
    · have hin : k = n := by omega
      have Hall : Hid (l.take k = l) := Lib.hid (List.take_of_length_le (by rw [Hn.out]; omega))
      subst hin
      obtain ⟨⟨ha0, ha1, ha2⟩, ha3⟩ := hba
      obtain ⟨⟨hRsD0, hRsD1, hRsD2, hRsD3, hRsD4, hRsD5⟩, hRsD6⟩ := Rs1.out
      go_wp2_with fail
      have hs2 := Hs1.out
      refine bodyPost_ret (v := .agg #[.int .i64 S, .slice A' n' c', .int .i64 E]) (by simp [results, Tryd.results76, go_sem, hRsD0, hRsD1, hRsD2]) rfl ⟨Z, E, S, A', n', c', rfl, ?_, by rw [Hu.out, Hall.out], hE1, hE2, ?_⟩
      · exact (((Zo1.out.setCell (.inl (by first | (simp; done) | (simp; omega))) _).setCell (.inl (by first | (simp; done) | (simp; omega))) _).setCell (.inl (by first | (simp; done) | (simp; omega))) _).wide (by omega) (by simp) (by simp)
      · exact ((Bel1.out.setCell (by simp) _).setCell (by simp) _).setCell (by simp) _

end Go.Proofs.YtnecnbonnidijaaDoor
/- Values of pairs and exact sums of floats, of the model. -/
namespace Go.Proofs.YtnecnbonnidijaaDoor
set_option maxRecDepth 100000
open Go.RowKit
set_option linter.unusedSimpArgs false
set_option linter.unusedVariables false

theorem sum_vn {a b : Int} : nz (sumZ (nz a) (nx a (-149)) (nz b) (nx b (-149))) = nz (a + b) ∧ nx (sumZ (nz a) (nx a (-149)) (nz b) (nx b (-149))) (min (nx a (-149)) (nx b (-149))) = nx (a + b) (-149) := by
  have g1 := nx_ge (B := -149) (z := a) (e := -149) (Int.le_refl _) (by omega)
  have g2 := nx_ge (B := -149) (z := b) (e := -149) (Int.le_refl _) (by omega)
  refine nzx_same (B := -149) (by omega) (Int.le_refl _) ?_
  rw [uV_sum g1 g2, uV_nz (Int.le_refl _), uV_nz (Int.le_refl _), uV_one, uV_one, uV_one]
theorem f_vn (b : Nat) : fz b = nz (uI b) ∧ fe b = nx (uI b) (-149) := by
  have e : uI b = uV (-149) (ofM b) (ofP b) := by
    rw [uI_ofM]
    unfold uV ofP
    rw [show (-149 + (expo (b % 2147483648) : Int) - -149).toNat = expo (b % 2147483648) by omega, Int.mul_comm]
  rw [e, nz_uV, nx_uV (ofP_ge b)]
  exact ⟨rfl, rfl⟩

set_option maxHeartbeats 2000000 in
theorem specVal_any (h l : Nat) (w : World) (hh : h < 4294967296) (hl : l < 4294967296) (hf1 : fin32 h = true) (hf2 : fin32 l = true) :
    Calls Tryd.prog 74 #[.agg #[.float .f32 h, .float .f32 l]] w fun e w' => ∃ Sr Ar nr cr, e = .returned (.agg #[.int .i64 Sr, .slice Ar nr cr, .int .i64 (nx (uI h + uI l) (-149))]) ∧ ZO w' w.heap.size w'.heap.size (nz (uI h + uI l)) Sr Ar nr cr ∧ Below w.heap.size w w' := by
  have hst := store_int Tryd.prog
  have hst2 := store_slice Tryd.prog
  have Hb := Lib.hid (And.intro hh hl)
  have Hf := Lib.hid (And.intro hf1 hf2)
  obtain ⟨w1, hw1⟩ : ∃ w1, w1 = (w.alloc (.cells #[.float .f32 h, .float .f32 l] 48)).alloc (.cells #[.int .i64 0, .slice none 0 0, .int .i64 0] 30) := ⟨_, rfl⟩
  have Pp1 : Hid (PB w1 w.heap.size h l) := Lib.hid (by rw [hw1]; exact (PB.new _ _ _ _).next (belAlloc1 _ _))
  have RsD1 : Hid (DRes w1 (w.heap.size + 1)) := Lib.hid (by rw [hw1]; have h := DRes.new (w.alloc (.cells #[.float .f32 h, .float .f32 l] 48)) 30; simpa using h)
  have Bel1 : Hid (Below w.heap.size w w1) := Lib.hid (by rw [hw1]; exact belNext (belAlloc1 _ _) (belAlloc1 _ _))
  have Hlt : Hid (w.heap.size + 1 < w1.heap.size) := Lib.hid RsD1.out.2
  have Hw := Lib.hid hw1
  have hx1 := fe_small hf1
  have hx2 := fe_small hf2
  obtain ⟨X, hX⟩ : ∃ X, X = fe h := ⟨_, rfl⟩
  obtain ⟨Y, hY⟩ : ∃ Y, Y = fe l := ⟨_, rfl⟩
  rw [← hX] at hx1
  rw [← hY] at hx2
  obtain ⟨hx1, hx3⟩ := hx1
  obtain ⟨hx2, hx4⟩ := hx2
  have HX := Lib.hid hX
  have HY := Lib.hid hY
  clear hh hl hf1 hf2 hw1 hX hY
  go_enter Tryd.func74, Tryd.ntmps74
  go_wp2_with fail
  rw [← Hw.out]
  obtain ⟨⟨hPp0, hPp1⟩, hPp2⟩ := Pp1.out
  obtain ⟨⟨hRsD0, hRsD1, hRsD2, hRsD3, hRsD4, hRsD5⟩, hRsD6⟩ := RsD1.out
  refine wp_region_held_drew (S := fun w' => (w'.cell? ⟨w.heap.size, 0, none⟩ = some (.float .f32 h) ∧ w'.cell? ⟨w.heap.size, 1, none⟩ = some (.float .f32 l))) (by kernel_rfl) Pp1.out.1 (fun hHeld => ?_)
  clear hPp0 hPp1 hPp2 hRsD0 hRsD1 hRsD2 hRsD3 hRsD4 hRsD5 hRsD6
  refine wpAnyH_take (i := 0) (v := ?_) rfl (by kernel_rfl) (by kernel_rfl) (by kernel_rfl) (fun _ _ _ h => h) (Or.inl ⟨by rfl, ?_⟩) (by assumption) ?_
  rotate_left
  · (intro w hSw; (try dsimp only at hSw); go_simp; (try with_reducible rfl))
  try simp only [Act.put, List.setIfInBounds_toArray, List.set_cons_zero, List.set_cons_succ, List.getElem_toArray, List.getElem_cons_succ, List.getElem_cons_zero]
  refine wpAnyH_take (i := 1) (v := ?_) rfl (by kernel_rfl) (by kernel_rfl) (by kernel_rfl) (fun _ _ _ h => h) (Or.inl ⟨by rfl, ?_⟩) (by assumption) ?_
  rotate_left
  · (intro w hSw; (try dsimp only at hSw); go_simp; (try with_reducible rfl))
  try simp only [Act.put, List.setIfInBounds_toArray, List.set_cons_zero, List.set_cons_succ, List.getElem_toArray, List.getElem_cons_succ, List.getElem_cons_zero]
  refine wpAnyH_take (i := 3) (v := ?_) rfl (by kernel_rfl) (by kernel_rfl) (by kernel_rfl) (fun _ _ _ h => h) (Or.inl ⟨by rfl, ?_⟩) (by assumption) ?_
  rotate_left
  · (intro w hSw; (try dsimp only at hSw); go_simp; (try with_reducible rfl))
  try simp only [Act.put, List.setIfInBounds_toArray, List.set_cons_zero, List.set_cons_succ, List.getElem_toArray, List.getElem_cons_succ, List.getElem_cons_zero]
  refine wpAnyH_take (i := 4) (v := ?_) rfl (by kernel_rfl) (by kernel_rfl) (by kernel_rfl) (fun _ _ _ h => h) (Or.inl ⟨by rfl, ?_⟩) (by assumption) ?_
  rotate_left
  · (intro w hSw; (try dsimp only at hSw); go_simp; (try with_reducible rfl))
  try simp only [Act.put, List.setIfInBounds_toArray, List.set_cons_zero, List.set_cons_succ, List.getElem_toArray, List.getElem_cons_succ, List.getElem_cons_zero]
  refine wpAnyH_ready (rs := [2]) (by kernel_rfl) (by simp) ?_
  refine AllReadyH.cons rfl (fun K hK => ?_) AllReadyH.nil
  go_simp
  refine (specOfD_any h w1.drew Hb.out.1 Hf.out.1).mono ?_
  rintro e w2 ⟨S2, A2, n2, c2, rfl, hzo, hb0⟩
  have hb : Below w1.heap.size w1 w2 := belDrew hb0
  rw [show nx (ofM h) (ofP h) = X from HX.out.symm]
  have Zo2 : Hid (ZO w2 w1.heap.size w2.heap.size (fz h) S2 A2 n2 c2) := Lib.hid hzo
  have Hn2 : Hid ((n2 : Int) ≤ 1) := Lib.hid (fz_len Hf.out.1 hzo.2.1)
  clear hzo
  refine hK.out _ _ ((Pp1.out.next hb).1) (fun hHeld => ?_)
  clear hK K hb0
  have Sz2 := Lib.hid (Below.size hb)
  have Bel2 := Lib.hid (belNext Bel1.out hb)
  have Pp2 := Lib.hid (Pp1.out.next hb)
  have RsD2 := Lib.hid (RsD1.out.next hb)
  clear hb Bel1 Pp1 RsD1
  try simp only [Act.put, List.setIfInBounds_toArray, List.set_cons_zero, List.set_cons_succ, List.getElem_toArray, List.getElem_cons_succ, List.getElem_cons_zero]
  refine wpAnyH_ready (rs := [5]) (by kernel_rfl) (by simp) ?_
  refine AllReadyH.cons rfl (fun K hK => ?_) AllReadyH.nil
  go_simp
  refine (specOfD_any l w2 Hb.out.2 Hf.out.2).mono ?_
  rintro e w3 ⟨S3, A3, n3, c3, rfl, hzo, hb0⟩
  have hb : Below w2.heap.size w2 w3 := hb0
  rw [show nx (ofM l) (ofP l) = Y from HY.out.symm]
  have Zq3 : Hid (ZO w3 w2.heap.size w3.heap.size (fz l) S3 A3 n3 c3) := Lib.hid hzo
  have Hn3 : Hid ((n3 : Int) ≤ 1) := Lib.hid (fz_len Hf.out.2 hzo.2.1)
  clear hzo
  refine hK.out _ _ ((Pp2.out.next hb).1) (fun hHeld => ?_)
  clear hK K hb0
  have Sz3 := Lib.hid (Below.size hb)
  have Bel3 := Lib.hid (belNext Bel2.out hb)
  have Pp3 := Lib.hid (Pp2.out.next hb)
  have RsD3 := Lib.hid (RsD2.out.next hb)
  have Zo3 := Lib.hid (Zo2.out.next hb)
  clear hb Bel2 Pp2 RsD2 Zo2
  try simp only [Act.put, List.setIfInBounds_toArray, List.set_cons_zero, List.set_cons_succ, List.getElem_toArray, List.getElem_cons_succ, List.getElem_cons_zero]
  refine wpAnyH_ready (rs := [6]) (by kernel_rfl) (by simp) ?_
  refine AllReadyH.cons rfl (fun K hK => ?_) AllReadyH.nil
  go_simp
  refine (specAddD_any (fz h) S2 X (fz l) S3 Y A2 A3 n2 c2 n3 c3 w3 Zo3.out.zv Zq3.out.zv (by have := Hn2.out; omega) (by have := Hn3.out; omega) (by omega) (by omega) (by omega) (by omega)).mono ?_
  rintro e w4 ⟨S9, A9, n9, c9, rfl, hzo, hb0⟩
  have hb : Below w3.heap.size w3 w4 := hb0
  have hvn := sum_vn (a := uI h) (b := uI l)
  rw [← (f_vn h).1, ← (f_vn h).2, ← (f_vn l).1, ← (f_vn l).2, ← HX.out, ← HY.out] at hvn
  rw [hvn.1] at hzo
  rw [hvn.2]
  have Zp4 := Lib.hid hzo
  clear hzo hvn
  refine hK.out _ _ ((Pp3.out.next hb).1) (fun hHeld => ?_)
  clear hK K hb0
  have Sz4 := Lib.hid (Below.size hb)
  have Bel4 := Lib.hid (belNext Bel3.out hb)
  have Pp4 := Lib.hid (Pp3.out.next hb)
  have RsD4 := Lib.hid (RsD3.out.next hb)
  have Zo4 := Lib.hid (Zo3.out.next hb)
  have Zq4 := Lib.hid (Zq3.out.next hb)
  clear hb Bel3 Pp3 RsD3 Zo3 Zq3
  try simp only [Act.put, List.setIfInBounds_toArray, List.set_cons_zero, List.set_cons_succ, List.getElem_toArray, List.getElem_cons_succ, List.getElem_cons_zero]
  obtain ⟨⟨hRsD0, hRsD1, hRsD2, hRsD3, hRsD4, hRsD5⟩, hRsD6⟩ := RsD4.out
  refine wpAnyH_ready (rs := [7]) (by kernel_rfl) (by simp) ?_
  refine AllReadyH.cons rfl (fun K hK => ?_) AllReadyH.nil
  go_simp
  refine hK.out _ _ ((((Pp4.out.keep (by have zz0 := Hlt.out; have zz1 := Sz2.out; have zz2 := Sz3.out; have zz3 := Sz4.out; first | omega | (simp; done) | (simp; omega)) _).keep (by have zz0 := Hlt.out; have zz1 := Sz2.out; have zz2 := Sz3.out; have zz3 := Sz4.out; first | omega | (simp; done) | (simp; omega)) _).keep (by have zz0 := Hlt.out; have zz1 := Sz2.out; have zz2 := Sz3.out; have zz3 := Sz4.out; first | omega | (simp; done) | (simp; omega)) _).1) (fun hHeld => ?_)
  clear hK K hHeld
  try simp only [Act.put, List.setIfInBounds_toArray, List.set_cons_zero, List.set_cons_succ, List.getElem_toArray, List.getElem_cons_succ, List.getElem_cons_zero]
  refine wpAnyH_done (by kernel_rfl) ?_ _
  go_wp2_with fail
  refine bodyPost_ret (v := .agg #[.int .i64 S9, .slice A9 n9 c9, .int .i64 (nx (uI h + uI l) (-149))]) (by simp [results, Tryd.results74, go_sem, hRsD0, hRsD1, hRsD2]) rfl ⟨S9, A9, n9, c9, rfl, ?_, ?_⟩
  · exact (((Zp4.out.setCell (.inl (by have zz0 := Hlt.out; have zz1 := Sz2.out; have zz2 := Sz3.out; have zz3 := Sz4.out; first | omega | (simp; done) | (simp; omega))) _).setCell (.inl (by have zz0 := Hlt.out; have zz1 := Sz2.out; have zz2 := Sz3.out; have zz3 := Sz4.out; first | omega | (simp; done) | (simp; omega))) _).setCell (.inl (by have zz0 := Hlt.out; have zz1 := Sz2.out; have zz2 := Sz3.out; have zz3 := Sz4.out; first | omega | (simp; done) | (simp; omega))) _).wide (by have zz0 := Hlt.out; have zz1 := Sz2.out; have zz2 := Sz3.out; have zz3 := Sz4.out; first | omega | (simp; done) | (simp; omega)) (by have zz0 := Hlt.out; have zz1 := Sz2.out; have zz2 := Sz3.out; have zz3 := Sz4.out; first | omega | (simp; done) | (simp; omega)) (by have zz0 := Hlt.out; have zz1 := Sz2.out; have zz2 := Sz3.out; have zz3 := Sz4.out; first | omega | (simp; done) | (simp; omega))
  · exact ((Bel4.out.setCell (by have zz0 := Hlt.out; have zz1 := Sz2.out; have zz2 := Sz3.out; have zz3 := Sz4.out; first | omega | (simp; done) | (simp; omega)) _).setCell (by have zz0 := Hlt.out; have zz1 := Sz2.out; have zz2 := Sz3.out; have zz3 := Sz4.out; first | omega | (simp; done) | (simp; omega)) _).setCell (by have zz0 := Hlt.out; have zz1 := Sz2.out; have zz2 := Sz3.out; have zz3 := Sz4.out; first | omega | (simp; done) | (simp; omega)) _

end Go.Proofs.YtnecnbonnidijaaDoor
/- Values of pairs and of expansions, of the program and of the model. -/
namespace Go.Proofs.YtnecnbonnidijaaDoor
set_option maxRecDepth 100000
open Go.RowKit
set_option linter.unusedSimpArgs false
set_option linter.unusedVariables false

theorem fin_two {h l : Nat} (x : fin32 h = true ∧ fin32 l = true) : ∀ f ∈ [h, l], fin32 f = true := by
  intro f hf
  simp only [List.mem_cons, List.not_mem_nil, or_false] at hf
  rcases hf with rfl | rfl
  · exact x.1
  · exact x.2
def vpZ (h l : Nat) : Int := if isP h l = true then nz (uI h + uI l) else 0
def vpX (h l : Nat) : Int := if isP h l = true then nx (uI h + uI l) (-149) else 0
def vpE (h l : Nat) : Int := if isP h l = true then 0 else 1
theorem two_small {h l : Nat} (h1 : fin32 h = true) (h2 : fin32 l = true) : (uI h + uI l).natAbs ≤ 8 * (16777216 * 2 ^ 253) := by
  have a1 := uI_bound h1
  have a2 := uI_bound h2
  have a3 : 2 * (16777216 * 2 ^ 253) ≤ 8 * (16777216 * 2 ^ 253) := Nat.mul_le_mul_right _ (by omega)
  generalize 16777216 * 2 ^ 253 = P at *
  omega
/-- the code of an expansion -/
def exE (xs : List Nat) : Int := if xs.length = 0 ∨ 8 < xs.length then 2 else if xs.all fin32 = true then 0 else 1
def veZ (xs : List Nat) : Int := if exE xs = 0 then nz (uS xs) else 0
def veX (xs : List Nat) : Int := if exE xs = 0 then nx (uS xs) (-149) else 0
def sgE (xs : List Nat) : Int := if exE xs = 0 then (uS xs).sign else 0
end Go.Proofs.YtnecnbonnidijaaDoor
/- ErrorOfPair, of the program. -/
namespace Go.Proofs.YtnecnbonnidijaaDoor
set_option maxRecDepth 100000
open Go.RowKit
set_option linter.unusedSimpArgs false
set_option linter.unusedVariables false

/-- what an exact number has beyond a pair -/
def ewS (h l : Nat) (z E : Int) : Int := sumZ (nz (uI h + uI l)) (nx (uI h + uI l) (-149)) (-z) E
def ewM (h l : Nat) (E : Int) : Int := min (nx (uI h + uI l) (-149)) E
noncomputable def ewZ (h l : Nat) (S : Int) (xs : List Int) (E : Int) : Int := if isP h l = true then if isD S xs E = true then fdZ (ewS h l (S * magW S xs) E) (ewM h l E) else 0 else 0
noncomputable def ewX (h l : Nat) (S : Int) (xs : List Int) (E : Int) : Int := if isP h l = true then if isD S xs E = true then fdX (ewS h l (S * magW S xs) E) (ewM h l E) else 0 else 0
noncomputable def ewE (h l : Nat) (S : Int) (xs : List Int) (E : Int) : Int := if isP h l = true then if isD S xs E = true then fdE (ewS h l (S * magW S xs) E) (ewM h l E) else 1 else 1
theorem ew_yes {h l : Nat} {S z E : Int} {xs : List Int} (hp : isP h l = true) (hd : isD S xs E = true) (hz : isZ z S xs) : ewZ h l S xs E = fdZ (ewS h l z E) (ewM h l E) ∧ ewX h l S xs E = fdX (ewS h l z E) (ewM h l E) ∧ ewE h l S xs E = fdE (ewS h l z E) (ewM h l E) := by
  unfold ewZ ewX ewE; rw [if_pos hp, if_pos hp, if_pos hp, if_pos hd, if_pos hd, if_pos hd, val_isZ hz]; exact ⟨rfl, rfl, rfl⟩
theorem ew_noD {h l : Nat} {S E : Int} {xs : List Int} (hp : isP h l = true) (hd : isD S xs E = false) : ewZ h l S xs E = 0 ∧ ewX h l S xs E = 0 ∧ ewE h l S xs E = 1 := by
  unfold ewZ ewX ewE; rw [if_pos hp, if_pos hp, if_pos hp, hd]; exact ⟨rfl, rfl, rfl⟩
theorem ew_noP {h l : Nat} {S E : Int} {xs : List Int} (hp : isP h l = false) : ewZ h l S xs E = 0 ∧ ewX h l S xs E = 0 ∧ ewE h l S xs E = 1 := by
  unfold ewZ ewX ewE; rw [hp]; exact ⟨rfl, rfl, rfl⟩
theorem ew_len (h l : Nat) (S : Int) (xs : List Int) (E : Int) : (limbs (ewZ h l S xs E).natAbs).length ≤ 100 := by
  unfold ewZ
  split
  · split
    · exact fd_len _ _
    · simp [limbs_zero]
  · simp [limbs_zero]
theorem ew_same {h l : Nat} {Z Ez z E : Int} (hu : uV (-149) Z Ez = uI h + uI l) (h1 : -149 ≤ Ez) (hE : -4000 ≤ E) (hX : -149 ≤ nx (uI h + uI l) (-149)) : fdZ (sumZ Z Ez (-z) E) (min Ez E) = fdZ (ewS h l z E) (ewM h l E) ∧ fdX (sumZ Z Ez (-z) E) (min Ez E) = fdX (ewS h l z E) (ewM h l E) ∧ fdE (sumZ Z Ez (-z) E) (min Ez E) = fdE (ewS h l z E) (ewM h l E) := by
  have hn := z_norm hu h1
  have e1 : uV (-4000) (sumZ Z Ez (-z) E) (min Ez E) = uV (-4000) Z Ez + uV (-4000) (-z) E := uV_sum (by omega) hE
  have e2 : uV (-4000) (ewS h l z E) (ewM h l E) = uV (-4000) (nz (uI h + uI l)) (nx (uI h + uI l) (-149)) + uV (-4000) (-z) E := uV_sum (by omega) hE
  have e3 : uV (-4000) (nz Z) (nx Z Ez) = uV (-4000) Z Ez := uV_nz (by omega)
  rw [hn.1, hn.2] at e3
  have h2 : -4000 ≤ min Ez E := by omega
  have h3 : -4000 ≤ ewM h l E := by unfold ewM; omega
  have hs := nzx_same h2 h3 (e1.trans ((congrArg (· + uV (-4000) (-z) E) e3.symm).trans e2.symm))
  exact fd_same hs.1 hs.2

set_option maxHeartbeats 8000000 in
theorem implEwW_any (h l : Nat) (S : Int) (A : Option Addr) (n c : Nat) (xs : List Int) (E : Int) (w : World) (hh : h < 4294967296) (hl : l < 4294967296) (hr : Rd w w.heap.size A (vi xs)) (hn : xs.length = n) (hm : n ≤ 1048580) (hc : n ≤ c) (hT : TabZ w) :
    Calls Tryd.prog 28 #[.agg #[.float .f32 h, .float .f32 l], .agg #[.int .i64 S, .slice A n c, .int .i64 E]] w fun e w' => ∃ Sr Ar nr cr, e = .returned (.tuple #[.agg #[.int .i64 Sr, .slice Ar nr cr, .int .i64 (ewX h l S xs E)], .int .i64 (ewE h l S xs E)]) ∧ ZO w' w.heap.size w'.heap.size (ewZ h l S xs E) Sr Ar nr cr ∧ Below w.heap.size w w' := by
  have hst := store_int Tryd.prog
  have hst2 := store_slice Tryd.prog
  have Hb := Lib.hid (And.intro hh hl)
  have hs1 : (w.alloc (.cells #[.float .f32 h, .float .f32 l] 48)).heap.size = w.heap.size + 1 := by simp
  obtain ⟨w1, hw1, hb1, hb3, hb4⟩ := dbox_res (w.alloc (.cells #[.float .f32 h, .float .f32 l] 48)) S A n c E 30 30
  rw [hs1] at hb1 hb3 hb4
  have hb5 : Below w.heap.size w w1 := belNext (belAlloc1 _ _) (by rw [hs1]; exact hb4)
  have Pp1 : Hid (PB w1 w.heap.size h l) := Lib.hid ((PB.new _ _ _ _).next (by rw [hs1]; exact hb4))
  have RsD1 := Lib.hid hb3
  have Hlt : Hid (w.heap.size + 1 + 1 < w1.heap.size) := Lib.hid hb3.2
  have Hr := Lib.hid hr
  have Hn := Lib.hid hn
  have Hm := Lib.hid hm
  have Hc := Lib.hid hc
  have Hw := Lib.hid hw1
  have Bx1 := Lib.hid hb1
  have Bel1 := Lib.hid hb5
  clear hr hn hm hc hw1 hb1 hb3 hb4 hb5 hs1 hh hl
  have HT := Lib.hid hT
  clear hT
  go_enter Tryd.func28, Tryd.ntmps28
  go_wp2_with fail
  rw [← Hw.out]
  obtain ⟨⟨hPp0, hPp1⟩, hPp2⟩ := Pp1.out
  obtain ⟨⟨hBx0, hBx1, hBx2⟩, hBx3⟩ := Bx1.out
  obtain ⟨⟨hRsD0, hRsD1, hRsD2, hRsD3, hRsD4, hRsD5⟩, hRsD6⟩ := RsD1.out
  refine (implIsPair_any h l _ Hb.out.1 Hb.out.2).mono ?_
  rintro e w2 ⟨rfl, hb⟩
  have Sz2 := Lib.hid (Below.size hb)
  have Bel2 := Lib.hid (belNext Bel1.out hb)
  have Pp2 := Lib.hid (Pp1.out.next hb)
  have Bx2 := Lib.hid (Bx1.out.next hb)
  have RsD2 := Lib.hid (RsD1.out.next hb)
  clear hb Bel1 Pp1 Bx1 RsD1 hPp0 hPp1 hPp2 hBx0 hBx1 hBx2 hBx3 hRsD0 hRsD1 hRsD2 hRsD3 hRsD4 hRsD5 hRsD6
  obtain ⟨⟨hPp0, hPp1⟩, hPp2⟩ := Pp2.out
  obtain ⟨⟨hBx0, hBx1, hBx2⟩, hBx3⟩ := Bx2.out
  obtain ⟨⟨hRsD0, hRsD1, hRsD2, hRsD3, hRsD4, hRsD5⟩, hRsD6⟩ := RsD2.out
  by_cases hp : isP h l = true
  · have HP := Lib.hid hp
    rw [hp]
    clear hp
    go_wp2_with fail
    refine (implIsD_any S A n c E xs _ ((Hr.out.below Bel2.out).up Bel2.out.size) Hn.out Hm.out).mono ?_
    rintro e w3 ⟨rfl, hb⟩
    have Sz3 := Lib.hid (Below.size hb)
    have Bel3 := Lib.hid (belNext Bel2.out hb)
    have Pp3 := Lib.hid (Pp2.out.next hb)
    have Bx3 := Lib.hid (Bx2.out.next hb)
    have RsD3 := Lib.hid (RsD2.out.next hb)
    clear hb Bel2 Pp2 Bx2 RsD2 hPp0 hPp1 hPp2 hBx0 hBx1 hBx2 hBx3 hRsD0 hRsD1 hRsD2 hRsD3 hRsD4 hRsD5 hRsD6
    obtain ⟨⟨hPp0, hPp1⟩, hPp2⟩ := Pp3.out
    obtain ⟨⟨hBx0, hBx1, hBx2⟩, hBx3⟩ := Bx3.out
    obtain ⟨⟨hRsD0, hRsD1, hRsD2, hRsD3, hRsD4, hRsD5⟩, hRsD6⟩ := RsD3.out
    by_cases hd : isD S xs E = true
    · have HD := Lib.hid hd
      rw [hd]
      clear hd
      obtain ⟨z, hz, hok, hzv, hn100⟩ := isD_data HD.out Hr.out Hn.out Hc.out
      have Hz := Lib.hid hzv
      have hE1 := hok.2.1
      have hE2 := hok.2.2.1
      have Hres := Lib.hid (ew_yes HP.out HD.out hz)
      have Hf := Lib.hid (isP_fin HP.out)
      have Hux := Lib.hid (nx_u (two_small Hf.out.1 Hf.out.2))
      have hux1 := Hux.out.1
      have hux2 := Hux.out.2
      clear hz hzv hok
      go_wp2_with fail
      refine wp_region_held_drew (S := fun w' => (w'.cell? ⟨w.heap.size, 0, none⟩ = some (.float .f32 h) ∧ w'.cell? ⟨w.heap.size, 1, none⟩ = some (.float .f32 l)) ∧ (w'.cell? ⟨(w.heap.size + 1), 0, none⟩ = some (.int .i64 S) ∧ w'.cell? ⟨(w.heap.size + 1), 1, none⟩ = some (.slice A n c) ∧ w'.cell? ⟨(w.heap.size + 1), 2, none⟩ = some (.int .i64 E))) (by kernel_rfl) ⟨Pp3.out.1, Bx3.out.1⟩ (fun hHeld => ?_)
      clear hPp0 hPp1 hPp2 hBx0 hBx1 hBx2 hBx3 hRsD0 hRsD1 hRsD2 hRsD3 hRsD4 hRsD5 hRsD6
      refine wpAnyH_take (i := 0) (v := ?_) rfl (by kernel_rfl) (by kernel_rfl) (by kernel_rfl) (fun _ _ _ h => h) (Or.inl ⟨by rfl, ?_⟩) (by assumption) ?_
      rotate_left
      · (intro w hSw; (try dsimp only at hSw); go_simp; (try with_reducible rfl))
      try simp only [Act.put, List.setIfInBounds_toArray, List.set_cons_zero, List.set_cons_succ, List.getElem_toArray, List.getElem_cons_succ, List.getElem_cons_zero]
      refine wpAnyH_take (i := 1) (v := ?_) rfl (by kernel_rfl) (by kernel_rfl) (by kernel_rfl) (fun _ _ _ h => h) (Or.inl ⟨by rfl, ?_⟩) (by assumption) ?_
      rotate_left
      · (intro w hSw; (try dsimp only at hSw); go_simp; (try with_reducible rfl))
      try simp only [Act.put, List.setIfInBounds_toArray, List.set_cons_zero, List.set_cons_succ, List.getElem_toArray, List.getElem_cons_succ, List.getElem_cons_zero]
      refine wpAnyH_take (i := 2) (v := ?_) rfl (by kernel_rfl) (by kernel_rfl) (by kernel_rfl) (fun _ _ _ h => h) (Or.inl ⟨by rfl, ?_⟩) (by assumption) ?_
      rotate_left
      · (intro w hSw; (try dsimp only at hSw); go_simp; (try with_reducible rfl))
      try simp only [Act.put, List.setIfInBounds_toArray, List.set_cons_zero, List.set_cons_succ, List.getElem_toArray, List.getElem_cons_succ, List.getElem_cons_zero]
      refine wpAnyH_take (i := 3) (v := ?_) rfl (by kernel_rfl) (by kernel_rfl) (by kernel_rfl) (fun _ _ _ h => h) (Or.inl ⟨by rfl, ?_⟩) (by assumption) ?_
      rotate_left
      · (intro w hSw; (try dsimp only at hSw); go_simp; (try with_reducible rfl))
      try simp only [Act.put, List.setIfInBounds_toArray, List.set_cons_zero, List.set_cons_succ, List.getElem_toArray, List.getElem_cons_succ, List.getElem_cons_zero]
      refine wpAnyH_take (i := 6) (v := ?_) rfl (by kernel_rfl) (by kernel_rfl) (by kernel_rfl) (fun _ _ _ h => h) (Or.inl ⟨by rfl, ?_⟩) (by assumption) ?_
      rotate_left
      · (intro w hSw; (try dsimp only at hSw); go_simp; (try with_reducible rfl))
      try simp only [Act.put, List.setIfInBounds_toArray, List.set_cons_zero, List.set_cons_succ, List.getElem_toArray, List.getElem_cons_succ, List.getElem_cons_zero]
      refine wpAnyH_ready (rs := [4]) (by kernel_rfl) (by simp) ?_
      refine AllReadyH.cons rfl (fun K hK => ?_) AllReadyH.nil
      go_simp
      obtain ⟨w4, hw⟩ : ∃ w4, w4 = (w3.alloc (.cells #[.float .f32 h, .float .f32 l] 40)).drew := ⟨_, rfl⟩
      have hb : Below w3.heap.size w3 w4 := by rw [hw]; exact (belAlloc1 _ _).drew
      obtain ⟨f, hf⟩ : ∃ f, f = w3.heap.size := ⟨_, rfl⟩
      have Rw4 : Hid (Rt w4 w4.heap.size (some ⟨f, 0, none⟩) (fs [h, l])) := Lib.hid ⟨by rw [hw, hf]; exact rd_two _ _ _ _, Nat.le_refl _⟩
      rw [← hw]
      try rw [← hf]
      refine hK.out _ _ ⟨(Pp3.out.next hb).1, (Bx3.out.next hb).1⟩ (fun hHeld => ?_)
      clear hK K hw hf
      have Sz4 := Lib.hid (Below.size hb)
      have Bel4 := Lib.hid (belNext Bel3.out hb)
      have Pp4 := Lib.hid (Pp3.out.next hb)
      have Bx4 := Lib.hid (Bx3.out.next hb)
      have RsD4 := Lib.hid (RsD3.out.next hb)
      clear hb Bel3 Pp3 Bx3 RsD3
      try simp only [Act.put, List.setIfInBounds_toArray, List.set_cons_zero, List.set_cons_succ, List.getElem_toArray, List.getElem_cons_succ, List.getElem_cons_zero]
      refine wpAnyH_ready (rs := [5]) (by kernel_rfl) (by simp) ?_
      refine AllReadyH.cons rfl (fun K hK => ?_) AllReadyH.nil
      go_simp
      refine (implSumOf_any [h, l] _ 2 2 w4 Rw4.out.all rfl (by omega) (two_lt Hb.out) (fin_two Hf.out) (HT.out.next Bel4.out)).mono ?_
      rintro e w5 ⟨Z, X3, S3, A3, n3, c3, rfl, hzo, hu, hx31, hx32, hb0⟩
      have hb : Below w4.heap.size w4 w5 := hb0
      have hu : uV (-149) Z X3 = uI h + uI l := by rw [hu, uS_two]
      have Hsame := Lib.hid (ew_same (z := z) (E := E) hu hx31 (by omega) Hux.out.1)
      have Hn3 : Hid ((limbs Z.natAbs).length = n3 ∧ (n3 : Int) ≤ 12) := Lib.hid ⟨hzo.2.1, by have h1 := z_len hu (two_small Hf.out.1 Hf.out.2); have e := hzo.2.1; omega⟩
      have Zo5 : Hid (ZV w5 Z S3 A3 n3 c3) := Lib.hid hzo.zv
      clear hzo hu
      refine hK.out _ _ ⟨(Pp4.out.next hb).1, (Bx4.out.next hb).1⟩ (fun hHeld => ?_)
      clear hK K hb0
      have Sz5 := Lib.hid (Below.size hb)
      have Bel5 := Lib.hid (belNext Bel4.out hb)
      have Pp5 := Lib.hid (Pp4.out.next hb)
      have Bx5 := Lib.hid (Bx4.out.next hb)
      have RsD5 := Lib.hid (RsD4.out.next hb)
      have Rw5 := Lib.hid (Rw4.out.next hb)
      clear hb Bel4 Pp4 Bx4 RsD4 Rw4
      try simp only [Act.put, List.setIfInBounds_toArray, List.set_cons_zero, List.set_cons_succ, List.getElem_toArray, List.getElem_cons_succ, List.getElem_cons_zero]
      refine wpAnyH_ready (rs := [7]) (by kernel_rfl) (by simp) ?_
      refine AllReadyH.cons rfl (fun K hK => ?_) AllReadyH.nil
      go_simp
      refine (implOppD_any S E A n c w5 Hz.out.sg.1 Hz.out.sg.2.1).mono ?_
      rintro e w6 ⟨rfl, hb0⟩
      have hb : Below w5.heap.size w5 w6 := hb0
      refine hK.out _ _ ⟨(Pp5.out.next hb).1, (Bx5.out.next hb).1⟩ (fun hHeld => ?_)
      clear hK K hb0
      have Sz6 := Lib.hid (Below.size hb)
      have Bel6 := Lib.hid (belNext Bel5.out hb)
      have Pp6 := Lib.hid (Pp5.out.next hb)
      have Bx6 := Lib.hid (Bx5.out.next hb)
      have RsD6 := Lib.hid (RsD5.out.next hb)
      have Rw6 := Lib.hid (Rw5.out.next hb)
      have Zo6 := Lib.hid (Zo5.out.next hb)
      clear hb Bel5 Pp5 Bx5 RsD5 Rw5 Zo5
      try simp only [Act.put, List.setIfInBounds_toArray, List.set_cons_zero, List.set_cons_succ, List.getElem_toArray, List.getElem_cons_succ, List.getElem_cons_zero]
      refine wpAnyH_ready (rs := [8]) (by kernel_rfl) (by simp) ?_
      refine AllReadyH.cons rfl (fun K hK => ?_) AllReadyH.nil
      go_simp
      refine (implPlusD_any Z S3 X3 (-z) (-S) E A3 A n3 c3 n c w6 Zo6.out (Hz.out.next Bel6.out).neg (by have := Hn3.out.2; omega) (by omega) (by omega) (by omega) (by omega) (by omega) (HT.out.next Bel6.out)).mono ?_
      rintro e w7 ⟨S6, A6, n6, c6, rfl, hzo, hb0⟩
      have hb : Below w6.heap.size w6 w7 := hb0
      obtain ⟨q6, hq6⟩ : ∃ q6, q6 = min X3 E := ⟨_, rfl⟩
      have hq61 : -4000 ≤ q6 ∧ q6 ≤ 4000 := by rw [hq6]; omega
      obtain ⟨hq61, hq62⟩ := hq61
      have h7 := sumZ_len (E := X3) (E' := E) Hn3.out.1 (Hz.out.neg).2.1 (by omega) (by omega) (by omega) (by omega)
      obtain ⟨Q, hQ⟩ : ∃ Q, Q = sumZ Z X3 (-z) E := ⟨_, rfl⟩
      have Hfd := Hsame.out
      rw [← hq6, ← hQ] at Hfd
      have Hfd := Lib.hid Hfd
      rw [← hQ] at hzo h7
      rw [← hq6]
      have Hn6 : Hid ((n6 : Int) ≤ 4000) := Lib.hid (by have e := hzo.2.1; have := Hn3.out; omega)
      have Zr7 : Hid (ZV w7 Q S6 A6 n6 c6) := Lib.hid hzo.zv
      clear hzo h7 hq6 hQ Hsame
      refine hK.out _ _ ⟨(Pp6.out.next hb).1, (Bx6.out.next hb).1⟩ (fun hHeld => ?_)
      clear hK K hb0
      have Sz7 := Lib.hid (Below.size hb)
      have Bel7 := Lib.hid (belNext Bel6.out hb)
      have Pp7 := Lib.hid (Pp6.out.next hb)
      have Bx7 := Lib.hid (Bx6.out.next hb)
      have RsD7 := Lib.hid (RsD6.out.next hb)
      have Rw7 := Lib.hid (Rw6.out.next hb)
      have Zo7 := Lib.hid (Zo6.out.next hb)
      clear hb Bel6 Pp6 Bx6 RsD6 Rw6 Zo6
      try simp only [Act.put, List.setIfInBounds_toArray, List.set_cons_zero, List.set_cons_succ, List.getElem_toArray, List.getElem_cons_succ, List.getElem_cons_zero]
      refine wpAnyH_ready (rs := [9]) (by kernel_rfl) (by simp) ?_
      refine AllReadyH.cons rfl (fun K hK => ?_) AllReadyH.nil
      go_simp
      refine (implLimD_any Q S6 q6 A6 n6 c6 w7 Zr7.out Hn6.out (by omega) (by omega) (HT.out.next Bel7.out)).mono ?_
      rintro e w8 ⟨S9, A9, n9, c9, rfl, hzo, hb0⟩
      have hb : Below w7.heap.size w7 w8 := hb0
      rw [Hfd.out.1] at hzo
      rw [Hfd.out.2.1, Hfd.out.2.2]
      have Zp8 := Lib.hid hzo
      clear hzo
      refine hK.out _ _ ⟨(Pp7.out.next hb).1, (Bx7.out.next hb).1⟩ (fun hHeld => ?_)
      clear hK K hb0
      have Sz8 := Lib.hid (Below.size hb)
      have Bel8 := Lib.hid (belNext Bel7.out hb)
      have Pp8 := Lib.hid (Pp7.out.next hb)
      have Bx8 := Lib.hid (Bx7.out.next hb)
      have RsD8 := Lib.hid (RsD7.out.next hb)
      have Rw8 := Lib.hid (Rw7.out.next hb)
      have Zo8 := Lib.hid (Zo7.out.next hb)
      have Zr8 := Lib.hid (Zr7.out.next hb)
      clear hb Bel7 Pp7 Bx7 RsD7 Rw7 Zo7 Zr7
      try simp only [Act.put, List.setIfInBounds_toArray, List.set_cons_zero, List.set_cons_succ, List.getElem_toArray, List.getElem_cons_succ, List.getElem_cons_zero]
      refine wpAnyH_take (i := 10) (v := ?_) rfl (by kernel_rfl) (by kernel_rfl) (by kernel_rfl) (fun _ _ _ h => h) (Or.inl ⟨by rfl, ?_⟩) (by assumption) ?_
      rotate_left
      · (intro w hSw; (try dsimp only at hSw); go_simp; (try with_reducible rfl))
      try simp only [Act.put, List.setIfInBounds_toArray, List.set_cons_zero, List.set_cons_succ, List.getElem_toArray, List.getElem_cons_succ, List.getElem_cons_zero]
      refine wpAnyH_take (i := 11) (v := ?_) rfl (by kernel_rfl) (by kernel_rfl) (by kernel_rfl) (fun _ _ _ h => h) (Or.inl ⟨by rfl, ?_⟩) (by assumption) ?_
      rotate_left
      · (intro w hSw; (try dsimp only at hSw); go_simp; (try with_reducible rfl))
      try simp only [Act.put, List.setIfInBounds_toArray, List.set_cons_zero, List.set_cons_succ, List.getElem_toArray, List.getElem_cons_succ, List.getElem_cons_zero]
      obtain ⟨⟨hRsD0, hRsD1, hRsD2, hRsD3, hRsD4, hRsD5⟩, hRsD6⟩ := RsD8.out
      refine wpAnyH_ready (rs := [12]) (by kernel_rfl) (by simp) ?_
      refine AllReadyH.cons rfl (fun K hK => ?_) AllReadyH.nil
      go_simp
      refine hK.out _ _ ⟨(((Pp8.out.keep (by have zz0 := Hlt.out; have zz1 := Sz2.out; have zz2 := Sz3.out; have zz3 := Sz4.out; have zz4 := Sz5.out; have zz5 := Sz6.out; have zz6 := Sz7.out; have zz7 := Sz8.out; first | omega | (simp; done) | (simp; omega)) _).keep (by have zz0 := Hlt.out; have zz1 := Sz2.out; have zz2 := Sz3.out; have zz3 := Sz4.out; have zz4 := Sz5.out; have zz5 := Sz6.out; have zz6 := Sz7.out; have zz7 := Sz8.out; first | omega | (simp; done) | (simp; omega)) _).keep (by have zz0 := Hlt.out; have zz1 := Sz2.out; have zz2 := Sz3.out; have zz3 := Sz4.out; have zz4 := Sz5.out; have zz5 := Sz6.out; have zz6 := Sz7.out; have zz7 := Sz8.out; first | omega | (simp; done) | (simp; omega)) _).1, (((Bx8.out.keep (by have zz0 := Hlt.out; have zz1 := Sz2.out; have zz2 := Sz3.out; have zz3 := Sz4.out; have zz4 := Sz5.out; have zz5 := Sz6.out; have zz6 := Sz7.out; have zz7 := Sz8.out; first | omega | (simp; done) | (simp; omega)) _).keep (by have zz0 := Hlt.out; have zz1 := Sz2.out; have zz2 := Sz3.out; have zz3 := Sz4.out; have zz4 := Sz5.out; have zz5 := Sz6.out; have zz6 := Sz7.out; have zz7 := Sz8.out; first | omega | (simp; done) | (simp; omega)) _).keep (by have zz0 := Hlt.out; have zz1 := Sz2.out; have zz2 := Sz3.out; have zz3 := Sz4.out; have zz4 := Sz5.out; have zz5 := Sz6.out; have zz6 := Sz7.out; have zz7 := Sz8.out; first | omega | (simp; done) | (simp; omega)) _).1⟩ (fun hHeld => ?_)
      clear hK K
      try simp only [Act.put, List.setIfInBounds_toArray, List.set_cons_zero, List.set_cons_succ, List.getElem_toArray, List.getElem_cons_succ, List.getElem_cons_zero]
      refine wpAnyH_ready (rs := [13]) (by kernel_rfl) (by simp) ?_
      refine AllReadyH.cons rfl (fun K hK => ?_) AllReadyH.nil
      go_simp
      refine hK.out _ _ hHeld (fun hHeld => ?_)
      clear hK K
      try simp only [Act.put, List.setIfInBounds_toArray, List.set_cons_zero, List.set_cons_succ, List.getElem_toArray, List.getElem_cons_succ, List.getElem_cons_zero]
      clear hHeld
      refine wpAnyH_done (by kernel_rfl) ?_ _
      go_wp2_with fail
      refine bodyPost_ret (v := .tuple #[.agg #[.int .i64 S9, .slice A9 n9 c9, .int .i64 (fdX (ewS h l z E) (ewM h l E))], .int .i64 (fdE (ewS h l z E) (ewM h l E))]) (by simp [results, Tryd.results28, go_sem, hRsD0, hRsD1, hRsD2]) rfl ⟨S9, A9, n9, c9, by rw [Hres.out.2.1, Hres.out.2.2], ?_, ?_⟩
      · rw [Hres.out.1]; exact (((Zp8.out.setCell (.inl (by have zz0 := Hlt.out; have zz1 := Sz2.out; have zz2 := Sz3.out; have zz3 := Sz4.out; have zz4 := Sz5.out; have zz5 := Sz6.out; have zz6 := Sz7.out; have zz7 := Sz8.out; first | omega | (simp; done) | (simp; omega))) _).setCell (.inl (by have zz0 := Hlt.out; have zz1 := Sz2.out; have zz2 := Sz3.out; have zz3 := Sz4.out; have zz4 := Sz5.out; have zz5 := Sz6.out; have zz6 := Sz7.out; have zz7 := Sz8.out; first | omega | (simp; done) | (simp; omega))) _).setCell (.inl (by have zz0 := Hlt.out; have zz1 := Sz2.out; have zz2 := Sz3.out; have zz3 := Sz4.out; have zz4 := Sz5.out; have zz5 := Sz6.out; have zz6 := Sz7.out; have zz7 := Sz8.out; first | omega | (simp; done) | (simp; omega))) _).wide (by have zz0 := Hlt.out; have zz1 := Sz2.out; have zz2 := Sz3.out; have zz3 := Sz4.out; have zz4 := Sz5.out; have zz5 := Sz6.out; have zz6 := Sz7.out; have zz7 := Sz8.out; first | omega | (simp; done) | (simp; omega)) (by have zz0 := Hlt.out; have zz1 := Sz2.out; have zz2 := Sz3.out; have zz3 := Sz4.out; have zz4 := Sz5.out; have zz5 := Sz6.out; have zz6 := Sz7.out; have zz7 := Sz8.out; first | omega | (simp; done) | (simp; omega)) (by have zz0 := Hlt.out; have zz1 := Sz2.out; have zz2 := Sz3.out; have zz3 := Sz4.out; have zz4 := Sz5.out; have zz5 := Sz6.out; have zz6 := Sz7.out; have zz7 := Sz8.out; first | omega | (simp; done) | (simp; omega))
      · exact ((Bel8.out.setCell (by have zz0 := Hlt.out; have zz1 := Sz2.out; have zz2 := Sz3.out; have zz3 := Sz4.out; have zz4 := Sz5.out; have zz5 := Sz6.out; have zz6 := Sz7.out; have zz7 := Sz8.out; first | omega | (simp; done) | (simp; omega)) _).setCell (by have zz0 := Hlt.out; have zz1 := Sz2.out; have zz2 := Sz3.out; have zz3 := Sz4.out; have zz4 := Sz5.out; have zz5 := Sz6.out; have zz6 := Sz7.out; have zz7 := Sz8.out; first | omega | (simp; done) | (simp; omega)) _).setCell (by have zz0 := Hlt.out; have zz1 := Sz2.out; have zz2 := Sz3.out; have zz3 := Sz4.out; have zz4 := Sz5.out; have zz5 := Sz6.out; have zz6 := Sz7.out; have zz7 := Sz8.out; first | omega | (simp; done) | (simp; omega)) _
    · have hd2 : isD S xs E = false := by simpa using hd
      have Hres := Lib.hid (ew_noD HP.out hd2)
      rw [hd2]
      clear hd hd2
      go_wp2_with fail
      refine bodyPost_ret (v := .tuple #[.agg #[.int .i64 0, .slice none 0 0, .int .i64 0], .int .i64 1]) (by simp [results, Tryd.results28, go_sem, hRsD0, hRsD1, hRsD2]) rfl ⟨0, none, 0, 0, by rw [Hres.out.2.1, Hres.out.2.2], ?_, ?_⟩
      · rw [Hres.out.1]; exact ZO.zero (Nat.le_refl _)
      · exact ((Bel3.out.setCell (by have zz0 := Hlt.out; have zz1 := Sz2.out; have zz2 := Sz3.out; first | omega | (simp; done) | (simp; omega)) _).setCell (by have zz0 := Hlt.out; have zz1 := Sz2.out; have zz2 := Sz3.out; first | omega | (simp; done) | (simp; omega)) _).setCell (by have zz0 := Hlt.out; have zz1 := Sz2.out; have zz2 := Sz3.out; first | omega | (simp; done) | (simp; omega)) _
  · have hp2 : isP h l = false := by simpa using hp
    have Hres := Lib.hid (ew_noP (S := S) (xs := xs) (E := E) hp2)
    rw [hp2]
    clear hp hp2
    go_wp2_with fail
    refine bodyPost_ret (v := .tuple #[.agg #[.int .i64 0, .slice none 0 0, .int .i64 0], .int .i64 1]) (by simp [results, Tryd.results28, go_sem, hRsD0, hRsD1, hRsD2]) rfl ⟨0, none, 0, 0, by rw [Hres.out.2.1, Hres.out.2.2], ?_, ?_⟩
    · rw [Hres.out.1]; exact ZO.zero (Nat.le_refl _)
    · exact ((Bel2.out.setCell (by have zz0 := Hlt.out; have zz1 := Sz2.out; first | omega | (simp; done) | (simp; omega)) _).setCell (by have zz0 := Hlt.out; have zz1 := Sz2.out; first | omega | (simp; done) | (simp; omega)) _).setCell (by have zz0 := Hlt.out; have zz1 := Sz2.out; first | omega | (simp; done) | (simp; omega)) _

end Go.Proofs.YtnecnbonnidijaaDoor
/- ErrorOfPair, of the model. -/
namespace Go.Proofs.YtnecnbonnidijaaDoor
set_option maxRecDepth 100000
open Go.RowKit
set_option linter.unusedSimpArgs false
set_option linter.unusedVariables false

theorem PB.st3_ {w : World} {b b' h l : Nat} {S E : Int} {A : Option Addr} {n c : Nat} (x : PB w b' h l) (hne : b' ≠ b) : PB (st3 w b S A n c E) b' h l :=
  ⟨⟨(st3_cell hne).trans x.1.1, (st3_cell hne).trans x.1.2⟩, by rw [st3_size]; exact x.2⟩
set_option maxHeartbeats 2000000 in
theorem specFitP_any (z E S E' : Int) (A : Option Addr) (n c lo hi : Nat) (w : World) (hz : ZO w lo hi (nz z) S A n c) (hm : n ≤ 1048580) (hE : E' = nx z E) (hlo : lo ≤ w.heap.size) :
    Calls Tryd.prog 45 #[.agg #[.int .i64 S, .slice A n c, .int .i64 E']] w fun e w' => ∃ Sr Ar nr cr, e = .returned (.tuple #[.agg #[.int .i64 Sr, .slice Ar nr cr, .int .i64 (fdX z E)], .int .i64 (fdE z E)]) ∧ ZO w' lo hi (fdZ z E) Sr Ar nr cr ∧ Below w.heap.size w w' := by
  have hst := store_int Tryd.prog
  have hst2 := store_slice Tryd.prog
  obtain ⟨w1, hw1, hb1, hb3, hb4⟩ := dbox_res w S A n c E' 30 30
  have RsD1 := Lib.hid hb3
  have Hlt : Hid (w.heap.size + 1 < w1.heap.size ∧ hi ≤ w.heap.size) := Lib.hid ⟨hb3.2, hz.2.2.2.2⟩
  have Zo1 := Lib.hid (hz.next hb4)
  have Hw := Lib.hid hw1
  have Bx1 := Lib.hid hb1
  have Bel1 := Lib.hid hb4
  have HS : Hid (S = (nz z).sign) := Lib.hid hz.1
  have Hn : Hid ((li (limbs (nz z).natAbs)).length = n) := Lib.hid (by rw [li_len]; exact hz.2.1)
  have Hm := Lib.hid hm
  have HE := Lib.hid hE
  have Hlo := Lib.hid hlo
  clear hz hw1 hb1 hb3 hb4 hE hlo
  go_enter Tryd.func45, Tryd.ntmps45
  go_wp2_with fail
  rw [← Hw.out]
  obtain ⟨⟨hBx0, hBx1, hBx2⟩, hBx3⟩ := Bx1.out
  obtain ⟨⟨hRsD0, hRsD1, hRsD2, hRsD3, hRsD4, hRsD5⟩, hRsD6⟩ := RsD1.out
  refine (specIsD_any S A n c E' (li (limbs (nz z).natAbs)) _ (by rw [← vs_li]; exact Zo1.out.zv.rd) Hn.out Hm.out).mono ?_
  rintro e w2 ⟨rfl, hb⟩
  have Sz2 := Lib.hid (Below.size hb)
  have Bel2 := Lib.hid (belNext Bel1.out hb)
  have Bx2 := Lib.hid (Bx1.out.next hb)
  have RsD2 := Lib.hid (RsD1.out.next hb)
  have Zo2 := Lib.hid (Zo1.out.next hb)
  clear hb Bel1 Bx1 RsD1 Zo1 hBx0 hBx1 hBx2 hBx3 hRsD0 hRsD1 hRsD2 hRsD3 hRsD4 hRsD5 hRsD6
  obtain ⟨⟨hBx0, hBx1, hBx2⟩, hBx3⟩ := Bx2.out
  obtain ⟨⟨hRsD0, hRsD1, hRsD2, hRsD3, hRsD4, hRsD5⟩, hRsD6⟩ := RsD2.out
  by_cases hf : okN z E
  · have hi1 := isD_nrm HS.out hf
    rw [← HE.out] at hi1
    rw [hi1]
    have Hf := Lib.hid hf
    clear hi1 hf
    go_wp2_with fail
    refine bodyPost_ret (v := .tuple #[.agg #[.int .i64 S, .slice A n c, .int .i64 E'], .int .i64 0]) (by simp [results, Tryd.results45, go_sem, hRsD0, hRsD1, hRsD2]) rfl ⟨S, A, n, c, by rw [(fd_yes Hf.out).2.1, (fd_yes Hf.out).2.2, HE.out], ?_, ?_⟩
    · rw [(fd_yes Hf.out).1]; exact (((Zo2.out.setCell (.inr (by have zz0 := Hlt.out; have zy := Hlo.out; have zz1 := Sz2.out; first | omega | (simp; done) | (simp; omega))) _).setCell (.inr (by have zz0 := Hlt.out; have zy := Hlo.out; have zz1 := Sz2.out; first | omega | (simp; done) | (simp; omega))) _).setCell (.inr (by have zz0 := Hlt.out; have zy := Hlo.out; have zz1 := Sz2.out; first | omega | (simp; done) | (simp; omega))) _).wide (Nat.le_refl _) (by have zz0 := Hlt.out; have zy := Hlo.out; have zz1 := Sz2.out; first | omega | (simp; done) | (simp; omega)) (by have zz0 := Hlt.out; have zy := Hlo.out; have zz1 := Sz2.out; first | omega | (simp; done) | (simp; omega))
    · exact ((Bel2.out.setCell (by have zz0 := Hlt.out; have zy := Hlo.out; have zz1 := Sz2.out; first | omega | (simp; done) | (simp; omega)) _).setCell (by have zz0 := Hlt.out; have zy := Hlo.out; have zz1 := Sz2.out; first | omega | (simp; done) | (simp; omega)) _).setCell (by have zz0 := Hlt.out; have zy := Hlo.out; have zz1 := Sz2.out; first | omega | (simp; done) | (simp; omega)) _
  · have hi1 := not_isD_nrm HS.out hf
    rw [← HE.out] at hi1
    rw [hi1]
    have Hf := Lib.hid hf
    clear hi1 hf
    go_wp2_with fail
    refine bodyPost_ret (v := .tuple #[.agg #[.int .i64 0, .slice none 0 0, .int .i64 0], .int .i64 3]) (by simp [results, Tryd.results45, go_sem, hRsD0, hRsD1, hRsD2]) rfl ⟨0, none, 0, 0, by rw [(fd_no Hf.out).2.1, (fd_no Hf.out).2.2], ?_, ?_⟩
    · rw [(fd_no Hf.out).1]; exact ZO.zero (by have zz0 := Hlt.out; have zz1 := Sz2.out; simp; omega)
    · exact ((Bel2.out.setCell (by have zz0 := Hlt.out; have zz1 := Sz2.out; first | omega | (simp; done) | (simp; omega)) _).setCell (by have zz0 := Hlt.out; have zz1 := Sz2.out; first | omega | (simp; done) | (simp; omega)) _).setCell (by have zz0 := Hlt.out; have zz1 := Sz2.out; first | omega | (simp; done) | (simp; omega)) _


set_option maxHeartbeats 8000000 in
theorem specEwW_any (h l : Nat) (S : Int) (A : Option Addr) (n c : Nat) (xs : List Int) (E : Int) (w : World) (hh : h < 4294967296) (hl : l < 4294967296) (hr : Rd w w.heap.size A (vi xs)) (hn : xs.length = n) (hm : n ≤ 1048580) (hc : n ≤ c) :
    Calls Tryd.prog 27 #[.agg #[.float .f32 h, .float .f32 l], .agg #[.int .i64 S, .slice A n c, .int .i64 E]] w fun e w' => ∃ Sr Ar nr cr, e = .returned (.tuple #[.agg #[.int .i64 Sr, .slice Ar nr cr, .int .i64 (ewX h l S xs E)], .int .i64 (ewE h l S xs E)]) ∧ ZO w' w.heap.size w'.heap.size (ewZ h l S xs E) Sr Ar nr cr ∧ Below w.heap.size w w' := by
  have hst := store_int Tryd.prog
  have hst2 := store_slice Tryd.prog
  have Hb := Lib.hid (And.intro hh hl)
  have hs1 : (w.alloc (.cells #[.float .f32 h, .float .f32 l] 48)).heap.size = w.heap.size + 1 := by simp
  obtain ⟨w1, hw1, hb1, hb3, hb4⟩ := dbox_res (w.alloc (.cells #[.float .f32 h, .float .f32 l] 48)) S A n c E 30 30
  rw [hs1] at hb1 hb3 hb4
  have hb5 : Below w.heap.size w w1 := belNext (belAlloc1 _ _) (by rw [hs1]; exact hb4)
  have Pp1 : Hid (PB w1 w.heap.size h l) := Lib.hid ((PB.new _ _ _ _).next (by rw [hs1]; exact hb4))
  have RsD1 := Lib.hid hb3
  have Hlt : Hid (w.heap.size + 1 + 1 < w1.heap.size) := Lib.hid hb3.2
  have Hr := Lib.hid hr
  have Hn := Lib.hid hn
  have Hm := Lib.hid hm
  have Hc := Lib.hid hc
  have Hw := Lib.hid hw1
  have Bx1 := Lib.hid hb1
  have Bel1 := Lib.hid hb5
  clear hr hn hm hc hw1 hb1 hb3 hb4 hb5 hs1 hh hl
  go_enter Tryd.func27, Tryd.ntmps27
  go_wp2_with fail
  rw [← Hw.out]
  obtain ⟨⟨hPp0, hPp1⟩, hPp2⟩ := Pp1.out
  obtain ⟨⟨hBx0, hBx1, hBx2⟩, hBx3⟩ := Bx1.out
  obtain ⟨⟨hRsD0, hRsD1, hRsD2, hRsD3, hRsD4, hRsD5⟩, hRsD6⟩ := RsD1.out
  refine (specIsPair_any h l _ Hb.out.1 Hb.out.2).mono ?_
  rintro e w2 ⟨rfl, hb⟩
  have Sz2 := Lib.hid (Below.size hb)
  have Bel2 := Lib.hid (belNext Bel1.out hb)
  have Pp2 := Lib.hid (Pp1.out.next hb)
  have Bx2 := Lib.hid (Bx1.out.next hb)
  have RsD2 := Lib.hid (RsD1.out.next hb)
  clear hb Bel1 Pp1 Bx1 RsD1 hPp0 hPp1 hPp2 hBx0 hBx1 hBx2 hBx3 hRsD0 hRsD1 hRsD2 hRsD3 hRsD4 hRsD5 hRsD6
  obtain ⟨⟨hPp0, hPp1⟩, hPp2⟩ := Pp2.out
  obtain ⟨⟨hBx0, hBx1, hBx2⟩, hBx3⟩ := Bx2.out
  obtain ⟨⟨hRsD0, hRsD1, hRsD2, hRsD3, hRsD4, hRsD5⟩, hRsD6⟩ := RsD2.out
  by_cases hp : isP h l = true
  · have HP := Lib.hid hp
    rw [hp]
    clear hp
    go_wp2_with fail
    refine (specIsD_any S A n c E xs _ ((Hr.out.below Bel2.out).up Bel2.out.size) Hn.out Hm.out).mono ?_
    rintro e w3 ⟨rfl, hb⟩
    have Sz3 := Lib.hid (Below.size hb)
    have Bel3 := Lib.hid (belNext Bel2.out hb)
    have Pp3 := Lib.hid (Pp2.out.next hb)
    have Bx3 := Lib.hid (Bx2.out.next hb)
    have RsD3 := Lib.hid (RsD2.out.next hb)
    clear hb Bel2 Pp2 Bx2 RsD2 hPp0 hPp1 hPp2 hBx0 hBx1 hBx2 hBx3 hRsD0 hRsD1 hRsD2 hRsD3 hRsD4 hRsD5 hRsD6
    obtain ⟨⟨hPp0, hPp1⟩, hPp2⟩ := Pp3.out
    obtain ⟨⟨hBx0, hBx1, hBx2⟩, hBx3⟩ := Bx3.out
    obtain ⟨⟨hRsD0, hRsD1, hRsD2, hRsD3, hRsD4, hRsD5⟩, hRsD6⟩ := RsD3.out
    by_cases hd : isD S xs E = true
    · have HD := Lib.hid hd
      rw [hd]
      clear hd
      obtain ⟨z, hz, hok, hzv, hn100⟩ := isD_data HD.out Hr.out Hn.out Hc.out
      have Hz := Lib.hid hzv
      have hE1 := hok.2.1
      have hE2 := hok.2.2.1
      have Hres := Lib.hid (ew_yes HP.out HD.out hz)
      have Hf := Lib.hid (isP_fin HP.out)
      have Hux := Lib.hid (nx_u (two_small Hf.out.1 Hf.out.2))
      have hux1 := Hux.out.1
      have hux2 := Hux.out.2
      clear hz hzv hok
      go_wp2_with fail
      refine wp_region_held_drew (S := fun w' => (w'.cell? ⟨w.heap.size, 0, none⟩ = some (.float .f32 h) ∧ w'.cell? ⟨w.heap.size, 1, none⟩ = some (.float .f32 l)) ∧ (w'.cell? ⟨(w.heap.size + 1), 0, none⟩ = some (.int .i64 S) ∧ w'.cell? ⟨(w.heap.size + 1), 1, none⟩ = some (.slice A n c) ∧ w'.cell? ⟨(w.heap.size + 1), 2, none⟩ = some (.int .i64 E))) (by kernel_rfl) ⟨Pp3.out.1, Bx3.out.1⟩ (fun hHeld => ?_)
      clear hPp0 hPp1 hPp2 hBx0 hBx1 hBx2 hBx3 hRsD0 hRsD1 hRsD2 hRsD3 hRsD4 hRsD5 hRsD6
      refine wpAnyH_take (i := 0) (v := ?_) rfl (by kernel_rfl) (by kernel_rfl) (by kernel_rfl) (fun _ _ _ h => h) (Or.inl ⟨by rfl, ?_⟩) (by assumption) ?_
      rotate_left
      · (intro w hSw; (try dsimp only at hSw); go_simp; (try with_reducible rfl))
      try simp only [Act.put, List.setIfInBounds_toArray, List.set_cons_zero, List.set_cons_succ, List.getElem_toArray, List.getElem_cons_succ, List.getElem_cons_zero]
      refine wpAnyH_take (i := 2) (v := ?_) rfl (by kernel_rfl) (by kernel_rfl) (by kernel_rfl) (fun _ _ _ h => h) (Or.inl ⟨by rfl, ?_⟩) (by assumption) ?_
      rotate_left
      · (intro w hSw; (try dsimp only at hSw); go_simp; (try with_reducible rfl))
      try simp only [Act.put, List.setIfInBounds_toArray, List.set_cons_zero, List.set_cons_succ, List.getElem_toArray, List.getElem_cons_succ, List.getElem_cons_zero]
      refine wpAnyH_ready (rs := [1, 8]) (by kernel_rfl) (by simp) ?_
      refine AllReadyH.cons rfl (fun K hK => ?_) (AllReadyH.cons rfl (fun K hK => ?_) AllReadyH.nil)
      · go_simp
        refine (specVal_any h l w3.drew Hb.out.1 Hb.out.2 Hf.out.1 Hf.out.2).mono ?_
        rintro e w4 ⟨S3, A3, n3, c3, rfl, hzo, hb0⟩
        have hb : Below w3.heap.size w3 w4 := belDrew hb0
        obtain ⟨U, hU⟩ : ∃ U, U = nz (uI h + uI l) := ⟨_, rfl⟩
        have HU := Lib.hid hU
        have Hn3 : Hid ((limbs U.natAbs).length = n3 ∧ (n3 : Int) ≤ 12) := Lib.hid (by have e := hzo.2.1; rw [hU]; exact ⟨e, by rw [← e]; have := Nat.le_trans (limbs_len_mono (nz_le _)) (u_len (two_small Hf.out.1 Hf.out.2)); omega⟩)
        have Zo4 : Hid (ZV w4 U S3 A3 n3 c3) := Lib.hid (by rw [hU]; exact hzo.zv)
        obtain ⟨X3, hX3⟩ : ∃ X3, X3 = nx (uI h + uI l) (-149) := ⟨_, rfl⟩
        have HX3 := Lib.hid hX3
        have hx31 : -149 ≤ X3 ∧ X3 ≤ 139 := by rw [hX3]; exact Hux.out
        obtain ⟨hx31, hx32⟩ := hx31
        rw [← hX3]
        clear hzo hX3 hU
        refine hK.out _ _ ⟨(Pp3.out.next hb).1, (Bx3.out.next hb).1⟩ (fun hHeld => ?_)
        clear hK K hb0
        have Sz4 := Lib.hid (Below.size hb)
        have Bel4 := Lib.hid (belNext Bel3.out hb)
        have Pp4 := Lib.hid (Pp3.out.next hb)
        have Bx4 := Lib.hid (Bx3.out.next hb)
        have RsD4 := Lib.hid (RsD3.out.next hb)
        clear hb Bel3 Pp3 Bx3 RsD3
        try simp only [Act.put, List.setIfInBounds_toArray, List.set_cons_zero, List.set_cons_succ, List.getElem_toArray, List.getElem_cons_succ, List.getElem_cons_zero]
        refine wpAnyH_ready (rs := [3, 8]) (by kernel_rfl) (by simp) ?_
        refine AllReadyH.cons rfl (fun K hK => ?_) (AllReadyH.cons rfl (fun K hK => ?_) AllReadyH.nil)
        · go_simp
          refine (specSubD_any U S3 X3 z S E A3 A n3 c3 n c w4 Zo4.out (Hz.out.next Bel4.out) (by have := Hn3.out.2; omega) (by omega) (by omega) (by omega) (by omega) (by omega)).mono ?_
          rintro e w5 ⟨S6, A6, n6, c6, rfl, hzo, hb0⟩
          have hb : Below w4.heap.size w4 w5 := hb0
          have hz6 : sumZ U X3 (-z) E = ewS h l z E := by rw [HX3.out, HU.out]; rfl
          have hm6 : min X3 E = ewM h l E := by rw [HX3.out]; rfl
          have h7 := Nat.le_trans (limbs_len_mono (nz_le _)) (sumZ_len (E := X3) (E' := E) Hn3.out.1 (Hz.out.neg).2.1 (by omega) (by omega) (by omega) (by omega))
          rw [hz6] at hzo h7
          rw [hz6, hm6]
          have Zr5 := Lib.hid hzo
          have Hn6 : Hid (n6 ≤ 1048580) := Lib.hid (by have e := hzo.2.1; have := Hn3.out; omega)
          obtain ⟨X6, hX6⟩ : ∃ X6, X6 = nx (ewS h l z E) (ewM h l E) := ⟨_, rfl⟩
          have HX6 := Lib.hid hX6
          rw [← hX6]
          clear hzo hz6 hm6 hX6 h7
          refine hK.out _ _ ⟨(Pp4.out.next hb).1, (Bx4.out.next hb).1⟩ (fun hHeld => ?_)
          clear hK K hb0
          have Sz5 := Lib.hid (Below.size hb)
          have Bel5 := Lib.hid (belNext Bel4.out hb)
          have Pp5 := Lib.hid (Pp4.out.next hb)
          have Bx5 := Lib.hid (Bx4.out.next hb)
          have RsD5 := Lib.hid (RsD4.out.next hb)
          have Zo5 := Lib.hid (Zo4.out.next hb)
          clear hb Bel4 Pp4 Bx4 RsD4 Zo4
          try simp only [Act.put, List.setIfInBounds_toArray, List.set_cons_zero, List.set_cons_succ, List.getElem_toArray, List.getElem_cons_succ, List.getElem_cons_zero]
          refine wpAnyH_ready (rs := [4, 8]) (by kernel_rfl) (by simp) ?_
          refine AllReadyH.cons rfl (fun K hK => ?_) (AllReadyH.cons rfl (fun K hK => ?_) AllReadyH.nil)
          · go_simp
            refine (specFitP_any (ewS h l z E) (ewM h l E) S6 X6 A6 n6 c6 _ _ w5 Zr5.out Hn6.out HX6.out (by have zz0 := Hlt.out; have zz1 := Sz2.out; have zz2 := Sz3.out; have zz3 := Sz4.out; have zz4 := Sz5.out; first | omega | (simp; done) | (simp; omega))).mono ?_
            rintro e w6 ⟨S9, A9, n9, c9, rfl, hzo, hb0⟩
            have hb : Below w5.heap.size w5 w6 := hb0
            have Zp6 := Lib.hid hzo
            clear hzo
            refine hK.out _ _ ⟨(Pp5.out.next hb).1, (Bx5.out.next hb).1⟩ (fun hHeld => ?_)
            clear hK K hb0
            have Sz6 := Lib.hid (Below.size hb)
            have Bel6 := Lib.hid (belNext Bel5.out hb)
            have Pp6 := Lib.hid (Pp5.out.next hb)
            have Bx6 := Lib.hid (Bx5.out.next hb)
            have RsD6 := Lib.hid (RsD5.out.next hb)
            have Zo6 := Lib.hid (Zo5.out.next hb)
            have Zr6 := Lib.hid (Zr5.out.next hb)
            clear hb Bel5 Pp5 Bx5 RsD5 Zo5 Zr5
            try simp only [Act.put, List.setIfInBounds_toArray, List.set_cons_zero, List.set_cons_succ, List.getElem_toArray, List.getElem_cons_succ, List.getElem_cons_zero]
            refine wpAnyH_take (i := 5) (v := ?_) rfl (by kernel_rfl) (by kernel_rfl) (by kernel_rfl) (fun _ _ _ h => h) (Or.inl ⟨by rfl, ?_⟩) (by assumption) ?_
            rotate_left
            · (intro w hSw; (try dsimp only at hSw); go_simp; (try with_reducible rfl))
            try simp only [Act.put, List.setIfInBounds_toArray, List.set_cons_zero, List.set_cons_succ, List.getElem_toArray, List.getElem_cons_succ, List.getElem_cons_zero]
            refine wpAnyH_take (i := 6) (v := ?_) rfl (by kernel_rfl) (by kernel_rfl) (by kernel_rfl) (fun _ _ _ h => h) (Or.inl ⟨by rfl, ?_⟩) (by assumption) ?_
            rotate_left
            · (intro w hSw; (try dsimp only at hSw); go_simp; (try with_reducible rfl))
            try simp only [Act.put, List.setIfInBounds_toArray, List.set_cons_zero, List.set_cons_succ, List.getElem_toArray, List.getElem_cons_succ, List.getElem_cons_zero]
            refine wpAnyH_take (i := 7) (v := ?_) rfl (by kernel_rfl) (by kernel_rfl) (by kernel_rfl) (fun _ _ _ h => h) (Or.inl ⟨by rfl, ?_⟩) (by assumption) ?_
            rotate_left
            · (intro w hSw; (try dsimp only at hSw); go_simp; (try with_reducible rfl))
            try simp only [Act.put, List.setIfInBounds_toArray, List.set_cons_zero, List.set_cons_succ, List.getElem_toArray, List.getElem_cons_succ, List.getElem_cons_zero]
            refine wpAnyH_ready (rs := [8]) (by kernel_rfl) (by simp) ?_
            refine AllReadyH.cons rfl (fun K hK => ?_) AllReadyH.nil
            go_simp
            obtain ⟨w7, hw⟩ : ∃ w7, w7 = w6.alloc (.cells #[.int .i64 0, .slice none 0 0, .int .i64 0] 30) := ⟨_, rfl⟩
            have hb : Below w6.heap.size w6 w7 := by rw [hw]; exact belAlloc1 _ _
            obtain ⟨f, hf⟩ : ∃ f, f = w6.heap.size := ⟨_, rfl⟩
            have RsDn7 : Hid (DRes w7 f) := Lib.hid (by rw [hw, hf]; exact DRes.new _ _)
            have Hf9 : Hid (w6.heap.size ≤ f) := Lib.hid (by omega)
            have Hf2 : Hid (f < w7.heap.size) := Lib.hid RsDn7.out.2
            rw [← hw]
            try rw [← hf]
            refine hK.out _ _ ⟨(Pp6.out.next hb).1, (Bx6.out.next hb).1⟩ (fun hHeld => ?_)
            clear hK K hw hf
            have Sz7 := Lib.hid (Below.size hb)
            have Bel7 := Lib.hid (belNext Bel6.out hb)
            have Pp7 := Lib.hid (Pp6.out.next hb)
            have Bx7 := Lib.hid (Bx6.out.next hb)
            have RsD7 := Lib.hid (RsD6.out.next hb)
            have Zo7 := Lib.hid (Zo6.out.next hb)
            have Zr7 := Lib.hid (Zr6.out.next hb)
            have Zp7 := Lib.hid (Zp6.out.next hb)
            clear hb Bel6 Pp6 Bx6 RsD6 Zo6 Zr6 Zp6
            try simp only [Act.put, List.setIfInBounds_toArray, List.set_cons_zero, List.set_cons_succ, List.getElem_toArray, List.getElem_cons_succ, List.getElem_cons_zero]
            obtain ⟨⟨r0, r1, r2, r3, r4, r5⟩, r6⟩ := RsDn7.out
            refine wpAnyH_ready (rs := [9]) (by kernel_rfl) (by simp) ?_
            refine AllReadyH.cons rfl (fun K hK => ?_) AllReadyH.nil
            go_simp
            refine hK.out _ (st3 w7 f S9 A9 n9 c9 (fdX (ewS h l z E) (ewM h l E))) ⟨(Pp7.out.st3_ (by have zz0 := Hlt.out; have zz1 := Sz2.out; have zz2 := Sz3.out; have zz3 := Sz4.out; have zz4 := Sz5.out; have zz5 := Sz6.out; have zz6 := Sz7.out; have zz7 := Hf9.out; have zz8 := Hf2.out; first | omega | (simp; done) | (simp; omega))).1, (Bx7.out.st3_ (by have zz0 := Hlt.out; have zz1 := Sz2.out; have zz2 := Sz3.out; have zz3 := Sz4.out; have zz4 := Sz5.out; have zz5 := Sz6.out; have zz6 := Sz7.out; have zz7 := Hf9.out; have zz8 := Hf2.out; first | omega | (simp; done) | (simp; omega))).1⟩ (fun hHeld => ?_)
            clear hK K
            try simp only [Act.put, List.setIfInBounds_toArray, List.set_cons_zero, List.set_cons_succ, List.getElem_toArray, List.getElem_cons_succ, List.getElem_cons_zero]
            refine wpAnyH_ready (rs := [10]) (by kernel_rfl) (by simp) ?_
            refine AllReadyH.cons rfl (fun K hK => ?_) AllReadyH.nil
            go_simp
            refine hK.out _ _ hHeld (fun hHeld => ?_)
            clear hK K
            try simp only [Act.put, List.setIfInBounds_toArray, List.set_cons_zero, List.set_cons_succ, List.getElem_toArray, List.getElem_cons_succ, List.getElem_cons_zero]
            clear hHeld
            refine wpAnyH_done (by kernel_rfl) ?_ _
            obtain ⟨⟨v0, v1, v2⟩, v3⟩ := DBox.made (S := S9) (A := A9) (n := n9) (c := c9) (E := fdX (ewS h l z E) (ewM h l E)) r6 ⟨_, r0⟩ ⟨_, r1⟩ ⟨_, r2⟩
            obtain ⟨⟨hRsD0, hRsD1, hRsD2, hRsD3, hRsD4, hRsD5⟩, hRsD6⟩ := RsD7.out.st3_ (b := f) (S := S9) (A := A9) (n := n9) (c := c9) (E := fdX (ewS h l z E) (ewM h l E)) (by have zz0 := Hlt.out; have zz1 := Sz2.out; have zz2 := Sz3.out; have zz3 := Sz4.out; have zz4 := Sz5.out; have zz5 := Sz6.out; have zz6 := Sz7.out; have zz7 := Hf9.out; have zz8 := Hf2.out; first | omega | (simp; done) | (simp; omega))
            have Zq := Lib.hid (Zp7.out.st3_ (b := f) (S := S9) (A := A9) (n := n9) (c := c9) (E := fdX (ewS h l z E) (ewM h l E)) (.inr (by have zz0 := Hlt.out; have zz1 := Sz2.out; have zz2 := Sz3.out; have zz3 := Sz4.out; have zz4 := Sz5.out; have zz5 := Sz6.out; have zz6 := Sz7.out; have zz7 := Hf9.out; have zz8 := Hf2.out; first | omega | (simp; done) | (simp; omega))))
            have Belq := Lib.hid (belSt3 (b := f) (S := S9) (A := A9) (n := n9) (c := c9) (E := fdX (ewS h l z E) (ewM h l E)) Bel7.out (by have zz0 := Hlt.out; have zz1 := Sz2.out; have zz2 := Sz3.out; have zz3 := Sz4.out; have zz4 := Sz5.out; have zz5 := Sz6.out; have zz6 := Sz7.out; have zz7 := Hf9.out; have zz8 := Hf2.out; first | omega | (simp; done) | (simp; omega)))
            have Szq : Hid ((st3 w7 f S9 A9 n9 c9 (fdX (ewS h l z E) (ewM h l E))).heap.size = w7.heap.size) := Lib.hid st3_size
            clear r0 r1 r2 r3 r4 r5 r6
            obtain ⟨y, hy⟩ : ∃ y, y = st3 w7 f S9 A9 n9 c9 (fdX (ewS h l z E) (ewM h l E)) := ⟨_, rfl⟩
            rw [← hy] at v0 v1 v2 v3 hRsD0 hRsD1 hRsD2 hRsD3 hRsD4 hRsD5 hRsD6 Zq Belq Szq
            rw [← hy]
            clear hy
            go_wp2_with fail
            refine bodyPost_ret (v := .tuple #[.agg #[.int .i64 S9, .slice A9 n9 c9, .int .i64 (fdX (ewS h l z E) (ewM h l E))], .int .i64 (fdE (ewS h l z E) (ewM h l E))]) (by simp [results, Tryd.results27, go_sem, hRsD0, hRsD1, hRsD2]) rfl ⟨S9, A9, n9, c9, by rw [Hres.out.2.1, Hres.out.2.2], ?_, ?_⟩
            · rw [Hres.out.1]; exact (((Zq.out.setCell (.inl (by have zz0 := Hlt.out; have zz1 := Sz2.out; have zz2 := Sz3.out; have zz3 := Sz4.out; have zz4 := Sz5.out; have zz5 := Sz6.out; have zz6 := Sz7.out; have zz7 := Hf9.out; have zz8 := Hf2.out; have zz9 := Szq.out; first | omega | (simp; done) | (simp; omega))) _).setCell (.inl (by have zz0 := Hlt.out; have zz1 := Sz2.out; have zz2 := Sz3.out; have zz3 := Sz4.out; have zz4 := Sz5.out; have zz5 := Sz6.out; have zz6 := Sz7.out; have zz7 := Hf9.out; have zz8 := Hf2.out; have zz9 := Szq.out; first | omega | (simp; done) | (simp; omega))) _).setCell (.inl (by have zz0 := Hlt.out; have zz1 := Sz2.out; have zz2 := Sz3.out; have zz3 := Sz4.out; have zz4 := Sz5.out; have zz5 := Sz6.out; have zz6 := Sz7.out; have zz7 := Hf9.out; have zz8 := Hf2.out; have zz9 := Szq.out; first | omega | (simp; done) | (simp; omega))) _).wide (by have zz0 := Hlt.out; have zz1 := Sz2.out; have zz2 := Sz3.out; have zz3 := Sz4.out; have zz4 := Sz5.out; have zz5 := Sz6.out; have zz6 := Sz7.out; have zz7 := Hf9.out; have zz8 := Hf2.out; have zz9 := Szq.out; first | omega | (simp; done) | (simp; omega)) (by have zz0 := Hlt.out; have zz1 := Sz2.out; have zz2 := Sz3.out; have zz3 := Sz4.out; have zz4 := Sz5.out; have zz5 := Sz6.out; have zz6 := Sz7.out; have zz7 := Hf9.out; have zz8 := Hf2.out; have zz9 := Szq.out; first | omega | (simp; done) | (simp; omega)) (Nat.le_refl _)
            · exact ((Belq.out.setCell (by have zz0 := Hlt.out; have zz1 := Sz2.out; have zz2 := Sz3.out; have zz3 := Sz4.out; have zz4 := Sz5.out; have zz5 := Sz6.out; have zz6 := Sz7.out; have zz7 := Hf9.out; have zz8 := Hf2.out; have zz9 := Szq.out; first | omega | (simp; done) | (simp; omega)) _).setCell (by have zz0 := Hlt.out; have zz1 := Sz2.out; have zz2 := Sz3.out; have zz3 := Sz4.out; have zz4 := Sz5.out; have zz5 := Sz6.out; have zz6 := Sz7.out; have zz7 := Hf9.out; have zz8 := Hf2.out; have zz9 := Szq.out; first | omega | (simp; done) | (simp; omega)) _).setCell (by have zz0 := Hlt.out; have zz1 := Sz2.out; have zz2 := Sz3.out; have zz3 := Sz4.out; have zz4 := Sz5.out; have zz5 := Sz6.out; have zz6 := Sz7.out; have zz7 := Hf9.out; have zz8 := Hf2.out; have zz9 := Szq.out; first | omega | (simp; done) | (simp; omega)) _
          · go_simp
            obtain ⟨w6, hw⟩ : ∃ w6, w6 = w5.alloc (.cells #[.int .i64 0, .slice none 0 0, .int .i64 0] 30) := ⟨_, rfl⟩
            have hb : Below w5.heap.size w5 w6 := by rw [hw]; exact belAlloc1 _ _
            obtain ⟨f, hf⟩ : ∃ f, f = w5.heap.size := ⟨_, rfl⟩
            have RsDn6 : Hid (DRes w6 f) := Lib.hid (by rw [hw, hf]; exact DRes.new _ _)
            have Hf9 : Hid (w5.heap.size ≤ f) := Lib.hid (by omega)
            have Hf2 : Hid (f < w6.heap.size) := Lib.hid RsDn6.out.2
            rw [← hw]
            try rw [← hf]
            refine hK.out _ _ ⟨(Pp5.out.next hb).1, (Bx5.out.next hb).1⟩ (fun hHeld => ?_)
            clear hK K hw hf
            have Sz6 := Lib.hid (Below.size hb)
            have Bel6 := Lib.hid (belNext Bel5.out hb)
            have Pp6 := Lib.hid (Pp5.out.next hb)
            have Bx6 := Lib.hid (Bx5.out.next hb)
            have RsD6 := Lib.hid (RsD5.out.next hb)
            have Zo6 := Lib.hid (Zo5.out.next hb)
            have Zr6 := Lib.hid (Zr5.out.next hb)
            clear hb Bel5 Pp5 Bx5 RsD5 Zo5 Zr5
            try simp only [Act.put, List.setIfInBounds_toArray, List.set_cons_zero, List.set_cons_succ, List.getElem_toArray, List.getElem_cons_succ, List.getElem_cons_zero]
            refine wpAnyH_ready (rs := [4]) (by kernel_rfl) (by simp) ?_
            refine AllReadyH.cons rfl (fun K hK => ?_) AllReadyH.nil
            go_simp
            refine (specFitP_any (ewS h l z E) (ewM h l E) S6 X6 A6 n6 c6 _ _ w6 Zr6.out Hn6.out HX6.out (by have zz0 := Hlt.out; have zz1 := Sz2.out; have zz2 := Sz3.out; have zz3 := Sz4.out; have zz4 := Sz5.out; have zz5 := Sz6.out; have zz6 := Hf9.out; have zz7 := Hf2.out; first | omega | (simp; done) | (simp; omega))).mono ?_
            rintro e w7 ⟨S9, A9, n9, c9, rfl, hzo, hb0⟩
            have hb : Below w6.heap.size w6 w7 := hb0
            have Zp7 := Lib.hid hzo
            clear hzo
            refine hK.out _ _ ⟨(Pp6.out.next hb).1, (Bx6.out.next hb).1⟩ (fun hHeld => ?_)
            clear hK K hb0
            have Sz7 := Lib.hid (Below.size hb)
            have Bel7 := Lib.hid (belNext Bel6.out hb)
            have Pp7 := Lib.hid (Pp6.out.next hb)
            have Bx7 := Lib.hid (Bx6.out.next hb)
            have RsD7 := Lib.hid (RsD6.out.next hb)
            have Zo7 := Lib.hid (Zo6.out.next hb)
            have Zr7 := Lib.hid (Zr6.out.next hb)
            have RsDn7 := Lib.hid (RsDn6.out.next hb)
            clear hb Bel6 Pp6 Bx6 RsD6 Zo6 Zr6 RsDn6
            try simp only [Act.put, List.setIfInBounds_toArray, List.set_cons_zero, List.set_cons_succ, List.getElem_toArray, List.getElem_cons_succ, List.getElem_cons_zero]
            refine wpAnyH_take (i := 5) (v := ?_) rfl (by kernel_rfl) (by kernel_rfl) (by kernel_rfl) (fun _ _ _ h => h) (Or.inl ⟨by rfl, ?_⟩) (by assumption) ?_
            rotate_left
            · (intro w hSw; (try dsimp only at hSw); go_simp; (try with_reducible rfl))
            try simp only [Act.put, List.setIfInBounds_toArray, List.set_cons_zero, List.set_cons_succ, List.getElem_toArray, List.getElem_cons_succ, List.getElem_cons_zero]
            refine wpAnyH_take (i := 6) (v := ?_) rfl (by kernel_rfl) (by kernel_rfl) (by kernel_rfl) (fun _ _ _ h => h) (Or.inl ⟨by rfl, ?_⟩) (by assumption) ?_
            rotate_left
            · (intro w hSw; (try dsimp only at hSw); go_simp; (try with_reducible rfl))
            try simp only [Act.put, List.setIfInBounds_toArray, List.set_cons_zero, List.set_cons_succ, List.getElem_toArray, List.getElem_cons_succ, List.getElem_cons_zero]
            refine wpAnyH_take (i := 7) (v := ?_) rfl (by kernel_rfl) (by kernel_rfl) (by kernel_rfl) (fun _ _ _ h => h) (Or.inl ⟨by rfl, ?_⟩) (by assumption) ?_
            rotate_left
            · (intro w hSw; (try dsimp only at hSw); go_simp; (try with_reducible rfl))
            try simp only [Act.put, List.setIfInBounds_toArray, List.set_cons_zero, List.set_cons_succ, List.getElem_toArray, List.getElem_cons_succ, List.getElem_cons_zero]
            obtain ⟨⟨r0, r1, r2, r3, r4, r5⟩, r6⟩ := RsDn7.out
            refine wpAnyH_ready (rs := [9]) (by kernel_rfl) (by simp) ?_
            refine AllReadyH.cons rfl (fun K hK => ?_) AllReadyH.nil
            go_simp
            refine hK.out _ (st3 w7 f S9 A9 n9 c9 (fdX (ewS h l z E) (ewM h l E))) ⟨(Pp7.out.st3_ (by have zz0 := Hlt.out; have zz1 := Sz2.out; have zz2 := Sz3.out; have zz3 := Sz4.out; have zz4 := Sz5.out; have zz5 := Sz6.out; have zz6 := Hf9.out; have zz7 := Hf2.out; have zz8 := Sz7.out; first | omega | (simp; done) | (simp; omega))).1, (Bx7.out.st3_ (by have zz0 := Hlt.out; have zz1 := Sz2.out; have zz2 := Sz3.out; have zz3 := Sz4.out; have zz4 := Sz5.out; have zz5 := Sz6.out; have zz6 := Hf9.out; have zz7 := Hf2.out; have zz8 := Sz7.out; first | omega | (simp; done) | (simp; omega))).1⟩ (fun hHeld => ?_)
            clear hK K
            try simp only [Act.put, List.setIfInBounds_toArray, List.set_cons_zero, List.set_cons_succ, List.getElem_toArray, List.getElem_cons_succ, List.getElem_cons_zero]
            refine wpAnyH_ready (rs := [10]) (by kernel_rfl) (by simp) ?_
            refine AllReadyH.cons rfl (fun K hK => ?_) AllReadyH.nil
            go_simp
            refine hK.out _ _ hHeld (fun hHeld => ?_)
            clear hK K
            try simp only [Act.put, List.setIfInBounds_toArray, List.set_cons_zero, List.set_cons_succ, List.getElem_toArray, List.getElem_cons_succ, List.getElem_cons_zero]
            clear hHeld
            refine wpAnyH_done (by kernel_rfl) ?_ _
            obtain ⟨⟨v0, v1, v2⟩, v3⟩ := DBox.made (S := S9) (A := A9) (n := n9) (c := c9) (E := fdX (ewS h l z E) (ewM h l E)) r6 ⟨_, r0⟩ ⟨_, r1⟩ ⟨_, r2⟩
            obtain ⟨⟨hRsD0, hRsD1, hRsD2, hRsD3, hRsD4, hRsD5⟩, hRsD6⟩ := RsD7.out.st3_ (b := f) (S := S9) (A := A9) (n := n9) (c := c9) (E := fdX (ewS h l z E) (ewM h l E)) (by have zz0 := Hlt.out; have zz1 := Sz2.out; have zz2 := Sz3.out; have zz3 := Sz4.out; have zz4 := Sz5.out; have zz5 := Sz6.out; have zz6 := Hf9.out; have zz7 := Hf2.out; have zz8 := Sz7.out; first | omega | (simp; done) | (simp; omega))
            have Zq := Lib.hid (Zp7.out.st3_ (b := f) (S := S9) (A := A9) (n := n9) (c := c9) (E := fdX (ewS h l z E) (ewM h l E)) (.inr (by have zz0 := Hlt.out; have zz1 := Sz2.out; have zz2 := Sz3.out; have zz3 := Sz4.out; have zz4 := Sz5.out; have zz5 := Sz6.out; have zz6 := Hf9.out; have zz7 := Hf2.out; have zz8 := Sz7.out; first | omega | (simp; done) | (simp; omega))))
            have Belq := Lib.hid (belSt3 (b := f) (S := S9) (A := A9) (n := n9) (c := c9) (E := fdX (ewS h l z E) (ewM h l E)) Bel7.out (by have zz0 := Hlt.out; have zz1 := Sz2.out; have zz2 := Sz3.out; have zz3 := Sz4.out; have zz4 := Sz5.out; have zz5 := Sz6.out; have zz6 := Hf9.out; have zz7 := Hf2.out; have zz8 := Sz7.out; first | omega | (simp; done) | (simp; omega)))
            have Szq : Hid ((st3 w7 f S9 A9 n9 c9 (fdX (ewS h l z E) (ewM h l E))).heap.size = w7.heap.size) := Lib.hid st3_size
            clear r0 r1 r2 r3 r4 r5 r6
            obtain ⟨y, hy⟩ : ∃ y, y = st3 w7 f S9 A9 n9 c9 (fdX (ewS h l z E) (ewM h l E)) := ⟨_, rfl⟩
            rw [← hy] at v0 v1 v2 v3 hRsD0 hRsD1 hRsD2 hRsD3 hRsD4 hRsD5 hRsD6 Zq Belq Szq
            rw [← hy]
            clear hy
            go_wp2_with fail
            refine bodyPost_ret (v := .tuple #[.agg #[.int .i64 S9, .slice A9 n9 c9, .int .i64 (fdX (ewS h l z E) (ewM h l E))], .int .i64 (fdE (ewS h l z E) (ewM h l E))]) (by simp [results, Tryd.results27, go_sem, hRsD0, hRsD1, hRsD2]) rfl ⟨S9, A9, n9, c9, by rw [Hres.out.2.1, Hres.out.2.2], ?_, ?_⟩
            · rw [Hres.out.1]; exact (((Zq.out.setCell (.inl (by have zz0 := Hlt.out; have zz1 := Sz2.out; have zz2 := Sz3.out; have zz3 := Sz4.out; have zz4 := Sz5.out; have zz5 := Sz6.out; have zz6 := Hf9.out; have zz7 := Hf2.out; have zz8 := Sz7.out; have zz9 := Szq.out; first | omega | (simp; done) | (simp; omega))) _).setCell (.inl (by have zz0 := Hlt.out; have zz1 := Sz2.out; have zz2 := Sz3.out; have zz3 := Sz4.out; have zz4 := Sz5.out; have zz5 := Sz6.out; have zz6 := Hf9.out; have zz7 := Hf2.out; have zz8 := Sz7.out; have zz9 := Szq.out; first | omega | (simp; done) | (simp; omega))) _).setCell (.inl (by have zz0 := Hlt.out; have zz1 := Sz2.out; have zz2 := Sz3.out; have zz3 := Sz4.out; have zz4 := Sz5.out; have zz5 := Sz6.out; have zz6 := Hf9.out; have zz7 := Hf2.out; have zz8 := Sz7.out; have zz9 := Szq.out; first | omega | (simp; done) | (simp; omega))) _).wide (by have zz0 := Hlt.out; have zz1 := Sz2.out; have zz2 := Sz3.out; have zz3 := Sz4.out; have zz4 := Sz5.out; have zz5 := Sz6.out; have zz6 := Hf9.out; have zz7 := Hf2.out; have zz8 := Sz7.out; have zz9 := Szq.out; first | omega | (simp; done) | (simp; omega)) (by have zz0 := Hlt.out; have zz1 := Sz2.out; have zz2 := Sz3.out; have zz3 := Sz4.out; have zz4 := Sz5.out; have zz5 := Sz6.out; have zz6 := Hf9.out; have zz7 := Hf2.out; have zz8 := Sz7.out; have zz9 := Szq.out; first | omega | (simp; done) | (simp; omega)) (Nat.le_refl _)
            · exact ((Belq.out.setCell (by have zz0 := Hlt.out; have zz1 := Sz2.out; have zz2 := Sz3.out; have zz3 := Sz4.out; have zz4 := Sz5.out; have zz5 := Sz6.out; have zz6 := Hf9.out; have zz7 := Hf2.out; have zz8 := Sz7.out; have zz9 := Szq.out; first | omega | (simp; done) | (simp; omega)) _).setCell (by have zz0 := Hlt.out; have zz1 := Sz2.out; have zz2 := Sz3.out; have zz3 := Sz4.out; have zz4 := Sz5.out; have zz5 := Sz6.out; have zz6 := Hf9.out; have zz7 := Hf2.out; have zz8 := Sz7.out; have zz9 := Szq.out; first | omega | (simp; done) | (simp; omega)) _).setCell (by have zz0 := Hlt.out; have zz1 := Sz2.out; have zz2 := Sz3.out; have zz3 := Sz4.out; have zz4 := Sz5.out; have zz5 := Sz6.out; have zz6 := Hf9.out; have zz7 := Hf2.out; have zz8 := Sz7.out; have zz9 := Szq.out; first | omega | (simp; done) | (simp; omega)) _
        · go_simp
          obtain ⟨w5, hw⟩ : ∃ w5, w5 = w4.alloc (.cells #[.int .i64 0, .slice none 0 0, .int .i64 0] 30) := ⟨_, rfl⟩
          have hb : Below w4.heap.size w4 w5 := by rw [hw]; exact belAlloc1 _ _
          obtain ⟨f, hf⟩ : ∃ f, f = w4.heap.size := ⟨_, rfl⟩
          have RsDn5 : Hid (DRes w5 f) := Lib.hid (by rw [hw, hf]; exact DRes.new _ _)
          have Hf9 : Hid (w4.heap.size ≤ f) := Lib.hid (by omega)
          have Hf2 : Hid (f < w5.heap.size) := Lib.hid RsDn5.out.2
          rw [← hw]
          try rw [← hf]
          refine hK.out _ _ ⟨(Pp4.out.next hb).1, (Bx4.out.next hb).1⟩ (fun hHeld => ?_)
          clear hK K hw hf
          have Sz5 := Lib.hid (Below.size hb)
          have Bel5 := Lib.hid (belNext Bel4.out hb)
          have Pp5 := Lib.hid (Pp4.out.next hb)
          have Bx5 := Lib.hid (Bx4.out.next hb)
          have RsD5 := Lib.hid (RsD4.out.next hb)
          have Zo5 := Lib.hid (Zo4.out.next hb)
          clear hb Bel4 Pp4 Bx4 RsD4 Zo4
          try simp only [Act.put, List.setIfInBounds_toArray, List.set_cons_zero, List.set_cons_succ, List.getElem_toArray, List.getElem_cons_succ, List.getElem_cons_zero]
          refine wpAnyH_ready (rs := [3]) (by kernel_rfl) (by simp) ?_
          refine AllReadyH.cons rfl (fun K hK => ?_) AllReadyH.nil
          go_simp
          refine (specSubD_any U S3 X3 z S E A3 A n3 c3 n c w5 Zo5.out (Hz.out.next Bel5.out) (by have := Hn3.out.2; omega) (by omega) (by omega) (by omega) (by omega) (by omega)).mono ?_
          rintro e w6 ⟨S6, A6, n6, c6, rfl, hzo, hb0⟩
          have hb : Below w5.heap.size w5 w6 := hb0
          have hz6 : sumZ U X3 (-z) E = ewS h l z E := by rw [HX3.out, HU.out]; rfl
          have hm6 : min X3 E = ewM h l E := by rw [HX3.out]; rfl
          have h7 := Nat.le_trans (limbs_len_mono (nz_le _)) (sumZ_len (E := X3) (E' := E) Hn3.out.1 (Hz.out.neg).2.1 (by omega) (by omega) (by omega) (by omega))
          rw [hz6] at hzo h7
          rw [hz6, hm6]
          have Zr6 := Lib.hid hzo
          have Hn6 : Hid (n6 ≤ 1048580) := Lib.hid (by have e := hzo.2.1; have := Hn3.out; omega)
          obtain ⟨X6, hX6⟩ : ∃ X6, X6 = nx (ewS h l z E) (ewM h l E) := ⟨_, rfl⟩
          have HX6 := Lib.hid hX6
          rw [← hX6]
          clear hzo hz6 hm6 hX6 h7
          refine hK.out _ _ ⟨(Pp5.out.next hb).1, (Bx5.out.next hb).1⟩ (fun hHeld => ?_)
          clear hK K hb0
          have Sz6 := Lib.hid (Below.size hb)
          have Bel6 := Lib.hid (belNext Bel5.out hb)
          have Pp6 := Lib.hid (Pp5.out.next hb)
          have Bx6 := Lib.hid (Bx5.out.next hb)
          have RsD6 := Lib.hid (RsD5.out.next hb)
          have Zo6 := Lib.hid (Zo5.out.next hb)
          have RsDn6 := Lib.hid (RsDn5.out.next hb)
          clear hb Bel5 Pp5 Bx5 RsD5 Zo5 RsDn5
          try simp only [Act.put, List.setIfInBounds_toArray, List.set_cons_zero, List.set_cons_succ, List.getElem_toArray, List.getElem_cons_succ, List.getElem_cons_zero]
          refine wpAnyH_ready (rs := [4]) (by kernel_rfl) (by simp) ?_
          refine AllReadyH.cons rfl (fun K hK => ?_) AllReadyH.nil
          go_simp
          refine (specFitP_any (ewS h l z E) (ewM h l E) S6 X6 A6 n6 c6 _ _ w6 Zr6.out Hn6.out HX6.out (by have zz0 := Hlt.out; have zz1 := Sz2.out; have zz2 := Sz3.out; have zz3 := Sz4.out; have zz4 := Sz5.out; have zz5 := Hf9.out; have zz6 := Hf2.out; have zz7 := Sz6.out; first | omega | (simp; done) | (simp; omega))).mono ?_
          rintro e w7 ⟨S9, A9, n9, c9, rfl, hzo, hb0⟩
          have hb : Below w6.heap.size w6 w7 := hb0
          have Zp7 := Lib.hid hzo
          clear hzo
          refine hK.out _ _ ⟨(Pp6.out.next hb).1, (Bx6.out.next hb).1⟩ (fun hHeld => ?_)
          clear hK K hb0
          have Sz7 := Lib.hid (Below.size hb)
          have Bel7 := Lib.hid (belNext Bel6.out hb)
          have Pp7 := Lib.hid (Pp6.out.next hb)
          have Bx7 := Lib.hid (Bx6.out.next hb)
          have RsD7 := Lib.hid (RsD6.out.next hb)
          have Zo7 := Lib.hid (Zo6.out.next hb)
          have RsDn7 := Lib.hid (RsDn6.out.next hb)
          have Zr7 := Lib.hid (Zr6.out.next hb)
          clear hb Bel6 Pp6 Bx6 RsD6 Zo6 RsDn6 Zr6
          try simp only [Act.put, List.setIfInBounds_toArray, List.set_cons_zero, List.set_cons_succ, List.getElem_toArray, List.getElem_cons_succ, List.getElem_cons_zero]
          refine wpAnyH_take (i := 5) (v := ?_) rfl (by kernel_rfl) (by kernel_rfl) (by kernel_rfl) (fun _ _ _ h => h) (Or.inl ⟨by rfl, ?_⟩) (by assumption) ?_
          rotate_left
          · (intro w hSw; (try dsimp only at hSw); go_simp; (try with_reducible rfl))
          try simp only [Act.put, List.setIfInBounds_toArray, List.set_cons_zero, List.set_cons_succ, List.getElem_toArray, List.getElem_cons_succ, List.getElem_cons_zero]
          refine wpAnyH_take (i := 6) (v := ?_) rfl (by kernel_rfl) (by kernel_rfl) (by kernel_rfl) (fun _ _ _ h => h) (Or.inl ⟨by rfl, ?_⟩) (by assumption) ?_
          rotate_left
          · (intro w hSw; (try dsimp only at hSw); go_simp; (try with_reducible rfl))
          try simp only [Act.put, List.setIfInBounds_toArray, List.set_cons_zero, List.set_cons_succ, List.getElem_toArray, List.getElem_cons_succ, List.getElem_cons_zero]
          refine wpAnyH_take (i := 7) (v := ?_) rfl (by kernel_rfl) (by kernel_rfl) (by kernel_rfl) (fun _ _ _ h => h) (Or.inl ⟨by rfl, ?_⟩) (by assumption) ?_
          rotate_left
          · (intro w hSw; (try dsimp only at hSw); go_simp; (try with_reducible rfl))
          try simp only [Act.put, List.setIfInBounds_toArray, List.set_cons_zero, List.set_cons_succ, List.getElem_toArray, List.getElem_cons_succ, List.getElem_cons_zero]
          obtain ⟨⟨r0, r1, r2, r3, r4, r5⟩, r6⟩ := RsDn7.out
          refine wpAnyH_ready (rs := [9]) (by kernel_rfl) (by simp) ?_
          refine AllReadyH.cons rfl (fun K hK => ?_) AllReadyH.nil
          go_simp
          refine hK.out _ (st3 w7 f S9 A9 n9 c9 (fdX (ewS h l z E) (ewM h l E))) ⟨(Pp7.out.st3_ (by have zz0 := Hlt.out; have zz1 := Sz2.out; have zz2 := Sz3.out; have zz3 := Sz4.out; have zz4 := Sz5.out; have zz5 := Hf9.out; have zz6 := Hf2.out; have zz7 := Sz6.out; have zz8 := Sz7.out; first | omega | (simp; done) | (simp; omega))).1, (Bx7.out.st3_ (by have zz0 := Hlt.out; have zz1 := Sz2.out; have zz2 := Sz3.out; have zz3 := Sz4.out; have zz4 := Sz5.out; have zz5 := Hf9.out; have zz6 := Hf2.out; have zz7 := Sz6.out; have zz8 := Sz7.out; first | omega | (simp; done) | (simp; omega))).1⟩ (fun hHeld => ?_)
          clear hK K
          try simp only [Act.put, List.setIfInBounds_toArray, List.set_cons_zero, List.set_cons_succ, List.getElem_toArray, List.getElem_cons_succ, List.getElem_cons_zero]
          refine wpAnyH_ready (rs := [10]) (by kernel_rfl) (by simp) ?_
          refine AllReadyH.cons rfl (fun K hK => ?_) AllReadyH.nil
          go_simp
          refine hK.out _ _ hHeld (fun hHeld => ?_)
          clear hK K
          try simp only [Act.put, List.setIfInBounds_toArray, List.set_cons_zero, List.set_cons_succ, List.getElem_toArray, List.getElem_cons_succ, List.getElem_cons_zero]
          clear hHeld
          refine wpAnyH_done (by kernel_rfl) ?_ _
          obtain ⟨⟨v0, v1, v2⟩, v3⟩ := DBox.made (S := S9) (A := A9) (n := n9) (c := c9) (E := fdX (ewS h l z E) (ewM h l E)) r6 ⟨_, r0⟩ ⟨_, r1⟩ ⟨_, r2⟩
          obtain ⟨⟨hRsD0, hRsD1, hRsD2, hRsD3, hRsD4, hRsD5⟩, hRsD6⟩ := RsD7.out.st3_ (b := f) (S := S9) (A := A9) (n := n9) (c := c9) (E := fdX (ewS h l z E) (ewM h l E)) (by have zz0 := Hlt.out; have zz1 := Sz2.out; have zz2 := Sz3.out; have zz3 := Sz4.out; have zz4 := Sz5.out; have zz5 := Hf9.out; have zz6 := Hf2.out; have zz7 := Sz6.out; have zz8 := Sz7.out; first | omega | (simp; done) | (simp; omega))
          have Zq := Lib.hid (Zp7.out.st3_ (b := f) (S := S9) (A := A9) (n := n9) (c := c9) (E := fdX (ewS h l z E) (ewM h l E)) (.inl (by have zz0 := Hlt.out; have zz1 := Sz2.out; have zz2 := Sz3.out; have zz3 := Sz4.out; have zz4 := Sz5.out; have zz5 := Hf9.out; have zz6 := Hf2.out; have zz7 := Sz6.out; have zz8 := Sz7.out; first | omega | (simp; done) | (simp; omega))))
          have Belq := Lib.hid (belSt3 (b := f) (S := S9) (A := A9) (n := n9) (c := c9) (E := fdX (ewS h l z E) (ewM h l E)) Bel7.out (by have zz0 := Hlt.out; have zz1 := Sz2.out; have zz2 := Sz3.out; have zz3 := Sz4.out; have zz4 := Sz5.out; have zz5 := Hf9.out; have zz6 := Hf2.out; have zz7 := Sz6.out; have zz8 := Sz7.out; first | omega | (simp; done) | (simp; omega)))
          have Szq : Hid ((st3 w7 f S9 A9 n9 c9 (fdX (ewS h l z E) (ewM h l E))).heap.size = w7.heap.size) := Lib.hid st3_size
          clear r0 r1 r2 r3 r4 r5 r6
          obtain ⟨y, hy⟩ : ∃ y, y = st3 w7 f S9 A9 n9 c9 (fdX (ewS h l z E) (ewM h l E)) := ⟨_, rfl⟩
          rw [← hy] at v0 v1 v2 v3 hRsD0 hRsD1 hRsD2 hRsD3 hRsD4 hRsD5 hRsD6 Zq Belq Szq
          rw [← hy]
          clear hy
          go_wp2_with fail
          refine bodyPost_ret (v := .tuple #[.agg #[.int .i64 S9, .slice A9 n9 c9, .int .i64 (fdX (ewS h l z E) (ewM h l E))], .int .i64 (fdE (ewS h l z E) (ewM h l E))]) (by simp [results, Tryd.results27, go_sem, hRsD0, hRsD1, hRsD2]) rfl ⟨S9, A9, n9, c9, by rw [Hres.out.2.1, Hres.out.2.2], ?_, ?_⟩
          · rw [Hres.out.1]; exact (((Zq.out.setCell (.inl (by have zz0 := Hlt.out; have zz1 := Sz2.out; have zz2 := Sz3.out; have zz3 := Sz4.out; have zz4 := Sz5.out; have zz5 := Hf9.out; have zz6 := Hf2.out; have zz7 := Sz6.out; have zz8 := Sz7.out; have zz9 := Szq.out; first | omega | (simp; done) | (simp; omega))) _).setCell (.inl (by have zz0 := Hlt.out; have zz1 := Sz2.out; have zz2 := Sz3.out; have zz3 := Sz4.out; have zz4 := Sz5.out; have zz5 := Hf9.out; have zz6 := Hf2.out; have zz7 := Sz6.out; have zz8 := Sz7.out; have zz9 := Szq.out; first | omega | (simp; done) | (simp; omega))) _).setCell (.inl (by have zz0 := Hlt.out; have zz1 := Sz2.out; have zz2 := Sz3.out; have zz3 := Sz4.out; have zz4 := Sz5.out; have zz5 := Hf9.out; have zz6 := Hf2.out; have zz7 := Sz6.out; have zz8 := Sz7.out; have zz9 := Szq.out; first | omega | (simp; done) | (simp; omega))) _).wide (by have zz0 := Hlt.out; have zz1 := Sz2.out; have zz2 := Sz3.out; have zz3 := Sz4.out; have zz4 := Sz5.out; have zz5 := Hf9.out; have zz6 := Hf2.out; have zz7 := Sz6.out; have zz8 := Sz7.out; have zz9 := Szq.out; first | omega | (simp; done) | (simp; omega)) (by have zz0 := Hlt.out; have zz1 := Sz2.out; have zz2 := Sz3.out; have zz3 := Sz4.out; have zz4 := Sz5.out; have zz5 := Hf9.out; have zz6 := Hf2.out; have zz7 := Sz6.out; have zz8 := Sz7.out; have zz9 := Szq.out; first | omega | (simp; done) | (simp; omega)) (Nat.le_refl _)
          · exact ((Belq.out.setCell (by have zz0 := Hlt.out; have zz1 := Sz2.out; have zz2 := Sz3.out; have zz3 := Sz4.out; have zz4 := Sz5.out; have zz5 := Hf9.out; have zz6 := Hf2.out; have zz7 := Sz6.out; have zz8 := Sz7.out; have zz9 := Szq.out; first | omega | (simp; done) | (simp; omega)) _).setCell (by have zz0 := Hlt.out; have zz1 := Sz2.out; have zz2 := Sz3.out; have zz3 := Sz4.out; have zz4 := Sz5.out; have zz5 := Hf9.out; have zz6 := Hf2.out; have zz7 := Sz6.out; have zz8 := Sz7.out; have zz9 := Szq.out; first | omega | (simp; done) | (simp; omega)) _).setCell (by have zz0 := Hlt.out; have zz1 := Sz2.out; have zz2 := Sz3.out; have zz3 := Sz4.out; have zz4 := Sz5.out; have zz5 := Hf9.out; have zz6 := Hf2.out; have zz7 := Sz6.out; have zz8 := Sz7.out; have zz9 := Szq.out; first | omega | (simp; done) | (simp; omega)) _
      · go_simp
        obtain ⟨w4, hw⟩ : ∃ w4, w4 = (w3.alloc (.cells #[.int .i64 0, .slice none 0 0, .int .i64 0] 30)).drew := ⟨_, rfl⟩
        have hb : Below w3.heap.size w3 w4 := by rw [hw]; exact (belAlloc1 _ _).drew
        obtain ⟨f, hf⟩ : ∃ f, f = w3.heap.size := ⟨_, rfl⟩
        have RsDn4 : Hid (DRes w4 f) := Lib.hid (by rw [hw, hf]; exact DRes.new _ _)
        have Hf9 : Hid (w3.heap.size ≤ f) := Lib.hid (by omega)
        have Hf2 : Hid (f < w4.heap.size) := Lib.hid RsDn4.out.2
        rw [← hw]
        try rw [← hf]
        refine hK.out _ _ ⟨(Pp3.out.next hb).1, (Bx3.out.next hb).1⟩ (fun hHeld => ?_)
        clear hK K hw hf
        have Sz4 := Lib.hid (Below.size hb)
        have Bel4 := Lib.hid (belNext Bel3.out hb)
        have Pp4 := Lib.hid (Pp3.out.next hb)
        have Bx4 := Lib.hid (Bx3.out.next hb)
        have RsD4 := Lib.hid (RsD3.out.next hb)
        clear hb Bel3 Pp3 Bx3 RsD3
        try simp only [Act.put, List.setIfInBounds_toArray, List.set_cons_zero, List.set_cons_succ, List.getElem_toArray, List.getElem_cons_succ, List.getElem_cons_zero]
        refine wpAnyH_ready (rs := [1]) (by kernel_rfl) (by simp) ?_
        refine AllReadyH.cons rfl (fun K hK => ?_) AllReadyH.nil
        go_simp
        refine (specVal_any h l w4 Hb.out.1 Hb.out.2 Hf.out.1 Hf.out.2).mono ?_
        rintro e w5 ⟨S3, A3, n3, c3, rfl, hzo, hb0⟩
        have hb : Below w4.heap.size w4 w5 := hb0
        obtain ⟨U, hU⟩ : ∃ U, U = nz (uI h + uI l) := ⟨_, rfl⟩
        have HU := Lib.hid hU
        have Hn3 : Hid ((limbs U.natAbs).length = n3 ∧ (n3 : Int) ≤ 12) := Lib.hid (by have e := hzo.2.1; rw [hU]; exact ⟨e, by rw [← e]; have := Nat.le_trans (limbs_len_mono (nz_le _)) (u_len (two_small Hf.out.1 Hf.out.2)); omega⟩)
        have Zo5 : Hid (ZV w5 U S3 A3 n3 c3) := Lib.hid (by rw [hU]; exact hzo.zv)
        obtain ⟨X3, hX3⟩ : ∃ X3, X3 = nx (uI h + uI l) (-149) := ⟨_, rfl⟩
        have HX3 := Lib.hid hX3
        have hx31 : -149 ≤ X3 ∧ X3 ≤ 139 := by rw [hX3]; exact Hux.out
        obtain ⟨hx31, hx32⟩ := hx31
        rw [← hX3]
        clear hzo hX3 hU
        refine hK.out _ _ ⟨(Pp4.out.next hb).1, (Bx4.out.next hb).1⟩ (fun hHeld => ?_)
        clear hK K hb0
        have Sz5 := Lib.hid (Below.size hb)
        have Bel5 := Lib.hid (belNext Bel4.out hb)
        have Pp5 := Lib.hid (Pp4.out.next hb)
        have Bx5 := Lib.hid (Bx4.out.next hb)
        have RsD5 := Lib.hid (RsD4.out.next hb)
        have RsDn5 := Lib.hid (RsDn4.out.next hb)
        clear hb Bel4 Pp4 Bx4 RsD4 RsDn4
        try simp only [Act.put, List.setIfInBounds_toArray, List.set_cons_zero, List.set_cons_succ, List.getElem_toArray, List.getElem_cons_succ, List.getElem_cons_zero]
        refine wpAnyH_ready (rs := [3]) (by kernel_rfl) (by simp) ?_
        refine AllReadyH.cons rfl (fun K hK => ?_) AllReadyH.nil
        go_simp
        refine (specSubD_any U S3 X3 z S E A3 A n3 c3 n c w5 Zo5.out (Hz.out.next Bel5.out) (by have := Hn3.out.2; omega) (by omega) (by omega) (by omega) (by omega) (by omega)).mono ?_
        rintro e w6 ⟨S6, A6, n6, c6, rfl, hzo, hb0⟩
        have hb : Below w5.heap.size w5 w6 := hb0
        have hz6 : sumZ U X3 (-z) E = ewS h l z E := by rw [HX3.out, HU.out]; rfl
        have hm6 : min X3 E = ewM h l E := by rw [HX3.out]; rfl
        have h7 := Nat.le_trans (limbs_len_mono (nz_le _)) (sumZ_len (E := X3) (E' := E) Hn3.out.1 (Hz.out.neg).2.1 (by omega) (by omega) (by omega) (by omega))
        rw [hz6] at hzo h7
        rw [hz6, hm6]
        have Zr6 := Lib.hid hzo
        have Hn6 : Hid (n6 ≤ 1048580) := Lib.hid (by have e := hzo.2.1; have := Hn3.out; omega)
        obtain ⟨X6, hX6⟩ : ∃ X6, X6 = nx (ewS h l z E) (ewM h l E) := ⟨_, rfl⟩
        have HX6 := Lib.hid hX6
        rw [← hX6]
        clear hzo hz6 hm6 hX6 h7
        refine hK.out _ _ ⟨(Pp5.out.next hb).1, (Bx5.out.next hb).1⟩ (fun hHeld => ?_)
        clear hK K hb0
        have Sz6 := Lib.hid (Below.size hb)
        have Bel6 := Lib.hid (belNext Bel5.out hb)
        have Pp6 := Lib.hid (Pp5.out.next hb)
        have Bx6 := Lib.hid (Bx5.out.next hb)
        have RsD6 := Lib.hid (RsD5.out.next hb)
        have RsDn6 := Lib.hid (RsDn5.out.next hb)
        have Zo6 := Lib.hid (Zo5.out.next hb)
        clear hb Bel5 Pp5 Bx5 RsD5 RsDn5 Zo5
        try simp only [Act.put, List.setIfInBounds_toArray, List.set_cons_zero, List.set_cons_succ, List.getElem_toArray, List.getElem_cons_succ, List.getElem_cons_zero]
        refine wpAnyH_ready (rs := [4]) (by kernel_rfl) (by simp) ?_
        refine AllReadyH.cons rfl (fun K hK => ?_) AllReadyH.nil
        go_simp
        refine (specFitP_any (ewS h l z E) (ewM h l E) S6 X6 A6 n6 c6 _ _ w6 Zr6.out Hn6.out HX6.out (by have zz0 := Hlt.out; have zz1 := Sz2.out; have zz2 := Sz3.out; have zz3 := Sz4.out; have zz4 := Hf9.out; have zz5 := Hf2.out; have zz6 := Sz5.out; have zz7 := Sz6.out; first | omega | (simp; done) | (simp; omega))).mono ?_
        rintro e w7 ⟨S9, A9, n9, c9, rfl, hzo, hb0⟩
        have hb : Below w6.heap.size w6 w7 := hb0
        have Zp7 := Lib.hid hzo
        clear hzo
        refine hK.out _ _ ⟨(Pp6.out.next hb).1, (Bx6.out.next hb).1⟩ (fun hHeld => ?_)
        clear hK K hb0
        have Sz7 := Lib.hid (Below.size hb)
        have Bel7 := Lib.hid (belNext Bel6.out hb)
        have Pp7 := Lib.hid (Pp6.out.next hb)
        have Bx7 := Lib.hid (Bx6.out.next hb)
        have RsD7 := Lib.hid (RsD6.out.next hb)
        have RsDn7 := Lib.hid (RsDn6.out.next hb)
        have Zo7 := Lib.hid (Zo6.out.next hb)
        have Zr7 := Lib.hid (Zr6.out.next hb)
        clear hb Bel6 Pp6 Bx6 RsD6 RsDn6 Zo6 Zr6
        try simp only [Act.put, List.setIfInBounds_toArray, List.set_cons_zero, List.set_cons_succ, List.getElem_toArray, List.getElem_cons_succ, List.getElem_cons_zero]
        refine wpAnyH_take (i := 5) (v := ?_) rfl (by kernel_rfl) (by kernel_rfl) (by kernel_rfl) (fun _ _ _ h => h) (Or.inl ⟨by rfl, ?_⟩) (by assumption) ?_
        rotate_left
        · (intro w hSw; (try dsimp only at hSw); go_simp; (try with_reducible rfl))
        try simp only [Act.put, List.setIfInBounds_toArray, List.set_cons_zero, List.set_cons_succ, List.getElem_toArray, List.getElem_cons_succ, List.getElem_cons_zero]
        refine wpAnyH_take (i := 6) (v := ?_) rfl (by kernel_rfl) (by kernel_rfl) (by kernel_rfl) (fun _ _ _ h => h) (Or.inl ⟨by rfl, ?_⟩) (by assumption) ?_
        rotate_left
        · (intro w hSw; (try dsimp only at hSw); go_simp; (try with_reducible rfl))
        try simp only [Act.put, List.setIfInBounds_toArray, List.set_cons_zero, List.set_cons_succ, List.getElem_toArray, List.getElem_cons_succ, List.getElem_cons_zero]
        refine wpAnyH_take (i := 7) (v := ?_) rfl (by kernel_rfl) (by kernel_rfl) (by kernel_rfl) (fun _ _ _ h => h) (Or.inl ⟨by rfl, ?_⟩) (by assumption) ?_
        rotate_left
        · (intro w hSw; (try dsimp only at hSw); go_simp; (try with_reducible rfl))
        try simp only [Act.put, List.setIfInBounds_toArray, List.set_cons_zero, List.set_cons_succ, List.getElem_toArray, List.getElem_cons_succ, List.getElem_cons_zero]
        obtain ⟨⟨r0, r1, r2, r3, r4, r5⟩, r6⟩ := RsDn7.out
        refine wpAnyH_ready (rs := [9]) (by kernel_rfl) (by simp) ?_
        refine AllReadyH.cons rfl (fun K hK => ?_) AllReadyH.nil
        go_simp
        refine hK.out _ (st3 w7 f S9 A9 n9 c9 (fdX (ewS h l z E) (ewM h l E))) ⟨(Pp7.out.st3_ (by have zz0 := Hlt.out; have zz1 := Sz2.out; have zz2 := Sz3.out; have zz3 := Sz4.out; have zz4 := Hf9.out; have zz5 := Hf2.out; have zz6 := Sz5.out; have zz7 := Sz6.out; have zz8 := Sz7.out; first | omega | (simp; done) | (simp; omega))).1, (Bx7.out.st3_ (by have zz0 := Hlt.out; have zz1 := Sz2.out; have zz2 := Sz3.out; have zz3 := Sz4.out; have zz4 := Hf9.out; have zz5 := Hf2.out; have zz6 := Sz5.out; have zz7 := Sz6.out; have zz8 := Sz7.out; first | omega | (simp; done) | (simp; omega))).1⟩ (fun hHeld => ?_)
        clear hK K
        try simp only [Act.put, List.setIfInBounds_toArray, List.set_cons_zero, List.set_cons_succ, List.getElem_toArray, List.getElem_cons_succ, List.getElem_cons_zero]
        refine wpAnyH_ready (rs := [10]) (by kernel_rfl) (by simp) ?_
        refine AllReadyH.cons rfl (fun K hK => ?_) AllReadyH.nil
        go_simp
        refine hK.out _ _ hHeld (fun hHeld => ?_)
        clear hK K
        try simp only [Act.put, List.setIfInBounds_toArray, List.set_cons_zero, List.set_cons_succ, List.getElem_toArray, List.getElem_cons_succ, List.getElem_cons_zero]
        clear hHeld
        refine wpAnyH_done (by kernel_rfl) ?_ _
        obtain ⟨⟨v0, v1, v2⟩, v3⟩ := DBox.made (S := S9) (A := A9) (n := n9) (c := c9) (E := fdX (ewS h l z E) (ewM h l E)) r6 ⟨_, r0⟩ ⟨_, r1⟩ ⟨_, r2⟩
        obtain ⟨⟨hRsD0, hRsD1, hRsD2, hRsD3, hRsD4, hRsD5⟩, hRsD6⟩ := RsD7.out.st3_ (b := f) (S := S9) (A := A9) (n := n9) (c := c9) (E := fdX (ewS h l z E) (ewM h l E)) (by have zz0 := Hlt.out; have zz1 := Sz2.out; have zz2 := Sz3.out; have zz3 := Sz4.out; have zz4 := Hf9.out; have zz5 := Hf2.out; have zz6 := Sz5.out; have zz7 := Sz6.out; have zz8 := Sz7.out; first | omega | (simp; done) | (simp; omega))
        have Zq := Lib.hid (Zp7.out.st3_ (b := f) (S := S9) (A := A9) (n := n9) (c := c9) (E := fdX (ewS h l z E) (ewM h l E)) (.inl (by have zz0 := Hlt.out; have zz1 := Sz2.out; have zz2 := Sz3.out; have zz3 := Sz4.out; have zz4 := Hf9.out; have zz5 := Hf2.out; have zz6 := Sz5.out; have zz7 := Sz6.out; have zz8 := Sz7.out; first | omega | (simp; done) | (simp; omega))))
        have Belq := Lib.hid (belSt3 (b := f) (S := S9) (A := A9) (n := n9) (c := c9) (E := fdX (ewS h l z E) (ewM h l E)) Bel7.out (by have zz0 := Hlt.out; have zz1 := Sz2.out; have zz2 := Sz3.out; have zz3 := Sz4.out; have zz4 := Hf9.out; have zz5 := Hf2.out; have zz6 := Sz5.out; have zz7 := Sz6.out; have zz8 := Sz7.out; first | omega | (simp; done) | (simp; omega)))
        have Szq : Hid ((st3 w7 f S9 A9 n9 c9 (fdX (ewS h l z E) (ewM h l E))).heap.size = w7.heap.size) := Lib.hid st3_size
        clear r0 r1 r2 r3 r4 r5 r6
        obtain ⟨y, hy⟩ : ∃ y, y = st3 w7 f S9 A9 n9 c9 (fdX (ewS h l z E) (ewM h l E)) := ⟨_, rfl⟩
        rw [← hy] at v0 v1 v2 v3 hRsD0 hRsD1 hRsD2 hRsD3 hRsD4 hRsD5 hRsD6 Zq Belq Szq
        rw [← hy]
        clear hy
        go_wp2_with fail
        refine bodyPost_ret (v := .tuple #[.agg #[.int .i64 S9, .slice A9 n9 c9, .int .i64 (fdX (ewS h l z E) (ewM h l E))], .int .i64 (fdE (ewS h l z E) (ewM h l E))]) (by simp [results, Tryd.results27, go_sem, hRsD0, hRsD1, hRsD2]) rfl ⟨S9, A9, n9, c9, by rw [Hres.out.2.1, Hres.out.2.2], ?_, ?_⟩
        · rw [Hres.out.1]; exact (((Zq.out.setCell (.inl (by have zz0 := Hlt.out; have zz1 := Sz2.out; have zz2 := Sz3.out; have zz3 := Sz4.out; have zz4 := Hf9.out; have zz5 := Hf2.out; have zz6 := Sz5.out; have zz7 := Sz6.out; have zz8 := Sz7.out; have zz9 := Szq.out; first | omega | (simp; done) | (simp; omega))) _).setCell (.inl (by have zz0 := Hlt.out; have zz1 := Sz2.out; have zz2 := Sz3.out; have zz3 := Sz4.out; have zz4 := Hf9.out; have zz5 := Hf2.out; have zz6 := Sz5.out; have zz7 := Sz6.out; have zz8 := Sz7.out; have zz9 := Szq.out; first | omega | (simp; done) | (simp; omega))) _).setCell (.inl (by have zz0 := Hlt.out; have zz1 := Sz2.out; have zz2 := Sz3.out; have zz3 := Sz4.out; have zz4 := Hf9.out; have zz5 := Hf2.out; have zz6 := Sz5.out; have zz7 := Sz6.out; have zz8 := Sz7.out; have zz9 := Szq.out; first | omega | (simp; done) | (simp; omega))) _).wide (by have zz0 := Hlt.out; have zz1 := Sz2.out; have zz2 := Sz3.out; have zz3 := Sz4.out; have zz4 := Hf9.out; have zz5 := Hf2.out; have zz6 := Sz5.out; have zz7 := Sz6.out; have zz8 := Sz7.out; have zz9 := Szq.out; first | omega | (simp; done) | (simp; omega)) (by have zz0 := Hlt.out; have zz1 := Sz2.out; have zz2 := Sz3.out; have zz3 := Sz4.out; have zz4 := Hf9.out; have zz5 := Hf2.out; have zz6 := Sz5.out; have zz7 := Sz6.out; have zz8 := Sz7.out; have zz9 := Szq.out; first | omega | (simp; done) | (simp; omega)) (Nat.le_refl _)
        · exact ((Belq.out.setCell (by have zz0 := Hlt.out; have zz1 := Sz2.out; have zz2 := Sz3.out; have zz3 := Sz4.out; have zz4 := Hf9.out; have zz5 := Hf2.out; have zz6 := Sz5.out; have zz7 := Sz6.out; have zz8 := Sz7.out; have zz9 := Szq.out; first | omega | (simp; done) | (simp; omega)) _).setCell (by have zz0 := Hlt.out; have zz1 := Sz2.out; have zz2 := Sz3.out; have zz3 := Sz4.out; have zz4 := Hf9.out; have zz5 := Hf2.out; have zz6 := Sz5.out; have zz7 := Sz6.out; have zz8 := Sz7.out; have zz9 := Szq.out; first | omega | (simp; done) | (simp; omega)) _).setCell (by have zz0 := Hlt.out; have zz1 := Sz2.out; have zz2 := Sz3.out; have zz3 := Sz4.out; have zz4 := Hf9.out; have zz5 := Hf2.out; have zz6 := Sz5.out; have zz7 := Sz6.out; have zz8 := Sz7.out; have zz9 := Szq.out; first | omega | (simp; done) | (simp; omega)) _
    · have hd2 : isD S xs E = false := by simpa using hd
      have Hres := Lib.hid (ew_noD HP.out hd2)
      rw [hd2]
      clear hd hd2
      go_wp2_with fail
      refine bodyPost_ret (v := .tuple #[.agg #[.int .i64 0, .slice none 0 0, .int .i64 0], .int .i64 1]) (by simp [results, Tryd.results27, go_sem, hRsD0, hRsD1, hRsD2]) rfl ⟨0, none, 0, 0, by rw [Hres.out.2.1, Hres.out.2.2], ?_, ?_⟩
      · rw [Hres.out.1]; exact ZO.zero (Nat.le_refl _)
      · exact ((Bel3.out.setCell (by have zz0 := Hlt.out; have zz1 := Sz2.out; have zz2 := Sz3.out; first | omega | (simp; done) | (simp; omega)) _).setCell (by have zz0 := Hlt.out; have zz1 := Sz2.out; have zz2 := Sz3.out; first | omega | (simp; done) | (simp; omega)) _).setCell (by have zz0 := Hlt.out; have zz1 := Sz2.out; have zz2 := Sz3.out; first | omega | (simp; done) | (simp; omega)) _
  · have hp2 : isP h l = false := by simpa using hp
    have Hres := Lib.hid (ew_noP (S := S) (xs := xs) (E := E) hp2)
    rw [hp2]
    clear hp hp2
    go_wp2_with fail
    refine bodyPost_ret (v := .tuple #[.agg #[.int .i64 0, .slice none 0 0, .int .i64 0], .int .i64 1]) (by simp [results, Tryd.results27, go_sem, hRsD0, hRsD1, hRsD2]) rfl ⟨0, none, 0, 0, by rw [Hres.out.2.1, Hres.out.2.2], ?_, ?_⟩
    · rw [Hres.out.1]; exact ZO.zero (Nat.le_refl _)
    · exact ((Bel2.out.setCell (by have zz0 := Hlt.out; have zz1 := Sz2.out; first | omega | (simp; done) | (simp; omega)) _).setCell (by have zz0 := Hlt.out; have zz1 := Sz2.out; first | omega | (simp; done) | (simp; omega)) _).setCell (by have zz0 := Hlt.out; have zz1 := Sz2.out; first | omega | (simp; done) | (simp; omega)) _

end Go.Proofs.YtnecnbonnidijaaDoor
