/- IntegerOf, of the model. -/
import Derived.Test.YtmabnnnpjpnhcaaIo
import Derived.Deep.DeepCutAuto
namespace Go.Proofs.Ytmabnnnpjpnhcaa
open Go.RowKit
set_option linter.unusedSimpArgs false
set_option linter.unusedVariables false

theorem Wz.form {w : World} {lo hi : Nat} {z : Int} {val : Value} (h : Wz w lo hi z val) : ∃ (s : Int) (v : Nat) (A : Option Addr) (n c : Nat), val = .agg #[.int .i64 s, .slice A n c] ∧ Sg s v ∧ s * v = z ∧ (limbs v).length = n ∧ Ow w lo hi A (vs (limbs v)) := by
  obtain ⟨A, c, h1, h2, _⟩ := h
  refine ⟨z.sign, z.natAbs, A, _, c, h1, ⟨?_, ?_, ?_⟩, Int.sign_mul_natAbs z, rfl, h2⟩
  · rcases Int.lt_trichotomy z 0 with h | h | h
    · rw [Int.sign_eq_neg_one_of_neg h]; omega
    · subst h; simp
    · rw [Int.sign_eq_one_of_pos h]; omega
  · rcases Int.lt_trichotomy z 0 with h | h | h
    · rw [Int.sign_eq_neg_one_of_neg h]; omega
    · subst h; simp
    · rw [Int.sign_eq_one_of_pos h]; omega
  · rw [Int.sign_eq_zero_iff_zero]; omega
theorem V_drop_le (xs : List Nat) (k : Nat) : V (xs.drop k) ≤ V xs := by
  rcases Nat.le_total k xs.length with h | h
  · rw [V_take_drop xs k h]
    have := Nat.mul_le_mul_right (V (xs.drop k)) (Bs_pow_pos k)
    omega
  · rw [List.drop_of_length_le h]; simp [V]
theorem short_len {s : Int} {v n : Nat} {z : Int} (hs : Sg s v) (hz : s * v = z) (hn : (limbs v).length = n) (h1 : -9223372036854775808 ≤ z) (h2 : z ≤ 9223372036854775807) : (n : Int) ≤ 100000 := by
  have h := (sign_mul_abs s v hs.1 hs.2.1 hs.2.2).2
  have h3 : n ≤ 3 := by
    rw [← hn]
    refine limbs_len_le.2 ?_
    rw [Bs_eq]
    omega
  omega

set_option maxHeartbeats 1000000 in
theorem specInt_any (s : Int) (A : Option Addr) (n c : Nat) (xs : List Int) (w : World) (hr : Rd w w.heap.size A (vi xs)) (hn : xs.length = n) (hm : n ≤ 1048580) :
    Calls Try.prog 27 #[.agg #[.int .i64 s, .slice A n c]] w fun e w' => e = .returned (.tuple #[.int .i64 (intR s xs), .int .i64 (intE s xs)]) ∧ Below w.heap.size w w' := by
  have Hn := Lib.hid hn
  have Hm := Lib.hid hm
  have Ra0 : Hid (Rt w w.heap.size A (vi xs)) := Lib.hid ⟨hr, Nat.le_refl _⟩
  clear hr hn hm
  go_enter Try.func27, Try.ntmps27
  go_wp2_with fail
  obtain ⟨w1, hw1⟩ : ∃ w1, w1 = w.alloc (.cells #[.int .i64 s, .slice A n c] 27) := ⟨_, rfl⟩
  rw [← hw1]
  have hb : Below w.heap.size w w1 := by rw [hw1]; exact belAlloc1 _ _
  have Bel1 := Lib.hid hb
  have Bx1 : Hid (Box w1 w.heap.size s A n c) := Lib.hid (by rw [hw1]; exact Box.new _ _ _ _ _ _)
  have Ra1 := Lib.hid (Ra0.out.next hb)
  clear hw1 hb Ra0
  refine (specIs_any s A n c xs _ Ra1.out.all Hn.out Hm.out).mono ?_
  rintro e w2 ⟨rfl, hb⟩
  have Bel2 := Lib.hid (belNext Bel1.out hb)
  have Bx2 := Lib.hid (Bx1.out.next hb)
  have Ra2 := Lib.hid (Ra1.out.next hb)
  clear hb Bel1 Bx1 Ra1
  obtain ⟨⟨hx1, hx2⟩, hx3⟩ := Bx2.out
  by_cases hw : isW s xs = true
  · rw [hw]
    obtain ⟨v, hv, hs, hx, hl, hh⟩ := okW_data Hn.out hw
    have Hv := Lib.hid hv
    have Hs := Lib.hid hs
    have Hx := Lib.hid hx
    have Hl := Lib.hid hl
    have Hw := Lib.hid hw
    have Hh : Hid ((n : Int) ≤ 100000) := Lib.hid (by omega)
    clear hv hs hx hl hh hw
    go_wp2_with fail
    refine (specOf_any (-9223372036854775808) _ (by decide) (by decide)).mono ?_
    rintro e w3 ⟨val, rfl, hz, hb⟩
    obtain ⟨sl, vl, Al, nl, cl, rfl, hsl, hzl, hnl, hol⟩ := hz.form
    have Dl : Hid (Sg sl vl ∧ sl * vl = -9223372036854775808 ∧ (limbs vl).length = nl ∧ (nl : Int) ≤ 100000) := Lib.hid ⟨hsl, hzl, hnl, short_len hsl hzl hnl (by decide) (by decide)⟩
    have Ol3 := Lib.hid (Ot.new hol)
    have Bel3 := Lib.hid (belNext Bel2.out hb)
    have Bx3 := Lib.hid (Bx2.out.next hb)
    have Ra3 := Lib.hid (Ra2.out.next hb)
    clear hz hsl hzl hnl hol hb Bel2 Bx2 Ra2 hx1 hx2 hx3
    obtain ⟨⟨hx1, hx2⟩, hx3⟩ := Bx3.out
    go_wp2_with fail
    refine (specOf_any 9223372036854775807 _ (by decide) (by decide)).mono ?_
    rintro e w4 ⟨val, rfl, hz, hb⟩
    obtain ⟨sm, vm, Am, nm, cm, rfl, hsl, hzl, hnl, hol⟩ := hz.form
    have Dm : Hid (Sg sm vm ∧ sm * vm = 9223372036854775807 ∧ (limbs vm).length = nm ∧ (nm : Int) ≤ 100000) := Lib.hid ⟨hsl, hzl, hnl, short_len hsl hzl hnl (by decide) (by decide)⟩
    have Om4 := Lib.hid (Ot.new hol)
    have Ol4 := Lib.hid (Ol3.out.next hb)
    have Bel4 := Lib.hid (belNext Bel3.out hb)
    have Bx4 := Lib.hid (Bx3.out.next hb)
    have Ra4 := Lib.hid (Ra3.out.next hb)
    clear hz hsl hzl hnl hol hb Bel3 Bx3 Ra3 Ol3 hx1 hx2 hx3
    obtain ⟨⟨hx1, hx2⟩, hx3⟩ := Bx4.out
    go_upto_region 4 with (fail)
    have Htb := two_boxes w4 sl sm Al Am nl nm cl cm 27 27
    obtain ⟨w5, hw5⟩ : ∃ w5, w5 = (w4.alloc (.cells #[.int .i64 sl, .slice Al nl cl] 27)).alloc (.cells #[.int .i64 sm, .slice Am nm cm] 27) := ⟨_, rfl⟩
    rw [← hw5] at Htb ⊢
    obtain ⟨hbl, hbm, hb⟩ := Htb
    have Bl5 := Lib.hid hbl
    have Bm5 := Lib.hid hbm
    have Bel5 := Lib.hid (belNext Bel4.out hb)
    have Bx5 := Lib.hid (Bx4.out.next hb)
    have Ra5 := Lib.hid (Ra4.out.next hb)
    have Ol5 := Lib.hid (Ol4.out.next hb)
    have Om5 := Lib.hid (Om4.out.next hb)
    clear hw5 hbl hbm hb Bel4 Bx4 Ra4 Ol4 Om4 hx1 hx2 hx3
    obtain ⟨⟨hx1, hx2⟩, hx3⟩ := Bx5.out
    obtain ⟨⟨hl1, hl2⟩, hl3⟩ := Bl5.out
    obtain ⟨⟨hm1, hm2⟩, hm3⟩ := Bm5.out
    go_wp2_with fail
    refine (specCmp_any s sl v vl A Al n nl c cl _ Hs.out Dl.out.1 (Ra5.out.all.eq_ Hx.out) Ol5.out.rt.all Hl.out Dl.out.2.2.1 Hh.out Dl.out.2.2.2).mono ?_
    rintro e w6 ⟨rfl, hb⟩
    rw [Dl.out.2.1]
    have Bel6 := Lib.hid (belNext Bel5.out hb)
    have Bx6 := Lib.hid (Bx5.out.next hb)
    have Bm6 := Lib.hid (Bm5.out.next hb)
    have Ra6 := Lib.hid (Ra5.out.next hb)
    have Om6 := Lib.hid (Om5.out.next hb)
    clear hb Bel5 Bx5 Bl5 Bm5 Ra5 Ol5 Om5 hx1 hx2 hx3 hl1 hl2 hl3 hm1 hm2 hm3
    obtain ⟨⟨hx1, hx2⟩, hx3⟩ := Bx6.out
    obtain ⟨⟨hm1, hm2⟩, hm3⟩ := Bm6.out
    by_cases hlow : s * (v : Int) < -9223372036854775808
    · have hc := cmpI_lt hlow
      rw [hc]
      have Hin : Hid (¬ inR (s * magW s xs)) := Lib.hid (by
        rw [Hv.out]
        rintro ⟨h1, h2⟩
        omega)
      clear hc hlow
      go_wp2_with fail
      go_ret2
      exact ⟨ret_two (by unfold intR; rw [if_neg (fun h => Hin.out h.2)]) (by unfold intE; rw [if_pos Hw.out, if_neg Hin.out]), Bel6.out⟩
    · have hc1 : 0 ≤ cmpI (s * (v : Int)) (-9223372036854775808) := by
        unfold cmpI
        rw [if_neg hlow]
        split <;> omega
      have Hlow := Lib.hid hlow
      clear hlow
      generalize cmpI (s * (v : Int)) (-9223372036854775808) = c1 at *
      go_wp2_with fail
      refine (specCmp_any s sm v vm A Am n nm c cm _ Hs.out Dm.out.1 (Ra6.out.all.eq_ Hx.out) Om6.out.rt.all Hl.out Dm.out.2.2.1 Hh.out Dm.out.2.2.2).mono ?_
      rintro e w7 ⟨rfl, hb⟩
      rw [Dm.out.2.1]
      have Bel7 := Lib.hid (belNext Bel6.out hb)
      have Bx7 := Lib.hid (Bx6.out.next hb)
      have Ra7 := Lib.hid (Ra6.out.next hb)
      clear hb Bel6 Bx6 Bm6 Ra6 Om6 hx1 hx2 hx3 hm1 hm2 hm3
      obtain ⟨⟨hx1, hx2⟩, hx3⟩ := Bx7.out
      by_cases hhigh : 9223372036854775807 < s * (v : Int)
      · have hc := cmpI_gt hhigh
        rw [hc]
        have Hin : Hid (¬ inR (s * magW s xs)) := Lib.hid (by
          rw [Hv.out]
          rintro ⟨h1, h2⟩
          omega)
        clear hc hhigh
        go_wp2_with fail
        go_ret2
        exact ⟨ret_two (by unfold intR; rw [if_neg (fun h => Hin.out h.2)]) (by unfold intE; rw [if_pos Hw.out, if_neg Hin.out]), Bel7.out⟩
      · have hc : cmpI (s * (v : Int)) 9223372036854775807 ≤ 0 := by
          unfold cmpI
          split
          · omega
          · split <;> omega
        have Hin : Hid (inR (s * v)) := Lib.hid ⟨by have := Hlow.out; omega, by omega⟩
        clear hhigh
        generalize cmpI (s * (v : Int)) 9223372036854775807 = c2 at *
        have hrr := Ra7.out.1.eq_ Hx.out
        have hnb := Hh.out
        go_wp2_with fail
        go_loopw [6, 7] (fun sz i wr => ∃ k : Nat, k ≤ n ∧ i = .int .i64 ((k : Int) - 1) ∧ sz = .int .i64 (s * (V ((limbs v).drop k) : Nat)) ∧ ∃ q, wr = w7.drewN q) (fun _ i _ => (intOf i + 1).toNat)
        case atStart => exact ⟨n, Nat.le_refl _, rfl, by rw [List.drop_of_length_le (by have := Hl.out; omega)]; simp [V], 0, rfl⟩
        case round =>
          obtain ⟨k, hk, rfl, rfl, q, hq⟩ := hrel
          subst hq
          by_cases h0 : k = 0
          · subst h0
            have e : V ((limbs v).drop 0) = v := by rw [List.drop_zero, V_limbs]
            rw [e]
            clear e hrr
            go_wp2_with fail
            go_ret2
            exact ⟨ret_two (by unfold intR; rw [if_pos ⟨Hw.out, by rw [Hv.out]; exact Hin.out⟩, Hv.out]) (by unfold intE; rw [if_pos Hw.out, if_pos (by rw [Hv.out]; exact Hin.out)]), below_drewN Bel7.out q⟩
          · obtain ⟨j, rfl⟩ : ∃ j, k = j + 1 := ⟨k - 1, by omega⟩
            have hkx : j < (limbs v).length := by rw [Hl.out]; omega
            obtain ⟨p, hp, _⟩ := hrr.some_ (by rw [vs_len]; omega)
            subst hp
            have hcx := hrr.cell (k := j) (by rw [vs_len]; exact hkx)
            rw [vs_get hkx] at hcx
            have Hvd := Lib.hid (V_drop hkx)
            have Hle := Lib.hid (V_drop_le (limbs v) j)
            have hj : ((j + 1 : Nat) : Int) - 1 = j := by omega
            rw [hj]
            have Hj := Lib.hid hj
            have hjn : (j : Int) < n := by omega
            have Hxb := Lib.hid ((Lim_limbs v).getElem hkx)
            clear hrr hj h0
            generalize hy : V ((limbs v).drop (j + 1)) = y at *
            generalize (limbs v)[j] = x at *
            have Hbd : Hid (∃ r : Int, r = s * (V ((limbs v).drop j) : Nat) ∧ s * (y : Int) * 16777216 + s * (x : Int) = r ∧ (-9223372036854775808 ≤ r ∧ r ≤ 9223372036854775807) ∧ (-9223372036854775808 ≤ s * (y : Int) * 16777216 ∧ s * (y : Int) * 16777216 ≤ 9223372036854775807) ∧ (-16777216 ≤ s * (x : Int) ∧ s * (x : Int) ≤ 16777216)) := Lib.hid (by
              refine ⟨_, rfl, ?_, ?_⟩
              · have e : ((V ((limbs v).drop j) : Nat) : Int) = x + 16777216 * y := by have := Hvd.out; rw [Bs_eq] at this; omega
                rw [e, Int.mul_add, Int.mul_comm 16777216 (y : Int), ← Int.mul_assoc]
                omega
              · have h1 := Hs.out
                have h2 := Hin.out
                have h3 := Hle.out
                have h4 := Hvd.out
                have h5 := Hxb.out
                rw [V_limbs] at h3
                rw [Bs_eq] at h4 h5
                obtain ⟨g1, g2, g3⟩ := h1
                obtain ⟨g4, g5⟩ := h2
                have e : s = -1 ∨ s = 0 ∨ s = 1 := by omega
                rcases e with rfl | rfl | rfl <;> refine ⟨?_, ?_, ?_⟩ <;> omega)
            obtain ⟨r, hr1, hr2, hr3, hr4, hr5⟩ := Hbd.out
            have hsy : (-9223372036854775808 : Int) ≤ s * y ∧ s * (y : Int) ≤ 9223372036854775807 := by omega
            have Hr := Lib.hid hr1
            obtain ⟨sy, hsy1⟩ : ∃ sy, sy = s * (y : Int) := ⟨_, rfl⟩
            obtain ⟨sx, hsx1⟩ : ∃ sx, sx = s * (x : Int) := ⟨_, rfl⟩
            rw [← hsy1] at hr2 hr4 hsy ⊢
            rw [← hsx1] at hr2 hr5
            have hw2 : IntKind.i64.wrap (s * (x : Int)) = sx := by rw [← hsx1]; exact IntWalk.i64_in _ (by clear hr1 hsx1 hsy1; omega)
            have hw1 : IntKind.i64.wrap (sy * 16777216) = sy * 16777216 := IntWalk.i64_in _ (by clear hr1 hsx1 hsy1 hw2; omega)
            have hw3 : IntKind.i64.wrap (sy * 16777216 + sx) = r := by rw [hr2]; exact IntWalk.i64_in _ (by clear hr1 hsx1 hsy1 hw2 hw1; omega)
            clear hr1 hsx1 hsy1 hr2 hr3 hr4 hr5 hsy Hbd hy
            go_wp2_with fail
            go_quiet (fail)
            clear hw1 hw2 hw3
            go_wp2_with fail
            go_roundw
            case rel => exact ⟨j, by omega, rfl, by rw [Hr.out], q + nq, rfl⟩
            case measure => simp [intOf]
  · have hw2 : isW s xs = false := by simpa using hw
    rw [hw2]
    have Hw := Lib.hid hw
    clear hw hw2
    go_wp2_with fail
    go_ret2
    exact ⟨ret_two (by unfold intR; rw [if_neg (fun h => Hw.out h.1)]) (by unfold intE; rw [if_neg Hw.out]), Bel2.out⟩
end Go.Proofs.Ytmabnnnpjpnhcaa
