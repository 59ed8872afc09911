/- Products of whole numbers, of the program and of the model. -/
import Derived.Test.YtnnoobdcdfcdaaaDoorTi
import Derived.Test.YtnnoobdcdfcdaaaDoorSc
import Derived.IntWalk
namespace Go.Proofs.YtnnoobdcdfcdaaaDoor
set_option maxRecDepth 100000
open Go.RowKit
set_option linter.unusedSimpArgs false
set_option linter.unusedVariables false

theorem sign_prod {s s' : Int} {a b : Nat} (h : Sg s a) (h' : Sg s' b) : (s * s' = 1 ∨ s * s' = -1 ∨ a * b = 0) ∧ (-1 ≤ s * s' ∧ s * s' ≤ 1) ∧ s * s' * ((a * b : Nat) : Int) = s * a * (s' * b) := by
  obtain ⟨h1, h2, h3⟩ := h
  obtain ⟨g1, g2, g3⟩ := h'
  refine ⟨?_, ?_, by rw [Int.natCast_mul, Int.mul_assoc, Int.mul_assoc]; congr 1; rw [← Int.mul_assoc, ← Int.mul_assoc, Int.mul_comm s']⟩
  · by_cases ha : a = 0
    · subst ha; simp
    · by_cases hb : b = 0
      · subst hb; simp
      · have e1 : s = -1 ∨ s = 1 := by omega
        have e2 : s' = -1 ∨ s' = 1 := by omega
        rcases e1 with rfl | rfl <;> rcases e2 with rfl | rfl <;> simp
  · have e1 : s = -1 ∨ s = 0 ∨ s = 1 := by omega
    have e2 : s' = -1 ∨ s' = 0 ∨ s' = 1 := by omega
    rcases e1 with rfl | rfl | rfl <;> rcases e2 with rfl | rfl | rfl <;> simp

set_option maxHeartbeats 2000000 in
theorem implMul_any (s s' : Int) (a b : Nat) (A A' : Option Addr) (n n' c c' : Nat) (w : World) (hs : Sg s a) (hs' : Sg s' b) (hr : Rd w w.heap.size A (vs (limbs a))) (hr' : Rd w w.heap.size A' (vs (limbs b))) (hn : (limbs a).length = n) (hn' : (limbs b).length = n') (hm : (n : Int) ≤ 1000) (hm' : (n' : Int) ≤ 1000) :
    Calls Tryd.prog 108 #[.agg #[.int .i64 s, .slice A n c], .agg #[.int .i64 s', .slice A' n' c']] w fun e w' => ∃ val, e = .returned val ∧ Wz w' w.heap.size w'.heap.size (s * a * (s' * b)) val ∧ Below w.heap.size w w' := by
  have hst := store_int Tryd.prog
  have hst2 := store_slice Tryd.prog
  obtain ⟨w1, hw1, hb1, hb2, hb3, hb4⟩ := three_boxes w s s' A A' n n' c c' 26 26 26
  have Ra1 : Hid (Rt w1 w.heap.size A (vs (limbs a))) := Lib.hid ⟨hr.below hb4, hb4.size⟩
  have Rb1 : Hid (Rt w1 w.heap.size A' (vs (limbs b))) := Lib.hid ⟨hr'.below hb4, hb4.size⟩
  have Hn := Lib.hid hn
  have Hn' := Lib.hid hn'
  have Hsp := Lib.hid (sign_prod hs hs')
  obtain ⟨t, ht⟩ : ∃ t, t = s * s' := ⟨_, rfl⟩
  have hss : wrap64 (s * s') = t := by rw [ht]; exact wrap64_small (by have := Hsp.out.2.1; omega) (by have := Hsp.out.2.1; omega)
  have hss2 : IntKind.i64.wrap (s * s') = t := by rw [ht]; exact IntWalk.i64_in _ (by have := Hsp.out.2.1; omega)
  rw [← ht] at Hsp
  clear ht
  have Hw := Lib.hid hw1
  have Bx1 := Lib.hid hb1
  have By1 := Lib.hid hb2
  have Rs1 := Lib.hid hb3
  have Bel1 := Lib.hid hb4
  have H1000 : Hid ((n : Int) ≤ 1000 ∧ (n' : Int) ≤ 1000) := Lib.hid ⟨hm, hm'⟩
  have H8 : Hid (((limbs (a * b)).length : Int) ≤ 1000000) := Lib.hid (by have := limbs_len_le.2 (prod_lt hn hn'); omega)
  clear hr hr' hn hn' hs hs' hw1 hb1 hb2 hb3 hb4
  go_enter Tryd.func108, Tryd.ntmps108
  go_wp2_with fail
  rw [← Hw.out]
  refine wp_region_held_drew (S := fun w' => (w'.cell? ⟨w.heap.size, 0, none⟩ = some (.int .i64 s) ∧ w'.cell? ⟨w.heap.size, 1, none⟩ = some (.slice A n c)) ∧ (w'.cell? ⟨w.heap.size + 1, 0, none⟩ = some (.int .i64 s') ∧ w'.cell? ⟨w.heap.size + 1, 1, none⟩ = some (.slice A' n' c'))) (by kernel_rfl) ⟨Bx1.out.1, By1.out.1⟩ (fun hHeld => ?_)
  refine wpAnyH_take (i := 0) (v := ?_) rfl (by kernel_rfl) (by kernel_rfl) (by kernel_rfl) (fun _ _ _ h => h) (Or.inl ⟨by rfl, ?_⟩) (by assumption) ?_
  rotate_left
  · (intro w hSw; (try dsimp only at hSw); go_simp; (try with_reducible rfl))
  try simp only [Act.put, List.setIfInBounds_toArray, List.set_cons_zero, List.set_cons_succ]
  refine wpAnyH_take (i := 1) (v := ?_) rfl (by kernel_rfl) (by kernel_rfl) (by kernel_rfl) (fun _ _ _ h => h) (Or.inl ⟨by rfl, ?_⟩) (by assumption) ?_
  rotate_left
  · (intro w hSw; (try dsimp only at hSw); go_simp; (try with_reducible rfl))
  try simp only [Act.put, List.setIfInBounds_toArray, List.set_cons_zero, List.set_cons_succ]
  refine wpAnyH_take (i := 2) (v := ?_) rfl (by kernel_rfl) (by kernel_rfl) (by kernel_rfl) (fun _ _ _ h => h) (Or.inl ⟨by rfl, ?_⟩) (by assumption) ?_
  rotate_left
  · (intro w hSw; (try dsimp only at hSw); go_simp; (try with_reducible rfl))
  try simp only [Act.put, List.setIfInBounds_toArray, List.set_cons_zero, List.set_cons_succ]
  refine wpAnyH_take (i := 3) (v := ?_) rfl (by kernel_rfl) (by kernel_rfl) (by kernel_rfl) (fun _ _ _ h => h) (Or.inl ⟨by rfl, ?_⟩) (by assumption) ?_
  rotate_left
  · (intro w hSw; (try dsimp only at hSw); go_simp; (try with_reducible rfl))
  try simp only [Act.put, List.setIfInBounds_toArray, List.set_cons_zero, List.set_cons_succ]
  refine wpAnyH_take (i := 4) (v := ?_) rfl (by kernel_rfl) (by kernel_rfl) (by kernel_rfl) (fun _ _ _ h => h) (Or.inl ⟨by rfl, ?_⟩) (by assumption) ?_
  rotate_left
  · (intro w hSw; (try dsimp only at hSw); go_simp; (try with_reducible rfl))
  try simp only [Act.put, List.setIfInBounds_toArray, List.set_cons_zero, List.set_cons_succ]
  refine wpAnyH_take (i := 5) (v := ?_) rfl (by kernel_rfl) (by kernel_rfl) (by kernel_rfl) (fun _ _ _ h => h) (Or.inl ⟨by rfl, ?_⟩) (by assumption) ?_
  rotate_left
  · (intro w hSw; (try dsimp only at hSw); go_simp; (try with_reducible rfl))
  try simp only [Act.put, List.setIfInBounds_toArray, List.set_cons_zero, List.set_cons_succ]
  refine wpAnyH_take (i := 6) (v := ?_) rfl (by kernel_rfl) (by kernel_rfl) (by kernel_rfl) (fun _ _ _ h => h) (Or.inl ⟨by rfl, ?_⟩) (by assumption) ?_
  rotate_left
  · (intro w hSw; (try dsimp only at hSw); go_simp; (try with_reducible rfl))
  try simp only [Act.put, List.setIfInBounds_toArray, List.set_cons_zero, List.set_cons_succ]
  refine wpAnyH_take (i := 7) (v := ?_) rfl (by kernel_rfl) (by kernel_rfl) (by kernel_rfl) (fun _ _ _ h => h) (Or.inl ⟨by rfl, ?_⟩) (by assumption) ?_
  rotate_left
  · (intro w hSw; (try dsimp only at hSw); go_simp; (try with_reducible rfl))
  try simp only [Act.put, List.setIfInBounds_toArray, List.set_cons_zero, List.set_cons_succ]
  refine wpAnyH_take (i := 8) (v := ?_) rfl (by kernel_rfl) (by kernel_rfl) (by kernel_rfl) (fun _ _ _ h => h) (Or.inl ⟨by rfl, ?_⟩) (by assumption) ?_
  rotate_left
  · (intro w hSw; (try dsimp only at hSw); go_simp; (try with_reducible rfl))
  try simp only [Act.put, List.setIfInBounds_toArray, List.set_cons_zero, List.set_cons_succ]
  refine wpAnyH_ready (rs := [9]) (by kernel_rfl) (by simp) ?_
  refine AllReadyH.cons rfl (fun K hK => ?_) AllReadyH.nil
  go_simp
  refine (natTimes_any a b A A' n n' c c' _ _ w1.drew Ra1.out.1 Rb1.out.1 Ra1.out.2 Rb1.out.2 Hn.out Hn'.out H1000.out.1 H1000.out.2).mono ?_
  rintro e w8 ⟨A8, rfl, ho8, hb0⟩
  have hb8 := belDrew hb0
  have O8 := Lib.hid ho8
  have Bx8 := Lib.hid (Bx1.out.next hb8)
  have By8 := Lib.hid (By1.out.next hb8)
  have Rs8 := Lib.hid (Rs1.out.next hb8)
  have Bel8 := Lib.hid (belNext Bel1.out hb8)
  refine hK.out _ _ ⟨Bx8.out.1, By8.out.1⟩ (fun hHeld => ?_)
  clear hK K ho8 hb0 hb8
  try simp only [Act.put, List.setIfInBounds_toArray, List.set_cons_zero, List.set_cons_succ]
  refine wpAnyH_ready (rs := [10]) (by kernel_rfl) (by simp) ?_
  refine AllReadyH.cons rfl (fun K hK => ?_) AllReadyH.nil
  go_simp
  refine (signed_any t (a * b) A8 _ _ _ _ _ O8.out rfl H8.out (Nat.le_refl _)).mono ?_
  rintro e w9 ⟨val, rfl, hv, hb9⟩
  have Hz : Hid (Wz w9 w1.heap.size w9.heap.size (s * a * (s' * b)) val) := Lib.hid (((hv.z Hsp.out.1).wide (Nat.le_refl _) hb9.size).cast_ Hsp.out.2.2)
  have Rs9 := Lib.hid (Rs8.out.next hb9)
  have Bel9 := Lib.hid (belNext Bel8.out hb9)
  have Bx9 := Lib.hid (Bx8.out.next hb9)
  have By9 := Lib.hid (By8.out.next hb9)
  have Hlt := Lib.hid Rs1.out.2
  refine hK.out _ _ ⟨Bx9.out.1, By9.out.1⟩ (fun hHeld => ?_)
  clear hK K hv hb9
  try simp only [Act.put, List.setIfInBounds_toArray, List.set_cons_zero, List.set_cons_succ]
  obtain ⟨A9, c9, hval, _⟩ := Hz.out
  subst hval
  obtain ⟨⟨r1, r2, r3, r4⟩, _⟩ := Rs9.out
  refine wpAnyH_ready (rs := [11]) (by kernel_rfl) (by simp) ?_
  refine AllReadyH.cons rfl (fun K hK => ?_) AllReadyH.nil
  go_simp
  refine hK.out _ _ ⟨((Bx9.out.keep (by simp; omega) _).keep (by simp; omega) _).1, ((By9.out.keep (by simp) _).keep (by simp) _).1⟩ (fun hHeld => ?_)
  clear hK K hHeld
  try simp only [Act.put, List.setIfInBounds_toArray, List.set_cons_zero, List.set_cons_succ]
  refine wpAnyH_done (by kernel_rfl) ?_ _
  go_wp2_with fail
  refine bodyPost_ret (v := .agg #[.int .i64 (s * a * (s' * b)).sign, .slice A9 (limbs (s * a * (s' * b)).natAbs).length c9]) (by simp [results, Tryd.results108, go_sem, r1, r2]) rfl ⟨_, rfl, ?_, ?_⟩
  · exact ((Hz.out.setCell (by have := Hlt.out; simp; omega) _).setCell (by have := Hlt.out; simp; omega) _).wide (by have := Hlt.out; omega) (by simp)
  · exact (Bel9.out.setCell (by simp; omega) _).setCell (by simp; omega) _

theorem V_set_digit {ys : List Nat} {k c q d e : Nat} (hk : k < ys.length) (hd : d = (c + ys[k] + q) % Bs) (he : e = (c + ys[k] + q) / Bs) : V (ys.set k d) + Bs ^ (k + 1) * e = V ys + Bs ^ k * (c + q) := by
  rw [V_take_drop (ys.set k d) (k + 1) (by rw [List.length_set]; omega), V_set_take hk, List.drop_set_of_lt (by omega), V_take_drop ys (k + 1) (by omega), V_take_succ hk]
  have h := carry_step (P := V (ys.take k)) (T := V (ys.take k)) (c := 0) (x := c + ys[k] + q) k (by simp)
  rw [Nat.zero_add, ← hd, ← he, Nat.mul_add, Nat.mul_add] at h
  rw [Nat.mul_add]
  omega
theorem V_set_zero {ys : List Nat} {k d : Nat} (hk : k < ys.length) (h0 : ys[k] = 0) : V (ys.set k d) = V ys + Bs ^ k * d := by
  have := V_set_add (d := d) hk
  rw [h0, Nat.zero_add] at this
  exact this

set_option maxHeartbeats 4000000 in
theorem specMul_any (s s' : Int) (a b : Nat) (A A' : Option Addr) (n n' c c' : Nat) (w : World) (hs : Sg s a) (hs' : Sg s' b) (hr : Rd w w.heap.size A (vs (limbs a))) (hr' : Rd w w.heap.size A' (vs (limbs b))) (hn : (limbs a).length = n) (hn' : (limbs b).length = n') (hm : (n : Int) ≤ 1000) (hm' : (n' : Int) ≤ 1000) (hcap : n ≤ c) (hcap' : n' ≤ c') :
    Calls Tryd.prog 107 #[.agg #[.int .i64 s, .slice A n c], .agg #[.int .i64 s', .slice A' n' c']] w fun e w' => ∃ val, e = .returned val ∧ Wz w' w.heap.size w'.heap.size (s * a * (s' * b)) val ∧ Below w.heap.size w w' := by
  have hst := store_int Tryd.prog
  have hst2 := store_slice Tryd.prog
  obtain ⟨i0, hi0, hz0, hz1, hz2⟩ := info_parts infoI
  obtain ⟨w1, hw1, hb1, hb2, hb3, hb4⟩ := three_boxes w s s' A A' n n' c c' 26 26 26
  have Ra1 : Hid (Rt w1 w.heap.size A (vs (limbs a))) := Lib.hid ⟨hr.below hb4, hb4.size⟩
  have Rb1 : Hid (Rt w1 w.heap.size A' (vs (limbs b))) := Lib.hid ⟨hr'.below hb4, hb4.size⟩
  have Hn := Lib.hid hn
  have Hn' := Lib.hid hn'
  have Hsp := Lib.hid (sign_prod hs hs')
  obtain ⟨t, ht⟩ : ∃ t, t = s * s' := ⟨_, rfl⟩
  have hss : wrap64 (s * s') = t := by rw [ht]; exact wrap64_small (by have := Hsp.out.2.1; omega) (by have := Hsp.out.2.1; omega)
  have Hss := Lib.hid hss
  rw [← ht] at Hsp
  clear ht
  have Hw := Lib.hid hw1
  have Bx1 := Lib.hid hb1
  have By1 := Lib.hid hb2
  have Rs1 := Lib.hid hb3
  have Bel1 := Lib.hid hb4
  obtain ⟨L, hL⟩ : ∃ L, L = n + n' + 1 := ⟨_, rfl⟩
  have HL := Lib.hid hL
  have hLi : (n : Int) + n' + 1 = L := by omega
  have hLb : (L : Int) ≤ 2001 := by omega
  have hbytes : i0.bytes * L ≤ 281474976710656 := by rw [hz2]; omega
  clear hr hr' hn hn' hs hs' hw1 hb1 hb2 hb3 hb4 hL hss hcap hcap'
  go_enter Tryd.func107, Tryd.ntmps107
  go_upto_region 1 with (fail)
  rw [← Hw.out]
  obtain ⟨⟨hx1, hx2⟩, hx3⟩ := Bx1.out
  obtain ⟨⟨hy1, hy2⟩, hy3⟩ := By1.out
  go_wp2_with (refine wpList_make_full _ rfl _ _ _ rfl w1.heap.size 2 i0 _ 1 Tryd.underlying22 hi0 hz0 hz1 _ _ _ _ L rfl rfl rfl rfl hbytes (by unfold maxLen; omega) (Nat.le_refl _) ?_; intro w2 hown hg)
  rw [made_zeros] at hown
  have Hown0 := Lib.hid hown
  have Hb0 : Hid (Below w1.heap.size w1 w2) := Lib.hid ((Below.refl _ _).grown hg (Nat.le_refl _) (by simp))
  clear hown hg hbytes hx1 hx2 hx3 hy1 hy2 hy3
  go_loopw [6] (fun iv wr => ∃ (i : Nat) (zs : List Nat), i ≤ n ∧ iv = .int .i64 i ∧ zs.length = L ∧ Lim zs ∧ (∀ p (h : p < zs.length), i + n' ≤ p → zs[p] = 0) ∧ V zs = V ((limbs a).take i) * b ∧ wr.ownsRow w1.heap.size 2 1 (.slice (some ⟨w1.heap.size, 0, none⟩) L L) L (vs zs) ∧ Below w1.heap.size w1 wr) (fun iv _ => n - (intOf iv).toNat)
  case atStart => exact ⟨0, List.replicate L 0, Nat.zero_le _, rfl, List.length_replicate, Lim_zeros _, fun p h _ => by simp, by rw [V_replicate]; simp [V], Hown0.out, Hb0.out⟩
  case round =>
    clear Hown0 Hb0
    obtain ⟨i, zs0, hi, rfl, hzl, hzt, hzz, hzv, hown, hb⟩ := hrel
    have Hzl := Lib.hid hzl
    have Hzt := Lib.hid hzt
    have Hzz := Lib.hid hzz
    have Hzv := Lib.hid hzv
    have Hown := Lib.hid hown
    have Hb := Lib.hid hb
    clear hzl hzt hzz hzv hown hb
    by_cases hlt : i < n
    · have hkx : i < (limbs a).length := by rw [Hn.out]; exact hlt
      have Hva := Lib.hid (V_take_succ hkx)
      have Hxb := Lib.hid ((Lim_limbs a).getElem hkx)
      have hin : (i : Int) < n := by omega
      obtain ⟨⟨hx1, hx2⟩, hx3⟩ := Bx1.out.next Hb.out
      obtain ⟨⟨hy1, hy2⟩, hy3⟩ := By1.out.next Hb.out
      go_wp2_with fail
      go_loopw [7, 8] (fun cv jv wr => ∃ (j cc : Nat) (zs : List Nat), j ≤ n' ∧ jv = .int .i64 j ∧ cv = .int .i64 cc ∧ (cc : Int) ≤ 16777215 ∧ zs.length = L ∧ Lim zs ∧ (∀ p (h : p < zs.length), i + n' ≤ p → zs[p] = 0) ∧ V zs + Bs ^ (i + j) * cc = V ((limbs a).take i) * b + Bs ^ i * ((limbs a)[i] * V ((limbs b).take j)) ∧ wr.ownsRow w1.heap.size 2 1 (.slice (some ⟨w1.heap.size, 0, none⟩) L L) L (vs zs) ∧ Below w1.heap.size w1 wr) (fun _ jv _ => n' - (intOf jv).toNat)
      case atStart => exact ⟨0, 0, zs0, Nat.zero_le _, rfl, rfl, by simp, Hzl.out, Hzt.out, Hzz.out, by simp [V]; exact Hzv.out, Hown.out, Hb.out⟩
      case round =>
        clear Hown Hb Hzl Hzt Hzz Hzv hx1 hx2 hx3 hy1 hy2 hy3
        obtain ⟨j, cc, zs, hj, rfl, rfl, hcc, hzl, hzt, hzz, hzv, hown, hb⟩ := hrel
        have Hzl := Lib.hid hzl
        have Hzt := Lib.hid hzt
        have Hzz := Lib.hid hzz
        have Hzv := Lib.hid hzv
        have Hown := Lib.hid hown
        have Hb := Lib.hid hb
        have hcc0 : (0 : Int) ≤ cc := by omega
        clear hzl hzt hzz hzv hown hb
        obtain ⟨⟨hx1, hx2⟩, hx3⟩ := Bx1.out.next Hb.out
        obtain ⟨⟨hy1, hy2⟩, hy3⟩ := By1.out.next Hb.out
        by_cases hlt2 : j < n'
        · have hky : j < (limbs b).length := by rw [Hn'.out]; exact hlt2
          have hrb := Rb1.out.1.below (Hb.out.mono Rb1.out.2)
          obtain ⟨p', hp', _⟩ := hrb.some_ (by rw [vs_len]; omega)
          subst hp'
          have hcy := hrb.cell (k := j) (by rw [vs_len]; exact hky)
          rw [vs_get hky] at hcy
          have hra := Ra1.out.1.below (Hb.out.mono Ra1.out.2)
          obtain ⟨p, hp, _⟩ := hra.some_ (by rw [vs_len]; omega)
          subst hp
          have hcx := hra.cell (k := i) (by rw [vs_len]; exact hkx)
          rw [vs_get hkx] at hcx
          have Hvb := Lib.hid (V_take_succ hky)
          have Hyb := Lib.hid ((Lim_limbs b).getElem hky)
          have hkz : i + j < zs.length := by rw [Hzl.out, HL.out]; omega
          have hcz := Hown.out.cellAt (i + j) (by rw [← Hzl.out]; omega)
          rw [List.getElem?_eq_getElem (by rw [vs_len]; exact hkz), vs_get hkz] at hcz
          have hfz := Hown.out.frozenAt (i + j)
          have Hub := Lib.hid (Hzt.out.getElem hkz)
          obtain ⟨q, hq⟩ : ∃ q, q = (limbs a)[i] * (limbs b)[j] := ⟨_, rfl⟩
          have hxy : (((limbs a)[i] : Nat) : Int) * ((limbs b)[j] : Nat) = (q : Int) := by rw [hq, Int.natCast_mul]
          have hq0 : (0 : Int) ≤ q := by omega
          have hq1 : (q : Int) ≤ 281474943156225 := by have := mul_le_Mx Hxb.out Hyb.out; rw [← hq] at this; unfold Mx at this; omega
          have hu0 : (0 : Int) ≤ (zs[i + j] : Nat) := by omega
          have hu1 : ((zs[i + j] : Nat) : Int) ≤ 16777215 := by have := Hub.out; rw [Bs_eq] at this; omega
          have hrem : ((cc : Int) + (zs[i + j] : Nat) + q) % 16777216 = (((cc + zs[i + j] + q) % Bs : Nat) : Int) := by rw [Bs_eq]; omega
          have hquo : ((cc : Int) + (zs[i + j] : Nat) + q) / 16777216 = (((cc + zs[i + j] + q) / Bs : Nat) : Int) := by rw [Bs_eq]; omega
          obtain ⟨d, hd⟩ : ∃ d, d = (cc + zs[i + j] + q) % Bs := ⟨_, rfl⟩
          obtain ⟨e, he⟩ : ∃ e, e = (cc + zs[i + j] + q) / Bs := ⟨_, rfl⟩
          have Hs := Lib.hid (V_set_digit hkz hd he)
          have Hdb : Hid (d < Bs ∧ (e : Int) ≤ 16777215) := Lib.hid (by rw [hd, he, Bs_eq]; omega)
          rw [← hd] at hrem
          rw [← he] at hquo
          have hst3 := Hown.out.stored (i + j) (.int .i64 d)
          rw [vs_set] at hst3
          have H1 := Lib.hid hst3
          have Hnew : Hid (∀ p (h : p < (zs.set (i + j) d).length), i + n' ≤ p → (zs.set (i + j) d)[p] = 0) := Lib.hid (fun p h h2 => by
            rw [List.getElem_set, if_neg (by omega)]
            exact Hzz.out p (by rwa [List.length_set] at h) h2)
          have hjn : (j : Int) < n' := by omega
          have hijL : (i : Int) + j < L := by have := HL.out; omega
          have Hq := Lib.hid hq
          have hs1 : (0 : Int) ≤ (cc : Int) + (zs[i + j] : Nat) + q := by omega
          clear hrb hra hst3 hd he hq
          generalize (limbs a)[i] = x at *
          generalize (limbs b)[j] = y at *
          generalize zs[i + j] = u at *
          have htn : ((i : Int) + j).toNat = i + j := by omega
          have hij0 : (0 : Int) ≤ (i : Int) + j := by omega
          have hw1 : IntKind.i64.wrap ((i : Int) + j) = (i : Int) + j := IntWalk.i64_in _ (by omega)
          have hw2 : IntKind.i64.wrap ((cc : Int) + u) = (cc : Int) + u := IntWalk.i64_in _ (by clear hw1; omega)
          have hw4 : IntKind.i64.wrap ((cc : Int) + u + q) = (cc : Int) + u + q := IntWalk.i64_in _ (by clear hw1 hw2; omega)
          have hw3 : IntKind.i64.wrap ((x : Int) * y) = (q : Int) := by rw [hxy]; exact IntWalk.i64_in _ (by clear hw1 hw2 hw4; omega)
          clear hxy
          go_wp2_with fail
          go_quiet (fail)
          clear hw1 hw2 hw3 hw4
          go_wp2_with fail
          go_roundw
          case rel => exact ⟨j + 1, e, zs.set (i + j) d, by omega, by go_num, by first | rfl | rw [hquo], Hdb.out.2, by rw [List.length_set]; exact Hzl.out, Hzt.out.set Hdb.out.1, Hnew.out, by rw [← Nat.add_assoc i j 1, Hs.out, Hvb.out, mul_step, Nat.mul_add, ← Hq.out]; have := Hzv.out; omega, H1.out.1, (Hb.out.grown H1.out.2 Hb.out.size (by simp)).trans ⟨rfl, rfl, rfl, Nat.le_refl _, fun _ _ => rfl⟩⟩
          case measure => simp [intOf]; omega
        · have hjn : j = n' := by omega
          have hkz : i + n' < zs.length := by rw [Hzl.out, HL.out]; omega
          have hcz := Hown.out.cellAt (i + n') (by rw [← Hzl.out]; omega)
          rw [List.getElem?_eq_getElem (by rw [vs_len]; exact hkz), vs_get hkz] at hcz
          have hfz := Hown.out.frozenAt (i + n')
          have Hz0 := Lib.hid (Hzz.out (i + n') hkz (Nat.le_refl _))
          have Hs := Lib.hid (V_set_zero (d := cc) hkz Hz0.out)
          have hst3 := Hown.out.stored (i + n') (.int .i64 cc)
          rw [vs_set] at hst3
          have H1 := Lib.hid hst3
          have Hcb : Hid (cc < Bs) := Lib.hid (by rw [Bs_eq]; omega)
          have Hnew : Hid (∀ p (h : p < (zs.set (i + n') cc).length), i + 1 + n' ≤ p → (zs.set (i + n') cc)[p] = 0) := Lib.hid (fun p h h2 => by
            rw [List.getElem_set, if_neg (by omega)]
            exact Hzz.out p (by rwa [List.length_set] at h) (by omega))
          have Hv2 : Hid (V (zs.set (i + n') cc) = V ((limbs a).take (i + 1)) * b) := Lib.hid (by
            have h := Hzv.out
            have e : (limbs b).take n' = limbs b := take_all (by have := Hn'.out; omega)
            rw [hjn, e, V_limbs] at h
            rw [Hs.out, h, Hva.out, row_step])
          have hnl : ¬ (j : Int) < n' := by omega
          have hijL : (i : Int) + n' < L := by have := HL.out; omega
          have htn : ((i : Int) + n').toNat = i + n' := by omega
          have hij0 : (0 : Int) ≤ (i : Int) + n' := by omega
          rw [Hz0.out] at hcz
          clear hst3
          go_wp2_with fail
          go_roundw
          case rel => exact ⟨i + 1, zs.set (i + n') cc, by omega, by go_num, by rw [List.length_set]; exact Hzl.out, Hzt.out.set Hcb.out, Hnew.out, Hv2.out, H1.out.1, Hb.out.grown H1.out.2 Hb.out.size (by simp)⟩
          case measure => simp [intOf]; omega
    · have hin : i = n := by omega
      have Hfin : Hid (V zs0 = a * b) := Lib.hid (by
        have h := Hzv.out
        rw [hin, take_all (by have := Hn.out; omega), V_limbs] at h
        exact h)
      have hnl : ¬ (i : Int) < n := by omega
      have Bel2 := Lib.hid (belNext Bel1.out Hb.out)
      have Rs2 := Lib.hid (Rs1.out.next Hb.out)
      have Rdz : Hid (Rd wr wr.heap.size (some ⟨w1.heap.size, 0, none⟩) (vs zs0)) := Lib.hid (Rd.own Hown.out)
      obtain ⟨⟨hx1, hx2⟩, hx3⟩ := Bx1.out.next Hb.out
      obtain ⟨⟨hy1, hy2⟩, hy3⟩ := By1.out.next Hb.out
      have hL2 : Hid ((L : Int) ≤ 1000000) := Lib.hid (by omega)
      have hss := Hss.out
      go_wp2_with fail
      refine (make_any t (some ⟨w1.heap.size, 0, none⟩) L L wr.heap.size zs0 wr Rdz.out (Nat.le_refl _) Hzl.out Hzt.out (Int.le_refl _) hL2.out).mono ?_
      rintro e w9 ⟨val, rfl, hv, hb9⟩
      have Hz : Hid (Wz w9 wr.heap.size w9.heap.size (s * a * (s' * b)) val) := Lib.hid ((hv.z (by rw [Hfin.out]; exact Hsp.out.1)).cast_ (by rw [Hfin.out]; exact Hsp.out.2.2))
      have Rs9 := Lib.hid (Rs2.out.next hb9)
      have Bel9 := Lib.hid (belNext Bel2.out hb9)
      have Hlt := Lib.hid Rs2.out.2
      clear hv hb9 hss hx1 hx2 hx3 hy1 hy2 hy3
      obtain ⟨A9, c9, hval, _⟩ := Hz.out
      subst hval
      obtain ⟨⟨r1, r2, r3, r4⟩, _⟩ := Rs9.out
      go_wp2_with fail
      refine bodyPost_ret (v := .agg #[.int .i64 (s * a * (s' * b)).sign, .slice A9 (limbs (s * a * (s' * b)).natAbs).length c9]) (by simp [results, Tryd.results107, go_sem, r1, r2]) rfl ⟨_, rfl, ?_, ?_⟩
      · exact ((Hz.out.setCell (by have := Hlt.out; simp; omega) _).setCell (by have := Hlt.out; simp; omega) _).wide (by have := Hlt.out; omega) (by simp)
      · exact (Bel9.out.setCell (by simp; omega) _).setCell (by simp; omega) _
end Go.Proofs.YtnnoobdcdfcdaaaDoor
