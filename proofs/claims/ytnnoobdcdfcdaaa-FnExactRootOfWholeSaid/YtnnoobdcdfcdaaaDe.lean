/- Long division, of the program. -/
import Derived.Test.YtnnoobdcdfcdaaaDd
import Derived.Laws.CopyOwn
namespace Go.Proofs.Ytnnoobdcdfcdaaa
set_option maxRecDepth 100000
open Go.RowKit
set_option linter.unusedSimpArgs false
set_option linter.unusedVariables false

theorem ld_low {M D j L : Nat} {ws qs : List Nat} (h : Ld M D (j + 1) L ws qs) (hj : j < ws.length) : V (ws.drop j) < Bs * D := by
  have h1 := V_drop hj
  have h2 := h.lim.getElem hj
  have h3 : Bs * (V (ws.drop (j + 1)) + 1) ≤ Bs * D := Nat.mul_le_mul_left _ h.less
  rw [Nat.mul_add] at h3
  omega
theorem li_set (xs : List Nat) (k z : Nat) : (li xs).set k (z : Int) = li (xs.set k z) := by unfold li; rw [List.map_set]
theorem ow_copy {w : World} {g : Nat} {zs X : List Nat} (h : Ow w g (g + 1) (some ⟨g, 0, none⟩) (vs zs)) (hN : 0 < zs.length) (hX : X.length ≤ zs.length) :
    ∃ cs : Array Value, w.heap[g]? = some (.cells cs 2 (0, 0)) ∧ zs.length ≤ cs.size ∧ Ow (w.setRow g (cs.toList.take 0 ++ (vs X ++ cs.toList.drop (0 + (vs X).length))).toArray) g (g + 1) (some ⟨g, 0, none⟩) (vs (X ++ zs.drop X.length)) ∧ w.grownBy (w.setRow g (cs.toList.take 0 ++ (vs X ++ cs.toList.drop (0 + (vs X).length))).toArray) (some g) := by
  rcases h with h | ⟨g', cs, hA, h2, h3, h4, h5⟩
  · exfalso
    have := congrArg List.length h
    rw [vs_len, List.length_nil] at this
    omega
  · injection hA with hA; injection hA with hA
    subst hA
    have hsz : zs.length ≤ cs.size := by
      have h7 := List.length_take_le' (vs zs).length cs.toList
      rw [h5, vs_len] at h7
      simpa using h7
    refine ⟨cs, h4, hsz, .inr ⟨g, _, rfl, h2, h3, setRow_heap w g _ _ _ _ h4, ?_⟩, ⟨rfl, rfl, rfl, by simp [World.setRow], fun b hb hne => setRow_other w g b _ (fun e => hne (by rw [e]))⟩⟩
    have e1 : vs (X ++ zs.drop X.length) = vs X ++ (vs zs).drop X.length := by rw [vs_append, vs_drop]
    have e2 : (vs X ++ (vs zs).drop X.length).length = zs.length := by rw [List.length_append, List.length_drop, vs_len, vs_len]; omega
    rw [e1, e2, List.take_zero, List.nil_append, Nat.zero_add, vs_len]
    rw [List.take_append, List.take_of_length_le (by rw [vs_len]; exact hX), vs_len]
    congr 1
    conv => rhs; rw [← h5]
    rw [List.drop_take, vs_len]

set_option maxHeartbeats 2000000 in
theorem natDivG_any (a b : Nat) (A A' : Option Addr) (n n' c c' B B' : Nat) (w : World) (hr : Rd w B A (vs (limbs a))) (hr' : Rd w B' A' (vs (limbs b))) (hB : B ≤ w.heap.size) (hB' : B' ≤ w.heap.size) (hn : (limbs a).length = n) (hn' : (limbs b).length = n') (hm : (n : Int) ≤ 90000) (h2 : (2 : Int) ≤ n') (hab : b ≤ a) :
    Calls Try.prog 42 #[.slice A n c, .slice A' n' c'] w fun e w' => ∃ A2 A3 mid, e = .returned (.tuple #[.slice A2 (limbs (a / b)).length (limbs (a / b)).length, .slice A3 (limbs (a % b)).length (limbs (a % b)).length]) ∧ w.heap.size ≤ mid ∧ mid ≤ w'.heap.size ∧ Ow w' w.heap.size mid A2 (vs (limbs (a / b))) ∧ Ow w' mid w'.heap.size A3 (vs (limbs (a % b))) ∧ Below w.heap.size w w' := by
  obtain ⟨i0, hi0, hz0, hz1, hz2⟩ := info_parts infoI
  have hst := store_int Try.prog
  have hcmp := cmp_ge hab
  have hb0 : 0 < b := by
    rcases Nat.eq_zero_or_pos b with h | h
    · subst h; rw [limbs_zero] at hn'; simp at hn'; omega
    · exact h
  obtain ⟨k, hk⟩ : ∃ k, k = 24 * n' - blen b := ⟨_, rfl⟩
  obtain ⟨hk1, hk2, hk3⟩ := norm_facts hb0 hn' hk
  have hle : n' ≤ n := by
    rcases Nat.lt_or_ge n n' with h | h
    · have := lt_of_len (a := a) (b := b) (by omega); omega
    · exact h
  have hkI : (n' : Int) * 24 - blen b = k := by omega
  have hnn : (n' : Int) ≤ n := by omega
  have hkb : (k : Int) ≤ 23 := by omega
  have hn1 : ((n' : Int) == 1) = false := beq_false_of_ne (by omega)
  have Hk3 := Lib.hid hk3
  have Hle := Lib.hid hle
  have Hb0 := Lib.hid hb0
  have Hr := Lib.hid (hr.up hB)
  have Hr' := Lib.hid (hr'.up hB')
  have Hn := Lib.hid hn
  have Hn' := Lib.hid hn'
  have hbl : (blen b : Int) ≤ 2400000 := by omega
  have Hmm : Hid ((limbs (2 ^ k * a)).length ≤ n + 1) := Lib.hid (limbs_len_le.2 (by
    have h1 : a < Bs ^ n := limbs_len_le.1 (by omega)
    have h2 : 2 ^ k ≤ Bs := by rw [Bs_eq]; exact Nat.pow_le_pow_right (show 2 > 0 by omega) (show k ≤ 24 by omega)
    rw [Nat.pow_succ, Nat.mul_comm]
    exact Nat.lt_of_lt_of_le (Nat.mul_lt_mul_of_pos_right h1 (Nat.two_pow_pos k)) (Nat.mul_le_mul_left _ h2)))
  clear hr hr' hn hn' hB hB' hk hk1 hk2 hk3 hle hb0 hab
  go_enter Try.func42, Try.ntmps42
  go_wp2_with fail
  refine (natCmp_any a b A _ n n' c c' _ _ w Hr.out Hr'.out Hn.out Hn'.out (by omega) (by omega)).mono ?_
  rintro e w1 ⟨rfl, nq, rfl⟩
  generalize cmpI a b = z at *
  go_wp2_with fail
  refine (natLen_any b A' n' c' _ (w.drewN nq) (Hr'.out.drewN nq) Hn'.out (by omega)).mono ?_
  rintro e w1 ⟨rfl, rfl⟩
  go_wp2_with fail
  refine (natShl_any b k A' n' c' _ (w.drewN nq) (Hr'.out.drewN nq) (Nat.le_refl _) Hn'.out (by omega) (by omega)).mono ?_
  rintro e w1 ⟨Ad, rfl, hownd, hbd⟩
  rw [Hk3.out]
  have Hod := Lib.hid hownd
  have Hbd : Hid (Below w.heap.size w w1) := Lib.hid ((below_drewN (Below.refl _ _) nq).trans hbd)
  clear hownd hbd
  obtain ⟨N, hN⟩ : ∃ N, N = n + 1 := ⟨_, rfl⟩
  have hNi : (n : Int) + 1 = N := by omega
  have hbytes : i0.bytes * N ≤ 281474976710656 := by rw [hz2]; omega
  have HN := Lib.hid hN
  clear hN
  go_wp2_with (refine wpList_make_full _ rfl _ _ _ rfl w1.heap.size 2 i0 _ 1 Try.underlying61 hi0 hz0 hz1 _ _ _ _ N rfl rfl rfl rfl hbytes (by unfold maxLen; omega) (Nat.le_refl _) ?_; intro w2 hown2 hg2)
  rw [made_zeros] at hown2
  have HoR : Hid (Ow w2 w1.heap.size (w1.heap.size + 1) (some ⟨w1.heap.size, 0, none⟩) (vs (List.replicate N 0))) := Lib.hid (by
    rcases Ow.own hown2 with h | ⟨g, cs, h1, h2, h3, h4, h5⟩
    · exact .inl h
    · exact .inr ⟨g, cs, h1, h2, by injection h1 with h1; injection h1 with h1; omega, h4, h5⟩)
  have Hs2 : Hid (w1.heap.size < w2.heap.size) := Lib.hid (by
    obtain ⟨g, h1, _, _, h4⟩ := HoR.out.lt (by intro e; have := congrArg List.length e; rw [vs_len, List.length_replicate] at this; simp at this; omega)
    injection h1 with h1; injection h1 with h1; omega)
  have Hod2 : Hid (Ow w2 w.heap.size w1.heap.size Ad (vs (limbs (2 ^ k * b)))) := Lib.hid (Hod.out.grown hg2 (by intro g h; cases h))
  have Hb2 : Hid (Below w.heap.size w w2) := Lib.hid (Hbd.out.grown hg2 Hbd.out.size (by simp))
  clear hown2 hg2 hbytes
  refine (natShl_any a k A n c _ w2 (Hr.out.below Hb2.out) Hb2.out.size Hn.out (by omega) (by omega)).mono ?_
  rintro e w3 ⟨Am, rfl, hownm, hbm⟩
  have Hbm := Lib.hid hbm
  have Hb3 : Hid (Below w.heap.size w w3) := Lib.hid (Hb2.out.trans (hbm.mono Hb2.out.size))
  have Hod3 : Hid (Ow w3 w.heap.size w1.heap.size Ad (vs (limbs (2 ^ k * b)))) := Lib.hid (Hod2.out.below hbm (by have := Hs2.out; omega))
  have HoR3 := HoR.out.below hbm (by have := Hs2.out; omega)
  obtain ⟨X, hX⟩ : ∃ X, X = limbs (2 ^ k * a) := ⟨_, rfl⟩
  have hXl : X.length ≤ N := by rw [hX, HN.out]; exact Hmm.out
  have hX0 : 0 < X.length := by
    rw [hX]
    rcases Nat.eq_zero_or_pos (limbs (2 ^ k * a)).length with h | h
    · exfalso
      have h1 := limbs_len_zero.1 h
      have h3 := Nat.mul_pos (Nat.two_pow_pos k) (show 0 < a by
        rcases Nat.eq_zero_or_pos a with h | h
        · have := Hn.out; rw [h, limbs_zero] at this; simp at this; omega
        · exact h)
      omega
    · exact h
  obtain ⟨cs, hcs, hcsz, how4, hg4⟩ := ow_copy (X := X) HoR3 (by rw [List.length_replicate]; omega) (by rw [List.length_replicate]; exact hXl)
  rw [List.length_replicate] at hcsz
  rw [← hX] at hownm ⊢
  obtain ⟨am, ham, _⟩ := hownm.rd.some_ (by rw [vs_len]; exact hX0)
  subst ham
  have Hsrc : Hid (∀ j v, (vs X)[j]? = some v → w3.cell? (am.add j) = some v) := Lib.hid (fun j v hv => by
    obtain ⟨a', e1, _, e3⟩ := hownm.rd j v hv
    injection e1 with e1
    rw [e1]; exact e3)
  have Hcs := Lib.hid hcs
  have Hcsz := Lib.hid hcsz
  have HX := Lib.hid hX
  have HXl := Lib.hid hXl
  have hXv : (vs X).length = X.length := vs_len X
  obtain ⟨w4, hw4⟩ : ∃ w4, w4 = w3.setRow w1.heap.size (cs.toList.take 0 ++ (vs X ++ cs.toList.drop (0 + (vs X).length))).toArray := ⟨_, rfl⟩
  rw [← hw4] at how4 hg4
  have Hw4 := Lib.hid hw4
  have HoR4 := Lib.hid how4
  have Hod4 : Hid (Ow w4 w.heap.size w1.heap.size Ad (vs (limbs (2 ^ k * b)))) := Lib.hid (Hod3.out.grown hg4 (by intro g h; injection h with h; omega))
  have Hb4 : Hid (Below w.heap.size w w4) := Lib.hid (Hb3.out.grown hg4 Hb3.out.size (by intro g h; injection h with h; rw [← h]; exact Hbd.out.size))
  have Hb4s : Hid (w.heap.size ≤ w4.heap.size) := Lib.hid Hb4.out.size
  have Hs4 : Hid (w1.heap.size < w4.heap.size) := Lib.hid (Nat.lt_of_lt_of_le Hs2.out (Nat.le_trans Hbm.out.size hg4.size))
  have hsz1 : (Try.prog.info? 2).map (·.size) = some 1 := by rw [hi0]; simp [hz1]
  obtain ⟨L, hL⟩ : ∃ L, L = n - n' + 1 := ⟨_, rfl⟩
  have HL := Lib.hid hL
  have hLi : (n : Int) - n' + 1 = L := by have := Hle.out; omega
  have hbytes : i0.bytes * L ≤ 281474976710656 := by rw [hz2]; omega
  have hLm : L ≤ maxLen := by unfold maxLen; omega
  have Hmin : Hid ((vs X).length = Nat.min X.length N) := Lib.hid (by rw [vs_len]; exact (Nat.min_eq_left hXl).symm)
  clear hL hcs hcsz hX hXl how4 hg4 hownm HoR3 hbm hw4 hX0
  generalize hlX : X.length = lX at *
  have HlX := Lib.hid hlX
  clear hlX
  go_wp2_with (first | (with_reducible show wpList _ _ _ _ _ _; refine wpList_copy_own rfl (.tmp 47) (.tmp 50) _ _ rfl 2 Try.underlying61 hsz1 w1.heap.size 0 N N am lX lX rfl rfl cs _ Hcs.out (vs X) Hmin.out Hsrc.out (by rw [hXv, Nat.zero_add]; exact Nat.le_trans HXl.out Hcsz.out) (vs_one · X) ?_; rw [← Hw4.out]) | (refine wpList_make_full _ rfl _ _ _ rfl w4.heap.size 2 i0 _ 1 Try.underlying61 hi0 hz0 hz1 _ _ _ _ L rfl rfl rfl rfl hbytes hLm (Nat.le_refl _) ?_; intro w5 hown5 hg5))
  rw [made_zeros] at hown5
  have HoQ : Hid (Ow w5 w4.heap.size (w4.heap.size + 1) (some ⟨w4.heap.size, 0, none⟩) (vs (List.replicate L 0))) := Lib.hid (by
    rcases Ow.own hown5 with h | ⟨g, cs, h1, h2, h3, h4, h5⟩
    · exact .inl h
    · exact .inr ⟨g, cs, h1, h2, by injection h1 with h1; injection h1 with h1; omega, h4, h5⟩)
  have HoR5 : Hid (Ow w5 w1.heap.size (w1.heap.size + 1) (some ⟨w1.heap.size, 0, none⟩) (vs (X ++ (List.replicate N 0).drop lX))) := Lib.hid (HoR4.out.grown hg5 (by intro g h; cases h))
  have Hod5 : Hid (Ow w5 w.heap.size w1.heap.size Ad (vs (limbs (2 ^ k * b)))) := Lib.hid (Hod4.out.grown hg5 (by intro g h; cases h))
  have Hb5 : Hid (Below w.heap.size w w5) := Lib.hid (Hb4.out.grown hg5 Hb4.out.size (by simp))
  have Hs5 : Hid (w4.heap.size ≤ w5.heap.size) := Lib.hid hg5.size
  clear hown5 hg5
  have Hst : Hid ((X ++ (List.replicate N 0).drop lX).length = N ∧ Ld (2 ^ k * a) (2 ^ k * b) L L (X ++ (List.replicate N 0).drop lX) (List.replicate L 0)) := Lib.hid (by
    have h1 : (X ++ (List.replicate N 0).drop lX).length = N := by rw [List.length_append, List.length_drop, List.length_replicate, HlX.out]; have := HXl.out; omega
    have h3 : V (X ++ (List.replicate N 0).drop lX) = 2 ^ k * a := by
      rw [V_append, V_zeros (xs := (List.replicate N 0).drop lX) (fun x hx => (List.mem_replicate.1 (List.mem_of_mem_drop hx)).2), HX.out, V_limbs, Nat.mul_zero, Nat.add_zero]
    have h4 : Lim (X ++ (List.replicate N 0).drop lX) := by
      refine Lim.append ?_ ((Lim_zeros N).drop lX)
      rw [HX.out]; exact Lim_limbs _
    refine ⟨h1, ?_⟩
    rw [HL.out]
    exact ld_first Hb0.out Hn.out Hn'.out Hle.out h4 (by rw [h1]; exact HN.out) h3)
  go_loopw [12] (fun iv wr => ∃ (i : Nat) (ws qs : List Nat), i ≤ L ∧ iv = .int .i64 ((i : Int) - 1) ∧ ws.length = N ∧ Ld (2 ^ k * a) (2 ^ k * b) i L ws qs ∧ Ow wr w1.heap.size (w1.heap.size + 1) (some ⟨w1.heap.size, 0, none⟩) (vs ws) ∧ Ow wr w4.heap.size (w4.heap.size + 1) (some ⟨w4.heap.size, 0, none⟩) (vs qs) ∧ Ow wr w.heap.size w1.heap.size Ad (vs (limbs (2 ^ k * b))) ∧ Below w.heap.size w wr ∧ w5.heap.size ≤ wr.heap.size) (fun iv _ => (intOf iv + 1).toNat)
  case atStart => exact ⟨L, _, _, Nat.le_refl _, rfl, Hst.out.1, Hst.out.2, HoR5.out, HoQ.out, Hod5.out, Hb5.out, Nat.le_refl _⟩
  case round =>
    clear Hst HoR5 HoQ Hod5 Hb5 HoR4 Hod4 Hb4 Hod3 Hb3 Hod2 Hb2 HoR Hod Hcs Hcsz Hsrc Hmin HX HXl HlX hXv hbytes hsz1 hLm
    obtain ⟨i, ws, qs, hi, rfl, hwl, hLd, hoR, hoQ, hod, hb, hs⟩ := hrel
    have Hwl := Lib.hid hwl
    have HLd := Lib.hid hLd
    have HoR := Lib.hid hoR
    have HoQ := Lib.hid hoQ
    have Hod := Lib.hid hod
    have Hb := Lib.hid hb
    have Hs := Lib.hid hs
    clear hwl hLd hoR hoQ hod hb hs
    by_cases h0 : i = 0
    · subst h0
      have Hend := Lib.hid (ld_last Hb0.out HLd.out)
      have hc0 : ((0 : Nat) : Int) - 1 = -1 := by omega
      have Hq0 : Hid (w4.heap.size + 1 ≤ wr.heap.size) := Lib.hid (by
        obtain ⟨g, h1, _, h3, h4⟩ := HoQ.out.lt (by intro e; have := congrArg List.length e; rw [vs_len, HLd.out.lenq, List.length_nil] at this; omega)
        injection h1 with h1; injection h1 with h1
        omega)
      go_wp2_with fail
      refine (trim_any _ L L _ qs wr HoQ.out.rd HLd.out.lenq HLd.out.limq (by omega) (by omega)).mono ?_
      rintro e w6 ⟨rfl, q6, rfl⟩
      have HpQ : Hid (limbs (V qs) = qs.take (limbs (V qs)).length) := Lib.hid (limbs_prefix HLd.out.limq)
      rw [Hend.out.1] at HpQ ⊢
      go_wp2_with fail
      refine (trim_any _ N N _ ws (wr.drewN q6) (HoR.out.rd.drewN q6) Hwl.out HLd.out.lim (by omega) (by omega)).mono ?_
      rintro e w7 ⟨rfl, q7, rfl⟩
      have HpR : Hid (limbs (V ws) = ws.take (limbs (V ws)).length) := Lib.hid (limbs_prefix HLd.out.lim)
      have HoR7 : Hid (Ow (wr.drewN (q6 + q7)) w1.heap.size (w1.heap.size + 1) (some ⟨w1.heap.size, 0, none⟩) (vs (limbs (V ws)))) := Lib.hid (((HoR.out.take (limbs (V ws)).length).eq_ (by rw [← vs_take, ← HpR.out])).drewN (q6 + q7))
      have Hll : Hid ((limbs (V ws)).length ≤ N) := Lib.hid (by have h := congrArg List.length HpR.out; rw [List.length_take, Hwl.out] at h; omega)
      obtain ⟨lw, hlw⟩ : ∃ lw, lw = (limbs (V ws)).length := ⟨_, rfl⟩
      rw [← hlw] at Hll ⊢
      have Hlw := Lib.hid hlw
      clear hlw
      have hlN : (lw : Int) ≤ N := by have := Hll.out; omega
      go_wp2_with fail
      refine (natShr_any (V ws) k _ lw lw _ (wr.drewN (q6 + q7)) HoR7.out.rd (by have := Hq0.out; have := Hs4.out; show w1.heap.size + 1 ≤ wr.heap.size; omega) Hlw.out.symm (by omega) (by omega)).mono ?_
      rintro e w8 ⟨A3, rfl, hown8, hb8⟩
      rw [Hend.out.2] at hown8 ⊢
      have Ho8 := Lib.hid hown8
      have Hb8 := Lib.hid hb8
      clear hown8 hb8
      go_wp2_with fail
      go_ret2
      refine ⟨_, A3, wr.heap.size, rfl, Hb.out.size, Hb8.out.size, ?_, Ho8.out, (below_drewN Hb.out (q6 + q7)).trans (Hb8.out.mono Hb.out.size)⟩
      have h1 : Ow wr w.heap.size wr.heap.size (some ⟨w4.heap.size, 0, none⟩) (vs (limbs (a / b))) := ((HoQ.out.take (limbs (a / b)).length).eq_ (by rw [← vs_take, ← HpQ.out])).wide (Hb4s.out) Hq0.out
      exact (h1.drewN (q6 + q7)).below' Hb8.out
    · obtain ⟨j, rfl⟩ : ∃ j, i = j + 1 := ⟨i - 1, by omega⟩
      have hj : ((j + 1 : Nat) : Int) - 1 = j := by omega
      rw [hj]
      have Hj := Lib.hid hj
      have hjL : (j : Int) < L := by omega
      have hjn : (j : Int) + n' < N := by have := HL.out; have := HN.out; have := Hle.out; omega
      have hjs : (j : Int) + n' + 1 ≤ N := by omega
      have hj0 : (0 : Int) ≤ (j : Int) + n' + 1 := by omega
      have htn : ((j : Int) + n' + 1).toNat = j + n' + 1 := by omega
      have hjle : (j : Int) ≤ (j : Int) + n' + 1 := by omega
      have hsub : j + n' + 1 - j = n' + 1 := by omega
      clear hj h0
      have Hjw : Hid (j < ws.length ∧ j < L) := Lib.hid ⟨by rw [Hwl.out]; omega, by omega⟩
      go_wp2_with fail
      refine (takeOff_any (limbs (2 ^ k * b)) ws Ad (n' - 1) n' n' (N - j) j w1.heap.size w1.heap.size wr Hod.out.rd (Nat.le_refl _) (by have := Hs4.out; have := Hs5.out; have := Hs.out; omega) HoR.out Hk3.out (by omega) (Lim_limbs _) HLd.out.lim (by rw [Hwl.out]; omega) (by rw [Hwl.out]; omega) (fun h => last_pos h (by rw [Hk3.out]; omega)) (by rw [V_limbs]; exact ld_low HLd.out Hjw.out.1)).mono ?_
      rintro e w6 ⟨rfl, hg6, zs, hoz, hzl, hzlim, hzt, hzv⟩
      rw [V_limbs] at hzv ⊢
      have Hld := Lib.hid (ld_step HLd.out Hjw.out.1 Hjw.out.2 hzl hzlim hzt hzv).2
      have Hzl := Lib.hid (hzl.trans Hwl.out)
      have HoQ6 : Ow w6 w4.heap.size (w4.heap.size + 1) (some ⟨w4.heap.size, 0, none⟩) (vi (li qs)) := HoQ.out.grown hg6 (by intro g h; injection h with h; have := Hs4.out; omega)
      have Hod6 : Hid (Ow w6 w.heap.size w1.heap.size Ad (vs (limbs (2 ^ k * b)))) := Lib.hid (Hod.out.grown hg6 (by intro g h; injection h with h; omega))
      have Hb6 : Hid (Below w.heap.size w w6) := Lib.hid (Hb.out.grown hg6 Hb.out.size (by intro g h; injection h with h; rw [← h]; exact Hbd.out.size))
      have Hs6 : Hid (w5.heap.size ≤ w6.heap.size) := Lib.hid (Nat.le_trans Hs.out hg6.size)
      have Hoz := Lib.hid hoz
      obtain ⟨y, hy⟩ : ∃ y, y = V (ws.drop j) / (2 ^ k * b) := ⟨_, rfl⟩
      rw [← hy] at Hld ⊢
      have hjq : j < (li qs).length := by rw [li_len, HLd.out.lenq]; exact Hjw.out.2
      obtain ⟨hcq, hfq, hset⟩ := ow_row HoQ6 hjq
      have Hset := Lib.hid (hset y)
      generalize (li qs)[j] = u at *
      clear hg6 hzl hzlim hzt hzv HoQ6 hoz hy hset hjq
      go_wp2_with fail
      go_roundw
      case rel =>
        refine ⟨j, zs, qs.set j y, by omega, rfl, Hzl.out, Hld.out, ?_, ?_, ?_, ?_, ?_⟩
        · exact Hoz.out.grown Hset.out.2 (by intro g h; injection h with h; have := Hs4.out; omega)
        · have h := Hset.out.1
          rw [li_set] at h
          exact h
        · exact Hod6.out.grown Hset.out.2 (by intro g h; injection h with h; have := Hs4.out; omega)
        · exact Hb6.out.grown Hset.out.2 Hb6.out.size (by intro g h; injection h with h; rw [← h]; exact Hb4s.out)
        · exact Nat.le_trans Hs6.out Hset.out.2.size
      case measure => simp [intOf]
end Go.Proofs.Ytnnoobdcdfcdaaa
