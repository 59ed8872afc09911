/- Cuts of a whole number, of the model. -/
import Derived.Test.YtnnoobdcdfcdaaaDoorHf
namespace Go.Proofs.YtnnoobdcdfcdaaaDoor
set_option maxRecDepth 100000
open Go.RowKit
set_option linter.unusedSimpArgs false
set_option linter.unusedVariables false

/-- the absolute value without its last bits, with the sign -/
def cutZ (z : Int) (k : Nat) : Int := z.sign * ((z.natAbs / 2 ^ k : Nat) : Int)
theorem cutZ_nz (z : Int) : cutZ z (tz z.natAbs) = nz z := rfl
theorem cut_div {x Y q : Nat} (hx : x < Bs) (hq : q ≤ 23) : (x + Bs * Y) / 2 ^ q = x / 2 ^ q + 2 ^ (24 - q) * Y ∧ ((x + Bs * Y) / 2 ^ q) / Bs = Y / 2 ^ q := by
  have e : Bs * Y = 2 ^ q * (2 ^ (24 - q) * Y) := by
    rw [← Nat.mul_assoc, ← Nat.pow_add]
    have : q + (24 - q) = 24 := by omega
    rw [this]; rfl
  refine ⟨by rw [e, Nat.add_mul_div_left _ _ (Nat.two_pow_pos q)], ?_⟩
  rw [Nat.div_div_eq_div_mul, Nat.mul_comm (2 ^ q) Bs, ← Nat.div_div_eq_div_mul, Nat.add_mul_div_left _ _ (by rw [Bs_eq]; omega), Nat.div_eq_of_lt hx, Nat.zero_add]
theorem cut_mod {x x' Y q : Nat} (hx : x < Bs) (hq : q ≤ 23) : ((x + Bs * (x' + Bs * Y)) / 2 ^ q) % Bs = (x / 2 ^ q + x' * 2 ^ (24 - q)) % Bs := by
  rw [(cut_div hx hq).1, Nat.mul_add, Nat.mul_comm (2 ^ (24 - q)) x', Nat.mul_left_comm, ← Nat.add_assoc, Nat.add_mul_mod_self_left]
theorem cut_last {x q : Nat} (hx : x < Bs) (hq : q ≤ 23) : ((x + Bs * 0) / 2 ^ q) % Bs = x / 2 ^ q := by
  rw [Nat.mul_zero, Nat.add_zero]
  exact Nat.mod_eq_of_lt (Nat.lt_of_le_of_lt (Nat.div_le_self _ _) hx)
/-- a digit more -/
theorem cut_step {xs ys : List Nat} {m j q d R : Nat} (hx : m + j < xs.length) (hl : ys.length = j) (hlim : Lim xs) (hq : q ≤ 23) (hv : V ys + Bs ^ j * (V (xs.drop (m + j)) / 2 ^ q) = R) (hd : d = (xs[m + j] + Bs * V (xs.drop (m + j + 1))) / 2 ^ q % Bs) :
    V (ys ++ [d]) + Bs ^ (j + 1) * (V (xs.drop (m + (j + 1))) / 2 ^ q) = R := by
  rw [V_drop hx] at hv
  have h2 := (cut_div (Y := V (xs.drop (m + j + 1))) (hlim.getElem hx) hq).2
  generalize (xs[m + j] + Bs * V (xs.drop (m + j + 1))) / 2 ^ q = X at *
  have e : V [d] = d := by simp [V]
  rw [V_append, hl, e, ← Nat.add_assoc m j 1, ← h2, Nat.pow_succ, Nat.mul_assoc, Nat.add_assoc, ← Nat.mul_add, hd, Nat.mod_add_div]
  exact hv
theorem cut_end {v n m q k j : Nat} {ys : List Nat} (hn : (limbs v).length = n) (hk : k = 24 * m + q) (hj : n ≤ m + j) (hv : V ys + Bs ^ j * (V ((limbs v).drop (m + j)) / 2 ^ q) = V ((limbs v).drop m) / 2 ^ q) : V ys = v / 2 ^ k := by
  rw [List.drop_of_length_le (by omega)] at hv
  have e : V ys = V ((limbs v).drop m) / 2 ^ q := by rw [← hv]; simp [V]
  rw [e]
  rcases Nat.lt_or_ge n m with h | h
  · rw [List.drop_of_length_le (by omega)]
    have h1 := limbs_len_le.1 (show (limbs v).length ≤ n by omega)
    rw [Bs_pow] at h1
    have h2 : 2 ^ (24 * n) ≤ 2 ^ k := Nat.pow_le_pow_right (by omega) (by omega)
    rw [Nat.div_eq_of_lt (Nat.lt_of_lt_of_le h1 h2)]
    simp [V]
  · rw [V_drop_div (Lim_limbs v) (by omega), V_limbs, hk, Nat.pow_add, ← Nat.div_div_eq_div_mul, Bs_pow]
theorem cut_nums {x x' q : Nat} (hx : x < Bs) (hx' : x' < Bs) (hq : q ≤ 23) : ∃ y1 d : Nat, (x : Int) / 2 ^ q = (y1 : Nat) ∧ (0 : Int) ≤ y1 ∧ (y1 : Int) ≤ 16777215 ∧ d = (x / 2 ^ q + x' * 2 ^ (24 - q)) % Bs ∧ d < Bs ∧ (wrap64 ((y1 : Int) + wrap64 ((x' : Int) * 2 ^ (24 - q)))).tmod 16777216 = (d : Nat) := by
  have hsw := shl_wrap24 x' (24 - q) (by omega) hx'
  have h23 : 2 ^ (24 - q) ≤ 2 ^ 24 := Nat.pow_le_pow_right (by omega) (by omega)
  have h1 : x' * 2 ^ (24 - q) ≤ 16777215 * 2 ^ 24 := Nat.mul_le_mul (by rw [Bs_eq] at hx'; omega) h23
  have h3 : x / 2 ^ q ≤ x := Nat.div_le_self _ _
  have h4 : (x : Int) / 2 ^ q = ((x / 2 ^ q : Nat) : Int) := by rw [pow_cast, Int.natCast_ediv]
  rw [hsw]
  clear hsw
  obtain ⟨y1, hy1⟩ : ∃ y1, y1 = x / 2 ^ q := ⟨_, rfl⟩
  obtain ⟨y2, hy2⟩ : ∃ y2, y2 = x' * 2 ^ (24 - q) := ⟨_, rfl⟩
  rw [← hy1] at h3 h4 ⊢
  rw [← hy2] at h1 ⊢
  have h24 : (2 : Nat) ^ 24 = 16777216 := by decide
  rw [h24] at h1
  rw [Bs_eq] at hx ⊢
  clear h23 hy1 hy2 hx'
  refine ⟨y1, (y1 + y2) % 16777216, h4, by omega, by omega, rfl, by omega, ?_⟩
  rw [wrap64_small (by omega) (by omega), Int.tmod_eq_emod_of_nonneg (by omega)]
  omega
theorem shr_small {x q : Nat} (hx : x < Bs) : ∃ y1 : Nat, y1 = x / 2 ^ q ∧ (x : Int) / 2 ^ q = (y1 : Nat) ∧ (0 : Int) ≤ y1 ∧ (y1 : Int) ≤ 16777215 := by
  have h3 : x / 2 ^ q ≤ x := Nat.div_le_self _ _
  rw [Bs_eq] at hx
  have h4 : (x : Int) / 2 ^ q = ((x / 2 ^ q : Nat) : Int) := by rw [pow_cast, Int.natCast_ediv]
  obtain ⟨y1, hy1⟩ : ∃ y1, y1 = x / 2 ^ q := ⟨_, rfl⟩
  rw [← hy1] at h3 h4 ⊢
  exact ⟨y1, rfl, h4, by omega, by omega⟩

set_option maxHeartbeats 4000000 in
theorem specCut_any (z S : Int) (A : Option Addr) (n c k : Nat) (w : World) (hz : ZV w z S A n c) (hm : (n : Int) ≤ 4000) (hk : (k : Int) ≤ 100000) :
    Calls Tryd.prog 91 #[.agg #[.int .i64 S, .slice A n c], .int .i64 k] w fun e w' => ∃ Sr Ar nr cr, e = .returned (.agg #[.int .i64 Sr, .slice Ar nr cr]) ∧ ZO w' w.heap.size w'.heap.size (cutZ z k) Sr Ar nr cr ∧ Below w.heap.size w w' := by
  have hst := store_int Tryd.prog
  have hst2 := store_slice Tryd.prog
  obtain ⟨i0, hi0, hz0, hz1, hz2⟩ := info_parts infoI
  obtain ⟨w1, hw1, hb1, hb3, hb4⟩ := box_res w S A n c 26 26
  have Hz := Lib.hid hz
  have HS : Hid (S = z.sign) := Lib.hid hz.1
  have Hn : Hid ((limbs z.natAbs).length = n) := Lib.hid hz.2.1
  have Hw := Lib.hid hw1
  have Bx1 := Lib.hid hb1
  have Rs1 := Lib.hid hb3
  have Bel1 := Lib.hid hb4
  obtain ⟨m, hmm⟩ : ∃ m, m = k / 24 := ⟨_, rfl⟩
  obtain ⟨q, hqq⟩ : ∃ q, q = k % 24 := ⟨_, rfl⟩
  have hkm : (k : Int) / 24 = m := by omega
  have hkq : (k : Int) % 24 = q := by omega
  have hq23 : (q : Int) ≤ 23 := by omega
  have hmb : (m : Int) ≤ 5000 := by omega
  obtain ⟨r, hrr⟩ : ∃ r, r = 24 - q := ⟨_, rfl⟩
  have hr24 : (24 : Int) - q = r := by omega
  have hr1 : (r : Int) ≤ 24 := by omega
  have Hr := Lib.hid hrr
  have Hk : Hid (k = 24 * m + q ∧ q ≤ 23) := Lib.hid (by omega)
  have Hlt : Hid (w.heap.size + 1 < w1.heap.size) := Lib.hid hb3.2
  have hs1 : w1.heap.size = w.heap.size + 1 + 1 := by rw [hw1]; simp
  have Hown0 : Hid (OwnL (w1.alloc (.cells #[] 2)) w1.heap.size (.slice (some ⟨w.heap.size + 1 + 1, 0, none⟩) 0 0) []) := Lib.hid (by
    have h := own_empty w1 2
    rw [hs1] at h ⊢
    exact h)
  clear hz hw1 hb1 hb3 hb4 hmm hqq hrr hs1
  go_enter Tryd.func91, Tryd.ntmps91
  go_wp2_with fail
  rw [← Hw.out]
  go_loopw [5, 6, 7] (fun l iv _ wr => ∃ (j : Nat) (ys : List Nat), (m + j ≤ n ∨ j = 0) ∧ iv = .int .i64 ((m + j : Nat) : Int) ∧ ys.length = j ∧ Lim ys ∧ V ys + Bs ^ j * (V ((limbs z.natAbs).drop (m + j)) / 2 ^ q) = V ((limbs z.natAbs).drop m) / 2 ^ q ∧ OwnL wr w1.heap.size l ys ∧ Below w1.heap.size w1 wr) (fun _ iv _ _ => n - (intOf iv).toNat)
  case atStart => exact ⟨0, [], .inr rfl, rfl, rfl, Lim_nil, by simp [V], Hown0.out, belAlloc1 _ _⟩
  case round =>
    clear Hown0
    obtain ⟨j, ys, hj, rfl, hyl, hlim, hyv, hown, hb⟩ := hrel
    obtain ⟨A2, c2, hA, hyc⟩ := hown.form
    subst hA
    have Hyl := Lib.hid hyl
    have Hlim := Lib.hid hlim
    have Hyv := Lib.hid hyv
    have Hown := Lib.hid hown
    have Hb := Lib.hid hb
    have Hyc := Lib.hid hyc
    obtain ⟨⟨hx1, hx2⟩, hx3⟩ := Bx1.out.next hb
    obtain ⟨i, hi⟩ : ∃ i, i = m + j := ⟨_, rfl⟩
    have Ha1 : Hid (ys.length + 1 ≤ maxLen) := Lib.hid (by unfold maxLen; omega)
    have Ha2 : Hid ((ys.length + 1) * 8 ≤ 140737488355328) := Lib.hid (by omega)
    have Ha3 : Hid (w1.heap.size ≤ wr.heap.size + 1) := Lib.hid (by have := hb.size; omega)
    have hib : (i : Int) ≤ 9000 := by omega
    have hii0 : (0 : Int) ≤ i := Int.natCast_nonneg _
    rw [← hi] at hyv Hyv ⊢
    have Hi := Lib.hid hi
    clear hyl hlim hyv hown hb hyc hj
    by_cases hlt : i < n
    · have hkx : i < (limbs z.natAbs).length := by rw [Hn.out]; exact hlt
      have hra := (Hz.out.next (belNext Bel1.out Hb.out)).rd
      obtain ⟨a, ha, hab⟩ := hra.some_ (by rw [vs_len]; omega)
      subst ha
      have hcx := hra.cell (k := i) (by rw [vs_len]; exact hkx)
      rw [vs_get hkx] at hcx
      have Hxb := Lib.hid ((Lim_limbs z.natAbs).getElem hkx)
      have Hin : Hid (m + (j + 1) ≤ n ∧ i + 1 = m + (j + 1)) := Lib.hid (by omega)
      have hxm := limb_le Hxb.out
      have hx0 : (0 : Int) ≤ ((limbs z.natAbs)[i] : Nat) := Int.natCast_nonneg _
      by_cases hlt2 : i + 1 < n
      · obtain ⟨i', hi'⟩ : ∃ i', i' = i + 1 := ⟨_, rfl⟩
        rw [← hi'] at hlt2
        have Hi' := Lib.hid hi'
        have hkx2 : i' < (limbs z.natAbs).length := by rw [Hn.out]; exact hlt2
        have hcy := hra.cell (k := i') (by rw [vs_len]; exact hkx2)
        rw [vs_get hkx2] at hcy
        have Hxb2 := Lib.hid ((Lim_limbs z.natAbs).getElem hkx2)
        have hxm2 := limb_le Hxb2.out
        have hlt3 : (i' : Int) < n := by omega
        have hin2 : (i : Int) + 1 = (i' : Nat) := by omega
        have hin3 : (0 : Int) ≤ i' := Int.natCast_nonneg _
        have Hm2 : Hid (n - i' < n - i) := Lib.hid (by omega)
        have Hi2 : Hid (i' = m + (j + 1)) := Lib.hid (by omega)
        clear hi'
        have hx02 : (0 : Int) ≤ ((limbs z.natAbs)[i'] : Nat) := Int.natCast_nonneg _
        obtain ⟨y1, d, hy1, hb1, hb2, hd, hd1, hx5⟩ := cut_nums (q := q) Hxb.out Hxb2.out Hk.out.2
        have Hs := Lib.hid (cut_step (d := d) (Hi.out ▸ hkx) Hyl.out (Lim_limbs _) Hk.out.2 (Hi.out ▸ Hyv.out) (by
          rw [hd, V_drop (show m + j + 1 < (limbs z.natAbs).length by have := Hi.out; omega), cut_mod (by have := Hxb.out; simp only [Hi.out] at this; exact this) Hk.out.2]
          simp only [Hi'.out, Hi.out]))
        rw [← Hr.out] at hx5
        have HX := Lib.hid hx5
        have Hd := Lib.hid hd1
        clear hx5 hd hd1
        generalize (limbs z.natAbs)[i] = x at *
        generalize (limbs z.natAbs)[i'] = x' at *
        have hd0 : (0 : Int) ≤ d := Int.natCast_nonneg _
        clear hra hkx hkx2 hi
        go_wp2_with (at_builtin; rw [HX.out]; refine wpList_append_own _ rfl (.tmp 47) (.tmp 49) _ rfl w1.heap.size 2 i0 _ 1 8 Tryd.underlying22 hi0 hz0 hz1 hz2 rfl (by omega) (.slice A2 ys.length c2) ys.length (vs ys) rfl (World.ownsRow.alloc Hown.out _) ⟨wr.heap.size, 0, none⟩ 1 1 (vs [d]) rfl (by rw [vs_len]; rfl) (new_cells wr d _) (vs_one · [d]) Ha1.out Ha2.out (by simp; exact Ha3.out) ?_; intro v2 w2 hown2 hg2 _)
        have Hown2 : Hid (OwnL w2 w1.heap.size v2 (ys ++ [d])) := Lib.hid (by
          unfold OwnL
          rw [List.length_append, vs_append]
          exact hown2)
        have Hb2 : Hid (Below w1.heap.size w1 w2) := Lib.hid ((Hb.out.alloc Hb.out.size _).grown hg2 (by have := Hb.out.size; simp; omega) (fun k hk => (Hown.out.lt k hk).1))
        clear hown2 hg2
        go_roundw
        case rel => exact ⟨j + 1, ys ++ [d], .inl Hin.out.1, by rw [← Hi2.out], by rw [List.length_append, Hyl.out]; simp, Hlim.out.append (Lim_one Hd.out), Hs.out, Hown2.out, Hb2.out⟩
        case measure => simp [intOf]; exact Hm2.out
      · have hkl : ¬ (i : Int) + 1 < n := by omega
        obtain ⟨y1, hy, hy1, hb1, hb2⟩ := shr_small (q := q) Hxb.out
        have Hs := Lib.hid (cut_step (d := y1) (Hi.out ▸ hkx) Hyl.out (Lim_limbs _) Hk.out.2 (Hi.out ▸ Hyv.out) (by
          rw [List.drop_of_length_le (show (limbs z.natAbs).length ≤ m + j + 1 by rw [Hn.out]; have := Hi.out; omega), V_nil, cut_last (by have := Hxb.out; simp only [Hi.out] at this; exact this) Hk.out.2, hy]
          simp only [Hi.out]))
        have Hd : Hid (y1 < Bs) := Lib.hid (by rw [hy]; exact Nat.lt_of_le_of_lt (Nat.div_le_self _ _) Hxb.out)
        generalize (limbs z.natAbs)[i] = x at *
        clear hra hkx hi hy
        go_wp2_with (at_builtin; refine wpList_append_own _ rfl (.tmp 47) (.tmp 49) _ rfl w1.heap.size 2 i0 _ 1 8 Tryd.underlying22 hi0 hz0 hz1 hz2 rfl (by omega) (.slice A2 ys.length c2) ys.length (vs ys) rfl (World.ownsRow.alloc Hown.out _) ⟨wr.heap.size, 0, none⟩ 1 1 (vs [y1]) rfl (by rw [vs_len]; rfl) (new_cells wr y1 _) (vs_one · [y1]) Ha1.out Ha2.out (by simp; exact Ha3.out) ?_; intro v2 w2 hown2 hg2 _)
        have Hown2 : Hid (OwnL w2 w1.heap.size v2 (ys ++ [y1])) := Lib.hid (by
          unfold OwnL
          rw [List.length_append, vs_append]
          exact hown2)
        have Hb2 : Hid (Below w1.heap.size w1 w2) := Lib.hid ((Hb.out.alloc Hb.out.size _).grown hg2 (by have := Hb.out.size; simp; omega) (fun k hk => (Hown.out.lt k hk).1))
        clear hown2 hg2
        go_roundw
        case rel => exact ⟨j + 1, ys ++ [y1], .inl Hin.out.1, by rw [← Hin.out.2]; go_num, by rw [List.length_append, Hyl.out]; simp, Hlim.out.append (Lim_one Hd.out), Hs.out, Hown2.out, Hb2.out⟩
        case measure => simp [intOf]; omega
    · have hge : ¬ (i : Int) < n := by omega
      have Hfin : Hid (V ys = z.natAbs / 2 ^ k) := Lib.hid (cut_end Hn.out Hk.out.1 (by have := Hi.out; omega) (Hi.out ▸ Hyv.out))
      have Hjb : Hid ((ys.length : Int) ≤ 1000000) := Lib.hid (by have := Hyl.out; have := Hi.out; omega)
      clear hi hlt
      go_wp2_with fail
      refine (make_any S A2 ys.length c2 wr.heap.size ys wr Hown.out.rd (Nat.le_refl _) rfl Hlim.out (by have := Hyc.out; omega) Hjb.out).mono ?_
      rintro e w5 ⟨val, rfl, hv, hb5⟩
      rw [Hfin.out] at hv
      obtain ⟨S9, A9, n9, c9, rfl, hzo⟩ := Wz.zo ((hv.z (sgn_or HS.out (fun e => by rw [e]; simp))).cast_ (z' := cutZ z k) (by rw [HS.out]; rfl)) (Nat.le_refl _)
      have Zo5 := Lib.hid hzo
      have Hb5 : Hid (Below w1.heap.size w1 w5) := Lib.hid (belNext Hb.out hb5)
      have Hs4 : Hid (w1.heap.size ≤ wr.heap.size) := Lib.hid Hb.out.size
      obtain ⟨⟨r1, r2, r3, r4⟩, r5⟩ := Rs1.out.next Hb5.out
      clear hv hzo hb5 hx1 hx2 hx3
      go_wp2_with fail
      refine bodyPost_ret (v := .agg #[.int .i64 S9, .slice A9 n9 c9]) (by simp [results, Tryd.results91, go_sem, r1, r2]) rfl ⟨S9, A9, n9, c9, rfl, ?_, ?_⟩
      · exact ((Zo5.out.setCell (.inl (by have := Hlt.out; have := Hs4.out; first | omega | (simp; done) | (simp; omega))) _).setCell (.inl (by have := Hlt.out; have := Hs4.out; first | omega | (simp; done) | (simp; omega))) _).wide (by have := Hlt.out; have := Hs4.out; omega) (by simp) (by simp)
      · exact ((belNext Bel1.out Hb5.out).setCell (by simp; try omega) _).setCell (by simp; try omega) _
end Go.Proofs.YtnnoobdcdfcdaaaDoor
