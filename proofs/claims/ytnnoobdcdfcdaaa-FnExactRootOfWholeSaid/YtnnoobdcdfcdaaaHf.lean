/- Bits, shifts up, of the model. -/
import Derived.Test.YtnnoobdcdfcdaaaHa
import Derived.Deep.AppendLies
namespace Go.Proofs.Ytnnoobdcdfcdaaa
set_option maxRecDepth 100000
open Go.RowKit
set_option linter.unusedSimpArgs false
set_option linter.unusedVariables false

theorem and_one (t : Nat) (ht : t < 9223372036854775808) : bits .and .i64 (t : Int) 1 = ((t % 2 : Nat) : Int) := by
  have h := and_low t 1 ht (by omega)
  simpa using h
/-- a bit -/
def bt (v k : Nat) : Nat := v / 2 ^ k % 2
theorem bt_le (v k : Nat) : bt v k ≤ 1 := by unfold bt; omega
theorem bit_limb {v k m q : Nat} (hk : k = 24 * m + q) (hq : q < 24) (hm : m < (limbs v).length) : bt v k = (limbs v)[m] / 2 ^ q % 2 := by
  unfold bt
  have h1 := V_drop_div (Lim_limbs v) (m := m) (by omega)
  rw [V_drop hm, V_limbs, Bs_pow] at h1
  rw [hk, Nat.pow_add, ← Nat.div_div_eq_div_mul, ← h1]
  generalize (limbs v)[m] = x
  generalize V ((limbs v).drop (m + 1)) = r
  have e : Bs * r = 2 ^ q * (2 * (2 ^ (23 - q) * r)) := by
    have e3 : Bs = 2 ^ q * (2 * 2 ^ (23 - q)) := by
      rw [← Nat.pow_succ', ← Nat.pow_add]
      have : q + (23 - q).succ = 24 := by omega
      rw [this]; rfl
    conv => lhs; rw [e3]
    simp only [Nat.mul_assoc]
  rw [e, Nat.add_mul_div_left _ _ (Nat.two_pow_pos q)]
  omega
theorem bit_far {v k n : Nat} (hn : (limbs v).length = n) (h : n ≤ k / 24) : bt v k = 0 := by
  unfold bt
  have h1 := limbs_len_le.1 (show (limbs v).length ≤ n by omega)
  rw [Bs_pow] at h1
  have h2 : 2 ^ (24 * n) ≤ 2 ^ k := Nat.pow_le_pow_right (by omega) (by omega)
  rw [Nat.div_eq_of_lt (by omega)]

set_option maxHeartbeats 1000000 in
theorem specBit_any (z S : Int) (A : Option Addr) (n c k : Nat) (w : World) (hz : ZV w z S A n c) (hm : (n : Int) ≤ 100000) (hk : (k : Int) ≤ 10000000) :
    Calls Try.prog 72 #[.agg #[.int .i64 S, .slice A n c], .int .i64 k] w fun e w' => e = .returned (.int .i64 ((bt z.natAbs k : Nat) : Int)) ∧ Below w.heap.size w w' := by
  have Hn := Lib.hid hz.2.1
  obtain ⟨m, hmm⟩ : ∃ m, m = k / 24 := ⟨_, rfl⟩
  obtain ⟨q, hqq⟩ : ∃ q, q = k % 24 := ⟨_, rfl⟩
  have hkm : (k : Int) / 24 = m := by omega
  have hkq : (k : Int) % 24 = q := by omega
  have hq23 : (q : Int) ≤ 23 := by omega
  have Hk : Hid (k = 24 * m + q ∧ m = k / 24) := Lib.hid (by omega)
  clear hmm hqq
  by_cases hlt : m < n
  · have hkx : m < (limbs z.natAbs).length := by rw [Hn.out]; exact hlt
    have hr := hz.rd
    obtain ⟨a, ha, hab⟩ := hr.some_ (by rw [vs_len]; omega)
    subst ha
    have hcx := hr.cell (k := m) (by rw [vs_len]; exact hkx)
    rw [vs_get hkx] at hcx
    have hx := (Lim_limbs z.natAbs).getElem hkx
    have Hb := Lib.hid (bit_limb Hk.out.1 (by omega) hkx)
    generalize (limbs z.natAbs)[m] = x at *
    have hx1 : (x : Int) ≤ 16777215 := by rw [Bs_eq] at hx; omega
    have hx0 : (0 : Int) ≤ x := by omega
    have hd : (x : Int) / 2 ^ q = ((x / 2 ^ q : Nat) : Int) := by rw [pow_cast, Int.natCast_ediv]
    have hle : x / 2 ^ q ≤ x := Nat.div_le_self _ _
    obtain ⟨y, hy⟩ : ∃ y, y = x / 2 ^ q := ⟨_, rfl⟩
    rw [← hy] at hd hle Hb
    have Hand := Lib.hid (and_one y (by omega))
    have Hd := Lib.hid hd
    have hmn : (m : Int) < n := by omega
    have hnm : ¬ (n : Int) ≤ m := by omega
    have hab2 : (a.add m).block < w.heap.size := by rw [addr_block]; exact hab
    clear hy hd hx hz hr hkx hle
    go_enter Try.func72, Try.ntmps72
    go_wp2_with fail
    go_ret
    exact ⟨ret_int (by rw [Hd.out, Hand.out, Hb.out]), (Below.refl _ _).alloc (Nat.le_refl _) _⟩
  · have Hb := Lib.hid (bit_far (k := k) Hn.out (by rw [← Hk.out.2]; omega))
    have hnm : (n : Int) ≤ m := by omega
    clear hz hlt
    go_enter Try.func72, Try.ntmps72
    go_wp2_with fail
    go_ret
    exact ⟨ret_int (by rw [Hb.out]; rfl), (Below.refl _ _).alloc (Nat.le_refl _) _⟩

theorem shl_wrap24 (x q : Nat) (hq : q ≤ 24) (hx : x < Bs) : wrap64 ((x : Int) * 2 ^ q) = ((x * 2 ^ q : Nat) : Int) := by
  have h23 : 2 ^ q ≤ 2 ^ 24 := Nat.pow_le_pow_right (by omega) hq
  have h1 : x * 2 ^ q ≤ 16777215 * 2 ^ 24 := Nat.mul_le_mul (by rw [Bs_eq] at hx; omega) h23
  have e : (x : Int) * 2 ^ q = ((x * 2 ^ q : Nat) : Int) := by rw [Int.natCast_mul, Int.natCast_pow]; rfl
  rw [e]
  exact wrap64_small (by omega) (by omega)

theorem cc_le {c q : Nat} (hc : c < 2 ^ q) (hq : q ≤ 23) : (c : Int) ≤ 8388607 := by
  have h23 : 2 ^ q ≤ 2 ^ 23 := Nat.pow_le_pow_right (by omega) hq
  have h24 : (2 : Nat) ^ 23 = 8388608 := by decide
  omega
theorem limb_le {x : Nat} (h : x < Bs) : (x : Int) ≤ 16777215 := by rw [Bs_eq] at h; omega
theorem left_nums {c q x : Nat} (hc : c < 2 ^ q) (hq : q ≤ 23) (hx : x < Bs) : ∃ t y : Nat, t = c + x * 2 ^ q ∧ (c : Int) + y = (t : Nat) ∧ (t : Int) % 16777216 = ((t % Bs : Nat) : Int) ∧ (t : Int) / 16777216 = ((t / Bs : Nat) : Int) ∧ (0 : Int) ≤ t ∧ (t : Int) ≤ 140737488355328 ∧ (0 : Int) ≤ y ∧ (y : Int) ≤ 140737479966720 ∧ (((t / Bs : Nat) : Int) ≤ 8388608 ∧ ((t % Bs : Nat) : Int) ≤ 16777215) ∧ wrap64 ((x : Int) * 2 ^ q) = (y : Nat) := by
  have hsw := shl_wrap x q hq hx
  have h23 : 2 ^ q ≤ 2 ^ 23 := Nat.pow_le_pow_right (by omega) hq
  have h1 : x * 2 ^ q ≤ 16777215 * 2 ^ 23 := Nat.mul_le_mul (by rw [Bs_eq] at hx; omega) h23
  obtain ⟨y, hy⟩ : ∃ y, y = x * 2 ^ q := ⟨_, rfl⟩
  rw [← hy] at hsw h1 ⊢
  have h24 : (2 : Nat) ^ 23 = 8388608 := by decide
  rw [h24] at h1 h23
  refine ⟨c + y, y, rfl, by omega, by rw [Bs_eq]; omega, by rw [Bs_eq]; omega, by omega, by omega, by omega, by omega, by rw [Bs_eq]; omega, hsw⟩

/-- a digit more -/
theorem left_step {xs ys : List Nat} {m i c q t : Nat} (hx : i < xs.length) (hl : ys.length = m + i) (hv : V ys + Bs ^ (m + i) * c = Bs ^ m * (2 ^ q * V (xs.take i))) (ht : t = c + xs[i] * 2 ^ q) :
    V (ys ++ [t % Bs]) + Bs ^ (m + (i + 1)) * (t / Bs) = Bs ^ m * (2 ^ q * V (xs.take (i + 1))) := by
  have h := carry_step (x := xs[i] * 2 ^ q) (m + i) hv
  rw [V_append, hl, ht]
  have e : V [(c + xs[i] * 2 ^ q) % Bs] = (c + xs[i] * 2 ^ q) % Bs := by simp [V]
  rw [e, ← Nat.add_assoc, h, V_take_succ hx, Nat.mul_add, Nat.mul_add, Nat.pow_add]
  congr 1
  rw [Nat.mul_assoc, Nat.mul_comm (xs[i]), Nat.mul_left_comm (Bs ^ i)]
theorem left_end {v n m q k : Nat} {ys : List Nat} {cc : Nat} (hn : (limbs v).length = n) (hk : k = 24 * m + q) (hl : ys.length = m + n) (hv : V ys + Bs ^ (m + n) * cc = Bs ^ m * (2 ^ q * V ((limbs v).take n))) : V (ys ++ [cc]) = 2 ^ k * v := by
  rw [List.take_of_length_le (by omega), V_limbs] at hv
  rw [V_append, hl]
  have e : V [cc] = cc := by simp [V]
  rw [e, hv, hk, Nat.pow_add, Bs_pow, Nat.mul_assoc]

set_option maxHeartbeats 2000000 in
theorem specLeft_any (z S : Int) (A : Option Addr) (n c k : Nat) (w : World) (hz : ZV w z S A n c) (hm : (n : Int) ≤ 4000) (hk : (k : Int) ≤ 100000) :
    Calls Try.prog 83 #[.agg #[.int .i64 S, .slice A n c], .int .i64 k] w fun e w' => ∃ Sr Ar nr cr, e = .returned (.agg #[.int .i64 Sr, .slice Ar nr cr]) ∧ ZO w' w.heap.size w'.heap.size ((2 : Int) ^ k * z) Sr Ar nr cr ∧ Below w.heap.size w w' := by
  have hst := store_int Try.prog
  have hst2 := store_slice Try.prog
  obtain ⟨i0, hi0, hz0, hz1, hz2⟩ := info_parts infoI
  obtain ⟨w1, hw1, hb1, hb3, hb4⟩ := box_res w S A n c 26 26
  have Hz := Lib.hid hz
  have HS : Hid (S = z.sign) := Lib.hid hz.1
  have Hn : Hid ((limbs z.natAbs).length = n) := Lib.hid hz.2.1
  have Hw := Lib.hid hw1
  have Bx1 := Lib.hid hb1
  have Rs1 := Lib.hid hb3
  have Bel1 := Lib.hid hb4
  obtain ⟨m, hmm⟩ : ∃ m, m = k / 24 := ⟨_, rfl⟩
  obtain ⟨q, hqq⟩ : ∃ q, q = k % 24 := ⟨_, rfl⟩
  have hkm : (k : Int) / 24 = m := by omega
  have hkq : (k : Int) % 24 = q := by omega
  have hq23 : (q : Int) ≤ 23 := by omega
  have hmb : (m : Int) ≤ 5000 := by omega
  have Hk : Hid (k = 24 * m + q) := Lib.hid (by omega)
  have Hlt : Hid (w.heap.size + 1 < w1.heap.size) := Lib.hid hb3.2
  have hbytes : i0.bytes * m ≤ 281474976710656 := by rw [hz2]; omega
  clear hz hw1 hb1 hb3 hb4 hmm hqq
  go_enter Try.func83, Try.ntmps83
  go_wp2_with (refine wpList_make_full _ rfl _ _ _ rfl _ 2 i0 _ 1 Try.underlying22 hi0 hz0 hz1 _ _ _ _ m rfl rfl rfl rfl hbytes (by unfold maxLen; omega) (Nat.le_refl _) ?_; intro w2 hown hg)
  rw [made_zeros, ← Hw.out] at hown
  rw [← Hw.out] at hg
  have hs1 : w1.heap.size = w.heap.size + 1 + 1 := by rw [Hw.out]; simp
  have Hown : Hid (OwnL w2 w1.heap.size (.slice (some ⟨w.heap.size + 1 + 1, 0, none⟩) m m) (List.replicate m 0)) := Lib.hid (by unfold OwnL; rw [List.length_replicate, ← hs1]; exact hown)
  have Hb2 : Hid (Below w1.heap.size w1 w2) := Lib.hid ((Below.refl _ _).grown hg (Nat.le_refl _) (by simp))
  clear hown hg hbytes hs1
  go_loopw [5, 6, 7] (fun l cv iv wr => ∃ (i cc : Nat) (ys : List Nat), i ≤ n ∧ iv = .int .i64 i ∧ cv = .int .i64 cc ∧ cc < 2 ^ q ∧ ys.length = m + i ∧ Lim ys ∧ V ys + Bs ^ (m + i) * cc = Bs ^ m * (2 ^ q * V ((limbs z.natAbs).take i)) ∧ OwnL wr w1.heap.size l ys ∧ Below w1.heap.size w1 wr) (fun _ _ iv _ => n - (intOf iv).toNat)
  case atStart => exact ⟨0, 0, List.replicate m 0, Nat.zero_le _, rfl, rfl, Nat.two_pow_pos _, by simp, Lim_zeros _, by rw [V_replicate]; simp [V], Hown.out, Hb2.out⟩
  case round =>
    clear Hown Hb2
    obtain ⟨i, cc, ys, hi, rfl, rfl, hcc, hyl, hlim, hyv, hown, hb⟩ := hrel
    obtain ⟨A2, c2, hA, hyc⟩ := hown.form
    subst hA
    have Hcc := Lib.hid hcc
    have Hyl := Lib.hid hyl
    have Hlim := Lib.hid hlim
    have Hyv := Lib.hid hyv
    have Hown := Lib.hid hown
    have Hb := Lib.hid hb
    have Hyc := Lib.hid hyc
    obtain ⟨⟨hx1, hx2⟩, hx3⟩ := Bx1.out.next hb
    have hcc1 := cc_le hcc (by omega)
    have hcc0 : (0 : Int) ≤ cc := Int.natCast_nonneg _
    clear hcc hyv
    have hyb : (ys.length : Int) ≤ 9000 := by omega
    have Ha1 : Hid (ys.length + 1 ≤ maxLen) := Lib.hid (by unfold maxLen; omega)
    have Ha2 : Hid ((ys.length + 1) * 8 ≤ 140737488355328) := Lib.hid (by omega)
    have Ha3 : Hid (w1.heap.size ≤ wr.heap.size + 1) := Lib.hid (by have := hb.size; omega)
    clear hyl hlim hown hb hyc
    by_cases hlt : i < n
    · have hkx : i < (limbs z.natAbs).length := by rw [Hn.out]; exact hlt
      have hra := (Hz.out.next (belNext Bel1.out Hb.out)).rd
      obtain ⟨a, ha, hab⟩ := hra.some_ (by rw [vs_len]; omega)
      subst ha
      have hcx := hra.cell (k := i) (by rw [vs_len]; exact hkx)
      rw [vs_get hkx] at hcx
      have Hxb := Lib.hid ((Lim_limbs z.natAbs).getElem hkx)
      have Hin : Hid (i + 1 ≤ n) := Lib.hid (by omega)
      obtain ⟨t, y, ht, hti, hmod, hdiv, ht0, ht1, hy0, hy1, ⟨he1, hd1⟩, hsw⟩ := left_nums (c := cc) (q := q) Hcc.out (by omega) Hxb.out
      have Hs := Lib.hid (left_step hkx Hyl.out Hyv.out ht)
      have hx0 : (0 : Int) ≤ ((limbs z.natAbs)[i] : Nat) := Int.natCast_nonneg _
      have hxm := limb_le Hxb.out
      have Hcar := Lib.hid (shl_carry Hcc.out Hxb.out)
      rw [← ht] at Hcar
      generalize (limbs z.natAbs)[i] = x at *
      have Hd : Hid (t % Bs < Bs) := Lib.hid (Nat.mod_lt _ (by rw [Bs_eq]; omega))
      obtain ⟨d, hd⟩ : ∃ d, d = t % Bs := ⟨_, rfl⟩
      obtain ⟨e, he⟩ : ∃ e, e = t / Bs := ⟨_, rfl⟩
      rw [← hd] at hmod Hs Hd hd1
      rw [← he] at hdiv Hs Hcar he1
      have he0 : (0 : Int) ≤ e := Int.natCast_nonneg _
      clear hra hd he ht hkx
      go_wp2_with (at_builtin; refine wpList_append_own _ rfl (.tmp 29) (.tmp 32) _ rfl w1.heap.size 2 i0 _ 1 8 Try.underlying22 hi0 hz0 hz1 hz2 rfl (by omega) (.slice A2 ys.length c2) ys.length (vs ys) rfl (World.ownsRow.alloc Hown.out _) ⟨wr.heap.size, 0, none⟩ 1 1 (vs [d]) rfl (by rw [vs_len]; rfl) (new_cells wr d _) (vs_one · [d]) Ha1.out Ha2.out (by simp; exact Ha3.out) ?_; intro v2 w2 hown2 hg2 _)
      clear hsw
      have Hown2 : Hid (OwnL w2 w1.heap.size v2 (ys ++ [d])) := Lib.hid (by
        unfold OwnL
        rw [List.length_append, vs_append]
        exact hown2)
      have Hb2 : Hid (Below w1.heap.size w1 w2) := Lib.hid ((Hb.out.alloc Hb.out.size _).grown hg2 (by have := Hb.out.size; simp; omega) (fun k hk => (Hown.out.lt k hk).1))
      clear hown2 hg2
      go_roundw
      case rel => exact ⟨i + 1, e, ys ++ [d], Hin.out, by go_num, rfl, Hcar.out, by rw [List.length_append, Hyl.out]; simp; omega, Hlim.out.append (Lim_one Hd.out), Hs.out, Hown2.out, Hb2.out⟩
      case measure => simp [intOf]; omega
    · have hin : i = n := by omega
      subst hin
      have Hfin : Hid (V (ys ++ [cc]) = 2 ^ k * z.natAbs) := Lib.hid (left_end Hn.out Hk.out Hyl.out Hyv.out)
      have Hccb : Hid (cc < Bs) := Lib.hid (by rw [Bs_eq]; omega)
      clear hlt hx1 hx2 hx3
      obtain ⟨⟨hx1, hx2⟩, hx3⟩ := Bx1.out.next Hb.out
      go_wp2_with fail
      refine wp_region_held_drew (S := fun w' => w'.cell? ⟨w.heap.size, 0, none⟩ = some (.int .i64 S)) (by kernel_rfl) hx1 (fun hHeld => ?_)
      clear hx1 hx2 hx3
      refine wpAnyH_take (i := 0) (v := ?_) rfl (by kernel_rfl) (by kernel_rfl) (by kernel_rfl) (fun _ _ _ h => h) (Or.inl ⟨by rfl, ?_⟩) (by assumption) ?_
      rotate_left
      · (intro w hSw; (try dsimp only at hSw); go_simp; (try with_reducible rfl))
      try simp only [Act.put, List.setIfInBounds_toArray, List.set_cons_zero, List.set_cons_succ]
      refine wpAnyH_take (i := 1) (v := ?_) rfl (by kernel_rfl) (by kernel_rfl) (by kernel_rfl) (fun _ _ _ h => h) (Or.inl ⟨by rfl, ?_⟩) (by assumption) ?_
      rotate_left
      · (intro w hSw; (try dsimp only at hSw); go_simp; (try with_reducible rfl))
      try simp only [Act.put, List.setIfInBounds_toArray, List.set_cons_zero, List.set_cons_succ]
      refine wpAnyH_take (i := 2) (v := ?_) rfl (by kernel_rfl) (by kernel_rfl) (by kernel_rfl) (fun _ _ _ h => h) (Or.inl ⟨by rfl, ?_⟩) (by assumption) ?_
      rotate_left
      · (intro w hSw; (try dsimp only at hSw); go_simp; (try with_reducible rfl))
      try simp only [Act.put, List.setIfInBounds_toArray, List.set_cons_zero, List.set_cons_succ]
      refine wpAnyH_take (i := 3) (v := ?_) rfl (by kernel_rfl) (by kernel_rfl) (by kernel_rfl) (fun _ _ _ h => h) (Or.inl ⟨by rfl, ?_⟩) (by assumption) ?_
      rotate_left
      · (intro w hSw; (try dsimp only at hSw); go_simp; (try with_reducible rfl))
      try simp only [Act.put, List.setIfInBounds_toArray, List.set_cons_zero, List.set_cons_succ]
      refine wpAnyH_ready (rs := [4]) (by kernel_rfl) (by simp) ?_
      refine AllReadyH.cons rfl (fun K hK => ?_) AllReadyH.nil
      go_simp
      obtain ⟨w3, hw3⟩ : ∃ w3, w3 = (wr.alloc (.cells #[.int .i64 cc] 2)).drew := ⟨_, rfl⟩
      have hb3 : Below wr.heap.size wr w3 := by rw [hw3]; exact (belAlloc1 _ _).drew
      have Hnews : Hid (∀ j u, (vs [cc])[j]? = some u → w3.cell? ((⟨wr.heap.size, 0, none⟩ : Addr).add j) = some u) := Lib.hid (by rw [hw3]; exact new_cells wr cc _)
      have Hown3 : Hid (OwnL w3 w1.heap.size (.slice A2 ys.length c2) ys) := Lib.hid (by rw [hw3]; exact World.ownsRow.alloc Hown.out _)
      have Hb3 : Hid (Below w1.heap.size w1 w3) := Lib.hid (belNext Hb.out hb3)
      rw [← hw3]
      refine hK.out _ _ (Bx1.out.next Hb3.out).1.1 (fun hHeld => ?_)
      clear hK K hw3 hb3
      try simp only [Act.put, List.setIfInBounds_toArray, List.set_cons_zero, List.set_cons_succ]
      refine wpAnyH_ready (rs := [5]) (by kernel_rfl) (by simp) ?_
      refine AllReadyH.cons rfl (fun K hK => ?_) AllReadyH.nil
      refine step_append_lies _ (by rfl) _ _ _ (by rfl) w1.heap.size 2 i0 _ 1 8 Try.underlying22 hi0 hz0 hz1 hz2 rfl (by omega) (.slice A2 ys.length c2) ys.length (vs ys) (by rfl) Hown3.out ⟨wr.heap.size, 0, none⟩ 1 1 (vs [cc]) (by rfl) (by rw [vs_len]; rfl) Hnews.out (vs_one · [cc]) (by omega) Ha1.out Ha2.out Hb3.out.size _ rfl ?_
      intro g cap w4 hown4 hgrow _ _
      have Hown4 : Hid (OwnL w4 w1.heap.size (.slice (some ⟨g, 0, none⟩) (ys ++ [cc]).length cap) (ys ++ [cc])) := Lib.hid (by
        unfold OwnL
        rw [List.length_append, vs_append]
        exact hown4)
      have Hb4 : Hid (Below w1.heap.size w1 w4) := Lib.hid (Hb3.out.grown hgrow Hb3.out.size (fun k hk => (Hown3.out.lt k hk).1))
      have Hcap : Hid ((((ys ++ [cc]).length : Nat) : Int) ≤ cap) := Lib.hid (by
        obtain ⟨A', c', e, h⟩ := Hown4.out.form
        injection e with _ _ e3
        omega)
      refine hK.out _ _ (Bx1.out.next Hb4.out).1.1 (fun hHeld => ?_)
      clear hK K hown4 hgrow
      try simp only [Act.put, List.setIfInBounds_toArray, List.set_cons_zero, List.set_cons_succ]
      refine wpAnyH_ready (rs := [6]) (by kernel_rfl) (by simp) ?_
      refine AllReadyH.cons rfl (fun K hK => ?_) AllReadyH.nil
      go_simp
      have hyl : (ys ++ [cc]).length = ys.length + 1 := by simp
      rw [← hyl]
      clear hyl
      refine (make_any S (some ⟨g, 0, none⟩) (ys ++ [cc]).length cap w4.heap.size (ys ++ [cc]) w4 Hown4.out.rd (Nat.le_refl _) rfl (Hlim.out.append (Lim_one Hccb.out)) Hcap.out (by have := Ha2.out; simp; omega)).mono ?_
      rintro e w5 ⟨val, rfl, hv, hb5⟩
      rw [Hfin.out] at hv
      obtain ⟨S9, A9, n9, c9, rfl, hzo⟩ := Wz.zo ((hv.z (sgn_or HS.out (fun e => by rw [e]; simp))).cast_ (z' := (2 : Int) ^ k * z) (by rw [sh_up HS.out, shZ_up (by omega), Int.toNat_natCast])) (Nat.le_refl _)
      have Zo5 := Lib.hid hzo
      have Hb5 : Hid (Below w1.heap.size w1 w5) := Lib.hid (belNext Hb4.out hb5)
      refine hK.out _ _ (Bx1.out.next Hb5.out).1.1 (fun hHeld => ?_)
      have Hs4 : Hid (w1.heap.size ≤ w4.heap.size) := Lib.hid Hb4.out.size
      have Hs5 : Hid (w1.heap.size ≤ w5.heap.size) := Lib.hid Hb5.out.size
      clear hK K hv hzo hb5
      try simp only [Act.put, List.setIfInBounds_toArray, List.set_cons_zero, List.set_cons_succ]
      obtain ⟨⟨r1, r2, r3, r4⟩, r5⟩ := Rs1.out.next Hb5.out
      refine wpAnyH_ready (rs := [7]) (by kernel_rfl) (by simp) ?_
      refine AllReadyH.cons rfl (fun K hK => ?_) AllReadyH.nil
      go_simp
      refine hK.out _ _ (((Bx1.out.next Hb5.out).keep (by simp) _).keep (by simp) _).1.1 (fun hHeld => ?_)
      clear hK K hHeld
      try simp only [Act.put, List.setIfInBounds_toArray, List.set_cons_zero, List.set_cons_succ]
      refine wpAnyH_done (by kernel_rfl) ?_ _
      go_wp2_with fail
      refine bodyPost_ret (v := .agg #[.int .i64 S9, .slice A9 n9 c9]) (by simp [results, Try.results83, go_sem, r1, r2]) rfl ⟨S9, A9, n9, c9, rfl, ?_, ?_⟩
      · exact ((Zo5.out.setCell (.inl (by have zz0 := Hlt.out; have zz1 := Hs4.out; have zz2 := Hs5.out; first | omega | (simp; done) | (simp; omega))) _).setCell (.inl (by have zz0 := Hlt.out; have zz1 := Hs4.out; have zz2 := Hs5.out; first | omega | (simp; done) | (simp; omega))) _).wide (by have zz0 := Hlt.out; have zz1 := Hs4.out; have zz2 := Hs5.out; first | omega | (simp; done) | (simp; omega)) (by simp) (by simp)
      · exact ((belNext Bel1.out Hb5.out).setCell (by simp; try omega) _).setCell (by simp; try omega) _
end Go.Proofs.Ytnnoobdcdfcdaaa
