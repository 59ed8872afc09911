/- Texts of this seat, joined: Tf Ef Pe Pf Pg Ph Pt Pu -/
import Derived.Test.YtnecnbonnidijaaDoorGC2
import Derived.Test.YtnecnbonnidijaaDoorGC1
import Derived.Deep.QuietTactic
import Derived.BigQuiet
import Derived.Deep.RegionHeld3
import Derived.Test.YtnecnbonnidijaaDoorGC10
import Derived.Test.YtnecnbonnidijaaDoorGC8
import Derived.Test.YtnecnbonnidijaaDoorGC4
import Derived.Test.YtnecnbonnidijaaDoorGC6
/- The walk of the laws' toFloat32S: a copy in memory of its own. -/
namespace Go.Proofs.YtnecnbonnidijaaDoor
set_option maxRecDepth 100000
open Go.RowKit

theorem infoF : (Tryd.prog.info? 40).map (fun i => (i.zero, i.size, i.bytes)) = some (some (.float .f32 0), 1, 4) := by kernel_rfl

set_option maxHeartbeats 400000 in
theorem toF_any (A : Option Addr) (n c : Nat) (xs : List Value) (w : World) (hr : Rd w w.heap.size A xs) (hn : xs.length = n) (hf : ∀ u ∈ xs, ∃ b, u = .float .f32 b) (hm : n ≤ 1048576) :
    Calls Tryd.prog 30 #[.slice A n c] w fun e w' => ∃ v, e = .returned v ∧ w'.ownsRow w.heap.size 40 1 v n xs ∧ Below w.heap.size w w' := by
  obtain ⟨i0, hi0, hz0, hz1, hz2⟩ := info_parts infoF
  have hbytes : i0.bytes * n ≤ 281474976710656 := by rw [hz2]; omega
  have hst := store_float Tryd.prog
  go_enter Tryd.func30, Tryd.ntmps30
  go_wp2_with (refine wpList_make_full _ rfl _ _ _ rfl w.heap.size 40 i0 _ 1 Tryd.underlying53 hi0 hz0 hz1 _ _ _ _ n rfl rfl rfl rfl hbytes (by unfold maxLen; omega) (Nat.le_refl _) ?_; intro w1 hown hg)
  obtain ⟨ys, hys⟩ : ∃ ys, ys = (madeCells (Value.float FloatKind.f32 0).cells (n * 1)).toList := ⟨_, rfl⟩
  rw [← hys] at hown
  have hyl : ys.length = n := by have := hown.1; omega
  have hb1 : Below w.heap.size w w1 := (Below.refl _ _).grown hg (Nat.le_refl _) (by simp)
  have Hyl := Lib.hid hyl
  have Hn := Lib.hid hn
  clear hys hyl hn hg
  go_loopw [4] (fun i wr => ∃ k : Nat, k ≤ n ∧ i = .int .i64 k ∧ wr.ownsRow w.heap.size 40 1 (.slice (some ⟨w.heap.size, 0, none⟩) n n) n (xs.take k ++ ys.drop k) ∧ Below w.heap.size w wr) (fun i _ => n - (intOf i).toNat)
  case atStart => exact ⟨0, Nat.zero_le _, rfl, by simpa using hown, hb1⟩
  case round =>
    clear hown hb1
    obtain ⟨k, hk, rfl, hown, hb⟩ := hrel
    by_cases hlt : k < n
    · have hkx : k < xs.length := by rw [Hn.out]; exact hlt
      obtain ⟨a, ha, _⟩ := hr.some_ (by omega)
      subst ha
      obtain ⟨b, hxb⟩ := hf _ (List.getElem_mem hkx)
      have hc1 := (hr.below hb).cell hkx
      have hc2 := hown.cellAt k (by omega)
      have hf2 := hown.frozenAt k
      have hc2' : ∃ u, wr.cell? ⟨w.heap.size, k, none⟩ = some u := ⟨_, by rw [hc2]; exact List.getElem?_eq_getElem (by have := Hyl.out; simp; omega)⟩
      obtain ⟨u, hu⟩ := hc2'
      have hst2 := hown.stored k xs[k]
      rw [take_succ_set hkx (by rw [Hyl.out, Hn.out])] at hst2
      have H1 := Lib.hid hst2
      have H2 := Lib.hid hxb
      rw [hxb] at hc1
      clear hst2 hxb hc2 hr hown
      have Hb := Lib.hid hb
      clear hb
      go_wp2
      go_roundw
      case rel =>
        have h1 := H1.out
        rw [H2.out] at h1
        exact ⟨k + 1, by omega, by go_num, h1.1, Hb.out.grown h1.2 Hb.out.size (by simp)⟩
      case measure => simp [intOf]; omega
    · have hkn : k = n := by omega
      have H3 : Hid (xs.take k ++ ys.drop k = xs) := Lib.hid (by
        rw [List.take_of_length_le (by have := Hn.out; omega), List.drop_of_length_le (by have := Hyl.out; omega), List.append_nil])
      rw [H3.out] at hown
      subst hkn
      have Ho := Lib.hid hown
      have Hb := Lib.hid hb
      clear hr hown hb hf
      go_wp2
      go_ret
      exact ⟨_, rfl, Ho.out, Hb.out⟩
end Go.Proofs.YtnecnbonnidijaaDoor
/- The walk of the laws' eqFloat32S: it says yes of slices that read as the same floats. -/
namespace Go.Proofs.YtnecnbonnidijaaDoor
set_option maxRecDepth 100000
open Go.RowKit
set_option linter.unusedSimpArgs false

/-- the same float: one word, or both NaN -/
def same32 (b c : Nat) : Prop := b < 4294967296 ∧ c < 4294967296 ∧ (b = c ∨ (nan32 b = true ∧ nan32 c = true))

set_option maxHeartbeats 800000 in
theorem eqF_yes (A A' : Option Addr) (n c c' B : Nat) (xs ys : List Nat) (w : World) (hr : Rd w B A (xs.map (Value.float .f32))) (hr' : Rd w B A' (ys.map (Value.float .f32))) (hn : xs.length = n) (hn' : ys.length = n)
    (hs : ∀ k (h : k < xs.length) (h' : k < ys.length), same32 xs[k] ys[k]) (hm : n ≤ 1048576) :
    Calls Tryd.prog 32 #[.slice A n c, .slice A' n c'] w fun e w' => e = .returned (.bool true) ∧ ∃ q, w' = w.drewN q := by
  have Hn := Lib.hid hn
  have Hn' := Lib.hid hn'
  clear hn hn'
  have Hm := Lib.hid hm
  go_enter Tryd.func32, Tryd.ntmps32
  go_wp2_with fail
  go_loopw [5] (fun i wr => ∃ k : Nat, k ≤ n ∧ i = .int .i64 k ∧ ∃ q, wr = w.drewN q) (fun i _ => n - (intOf i).toNat)
  case atStart => exact ⟨0, Nat.zero_le _, rfl, 0, rfl⟩
  case round =>
    obtain ⟨k, hk, rfl, q, hq⟩ := hrel
    have hr := (hr.drewN q)
    have hr' := (hr'.drewN q)
    rw [← hq] at hr hr'
    have Hq := Lib.hid hq
    clear hq
    by_cases hlt : k < n
    · have hkx : k < xs.length := by rw [Hn.out]; exact hlt
      have hky : k < ys.length := by rw [Hn'.out]; exact hlt
      obtain ⟨a, ha, _⟩ := hr.some_ (by simp; omega)
      obtain ⟨a', ha', _⟩ := hr'.some_ (by simp; omega)
      subst ha ha'
      have hc1 := hr.cell (k := k) (by simpa using hkx)
      have hc2 := hr'.cell (k := k) (by simpa using hky)
      rw [List.getElem_map] at hc1 hc2
      obtain ⟨l1, l2, hsame⟩ := hs k hkx hky
      generalize xs[k] = x at *
      generalize ys[k] = y at *
      clear hr hr' hs
      by_cases hx : nan32 x = true
      · have hy : nan32 y = true := by
          rcases hsame with rfl | ⟨_, hy⟩
          · exact hx
          · exact hy
        have hcv := conv_nan x hx
        have hcv2 := conv_nan y hy
        clear hsame l1 l2 hx hy
        go_wp2_with fail
        refine wp_region_held_drew (S := fun w' => (w'.cell? (a.add k) = some (.float .f32 x) ∧ w'.cell? (a'.add k) = some (.float .f32 y)) ∧ ∃ q, w' = w.drewN q) (by kernel_rfl) ⟨⟨hc1, hc2⟩, q + 1, by rw [Hq.out]; rfl⟩ (fun hHeld => ?_)
        refine wpAnyH_take (i := 0) (v := ?_) rfl (by kernel_rfl) (by kernel_rfl) (by kernel_rfl) (fun _ _ _ h => h) (Or.inl ⟨by rfl, ?_⟩) (by assumption) ?_
        rotate_left
        · (intro w hSw; (try dsimp only at hSw); go_simp; (try with_reducible rfl))
        try simp only [Act.put, List.setIfInBounds_toArray, List.set_cons_zero, List.set_cons_succ]
        refine wpAnyH_take (i := 1) (v := ?_) rfl (by kernel_rfl) (by kernel_rfl) (by kernel_rfl) (fun _ _ _ h => h) (Or.inl ⟨by rfl, ?_⟩) (by assumption) ?_
        rotate_left
        · (intro w hSw; (try dsimp only at hSw); go_simp; (try with_reducible rfl))
        try simp only [Act.put, List.setIfInBounds_toArray, List.set_cons_zero, List.set_cons_succ]
        refine wpAnyH_take (i := 2) (v := ?_) rfl (by kernel_rfl) (by kernel_rfl) (by kernel_rfl) (fun _ _ _ h => h) (Or.inl ⟨by rfl, ?_⟩) (by assumption) ?_
        rotate_left
        · (intro w hSw; (try dsimp only at hSw); go_simp; (try with_reducible rfl))
        try simp only [Act.put, List.setIfInBounds_toArray, List.set_cons_zero, List.set_cons_succ]
        refine wpAnyH_take (i := 3) (v := ?_) rfl (by kernel_rfl) (by kernel_rfl) (by kernel_rfl) (fun _ _ _ h => h) (Or.inl ⟨by rfl, ?_⟩) (by assumption) ?_
        rotate_left
        · (intro w hSw; (try dsimp only at hSw); go_simp; (try with_reducible rfl))
        try simp only [Act.put, List.setIfInBounds_toArray, List.set_cons_zero, List.set_cons_succ]
        refine wpAnyH_take (i := 5) (v := ?_) rfl (by kernel_rfl) (by kernel_rfl) (by kernel_rfl) (fun _ _ _ h => h) (Or.inl ⟨by rfl, ?_⟩) (by assumption) ?_
        rotate_left
        · (intro w hSw; (try dsimp only at hSw); go_simp; (try with_reducible rfl))
        try simp only [Act.put, List.setIfInBounds_toArray, List.set_cons_zero, List.set_cons_succ]
        refine wpAnyH_take (i := 6) (v := ?_) rfl (by kernel_rfl) (by kernel_rfl) (by kernel_rfl) (fun _ _ _ h => h) (Or.inl ⟨by rfl, ?_⟩) (by assumption) ?_
        rotate_left
        · (intro w hSw; (try dsimp only at hSw); go_simp; (try with_reducible rfl))
        try simp only [Act.put, List.setIfInBounds_toArray, List.set_cons_zero, List.set_cons_succ]
        refine wpAnyH_take (i := 7) (v := ?_) rfl (by kernel_rfl) (by kernel_rfl) (by kernel_rfl) (fun _ _ _ h => h) (Or.inl ⟨by rfl, ?_⟩) (by assumption) ?_
        rotate_left
        · (intro w hSw; (try dsimp only at hSw); go_simp; (try with_reducible rfl))
        try simp only [Act.put, List.setIfInBounds_toArray, List.set_cons_zero, List.set_cons_succ]
        refine wpAnyH_take (i := 8) (v := ?_) rfl (by kernel_rfl) (by kernel_rfl) (by kernel_rfl) (fun _ _ _ h => h) (Or.inl ⟨by rfl, ?_⟩) (by assumption) ?_
        rotate_left
        · (intro w hSw; (try dsimp only at hSw); go_simp; (try with_reducible rfl))
        try simp only [Act.put, List.setIfInBounds_toArray, List.set_cons_zero, List.set_cons_succ]
        refine wpAnyH_ready (rs := [4, 9]) (by kernel_rfl) (by simp) ?_
        refine AllReadyH.cons rfl (fun K hK => ?_) (AllReadyH.cons rfl (fun K hK => ?_) AllReadyH.nil)
        · go_simp
          refine hK.out _ _ ⟨hHeld.1, by obtain ⟨_, q, h⟩ := hHeld; exact ⟨q + 1, by rw [h]; rfl⟩⟩ (fun hHeld => ?_)
          clear hK K
          try simp only [Act.put, List.setIfInBounds_toArray, List.set_cons_zero, List.set_cons_succ]
          refine wpAnyH_ready (rs := [9]) (by kernel_rfl) (by simp) ?_
          refine AllReadyH.cons rfl (fun K hK => ?_) AllReadyH.nil
          go_simp
          refine hK.out _ _ ⟨hHeld.1, by obtain ⟨_, q, h⟩ := hHeld; exact ⟨q + 1, by rw [h]; rfl⟩⟩ (fun hHeld => ?_)
          clear hK K
          try simp only [Act.put, List.setIfInBounds_toArray, List.set_cons_zero, List.set_cons_succ]
          refine wpAnyH_ready (rs := [10]) (by kernel_rfl) (by simp) ?_
          refine AllReadyH.cons rfl (fun K hK => ?_) AllReadyH.nil
          go_simp
          refine (same_nan _ _ _ (nanConvOf_nan _ _) (nanConvOf_nan _ _)).mono ?_
          rintro e w' ⟨rfl, rfl⟩
          refine hK.out _ _ hHeld (fun hHeld => ?_)
          clear hK K
          try simp only [Act.put, List.setIfInBounds_toArray, List.set_cons_zero, List.set_cons_succ]
          refine wpAnyH_ready (rs := [11]) (by kernel_rfl) (by simp) ?_
          refine AllReadyH.cons rfl (fun K hK => ?_) AllReadyH.nil
          go_simp
          refine hK.out _ _ hHeld (fun hHeld => ?_)
          clear hK K
          try simp only [Act.put, List.setIfInBounds_toArray, List.set_cons_zero, List.set_cons_succ]
          refine wpAnyH_done (by kernel_rfl) ?_ _
          obtain ⟨_, q2, hq2⟩ := hHeld
          have Hq2 := Lib.hid hq2
          clear hq2
          go_wp2_with fail
          go_roundw
          case rel => exact ⟨k + 1, by omega, by go_num, q2, Hq2.out⟩
          case measure => simp [intOf]; omega
        · go_simp
          refine hK.out _ _ ⟨hHeld.1, by obtain ⟨_, q, h⟩ := hHeld; exact ⟨q + 1, by rw [h]; rfl⟩⟩ (fun hHeld => ?_)
          clear hK K
          try simp only [Act.put, List.setIfInBounds_toArray, List.set_cons_zero, List.set_cons_succ]
          refine wpAnyH_ready (rs := [4]) (by kernel_rfl) (by simp) ?_
          refine AllReadyH.cons rfl (fun K hK => ?_) AllReadyH.nil
          go_simp
          refine hK.out _ _ ⟨hHeld.1, by obtain ⟨_, q, h⟩ := hHeld; exact ⟨q + 1, by rw [h]; rfl⟩⟩ (fun hHeld => ?_)
          clear hK K
          try simp only [Act.put, List.setIfInBounds_toArray, List.set_cons_zero, List.set_cons_succ]
          refine wpAnyH_ready (rs := [10]) (by kernel_rfl) (by simp) ?_
          refine AllReadyH.cons rfl (fun K hK => ?_) AllReadyH.nil
          go_simp
          refine (same_nan _ _ _ (nanConvOf_nan _ _) (nanConvOf_nan _ _)).mono ?_
          rintro e w' ⟨rfl, rfl⟩
          refine hK.out _ _ hHeld (fun hHeld => ?_)
          clear hK K
          try simp only [Act.put, List.setIfInBounds_toArray, List.set_cons_zero, List.set_cons_succ]
          refine wpAnyH_ready (rs := [11]) (by kernel_rfl) (by simp) ?_
          refine AllReadyH.cons rfl (fun K hK => ?_) AllReadyH.nil
          go_simp
          refine hK.out _ _ hHeld (fun hHeld => ?_)
          clear hK K
          try simp only [Act.put, List.setIfInBounds_toArray, List.set_cons_zero, List.set_cons_succ]
          refine wpAnyH_done (by kernel_rfl) ?_ _
          obtain ⟨_, q2, hq2⟩ := hHeld
          have Hq2 := Lib.hid hq2
          clear hq2
          go_wp2_with fail
          go_roundw
          case rel => exact ⟨k + 1, by omega, by go_num, q2, Hq2.out⟩
          case measure => simp [intOf]; omega
      · obtain ⟨d, hd, hcv⟩ := conv_yes x l1 (by simpa using hx)
        obtain rfl : x = y := by
          rcases hsame with h | ⟨h, _⟩
          · exact h
          · exact absurd h hx
        have Hd := Lib.hid hd
        clear hd l1 l2 hx hsame
        go_wp2_with fail
        go_quiet ((go_at_call 23; exact Calls.quiet_of_same ((same_yes d _ Hd.out).mono fun _ _ ⟨h1, h2⟩ => ⟨h1, h2.symm⟩)))
        go_wp2_with fail
        go_roundw
        case rel => exact ⟨k + 1, by omega, by go_num, q + nq, by rw [Hq.out, World.drewN_drewN]⟩
        case measure => simp [intOf]; omega
    · have hkn : k = n := by omega
      subst hkn
      clear hr hr' hs
      go_wp2_with fail
      go_ret
      exact ⟨rfl, q, Hq.out⟩
end Go.Proofs.YtnecnbonnidijaaDoor
/- Exact sums of floats, of the program and of the model. -/
namespace Go.Proofs.YtnecnbonnidijaaDoor
set_option maxRecDepth 100000
open Go.RowKit
set_option linter.unusedSimpArgs false
set_option linter.unusedVariables false

theorem uI_uV (b : Nat) : uV (-149) (fz b) (fe b) = uI b := by
  unfold uV uI
  rw [show fe b - -149 = fe b + 149 by omega, Int.mul_comm]
def uS (l : List Nat) : Int := (l.map uI).sum
theorem uS_take {l : List Nat} {k : Nat} (hk : k < l.length) : uS (l.take (k + 1)) = uS (l.take k) + uI l[k] := by
  unfold uS
  rw [List.take_succ_eq_append_getElem hk, List.map_append, List.sum_append]
  simp
theorem uI_bound {b : Nat} (hf : fin32 b = true) : (uI b).natAbs ≤ 16777216 * 2 ^ 253 := by
  rw [uI_abs]
  have h1 := mant_lt (b % 2147483648)
  have h2 := expo_le (b % 2147483648) (of_decide_eq_true hf)
  exact Nat.mul_le_mul (by omega) (Nat.pow_le_pow_right (by omega) h2)
theorem uS_bound {l : List Nat} (hl : ∀ f ∈ l, fin32 f = true) : (uS l).natAbs ≤ l.length * (16777216 * 2 ^ 253) := by
  induction l with
  | nil => simp [uS]
  | cons b l ih =>
    have h1 := ih (fun f hf => hl f (by simp [hf]))
    have h2 := uI_bound (hl b (by simp))
    have e : uS (b :: l) = uI b + uS l := by unfold uS; simp
    rw [e, List.length_cons, Nat.add_mul, Nat.one_mul]
    omega
theorem lim_280 : 8 * (16777216 * 2 ^ 253) < Bs ^ 12 := by
  rw [Bs_pow]
  decide +kernel
theorem u_len {U : Int} (h : U.natAbs ≤ 8 * (16777216 * 2 ^ 253)) : (limbs U.natAbs).length ≤ 12 := by
  rw [limbs_len_le]
  exact Nat.lt_of_le_of_lt h lim_280
theorem uS_small {l : List Nat} {n : Nat} (hl : ∀ f ∈ l, fin32 f = true) (hn : l.length = n) (hm : (n : Int) ≤ 8) : (uS l).natAbs ≤ 8 * (16777216 * 2 ^ 253) :=
  Nat.le_trans (uS_bound hl) (Nat.mul_le_mul_right _ (by omega))
theorem z_len {Z E U : Int} (h : uV (-149) Z E = U) (hU : U.natAbs ≤ 8 * (16777216 * 2 ^ 253)) : (limbs Z.natAbs).length ≤ 12 :=
  Nat.le_trans (limbs_len_mono (by have h1 := uV_le (-149) Z E; rw [h] at h1; exact h1)) (u_len hU)
/-- the normal form of a sum, by its units alone -/
theorem z_norm {Z E U : Int} (h : uV (-149) Z E = U) (hE : -149 ≤ E) : nz Z = nz U ∧ nx Z E = nx U (-149) :=
  nzx_same (B := -149) hE (Int.le_refl _) (by rw [h, uV_one])
theorem u_ok {U : Int} (hU : U.natAbs ≤ 8 * (16777216 * 2 ^ 253)) : okN U (-149) := by
  have h := u_len hU
  refine ⟨Nat.le_trans (limbs_len_mono (nz_le _)) (by omega), ?_⟩
  by_cases h0 : U = 0
  · rw [h0, nx_zero]; omega
  · rw [nx_ne h0]
    have := tz_le (v := U.natAbs) rfl
    omega
theorem nx_u {U : Int} (hU : U.natAbs ≤ 8 * (16777216 * 2 ^ 253)) : -149 ≤ nx U (-149) ∧ nx U (-149) ≤ 139 := by
  have h := u_len hU
  by_cases h0 : U = 0
  · rw [h0, nx_zero]; omega
  · rw [nx_ne h0]
    have := tz_le (v := U.natAbs) rfl
    omega

set_option maxHeartbeats 2000000 in
theorem implSumOf_any (l : List Nat) (A : Option Addr) (n c : Nat) (w : World) (hr : Rd w w.heap.size A (fs l)) (hn : l.length = n) (hm : (n : Int) ≤ 8) (hl : ∀ f ∈ l, f < 4294967296) (hf : ∀ f ∈ l, fin32 f = true) (hT : TabZ w) :
    Calls Tryd.prog 76 #[.slice A n c] w fun e w' => ∃ Z E Sr Ar nr cr, e = .returned (.agg #[.int .i64 Sr, .slice Ar nr cr, .int .i64 E]) ∧ ZO w' w.heap.size w'.heap.size Z Sr Ar nr cr ∧ uV (-149) Z E = uS l ∧ -149 ≤ E ∧ E ≤ 0 ∧ Below w.heap.size w w' := by
  have hst := store_int Tryd.prog
  have hst2 := store_slice Tryd.prog
  have Hn := Lib.hid hn
  have Hm := Lib.hid hm
  have Hl := Lib.hid hl
  have Hf := Lib.hid hf
  have Hr := Lib.hid hr
  have HT := Lib.hid hT
  obtain ⟨w1, hw1⟩ : ∃ w1, w1 = (w.alloc (.cells #[.int .i64 0, .slice none 0 0, .int .i64 0] 30)).alloc (.cells #[.int .i64 0, .slice none 0 0, .int .i64 0] 30) := ⟨_, rfl⟩
  have Bel1 : Hid (Below w.heap.size w w1) := Lib.hid (by rw [hw1]; exact belNext (belAlloc1 _ _) (belAlloc1 _ _))
  have Rs1 : Hid (DRes w1 w.heap.size) := Lib.hid (by rw [hw1]; exact (DRes.new _ _).next (belAlloc1 _ _))
  have Ba1 : Hid (DBox w1 (w.heap.size + 1) 0 none 0 0 0) := Lib.hid (by rw [hw1]; have h := DBox.new (w.alloc (.cells #[.int .i64 0, .slice none 0 0, .int .i64 0] 30)) 0 none 0 0 0 30; simpa using h)
  have Fr1 : Hid (Fr3 w1 (w.heap.size + 1)) := Lib.hid (by rw [hw1]; have h := Fr3.new (w.alloc (.cells #[.int .i64 0, .slice none 0 0, .int .i64 0] 30)) 0 none 0 0 0 30; simpa using h)
  have Hs1 : Hid (w.heap.size + 2 ≤ w1.heap.size) := Lib.hid (by rw [hw1]; simp)
  have Hw := Lib.hid hw1
  clear hn hm hl hf hr hT hw1
  go_enter Tryd.func76, Tryd.ntmps76
  go_wp2_with fail
  rw [← Hw.out]
  go_loopw [11] (fun i wr => ∃ (k : Nat) (Z E S : Int) (A' : Option Addr) (n' c' : Nat), k ≤ n ∧ i = .int .i64 k ∧ DBox wr (w.heap.size + 1) S A' n' c' E ∧ Fr3 wr (w.heap.size + 1) ∧ DRes wr w.heap.size ∧ ZO wr (w.heap.size + 2) wr.heap.size Z S A' n' c' ∧ uV (-149) Z E = uS (l.take k) ∧ -149 ≤ E ∧ E ≤ 0 ∧ Below w.heap.size w wr ∧ w.heap.size + 2 ≤ wr.heap.size) (fun i _ => n - (intOf i).toNat)
  case atStart => exact ⟨0, 0, 0, 0, none, 0, 0, Nat.zero_le _, rfl, Ba1.out, Fr1.out, Rs1.out, ZO.zero (Nat.le_refl _), by simp [uS, uV_zero], by omega, by omega, Bel1.out, Hs1.out⟩
  case round =>
    obtain ⟨k, Z, E, S, A', n', c', hk, rfl, hba, hfr, hrs, hzo, hu, hE1, hE2, hbel, hsz⟩ := hrel
    clear Ba1 Fr1 Rs1 Bel1 Hs1
    have Ba1 := Lib.hid hba
    have Fr1 := Lib.hid hfr
    have Rs1 := Lib.hid hrs
    have Zo1 := Lib.hid hzo
    have Hu := Lib.hid hu
    have Bel1 := Lib.hid hbel
    have Hs1 := Lib.hid hsz
    have Hz12 : Hid ((n' : Int) ≤ 12) := Lib.hid (by
      have h := z_len hu (uS_small (l := l.take k) (n := (l.take k).length) (fun f hf => Hf.out f (List.mem_of_mem_take hf)) rfl (by rw [List.length_take]; have := Hn.out; have := Hm.out; omega))
      have e := hzo.2.1
      omega)
    clear hrs hzo hu hbel hsz
    by_cases hlt : k < n
    · have hkx : k < l.length := by rw [Hn.out]; exact hlt
      have hrd := Hr.out.below Bel1.out
      obtain ⟨q, hq, _⟩ := hrd.some_ (by rw [fs_len]; omega)
      subst hq
      have hcx := hrd.cell (k := k) (by rw [fs_len]; exact hkx)
      rw [fs_get hkx] at hcx
      have Hxb := Lib.hid (Hl.out _ (List.getElem_mem hkx))
      have Hxf := Lib.hid (Hf.out _ (List.getElem_mem hkx))
      have Hnx := Lib.hid (uS_take hkx)
      generalize l[k] = x at *
      clear hkx hrd hba hfr
      go_wp2_with fail
      refine (implOf_any x _ Hxb.out (HT.out.next Bel1.out)).mono ?_
      rintro e w2 ⟨S2, A2, n2, c2, rfl, hzo, hb⟩
      have hof := of_yes2 Hxf.out
      have hzo : ZO w2 wr.heap.size w2.heap.size (fz x) S2 A2 n2 c2 := by rw [hof.1] at hzo; exact hzo
      rw [show ofX x = fe x from hof.2.1, hof.2.2]
      have hfe := fe_small Hxf.out
      obtain ⟨X, hX⟩ : ∃ X, X = fe x := ⟨_, rfl⟩
      rw [← hX] at hfe ⊢
      have HX := Lib.hid hX
      obtain ⟨hX1, hX2⟩ := hfe
      have Zx2 := Lib.hid hzo
      have Hn2 : Hid ((n2 : Int) ≤ 1) := Lib.hid (fz_len Hxf.out hzo.2.1)
      have Ba2 := Lib.hid (Ba1.out.next hb)
      have Fr2 := Lib.hid (Fr1.out.next hb)
      have Rs2 := Lib.hid (Rs1.out.next hb)
      have Zo2 := Lib.hid (Zo1.out.next hb)
      have Bel2 := Lib.hid (belNext Bel1.out hb)
      have Sz2 : Hid (wr.heap.size ≤ w2.heap.size) := Lib.hid hb.size
      clear hzo hb Ba1 Fr1 Rs1 Zo1 Bel1 hof hX hcx
      go_upto_region 6 with fail
      obtain ⟨w3, hw3⟩ : ∃ w3, w3 = w2.alloc (.cells #[.int .i64 S2, .slice A2 n2 c2, .int .i64 X] 30) := ⟨_, rfl⟩
      rw [← hw3]
      have hb : Below w2.heap.size w2 w3 := by rw [hw3]; exact belAlloc1 _ _
      have Bv3 : Hid (DBox w3 w2.heap.size S2 A2 n2 c2 X) := Lib.hid (by rw [hw3]; exact DBox.new _ _ _ _ _ _ _)
      have Ba3 := Lib.hid (Ba2.out.next hb)
      have Fr3_ := Lib.hid (Fr2.out.next hb)
      have Rs3 := Lib.hid (Rs2.out.next hb)
      have Zo3 := Lib.hid (Zo2.out.next hb)
      have Zx3 := Lib.hid (Zx2.out.next hb)
      have Bel3 := Lib.hid (belNext Bel2.out hb)
      have Sz3 : Hid (w2.heap.size < w3.heap.size) := Lib.hid (by rw [hw3]; simp)
      clear hw3 hb Ba2 Fr2 Rs2 Zo2 Zx2 Bel2
      obtain ⟨⟨hv0, hv1, hv2⟩, hv3⟩ := Bv3.out
      obtain ⟨⟨ha0, ha1, ha2⟩, ha3⟩ := Ba3.out
      go_wp2_with fail
      refine (implPlusD_any Z S E (fz x) S2 X A' A2 n' c' n2 c2 _ Zo3.out.zv Zx3.out.zv (by have := Hz12.out; omega) (by have := Hn2.out; omega) (by omega) (by omega) (by omega) (by omega) (HT.out.next Bel3.out)).mono ?_
      rintro e w4 ⟨S4, A4, n4, c4, rfl, hzo, hb⟩
      have Zr4 := Lib.hid hzo
      have Ba4 := Lib.hid (Ba3.out.next hb)
      have Fr4 := Lib.hid (Fr3_.out.next hb)
      have Rs4 := Lib.hid (Rs3.out.next hb)
      have Bel4 := Lib.hid (belNext Bel3.out hb)
      have Sz4 : Hid (w3.heap.size ≤ w4.heap.size) := Lib.hid hb.size
      have Hun : Hid (uV (-149) (sumZ Z E (fz x) X) (min E X) = uS (l.take (k + 1))) := Lib.hid (by rw [uV_sum hE1 hX1, Hu.out, HX.out, uI_uV, Hnx.out])
      have Hmn : Hid (-149 ≤ min E X ∧ min E X ≤ 0) := Lib.hid (by omega)
      obtain ⟨mE, hmE⟩ : ∃ mE, mE = min E X := ⟨_, rfl⟩
      rw [← hmE] at Hun Hmn ⊢
      clear hzo hb Ba3 Fr3_ Rs3 Zo3 Zx3 Bel3 hv0 hv1 hv2 hv3 ha0 ha1 ha2 ha3 hmE Bv3
      obtain ⟨⟨ha0, ha1, ha2⟩, ha3⟩ := Ba4.out
      obtain ⟨⟨hf0, hf1, hf2⟩, hf3⟩ := Fr4.out
      have hm8 := Hm.out
      go_wp2_with fail
      have hs2 := Hs1.out
      have hs3 := Sz2.out
      have hs4 := Sz3.out
      have hs5 := Sz4.out
      go_round
      case rel => exact ⟨k + 1, sumZ Z E (fz x) X, mE, S4, A4, n4, c4, by omega, by go_num, DBox.made ha3 ⟨_, ha0⟩ ⟨_, ha1⟩ ⟨_, ha2⟩, Fr4.out.made, Rs4.out.st3_ (by omega), (Zr4.out.st3_ (.inl (by omega))).wide (by omega) (by first | (rw [st3_size]; done) | (unfold st3; simp; done) | (unfold st3; simp; omega) | (simp; done) | (simp; omega)) (by first | (rw [st3_size]; done) | (unfold st3; simp; done) | (unfold st3; simp; omega) | (simp; done) | (simp; omega)), Hun.out, Hmn.out.1, Hmn.out.2, belSt3 Bel4.out (by omega), (by first | (rw [st3_size]; done) | (unfold st3; simp; done) | (unfold st3; simp; omega) | (simp; done) | (simp; omega))⟩
      case measure => simp [intOf]; omega
    · have hin : k = n := by omega
      have Hall : Hid (l.take k = l) := Lib.hid (List.take_of_length_le (by rw [Hn.out]; omega))
      subst hin
      obtain ⟨⟨ha0, ha1, ha2⟩, ha3⟩ := hba
      obtain ⟨⟨hRsD0, hRsD1, hRsD2, hRsD3, hRsD4, hRsD5⟩, hRsD6⟩ := Rs1.out
      go_wp2_with fail
      have hs2 := Hs1.out
      refine bodyPost_ret (v := .agg #[.int .i64 S, .slice A' n' c', .int .i64 E]) (by simp [results, Tryd.results76, go_sem, hRsD0, hRsD1, hRsD2]) rfl ⟨Z, E, S, A', n', c', rfl, ?_, by rw [Hu.out, Hall.out], hE1, hE2, ?_⟩
      · exact (((Zo1.out.setCell (.inl (by first | (simp; done) | (simp; omega))) _).setCell (.inl (by first | (simp; done) | (simp; omega))) _).setCell (.inl (by first | (simp; done) | (simp; omega))) _).wide (by omega) (by simp) (by simp)
      · exact ((Bel1.out.setCell (by simp) _).setCell (by simp) _).setCell (by simp) _

end Go.Proofs.YtnecnbonnidijaaDoor
/- Values of pairs and exact sums of floats, of the model. -/
namespace Go.Proofs.YtnecnbonnidijaaDoor
set_option maxRecDepth 100000
open Go.RowKit
set_option linter.unusedSimpArgs false
set_option linter.unusedVariables false

theorem sum_vn {a b : Int} : nz (sumZ (nz a) (nx a (-149)) (nz b) (nx b (-149))) = nz (a + b) ∧ nx (sumZ (nz a) (nx a (-149)) (nz b) (nx b (-149))) (min (nx a (-149)) (nx b (-149))) = nx (a + b) (-149) := by
  have g1 := nx_ge (B := -149) (z := a) (e := -149) (Int.le_refl _) (by omega)
  have g2 := nx_ge (B := -149) (z := b) (e := -149) (Int.le_refl _) (by omega)
  refine nzx_same (B := -149) (by omega) (Int.le_refl _) ?_
  rw [uV_sum g1 g2, uV_nz (Int.le_refl _), uV_nz (Int.le_refl _), uV_one, uV_one, uV_one]
theorem f_vn (b : Nat) : fz b = nz (uI b) ∧ fe b = nx (uI b) (-149) := by
  have e : uI b = uV (-149) (ofM b) (ofP b) := by
    rw [uI_ofM]
    unfold uV ofP
    rw [show (-149 + (expo (b % 2147483648) : Int) - -149).toNat = expo (b % 2147483648) by omega, Int.mul_comm]
  rw [e, nz_uV, nx_uV (ofP_ge b)]
  exact ⟨rfl, rfl⟩

set_option maxHeartbeats 4000000 in
theorem specAll_any (l : List Nat) (A : Option Addr) (n c : Nat) (w : World) (hr : Rd w w.heap.size A (fs l)) (hn : l.length = n) (hm : (n : Int) ≤ 8) (hl : ∀ f ∈ l, f < 4294967296) (hf : ∀ f ∈ l, fin32 f = true) :
    Calls Tryd.prog 81 #[.slice A n c] w fun e w' => ∃ Sr Ar nr cr, e = .returned (.agg #[.int .i64 Sr, .slice Ar nr cr, .int .i64 (nx (uS l) (-149))]) ∧ ZO w' w.heap.size w'.heap.size (nz (uS l)) Sr Ar nr cr ∧ Below w.heap.size w w' := by
  have hst := store_int Tryd.prog
  have hst2 := store_slice Tryd.prog
  have Hn := Lib.hid hn
  have Hm := Lib.hid hm
  have Hl := Lib.hid hl
  have Hf := Lib.hid hf
  have Hr := Lib.hid hr
  obtain ⟨w1, hw1⟩ : ∃ w1, w1 = (w.alloc (.cells #[.int .i64 0, .slice none 0 0, .int .i64 0] 30)).alloc (.cells #[.int .i64 0, .slice none 0 0, .int .i64 0] 30) := ⟨_, rfl⟩
  have Bel1 : Hid (Below w.heap.size w w1) := Lib.hid (by rw [hw1]; exact belNext (belAlloc1 _ _) (belAlloc1 _ _))
  have Rs1 : Hid (DRes w1 w.heap.size) := Lib.hid (by rw [hw1]; exact (DRes.new _ _).next (belAlloc1 _ _))
  have Ba1 : Hid (DBox w1 (w.heap.size + 1) 0 none 0 0 0) := Lib.hid (by rw [hw1]; have h := DBox.new (w.alloc (.cells #[.int .i64 0, .slice none 0 0, .int .i64 0] 30)) 0 none 0 0 0 30; simpa using h)
  have Fr1 : Hid (Fr3 w1 (w.heap.size + 1)) := Lib.hid (by rw [hw1]; have h := Fr3.new (w.alloc (.cells #[.int .i64 0, .slice none 0 0, .int .i64 0] 30)) 0 none 0 0 0 30; simpa using h)
  have Hs1 : Hid (w.heap.size + 2 ≤ w1.heap.size) := Lib.hid (by rw [hw1]; simp)
  have Hw := Lib.hid hw1
  clear hn hm hl hf hr hw1
  go_enter Tryd.func81, Tryd.ntmps81
  go_wp2_with fail
  rw [← Hw.out]
  go_loopw [4] (fun i wr => ∃ (k : Nat) (E S : Int) (A' : Option Addr) (n' c' : Nat), k ≤ n ∧ i = .int .i64 k ∧ DBox wr (w.heap.size + 1) S A' n' c' E ∧ Fr3 wr (w.heap.size + 1) ∧ DRes wr w.heap.size ∧ ZO wr (w.heap.size + 2) wr.heap.size (nz (uS (l.take k))) S A' n' c' ∧ E = nx (uS (l.take k)) (-149) ∧ Below w.heap.size w wr ∧ w.heap.size + 2 ≤ wr.heap.size) (fun i _ => n - (intOf i).toNat)
  case atStart => exact ⟨0, 0, 0, none, 0, 0, Nat.zero_le _, rfl, Ba1.out, Fr1.out, Rs1.out, by simp [uS, nz_zero]; exact ZO.zero (Nat.le_refl _), by simp [uS, nx_zero], Bel1.out, Hs1.out⟩
  case round =>
    obtain ⟨k, E, S, A', n', c', hk, rfl, hba, hfr, hrs, hzo, hu, hbel, hsz⟩ := hrel
    clear Ba1 Fr1 Rs1 Bel1 Hs1
    have Ba1 := Lib.hid hba
    have Fr1 := Lib.hid hfr
    have Rs1 := Lib.hid hrs
    have Zo1 := Lib.hid hzo
    have Hu := Lib.hid hu
    have Bel1 := Lib.hid hbel
    have Hs1 := Lib.hid hsz
    have Hsm : Hid ((uS (l.take k)).natAbs ≤ 8 * (16777216 * 2 ^ 253)) := Lib.hid (uS_small (l := l.take k) (n := (l.take k).length) (fun f hf => Hf.out f (List.mem_of_mem_take hf)) rfl (by rw [List.length_take]; have := Hn.out; have := Hm.out; omega))
    have Hz12 : Hid ((n' : Int) ≤ 12) := Lib.hid (by
      have h := u_len Hsm.out
      have h2 := limbs_len_mono (nz_le (uS (l.take k)))
      have e := hzo.2.1
      omega)
    have hEb : -149 ≤ E ∧ E ≤ 139 := by rw [hu]; exact nx_u Hsm.out
    obtain ⟨hE1, hE2⟩ := hEb
    clear hrs hzo hu hbel hsz
    by_cases hlt : k < n
    · have hkx : k < l.length := by rw [Hn.out]; exact hlt
      have hrd := Hr.out.below Bel1.out
      obtain ⟨q, hq, hqb⟩ := hrd.some_ (by rw [fs_len]; omega)
      subst hq
      have hS : ∀ W, Below w.heap.size w W → W.cell? (q.add k) = some (.float .f32 l[k]) := fun W hW => by
        have h := (Hr.out.below hW).cell (k := k) (by rw [fs_len]; exact hkx)
        rw [fs_get hkx] at h
        exact h
      have Hxb := Lib.hid (Hl.out _ (List.getElem_mem hkx))
      have Hxf := Lib.hid (Hf.out _ (List.getElem_mem hkx))
      have Hnx := Lib.hid (uS_take hkx)
      generalize l[k] = x at *
      have HS := Lib.hid hS
      have hcx := hS _ Bel1.out
      clear hkx hrd hba hfr hS
      have hx1 := fe_small Hxf.out
      obtain ⟨X, hX⟩ : ∃ X, X = fe x := ⟨_, rfl⟩
      rw [← hX] at hx1
      obtain ⟨hx1, hx2⟩ := hx1
      have HX := Lib.hid hX
      clear hX
      have hm8 := Hm.out
      obtain ⟨W1, hW1⟩ : ∃ W1, W1 = wr := ⟨_, rfl⟩
      go_wp2_with fail
      refine wp_region_held_drew (S := fun w' => w'.cell? (q.add k) = some (.float .f32 x)) (by kernel_rfl) (HS.out _ Bel1.out.drew) (fun hHeld => ?_)
      clear hcx
      refine wpAnyH_take (i := 1) (v := ?_) rfl (by kernel_rfl) (by kernel_rfl) (by kernel_rfl) (fun _ _ _ h => h) (Or.inl ⟨by rfl, ?_⟩) (by assumption) ?_
      rotate_left
      · (intro w hSw; (try dsimp only at hSw); go_simp; (try with_reducible rfl))
      try simp only [Act.put, List.setIfInBounds_toArray, List.set_cons_zero, List.set_cons_succ, List.getElem_toArray, List.getElem_cons_succ, List.getElem_cons_zero]
      refine wpAnyH_take (i := 2) (v := ?_) rfl (by kernel_rfl) (by kernel_rfl) (by kernel_rfl) (fun _ _ _ h => h) (Or.inl ⟨by rfl, ?_⟩) (by assumption) ?_
      rotate_left
      · (intro w hSw; (try dsimp only at hSw); go_simp; (try with_reducible rfl))
      try simp only [Act.put, List.setIfInBounds_toArray, List.set_cons_zero, List.set_cons_succ, List.getElem_toArray, List.getElem_cons_succ, List.getElem_cons_zero]
      refine wpAnyH_take (i := 3) (v := ?_) rfl (by kernel_rfl) (by kernel_rfl) (by kernel_rfl) (fun _ _ _ h => h) (Or.inl ⟨by rfl, ?_⟩) (by assumption) ?_
      rotate_left
      · (intro w hSw; (try dsimp only at hSw); go_simp; (try with_reducible rfl))
      try simp only [Act.put, List.setIfInBounds_toArray, List.set_cons_zero, List.set_cons_succ, List.getElem_toArray, List.getElem_cons_succ, List.getElem_cons_zero]
      refine wpAnyH_take (i := 4) (v := ?_) rfl (by kernel_rfl) (by kernel_rfl) (by kernel_rfl) (fun _ _ _ h => h) (Or.inl ⟨by rfl, ?_⟩) (by assumption) ?_
      rotate_left
      · (intro w hSw; (try dsimp only at hSw); go_simp; (try with_reducible rfl))
      try simp only [Act.put, List.setIfInBounds_toArray, List.set_cons_zero, List.set_cons_succ, List.getElem_toArray, List.getElem_cons_succ, List.getElem_cons_zero]
      refine wpAnyH_ready (rs := [0, 5]) (by kernel_rfl) (by simp) ?_
      refine AllReadyH.cons rfl (fun K hK => ?_) (AllReadyH.cons rfl (fun K hK => ?_) AllReadyH.nil)
      · obtain ⟨⟨ha0, ha1, ha2⟩, ha3⟩ := Ba1.out
        go_simp
        refine hK.out _ _ hHeld (fun hHeld => ?_)
        clear hK K ha0 ha1 ha2 ha3
        try simp only [Act.put, List.setIfInBounds_toArray, List.set_cons_zero, List.set_cons_succ, List.getElem_toArray, List.getElem_cons_succ, List.getElem_cons_zero]
        refine wpAnyH_ready (rs := [5]) (by kernel_rfl) (by simp) ?_
        refine AllReadyH.cons rfl (fun K hK => ?_) AllReadyH.nil
        go_simp
        refine (specOfD_any x wr.drew Hxb.out Hxf.out).mono ?_
        rintro e w2 ⟨S2, A2, n2, c2, rfl, hzo, hb0⟩
        have hb : Below wr.heap.size wr w2 := belDrew hb0
        rw [show nx (ofM x) (ofP x) = X from HX.out.symm]
        have Zx2 : Hid (ZO w2 _ _ (fz x) S2 A2 n2 c2) := Lib.hid hzo
        have Hn2 : Hid ((n2 : Int) ≤ 1) := Lib.hid (fz_len Hxf.out hzo.2.1)
        clear hzo
        refine hK.out _ _ (HS.out _ (belNext Bel1.out hb)) (fun hHeld => ?_)
        clear hK K hb0
        have Sz2 : Hid (wr.heap.size ≤ w2.heap.size) := Lib.hid (Below.size hb)
        have Bel2 := Lib.hid (belNext Bel1.out hb)
        have Ba2 := Lib.hid (Ba1.out.next hb)
        have Fr2 := Lib.hid (Fr1.out.next hb)
        have Rs2 := Lib.hid (Rs1.out.next hb)
        have Zo2 := Lib.hid (Zo1.out.next hb)
        clear hb Bel1 Ba1 Fr1 Rs1 Zo1
        try simp only [Act.put, List.setIfInBounds_toArray, List.set_cons_zero, List.set_cons_succ, List.getElem_toArray, List.getElem_cons_succ, List.getElem_cons_zero]
        refine wpAnyH_ready (rs := [6]) (by kernel_rfl) (by simp) ?_
        refine AllReadyH.cons rfl (fun K hK => ?_) AllReadyH.nil
        go_simp
        refine (specAddD_any (nz (uS (l.take k))) S E (fz x) S2 X A' A2 n' c' n2 c2 w2 Zo2.out.zv Zx2.out.zv (by have := Hz12.out; omega) (by have := Hn2.out; omega) (by omega) (by omega) (by omega) (by omega)).mono ?_
        rintro e w3 ⟨S4, A4, n4, c4, rfl, hzo, hb0⟩
        have hb : Below w2.heap.size w2 w3 := hb0
        have hvn := sum_vn (a := uS (l.take k)) (b := uI x)
        rw [← (f_vn x).1, ← (f_vn x).2, ← HX.out, ← Hu.out, ← Hnx.out] at hvn
        rw [hvn.1] at hzo
        rw [hvn.2]
        have Zr3 := Lib.hid hzo
        clear hzo hvn
        refine hK.out _ _ (HS.out _ (belNext Bel2.out hb)) (fun hHeld => ?_)
        clear hK K hb0
        have Sz3 : Hid (w2.heap.size ≤ w3.heap.size) := Lib.hid (Below.size hb)
        have Bel3 := Lib.hid (belNext Bel2.out hb)
        have Ba3 := Lib.hid (Ba2.out.next hb)
        have Fr3 := Lib.hid (Fr2.out.next hb)
        have Rs3 := Lib.hid (Rs2.out.next hb)
        have Zo3 := Lib.hid (Zo2.out.next hb)
        have Zx3 := Lib.hid (Zx2.out.next hb)
        clear hb Bel2 Ba2 Fr2 Rs2 Zo2 Zx2
        try simp only [Act.put, List.setIfInBounds_toArray, List.set_cons_zero, List.set_cons_succ, List.getElem_toArray, List.getElem_cons_succ, List.getElem_cons_zero]
        refine wpAnyH_ready (rs := [7]) (by kernel_rfl) (by simp) ?_
        refine AllReadyH.cons rfl (fun K hK => ?_) AllReadyH.nil
        have hs1 := Hs1.out
        have hSz2 := Sz2.out
        have hSz3 := Sz3.out
        obtain ⟨⟨ha0, ha1, ha2⟩, ha3⟩ := Ba3.out
        obtain ⟨⟨hf0, hf1, hf2⟩, hf3⟩ := Fr3.out
        go_simp
        refine hK.out _ (st3 w3 (w.heap.size + 1) S4 A4 n4 c4 (nx (uS (l.take (k + 1))) (-149))) (HS.out _ (belSt3 Bel3.out (by omega))) (fun hHeld => ?_)
        clear hK K hHeld
        try simp only [Act.put, List.setIfInBounds_toArray, List.set_cons_zero, List.set_cons_succ, List.getElem_toArray, List.getElem_cons_succ, List.getElem_cons_zero]
        refine wpAnyH_done (by kernel_rfl) ?_ _
        go_wp2_with fail
        go_round
        case rel => exact ⟨k + 1, nx (uS (l.take (k + 1))) (-149), S4, A4, n4, c4, by omega, by go_num, DBox.made ha3 ⟨_, ha0⟩ ⟨_, ha1⟩ ⟨_, ha2⟩, Fr3.out.made, Rs3.out.st3_ (by omega), (Zr3.out.st3_ (.inl (by omega))).wide (by omega) (by first | (rw [st3_size]; done) | (unfold st3; simp; done) | (unfold st3; simp; omega) | (simp; done) | (simp; omega)) (by first | (rw [st3_size]; done) | (unfold st3; simp; done) | (unfold st3; simp; omega) | (simp; done) | (simp; omega)), rfl, belSt3 Bel3.out (by omega), (by first | (rw [st3_size]; done) | (unfold st3; simp; done) | (unfold st3; simp; omega) | (simp; done) | (simp; omega))⟩
        case measure => simp [intOf]; omega
      · go_simp
        refine (specOfD_any x wr.drew Hxb.out Hxf.out).mono ?_
        rintro e w2 ⟨S2, A2, n2, c2, rfl, hzo, hb0⟩
        have hb : Below wr.heap.size wr w2 := belDrew hb0
        rw [show nx (ofM x) (ofP x) = X from HX.out.symm]
        have Zx2 : Hid (ZO w2 _ _ (fz x) S2 A2 n2 c2) := Lib.hid hzo
        have Hn2 : Hid ((n2 : Int) ≤ 1) := Lib.hid (fz_len Hxf.out hzo.2.1)
        clear hzo
        refine hK.out _ _ (HS.out _ (belNext Bel1.out hb)) (fun hHeld => ?_)
        clear hK K hb0
        have Sz2 : Hid (wr.heap.size ≤ w2.heap.size) := Lib.hid (Below.size hb)
        have Bel2 := Lib.hid (belNext Bel1.out hb)
        have Ba2 := Lib.hid (Ba1.out.next hb)
        have Fr2 := Lib.hid (Fr1.out.next hb)
        have Rs2 := Lib.hid (Rs1.out.next hb)
        have Zo2 := Lib.hid (Zo1.out.next hb)
        clear hb Bel1 Ba1 Fr1 Rs1 Zo1
        try simp only [Act.put, List.setIfInBounds_toArray, List.set_cons_zero, List.set_cons_succ, List.getElem_toArray, List.getElem_cons_succ, List.getElem_cons_zero]
        refine wpAnyH_ready (rs := [0]) (by kernel_rfl) (by simp) ?_
        refine AllReadyH.cons rfl (fun K hK => ?_) AllReadyH.nil
        obtain ⟨⟨ha0, ha1, ha2⟩, ha3⟩ := Ba2.out
        go_simp
        refine hK.out _ _ hHeld (fun hHeld => ?_)
        clear hK K ha0 ha1 ha2 ha3
        try simp only [Act.put, List.setIfInBounds_toArray, List.set_cons_zero, List.set_cons_succ, List.getElem_toArray, List.getElem_cons_succ, List.getElem_cons_zero]
        refine wpAnyH_ready (rs := [6]) (by kernel_rfl) (by simp) ?_
        refine AllReadyH.cons rfl (fun K hK => ?_) AllReadyH.nil
        go_simp
        refine (specAddD_any (nz (uS (l.take k))) S E (fz x) S2 X A' A2 n' c' n2 c2 w2 Zo2.out.zv Zx2.out.zv (by have := Hz12.out; omega) (by have := Hn2.out; omega) (by omega) (by omega) (by omega) (by omega)).mono ?_
        rintro e w3 ⟨S4, A4, n4, c4, rfl, hzo, hb0⟩
        have hb : Below w2.heap.size w2 w3 := hb0
        have hvn := sum_vn (a := uS (l.take k)) (b := uI x)
        rw [← (f_vn x).1, ← (f_vn x).2, ← HX.out, ← Hu.out, ← Hnx.out] at hvn
        rw [hvn.1] at hzo
        rw [hvn.2]
        have Zr3 := Lib.hid hzo
        clear hzo hvn
        refine hK.out _ _ (HS.out _ (belNext Bel2.out hb)) (fun hHeld => ?_)
        clear hK K hb0
        have Sz3 : Hid (w2.heap.size ≤ w3.heap.size) := Lib.hid (Below.size hb)
        have Bel3 := Lib.hid (belNext Bel2.out hb)
        have Ba3 := Lib.hid (Ba2.out.next hb)
        have Fr3 := Lib.hid (Fr2.out.next hb)
        have Rs3 := Lib.hid (Rs2.out.next hb)
        have Zo3 := Lib.hid (Zo2.out.next hb)
        have Zx3 := Lib.hid (Zx2.out.next hb)
        clear hb Bel2 Ba2 Fr2 Rs2 Zo2 Zx2
        try simp only [Act.put, List.setIfInBounds_toArray, List.set_cons_zero, List.set_cons_succ, List.getElem_toArray, List.getElem_cons_succ, List.getElem_cons_zero]
        refine wpAnyH_ready (rs := [7]) (by kernel_rfl) (by simp) ?_
        refine AllReadyH.cons rfl (fun K hK => ?_) AllReadyH.nil
        have hs1 := Hs1.out
        have hSz2 := Sz2.out
        have hSz3 := Sz3.out
        obtain ⟨⟨ha0, ha1, ha2⟩, ha3⟩ := Ba3.out
        obtain ⟨⟨hf0, hf1, hf2⟩, hf3⟩ := Fr3.out
        go_simp
        refine hK.out _ (st3 w3 (w.heap.size + 1) S4 A4 n4 c4 (nx (uS (l.take (k + 1))) (-149))) (HS.out _ (belSt3 Bel3.out (by omega))) (fun hHeld => ?_)
        clear hK K hHeld
        try simp only [Act.put, List.setIfInBounds_toArray, List.set_cons_zero, List.set_cons_succ, List.getElem_toArray, List.getElem_cons_succ, List.getElem_cons_zero]
        refine wpAnyH_done (by kernel_rfl) ?_ _
        go_wp2_with fail
        go_round
        case rel => exact ⟨k + 1, nx (uS (l.take (k + 1))) (-149), S4, A4, n4, c4, by omega, by go_num, DBox.made ha3 ⟨_, ha0⟩ ⟨_, ha1⟩ ⟨_, ha2⟩, Fr3.out.made, Rs3.out.st3_ (by omega), (Zr3.out.st3_ (.inl (by omega))).wide (by omega) (by first | (rw [st3_size]; done) | (unfold st3; simp; done) | (unfold st3; simp; omega) | (simp; done) | (simp; omega)) (by first | (rw [st3_size]; done) | (unfold st3; simp; done) | (unfold st3; simp; omega) | (simp; done) | (simp; omega)), rfl, belSt3 Bel3.out (by omega), (by first | (rw [st3_size]; done) | (unfold st3; simp; done) | (unfold st3; simp; omega) | (simp; done) | (simp; omega))⟩
        case measure => simp [intOf]; omega
    · have hin : k = n := by omega
      have Hall : Hid (l.take k = l) := Lib.hid (List.take_of_length_le (by rw [Hn.out]; omega))
      subst hin
      obtain ⟨⟨ha0, ha1, ha2⟩, ha3⟩ := hba
      obtain ⟨⟨hRsD0, hRsD1, hRsD2, hRsD3, hRsD4, hRsD5⟩, hRsD6⟩ := Rs1.out
      go_wp2_with fail
      have hs2 := Hs1.out
      refine bodyPost_ret (v := .agg #[.int .i64 S, .slice A' n' c', .int .i64 E]) (by simp [results, Tryd.results81, go_sem, hRsD0, hRsD1, hRsD2]) rfl ⟨S, A', n', c', by rw [Hu.out, Hall.out], ?_, ?_⟩
      · have hz := Zo1.out
        rw [Hall.out] at hz
        exact (((hz.setCell (.inl (by first | (simp; done) | (simp; omega))) _).setCell (.inl (by first | (simp; done) | (simp; omega))) _).setCell (.inl (by first | (simp; done) | (simp; omega))) _).wide (by omega) (by simp) (by simp)
      · exact ((Bel1.out.setCell (by simp) _).setCell (by simp) _).setCell (by simp) _

end Go.Proofs.YtnecnbonnidijaaDoor
/- Values of pairs and of expansions, of the program and of the model. -/
namespace Go.Proofs.YtnecnbonnidijaaDoor
set_option maxRecDepth 100000
open Go.RowKit
set_option linter.unusedSimpArgs false
set_option linter.unusedVariables false

def vpZ (h l : Nat) : Int := if isP h l = true then nz (uI h + uI l) else 0
def vpX (h l : Nat) : Int := if isP h l = true then nx (uI h + uI l) (-149) else 0
def vpE (h l : Nat) : Int := if isP h l = true then 0 else 1
/-- the code of an expansion -/
def exE (xs : List Nat) : Int := if xs.length = 0 ∨ 8 < xs.length then 2 else if xs.all fin32 = true then 0 else 1
theorem exE_cases (xs : List Nat) : (exE xs = 0 ∧ 1 ≤ xs.length ∧ xs.length ≤ 8 ∧ xs.all fin32 = true) ∨ (exE xs = 2 ∧ (xs.length = 0 ∨ 8 < xs.length)) ∨ (exE xs = 1 ∧ 1 ≤ xs.length ∧ xs.length ≤ 8 ∧ xs.all fin32 = false) := by
  unfold exE
  by_cases h : xs.length = 0 ∨ 8 < xs.length
  · rw [if_pos h]; exact .inr (.inl ⟨rfl, h⟩)
  · rw [if_neg h]
    by_cases h2 : xs.all fin32 = true
    · rw [if_pos h2]; exact .inl ⟨rfl, by omega, by omega, h2⟩
    · rw [if_neg h2]; exact .inr (.inr ⟨rfl, by omega, by omega, by simpa using h2⟩)
def veZ (xs : List Nat) : Int := if exE xs = 0 then nz (uS xs) else 0
def veX (xs : List Nat) : Int := if exE xs = 0 then nx (uS xs) (-149) else 0
theorem ve_yes {xs : List Nat} (h : exE xs = 0) : veZ xs = nz (uS xs) ∧ veX xs = nx (uS xs) (-149) := ⟨if_pos h, if_pos h⟩
theorem ve_no {xs : List Nat} (h : exE xs ≠ 0) : veZ xs = 0 ∧ veX xs = 0 := ⟨if_neg h, if_neg h⟩
theorem ex_all {xs : List Nat} (h : exE xs = 0) : (xs.length ≤ 8) ∧ (∀ f ∈ xs, fin32 f = true) := by
  rcases exE_cases xs with ⟨_, _, h1, h2⟩ | ⟨h1, _⟩ | ⟨h1, _⟩
  · exact ⟨h1, List.all_eq_true.1 h2⟩
  · rw [h1] at h; cases h
  · rw [h1] at h; cases h
theorem ve_small {xs : List Nat} (h : exE xs = 0) : (uS xs).natAbs ≤ 8 * (16777216 * 2 ^ 253) :=
  uS_small (n := xs.length) (ex_all h).2 rfl (by have := (ex_all h).1; omega)
set_option maxHeartbeats 1000000 in
theorem implCheckX_any (xs : List Nat) (A : Option Addr) (n c : Nat) (w : World) (hr : Rd w w.heap.size A (fs xs)) (hn : xs.length = n) (hm : n ≤ 1048580) (hl : ∀ f ∈ xs, f < 4294967296) :
    Calls Tryd.prog 82 #[.slice A n c] w fun e w' => e = .returned (.int .i64 (exE xs)) ∧ w = w' := by
  have Hr := Lib.hid hr
  have Hn := Lib.hid hn
  have Hl := Lib.hid hl
  rcases exE_cases xs with ⟨h1, h2, h3, h4⟩ | ⟨h1, h2⟩ | ⟨h1, h2, h3, h4⟩
  · have Hres := Lib.hid h1
    have Hall := Lib.hid h4
    rw [hn] at h2 h3
    have k1 : ((n : Int) == 0) = false := beq_false_of_ne (by omega)
    have k2 : decide ((8 : Int) < n) = false := decide_eq_false (by omega)
    have H3 := Lib.hid h3
    clear hr hn hl h1 h2 h3 h4
    go_enter Tryd.func82, Tryd.ntmps82
    go_wp2_with fail
    refine (implAllFin_any xs A n c _ w Hr.out Hn.out (by have := H3.out; omega) Hl.out).mono ?_
    rintro e w9 ⟨rfl, rfl⟩
    rw [Hall.out]
    go_wp2_with fail
    go_ret
    exact ⟨ret_int Hres.out.symm, rfl⟩
  · have Hres := Lib.hid h1
    rw [hn] at h2
    clear hr hn hl h1
    rcases h2 with h2 | h2
    · subst h2
      go_enter Tryd.func82, Tryd.ntmps82
      go_wp2_with fail
      go_ret
      exact ⟨ret_int Hres.out.symm, rfl⟩
    · have k1 : ((n : Int) == 0) = false := beq_false_of_ne (by omega)
      have k2 : decide ((8 : Int) < n) = true := decide_eq_true (by omega)
      clear h2
      go_enter Tryd.func82, Tryd.ntmps82
      go_wp2_with fail
      go_ret
      exact ⟨ret_int Hres.out.symm, rfl⟩
  · have Hres := Lib.hid h1
    have Hall := Lib.hid h4
    rw [hn] at h2 h3
    have k1 : ((n : Int) == 0) = false := beq_false_of_ne (by omega)
    have k2 : decide ((8 : Int) < n) = false := decide_eq_false (by omega)
    have H3 := Lib.hid h3
    clear hr hn hl h1 h2 h3 h4
    go_enter Tryd.func82, Tryd.ntmps82
    go_wp2_with fail
    refine (implAllFin_any xs A n c _ w Hr.out Hn.out (by have := H3.out; omega) Hl.out).mono ?_
    rintro e w9 ⟨rfl, rfl⟩
    rw [Hall.out]
    go_wp2_with fail
    go_ret
    exact ⟨ret_int Hres.out.symm, rfl⟩

set_option maxHeartbeats 1000000 in
theorem specListX_any (xs : List Nat) (A : Option Addr) (n c : Nat) (w : World) (hr : Rd w w.heap.size A (fs xs)) (hn : xs.length = n) (hm : n ≤ 1048580) (hl : ∀ f ∈ xs, f < 4294967296) :
    Calls Tryd.prog 80 #[.slice A n c] w fun e w' => e = .returned (.int .i64 (exE xs)) ∧ Below w.heap.size w w' := by
  have Hr := Lib.hid hr
  have Hn := Lib.hid hn
  have Hl := Lib.hid hl
  by_cases hc : xs.length = 0 ∨ 8 < xs.length
  · have Hres : Hid (exE xs = 2) := Lib.hid (by unfold exE; rw [if_pos hc])
    rw [hn] at hc
    clear hr hn hl
    rcases hc with h2 | h2
    · subst h2
      go_enter Tryd.func80, Tryd.ntmps80
      go_wp2_with fail
      go_ret
      exact ⟨ret_int Hres.out.symm, Below.refl _ _⟩
    · have k1 : decide ((n : Int) < 1) = false := decide_eq_false (by omega)
      have k2 : decide ((8 : Int) < n) = true := decide_eq_true (by omega)
      clear h2
      go_enter Tryd.func80, Tryd.ntmps80
      go_wp2_with fail
      go_ret
      exact ⟨ret_int Hres.out.symm, Below.refl _ _⟩
  · have Hx : Hid (exE xs = if xs.all fin32 = true then 0 else 1) := Lib.hid (by unfold exE; rw [if_neg hc])
    rw [hn] at hc
    have k1 : decide ((n : Int) < 1) = false := decide_eq_false (by omega)
    have k2 : decide ((8 : Int) < n) = false := decide_eq_false (by omega)
    have hm8 : (n : Int) ≤ 8 := by omega
    clear hr hn hl hc
    go_enter Tryd.func80, Tryd.ntmps80
    go_wp2_with fail
    go_loopw [3] (fun i wr => ∃ k : Nat, k ≤ n ∧ i = .int .i64 k ∧ (xs.take k).all fin32 = true ∧ Below w.heap.size w wr) (fun i _ => n - (intOf i).toNat)
    case atStart => exact ⟨0, Nat.zero_le _, rfl, rfl, Below.refl _ _⟩
    case round =>
      obtain ⟨k, hk, rfl, hall, hbel⟩ := hrel
      have Hall := Lib.hid hall
      have Bel := Lib.hid hbel
      clear hall hbel
      by_cases hlt : k < n
      · have hkx : k < xs.length := by rw [Hn.out]; exact hlt
        have hrd := Hr.out.below Bel.out
        obtain ⟨q, hq, _⟩ := hrd.some_ (by rw [fs_len]; omega)
        subst hq
        have hcx := hrd.cell (k := k) (by rw [fs_len]; exact hkx)
        rw [fs_get hkx] at hcx
        have Hfb := Lib.hid (Hl.out _ (List.getElem_mem hkx))
        clear hrd
        by_cases hf : fin32 xs[k] = true
        · have Hnx := Lib.hid (all_take hkx Hall.out hf)
          generalize xs[k] = x at *
          have Hf := Lib.hid hf
          clear hf hkx
          go_wp2_with fail
          refine (finB_any x _ Hfb.out).mono ?_
          rintro e w9 ⟨rfl, hb⟩
          have Bel9 := Lib.hid (belNext Bel.out hb)
          rw [Hf.out]
          clear hb hcx
          go_wp2_with fail
          go_round
          case rel => exact ⟨k + 1, by omega, by go_num, Hnx.out, Bel9.out⟩
          case measure => simp [intOf]; omega
        · have hf2 : fin32 xs[k] = false := by simpa using hf
          have Hnx := Lib.hid (not_all hkx hf2)
          generalize xs[k] = x at *
          have Hf := Lib.hid hf2
          clear hf hf2 hkx
          go_wp2_with fail
          refine (finB_any x _ Hfb.out).mono ?_
          rintro e w9 ⟨rfl, hb⟩
          have Bel9 := Lib.hid (belNext Bel.out hb)
          rw [Hf.out]
          clear hb hcx
          go_wp2_with fail
          go_ret
          exact ⟨ret_int (by rw [Hx.out, if_neg (by rw [Hnx.out]; simp)]), Bel9.out⟩
      · have hin : k = n := by omega
        have Hal : Hid (xs.all fin32 = true) := Lib.hid (by have h := Hall.out; rwa [List.take_of_length_le (by rw [Hn.out]; omega)] at h)
        subst hin
        go_wp2_with fail
        go_ret
        exact ⟨ret_int (by rw [Hx.out, if_pos Hal.out]), Bel.out⟩

set_option maxHeartbeats 2000000 in
theorem implVeW_any (xs : List Nat) (A : Option Addr) (n c : Nat) (w : World) (hr : Rd w w.heap.size A (fs xs)) (hn : xs.length = n) (hm : n ≤ 1048580) (hl : ∀ f ∈ xs, f < 4294967296) (hT : TabZ w) :
    Calls Tryd.prog 31 #[.slice A n c] w fun e w' => ∃ Sr Ar nr cr, e = .returned (.tuple #[.agg #[.int .i64 Sr, .slice Ar nr cr, .int .i64 (veX xs)], .int .i64 (exE xs)]) ∧ ZO w' w.heap.size w'.heap.size (veZ xs) Sr Ar nr cr ∧ Below w.heap.size w w' := by
  have hst := store_int Tryd.prog
  have hst2 := store_slice Tryd.prog
  have Hr := Lib.hid hr
  have Hn := Lib.hid hn
  have Hm := Lib.hid hm
  have Hl := Lib.hid hl
  obtain ⟨w1, hw1⟩ : ∃ w1, w1 = w.alloc (.cells #[.int .i64 0, .slice none 0 0, .int .i64 0] 30) := ⟨_, rfl⟩
  have RsD1 : Hid (DRes w1 w.heap.size) := Lib.hid (by rw [hw1]; exact DRes.new _ _)
  have Bel1 : Hid (Below w.heap.size w w1) := Lib.hid (by rw [hw1]; exact belAlloc1 _ _)
  have Hlt : Hid (w.heap.size < w1.heap.size) := Lib.hid RsD1.out.2
  have Hw := Lib.hid hw1
  clear hr hn hm hl hw1
  have HT := Lib.hid hT
  clear hT
  go_enter Tryd.func31, Tryd.ntmps31
  go_wp2_with fail
  rw [← Hw.out]
  obtain ⟨⟨hRsD0, hRsD1, hRsD2, hRsD3, hRsD4, hRsD5⟩, hRsD6⟩ := RsD1.out
  refine (implCheckX_any xs A n c _ ((Hr.out.below Bel1.out).up Bel1.out.size) Hn.out Hm.out Hl.out).mono ?_
  rintro e w9 ⟨rfl, rfl⟩
  by_cases hE : exE xs = 0
  · have Hres := Lib.hid (And.intro (ve_yes hE) hE)
    have Hs := Lib.hid (ve_small hE)
    have Hall := Lib.hid (ex_all hE)
    have H8 : Hid ((n : Int) ≤ 8) := Lib.hid (by have h := (ex_all hE).1; rw [Hn.out] at h; omega)
    rw [hE]
    clear hE
    go_wp2_with fail
    refine (implSumOf_any xs A n c _ ((Hr.out.below Bel1.out).up Bel1.out.size) Hn.out H8.out Hl.out Hall.out.2 (HT.out.next Bel1.out)).mono ?_
    rintro e w2 ⟨Z, E, S4, A4, n4, c4, rfl, hzo, hu, hE1, hE2, hb⟩
    have hnm := z_norm hu hE1
    have hfd := fd_same hnm.1 hnm.2
    have hfy := fd_yes (u_ok Hs.out)
    have Hfd := Lib.hid (And.intro (hfd.1.trans hfy.1) (And.intro (hfd.2.1.trans hfy.2.1) (hfd.2.2.trans hfy.2.2)))
    have Zo2 := Lib.hid hzo
    have Hn4 : Hid ((n4 : Int) ≤ 12) := Lib.hid (by have h1 := z_len hu Hs.out; have e := hzo.2.1; omega)
    clear hzo hu hnm hfd hfy
    have Sz2 := Lib.hid (Below.size hb)
    have Bel2 := Lib.hid (belNext Bel1.out hb)
    have RsD2 := Lib.hid (RsD1.out.next hb)
    clear hb Bel1 RsD1 hRsD0 hRsD1 hRsD2 hRsD3 hRsD4 hRsD5 hRsD6
    obtain ⟨⟨hRsD0, hRsD1, hRsD2, hRsD3, hRsD4, hRsD5⟩, hRsD6⟩ := RsD2.out
    go_wp2_with fail
    refine (implLimD_any Z S4 E A4 n4 c4 _ Zo2.out.zv (by have := Hn4.out; omega) (by omega) (by omega) (HT.out.next Bel2.out)).mono ?_
    rintro e w3 ⟨S9, A9, n9, c9, rfl, hzo, hb⟩
    rw [Hfd.out.1] at hzo
    rw [Hfd.out.2.1, Hfd.out.2.2]
    have Zp3 := Lib.hid hzo
    clear hzo
    have Sz3 := Lib.hid (Below.size hb)
    have Bel3 := Lib.hid (belNext Bel2.out hb)
    have RsD3 := Lib.hid (RsD2.out.next hb)
    clear hb Bel2 RsD2 hRsD0 hRsD1 hRsD2 hRsD3 hRsD4 hRsD5 hRsD6
    obtain ⟨⟨hRsD0, hRsD1, hRsD2, hRsD3, hRsD4, hRsD5⟩, hRsD6⟩ := RsD3.out
    go_wp2_with fail
    refine bodyPost_ret (v := .tuple #[.agg #[.int .i64 S9, .slice A9 n9 c9, .int .i64 (nx (uS xs) (-149))], .int .i64 0]) (by simp [results, Tryd.results31, go_sem, hRsD0, hRsD1, hRsD2]) rfl ⟨S9, A9, n9, c9, by rw [Hres.out.1.2, Hres.out.2], ?_, ?_⟩
    · rw [Hres.out.1.1]; exact (((Zp3.out.setCell (.inl (by have zz0 := Hlt.out; have zz1 := Sz2.out; have zz2 := Sz3.out; first | omega | (simp; done) | (simp; omega))) _).setCell (.inl (by have zz0 := Hlt.out; have zz1 := Sz2.out; have zz2 := Sz3.out; first | omega | (simp; done) | (simp; omega))) _).setCell (.inl (by have zz0 := Hlt.out; have zz1 := Sz2.out; have zz2 := Sz3.out; first | omega | (simp; done) | (simp; omega))) _).wide (by have zz0 := Hlt.out; have zz1 := Sz2.out; have zz2 := Sz3.out; first | omega | (simp; done) | (simp; omega)) (by have zz0 := Hlt.out; have zz1 := Sz2.out; have zz2 := Sz3.out; first | omega | (simp; done) | (simp; omega)) (by have zz0 := Hlt.out; have zz1 := Sz2.out; have zz2 := Sz3.out; first | omega | (simp; done) | (simp; omega))
    · exact ((Bel3.out.setCell (by have zz0 := Hlt.out; have zz1 := Sz2.out; have zz2 := Sz3.out; first | omega | (simp; done) | (simp; omega)) _).setCell (by have zz0 := Hlt.out; have zz1 := Sz2.out; have zz2 := Sz3.out; first | omega | (simp; done) | (simp; omega)) _).setCell (by have zz0 := Hlt.out; have zz1 := Sz2.out; have zz2 := Sz3.out; first | omega | (simp; done) | (simp; omega)) _
  · have Hres := Lib.hid (ve_no hE)
    have k1 : (exE xs != 0) = true := by simp [hE]
    obtain ⟨ce, hce⟩ : ∃ ce, ce = exE xs := ⟨_, rfl⟩
    rw [← hce] at k1 ⊢
    have Hce := Lib.hid hce
    clear hE hce
    go_wp2_with fail
    refine bodyPost_ret (v := .tuple #[.agg #[.int .i64 0, .slice none 0 0, .int .i64 0], .int .i64 ce]) (by simp [results, Tryd.results31, go_sem, hRsD0, hRsD1, hRsD2]) rfl ⟨0, none, 0, 0, by rw [Hres.out.2, Hce.out], ?_, ?_⟩
    · rw [Hres.out.1]; exact ZO.zero (Nat.le_refl _)
    · exact ((Bel1.out.setCell (by have zz0 := Hlt.out; first | omega | (simp; done) | (simp; omega)) _).setCell (by have zz0 := Hlt.out; first | omega | (simp; done) | (simp; omega)) _).setCell (by have zz0 := Hlt.out; first | omega | (simp; done) | (simp; omega)) _

def sgE (xs : List Nat) : Int := if exE xs = 0 then (uS xs).sign else 0
end Go.Proofs.YtnecnbonnidijaaDoor
