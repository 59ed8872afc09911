/- Sums and differences of limbs, of the model. -/
import Derived.Test.YtnnoobdcdfcdaaaWp
import Derived.Test.YtnnoobdcdfcdaaaMi
namespace Go.Proofs.Ytnnoobdcdfcdaaa
set_option maxRecDepth 100000
open Go.RowKit
set_option linter.unusedSimpArgs false
set_option linter.unusedVariables false

theorem OwnL.snoc {w : World} {B : Nat} {v : Value} {ys : List Nat} {d : Nat} (h : w.ownsRow B 2 1 v (ys.length + 1) (vs ys ++ vs [d])) : OwnL w B v (ys ++ [d]) := by
  unfold OwnL
  rw [List.length_append, vs_append]
  exact h

set_option maxHeartbeats 4000000 in
theorem specPlusL_any (a b : Nat) (A A' : Option Addr) (n n' c c' B B' : Nat) (w : World) (hr : Rd w B A (vs (limbs a))) (hr' : Rd w B' A' (vs (limbs b))) (hB : B ≤ w.heap.size) (hB' : B' ≤ w.heap.size) (hn : (limbs a).length = n) (hn' : (limbs b).length = n') (hm : (n : Int) ≤ 100000) (hm' : (n' : Int) ≤ 100000) :
    Calls Try.prog 89 #[.slice A n c, .slice A' n' c'] w fun e w' => ∃ v ys, e = .returned v ∧ OwnL w' w.heap.size v ys ∧ Lim ys ∧ V ys = a + b ∧ ys.length ≤ n + n' + 1 ∧ Below w.heap.size w w' := by
  obtain ⟨i0, hi0, hz0, hz1, hz2⟩ := info_parts infoI
  have Hr := Lib.hid (hr.up hB)
  have Hr' := Lib.hid (hr'.up hB')
  have Hn := Lib.hid hn
  have Hn' := Lib.hid hn'
  have Hown0 : Hid (OwnL (w.alloc (.cells #[] 2)) w.heap.size (.slice (some ⟨w.heap.size, 0, none⟩) 0 0) []) := Lib.hid (own_empty w _)
  clear hr hr' hn hn' hB hB'
  go_enter Try.func89, Try.ntmps89
  go_wp2_with fail
  go_loopw [5, 6, 7] (fun l cv i wr => ∃ (k cc : Nat) (ys : List Nat), k ≤ n + n' + 1 ∧ i = .int .i64 k ∧ cv = .int .i64 cc ∧ cc ≤ 1 ∧ ((k ≤ n ∨ k ≤ n') ∨ cc = 0) ∧ ys.length = k ∧ Lim ys ∧ V ys + Bs ^ k * cc = V ((limbs a).take k) + V ((limbs b).take k) ∧ OwnL wr w.heap.size l ys ∧ Below w.heap.size w wr) (fun _ _ i _ => n + n' + 2 - (intOf i).toNat)
  case atStart => exact ⟨0, 0, [], by omega, rfl, rfl, by omega, .inr rfl, rfl, Lim_nil, by simp [V], Hown0.out, belAlloc1 _ _⟩
  case round =>
    obtain ⟨k, cc, ys, hk, rfl, rfl, hcc, hor, hyl, hl, hv, hown, hb⟩ := hrel
    have Hyl := Lib.hid hyl
    have Hl := Lib.hid hl
    have Hv := Lib.hid hv
    have Hcc := Lib.hid hcc
    have hcc0 : (0 : Int) ≤ cc := by omega
    have hcc1 : (cc : Int) ≤ 1 := by omega
    have Hb := Lib.hid hb
    have Hown := Lib.hid hown
    obtain ⟨Ao, co, hA, hyc⟩ := hown.form
    subst hA
    have hyl2 : (ys.length : Int) ≤ 200001 := by omega
    have Hor := Lib.hid hor
    clear hyl hl hv hcc hb hown hyc hor
    by_cases hlx : k < n
    · have hlx2 : (k : Int) < n := by omega
      have hkx : k < (limbs a).length := by rw [Hn.out]; exact hlx
      have hrx := Hr.out.below Hb.out
      obtain ⟨px, hpx, _⟩ := hrx.some_ (by rw [vs_len]; omega)
      subst hpx
      have hcx := hrx.cell (k := k) (by rw [vs_len]; exact hkx)
      rw [vs_get hkx] at hcx
      have Hvx := Lib.hid (V_take_succ hkx)
      have Hbx := Lib.hid ((Lim_limbs a).getElem hkx)
      have h0x : (0 : Int) ≤ ((limbs a)[k] : Nat) := by omega
      have h1x : (((limbs a)[k] : Nat) : Int) ≤ 16777215 := by have := Hbx.out; rw [Bs_eq] at this; omega
      clear hrx
      generalize (limbs a)[k] = x at *
      by_cases hly : k < n'
      · have hly2 : (k : Int) < n' := by omega
        have hky : k < (limbs b).length := by rw [Hn'.out]; exact hly
        have hry := Hr'.out.below Hb.out
        obtain ⟨py, hpy, _⟩ := hry.some_ (by rw [vs_len]; omega)
        subst hpy
        have hcy := hry.cell (k := k) (by rw [vs_len]; exact hky)
        rw [vs_get hky] at hcy
        have Hvy := Lib.hid (V_take_succ hky)
        have Hby := Lib.hid ((Lim_limbs b).getElem hky)
        have h0y : (0 : Int) ≤ ((limbs b)[k] : Nat) := by omega
        have h1y : (((limbs b)[k] : Nat) : Int) ≤ 16777215 := by have := Hby.out; rw [Bs_eq] at this; omega
        clear hry
        generalize (limbs b)[k] = y at *
        have Hs := Lib.hid (plus_step (t := x + y) Hyl.out Hl.out Hv.out)
        have hrem : ((cc : Int) + x + y) % 16777216 = (((cc + (x + y)) % Bs : Nat) : Int) := by rw [Bs_eq]; omega
        have hquo : ((cc : Int) + x + y) / 16777216 = (((cc + (x + y)) / Bs : Nat) : Int) := by rw [Bs_eq]; omega
        have He : Hid ((cc + (x + y)) / Bs ≤ 1) := Lib.hid (by rw [Bs_eq]; omega)
        obtain ⟨d, hd⟩ : ∃ d, d = (cc + (x + y)) % Bs := ⟨_, rfl⟩
        obtain ⟨e, he⟩ : ∃ e, e = (cc + (x + y)) / Bs := ⟨_, rfl⟩
        rw [← hd] at hrem Hs
        rw [← he] at hquo He Hs
        have hs1 : (0 : Int) ≤ (cc : Int) + x + y := by omega
        have hs2 : (cc : Int) + x + y ≤ 33554431 := by omega
        clear hd he
        go_wp2_with (at_builtin; refine wpList_append_own _ rfl (.tmp 45) (.tmp 48) _ rfl w.heap.size 2 i0 _ 1 8 Try.underlying22 hi0 hz0 hz1 hz2 rfl (by omega) (.slice Ao ys.length co) ys.length (vs ys) rfl (World.ownsRow.alloc Hown.out _) ⟨wr.heap.size, 0, none⟩ 1 1 (vs [d]) rfl (by rw [vs_len]; rfl) (new_cells wr d _) (vs_one · [d]) (by unfold maxLen; omega) (by omega) (by have := Hb.out.size; simp; omega) ?_; intro v2 w2 hown2 hg2 _)
        have Hown2 := Lib.hid (OwnL.snoc hown2)
        have Hb2 : Hid (Below w.heap.size w w2) := Lib.hid ((Hb.out.alloc Hb.out.size _).grown hg2 (by have := Hb.out.size; simp; omega) (fun k hk => (Hown.out.lt k hk).1))
        clear hown2 hg2
        go_roundw
        case rel => exact ⟨k + 1, e, ys ++ [d], by omega, by go_num, by first | rfl | rw [hquo], He.out, by left; omega, by rw [List.length_append, Hyl.out]; rfl, Hs.out.1, by rw [Hs.out.2, Hvx.out, Hvy.out, Nat.mul_add]; omega, Hown2.out, Hb2.out⟩
        case measure => simp [intOf]; omega
      · skip
        have hly' : ¬ (k : Int) < n' := by omega
        have Hvy : Hid (V ((limbs b).take (k + 1)) = V ((limbs b).take k)) := Lib.hid (by rw [take_all (by have := Hn'.out; omega), take_all (by have := Hn'.out; omega)])
        have Hs := Lib.hid (plus_step (t := x) Hyl.out Hl.out Hv.out)
        have hrem : ((cc : Int) + x) % 16777216 = (((cc + (x)) % Bs : Nat) : Int) := by rw [Bs_eq]; omega
        have hquo : ((cc : Int) + x) / 16777216 = (((cc + (x)) / Bs : Nat) : Int) := by rw [Bs_eq]; omega
        have He : Hid ((cc + (x)) / Bs ≤ 1) := Lib.hid (by rw [Bs_eq]; omega)
        obtain ⟨d, hd⟩ : ∃ d, d = (cc + (x)) % Bs := ⟨_, rfl⟩
        obtain ⟨e, he⟩ : ∃ e, e = (cc + (x)) / Bs := ⟨_, rfl⟩
        rw [← hd] at hrem Hs
        rw [← he] at hquo He Hs
        have hs1 : (0 : Int) ≤ (cc : Int) + x := by omega
        have hs2 : (cc : Int) + x ≤ 33554431 := by omega
        clear hd he
        go_wp2_with (at_builtin; refine wpList_append_own _ rfl (.tmp 45) (.tmp 48) _ rfl w.heap.size 2 i0 _ 1 8 Try.underlying22 hi0 hz0 hz1 hz2 rfl (by omega) (.slice Ao ys.length co) ys.length (vs ys) rfl (World.ownsRow.alloc Hown.out _) ⟨wr.heap.size, 0, none⟩ 1 1 (vs [d]) rfl (by rw [vs_len]; rfl) (new_cells wr d _) (vs_one · [d]) (by unfold maxLen; omega) (by omega) (by have := Hb.out.size; simp; omega) ?_; intro v2 w2 hown2 hg2 _)
        have Hown2 := Lib.hid (OwnL.snoc hown2)
        have Hb2 : Hid (Below w.heap.size w w2) := Lib.hid ((Hb.out.alloc Hb.out.size _).grown hg2 (by have := Hb.out.size; simp; omega) (fun k hk => (Hown.out.lt k hk).1))
        clear hown2 hg2
        go_roundw
        case rel => exact ⟨k + 1, e, ys ++ [d], by omega, by go_num, by first | rfl | rw [hquo], He.out, by left; omega, by rw [List.length_append, Hyl.out]; rfl, Hs.out.1, by rw [Hs.out.2, Hvx.out, Hvy.out]; omega, Hown2.out, Hb2.out⟩
        case measure => simp [intOf]; omega
    · skip
      have hlx' : ¬ (k : Int) < n := by omega
      have Hvx : Hid (V ((limbs a).take (k + 1)) = V ((limbs a).take k)) := Lib.hid (by rw [take_all (by have := Hn.out; omega), take_all (by have := Hn.out; omega)])
      by_cases hly : k < n'
      · have hly2 : (k : Int) < n' := by omega
        have hky : k < (limbs b).length := by rw [Hn'.out]; exact hly
        have hry := Hr'.out.below Hb.out
        obtain ⟨py, hpy, _⟩ := hry.some_ (by rw [vs_len]; omega)
        subst hpy
        have hcy := hry.cell (k := k) (by rw [vs_len]; exact hky)
        rw [vs_get hky] at hcy
        have Hvy := Lib.hid (V_take_succ hky)
        have Hby := Lib.hid ((Lim_limbs b).getElem hky)
        have h0y : (0 : Int) ≤ ((limbs b)[k] : Nat) := by omega
        have h1y : (((limbs b)[k] : Nat) : Int) ≤ 16777215 := by have := Hby.out; rw [Bs_eq] at this; omega
        clear hry
        generalize (limbs b)[k] = y at *
        have Hs := Lib.hid (plus_step (t := y) Hyl.out Hl.out Hv.out)
        have hrem : ((cc : Int) + y) % 16777216 = (((cc + (y)) % Bs : Nat) : Int) := by rw [Bs_eq]; omega
        have hquo : ((cc : Int) + y) / 16777216 = (((cc + (y)) / Bs : Nat) : Int) := by rw [Bs_eq]; omega
        have He : Hid ((cc + (y)) / Bs ≤ 1) := Lib.hid (by rw [Bs_eq]; omega)
        obtain ⟨d, hd⟩ : ∃ d, d = (cc + (y)) % Bs := ⟨_, rfl⟩
        obtain ⟨e, he⟩ : ∃ e, e = (cc + (y)) / Bs := ⟨_, rfl⟩
        rw [← hd] at hrem Hs
        rw [← he] at hquo He Hs
        have hs1 : (0 : Int) ≤ (cc : Int) + y := by omega
        have hs2 : (cc : Int) + y ≤ 33554431 := by omega
        clear hd he
        go_wp2_with (at_builtin; refine wpList_append_own _ rfl (.tmp 45) (.tmp 48) _ rfl w.heap.size 2 i0 _ 1 8 Try.underlying22 hi0 hz0 hz1 hz2 rfl (by omega) (.slice Ao ys.length co) ys.length (vs ys) rfl (World.ownsRow.alloc Hown.out _) ⟨wr.heap.size, 0, none⟩ 1 1 (vs [d]) rfl (by rw [vs_len]; rfl) (new_cells wr d _) (vs_one · [d]) (by unfold maxLen; omega) (by omega) (by have := Hb.out.size; simp; omega) ?_; intro v2 w2 hown2 hg2 _)
        have Hown2 := Lib.hid (OwnL.snoc hown2)
        have Hb2 : Hid (Below w.heap.size w w2) := Lib.hid ((Hb.out.alloc Hb.out.size _).grown hg2 (by have := Hb.out.size; simp; omega) (fun k hk => (Hown.out.lt k hk).1))
        clear hown2 hg2
        go_roundw
        case rel => exact ⟨k + 1, e, ys ++ [d], by omega, by go_num, by first | rfl | rw [hquo], He.out, by left; omega, by rw [List.length_append, Hyl.out]; rfl, Hs.out.1, by rw [Hs.out.2, Hvx.out, Hvy.out]; omega, Hown2.out, Hb2.out⟩
        case measure => simp [intOf]; omega
      · skip
        have hly' : ¬ (k : Int) < n' := by omega
        have Hvy : Hid (V ((limbs b).take (k + 1)) = V ((limbs b).take k)) := Lib.hid (by rw [take_all (by have := Hn'.out; omega), take_all (by have := Hn'.out; omega)])
        by_cases h0 : cc = 0
        · have Hfin : Hid (V ys = a + b ∧ ys.length ≤ n + n' + 1) := Lib.hid (by
            have h := Hv.out
            rw [h0, take_all (by have := Hn.out; omega), take_all (by have := Hn'.out; omega), V_limbs, V_limbs] at h
            exact ⟨by simpa using h, by rw [Hyl.out]; exact hk⟩)
          subst h0
          go_wp2_with fail
          go_ret
          exact ⟨.slice Ao ys.length co, rfl, ys, Hown.out, Hl.out, Hfin.out.1, Hfin.out.2, Hb.out⟩
        · have hc1 : (0 : Int) < cc := by omega
          have Hk2 : Hid (k ≤ n ∨ k ≤ n') := Lib.hid (Hor.out.resolve_right h0)
          have hk2 : k + 1 ≤ n + n' + 1 := by have := Hk2.out; omega
          have Hs := Lib.hid (plus_step (t := 0) Hyl.out Hl.out Hv.out)
          have hrem : ((cc : Int)) % 16777216 = (((cc + (0)) % Bs : Nat) : Int) := by rw [Bs_eq]; omega
          have hquo : ((cc : Int)) / 16777216 = (((cc + (0)) / Bs : Nat) : Int) := by rw [Bs_eq]; omega
          have He : Hid ((cc + (0)) / Bs ≤ 1 ∧ (cc + (0)) / Bs = 0) := Lib.hid (by rw [Bs_eq]; omega)
          obtain ⟨d, hd⟩ : ∃ d, d = (cc + (0)) % Bs := ⟨_, rfl⟩
          obtain ⟨e, he⟩ : ∃ e, e = (cc + (0)) / Bs := ⟨_, rfl⟩
          rw [← hd] at hrem Hs
          rw [← he] at hquo He Hs
          have hs1 : (0 : Int) ≤ (cc : Int) := by omega
          have hs2 : (cc : Int) ≤ 33554431 := by omega
          clear hd he
          go_wp2_with (at_builtin; refine wpList_append_own _ rfl (.tmp 45) (.tmp 48) _ rfl w.heap.size 2 i0 _ 1 8 Try.underlying22 hi0 hz0 hz1 hz2 rfl (by omega) (.slice Ao ys.length co) ys.length (vs ys) rfl (World.ownsRow.alloc Hown.out _) ⟨wr.heap.size, 0, none⟩ 1 1 (vs [d]) rfl (by rw [vs_len]; rfl) (new_cells wr d _) (vs_one · [d]) (by unfold maxLen; omega) (by omega) (by have := Hb.out.size; simp; omega) ?_; intro v2 w2 hown2 hg2 _)
          have Hown2 := Lib.hid (OwnL.snoc hown2)
          have Hb2 : Hid (Below w.heap.size w w2) := Lib.hid ((Hb.out.alloc Hb.out.size _).grown hg2 (by have := Hb.out.size; simp; omega) (fun k hk => (Hown.out.lt k hk).1))
          clear hown2 hg2
          go_roundw
          case rel => exact ⟨k + 1, e, ys ++ [d], by omega, by go_num, by first | rfl | rw [hquo], He.out.1, by right; exact He.out.2, by rw [List.length_append, Hyl.out]; rfl, Hs.out.1, by rw [Hs.out.2, Hvx.out, Hvy.out]; omega, Hown2.out, Hb2.out⟩
          case measure => simp [intOf]; omega

set_option maxHeartbeats 4000000 in
theorem specMinusL_any (a b : Nat) (A A' : Option Addr) (n n' c c' B B' : Nat) (w : World) (hr : Rd w B A (vs (limbs a))) (hr' : Rd w B' A' (vs (limbs b))) (hB : B ≤ w.heap.size) (hB' : B' ≤ w.heap.size) (hn : (limbs a).length = n) (hn' : (limbs b).length = n') (hm : (n : Int) ≤ 100000) (hm' : (n' : Int) ≤ 100000) (hab : b ≤ a) :
    Calls Try.prog 91 #[.slice A n c, .slice A' n' c'] w fun e w' => ∃ v ys, e = .returned v ∧ OwnL w' w.heap.size v ys ∧ Lim ys ∧ V ys = a - b ∧ ys.length = n ∧ Below w.heap.size w w' := by
  obtain ⟨i0, hi0, hz0, hz1, hz2⟩ := info_parts infoI
  have Hr := Lib.hid (hr.up hB)
  have Hr' := Lib.hid (hr'.up hB')
  have Hn := Lib.hid hn
  have Hn' := Lib.hid hn'
  have Hab := Lib.hid hab
  have Hle : Hid (n' ≤ n) := Lib.hid (by
    rcases Nat.lt_or_ge n n' with h | h
    · have := lt_of_len (a := a) (b := b) (by omega); omega
    · exact h)
  have Hown0 : Hid (OwnL (w.alloc (.cells #[] 2)) w.heap.size (.slice (some ⟨w.heap.size, 0, none⟩) 0 0) []) := Lib.hid (own_empty w _)
  clear hr hr' hn hn' hB hB' hab
  go_enter Try.func91, Try.ntmps91
  go_wp2_with fail
  go_loopw [5, 6, 7, 8] (fun l cv i _ wr => ∃ (k bb : Nat) (ys : List Nat), k ≤ n ∧ i = .int .i64 k ∧ cv = .int .i64 bb ∧ bb ≤ 1 ∧ ys.length = k ∧ Lim ys ∧ (V ys : Int) + (Bs : Int) ^ k * (-(bb : Int)) = V ((limbs a).take k) - V ((limbs b).take k) ∧ OwnL wr w.heap.size l ys ∧ Below w.heap.size w wr) (fun _ _ i _ _ => n - (intOf i).toNat)
  case atStart => exact ⟨0, 0, [], by omega, rfl, rfl, by omega, rfl, Lim_nil, by simp [V], Hown0.out, belAlloc1 _ _⟩
  case round =>
    obtain ⟨k, bb, ys, hk, rfl, rfl, hbb, hyl, hl, hv, hown, hb⟩ := hrel
    have Hyl := Lib.hid hyl
    have Hl := Lib.hid hl
    have Hv := Lib.hid hv
    have hb0 : (0 : Int) ≤ bb := by omega
    have hb1 : (bb : Int) ≤ 1 := by omega
    have Hb := Lib.hid hb
    have Hown := Lib.hid hown
    obtain ⟨Ao, co, hA, hyc⟩ := hown.form
    subst hA
    have hyl2 : (ys.length : Int) ≤ 200001 := by omega
    have Hbb := Lib.hid hbb
    clear hyl hl hv hb hown hyc hbb
    by_cases hlx : k < n
    · have hlx2 : (k : Int) < n := by omega
      have hkx : k < (limbs a).length := by rw [Hn.out]; exact hlx
      have hrx := Hr.out.below Hb.out
      obtain ⟨px, hpx, _⟩ := hrx.some_ (by rw [vs_len]; omega)
      subst hpx
      have hcx := hrx.cell (k := k) (by rw [vs_len]; exact hkx)
      rw [vs_get hkx] at hcx
      have Hvx := Lib.hid (V_take_succ hkx)
      have Hbx := Lib.hid ((Lim_limbs a).getElem hkx)
      have h0x : (0 : Int) ≤ ((limbs a)[k] : Nat) := by omega
      have h1x : (((limbs a)[k] : Nat) : Int) ≤ 16777215 := by have := Hbx.out; rw [Bs_eq] at this; omega
      clear hrx
      generalize (limbs a)[k] = x at *
      by_cases hly : k < n'
      · have hly2 : (k : Int) < n' := by omega
        have hky : k < (limbs b).length := by rw [Hn'.out]; exact hly
        have hry := Hr'.out.below Hb.out
        obtain ⟨py, hpy, _⟩ := hry.some_ (by rw [vs_len]; omega)
        subst hpy
        have hcy := hry.cell (k := k) (by rw [vs_len]; exact hky)
        rw [vs_get hky] at hcy
        have Hvy := Lib.hid (V_take_succ hky)
        have Hby := Lib.hid ((Lim_limbs b).getElem hky)
        have h0y : (0 : Int) ≤ ((limbs b)[k] : Nat) := by omega
        have h1y : (((limbs b)[k] : Nat) : Int) ≤ 16777215 := by have := Hby.out; rw [Bs_eq] at this; omega
        clear hry
        generalize (limbs b)[k] = y at *
        by_cases hneg : (x : Int) - bb - y < 0
        · skip
          have Hs := Lib.hid (minus_step (t := ((x : Int) - y)) Hyl.out Hl.out Hv.out)
          have hd1 : (x : Int) - bb - y + 16777216 = ((((-(bb : Int) + ((x : Int) - y)) % Bs).toNat : Nat) : Int) := by rw [Bs_eq]; omega
          have he1 : (-(bb : Int) + ((x : Int) - y)) / Bs = -((1 : Nat) : Int) := by rw [Bs_eq]; omega
          have hs1 : -16777216 ≤ (x : Int) - bb - y := by omega
          rw [he1] at Hs
          obtain ⟨d, hd⟩ : ∃ d, d = ((-(bb : Int) + ((x : Int) - y)) % Bs).toNat := ⟨_, rfl⟩
          rw [← hd] at hd1 Hs
          clear hd he1
          go_wp2_with (at_builtin; refine wpList_append_own _ rfl (.tmp 36) (.tmp 38) _ rfl w.heap.size 2 i0 _ 1 8 Try.underlying22 hi0 hz0 hz1 hz2 rfl (by omega) (.slice Ao ys.length co) ys.length (vs ys) rfl (World.ownsRow.alloc Hown.out _) ⟨wr.heap.size, 0, none⟩ 1 1 (vs [d]) rfl (by rw [vs_len]; rfl) (new_cells wr d _) (vs_one · [d]) (by unfold maxLen; omega) (by omega) (by have := Hb.out.size; simp; omega) ?_; intro v2 w2 hown2 hg2 _)
          have Hown2 := Lib.hid (OwnL.snoc hown2)
          have Hb2 : Hid (Below w.heap.size w w2) := Lib.hid ((Hb.out.alloc Hb.out.size _).grown hg2 (by have := Hb.out.size; simp; omega) (fun k hk => (Hown.out.lt k hk).1))
          clear hown2 hg2
          go_roundw
          case rel => exact ⟨k + 1, 1, ys ++ [d], by omega, by go_num, rfl, by omega, by rw [List.length_append, Hyl.out]; rfl, Hs.out.1, by rw [Hs.out.2, Hvx.out, Hvy.out]; rw [Int.mul_sub]; simp only [Int.natCast_add, Int.natCast_mul, Int.natCast_pow]; omega, Hown2.out, Hb2.out⟩
          case measure => simp [intOf]; omega
        · have hneg2 : 0 ≤ (x : Int) - bb - y := by omega
          clear hneg
          have Hs := Lib.hid (minus_step (t := ((x : Int) - y)) Hyl.out Hl.out Hv.out)
          have hd1 : (x : Int) - bb - y = ((((-(bb : Int) + ((x : Int) - y)) % Bs).toNat : Nat) : Int) := by rw [Bs_eq]; omega
          have he1 : (-(bb : Int) + ((x : Int) - y)) / Bs = -((0 : Nat) : Int) := by rw [Bs_eq]; omega
          have hs1 : (x : Int) - bb - y ≤ 16777215 := by omega
          rw [he1] at Hs
          obtain ⟨d, hd⟩ : ∃ d, d = ((-(bb : Int) + ((x : Int) - y)) % Bs).toNat := ⟨_, rfl⟩
          rw [← hd] at hd1 Hs
          have hd2 : ¬ (d : Int) < 0 := by omega
          clear hd he1
          go_wp2_with (at_builtin; refine wpList_append_own _ rfl (.tmp 36) (.tmp 38) _ rfl w.heap.size 2 i0 _ 1 8 Try.underlying22 hi0 hz0 hz1 hz2 rfl (by omega) (.slice Ao ys.length co) ys.length (vs ys) rfl (World.ownsRow.alloc Hown.out _) ⟨wr.heap.size, 0, none⟩ 1 1 (vs [d]) rfl (by rw [vs_len]; rfl) (new_cells wr d _) (vs_one · [d]) (by unfold maxLen; omega) (by omega) (by have := Hb.out.size; simp; omega) ?_; intro v2 w2 hown2 hg2 _)
          have Hown2 := Lib.hid (OwnL.snoc hown2)
          have Hb2 : Hid (Below w.heap.size w w2) := Lib.hid ((Hb.out.alloc Hb.out.size _).grown hg2 (by have := Hb.out.size; simp; omega) (fun k hk => (Hown.out.lt k hk).1))
          clear hown2 hg2
          go_roundw
          case rel => exact ⟨k + 1, 0, ys ++ [d], by omega, by go_num, rfl, by omega, by rw [List.length_append, Hyl.out]; rfl, Hs.out.1, by rw [Hs.out.2, Hvx.out, Hvy.out]; rw [Int.mul_sub]; simp only [Int.natCast_add, Int.natCast_mul, Int.natCast_pow]; omega, Hown2.out, Hb2.out⟩
          case measure => simp [intOf]; omega
      · skip
        have hly' : ¬ (k : Int) < n' := by omega
        have Hvy : Hid (V ((limbs b).take (k + 1)) = V ((limbs b).take k)) := Lib.hid (by rw [take_all (by have := Hn'.out; omega), take_all (by have := Hn'.out; omega)])
        by_cases hneg : (x : Int) - bb < 0
        · skip
          have Hs := Lib.hid (minus_step (t := (x : Int)) Hyl.out Hl.out Hv.out)
          have hd1 : (x : Int) - bb + 16777216 = ((((-(bb : Int) + (x : Int)) % Bs).toNat : Nat) : Int) := by rw [Bs_eq]; omega
          have he1 : (-(bb : Int) + (x : Int)) / Bs = -((1 : Nat) : Int) := by rw [Bs_eq]; omega
          have hs1 : -16777216 ≤ (x : Int) - bb := by omega
          rw [he1] at Hs
          obtain ⟨d, hd⟩ : ∃ d, d = ((-(bb : Int) + (x : Int)) % Bs).toNat := ⟨_, rfl⟩
          rw [← hd] at hd1 Hs
          clear hd he1
          go_wp2_with (at_builtin; refine wpList_append_own _ rfl (.tmp 36) (.tmp 38) _ rfl w.heap.size 2 i0 _ 1 8 Try.underlying22 hi0 hz0 hz1 hz2 rfl (by omega) (.slice Ao ys.length co) ys.length (vs ys) rfl (World.ownsRow.alloc Hown.out _) ⟨wr.heap.size, 0, none⟩ 1 1 (vs [d]) rfl (by rw [vs_len]; rfl) (new_cells wr d _) (vs_one · [d]) (by unfold maxLen; omega) (by omega) (by have := Hb.out.size; simp; omega) ?_; intro v2 w2 hown2 hg2 _)
          have Hown2 := Lib.hid (OwnL.snoc hown2)
          have Hb2 : Hid (Below w.heap.size w w2) := Lib.hid ((Hb.out.alloc Hb.out.size _).grown hg2 (by have := Hb.out.size; simp; omega) (fun k hk => (Hown.out.lt k hk).1))
          clear hown2 hg2
          go_roundw
          case rel => exact ⟨k + 1, 1, ys ++ [d], by omega, by go_num, rfl, by omega, by rw [List.length_append, Hyl.out]; rfl, Hs.out.1, by rw [Hs.out.2, Hvx.out, Hvy.out]; simp only [Int.natCast_add, Int.natCast_mul, Int.natCast_pow]; omega, Hown2.out, Hb2.out⟩
          case measure => simp [intOf]; omega
        · have hneg2 : 0 ≤ (x : Int) - bb := by omega
          clear hneg
          have Hs := Lib.hid (minus_step (t := (x : Int)) Hyl.out Hl.out Hv.out)
          have hd1 : (x : Int) - bb = ((((-(bb : Int) + (x : Int)) % Bs).toNat : Nat) : Int) := by rw [Bs_eq]; omega
          have he1 : (-(bb : Int) + (x : Int)) / Bs = -((0 : Nat) : Int) := by rw [Bs_eq]; omega
          have hs1 : (x : Int) - bb ≤ 16777215 := by omega
          rw [he1] at Hs
          obtain ⟨d, hd⟩ : ∃ d, d = ((-(bb : Int) + (x : Int)) % Bs).toNat := ⟨_, rfl⟩
          rw [← hd] at hd1 Hs
          have hd2 : ¬ (d : Int) < 0 := by omega
          clear hd he1
          go_wp2_with (at_builtin; refine wpList_append_own _ rfl (.tmp 36) (.tmp 38) _ rfl w.heap.size 2 i0 _ 1 8 Try.underlying22 hi0 hz0 hz1 hz2 rfl (by omega) (.slice Ao ys.length co) ys.length (vs ys) rfl (World.ownsRow.alloc Hown.out _) ⟨wr.heap.size, 0, none⟩ 1 1 (vs [d]) rfl (by rw [vs_len]; rfl) (new_cells wr d _) (vs_one · [d]) (by unfold maxLen; omega) (by omega) (by have := Hb.out.size; simp; omega) ?_; intro v2 w2 hown2 hg2 _)
          have Hown2 := Lib.hid (OwnL.snoc hown2)
          have Hb2 : Hid (Below w.heap.size w w2) := Lib.hid ((Hb.out.alloc Hb.out.size _).grown hg2 (by have := Hb.out.size; simp; omega) (fun k hk => (Hown.out.lt k hk).1))
          clear hown2 hg2
          go_roundw
          case rel => exact ⟨k + 1, 0, ys ++ [d], by omega, by go_num, rfl, by omega, by rw [List.length_append, Hyl.out]; rfl, Hs.out.1, by rw [Hs.out.2, Hvx.out, Hvy.out]; simp only [Int.natCast_add, Int.natCast_mul, Int.natCast_pow]; omega, Hown2.out, Hb2.out⟩
          case measure => simp [intOf]; omega
    · have Hfin : Hid (V ys = a - b ∧ ys.length = n) := Lib.hid (by
        have hkn : k = n := by omega
        have h := Hv.out
        rw [take_all (by have := Hn.out; omega), take_all (by have := Hn'.out; have := Hle.out; omega), V_limbs, V_limbs] at h
        have h2 := V_lt Hl.out
        rw [Hyl.out] at h2
        have h3 := carry_none h h2 (by have := Hab.out; omega) (by omega)
        exact ⟨by have := Hab.out; omega, by rw [Hyl.out, hkn]⟩)
      have hnl : ¬ (k : Int) < n := by omega
      go_wp2_with fail
      go_ret
      exact ⟨.slice Ao ys.length co, rfl, ys, Hown.out, Hl.out, Hfin.out.1, Hfin.out.2, Hb.out⟩
end Go.Proofs.Ytnnoobdcdfcdaaa
