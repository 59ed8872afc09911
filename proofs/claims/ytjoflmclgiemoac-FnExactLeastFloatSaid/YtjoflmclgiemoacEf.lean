/- The walk of the laws' eqFloat32S: it says yes of slices that read as the same floats. -/
import Derived.Test.YtjoflmclgiemoacTf
import Derived.Test.YtjoflmclgiemoacSf
import Derived.Deep.QuietTactic
import Derived.BigQuiet
import Derived.Deep.RegionHeld3
namespace Go.Proofs.Ytjoflmclgiemoac
open Go.RowKit
set_option linter.unusedSimpArgs false

/-- the same float: one word, or both NaN -/
def same32 (b c : Nat) : Prop := b < 4294967296 ∧ c < 4294967296 ∧ (b = c ∨ (nan32 b = true ∧ nan32 c = true))

set_option maxHeartbeats 800000 in
theorem eqF_yes (A A' : Option Addr) (n c c' B : Nat) (xs ys : List Nat) (w : World) (hr : Rd w B A (xs.map (Value.float .f32))) (hr' : Rd w B A' (ys.map (Value.float .f32))) (hn : xs.length = n) (hn' : ys.length = n)
    (hs : ∀ k (h : k < xs.length) (h' : k < ys.length), same32 xs[k] ys[k]) (hm : n ≤ 1048576) :
    Calls Try.prog 18 #[.slice A n c, .slice A' n c'] w fun e w' => e = .returned (.bool true) ∧ ∃ q, w' = w.drewN q := by
  have Hn := Lib.hid hn
  have Hn' := Lib.hid hn'
  clear hn hn'
  have Hm := Lib.hid hm
  go_enter Try.func18, Try.ntmps18
  go_wp2_with fail
  go_loopw [5] (fun i wr => ∃ k : Nat, k ≤ n ∧ i = .int .i64 k ∧ ∃ q, wr = w.drewN q) (fun i _ => n - (intOf i).toNat)
  case atStart => exact ⟨0, Nat.zero_le _, rfl, 0, rfl⟩
  case round =>
    obtain ⟨k, hk, rfl, q, hq⟩ := hrel
    have hr := (hr.drewN q)
    have hr' := (hr'.drewN q)
    rw [← hq] at hr hr'
    have Hq := Lib.hid hq
    clear hq
    by_cases hlt : k < n
    · have hkx : k < xs.length := by rw [Hn.out]; exact hlt
      have hky : k < ys.length := by rw [Hn'.out]; exact hlt
      obtain ⟨a, ha, _⟩ := hr.some_ (by simp; omega)
      obtain ⟨a', ha', _⟩ := hr'.some_ (by simp; omega)
      subst ha ha'
      have hc1 := hr.cell (k := k) (by simpa using hkx)
      have hc2 := hr'.cell (k := k) (by simpa using hky)
      rw [List.getElem_map] at hc1 hc2
      obtain ⟨l1, l2, hsame⟩ := hs k hkx hky
      generalize xs[k] = x at *
      generalize ys[k] = y at *
      clear hr hr' hs
      by_cases hx : nan32 x = true
      · have hy : nan32 y = true := by
          rcases hsame with rfl | ⟨_, hy⟩
          · exact hx
          · exact hy
        have hcv := conv_nan x hx
        have hcv2 := conv_nan y hy
        clear hsame l1 l2 hx hy
        go_wp2_with fail
        refine wp_region_held_drew (S := fun w' => (w'.cell? (a.add k) = some (.float .f32 x) ∧ w'.cell? (a'.add k) = some (.float .f32 y)) ∧ ∃ q, w' = w.drewN q) (by kernel_rfl) ⟨⟨hc1, hc2⟩, q + 1, by rw [Hq.out]; rfl⟩ (fun hHeld => ?_)
        refine wpAnyH_take (i := 0) (v := ?_) rfl (by kernel_rfl) (by kernel_rfl) (by kernel_rfl) (fun _ _ _ h => h) (Or.inl ⟨by rfl, ?_⟩) (by assumption) ?_
        rotate_left
        · (intro w hSw; (try dsimp only at hSw); go_simp; (try with_reducible rfl))
        try simp only [Act.put, List.setIfInBounds_toArray, List.set_cons_zero, List.set_cons_succ]
        refine wpAnyH_take (i := 1) (v := ?_) rfl (by kernel_rfl) (by kernel_rfl) (by kernel_rfl) (fun _ _ _ h => h) (Or.inl ⟨by rfl, ?_⟩) (by assumption) ?_
        rotate_left
        · (intro w hSw; (try dsimp only at hSw); go_simp; (try with_reducible rfl))
        try simp only [Act.put, List.setIfInBounds_toArray, List.set_cons_zero, List.set_cons_succ]
        refine wpAnyH_take (i := 2) (v := ?_) rfl (by kernel_rfl) (by kernel_rfl) (by kernel_rfl) (fun _ _ _ h => h) (Or.inl ⟨by rfl, ?_⟩) (by assumption) ?_
        rotate_left
        · (intro w hSw; (try dsimp only at hSw); go_simp; (try with_reducible rfl))
        try simp only [Act.put, List.setIfInBounds_toArray, List.set_cons_zero, List.set_cons_succ]
        refine wpAnyH_take (i := 3) (v := ?_) rfl (by kernel_rfl) (by kernel_rfl) (by kernel_rfl) (fun _ _ _ h => h) (Or.inl ⟨by rfl, ?_⟩) (by assumption) ?_
        rotate_left
        · (intro w hSw; (try dsimp only at hSw); go_simp; (try with_reducible rfl))
        try simp only [Act.put, List.setIfInBounds_toArray, List.set_cons_zero, List.set_cons_succ]
        refine wpAnyH_take (i := 5) (v := ?_) rfl (by kernel_rfl) (by kernel_rfl) (by kernel_rfl) (fun _ _ _ h => h) (Or.inl ⟨by rfl, ?_⟩) (by assumption) ?_
        rotate_left
        · (intro w hSw; (try dsimp only at hSw); go_simp; (try with_reducible rfl))
        try simp only [Act.put, List.setIfInBounds_toArray, List.set_cons_zero, List.set_cons_succ]
        refine wpAnyH_take (i := 6) (v := ?_) rfl (by kernel_rfl) (by kernel_rfl) (by kernel_rfl) (fun _ _ _ h => h) (Or.inl ⟨by rfl, ?_⟩) (by assumption) ?_
        rotate_left
        · (intro w hSw; (try dsimp only at hSw); go_simp; (try with_reducible rfl))
        try simp only [Act.put, List.setIfInBounds_toArray, List.set_cons_zero, List.set_cons_succ]
        refine wpAnyH_take (i := 7) (v := ?_) rfl (by kernel_rfl) (by kernel_rfl) (by kernel_rfl) (fun _ _ _ h => h) (Or.inl ⟨by rfl, ?_⟩) (by assumption) ?_
        rotate_left
        · (intro w hSw; (try dsimp only at hSw); go_simp; (try with_reducible rfl))
        try simp only [Act.put, List.setIfInBounds_toArray, List.set_cons_zero, List.set_cons_succ]
        refine wpAnyH_take (i := 8) (v := ?_) rfl (by kernel_rfl) (by kernel_rfl) (by kernel_rfl) (fun _ _ _ h => h) (Or.inl ⟨by rfl, ?_⟩) (by assumption) ?_
        rotate_left
        · (intro w hSw; (try dsimp only at hSw); go_simp; (try with_reducible rfl))
        try simp only [Act.put, List.setIfInBounds_toArray, List.set_cons_zero, List.set_cons_succ]
        refine wpAnyH_ready (rs := [4, 9]) (by kernel_rfl) (by simp) ?_
        refine AllReadyH.cons rfl (fun K hK => ?_) (AllReadyH.cons rfl (fun K hK => ?_) AllReadyH.nil)
        · go_simp
          refine hK.out _ _ ⟨hHeld.1, by obtain ⟨_, q, h⟩ := hHeld; exact ⟨q + 1, by rw [h]; rfl⟩⟩ (fun hHeld => ?_)
          clear hK K
          try simp only [Act.put, List.setIfInBounds_toArray, List.set_cons_zero, List.set_cons_succ]
          refine wpAnyH_ready (rs := [9]) (by kernel_rfl) (by simp) ?_
          refine AllReadyH.cons rfl (fun K hK => ?_) AllReadyH.nil
          go_simp
          refine hK.out _ _ ⟨hHeld.1, by obtain ⟨_, q, h⟩ := hHeld; exact ⟨q + 1, by rw [h]; rfl⟩⟩ (fun hHeld => ?_)
          clear hK K
          try simp only [Act.put, List.setIfInBounds_toArray, List.set_cons_zero, List.set_cons_succ]
          refine wpAnyH_ready (rs := [10]) (by kernel_rfl) (by simp) ?_
          refine AllReadyH.cons rfl (fun K hK => ?_) AllReadyH.nil
          go_simp
          refine (same_nan _ _ _ (nanConvOf_nan _ _) (nanConvOf_nan _ _)).mono ?_
          rintro e w' ⟨rfl, rfl⟩
          refine hK.out _ _ hHeld (fun hHeld => ?_)
          clear hK K
          try simp only [Act.put, List.setIfInBounds_toArray, List.set_cons_zero, List.set_cons_succ]
          refine wpAnyH_ready (rs := [11]) (by kernel_rfl) (by simp) ?_
          refine AllReadyH.cons rfl (fun K hK => ?_) AllReadyH.nil
          go_simp
          refine hK.out _ _ hHeld (fun hHeld => ?_)
          clear hK K
          try simp only [Act.put, List.setIfInBounds_toArray, List.set_cons_zero, List.set_cons_succ]
          refine wpAnyH_done (by kernel_rfl) ?_ _
          obtain ⟨_, q2, hq2⟩ := hHeld
          have Hq2 := Lib.hid hq2
          clear hq2
          go_wp2_with fail
          go_roundw
          case rel => exact ⟨k + 1, by omega, by go_num, q2, Hq2.out⟩
          case measure => simp [intOf]; omega
        · go_simp
          refine hK.out _ _ ⟨hHeld.1, by obtain ⟨_, q, h⟩ := hHeld; exact ⟨q + 1, by rw [h]; rfl⟩⟩ (fun hHeld => ?_)
          clear hK K
          try simp only [Act.put, List.setIfInBounds_toArray, List.set_cons_zero, List.set_cons_succ]
          refine wpAnyH_ready (rs := [4]) (by kernel_rfl) (by simp) ?_
          refine AllReadyH.cons rfl (fun K hK => ?_) AllReadyH.nil
          go_simp
          refine hK.out _ _ ⟨hHeld.1, by obtain ⟨_, q, h⟩ := hHeld; exact ⟨q + 1, by rw [h]; rfl⟩⟩ (fun hHeld => ?_)
          clear hK K
          try simp only [Act.put, List.setIfInBounds_toArray, List.set_cons_zero, List.set_cons_succ]
          refine wpAnyH_ready (rs := [10]) (by kernel_rfl) (by simp) ?_
          refine AllReadyH.cons rfl (fun K hK => ?_) AllReadyH.nil
          go_simp
          refine (same_nan _ _ _ (nanConvOf_nan _ _) (nanConvOf_nan _ _)).mono ?_
          rintro e w' ⟨rfl, rfl⟩
          refine hK.out _ _ hHeld (fun hHeld => ?_)
          clear hK K
          try simp only [Act.put, List.setIfInBounds_toArray, List.set_cons_zero, List.set_cons_succ]
          refine wpAnyH_ready (rs := [11]) (by kernel_rfl) (by simp) ?_
          refine AllReadyH.cons rfl (fun K hK => ?_) AllReadyH.nil
          go_simp
          refine hK.out _ _ hHeld (fun hHeld => ?_)
          clear hK K
          try simp only [Act.put, List.setIfInBounds_toArray, List.set_cons_zero, List.set_cons_succ]
          refine wpAnyH_done (by kernel_rfl) ?_ _
          obtain ⟨_, q2, hq2⟩ := hHeld
          have Hq2 := Lib.hid hq2
          clear hq2
          go_wp2_with fail
          go_roundw
          case rel => exact ⟨k + 1, by omega, by go_num, q2, Hq2.out⟩
          case measure => simp [intOf]; omega
      · obtain ⟨d, hd, hcv⟩ := conv_yes x l1 (by simpa using hx)
        obtain rfl : x = y := by
          rcases hsame with h | ⟨h, _⟩
          · exact h
          · exact absurd h hx
        have Hd := Lib.hid hd
        clear hd l1 l2 hx hsame
        go_wp2_with fail
        go_quiet ((go_at_call 12; exact Calls.quiet_of_same ((same_yes d _ Hd.out).mono fun _ _ ⟨h1, h2⟩ => ⟨h1, h2.symm⟩)))
        go_wp2_with fail
        go_roundw
        case rel => exact ⟨k + 1, by omega, by go_num, q + nq, by rw [Hq.out, World.drewN_drewN]⟩
        case measure => simp [intOf]; omega
    · have hkn : k = n := by omega
      subst hkn
      clear hr hr' hs
      go_wp2_with fail
      go_ret
      exact ⟨rfl, q, Hq.out⟩
end Go.Proofs.Ytjoflmclgiemoac
