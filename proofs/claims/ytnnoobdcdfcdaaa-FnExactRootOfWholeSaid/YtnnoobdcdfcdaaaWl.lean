/- The walks of the laws' functions over slices of int64: a copy, equality, marks. -/
import Derived.Test.YtnnoobdcdfcdaaaProg
import Derived.Test.YtnnoobdcdfcdaaaRi
namespace Go.Proofs.Ytnnoobdcdfcdaaa
set_option maxRecDepth 100000
open Go.RowKit
set_option linter.unusedSimpArgs false
set_option linter.unusedVariables false

theorem infoI : (Try.prog.info? 2).map (fun i => (i.zero, i.size, i.bytes)) = some (some (.int .i64 0), 1, 8) := by kernel_rfl

set_option maxHeartbeats 400000 in
theorem toI2_any (A : Option Addr) (n c : Nat) (xs : List Int) (w : World) (B : Nat) (hr0 : Rd w B A (vi xs)) (hB : B ≤ w.heap.size) (hn : xs.length = n) (hm : n ≤ 1048576) :
    Calls Try.prog 41 #[.slice A n c] w fun e w' => ∃ A' c', e = .returned (.slice A' n c') ∧ Ow w' w.heap.size w'.heap.size A' (vi xs) ∧ Below w.heap.size w w' ∧ n ≤ c' := by
  have hr := hr0.up hB
  clear hr0
  obtain ⟨i0, hi0, hz0, hz1, hz2⟩ := info_parts infoI
  have hbytes : i0.bytes * n ≤ 281474976710656 := by rw [hz2]; omega
  have hst := store_int Try.prog
  go_enter Try.func41, Try.ntmps41
  go_wp2_with (refine wpList_make_full _ rfl _ _ _ rfl w.heap.size 2 i0 _ 1 Try.underlying22 hi0 hz0 hz1 _ _ _ _ n rfl rfl rfl rfl hbytes (by unfold maxLen; omega) (Nat.le_refl _) ?_; intro w1 hown hg)
  obtain ⟨ys, hys⟩ : ∃ ys, ys = (madeCells (Value.int .i64 0).cells (n * 1)).toList := ⟨_, rfl⟩
  rw [← hys] at hown
  have hyl : ys.length = n := by have := hown.1; omega
  have hb1 : Below w.heap.size w w1 := (Below.refl _ _).grown hg (Nat.le_refl _) (by simp)
  have Hyl := Lib.hid hyl
  have Hn : Hid ((vi xs).length = n) := Lib.hid (by rw [vi_len]; exact hn)
  have Hn' := Lib.hid hn
  clear hys hyl hn hg
  go_loopw [4] (fun i wr => ∃ k : Nat, k ≤ n ∧ i = .int .i64 k ∧ wr.ownsRow w.heap.size 2 1 (.slice (some ⟨w.heap.size, 0, none⟩) n n) n ((vi xs).take k ++ ys.drop k) ∧ Below w.heap.size w wr) (fun i _ => n - (intOf i).toNat)
  case atStart => exact ⟨0, Nat.zero_le _, rfl, by simpa using hown, hb1⟩
  case round =>
    clear hown hb1
    obtain ⟨k, hk, rfl, hown, hb⟩ := hrel
    by_cases hlt : k < n
    · have hkx : k < (vi xs).length := by rw [Hn.out]; exact hlt
      obtain ⟨a, ha, _⟩ := hr.some_ (by omega)
      subst ha
      have hxb := vi_get (xs := xs) (k := k) (by rw [Hn'.out]; exact hlt)
      have hc1 := (hr.below hb).cell hkx
      have hc2 := hown.cellAt k (by omega)
      have hf2 := hown.frozenAt k
      have hc2' : ∃ u, wr.cell? ⟨w.heap.size, k, none⟩ = some u := ⟨_, by rw [hc2]; exact List.getElem?_eq_getElem (by have := Hyl.out; simp; omega)⟩
      obtain ⟨u, hu⟩ := hc2'
      have hst2 := hown.stored k (vi xs)[k]
      rw [take_succ_set hkx (by rw [Hyl.out, Hn.out])] at hst2
      have H1 := Lib.hid hst2
      have H2 := Lib.hid hxb
      rw [hxb] at hc1
      clear hst2 hxb hc2 hr hown
      have Hb := Lib.hid hb
      clear hb
      go_wp2
      go_roundw
      case rel =>
        have h1 := H1.out
        rw [H2.out] at h1
        exact ⟨k + 1, by omega, by go_num, h1.1, Hb.out.grown h1.2 Hb.out.size (by simp)⟩
      case measure => simp [intOf]; omega
    · have hkn : k = n := by omega
      have H3 : Hid ((vi xs).take k ++ ys.drop k = vi xs) := Lib.hid (by
        rw [List.take_of_length_le (by have := Hn.out; omega), List.drop_of_length_le (by have := Hyl.out; omega), List.append_nil])
      rw [H3.out] at hown
      subst hkn
      have Ho := Lib.hid hown
      have Hb := Lib.hid hb
      clear hr hown hb
      go_wp2
      go_ret
      exact ⟨_, _, rfl, Ow.own Ho.out, Hb.out, Nat.le_refl _⟩

theorem toI_any (A : Option Addr) (n c : Nat) (xs : List Int) (w : World) (B : Nat) (hr0 : Rd w B A (vi xs)) (hB : B ≤ w.heap.size) (hn : xs.length = n) (hm : n ≤ 1048576) :
    Calls Try.prog 41 #[.slice A n c] w fun e w' => ∃ A' c', e = .returned (.slice A' n c') ∧ Ow w' w.heap.size w'.heap.size A' (vi xs) ∧ Below w.heap.size w w' := by
  refine (toI2_any A n c xs w B hr0 hB hn hm).mono ?_
  rintro e w' ⟨A', c', h1, h2, h3, _⟩
  exact ⟨A', c', h1, h2, h3⟩

set_option maxHeartbeats 400000 in
theorem eqI_yes (A A' : Option Addr) (n c c' B B' : Nat) (xs : List Int) (w : World) (hr : Rd w B A (vi xs)) (hr' : Rd w B' A' (vi xs)) (hn : xs.length = n) (hm : n ≤ 1048576) :
    Calls Try.prog 44 #[.slice A n c, .slice A' n c'] w fun e w' => e = .returned (.bool true) ∧ ∃ q, w' = w.drewN q := by
  have Hn := Lib.hid hn
  clear hn
  go_enter Try.func44, Try.ntmps44
  go_wp2_with fail
  go_loopw [5] (fun i wr => ∃ k : Nat, k ≤ n ∧ i = .int .i64 k ∧ ∃ q, wr = w.drewN q) (fun i _ => n - (intOf i).toNat)
  case atStart => exact ⟨0, Nat.zero_le _, rfl, 0, rfl⟩
  case round =>
    obtain ⟨k, hk, rfl, q, hq⟩ := hrel
    have hr := (hr.drewN q)
    have hr' := (hr'.drewN q)
    rw [← hq] at hr hr'
    have Hq := Lib.hid hq
    clear hq
    by_cases hlt : k < n
    · have hkx : k < xs.length := by rw [Hn.out]; exact hlt
      obtain ⟨a, ha, _⟩ := hr.some_ (by rw [vi_len]; omega)
      obtain ⟨a', ha', _⟩ := hr'.some_ (by rw [vi_len]; omega)
      subst ha ha'
      have hc1 := hr.cell (k := k) (by rw [vi_len]; exact hkx)
      have hc2 := hr'.cell (k := k) (by rw [vi_len]; exact hkx)
      rw [vi_get hkx] at hc1 hc2
      generalize xs[k] = x at *
      clear hr hr'
      go_wp2_with fail
      go_quiet (fail)
      go_wp2_with fail
      go_roundw
      case rel => exact ⟨k + 1, by omega, by go_num, q + nq, by rw [Hq.out, World.drewN_drewN]⟩
      case measure => simp [intOf]; omega
    · have hkn : k = n := by omega
      subst hkn
      clear hr hr'
      go_wp2_with fail
      go_ret
      exact ⟨rfl, q, Hq.out⟩

/-- the marks that are laid from k on -/
def marks (k : Int) (n : Nat) : List Int := (List.range n).map fun (i : Nat) => k + i
theorem marks_len (k : Int) (n : Nat) : (marks k n).length = n := by unfold marks; simp
theorem marks_get {k : Int} {n i : Nat} (h : i < n) : (marks k n)[i]'(by rw [marks_len]; exact h) = k + i := by unfold marks; simp

theorem marks_step (z : Int) (n : Nat) (xs : List Int) (hl : xs.length = n) (k : Nat) (hk : k < n) : ((marks z n).take k ++ xs.drop k).set k (z + k) = (marks z n).take (k + 1) ++ xs.drop (k + 1) := by
  apply List.ext_getElem?
  intro i
  rw [List.getElem?_set]
  have hm := marks_len z n
  by_cases h1 : k = i
  · subst h1
    rw [if_pos rfl, if_pos (by simp; omega)]
    rw [List.getElem?_append_left (by simp; omega), List.getElem?_take, if_pos (by omega), List.getElem?_eq_getElem (by omega), marks_get hk]
  · rw [if_neg h1]
    by_cases h2 : i < k
    · rw [List.getElem?_append_left (by simp; omega), List.getElem?_append_left (by simp; omega), List.getElem?_take, List.getElem?_take, if_pos h2, if_pos (by omega)]
    · rw [List.getElem?_append_right (by simp; omega), List.getElem?_append_right (by simp; omega), List.getElem?_drop, List.getElem?_drop]
      congr 1
      simp
      omega

theorem grownBy_trans_row {w w1 w2 : World} {r1 r2 : Option Nat} {lo hi : Nat} (h1 : w.grownBy w1 r1) (h2 : w1.grownBy w2 r2) (hr1 : ∀ g, r1 = some g → r2 = some g) : w.grownBy w2 r2 := by
  refine ⟨h2.os.trans h1.os, h2.tape.trans h1.tape, h2.output.trans h1.output, Nat.le_trans h1.size h2.size, fun k hk hne => (h2.block k (Nat.lt_of_lt_of_le hk h1.size) hne).trans (h1.block k hk fun e => hne (hr1 k e.symm).symm)⟩

set_option maxHeartbeats 400000 in
theorem markI_any (A : Option Addr) (n c : Nat) (z : Int) (xs : List Int) (lo hi : Nat) (w : World) (ho : Ow w lo hi A (vi xs)) (hn : xs.length = n) (hm : n ≤ 4194304) (hz0 : 0 ≤ z) (hz : z ≤ 4194304) :
    Calls Try.prog 45 #[.slice A n c, .int .i64 z] w fun e w' => e = .returned (.int .i64 (z + n)) ∧ Ow w' lo hi A (vi (marks z n)) ∧ ∃ row, w.grownBy w' row ∧ ∀ g, row = some g → lo ≤ g ∧ g < hi := by
  have hst := store_int Try.prog
  have Hn := Lib.hid hn
  have Hgr : ∃ row, w.grownBy w row ∧ (∀ g, row = some g → lo ≤ g ∧ g < hi ∧ A = some ⟨g, 0, none⟩) ∧ (row = none → n = 0) := by
    by_cases h0 : n = 0
    · exact ⟨none, World.grownBy.refl _ _, fun g h => (by cases h), fun _ => h0⟩
    · obtain ⟨g, hA, h1, h2, _⟩ := ho.lt (fun e => h0 (by rw [← hn, ← vi_len, e]; rfl))
      exact ⟨some g, World.grownBy.refl _ _, fun g' h => by injection h with h; subst h; exact ⟨h1, h2, hA⟩, fun h => by cases h⟩
  obtain ⟨row, hg0, hrow, hrow0⟩ := Hgr
  have Hrow := Lib.hid hrow
  have Hrow0 := Lib.hid hrow0
  have Hg0 := Lib.hid hg0
  clear hn hrow hrow0 hg0
  go_enter Try.func45, Try.ntmps45
  go_wp2_with fail
  go_loopw [1, 5] (fun kk i wr => ∃ k : Nat, k ≤ n ∧ i = .int .i64 k ∧ kk = .int .i64 (z + k) ∧ Ow wr lo hi A (vi ((marks z n).take k ++ xs.drop k)) ∧ w.grownBy wr row) (fun _ i _ => n - (intOf i).toNat)
  case atStart => exact ⟨0, Nat.zero_le _, rfl, by simp, by simpa using ho, Hg0.out⟩
  case round =>
    clear ho
    obtain ⟨k, hk, rfl, rfl, ho, hg⟩ := hrel
    by_cases hlt : k < n
    · have hkx : k < ((marks z n).take k ++ xs.drop k).length := by have := Hn.out; have := marks_len z n; simp; omega
      obtain ⟨g, hA, hl1, hl2, hc, hf, ho2, hg2⟩ := ho.stored (k := k) (by rw [vi_len]; exact hkx) (.int .i64 (z + k))
      rw [vi_set, marks_step z n xs Hn.out k hlt] at ho2
      subst hA
      have Hrow2 : Hid (row = some g) := Lib.hid (by
        rcases hrow : row with _ | g'
        · exact absurd (Hrow0.out hrow) (by omega)
        · have := (Hrow.out g' hrow).2.2
          injection this with this
          injection this with this
          rw [this])
      have H1 := Lib.hid ho2
      have H2 := Lib.hid (grownBy_trans_row (lo := lo) (hi := hi) hg hg2 (fun g' h => by rw [Hrow2.out] at h; exact h))
      rw [vi_get hkx] at hc
      generalize ((marks z n).take k ++ xs.drop k)[k] = u at *
      clear ho2 hg2 ho hg
      go_wp2
      go_roundw
      case rel => exact ⟨k + 1, by omega, by go_num, by go_num, H1.out, by have := H2.out; rw [← Hrow2.out] at this; exact this⟩
      case measure => simp [intOf]; omega
    · have hkn : k = n := by omega
      subst hkn
      have Ho : Hid (Ow wr lo hi A (vi (marks z k))) := Lib.hid (by
        rw [List.take_of_length_le (by rw [marks_len]; omega), List.drop_of_length_le (by have := Hn.out; omega), List.append_nil] at ho
        exact ho)
      have Hg := Lib.hid hg
      clear ho hg
      go_wp2
      go_ret
      exact ⟨rfl, Ho.out, row, Hg.out, fun g h => ⟨(Hrow.out g h).1, (Hrow.out g h).2.1⟩⟩

set_option maxHeartbeats 400000 in
theorem heldI_any (A : Option Addr) (n c : Nat) (z : Int) (B : Nat) (w : World) (hr : Rd w B A (vi (marks z n))) (hm : n ≤ 4194304) (hz0 : 0 ≤ z) (hz : z ≤ 4194304) :
    Calls Try.prog 46 #[.slice A n c, .int .i64 z] w fun e w' => e = .returned (.int .i64 (z + n)) ∧ ∃ q, w' = w.drewN q := by
  go_enter Try.func46, Try.ntmps46
  go_wp2_with fail
  go_loopw [1, 5] (fun kk i wr => ∃ k : Nat, k ≤ n ∧ i = .int .i64 k ∧ kk = .int .i64 (z + k) ∧ ∃ q, wr = w.drewN q) (fun _ i _ => n - (intOf i).toNat)
  case atStart => exact ⟨0, Nat.zero_le _, rfl, by simp, 0, rfl⟩
  case round =>
    obtain ⟨k, hk, rfl, rfl, q, hq⟩ := hrel
    have hr := hr.drewN q
    rw [← hq] at hr
    have Hq := Lib.hid hq
    clear hq
    by_cases hlt : k < n
    · have hkx : k < (marks z n).length := by rw [marks_len]; exact hlt
      obtain ⟨a, ha, _⟩ := hr.some_ (by rw [vi_len]; omega)
      subst ha
      have hc := hr.cell (k := k) (by rw [vi_len]; exact hkx)
      rw [vi_get hkx, marks_get hlt] at hc
      clear hr
      go_wp2_with fail
      go_roundw
      case rel => exact ⟨k + 1, by omega, by go_num, by go_num, q, Hq.out⟩
      case measure => simp [intOf]; omega
    · have hkn : k = n := by omega
      subst hkn
      clear hr
      go_wp2_with fail
      go_ret
      exact ⟨rfl, q, Hq.out⟩
end Go.Proofs.Ytnnoobdcdfcdaaa
