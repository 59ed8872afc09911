/- The walk of the model's sort: a copy in memory of its own, in the total order. -/
import Derived.Test.YtjoflmclgiemoacTl
import Derived.Test.YtjoflmclgiemoacTf
import Derived.Test.YtjoflmclgiemoacSp
import Derived.Deep.QuietTactic
import Derived.BigQuiet
import Derived.WalkSmall
namespace Go.Proofs.Ytjoflmclgiemoac
open Go.RowKit

theorem own_empty (w : World) (e : TypeId) : (w.alloc (.cells #[] e)).ownsRow w.heap.size e 1 (.slice (some ⟨w.heap.size, 0, none⟩) 0 0) 0 [] :=
  ⟨rfl, .inr ⟨w.heap.size, 0, #[], rfl, Nat.le_refl _, heap_alloc_new w _, Nat.le_refl _, Nat.zero_le _, rfl, rfl⟩⟩

/-- a floats' row of the call's own -/
def OwnF (w : World) (B : Nat) (v : Value) (ys : List Nat) : Prop := w.ownsRow B 22 1 v ys.length (ys.map (Value.float .f32))
theorem OwnF.cell {w : World} {B g cap : Nat} {ys : List Nat} {n : Nat} (h : OwnF w B (.slice (some ⟨g, 0, none⟩) n cap) ys) (hn : ys.length = n) {k : Nat} (hk : k < n) : w.cell? ⟨g, k, none⟩ = some (.float .f32 (ys.getD k 0)) := by
  subst hn
  rw [World.ownsRow.cellAt h k (by omega), List.getElem?_map, List.getElem?_eq_getElem hk]
  simp [List.getD_eq_getElem?_getD, List.getElem?_eq_getElem hk]

theorem OwnF.frozen {w : World} {B g cap : Nat} {ys : List Nat} {n : Nat} (h : OwnF w B (.slice (some ⟨g, 0, none⟩) n cap) ys) (hn : ys.length = n) (k : Nat) : w.frozen? ⟨g, k, none⟩ = false := by
  subst hn; exact World.ownsRow.frozenAt h k
theorem OwnF.swap {w W : World} {B g cap : Nat} {ys : List Nat} {n : Nat} (h : OwnF w B (.slice (some ⟨g, 0, none⟩) n cap) ys) (hn : ys.length = n) (j : Nat) (hb : Below B W w) (hB : B ≤ g) :
    OwnF ((w.setCell ⟨g, j + 1, none⟩ (.float .f32 (ys.getD j 0))).setCell ⟨g, j, none⟩ (.float .f32 (ys.getD (j + 1) 0))) B (.slice (some ⟨g, 0, none⟩) n cap) (swapAt ys j) ∧
    Below B W ((w.setCell ⟨g, j + 1, none⟩ (.float .f32 (ys.getD j 0))).setCell ⟨g, j, none⟩ (.float .f32 (ys.getD (j + 1) 0))) := by
  subst hn
  have h1 := World.ownsRow.stored h (j + 1) (.float .f32 (ys.getD j 0))
  have h2 := World.ownsRow.stored h1.1 j (.float .f32 (ys.getD (j + 1) 0))
  refine ⟨?_, (hb.setCell hB _).setCell hB _⟩
  unfold OwnF
  rw [swapAt_length]
  have e : (swapAt ys j).map (Value.float .f32) = (((ys.map (Value.float .f32)).set (j + 1) (.float .f32 (ys.getD j 0))).set j (.float .f32 (ys.getD (j + 1) 0))) := by
    unfold swapAt; rw [List.map_set, List.map_set]
  rw [e]
  exact h2.1

set_option maxHeartbeats 1000000 in
theorem sort_any (a : Addr) (n c : Nat) (xs : List Nat) (w : World) (hr : Rd w w.heap.size (some a) (xs.map (Value.float .f32))) (hn : xs.length = n) (hm : n ≤ 1048576) (hb : ∀ x ∈ xs, x < 4294967296) :
    Calls Try.prog 32 #[.slice (some a) n c] w fun e w' => ∃ v ys, e = .returned v ∧ OwnF w' w.heap.size v ys ∧ ys.Perm xs ∧ SortedTo ys n ∧ Below w.heap.size w w' := by
  obtain ⟨i0, hi0, hz0, hz1, hz2⟩ := info_parts infoF
  have hnews : ∀ j u, (xs.map (Value.float .f32))[j]? = some u → (w.alloc (.cells #[] 22)).cell? (a.add j) = some u := fun j u hu => by
    obtain ⟨a', h1, h2, h3⟩ := hr j u hu
    cases h1
    rw [World.cell?_alloc_lt w _ _ (by rw [addr_block]; exact h2)]
    exact h3
  have Hnews := Lib.hid hnews
  have Hn := Lib.hid hn
  have Hb := Lib.hid hb
  clear hr hnews hn hb
  have hst := store_float Try.prog
  go_enter Try.func32, Try.ntmps32
  go_wp2_with (at_builtin; refine wpList_append_own _ rfl (.tmp 7) (.tmp 8) _ rfl w.heap.size 22 i0 _ 1 4 Try.underlying32 hi0 hz0 hz1 hz2 rfl (by omega) (.slice (some ⟨w.heap.size, 0, none⟩) 0 0) 0 [] rfl (own_empty w _) a n c (xs.map (Value.float .f32)) rfl (by rw [List.length_map, Hn.out, Nat.mul_one]) Hnews.out (by intro u hu; obtain ⟨x, _, rfl⟩ := List.mem_map.1 hu; rfl) (by unfold maxLen; omega) (by omega) (by simp) ?_; intro v1 w1 hown hg _)
  have hbw : Below w.heap.size w w1 := ((Below.refl _ _).alloc (Nat.le_refl _) _).grown hg (by simp) (by simp [Value.ownBlock])
  have hown' : OwnF w1 w.heap.size v1 xs := by
    unfold OwnF
    rw [Hn.out]
    rw [Nat.zero_add, List.nil_append] at hown
    exact hown
  clear hown hg Hnews
  obtain ⟨A, cap, rfl⟩ : ∃ A cap, v1 = .slice A n cap := by
    rcases hown'.2 with ⟨h1, h2⟩ | ⟨g, cap, cur, h1, _⟩
    · exact ⟨none, 0, by rw [h1, ← Hn.out, h2]⟩
    · exact ⟨some ⟨g, 0, none⟩, cap, by rw [h1, Hn.out]⟩
  go_loopw [4, 5, 6] (fun i _ _ wr => ∃ (m : Nat) (ys : List Nat), 1 ≤ m ∧ i = .int .i64 m ∧ OwnF wr w.heap.size (.slice A n cap) ys ∧ ys.Perm xs ∧ SortedTo ys (min m n) ∧ Below w.heap.size w wr) (fun i _ _ _ => n - (intOf i).toNat)
  case atStart => exact ⟨1, xs, Nat.le_refl _, rfl, hown', List.Perm.refl _, fun p q h1 h2 => by omega, hbw⟩
  case round =>
    clear hown' hbw
    obtain ⟨m, ys, hm1, rfl, hown, hperm, hsort, hbw⟩ := hrel
    have Hperm := Lib.hid hperm
    have Hsort := Lib.hid hsort
    have Hbw := Lib.hid hbw
    have Hown := Lib.hid hown
    clear hperm hsort hbw hown
    by_cases hlt : m < n
    · obtain ⟨g, hA, hBg⟩ : ∃ g, A = some ⟨g, 0, none⟩ ∧ w.heap.size ≤ g := by
        have h0 := Hown.out
        have hl : ys.length = n := Hperm.out.length_eq.trans Hn.out
        unfold OwnF at h0
        obtain ⟨g, cap', hv, hb, _⟩ := h0.form (by omega)
        exact ⟨g, by injection hv, hb⟩
      subst hA
      go_wp2_with fail
      obtain ⟨wo, hwo⟩ : ∃ wo : World, wo = wr := ⟨_, rfl⟩
      subst hwo
      go_loopw [5, 6] (fun kk _ wi => ∃ (k : Nat) (zs : List Nat), k ≤ m ∧ kk = .int .i64 k ∧ OwnF wi w.heap.size (.slice (some ⟨g, 0, none⟩) n cap) zs ∧ zs.Perm xs ∧ SortedBut zs (m + 1) k ∧ Below w.heap.size w wi) (fun kk _ _ => (intOf kk).toNat)
      case atStart =>
        have h := Hsort.out
        rw [Nat.min_eq_left (by omega)] at h
        exact ⟨m, ys, Nat.le_refl _, rfl, Hown.out, Hperm.out, h.but, Hbw.out⟩
      case round =>
        clear Hown Hperm Hsort Hbw
        obtain ⟨k, zs, hk, rfl, hown, hperm, hsort, hbw⟩ := hrel
        have hzl : zs.length = n := hperm.length_eq.trans Hn.out
        rcases k with _ | j
        · have Hs := Lib.hid hsort.zero
          have Ho := Lib.hid hown
          have Hp := Lib.hid hperm
          have Hb2 := Lib.hid hbw
          clear hown hperm hbw hsort hzl
          go_wp2_with fail
          go_quiet (fail)
          go_wp2_with fail
          go_roundw
          case rel => exact ⟨m + 1, zs, by omega, by go_num, Ho.out, Hp.out, by rw [Nat.min_eq_left (by omega)]; exact Hs.out, below_drewN Hb2.out _⟩
          case measure => simp [intOf]; omega
        · have hc1 := hown.cell hzl (k := j + 1) (by omega)
          have hc2 := hown.cell hzl (k := j) (by omega)
          have hf1 := hown.frozen hzl (j + 1)
          have hf2 := hown.frozen hzl j
          have hj1 : (j : Int) + 1 < n := by omega
          have hsw := fun q : Nat => OwnF.swap (w := wr.drewN q) hown hzl j (below_drewN hbw q) hBg
          have hx1 : zs.getD (j + 1) 0 < 4294967296 := by
            have h : zs.getD (j + 1) 0 = zs[j + 1]'(by omega) := by simp [List.getD_eq_getElem?_getD, List.getElem?_eq_getElem (show j + 1 < zs.length by omega)]
            rw [h]; exact Hb.out _ (hperm.mem_iff.1 (List.getElem_mem _))
          have hx2 : zs.getD j 0 < 4294967296 := by
            have h : zs.getD j 0 = zs[j]'(by omega) := by simp [List.getD_eq_getElem?_getD, List.getElem?_eq_getElem (show j < zs.length by omega)]
            rw [h]; exact Hb.out _ (hperm.mem_iff.1 (List.getElem_mem _))
          have Ho := Lib.hid hown
          have Hp := Lib.hid hperm
          have Hb2 := Lib.hid hbw
          have Hsw := Lib.hid hsw
          have Hso := Lib.hid hsort
          have Hx1 := Lib.hid hx1
          have Hx2 := Lib.hid hx2
          have hk' : (j : Int) + 1 ≤ m := by omega
          by_cases hlt2 : rank32 (zs.getD (j + 1) 0) < rank32 (zs.getD j 0)
          case' pos =>
            have hd : decide (rank32 (zs.getD (j + 1) 0) < rank32 (zs.getD j 0)) = true := decide_eq_true hlt2
            have Hnext : Hid (SortedBut (swapAt zs j) (m + 1) j) := Lib.hid (hsort.swap (by omega) (by omega) hlt2)
            have Hpn : Hid ((swapAt zs j).Perm xs) := Lib.hid ((swapAt_perm zs j (by omega)).trans hperm)
          case' neg =>
            have hd : decide (rank32 (zs.getD (j + 1) 0) < rank32 (zs.getD j 0)) = false := decide_eq_false hlt2
            have Hnext : Hid (SortedTo zs (m + 1)) := Lib.hid (hsort.stop (by omega) hlt2)
          all_goals
            have Hd := Lib.hid hd
            clear hown hperm hbw hsort hzl hlt2 hsw hd hx1 hx2
            generalize zs.getD (j + 1) 0 = x at *
            generalize zs.getD j 0 = y at *
            go_wp2_with fail
            go_quiet ((go_at_call 23; exact Calls.quiet_of_same ((ahead_any x y _ Hx1.out Hx2.out).mono fun _ _ ⟨h1, h2⟩ => ⟨by rw [h1, Hd.out], h2.symm⟩)))
            go_wp2_with fail
          · go_roundw
            case rel => exact ⟨m + 1, zs, by omega, by go_num, Ho.out, Hp.out, by rw [Nat.min_eq_left (by omega)]; exact Hnext.out, below_drewN Hb2.out _⟩
            case measure => simp [intOf]; omega
          · go_roundw
            case rel => exact ⟨j, swapAt zs j, by omega, by go_num, (Hsw.out _).1, Hpn.out, Hnext.out, (Hsw.out _).2⟩
            case measure => simp [intOf]
    · go_wp2_with fail
      go_ret
      refine ⟨_, ys, rfl, Hown.out, Hperm.out, ?_, Hbw.out⟩
      have := Hsort.out
      rwa [Nat.min_eq_right (by omega)] at this
end Go.Proofs.Ytjoflmclgiemoac
