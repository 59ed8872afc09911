/- The draws: a source of numbers that follows from a code. -/
import Derived.Test.YtjoflmclgiemoaaIb
import Derived.Test.YtjoflmclgiemoaaSl
import Derived.Deep.QuietTactic
import Derived.BigQuiet
import Derived.StillTailTactics
import Derived.RegionTactic
import Derived.Laws.BitsAll
namespace Go.Proofs.Ytjoflmclgiemoaa
open Go.RowKit

/-- block g is a source over the code that reads as bs -/
def Src (w : World) (g B : Nat) (A : Option Addr) (n c : Nat) (bs : List Nat) : Prop :=
  ∃ p h : Nat, w.heap[g]? = some (.cells #[.slice A n c, .int .i64 p, .int .u64 h] 60 (0, 0)) ∧ p ≤ n ∧ h < 18446744073709551616 ∧ B ≤ g ∧
    Rd w B A (bs.map fun b => Value.int .u8 (b : Nat)) ∧ bs.length = n ∧ (∀ b ∈ bs, b < 256) ∧ n ≤ 4096

theorem wrap_u64_nat (z : Int) : ∃ x : Nat, x < 18446744073709551616 ∧ IntKind.u64.wrap z = x := by
  refine ⟨(z % 18446744073709551616).toNat, by omega, ?_⟩
  rw [IntKind.wrap_u64]; omega

theorem Src.hash {w : World} {g B n c : Nat} {A : Option Addr} {bs : List Nat} (h : Src w g B A n c bs) {x : Nat} (hx : x < 18446744073709551616) : Src (w.setCell ⟨g, 2, none⟩ (.int .u64 x)) g B A n c bs := by
  obtain ⟨p, h0, h1, h2, h3, h4, h5, h6, h7, h8⟩ := h
  exact ⟨p, x, heap_setCell_same w g 2 _ _ _ h1, h2, hx, h4, h5.carry (fun q hq => World.cell?_setCell_other w _ q _ (fun e => by subst e; simp at hq; omega)), h6, h7, h8⟩
theorem Src.step {w : World} {g B n c : Nat} {A : Option Addr} {bs : List Nat} (h : Src w g B A n c bs) {x : Nat} (hx : x ≤ n) : Src (w.setCell ⟨g, 1, none⟩ (.int .i64 x)) g B A n c bs := by
  obtain ⟨p, h0, h1, h2, h3, h4, h5, h6, h7, h8⟩ := h
  exact ⟨x, h0, heap_setCell_same w g 1 _ _ _ h1, hx, h3, h4, h5.carry (fun q hq => World.cell?_setCell_other w _ q _ (fun e => by subst e; simp at hq; omega)), h6, h7, h8⟩
theorem Src.drewN {w : World} {g B n c : Nat} {A : Option Addr} {bs : List Nat} (h : Src w g B A n c bs) (q : Nat) : Src (w.drewN q) g B A n c bs := h

set_option maxHeartbeats 400000 in
theorem from_any (A : Option Addr) (n c : Nat) (bs : List Nat) (w : World) (hr : Rd w w.heap.size A (bs.map fun b => Value.int .u8 (b : Nat))) (hn : bs.length = n) (hb : ∀ b ∈ bs, b < 256) (hm : n ≤ 4096) :
    Calls Try.prog 35 #[.slice A n c] w fun e w' => ∃ g, e = .returned (.pointer (some ⟨g, 0, none⟩)) ∧ Src w' g w.heap.size A n c bs ∧ Below w.heap.size w w' := by
  go_enter Try.func35, Try.ntmps35
  go_wp2_with fail
  have hs0 : Src (w.alloc (.cells #[.slice A n c, .int .i64 0, .int .u64 (8263 + (n : Int))] 60)) w.heap.size w.heap.size A n c bs :=
    ⟨0, 8263 + n, heap_alloc_new w _, Nat.zero_le _, by omega, Nat.le_refl _, hr.carry (fun q hq => World.cell?_alloc_lt w _ _ hq), hn, hb, hm⟩
  have hb0 : Below w.heap.size w (w.alloc (.cells #[.slice A n c, .int .i64 0, .int .u64 (8263 + (n : Int))] 60)) := (Below.refl _ _).alloc (Nat.le_refl _) _
  clear hr hn hb
  go_loopw [4] (fun i wr => ∃ k : Nat, k ≤ n ∧ i = .int .i64 k ∧ Src wr w.heap.size w.heap.size A n c bs ∧ Below w.heap.size w wr) (fun i _ => n - (intOf i).toNat)
  case atStart => exact ⟨0, Nat.zero_le _, rfl, hs0, hb0⟩
  case round =>
    clear hs0 hb0
    obtain ⟨k, hk, rfl, hs, hb⟩ := hrel
    have Hs := Lib.hid hs
    have Hb := Lib.hid hb
    clear hb
    by_cases hlt : k < n
    · obtain ⟨p, h0, h1, h2, h3, h4, h5, h6, h7, h8⟩ := hs
      have hkx : k < bs.length := by omega
      obtain ⟨a, ha, _⟩ := h5.some_ (by simp; omega)
      subst ha
      have hc := h5.cell (k := k) (by simpa using hkx)
      rw [List.getElem_map] at hc
      have hb1 : ((bs[k] : Nat) : Int) ≤ 255 := by have := h7 _ (List.getElem_mem hkx); omega
      have hc1 : wr.cell? ⟨w.heap.size, 2, none⟩ = some (.int .u64 h0) := cell_of_row wr _ 2 _ _ _ h1
      have hf1 : wr.frozen? ⟨w.heap.size, 2, none⟩ = false := frozen_of_row wr _ 2 _ _ h1
      have hk4 : decide ((k : Int) < 4096) = true := decide_eq_true (by omega)
      have hn4 : (n : Int) ≤ 4096 := by omega
      have Hm := Lib.hid hm
      clear h1 h2 h3 h4 h5 h6 h7 h8 hm
      generalize bs[k] = x at *
      go_wp2_with fail
      go_region
      go_wp2_with fail
      go_roundw
      case rel =>
        obtain ⟨y, hy, e⟩ := wrap_u64_nat (IntKind.u64.wrap (IntKind.u64.wrap ((h0 : Int) * 1099511628211) + x) + 11)
        rw [e]
        exact ⟨k + 1, by omega, by go_num, (Hs.out.hash hy).drewN 1, (Hb.out.setCell (Nat.le_refl _) _).drew⟩
      case measure => simp [intOf]; omega
    · clear hs
      go_wp2_with fail
      go_ret
      exact ⟨_, rfl, Hs.out, Hb.out⟩

set_option maxHeartbeats 400000 in
theorem next_any (g B n c : Nat) (A : Option Addr) (bs : List Nat) (m : Int) (w : World) (hs : Src w g B A n c bs) :
    Calls Try.prog 45 #[.pointer (some ⟨g, 0, none⟩), .int .i64 m] w fun e w' => ∃ r : Int, e = .returned (.int .i64 r) ∧ 0 ≤ r ∧ (1 ≤ m → r < m) ∧ Src w' g B A n c bs ∧ w.grownBy w' (some g) := by
  have Hs := Lib.hid hs
  by_cases hm : m < 1
  · clear hs
    go_enter Try.func45, Try.ntmps45
    go_wp2_with fail
    go_ret
    exact ⟨0, rfl, Int.le_refl _, fun h => by omega, Hs.out, World.grownBy.refl _ _⟩
  · obtain ⟨p, h0, h1, h2, h3, h4, h5, h6, h7, h8⟩ := hs
    have hm1 : 1 ≤ m := by omega
    have hc0 : w.cell? ⟨g, 0, none⟩ = some (.slice A n c) := cell_of_row w _ 0 _ _ _ h1
    have hc1 : w.cell? ⟨g, 1, none⟩ = some (.int .i64 p) := cell_of_row w _ 1 _ _ _ h1
    have hc2 : w.cell? ⟨g, 2, none⟩ = some (.int .u64 h0) := cell_of_row w _ 2 _ _ _ h1
    have hf1 : w.frozen? ⟨g, 1, none⟩ = false := frozen_of_row w _ 1 _ _ h1
    have hf2 : w.frozen? ⟨g, 2, none⟩ = false := frozen_of_row w _ 2 _ _ h1
    have hn4 : (n : Int) ≤ 4096 := by omega
    obtain ⟨h', hh', eh⟩ := wrap_u64_nat (IntKind.u64.wrap ((h0 : Int) * 6364136223846793005) + 1442695040888963407)
    obtain ⟨x, hx, ex⟩ : ∃ x : Nat, x ≤ 16777215 ∧ bits .and .u64 ((h' : Int) / 8589934592) 16777215 = (x : Int) := by
      refine ⟨h' / 8589934592 % 16777216, by omega, ?_⟩
      have := bits_and_u64_nat (h' / 8589934592) 16777215 (by omega) (by omega)
      rw [show (16777215 : Nat) = 2 ^ 24 - 1 by decide, Nat.and_two_pow_sub_one_eq_mod] at this
      exact this
    have hxi : (x : Int) ≤ 16777215 := by omega
    have Hh := Lib.hid hh'
    have far : ∀ (q : Addr) (i : Nat) (v : Value), q.block < B → (w.setCell ⟨g, i, none⟩ v).cell? q = w.cell? q := fun q i v hq =>
      World.cell?_setCell_other w _ q _ (fun e => by subst e; simp at hq; omega)
    clear h1 h3 h8 hm hh' hx
    by_cases hp : p < n
    · have hpx : p < bs.length := by omega
      obtain ⟨a, ha, hab⟩ := h5.some_ (by simp; omega)
      subst ha
      have hc := h5.cell (k := p) (by simpa using hpx)
      rw [List.getElem_map] at hc
      have hb1 : ((bs[p] : Nat) : Int) ≤ 255 := by have := h7 _ (List.getElem_mem hpx); omega
      have hc' : ∀ v, (w.setCell ⟨g, 2, none⟩ v).cell? (a.add p) = some (.int .u8 (bs[p] : Nat)) := fun v => (far _ 2 v (by rw [addr_block]; exact hab)).trans hc
      have Hst : Hid (∀ q, Src (((w.setCell ⟨g, 2, none⟩ (.int .u64 h')).drewN q).setCell ⟨g, 1, none⟩ (.int .i64 ((p : Int) + 1))) g B (some a) n c bs) := Lib.hid (fun q => by
        have := ((Hs.out.hash Hh.out).drewN q).step (x := p + 1) (by omega)
        rwa [show (((p + 1 : Nat) : Int)) = (p : Int) + 1 from rfl] at this)
      have Hgr : Hid (∀ q, w.grownBy (((w.setCell ⟨g, 2, none⟩ (.int .u64 h')).drewN q).setCell ⟨g, 1, none⟩ (.int .i64 ((p : Int) + 1))) (some g)) := Lib.hid (fun q =>
        ⟨rfl, rfl, rfl, by simp, fun k _ hk => by
          have hkg : k ≠ g := fun e => hk (by rw [e])
          rw [Below.heap_setCell _ ⟨g, 1, none⟩ _ k hkg]
          exact Below.heap_setCell _ ⟨g, 2, none⟩ _ k hkg⟩)
      clear h5 h6 h7 far hc
      generalize bs[p] = y at *
      go_enter Try.func45, Try.ntmps45
      go_wp2_with fail
      go_quiet (fail)
      go_wp2_with fail
      go_quiet (fail)
      go_wp2_with fail
      go_ret
      exact ⟨_, rfl, Int.emod_nonneg _ (by omega), fun _ => Int.emod_lt_of_pos _ (by omega), Hst.out _, Hgr.out _⟩
    · have Hst : Hid (∀ q, Src ((w.setCell ⟨g, 2, none⟩ (.int .u64 h')).drewN q) g B A n c bs) := Lib.hid (fun q => (Hs.out.hash Hh.out).drewN q)
      have Hgr : Hid (∀ q, w.grownBy ((w.setCell ⟨g, 2, none⟩ (.int .u64 h')).drewN q) (some g)) := Lib.hid (fun q =>
        ⟨rfl, rfl, rfl, by simp, fun k _ hk => by
          have hkg : k ≠ g := fun e => hk (by rw [e])
          exact Below.heap_setCell _ ⟨g, 2, none⟩ _ k hkg⟩)
      clear h5 h6 h7 far
      go_enter Try.func45, Try.ntmps45
      go_wp2_with fail
      go_quiet (fail)
      go_wp2_with fail
      go_ret
      exact ⟨_, rfl, Int.emod_nonneg _ (by omega), fun _ => Int.emod_lt_of_pos _ (by omega), Hst.out _, Hgr.out _⟩

/-- one of the numbers of a list of the call's own -/
theorem pick_any (g B n c gl len cap : Nat) (A : Option Addr) (bs : List Nat) (ls : List Int) (w : World) (hs : Src w g B A n c bs) (hl : ls.length = len) (h0 : 0 < len) (hm : len ≤ 1000)
    (hc : ∀ k (h : k < ls.length), w.cell? ⟨gl, k, none⟩ = some (.int .i64 ls[k])) (hne : gl ≠ g) :
    Calls Try.prog 44 #[.pointer (some ⟨g, 0, none⟩), .slice (some ⟨gl, 0, none⟩) len cap] w fun e w' => ∃ r ∈ ls, e = .returned (.int .i64 r) ∧ Src w' g B A n c bs ∧ w.grownBy w' (some g) := by
  have Hs := Lib.hid hs
  have Hl := Lib.hid hl
  have Hc := Lib.hid hc
  have hm' : (len : Int) ≤ 1000 := by omega
  clear hs hl hc
  go_enter Try.func44, Try.ntmps44
  go_wp2_with fail
  refine (next_any g B n c A bs len _ Hs.out).mono ?_
  rintro e w' ⟨r, rfl, r0, r1, hs', hg⟩
  obtain ⟨k, rfl⟩ := Int.eq_ofNat_of_zero_le r0
  have hk : (k : Int) < len := r1 (by omega)
  have hkl : k < ls.length := by have := Hl.out; omega
  have hcell := (World.cell?_of_block (w := w) (a := ⟨gl, k, none⟩) (hg.block gl (World.block_lt_of_cell? w _ (Hc.out k hkl)) (fun e => hne (by injection e)))).trans (Hc.out k hkl)
  have Hmem : Hid (ls[k] ∈ ls) := Lib.hid (List.getElem_mem hkl)
  have Hs' := Lib.hid hs'
  have Hg := Lib.hid hg
  clear hs' hg r1
  generalize ls[k] = z at *
  go_wp2_with fail
  go_ret
  exact ⟨z, Hmem.out, rfl, Hs'.out, Hg.out⟩
end Go.Proofs.Ytjoflmclgiemoaa
