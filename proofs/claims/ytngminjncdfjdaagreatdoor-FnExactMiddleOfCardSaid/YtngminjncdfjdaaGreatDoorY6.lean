/- Texts of this seat, joined: Hc Hf Hg Hh Hi Hj Hk Hl Hm Hn Ho Dl Cd -/
import Derived.Test.YtngminjncdfjdaaGreatDoorY4
import Derived.Deep.AppendLies
import Derived.Test.YtngminjncdfjdaaGreatDoorY1
import Derived.Test.YtngminjncdfjdaaGreatDoorY3
import Derived.Test.YtngminjncdfjdaaGreatDoorRows
import Derived.ProofKit
import Derived.LaidMore
import Derived.OpenShut
import Derived.Lib.LaidTab
import Derived.Stop.Joined
/- Exact numbers, limited, of the program. -/
namespace Go.Proofs.YtngminjncdfjdaaGreatDoor
set_option maxRecDepth 100000
open Go.RowKit
set_option linter.unusedSimpArgs false
set_option linter.unusedVariables false

/-- the number fits -/
def okN (z E : Int) : Prop := (limbs (nz z).natAbs).length ≤ 100 ∧ -3000 ≤ nx z E ∧ nx z E ≤ 3000
open Classical in
noncomputable def fdZ (z E : Int) : Int := if okN z E then nz z else 0
open Classical in
noncomputable def fdX (z E : Int) : Int := if okN z E then nx z E else 0
open Classical in
noncomputable def fdE (z E : Int) : Int := if okN z E then 0 else 3
open Classical in
theorem fd_yes {z E : Int} (h : okN z E) : fdZ z E = nz z ∧ fdX z E = nx z E ∧ fdE z E = 0 := ⟨if_pos h, if_pos h, if_pos h⟩
open Classical in
theorem fd_no {z E : Int} (h : ¬ okN z E) : fdZ z E = 0 ∧ fdX z E = 0 ∧ fdE z E = 3 := ⟨if_neg h, if_neg h, if_neg h⟩
set_option maxHeartbeats 400000 in
theorem beyond_yes (x l : Int) (w : World) (h : x < -l ∨ l < x) (h1 : 0 ≤ l) (h2 : l ≤ 1000000) : Calls Tryz.prog 116 #[.int .i64 x, .int .i64 l] w fun e w' => e = .returned (.bool true) ∧ w = w' := by
  by_cases h3 : x < -l
  · have h4 : decide (x < -l) = true := decide_eq_true h3
    go_enter Tryz.func116, Tryz.ntmps116
    go_wp2_with fail
    go_ret
    exact ⟨rfl, rfl⟩
  · have h4 : decide (x < -l) = false := decide_eq_false h3
    have h5 : decide (l < x) = true := decide_eq_true (by omega)
    go_enter Tryz.func116, Tryz.ntmps116
    go_wp2_with fail
    go_ret
    exact ⟨rfl, rfl⟩
theorem beyond_no (x l : Int) (w : World) (h : -l ≤ x) (h' : x ≤ l) (h1 : 0 ≤ l) (h2 : l ≤ 1000000) : Calls Tryz.prog 116 #[.int .i64 x, .int .i64 l] w fun e w' => e = .returned (.bool false) ∧ w = w' := by
  have h4 : decide (x < -l) = false := decide_eq_false (by omega)
  have h5 : decide (l < x) = false := decide_eq_false (by omega)
  go_enter Tryz.func116, Tryz.ntmps116
  go_wp2_with fail
  go_ret
  exact ⟨rfl, rfl⟩

set_option maxHeartbeats 2000000 in
theorem implLimD_any (z S E : Int) (A : Option Addr) (n c : Nat) (w : World) (hz : ZV w z S A n c) (hm : (n : Int) ≤ 4000) (h1 : -1000000 ≤ E) (h2 : E ≤ 1000000) (hT : TabZ w) :
    Calls Tryz.prog 97 #[.agg #[.int .i64 S, .slice A n c, .int .i64 E]] w fun e w' => ∃ Sr Ar nr cr, e = .returned (.tuple #[.agg #[.int .i64 Sr, .slice Ar nr cr, .int .i64 (fdX z E)], .int .i64 (fdE z E)]) ∧ ZO w' w.heap.size w'.heap.size (fdZ z E) Sr Ar nr cr ∧ Below w.heap.size w w' := by
  have hst := store_int Tryz.prog
  have hst2 := store_slice Tryz.prog
  obtain ⟨w1, hw1, hb1, hb3, hb4⟩ := dbox_res w S A n c E 48 48
  have RsD1 := Lib.hid hb3
  have Hlt : Hid (w.heap.size + 1 < w1.heap.size) := Lib.hid hb3.2
  have Zv1 := Lib.hid (hz.next hb4)
  have Fr1 : Hid (Fr3 w1 w.heap.size) := Lib.hid (by rw [hw1]; exact (Fr3.new _ _ _ _ _ _ _).next (belAlloc1 _ _))
  have Hw := Lib.hid hw1
  have Bx1 := Lib.hid hb1
  have Bel1 := Lib.hid hb4
  have HS : Hid (S = z.sign) := Lib.hid hz.1
  have Hn : Hid ((limbs z.natAbs).length = n) := Lib.hid hz.2.1
  have Hm : Hid ((n : Int) ≤ 4000) := Lib.hid hm
  have Tb1 := Lib.hid (hT.next hb4)
  clear hT
  clear hz hw1 hb1 hb4 hb3
  go_enter Tryz.func97, Tryz.ntmps97
  go_wp2_with fail
  rw [← Hw.out]
  obtain ⟨⟨hBx0, hBx1, hBx2⟩, hBx3⟩ := Bx1.out
  obtain ⟨⟨hRsD0, hRsD1, hRsD2, hRsD3, hRsD4, hRsD5⟩, hRsD6⟩ := RsD1.out
  refine (implNormal_any z S E A n c _ Zv1.out (by have := Hm.out; omega) h1 h2 Tb1.out).mono ?_
  rintro e w2 ⟨S2, A2, n2, c2, rfl, hzo, hb⟩
  have Zo2 := Lib.hid hzo
  obtain ⟨E2, hE2⟩ : ∃ E2, E2 = nx z E := ⟨_, rfl⟩
  rw [← hE2]
  have HE2 := Lib.hid hE2
  have hnb := nx_bound Hn.out (by have := Hm.out; omega) h1 h2
  rw [← hE2] at hnb
  obtain ⟨hE2a, hE2b⟩ := hnb
  clear hzo hE2 Zv1 Tb1
  have Sz2 := Lib.hid (Below.size hb)
  have Bel2 := Lib.hid (belNext Bel1.out hb)
  have Bx2 := Lib.hid (Bx1.out.next hb)
  have RsD2 := Lib.hid (RsD1.out.next hb)
  have Fr2 := Lib.hid (Fr1.out.next hb)
  clear hb Bel1 Bx1 RsD1 Fr1 hBx0 hBx1 hBx2 hBx3 hRsD0 hRsD1 hRsD2 hRsD3 hRsD4 hRsD5 hRsD6
  obtain ⟨⟨hBx0, hBx1, hBx2⟩, hBx3⟩ := Bx2.out
  obtain ⟨⟨hRsD0, hRsD1, hRsD2, hRsD3, hRsD4, hRsD5⟩, hRsD6⟩ := RsD2.out
  obtain ⟨⟨hFr0, hFr1, hFr2⟩, _⟩ := Fr2.out
  go_wp2_with fail
  obtain ⟨w3, hw3⟩ : ∃ w3, w3 = st3 w2 w.heap.size S2 A2 n2 c2 E2 := ⟨_, rfl⟩
  have Bel3 : Hid (Below w.heap.size w w3) := Lib.hid (by rw [hw3]; exact belSt3 Bel2.out (Nat.le_refl _))
  have Bx3 : Hid (DBox w3 w.heap.size S2 A2 n2 c2 E2) := Lib.hid (by rw [hw3]; exact DBox.made Bx2.out.2 ⟨_, hBx0⟩ ⟨_, hBx1⟩ ⟨_, hBx2⟩)
  have RsD3 : Hid (DRes w3 (w.heap.size + 1)) := Lib.hid (by rw [hw3]; exact RsD2.out.st3_ (by omega))
  have Zo3 : Hid (ZO w3 w1.heap.size w2.heap.size (nz z) S2 A2 n2 c2) := Lib.hid (by rw [hw3]; exact Zo2.out.st3_ (.inl (by have := Hlt.out; omega)))
  have Sz3 : Hid (w2.heap.size = w3.heap.size) := Lib.hid (by rw [hw3, st3_size])
  unfold st3 at hw3
  rw [← hw3]
  clear hw3 hFr0 hFr1 hFr2
  clear hBx0 hBx1 hBx2 hBx3 hRsD0 hRsD1 hRsD2 hRsD3 hRsD4 hRsD5 hRsD6
  clear Bel2 Bx2 RsD2 Zo2 Fr2
  refine (tooLarge_any S2 A2 n2 c2 _).mono ?_
  rintro e w4 ⟨rfl, hb⟩
  have Sz4 := Lib.hid (Below.size hb)
  have Bel4 := Lib.hid (belNext Bel3.out hb)
  have Bx4 := Lib.hid (Bx3.out.next hb)
  have RsD4 := Lib.hid (RsD3.out.next hb)
  have Zo4 := Lib.hid (Zo3.out.next hb)
  clear hb Bel3 Bx3 RsD3 Zo3
  obtain ⟨⟨hBx0, hBx1, hBx2⟩, hBx3⟩ := Bx4.out
  obtain ⟨⟨hRsD0, hRsD1, hRsD2, hRsD3, hRsD4, hRsD5⟩, hRsD6⟩ := RsD4.out
  by_cases hl : n2 ≤ 100
  · have hi1 : decide ((100 : Int) < (n2 : Int)) = false := decide_eq_false (by omega)
    rw [hi1]
    clear hi1
    by_cases hr : -3000 ≤ E2 ∧ E2 ≤ 3000
    · obtain ⟨hr1, hr2⟩ := hr
      have Hf : Hid (okN z E) := Lib.hid ⟨by rw [Zo4.out.2.1]; exact hl, by rw [← HE2.out]; exact hr1, by rw [← HE2.out]; exact hr2⟩
      go_wp2_with fail
      refine (beyond_no E2 3000 _ hr1 hr2 (by omega) (by omega)).mono ?_
      rintro e w9 ⟨rfl, rfl⟩
      go_wp2_with fail
      refine bodyPost_ret (v := .tuple #[.agg #[.int .i64 S2, .slice A2 n2 c2, .int .i64 E2], .int .i64 0]) (by simp [results, Tryz.results97, go_sem, hRsD0, hRsD1, hRsD2]) rfl ⟨S2, A2, n2, c2, by rw [(fd_yes Hf.out).2.1, (fd_yes Hf.out).2.2, HE2.out], ?_, ?_⟩
      · rw [(fd_yes Hf.out).1]; exact (((Zo4.out.setCell (.inl (by have zz0 := Hlt.out; have zz1 := Sz2.out; have zz2 := Sz3.out; have zz3 := Sz4.out; first | omega | (simp; done) | (simp; omega))) _).setCell (.inl (by have zz0 := Hlt.out; have zz1 := Sz2.out; have zz2 := Sz3.out; have zz3 := Sz4.out; first | omega | (simp; done) | (simp; omega))) _).setCell (.inl (by have zz0 := Hlt.out; have zz1 := Sz2.out; have zz2 := Sz3.out; have zz3 := Sz4.out; first | omega | (simp; done) | (simp; omega))) _).wide (by have zz0 := Hlt.out; have zz1 := Sz2.out; have zz2 := Sz3.out; have zz3 := Sz4.out; first | omega | (simp; done) | (simp; omega)) (by have zz0 := Hlt.out; have zz1 := Sz2.out; have zz2 := Sz3.out; have zz3 := Sz4.out; first | omega | (simp; done) | (simp; omega)) (by have zz0 := Hlt.out; have zz1 := Sz2.out; have zz2 := Sz3.out; have zz3 := Sz4.out; first | omega | (simp; done) | (simp; omega))
      · exact ((Bel4.out.setCell (by have zz0 := Hlt.out; have zz1 := Sz2.out; have zz2 := Sz3.out; have zz3 := Sz4.out; first | omega | (simp; done) | (simp; omega)) _).setCell (by have zz0 := Hlt.out; have zz1 := Sz2.out; have zz2 := Sz3.out; have zz3 := Sz4.out; first | omega | (simp; done) | (simp; omega)) _).setCell (by have zz0 := Hlt.out; have zz1 := Sz2.out; have zz2 := Sz3.out; have zz3 := Sz4.out; first | omega | (simp; done) | (simp; omega)) _
    · have Hf : Hid (¬ okN z E) := Lib.hid (fun h => hr (by rw [HE2.out]; exact ⟨h.2.1, h.2.2⟩))
      have hr2 : E2 < -3000 ∨ 3000 < E2 := by omega
      clear hr
      go_wp2_with fail
      refine (beyond_yes E2 3000 _ hr2 (by omega) (by omega)).mono ?_
      rintro e w9 ⟨rfl, rfl⟩
      go_wp2_with fail
      refine bodyPost_ret (v := .tuple #[.agg #[.int .i64 0, .slice none 0 0, .int .i64 0], .int .i64 3]) (by simp [results, Tryz.results97, go_sem, hRsD0, hRsD1, hRsD2]) rfl ⟨0, none, 0, 0, by rw [(fd_no Hf.out).2.1, (fd_no Hf.out).2.2], ?_, ?_⟩
      · rw [(fd_no Hf.out).1]; exact ZO.zero (Nat.le_refl _)
      · exact ((Bel4.out.setCell (by have zz0 := Hlt.out; have zz1 := Sz2.out; have zz2 := Sz3.out; have zz3 := Sz4.out; first | omega | (simp; done) | (simp; omega)) _).setCell (by have zz0 := Hlt.out; have zz1 := Sz2.out; have zz2 := Sz3.out; have zz3 := Sz4.out; first | omega | (simp; done) | (simp; omega)) _).setCell (by have zz0 := Hlt.out; have zz1 := Sz2.out; have zz2 := Sz3.out; have zz3 := Sz4.out; first | omega | (simp; done) | (simp; omega)) _
  · have hi1 : decide ((100 : Int) < (n2 : Int)) = true := decide_eq_true (by omega)
    rw [hi1]
    clear hi1
    have Hf : Hid (¬ okN z E) := Lib.hid (fun h => hl (by have := h.1; rw [Zo4.out.2.1] at this; exact this))
    clear hl
    go_wp2_with fail
    refine bodyPost_ret (v := .tuple #[.agg #[.int .i64 0, .slice none 0 0, .int .i64 0], .int .i64 3]) (by simp [results, Tryz.results97, go_sem, hRsD0, hRsD1, hRsD2]) rfl ⟨0, none, 0, 0, by rw [(fd_no Hf.out).2.1, (fd_no Hf.out).2.2], ?_, ?_⟩
    · rw [(fd_no Hf.out).1]; exact ZO.zero (Nat.le_refl _)
    · exact ((Bel4.out.setCell (by have zz0 := Hlt.out; have zz1 := Sz2.out; have zz2 := Sz3.out; have zz3 := Sz4.out; first | omega | (simp; done) | (simp; omega)) _).setCell (by have zz0 := Hlt.out; have zz1 := Sz2.out; have zz2 := Sz3.out; have zz3 := Sz4.out; first | omega | (simp; done) | (simp; omega)) _).setCell (by have zz0 := Hlt.out; have zz1 := Sz2.out; have zz2 := Sz3.out; have zz3 := Sz4.out; first | omega | (simp; done) | (simp; omega)) _
end Go.Proofs.YtngminjncdfjdaaGreatDoor
/- Bits, shifts up, of the model. -/
namespace Go.Proofs.YtngminjncdfjdaaGreatDoor
set_option maxRecDepth 100000
open Go.RowKit
set_option linter.unusedSimpArgs false
set_option linter.unusedVariables false

theorem and_one (t : Nat) (ht : t < 9223372036854775808) : bits .and .i64 (t : Int) 1 = ((t % 2 : Nat) : Int) := by
  have h := and_low t 1 ht (by omega)
  simpa using h
/-- a bit -/
def bt (v k : Nat) : Nat := v / 2 ^ k % 2
theorem bit_limb {v k m q : Nat} (hk : k = 24 * m + q) (hq : q < 24) (hm : m < (limbs v).length) : bt v k = (limbs v)[m] / 2 ^ q % 2 := by
  unfold bt
  have h1 := V_drop_div (Lim_limbs v) (m := m) (by omega)
  rw [V_drop hm, V_limbs, Bs_pow] at h1
  rw [hk, Nat.pow_add, ← Nat.div_div_eq_div_mul, ← h1]
  generalize (limbs v)[m] = x
  generalize V ((limbs v).drop (m + 1)) = r
  have e : Bs * r = 2 ^ q * (2 * (2 ^ (23 - q) * r)) := by
    have e3 : Bs = 2 ^ q * (2 * 2 ^ (23 - q)) := by
      rw [← Nat.pow_succ', ← Nat.pow_add]
      have : q + (23 - q).succ = 24 := by omega
      rw [this]; rfl
    conv => lhs; rw [e3]
    simp only [Nat.mul_assoc]
  rw [e, Nat.add_mul_div_left _ _ (Nat.two_pow_pos q)]
  omega
theorem bit_far {v k n : Nat} (hn : (limbs v).length = n) (h : n ≤ k / 24) : bt v k = 0 := by
  unfold bt
  have h1 := limbs_len_le.1 (show (limbs v).length ≤ n by omega)
  rw [Bs_pow] at h1
  have h2 : 2 ^ (24 * n) ≤ 2 ^ k := Nat.pow_le_pow_right (by omega) (by omega)
  rw [Nat.div_eq_of_lt (by omega)]

set_option maxHeartbeats 1000000 in
theorem specBit_any (z S : Int) (A : Option Addr) (n c k : Nat) (w : World) (hz : ZV w z S A n c) (hm : (n : Int) ≤ 100000) (hk : (k : Int) ≤ 10000000) :
    Calls Tryz.prog 108 #[.agg #[.int .i64 S, .slice A n c], .int .i64 k] w fun e w' => e = .returned (.int .i64 ((bt z.natAbs k : Nat) : Int)) ∧ Below w.heap.size w w' := by
  have Hn := Lib.hid hz.2.1
  obtain ⟨m, hmm⟩ : ∃ m, m = k / 24 := ⟨_, rfl⟩
  obtain ⟨q, hqq⟩ : ∃ q, q = k % 24 := ⟨_, rfl⟩
  have hkm : (k : Int) / 24 = m := by omega
  have hkq : (k : Int) % 24 = q := by omega
  have hq23 : (q : Int) ≤ 23 := by omega
  have Hk : Hid (k = 24 * m + q ∧ m = k / 24) := Lib.hid (by omega)
  clear hmm hqq
  by_cases hlt : m < n
  · have hkx : m < (limbs z.natAbs).length := by rw [Hn.out]; exact hlt
    have hr := hz.rd
    obtain ⟨a, ha, hab⟩ := hr.some_ (by rw [vs_len]; omega)
    subst ha
    have hcx := hr.cell (k := m) (by rw [vs_len]; exact hkx)
    rw [vs_get hkx] at hcx
    have hx := (Lim_limbs z.natAbs).getElem hkx
    have Hb := Lib.hid (bit_limb Hk.out.1 (by omega) hkx)
    generalize (limbs z.natAbs)[m] = x at *
    have hx1 : (x : Int) ≤ 16777215 := by rw [Bs_eq] at hx; omega
    have hx0 : (0 : Int) ≤ x := by omega
    have hd : (x : Int) / 2 ^ q = ((x / 2 ^ q : Nat) : Int) := by rw [pow_cast, Int.natCast_ediv]
    have hle : x / 2 ^ q ≤ x := Nat.div_le_self _ _
    obtain ⟨y, hy⟩ : ∃ y, y = x / 2 ^ q := ⟨_, rfl⟩
    rw [← hy] at hd hle Hb
    have Hand := Lib.hid (and_one y (by omega))
    have Hd := Lib.hid hd
    have hmn : (m : Int) < n := by omega
    have hnm : ¬ (n : Int) ≤ m := by omega
    have hab2 : (a.add m).block < w.heap.size := by rw [addr_block]; exact hab
    clear hy hd hx hz hr hkx hle
    go_enter Tryz.func108, Tryz.ntmps108
    go_wp2_with fail
    go_ret
    exact ⟨ret_int (by rw [Hd.out, Hand.out, Hb.out]), (Below.refl _ _).alloc (Nat.le_refl _) _⟩
  · have Hb := Lib.hid (bit_far (k := k) Hn.out (by rw [← Hk.out.2]; omega))
    have hnm : (n : Int) ≤ m := by omega
    clear hz hlt
    go_enter Tryz.func108, Tryz.ntmps108
    go_wp2_with fail
    go_ret
    exact ⟨ret_int (by rw [Hb.out]; rfl), (Below.refl _ _).alloc (Nat.le_refl _) _⟩

set_option maxHeartbeats 1000000 in
theorem specTwos_any (z S : Int) (A : Option Addr) (n c : Nat) (w : World) (hz : ZV w z S A n c) (h0 : z ≠ 0) (hm : (n : Int) ≤ 4000) :
    Calls Tryz.prog 84 #[.agg #[.int .i64 S, .slice A n c]] w fun e w' => e = .returned (.int .i64 (tz z.natAbs : Nat)) ∧ Below w.heap.size w w' := by
  have hst := store_int Tryz.prog
  have hst2 := store_slice Tryz.prog
  have Ht : Hid (tz z.natAbs ≤ 96000) := Lib.hid (by have := tz_le hz.2.1; omega)
  have Hz := Lib.hid hz
  have H0 := Lib.hid h0
  clear hz h0
  go_enter Tryz.func84, Tryz.ntmps84
  go_wp2_with fail
  obtain ⟨w1, hw1⟩ : ∃ w1, w1 = w.alloc (.cells #[.int .i64 S, .slice A n c] 46) := ⟨_, rfl⟩
  rw [← hw1]
  have Bx1 : Hid (Box w1 w.heap.size S A n c) := Lib.hid (by rw [hw1]; exact Box.new _ _ _ _ _ _)
  have Bel1 : Hid (Below w.heap.size w w1) := Lib.hid (by rw [hw1]; exact belAlloc1 _ _)
  clear hw1
  go_loopw [3] (fun i wr => ∃ k : Nat, k ≤ tz z.natAbs ∧ i = .int .i64 k ∧ Below w1.heap.size w1 wr) (fun i _ => tz z.natAbs - (intOf i).toNat)
  case atStart => exact ⟨0, Nat.zero_le _, rfl, Below.refl _ _⟩
  case round =>
    obtain ⟨k, hk, rfl, hb⟩ := hrel
    have hkb : (k : Int) ≤ 96000 := by have := Ht.out; omega
    have Hk := Lib.hid hk
    have Hb := Lib.hid hb
    obtain ⟨⟨hx1, hx2⟩, hx3⟩ := Bx1.out.next hb
    clear hk hb
    go_wp2_with fail
    refine (specBit_any z S A n c k _ (Hz.out.next (belNext Bel1.out Hb.out)) (by omega) (by omega)).mono ?_
    rintro e w3 ⟨rfl, hb3⟩
    have Hb3 : Hid (Below w1.heap.size w1 w3) := Lib.hid (belNext Hb.out hb3)
    clear hb3 hx1 hx2 hx3
    by_cases hbit : bt z.natAbs k = 0
    · have Hlt : Hid (k < tz z.natAbs) := Lib.hid (by
        rcases Nat.lt_or_ge k (tz z.natAbs) with h | h
        · exact h
        · exfalso
          have e : tz z.natAbs = k := by have := Hk.out; omega
          have := bit_at (v := z.natAbs) (by have := H0.out; omega)
          rw [e] at this
          unfold bt at hbit
          omega)
      rw [hbit]
      clear hbit
      go_wp2_with fail
      go_roundw
      case rel => exact ⟨k + 1, Hlt.out, by go_num, Hb3.out⟩
      case measure => simp [intOf]; have := Hlt.out; omega
    · have Hfin : Hid (tz z.natAbs = k) := Lib.hid (tz_of_bit Hk.out hbit)
      have hb2 : ((((bt z.natAbs k : Nat) : Int)) == 0) = false := beq_false_of_ne (by omega)
      generalize ((bt z.natAbs k : Nat) : Int) = y at *
      clear hbit
      go_wp2_with fail
      go_ret
      exact ⟨ret_int (by rw [Hfin.out]), belNext Bel1.out Hb3.out⟩

theorem shl_wrap24 (x q : Nat) (hq : q ≤ 24) (hx : x < Bs) : wrap64 ((x : Int) * 2 ^ q) = ((x * 2 ^ q : Nat) : Int) := by
  have h23 : 2 ^ q ≤ 2 ^ 24 := Nat.pow_le_pow_right (by omega) hq
  have h1 : x * 2 ^ q ≤ 16777215 * 2 ^ 24 := Nat.mul_le_mul (by rw [Bs_eq] at hx; omega) h23
  have e : (x : Int) * 2 ^ q = ((x * 2 ^ q : Nat) : Int) := by rw [Int.natCast_mul, Int.natCast_pow]; rfl
  rw [e]
  exact wrap64_small (by omega) (by omega)

theorem cc_le {c q : Nat} (hc : c < 2 ^ q) (hq : q ≤ 23) : (c : Int) ≤ 8388607 := by
  have h23 : 2 ^ q ≤ 2 ^ 23 := Nat.pow_le_pow_right (by omega) hq
  have h24 : (2 : Nat) ^ 23 = 8388608 := by decide
  omega
theorem limb_le {x : Nat} (h : x < Bs) : (x : Int) ≤ 16777215 := by rw [Bs_eq] at h; omega
theorem left_nums {c q x : Nat} (hc : c < 2 ^ q) (hq : q ≤ 23) (hx : x < Bs) : ∃ t y : Nat, t = c + x * 2 ^ q ∧ (c : Int) + y = (t : Nat) ∧ (t : Int) % 16777216 = ((t % Bs : Nat) : Int) ∧ (t : Int) / 16777216 = ((t / Bs : Nat) : Int) ∧ (0 : Int) ≤ t ∧ (t : Int) ≤ 140737488355328 ∧ (0 : Int) ≤ y ∧ (y : Int) ≤ 140737479966720 ∧ (((t / Bs : Nat) : Int) ≤ 8388608 ∧ ((t % Bs : Nat) : Int) ≤ 16777215) ∧ wrap64 ((x : Int) * 2 ^ q) = (y : Nat) := by
  have hsw := shl_wrap x q hq hx
  have h23 : 2 ^ q ≤ 2 ^ 23 := Nat.pow_le_pow_right (by omega) hq
  have h1 : x * 2 ^ q ≤ 16777215 * 2 ^ 23 := Nat.mul_le_mul (by rw [Bs_eq] at hx; omega) h23
  obtain ⟨y, hy⟩ : ∃ y, y = x * 2 ^ q := ⟨_, rfl⟩
  rw [← hy] at hsw h1 ⊢
  have h24 : (2 : Nat) ^ 23 = 8388608 := by decide
  rw [h24] at h1 h23
  refine ⟨c + y, y, rfl, by omega, by rw [Bs_eq]; omega, by rw [Bs_eq]; omega, by omega, by omega, by omega, by omega, by rw [Bs_eq]; omega, hsw⟩

/-- a digit more -/
theorem left_step {xs ys : List Nat} {m i c q t : Nat} (hx : i < xs.length) (hl : ys.length = m + i) (hv : V ys + Bs ^ (m + i) * c = Bs ^ m * (2 ^ q * V (xs.take i))) (ht : t = c + xs[i] * 2 ^ q) :
    V (ys ++ [t % Bs]) + Bs ^ (m + (i + 1)) * (t / Bs) = Bs ^ m * (2 ^ q * V (xs.take (i + 1))) := by
  have h := carry_step (x := xs[i] * 2 ^ q) (m + i) hv
  rw [V_append, hl, ht]
  have e : V [(c + xs[i] * 2 ^ q) % Bs] = (c + xs[i] * 2 ^ q) % Bs := by simp [V]
  rw [e, ← Nat.add_assoc, h, V_take_succ hx, Nat.mul_add, Nat.mul_add, Nat.pow_add]
  congr 1
  rw [Nat.mul_assoc, Nat.mul_comm (xs[i]), Nat.mul_left_comm (Bs ^ i)]
theorem left_end {v n m q k : Nat} {ys : List Nat} {cc : Nat} (hn : (limbs v).length = n) (hk : k = 24 * m + q) (hl : ys.length = m + n) (hv : V ys + Bs ^ (m + n) * cc = Bs ^ m * (2 ^ q * V ((limbs v).take n))) : V (ys ++ [cc]) = 2 ^ k * v := by
  rw [List.take_of_length_le (by omega), V_limbs] at hv
  rw [V_append, hl]
  have e : V [cc] = cc := by simp [V]
  rw [e, hv, hk, Nat.pow_add, Bs_pow, Nat.mul_assoc]

set_option maxHeartbeats 2000000 in
theorem specLeft_any (z S : Int) (A : Option Addr) (n c k : Nat) (w : World) (hz : ZV w z S A n c) (hm : (n : Int) ≤ 4000) (hk : (k : Int) ≤ 100000) :
    Calls Tryz.prog 64 #[.agg #[.int .i64 S, .slice A n c], .int .i64 k] w fun e w' => ∃ Sr Ar nr cr, e = .returned (.agg #[.int .i64 Sr, .slice Ar nr cr]) ∧ ZO w' w.heap.size w'.heap.size ((2 : Int) ^ k * z) Sr Ar nr cr ∧ Below w.heap.size w w' := by
  have hst := store_int Tryz.prog
  have hst2 := store_slice Tryz.prog
  obtain ⟨i0, hi0, hz0, hz1, hz2⟩ := info_parts infoI
  obtain ⟨w1, hw1, hb1, hb3, hb4⟩ := box_res w S A n c 46 46
  have Hz := Lib.hid hz
  have HS : Hid (S = z.sign) := Lib.hid hz.1
  have Hn : Hid ((limbs z.natAbs).length = n) := Lib.hid hz.2.1
  have Hw := Lib.hid hw1
  have Bx1 := Lib.hid hb1
  have Rs1 := Lib.hid hb3
  have Bel1 := Lib.hid hb4
  obtain ⟨m, hmm⟩ : ∃ m, m = k / 24 := ⟨_, rfl⟩
  obtain ⟨q, hqq⟩ : ∃ q, q = k % 24 := ⟨_, rfl⟩
  have hkm : (k : Int) / 24 = m := by omega
  have hkq : (k : Int) % 24 = q := by omega
  have hq23 : (q : Int) ≤ 23 := by omega
  have hmb : (m : Int) ≤ 5000 := by omega
  have Hk : Hid (k = 24 * m + q) := Lib.hid (by omega)
  have Hlt : Hid (w.heap.size + 1 < w1.heap.size) := Lib.hid hb3.2
  have hbytes : i0.bytes * m ≤ 281474976710656 := by rw [hz2]; omega
  clear hz hw1 hb1 hb3 hb4 hmm hqq
  go_enter Tryz.func64, Tryz.ntmps64
  go_wp2_with (refine wpList_make_full _ rfl _ _ _ rfl _ 2 i0 _ 1 Tryz.underlying44 hi0 hz0 hz1 _ _ _ _ m rfl rfl rfl rfl hbytes (by unfold maxLen; omega) (Nat.le_refl _) ?_; intro w2 hown hg)
  rw [made_zeros, ← Hw.out] at hown
  rw [← Hw.out] at hg
  have hs1 : w1.heap.size = w.heap.size + 1 + 1 := by rw [Hw.out]; simp
  have Hown : Hid (OwnL w2 w1.heap.size (.slice (some ⟨w.heap.size + 1 + 1, 0, none⟩) m m) (List.replicate m 0)) := Lib.hid (by unfold OwnL; rw [List.length_replicate, ← hs1]; exact hown)
  have Hb2 : Hid (Below w1.heap.size w1 w2) := Lib.hid ((Below.refl _ _).grown hg (Nat.le_refl _) (by simp))
  clear hown hg hbytes hs1
  go_loopw [5, 6, 7] (fun l cv iv wr => ∃ (i cc : Nat) (ys : List Nat), i ≤ n ∧ iv = .int .i64 i ∧ cv = .int .i64 cc ∧ cc < 2 ^ q ∧ ys.length = m + i ∧ Lim ys ∧ V ys + Bs ^ (m + i) * cc = Bs ^ m * (2 ^ q * V ((limbs z.natAbs).take i)) ∧ OwnL wr w1.heap.size l ys ∧ Below w1.heap.size w1 wr) (fun _ _ iv _ => n - (intOf iv).toNat)
  case atStart => exact ⟨0, 0, List.replicate m 0, Nat.zero_le _, rfl, rfl, Nat.two_pow_pos _, by simp, Lim_zeros _, by rw [V_replicate]; simp [V], Hown.out, Hb2.out⟩
  case round =>
    clear Hown Hb2
    obtain ⟨i, cc, ys, hi, rfl, rfl, hcc, hyl, hlim, hyv, hown, hb⟩ := hrel
    obtain ⟨A2, c2, hA, hyc⟩ := hown.form
    subst hA
    have Hcc := Lib.hid hcc
    have Hyl := Lib.hid hyl
    have Hlim := Lib.hid hlim
    have Hyv := Lib.hid hyv
    have Hown := Lib.hid hown
    have Hb := Lib.hid hb
    have Hyc := Lib.hid hyc
    obtain ⟨⟨hx1, hx2⟩, hx3⟩ := Bx1.out.next hb
    have hcc1 := cc_le hcc (by omega)
    have hcc0 : (0 : Int) ≤ cc := Int.natCast_nonneg _
    clear hcc hyv
    have hyb : (ys.length : Int) ≤ 9000 := by omega
    have Ha1 : Hid (ys.length + 1 ≤ maxLen) := Lib.hid (by unfold maxLen; omega)
    have Ha2 : Hid ((ys.length + 1) * 8 ≤ 140737488355328) := Lib.hid (by omega)
    have Ha3 : Hid (w1.heap.size ≤ wr.heap.size + 1) := Lib.hid (by have := hb.size; omega)
    clear hyl hlim hown hb hyc
    by_cases hlt : i < n
    · have hkx : i < (limbs z.natAbs).length := by rw [Hn.out]; exact hlt
      have hra := (Hz.out.next (belNext Bel1.out Hb.out)).rd
      obtain ⟨a, ha, hab⟩ := hra.some_ (by rw [vs_len]; omega)
      subst ha
      have hcx := hra.cell (k := i) (by rw [vs_len]; exact hkx)
      rw [vs_get hkx] at hcx
      have Hxb := Lib.hid ((Lim_limbs z.natAbs).getElem hkx)
      have Hin : Hid (i + 1 ≤ n) := Lib.hid (by omega)
      obtain ⟨t, y, ht, hti, hmod, hdiv, ht0, ht1, hy0, hy1, ⟨he1, hd1⟩, hsw⟩ := left_nums (c := cc) (q := q) Hcc.out (by omega) Hxb.out
      have Hs := Lib.hid (left_step hkx Hyl.out Hyv.out ht)
      have hx0 : (0 : Int) ≤ ((limbs z.natAbs)[i] : Nat) := Int.natCast_nonneg _
      have hxm := limb_le Hxb.out
      have Hcar := Lib.hid (shl_carry Hcc.out Hxb.out)
      rw [← ht] at Hcar
      generalize (limbs z.natAbs)[i] = x at *
      have Hd : Hid (t % Bs < Bs) := Lib.hid (Nat.mod_lt _ (by rw [Bs_eq]; omega))
      obtain ⟨d, hd⟩ : ∃ d, d = t % Bs := ⟨_, rfl⟩
      obtain ⟨e, he⟩ : ∃ e, e = t / Bs := ⟨_, rfl⟩
      rw [← hd] at hmod Hs Hd hd1
      rw [← he] at hdiv Hs Hcar he1
      have he0 : (0 : Int) ≤ e := Int.natCast_nonneg _
      clear hra hd he ht hkx
      go_wp2_with (at_builtin; refine wpList_append_own _ rfl (.tmp 29) (.tmp 32) _ rfl w1.heap.size 2 i0 _ 1 8 Tryz.underlying44 hi0 hz0 hz1 hz2 rfl (by omega) (.slice A2 ys.length c2) ys.length (vs ys) rfl (World.ownsRow.alloc Hown.out _) ⟨wr.heap.size, 0, none⟩ 1 1 (vs [d]) rfl (by rw [vs_len]; rfl) (new_cells wr d _) (vs_one · [d]) Ha1.out Ha2.out (by simp; exact Ha3.out) ?_; intro v2 w2 hown2 hg2 _)
      clear hsw
      have Hown2 : Hid (OwnL w2 w1.heap.size v2 (ys ++ [d])) := Lib.hid (by
        unfold OwnL
        rw [List.length_append, vs_append]
        exact hown2)
      have Hb2 : Hid (Below w1.heap.size w1 w2) := Lib.hid ((Hb.out.alloc Hb.out.size _).grown hg2 (by have := Hb.out.size; simp; omega) (fun k hk => (Hown.out.lt k hk).1))
      clear hown2 hg2
      go_roundw
      case rel => exact ⟨i + 1, e, ys ++ [d], Hin.out, by go_num, rfl, Hcar.out, by rw [List.length_append, Hyl.out]; simp; omega, Hlim.out.append (Lim_one Hd.out), Hs.out, Hown2.out, Hb2.out⟩
      case measure => simp [intOf]; omega
    · have hin : i = n := by omega
      subst hin
      have Hfin : Hid (V (ys ++ [cc]) = 2 ^ k * z.natAbs) := Lib.hid (left_end Hn.out Hk.out Hyl.out Hyv.out)
      have Hccb : Hid (cc < Bs) := Lib.hid (by rw [Bs_eq]; omega)
      clear hlt hx1 hx2 hx3
      obtain ⟨⟨hx1, hx2⟩, hx3⟩ := Bx1.out.next Hb.out
      go_wp2_with fail
      refine wp_region_held_drew (S := fun w' => w'.cell? ⟨w.heap.size, 0, none⟩ = some (.int .i64 S)) (by kernel_rfl) hx1 (fun hHeld => ?_)
      clear hx1 hx2 hx3
      refine wpAnyH_take (i := 0) (v := ?_) rfl (by kernel_rfl) (by kernel_rfl) (by kernel_rfl) (fun _ _ _ h => h) (Or.inl ⟨by rfl, ?_⟩) (by assumption) ?_
      rotate_left
      · (intro w hSw; (try dsimp only at hSw); go_simp; (try with_reducible rfl))
      try simp only [Act.put, List.setIfInBounds_toArray, List.set_cons_zero, List.set_cons_succ]
      refine wpAnyH_take (i := 1) (v := ?_) rfl (by kernel_rfl) (by kernel_rfl) (by kernel_rfl) (fun _ _ _ h => h) (Or.inl ⟨by rfl, ?_⟩) (by assumption) ?_
      rotate_left
      · (intro w hSw; (try dsimp only at hSw); go_simp; (try with_reducible rfl))
      try simp only [Act.put, List.setIfInBounds_toArray, List.set_cons_zero, List.set_cons_succ]
      refine wpAnyH_take (i := 2) (v := ?_) rfl (by kernel_rfl) (by kernel_rfl) (by kernel_rfl) (fun _ _ _ h => h) (Or.inl ⟨by rfl, ?_⟩) (by assumption) ?_
      rotate_left
      · (intro w hSw; (try dsimp only at hSw); go_simp; (try with_reducible rfl))
      try simp only [Act.put, List.setIfInBounds_toArray, List.set_cons_zero, List.set_cons_succ]
      refine wpAnyH_take (i := 3) (v := ?_) rfl (by kernel_rfl) (by kernel_rfl) (by kernel_rfl) (fun _ _ _ h => h) (Or.inl ⟨by rfl, ?_⟩) (by assumption) ?_
      rotate_left
      · (intro w hSw; (try dsimp only at hSw); go_simp; (try with_reducible rfl))
      try simp only [Act.put, List.setIfInBounds_toArray, List.set_cons_zero, List.set_cons_succ]
      refine wpAnyH_ready (rs := [4]) (by kernel_rfl) (by simp) ?_
      refine AllReadyH.cons rfl (fun K hK => ?_) AllReadyH.nil
      go_simp
      obtain ⟨w3, hw3⟩ : ∃ w3, w3 = (wr.alloc (.cells #[.int .i64 cc] 2)).drew := ⟨_, rfl⟩
      have hb3 : Below wr.heap.size wr w3 := by rw [hw3]; exact (belAlloc1 _ _).drew
      have Hnews : Hid (∀ j u, (vs [cc])[j]? = some u → w3.cell? ((⟨wr.heap.size, 0, none⟩ : Addr).add j) = some u) := Lib.hid (by rw [hw3]; exact new_cells wr cc _)
      have Hown3 : Hid (OwnL w3 w1.heap.size (.slice A2 ys.length c2) ys) := Lib.hid (by rw [hw3]; exact World.ownsRow.alloc Hown.out _)
      have Hb3 : Hid (Below w1.heap.size w1 w3) := Lib.hid (belNext Hb.out hb3)
      rw [← hw3]
      refine hK.out _ _ (Bx1.out.next Hb3.out).1.1 (fun hHeld => ?_)
      clear hK K hw3 hb3
      try simp only [Act.put, List.setIfInBounds_toArray, List.set_cons_zero, List.set_cons_succ]
      refine wpAnyH_ready (rs := [5]) (by kernel_rfl) (by simp) ?_
      refine AllReadyH.cons rfl (fun K hK => ?_) AllReadyH.nil
      refine step_append_lies _ (by rfl) _ _ _ (by rfl) w1.heap.size 2 i0 _ 1 8 Tryz.underlying44 hi0 hz0 hz1 hz2 rfl (by omega) (.slice A2 ys.length c2) ys.length (vs ys) (by rfl) Hown3.out ⟨wr.heap.size, 0, none⟩ 1 1 (vs [cc]) (by rfl) (by rw [vs_len]; rfl) Hnews.out (vs_one · [cc]) (by omega) Ha1.out Ha2.out Hb3.out.size _ rfl ?_
      intro g cap w4 hown4 hgrow _ _
      have Hown4 : Hid (OwnL w4 w1.heap.size (.slice (some ⟨g, 0, none⟩) (ys ++ [cc]).length cap) (ys ++ [cc])) := Lib.hid (by
        unfold OwnL
        rw [List.length_append, vs_append]
        exact hown4)
      have Hb4 : Hid (Below w1.heap.size w1 w4) := Lib.hid (Hb3.out.grown hgrow Hb3.out.size (fun k hk => (Hown3.out.lt k hk).1))
      have Hcap : Hid ((((ys ++ [cc]).length : Nat) : Int) ≤ cap) := Lib.hid (by
        obtain ⟨A', c', e, h⟩ := Hown4.out.form
        injection e with _ _ e3
        omega)
      refine hK.out _ _ (Bx1.out.next Hb4.out).1.1 (fun hHeld => ?_)
      clear hK K hown4 hgrow
      try simp only [Act.put, List.setIfInBounds_toArray, List.set_cons_zero, List.set_cons_succ]
      refine wpAnyH_ready (rs := [6]) (by kernel_rfl) (by simp) ?_
      refine AllReadyH.cons rfl (fun K hK => ?_) AllReadyH.nil
      go_simp
      have hyl : (ys ++ [cc]).length = ys.length + 1 := by simp
      rw [← hyl]
      clear hyl
      refine (make_any S (some ⟨g, 0, none⟩) (ys ++ [cc]).length cap w4.heap.size (ys ++ [cc]) w4 Hown4.out.rd (Nat.le_refl _) rfl (Hlim.out.append (Lim_one Hccb.out)) Hcap.out (by have := Ha2.out; simp; omega)).mono ?_
      rintro e w5 ⟨val, rfl, hv, hb5⟩
      rw [Hfin.out] at hv
      obtain ⟨S9, A9, n9, c9, rfl, hzo⟩ := Wz.zo ((hv.z (sgn_or HS.out (fun e => by rw [e]; simp))).cast_ (z' := (2 : Int) ^ k * z) (by rw [sh_up HS.out, shZ_up (by omega), Int.toNat_natCast])) (Nat.le_refl _)
      have Zo5 := Lib.hid hzo
      have Hb5 : Hid (Below w1.heap.size w1 w5) := Lib.hid (belNext Hb4.out hb5)
      refine hK.out _ _ (Bx1.out.next Hb5.out).1.1 (fun hHeld => ?_)
      have Hs4 : Hid (w1.heap.size ≤ w4.heap.size) := Lib.hid Hb4.out.size
      have Hs5 : Hid (w1.heap.size ≤ w5.heap.size) := Lib.hid Hb5.out.size
      clear hK K hv hzo hb5
      try simp only [Act.put, List.setIfInBounds_toArray, List.set_cons_zero, List.set_cons_succ]
      obtain ⟨⟨r1, r2, r3, r4⟩, r5⟩ := Rs1.out.next Hb5.out
      refine wpAnyH_ready (rs := [7]) (by kernel_rfl) (by simp) ?_
      refine AllReadyH.cons rfl (fun K hK => ?_) AllReadyH.nil
      go_simp
      refine hK.out _ _ (((Bx1.out.next Hb5.out).keep (by simp) _).keep (by simp) _).1.1 (fun hHeld => ?_)
      clear hK K hHeld
      try simp only [Act.put, List.setIfInBounds_toArray, List.set_cons_zero, List.set_cons_succ]
      refine wpAnyH_done (by kernel_rfl) ?_ _
      go_wp2_with fail
      refine bodyPost_ret (v := .agg #[.int .i64 S9, .slice A9 n9 c9]) (by simp [results, Tryz.results64, go_sem, r1, r2]) rfl ⟨S9, A9, n9, c9, rfl, ?_, ?_⟩
      · exact ((Zo5.out.setCell (.inl (by have zz0 := Hlt.out; have zz1 := Hs4.out; have zz2 := Hs5.out; first | omega | (simp; done) | (simp; omega))) _).setCell (.inl (by have zz0 := Hlt.out; have zz1 := Hs4.out; have zz2 := Hs5.out; first | omega | (simp; done) | (simp; omega))) _).wide (by have zz0 := Hlt.out; have zz1 := Hs4.out; have zz2 := Hs5.out; first | omega | (simp; done) | (simp; omega)) (by simp) (by simp)
      · exact ((belNext Bel1.out Hb5.out).setCell (by simp; try omega) _).setCell (by simp; try omega) _
end Go.Proofs.YtngminjncdfjdaaGreatDoor
/- Cuts of a whole number, of the model. -/
namespace Go.Proofs.YtngminjncdfjdaaGreatDoor
set_option maxRecDepth 100000
open Go.RowKit
set_option linter.unusedSimpArgs false
set_option linter.unusedVariables false

/-- the absolute value without its last bits, with the sign -/
def cutZ (z : Int) (k : Nat) : Int := z.sign * ((z.natAbs / 2 ^ k : Nat) : Int)
theorem cutZ_nz (z : Int) : cutZ z (tz z.natAbs) = nz z := rfl
theorem cut_div {x Y q : Nat} (hx : x < Bs) (hq : q ≤ 23) : (x + Bs * Y) / 2 ^ q = x / 2 ^ q + 2 ^ (24 - q) * Y ∧ ((x + Bs * Y) / 2 ^ q) / Bs = Y / 2 ^ q := by
  have e : Bs * Y = 2 ^ q * (2 ^ (24 - q) * Y) := by
    rw [← Nat.mul_assoc, ← Nat.pow_add]
    have : q + (24 - q) = 24 := by omega
    rw [this]; rfl
  refine ⟨by rw [e, Nat.add_mul_div_left _ _ (Nat.two_pow_pos q)], ?_⟩
  rw [Nat.div_div_eq_div_mul, Nat.mul_comm (2 ^ q) Bs, ← Nat.div_div_eq_div_mul, Nat.add_mul_div_left _ _ (by rw [Bs_eq]; omega), Nat.div_eq_of_lt hx, Nat.zero_add]
theorem cut_mod {x x' Y q : Nat} (hx : x < Bs) (hq : q ≤ 23) : ((x + Bs * (x' + Bs * Y)) / 2 ^ q) % Bs = (x / 2 ^ q + x' * 2 ^ (24 - q)) % Bs := by
  rw [(cut_div hx hq).1, Nat.mul_add, Nat.mul_comm (2 ^ (24 - q)) x', Nat.mul_left_comm, ← Nat.add_assoc, Nat.add_mul_mod_self_left]
theorem cut_last {x q : Nat} (hx : x < Bs) (hq : q ≤ 23) : ((x + Bs * 0) / 2 ^ q) % Bs = x / 2 ^ q := by
  rw [Nat.mul_zero, Nat.add_zero]
  exact Nat.mod_eq_of_lt (Nat.lt_of_le_of_lt (Nat.div_le_self _ _) hx)
/-- a digit more -/
theorem cut_step {xs ys : List Nat} {m j q d R : Nat} (hx : m + j < xs.length) (hl : ys.length = j) (hlim : Lim xs) (hq : q ≤ 23) (hv : V ys + Bs ^ j * (V (xs.drop (m + j)) / 2 ^ q) = R) (hd : d = (xs[m + j] + Bs * V (xs.drop (m + j + 1))) / 2 ^ q % Bs) :
    V (ys ++ [d]) + Bs ^ (j + 1) * (V (xs.drop (m + (j + 1))) / 2 ^ q) = R := by
  rw [V_drop hx] at hv
  have h2 := (cut_div (Y := V (xs.drop (m + j + 1))) (hlim.getElem hx) hq).2
  generalize (xs[m + j] + Bs * V (xs.drop (m + j + 1))) / 2 ^ q = X at *
  have e : V [d] = d := by simp [V]
  rw [V_append, hl, e, ← Nat.add_assoc m j 1, ← h2, Nat.pow_succ, Nat.mul_assoc, Nat.add_assoc, ← Nat.mul_add, hd, Nat.mod_add_div]
  exact hv
theorem cut_end {v n m q k j : Nat} {ys : List Nat} (hn : (limbs v).length = n) (hk : k = 24 * m + q) (hj : n ≤ m + j) (hv : V ys + Bs ^ j * (V ((limbs v).drop (m + j)) / 2 ^ q) = V ((limbs v).drop m) / 2 ^ q) : V ys = v / 2 ^ k := by
  rw [List.drop_of_length_le (by omega)] at hv
  have e : V ys = V ((limbs v).drop m) / 2 ^ q := by rw [← hv]; simp [V]
  rw [e]
  rcases Nat.lt_or_ge n m with h | h
  · rw [List.drop_of_length_le (by omega)]
    have h1 := limbs_len_le.1 (show (limbs v).length ≤ n by omega)
    rw [Bs_pow] at h1
    have h2 : 2 ^ (24 * n) ≤ 2 ^ k := Nat.pow_le_pow_right (by omega) (by omega)
    rw [Nat.div_eq_of_lt (Nat.lt_of_lt_of_le h1 h2)]
    simp [V]
  · rw [V_drop_div (Lim_limbs v) (by omega), V_limbs, hk, Nat.pow_add, ← Nat.div_div_eq_div_mul, Bs_pow]
theorem cut_nums {x x' q : Nat} (hx : x < Bs) (hx' : x' < Bs) (hq : q ≤ 23) : ∃ y1 d : Nat, (x : Int) / 2 ^ q = (y1 : Nat) ∧ (0 : Int) ≤ y1 ∧ (y1 : Int) ≤ 16777215 ∧ d = (x / 2 ^ q + x' * 2 ^ (24 - q)) % Bs ∧ d < Bs ∧ (wrap64 ((y1 : Int) + wrap64 ((x' : Int) * 2 ^ (24 - q)))).tmod 16777216 = (d : Nat) := by
  have hsw := shl_wrap24 x' (24 - q) (by omega) hx'
  have h23 : 2 ^ (24 - q) ≤ 2 ^ 24 := Nat.pow_le_pow_right (by omega) (by omega)
  have h1 : x' * 2 ^ (24 - q) ≤ 16777215 * 2 ^ 24 := Nat.mul_le_mul (by rw [Bs_eq] at hx'; omega) h23
  have h3 : x / 2 ^ q ≤ x := Nat.div_le_self _ _
  have h4 : (x : Int) / 2 ^ q = ((x / 2 ^ q : Nat) : Int) := by rw [pow_cast, Int.natCast_ediv]
  rw [hsw]
  clear hsw
  obtain ⟨y1, hy1⟩ : ∃ y1, y1 = x / 2 ^ q := ⟨_, rfl⟩
  obtain ⟨y2, hy2⟩ : ∃ y2, y2 = x' * 2 ^ (24 - q) := ⟨_, rfl⟩
  rw [← hy1] at h3 h4 ⊢
  rw [← hy2] at h1 ⊢
  have h24 : (2 : Nat) ^ 24 = 16777216 := by decide
  rw [h24] at h1
  rw [Bs_eq] at hx ⊢
  clear h23 hy1 hy2 hx'
  refine ⟨y1, (y1 + y2) % 16777216, h4, by omega, by omega, rfl, by omega, ?_⟩
  rw [wrap64_small (by omega) (by omega), Int.tmod_eq_emod_of_nonneg (by omega)]
  omega
theorem shr_small {x q : Nat} (hx : x < Bs) : ∃ y1 : Nat, y1 = x / 2 ^ q ∧ (x : Int) / 2 ^ q = (y1 : Nat) ∧ (0 : Int) ≤ y1 ∧ (y1 : Int) ≤ 16777215 := by
  have h3 : x / 2 ^ q ≤ x := Nat.div_le_self _ _
  rw [Bs_eq] at hx
  have h4 : (x : Int) / 2 ^ q = ((x / 2 ^ q : Nat) : Int) := by rw [pow_cast, Int.natCast_ediv]
  obtain ⟨y1, hy1⟩ : ∃ y1, y1 = x / 2 ^ q := ⟨_, rfl⟩
  rw [← hy1] at h3 h4 ⊢
  exact ⟨y1, rfl, h4, by omega, by omega⟩

set_option maxHeartbeats 4000000 in
theorem specCut_any (z S : Int) (A : Option Addr) (n c k : Nat) (w : World) (hz : ZV w z S A n c) (hm : (n : Int) ≤ 4000) (hk : (k : Int) ≤ 100000) :
    Calls Tryz.prog 85 #[.agg #[.int .i64 S, .slice A n c], .int .i64 k] w fun e w' => ∃ Sr Ar nr cr, e = .returned (.agg #[.int .i64 Sr, .slice Ar nr cr]) ∧ ZO w' w.heap.size w'.heap.size (cutZ z k) Sr Ar nr cr ∧ Below w.heap.size w w' := by
  have hst := store_int Tryz.prog
  have hst2 := store_slice Tryz.prog
  obtain ⟨i0, hi0, hz0, hz1, hz2⟩ := info_parts infoI
  obtain ⟨w1, hw1, hb1, hb3, hb4⟩ := box_res w S A n c 46 46
  have Hz := Lib.hid hz
  have HS : Hid (S = z.sign) := Lib.hid hz.1
  have Hn : Hid ((limbs z.natAbs).length = n) := Lib.hid hz.2.1
  have Hw := Lib.hid hw1
  have Bx1 := Lib.hid hb1
  have Rs1 := Lib.hid hb3
  have Bel1 := Lib.hid hb4
  obtain ⟨m, hmm⟩ : ∃ m, m = k / 24 := ⟨_, rfl⟩
  obtain ⟨q, hqq⟩ : ∃ q, q = k % 24 := ⟨_, rfl⟩
  have hkm : (k : Int) / 24 = m := by omega
  have hkq : (k : Int) % 24 = q := by omega
  have hq23 : (q : Int) ≤ 23 := by omega
  have hmb : (m : Int) ≤ 5000 := by omega
  obtain ⟨r, hrr⟩ : ∃ r, r = 24 - q := ⟨_, rfl⟩
  have hr24 : (24 : Int) - q = r := by omega
  have hr1 : (r : Int) ≤ 24 := by omega
  have Hr := Lib.hid hrr
  have Hk : Hid (k = 24 * m + q ∧ q ≤ 23) := Lib.hid (by omega)
  have Hlt : Hid (w.heap.size + 1 < w1.heap.size) := Lib.hid hb3.2
  have hs1 : w1.heap.size = w.heap.size + 1 + 1 := by rw [hw1]; simp
  have Hown0 : Hid (OwnL (w1.alloc (.cells #[] 2)) w1.heap.size (.slice (some ⟨w.heap.size + 1 + 1, 0, none⟩) 0 0) []) := Lib.hid (by
    have h := own_empty w1 2
    rw [hs1] at h ⊢
    exact h)
  clear hz hw1 hb1 hb3 hb4 hmm hqq hrr hs1
  go_enter Tryz.func85, Tryz.ntmps85
  go_wp2_with fail
  rw [← Hw.out]
  go_loopw [5, 6, 7] (fun l iv _ wr => ∃ (j : Nat) (ys : List Nat), (m + j ≤ n ∨ j = 0) ∧ iv = .int .i64 ((m + j : Nat) : Int) ∧ ys.length = j ∧ Lim ys ∧ V ys + Bs ^ j * (V ((limbs z.natAbs).drop (m + j)) / 2 ^ q) = V ((limbs z.natAbs).drop m) / 2 ^ q ∧ OwnL wr w1.heap.size l ys ∧ Below w1.heap.size w1 wr) (fun _ iv _ _ => n - (intOf iv).toNat)
  case atStart => exact ⟨0, [], .inr rfl, rfl, rfl, Lim_nil, by simp [V], Hown0.out, belAlloc1 _ _⟩
  case round =>
    clear Hown0
    obtain ⟨j, ys, hj, rfl, hyl, hlim, hyv, hown, hb⟩ := hrel
    obtain ⟨A2, c2, hA, hyc⟩ := hown.form
    subst hA
    have Hyl := Lib.hid hyl
    have Hlim := Lib.hid hlim
    have Hyv := Lib.hid hyv
    have Hown := Lib.hid hown
    have Hb := Lib.hid hb
    have Hyc := Lib.hid hyc
    obtain ⟨⟨hx1, hx2⟩, hx3⟩ := Bx1.out.next hb
    obtain ⟨i, hi⟩ : ∃ i, i = m + j := ⟨_, rfl⟩
    have Ha1 : Hid (ys.length + 1 ≤ maxLen) := Lib.hid (by unfold maxLen; omega)
    have Ha2 : Hid ((ys.length + 1) * 8 ≤ 140737488355328) := Lib.hid (by omega)
    have Ha3 : Hid (w1.heap.size ≤ wr.heap.size + 1) := Lib.hid (by have := hb.size; omega)
    have hib : (i : Int) ≤ 9000 := by omega
    have hii0 : (0 : Int) ≤ i := Int.natCast_nonneg _
    rw [← hi] at hyv Hyv ⊢
    have Hi := Lib.hid hi
    clear hyl hlim hyv hown hb hyc hj
    by_cases hlt : i < n
    · have hkx : i < (limbs z.natAbs).length := by rw [Hn.out]; exact hlt
      have hra := (Hz.out.next (belNext Bel1.out Hb.out)).rd
      obtain ⟨a, ha, hab⟩ := hra.some_ (by rw [vs_len]; omega)
      subst ha
      have hcx := hra.cell (k := i) (by rw [vs_len]; exact hkx)
      rw [vs_get hkx] at hcx
      have Hxb := Lib.hid ((Lim_limbs z.natAbs).getElem hkx)
      have Hin : Hid (m + (j + 1) ≤ n ∧ i + 1 = m + (j + 1)) := Lib.hid (by omega)
      have hxm := limb_le Hxb.out
      have hx0 : (0 : Int) ≤ ((limbs z.natAbs)[i] : Nat) := Int.natCast_nonneg _
      by_cases hlt2 : i + 1 < n
      · obtain ⟨i', hi'⟩ : ∃ i', i' = i + 1 := ⟨_, rfl⟩
        rw [← hi'] at hlt2
        have Hi' := Lib.hid hi'
        have hkx2 : i' < (limbs z.natAbs).length := by rw [Hn.out]; exact hlt2
        have hcy := hra.cell (k := i') (by rw [vs_len]; exact hkx2)
        rw [vs_get hkx2] at hcy
        have Hxb2 := Lib.hid ((Lim_limbs z.natAbs).getElem hkx2)
        have hxm2 := limb_le Hxb2.out
        have hlt3 : (i' : Int) < n := by omega
        have hin2 : (i : Int) + 1 = (i' : Nat) := by omega
        have hin3 : (0 : Int) ≤ i' := Int.natCast_nonneg _
        have Hm2 : Hid (n - i' < n - i) := Lib.hid (by omega)
        have Hi2 : Hid (i' = m + (j + 1)) := Lib.hid (by omega)
        clear hi'
        have hx02 : (0 : Int) ≤ ((limbs z.natAbs)[i'] : Nat) := Int.natCast_nonneg _
        obtain ⟨y1, d, hy1, hb1, hb2, hd, hd1, hx5⟩ := cut_nums (q := q) Hxb.out Hxb2.out Hk.out.2
        have Hs := Lib.hid (cut_step (d := d) (Hi.out ▸ hkx) Hyl.out (Lim_limbs _) Hk.out.2 (Hi.out ▸ Hyv.out) (by
          rw [hd, V_drop (show m + j + 1 < (limbs z.natAbs).length by have := Hi.out; omega), cut_mod (by have := Hxb.out; simp only [Hi.out] at this; exact this) Hk.out.2]
          simp only [Hi'.out, Hi.out]))
        rw [← Hr.out] at hx5
        have HX := Lib.hid hx5
        have Hd := Lib.hid hd1
        clear hx5 hd hd1
        generalize (limbs z.natAbs)[i] = x at *
        generalize (limbs z.natAbs)[i'] = x' at *
        have hd0 : (0 : Int) ≤ d := Int.natCast_nonneg _
        clear hra hkx hkx2 hi
        go_wp2_with (at_builtin; rw [HX.out]; refine wpList_append_own _ rfl (.tmp 47) (.tmp 49) _ rfl w1.heap.size 2 i0 _ 1 8 Tryz.underlying44 hi0 hz0 hz1 hz2 rfl (by omega) (.slice A2 ys.length c2) ys.length (vs ys) rfl (World.ownsRow.alloc Hown.out _) ⟨wr.heap.size, 0, none⟩ 1 1 (vs [d]) rfl (by rw [vs_len]; rfl) (new_cells wr d _) (vs_one · [d]) Ha1.out Ha2.out (by simp; exact Ha3.out) ?_; intro v2 w2 hown2 hg2 _)
        have Hown2 : Hid (OwnL w2 w1.heap.size v2 (ys ++ [d])) := Lib.hid (by
          unfold OwnL
          rw [List.length_append, vs_append]
          exact hown2)
        have Hb2 : Hid (Below w1.heap.size w1 w2) := Lib.hid ((Hb.out.alloc Hb.out.size _).grown hg2 (by have := Hb.out.size; simp; omega) (fun k hk => (Hown.out.lt k hk).1))
        clear hown2 hg2
        go_roundw
        case rel => exact ⟨j + 1, ys ++ [d], .inl Hin.out.1, by rw [← Hi2.out], by rw [List.length_append, Hyl.out]; simp, Hlim.out.append (Lim_one Hd.out), Hs.out, Hown2.out, Hb2.out⟩
        case measure => simp [intOf]; exact Hm2.out
      · have hkl : ¬ (i : Int) + 1 < n := by omega
        obtain ⟨y1, hy, hy1, hb1, hb2⟩ := shr_small (q := q) Hxb.out
        have Hs := Lib.hid (cut_step (d := y1) (Hi.out ▸ hkx) Hyl.out (Lim_limbs _) Hk.out.2 (Hi.out ▸ Hyv.out) (by
          rw [List.drop_of_length_le (show (limbs z.natAbs).length ≤ m + j + 1 by rw [Hn.out]; have := Hi.out; omega), V_nil, cut_last (by have := Hxb.out; simp only [Hi.out] at this; exact this) Hk.out.2, hy]
          simp only [Hi.out]))
        have Hd : Hid (y1 < Bs) := Lib.hid (by rw [hy]; exact Nat.lt_of_le_of_lt (Nat.div_le_self _ _) Hxb.out)
        generalize (limbs z.natAbs)[i] = x at *
        clear hra hkx hi hy
        go_wp2_with (at_builtin; refine wpList_append_own _ rfl (.tmp 47) (.tmp 49) _ rfl w1.heap.size 2 i0 _ 1 8 Tryz.underlying44 hi0 hz0 hz1 hz2 rfl (by omega) (.slice A2 ys.length c2) ys.length (vs ys) rfl (World.ownsRow.alloc Hown.out _) ⟨wr.heap.size, 0, none⟩ 1 1 (vs [y1]) rfl (by rw [vs_len]; rfl) (new_cells wr y1 _) (vs_one · [y1]) Ha1.out Ha2.out (by simp; exact Ha3.out) ?_; intro v2 w2 hown2 hg2 _)
        have Hown2 : Hid (OwnL w2 w1.heap.size v2 (ys ++ [y1])) := Lib.hid (by
          unfold OwnL
          rw [List.length_append, vs_append]
          exact hown2)
        have Hb2 : Hid (Below w1.heap.size w1 w2) := Lib.hid ((Hb.out.alloc Hb.out.size _).grown hg2 (by have := Hb.out.size; simp; omega) (fun k hk => (Hown.out.lt k hk).1))
        clear hown2 hg2
        go_roundw
        case rel => exact ⟨j + 1, ys ++ [y1], .inl Hin.out.1, by rw [← Hin.out.2]; go_num, by rw [List.length_append, Hyl.out]; simp, Hlim.out.append (Lim_one Hd.out), Hs.out, Hown2.out, Hb2.out⟩
        case measure => simp [intOf]; omega
    · have hge : ¬ (i : Int) < n := by omega
      have Hfin : Hid (V ys = z.natAbs / 2 ^ k) := Lib.hid (cut_end Hn.out Hk.out.1 (by have := Hi.out; omega) (Hi.out ▸ Hyv.out))
      have Hjb : Hid ((ys.length : Int) ≤ 1000000) := Lib.hid (by have := Hyl.out; have := Hi.out; omega)
      clear hi hlt
      go_wp2_with fail
      refine (make_any S A2 ys.length c2 wr.heap.size ys wr Hown.out.rd (Nat.le_refl _) rfl Hlim.out (by have := Hyc.out; omega) Hjb.out).mono ?_
      rintro e w5 ⟨val, rfl, hv, hb5⟩
      rw [Hfin.out] at hv
      obtain ⟨S9, A9, n9, c9, rfl, hzo⟩ := Wz.zo ((hv.z (sgn_or HS.out (fun e => by rw [e]; simp))).cast_ (z' := cutZ z k) (by rw [HS.out]; rfl)) (Nat.le_refl _)
      have Zo5 := Lib.hid hzo
      have Hb5 : Hid (Below w1.heap.size w1 w5) := Lib.hid (belNext Hb.out hb5)
      have Hs4 : Hid (w1.heap.size ≤ wr.heap.size) := Lib.hid Hb.out.size
      obtain ⟨⟨r1, r2, r3, r4⟩, r5⟩ := Rs1.out.next Hb5.out
      clear hv hzo hb5 hx1 hx2 hx3
      go_wp2_with fail
      refine bodyPost_ret (v := .agg #[.int .i64 S9, .slice A9 n9 c9]) (by simp [results, Tryz.results85, go_sem, r1, r2]) rfl ⟨S9, A9, n9, c9, rfl, ?_, ?_⟩
      · exact ((Zo5.out.setCell (.inl (by have := Hlt.out; have := Hs4.out; first | omega | (simp; done) | (simp; omega))) _).setCell (.inl (by have := Hlt.out; have := Hs4.out; first | omega | (simp; done) | (simp; omega))) _).wide (by have := Hlt.out; have := Hs4.out; omega) (by simp) (by simp)
      · exact ((belNext Bel1.out Hb5.out).setCell (by simp; try omega) _).setCell (by simp; try omega) _
end Go.Proofs.YtngminjncdfjdaaGreatDoor
/- What an exact number is, of the program and of the model. -/
namespace Go.Proofs.YtngminjncdfjdaaGreatDoor
set_option maxRecDepth 100000
open Go.RowKit
set_option linter.unusedSimpArgs false
set_option linter.unusedVariables false

open Classical in
/-- a sign, limbs and an exponent that are an exact number -/
noncomputable def isD (S : Int) (xs : List Int) (E : Int) : Bool := decide (∃ z, isZ z S xs ∧ okD z E)
end Go.Proofs.YtngminjncdfjdaaGreatDoor
/- The model's numbers without their last twos, limited; ranges; shifts. -/
namespace Go.Proofs.YtngminjncdfjdaaGreatDoor
set_option maxRecDepth 100000
open Go.RowKit
set_option linter.unusedSimpArgs false
set_option linter.unusedVariables false

set_option maxHeartbeats 2000000 in
theorem specMakeD_any (z S E : Int) (A : Option Addr) (n c : Nat) (w : World) (hz : ZV w z S A n c) (hm : (n : Int) ≤ 4000) (h1 : -1000000 ≤ E) (h2 : E ≤ 1000000) :
    Calls Tryz.prog 62 #[.agg #[.int .i64 S, .slice A n c], .int .i64 E] w fun e w' => ∃ Sr Ar nr cr, e = .returned (.agg #[.int .i64 Sr, .slice Ar nr cr, .int .i64 (nx z E)]) ∧ ZO w' w.heap.size w'.heap.size (nz z) Sr Ar nr cr ∧ Below w.heap.size w w' := by
  have hst := store_int Tryz.prog
  have hst2 := store_slice Tryz.prog
  obtain ⟨w1, hw1⟩ : ∃ w1, w1 = (w.alloc (.cells #[.int .i64 S, .slice A n c] 46)).alloc (.cells #[.int .i64 0, .slice none 0 0, .int .i64 0] 48) := ⟨_, rfl⟩
  have Bx1 : Hid (Box w1 w.heap.size S A n c) := Lib.hid (by rw [hw1]; exact (Box.new _ _ _ _ _ _).next (belAlloc1 _ _))
  have RsD1 : Hid (DRes w1 (w.heap.size + 1)) := Lib.hid (by rw [hw1]; have h := DRes.new (w.alloc (.cells #[.int .i64 S, .slice A n c] 46)) 48; simpa using h)
  have Bel1 : Hid (Below w.heap.size w w1) := Lib.hid (by rw [hw1]; exact belNext (belAlloc1 _ _) (belAlloc1 _ _))
  have Hlt : Hid (w.heap.size + 1 < w1.heap.size) := Lib.hid RsD1.out.2
  have Hz := Lib.hid hz
  have HS : Hid (S = z.sign) := Lib.hid hz.1
  have Hm := Lib.hid hm
  have Hw := Lib.hid hw1
  clear hz hw1
  by_cases h0 : z = 0
  · have hs0 : S = 0 := (sign_eq_zero HS.out).2 h0
    have H0 := Lib.hid h0
    subst hs0
    clear h0
    go_enter Tryz.func62, Tryz.ntmps62
    go_wp2_with fail
    rw [← Hw.out]
    obtain ⟨⟨hBx0, hBx1⟩, hBx2⟩ := Bx1.out
    obtain ⟨⟨hRsD0, hRsD1, hRsD2, hRsD3, hRsD4, hRsD5⟩, hRsD6⟩ := RsD1.out
    refine bodyPost_ret (v := .agg #[.int .i64 0, .slice none 0 0, .int .i64 0]) (by simp [results, Tryz.results62, go_sem, hRsD0, hRsD1, hRsD2]) rfl ⟨0, none, 0, 0, by rw [H0.out, nx_zero], by rw [H0.out, nz_zero]; exact ZO.zero (Nat.le_refl _), Bel1.out⟩
  · have hs0 : (S == 0) = false := beq_false_of_ne (fun e => h0 ((sign_eq_zero HS.out).1 e))
    have H0 := Lib.hid h0
    have Hnx : Hid (nx z E = E + (tz z.natAbs : Nat)) := Lib.hid (nx_ne h0)
    have Ht : Hid ((tz z.natAbs : Int) ≤ 96000) := Lib.hid (by have := tz_le Hz.out.2.1; have := Hm.out; omega)
    clear h0
    go_enter Tryz.func62, Tryz.ntmps62
    go_wp2_with fail
    rw [← Hw.out]
    obtain ⟨⟨hBx0, hBx1⟩, hBx2⟩ := Bx1.out
    obtain ⟨⟨hRsD0, hRsD1, hRsD2, hRsD3, hRsD4, hRsD5⟩, hRsD6⟩ := RsD1.out
    go_wp2_with fail
    refine (specTwos_any z S A n c _ (Hz.out.next Bel1.out) H0.out Hm.out).mono ?_
    rintro e w2 ⟨rfl, hb⟩
    have Sz2 := Lib.hid (Below.size hb)
    have Bel2 := Lib.hid (belNext Bel1.out hb)
    have Bx2 := Lib.hid (Bx1.out.next hb)
    have RsD2 := Lib.hid (RsD1.out.next hb)
    clear hb Bel1 Bx1 RsD1 hBx0 hBx1 hBx2 hRsD0 hRsD1 hRsD2 hRsD3 hRsD4 hRsD5 hRsD6
    obtain ⟨⟨hBx0, hBx1⟩, hBx2⟩ := Bx2.out
    obtain ⟨⟨hRsD0, hRsD1, hRsD2, hRsD3, hRsD4, hRsD5⟩, hRsD6⟩ := RsD2.out
    obtain ⟨zt, hzt⟩ : ∃ zt, zt = tz z.natAbs := ⟨_, rfl⟩
    rw [← hzt] at Ht Hnx ⊢
    have Hzt := Lib.hid hzt
    have hzt1 : (zt : Int) ≤ 96000 := Ht.out
    clear hzt
    go_wp2_with fail
    refine (specCut_any z S A n c zt _ (Hz.out.next Bel2.out) Hm.out (by omega)).mono ?_
    rintro e w3 ⟨S2, A2, n2, c2, rfl, hzo, hb⟩
    have Zo3 := Lib.hid (hzo.cast_ (z' := nz z) (by rw [Hzt.out, cutZ_nz]))
    clear hzo
    have Sz3 := Lib.hid (Below.size hb)
    have Bel3 := Lib.hid (belNext Bel2.out hb)
    have Bx3 := Lib.hid (Bx2.out.next hb)
    have RsD3 := Lib.hid (RsD2.out.next hb)
    clear hb Bel2 Bx2 RsD2 hBx0 hBx1 hBx2 hRsD0 hRsD1 hRsD2 hRsD3 hRsD4 hRsD5 hRsD6
    obtain ⟨⟨hBx0, hBx1⟩, hBx2⟩ := Bx3.out
    obtain ⟨⟨hRsD0, hRsD1, hRsD2, hRsD3, hRsD4, hRsD5⟩, hRsD6⟩ := RsD3.out
    go_wp2_with fail
    refine bodyPost_ret (v := .agg #[.int .i64 S2, .slice A2 n2 c2, .int .i64 (E + (zt : Int))]) (by simp [results, Tryz.results62, go_sem, hRsD0, hRsD1, hRsD2]) rfl ⟨S2, A2, n2, c2, by rw [Hnx.out], ?_, ?_⟩
    · exact (((Zo3.out.setCell (.inl (by have zz0 := Hlt.out; have zz1 := Sz2.out; have zz2 := Sz3.out; first | omega | (simp; done) | (simp; omega))) _).setCell (.inl (by have zz0 := Hlt.out; have zz1 := Sz2.out; have zz2 := Sz3.out; first | omega | (simp; done) | (simp; omega))) _).setCell (.inl (by have zz0 := Hlt.out; have zz1 := Sz2.out; have zz2 := Sz3.out; first | omega | (simp; done) | (simp; omega))) _).wide (by have zz0 := Hlt.out; have zz1 := Sz2.out; have zz2 := Sz3.out; first | omega | (simp; done) | (simp; omega)) (by have zz0 := Hlt.out; have zz1 := Sz2.out; have zz2 := Sz3.out; first | omega | (simp; done) | (simp; omega)) (by have zz0 := Hlt.out; have zz1 := Sz2.out; have zz2 := Sz3.out; first | omega | (simp; done) | (simp; omega))
    · exact ((Bel3.out.setCell (by have zz0 := Hlt.out; have zz1 := Sz2.out; have zz2 := Sz3.out; first | omega | (simp; done) | (simp; omega)) _).setCell (by have zz0 := Hlt.out; have zz1 := Sz2.out; have zz2 := Sz3.out; first | omega | (simp; done) | (simp; omega)) _).setCell (by have zz0 := Hlt.out; have zz1 := Sz2.out; have zz2 := Sz3.out; first | omega | (simp; done) | (simp; omega)) _

end Go.Proofs.YtngminjncdfjdaaGreatDoor
/- ShiftWhole and MakeDyadic, of the program and of the model. -/
namespace Go.Proofs.YtngminjncdfjdaaGreatDoor
set_option maxRecDepth 100000
open Go.RowKit
set_option linter.unusedSimpArgs false
set_option linter.unusedVariables false

/-- what ShiftWhole gives -/
noncomputable def shRZ (S : Int) (xs : List Int) (k : Int) : Int := if isW S xs = true then if -5000 ≤ k ∧ k ≤ 5000 then fitZ (shZ (S * magW S xs) k) else 0 else 0
noncomputable def shRE (S : Int) (xs : List Int) (k : Int) : Int := if isW S xs = true then if -5000 ≤ k ∧ k ≤ 5000 then fitE (shZ (S * magW S xs) k) else 2 else 1
/-- what MakeDyadic gives -/
noncomputable def mkRZ (S : Int) (xs : List Int) (k : Int) : Int := if isW S xs = true then if -6000 ≤ k ∧ k ≤ 6000 then fdZ (S * magW S xs) k else 0 else 0
noncomputable def mkRX (S : Int) (xs : List Int) (k : Int) : Int := if isW S xs = true then if -6000 ≤ k ∧ k ≤ 6000 then fdX (S * magW S xs) k else 0 else 0
noncomputable def mkRE (S : Int) (xs : List Int) (k : Int) : Int := if isW S xs = true then if -6000 ≤ k ∧ k ≤ 6000 then fdE (S * magW S xs) k else 2 else 1
theorem nz_le (z : Int) : (nz z).natAbs ≤ z.natAbs := by rw [(nz_facts z).2]; exact Nat.div_le_self _ _

end Go.Proofs.YtngminjncdfjdaaGreatDoor
/- Opposites, ranges, floors of exact numbers, of the model. -/
namespace Go.Proofs.YtngminjncdfjdaaGreatDoor
set_option maxRecDepth 100000
open Go.RowKit
set_option linter.unusedSimpArgs false
set_option linter.unusedVariables false

/-- the code of an exact number and an integer in a range -/
noncomputable def rgE (S : Int) (xs : List Int) (E k lo hi : Int) : Int := if isD S xs E = true then if lo ≤ k ∧ k ≤ hi then 0 else 2 else 1
end Go.Proofs.YtngminjncdfjdaaGreatDoor
/- Both numbers, products of exact numbers, of the model. -/
namespace Go.Proofs.YtngminjncdfjdaaGreatDoor
set_option maxRecDepth 100000
open Go.RowKit
set_option linter.unusedSimpArgs false
set_option linter.unusedVariables false

/-- both are exact numbers -/
noncomputable def bD (S : Int) (xs : List Int) (E S' : Int) (xs' : List Int) (E' : Int) : Bool := isD S xs E && isD S' xs' E'
noncomputable def bDE (S : Int) (xs : List Int) (E S' : Int) (xs' : List Int) (E' : Int) : Int := if bD S xs E S' xs' E' = true then 0 else 1
end Go.Proofs.YtngminjncdfjdaaGreatDoor
/- Sums, differences, comparing of exact numbers, of the model. -/
namespace Go.Proofs.YtngminjncdfjdaaGreatDoor
set_option maxRecDepth 100000
open Go.RowKit
set_option linter.unusedSimpArgs false
set_option linter.unusedVariables false

theorem specLeftI_any (z S k : Int) (A : Option Addr) (n c : Nat) (w : World) (hz : ZV w z S A n c) (hm : (n : Int) ≤ 4000) (hk0 : 0 ≤ k) (hk : k ≤ 100000) :
    Calls Tryz.prog 64 #[.agg #[.int .i64 S, .slice A n c], .int .i64 k] w fun e w' => ∃ Sr Ar nr cr, e = .returned (.agg #[.int .i64 Sr, .slice Ar nr cr]) ∧ ZO w' w.heap.size w'.heap.size ((2 : Int) ^ k.toNat * z) Sr Ar nr cr ∧ Below w.heap.size w w' := by
  obtain ⟨m, rfl⟩ : ∃ m : Nat, k = m := ⟨k.toNat, by omega⟩
  have h := specLeft_any z S A n c m w hz hm hk
  rw [Int.toNat_natCast]
  exact h
theorem left_len {z k : Int} {n n2 : Nat} (hn : (limbs z.natAbs).length = n) (hk : k ≤ 8000) (e : (limbs ((2 : Int) ^ k.toNat * z).natAbs).length = n2) : n2 ≤ n + 340 := by
  rw [abs_pow_mul] at e
  have := shl_len hn k.toNat
  omega
theorem sum_sg {a b : Int} {n n' : Nat} (hn : (limbs a.natAbs).length = n) (hn' : (limbs b.natAbs).length = n') : (limbs (a + b).natAbs).length ≤ n + n' + 1 := by
  have h := sum_len (sg_sign a) (sg_sign b) hn hn'
  rwa [Int.sign_mul_natAbs, Int.sign_mul_natAbs] at h

set_option maxHeartbeats 4000000 in
theorem specAddD_any (z S E z' S' E' : Int) (A A' : Option Addr) (n c n' c' : Nat) (w : World) (hz : ZV w z S A n c) (hz' : ZV w z' S' A' n' c') (hm : (n : Int) ≤ 1000) (hm' : (n' : Int) ≤ 1000) (h1 : -4000 ≤ E) (h2 : E ≤ 4000) (h3 : -4000 ≤ E') (h4 : E' ≤ 4000) :
    Calls Tryz.prog 41 #[.agg #[.int .i64 S, .slice A n c, .int .i64 E], .agg #[.int .i64 S', .slice A' n' c', .int .i64 E']] w fun e w' => ∃ Sr Ar nr cr, e = .returned (.agg #[.int .i64 Sr, .slice Ar nr cr, .int .i64 (nx (sumZ z E z' E') (min E E'))]) ∧ ZO w' w.heap.size w'.heap.size (nz (sumZ z E z' E')) Sr Ar nr cr ∧ Below w.heap.size w w' := by
  have hst := store_int Tryz.prog
  have hst2 := store_slice Tryz.prog
  obtain ⟨w1, hw1, hb1, hb2, hb3, hb4⟩ := dbox2_res w S S' A A' n n' c c' E E' 48 48 48
  have RsD1 := Lib.hid hb3
  have Hlt : Hid (w.heap.size + 1 + 1 < w1.heap.size) := Lib.hid hb3.2
  have Hz := Lib.hid hz
  have Hz' := Lib.hid hz'
  have Hw := Lib.hid hw1
  have Bx1 := Lib.hid hb1
  have By1 := Lib.hid hb2
  have Bel1 := Lib.hid hb4
  have Hm : Hid ((n : Int) ≤ 1000 ∧ (n' : Int) ≤ 1000) := Lib.hid ⟨hm, hm'⟩
  have HS : Hid (S = z.sign) := Lib.hid hz.1
  have HS' : Hid (S' = z'.sign) := Lib.hid hz'.1
  clear hz hz' hw1 hb1 hb2 hb3 hb4
  by_cases h0 : z = 0
  · have hs0 : S = 0 := (sign_eq_zero HS.out).2 h0
    have H0 := Lib.hid h0
    subst hs0
    clear h0
    go_enter Tryz.func41, Tryz.ntmps41
    go_wp2_with fail
    rw [← Hw.out]
    obtain ⟨⟨hBx0, hBx1, hBx2⟩, hBx3⟩ := Bx1.out
    obtain ⟨⟨hBy0, hBy1, hBy2⟩, hBy3⟩ := By1.out
    obtain ⟨⟨hRsD0, hRsD1, hRsD2, hRsD3, hRsD4, hRsD5⟩, hRsD6⟩ := RsD1.out
    refine (specMakeD_any z' S' E' A' n' c' _ (Hz'.out.next Bel1.out) (by have := Hm.out; omega) (by omega) (by omega)).mono ?_
    rintro e w2 ⟨S9, A9, n9, c9, rfl, hzo, hb⟩
    have Zp2 := Lib.hid hzo
    clear hzo
    have Sz2 := Lib.hid (Below.size hb)
    have Bel2 := Lib.hid (belNext Bel1.out hb)
    have Bx2 := Lib.hid (Bx1.out.next hb)
    have By2 := Lib.hid (By1.out.next hb)
    have RsD2 := Lib.hid (RsD1.out.next hb)
    clear hb Bel1 Bx1 By1 RsD1 hBx0 hBx1 hBx2 hBx3 hBy0 hBy1 hBy2 hBy3 hRsD0 hRsD1 hRsD2 hRsD3 hRsD4 hRsD5 hRsD6
    obtain ⟨⟨hBx0, hBx1, hBx2⟩, hBx3⟩ := Bx2.out
    obtain ⟨⟨hBy0, hBy1, hBy2⟩, hBy3⟩ := By2.out
    obtain ⟨⟨hRsD0, hRsD1, hRsD2, hRsD3, hRsD4, hRsD5⟩, hRsD6⟩ := RsD2.out
    go_wp2_with fail
    refine bodyPost_ret (v := .agg #[.int .i64 S9, .slice A9 n9 c9, .int .i64 (nx z' E')]) (by simp [results, Tryz.results41, go_sem, hRsD0, hRsD1, hRsD2]) rfl ⟨S9, A9, n9, c9, by rw [H0.out, sum_zero_left.2], ?_, ?_⟩
    · rw [H0.out, sum_zero_left.1]; exact (((Zp2.out.setCell (.inl (by have zz0 := Hlt.out; have zz1 := Sz2.out; first | omega | (simp; done) | (simp; omega))) _).setCell (.inl (by have zz0 := Hlt.out; have zz1 := Sz2.out; first | omega | (simp; done) | (simp; omega))) _).setCell (.inl (by have zz0 := Hlt.out; have zz1 := Sz2.out; first | omega | (simp; done) | (simp; omega))) _).wide (by have zz0 := Hlt.out; have zz1 := Sz2.out; first | omega | (simp; done) | (simp; omega)) (by have zz0 := Hlt.out; have zz1 := Sz2.out; first | omega | (simp; done) | (simp; omega)) (by have zz0 := Hlt.out; have zz1 := Sz2.out; first | omega | (simp; done) | (simp; omega))
    · exact ((Bel2.out.setCell (by have zz0 := Hlt.out; have zz1 := Sz2.out; first | omega | (simp; done) | (simp; omega)) _).setCell (by have zz0 := Hlt.out; have zz1 := Sz2.out; first | omega | (simp; done) | (simp; omega)) _).setCell (by have zz0 := Hlt.out; have zz1 := Sz2.out; first | omega | (simp; done) | (simp; omega)) _
  · have hs0 : (S == 0) = false := beq_false_of_ne (fun e => h0 ((sign_eq_zero HS.out).1 e))
    clear h0
    by_cases h0' : z' = 0
    · have hs0' : S' = 0 := (sign_eq_zero HS'.out).2 h0'
      have H0 := Lib.hid h0'
      subst hs0'
      clear h0'
      go_enter Tryz.func41, Tryz.ntmps41
      go_wp2_with fail
      rw [← Hw.out]
      obtain ⟨⟨hBx0, hBx1, hBx2⟩, hBx3⟩ := Bx1.out
      obtain ⟨⟨hBy0, hBy1, hBy2⟩, hBy3⟩ := By1.out
      obtain ⟨⟨hRsD0, hRsD1, hRsD2, hRsD3, hRsD4, hRsD5⟩, hRsD6⟩ := RsD1.out
      refine (specMakeD_any z S E A n c _ (Hz.out.next Bel1.out) (by have := Hm.out; omega) (by omega) (by omega)).mono ?_
      rintro e w2 ⟨S9, A9, n9, c9, rfl, hzo, hb⟩
      have Zp2 := Lib.hid hzo
      clear hzo
      have Sz2 := Lib.hid (Below.size hb)
      have Bel2 := Lib.hid (belNext Bel1.out hb)
      have Bx2 := Lib.hid (Bx1.out.next hb)
      have By2 := Lib.hid (By1.out.next hb)
      have RsD2 := Lib.hid (RsD1.out.next hb)
      clear hb Bel1 Bx1 By1 RsD1 hBx0 hBx1 hBx2 hBx3 hBy0 hBy1 hBy2 hBy3 hRsD0 hRsD1 hRsD2 hRsD3 hRsD4 hRsD5 hRsD6
      obtain ⟨⟨hBx0, hBx1, hBx2⟩, hBx3⟩ := Bx2.out
      obtain ⟨⟨hBy0, hBy1, hBy2⟩, hBy3⟩ := By2.out
      obtain ⟨⟨hRsD0, hRsD1, hRsD2, hRsD3, hRsD4, hRsD5⟩, hRsD6⟩ := RsD2.out
      go_wp2_with fail
      refine bodyPost_ret (v := .agg #[.int .i64 S9, .slice A9 n9 c9, .int .i64 (nx z E)]) (by simp [results, Tryz.results41, go_sem, hRsD0, hRsD1, hRsD2]) rfl ⟨S9, A9, n9, c9, by rw [H0.out, sum_zero_right.2], ?_, ?_⟩
      · rw [H0.out, sum_zero_right.1]; exact (((Zp2.out.setCell (.inl (by have zz0 := Hlt.out; have zz1 := Sz2.out; first | omega | (simp; done) | (simp; omega))) _).setCell (.inl (by have zz0 := Hlt.out; have zz1 := Sz2.out; first | omega | (simp; done) | (simp; omega))) _).setCell (.inl (by have zz0 := Hlt.out; have zz1 := Sz2.out; first | omega | (simp; done) | (simp; omega))) _).wide (by have zz0 := Hlt.out; have zz1 := Sz2.out; first | omega | (simp; done) | (simp; omega)) (by have zz0 := Hlt.out; have zz1 := Sz2.out; first | omega | (simp; done) | (simp; omega)) (by have zz0 := Hlt.out; have zz1 := Sz2.out; first | omega | (simp; done) | (simp; omega))
      · exact ((Bel2.out.setCell (by have zz0 := Hlt.out; have zz1 := Sz2.out; first | omega | (simp; done) | (simp; omega)) _).setCell (by have zz0 := Hlt.out; have zz1 := Sz2.out; first | omega | (simp; done) | (simp; omega)) _).setCell (by have zz0 := Hlt.out; have zz1 := Sz2.out; first | omega | (simp; done) | (simp; omega)) _
    · have hs0' : (S' == 0) = false := beq_false_of_ne (fun e => h0' ((sign_eq_zero HS'.out).1 e))
      clear h0'
      obtain ⟨mn, hmn⟩ : ∃ mn, mn = min E E' := ⟨_, rfl⟩
      have hm1 : mn ≤ E := by rw [hmn]; exact Int.min_le_left _ _
      have hm2 : mn ≤ E' := by rw [hmn]; exact Int.min_le_right _ _
      have hm3 : -4000 ≤ mn := by rw [hmn]; omega
      have Hmn := Lib.hid hmn
      clear hmn
      have hwr1 : IntKind.i64.wrap (E - mn) = E - mn := IntWalk.i64_in _ (by omega)
      have hwr2 : IntKind.i64.wrap (E' - mn) = E' - mn := IntWalk.i64_in _ (by omega)
      go_enter Tryz.func41, Tryz.ntmps41
      go_wp2_with fail
      rw [← Hw.out]
      rw [← Hmn.out]
      refine wp_region_held_drew (S := fun w' => (w'.cell? ⟨w.heap.size, 0, none⟩ = some (.int .i64 S) ∧ w'.cell? ⟨w.heap.size, 1, none⟩ = some (.slice A n c) ∧ w'.cell? ⟨w.heap.size, 2, none⟩ = some (.int .i64 E)) ∧ (w'.cell? ⟨w.heap.size + 1, 0, none⟩ = some (.int .i64 S') ∧ w'.cell? ⟨w.heap.size + 1, 1, none⟩ = some (.slice A' n' c') ∧ w'.cell? ⟨w.heap.size + 1, 2, none⟩ = some (.int .i64 E'))) (by kernel_rfl) ⟨Bx1.out.1, By1.out.1⟩ (fun hHeld => ?_)
      refine wpAnyH_take (i := 0) (v := ?_) rfl (by kernel_rfl) (by kernel_rfl) (by kernel_rfl) (fun _ _ _ h => h) (Or.inl ⟨by rfl, ?_⟩) (by assumption) ?_
      rotate_left
      · (intro w hSw; (try dsimp only at hSw); go_simp; (try with_reducible rfl))
      try simp only [Act.put, List.setIfInBounds_toArray, List.set_cons_zero, List.set_cons_succ]
      refine wpAnyH_take (i := 1) (v := ?_) rfl (by kernel_rfl) (by kernel_rfl) (by kernel_rfl) (fun _ _ _ h => h) (Or.inl ⟨by rfl, ?_⟩) (by assumption) ?_
      rotate_left
      · (intro w hSw; (try dsimp only at hSw); go_simp; (try with_reducible rfl))
      try simp only [Act.put, List.setIfInBounds_toArray, List.set_cons_zero, List.set_cons_succ]
      refine wpAnyH_take (i := 2) (v := ?_) rfl (by kernel_rfl) (by kernel_rfl) (by kernel_rfl) (fun _ _ _ h => h) (Or.inl ⟨by rfl, ?_⟩) (by assumption) ?_
      rotate_left
      · (intro w hSw; (try dsimp only at hSw); go_simp; (try with_reducible rfl))
      try simp only [Act.put, List.setIfInBounds_toArray, List.set_cons_zero, List.set_cons_succ]
      refine wpAnyH_take (i := 3) (v := ?_) rfl (by kernel_rfl) (by kernel_rfl) (by kernel_rfl) (fun _ _ _ h => h) (Or.inl ⟨by rfl, ?_⟩) (by assumption) ?_
      rotate_left
      · (intro w hSw; (try dsimp only at hSw); go_simp; (try with_reducible rfl))
      try simp only [Act.put, List.setIfInBounds_toArray, List.set_cons_zero, List.set_cons_succ]
      refine wpAnyH_take (i := 4) (v := ?_) rfl (by kernel_rfl) (by kernel_rfl) (by kernel_rfl) (fun _ _ _ h => h) (Or.inl ⟨by rfl, ?_⟩) (by assumption) ?_
      rotate_left
      · (intro w hSw; (try dsimp only at hSw); go_simp; (try with_reducible rfl))
      try simp only [Act.put, List.setIfInBounds_toArray, List.set_cons_zero, List.set_cons_succ]
      refine wpAnyH_take (i := 5) (v := ?_) rfl (by kernel_rfl) (by kernel_rfl) (by kernel_rfl) (fun _ _ _ h => h) (Or.inl ⟨by rfl, ?_⟩) (by assumption) ?_
      rotate_left
      · (intro w hSw; (try dsimp only at hSw); go_simp; (try with_reducible rfl))
      try simp only [Act.put, List.setIfInBounds_toArray, List.set_cons_zero, List.set_cons_succ]
      refine wpAnyH_take (i := 7) (v := ?_) rfl (by kernel_rfl) (by kernel_rfl) (by kernel_rfl) (fun _ _ _ h => h) (Or.inl ⟨by rfl, ?_⟩) (by assumption) ?_
      rotate_left
      · (intro w hSw; (try dsimp only at hSw); go_simp; (try with_reducible rfl))
      try simp only [Act.put, List.setIfInBounds_toArray, List.set_cons_zero, List.set_cons_succ]
      refine wpAnyH_take (i := 8) (v := ?_) rfl (by kernel_rfl) (by kernel_rfl) (by kernel_rfl) (fun _ _ _ h => h) (Or.inl ⟨by rfl, ?_⟩) (by assumption) ?_
      rotate_left
      · (intro w hSw; (try dsimp only at hSw); go_simp; (try with_reducible rfl))
      try simp only [Act.put, List.setIfInBounds_toArray, List.set_cons_zero, List.set_cons_succ]
      refine wpAnyH_take (i := 9) (v := ?_) rfl (by kernel_rfl) (by kernel_rfl) (by kernel_rfl) (fun _ _ _ h => h) (Or.inl ⟨by rfl, ?_⟩) (by assumption) ?_
      rotate_left
      · (intro w hSw; (try dsimp only at hSw); go_simp; (try with_reducible rfl))
      try simp only [Act.put, List.setIfInBounds_toArray, List.set_cons_zero, List.set_cons_succ]
      refine wpAnyH_take (i := 10) (v := ?_) rfl (by kernel_rfl) (by kernel_rfl) (by kernel_rfl) (fun _ _ _ h => h) (Or.inl ⟨by rfl, ?_⟩) (by assumption) ?_
      rotate_left
      · (intro w hSw; (try dsimp only at hSw); go_simp; (try with_reducible rfl))
      try simp only [Act.put, List.setIfInBounds_toArray, List.set_cons_zero, List.set_cons_succ]
      refine wpAnyH_take (i := 11) (v := ?_) rfl (by kernel_rfl) (by kernel_rfl) (by kernel_rfl) (fun _ _ _ h => h) (Or.inl ⟨by rfl, ?_⟩) (by assumption) ?_
      rotate_left
      · (intro w hSw; (try dsimp only at hSw); go_simp; (try with_reducible rfl))
      try simp only [Act.put, List.setIfInBounds_toArray, List.set_cons_zero, List.set_cons_succ]
      refine wpAnyH_take (i := 12) (v := ?_) rfl (by kernel_rfl) (by kernel_rfl) (by kernel_rfl) (fun _ _ _ h => h) (Or.inl ⟨by rfl, ?_⟩) (by assumption) ?_
      rotate_left
      · (intro w hSw; (try dsimp only at hSw); go_simp; (try with_reducible rfl))
      try simp only [Act.put, List.setIfInBounds_toArray, List.set_cons_zero, List.set_cons_succ]
      refine wpAnyH_take (i := 15) (v := ?_) rfl (by kernel_rfl) (by kernel_rfl) (by kernel_rfl) (fun _ _ _ h => h) (Or.inl ⟨by rfl, ?_⟩) (by assumption) ?_
      rotate_left
      · (intro w hSw; (try dsimp only at hSw); go_simp; (try with_reducible rfl))
      try simp only [Act.put, List.setIfInBounds_toArray, List.set_cons_zero, List.set_cons_succ]
      refine wpAnyH_ready (rs := [6]) (by kernel_rfl) (by simp) ?_
      refine AllReadyH.cons rfl (fun K hK => ?_) AllReadyH.nil
      go_simp
      refine (specLeftI_any z S (E - mn) A n c w1.drew (Hz.out.next Bel1.out).drew (by have := Hm.out; omega) (by omega) (by omega)).mono ?_
      rintro e w2 ⟨S2, A2, n2, c2, rfl, hzo, hb0⟩
      have hb : Below w1.heap.size w1 w2 := belDrew hb0
      have Zo2 := Lib.hid hzo
      have Hn2 : Hid ((n2 : Int) ≤ 1400) := Lib.hid (by have h := left_len Hz.out.2.1 (by omega) hzo.2.1; have := Hm.out; omega)
      clear hzo
      refine hK.out _ _ ⟨(Bx1.out.next hb).1, (By1.out.next hb).1⟩ (fun hHeld => ?_)
      clear hK K hb0
      have Sz2 := Lib.hid (Below.size hb)
      have Bel2 := Lib.hid (belNext Bel1.out hb)
      have Bx2 := Lib.hid (Bx1.out.next hb)
      have By2 := Lib.hid (By1.out.next hb)
      have RsD2 := Lib.hid (RsD1.out.next hb)
      clear hb Bel1 Bx1 By1 RsD1
      try simp only [Act.put, List.setIfInBounds_toArray, List.set_cons_zero, List.set_cons_succ]
      refine wpAnyH_ready (rs := [13]) (by kernel_rfl) (by simp) ?_
      refine AllReadyH.cons rfl (fun K hK => ?_) AllReadyH.nil
      go_simp
      refine (specLeftI_any z' S' (E' - mn) A' n' c' w2 (Hz'.out.next Bel2.out) (by have := Hm.out; omega) (by omega) (by omega)).mono ?_
      rintro e w3 ⟨S3, A3, n3, c3, rfl, hzo, hb0⟩
      have hb : Below w2.heap.size w2 w3 := hb0
      have Zq3 := Lib.hid hzo
      have Hn3 : Hid ((n3 : Int) ≤ 1400) := Lib.hid (by have h := left_len Hz'.out.2.1 (by omega) hzo.2.1; have := Hm.out; omega)
      clear hzo
      refine hK.out _ _ ⟨(Bx2.out.next hb).1, (By2.out.next hb).1⟩ (fun hHeld => ?_)
      clear hK K hb0
      have Sz3 := Lib.hid (Below.size hb)
      have Bel3 := Lib.hid (belNext Bel2.out hb)
      have Bx3 := Lib.hid (Bx2.out.next hb)
      have By3 := Lib.hid (By2.out.next hb)
      have RsD3 := Lib.hid (RsD2.out.next hb)
      have Zo3 := Lib.hid (Zo2.out.next hb)
      clear hb Bel2 Bx2 By2 RsD2 Zo2
      try simp only [Act.put, List.setIfInBounds_toArray, List.set_cons_zero, List.set_cons_succ]
      refine wpAnyH_ready (rs := [14]) (by kernel_rfl) (by simp) ?_
      refine AllReadyH.cons rfl (fun K hK => ?_) AllReadyH.nil
      go_simp
      refine (specAdd_any S2 S3 ((2 : Int) ^ (E - mn).toNat * z).natAbs ((2 : Int) ^ (E' - mn).toNat * z').natAbs A2 A3 n2 n3 c2 c3 w3 Zo3.out.zv.sg Zq3.out.zv.sg Zo3.out.zv.rd Zq3.out.zv.rd Zo3.out.2.1 Zq3.out.2.1 (by have := Hn2.out; omega) (by have := Hn3.out; omega) Zo3.out.zv.cap Zq3.out.zv.cap).mono ?_
      rintro e w4 ⟨val, rfl, hv, hb0⟩
      have hb : Below w3.heap.size w3 w4 := hb0
      obtain ⟨S8, A8, n8, c8, rfl, hzo⟩ := Wz.zo (hv.cast_ (z' := sumZ z E z' E') (by rw [Zo3.out.zv.val, Zq3.out.zv.val]; unfold sumZ; rw [← Hmn.out])) (Nat.le_refl _)
      have Zr4 := Lib.hid hzo
      have Hn8 : Hid ((n8 : Int) ≤ 4000) := Lib.hid (by have h := sum_sg Zo3.out.2.1 Zq3.out.2.1; have e := hzo.2.1; unfold sumZ at e; rw [← Hmn.out] at e; rw [e] at h; have := Hn2.out; have := Hn3.out; omega)
      clear hv hzo
      refine hK.out _ _ ⟨(Bx3.out.next hb).1, (By3.out.next hb).1⟩ (fun hHeld => ?_)
      clear hK K hb0
      have Sz4 := Lib.hid (Below.size hb)
      have Bel4 := Lib.hid (belNext Bel3.out hb)
      have Bx4 := Lib.hid (Bx3.out.next hb)
      have By4 := Lib.hid (By3.out.next hb)
      have RsD4 := Lib.hid (RsD3.out.next hb)
      have Zo4 := Lib.hid (Zo3.out.next hb)
      clear hb Bel3 Bx3 By3 RsD3 Zo3
      try simp only [Act.put, List.setIfInBounds_toArray, List.set_cons_zero, List.set_cons_succ]
      refine wpAnyH_ready (rs := [16]) (by kernel_rfl) (by simp) ?_
      refine AllReadyH.cons rfl (fun K hK => ?_) AllReadyH.nil
      go_simp
      refine (specMakeD_any (sumZ z E z' E') S8 mn A8 n8 c8 w4 Zr4.out.zv Hn8.out (by omega) (by omega)).mono ?_
      rintro e w5 ⟨S9, A9, n9, c9, rfl, hzo, hb0⟩
      have hb : Below w4.heap.size w4 w5 := hb0
      have Zp5 := Lib.hid hzo
      clear hzo
      refine hK.out _ _ ⟨(Bx4.out.next hb).1, (By4.out.next hb).1⟩ (fun hHeld => ?_)
      clear hK K hb0
      have Sz5 := Lib.hid (Below.size hb)
      have Bel5 := Lib.hid (belNext Bel4.out hb)
      have Bx5 := Lib.hid (Bx4.out.next hb)
      have By5 := Lib.hid (By4.out.next hb)
      have RsD5 := Lib.hid (RsD4.out.next hb)
      have Zo5 := Lib.hid (Zo4.out.next hb)
      clear hb Bel4 Bx4 By4 RsD4 Zo4
      try simp only [Act.put, List.setIfInBounds_toArray, List.set_cons_zero, List.set_cons_succ]
      obtain ⟨⟨hRsD0, hRsD1, hRsD2, hRsD3, hRsD4, hRsD5⟩, hRsD6⟩ := RsD5.out
      refine wpAnyH_ready (rs := [17]) (by kernel_rfl) (by simp) ?_
      refine AllReadyH.cons rfl (fun K hK => ?_) AllReadyH.nil
      go_simp
      refine hK.out _ _ ⟨(((Bx5.out.keep (by have zz0 := Hlt.out; have zz1 := Sz2.out; have zz2 := Sz3.out; have zz3 := Sz4.out; have zz4 := Sz5.out; first | omega | (simp; done) | (simp; omega)) _).keep (by have zz0 := Hlt.out; have zz1 := Sz2.out; have zz2 := Sz3.out; have zz3 := Sz4.out; have zz4 := Sz5.out; first | omega | (simp; done) | (simp; omega)) _).keep (by have zz0 := Hlt.out; have zz1 := Sz2.out; have zz2 := Sz3.out; have zz3 := Sz4.out; have zz4 := Sz5.out; first | omega | (simp; done) | (simp; omega)) _).1, (((By5.out.keep (by have zz0 := Hlt.out; have zz1 := Sz2.out; have zz2 := Sz3.out; have zz3 := Sz4.out; have zz4 := Sz5.out; first | omega | (simp; done) | (simp; omega)) _).keep (by have zz0 := Hlt.out; have zz1 := Sz2.out; have zz2 := Sz3.out; have zz3 := Sz4.out; have zz4 := Sz5.out; first | omega | (simp; done) | (simp; omega)) _).keep (by have zz0 := Hlt.out; have zz1 := Sz2.out; have zz2 := Sz3.out; have zz3 := Sz4.out; have zz4 := Sz5.out; first | omega | (simp; done) | (simp; omega)) _).1⟩ (fun hHeld => ?_)
      clear hK K hHeld
      try simp only [Act.put, List.setIfInBounds_toArray, List.set_cons_zero, List.set_cons_succ]
      refine wpAnyH_done (by kernel_rfl) ?_ _
      go_wp2_with fail
      refine bodyPost_ret (v := .agg #[.int .i64 S9, .slice A9 n9 c9, .int .i64 (nx (sumZ z E z' E') mn)]) (by simp [results, Tryz.results41, go_sem, hRsD0, hRsD1, hRsD2]) rfl ⟨S9, A9, n9, c9, by rw [← Hmn.out], ?_, ?_⟩
      · exact (((Zp5.out.setCell (.inl (by have zz0 := Hlt.out; have zz1 := Sz2.out; have zz2 := Sz3.out; have zz3 := Sz4.out; have zz4 := Sz5.out; first | omega | (simp; done) | (simp; omega))) _).setCell (.inl (by have zz0 := Hlt.out; have zz1 := Sz2.out; have zz2 := Sz3.out; have zz3 := Sz4.out; have zz4 := Sz5.out; first | omega | (simp; done) | (simp; omega))) _).setCell (.inl (by have zz0 := Hlt.out; have zz1 := Sz2.out; have zz2 := Sz3.out; have zz3 := Sz4.out; have zz4 := Sz5.out; first | omega | (simp; done) | (simp; omega))) _).wide (by have zz0 := Hlt.out; have zz1 := Sz2.out; have zz2 := Sz3.out; have zz3 := Sz4.out; have zz4 := Sz5.out; first | omega | (simp; done) | (simp; omega)) (by have zz0 := Hlt.out; have zz1 := Sz2.out; have zz2 := Sz3.out; have zz3 := Sz4.out; have zz4 := Sz5.out; first | omega | (simp; done) | (simp; omega)) (by have zz0 := Hlt.out; have zz1 := Sz2.out; have zz2 := Sz3.out; have zz3 := Sz4.out; have zz4 := Sz5.out; first | omega | (simp; done) | (simp; omega))
      · exact ((Bel5.out.setCell (by have zz0 := Hlt.out; have zz1 := Sz2.out; have zz2 := Sz3.out; have zz3 := Sz4.out; have zz4 := Sz5.out; first | omega | (simp; done) | (simp; omega)) _).setCell (by have zz0 := Hlt.out; have zz1 := Sz2.out; have zz2 := Sz3.out; have zz3 := Sz4.out; have zz4 := Sz5.out; first | omega | (simp; done) | (simp; omega)) _).setCell (by have zz0 := Hlt.out; have zz1 := Sz2.out; have zz2 := Sz3.out; have zz3 := Sz4.out; have zz4 := Sz5.out; first | omega | (simp; done) | (simp; omega)) _

end Go.Proofs.YtngminjncdfjdaaGreatDoor
/- The laws' functions over exact numbers: copies, sizes, equality, marks. -/
namespace Go.Proofs.YtngminjncdfjdaaGreatDoor
set_option maxRecDepth 100000
open Go.RowKit
set_option linter.unusedSimpArgs false
set_option linter.unusedVariables false

theorem DBox.grown {w w' : World} {b n c lo hi : Nat} {S E : Int} {A : Option Addr} {row : Option Nat} (h : DBox w b S A n c E) (hg : w.grownBy w' row) (hr : ∀ g, row = some g → lo ≤ g ∧ g < hi) (hne : b < lo ∨ hi ≤ b) : DBox w' b S A n c E := by
  have hb : w'.heap[b]? = w.heap[b]? := hg.block b h.2 (fun e => by have := hr b e.symm; omega)
  exact ⟨⟨(World.cell?_of_block (a := ⟨b, 0, none⟩) hb).trans h.1.1, (World.cell?_of_block (a := ⟨b, 1, none⟩) hb).trans h.1.2.1, (World.cell?_of_block (a := ⟨b, 2, none⟩) hb).trans h.1.2.2⟩, Nat.lt_of_lt_of_le h.2 hg.size⟩
theorem Ot.st3_ {w : World} {b lo hi : Nat} {s E : Int} {A A' : Option Addr} {n c : Nat} {xs : List Value} (h : Ot w lo hi A' xs) (hne : b < lo ∨ hi ≤ b) : Ot (st3 w b s A n c E) lo hi A' xs :=
  ⟨h.1.keep (fun g h1 h2 _ => st3_heap (by omega)), by rw [st3_size]; exact h.2⟩
theorem Rt.st3_ {w : World} {b B : Nat} {s E : Int} {A A' : Option Addr} {n c : Nat} {xs : List Value} (h : Rt w B A' xs) (hB : B ≤ b) : Rt (st3 w b s A n c E) B A' xs :=
  ⟨h.1.carry (fun p hp => World.cell?_of_block (st3_heap (by omega))), by rw [st3_size]; exact h.2⟩
section
open Go.ChangeShapes Go.WideShapes Go.ChangeAt Go.Deep
variable {H : Type} {enc : TypeId × Value → H}
end
end Go.Proofs.YtngminjncdfjdaaGreatDoor
/- The table of Go's library: from a row's condition to the walks' fact; a world that meets it. -/
namespace Go.Proofs.YtngminjncdfjdaaGreatDoor
set_option maxRecDepth 100000
open Go.ChangeShapes Go.WideShapes Go.ChangeAt Go.RowKit

def laidL : List (String × DataW Unit) := [("math/bits.deBruijn64tab", Rows.laid_math_bits_deBruijn64tab)]
theorem laid_data : (Rows.laid_math_bits_deBruijn64tab : DataW Unit) = Lib.tabData .u8 (Lib.deBruijn64tab.map fun (n : Nat) => (n : Int)) := by rfl
theorem tabz_of_laid {W : World} (h : laidMetH Tryz.prog laidL W) : TabZ W := by
  rw [MakeChecks.laidMetH_plain _ _ _ (by kernel_rfl)] at h
  unfold laidL at h
  rw [laid_data] at h
  have ht := Lib.tabIs_of_head (g := 1) (t := 134) (e := 5) (n := 64) (by kernel_rfl) (by kernel_rfl) Tryz.underlying134 Tryz.underlying5 (by kernel_rfl) (by kernel_rfl) h
  intro j hj
  have h2 := ht.cell (g := 1) (by kernel_rfl) j (by rw [List.length_map]; exact hj)
  rw [h2]
  simp [List.getD, List.getElem?_map, List.getElem?_eq_getElem hj]
/-- The door's own heap meets the condition. -/
theorem door_met (os : Os) (args : Array Value) : laidMetH Tryz.prog laidL ((World.doorLaid Tryz.prog 14 os).forCall (fun _ _ => 0) ⟨#[], args, []⟩).memory :=
  laidMetH_of_parts3 (fuel := 8) (laidMet_of_run' 8 (by kernel_rfl) (by kernel_rfl)) (by kernel_rfl) (by kernel_rfl)
end Go.Proofs.YtngminjncdfjdaaGreatDoor
