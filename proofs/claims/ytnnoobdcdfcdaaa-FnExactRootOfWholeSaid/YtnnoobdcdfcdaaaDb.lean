/- Quotients of limbs by one limb, of the program. -/
import Derived.Test.YtnnoobdcdfcdaaaTw
import Derived.Test.YtnnoobdcdfcdaaaCw
import Derived.Test.YtnnoobdcdfcdaaaWp
namespace Go.Proofs.Ytnnoobdcdfcdaaa
set_option maxRecDepth 100000
open Go.RowKit
set_option linter.unusedSimpArgs false
set_option linter.unusedVariables false

theorem cmp_ge {a b : Nat} (h : b ≤ a) : ¬ cmpI a b < 0 := by unfold cmpI; (repeat' split) <;> omega
theorem cmp_lt {a b : Nat} (h : a < b) : cmpI a b < 0 := by unfold cmpI; (repeat' split) <;> omega
theorem limbs_one {b : Nat} (h : (limbs b).length = 1) : ∃ hk : 0 < (limbs b).length, (limbs b)[0] = b ∧ 0 < b ∧ b < Bs := by
  have h1 := V_limbs b
  have h2 := Lim_limbs b
  have h3 : b ≠ 0 := fun e => by rw [e, limbs_zero] at h; simp at h
  match hl : limbs b, h with
  | [x], _ =>
    rw [hl] at h1 h2
    have h4 : x = b := by simpa [V] using h1
    refine ⟨by simp, by simpa using h4, by omega, ?_⟩
    rw [← h4]
    exact h2 x (by simp)

set_option maxHeartbeats 1000000 in
theorem natDivO_any (a b : Nat) (A A' : Option Addr) (n n' c c' B B' : Nat) (w : World) (hr : Rd w B A (vs (limbs a))) (hr' : Rd w B' A' (vs (limbs b))) (hB : B ≤ w.heap.size) (hB' : B' ≤ w.heap.size) (hn : (limbs a).length = n) (hn' : (limbs b).length = 1) (hm : (n : Int) ≤ 100000) (hab : b ≤ a) :
    Calls Try.prog 42 #[.slice A n c, .slice A' 1 c'] w fun e w' => ∃ A2 A3 mid, e = .returned (.tuple #[.slice A2 (limbs (a / b)).length (limbs (a / b)).length, .slice A3 (limbs (a % b)).length (limbs (a % b)).length]) ∧ w.heap.size ≤ mid ∧ mid ≤ w'.heap.size ∧ Ow w' w.heap.size mid A2 (vs (limbs (a / b))) ∧ Ow w' mid w'.heap.size A3 (vs (limbs (a % b))) ∧ Below w.heap.size w w' := by
  have hst := store_int Try.prog
  obtain ⟨hk, hx, hb0, hb1⟩ := limbs_one hn'
  obtain ⟨q, hq, _⟩ := hr'.some_ (by rw [vs_len]; omega)
  subst hq
  have hcd := hr'.cell (k := 0) (by rw [vs_len]; omega)
  rw [vs_get hk, hx] at hcd
  have hcmp := cmp_ge hab
  have Hr := Lib.hid hr
  have Hr' := Lib.hid hr'
  have Hn := Lib.hid hn
  have Hn' := Lib.hid hn'
  have HB := Lib.hid hB
  have HB' := Lib.hid hB'
  have hd1 : (1 : Int) ≤ b := by omega
  have hd2 : (b : Int) ≤ 16777215 := by rw [Bs_eq] at hb1; omega
  clear hr hr' hn hn' hB hB' hx hb0 hb1 hk
  go_enter Try.func42, Try.ntmps42
  go_wp2_with fail
  refine (natCmp_any a b A _ n 1 c c' _ _ w Hr.out Hr'.out Hn.out Hn'.out hm (by omega)).mono ?_
  rintro e w1 ⟨rfl, nq, rfl⟩
  generalize cmpI a b = z at *
  have hcd1 : (w.drewN nq).cell? q = some (.int .i64 b) := by have h : q.add 0 = q := by (unfold Addr.add; cases q; split <;> simp_all)
                                                              rw [h] at hcd; exact hcd
  go_wp2_with fail
  refine (natDivS_any a b A n c _ (w.drewN nq) (Hr.out.drewN nq) HB.out Hn.out hm hd1 (by omega)).mono ?_
  rintro e w2 ⟨A2, rfl, hown, hb⟩
  have Hown := Lib.hid hown
  have Hb := Lib.hid hb
  clear hown hb
  go_wp2_with fail
  have hrem : (a : Int) % (b : Int) = ((a % b : Nat) : Int) := rfl
  rw [hrem]
  have Hlt : Hid (a % b < Bs) := Lib.hid (by have := Nat.mod_lt a (show 0 < b by omega); rw [Bs_eq]; omega)
  obtain ⟨r, hr⟩ : ∃ r, r = a % b := ⟨_, rfl⟩
  rw [← hr] at Hlt ⊢
  obtain ⟨w3, hw3⟩ : ∃ w3, w3 = w2.alloc (.cells #[.int .i64 (r : Int)] 2) := ⟨_, rfl⟩
  have Ho3 : Hid (Ow w3 w2.heap.size w3.heap.size (some ⟨w2.heap.size, 0, none⟩) (vs [r])) := Lib.hid (by
    refine .inr ⟨w2.heap.size, _, rfl, Nat.le_refl _, by rw [hw3]; simp, by rw [hw3]; exact heap_alloc_new w2 _, rfl⟩)
  have Ho2 : Hid (Ow w3 w.heap.size w2.heap.size A2 (vs (limbs (a / b)))) := Lib.hid (by rw [hw3]; exact Hown.out.alloc _)
  have Hb3 : Hid (Below w.heap.size w w3) := Lib.hid (by rw [hw3]; exact (below_drewN (Below.refl _ _) nq).trans (Hb.out.alloc Hb.out.size _))
  have Hs3 : Hid (w.heap.size ≤ w2.heap.size ∧ w2.heap.size ≤ w3.heap.size) := Lib.hid ⟨Hb.out.size, by rw [hw3]; simp⟩
  rw [← hw3]
  have Hrr := Lib.hid hr
  clear hw3 hr
  refine (trim_any _ 1 1 w3.heap.size [r] w3 Ho3.out.rd rfl (Lim_one Hlt.out) (by omega) (by omega)).mono ?_
  rintro e w4 ⟨rfl, q4, rfl⟩
  have hV : V [r] = r := by simp [V]
  have Hp : Hid (limbs r = [r].take (limbs r).length) := Lib.hid (by have h := limbs_prefix (Lim_one Hlt.out); rw [hV] at h; exact h)
  rw [hV]
  go_wp2_with fail
  go_ret2
  rw [← Hrr.out]
  exact ⟨A2, _, w2.heap.size, rfl, Hs3.out.1, Hs3.out.2, Ho2.out.drewN q4, ((Ho3.out.take (limbs r).length).eq_ (by rw [← vs_take, ← Hp.out])).drewN q4, below_drewN Hb3.out q4⟩
end Go.Proofs.Ytnnoobdcdfcdaaa
