/- Quotients of limbs by greater ones, of the program. -/
import Derived.Test.YtnnoobdcdfcdaaaDb
import Derived.Lib.SliceRun
namespace Go.Proofs.Ytnnoobdcdfcdaaa
set_option maxRecDepth 100000
open Go.RowKit
set_option linter.unusedSimpArgs false
set_option linter.unusedVariables false

set_option maxHeartbeats 400000 in
theorem clone_any (A : Option Addr) (n c B : Nat) (xs : List Nat) (w : World) (hr : Rd w B A (vs xs)) (hB : B ≤ w.heap.size) (hn : xs.length = n) (hm : (n : Int) ≤ 1000000) :
    Calls Try.prog 75 #[.slice A n c] w fun e w' => ∃ A' c', e = .returned (.slice A' n c') ∧ Ow w' w.heap.size w'.heap.size A' (vs xs) ∧ Below w.heap.size w w' ∧ n ≤ c' := by
  obtain ⟨i0, hi0, hz0, hz1, hz2⟩ := info_parts infoI
  have hnil := fun (w : World) (a : Option Addr) (n c : Nat) => Lib.run_eql_slice_nil w (P := Try.prog) _ _ a n c 0 0 Try.underlying61
  cases A with
  | none =>
    have h0 : xs = [] := by
      match xs, hr with
      | [], _ => rfl
      | x :: r, hr => obtain ⟨a, h, _⟩ := hr.some_ (by rw [vs_len]; simp); cases h
    subst h0
    have h1 : n = 0 := hn.symm
    subst h1
    clear hr hn
    go_enter Try.func75, Try.ntmps75
    go_wp2_with fail
    go_ret
    exact ⟨none, 0, rfl, .inl rfl, Below.refl _ _, Nat.le_refl _⟩
  | some a =>
    have hnews : ∀ j u, (vs xs)[j]? = some u → (w.alloc (.cells #[] 2)).cell? (a.add j) = some u := fun j u hu => by
      obtain ⟨a', h1, h2, h3⟩ := hr j u hu
      cases h1
      rw [World.cell?_alloc_lt w _ _ (by rw [addr_block]; omega)]
      exact h3
    have Hnews := Lib.hid hnews
    have Hn := Lib.hid hn
    clear hr hnews hn hB
    go_enter Try.func75, Try.ntmps75
    go_wp2_with (at_builtin; refine wpList_append_own _ rfl (.tmp 5) (.tmp 6) _ rfl w.heap.size 2 i0 _ 1 8 Try.underlying61 hi0 hz0 hz1 hz2 rfl (by omega) (.slice (some ⟨w.heap.size, 0, none⟩) 0 0) 0 [] rfl (own_empty w _) a n c (vs xs) rfl (by rw [vs_len, Hn.out, Nat.mul_one]) Hnews.out (vs_one · xs) (by unfold maxLen; omega) (by omega) (by simp) ?_; intro v1 w1 hown hg _)
    have hbw : Below w.heap.size w w1 := ((Below.refl _ _).alloc (Nat.le_refl _) _).grown hg (by simp) (by simp [Value.ownBlock])
    rw [Nat.zero_add, List.nil_append] at hown
    obtain ⟨A', c', rfl, hcap⟩ := own_form2 hown
    have Ho := Lib.hid (Ow.own hown)
    have Hcap := Lib.hid hcap
    have Hb := Lib.hid hbw
    clear hown hg hbw hcap
    go_ret
    exact ⟨A', c', rfl, Ho.out, Hb.out, Hcap.out⟩

set_option maxHeartbeats 1000000 in
theorem natDivL_any (a b : Nat) (A A' : Option Addr) (n n' c c' B B' : Nat) (w : World) (hr : Rd w B A (vs (limbs a))) (hr' : Rd w B' A' (vs (limbs b))) (hB : B ≤ w.heap.size) (hB' : B' ≤ w.heap.size) (hn : (limbs a).length = n) (hn' : (limbs b).length = n') (hm : (n : Int) ≤ 100000) (hm' : (n' : Int) ≤ 100000) (hab : a < b) :
    Calls Try.prog 42 #[.slice A n c, .slice A' n' c'] w fun e w' => ∃ A3 c3, e = .returned (.tuple #[.slice none 0 0, .slice A3 n c3]) ∧ Ow w' w.heap.size w'.heap.size A3 (vs (limbs a)) ∧ n ≤ c3 ∧ Below w.heap.size w w' := by
  have hcmp := cmp_lt hab
  have Hr := Lib.hid hr
  have Hr' := Lib.hid hr'
  have Hn := Lib.hid hn
  have Hn' := Lib.hid hn'
  have HB := Lib.hid hB
  clear hr hr' hn hn' hB hB'
  go_enter Try.func42, Try.ntmps42
  go_wp2_with fail
  refine (natCmp_any a b A _ n n' c c' _ _ w Hr.out Hr'.out Hn.out Hn'.out hm hm').mono ?_
  rintro e w1 ⟨rfl, nq, rfl⟩
  generalize cmpI a b = z at *
  go_wp2_with fail
  refine (clone_any A n c _ (limbs a) (w.drewN nq) (Hr.out.drewN nq) HB.out Hn.out (by omega)).mono ?_
  rintro e w2 ⟨A2, c2, rfl, hown, hb, hc⟩
  have Hown := Lib.hid hown
  have Hb := Lib.hid hb
  have Hc := Lib.hid hc
  clear hown hb hc
  go_wp2_with fail
  go_ret2
  exact ⟨A2, c2, rfl, Hown.out, Hc.out, (below_drewN (Below.refl _ _) nq).trans Hb.out⟩
end Go.Proofs.Ytnnoobdcdfcdaaa
