/- Limbs without zeros at the end, and whole numbers made of them, of the program and of the model. -/
import Derived.Test.YtnnoobdcdfcdaaaBx
import Derived.Test.YtnnoobdcdfcdaaaWl
import Derived.Test.YtnnoobdcdfcdaaaLn
import Derived.Maps.AppendAt
import Derived.Deep.AppendLies
import Derived.RegionTactic
import Derived.OwnWalk
namespace Go.Proofs.Ytnnoobdcdfcdaaa
set_option maxRecDepth 100000
open Go.RowKit
set_option linter.unusedSimpArgs false
set_option linter.unusedVariables false

theorem Rd.take {w : World} {hi : Nat} {A : Option Addr} {xs : List Value} (h : Rd w hi A xs) (k : Nat) : Rd w hi A (xs.take k) := fun i u hu => h i u (by
  rw [List.getElem?_take] at hu
  split at hu
  · exact hu
  · cases hu)
/-- the sign of a number with an absolute value -/
def sg (s : Int) (v : Nat) : Int := if v = 0 then 0 else s
/-- a value that is the whole number with a sign and an absolute value, its limbs a row of the call's own -/
def Wr (w : World) (lo hi : Nat) (s : Int) (v : Nat) (val : Value) : Prop := ∃ A c, val = .agg #[.int .i64 (sg s v), .slice A (limbs v).length c] ∧ Ow w lo hi A (vs (limbs v)) ∧ (limbs v).length ≤ c

/-- a value that is the whole number z, its limbs a row of the call's own -/
def Wz (w : World) (lo hi : Nat) (z : Int) (val : Value) : Prop := ∃ A c, val = .agg #[.int .i64 z.sign, .slice A (limbs z.natAbs).length c] ∧ Ow w lo hi A (vs (limbs z.natAbs)) ∧ (limbs z.natAbs).length ≤ c
theorem Wr.z {w : World} {lo hi : Nat} {s : Int} {v : Nat} {val : Value} (h : Wr w lo hi s v val) (hs : s = 1 ∨ s = -1 ∨ v = 0) : Wz w lo hi (s * v) val := by
  obtain ⟨A, c, h1, h2, h3⟩ := h
  have e : (s * v).natAbs = v ∧ (s * v).sign = sg s v := by
    unfold sg
    by_cases h0 : v = 0
    · subst h0; simp
    · rw [if_neg h0]
      have := sign_mul_abs s v (by omega) (by omega) (by omega)
      exact ⟨this.2, this.1⟩
  exact ⟨A, c, by rw [h1, e.1, e.2], by rw [e.1]; exact h2, by rw [e.1]; exact h3⟩
theorem Wz.keep {w w' : World} {lo hi : Nat} {z : Int} {val : Value} (h : Wz w lo hi z val) (hb : Below w.heap.size w w') : Wz w' lo hi z val := by
  obtain ⟨A, c, h1, h2, h3⟩ := h
  exact ⟨A, c, h1, h2.below' hb, h3⟩
theorem Wz.wide {w : World} {lo lo' hi hi' : Nat} {z : Int} {val : Value} (h : Wz w lo hi z val) (h1 : lo' ≤ lo) (h2 : hi ≤ hi') : Wz w lo' hi' z val := by
  obtain ⟨A, c, e, o, h3⟩ := h
  exact ⟨A, c, e, o.wide h1 h2, h3⟩

theorem trim_stop {xs : List Nat} {k : Nat} (h : Lim xs) (hk : k ≤ xs.length) (hz : ∀ i (h : i < xs.length), k ≤ i → xs[i] = 0) (hl : k = 0 ∨ ∃ h : k - 1 < xs.length, xs[k - 1] ≠ 0) : k = (limbs (V xs)).length := by
  rw [trim_eq h hk hz hl, List.length_take]; omega

set_option maxHeartbeats 400000 in
theorem trim_any (A : Option Addr) (n c B : Nat) (xs : List Nat) (w : World) (hr : Rd w B A (vs xs)) (hn : xs.length = n) (hl : Lim xs) (hc : (n : Int) ≤ c) (hm : (n : Int) ≤ 1000000) :
    Calls Try.prog 77 #[.slice A n c] w fun e w' => e = .returned (.slice A (limbs (V xs)).length (limbs (V xs)).length) ∧ ∃ q, w' = w.drewN q := by
  have Hn := Lib.hid hn
  have Hl := Lib.hid hl
  clear hn hl
  go_enter Try.func77, Try.ntmps77
  go_wp2_with fail
  go_loopw [3] (fun i wr => ∃ k : Nat, k ≤ n ∧ i = .int .i64 k ∧ (∀ i (h : i < xs.length), k ≤ i → xs[i] = 0) ∧ ∃ q, wr = w.drewN q) (fun i _ => (intOf i).toNat)
  case atStart => exact ⟨n, Nat.le_refl _, rfl, fun i h h2 => absurd h (by have := Hn.out; omega), 0, rfl⟩
  case round =>
    obtain ⟨k, hk, rfl, hz, q, hq⟩ := hrel
    have hr := hr.drewN q
    rw [← hq] at hr
    have Hq := Lib.hid hq
    have Hz := Lib.hid hz
    clear hq hz
    by_cases h0 : k = 0
    · have Hk : Hid (k = (limbs (V xs)).length) := Lib.hid (trim_stop Hl.out (by omega) Hz.out (.inl h0))
      subst h0
      clear hr
      go_wp2_with fail
      go_ret
      exact ⟨by rw [← Hk.out]; rfl, q, Hq.out⟩
    · have hk1 : k - 1 < xs.length := by have := Hn.out; omega
      obtain ⟨a, ha, _⟩ := hr.some_ (by rw [vs_len]; omega)
      subst ha
      have hcx := hr.cell (k := k - 1) (by rw [vs_len]; exact hk1)
      rw [vs_get hk1] at hcx
      have hkp : (0 : Int) < k := by omega
      have hkn : (k : Int) ≤ n := by omega
      by_cases hx : xs[k - 1] = 0
      · have Hz2 : Hid (∀ i (h : i < xs.length), k - 1 ≤ i → xs[i] = 0) := Lib.hid (fun i h h2 => by
          by_cases e : i = k - 1
          · subst e; exact hx
          · exact Hz.out i h (by omega))
        rw [hx] at hcx
        clear hr hx
        go_wp2_with fail
        go_roundw
        case rel => exact ⟨k - 1, by omega, by go_num, Hz2.out, q, Hq.out⟩
        case measure => simp [intOf]; omega
      · have Hk : Hid (k = (limbs (V xs)).length) := Lib.hid (trim_stop Hl.out (by have := Hn.out; omega) Hz.out (.inr ⟨hk1, hx⟩))
        have hx2 : (((xs[k - 1] : Nat) : Int) == 0) = false := beq_false_of_ne (by omega)
        generalize xs[k - 1] = x at *
        clear hr hx
        go_wp2_with fail
        go_ret
        exact ⟨by rw [← Hk.out]; rfl, q, Hq.out⟩

theorem own_empty (w : World) (e : TypeId) : (w.alloc (.cells #[] e)).ownsRow w.heap.size e 1 (.slice (some ⟨w.heap.size, 0, none⟩) 0 0) 0 [] :=
  ⟨rfl, .inr ⟨w.heap.size, 0, #[], rfl, Nat.le_refl _, heap_alloc_new w _, Nat.le_refl _, Nat.zero_le _, rfl, rfl⟩⟩
theorem own_form2 {w : World} {base n : Nat} {e : TypeId} {v : Value} {xs : List Value} (h : w.ownsRow base e 1 v n xs) : ∃ A c, v = .slice A n c ∧ n ≤ c := by
  rcases h.2 with ⟨h1, h2⟩ | ⟨g, cap, cur, h1, _, _, h3, _⟩
  · exact ⟨none, 0, by rw [h1, h2], by omega⟩
  · exact ⟨some ⟨g, 0, none⟩, cap, h1, h3⟩

set_option maxHeartbeats 400000 in
theorem own_any (a : Addr) (n c B : Nat) (xs : List Nat) (w : World) (hr : Rd w B (some a) (vs xs)) (hB : B ≤ w.heap.size) (hn : xs.length = n) (hm : n ≤ 1048576) :
    Calls Try.prog 94 #[.slice (some a) n c] w fun e w' => ∃ A' c', e = .returned (.slice A' n c') ∧ Ow w' w.heap.size w'.heap.size A' (vs xs) ∧ Below w.heap.size w w' ∧ n ≤ c' := by
  obtain ⟨i0, hi0, hz0, hz1, hz2⟩ := info_parts infoI
  have hnews : ∀ j u, (vs xs)[j]? = some u → (w.alloc (.cells #[] 2)).cell? (a.add j) = some u := fun j u hu => by
    obtain ⟨a', h1, h2, h3⟩ := hr j u hu
    cases h1
    rw [World.cell?_alloc_lt w _ _ (by rw [addr_block]; omega)]
    exact h3
  have Hnews := Lib.hid hnews
  have Hn := Lib.hid hn
  clear hr hnews hn hB
  go_enter Try.func94, Try.ntmps94
  go_wp2_with (at_builtin; refine wpList_append_own _ rfl (.tmp 3) (.tmp 4) _ rfl w.heap.size 2 i0 _ 1 8 Try.underlying22 hi0 hz0 hz1 hz2 rfl (by omega) (.slice (some ⟨w.heap.size, 0, none⟩) 0 0) 0 [] rfl (own_empty w _) a n c (vs xs) rfl (by rw [vs_len, Hn.out, Nat.mul_one]) Hnews.out (vs_one · xs) (by unfold maxLen; omega) (by omega) (by simp) ?_; intro v1 w1 hown hg _)
  have hbw : Below w.heap.size w w1 := ((Below.refl _ _).alloc (Nat.le_refl _) _).grown hg (by simp) (by simp [Value.ownBlock])
  rw [Nat.zero_add, List.nil_append] at hown
  obtain ⟨A', c', rfl, hcap⟩ := own_form2 hown
  have Ho := Lib.hid (Ow.own hown)
  have Hcap := Lib.hid hcap
  have Hb := Lib.hid hbw
  clear hown hg hbw hcap
  go_ret
  exact ⟨A', c', rfl, Ho.out, Hb.out, Hcap.out⟩

set_option maxHeartbeats 400000 in
theorem signed_any (s : Int) (v : Nat) (A : Option Addr) (n c lo hi : Nat) (w : World) (ho : Ow w lo hi A (vs (limbs v))) (hn : (limbs v).length = n) (hm : (n : Int) ≤ 1000000) (hcap : n ≤ c) :
    Calls Try.prog 43 #[.int .i64 s, .slice A n c] w fun e w' => ∃ val, e = .returned val ∧ Wr w' lo hi s v val ∧ Below w.heap.size w w' := by
  have hst := store_int Try.prog
  have hst2 := store_slice Try.prog
  have Ho := Lib.hid ho
  have Hn := Lib.hid hn
  have Hcap := Lib.hid hcap
  clear ho hn hcap
  by_cases h0 : n = 0
  · have Hv : Hid (v = 0) := Lib.hid (limbs_len_zero.1 (by have := Hn.out; omega))
    subst h0
    go_enter Try.func43, Try.ntmps43
    go_wp2_with fail
    refine bodyPost_ret (v := .agg #[.int .i64 0, .slice none 0 0]) (by simp [results, Try.results43, go_sem]) rfl ⟨_, rfl, ⟨none, 0, ?_, ?_, by rw [Hv.out, limbs_zero]; exact Nat.le_refl _⟩, ?_⟩
    · rw [Hv.out, limbs_zero]; rfl
    · rw [Hv.out, limbs_zero]; exact .inl rfl
    · exact (Below.refl _ _).alloc (Nat.le_refl _) _
  · have Hv : Hid (v ≠ 0) := Lib.hid (fun e => h0 (by rw [← Hn.out, e, limbs_zero]; rfl))
    have hn0 : ((n : Int) == 0) = false := beq_false_of_ne (by omega)
    go_enter Try.func43, Try.ntmps43
    go_wp2_with fail
    refine bodyPost_ret (v := .agg #[.int .i64 s, .slice A n c]) (by simp [results, Try.results43, go_sem]) rfl ⟨_, rfl, ⟨A, c, ?_, ?_, by rw [Hn.out]; exact Hcap.out⟩, ?_⟩
    · unfold sg; rw [if_neg Hv.out, Hn.out]
    · exact Ho.out.below' ((Below.refl _ _).alloc (Nat.le_refl _) _)
    · exact (Below.refl _ _).alloc (Nat.le_refl _) _

theorem sg_ne {s : Int} {v : Nat} (h : v ≠ 0) : sg s v = s := if_neg h
theorem sg_zero (s : Int) : sg s 0 = 0 := rfl

set_option maxHeartbeats 1000000 in
theorem make_any (s : Int) (A : Option Addr) (n c B : Nat) (xs : List Nat) (w : World) (hr : Rd w B A (vs xs)) (hB : B ≤ w.heap.size) (hn : xs.length = n) (hl : Lim xs) (hc : (n : Int) ≤ c) (hm : (n : Int) ≤ 1000000) :
    Calls Try.prog 73 #[.int .i64 s, .slice A n c] w fun e w' => ∃ val, e = .returned val ∧ Wr w' w.heap.size w'.heap.size s (V xs) val ∧ Below w.heap.size w w' := by
  have hst := store_int Try.prog
  have hst2 := store_slice Try.prog
  have Hn := Lib.hid hn
  have Hl := Lib.hid hl
  have Hr := Lib.hid hr
  have hb0 : Below w.heap.size w (w.alloc (.cells #[.int .i64 0, .slice none 0 0] 26)) := belAlloc1 _ _
  have Hb0 := Lib.hid hb0
  have HB := Lib.hid hB
  have hr0 := hr.below (hb0.mono hB)
  clear hn hl hr hb0 hB
  go_enter Try.func73, Try.ntmps73
  go_wp2_with fail
  obtain ⟨w0, hw0⟩ : ∃ w0, w0 = w.alloc (.cells #[.int .i64 0, .slice none 0 0] 26) := ⟨_, rfl⟩
  rw [← hw0] at Hb0 hr0 ⊢
  have c0 : w0.cell? ⟨w.heap.size, 0, none⟩ = some (.int .i64 0) := by rw [hw0]; simp
  have c1 : w0.cell? ⟨w.heap.size, 1, none⟩ = some (.slice none 0 0) := by rw [hw0]; simp
  have f0 : w0.frozen? ⟨w.heap.size, 0, none⟩ = false := by rw [hw0]; go_simp
  have f1 : w0.frozen? ⟨w.heap.size, 1, none⟩ = false := by rw [hw0]; go_simp
  have Hs0 : Hid (w.heap.size + 1 = w0.heap.size) := Lib.hid (by rw [hw0]; simp)
  clear hw0
  go_loopw [5] (fun i wr => ∃ k : Nat, k ≤ n ∧ i = .int .i64 k ∧ (∀ i (h : i < xs.length), k ≤ i → xs[i] = 0) ∧ ∃ q, wr = w0.drewN q) (fun i _ => (intOf i).toNat)
  case atStart => exact ⟨n, Nat.le_refl _, rfl, fun i h h2 => absurd h (by have := Hn.out; omega), 0, rfl⟩
  case round =>
    obtain ⟨k, hk, rfl, hz, q, hq⟩ := hrel
    subst hq
    have hr := hr0.drewN q
    have Hz := Lib.hid hz
    clear hz
    by_cases h0 : k = 0
    · have Hk : Hid (k = (limbs (V xs)).length) := Lib.hid (trim_stop Hl.out (by omega) Hz.out (.inl h0))
      have Hv : Hid (V xs = 0) := Lib.hid (limbs_len_zero.1 (by have := Hk.out; omega))
      subst h0
      clear hr hr0
      go_wp2_with fail
      refine bodyPost_ret (v := .agg #[.int .i64 0, .slice none 0 0]) (by simp [results, Try.results73, go_sem, c0, c1]) rfl ⟨_, rfl, ⟨none, 0, ?_, ?_, by rw [Hv.out, limbs_zero]; exact Nat.le_refl _⟩, ?_⟩
      · rw [Hv.out, limbs_zero]; rfl
      · rw [Hv.out, limbs_zero]; exact .inl rfl
      · exact ((below_drewN Hb0.out q).setCell (by simp) _).setCell (by simp) _
    · have hk1 : k - 1 < xs.length := by have := Hn.out; omega
      obtain ⟨a, ha, _⟩ := hr.some_ (by rw [vs_len]; omega)
      subst ha
      have hcx := hr.cell (k := k - 1) (by rw [vs_len]; exact hk1)
      rw [vs_get hk1] at hcx
      have hkp : (0 : Int) < k := by omega
      have hkn : (k : Int) ≤ n := by omega
      by_cases hx : xs[k - 1] = 0
      · have Hz2 : Hid (∀ i (h : i < xs.length), k - 1 ≤ i → xs[i] = 0) := Lib.hid (fun i h h2 => by
          by_cases e : i = k - 1
          · subst e; exact hx
          · exact Hz.out i h (by omega))
        rw [hx] at hcx
        clear hr hx hr0
        go_wp2_with fail
        go_roundw
        case rel => exact ⟨k - 1, by omega, by go_num, Hz2.out, q, rfl⟩
        case measure => simp [intOf]; omega
      · have Hk : Hid (k = (limbs (V xs)).length) := Lib.hid (trim_stop Hl.out (by have := Hn.out; omega) Hz.out (.inr ⟨hk1, hx⟩))
        have Hp : Hid (xs.take k = limbs (V xs)) := Lib.hid (by rw [Hk.out]; exact (limbs_prefix Hl.out).symm)
        have Hrt : Hid (Rd (w0.drewN q) B (some a) (vs (limbs (V xs)))) := Lib.hid (by rw [← Hp.out, vs_take]; exact hr.take k)
        have hx2 : (((xs[k - 1] : Nat) : Int) == 0) = false := beq_false_of_ne (by omega)
        have hk0 : ((k : Int) == 0) = false := beq_false_of_ne (by omega)
        have hk3 : (k : Int) ≤ c := by omega
        have Hv : Hid (V xs ≠ 0) := Lib.hid (fun e => h0 (by rw [Hk.out, e, limbs_zero]; rfl))
        have Hm : Hid (k ≤ 1048576) := Lib.hid (by omega)
        generalize xs[k - 1] = x at *
        clear hr hx hr0
        go_wp2_with fail
        refine (own_any a k c B (limbs (V xs)) (w0.drewN q) Hrt.out (by have := HB.out; have := Hs0.out; simp; omega) Hk.out.symm Hm.out).mono ?_
        rintro e w3 ⟨A', c', rfl, ho, hb, hcap⟩
        have Hcap := Lib.hid hcap
        clear hcap
        have hlt : w.heap.size < (w0.drewN q).heap.size := by have := Hs0.out; simp; omega
        have d0 : w3.cell? ⟨w.heap.size, 0, none⟩ = some (.int .i64 0) := (hb.cell (p := ⟨w.heap.size, 0, none⟩) hlt).trans c0
        have d1 : w3.cell? ⟨w.heap.size, 1, none⟩ = some (.slice none 0 0) := (hb.cell (p := ⟨w.heap.size, 1, none⟩) hlt).trans c1
        have e0 : w3.frozen? ⟨w.heap.size, 0, none⟩ = false := (hb.frozen (p := ⟨w.heap.size, 0, none⟩) hlt).trans f0
        have e1 : w3.frozen? ⟨w.heap.size, 1, none⟩ = false := (hb.frozen (p := ⟨w.heap.size, 1, none⟩) hlt).trans f1
        have Ho := Lib.hid ho
        have Hb := Lib.hid hb
        have Hlt := Lib.hid hlt
        clear c0 c1 f0 f1 ho hb hlt hcx hx2
        go_wp2_with fail
        refine bodyPost_ret (v := .agg #[.int .i64 s, .slice A' k c']) (by simp [results, Try.results73, go_sem, d0, d1]) rfl ⟨_, rfl, ⟨A', c', ?_, ?_, by rw [← Hk.out]; exact Hcap.out⟩, ?_⟩
        · rw [sg_ne Hv.out, ← Hk.out]
        · have h := (Ho.out.setCell (p := ⟨w.heap.size, 0, none⟩) (.inl Hlt.out) (.int .i64 s)).setCell (p := ⟨w.heap.size, 1, none⟩) (.inl Hlt.out) (.slice A' k c')
          exact h.wide (by have := Hlt.out; omega) (by simp)
        · exact ((below_drewN Hb0.out q).trans (Hb.out.mono (by have := Hlt.out; omega))).setCell (by simp) _ |>.setCell (by simp) _
end Go.Proofs.Ytnnoobdcdfcdaaa
