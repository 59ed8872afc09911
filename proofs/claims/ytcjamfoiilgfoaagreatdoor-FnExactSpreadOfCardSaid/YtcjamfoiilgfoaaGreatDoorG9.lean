/- Texts of this seat, joined: Ko Kp Kq Kr Ks Kt -/
import Derived.Test.YtcjamfoiilgfoaaGreatDoorG8
import Derived.Test.YtcjamfoiilgfoaaGreatDoorG4
import Derived.Test.YtcjamfoiilgfoaaGreatDoorG6
/- Exact results of operations: boxes, floats, signs, zeros, of the program. -/
namespace Go.Proofs.YtcjamfoiilgfoaaGreatDoor
set_option maxRecDepth 100000
open Go.RowKit
set_option linter.unusedSimpArgs false
set_option linter.unusedVariables false
attribute [local go_sem ↓] Go.wp_at_zero Go.wp_at_succ

/-- an exact result's box -/
def XBox (w : World) (b : Nat) (S : Int) (A : Option Addr) (n c : Nat) (E g : Int) : Prop := (w.cell? ⟨b, 0, none⟩ = some (.int .i64 S) ∧ w.cell? ⟨b, 1, none⟩ = some (.slice A n c) ∧ w.cell? ⟨b, 2, none⟩ = some (.int .i64 E) ∧ w.cell? ⟨b, 3, none⟩ = some (.int .i64 g)) ∧ b < w.heap.size
/-- a result's box, yet untouched -/
def XRes (w : World) (b : Nat) : Prop := (w.cell? ⟨b, 0, none⟩ = some (.int .i64 0) ∧ w.cell? ⟨b, 1, none⟩ = some (.slice none 0 0) ∧ w.cell? ⟨b, 2, none⟩ = some (.int .i64 0) ∧ w.cell? ⟨b, 3, none⟩ = some (.int .i64 0) ∧ w.frozen? ⟨b, 0, none⟩ = false ∧ w.frozen? ⟨b, 1, none⟩ = false ∧ w.frozen? ⟨b, 2, none⟩ = false ∧ w.frozen? ⟨b, 3, none⟩ = false) ∧ b < w.heap.size
section
variable {w w' : World} {b n c : Nat} {S E g : Int} {A : Option Addr}
theorem XBox.next (x : XBox w b S A n c E g) (hb : Below w.heap.size w w') : XBox w' b S A n c E g :=
  ⟨⟨(hb.cell (p := ⟨b, 0, none⟩) x.2).trans x.1.1, (hb.cell (p := ⟨b, 1, none⟩) x.2).trans x.1.2.1, (hb.cell (p := ⟨b, 2, none⟩) x.2).trans x.1.2.2.1, (hb.cell (p := ⟨b, 3, none⟩) x.2).trans x.1.2.2.2⟩, Nat.lt_of_lt_of_le x.2 hb.size⟩
theorem XRes.next (x : XRes w b) (hb : Below w.heap.size w w') : XRes w' b :=
  ⟨⟨(hb.cell (p := ⟨b, 0, none⟩) x.2).trans x.1.1, (hb.cell (p := ⟨b, 1, none⟩) x.2).trans x.1.2.1, (hb.cell (p := ⟨b, 2, none⟩) x.2).trans x.1.2.2.1, (hb.cell (p := ⟨b, 3, none⟩) x.2).trans x.1.2.2.2.1, (hb.frozen (p := ⟨b, 0, none⟩) x.2).trans x.1.2.2.2.2.1, (hb.frozen (p := ⟨b, 1, none⟩) x.2).trans x.1.2.2.2.2.2.1, (hb.frozen (p := ⟨b, 2, none⟩) x.2).trans x.1.2.2.2.2.2.2.1, (hb.frozen (p := ⟨b, 3, none⟩) x.2).trans x.1.2.2.2.2.2.2.2⟩, Nat.lt_of_lt_of_le x.2 hb.size⟩
theorem XBox.drew (x : XBox w b S A n c E g) : XBox w.drew b S A n c E g := x
theorem XRes.drew (x : XRes w b) : XRes w.drew b := x
theorem XBox.keep (x : XBox w b S A n c E g) {q : Addr} (hq : q.block ≠ b) (u : Value) : XBox (w.setCell q u) b S A n c E g := by
  have hk : ∀ o, (w.setCell q u).cell? ⟨b, o, none⟩ = w.cell? ⟨b, o, none⟩ := fun o => World.cell?_of_block (a := ⟨b, o, none⟩) (Below.heap_setCell _ _ _ _ (fun e => hq e.symm))
  exact ⟨⟨(hk 0).trans x.1.1, (hk 1).trans x.1.2.1, (hk 2).trans x.1.2.2.1, (hk 3).trans x.1.2.2.2⟩, by have := x.2; simpa using this⟩
theorem XBox.new (w : World) (S : Int) (A : Option Addr) (n c : Nat) (E g : Int) (T : TypeId) : XBox (w.alloc (.cells #[.int .i64 S, .slice A n c, .int .i64 E, .int .i64 g] T)) w.heap.size S A n c E g := by
  refine ⟨⟨?_, ?_, ?_, ?_⟩, ?_⟩
  · go_simp
  · go_simp
  · go_simp
  · go_simp
  · simp
theorem XRes.new (w : World) (T : TypeId) : XRes (w.alloc (.cells #[.int .i64 0, .slice none 0 0, .int .i64 0, .int .i64 0] T)) w.heap.size := by
  refine ⟨⟨?_, ?_, ?_, ?_, ?_, ?_, ?_, ?_⟩, ?_⟩
  · go_simp
  · go_simp
  · go_simp
  · go_simp
  · go_simp
  · go_simp
  · go_simp
  · go_simp
  · simp
end
theorem xbox2_res (w : World) (S S' : Int) (A A' : Option Addr) (n n' c c' : Nat) (E E' g g' : Int) (t : TypeId) : ∃ W, W = ((w.alloc (.cells #[.int .i64 S, .slice A n c, .int .i64 E, .int .i64 g] t)).alloc (.cells #[.int .i64 S', .slice A' n' c', .int .i64 E', .int .i64 g'] t)).alloc (.cells #[.int .i64 0, .slice none 0 0, .int .i64 0, .int .i64 0] t) ∧ XBox W w.heap.size S A n c E g ∧ XBox W (w.heap.size + 1) S' A' n' c' E' g' ∧ XRes W (w.heap.size + 1 + 1) ∧ Below w.heap.size w W := by
  obtain ⟨u1, h1⟩ : ∃ u1, u1 = w.alloc (.cells #[.int .i64 S, .slice A n c, .int .i64 E, .int .i64 g] t) := ⟨_, rfl⟩
  obtain ⟨u2, h2⟩ : ∃ u2, u2 = u1.alloc (.cells #[.int .i64 S', .slice A' n' c', .int .i64 E', .int .i64 g'] t) := ⟨_, rfl⟩
  obtain ⟨u3, h3⟩ : ∃ u3, u3 = u2.alloc (.cells #[.int .i64 0, .slice none 0 0, .int .i64 0, .int .i64 0] t) := ⟨_, rfl⟩
  have b1 : Below w.heap.size w u1 := by rw [h1]; exact belAlloc1 _ _
  have b2 : Below u1.heap.size u1 u2 := by rw [h2]; exact belAlloc1 _ _
  have b3 : Below u2.heap.size u2 u3 := by rw [h3]; exact belAlloc1 _ _
  have s1 : u1.heap.size = w.heap.size + 1 := by rw [h1]; simp
  have s2 : u2.heap.size = w.heap.size + 1 + 1 := by rw [h2]; simp [s1]
  have x1 : XBox u1 w.heap.size S A n c E g := by rw [h1]; exact XBox.new _ _ _ _ _ _ _ _
  have x2 : XBox u2 (w.heap.size + 1) S' A' n' c' E' g' := by rw [← s1, h2]; exact XBox.new _ _ _ _ _ _ _ _
  have x3 : XRes u3 (w.heap.size + 1 + 1) := by rw [← s2, h3]; exact XRes.new _ _
  exact ⟨u3, by rw [h3, h2, h1], (x1.next b2).next b3, x2.next b3, x3, belNext (belNext b1 b2) b3⟩
/-- the sign bit -/
def sgn (b : Nat) : Int := if neg32 b = true then -1 else 1
theorem sgn_pm (b : Nat) : sgn b = 1 ∨ sgn b = -1 := by unfold sgn; split <;> simp
theorem wrap_neg {r : Nat} (h : r < 9223372036854775808) : IntKind.i64.wrap (((9223372036854775808 + r : Nat)) : Int) = (r : Int) - 9223372036854775808 := by
  rw [IntKind.wrap_i64]; omega
theorem signOf_any (s : Bool) (m : Nat) (q : Int) (w : World) : Calls Tryz.prog 89 #[.float .f64 (d64 s m q)] w fun e w' => e = .returned (.int .i64 (if s = true then -1 else 1)) ∧ w = w' := by
  obtain ⟨r, h1, h2, h3⟩ := near64_words m q
  have hsb : ∀ w, Calls Tryz.prog 134 #[.float .f64 (d64 s m q)] w fun e w' => e = .returned (.bool s) ∧ w = w' := by
    intro w
    cases s
    · rw [h2]
      have hx := run_fbits64 r
      have hw : IntKind.i64.wrap (r : Int) = r := IntWalk.i64_in _ (by omega)
      have hd : decide ((r : Int) < 0) = false := decide_eq_false (by omega)
      have hr1 : (r : Int) ≤ 9223372036854775807 := by omega
      clear h1 h2 h3
      go_enter Tryz.func134, Tryz.ntmps134
      go_wp2_with fail
      go_ret
      exact ⟨rfl, rfl⟩
    · rw [h3]
      have hx := run_fbits64 (9223372036854775808 + r)
      have hw := wrap_neg h1
      have hd : decide ((r : Int) - 9223372036854775808 < 0) = true := decide_eq_true (by omega)
      have hr1 : (r : Int) ≤ 9223372036854775807 := by omega
      obtain ⟨X, hX⟩ : ∃ X, X = 9223372036854775808 + r := ⟨_, rfl⟩
      rw [← hX] at hx hw ⊢
      clear h1 h2 h3 hX
      go_enter Tryz.func134, Tryz.ntmps134
      go_wp2_with fail
      go_ret
      exact ⟨rfl, rfl⟩
  clear h1 h2 h3
  have Hsb := Lib.hid hsb
  clear hsb
  cases s
  · go_enter Tryz.func89, Tryz.ntmps89
    go_wp2_with fail
    refine (Hsb.out _).mono ?_
    rintro e w9 ⟨rfl, rfl⟩
    go_wp2_with fail
    go_ret
    exact ⟨rfl, rfl⟩
  · go_enter Tryz.func89, Tryz.ntmps89
    go_wp2_with fail
    refine (Hsb.out _).mono ?_
    rintro e w9 ⟨rfl, rfl⟩
    go_wp2_with fail
    go_ret
    exact ⟨rfl, rfl⟩
theorem signOfB_any (s : Bool) (m : Nat) (q : Int) (w : World) : Calls Tryz.prog 89 #[.float .f64 (d64 s m q)] w fun e w' => e = .returned (.int .i64 (if s = true then -1 else 1)) ∧ Below w.heap.size w w' :=
  (signOf_any s m q w).mono fun _ _ h => same_below h

set_option maxHeartbeats 4000000 in
theorem exactOf_any (b : Nat) (w : World) (hb : b < 4294967296) (hf : fin32 b = true) (hT : TabZ w) :
    Calls Tryz.prog 42 #[.float .f32 b] w fun e w' => ∃ Sr Ar nr cr, e = .returned (.agg #[.int .i64 Sr, .slice Ar nr cr, .int .i64 (nx (ofM b) (ofP b)), .int .i64 (sgn b)]) ∧ ZO w' w.heap.size w'.heap.size (nz (ofM b)) Sr Ar nr cr ∧ Below w.heap.size w w' := by
  have hst := store_int Tryz.prog
  have hst2 := store_slice Tryz.prog
  obtain ⟨w1, hw1⟩ : ∃ w1, w1 = w.alloc (.cells #[.int .i64 0, .slice none 0 0, .int .i64 0, .int .i64 0] 68) := ⟨_, rfl⟩
  have RsX1 : Hid (XRes w1 w.heap.size) := Lib.hid (by rw [hw1]; exact XRes.new _ _)
  have Bel1 : Hid (Below w.heap.size w w1) := Lib.hid (by rw [hw1]; exact belAlloc1 _ _)
  have Hlt : Hid (w.heap.size < w1.heap.size) := Lib.hid RsX1.out.2
  have Tb1 := Lib.hid (hT.next Bel1.out)
  have Hw := Lib.hid hw1
  have Hb := Lib.hid hb
  have Hres := Lib.hid (of_yes2 hf)
  have hcv0 := conv_3264 b hb hf
  have hcv : ∀ w, (convert 37 41 (.float .f32 b)).run Tryz.prog w = .ok (.float .f64 (d64 (neg32 b) (mant (b % 2147483648)) (-149 + expo (b % 2147483648)))) w := fun w => run_convert_float_float w _ _ _ _ _ _ (by kernel_rfl) (by kernel_rfl) hcv0
  have Hcv := Lib.hid hcv
  clear hw1 hT hb hf hcv0 hcv
  go_enter Tryz.func42, Tryz.ntmps42
  go_wp2_with fail
  rw [← Hw.out]
  obtain ⟨⟨hRsX0, hRsX1, hRsX2, hRsX3, hRsX4, hRsX5, hRsX6, hRsX7⟩, hRsX8⟩ := RsX1.out
  refine (implOf_any b _ Hb.out Tb1.out).mono ?_
  rintro e w2 ⟨Sr, Ar, nr, cr, rfl, hzo, hb⟩
  rw [Hres.out.2.1, Hres.out.2.2]
  have Zo2 := Lib.hid (hzo.cast_ Hres.out.1)
  clear hzo
  have Sz2 := Lib.hid (Below.size hb)
  have Bel2 := Lib.hid (belNext Bel1.out hb)
  have RsX2 := Lib.hid (RsX1.out.next hb)
  clear hb Bel1 RsX1 hRsX0 hRsX1 hRsX2 hRsX3 hRsX4 hRsX5 hRsX6 hRsX7 hRsX8
  obtain ⟨⟨hRsX0, hRsX1, hRsX2, hRsX3, hRsX4, hRsX5, hRsX6, hRsX7⟩, hRsX8⟩ := RsX2.out
  go_upto_region 2 with fail
  obtain ⟨q, hq⟩ : ∃ q, q = nx (ofM b) (ofP b) := ⟨_, rfl⟩
  rw [← hq]
  obtain ⟨w3, hw3⟩ : ∃ w3, w3 = w2.alloc (.cells #[.int .i64 Sr, .slice Ar nr cr, .int .i64 q] 30) := ⟨_, rfl⟩
  rw [← hw3]
  have Hq := Lib.hid hq
  obtain ⟨f, hf⟩ : ∃ f, f = w2.heap.size := ⟨_, rfl⟩
  have hb : Below w2.heap.size w2 w3 := by rw [hw3]; exact belAlloc1 _ _
  have Ba3 : Hid (DBox w3 f Sr Ar nr cr q) := Lib.hid (by rw [hw3, hf]; exact DBox.new _ _ _ _ _ _ _)
  have Hf : Hid (w2.heap.size ≤ f) := Lib.hid (by omega)
  rw [← hf]
  clear hw3 hf hq
  have Sz3 := Lib.hid (Below.size hb)
  have Bel3 := Lib.hid (belNext Bel2.out hb)
  have RsX3 := Lib.hid (RsX2.out.next hb)
  have Zo3 := Lib.hid (Zo2.out.next hb)
  clear hb Bel2 RsX2 Zo2 hRsX0 hRsX1 hRsX2 hRsX3 hRsX4 hRsX5 hRsX6 hRsX7 hRsX8
  obtain ⟨⟨hBa0, hBa1, hBa2⟩, hBa3⟩ := Ba3.out
  obtain ⟨⟨hRsX0, hRsX1, hRsX2, hRsX3, hRsX4, hRsX5, hRsX6, hRsX7⟩, hRsX8⟩ := RsX3.out
  have hcv := Hcv.out
  refine wp_region_held_drew (S := fun w' => (w'.cell? ⟨f, 0, none⟩ = some (.int .i64 Sr) ∧ w'.cell? ⟨f, 1, none⟩ = some (.slice Ar nr cr) ∧ w'.cell? ⟨f, 2, none⟩ = some (.int .i64 q))) (by kernel_rfl) Ba3.out.1 (fun hHeld => ?_)
  clear hBa0 hBa1 hBa2 hBa3 hRsX0 hRsX1 hRsX2 hRsX3 hRsX4 hRsX5 hRsX6 hRsX7 hRsX8
  refine wpAnyH_take (i := 0) (v := ?_) rfl (by kernel_rfl) (by kernel_rfl) (by kernel_rfl) (fun _ _ _ h => h) (Or.inl ⟨by rfl, ?_⟩) (by assumption) ?_
  rotate_left
  · (intro w hSw; (try dsimp only at hSw); go_simp; (try with_reducible rfl))
  try simp only [Act.put, List.setIfInBounds_toArray, List.set_cons_zero, List.set_cons_succ, List.getElem_toArray, List.getElem_cons_succ, List.getElem_cons_zero]
  refine wpAnyH_take (i := 1) (v := ?_) rfl (by kernel_rfl) (by kernel_rfl) (by kernel_rfl) (fun _ _ _ h => h) (Or.inl ⟨by rfl, ?_⟩) (by assumption) ?_
  rotate_left
  · (intro w hSw; (try dsimp only at hSw); go_simp; (try with_reducible rfl))
  try simp only [Act.put, List.setIfInBounds_toArray, List.set_cons_zero, List.set_cons_succ, List.getElem_toArray, List.getElem_cons_succ, List.getElem_cons_zero]
  refine wpAnyH_take (i := 2) (v := ?_) rfl (by kernel_rfl) (by kernel_rfl) (by kernel_rfl) (fun _ _ _ h => h) (Or.inl ⟨by rfl, ?_⟩) (by assumption) ?_
  rotate_left
  · (intro w hSw; (try dsimp only at hSw); go_simp; (try with_reducible rfl))
  try simp only [Act.put, List.setIfInBounds_toArray, List.set_cons_zero, List.set_cons_succ, List.getElem_toArray, List.getElem_cons_succ, List.getElem_cons_zero]
  refine wpAnyH_ready (rs := [3]) (by kernel_rfl) (by simp) ?_
  refine AllReadyH.cons rfl (fun K hK => ?_) AllReadyH.nil
  go_simp
  refine (signOfB_any (neg32 b) (mant (b % 2147483648)) (-149 + expo (b % 2147483648)) w3.drew).mono ?_
  rintro e w4 ⟨rfl, hb0⟩
  have hb : Below w3.heap.size w3 w4 := belDrew hb0
  obtain ⟨g, hg⟩ : ∃ g : Int, g = if neg32 b = true then -1 else 1 := ⟨_, rfl⟩
  rw [← hg]
  have Hg : Hid (g = sgn b) := Lib.hid hg
  clear hg
  refine hK.out _ _ ((Ba3.out.next hb).1) (fun hHeld => ?_)
  clear hK K hb0
  have Sz4 := Lib.hid (Below.size hb)
  have Bel4 := Lib.hid (belNext Bel3.out hb)
  have RsX4 := Lib.hid (RsX3.out.next hb)
  have Zo4 := Lib.hid (Zo3.out.next hb)
  have Ba4 := Lib.hid (Ba3.out.next hb)
  clear hb Bel3 RsX3 Zo3 Ba3
  try simp only [Act.put, List.setIfInBounds_toArray, List.set_cons_zero, List.set_cons_succ, List.getElem_toArray, List.getElem_cons_succ, List.getElem_cons_zero]
  refine wpAnyH_take (i := 4) (v := ?_) rfl (by kernel_rfl) (by kernel_rfl) (by kernel_rfl) (fun _ _ _ h => h) (Or.inl ⟨by rfl, ?_⟩) (by assumption) ?_
  rotate_left
  · (intro w hSw; (try dsimp only at hSw); go_simp; (try with_reducible rfl))
  try simp only [Act.put, List.setIfInBounds_toArray, List.set_cons_zero, List.set_cons_succ, List.getElem_toArray, List.getElem_cons_succ, List.getElem_cons_zero]
  clear hcv
  obtain ⟨⟨hRsX0, hRsX1, hRsX2, hRsX3, hRsX4, hRsX5, hRsX6, hRsX7⟩, hRsX8⟩ := RsX4.out
  refine wpAnyH_ready (rs := [5]) (by kernel_rfl) (by simp) ?_
  refine AllReadyH.cons rfl (fun K hK => ?_) AllReadyH.nil
  go_simp
  refine hK.out _ _ (((((Ba4.out.keep (by have zz0 := Hlt.out; have zz1 := Sz2.out; have zz2 := Sz3.out; have zz3 := Hf.out; have zz4 := Sz4.out; first | omega | (simp; done) | (simp; omega)) _).keep (by have zz0 := Hlt.out; have zz1 := Sz2.out; have zz2 := Sz3.out; have zz3 := Hf.out; have zz4 := Sz4.out; first | omega | (simp; done) | (simp; omega)) _).keep (by have zz0 := Hlt.out; have zz1 := Sz2.out; have zz2 := Sz3.out; have zz3 := Hf.out; have zz4 := Sz4.out; first | omega | (simp; done) | (simp; omega)) _).keep (by have zz0 := Hlt.out; have zz1 := Sz2.out; have zz2 := Sz3.out; have zz3 := Hf.out; have zz4 := Sz4.out; first | omega | (simp; done) | (simp; omega)) _).1) (fun hHeld => ?_)
  clear hK K hHeld
  try simp only [Act.put, List.setIfInBounds_toArray, List.set_cons_zero, List.set_cons_succ, List.getElem_toArray, List.getElem_cons_succ, List.getElem_cons_zero]
  refine wpAnyH_done (by kernel_rfl) ?_ _
  go_wp2_with fail
  refine bodyPost_ret (v := .agg #[.int .i64 Sr, .slice Ar nr cr, .int .i64 q, .int .i64 g]) (by simp [results, Tryz.results42, go_sem, hRsX0, hRsX1, hRsX2, hRsX3]) rfl ⟨Sr, Ar, nr, cr, by rw [Hq.out, Hg.out], ?_, ?_⟩
  · exact ((((Zo4.out.setCell (.inl (by have zz0 := Hlt.out; have zz1 := Sz2.out; have zz2 := Sz3.out; have zz3 := Hf.out; have zz4 := Sz4.out; first | omega | (simp; done) | (simp; omega))) _).setCell (.inl (by have zz0 := Hlt.out; have zz1 := Sz2.out; have zz2 := Sz3.out; have zz3 := Hf.out; have zz4 := Sz4.out; first | omega | (simp; done) | (simp; omega))) _).setCell (.inl (by have zz0 := Hlt.out; have zz1 := Sz2.out; have zz2 := Sz3.out; have zz3 := Hf.out; have zz4 := Sz4.out; first | omega | (simp; done) | (simp; omega))) _).setCell (.inl (by have zz0 := Hlt.out; have zz1 := Sz2.out; have zz2 := Sz3.out; have zz3 := Hf.out; have zz4 := Sz4.out; first | omega | (simp; done) | (simp; omega))) _).wide (by have zz0 := Hlt.out; have zz1 := Sz2.out; have zz2 := Sz3.out; have zz3 := Hf.out; have zz4 := Sz4.out; first | omega | (simp; done) | (simp; omega)) (by have zz0 := Hlt.out; have zz1 := Sz2.out; have zz2 := Sz3.out; have zz3 := Hf.out; have zz4 := Sz4.out; first | omega | (simp; done) | (simp; omega)) (Nat.le_refl _)
  · repeat (first | exact Bel4.out | refine Below.drew ?_ | refine Below.setCell ?_ (by have zz0 := Hlt.out; have zz1 := Sz2.out; have zz2 := Sz3.out; have zz3 := Hf.out; have zz4 := Sz4.out; first | omega | (simp; done) | (simp; omega)) _)

end Go.Proofs.YtcjamfoiilgfoaaGreatDoor
/- Zeros, sums, differences, products, rounding of exact results, of the program. -/
namespace Go.Proofs.YtcjamfoiilgfoaaGreatDoor
set_option maxRecDepth 100000
open Go.RowKit
set_option linter.unusedSimpArgs false
set_option linter.unusedVariables false
attribute [local go_sem ↓] Go.wp_at_zero Go.wp_at_succ

/-- the sign of a sum that is 0 -/
def sgS (g h : Int) : Int := if g = h then g else 0
theorem XBox.sign {w : World} {b n c : Nat} {S E g : Int} {A : Option Addr} (x : XBox w b S A n c E g) (h : Int) : XBox (w.setCell ⟨b, 3, none⟩ (.int .i64 h)) b S A n c E h := by
  obtain ⟨⟨x0, x1, x2, x3⟩, x4⟩ := x
  refine ⟨⟨?_, ?_, ?_, ?_⟩, by simp; exact x4⟩
  · go_simp
  · go_simp
  · go_simp
  · go_simp
theorem XRes.keep {w : World} {b : Nat} (x : XRes w b) {q : Addr} (hq : q.block ≠ b) (u : Value) : XRes (w.setCell q u) b := by
  have hh := Below.heap_setCell w q u b (fun e => hq e.symm)
  have hk : ∀ o, (w.setCell q u).cell? ⟨b, o, none⟩ = w.cell? ⟨b, o, none⟩ := fun o => World.cell?_of_block (a := ⟨b, o, none⟩) hh
  have hf : ∀ o, (w.setCell q u).frozen? ⟨b, o, none⟩ = w.frozen? ⟨b, o, none⟩ := fun o => by unfold World.frozen?; rw [hh]
  exact ⟨⟨(hk 0).trans x.1.1, (hk 1).trans x.1.2.1, (hk 2).trans x.1.2.2.1, (hk 3).trans x.1.2.2.2.1, (hf 0).trans x.1.2.2.2.2.1, (hf 1).trans x.1.2.2.2.2.2.1, (hf 2).trans x.1.2.2.2.2.2.2.1, (hf 3).trans x.1.2.2.2.2.2.2.2⟩, by have := x.2; simpa using this⟩
/-- a zero result -/
def zF (g mode : Int) : Nat := if g < 0 ∨ (g = 0 ∧ mode = 1) then 2147483648 else 0
theorem copysign_m0 (w : World) : Calls Tryz.prog 138 #[.float .f64 0, .float .f64 13830554455654793216] w fun e w' => e = .returned (.float .f64 9223372036854775808) ∧ w = w' := by
  have h1 := run_fbits64 0
  have h2 := run_fbits64 13830554455654793216
  have h3 := run_ffrom64 9223372036854775808
  rw [show ((0 : Nat) : Int) = 0 from rfl] at h1
  rw [show ((13830554455654793216 : Nat) : Int) = 13830554455654793216 from rfl] at h2
  rw [show ((9223372036854775808 : Nat) : Int) = 9223372036854775808 from rfl] at h3
  have b1 : bits .andNot .u64 0 9223372036854775808 = 0 := by decide +kernel
  have b2 : bits .and .u64 13830554455654793216 9223372036854775808 = 9223372036854775808 := by decide +kernel
  have b3 : bits .or .u64 0 9223372036854775808 = 9223372036854775808 := by decide +kernel
  go_enter Tryz.func138, Tryz.ntmps138
  go_wp2_with fail
  go_ret
  exact ⟨rfl, rfl⟩
theorem conv_m0 : floatToFloatBits .f64 9223372036854775808 .f32 = some 2147483648 := by decide +kernel
set_option maxHeartbeats 1000000 in
theorem exZeroF_any (S E g mode : Int) (A : Option Addr) (n c : Nat) (w : World) :
    Calls Tryz.prog 95 #[.agg #[.int .i64 S, .slice A n c, .int .i64 E, .int .i64 g], .int .i64 mode] w fun e w' => e = .returned (.float .f32 (zF g mode)) ∧ Below w.heap.size w w' := by
  have hcv : ∀ w, (convert 41 37 (.float .f64 9223372036854775808)).run Tryz.prog w = .ok (.float .f32 2147483648) w := fun w => run_convert_float_float w _ _ _ _ _ _ (by kernel_rfl) (by kernel_rfl) conv_m0
  by_cases h1 : g < 0
  · have h2 : decide (g < 0) = true := decide_eq_true h1
    have Hz : Hid (zF g mode = 2147483648) := Lib.hid (by unfold zF; rw [if_pos (by omega)])
    go_enter Tryz.func95, Tryz.ntmps95
    go_wp2_with fail
    refine (copysign_m0 _).mono ?_
    rintro e w9 ⟨rfl, rfl⟩
    go_wp2_with fail
    go_ret
    exact ⟨by rw [Hz.out]; rfl, belAlloc1 _ _⟩
  · have h2 : decide (g < 0) = false := decide_eq_false h1
    by_cases h3 : g = 0
    · subst h3
      by_cases h5 : mode = 1
      · subst h5
        have Hz : Hid (zF 0 1 = 2147483648) := Lib.hid (by unfold zF; rw [if_pos (by omega)])
        go_enter Tryz.func95, Tryz.ntmps95
        go_wp2_with fail
        refine (copysign_m0 _).mono ?_
        rintro e w9 ⟨rfl, rfl⟩
        go_wp2_with fail
        go_ret
        exact ⟨by rw [Hz.out]; rfl, belAlloc1 _ _⟩
      · have h6 : (mode == 1) = false := beq_false_of_ne h5
        have Hz : Hid (zF 0 mode = 0) := Lib.hid (by unfold zF; rw [if_neg (by omega)])
        go_enter Tryz.func95, Tryz.ntmps95
        go_wp2_with fail
        go_ret
        exact ⟨by rw [Hz.out]; rfl, belAlloc1 _ _⟩
    · have h4 : (g == 0) = false := beq_false_of_ne h3
      have Hz : Hid (zF g mode = 0) := Lib.hid (by unfold zF; rw [if_neg (by omega)])
      go_enter Tryz.func95, Tryz.ntmps95
      go_wp2_with fail
      go_ret
      exact ⟨by rw [Hz.out]; rfl, belAlloc1 _ _⟩
/-- what a result is rounded to -/
def xF (z E g mode : Int) : Nat := if z = 0 then zF g mode else rdF z E mode
def xL (z E mode : Int) : Int := if z = 0 then 0 else rdL z E mode
set_option maxHeartbeats 2000000 in
theorem exRounded_any (z S E g mode : Int) (A : Option Addr) (n c : Nat) (w : World) (hz : ZV w z S A n c) (hm : (n : Int) ≤ 200) (hE1 : -15000 ≤ E) (hE2 : E ≤ 15000) (hm1 : 0 ≤ mode) (hm2 : mode ≤ 4) (hT : TabZ w) :
    Calls Tryz.prog 44 #[.agg #[.int .i64 S, .slice A n c, .int .i64 E, .int .i64 g], .int .i64 mode] w fun e w' => e = .returned (.tuple #[.float .f32 (xF z E g mode), .int .i64 (xL z E mode)]) ∧ Below w.heap.size w w' := by
  obtain ⟨w1, hw1⟩ : ∃ w1, w1 = w.alloc (.cells #[.int .i64 S, .slice A n c, .int .i64 E, .int .i64 g] 68) := ⟨_, rfl⟩
  have Bx1 : Hid (XBox w1 w.heap.size S A n c E g) := Lib.hid (by rw [hw1]; exact XBox.new _ _ _ _ _ _ _ _)
  have Bel1 : Hid (Below w.heap.size w w1) := Lib.hid (by rw [hw1]; exact belAlloc1 _ _)
  have Zv1 := Lib.hid (hz.next Bel1.out)
  have Tb1 := Lib.hid (hT.next Bel1.out)
  have Hw := Lib.hid hw1
  have HS : Hid (S = z.sign) := Lib.hid hz.1
  have Hm := Lib.hid hm
  have Hmo := Lib.hid (And.intro hm1 hm2)
  clear hz hw1 hm hm1 hm2 hT
  by_cases h0 : z = 0
  · have hS : S = 0 := by rw [HS.out, h0]; rfl
    have Hres : Hid (xF z E g mode = zF g mode ∧ xL z E mode = 0) := Lib.hid ⟨if_pos h0, if_pos h0⟩
    subst hS
    clear h0
    go_enter Tryz.func44, Tryz.ntmps44
    go_wp2_with fail
    rw [← Hw.out]
    obtain ⟨⟨hBx0, hBx1, hBx2, hBx3⟩, hBx4⟩ := Bx1.out
    go_wp2_with fail
    refine (exZeroF_any 0 E g mode A n c _).mono ?_
    rintro e w2 ⟨rfl, hb⟩
    have Sz2 := Lib.hid (Below.size hb)
    have Bel2 := Lib.hid (belNext Bel1.out hb)
    have Bx2 := Lib.hid (Bx1.out.next hb)
    have Zv2 := Lib.hid (Zv1.out.next hb)
    have Tb2 := Lib.hid (Tb1.out.next hb)
    clear hb Bel1 Bx1 Zv1 Tb1 hBx0 hBx1 hBx2 hBx3 hBx4
    obtain ⟨⟨hBx0, hBx1, hBx2, hBx3⟩, hBx4⟩ := Bx2.out
    go_wp2_with fail
    go_ret2
    exact ⟨by rw [Hres.out.1, Hres.out.2]; rfl, Bel2.out⟩
  · have hS : (S == 0) = false := beq_false_of_ne (by rw [HS.out]; exact fun h => h0 (Int.sign_eq_zero_iff_zero.1 h))
    have hS2 : S ≠ 0 := by rw [HS.out]; exact fun h => h0 (Int.sign_eq_zero_iff_zero.1 h)
    have Hres : Hid (xF z E g mode = rdF z E mode ∧ xL z E mode = rdL z E mode) := Lib.hid ⟨if_neg h0, if_neg h0⟩
    have H0 := Lib.hid h0
    clear h0
    go_enter Tryz.func44, Tryz.ntmps44
    go_wp2_with fail
    rw [← Hw.out]
    obtain ⟨⟨hBx0, hBx1, hBx2, hBx3⟩, hBx4⟩ := Bx1.out
    go_wp2_with fail
    refine (implRound_nz z S E mode A n c _ Zv1.out H0.out Hm.out hE1 hE2 Hmo.out.1 Hmo.out.2 Tb1.out).mono ?_
    rintro e w2 ⟨rfl, hb⟩
    have Sz2 := Lib.hid (Below.size hb)
    have Bel2 := Lib.hid (belNext Bel1.out hb)
    have Bx2 := Lib.hid (Bx1.out.next hb)
    have Zv2 := Lib.hid (Zv1.out.next hb)
    have Tb2 := Lib.hid (Tb1.out.next hb)
    clear hb Bel1 Bx1 Zv1 Tb1 hBx0 hBx1 hBx2 hBx3 hBx4
    obtain ⟨⟨hBx0, hBx1, hBx2, hBx3⟩, hBx4⟩ := Bx2.out
    go_wp2_with fail
    go_ret2
    exact ⟨by rw [Hres.out.1, Hres.out.2]; rfl, Bel2.out⟩

set_option maxHeartbeats 4000000 in
theorem exPlus_any (z S E g z' S' E' g' : Int) (A A' : Option Addr) (n c n' c' : Nat) (w : World) (hz : ZV w z S A n c) (hz' : ZV w z' S' A' n' c') (hm : (n : Int) ≤ 4000) (hm' : (n' : Int) ≤ 4000) (h1 : -10000 ≤ E) (h2 : E ≤ 10000) (h3 : -10000 ≤ E') (h4 : E' ≤ 10000) (hT : TabZ w) :
    Calls Tryz.prog 52 #[.agg #[.int .i64 S, .slice A n c, .int .i64 E, .int .i64 g], .agg #[.int .i64 S', .slice A' n' c', .int .i64 E', .int .i64 g']] w fun e w' => ∃ Sr Ar nr cr, e = .returned (.agg #[.int .i64 Sr, .slice Ar nr cr, .int .i64 (min E E'), .int .i64 (sgS g g')]) ∧ ZO w' w.heap.size w'.heap.size (sumZ z E z' E') Sr Ar nr cr ∧ Below w.heap.size w w' := by
  have hst := store_int Tryz.prog
  have hst2 := store_slice Tryz.prog
  obtain ⟨w1, hw1, hb1, hb2, hb3, hb4⟩ := xbox2_res w S S' A A' n n' c c' E E' g g' 68
  have RsX1 := Lib.hid hb3
  have Hlt : Hid (w.heap.size + 1 + 1 < w1.heap.size) := Lib.hid hb3.2
  have Zv1 := Lib.hid (hz.next hb4)
  have Zw1 := Lib.hid (hz'.next hb4)
  have Hw := Lib.hid hw1
  have Bx1 := Lib.hid hb1
  have By1 := Lib.hid hb2
  have Bel1 := Lib.hid hb4
  have Hm := Lib.hid (And.intro hm hm')
  have Tb1 := Lib.hid (hT.next hb4)
  clear hT
  clear hz hz' hw1 hb1 hb2 hb3 hb4
  go_enter Tryz.func52, Tryz.ntmps52
  go_wp2_with fail
  rw [← Hw.out]
  obtain ⟨⟨hBx0, hBx1, hBx2, hBx3⟩, hBx4⟩ := Bx1.out
  obtain ⟨⟨hBy0, hBy1, hBy2, hBy3⟩, hBy4⟩ := By1.out
  obtain ⟨⟨hRsX0, hRsX1, hRsX2, hRsX3, hRsX4, hRsX5, hRsX6, hRsX7⟩, hRsX8⟩ := RsX1.out
  go_wp2_with fail
  refine (implPlusD_any z S E z' S' E' A A' n c n' c' _ Zv1.out Zw1.out Hm.out.1 Hm.out.2 h1 h2 h3 h4 Tb1.out).mono ?_
  rintro e w2 ⟨Sr, Ar, nr, cr, rfl, hzo, hb⟩
  obtain ⟨q, hq⟩ : ∃ q, q = min E E' := ⟨_, rfl⟩
  rw [← hq]
  have Hq := Lib.hid hq
  have Zo2 := Lib.hid hzo
  clear hzo hq
  have Sz2 := Lib.hid (Below.size hb)
  have Bel2 := Lib.hid (belNext Bel1.out hb)
  have Bx2 := Lib.hid (Bx1.out.next hb)
  have By2 := Lib.hid (By1.out.next hb)
  have RsX2 := Lib.hid (RsX1.out.next hb)
  have Zv2 := Lib.hid (Zv1.out.next hb)
  have Zw2 := Lib.hid (Zw1.out.next hb)
  have Tb2 := Lib.hid (Tb1.out.next hb)
  clear hb Bel1 Bx1 By1 RsX1 Zv1 Zw1 Tb1 hBx0 hBx1 hBx2 hBx3 hBx4 hBy0 hBy1 hBy2 hBy3 hBy4 hRsX0 hRsX1 hRsX2 hRsX3 hRsX4 hRsX5 hRsX6 hRsX7 hRsX8
  obtain ⟨⟨hBx0, hBx1, hBx2, hBx3⟩, hBx4⟩ := Bx2.out
  obtain ⟨⟨hBy0, hBy1, hBy2, hBy3⟩, hBy4⟩ := By2.out
  obtain ⟨⟨hRsX0, hRsX1, hRsX2, hRsX3, hRsX4, hRsX5, hRsX6, hRsX7⟩, hRsX8⟩ := RsX2.out
  go_upto_region 2 with fail
  obtain ⟨w3, hw3⟩ : ∃ w3, w3 = w2.alloc (.cells #[.int .i64 Sr, .slice Ar nr cr, .int .i64 q, .int .i64 0] 68) := ⟨_, rfl⟩
  rw [← hw3]
  obtain ⟨f, hf⟩ : ∃ f, f = w2.heap.size := ⟨_, rfl⟩
  have hb : Below w2.heap.size w2 w3 := by rw [hw3]; exact belAlloc1 _ _
  have Ba3 : Hid (XBox w3 f Sr Ar nr cr q 0) := Lib.hid (by rw [hw3, hf]; exact XBox.new _ _ _ _ _ _ _ _)
  have hfz : w3.frozen? ⟨f, 3, none⟩ = false := by rw [hw3, hf]; go_simp
  have Hf : Hid (w2.heap.size ≤ f) := Lib.hid (by omega)
  rw [← hf]
  clear hw3 hf
  have Sz3 := Lib.hid (Below.size hb)
  have Bel3 := Lib.hid (belNext Bel2.out hb)
  have Bx3 := Lib.hid (Bx2.out.next hb)
  have By3 := Lib.hid (By2.out.next hb)
  have RsX3 := Lib.hid (RsX2.out.next hb)
  have Zv3 := Lib.hid (Zv2.out.next hb)
  have Zw3 := Lib.hid (Zw2.out.next hb)
  have Tb3 := Lib.hid (Tb2.out.next hb)
  have Zo3 := Lib.hid (Zo2.out.next hb)
  clear hb Bel2 Bx2 By2 RsX2 Zv2 Zw2 Tb2 Zo2 hBx0 hBx1 hBx2 hBx3 hBx4 hBy0 hBy1 hBy2 hBy3 hBy4 hRsX0 hRsX1 hRsX2 hRsX3 hRsX4 hRsX5 hRsX6 hRsX7 hRsX8
  obtain ⟨⟨hBx0, hBx1, hBx2, hBx3⟩, hBx4⟩ := Bx3.out
  obtain ⟨⟨hBy0, hBy1, hBy2, hBy3⟩, hBy4⟩ := By3.out
  obtain ⟨⟨hBa0, hBa1, hBa2, hBa3⟩, hBa4⟩ := Ba3.out
  obtain ⟨⟨hRsX0, hRsX1, hRsX2, hRsX3, hRsX4, hRsX5, hRsX6, hRsX7⟩, hRsX8⟩ := RsX3.out
  by_cases hg : g = g'
  · subst hg
    have Hg : Hid (sgS g g = g) := Lib.hid (if_pos rfl)
    go_upto_region 4 with fail
    obtain ⟨w4, hw4⟩ : ∃ w4, w4 = w3.setCell ⟨f, 3, none⟩ (.int .i64 g) := ⟨_, rfl⟩
    rw [← hw4]
    clear hBx0 hBx1 hBx2 hBx3 hBx4 hBy0 hBy1 hBy2 hBy3 hBy4 hBa0 hBa1 hBa2 hBa3 hBa4 hRsX0 hRsX1 hRsX2 hRsX3 hRsX4 hRsX5 hRsX6 hRsX7 hRsX8
    have Ba4 : Hid (XBox w4 f Sr Ar nr cr q g) := Lib.hid (by rw [hw4]; exact Ba3.out.sign g)
    have RsX4 : Hid (XRes w4 (w.heap.size + 1 + 1)) := Lib.hid (by rw [hw4]; exact RsX3.out.keep (by have zz0 := Hlt.out; have zz1 := Sz2.out; have zz2 := Sz3.out; have zz3 := Hf.out; first | omega | (simp; done) | (simp; omega)) _)
    have Zo4 : Hid (ZO w4 w1.heap.size w2.heap.size (sumZ z E z' E') Sr Ar nr cr) := Lib.hid (by rw [hw4]; exact Zo3.out.setCell (.inr (by have zz0 := Hlt.out; have zz1 := Sz2.out; have zz2 := Sz3.out; have zz3 := Hf.out; first | omega | (simp; done) | (simp; omega))) _)
    have Bel4 : Hid (Below w.heap.size w w4) := Lib.hid (by rw [hw4]; exact Bel3.out.setCell (by have zz0 := Hlt.out; have zz1 := Sz2.out; have zz2 := Sz3.out; have zz3 := Hf.out; first | omega | (simp; done) | (simp; omega)) _)
    have Sz4 : Hid (w3.heap.size ≤ w4.heap.size) := Lib.hid (by rw [hw4]; simp)
    clear hw4 hfz Ba3 RsX3 Zo3 Bel3
    obtain ⟨⟨hBa0, hBa1, hBa2, hBa3⟩, hBa4⟩ := Ba4.out
    obtain ⟨⟨hRsX0, hRsX1, hRsX2, hRsX3, hRsX4, hRsX5, hRsX6, hRsX7⟩, hRsX8⟩ := RsX4.out
    go_wp2_with fail
    refine bodyPost_ret (v := .agg #[.int .i64 Sr, .slice Ar nr cr, .int .i64 q, .int .i64 g]) (by simp [results, Tryz.results52, go_sem, hRsX0, hRsX1, hRsX2, hRsX3]) rfl ⟨Sr, Ar, nr, cr, by rw [Hq.out, Hg.out], ?_, ?_⟩
    · exact ((((Zo4.out.setCell (.inl (by have zz0 := Hlt.out; have zz1 := Sz2.out; have zz2 := Sz3.out; have zz3 := Hf.out; have zz4 := Sz4.out; first | omega | (simp; done) | (simp; omega))) _).setCell (.inl (by have zz0 := Hlt.out; have zz1 := Sz2.out; have zz2 := Sz3.out; have zz3 := Hf.out; have zz4 := Sz4.out; first | omega | (simp; done) | (simp; omega))) _).setCell (.inl (by have zz0 := Hlt.out; have zz1 := Sz2.out; have zz2 := Sz3.out; have zz3 := Hf.out; have zz4 := Sz4.out; first | omega | (simp; done) | (simp; omega))) _).setCell (.inl (by have zz0 := Hlt.out; have zz1 := Sz2.out; have zz2 := Sz3.out; have zz3 := Hf.out; have zz4 := Sz4.out; first | omega | (simp; done) | (simp; omega))) _).wide (by have zz0 := Hlt.out; have zz1 := Sz2.out; have zz2 := Sz3.out; have zz3 := Hf.out; have zz4 := Sz4.out; first | omega | (simp; done) | (simp; omega)) (by have zz0 := Hlt.out; have zz1 := Sz2.out; have zz2 := Sz3.out; have zz3 := Hf.out; have zz4 := Sz4.out; first | omega | (simp; done) | (simp; omega)) (Nat.le_refl _)
    · repeat (first | exact Bel4.out | refine Below.drew ?_ | refine Below.setCell ?_ (by have zz0 := Hlt.out; have zz1 := Sz2.out; have zz2 := Sz3.out; have zz3 := Hf.out; have zz4 := Sz4.out; first | omega | (simp; done) | (simp; omega)) _)
  · have hgt : (g == g') = false := beq_false_of_ne hg
    have Hg : Hid (sgS g g' = 0) := Lib.hid (if_neg hg)
    clear hg
    go_wp2_with fail
    refine bodyPost_ret (v := .agg #[.int .i64 Sr, .slice Ar nr cr, .int .i64 q, .int .i64 0]) (by simp [results, Tryz.results52, go_sem, hRsX0, hRsX1, hRsX2, hRsX3]) rfl ⟨Sr, Ar, nr, cr, by rw [Hq.out, Hg.out], ?_, ?_⟩
    · exact ((((Zo3.out.setCell (.inl (by have zz0 := Hlt.out; have zz1 := Sz2.out; have zz2 := Sz3.out; have zz3 := Hf.out; first | omega | (simp; done) | (simp; omega))) _).setCell (.inl (by have zz0 := Hlt.out; have zz1 := Sz2.out; have zz2 := Sz3.out; have zz3 := Hf.out; first | omega | (simp; done) | (simp; omega))) _).setCell (.inl (by have zz0 := Hlt.out; have zz1 := Sz2.out; have zz2 := Sz3.out; have zz3 := Hf.out; first | omega | (simp; done) | (simp; omega))) _).setCell (.inl (by have zz0 := Hlt.out; have zz1 := Sz2.out; have zz2 := Sz3.out; have zz3 := Hf.out; first | omega | (simp; done) | (simp; omega))) _).wide (by have zz0 := Hlt.out; have zz1 := Sz2.out; have zz2 := Sz3.out; have zz3 := Hf.out; first | omega | (simp; done) | (simp; omega)) (by have zz0 := Hlt.out; have zz1 := Sz2.out; have zz2 := Sz3.out; have zz3 := Hf.out; first | omega | (simp; done) | (simp; omega)) (Nat.le_refl _)
    · repeat (first | exact Bel3.out | refine Below.drew ?_ | refine Below.setCell ?_ (by have zz0 := Hlt.out; have zz1 := Sz2.out; have zz2 := Sz3.out; have zz3 := Hf.out; first | omega | (simp; done) | (simp; omega)) _)

set_option maxHeartbeats 4000000 in
theorem exMinus_any (z S E g z' S' E' g' : Int) (A A' : Option Addr) (n c n' c' : Nat) (w : World) (hz : ZV w z S A n c) (hz' : ZV w z' S' A' n' c') (hm : (n : Int) ≤ 4000) (hm' : (n' : Int) ≤ 4000) (h1 : -10000 ≤ E) (h2 : E ≤ 10000) (h3 : -10000 ≤ E') (h4 : E' ≤ 10000) (hg1 : -1 ≤ g') (hg2 : g' ≤ 1) (hT : TabZ w) :
    Calls Tryz.prog 106 #[.agg #[.int .i64 S, .slice A n c, .int .i64 E, .int .i64 g], .agg #[.int .i64 S', .slice A' n' c', .int .i64 E', .int .i64 g']] w fun e w' => ∃ Sr Ar nr cr, e = .returned (.agg #[.int .i64 Sr, .slice Ar nr cr, .int .i64 (min E E'), .int .i64 (sgS g (-g'))]) ∧ ZO w' w.heap.size w'.heap.size (sumZ z E (-z') E') Sr Ar nr cr ∧ Below w.heap.size w w' := by
  have hst := store_int Tryz.prog
  have hst2 := store_slice Tryz.prog
  obtain ⟨w1, hw1, hb1, hb2, hb3, hb4⟩ := xbox2_res w S S' A A' n n' c c' E E' g g' 68
  have RsX1 := Lib.hid hb3
  have Hlt : Hid (w.heap.size + 1 + 1 < w1.heap.size) := Lib.hid hb3.2
  have Zv1 := Lib.hid (hz.next hb4)
  have Zw1 := Lib.hid (hz'.next hb4)
  have Hw := Lib.hid hw1
  have Bx1 := Lib.hid hb1
  have By1 := Lib.hid hb2
  have Bel1 := Lib.hid hb4
  have Hm := Lib.hid (And.intro hm hm')
  have Tb1 := Lib.hid (hT.next hb4)
  clear hT
  clear hz hz' hw1 hb1 hb2 hb3 hb4
  have hS1 : -1 ≤ S' := by have := Zw1.out.sg.1; exact this
  have hS2 : S' ≤ 1 := by have := Zw1.out.sg.2.1; exact this
  go_enter Tryz.func106, Tryz.ntmps106
  go_wp2_with fail
  rw [← Hw.out]
  obtain ⟨⟨hBx0, hBx1, hBx2, hBx3⟩, hBx4⟩ := Bx1.out
  obtain ⟨⟨hBy0, hBy1, hBy2, hBy3⟩, hBy4⟩ := By1.out
  obtain ⟨⟨hRsX0, hRsX1, hRsX2, hRsX3, hRsX4, hRsX5, hRsX6, hRsX7⟩, hRsX8⟩ := RsX1.out
  have hwr : IntKind.i64.wrap (-g') = -g' := IntWalk.i64_in _ (by omega)
  refine wp_region_held_drew (S := fun w' => (w'.cell? ⟨w.heap.size, 0, none⟩ = some (.int .i64 S) ∧ w'.cell? ⟨w.heap.size, 1, none⟩ = some (.slice A n c) ∧ w'.cell? ⟨w.heap.size, 2, none⟩ = some (.int .i64 E) ∧ w'.cell? ⟨w.heap.size, 3, none⟩ = some (.int .i64 g)) ∧ (w'.cell? ⟨w.heap.size + 1, 0, none⟩ = some (.int .i64 S') ∧ w'.cell? ⟨w.heap.size + 1, 1, none⟩ = some (.slice A' n' c') ∧ w'.cell? ⟨w.heap.size + 1, 2, none⟩ = some (.int .i64 E') ∧ w'.cell? ⟨w.heap.size + 1, 3, none⟩ = some (.int .i64 g'))) (by kernel_rfl) ⟨Bx1.out.1, By1.out.1⟩ (fun hHeld => ?_)
  clear hBx0 hBx1 hBx2 hBx3 hBx4 hBy0 hBy1 hBy2 hBy3 hBy4 hRsX0 hRsX1 hRsX2 hRsX3 hRsX4 hRsX5 hRsX6 hRsX7 hRsX8
  refine wpAnyH_take (i := 0) (v := ?_) rfl (by kernel_rfl) (by kernel_rfl) (by kernel_rfl) (fun _ _ _ h => h) (Or.inl ⟨by rfl, ?_⟩) (by assumption) ?_
  rotate_left
  · (intro w hSw; (try dsimp only at hSw); go_simp; (try with_reducible rfl))
  try simp only [Act.put, List.setIfInBounds_toArray, List.set_cons_zero, List.set_cons_succ, List.getElem_toArray, List.getElem_cons_succ, List.getElem_cons_zero]
  refine wpAnyH_take (i := 1) (v := ?_) rfl (by kernel_rfl) (by kernel_rfl) (by kernel_rfl) (fun _ _ _ h => h) (Or.inl ⟨by rfl, ?_⟩) (by assumption) ?_
  rotate_left
  · (intro w hSw; (try dsimp only at hSw); go_simp; (try with_reducible rfl))
  try simp only [Act.put, List.setIfInBounds_toArray, List.set_cons_zero, List.set_cons_succ, List.getElem_toArray, List.getElem_cons_succ, List.getElem_cons_zero]
  refine wpAnyH_take (i := 2) (v := ?_) rfl (by kernel_rfl) (by kernel_rfl) (by kernel_rfl) (fun _ _ _ h => h) (Or.inl ⟨by rfl, ?_⟩) (by assumption) ?_
  rotate_left
  · (intro w hSw; (try dsimp only at hSw); go_simp; (try with_reducible rfl))
  try simp only [Act.put, List.setIfInBounds_toArray, List.set_cons_zero, List.set_cons_succ, List.getElem_toArray, List.getElem_cons_succ, List.getElem_cons_zero]
  refine wpAnyH_take (i := 4) (v := ?_) rfl (by kernel_rfl) (by kernel_rfl) (by kernel_rfl) (fun _ _ _ h => h) (Or.inl ⟨by rfl, ?_⟩) (by assumption) ?_
  rotate_left
  · (intro w hSw; (try dsimp only at hSw); go_simp; (try with_reducible rfl))
  try simp only [Act.put, List.setIfInBounds_toArray, List.set_cons_zero, List.set_cons_succ, List.getElem_toArray, List.getElem_cons_succ, List.getElem_cons_zero]
  refine wpAnyH_take (i := 5) (v := ?_) rfl (by kernel_rfl) (by kernel_rfl) (by kernel_rfl) (fun _ _ _ h => h) (Or.inl ⟨by rfl, ?_⟩) (by assumption) ?_
  rotate_left
  · (intro w hSw; (try dsimp only at hSw); go_simp; (try with_reducible rfl))
  try simp only [Act.put, List.setIfInBounds_toArray, List.set_cons_zero, List.set_cons_succ, List.getElem_toArray, List.getElem_cons_succ, List.getElem_cons_zero]
  refine wpAnyH_take (i := 6) (v := ?_) rfl (by kernel_rfl) (by kernel_rfl) (by kernel_rfl) (fun _ _ _ h => h) (Or.inl ⟨by rfl, ?_⟩) (by assumption) ?_
  rotate_left
  · (intro w hSw; (try dsimp only at hSw); go_simp; (try with_reducible rfl))
  try simp only [Act.put, List.setIfInBounds_toArray, List.set_cons_zero, List.set_cons_succ, List.getElem_toArray, List.getElem_cons_succ, List.getElem_cons_zero]
  refine wpAnyH_ready (rs := [3]) (by kernel_rfl) (by simp) ?_
  refine AllReadyH.cons rfl (fun K hK => ?_) AllReadyH.nil
  go_simp
  refine (implOppD_any S' E' A' n' c' w1.drew hS1 hS2).mono ?_
  rintro e w2 ⟨rfl, hb0⟩
  have hb : Below w1.heap.size w1 w2 := belDrew hb0
  refine hK.out _ _ ⟨(Bx1.out.next hb).1, (By1.out.next hb).1⟩ (fun hHeld => ?_)
  clear hK K hb0
  have Sz2 := Lib.hid (Below.size hb)
  have Bel2 := Lib.hid (belNext Bel1.out hb)
  have Bx2 := Lib.hid (Bx1.out.next hb)
  have By2 := Lib.hid (By1.out.next hb)
  have RsX2 := Lib.hid (RsX1.out.next hb)
  have Zv2 := Lib.hid (Zv1.out.next hb)
  have Zw2 := Lib.hid (Zw1.out.next hb)
  have Tb2 := Lib.hid (Tb1.out.next hb)
  clear hb Bel1 Bx1 By1 RsX1 Zv1 Zw1 Tb1
  try simp only [Act.put, List.setIfInBounds_toArray, List.set_cons_zero, List.set_cons_succ, List.getElem_toArray, List.getElem_cons_succ, List.getElem_cons_zero]
  refine wpAnyH_take (i := 7) (v := ?_) rfl (by kernel_rfl) (by kernel_rfl) (by kernel_rfl) (fun _ _ _ h => h) (Or.inl ⟨by rfl, ?_⟩) (by assumption) ?_
  rotate_left
  · (intro w hSw; (try dsimp only at hSw); go_simp; (try with_reducible rfl))
  try simp only [Act.put, List.setIfInBounds_toArray, List.set_cons_zero, List.set_cons_succ, List.getElem_toArray, List.getElem_cons_succ, List.getElem_cons_zero]
  refine wpAnyH_ready (rs := [8]) (by kernel_rfl) (by simp) ?_
  refine AllReadyH.cons rfl (fun K hK => ?_) AllReadyH.nil
  go_simp
  refine (exPlus_any z S E g (-z') (-S') E' (-g') A A' n c n' c' w2 Zv2.out Zw2.out.neg Hm.out.1 Hm.out.2 h1 h2 h3 h4 Tb2.out).mono ?_
  rintro e w3 ⟨Sr, Ar, nr, cr, rfl, hzo, hb0⟩
  have hb : Below w2.heap.size w2 w3 := hb0
  obtain ⟨q, hq⟩ : ∃ q, q = min E E' := ⟨_, rfl⟩
  obtain ⟨gg, hgg⟩ : ∃ gg, gg = sgS g (-g') := ⟨_, rfl⟩
  rw [← hq, ← hgg]
  have Hq := Lib.hid hq
  have Hgg := Lib.hid hgg
  have Zo3 := Lib.hid hzo
  clear hzo hq hgg
  refine hK.out _ _ ⟨(Bx2.out.next hb).1, (By2.out.next hb).1⟩ (fun hHeld => ?_)
  clear hK K hb0
  have Sz3 := Lib.hid (Below.size hb)
  have Bel3 := Lib.hid (belNext Bel2.out hb)
  have Bx3 := Lib.hid (Bx2.out.next hb)
  have By3 := Lib.hid (By2.out.next hb)
  have RsX3 := Lib.hid (RsX2.out.next hb)
  have Zv3 := Lib.hid (Zv2.out.next hb)
  have Zw3 := Lib.hid (Zw2.out.next hb)
  have Tb3 := Lib.hid (Tb2.out.next hb)
  clear hb Bel2 Bx2 By2 RsX2 Zv2 Zw2 Tb2
  try simp only [Act.put, List.setIfInBounds_toArray, List.set_cons_zero, List.set_cons_succ, List.getElem_toArray, List.getElem_cons_succ, List.getElem_cons_zero]
  clear hwr
  obtain ⟨⟨hRsX0, hRsX1, hRsX2, hRsX3, hRsX4, hRsX5, hRsX6, hRsX7⟩, hRsX8⟩ := RsX3.out
  refine wpAnyH_ready (rs := [9]) (by kernel_rfl) (by simp) ?_
  refine AllReadyH.cons rfl (fun K hK => ?_) AllReadyH.nil
  go_simp
  refine hK.out _ _ ⟨((((Bx3.out.keep (by have zz0 := Hlt.out; have zz1 := Sz2.out; have zz2 := Sz3.out; first | omega | (simp; done) | (simp; omega)) _).keep (by have zz0 := Hlt.out; have zz1 := Sz2.out; have zz2 := Sz3.out; first | omega | (simp; done) | (simp; omega)) _).keep (by have zz0 := Hlt.out; have zz1 := Sz2.out; have zz2 := Sz3.out; first | omega | (simp; done) | (simp; omega)) _).keep (by have zz0 := Hlt.out; have zz1 := Sz2.out; have zz2 := Sz3.out; first | omega | (simp; done) | (simp; omega)) _).1, ((((By3.out.keep (by have zz0 := Hlt.out; have zz1 := Sz2.out; have zz2 := Sz3.out; first | omega | (simp; done) | (simp; omega)) _).keep (by have zz0 := Hlt.out; have zz1 := Sz2.out; have zz2 := Sz3.out; first | omega | (simp; done) | (simp; omega)) _).keep (by have zz0 := Hlt.out; have zz1 := Sz2.out; have zz2 := Sz3.out; first | omega | (simp; done) | (simp; omega)) _).keep (by have zz0 := Hlt.out; have zz1 := Sz2.out; have zz2 := Sz3.out; first | omega | (simp; done) | (simp; omega)) _).1⟩ (fun hHeld => ?_)
  clear hK K hHeld
  try simp only [Act.put, List.setIfInBounds_toArray, List.set_cons_zero, List.set_cons_succ, List.getElem_toArray, List.getElem_cons_succ, List.getElem_cons_zero]
  refine wpAnyH_done (by kernel_rfl) ?_ _
  go_wp2_with fail
  refine bodyPost_ret (v := .agg #[.int .i64 Sr, .slice Ar nr cr, .int .i64 q, .int .i64 gg]) (by simp [results, Tryz.results106, go_sem, hRsX0, hRsX1, hRsX2, hRsX3]) rfl ⟨Sr, Ar, nr, cr, by rw [Hq.out, Hgg.out], ?_, ?_⟩
  · exact ((((Zo3.out.setCell (.inl (by have zz0 := Hlt.out; have zz1 := Sz2.out; have zz2 := Sz3.out; first | omega | (simp; done) | (simp; omega))) _).setCell (.inl (by have zz0 := Hlt.out; have zz1 := Sz2.out; have zz2 := Sz3.out; first | omega | (simp; done) | (simp; omega))) _).setCell (.inl (by have zz0 := Hlt.out; have zz1 := Sz2.out; have zz2 := Sz3.out; first | omega | (simp; done) | (simp; omega))) _).setCell (.inl (by have zz0 := Hlt.out; have zz1 := Sz2.out; have zz2 := Sz3.out; first | omega | (simp; done) | (simp; omega))) _).wide (by have zz0 := Hlt.out; have zz1 := Sz2.out; have zz2 := Sz3.out; first | omega | (simp; done) | (simp; omega)) (by have zz0 := Hlt.out; have zz1 := Sz2.out; have zz2 := Sz3.out; first | omega | (simp; done) | (simp; omega)) (Nat.le_refl _)
  · repeat (first | exact Bel3.out | refine Below.drew ?_ | refine Below.setCell ?_ (by have zz0 := Hlt.out; have zz1 := Sz2.out; have zz2 := Sz3.out; first | omega | (simp; done) | (simp; omega)) _)

set_option maxHeartbeats 4000000 in
theorem exTimes_any (z S E g z' S' E' g' : Int) (A A' : Option Addr) (n c n' c' : Nat) (w : World) (hz : ZV w z S A n c) (hz' : ZV w z' S' A' n' c') (hm : (n : Int) ≤ 1000) (hm' : (n' : Int) ≤ 1000) (h1 : -1000000 ≤ E) (h2 : E ≤ 1000000) (h3 : -1000000 ≤ E') (h4 : E' ≤ 1000000) (hg1 : -1 ≤ g) (hg2 : g ≤ 1) (hg3 : -1 ≤ g') (hg4 : g' ≤ 1) :
    Calls Tryz.prog 51 #[.agg #[.int .i64 S, .slice A n c, .int .i64 E, .int .i64 g], .agg #[.int .i64 S', .slice A' n' c', .int .i64 E', .int .i64 g']] w fun e w' => ∃ Sr Ar nr cr, e = .returned (.agg #[.int .i64 Sr, .slice Ar nr cr, .int .i64 (E + E'), .int .i64 (g * g')]) ∧ ZO w' w.heap.size w'.heap.size (z * z') Sr Ar nr cr ∧ Below w.heap.size w w' := by
  have hst := store_int Tryz.prog
  have hst2 := store_slice Tryz.prog
  obtain ⟨w1, hw1, hb1, hb2, hb3, hb4⟩ := xbox2_res w S S' A A' n n' c c' E E' g g' 68
  have RsX1 := Lib.hid hb3
  have Hlt : Hid (w.heap.size + 1 + 1 < w1.heap.size) := Lib.hid hb3.2
  have Zv1 := Lib.hid (hz.next hb4)
  have Zw1 := Lib.hid (hz'.next hb4)
  have Hw := Lib.hid hw1
  have Bx1 := Lib.hid hb1
  have By1 := Lib.hid hb2
  have Bel1 := Lib.hid hb4
  have Hm := Lib.hid (And.intro hm hm')
  clear hz hz' hw1 hb1 hb2 hb3 hb4
  obtain ⟨gg, hgg⟩ : ∃ gg, gg = g * g' := ⟨_, rfl⟩
  have hgg1 : gg = 1 ∨ gg = 0 ∨ gg = -1 := by rw [hgg]; rcases (show g = 1 ∨ g = 0 ∨ g = -1 by omega) with h | h | h <;> rcases (show g' = 1 ∨ g' = 0 ∨ g' = -1 by omega) with h' | h' | h' <;> rw [h, h'] <;> simp
  have hwr : IntKind.i64.wrap (g * g') = gg := by rw [← hgg]; exact IntWalk.i64_in _ (by omega)
  have Hgg := Lib.hid hgg
  clear hgg hgg1
  go_enter Tryz.func51, Tryz.ntmps51
  go_wp2_with fail
  rw [← Hw.out]
  obtain ⟨⟨hBx0, hBx1, hBx2, hBx3⟩, hBx4⟩ := Bx1.out
  obtain ⟨⟨hBy0, hBy1, hBy2, hBy3⟩, hBy4⟩ := By1.out
  obtain ⟨⟨hRsX0, hRsX1, hRsX2, hRsX3, hRsX4, hRsX5, hRsX6, hRsX7⟩, hRsX8⟩ := RsX1.out
  refine wp_region_held_drew (S := fun w' => (w'.cell? ⟨w.heap.size, 0, none⟩ = some (.int .i64 S) ∧ w'.cell? ⟨w.heap.size, 1, none⟩ = some (.slice A n c) ∧ w'.cell? ⟨w.heap.size, 2, none⟩ = some (.int .i64 E) ∧ w'.cell? ⟨w.heap.size, 3, none⟩ = some (.int .i64 g)) ∧ (w'.cell? ⟨w.heap.size + 1, 0, none⟩ = some (.int .i64 S') ∧ w'.cell? ⟨w.heap.size + 1, 1, none⟩ = some (.slice A' n' c') ∧ w'.cell? ⟨w.heap.size + 1, 2, none⟩ = some (.int .i64 E') ∧ w'.cell? ⟨w.heap.size + 1, 3, none⟩ = some (.int .i64 g'))) (by kernel_rfl) ⟨Bx1.out.1, By1.out.1⟩ (fun hHeld => ?_)
  clear hBx0 hBx1 hBx2 hBx3 hBx4 hBy0 hBy1 hBy2 hBy3 hBy4 hRsX0 hRsX1 hRsX2 hRsX3 hRsX4 hRsX5 hRsX6 hRsX7 hRsX8
  refine wpAnyH_take (i := 0) (v := ?_) rfl (by kernel_rfl) (by kernel_rfl) (by kernel_rfl) (fun _ _ _ h => h) (Or.inl ⟨by rfl, ?_⟩) (by assumption) ?_
  rotate_left
  · (intro w hSw; (try dsimp only at hSw); go_simp; (try with_reducible rfl))
  try simp only [Act.put, List.setIfInBounds_toArray, List.set_cons_zero, List.set_cons_succ, List.getElem_toArray, List.getElem_cons_succ, List.getElem_cons_zero]
  refine wpAnyH_take (i := 1) (v := ?_) rfl (by kernel_rfl) (by kernel_rfl) (by kernel_rfl) (fun _ _ _ h => h) (Or.inl ⟨by rfl, ?_⟩) (by assumption) ?_
  rotate_left
  · (intro w hSw; (try dsimp only at hSw); go_simp; (try with_reducible rfl))
  try simp only [Act.put, List.setIfInBounds_toArray, List.set_cons_zero, List.set_cons_succ, List.getElem_toArray, List.getElem_cons_succ, List.getElem_cons_zero]
  refine wpAnyH_take (i := 2) (v := ?_) rfl (by kernel_rfl) (by kernel_rfl) (by kernel_rfl) (fun _ _ _ h => h) (Or.inl ⟨by rfl, ?_⟩) (by assumption) ?_
  rotate_left
  · (intro w hSw; (try dsimp only at hSw); go_simp; (try with_reducible rfl))
  try simp only [Act.put, List.setIfInBounds_toArray, List.set_cons_zero, List.set_cons_succ, List.getElem_toArray, List.getElem_cons_succ, List.getElem_cons_zero]
  refine wpAnyH_take (i := 3) (v := ?_) rfl (by kernel_rfl) (by kernel_rfl) (by kernel_rfl) (fun _ _ _ h => h) (Or.inl ⟨by rfl, ?_⟩) (by assumption) ?_
  rotate_left
  · (intro w hSw; (try dsimp only at hSw); go_simp; (try with_reducible rfl))
  try simp only [Act.put, List.setIfInBounds_toArray, List.set_cons_zero, List.set_cons_succ, List.getElem_toArray, List.getElem_cons_succ, List.getElem_cons_zero]
  refine wpAnyH_take (i := 5) (v := ?_) rfl (by kernel_rfl) (by kernel_rfl) (by kernel_rfl) (fun _ _ _ h => h) (Or.inl ⟨by rfl, ?_⟩) (by assumption) ?_
  rotate_left
  · (intro w hSw; (try dsimp only at hSw); go_simp; (try with_reducible rfl))
  try simp only [Act.put, List.setIfInBounds_toArray, List.set_cons_zero, List.set_cons_succ, List.getElem_toArray, List.getElem_cons_succ, List.getElem_cons_zero]
  refine wpAnyH_take (i := 6) (v := ?_) rfl (by kernel_rfl) (by kernel_rfl) (by kernel_rfl) (fun _ _ _ h => h) (Or.inl ⟨by rfl, ?_⟩) (by assumption) ?_
  rotate_left
  · (intro w hSw; (try dsimp only at hSw); go_simp; (try with_reducible rfl))
  try simp only [Act.put, List.setIfInBounds_toArray, List.set_cons_zero, List.set_cons_succ, List.getElem_toArray, List.getElem_cons_succ, List.getElem_cons_zero]
  refine wpAnyH_take (i := 7) (v := ?_) rfl (by kernel_rfl) (by kernel_rfl) (by kernel_rfl) (fun _ _ _ h => h) (Or.inl ⟨by rfl, ?_⟩) (by assumption) ?_
  rotate_left
  · (intro w hSw; (try dsimp only at hSw); go_simp; (try with_reducible rfl))
  try simp only [Act.put, List.setIfInBounds_toArray, List.set_cons_zero, List.set_cons_succ, List.getElem_toArray, List.getElem_cons_succ, List.getElem_cons_zero]
  refine wpAnyH_take (i := 8) (v := ?_) rfl (by kernel_rfl) (by kernel_rfl) (by kernel_rfl) (fun _ _ _ h => h) (Or.inl ⟨by rfl, ?_⟩) (by assumption) ?_
  rotate_left
  · (intro w hSw; (try dsimp only at hSw); go_simp; (try with_reducible rfl))
  try simp only [Act.put, List.setIfInBounds_toArray, List.set_cons_zero, List.set_cons_succ, List.getElem_toArray, List.getElem_cons_succ, List.getElem_cons_zero]
  refine wpAnyH_take (i := 9) (v := ?_) rfl (by kernel_rfl) (by kernel_rfl) (by kernel_rfl) (fun _ _ _ h => h) (Or.inl ⟨by rfl, ?_⟩) (by assumption) ?_
  rotate_left
  · (intro w hSw; (try dsimp only at hSw); go_simp; (try with_reducible rfl))
  try simp only [Act.put, List.setIfInBounds_toArray, List.set_cons_zero, List.set_cons_succ, List.getElem_toArray, List.getElem_cons_succ, List.getElem_cons_zero]
  refine wpAnyH_ready (rs := [4]) (by kernel_rfl) (by simp) ?_
  refine AllReadyH.cons rfl (fun K hK => ?_) AllReadyH.nil
  go_simp
  refine (implMulD_any z S E z' S' E' A A' n c n' c' w1.drew Zv1.out Zw1.out Hm.out.1 Hm.out.2 h1 h2 h3 h4).mono ?_
  rintro e w2 ⟨Sr, Ar, nr, cr, rfl, hzo, hb0⟩
  have hb : Below w1.heap.size w1 w2 := belDrew hb0
  obtain ⟨q, hq⟩ : ∃ q, q = E + E' := ⟨_, rfl⟩
  rw [← hq]
  have Hq := Lib.hid hq
  have Zo2 := Lib.hid hzo
  clear hzo hq
  refine hK.out _ _ ⟨(Bx1.out.next hb).1, (By1.out.next hb).1⟩ (fun hHeld => ?_)
  clear hK K hb0
  have Sz2 := Lib.hid (Below.size hb)
  have Bel2 := Lib.hid (belNext Bel1.out hb)
  have Bx2 := Lib.hid (Bx1.out.next hb)
  have By2 := Lib.hid (By1.out.next hb)
  have RsX2 := Lib.hid (RsX1.out.next hb)
  have Zv2 := Lib.hid (Zv1.out.next hb)
  have Zw2 := Lib.hid (Zw1.out.next hb)
  clear hb Bel1 Bx1 By1 RsX1 Zv1 Zw1
  try simp only [Act.put, List.setIfInBounds_toArray, List.set_cons_zero, List.set_cons_succ, List.getElem_toArray, List.getElem_cons_succ, List.getElem_cons_zero]
  refine wpAnyH_take (i := 10) (v := ?_) rfl (by kernel_rfl) (by kernel_rfl) (by kernel_rfl) (fun _ _ _ h => h) (Or.inl ⟨by rfl, ?_⟩) (by assumption) ?_
  rotate_left
  · (intro w hSw; (try dsimp only at hSw); go_simp; (try with_reducible rfl))
  try simp only [Act.put, List.setIfInBounds_toArray, List.set_cons_zero, List.set_cons_succ, List.getElem_toArray, List.getElem_cons_succ, List.getElem_cons_zero]
  clear hwr
  obtain ⟨⟨hRsX0, hRsX1, hRsX2, hRsX3, hRsX4, hRsX5, hRsX6, hRsX7⟩, hRsX8⟩ := RsX2.out
  refine wpAnyH_ready (rs := [11]) (by kernel_rfl) (by simp) ?_
  refine AllReadyH.cons rfl (fun K hK => ?_) AllReadyH.nil
  go_simp
  refine hK.out _ _ ⟨((((Bx2.out.keep (by have zz0 := Hlt.out; have zz1 := Sz2.out; first | omega | (simp; done) | (simp; omega)) _).keep (by have zz0 := Hlt.out; have zz1 := Sz2.out; first | omega | (simp; done) | (simp; omega)) _).keep (by have zz0 := Hlt.out; have zz1 := Sz2.out; first | omega | (simp; done) | (simp; omega)) _).keep (by have zz0 := Hlt.out; have zz1 := Sz2.out; first | omega | (simp; done) | (simp; omega)) _).1, ((((By2.out.keep (by have zz0 := Hlt.out; have zz1 := Sz2.out; first | omega | (simp; done) | (simp; omega)) _).keep (by have zz0 := Hlt.out; have zz1 := Sz2.out; first | omega | (simp; done) | (simp; omega)) _).keep (by have zz0 := Hlt.out; have zz1 := Sz2.out; first | omega | (simp; done) | (simp; omega)) _).keep (by have zz0 := Hlt.out; have zz1 := Sz2.out; first | omega | (simp; done) | (simp; omega)) _).1⟩ (fun hHeld => ?_)
  clear hK K hHeld
  try simp only [Act.put, List.setIfInBounds_toArray, List.set_cons_zero, List.set_cons_succ, List.getElem_toArray, List.getElem_cons_succ, List.getElem_cons_zero]
  refine wpAnyH_done (by kernel_rfl) ?_ _
  go_wp2_with fail
  refine bodyPost_ret (v := .agg #[.int .i64 Sr, .slice Ar nr cr, .int .i64 q, .int .i64 gg]) (by simp [results, Tryz.results51, go_sem, hRsX0, hRsX1, hRsX2, hRsX3]) rfl ⟨Sr, Ar, nr, cr, by rw [Hq.out, Hgg.out], ?_, ?_⟩
  · exact ((((Zo2.out.setCell (.inl (by have zz0 := Hlt.out; have zz1 := Sz2.out; first | omega | (simp; done) | (simp; omega))) _).setCell (.inl (by have zz0 := Hlt.out; have zz1 := Sz2.out; first | omega | (simp; done) | (simp; omega))) _).setCell (.inl (by have zz0 := Hlt.out; have zz1 := Sz2.out; first | omega | (simp; done) | (simp; omega))) _).setCell (.inl (by have zz0 := Hlt.out; have zz1 := Sz2.out; first | omega | (simp; done) | (simp; omega))) _).wide (by have zz0 := Hlt.out; have zz1 := Sz2.out; first | omega | (simp; done) | (simp; omega)) (by have zz0 := Hlt.out; have zz1 := Sz2.out; first | omega | (simp; done) | (simp; omega)) (Nat.le_refl _)
  · repeat (first | exact Bel2.out | refine Below.drew ?_ | refine Below.setCell ?_ (by have zz0 := Hlt.out; have zz1 := Sz2.out; first | omega | (simp; done) | (simp; omega)) _)

end Go.Proofs.YtcjamfoiilgfoaaGreatDoor
/- Operations on floats in modes, of the program. -/
namespace Go.Proofs.YtcjamfoiilgfoaaGreatDoor
set_option maxRecDepth 100000
open Go.RowKit
set_option linter.unusedSimpArgs false
set_option linter.unusedVariables false
attribute [local go_sem ↓] Go.wp_at_zero Go.wp_at_succ

/-- floats as values -/
def fs (l : List Nat) : List Value := l.map (Value.float .f32)
theorem fs_len (l : List Nat) : (fs l).length = l.length := by unfold fs; rw [List.length_map]
theorem fs_get {l : List Nat} {k : Nat} (h : k < l.length) : (fs l)[k]'(by rw [fs_len]; exact h) = .float .f32 l[k] := by unfold fs; rw [List.getElem_map]
theorem rd_two (w : World) (x y : Nat) (t : TypeId) : Rd (w.alloc (.cells #[.float .f32 x, .float .f32 y] t)) (w.alloc (.cells #[.float .f32 x, .float .f32 y] t)).heap.size (some ⟨w.heap.size, 0, none⟩) (fs [x, y]) := by
  intro k u hu
  have hk : k < 2 := by simpa [fs] using (List.getElem?_eq_some_iff.1 hu).1
  refine ⟨_, rfl, by simp, ?_⟩
  rw [add_zero_off]
  rcases (show k = 0 ∨ k = 1 by omega) with rfl | rfl
  · simp [fs] at hu
    subst hu
    go_simp
  · simp [fs] at hu
    subst hu
    go_simp
/-- the code of floats and a mode -/
def ckE (l : List Nat) (mode : Int) : Int := if l.all fin32 = true then (if 0 ≤ mode ∧ mode ≤ 4 then 0 else 2) else 1
theorem all_take {l : List Nat} {k : Nat} (hk : k < l.length) (h : (l.take k).all fin32 = true) (hf : fin32 l[k] = true) : (l.take (k + 1)).all fin32 = true := by
  rw [List.take_succ_eq_append_getElem hk, List.all_append, h, List.all_cons, hf]; rfl
theorem not_all {l : List Nat} {k : Nat} (hk : k < l.length) (hf : fin32 l[k] = false) : l.all fin32 = false := by
  rw [List.all_eq_false]
  exact ⟨l[k], List.getElem_mem hk, by rw [hf]; simp⟩
set_option maxHeartbeats 1000000 in
theorem check_any (mode : Int) (l : List Nat) (A : Option Addr) (n c B : Nat) (w : World) (hr : Rd w B A (fs l)) (hn : l.length = n) (hm : (n : Int) ≤ 100) (hl : ∀ f ∈ l, f < 4294967296) :
    Calls Tryz.prog 41 #[.int .i64 mode, .slice A n c] w fun e w' => e = .returned (.int .i64 (ckE l mode)) ∧ w = w' := by
  have Hn := Lib.hid hn
  have Hr := Lib.hid hr
  have Hl := Lib.hid hl
  clear hr hn hl
  go_enter Tryz.func41, Tryz.ntmps41
  go_wp2_with fail
  go_loop [9] (fun i => ∃ k : Nat, k ≤ n ∧ i = .int .i64 k ∧ (l.take k).all fin32 = true) (fun i => n - (intOf i).toNat)
  case atStart => exact ⟨0, Nat.zero_le _, rfl, rfl⟩
  case round =>
    obtain ⟨k, hk, rfl, hall⟩ := hrel
    have Hall := Lib.hid hall
    clear hall
    by_cases hlt : k < n
    · have hkx : k < l.length := by rw [Hn.out]; exact hlt
      obtain ⟨q, hq, _⟩ := Hr.out.some_ (by rw [fs_len]; omega)
      subst hq
      have hcx := Hr.out.cell (k := k) (by rw [fs_len]; exact hkx)
      rw [fs_get hkx] at hcx
      have Hfb := Lib.hid (Hl.out _ (List.getElem_mem hkx))
      by_cases hf : fin32 l[k] = true
      · have Hnx := Lib.hid (all_take hkx Hall.out hf)
        generalize l[k] = x at *
        have Hf := Lib.hid hf
        clear hf hkx
        go_wp2_with fail
        refine (implFinite_any x _ Hfb.out).mono ?_
        rintro e w9 ⟨rfl, rfl⟩
        rw [Hf.out]
        go_wp2_with fail
        go_round
        case rel => exact ⟨k + 1, by omega, by go_num, Hnx.out⟩
        case measure => simp [intOf]; omega
      · have hf2 : fin32 l[k] = false := by simpa using hf
        have Hnx := Lib.hid (not_all hkx hf2)
        generalize l[k] = x at *
        have Hf := Lib.hid hf2
        clear hf hf2 hkx
        go_wp2_with fail
        refine (implFinite_any x _ Hfb.out).mono ?_
        rintro e w9 ⟨rfl, rfl⟩
        rw [Hf.out]
        go_wp2_with fail
        go_ret
        exact ⟨ret_int (by unfold ckE; rw [if_neg (by rw [Hnx.out]; simp)]), rfl⟩
    · have hin : k = n := by omega
      have Hal : Hid (l.all fin32 = true) := Lib.hid (by have h := Hall.out; rwa [List.take_of_length_le (by rw [Hn.out]; omega)] at h)
      subst hin
      by_cases hmo : 0 ≤ mode ∧ mode ≤ 4
      · have Hres : Hid (ckE l mode = 0) := Lib.hid (by unfold ckE; rw [if_pos Hal.out, if_pos hmo])
        have Hmo := Lib.hid hmo
        clear hmo
        go_wp2_with fail
        refine (isMode_yes mode _ Hmo.out.1 Hmo.out.2).mono ?_
        rintro e w9 ⟨rfl, rfl⟩
        go_wp2_with fail
        go_ret
        exact ⟨ret_int Hres.out.symm, rfl⟩
      · have Hres : Hid (ckE l mode = 2) := Lib.hid (by unfold ckE; rw [if_pos Hal.out, if_neg hmo])
        have Hmo := Lib.hid hmo
        clear hmo
        go_wp2_with fail
        refine (isMode_no mode _ Hmo.out).mono ?_
        rintro e w9 ⟨rfl, rfl⟩
        go_wp2_with fail
        go_ret
        exact ⟨ret_int Hres.out.symm, rfl⟩
/-- a float as an exact number -/
def fz (b : Nat) : Int := nz (ofM b)
def fe (b : Nat) : Int := nx (ofM b) (ofP b)
theorem fz_small {b : Nat} (hf : fin32 b = true) : (fz b).natAbs < 16777216 := by
  obtain ⟨h1, h2, _, _⟩ := of_bounds hf
  have h := nz_le (ofM b)
  unfold fz
  omega
theorem fe_small {b : Nat} (hf : fin32 b = true) : -149 ≤ fe b ∧ fe b ≤ 128 := by
  obtain ⟨h1, h2, h3, h4⟩ := of_bounds hf
  unfold fe
  by_cases h0 : ofM b = 0
  · rw [h0, nx_zero]; omega
  · rw [nx_ne h0]
    have hl : (limbs (ofM b).natAbs).length ≤ 1 := (limbs_len_le (n := 1)).2 (by rw [Bs_pow]; omega)
    have := tz_le (v := (ofM b).natAbs) rfl
    omega
theorem len_of_lt {z : Int} {n k : Nat} (hn : (limbs z.natAbs).length = n) (h : z.natAbs < 2 ^ (24 * k)) : (n : Int) ≤ k := by
  have : (limbs z.natAbs).length ≤ k := limbs_len_le.2 (by rw [Bs_pow]; exact h)
  omega
theorem fz_len {b n : Nat} (hf : fin32 b = true) (hn : (limbs (fz b).natAbs).length = n) : (n : Int) ≤ 1 := len_of_lt (k := 1) hn (fz_small hf)
/-- a sum of numbers of at most 48 bits, their exponents less than 450 apart -/
theorem sum_small {z e z' e' : Int} {n : Nat} (hz : z.natAbs < 281474976710656) (hz' : z'.natAbs < 281474976710656) (h1 : e - e' ≤ 450) (h2 : e' - e ≤ 450) (hn : (limbs (sumZ z e z' e').natAbs).length = n) : (n : Int) ≤ 21 := by
  obtain ⟨m, hm⟩ : ∃ m : Nat, m = 21 := ⟨_, rfl⟩
  suffices hs : (n : Int) ≤ m by omega
  refine len_of_lt (k := m) hn ?_
  unfold sumZ
  obtain ⟨k, hk⟩ : ∃ k : Nat, k = 450 := ⟨_, rfl⟩
  have hkm : k + 49 < 24 * m := by omega
  have hd1 : (e - min e e').toNat ≤ k := by omega
  have hd2 : (e' - min e e').toNat ≤ k := by omega
  clear hm hk h1 h2
  have a0 : ∀ (d : Nat) (y : Int), d ≤ k → y.natAbs < 281474976710656 → ((2 : Int) ^ d * y).natAbs ≤ 2 ^ (k + 48) := fun d y h g => by
    rw [abs_pow_mul, Nat.pow_add]; exact Nat.mul_le_mul (Nat.pow_le_pow_right (by decide) h) (Nat.le_of_lt g)
  have a1 := a0 (e - min e e').toNat z hd1 hz
  have a2 := a0 (e' - min e e').toNat z' hd2 hz'
  have a3 := Int.natAbs_add_le ((2 : Int) ^ (e - min e e').toNat * z) ((2 : Int) ^ (e' - min e e').toNat * z')
  obtain ⟨q, hq⟩ : ∃ q, q = k + 48 := ⟨_, rfl⟩
  rw [← hq] at a1 a2
  have a4 : (2 : Nat) ^ (q + 1) = 2 ^ q * 2 := by rw [Nat.pow_succ]
  have a5 : (2 : Nat) ^ (q + 1) < 2 ^ (24 * m) := Nat.pow_lt_pow_right (by decide) (by omega)
  rw [a4] at a5
  clear a4 a0 hkm hd1 hd2 hz hz' hn hq
  generalize 2 ^ (24 * m) = R at *
  generalize 2 ^ q = P at *
  generalize ((2 : Int) ^ (e - min e e').toNat * z) = X at *
  generalize ((2 : Int) ^ (e' - min e e').toNat * z') = Y at *
  omega
theorem mul_small {z z' : Int} {n : Nat} (hz : z.natAbs < 16777216) (hz' : z'.natAbs < 16777216) (hn : (limbs (z * z').natAbs).length = n) : (n : Int) ≤ 2 := by
  refine len_of_lt (k := 2) hn ?_
  rw [Int.natAbs_mul]
  have := Nat.mul_lt_mul'' hz hz'
  exact Nat.lt_of_lt_of_le this (by decide +kernel)
/-- the results of operations -/
def adZ (x y : Nat) : Int := sumZ (fz x) (fe x) (fz y) (fe y)
def adF (x y : Nat) (mode : Int) : Nat := xF (adZ x y) (min (fe x) (fe y)) (sgS (sgn x) (sgn y)) mode
def adL (x y : Nat) (mode : Int) : Int := xL (adZ x y) (min (fe x) (fe y)) mode
def sbZ (x y : Nat) : Int := sumZ (fz x) (fe x) (-(fz y)) (fe y)
def sbF (x y : Nat) (mode : Int) : Nat := xF (sbZ x y) (min (fe x) (fe y)) (sgS (sgn x) (-(sgn y))) mode
def sbL (x y : Nat) (mode : Int) : Int := xL (sbZ x y) (min (fe x) (fe y)) mode
def muF (x y : Nat) (mode : Int) : Nat := xF (fz x * fz y) (fe x + fe y) (sgn x * sgn y) mode
def muL (x y : Nat) (mode : Int) : Int := xL (fz x * fz y) (fe x + fe y) mode
/-- a result, or 0 beside an error -/
def opF (x y : Nat) (mode : Int) (F : Nat) : Nat := if ckE [x, y] mode = 0 then F else 0
def opL (x y : Nat) (mode : Int) (L : Int) : Int := if ckE [x, y] mode = 0 then L else 0
theorem ckE_zero {x y : Nat} {mode : Int} (h : ckE [x, y] mode = 0) : fin32 x = true ∧ fin32 y = true ∧ 0 ≤ mode ∧ mode ≤ 4 := by
  unfold ckE at h
  by_cases ha : [x, y].all fin32 = true
  · rw [if_pos ha] at h
    by_cases hm : 0 ≤ mode ∧ mode ≤ 4
    · simp at ha; exact ⟨ha.1, ha.2, hm⟩
    · rw [if_neg hm] at h; cases h
  · rw [if_neg ha] at h; cases h
set_option maxHeartbeats 4000000 in
theorem operate_plus (x y : Nat) (mode : Int) (w : World) (hx : x < 4294967296) (hy : y < 4294967296) (hT : TabZ w) :
    Calls Tryz.prog 105 #[.func (.func 52) #[] #[], .float .f32 x, .float .f32 y, .int .i64 mode] w fun e w' => e = .returned (.tuple #[.float .f32 (opF x y mode (adF x y mode)), .int .i64 (opL x y mode (adL x y mode)), .int .i64 (ckE [x, y] mode)]) ∧ Below w.heap.size w w' := by
  have Hxy := Lib.hid (And.intro hx hy)
  obtain ⟨w1, hw1⟩ : ∃ w1, w1 = w.alloc (.cells #[.float .f32 x, .float .f32 y] 37) := ⟨_, rfl⟩
  have Hr : Hid (Rd w1 w1.heap.size (some ⟨w.heap.size, 0, none⟩) (fs [x, y])) := Lib.hid (by rw [hw1]; exact rd_two _ _ _ _)
  have Bel1 : Hid (Below w.heap.size w w1) := Lib.hid (by rw [hw1]; exact belAlloc1 _ _)
  have Tb1 := Lib.hid (hT.next Bel1.out)
  have Hw := Lib.hid hw1
  clear hx hy hw1 hT
  go_enter Tryz.func105, Tryz.ntmps105
  go_wp2_with fail
  rw [← Hw.out]
  refine (check_any mode [x, y] _ 2 2 _ w1 Hr.out rfl (by omega) (by have h := Hxy.out; simp; exact h)).mono ?_
  rintro e w9 ⟨rfl, rfl⟩
  by_cases hc : ckE [x, y] mode = 0
  · have Hc := Lib.hid hc
    obtain ⟨hf1, hf2, hm1, hm2⟩ := ckE_zero hc
    have Hf := Lib.hid (And.intro hf1 hf2)
    have Hmo := Lib.hid (And.intro hm1 hm2)
    obtain ⟨e1, e2⟩ := fe_small hf1
    obtain ⟨e3, e4⟩ := fe_small hf2
    rw [hc]
    clear hc hf1 hf2 hm1 hm2
    go_wp2_with fail
    refine (exactOf_any x _ Hxy.out.1 Hf.out.1 Tb1.out).mono ?_
    rintro e w2 ⟨S2, A2, n2, c2, rfl, hzo, hb⟩
    rw [show nx (ofM x) (ofP x) = fe x from rfl]
    have Zx2 : Hid (ZV w2 (fz x) S2 A2 n2 c2) := Lib.hid hzo.zv
    have Hnx : Hid ((n2 : Int) ≤ 1) := Lib.hid (fz_len Hf.out.1 hzo.zv.len)
    clear hzo
    have Sz2 := Lib.hid (Below.size hb)
    have Bel2 := Lib.hid (belNext Bel1.out hb)
    have Tb2 := Lib.hid (Tb1.out.next hb)
    clear hb Bel1 Tb1
    go_wp2_with fail
    refine (exactOf_any y _ Hxy.out.2 Hf.out.2 Tb2.out).mono ?_
    rintro e w3 ⟨S3, A3, n3, c3, rfl, hzo, hb⟩
    rw [show nx (ofM y) (ofP y) = fe y from rfl]
    have Zy3 : Hid (ZV w3 (fz y) S3 A3 n3 c3) := Lib.hid hzo.zv
    have Hny : Hid ((n3 : Int) ≤ 1) := Lib.hid (fz_len Hf.out.2 hzo.zv.len)
    clear hzo
    have Sz3 := Lib.hid (Below.size hb)
    have Bel3 := Lib.hid (belNext Bel2.out hb)
    have Tb3 := Lib.hid (Tb2.out.next hb)
    have Zx3 := Lib.hid (Zx2.out.next hb)
    clear hb Bel2 Tb2 Zx2
    go_wp2_with fail
    refine (exPlus_any (fz x) S2 (fe x) (sgn x) (fz y) S3 (fe y) (sgn y) A2 A3 n2 c2 n3 c3 _ Zx3.out Zy3.out (by have := Hnx.out; omega) (by have := Hny.out; omega) (by omega) (by omega) (by omega) (by omega) Tb3.out).mono ?_
    rintro e w4 ⟨S4, A4, n4, c4, rfl, hzo, hb⟩
    have Zr4 : Hid (ZV w4 (adZ x y) S4 A4 n4 c4) := Lib.hid hzo.zv
    have Hnr : Hid ((n4 : Int) ≤ 21) := Lib.hid (sum_small (Nat.lt_of_lt_of_le (fz_small Hf.out.1) (by decide)) (Nat.lt_of_lt_of_le (fz_small Hf.out.2) (by decide)) (by omega) (by omega) hzo.zv.len)
    obtain ⟨E4, hE4⟩ : ∃ E4, E4 = min (fe x) (fe y) := ⟨_, rfl⟩
    obtain ⟨g4, hg4⟩ : ∃ g4, g4 = sgS (sgn x) (sgn y) := ⟨_, rfl⟩
    rw [← hE4, ← hg4]
    have HE4 := Lib.hid hE4
    have Hg4 := Lib.hid hg4
    have e5 : -400 ≤ E4 := by omega
    have e6 : E4 ≤ 400 := by omega
    clear hzo hE4 hg4
    have Sz4 := Lib.hid (Below.size hb)
    have Bel4 := Lib.hid (belNext Bel3.out hb)
    have Tb4 := Lib.hid (Tb3.out.next hb)
    have Zx4 := Lib.hid (Zx3.out.next hb)
    have Zy4 := Lib.hid (Zy3.out.next hb)
    clear hb Bel3 Tb3 Zx3 Zy3
    go_wp2_with fail
    refine (exRounded_any (adZ x y) S4 E4 g4 mode A4 n4 c4 _ Zr4.out (by have := Hnr.out; omega) (by omega) (by omega) Hmo.out.1 Hmo.out.2 Tb4.out).mono ?_
    rintro e w5 ⟨rfl, hb⟩
    have Sz5 := Lib.hid (Below.size hb)
    have Bel5 := Lib.hid (belNext Bel4.out hb)
    have Tb5 := Lib.hid (Tb4.out.next hb)
    have Zx5 := Lib.hid (Zx4.out.next hb)
    have Zy5 := Lib.hid (Zy4.out.next hb)
    have Zr5 := Lib.hid (Zr4.out.next hb)
    clear hb Bel4 Tb4 Zx4 Zy4 Zr4
    go_wp2_with fail
    have Hres : Hid (opF x y mode (adF x y mode) = xF (adZ x y) E4 g4 mode ∧ opL x y mode (adL x y mode) = xL (adZ x y) E4 mode) := Lib.hid (by unfold opF opL; rw [if_pos Hc.out, if_pos Hc.out, HE4.out, Hg4.out]; exact ⟨rfl, rfl⟩)
    go_ret3
    exact ⟨ret_flo Hres.out.1.symm Hres.out.2.symm Hc.out.symm, Bel5.out⟩
  · obtain ⟨cd, hcd⟩ : ∃ cd, cd = ckE [x, y] mode := ⟨_, rfl⟩
    rw [← hcd] at hc
    have Hcd := Lib.hid hcd
    have hc2 : (cd == 0) = false := beq_false_of_ne hc
    have hc3 : (cd != 0) = true := by simp [hc]
    have Hres : Hid (opF x y mode (adF x y mode) = 0 ∧ opL x y mode (adL x y mode) = 0) := Lib.hid (by unfold opF opL; rw [if_neg (by rw [← hcd]; exact hc), if_neg (by rw [← hcd]; exact hc)]; exact ⟨rfl, rfl⟩)
    rw [← hcd]
    clear hcd
    go_wp2_with fail
    go_ret3
    exact ⟨ret_flo Hres.out.1.symm Hres.out.2.symm Hcd.out, Bel1.out⟩

set_option maxHeartbeats 4000000 in
theorem operate_minus (x y : Nat) (mode : Int) (w : World) (hx : x < 4294967296) (hy : y < 4294967296) (hT : TabZ w) :
    Calls Tryz.prog 105 #[.func (.func 106) #[] #[], .float .f32 x, .float .f32 y, .int .i64 mode] w fun e w' => e = .returned (.tuple #[.float .f32 (opF x y mode (sbF x y mode)), .int .i64 (opL x y mode (sbL x y mode)), .int .i64 (ckE [x, y] mode)]) ∧ Below w.heap.size w w' := by
  have Hxy := Lib.hid (And.intro hx hy)
  obtain ⟨w1, hw1⟩ : ∃ w1, w1 = w.alloc (.cells #[.float .f32 x, .float .f32 y] 37) := ⟨_, rfl⟩
  have Hr : Hid (Rd w1 w1.heap.size (some ⟨w.heap.size, 0, none⟩) (fs [x, y])) := Lib.hid (by rw [hw1]; exact rd_two _ _ _ _)
  have Bel1 : Hid (Below w.heap.size w w1) := Lib.hid (by rw [hw1]; exact belAlloc1 _ _)
  have Tb1 := Lib.hid (hT.next Bel1.out)
  have Hw := Lib.hid hw1
  clear hx hy hw1 hT
  go_enter Tryz.func105, Tryz.ntmps105
  go_wp2_with fail
  rw [← Hw.out]
  refine (check_any mode [x, y] _ 2 2 _ w1 Hr.out rfl (by omega) (by have h := Hxy.out; simp; exact h)).mono ?_
  rintro e w9 ⟨rfl, rfl⟩
  by_cases hc : ckE [x, y] mode = 0
  · have Hc := Lib.hid hc
    obtain ⟨hf1, hf2, hm1, hm2⟩ := ckE_zero hc
    have Hf := Lib.hid (And.intro hf1 hf2)
    have Hmo := Lib.hid (And.intro hm1 hm2)
    obtain ⟨e1, e2⟩ := fe_small hf1
    obtain ⟨e3, e4⟩ := fe_small hf2
    rw [hc]
    clear hc hf1 hf2 hm1 hm2
    go_wp2_with fail
    refine (exactOf_any x _ Hxy.out.1 Hf.out.1 Tb1.out).mono ?_
    rintro e w2 ⟨S2, A2, n2, c2, rfl, hzo, hb⟩
    rw [show nx (ofM x) (ofP x) = fe x from rfl]
    have Zx2 : Hid (ZV w2 (fz x) S2 A2 n2 c2) := Lib.hid hzo.zv
    have Hnx : Hid ((n2 : Int) ≤ 1) := Lib.hid (fz_len Hf.out.1 hzo.zv.len)
    clear hzo
    have Sz2 := Lib.hid (Below.size hb)
    have Bel2 := Lib.hid (belNext Bel1.out hb)
    have Tb2 := Lib.hid (Tb1.out.next hb)
    clear hb Bel1 Tb1
    go_wp2_with fail
    refine (exactOf_any y _ Hxy.out.2 Hf.out.2 Tb2.out).mono ?_
    rintro e w3 ⟨S3, A3, n3, c3, rfl, hzo, hb⟩
    rw [show nx (ofM y) (ofP y) = fe y from rfl]
    have Zy3 : Hid (ZV w3 (fz y) S3 A3 n3 c3) := Lib.hid hzo.zv
    have Hny : Hid ((n3 : Int) ≤ 1) := Lib.hid (fz_len Hf.out.2 hzo.zv.len)
    clear hzo
    have Sz3 := Lib.hid (Below.size hb)
    have Bel3 := Lib.hid (belNext Bel2.out hb)
    have Tb3 := Lib.hid (Tb2.out.next hb)
    have Zx3 := Lib.hid (Zx2.out.next hb)
    clear hb Bel2 Tb2 Zx2
    go_wp2_with fail
    refine (exMinus_any (fz x) S2 (fe x) (sgn x) (fz y) S3 (fe y) (sgn y) A2 A3 n2 c2 n3 c3 _ Zx3.out Zy3.out (by have := Hnx.out; omega) (by have := Hny.out; omega) (by omega) (by omega) (by omega) (by omega) (by have := sgn_pm y; omega) (by have := sgn_pm y; omega) Tb3.out).mono ?_
    rintro e w4 ⟨S4, A4, n4, c4, rfl, hzo, hb⟩
    have Zr4 : Hid (ZV w4 (sbZ x y) S4 A4 n4 c4) := Lib.hid hzo.zv
    have Hnr : Hid ((n4 : Int) ≤ 21) := Lib.hid (sum_small (Nat.lt_of_lt_of_le (fz_small Hf.out.1) (by decide)) (by rw [Int.natAbs_neg]; exact Nat.lt_of_lt_of_le (fz_small Hf.out.2) (by decide)) (by omega) (by omega) hzo.zv.len)
    obtain ⟨E4, hE4⟩ : ∃ E4, E4 = min (fe x) (fe y) := ⟨_, rfl⟩
    obtain ⟨g4, hg4⟩ : ∃ g4, g4 = sgS (sgn x) (-(sgn y)) := ⟨_, rfl⟩
    rw [← hE4, ← hg4]
    have HE4 := Lib.hid hE4
    have Hg4 := Lib.hid hg4
    have e5 : -400 ≤ E4 := by omega
    have e6 : E4 ≤ 400 := by omega
    clear hzo hE4 hg4
    have Sz4 := Lib.hid (Below.size hb)
    have Bel4 := Lib.hid (belNext Bel3.out hb)
    have Tb4 := Lib.hid (Tb3.out.next hb)
    have Zx4 := Lib.hid (Zx3.out.next hb)
    have Zy4 := Lib.hid (Zy3.out.next hb)
    clear hb Bel3 Tb3 Zx3 Zy3
    go_wp2_with fail
    refine (exRounded_any (sbZ x y) S4 E4 g4 mode A4 n4 c4 _ Zr4.out (by have := Hnr.out; omega) (by omega) (by omega) Hmo.out.1 Hmo.out.2 Tb4.out).mono ?_
    rintro e w5 ⟨rfl, hb⟩
    have Sz5 := Lib.hid (Below.size hb)
    have Bel5 := Lib.hid (belNext Bel4.out hb)
    have Tb5 := Lib.hid (Tb4.out.next hb)
    have Zx5 := Lib.hid (Zx4.out.next hb)
    have Zy5 := Lib.hid (Zy4.out.next hb)
    have Zr5 := Lib.hid (Zr4.out.next hb)
    clear hb Bel4 Tb4 Zx4 Zy4 Zr4
    go_wp2_with fail
    have Hres : Hid (opF x y mode (sbF x y mode) = xF (sbZ x y) E4 g4 mode ∧ opL x y mode (sbL x y mode) = xL (sbZ x y) E4 mode) := Lib.hid (by unfold opF opL; rw [if_pos Hc.out, if_pos Hc.out, HE4.out, Hg4.out]; exact ⟨rfl, rfl⟩)
    go_ret3
    exact ⟨ret_flo Hres.out.1.symm Hres.out.2.symm Hc.out.symm, Bel5.out⟩
  · obtain ⟨cd, hcd⟩ : ∃ cd, cd = ckE [x, y] mode := ⟨_, rfl⟩
    rw [← hcd] at hc
    have Hcd := Lib.hid hcd
    have hc2 : (cd == 0) = false := beq_false_of_ne hc
    have hc3 : (cd != 0) = true := by simp [hc]
    have Hres : Hid (opF x y mode (sbF x y mode) = 0 ∧ opL x y mode (sbL x y mode) = 0) := Lib.hid (by unfold opF opL; rw [if_neg (by rw [← hcd]; exact hc), if_neg (by rw [← hcd]; exact hc)]; exact ⟨rfl, rfl⟩)
    rw [← hcd]
    clear hcd
    go_wp2_with fail
    go_ret3
    exact ⟨ret_flo Hres.out.1.symm Hres.out.2.symm Hcd.out, Bel1.out⟩

set_option maxHeartbeats 4000000 in
theorem operate_times (x y : Nat) (mode : Int) (w : World) (hx : x < 4294967296) (hy : y < 4294967296) (hT : TabZ w) :
    Calls Tryz.prog 105 #[.func (.func 51) #[] #[], .float .f32 x, .float .f32 y, .int .i64 mode] w fun e w' => e = .returned (.tuple #[.float .f32 (opF x y mode (muF x y mode)), .int .i64 (opL x y mode (muL x y mode)), .int .i64 (ckE [x, y] mode)]) ∧ Below w.heap.size w w' := by
  have Hxy := Lib.hid (And.intro hx hy)
  obtain ⟨w1, hw1⟩ : ∃ w1, w1 = w.alloc (.cells #[.float .f32 x, .float .f32 y] 37) := ⟨_, rfl⟩
  have Hr : Hid (Rd w1 w1.heap.size (some ⟨w.heap.size, 0, none⟩) (fs [x, y])) := Lib.hid (by rw [hw1]; exact rd_two _ _ _ _)
  have Bel1 : Hid (Below w.heap.size w w1) := Lib.hid (by rw [hw1]; exact belAlloc1 _ _)
  have Tb1 := Lib.hid (hT.next Bel1.out)
  have Hw := Lib.hid hw1
  clear hx hy hw1 hT
  go_enter Tryz.func105, Tryz.ntmps105
  go_wp2_with fail
  rw [← Hw.out]
  refine (check_any mode [x, y] _ 2 2 _ w1 Hr.out rfl (by omega) (by have h := Hxy.out; simp; exact h)).mono ?_
  rintro e w9 ⟨rfl, rfl⟩
  by_cases hc : ckE [x, y] mode = 0
  · have Hc := Lib.hid hc
    obtain ⟨hf1, hf2, hm1, hm2⟩ := ckE_zero hc
    have Hf := Lib.hid (And.intro hf1 hf2)
    have Hmo := Lib.hid (And.intro hm1 hm2)
    obtain ⟨e1, e2⟩ := fe_small hf1
    obtain ⟨e3, e4⟩ := fe_small hf2
    rw [hc]
    clear hc hf1 hf2 hm1 hm2
    go_wp2_with fail
    refine (exactOf_any x _ Hxy.out.1 Hf.out.1 Tb1.out).mono ?_
    rintro e w2 ⟨S2, A2, n2, c2, rfl, hzo, hb⟩
    rw [show nx (ofM x) (ofP x) = fe x from rfl]
    have Zx2 : Hid (ZV w2 (fz x) S2 A2 n2 c2) := Lib.hid hzo.zv
    have Hnx : Hid ((n2 : Int) ≤ 1) := Lib.hid (fz_len Hf.out.1 hzo.zv.len)
    clear hzo
    have Sz2 := Lib.hid (Below.size hb)
    have Bel2 := Lib.hid (belNext Bel1.out hb)
    have Tb2 := Lib.hid (Tb1.out.next hb)
    clear hb Bel1 Tb1
    go_wp2_with fail
    refine (exactOf_any y _ Hxy.out.2 Hf.out.2 Tb2.out).mono ?_
    rintro e w3 ⟨S3, A3, n3, c3, rfl, hzo, hb⟩
    rw [show nx (ofM y) (ofP y) = fe y from rfl]
    have Zy3 : Hid (ZV w3 (fz y) S3 A3 n3 c3) := Lib.hid hzo.zv
    have Hny : Hid ((n3 : Int) ≤ 1) := Lib.hid (fz_len Hf.out.2 hzo.zv.len)
    clear hzo
    have Sz3 := Lib.hid (Below.size hb)
    have Bel3 := Lib.hid (belNext Bel2.out hb)
    have Tb3 := Lib.hid (Tb2.out.next hb)
    have Zx3 := Lib.hid (Zx2.out.next hb)
    clear hb Bel2 Tb2 Zx2
    go_wp2_with fail
    refine (exTimes_any (fz x) S2 (fe x) (sgn x) (fz y) S3 (fe y) (sgn y) A2 A3 n2 c2 n3 c3 _ Zx3.out Zy3.out (by have := Hnx.out; omega) (by have := Hny.out; omega) (by omega) (by omega) (by omega) (by omega) (by have := sgn_pm x; omega) (by have := sgn_pm x; omega) (by have := sgn_pm y; omega) (by have := sgn_pm y; omega)).mono ?_
    rintro e w4 ⟨S4, A4, n4, c4, rfl, hzo, hb⟩
    have Zr4 : Hid (ZV w4 (fz x * fz y) S4 A4 n4 c4) := Lib.hid hzo.zv
    have Hnr : Hid ((n4 : Int) ≤ 2) := Lib.hid (mul_small (fz_small Hf.out.1) (fz_small Hf.out.2) hzo.zv.len)
    obtain ⟨E4, hE4⟩ : ∃ E4, E4 = fe x + fe y := ⟨_, rfl⟩
    obtain ⟨g4, hg4⟩ : ∃ g4, g4 = sgn x * sgn y := ⟨_, rfl⟩
    rw [← hE4, ← hg4]
    have HE4 := Lib.hid hE4
    have Hg4 := Lib.hid hg4
    have e5 : -400 ≤ E4 := by omega
    have e6 : E4 ≤ 400 := by omega
    clear hzo hE4 hg4
    have Sz4 := Lib.hid (Below.size hb)
    have Bel4 := Lib.hid (belNext Bel3.out hb)
    have Tb4 := Lib.hid (Tb3.out.next hb)
    have Zx4 := Lib.hid (Zx3.out.next hb)
    have Zy4 := Lib.hid (Zy3.out.next hb)
    clear hb Bel3 Tb3 Zx3 Zy3
    go_wp2_with fail
    refine (exRounded_any (fz x * fz y) S4 E4 g4 mode A4 n4 c4 _ Zr4.out (by have := Hnr.out; omega) (by omega) (by omega) Hmo.out.1 Hmo.out.2 Tb4.out).mono ?_
    rintro e w5 ⟨rfl, hb⟩
    have Sz5 := Lib.hid (Below.size hb)
    have Bel5 := Lib.hid (belNext Bel4.out hb)
    have Tb5 := Lib.hid (Tb4.out.next hb)
    have Zx5 := Lib.hid (Zx4.out.next hb)
    have Zy5 := Lib.hid (Zy4.out.next hb)
    have Zr5 := Lib.hid (Zr4.out.next hb)
    clear hb Bel4 Tb4 Zx4 Zy4 Zr4
    go_wp2_with fail
    have Hres : Hid (opF x y mode (muF x y mode) = xF (fz x * fz y) E4 g4 mode ∧ opL x y mode (muL x y mode) = xL (fz x * fz y) E4 mode) := Lib.hid (by unfold opF opL; rw [if_pos Hc.out, if_pos Hc.out, HE4.out, Hg4.out]; exact ⟨rfl, rfl⟩)
    go_ret3
    exact ⟨ret_flo Hres.out.1.symm Hres.out.2.symm Hc.out.symm, Bel5.out⟩
  · obtain ⟨cd, hcd⟩ : ∃ cd, cd = ckE [x, y] mode := ⟨_, rfl⟩
    rw [← hcd] at hc
    have Hcd := Lib.hid hcd
    have hc2 : (cd == 0) = false := beq_false_of_ne hc
    have hc3 : (cd != 0) = true := by simp [hc]
    have Hres : Hid (opF x y mode (muF x y mode) = 0 ∧ opL x y mode (muL x y mode) = 0) := Lib.hid (by unfold opF opL; rw [if_neg (by rw [← hcd]; exact hc), if_neg (by rw [← hcd]; exact hc)]; exact ⟨rfl, rfl⟩)
    rw [← hcd]
    clear hcd
    go_wp2_with fail
    go_ret3
    exact ⟨ret_flo Hres.out.1.symm Hres.out.2.symm Hcd.out, Bel1.out⟩

set_option maxHeartbeats 1000000 in
theorem implAddIn_any (x y : Nat) (mode : Int) (w : World) (hx : x < 4294967296) (hy : y < 4294967296) (hT : TabZ w) :
    Calls Tryz.prog 56 #[.float .f32 x, .float .f32 y, .int .i64 mode] w fun e w' => e = .returned (.tuple #[.float .f32 (opF x y mode (adF x y mode)), .int .i64 (opL x y mode (adL x y mode)), .int .i64 (ckE [x, y] mode)]) ∧ Below w.heap.size w w' := by
  have Hxy := Lib.hid (And.intro hx hy)
  have HT := Lib.hid hT
  clear hx hy hT
  go_enter Tryz.func56, Tryz.ntmps56
  go_wp2_with fail
  refine (operate_plus x y mode _ Hxy.out.1 Hxy.out.2 HT.out).mono ?_
  rintro e w1 ⟨rfl, hb⟩
  have Hb := Lib.hid hb
  clear hb
  go_wp2_with fail
  go_ret3
  exact ⟨rfl, Hb.out⟩
set_option maxHeartbeats 1000000 in
theorem implSubtractIn_any (x y : Nat) (mode : Int) (w : World) (hx : x < 4294967296) (hy : y < 4294967296) (hT : TabZ w) :
    Calls Tryz.prog 57 #[.float .f32 x, .float .f32 y, .int .i64 mode] w fun e w' => e = .returned (.tuple #[.float .f32 (opF x y mode (sbF x y mode)), .int .i64 (opL x y mode (sbL x y mode)), .int .i64 (ckE [x, y] mode)]) ∧ Below w.heap.size w w' := by
  have Hxy := Lib.hid (And.intro hx hy)
  have HT := Lib.hid hT
  clear hx hy hT
  go_enter Tryz.func57, Tryz.ntmps57
  go_wp2_with fail
  refine (operate_minus x y mode _ Hxy.out.1 Hxy.out.2 HT.out).mono ?_
  rintro e w1 ⟨rfl, hb⟩
  have Hb := Lib.hid hb
  clear hb
  go_wp2_with fail
  go_ret3
  exact ⟨rfl, Hb.out⟩
set_option maxHeartbeats 1000000 in
theorem implMultiplyIn_any (x y : Nat) (mode : Int) (w : World) (hx : x < 4294967296) (hy : y < 4294967296) (hT : TabZ w) :
    Calls Tryz.prog 58 #[.float .f32 x, .float .f32 y, .int .i64 mode] w fun e w' => e = .returned (.tuple #[.float .f32 (opF x y mode (muF x y mode)), .int .i64 (opL x y mode (muL x y mode)), .int .i64 (ckE [x, y] mode)]) ∧ Below w.heap.size w w' := by
  have Hxy := Lib.hid (And.intro hx hy)
  have HT := Lib.hid hT
  clear hx hy hT
  go_enter Tryz.func58, Tryz.ntmps58
  go_wp2_with fail
  refine (operate_times x y mode _ Hxy.out.1 Hxy.out.2 HT.out).mono ?_
  rintro e w1 ⟨rfl, hb⟩
  have Hb := Lib.hid hb
  clear hb
  go_wp2_with fail
  go_ret3
  exact ⟨rfl, Hb.out⟩

end Go.Proofs.YtcjamfoiilgfoaaGreatDoor
/- Operations on floats in modes, of the model. -/
namespace Go.Proofs.YtcjamfoiilgfoaaGreatDoor
set_option maxRecDepth 100000
open Go.RowKit
set_option linter.unusedSimpArgs false
set_option linter.unusedVariables false
attribute [local go_sem ↓] Go.wp_at_zero Go.wp_at_succ

theorem bit_any (b : Nat) (w : World) (hb : b < 4294967296) (hn : nan32 b = false) : Calls Tryz.prog 50 #[.float .f32 b] w fun e w' => e = .returned (.bool (neg32 b)) ∧ w = w' := by
  have hl := lt32 b 0 hb (by decide) hn nan32_zero
  have he := eq32 b 0 hb (by decide) hn nan32_zero
  rw [place32_zero] at hl he
  by_cases h1 : place32 b < 0
  · rw [decide_eq_true h1] at hl
    have hb2 : neg32 b = true := by
      unfold place32 at h1; unfold neg32; split at h1
      · assumption
      · omega
    rw [hb2]
    clear he hb2
    go_enter Tryz.func50, Tryz.ntmps50
    go_wp2
    go_ret
    exact ⟨rfl, rfl⟩
  · rw [decide_eq_false h1] at hl
    by_cases h2 : place32 b = 0
    · rw [decide_eq_true h2] at he
      have hb2 : b = 0 ∨ b = 2147483648 := by
        unfold place32 at h2; split at h2 <;> omega
      rcases hb2 with rfl | rfl
      · have hm := one_over_zero
        have hop : ∀ t w, (binOp .quo t (.float .f32 1065353216) (.float .f32 0)).run Tryz.prog w = .ok (.float .f32 2139095040) w := fun t w => run_float_arith w .quo t .f32 _ _ _ hm
        have hz := lt32 2139095040 0 (by decide) (by decide) (by decide) (by decide)
        rw [place32_zero, decide_eq_false (by decide)] at hz
        clear hm h1 h2
        rw [show neg32 0 = false by decide]
        go_enter Tryz.func50, Tryz.ntmps50
        go_wp2
        go_ret
        exact ⟨rfl, rfl⟩
      · have hm := one_over_minus_zero
        have hop : ∀ t w, (binOp .quo t (.float .f32 1065353216) (.float .f32 2147483648)).run Tryz.prog w = .ok (.float .f32 4286578688) w := fun t w => run_float_arith w .quo t .f32 _ _ _ hm
        have hz := lt32 4286578688 0 (by decide) (by decide) (by decide) (by decide)
        rw [place32_zero, decide_eq_true (by decide)] at hz
        clear hm h1 h2
        rw [show neg32 2147483648 = true by decide]
        go_enter Tryz.func50, Tryz.ntmps50
        go_wp2
        go_ret
        exact ⟨rfl, rfl⟩
    · rw [decide_eq_false h2] at he
      have hb2 : neg32 b = false := by
        unfold place32 at h1 h2; unfold neg32; split at h1
        · rename_i h; rw [if_pos h] at h2; omega
        · rename_i h; simpa using h
      rw [hb2]
      clear hb2 h2
      go_enter Tryz.func50, Tryz.ntmps50
      go_wp2
      go_ret
      exact ⟨rfl, rfl⟩
theorem bitB_any (b : Nat) (w : World) (hb : b < 4294967296) (hf : fin32 b = true) : Calls Tryz.prog 50 #[.float .f32 b] w fun e w' => e = .returned (.bool (neg32 b)) ∧ w = w' := bit_any b w hb (fin_nan hf)
/-- a zero with a sign bit or without -/
def mzF (b : Bool) : Nat := if b = true then 2147483648 else 0
theorem zero_any (b : Bool) (w : World) : Calls Tryz.prog 87 #[.bool b] w fun e w' => e = .returned (.float .f32 (mzF b)) ∧ w = w' := by
  cases b
  · go_enter Tryz.func87, Tryz.ntmps87
    go_wp2_with fail
    go_ret
    exact ⟨rfl, rfl⟩
  · go_enter Tryz.func87, Tryz.ntmps87
    go_wp2_with fail
    refine (turned_yes 0 _ (by decide) (by decide)).mono ?_
    rintro e w9 ⟨rfl, rfl⟩
    go_wp2_with fail
    go_ret
    exact ⟨rfl, rfl⟩
theorem finB_any (b : Nat) (w : World) (hb : b < 4294967296) : Calls Tryz.prog 47 #[.float .f32 b] w fun e w' => e = .returned (.bool (fin32 b)) ∧ Below w.heap.size w w' := by
  by_cases hf : fin32 b = true
  · rw [hf]
    exact (fin_yes b w hb hf).mono fun _ _ h => same_below h
  · have hf2 : fin32 b = false := by simpa using hf
    rw [hf2]
    refine (fin_no b w hb hf2).mono ?_
    rintro e w' ⟨rfl, rfl⟩
    exact ⟨rfl, (Below.refl _ _).drew⟩
theorem ckE_first {x y : Nat} {mode : Int} (h : fin32 x = false) : ckE [x, y] mode = 1 := by unfold ckE; rw [if_neg (by simp [h])]
theorem ckE_second {x y : Nat} {mode : Int} (h : fin32 y = false) : ckE [x, y] mode = 1 := by unfold ckE; rw [if_neg (by simp [h])]
theorem ckE_both {x y : Nat} {mode : Int} (h : fin32 x = true) (h' : fin32 y = true) : ckE [x, y] mode = if 0 ≤ mode ∧ mode ≤ 4 then 0 else 2 := by unfold ckE; rw [if_pos (by simp [h, h'])]
set_option maxHeartbeats 1000000 in
theorem specTwo_any (x y : Nat) (mode : Int) (w : World) (hx : x < 4294967296) (hy : y < 4294967296) : Calls Tryz.prog 39 #[.float .f32 x, .float .f32 y, .int .i64 mode] w fun e w' => e = .returned (.int .i64 (ckE [x, y] mode)) ∧ Below w.heap.size w w' := by
  have Hxy := Lib.hid (And.intro hx hy)
  clear hx hy
  by_cases hf : fin32 x = true
  · have Hf := Lib.hid hf
    clear hf
    by_cases hg : fin32 y = true
    · have Hg := Lib.hid hg
      clear hg
      go_enter Tryz.func39, Tryz.ntmps39
      go_wp2_with fail
      refine (fin_yes x _ Hxy.out.1 Hf.out).mono ?_
      rintro e w9 ⟨rfl, rfl⟩
      go_wp2_with fail
      refine (fin_yes y _ Hxy.out.2 Hg.out).mono ?_
      rintro e w9 ⟨rfl, rfl⟩
      go_wp2_with fail
      refine (specMode_any mode _).mono ?_
      rintro e w9 ⟨rfl, rfl⟩
      by_cases hm : 0 ≤ mode ∧ mode ≤ 4
      · have hin : decide (0 ≤ mode ∧ mode ≤ 4) = true := decide_eq_true hm
        have Hres : Hid (ckE [x, y] mode = 0) := Lib.hid (by rw [ckE_both Hf.out Hg.out, if_pos hm])
        rw [hin]
        clear hin hm
        go_wp2_with fail
        go_ret
        exact ⟨ret_int Hres.out.symm, Below.refl _ _⟩
      · have hin : decide (0 ≤ mode ∧ mode ≤ 4) = false := decide_eq_false hm
        have Hres : Hid (ckE [x, y] mode = 2) := Lib.hid (by rw [ckE_both Hf.out Hg.out, if_neg hm])
        rw [hin]
        clear hin hm
        go_wp2_with fail
        go_ret
        exact ⟨ret_int Hres.out.symm, Below.refl _ _⟩
    · have hg2 : fin32 y = false := by simpa using hg
      have Hg := Lib.hid hg2
      have Hres : Hid (ckE [x, y] mode = 1) := Lib.hid (ckE_second hg2)
      clear hg hg2
      go_enter Tryz.func39, Tryz.ntmps39
      go_wp2_with fail
      refine (fin_yes x _ Hxy.out.1 Hf.out).mono ?_
      rintro e w9 ⟨rfl, rfl⟩
      go_wp2_with fail
      refine (finB_any y _ Hxy.out.2).mono ?_
      rintro e w9 ⟨rfl, hb⟩
      rw [Hg.out]
      have Hb := Lib.hid hb
      clear hb
      go_wp2_with fail
      go_ret
      exact ⟨ret_int Hres.out.symm, Hb.out⟩
  · have hf2 : fin32 x = false := by simpa using hf
    have Hf := Lib.hid hf2
    have Hres : Hid (ckE [x, y] mode = 1) := Lib.hid (ckE_first hf2)
    clear hf hf2
    go_enter Tryz.func39, Tryz.ntmps39
    go_wp2_with fail
    refine (finB_any x _ Hxy.out.1).mono ?_
    rintro e w9 ⟨rfl, hb⟩
    rw [Hf.out]
    have Hb := Lib.hid hb
    clear hb
    go_wp2_with fail
    go_ret
    exact ⟨ret_int Hres.out.symm, Hb.out⟩
/-- a sum, with the sign of one that is 0 -/
noncomputable def smF (z Z E : Int) (b1 b2 : Bool) (mode : Int) : Nat := if Z = 0 then (if z = 0 ∧ b1 = b2 then mzF b1 else mzF (mode == 1)) else rdF Z E mode
set_option maxHeartbeats 4000000 in
theorem specSum_any (z S E z' S' E' mode : Int) (A A' : Option Addr) (n c n' c' : Nat) (b1 b2 : Bool) (w : World) (hz : ZV w z S A n c) (hz' : ZV w z' S' A' n' c') (hm : (n : Int) ≤ 100) (hm' : (n' : Int) ≤ 100) (h1 : -3000 ≤ E) (h2 : E ≤ 3000) (h3 : -3000 ≤ E') (h4 : E' ≤ 3000) (hl : (limbs (sumZ z E z' E').natAbs).length ≤ 100) (hm1 : 0 ≤ mode) (hm2 : mode ≤ 4) :
    Calls Tryz.prog 48 #[.agg #[.int .i64 S, .slice A n c, .int .i64 E], .agg #[.int .i64 S', .slice A' n' c', .int .i64 E'], .bool b1, .bool b2, .int .i64 mode] w fun e w' => e = .returned (.tuple #[.float .f32 (smF z (sumZ z E z' E') (min E E') b1 b2 mode), .int .i64 (xL (sumZ z E z' E') (min E E') mode)]) ∧ Below w.heap.size w w' := by
  have hst := store_int Tryz.prog
  have hst2 := store_slice Tryz.prog
  obtain ⟨w1, hw1, hb1, hb2, hb4⟩ := dbox2 w S S' A A' n n' c c' E E' 30 30
  have Zv1 := Lib.hid (hz.next hb4)
  have Zw1 := Lib.hid (hz'.next hb4)
  have Hw := Lib.hid hw1
  have Bx1 := Lib.hid hb1
  have By1 := Lib.hid hb2
  have Bel1 := Lib.hid hb4
  have Hm := Lib.hid (And.intro hm hm')
  have HS : Hid (S = z.sign) := Lib.hid hz.1
  obtain ⟨Z, hZ⟩ : ∃ Z, Z = sumZ z E z' E' := ⟨_, rfl⟩
  obtain ⟨q, hq⟩ : ∃ q, q = min E E' := ⟨_, rfl⟩
  rw [← hZ] at hl
  rw [← hZ, ← hq]
  have HZ := Lib.hid hZ
  have Hq := Lib.hid hq
  have hq1 : -3000 ≤ q := by omega
  have hq2 : q ≤ 3000 := by omega
  have Hl := Lib.hid hl
  have Hmo := Lib.hid (And.intro hm1 hm2)
  clear hz hz' hw1 hb1 hb2 hb4 hm hm' hl hZ hq hm1 hm2
  go_enter Tryz.func48, Tryz.ntmps48
  go_wp2_with fail
  rw [← Hw.out]
  obtain ⟨⟨hBx0, hBx1, hBx2⟩, hBx3⟩ := Bx1.out
  obtain ⟨⟨hBy0, hBy1, hBy2⟩, hBy3⟩ := By1.out
  go_wp2_with fail
  refine (specAddD_any z S E z' S' E' A A' n c n' c' _ Zv1.out Zw1.out (by have := Hm.out; omega) (by have := Hm.out; omega) (by omega) (by omega) (by omega) (by omega)).mono ?_
  rintro e w2 ⟨Sr, Ar, nr, cr, rfl, hzo, hb⟩
  rw [← HZ.out, ← Hq.out]
  rw [← HZ.out] at hzo
  obtain ⟨x, hx⟩ : ∃ x, x = nx Z q := ⟨_, rfl⟩
  rw [← hx]
  have Hx := Lib.hid hx
  have Zo2 : Hid (ZV w2 (nz Z) Sr Ar nr cr) := Lib.hid hzo.zv
  have Hnr : Hid ((nr : Int) ≤ 100) := Lib.hid (by have h := hzo.zv.len; have h2 := limbs_len_mono (nz_le Z); have h3 := Hl.out; omega)
  have hx1 : -6000 ≤ x ∧ x ≤ 6000 := by
    rw [hx]
    by_cases h0 : Z = 0
    · rw [h0, nx_zero]; omega
    · rw [nx_ne h0]; have h := tz_le (v := Z.natAbs) rfl; have h3 := Hl.out; omega
  obtain ⟨hx1, hx2⟩ := hx1
  clear hzo hx
  have Sz2 := Lib.hid (Below.size hb)
  have Bel2 := Lib.hid (belNext Bel1.out hb)
  have Bx2 := Lib.hid (Bx1.out.next hb)
  have By2 := Lib.hid (By1.out.next hb)
  have Zv2 := Lib.hid (Zv1.out.next hb)
  have Zw2 := Lib.hid (Zw1.out.next hb)
  clear hb Bel1 Bx1 By1 Zv1 Zw1 hBx0 hBx1 hBx2 hBx3 hBy0 hBy1 hBy2 hBy3
  obtain ⟨⟨hBx0, hBx1, hBx2⟩, hBx3⟩ := Bx2.out
  obtain ⟨⟨hBy0, hBy1, hBy2⟩, hBy3⟩ := By2.out
  go_upto_region 2 with fail
  obtain ⟨w3, hw3⟩ : ∃ w3, w3 = w2.alloc (.cells #[.int .i64 Sr, .slice Ar nr cr, .int .i64 x] 30) := ⟨_, rfl⟩
  rw [← hw3]
  obtain ⟨f, hf⟩ : ∃ f, f = w2.heap.size := ⟨_, rfl⟩
  have hb : Below w2.heap.size w2 w3 := by rw [hw3]; exact belAlloc1 _ _
  have Ba3 : Hid (DBox w3 f Sr Ar nr cr x) := Lib.hid (by rw [hw3, hf]; exact DBox.new _ _ _ _ _ _ _)
  rw [← hf]
  clear hw3 hf
  have Sz3 := Lib.hid (Below.size hb)
  have Bel3 := Lib.hid (belNext Bel2.out hb)
  have Bx3 := Lib.hid (Bx2.out.next hb)
  have By3 := Lib.hid (By2.out.next hb)
  have Zv3 := Lib.hid (Zv2.out.next hb)
  have Zw3 := Lib.hid (Zw2.out.next hb)
  have Zo3 := Lib.hid (Zo2.out.next hb)
  clear hb Bel2 Bx2 By2 Zv2 Zw2 Zo2 hBx0 hBx1 hBx2 hBx3 hBy0 hBy1 hBy2 hBy3
  obtain ⟨⟨hBx0, hBx1, hBx2⟩, hBx3⟩ := Bx3.out
  obtain ⟨⟨hBy0, hBy1, hBy2⟩, hBy3⟩ := By3.out
  obtain ⟨⟨hBa0, hBa1, hBa2⟩, hBa3⟩ := Ba3.out
  have HSr : Hid (Sr = (nz Z).sign) := Lib.hid Zo3.out.1
  by_cases h0 : Z = 0
  · have hsr : Sr = 0 := by rw [HSr.out, nz_eq_zero.2 h0]; rfl
    have HxL : Hid (xL Z q mode = 0) := Lib.hid (if_pos h0)
    have Hsm : Hid (smF z Z q b1 b2 mode = if z = 0 ∧ b1 = b2 then mzF b1 else mzF (mode == 1)) := Lib.hid (if_pos h0)
    subst hsr
    clear h0
    by_cases hz0 : z = 0
    · have hs0 : S = 0 := by rw [HS.out, hz0]; rfl
      subst hs0
      by_cases hbb : b1 = b2
      · subst hbb
        have Hres : Hid (smF z Z q b1 b1 mode = mzF b1) := Lib.hid (by rw [Hsm.out, if_pos ⟨hz0, rfl⟩])
        clear hz0
        go_wp2_with fail
        refine (zero_any b1 _).mono ?_
        rintro e w9 ⟨rfl, rfl⟩
        go_wp2_with fail
        go_ret2
        exact ⟨by rw [HxL.out, Hres.out]; rfl, Bel3.out⟩
      · have hbn : (b1 == b2) = false := beq_false_of_ne hbb
        have Hres : Hid (smF z Z q b1 b2 mode = mzF (mode == 1)) := Lib.hid (by rw [Hsm.out, if_neg (fun h => hbb h.2)])
        clear hz0 hbb
        go_wp2_with fail
        refine (zero_any (mode == 1) _).mono ?_
        rintro e w9 ⟨rfl, rfl⟩
        go_wp2_with fail
        go_ret2
        exact ⟨by rw [HxL.out, Hres.out]; rfl, Bel3.out⟩
    · have hs0 : (S == 0) = false := beq_false_of_ne (by rw [HS.out]; exact fun h => hz0 (Int.sign_eq_zero_iff_zero.1 h))
      have Hres : Hid (smF z Z q b1 b2 mode = mzF (mode == 1)) := Lib.hid (by rw [Hsm.out, if_neg (fun h => hz0 h.1)])
      clear hz0
      go_wp2_with fail
      refine (zero_any (mode == 1) _).mono ?_
      rintro e w9 ⟨rfl, rfl⟩
      go_wp2_with fail
      go_ret2
      exact ⟨by rw [HxL.out, Hres.out]; rfl, Bel3.out⟩
  · have hsr : (Sr != 0) = true := by rw [HSr.out]; simp; exact fun h => h0 (nz_eq_zero.1 (by simpa using h))
    have hsr2 : (Sr == 0) = false := by simpa using hsr
    have HxL : Hid (xL Z q mode = rdL Z q mode) := Lib.hid (if_neg h0)
    have Hsm : Hid (smF z Z q b1 b2 mode = rdF Z q mode) := Lib.hid (if_neg h0)
    have Hodd : Hid (nz Z ≠ 0 → (nz Z).natAbs % 2 = 1) := Lib.hid (fun _ => nz_odd h0)
    clear h0
    go_wp2_with fail
    refine (specRound_any (nz Z) Sr x mode Ar nr cr _ Zo3.out Hodd.out (by have := Hnr.out; omega) (by omega) (by omega) Hmo.out.1 Hmo.out.2).mono ?_
    rintro e w4 ⟨rfl, hb⟩
    rw [Hx.out, (rd_norm Z q mode).1, (rd_norm Z q mode).2]
    have Sz4 := Lib.hid (Below.size hb)
    have Bel4 := Lib.hid (belNext Bel3.out hb)
    have Bx4 := Lib.hid (Bx3.out.next hb)
    have By4 := Lib.hid (By3.out.next hb)
    have Zv4 := Lib.hid (Zv3.out.next hb)
    have Zw4 := Lib.hid (Zw3.out.next hb)
    have Zo4 := Lib.hid (Zo3.out.next hb)
    have Ba4 := Lib.hid (Ba3.out.next hb)
    clear hb Bel3 Bx3 By3 Zv3 Zw3 Zo3 Ba3 hBx0 hBx1 hBx2 hBx3 hBy0 hBy1 hBy2 hBy3 hBa0 hBa1 hBa2 hBa3
    obtain ⟨⟨hBx0, hBx1, hBx2⟩, hBx3⟩ := Bx4.out
    obtain ⟨⟨hBy0, hBy1, hBy2⟩, hBy3⟩ := By4.out
    obtain ⟨⟨hBa0, hBa1, hBa2⟩, hBa3⟩ := Ba4.out
    go_wp2_with fail
    go_ret2
    exact ⟨by rw [HxL.out, Hsm.out]; rfl, Bel4.out⟩

end Go.Proofs.YtcjamfoiilgfoaaGreatDoor
/- AddIn, SubtractIn, MultiplyIn, of the model. -/
namespace Go.Proofs.YtcjamfoiilgfoaaGreatDoor
set_option maxRecDepth 100000
open Go.RowKit
set_option linter.unusedSimpArgs false
set_option linter.unusedVariables false
attribute [local go_sem ↓] Go.wp_at_zero Go.wp_at_succ

/-- a float with its sign changed -/
def tn (b : Nat) : Nat := if 2147483648 ≤ b then b - 2147483648 else b + 2147483648
theorem tn_facts {b : Nat} (hb : b < 4294967296) (hf : fin32 b = true) : tn b < 4294967296 ∧ fin32 (tn b) = true ∧ fz (tn b) = -(fz b) ∧ fe (tn b) = fe b ∧ neg32 (tn b) = !neg32 b := by
  have e : tn b % 2147483648 = b % 2147483648 := by unfold tn; split <;> omega
  have hl : tn b < 4294967296 := by unfold tn; split <;> omega
  have hn : neg32 (tn b) = !neg32 b := by
    unfold neg32 tn
    by_cases h : 2147483648 ≤ b
    · rw [if_pos h, decide_eq_true h]; exact decide_eq_false (by omega)
    · rw [if_neg h, decide_eq_false h]; exact decide_eq_true (by omega)
  have hM : ofM (tn b) = -(ofM b) := by
    unfold ofM smant32
    rw [e]
    have h1 := place_cases b
    have h2 := place_cases (tn b)
    rw [e] at h2
    have h3 := mant_zero (b % 2147483648)
    have hs : place32 (tn b) = -(place32 b) := by
      unfold place32
      unfold neg32 at hn
      rw [hn, e]
      by_cases h : 2147483648 ≤ b
      · simp [h]
      · simp [h]
    rw [hs]
    by_cases hp : place32 b < 0
    · rw [if_pos hp, if_neg (by omega)]; omega
    · rw [if_neg hp]
      by_cases hp0 : place32 b = 0
      · rw [if_neg (by omega)]
        have : mant (b % 2147483648) = 0 := h3.2 (by omega)
        omega
      · rw [if_pos (by omega)]
  have hP : ofP (tn b) = ofP b := by unfold ofP; rw [e]
  refine ⟨hl, by unfold fin32 at hf ⊢; rw [e]; exact hf, ?_, ?_, hn⟩
  · unfold fz; rw [hM, nz_neg]
  · unfold fe; rw [hM, hP, nx_neg]
theorem sgn_tn {b : Nat} (hb : b < 4294967296) (hf : fin32 b = true) : sgn (tn b) = -(sgn b) := by
  unfold sgn; rw [(tn_facts hb hf).2.2.2.2]; cases neg32 b <;> rfl
theorem sgn_fz {b : Nat} (h : fz b ≠ 0) : (fz b).sign = sgn b := by
  have h0 : ofM b ≠ 0 := fun e => h (by unfold fz; rw [e, nz_zero])
  unfold fz
  rw [(nz_facts _).1]
  unfold sgn neg32
  have h3 := mant_zero (b % 2147483648)
  unfold ofM smant32 at h0 ⊢
  have h1 := place_cases b
  by_cases hp : place32 b < 0
  · rw [if_pos hp] at h0 ⊢
    have : 2147483648 ≤ b := by
      unfold place32 at hp; split at hp
      · rename_i hh; simpa using hh
      · omega
    rw [decide_eq_true this, if_pos rfl]
    exact Int.sign_eq_neg_one_of_neg (by omega)
  · rw [if_neg hp] at h0 ⊢
    have : ¬ 2147483648 ≤ b := by
      intro hc
      unfold place32 at hp; rw [decide_eq_true hc, if_pos rfl] at hp
      have : mant (b % 2147483648) = 0 := h3.2 (by omega)
      omega
    rw [decide_eq_false this, if_neg (by simp)]
    exact Int.sign_eq_one_of_pos (by omega)
theorem sgn_mz (b : Nat) (mode : Int) : zF (sgn b) mode = mzF (neg32 b) := by
  unfold zF mzF sgn
  cases neg32 b <;> simp
theorem sgn_eq (x y : Nat) : (sgn x = sgn y) ↔ neg32 x = neg32 y := by
  unfold sgn
  cases neg32 x <;> cases neg32 y <;> simp
theorem zF_zero (mode : Int) : zF 0 mode = mzF (mode == 1) := by
  unfold zF mzF
  by_cases h : mode = 1
  · subst h; rfl
  · rw [if_neg (by omega), if_neg (by simpa using h)]
/-- a sum of nonzero numbers that is 0 is one of opposite signs -/
theorem sum_opp {z e z' e' : Int} (h : sumZ z e z' e' = 0) (hz : z ≠ 0) : z'.sign = -(z.sign) := by
  unfold sumZ at h
  have h1 := sign_pow_mul (e - min e e').toNat z
  have h2 := sign_pow_mul (e' - min e e').toNat z'
  rw [← h1, ← h2]
  have h3 : (2 : Int) ^ (e' - min e e').toNat * z' = -((2 : Int) ^ (e - min e e').toNat * z) := by omega
  rw [h3, Int.sign_neg]
theorem ad_eq {x y : Nat} (mode : Int) : smF (fz x) (adZ x y) (min (fe x) (fe y)) (neg32 x) (neg32 y) mode = adF x y mode := by
  unfold smF adF xF
  by_cases h0 : adZ x y = 0
  · rw [if_pos h0, if_pos h0]
    by_cases hs : neg32 x = neg32 y
    · have hs2 := (sgn_eq x y).2 hs
      have hz : fz x = 0 := by
        apply Decidable.byContradiction
        intro hc
        have h1 := sum_opp h0 hc
        have hy : fz y ≠ 0 := fun e => by rw [e] at h1; rw [sgn_fz hc] at h1; rcases sgn_pm x with h | h <;> rw [h] at h1 <;> cases h1
        rw [sgn_fz hc, sgn_fz hy, hs2] at h1
        rcases sgn_pm y with h | h <;> rw [h] at h1 <;> cases h1
      rw [if_pos ⟨hz, hs⟩]
      unfold sgS
      rw [if_pos hs2, sgn_mz]
    · have hs2 : ¬ sgn x = sgn y := fun h => hs ((sgn_eq x y).1 h)
      rw [if_neg (fun h => hs h.2)]
      unfold sgS
      rw [if_neg hs2, zF_zero]
  · rw [if_neg h0, if_neg h0]
theorem sb_eq {x y : Nat} (hy : y < 4294967296) (hf : fin32 y = true) (mode : Int) : adF x (tn y) mode = sbF x y mode ∧ adL x (tn y) mode = sbL x y mode := by
  obtain ⟨_, _, h1, h2, _⟩ := tn_facts hy hf
  unfold adF sbF adL sbL adZ sbZ
  rw [h1, h2, sgn_tn hy hf]
  exact ⟨rfl, rfl⟩
theorem mu_eq {x y : Nat} (mode : Int) (h : fz x * fz y = 0) : muF x y mode = mzF (neg32 x != neg32 y) ∧ muL x y mode = 0 := by
  unfold muF muL xF xL
  rw [if_pos h, if_pos h]
  refine ⟨?_, rfl⟩
  unfold zF mzF sgn
  cases neg32 x <;> cases neg32 y <;> simp
theorem mu_ne {x y : Nat} (mode : Int) (h : ¬ fz x * fz y = 0) : muF x y mode = rdF (fz x * fz y) (fe x + fe y) mode ∧ muL x y mode = rdL (fz x * fz y) (fe x + fe y) mode := by
  unfold muF muL xF xL
  rw [if_neg h, if_neg h]
  exact ⟨rfl, rfl⟩

set_option maxHeartbeats 4000000 in
theorem specAddF_any (x y : Nat) (mode : Int) (w : World) (hx : x < 4294967296) (hy : y < 4294967296) (hf1 : fin32 x = true) (hf2 : fin32 y = true) (hm1 : 0 ≤ mode) (hm2 : mode ≤ 4) :
    Calls Tryz.prog 102 #[.float .f32 x, .float .f32 y, .int .i64 mode] w fun e w' => e = .returned (.tuple #[.float .f32 (adF x y mode), .int .i64 (adL x y mode)]) ∧ Below w.heap.size w w' := by
  have Hxy := Lib.hid (And.intro hx hy)
  have Hf := Lib.hid (And.intro hf1 hf2)
  have Hmo := Lib.hid (And.intro hm1 hm2)
  obtain ⟨e1, e2⟩ := fe_small hf1
  obtain ⟨e3, e4⟩ := fe_small hf2
  obtain ⟨w1, hw1⟩ : ∃ w1, w1 = w := ⟨_, rfl⟩
  have Bel1 : Hid (Below w.heap.size w w1) := Lib.hid (by rw [hw1]; exact Below.refl _ _)
  have Hw := Lib.hid hw1
  clear hx hy hf1 hf2 hm1 hm2 hw1
  go_enter Tryz.func102, Tryz.ntmps102
  go_wp2_with fail
  rw [← Hw.out]
  refine (specOfD_any x _ Hxy.out.1 Hf.out.1).mono ?_
  rintro e w2 ⟨S2, A2, n2, c2, rfl, hzo, hb⟩
  rw [show nx (ofM x) (ofP x) = fe x from rfl]
  have Zx2 : Hid (ZV w2 (fz x) S2 A2 n2 c2) := Lib.hid hzo.zv
  have Hnx : Hid ((n2 : Int) ≤ 1) := Lib.hid (fz_len Hf.out.1 hzo.zv.len)
  clear hzo
  have Sz2 := Lib.hid (Below.size hb)
  have Bel2 := Lib.hid (belNext Bel1.out hb)
  clear hb Bel1
  go_wp2_with fail
  refine (specOfD_any y _ Hxy.out.2 Hf.out.2).mono ?_
  rintro e w3 ⟨S3, A3, n3, c3, rfl, hzo, hb⟩
  rw [show nx (ofM y) (ofP y) = fe y from rfl]
  have Zy3 : Hid (ZV w3 (fz y) S3 A3 n3 c3) := Lib.hid hzo.zv
  have Hny : Hid ((n3 : Int) ≤ 1) := Lib.hid (fz_len Hf.out.2 hzo.zv.len)
  clear hzo
  have Sz3 := Lib.hid (Below.size hb)
  have Bel3 := Lib.hid (belNext Bel2.out hb)
  have Zx3 := Lib.hid (Zx2.out.next hb)
  clear hb Bel2 Zx2
  go_wp2_with fail
  refine (bitB_any x _ Hxy.out.1 Hf.out.1).mono ?_
  rintro e w9 ⟨rfl, rfl⟩
  go_wp2_with fail
  refine (bitB_any y _ Hxy.out.2 Hf.out.2).mono ?_
  rintro e w9 ⟨rfl, rfl⟩
  go_wp2_with fail
  refine (specSum_any (fz x) S2 (fe x) (fz y) S3 (fe y) mode A2 A3 n2 c2 n3 c3 (neg32 x) (neg32 y) _ Zx3.out Zy3.out (by have := Hnx.out; omega) (by have := Hny.out; omega) (by omega) (by omega) (by omega) (by omega) (by have h := sum_small (Nat.lt_of_lt_of_le (fz_small Hf.out.1) (by decide)) (Nat.lt_of_lt_of_le (fz_small Hf.out.2) (by decide)) (show fe x - fe y ≤ 450 by omega) (show fe y - fe x ≤ 450 by omega) rfl; omega) Hmo.out.1 Hmo.out.2).mono ?_
  rintro e w4 ⟨rfl, hb⟩
  rw [show sumZ (fz x) (fe x) (fz y) (fe y) = adZ x y from rfl, ad_eq, show xL (adZ x y) (min (fe x) (fe y)) mode = adL x y mode from rfl]
  have Sz4 := Lib.hid (Below.size hb)
  have Bel4 := Lib.hid (belNext Bel3.out hb)
  have Zx4 := Lib.hid (Zx3.out.next hb)
  have Zy4 := Lib.hid (Zy3.out.next hb)
  clear hb Bel3 Zx3 Zy3
  go_wp2_with fail
  go_ret2
  exact ⟨rfl, Bel4.out⟩

set_option maxHeartbeats 4000000 in
theorem specMulF_any (x y : Nat) (mode : Int) (w : World) (hx : x < 4294967296) (hy : y < 4294967296) (hf1 : fin32 x = true) (hf2 : fin32 y = true) (hm1 : 0 ≤ mode) (hm2 : mode ≤ 4) :
    Calls Tryz.prog 103 #[.float .f32 x, .float .f32 y, .int .i64 mode] w fun e w' => e = .returned (.tuple #[.float .f32 (muF x y mode), .int .i64 (muL x y mode)]) ∧ Below w.heap.size w w' := by
  have Hxy := Lib.hid (And.intro hx hy)
  have Hf := Lib.hid (And.intro hf1 hf2)
  have Hmo := Lib.hid (And.intro hm1 hm2)
  obtain ⟨e1, e2⟩ := fe_small hf1
  obtain ⟨e3, e4⟩ := fe_small hf2
  obtain ⟨w1, hw1⟩ : ∃ w1, w1 = w := ⟨_, rfl⟩
  have Bel1 : Hid (Below w.heap.size w w1) := Lib.hid (by rw [hw1]; exact Below.refl _ _)
  have Hw := Lib.hid hw1
  clear hx hy hf1 hf2 hm1 hm2 hw1
  have hst := store_int Tryz.prog
  have hst2 := store_slice Tryz.prog
  go_enter Tryz.func103, Tryz.ntmps103
  go_wp2_with fail
  rw [← Hw.out]
  refine (specOfD_any x _ Hxy.out.1 Hf.out.1).mono ?_
  rintro e w2 ⟨S2, A2, n2, c2, rfl, hzo, hb⟩
  rw [show nx (ofM x) (ofP x) = fe x from rfl]
  have Zx2 : Hid (ZV w2 (fz x) S2 A2 n2 c2) := Lib.hid hzo.zv
  have Hnx : Hid ((n2 : Int) ≤ 1) := Lib.hid (fz_len Hf.out.1 hzo.zv.len)
  clear hzo
  have Sz2 := Lib.hid (Below.size hb)
  have Bel2 := Lib.hid (belNext Bel1.out hb)
  clear hb Bel1
  go_wp2_with fail
  refine (specOfD_any y _ Hxy.out.2 Hf.out.2).mono ?_
  rintro e w3 ⟨S3, A3, n3, c3, rfl, hzo, hb⟩
  rw [show nx (ofM y) (ofP y) = fe y from rfl]
  have Zy3 : Hid (ZV w3 (fz y) S3 A3 n3 c3) := Lib.hid hzo.zv
  have Hny : Hid ((n3 : Int) ≤ 1) := Lib.hid (fz_len Hf.out.2 hzo.zv.len)
  clear hzo
  have Sz3 := Lib.hid (Below.size hb)
  have Bel3 := Lib.hid (belNext Bel2.out hb)
  have Zx3 := Lib.hid (Zx2.out.next hb)
  clear hb Bel2 Zx2
  go_wp2_with fail
  refine (specMulD_any (fz x) S2 (fe x) (fz y) S3 (fe y) A2 A3 n2 c2 n3 c3 _ Zx3.out Zy3.out (by have := Hnx.out; omega) (by have := Hny.out; omega) (by omega) (by omega) (by omega) (by omega)).mono ?_
  rintro e w4 ⟨Sr, Ar, nr, cr, rfl, hzo, hb⟩
  obtain ⟨P, hP⟩ : ∃ P, P = fz x * fz y := ⟨_, rfl⟩
  obtain ⟨q, hq⟩ : ∃ q, q = fe x + fe y := ⟨_, rfl⟩
  rw [← hP, ← hq]
  rw [← hP] at hzo
  obtain ⟨v, hv⟩ : ∃ v, v = nx P q := ⟨_, rfl⟩
  rw [← hv]
  have HP := Lib.hid hP
  have Hq := Lib.hid hq
  have Hv := Lib.hid hv
  have Zo4 : Hid (ZV w4 (nz P) Sr Ar nr cr) := Lib.hid hzo.zv
  have Hpl : Hid ((limbs P.natAbs).length ≤ 2) := Lib.hid (by have h := mul_small (fz_small Hf.out.1) (fz_small Hf.out.2) rfl; rw [← hP] at h; omega)
  have Hnr : Hid ((nr : Int) ≤ 2) := Lib.hid (by have h := hzo.zv.len; have h2 := limbs_len_mono (nz_le P); have h3 := Hpl.out; omega)
  have hv1 : -1000 ≤ v ∧ v ≤ 1000 := by
    rw [hv]
    by_cases h0 : P = 0
    · rw [h0, nx_zero]; omega
    · rw [nx_ne h0]; have h := tz_le (v := P.natAbs) rfl; have h3 := Hpl.out; omega
  obtain ⟨hv1, hv2⟩ := hv1
  clear hzo hP hq hv
  have Sz4 := Lib.hid (Below.size hb)
  have Bel4 := Lib.hid (belNext Bel3.out hb)
  have Zx4 := Lib.hid (Zx3.out.next hb)
  have Zy4 := Lib.hid (Zy3.out.next hb)
  clear hb Bel3 Zx3 Zy3
  go_upto_region 2 with fail
  obtain ⟨w5, hw5⟩ : ∃ w5, w5 = w4.alloc (.cells #[.int .i64 Sr, .slice Ar nr cr, .int .i64 v] 30) := ⟨_, rfl⟩
  rw [← hw5]
  obtain ⟨f, hf⟩ : ∃ f, f = w4.heap.size := ⟨_, rfl⟩
  have hb : Below w4.heap.size w4 w5 := by rw [hw5]; exact belAlloc1 _ _
  have Ba5 : Hid (DBox w5 f Sr Ar nr cr v) := Lib.hid (by rw [hw5, hf]; exact DBox.new _ _ _ _ _ _ _)
  rw [← hf]
  clear hw5 hf
  have Sz5 := Lib.hid (Below.size hb)
  have Bel5 := Lib.hid (belNext Bel4.out hb)
  have Zx5 := Lib.hid (Zx4.out.next hb)
  have Zy5 := Lib.hid (Zy4.out.next hb)
  have Zo5 := Lib.hid (Zo4.out.next hb)
  clear hb Bel4 Zx4 Zy4 Zo4
  obtain ⟨⟨hBa0, hBa1, hBa2⟩, hBa3⟩ := Ba5.out
  have HSr : Hid (Sr = (nz P).sign) := Lib.hid Zo5.out.1
  by_cases h0 : P = 0
  · have hsr : Sr = 0 := by rw [HSr.out, nz_eq_zero.2 h0]; rfl
    have Hres := Lib.hid (mu_eq (x := x) (y := y) mode (by rw [← HP.out]; exact h0))
    subst hsr
    clear h0
    go_wp2_with fail
    refine (bitB_any x _ Hxy.out.1 Hf.out.1).mono ?_
    rintro e w9 ⟨rfl, rfl⟩
    go_wp2_with fail
    refine (bitB_any y _ Hxy.out.2 Hf.out.2).mono ?_
    rintro e w9 ⟨rfl, rfl⟩
    go_wp2_with fail
    refine (zero_any (neg32 x != neg32 y) _).mono ?_
    rintro e w9 ⟨rfl, rfl⟩
    go_wp2_with fail
    go_ret2
    exact ⟨by rw [Hres.out.1, Hres.out.2]; rfl, Bel5.out⟩
  · have hsr2 : (Sr == 0) = false := beq_false_of_ne (by rw [HSr.out]; exact fun h => h0 (nz_eq_zero.1 (Int.sign_eq_zero_iff_zero.1 h)))
    have Hres := Lib.hid (mu_ne (x := x) (y := y) mode (by rw [← HP.out]; exact h0))
    have Hodd : Hid (nz P ≠ 0 → (nz P).natAbs % 2 = 1) := Lib.hid (fun _ => nz_odd h0)
    clear h0
    go_wp2_with fail
    refine (specRound_any (nz P) Sr v mode Ar nr cr _ Zo5.out Hodd.out (by have := Hnr.out; omega) (by omega) (by omega) Hmo.out.1 Hmo.out.2).mono ?_
    rintro e w6 ⟨rfl, hb⟩
    rw [Hv.out, (rd_norm P q mode).1, (rd_norm P q mode).2]
    have Sz6 := Lib.hid (Below.size hb)
    have Bel6 := Lib.hid (belNext Bel5.out hb)
    have Zx6 := Lib.hid (Zx5.out.next hb)
    have Zy6 := Lib.hid (Zy5.out.next hb)
    have Zo6 := Lib.hid (Zo5.out.next hb)
    have Ba6 := Lib.hid (Ba5.out.next hb)
    clear hb Bel5 Zx5 Zy5 Zo5 Ba5 hBa0 hBa1 hBa2 hBa3
    obtain ⟨⟨hBa0, hBa1, hBa2⟩, hBa3⟩ := Ba6.out
    go_wp2_with fail
    go_ret2
    exact ⟨by rw [Hres.out.1, Hres.out.2, ← HP.out, ← Hq.out]; rfl, Bel6.out⟩

end Go.Proofs.YtcjamfoiilgfoaaGreatDoor
/- IsExactSum, of the program and of the model; the words of results. -/
namespace Go.Proofs.YtcjamfoiilgfoaaGreatDoor
set_option maxRecDepth 100000
open Go.RowKit
set_option linter.unusedSimpArgs false
set_option linter.unusedVariables false
attribute [local go_sem ↓] Go.wp_at_zero Go.wp_at_succ

theorem xF_ok (z E g mode : Int) : xF z E g mode < 4294967296 ∧ nan32 (xF z E g mode) = false := by
  unfold xF
  split
  · unfold zF; split <;> decide
  · exact rdF_ok _ _ _
/-- what IsExactSum tells -/
def isE (x y : Nat) : Bool := if ckE [x, y] 0 = 0 then adL x y 0 == 0 else false
end Go.Proofs.YtcjamfoiilgfoaaGreatDoor
