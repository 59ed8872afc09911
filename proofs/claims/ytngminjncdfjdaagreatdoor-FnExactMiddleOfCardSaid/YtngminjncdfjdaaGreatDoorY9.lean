/- Texts of this seat, joined: Ko Kp Kq Kr Ks Kt -/
import Derived.Test.YtngminjncdfjdaaGreatDoorY8
import Derived.Test.YtngminjncdfjdaaGreatDoorY4
import Derived.Test.YtngminjncdfjdaaGreatDoorY6
/- Exact results of operations: boxes, floats, signs, zeros, of the program. -/
namespace Go.Proofs.YtngminjncdfjdaaGreatDoor
set_option maxRecDepth 100000
open Go.RowKit
set_option linter.unusedSimpArgs false
set_option linter.unusedVariables false
attribute [local go_sem ↓] Go.wp_at_zero Go.wp_at_succ

/-- an exact result's box -/
def XBox (w : World) (b : Nat) (S : Int) (A : Option Addr) (n c : Nat) (E g : Int) : Prop := (w.cell? ⟨b, 0, none⟩ = some (.int .i64 S) ∧ w.cell? ⟨b, 1, none⟩ = some (.slice A n c) ∧ w.cell? ⟨b, 2, none⟩ = some (.int .i64 E) ∧ w.cell? ⟨b, 3, none⟩ = some (.int .i64 g)) ∧ b < w.heap.size
/-- a result's box, yet untouched -/
def XRes (w : World) (b : Nat) : Prop := (w.cell? ⟨b, 0, none⟩ = some (.int .i64 0) ∧ w.cell? ⟨b, 1, none⟩ = some (.slice none 0 0) ∧ w.cell? ⟨b, 2, none⟩ = some (.int .i64 0) ∧ w.cell? ⟨b, 3, none⟩ = some (.int .i64 0) ∧ w.frozen? ⟨b, 0, none⟩ = false ∧ w.frozen? ⟨b, 1, none⟩ = false ∧ w.frozen? ⟨b, 2, none⟩ = false ∧ w.frozen? ⟨b, 3, none⟩ = false) ∧ b < w.heap.size
section
variable {w w' : World} {b n c : Nat} {S E g : Int} {A : Option Addr}
theorem XBox.next (x : XBox w b S A n c E g) (hb : Below w.heap.size w w') : XBox w' b S A n c E g :=
  ⟨⟨(hb.cell (p := ⟨b, 0, none⟩) x.2).trans x.1.1, (hb.cell (p := ⟨b, 1, none⟩) x.2).trans x.1.2.1, (hb.cell (p := ⟨b, 2, none⟩) x.2).trans x.1.2.2.1, (hb.cell (p := ⟨b, 3, none⟩) x.2).trans x.1.2.2.2⟩, Nat.lt_of_lt_of_le x.2 hb.size⟩
theorem XRes.next (x : XRes w b) (hb : Below w.heap.size w w') : XRes w' b :=
  ⟨⟨(hb.cell (p := ⟨b, 0, none⟩) x.2).trans x.1.1, (hb.cell (p := ⟨b, 1, none⟩) x.2).trans x.1.2.1, (hb.cell (p := ⟨b, 2, none⟩) x.2).trans x.1.2.2.1, (hb.cell (p := ⟨b, 3, none⟩) x.2).trans x.1.2.2.2.1, (hb.frozen (p := ⟨b, 0, none⟩) x.2).trans x.1.2.2.2.2.1, (hb.frozen (p := ⟨b, 1, none⟩) x.2).trans x.1.2.2.2.2.2.1, (hb.frozen (p := ⟨b, 2, none⟩) x.2).trans x.1.2.2.2.2.2.2.1, (hb.frozen (p := ⟨b, 3, none⟩) x.2).trans x.1.2.2.2.2.2.2.2⟩, Nat.lt_of_lt_of_le x.2 hb.size⟩
theorem XBox.drew (x : XBox w b S A n c E g) : XBox w.drew b S A n c E g := x
theorem XRes.drew (x : XRes w b) : XRes w.drew b := x
theorem XBox.keep (x : XBox w b S A n c E g) {q : Addr} (hq : q.block ≠ b) (u : Value) : XBox (w.setCell q u) b S A n c E g := by
  have hk : ∀ o, (w.setCell q u).cell? ⟨b, o, none⟩ = w.cell? ⟨b, o, none⟩ := fun o => World.cell?_of_block (a := ⟨b, o, none⟩) (Below.heap_setCell _ _ _ _ (fun e => hq e.symm))
  exact ⟨⟨(hk 0).trans x.1.1, (hk 1).trans x.1.2.1, (hk 2).trans x.1.2.2.1, (hk 3).trans x.1.2.2.2⟩, by have := x.2; simpa using this⟩
theorem XBox.new (w : World) (S : Int) (A : Option Addr) (n c : Nat) (E g : Int) (T : TypeId) : XBox (w.alloc (.cells #[.int .i64 S, .slice A n c, .int .i64 E, .int .i64 g] T)) w.heap.size S A n c E g := by
  refine ⟨⟨?_, ?_, ?_, ?_⟩, ?_⟩
  · go_simp
  · go_simp
  · go_simp
  · go_simp
  · simp
theorem XRes.new (w : World) (T : TypeId) : XRes (w.alloc (.cells #[.int .i64 0, .slice none 0 0, .int .i64 0, .int .i64 0] T)) w.heap.size := by
  refine ⟨⟨?_, ?_, ?_, ?_, ?_, ?_, ?_, ?_⟩, ?_⟩
  · go_simp
  · go_simp
  · go_simp
  · go_simp
  · go_simp
  · go_simp
  · go_simp
  · go_simp
  · simp
end
theorem xbox2_res (w : World) (S S' : Int) (A A' : Option Addr) (n n' c c' : Nat) (E E' g g' : Int) (t : TypeId) : ∃ W, W = ((w.alloc (.cells #[.int .i64 S, .slice A n c, .int .i64 E, .int .i64 g] t)).alloc (.cells #[.int .i64 S', .slice A' n' c', .int .i64 E', .int .i64 g'] t)).alloc (.cells #[.int .i64 0, .slice none 0 0, .int .i64 0, .int .i64 0] t) ∧ XBox W w.heap.size S A n c E g ∧ XBox W (w.heap.size + 1) S' A' n' c' E' g' ∧ XRes W (w.heap.size + 1 + 1) ∧ Below w.heap.size w W := by
  obtain ⟨u1, h1⟩ : ∃ u1, u1 = w.alloc (.cells #[.int .i64 S, .slice A n c, .int .i64 E, .int .i64 g] t) := ⟨_, rfl⟩
  obtain ⟨u2, h2⟩ : ∃ u2, u2 = u1.alloc (.cells #[.int .i64 S', .slice A' n' c', .int .i64 E', .int .i64 g'] t) := ⟨_, rfl⟩
  obtain ⟨u3, h3⟩ : ∃ u3, u3 = u2.alloc (.cells #[.int .i64 0, .slice none 0 0, .int .i64 0, .int .i64 0] t) := ⟨_, rfl⟩
  have b1 : Below w.heap.size w u1 := by rw [h1]; exact belAlloc1 _ _
  have b2 : Below u1.heap.size u1 u2 := by rw [h2]; exact belAlloc1 _ _
  have b3 : Below u2.heap.size u2 u3 := by rw [h3]; exact belAlloc1 _ _
  have s1 : u1.heap.size = w.heap.size + 1 := by rw [h1]; simp
  have s2 : u2.heap.size = w.heap.size + 1 + 1 := by rw [h2]; simp [s1]
  have x1 : XBox u1 w.heap.size S A n c E g := by rw [h1]; exact XBox.new _ _ _ _ _ _ _ _
  have x2 : XBox u2 (w.heap.size + 1) S' A' n' c' E' g' := by rw [← s1, h2]; exact XBox.new _ _ _ _ _ _ _ _
  have x3 : XRes u3 (w.heap.size + 1 + 1) := by rw [← s2, h3]; exact XRes.new _ _
  exact ⟨u3, by rw [h3, h2, h1], (x1.next b2).next b3, x2.next b3, x3, belNext (belNext b1 b2) b3⟩
/-- the sign bit -/
def sgn (b : Nat) : Int := if neg32 b = true then -1 else 1
theorem wrap_neg {r : Nat} (h : r < 9223372036854775808) : IntKind.i64.wrap (((9223372036854775808 + r : Nat)) : Int) = (r : Int) - 9223372036854775808 := by
  rw [IntKind.wrap_i64]; omega
theorem signOf_any (s : Bool) (m : Nat) (q : Int) (w : World) : Calls Tryz.prog 54 #[.float .f64 (d64 s m q)] w fun e w' => e = .returned (.int .i64 (if s = true then -1 else 1)) ∧ w = w' := by
  obtain ⟨r, h1, h2, h3⟩ := near64_words m q
  have hsb : ∀ w, Calls Tryz.prog 73 #[.float .f64 (d64 s m q)] w fun e w' => e = .returned (.bool s) ∧ w = w' := by
    intro w
    cases s
    · rw [h2]
      have hx := run_fbits64 r
      have hw : IntKind.i64.wrap (r : Int) = r := IntWalk.i64_in _ (by omega)
      have hd : decide ((r : Int) < 0) = false := decide_eq_false (by omega)
      have hr1 : (r : Int) ≤ 9223372036854775807 := by omega
      clear h1 h2 h3
      go_enter Tryz.func73, Tryz.ntmps73
      go_wp2_with fail
      go_ret
      exact ⟨rfl, rfl⟩
    · rw [h3]
      have hx := run_fbits64 (9223372036854775808 + r)
      have hw := wrap_neg h1
      have hd : decide ((r : Int) - 9223372036854775808 < 0) = true := decide_eq_true (by omega)
      have hr1 : (r : Int) ≤ 9223372036854775807 := by omega
      obtain ⟨X, hX⟩ : ∃ X, X = 9223372036854775808 + r := ⟨_, rfl⟩
      rw [← hX] at hx hw ⊢
      clear h1 h2 h3 hX
      go_enter Tryz.func73, Tryz.ntmps73
      go_wp2_with fail
      go_ret
      exact ⟨rfl, rfl⟩
  clear h1 h2 h3
  have Hsb := Lib.hid hsb
  clear hsb
  cases s
  · go_enter Tryz.func54, Tryz.ntmps54
    go_wp2_with fail
    refine (Hsb.out _).mono ?_
    rintro e w9 ⟨rfl, rfl⟩
    go_wp2_with fail
    go_ret
    exact ⟨rfl, rfl⟩
  · go_enter Tryz.func54, Tryz.ntmps54
    go_wp2_with fail
    refine (Hsb.out _).mono ?_
    rintro e w9 ⟨rfl, rfl⟩
    go_wp2_with fail
    go_ret
    exact ⟨rfl, rfl⟩
theorem signOfB_any (s : Bool) (m : Nat) (q : Int) (w : World) : Calls Tryz.prog 54 #[.float .f64 (d64 s m q)] w fun e w' => e = .returned (.int .i64 (if s = true then -1 else 1)) ∧ Below w.heap.size w w' :=
  (signOf_any s m q w).mono fun _ _ h => same_below h

set_option maxHeartbeats 4000000 in
theorem exactOf_any (b : Nat) (w : World) (hb : b < 4294967296) (hf : fin32 b = true) (hT : TabZ w) :
    Calls Tryz.prog 55 #[.float .f32 b] w fun e w' => ∃ Sr Ar nr cr, e = .returned (.agg #[.int .i64 Sr, .slice Ar nr cr, .int .i64 (nx (ofM b) (ofP b)), .int .i64 (sgn b)]) ∧ ZO w' w.heap.size w'.heap.size (nz (ofM b)) Sr Ar nr cr ∧ Below w.heap.size w w' := by
  have hst := store_int Tryz.prog
  have hst2 := store_slice Tryz.prog
  obtain ⟨w1, hw1⟩ : ∃ w1, w1 = w.alloc (.cells #[.int .i64 0, .slice none 0 0, .int .i64 0, .int .i64 0] 50) := ⟨_, rfl⟩
  have RsX1 : Hid (XRes w1 w.heap.size) := Lib.hid (by rw [hw1]; exact XRes.new _ _)
  have Bel1 : Hid (Below w.heap.size w w1) := Lib.hid (by rw [hw1]; exact belAlloc1 _ _)
  have Hlt : Hid (w.heap.size < w1.heap.size) := Lib.hid RsX1.out.2
  have Tb1 := Lib.hid (hT.next Bel1.out)
  have Hw := Lib.hid hw1
  have Hb := Lib.hid hb
  have Hres := Lib.hid (of_yes2 hf)
  have hcv0 := conv_3264 b hb hf
  have hcv : ∀ w, (convert 22 34 (.float .f32 b)).run Tryz.prog w = .ok (.float .f64 (d64 (neg32 b) (mant (b % 2147483648)) (-149 + expo (b % 2147483648)))) w := fun w => run_convert_float_float w _ _ _ _ _ _ (by kernel_rfl) (by kernel_rfl) hcv0
  have Hcv := Lib.hid hcv
  clear hw1 hT hb hf hcv0 hcv
  go_enter Tryz.func55, Tryz.ntmps55
  go_wp2_with fail
  rw [← Hw.out]
  obtain ⟨⟨hRsX0, hRsX1, hRsX2, hRsX3, hRsX4, hRsX5, hRsX6, hRsX7⟩, hRsX8⟩ := RsX1.out
  refine (implOf_any b _ Hb.out Tb1.out).mono ?_
  rintro e w2 ⟨Sr, Ar, nr, cr, rfl, hzo, hb⟩
  rw [Hres.out.2.1, Hres.out.2.2]
  have Zo2 := Lib.hid (hzo.cast_ Hres.out.1)
  clear hzo
  have Sz2 := Lib.hid (Below.size hb)
  have Bel2 := Lib.hid (belNext Bel1.out hb)
  have RsX2 := Lib.hid (RsX1.out.next hb)
  clear hb Bel1 RsX1 hRsX0 hRsX1 hRsX2 hRsX3 hRsX4 hRsX5 hRsX6 hRsX7 hRsX8
  obtain ⟨⟨hRsX0, hRsX1, hRsX2, hRsX3, hRsX4, hRsX5, hRsX6, hRsX7⟩, hRsX8⟩ := RsX2.out
  go_upto_region 2 with fail
  obtain ⟨q, hq⟩ : ∃ q, q = nx (ofM b) (ofP b) := ⟨_, rfl⟩
  rw [← hq]
  obtain ⟨w3, hw3⟩ : ∃ w3, w3 = w2.alloc (.cells #[.int .i64 Sr, .slice Ar nr cr, .int .i64 q] 48) := ⟨_, rfl⟩
  rw [← hw3]
  have Hq := Lib.hid hq
  obtain ⟨f, hf⟩ : ∃ f, f = w2.heap.size := ⟨_, rfl⟩
  have hb : Below w2.heap.size w2 w3 := by rw [hw3]; exact belAlloc1 _ _
  have Ba3 : Hid (DBox w3 f Sr Ar nr cr q) := Lib.hid (by rw [hw3, hf]; exact DBox.new _ _ _ _ _ _ _)
  have Hf : Hid (w2.heap.size ≤ f) := Lib.hid (by omega)
  rw [← hf]
  clear hw3 hf hq
  have Sz3 := Lib.hid (Below.size hb)
  have Bel3 := Lib.hid (belNext Bel2.out hb)
  have RsX3 := Lib.hid (RsX2.out.next hb)
  have Zo3 := Lib.hid (Zo2.out.next hb)
  clear hb Bel2 RsX2 Zo2 hRsX0 hRsX1 hRsX2 hRsX3 hRsX4 hRsX5 hRsX6 hRsX7 hRsX8
  obtain ⟨⟨hBa0, hBa1, hBa2⟩, hBa3⟩ := Ba3.out
  obtain ⟨⟨hRsX0, hRsX1, hRsX2, hRsX3, hRsX4, hRsX5, hRsX6, hRsX7⟩, hRsX8⟩ := RsX3.out
  have hcv := Hcv.out
  refine wp_region_held_drew (S := fun w' => (w'.cell? ⟨f, 0, none⟩ = some (.int .i64 Sr) ∧ w'.cell? ⟨f, 1, none⟩ = some (.slice Ar nr cr) ∧ w'.cell? ⟨f, 2, none⟩ = some (.int .i64 q))) (by kernel_rfl) Ba3.out.1 (fun hHeld => ?_)
  clear hBa0 hBa1 hBa2 hBa3 hRsX0 hRsX1 hRsX2 hRsX3 hRsX4 hRsX5 hRsX6 hRsX7 hRsX8
  refine wpAnyH_take (i := 0) (v := ?_) rfl (by kernel_rfl) (by kernel_rfl) (by kernel_rfl) (fun _ _ _ h => h) (Or.inl ⟨by rfl, ?_⟩) (by assumption) ?_
  rotate_left
  · (intro w hSw; (try dsimp only at hSw); go_simp; (try with_reducible rfl))
  try simp only [Act.put, List.setIfInBounds_toArray, List.set_cons_zero, List.set_cons_succ, List.getElem_toArray, List.getElem_cons_succ, List.getElem_cons_zero]
  refine wpAnyH_take (i := 1) (v := ?_) rfl (by kernel_rfl) (by kernel_rfl) (by kernel_rfl) (fun _ _ _ h => h) (Or.inl ⟨by rfl, ?_⟩) (by assumption) ?_
  rotate_left
  · (intro w hSw; (try dsimp only at hSw); go_simp; (try with_reducible rfl))
  try simp only [Act.put, List.setIfInBounds_toArray, List.set_cons_zero, List.set_cons_succ, List.getElem_toArray, List.getElem_cons_succ, List.getElem_cons_zero]
  refine wpAnyH_take (i := 2) (v := ?_) rfl (by kernel_rfl) (by kernel_rfl) (by kernel_rfl) (fun _ _ _ h => h) (Or.inl ⟨by rfl, ?_⟩) (by assumption) ?_
  rotate_left
  · (intro w hSw; (try dsimp only at hSw); go_simp; (try with_reducible rfl))
  try simp only [Act.put, List.setIfInBounds_toArray, List.set_cons_zero, List.set_cons_succ, List.getElem_toArray, List.getElem_cons_succ, List.getElem_cons_zero]
  refine wpAnyH_ready (rs := [3]) (by kernel_rfl) (by simp) ?_
  refine AllReadyH.cons rfl (fun K hK => ?_) AllReadyH.nil
  go_simp
  refine (signOfB_any (neg32 b) (mant (b % 2147483648)) (-149 + expo (b % 2147483648)) w3.drew).mono ?_
  rintro e w4 ⟨rfl, hb0⟩
  have hb : Below w3.heap.size w3 w4 := belDrew hb0
  obtain ⟨g, hg⟩ : ∃ g : Int, g = if neg32 b = true then -1 else 1 := ⟨_, rfl⟩
  rw [← hg]
  have Hg : Hid (g = sgn b) := Lib.hid hg
  clear hg
  refine hK.out _ _ ((Ba3.out.next hb).1) (fun hHeld => ?_)
  clear hK K hb0
  have Sz4 := Lib.hid (Below.size hb)
  have Bel4 := Lib.hid (belNext Bel3.out hb)
  have RsX4 := Lib.hid (RsX3.out.next hb)
  have Zo4 := Lib.hid (Zo3.out.next hb)
  have Ba4 := Lib.hid (Ba3.out.next hb)
  clear hb Bel3 RsX3 Zo3 Ba3
  try simp only [Act.put, List.setIfInBounds_toArray, List.set_cons_zero, List.set_cons_succ, List.getElem_toArray, List.getElem_cons_succ, List.getElem_cons_zero]
  refine wpAnyH_take (i := 4) (v := ?_) rfl (by kernel_rfl) (by kernel_rfl) (by kernel_rfl) (fun _ _ _ h => h) (Or.inl ⟨by rfl, ?_⟩) (by assumption) ?_
  rotate_left
  · (intro w hSw; (try dsimp only at hSw); go_simp; (try with_reducible rfl))
  try simp only [Act.put, List.setIfInBounds_toArray, List.set_cons_zero, List.set_cons_succ, List.getElem_toArray, List.getElem_cons_succ, List.getElem_cons_zero]
  clear hcv
  obtain ⟨⟨hRsX0, hRsX1, hRsX2, hRsX3, hRsX4, hRsX5, hRsX6, hRsX7⟩, hRsX8⟩ := RsX4.out
  refine wpAnyH_ready (rs := [5]) (by kernel_rfl) (by simp) ?_
  refine AllReadyH.cons rfl (fun K hK => ?_) AllReadyH.nil
  go_simp
  refine hK.out _ _ (((((Ba4.out.keep (by have zz0 := Hlt.out; have zz1 := Sz2.out; have zz2 := Sz3.out; have zz3 := Hf.out; have zz4 := Sz4.out; first | omega | (simp; done) | (simp; omega)) _).keep (by have zz0 := Hlt.out; have zz1 := Sz2.out; have zz2 := Sz3.out; have zz3 := Hf.out; have zz4 := Sz4.out; first | omega | (simp; done) | (simp; omega)) _).keep (by have zz0 := Hlt.out; have zz1 := Sz2.out; have zz2 := Sz3.out; have zz3 := Hf.out; have zz4 := Sz4.out; first | omega | (simp; done) | (simp; omega)) _).keep (by have zz0 := Hlt.out; have zz1 := Sz2.out; have zz2 := Sz3.out; have zz3 := Hf.out; have zz4 := Sz4.out; first | omega | (simp; done) | (simp; omega)) _).1) (fun hHeld => ?_)
  clear hK K hHeld
  try simp only [Act.put, List.setIfInBounds_toArray, List.set_cons_zero, List.set_cons_succ, List.getElem_toArray, List.getElem_cons_succ, List.getElem_cons_zero]
  refine wpAnyH_done (by kernel_rfl) ?_ _
  go_wp2_with fail
  refine bodyPost_ret (v := .agg #[.int .i64 Sr, .slice Ar nr cr, .int .i64 q, .int .i64 g]) (by simp [results, Tryz.results55, go_sem, hRsX0, hRsX1, hRsX2, hRsX3]) rfl ⟨Sr, Ar, nr, cr, by rw [Hq.out, Hg.out], ?_, ?_⟩
  · exact ((((Zo4.out.setCell (.inl (by have zz0 := Hlt.out; have zz1 := Sz2.out; have zz2 := Sz3.out; have zz3 := Hf.out; have zz4 := Sz4.out; first | omega | (simp; done) | (simp; omega))) _).setCell (.inl (by have zz0 := Hlt.out; have zz1 := Sz2.out; have zz2 := Sz3.out; have zz3 := Hf.out; have zz4 := Sz4.out; first | omega | (simp; done) | (simp; omega))) _).setCell (.inl (by have zz0 := Hlt.out; have zz1 := Sz2.out; have zz2 := Sz3.out; have zz3 := Hf.out; have zz4 := Sz4.out; first | omega | (simp; done) | (simp; omega))) _).setCell (.inl (by have zz0 := Hlt.out; have zz1 := Sz2.out; have zz2 := Sz3.out; have zz3 := Hf.out; have zz4 := Sz4.out; first | omega | (simp; done) | (simp; omega))) _).wide (by have zz0 := Hlt.out; have zz1 := Sz2.out; have zz2 := Sz3.out; have zz3 := Hf.out; have zz4 := Sz4.out; first | omega | (simp; done) | (simp; omega)) (by have zz0 := Hlt.out; have zz1 := Sz2.out; have zz2 := Sz3.out; have zz3 := Hf.out; have zz4 := Sz4.out; first | omega | (simp; done) | (simp; omega)) (Nat.le_refl _)
  · repeat (first | exact Bel4.out | refine Below.drew ?_ | refine Below.setCell ?_ (by have zz0 := Hlt.out; have zz1 := Sz2.out; have zz2 := Sz3.out; have zz3 := Hf.out; have zz4 := Sz4.out; first | omega | (simp; done) | (simp; omega)) _)

end Go.Proofs.YtngminjncdfjdaaGreatDoor
/- Zeros, sums, differences, products, rounding of exact results, of the program. -/
namespace Go.Proofs.YtngminjncdfjdaaGreatDoor
set_option maxRecDepth 100000
open Go.RowKit
set_option linter.unusedSimpArgs false
set_option linter.unusedVariables false
attribute [local go_sem ↓] Go.wp_at_zero Go.wp_at_succ

/-- the sign of a sum that is 0 -/
def sgS (g h : Int) : Int := if g = h then g else 0
theorem XBox.sign {w : World} {b n c : Nat} {S E g : Int} {A : Option Addr} (x : XBox w b S A n c E g) (h : Int) : XBox (w.setCell ⟨b, 3, none⟩ (.int .i64 h)) b S A n c E h := by
  obtain ⟨⟨x0, x1, x2, x3⟩, x4⟩ := x
  refine ⟨⟨?_, ?_, ?_, ?_⟩, by simp; exact x4⟩
  · go_simp
  · go_simp
  · go_simp
  · go_simp
theorem XRes.keep {w : World} {b : Nat} (x : XRes w b) {q : Addr} (hq : q.block ≠ b) (u : Value) : XRes (w.setCell q u) b := by
  have hh := Below.heap_setCell w q u b (fun e => hq e.symm)
  have hk : ∀ o, (w.setCell q u).cell? ⟨b, o, none⟩ = w.cell? ⟨b, o, none⟩ := fun o => World.cell?_of_block (a := ⟨b, o, none⟩) hh
  have hf : ∀ o, (w.setCell q u).frozen? ⟨b, o, none⟩ = w.frozen? ⟨b, o, none⟩ := fun o => by unfold World.frozen?; rw [hh]
  exact ⟨⟨(hk 0).trans x.1.1, (hk 1).trans x.1.2.1, (hk 2).trans x.1.2.2.1, (hk 3).trans x.1.2.2.2.1, (hf 0).trans x.1.2.2.2.2.1, (hf 1).trans x.1.2.2.2.2.2.1, (hf 2).trans x.1.2.2.2.2.2.2.1, (hf 3).trans x.1.2.2.2.2.2.2.2⟩, by have := x.2; simpa using this⟩
/-- a zero result -/
def zF (g mode : Int) : Nat := if g < 0 ∨ (g = 0 ∧ mode = 1) then 2147483648 else 0
theorem copysign_m0 (w : World) : Calls Tryz.prog 100 #[.float .f64 0, .float .f64 13830554455654793216] w fun e w' => e = .returned (.float .f64 9223372036854775808) ∧ w = w' := by
  have h1 := run_fbits64 0
  have h2 := run_fbits64 13830554455654793216
  have h3 := run_ffrom64 9223372036854775808
  rw [show ((0 : Nat) : Int) = 0 from rfl] at h1
  rw [show ((13830554455654793216 : Nat) : Int) = 13830554455654793216 from rfl] at h2
  rw [show ((9223372036854775808 : Nat) : Int) = 9223372036854775808 from rfl] at h3
  have b1 : bits .andNot .u64 0 9223372036854775808 = 0 := by decide +kernel
  have b2 : bits .and .u64 13830554455654793216 9223372036854775808 = 9223372036854775808 := by decide +kernel
  have b3 : bits .or .u64 0 9223372036854775808 = 9223372036854775808 := by decide +kernel
  go_enter Tryz.func100, Tryz.ntmps100
  go_wp2_with fail
  go_ret
  exact ⟨rfl, rfl⟩
theorem conv_m0 : floatToFloatBits .f64 9223372036854775808 .f32 = some 2147483648 := by decide +kernel
set_option maxHeartbeats 1000000 in
theorem exZeroF_any (S E g mode : Int) (A : Option Addr) (n c : Nat) (w : World) :
    Calls Tryz.prog 76 #[.agg #[.int .i64 S, .slice A n c, .int .i64 E, .int .i64 g], .int .i64 mode] w fun e w' => e = .returned (.float .f32 (zF g mode)) ∧ Below w.heap.size w w' := by
  have hcv : ∀ w, (convert 34 22 (.float .f64 9223372036854775808)).run Tryz.prog w = .ok (.float .f32 2147483648) w := fun w => run_convert_float_float w _ _ _ _ _ _ (by kernel_rfl) (by kernel_rfl) conv_m0
  by_cases h1 : g < 0
  · have h2 : decide (g < 0) = true := decide_eq_true h1
    have Hz : Hid (zF g mode = 2147483648) := Lib.hid (by unfold zF; rw [if_pos (by omega)])
    go_enter Tryz.func76, Tryz.ntmps76
    go_wp2_with fail
    refine (copysign_m0 _).mono ?_
    rintro e w9 ⟨rfl, rfl⟩
    go_wp2_with fail
    go_ret
    exact ⟨by rw [Hz.out]; rfl, belAlloc1 _ _⟩
  · have h2 : decide (g < 0) = false := decide_eq_false h1
    by_cases h3 : g = 0
    · subst h3
      by_cases h5 : mode = 1
      · subst h5
        have Hz : Hid (zF 0 1 = 2147483648) := Lib.hid (by unfold zF; rw [if_pos (by omega)])
        go_enter Tryz.func76, Tryz.ntmps76
        go_wp2_with fail
        refine (copysign_m0 _).mono ?_
        rintro e w9 ⟨rfl, rfl⟩
        go_wp2_with fail
        go_ret
        exact ⟨by rw [Hz.out]; rfl, belAlloc1 _ _⟩
      · have h6 : (mode == 1) = false := beq_false_of_ne h5
        have Hz : Hid (zF 0 mode = 0) := Lib.hid (by unfold zF; rw [if_neg (by omega)])
        go_enter Tryz.func76, Tryz.ntmps76
        go_wp2_with fail
        go_ret
        exact ⟨by rw [Hz.out]; rfl, belAlloc1 _ _⟩
    · have h4 : (g == 0) = false := beq_false_of_ne h3
      have Hz : Hid (zF g mode = 0) := Lib.hid (by unfold zF; rw [if_neg (by omega)])
      go_enter Tryz.func76, Tryz.ntmps76
      go_wp2_with fail
      go_ret
      exact ⟨by rw [Hz.out]; rfl, belAlloc1 _ _⟩
/-- what a result is rounded to -/
def xF (z E g mode : Int) : Nat := if z = 0 then zF g mode else rdF z E mode
def xL (z E mode : Int) : Int := if z = 0 then 0 else rdL z E mode
set_option maxHeartbeats 2000000 in
theorem exRounded_any (z S E g mode : Int) (A : Option Addr) (n c : Nat) (w : World) (hz : ZV w z S A n c) (hm : (n : Int) ≤ 200) (hE1 : -15000 ≤ E) (hE2 : E ≤ 15000) (hm1 : 0 ≤ mode) (hm2 : mode ≤ 4) (hT : TabZ w) :
    Calls Tryz.prog 57 #[.agg #[.int .i64 S, .slice A n c, .int .i64 E, .int .i64 g], .int .i64 mode] w fun e w' => e = .returned (.tuple #[.float .f32 (xF z E g mode), .int .i64 (xL z E mode)]) ∧ Below w.heap.size w w' := by
  obtain ⟨w1, hw1⟩ : ∃ w1, w1 = w.alloc (.cells #[.int .i64 S, .slice A n c, .int .i64 E, .int .i64 g] 50) := ⟨_, rfl⟩
  have Bx1 : Hid (XBox w1 w.heap.size S A n c E g) := Lib.hid (by rw [hw1]; exact XBox.new _ _ _ _ _ _ _ _)
  have Bel1 : Hid (Below w.heap.size w w1) := Lib.hid (by rw [hw1]; exact belAlloc1 _ _)
  have Zv1 := Lib.hid (hz.next Bel1.out)
  have Tb1 := Lib.hid (hT.next Bel1.out)
  have Hw := Lib.hid hw1
  have HS : Hid (S = z.sign) := Lib.hid hz.1
  have Hm := Lib.hid hm
  have Hmo := Lib.hid (And.intro hm1 hm2)
  clear hz hw1 hm hm1 hm2 hT
  by_cases h0 : z = 0
  · have hS : S = 0 := by rw [HS.out, h0]; rfl
    have Hres : Hid (xF z E g mode = zF g mode ∧ xL z E mode = 0) := Lib.hid ⟨if_pos h0, if_pos h0⟩
    subst hS
    clear h0
    go_enter Tryz.func57, Tryz.ntmps57
    go_wp2_with fail
    rw [← Hw.out]
    obtain ⟨⟨hBx0, hBx1, hBx2, hBx3⟩, hBx4⟩ := Bx1.out
    go_wp2_with fail
    refine (exZeroF_any 0 E g mode A n c _).mono ?_
    rintro e w2 ⟨rfl, hb⟩
    have Sz2 := Lib.hid (Below.size hb)
    have Bel2 := Lib.hid (belNext Bel1.out hb)
    have Bx2 := Lib.hid (Bx1.out.next hb)
    have Zv2 := Lib.hid (Zv1.out.next hb)
    have Tb2 := Lib.hid (Tb1.out.next hb)
    clear hb Bel1 Bx1 Zv1 Tb1 hBx0 hBx1 hBx2 hBx3 hBx4
    obtain ⟨⟨hBx0, hBx1, hBx2, hBx3⟩, hBx4⟩ := Bx2.out
    go_wp2_with fail
    go_ret2
    exact ⟨by rw [Hres.out.1, Hres.out.2]; rfl, Bel2.out⟩
  · have hS : (S == 0) = false := beq_false_of_ne (by rw [HS.out]; exact fun h => h0 (Int.sign_eq_zero_iff_zero.1 h))
    have hS2 : S ≠ 0 := by rw [HS.out]; exact fun h => h0 (Int.sign_eq_zero_iff_zero.1 h)
    have Hres : Hid (xF z E g mode = rdF z E mode ∧ xL z E mode = rdL z E mode) := Lib.hid ⟨if_neg h0, if_neg h0⟩
    have H0 := Lib.hid h0
    clear h0
    go_enter Tryz.func57, Tryz.ntmps57
    go_wp2_with fail
    rw [← Hw.out]
    obtain ⟨⟨hBx0, hBx1, hBx2, hBx3⟩, hBx4⟩ := Bx1.out
    go_wp2_with fail
    refine (implRound_nz z S E mode A n c _ Zv1.out H0.out Hm.out hE1 hE2 Hmo.out.1 Hmo.out.2 Tb1.out).mono ?_
    rintro e w2 ⟨rfl, hb⟩
    have Sz2 := Lib.hid (Below.size hb)
    have Bel2 := Lib.hid (belNext Bel1.out hb)
    have Bx2 := Lib.hid (Bx1.out.next hb)
    have Zv2 := Lib.hid (Zv1.out.next hb)
    have Tb2 := Lib.hid (Tb1.out.next hb)
    clear hb Bel1 Bx1 Zv1 Tb1 hBx0 hBx1 hBx2 hBx3 hBx4
    obtain ⟨⟨hBx0, hBx1, hBx2, hBx3⟩, hBx4⟩ := Bx2.out
    go_wp2_with fail
    go_ret2
    exact ⟨by rw [Hres.out.1, Hres.out.2]; rfl, Bel2.out⟩

set_option maxHeartbeats 4000000 in
theorem exPlus_any (z S E g z' S' E' g' : Int) (A A' : Option Addr) (n c n' c' : Nat) (w : World) (hz : ZV w z S A n c) (hz' : ZV w z' S' A' n' c') (hm : (n : Int) ≤ 4000) (hm' : (n' : Int) ≤ 4000) (h1 : -10000 ≤ E) (h2 : E ≤ 10000) (h3 : -10000 ≤ E') (h4 : E' ≤ 10000) (hT : TabZ w) :
    Calls Tryz.prog 56 #[.agg #[.int .i64 S, .slice A n c, .int .i64 E, .int .i64 g], .agg #[.int .i64 S', .slice A' n' c', .int .i64 E', .int .i64 g']] w fun e w' => ∃ Sr Ar nr cr, e = .returned (.agg #[.int .i64 Sr, .slice Ar nr cr, .int .i64 (min E E'), .int .i64 (sgS g g')]) ∧ ZO w' w.heap.size w'.heap.size (sumZ z E z' E') Sr Ar nr cr ∧ Below w.heap.size w w' := by
  have hst := store_int Tryz.prog
  have hst2 := store_slice Tryz.prog
  obtain ⟨w1, hw1, hb1, hb2, hb3, hb4⟩ := xbox2_res w S S' A A' n n' c c' E E' g g' 50
  have RsX1 := Lib.hid hb3
  have Hlt : Hid (w.heap.size + 1 + 1 < w1.heap.size) := Lib.hid hb3.2
  have Zv1 := Lib.hid (hz.next hb4)
  have Zw1 := Lib.hid (hz'.next hb4)
  have Hw := Lib.hid hw1
  have Bx1 := Lib.hid hb1
  have By1 := Lib.hid hb2
  have Bel1 := Lib.hid hb4
  have Hm := Lib.hid (And.intro hm hm')
  have Tb1 := Lib.hid (hT.next hb4)
  clear hT
  clear hz hz' hw1 hb1 hb2 hb3 hb4
  go_enter Tryz.func56, Tryz.ntmps56
  go_wp2_with fail
  rw [← Hw.out]
  obtain ⟨⟨hBx0, hBx1, hBx2, hBx3⟩, hBx4⟩ := Bx1.out
  obtain ⟨⟨hBy0, hBy1, hBy2, hBy3⟩, hBy4⟩ := By1.out
  obtain ⟨⟨hRsX0, hRsX1, hRsX2, hRsX3, hRsX4, hRsX5, hRsX6, hRsX7⟩, hRsX8⟩ := RsX1.out
  go_wp2_with fail
  refine (implPlusD_any z S E z' S' E' A A' n c n' c' _ Zv1.out Zw1.out Hm.out.1 Hm.out.2 h1 h2 h3 h4 Tb1.out).mono ?_
  rintro e w2 ⟨Sr, Ar, nr, cr, rfl, hzo, hb⟩
  obtain ⟨q, hq⟩ : ∃ q, q = min E E' := ⟨_, rfl⟩
  rw [← hq]
  have Hq := Lib.hid hq
  have Zo2 := Lib.hid hzo
  clear hzo hq
  have Sz2 := Lib.hid (Below.size hb)
  have Bel2 := Lib.hid (belNext Bel1.out hb)
  have Bx2 := Lib.hid (Bx1.out.next hb)
  have By2 := Lib.hid (By1.out.next hb)
  have RsX2 := Lib.hid (RsX1.out.next hb)
  have Zv2 := Lib.hid (Zv1.out.next hb)
  have Zw2 := Lib.hid (Zw1.out.next hb)
  have Tb2 := Lib.hid (Tb1.out.next hb)
  clear hb Bel1 Bx1 By1 RsX1 Zv1 Zw1 Tb1 hBx0 hBx1 hBx2 hBx3 hBx4 hBy0 hBy1 hBy2 hBy3 hBy4 hRsX0 hRsX1 hRsX2 hRsX3 hRsX4 hRsX5 hRsX6 hRsX7 hRsX8
  obtain ⟨⟨hBx0, hBx1, hBx2, hBx3⟩, hBx4⟩ := Bx2.out
  obtain ⟨⟨hBy0, hBy1, hBy2, hBy3⟩, hBy4⟩ := By2.out
  obtain ⟨⟨hRsX0, hRsX1, hRsX2, hRsX3, hRsX4, hRsX5, hRsX6, hRsX7⟩, hRsX8⟩ := RsX2.out
  go_upto_region 2 with fail
  obtain ⟨w3, hw3⟩ : ∃ w3, w3 = w2.alloc (.cells #[.int .i64 Sr, .slice Ar nr cr, .int .i64 q, .int .i64 0] 50) := ⟨_, rfl⟩
  rw [← hw3]
  obtain ⟨f, hf⟩ : ∃ f, f = w2.heap.size := ⟨_, rfl⟩
  have hb : Below w2.heap.size w2 w3 := by rw [hw3]; exact belAlloc1 _ _
  have Ba3 : Hid (XBox w3 f Sr Ar nr cr q 0) := Lib.hid (by rw [hw3, hf]; exact XBox.new _ _ _ _ _ _ _ _)
  have hfz : w3.frozen? ⟨f, 3, none⟩ = false := by rw [hw3, hf]; go_simp
  have Hf : Hid (w2.heap.size ≤ f) := Lib.hid (by omega)
  rw [← hf]
  clear hw3 hf
  have Sz3 := Lib.hid (Below.size hb)
  have Bel3 := Lib.hid (belNext Bel2.out hb)
  have Bx3 := Lib.hid (Bx2.out.next hb)
  have By3 := Lib.hid (By2.out.next hb)
  have RsX3 := Lib.hid (RsX2.out.next hb)
  have Zv3 := Lib.hid (Zv2.out.next hb)
  have Zw3 := Lib.hid (Zw2.out.next hb)
  have Tb3 := Lib.hid (Tb2.out.next hb)
  have Zo3 := Lib.hid (Zo2.out.next hb)
  clear hb Bel2 Bx2 By2 RsX2 Zv2 Zw2 Tb2 Zo2 hBx0 hBx1 hBx2 hBx3 hBx4 hBy0 hBy1 hBy2 hBy3 hBy4 hRsX0 hRsX1 hRsX2 hRsX3 hRsX4 hRsX5 hRsX6 hRsX7 hRsX8
  obtain ⟨⟨hBx0, hBx1, hBx2, hBx3⟩, hBx4⟩ := Bx3.out
  obtain ⟨⟨hBy0, hBy1, hBy2, hBy3⟩, hBy4⟩ := By3.out
  obtain ⟨⟨hBa0, hBa1, hBa2, hBa3⟩, hBa4⟩ := Ba3.out
  obtain ⟨⟨hRsX0, hRsX1, hRsX2, hRsX3, hRsX4, hRsX5, hRsX6, hRsX7⟩, hRsX8⟩ := RsX3.out
  by_cases hg : g = g'
  · subst hg
    have Hg : Hid (sgS g g = g) := Lib.hid (if_pos rfl)
    go_upto_region 4 with fail
    obtain ⟨w4, hw4⟩ : ∃ w4, w4 = w3.setCell ⟨f, 3, none⟩ (.int .i64 g) := ⟨_, rfl⟩
    rw [← hw4]
    clear hBx0 hBx1 hBx2 hBx3 hBx4 hBy0 hBy1 hBy2 hBy3 hBy4 hBa0 hBa1 hBa2 hBa3 hBa4 hRsX0 hRsX1 hRsX2 hRsX3 hRsX4 hRsX5 hRsX6 hRsX7 hRsX8
    have Ba4 : Hid (XBox w4 f Sr Ar nr cr q g) := Lib.hid (by rw [hw4]; exact Ba3.out.sign g)
    have RsX4 : Hid (XRes w4 (w.heap.size + 1 + 1)) := Lib.hid (by rw [hw4]; exact RsX3.out.keep (by have zz0 := Hlt.out; have zz1 := Sz2.out; have zz2 := Sz3.out; have zz3 := Hf.out; first | omega | (simp; done) | (simp; omega)) _)
    have Zo4 : Hid (ZO w4 w1.heap.size w2.heap.size (sumZ z E z' E') Sr Ar nr cr) := Lib.hid (by rw [hw4]; exact Zo3.out.setCell (.inr (by have zz0 := Hlt.out; have zz1 := Sz2.out; have zz2 := Sz3.out; have zz3 := Hf.out; first | omega | (simp; done) | (simp; omega))) _)
    have Bel4 : Hid (Below w.heap.size w w4) := Lib.hid (by rw [hw4]; exact Bel3.out.setCell (by have zz0 := Hlt.out; have zz1 := Sz2.out; have zz2 := Sz3.out; have zz3 := Hf.out; first | omega | (simp; done) | (simp; omega)) _)
    have Sz4 : Hid (w3.heap.size ≤ w4.heap.size) := Lib.hid (by rw [hw4]; simp)
    clear hw4 hfz Ba3 RsX3 Zo3 Bel3
    obtain ⟨⟨hBa0, hBa1, hBa2, hBa3⟩, hBa4⟩ := Ba4.out
    obtain ⟨⟨hRsX0, hRsX1, hRsX2, hRsX3, hRsX4, hRsX5, hRsX6, hRsX7⟩, hRsX8⟩ := RsX4.out
    go_wp2_with fail
    refine bodyPost_ret (v := .agg #[.int .i64 Sr, .slice Ar nr cr, .int .i64 q, .int .i64 g]) (by simp [results, Tryz.results56, go_sem, hRsX0, hRsX1, hRsX2, hRsX3]) rfl ⟨Sr, Ar, nr, cr, by rw [Hq.out, Hg.out], ?_, ?_⟩
    · exact ((((Zo4.out.setCell (.inl (by have zz0 := Hlt.out; have zz1 := Sz2.out; have zz2 := Sz3.out; have zz3 := Hf.out; have zz4 := Sz4.out; first | omega | (simp; done) | (simp; omega))) _).setCell (.inl (by have zz0 := Hlt.out; have zz1 := Sz2.out; have zz2 := Sz3.out; have zz3 := Hf.out; have zz4 := Sz4.out; first | omega | (simp; done) | (simp; omega))) _).setCell (.inl (by have zz0 := Hlt.out; have zz1 := Sz2.out; have zz2 := Sz3.out; have zz3 := Hf.out; have zz4 := Sz4.out; first | omega | (simp; done) | (simp; omega))) _).setCell (.inl (by have zz0 := Hlt.out; have zz1 := Sz2.out; have zz2 := Sz3.out; have zz3 := Hf.out; have zz4 := Sz4.out; first | omega | (simp; done) | (simp; omega))) _).wide (by have zz0 := Hlt.out; have zz1 := Sz2.out; have zz2 := Sz3.out; have zz3 := Hf.out; have zz4 := Sz4.out; first | omega | (simp; done) | (simp; omega)) (by have zz0 := Hlt.out; have zz1 := Sz2.out; have zz2 := Sz3.out; have zz3 := Hf.out; have zz4 := Sz4.out; first | omega | (simp; done) | (simp; omega)) (Nat.le_refl _)
    · repeat (first | exact Bel4.out | refine Below.drew ?_ | refine Below.setCell ?_ (by have zz0 := Hlt.out; have zz1 := Sz2.out; have zz2 := Sz3.out; have zz3 := Hf.out; have zz4 := Sz4.out; first | omega | (simp; done) | (simp; omega)) _)
  · have hgt : (g == g') = false := beq_false_of_ne hg
    have Hg : Hid (sgS g g' = 0) := Lib.hid (if_neg hg)
    clear hg
    go_wp2_with fail
    refine bodyPost_ret (v := .agg #[.int .i64 Sr, .slice Ar nr cr, .int .i64 q, .int .i64 0]) (by simp [results, Tryz.results56, go_sem, hRsX0, hRsX1, hRsX2, hRsX3]) rfl ⟨Sr, Ar, nr, cr, by rw [Hq.out, Hg.out], ?_, ?_⟩
    · exact ((((Zo3.out.setCell (.inl (by have zz0 := Hlt.out; have zz1 := Sz2.out; have zz2 := Sz3.out; have zz3 := Hf.out; first | omega | (simp; done) | (simp; omega))) _).setCell (.inl (by have zz0 := Hlt.out; have zz1 := Sz2.out; have zz2 := Sz3.out; have zz3 := Hf.out; first | omega | (simp; done) | (simp; omega))) _).setCell (.inl (by have zz0 := Hlt.out; have zz1 := Sz2.out; have zz2 := Sz3.out; have zz3 := Hf.out; first | omega | (simp; done) | (simp; omega))) _).setCell (.inl (by have zz0 := Hlt.out; have zz1 := Sz2.out; have zz2 := Sz3.out; have zz3 := Hf.out; first | omega | (simp; done) | (simp; omega))) _).wide (by have zz0 := Hlt.out; have zz1 := Sz2.out; have zz2 := Sz3.out; have zz3 := Hf.out; first | omega | (simp; done) | (simp; omega)) (by have zz0 := Hlt.out; have zz1 := Sz2.out; have zz2 := Sz3.out; have zz3 := Hf.out; first | omega | (simp; done) | (simp; omega)) (Nat.le_refl _)
    · repeat (first | exact Bel3.out | refine Below.drew ?_ | refine Below.setCell ?_ (by have zz0 := Hlt.out; have zz1 := Sz2.out; have zz2 := Sz3.out; have zz3 := Hf.out; first | omega | (simp; done) | (simp; omega)) _)

end Go.Proofs.YtngminjncdfjdaaGreatDoor
/- Operations on floats in modes, of the program. -/
namespace Go.Proofs.YtngminjncdfjdaaGreatDoor
set_option maxRecDepth 100000
open Go.RowKit
set_option linter.unusedSimpArgs false
set_option linter.unusedVariables false
attribute [local go_sem ↓] Go.wp_at_zero Go.wp_at_succ

/-- floats as values -/
def fs (l : List Nat) : List Value := l.map (Value.float .f32)
/-- the code of floats and a mode -/
def ckE (l : List Nat) (mode : Int) : Int := if l.all fin32 = true then (if 0 ≤ mode ∧ mode ≤ 4 then 0 else 2) else 1
/-- a float as an exact number -/
def fz (b : Nat) : Int := nz (ofM b)
def fe (b : Nat) : Int := nx (ofM b) (ofP b)
theorem fz_small {b : Nat} (hf : fin32 b = true) : (fz b).natAbs < 16777216 := by
  obtain ⟨h1, h2, _, _⟩ := of_bounds hf
  have h := nz_le (ofM b)
  unfold fz
  omega
theorem fe_small {b : Nat} (hf : fin32 b = true) : -149 ≤ fe b ∧ fe b ≤ 128 := by
  obtain ⟨h1, h2, h3, h4⟩ := of_bounds hf
  unfold fe
  by_cases h0 : ofM b = 0
  · rw [h0, nx_zero]; omega
  · rw [nx_ne h0]
    have hl : (limbs (ofM b).natAbs).length ≤ 1 := (limbs_len_le (n := 1)).2 (by rw [Bs_pow]; omega)
    have := tz_le (v := (ofM b).natAbs) rfl
    omega
theorem len_of_lt {z : Int} {n k : Nat} (hn : (limbs z.natAbs).length = n) (h : z.natAbs < 2 ^ (24 * k)) : (n : Int) ≤ k := by
  have : (limbs z.natAbs).length ≤ k := limbs_len_le.2 (by rw [Bs_pow]; exact h)
  omega
theorem fz_len {b n : Nat} (hf : fin32 b = true) (hn : (limbs (fz b).natAbs).length = n) : (n : Int) ≤ 1 := len_of_lt (k := 1) hn (fz_small hf)
/-- a sum of numbers of at most 48 bits, their exponents less than 450 apart -/
theorem sum_small {z e z' e' : Int} {n : Nat} (hz : z.natAbs < 281474976710656) (hz' : z'.natAbs < 281474976710656) (h1 : e - e' ≤ 450) (h2 : e' - e ≤ 450) (hn : (limbs (sumZ z e z' e').natAbs).length = n) : (n : Int) ≤ 21 := by
  obtain ⟨m, hm⟩ : ∃ m : Nat, m = 21 := ⟨_, rfl⟩
  suffices hs : (n : Int) ≤ m by omega
  refine len_of_lt (k := m) hn ?_
  unfold sumZ
  obtain ⟨k, hk⟩ : ∃ k : Nat, k = 450 := ⟨_, rfl⟩
  have hkm : k + 49 < 24 * m := by omega
  have hd1 : (e - min e e').toNat ≤ k := by omega
  have hd2 : (e' - min e e').toNat ≤ k := by omega
  clear hm hk h1 h2
  have a0 : ∀ (d : Nat) (y : Int), d ≤ k → y.natAbs < 281474976710656 → ((2 : Int) ^ d * y).natAbs ≤ 2 ^ (k + 48) := fun d y h g => by
    rw [abs_pow_mul, Nat.pow_add]; exact Nat.mul_le_mul (Nat.pow_le_pow_right (by decide) h) (Nat.le_of_lt g)
  have a1 := a0 (e - min e e').toNat z hd1 hz
  have a2 := a0 (e' - min e e').toNat z' hd2 hz'
  have a3 := Int.natAbs_add_le ((2 : Int) ^ (e - min e e').toNat * z) ((2 : Int) ^ (e' - min e e').toNat * z')
  obtain ⟨q, hq⟩ : ∃ q, q = k + 48 := ⟨_, rfl⟩
  rw [← hq] at a1 a2
  have a4 : (2 : Nat) ^ (q + 1) = 2 ^ q * 2 := by rw [Nat.pow_succ]
  have a5 : (2 : Nat) ^ (q + 1) < 2 ^ (24 * m) := Nat.pow_lt_pow_right (by decide) (by omega)
  rw [a4] at a5
  clear a4 a0 hkm hd1 hd2 hz hz' hn hq
  generalize 2 ^ (24 * m) = R at *
  generalize 2 ^ q = P at *
  generalize ((2 : Int) ^ (e - min e e').toNat * z) = X at *
  generalize ((2 : Int) ^ (e' - min e e').toNat * z') = Y at *
  omega
/-- the results of operations -/
def adZ (x y : Nat) : Int := sumZ (fz x) (fe x) (fz y) (fe y)
def adF (x y : Nat) (mode : Int) : Nat := xF (adZ x y) (min (fe x) (fe y)) (sgS (sgn x) (sgn y)) mode
def adL (x y : Nat) (mode : Int) : Int := xL (adZ x y) (min (fe x) (fe y)) mode
def sbZ (x y : Nat) : Int := sumZ (fz x) (fe x) (-(fz y)) (fe y)
def sbF (x y : Nat) (mode : Int) : Nat := xF (sbZ x y) (min (fe x) (fe y)) (sgS (sgn x) (-(sgn y))) mode
def sbL (x y : Nat) (mode : Int) : Int := xL (sbZ x y) (min (fe x) (fe y)) mode
def muF (x y : Nat) (mode : Int) : Nat := xF (fz x * fz y) (fe x + fe y) (sgn x * sgn y) mode
def muL (x y : Nat) (mode : Int) : Int := xL (fz x * fz y) (fe x + fe y) mode
/-- a result, or 0 beside an error -/
def opF (x y : Nat) (mode : Int) (F : Nat) : Nat := if ckE [x, y] mode = 0 then F else 0
def opL (x y : Nat) (mode : Int) (L : Int) : Int := if ckE [x, y] mode = 0 then L else 0
end Go.Proofs.YtngminjncdfjdaaGreatDoor
/- Operations on floats in modes, of the model. -/
namespace Go.Proofs.YtngminjncdfjdaaGreatDoor
set_option maxRecDepth 100000
open Go.RowKit
set_option linter.unusedSimpArgs false
set_option linter.unusedVariables false
attribute [local go_sem ↓] Go.wp_at_zero Go.wp_at_succ

/-- a zero with a sign bit or without -/
def mzF (b : Bool) : Nat := if b = true then 2147483648 else 0
/-- a sum, with the sign of one that is 0 -/
noncomputable def smF (z Z E : Int) (b1 b2 : Bool) (mode : Int) : Nat := if Z = 0 then (if z = 0 ∧ b1 = b2 then mzF b1 else mzF (mode == 1)) else rdF Z E mode
end Go.Proofs.YtngminjncdfjdaaGreatDoor
/- AddIn, SubtractIn, MultiplyIn, of the model. -/
namespace Go.Proofs.YtngminjncdfjdaaGreatDoor
set_option maxRecDepth 100000
open Go.RowKit
set_option linter.unusedSimpArgs false
set_option linter.unusedVariables false
attribute [local go_sem ↓] Go.wp_at_zero Go.wp_at_succ

/-- a float with its sign changed -/
def tn (b : Nat) : Nat := if 2147483648 ≤ b then b - 2147483648 else b + 2147483648
end Go.Proofs.YtngminjncdfjdaaGreatDoor
/- IsExactSum, of the program and of the model; the words of results. -/
namespace Go.Proofs.YtngminjncdfjdaaGreatDoor
set_option maxRecDepth 100000
open Go.RowKit
set_option linter.unusedSimpArgs false
set_option linter.unusedVariables false
attribute [local go_sem ↓] Go.wp_at_zero Go.wp_at_succ

theorem xF_ok (z E g mode : Int) : xF z E g mode < 4294967296 ∧ nan32 (xF z E g mode) = false := by
  unfold xF
  split
  · unfold zF; split <;> decide
  · exact rdF_ok _ _ _
/-- what IsExactSum tells -/
def isE (x y : Nat) : Bool := if ckE [x, y] 0 = 0 then adL x y 0 == 0 else false
end Go.Proofs.YtngminjncdfjdaaGreatDoor
