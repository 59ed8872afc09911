/- Texts of this seat, joined: Ua Ub Uc Ud -/
import Derived.Test.YtngminjncdfjdaaGreatDoorY21
import Derived.Test.YtngminjncdfjdaaGreatDoorY9
/- Ends of intervals of the program: their boxes, infinite ones, those of floats. -/
namespace Go.Proofs.YtngminjncdfjdaaGreatDoor
set_option maxRecDepth 100000
open Go.RowKit
set_option linter.unusedSimpArgs false
set_option linter.unusedVariables false

/-- an end's box -/
def EB (w : World) (b : Nat) (S : Int) (A : Option Addr) (n c : Nat) (E g : Int) (i : Bool) : Prop := (w.cell? ⟨b, 0, none⟩ = some (.int .i64 S) ∧ w.cell? ⟨b, 1, none⟩ = some (.slice A n c) ∧ w.cell? ⟨b, 2, none⟩ = some (.int .i64 E) ∧ w.cell? ⟨b, 3, none⟩ = some (.int .i64 g) ∧ w.cell? ⟨b, 4, none⟩ = some (.bool i)) ∧ b < w.heap.size
/-- an end's result box, yet untouched -/
def ER (w : World) (b : Nat) : Prop := (w.cell? ⟨b, 0, none⟩ = some (.int .i64 0) ∧ w.cell? ⟨b, 1, none⟩ = some (.slice none 0 0) ∧ w.cell? ⟨b, 2, none⟩ = some (.int .i64 0) ∧ w.cell? ⟨b, 3, none⟩ = some (.int .i64 0) ∧ w.cell? ⟨b, 4, none⟩ = some (.bool false) ∧ w.frozen? ⟨b, 0, none⟩ = false ∧ w.frozen? ⟨b, 1, none⟩ = false ∧ w.frozen? ⟨b, 2, none⟩ = false ∧ w.frozen? ⟨b, 3, none⟩ = false ∧ w.frozen? ⟨b, 4, none⟩ = false) ∧ b < w.heap.size
section
variable {w w' : World} {b n c : Nat} {S E g : Int} {A : Option Addr} {i : Bool}
theorem EB.next (x : EB w b S A n c E g i) (hb : Below w.heap.size w w') : EB w' b S A n c E g i :=
  ⟨⟨(hb.cell (p := ⟨b, 0, none⟩) x.2).trans x.1.1, (hb.cell (p := ⟨b, 1, none⟩) x.2).trans x.1.2.1, (hb.cell (p := ⟨b, 2, none⟩) x.2).trans x.1.2.2.1, (hb.cell (p := ⟨b, 3, none⟩) x.2).trans x.1.2.2.2.1, (hb.cell (p := ⟨b, 4, none⟩) x.2).trans x.1.2.2.2.2⟩, Nat.lt_of_lt_of_le x.2 hb.size⟩
theorem EB.drew (x : EB w b S A n c E g i) : EB w.drew b S A n c E g i := x
theorem ER.next (x : ER w b) (hb : Below w.heap.size w w') : ER w' b :=
  ⟨⟨(hb.cell (p := ⟨b, 0, none⟩) x.2).trans x.1.1, (hb.cell (p := ⟨b, 1, none⟩) x.2).trans x.1.2.1, (hb.cell (p := ⟨b, 2, none⟩) x.2).trans x.1.2.2.1, (hb.cell (p := ⟨b, 3, none⟩) x.2).trans x.1.2.2.2.1, (hb.cell (p := ⟨b, 4, none⟩) x.2).trans x.1.2.2.2.2.1, (hb.frozen (p := ⟨b, 0, none⟩) x.2).trans x.1.2.2.2.2.2.1, (hb.frozen (p := ⟨b, 1, none⟩) x.2).trans x.1.2.2.2.2.2.2.1, (hb.frozen (p := ⟨b, 2, none⟩) x.2).trans x.1.2.2.2.2.2.2.2.1, (hb.frozen (p := ⟨b, 3, none⟩) x.2).trans x.1.2.2.2.2.2.2.2.2.1, (hb.frozen (p := ⟨b, 4, none⟩) x.2).trans x.1.2.2.2.2.2.2.2.2.2⟩, Nat.lt_of_lt_of_le x.2 hb.size⟩
theorem EB.new (w : World) (S : Int) (A : Option Addr) (n c : Nat) (E g : Int) (i : Bool) (T : TypeId) : EB (w.alloc (.cells #[.int .i64 S, .slice A n c, .int .i64 E, .int .i64 g, .bool i] T)) w.heap.size S A n c E g i := by
  refine ⟨⟨?_, ?_, ?_, ?_, ?_⟩, ?_⟩ <;> first | (go_simp; done) | simp
theorem ER.new (w : World) (T : TypeId) : ER (w.alloc (.cells #[.int .i64 0, .slice none 0 0, .int .i64 0, .int .i64 0, .bool false] T)) w.heap.size := by
  refine ⟨⟨?_, ?_, ?_, ?_, ?_, ?_, ?_, ?_, ?_, ?_⟩, ?_⟩ <;> first | (go_simp; done) | simp
end
theorem eb_0r (w : World) (R : TypeId) : ∃ W, W = w.alloc (.cells #[.int .i64 0, .slice none 0 0, .int .i64 0, .int .i64 0, .bool false] R) ∧ ER W w.heap.size ∧ Below w.heap.size w W := ⟨_, rfl, ER.new _ _, belAlloc1 _ _⟩
theorem eb_1 (w : World) (S : Int) (A : Option Addr) (n c : Nat) (E g : Int) (i : Bool) (T : TypeId) : ∃ W, W = w.alloc (.cells #[.int .i64 S, .slice A n c, .int .i64 E, .int .i64 g, .bool i] T) ∧ EB W w.heap.size S A n c E g i ∧ Below w.heap.size w W := ⟨_, rfl, EB.new _ _ _ _ _ _ _ _ _, belAlloc1 _ _⟩
theorem eb_2 (w : World) (S S' : Int) (A A' : Option Addr) (n n' c c' : Nat) (E E' g g' : Int) (i i' : Bool) (T : TypeId) : ∃ W, W = (w.alloc (.cells #[.int .i64 S, .slice A n c, .int .i64 E, .int .i64 g, .bool i] T)).alloc (.cells #[.int .i64 S', .slice A' n' c', .int .i64 E', .int .i64 g', .bool i'] T) ∧ EB W w.heap.size S A n c E g i ∧ EB W (w.heap.size + 1) S' A' n' c' E' g' i' ∧ Below w.heap.size w W := by
  obtain ⟨u, h1, h2, h3⟩ := eb_1 w S A n c E g i T
  obtain ⟨v, g1, g2, g3⟩ := eb_1 u S' A' n' c' E' g' i' T
  have s : u.heap.size = w.heap.size + 1 := by rw [h1]; simp
  exact ⟨v, by rw [g1, h1], h2.next g3, by rw [← s]; exact g2, belNext h3 g3⟩
theorem eb_2r (w : World) (S S' : Int) (A A' : Option Addr) (n n' c c' : Nat) (E E' g g' : Int) (i i' : Bool) (T R : TypeId) : ∃ W, W = ((w.alloc (.cells #[.int .i64 S, .slice A n c, .int .i64 E, .int .i64 g, .bool i] T)).alloc (.cells #[.int .i64 S', .slice A' n' c', .int .i64 E', .int .i64 g', .bool i'] T)).alloc (.cells #[.int .i64 0, .slice none 0 0, .int .i64 0, .int .i64 0, .bool false] R) ∧ EB W w.heap.size S A n c E g i ∧ EB W (w.heap.size + 1) S' A' n' c' E' g' i' ∧ ER W (w.heap.size + 2) ∧ Below w.heap.size w W := by
  obtain ⟨u, h1, h2, h4, h3⟩ := eb_2 w S S' A A' n n' c c' E E' g g' i i' T
  obtain ⟨v, g1, g2, g3⟩ := eb_0r u R
  have s : u.heap.size = w.heap.size + 2 := by rw [h1]; simp
  exact ⟨v, by rw [g1, h1], h2.next g3, h4.next g3, by rw [← s]; exact g2, belNext h3 g3⟩
/-- an end's number, and its exponent -/
def eZ (b : Nat) : Int := if fin32 b = true then fz b else 0
def eE (b : Nat) : Int := if fin32 b = true then fe b else 0
theorem inf_words {b : Nat} (h1 : b < 4294967296) (h2 : nan32 b = false) (h : fin32 b = false) : b = 2139095040 ∨ b = 4286578688 := by
  unfold nan32 at h2; unfold fin32 at h
  have := of_decide_eq_false h2
  have := of_decide_eq_false h
  omega
set_option maxHeartbeats 1000000 in
theorem infEnd_any (g : Int) (w : World) : Calls Tryz.prog 53 #[.int .i64 g] w fun e w' => e = .returned (.agg #[.int .i64 0, .slice none 0 0, .int .i64 0, .int .i64 g, .bool true]) ∧ Below w.heap.size w w' := by
  have hst := store_int Tryz.prog
  have hst2 := store_slice Tryz.prog
  obtain ⟨w1, hw1, hr_, hB_⟩ := eb_0r w 52
  have R_1 := Lib.hid hr_
  have B1 := Lib.hid hB_
  have Hw := Lib.hid hw1
  clear hw1 hr_ hB_
  obtain ⟨⟨r0, r1, r2, r3, r4, r5, r6, r7, r8, r9⟩, r10⟩ := R_1.out
  go_enter Tryz.func53, Tryz.ntmps53
  go_upto_region 1 with fail
  rw [← Hw.out]
  go_wp2_with fail
  refine bodyPost_ret (v := .agg #[.int .i64 0, .slice none 0 0, .int .i64 0, .int .i64 g, .bool true]) (by simp [results, Tryz.results53, go_sem, r0, r1, r2, r3, r4]) rfl ⟨rfl, ?_⟩
  repeat (first | with_reducible exact B1.out | with_reducible exact Below.refl _ _ | with_reducible refine Below.drew ?_ | with_reducible refine Below.alloc ?_ (by first | (simp; done) | (simp; omega)) _ | with_reducible refine Below.setCell ?_ (by first | (simp; done) | (simp; omega)) _)
theorem signInf_pos (w : World) : Calls Tryz.prog 54 #[.float .f64 9218868437227405312] w fun e w' => e = .returned (.int .i64 1) ∧ w = w' := by
  have hsb : ∀ w, Calls Tryz.prog 73 #[.float .f64 9218868437227405312] w fun e w' => e = .returned (.bool false) ∧ w = w' := by
    intro w
    have hx := run_fbits64 9218868437227405312
    rw [show ((9218868437227405312 : Nat) : Int) = 9218868437227405312 from rfl] at hx
    have hwr : wrap64 18442240474082181120 = -4503599627370496 := by decide +kernel
    have hwr2 : wrap64 9218868437227405312 = 9218868437227405312 := by decide +kernel
    go_enter Tryz.func73, Tryz.ntmps73
    go_wp2_with fail
    go_ret
    exact ⟨rfl, rfl⟩
  have Hsb := Lib.hid hsb
  clear hsb
  go_enter Tryz.func54, Tryz.ntmps54
  go_wp2_with fail
  refine (Hsb.out _).mono ?_
  rintro e w9 ⟨rfl, rfl⟩
  go_wp2_with fail
  go_ret
  exact ⟨rfl, rfl⟩
theorem signInf_neg (w : World) : Calls Tryz.prog 54 #[.float .f64 18442240474082181120] w fun e w' => e = .returned (.int .i64 (-1)) ∧ w = w' := by
  have hsb : ∀ w, Calls Tryz.prog 73 #[.float .f64 18442240474082181120] w fun e w' => e = .returned (.bool true) ∧ w = w' := by
    intro w
    have hx := run_fbits64 18442240474082181120
    rw [show ((18442240474082181120 : Nat) : Int) = 18442240474082181120 from rfl] at hx
    have hwr : wrap64 18442240474082181120 = -4503599627370496 := by decide +kernel
    have hwr2 : wrap64 9218868437227405312 = 9218868437227405312 := by decide +kernel
    go_enter Tryz.func73, Tryz.ntmps73
    go_wp2_with fail
    go_ret
    exact ⟨rfl, rfl⟩
  have Hsb := Lib.hid hsb
  clear hsb
  go_enter Tryz.func54, Tryz.ntmps54
  go_wp2_with fail
  refine (Hsb.out _).mono ?_
  rintro e w9 ⟨rfl, rfl⟩
  go_wp2_with fail
  go_ret
  exact ⟨rfl, rfl⟩
end Go.Proofs.YtngminjncdfjdaaGreatDoor
/- Ends of intervals of the program: those of floats. -/
namespace Go.Proofs.YtngminjncdfjdaaGreatDoor
set_option maxRecDepth 100000
open Go.RowKit
set_option linter.unusedSimpArgs false
set_option linter.unusedVariables false

set_option maxHeartbeats 1000000 in
theorem endOf_f (b : Nat) (w : World) (hb0 : b < 4294967296) (hf : fin32 b = true) (hT : TabZ w) :
    Calls Tryz.prog 30 #[.float .f32 b] w fun e w' => ∃ Sr Ar nr cr, e = .returned (.agg #[.int .i64 Sr, .slice Ar nr cr, .int .i64 (fe b), .int .i64 (sgn b), .bool false]) ∧ ZV w' (fz b) Sr Ar nr cr ∧ (nr : Int) ≤ 1 ∧ Below w.heap.size w w' := by
  have hst := store_int Tryz.prog
  have hst2 := store_slice Tryz.prog
  have HF : Hid (∀ w, Calls Tryz.prog 52 #[.float .f32 b] w fun e w' => e = .returned (.bool true) ∧ w = w') := Lib.hid (fun w => by rw [← hf]; exact implFinite_any b w hb0)
  have HX : Hid (∀ w, TabZ w → _) := Lib.hid (fun w h => exactOf_any b w hb0 hf h)
  have HL : Hid (∀ n, (limbs (fz b).natAbs).length = n → (n : Int) ≤ 1) := Lib.hid (fun n h => fz_len hf h)
  have HT := Lib.hid hT
  obtain ⟨q, hq⟩ : ∃ q, q = fe b := ⟨_, rfl⟩
  obtain ⟨s, hs⟩ : ∃ s, s = sgn b := ⟨_, rfl⟩
  obtain ⟨z, hz⟩ : ∃ z, z = fz b := ⟨_, rfl⟩
  rw [show nx (ofM b) (ofP b) = fe b from rfl, show nz (ofM b) = fz b from rfl, ← hq, ← hs, ← hz] at HX
  rw [← hz] at HL
  rw [← hq, ← hs, ← hz]
  clear hq hs hz hf hb0 hT
  obtain ⟨w1, hw1, hr_, hB_⟩ := eb_0r w 52
  have R_1 := Lib.hid hr_
  have B1 := Lib.hid hB_
  have Hw := Lib.hid hw1
  clear hw1 hr_ hB_
  obtain ⟨⟨r0, r1, r2, r3, r4, r5, r6, r7, r8, r9⟩, r10⟩ := R_1.out
  go_enter Tryz.func30, Tryz.ntmps30
  go_wp2_with fail
  rw [← Hw.out]
  refine (HF.out _).mono ?_
  rintro e w9 ⟨rfl, rfl⟩
  go_wp2_with fail
  refine (HX.out _ (HT.out.next B1.out)).mono ?_
  rintro e w2 ⟨Sr, Ar, nr, cr, rfl, hzo, hb⟩
  have B2 := Lib.hid (belNext B1.out hb)
  have R_2 := Lib.hid (R_1.out.next hb)
  have Z2 := Lib.hid hzo
  have Hl : Hid (w.heap.size < w1.heap.size) := Lib.hid r10
  clear hb hzo r0 r1 r2 r3 r4 r5 r6 r7 r8 r9 r10
  obtain ⟨⟨r0, r1, r2, r3, r4, r5, r6, r7, r8, r9⟩, r10⟩ := R_2.out
  go_wp2_with fail
  refine bodyPost_ret (v := .agg #[.int .i64 Sr, .slice Ar nr cr, .int .i64 q, .int .i64 s, .bool false]) (by simp [results, Tryz.results30, go_sem, r0, r1, r2, r3, r4]) rfl ⟨Sr, Ar, nr, cr, rfl, ?_, ?_, ?_⟩
  · refine ZO.zv (lo := w1.heap.size) (hi := w2.heap.size) ?_
    repeat (first | with_reducible exact Z2.out | with_reducible refine ZO.setCell ?_ (.inl (by have zl := Hl.out; first | omega | (simp; omega))) _)
  · exact HL.out _ Z2.out.zv.len
  · repeat (first | with_reducible exact B2.out | with_reducible exact Below.refl _ _ | with_reducible refine Below.drew ?_ | with_reducible refine Below.alloc ?_ (by first | (simp; done) | (simp; omega)) _ | with_reducible refine Below.setCell ?_ (by first | (simp; done) | (simp; omega)) _)
set_option maxHeartbeats 1000000 in
theorem endOf_i (b : Nat) (w : World) (hb0 : b < 4294967296) (hn : nan32 b = false) (hf : fin32 b = false) :
    Calls Tryz.prog 30 #[.float .f32 b] w fun e w' => e = .returned (.agg #[.int .i64 0, .slice none 0 0, .int .i64 0, .int .i64 (sgn b), .bool true]) ∧ Below w.heap.size w w' := by
  have hst := store_int Tryz.prog
  have hst2 := store_slice Tryz.prog
  have HF : Hid (∀ w, Calls Tryz.prog 52 #[.float .f32 b] w fun e w' => e = .returned (.bool false) ∧ w = w') := Lib.hid (fun w => by rw [← hf]; exact implFinite_any b w hb0)
  rcases inf_words hb0 hn hf with rfl | rfl
  · rw [show sgn 2139095040 = 1 by decide]
    have hcv : ∀ w, (convert 22 34 (.float .f32 2139095040)).run Tryz.prog w = .ok (.float .f64 9218868437227405312) w := fun w => run_convert_float_float w _ _ .f32 .f64 _ _ (by kernel_rfl) (by kernel_rfl) (by decide +kernel)
    clear hf hn hb0
    obtain ⟨w1, hw1, hr_, hB_⟩ := eb_0r w 52
    have R_1 := Lib.hid hr_
    have B1 := Lib.hid hB_
    have Hw := Lib.hid hw1
    clear hw1 hr_ hB_
    obtain ⟨⟨r0, r1, r2, r3, r4, r5, r6, r7, r8, r9⟩, r10⟩ := R_1.out
    go_enter Tryz.func30, Tryz.ntmps30
    go_wp2_with fail
    rw [← Hw.out]
    refine (HF.out _).mono ?_
    rintro e w9 ⟨rfl, rfl⟩
    go_wp2_with fail
    refine (signInf_pos _).mono ?_
    rintro e w9 ⟨rfl, rfl⟩
    go_wp2_with fail
    refine (infEnd_any 1 _).mono ?_
    rintro e w2 ⟨rfl, hb⟩
    have B2 := Lib.hid (belNext B1.out hb)
    have R_2 := Lib.hid (R_1.out.next hb)
    clear hb r0 r1 r2 r3 r4 r5 r6 r7 r8 r9 r10
    obtain ⟨⟨r0, r1, r2, r3, r4, r5, r6, r7, r8, r9⟩, r10⟩ := R_2.out
    go_wp2_with fail
    refine bodyPost_ret (v := .agg #[.int .i64 0, .slice none 0 0, .int .i64 0, .int .i64 1, .bool true]) (by simp [results, Tryz.results30, go_sem, r0, r1, r2, r3, r4]) rfl ⟨rfl, ?_⟩
    repeat (first | with_reducible exact B2.out | with_reducible exact Below.refl _ _ | with_reducible refine Below.drew ?_ | with_reducible refine Below.alloc ?_ (by first | (simp; done) | (simp; omega)) _ | with_reducible refine Below.setCell ?_ (by first | (simp; done) | (simp; omega)) _)
  · rw [show sgn 4286578688 = (-1) by decide]
    have hcv : ∀ w, (convert 22 34 (.float .f32 4286578688)).run Tryz.prog w = .ok (.float .f64 18442240474082181120) w := fun w => run_convert_float_float w _ _ .f32 .f64 _ _ (by kernel_rfl) (by kernel_rfl) (by decide +kernel)
    clear hf hn hb0
    obtain ⟨w1, hw1, hr_, hB_⟩ := eb_0r w 52
    have R_1 := Lib.hid hr_
    have B1 := Lib.hid hB_
    have Hw := Lib.hid hw1
    clear hw1 hr_ hB_
    obtain ⟨⟨r0, r1, r2, r3, r4, r5, r6, r7, r8, r9⟩, r10⟩ := R_1.out
    go_enter Tryz.func30, Tryz.ntmps30
    go_wp2_with fail
    rw [← Hw.out]
    refine (HF.out _).mono ?_
    rintro e w9 ⟨rfl, rfl⟩
    go_wp2_with fail
    refine (signInf_neg _).mono ?_
    rintro e w9 ⟨rfl, rfl⟩
    go_wp2_with fail
    refine (infEnd_any (-1) _).mono ?_
    rintro e w2 ⟨rfl, hb⟩
    have B2 := Lib.hid (belNext B1.out hb)
    have R_2 := Lib.hid (R_1.out.next hb)
    clear hb r0 r1 r2 r3 r4 r5 r6 r7 r8 r9 r10
    obtain ⟨⟨r0, r1, r2, r3, r4, r5, r6, r7, r8, r9⟩, r10⟩ := R_2.out
    go_wp2_with fail
    refine bodyPost_ret (v := .agg #[.int .i64 0, .slice none 0 0, .int .i64 0, .int .i64 (-1), .bool true]) (by simp [results, Tryz.results30, go_sem, r0, r1, r2, r3, r4]) rfl ⟨rfl, ?_⟩
    repeat (first | with_reducible exact B2.out | with_reducible exact Below.refl _ _ | with_reducible refine Below.drew ?_ | with_reducible refine Below.alloc ?_ (by first | (simp; done) | (simp; omega)) _ | with_reducible refine Below.setCell ?_ (by first | (simp; done) | (simp; omega)) _)
end Go.Proofs.YtngminjncdfjdaaGreatDoor
/- Ends of intervals of the program: sums, and as floats. -/
namespace Go.Proofs.YtngminjncdfjdaaGreatDoor
set_option maxRecDepth 100000
open Go.RowKit
set_option linter.unusedSimpArgs false
set_option linter.unusedVariables false

set_option maxHeartbeats 1000000 in
theorem endPlus_t (S E g S' E' g' : Int) (A A' : Option Addr) (n c n' c' : Nat) (i2 : Bool) (w : World) :
    Calls Tryz.prog 31 #[.agg #[.int .i64 S, .slice A n c, .int .i64 E, .int .i64 g, .bool true], .agg #[.int .i64 S', .slice A' n' c', .int .i64 E', .int .i64 g', .bool i2]] w fun e w' => e = .returned (.agg #[.int .i64 S, .slice A n c, .int .i64 E, .int .i64 g, .bool true]) ∧ Below w.heap.size w w' := by
  obtain ⟨w1, hw1, hp0, hp1, hr_, hB_⟩ := eb_2r w S S' A A' n n' c c' E E' g g' true i2 52 52
  have hst := store_int Tryz.prog
  have hst2 := store_slice Tryz.prog
  have P0_1 := Lib.hid hp0
  have P1_1 := Lib.hid hp1
  have R_1 := Lib.hid hr_
  have B1 := Lib.hid hB_
  have Hw := Lib.hid hw1
  clear hw1 hp0 hp1 hr_ hB_
  obtain ⟨⟨e00, e01, e02, e03, e04⟩, e05⟩ := P0_1.out
  obtain ⟨⟨e10, e11, e12, e13, e14⟩, e15⟩ := P1_1.out
  obtain ⟨⟨r0, r1, r2, r3, r4, r5, r6, r7, r8, r9⟩, r10⟩ := R_1.out
  go_enter Tryz.func31, Tryz.ntmps31
  go_upto_region 1 with fail
  rw [← Hw.out]
  go_wp2_with fail
  refine bodyPost_ret (v := .agg #[.int .i64 S, .slice A n c, .int .i64 E, .int .i64 g, .bool true]) (by simp [results, Tryz.results31, go_sem, r0, r1, r2, r3, r4]) rfl ⟨rfl, ?_⟩
  repeat (first | with_reducible exact B1.out | with_reducible exact Below.refl _ _ | with_reducible refine Below.drew ?_ | with_reducible refine Below.alloc ?_ (by first | (simp; done) | (simp; omega)) _ | with_reducible refine Below.setCell ?_ (by first | (simp; done) | (simp; omega)) _)
set_option maxHeartbeats 1000000 in
theorem endPlus_ft (S E g S' E' g' : Int) (A A' : Option Addr) (n c n' c' : Nat) (w : World) :
    Calls Tryz.prog 31 #[.agg #[.int .i64 S, .slice A n c, .int .i64 E, .int .i64 g, .bool false], .agg #[.int .i64 S', .slice A' n' c', .int .i64 E', .int .i64 g', .bool true]] w fun e w' => e = .returned (.agg #[.int .i64 S', .slice A' n' c', .int .i64 E', .int .i64 g', .bool true]) ∧ Below w.heap.size w w' := by
  obtain ⟨w1, hw1, hp0, hp1, hr_, hB_⟩ := eb_2r w S S' A A' n n' c c' E E' g g' false true 52 52
  have hst := store_int Tryz.prog
  have hst2 := store_slice Tryz.prog
  have P0_1 := Lib.hid hp0
  have P1_1 := Lib.hid hp1
  have R_1 := Lib.hid hr_
  have B1 := Lib.hid hB_
  have Hw := Lib.hid hw1
  clear hw1 hp0 hp1 hr_ hB_
  obtain ⟨⟨e00, e01, e02, e03, e04⟩, e05⟩ := P0_1.out
  obtain ⟨⟨e10, e11, e12, e13, e14⟩, e15⟩ := P1_1.out
  obtain ⟨⟨r0, r1, r2, r3, r4, r5, r6, r7, r8, r9⟩, r10⟩ := R_1.out
  go_enter Tryz.func31, Tryz.ntmps31
  go_upto_region 1 with fail
  rw [← Hw.out]
  go_wp2_with fail
  refine bodyPost_ret (v := .agg #[.int .i64 S', .slice A' n' c', .int .i64 E', .int .i64 g', .bool true]) (by simp [results, Tryz.results31, go_sem, r0, r1, r2, r3, r4]) rfl ⟨rfl, ?_⟩
  repeat (first | with_reducible exact B1.out | with_reducible exact Below.refl _ _ | with_reducible refine Below.drew ?_ | with_reducible refine Below.alloc ?_ (by first | (simp; done) | (simp; omega)) _ | with_reducible refine Below.setCell ?_ (by first | (simp; done) | (simp; omega)) _)
set_option maxHeartbeats 1000000 in
theorem endPlus_ff (z z' : Int) (S E g S' E' g' : Int) (A A' : Option Addr) (n c n' c' : Nat) (w : World) (hz : ZV w z S A n c) (hz' : ZV w z' S' A' n' c') (hm : (n : Int) ≤ 4000) (hm' : (n' : Int) ≤ 4000) (h1 : -10000 ≤ E) (h2 : E ≤ 10000) (h3 : -10000 ≤ E') (h4 : E' ≤ 10000) (hT : TabZ w) :
    Calls Tryz.prog 31 #[.agg #[.int .i64 S, .slice A n c, .int .i64 E, .int .i64 g, .bool false], .agg #[.int .i64 S', .slice A' n' c', .int .i64 E', .int .i64 g', .bool false]] w fun e w' => ∃ Sr Ar nr cr, e = .returned (.agg #[.int .i64 Sr, .slice Ar nr cr, .int .i64 (min E E'), .int .i64 (sgS g g'), .bool false]) ∧ ZV w' (sumZ z E z' E') Sr Ar nr cr ∧ Below w.heap.size w w' := by
  have HX : Hid (∀ w, ZV w z S A n c → ZV w z' S' A' n' c' → TabZ w → _) := Lib.hid (fun w a b t => exPlus_any z S E g z' S' E' g' A A' n c n' c' w a b hm hm' h1 h2 h3 h4 t)
  obtain ⟨q, hq⟩ : ∃ q, q = min E E' := ⟨_, rfl⟩
  obtain ⟨s, hs⟩ : ∃ s, s = sgS g g' := ⟨_, rfl⟩
  rw [← hq, ← hs] at HX ⊢
  have HZ := Lib.hid (And.intro hz (And.intro hz' hT))
  clear hz hz' hm hm' h1 h2 h3 h4 hT hq hs
  obtain ⟨w1, hw1, hp0, hp1, hr_, hB_⟩ := eb_2r w S S' A A' n n' c c' E E' g g' false false 52 52
  have hst := store_int Tryz.prog
  have hst2 := store_slice Tryz.prog
  have P0_1 := Lib.hid hp0
  have P1_1 := Lib.hid hp1
  have R_1 := Lib.hid hr_
  have B1 := Lib.hid hB_
  have Hw := Lib.hid hw1
  clear hw1 hp0 hp1 hr_ hB_
  obtain ⟨⟨e00, e01, e02, e03, e04⟩, e05⟩ := P0_1.out
  obtain ⟨⟨e10, e11, e12, e13, e14⟩, e15⟩ := P1_1.out
  obtain ⟨⟨r0, r1, r2, r3, r4, r5, r6, r7, r8, r9⟩, r10⟩ := R_1.out
  go_enter Tryz.func31, Tryz.ntmps31
  go_upto_region 1 with fail
  rw [← Hw.out]
  go_wp2_with fail
  refine (HX.out _ (HZ.out.1.next B1.out) (HZ.out.2.1.next B1.out) (HZ.out.2.2.next B1.out)).mono ?_
  rintro e w2 ⟨Sr, Ar, nr, cr, rfl, hzo, hb⟩
  have B2 := Lib.hid (belNext B1.out hb)
  have R_2 := Lib.hid (R_1.out.next hb)
  have Z2 := Lib.hid hzo
  have Hl : Hid (w.heap.size + 2 < w1.heap.size) := Lib.hid r10
  clear hb hzo r0 r1 r2 r3 r4 r5 r6 r7 r8 r9 r10 e00 e01 e02 e03 e04 e05 e10 e11 e12 e13 e14 e15
  obtain ⟨⟨r0, r1, r2, r3, r4, r5, r6, r7, r8, r9⟩, r10⟩ := R_2.out
  go_wp2_with fail
  refine bodyPost_ret (v := .agg #[.int .i64 Sr, .slice Ar nr cr, .int .i64 q, .int .i64 s, .bool false]) (by simp [results, Tryz.results31, go_sem, r0, r1, r2, r3, r4]) rfl ⟨Sr, Ar, nr, cr, rfl, ?_, ?_⟩
  · refine ZO.zv (lo := w1.heap.size) (hi := w2.heap.size) ?_
    repeat (first | with_reducible exact Z2.out | with_reducible refine ZO.setCell ?_ (.inl (by have zl := Hl.out; first | omega | (simp; omega))) _)
  · repeat (first | with_reducible exact B2.out | with_reducible exact Below.refl _ _ | with_reducible refine Below.drew ?_ | with_reducible refine Below.alloc ?_ (by first | (simp; done) | (simp; omega)) _ | with_reducible refine Below.setCell ?_ (by first | (simp; done) | (simp; omega)) _)
set_option maxHeartbeats 1000000 in
theorem floatIn_pos (S E g mode : Int) (A : Option Addr) (n c : Nat) (w : World) (hg : g = 1) :
    Calls Tryz.prog 32 #[.agg #[.int .i64 S, .slice A n c, .int .i64 E, .int .i64 g, .bool true], .int .i64 mode] w fun e w' => e = .returned (.float .f32 2139095040) ∧ Below w.heap.size w w' := by
  subst hg
  obtain ⟨w1, hw1, hp0, hB_⟩ := eb_1 w S A n c E 1 true 52
  have P0_1 := Lib.hid hp0
  have B1 := Lib.hid hB_
  have Hw := Lib.hid hw1
  clear hw1 hp0 hB_
  obtain ⟨⟨e00, e01, e02, e03, e04⟩, e05⟩ := P0_1.out
  go_enter Tryz.func32, Tryz.ntmps32
  go_wp2_with fail
  rw [← Hw.out]
  refine (infF_pos _).mono ?_
  rintro e w9 ⟨rfl, rfl⟩
  go_wp2_with fail
  go_ret
  exact ⟨rfl, B1.out⟩
set_option maxHeartbeats 1000000 in
theorem floatIn_neg (S E g mode : Int) (A : Option Addr) (n c : Nat) (w : World) (hg : g = (-1)) :
    Calls Tryz.prog 32 #[.agg #[.int .i64 S, .slice A n c, .int .i64 E, .int .i64 g, .bool true], .int .i64 mode] w fun e w' => e = .returned (.float .f32 4286578688) ∧ Below w.heap.size w w' := by
  subst hg
  obtain ⟨w1, hw1, hp0, hB_⟩ := eb_1 w S A n c E (-1) true 52
  have P0_1 := Lib.hid hp0
  have B1 := Lib.hid hB_
  have Hw := Lib.hid hw1
  clear hw1 hp0 hB_
  obtain ⟨⟨e00, e01, e02, e03, e04⟩, e05⟩ := P0_1.out
  go_enter Tryz.func32, Tryz.ntmps32
  go_wp2_with fail
  rw [← Hw.out]
  refine (infF_neg _).mono ?_
  rintro e w9 ⟨rfl, rfl⟩
  go_wp2_with fail
  go_ret
  exact ⟨rfl, B1.out⟩
theorem xF_lt (z E g mode : Int) : xF z E g mode < 4294967296 := (xF_ok z E g mode).1
set_option maxHeartbeats 1000000 in
theorem floatIn_f (z S E g mode : Int) (A : Option Addr) (n c : Nat) (w : World) (hz : ZV w z S A n c) (hm : (n : Int) ≤ 200) (hE1 : -15000 ≤ E) (hE2 : E ≤ 15000) (hm1 : 0 ≤ mode) (hm2 : mode ≤ 4) (hT : TabZ w) :
    Calls Tryz.prog 32 #[.agg #[.int .i64 S, .slice A n c, .int .i64 E, .int .i64 g, .bool false], .int .i64 mode] w fun e w' => e = .returned (.float .f32 (wz (xF z E g mode))) ∧ Below w.heap.size w w' := by
  have HX : Hid (∀ w, ZV w z S A n c → TabZ w → _) := Lib.hid (fun w a t => exRounded_any z S E g mode A n c w a hm hE1 hE2 hm1 hm2 t)
  have HW : Hid (∀ w, _) := Lib.hid (fun w => wz_any (xF z E g mode) w (xF_lt z E g mode))
  obtain ⟨f, hf⟩ : ∃ f, f = xF z E g mode := ⟨_, rfl⟩
  obtain ⟨f2, hf2⟩ : ∃ f2, f2 = wz f := ⟨_, rfl⟩
  obtain ⟨fl, hfl⟩ : ∃ fl, fl = xL z E mode := ⟨_, rfl⟩
  rw [← hf, ← hfl] at HX
  rw [← hf, ← hf2] at HW
  rw [← hf, ← hf2]
  have HZ := Lib.hid (And.intro hz hT)
  clear hz hm hE1 hE2 hm1 hm2 hT hf hf2 hfl
  obtain ⟨w1, hw1, hp0, hB_⟩ := eb_1 w S A n c E g false 52
  have P0_1 := Lib.hid hp0
  have B1 := Lib.hid hB_
  have Hw := Lib.hid hw1
  clear hw1 hp0 hB_
  obtain ⟨⟨e00, e01, e02, e03, e04⟩, e05⟩ := P0_1.out
  go_enter Tryz.func32, Tryz.ntmps32
  go_wp2_with fail
  rw [← Hw.out]
  refine (HX.out _ (HZ.out.1.next B1.out) (HZ.out.2.next B1.out)).mono ?_
  rintro e w2 ⟨rfl, hb⟩
  have B2 := Lib.hid (belNext B1.out hb)
  clear hb e00 e01 e02 e03 e04 e05
  go_wp2_with fail
  refine (HW.out _).mono ?_
  rintro e w9 ⟨rfl, rfl⟩
  go_wp2_with fail
  go_ret
  exact ⟨rfl, B2.out⟩
end Go.Proofs.YtngminjncdfjdaaGreatDoor
/- Widths of intervals, of the program and of the model. -/
namespace Go.Proofs.YtngminjncdfjdaaGreatDoor
set_option maxRecDepth 100000
open Go.RowKit
set_option linter.unusedSimpArgs false
set_option linter.unusedVariables false

theorem wz_zF (g k : Int) : wz (zF g k) = 0 := by unfold wz zF; split <;> simp
theorem wz_norm (Z m g k : Int) : wz (xF Z m g k) = wz (rdF (nz Z) (nx Z m) k) := by
  unfold xF
  by_cases h : Z = 0
  · rw [if_pos h, h, nz_zero, (rd_zero _ _).1, wz_zF]; rfl
  · rw [if_neg h, (rd_norm Z m k).1]
def cI0 (b : Bool) : Int := if b = true then 0 else 1
theorem fin_not_inf {b : Nat} (hf : fin32 b = false) (hn : nan32 b = false) : place32 b = 2139095040 ∨ place32 b = -2139095040 := by
  unfold fin32 at hf; unfold nan32 at hn
  have h1 := of_decide_eq_false hf
  have h2 := of_decide_eq_false hn
  rw [place32_val]; split <;> omega
theorem sgn_of {b : Nat} (h : place32 b = 2139095040 ∨ place32 b = -2139095040) : sgn b = if 0 < place32 b then 1 else -1 := by
  unfold sgn neg32
  rw [place32_val] at h ⊢
  by_cases c : 2147483648 ≤ b
  · rw [if_pos c] at h ⊢
    rw [if_pos (decide_eq_true c), if_neg (by omega)]
  · rw [if_neg c] at h ⊢
    rw [if_neg (by rw [decide_eq_false c]; decide)]
    by_cases d : 0 < ((b % 2147483648 : Nat) : Int)
    · rw [if_pos d]
    · omega
/-- the width of an interval -/
def wdV (l h : Nat) : Nat := if fin32 l = true ∧ fin32 h = true then wz (sbF h l 2) else 2139095040
def wdW (l h : Nat) : Nat := if isI l h = true then wdV l h else 0
theorem wz_ok (Z m g k : Int) : wz (xF Z m g k) < 4294967296 ∧ nan32 (wz (xF Z m g k)) = false := ⟨wz_lt (xF_ok _ _ _ _).1, by rw [wz_nan]; exact (xF_ok _ _ _ _).2⟩
set_option maxHeartbeats 1000000 in
theorem specDownD_any (z S E : Int) (A : Option Addr) (n c : Nat) (w : World) (hz : ZV w z S A n c) (hodd : z ≠ 0 → z.natAbs % 2 = 1) (hm : (n : Int) ≤ 200) (hE1 : -15000 ≤ E) (hE2 : E ≤ 15000) :
    Calls Tryz.prog 40 #[.agg #[.int .i64 S, .slice A n c, .int .i64 E]] w fun e w' => e = .returned (.float .f32 (rdF z E 1)) ∧ Below w.heap.size w w' := by
  have HX : Hid (∀ w, ZV w z S A n c → _) := Lib.hid (fun w a => specRound_any z S E 1 A n c w a hodd hm hE1 hE2 (by decide) (by decide))
  obtain ⟨f, hf⟩ : ∃ f, f = rdF z E 1 := ⟨_, rfl⟩
  obtain ⟨g, hg⟩ : ∃ g, g = rdL z E 1 := ⟨_, rfl⟩
  rw [← hf, ← hg] at HX
  rw [← hf]
  have HZ := Lib.hid hz
  clear hz hodd hm hE1 hE2 hf hg
  obtain ⟨w1, hw1⟩ : ∃ w1, w1 = w.alloc (.cells #[.int .i64 S, .slice A n c, .int .i64 E] 48) := ⟨_, rfl⟩
  have B1 : Hid (Below w.heap.size w w1) := Lib.hid (by rw [hw1]; exact belAlloc1 _ _)
  have D1 : Hid (DBox w1 w.heap.size S A n c E) := Lib.hid (by rw [hw1]; exact DBox.new _ _ _ _ _ _ _)
  have Hw := Lib.hid hw1
  clear hw1
  obtain ⟨⟨d0, d1, d2⟩, d3⟩ := D1.out
  go_enter Tryz.func40, Tryz.ntmps40
  go_wp2_with fail
  rw [← Hw.out]
  refine (HX.out _ (HZ.out.next B1.out)).mono ?_
  rintro e w2 ⟨rfl, hb⟩
  have B2 := Lib.hid (belNext B1.out hb)
  clear hb d0 d1 d2 d3
  go_wp2_with fail
  go_ret
  exact ⟨rfl, B2.out⟩
set_option maxHeartbeats 1000000 in
theorem specUpD_any (z S E : Int) (A : Option Addr) (n c : Nat) (w : World) (hz : ZV w z S A n c) (hodd : z ≠ 0 → z.natAbs % 2 = 1) (hm : (n : Int) ≤ 200) (hE1 : -15000 ≤ E) (hE2 : E ≤ 15000) :
    Calls Tryz.prog 43 #[.agg #[.int .i64 S, .slice A n c, .int .i64 E]] w fun e w' => e = .returned (.float .f32 (rdF z E 2)) ∧ Below w.heap.size w w' := by
  have HX : Hid (∀ w, ZV w z S A n c → _) := Lib.hid (fun w a => specRound_any z S E 2 A n c w a hodd hm hE1 hE2 (by decide) (by decide))
  obtain ⟨f, hf⟩ : ∃ f, f = rdF z E 2 := ⟨_, rfl⟩
  obtain ⟨g, hg⟩ : ∃ g, g = rdL z E 2 := ⟨_, rfl⟩
  rw [← hf, ← hg] at HX
  rw [← hf]
  have HZ := Lib.hid hz
  clear hz hodd hm hE1 hE2 hf hg
  obtain ⟨w1, hw1⟩ : ∃ w1, w1 = w.alloc (.cells #[.int .i64 S, .slice A n c, .int .i64 E] 48) := ⟨_, rfl⟩
  have B1 : Hid (Below w.heap.size w w1) := Lib.hid (by rw [hw1]; exact belAlloc1 _ _)
  have D1 : Hid (DBox w1 w.heap.size S A n c E) := Lib.hid (by rw [hw1]; exact DBox.new _ _ _ _ _ _ _)
  have Hw := Lib.hid hw1
  clear hw1
  obtain ⟨⟨d0, d1, d2⟩, d3⟩ := D1.out
  go_enter Tryz.func43, Tryz.ntmps43
  go_wp2_with fail
  rw [← Hw.out]
  refine (HX.out _ (HZ.out.next B1.out)).mono ?_
  rintro e w2 ⟨rfl, hb⟩
  have B2 := Lib.hid (belNext B1.out hb)
  clear hb d0 d1 d2 d3
  go_wp2_with fail
  go_ret
  exact ⟨rfl, B2.out⟩
theorem nz_odd3 {z : Int} (h : z ≠ 0) : (nz z).natAbs % 2 = 1 := nz_odd h
end Go.Proofs.YtngminjncdfjdaaGreatDoor
