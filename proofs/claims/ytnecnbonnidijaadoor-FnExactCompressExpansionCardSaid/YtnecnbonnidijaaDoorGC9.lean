/- Texts of this seat, joined: Ko Kp Kq Kr Ks Kt -/
import Derived.Test.YtnecnbonnidijaaDoorGC8
import Derived.Test.YtnecnbonnidijaaDoorGC4
import Derived.Test.YtnecnbonnidijaaDoorGC6
/- Exact results of operations: boxes, floats, signs, zeros, of the program. -/
namespace Go.Proofs.YtnecnbonnidijaaDoor
set_option maxRecDepth 100000
open Go.RowKit
set_option linter.unusedSimpArgs false
set_option linter.unusedVariables false
attribute [local go_sem ↓] Go.wp_at_zero Go.wp_at_succ

/-- an exact result's box -/
def XBox (w : World) (b : Nat) (S : Int) (A : Option Addr) (n c : Nat) (E g : Int) : Prop := (w.cell? ⟨b, 0, none⟩ = some (.int .i64 S) ∧ w.cell? ⟨b, 1, none⟩ = some (.slice A n c) ∧ w.cell? ⟨b, 2, none⟩ = some (.int .i64 E) ∧ w.cell? ⟨b, 3, none⟩ = some (.int .i64 g)) ∧ b < w.heap.size
/-- a result's box, yet untouched -/
def XRes (w : World) (b : Nat) : Prop := (w.cell? ⟨b, 0, none⟩ = some (.int .i64 0) ∧ w.cell? ⟨b, 1, none⟩ = some (.slice none 0 0) ∧ w.cell? ⟨b, 2, none⟩ = some (.int .i64 0) ∧ w.cell? ⟨b, 3, none⟩ = some (.int .i64 0) ∧ w.frozen? ⟨b, 0, none⟩ = false ∧ w.frozen? ⟨b, 1, none⟩ = false ∧ w.frozen? ⟨b, 2, none⟩ = false ∧ w.frozen? ⟨b, 3, none⟩ = false) ∧ b < w.heap.size
section
variable {w w' : World} {b n c : Nat} {S E g : Int} {A : Option Addr}
theorem XBox.next (x : XBox w b S A n c E g) (hb : Below w.heap.size w w') : XBox w' b S A n c E g :=
  ⟨⟨(hb.cell (p := ⟨b, 0, none⟩) x.2).trans x.1.1, (hb.cell (p := ⟨b, 1, none⟩) x.2).trans x.1.2.1, (hb.cell (p := ⟨b, 2, none⟩) x.2).trans x.1.2.2.1, (hb.cell (p := ⟨b, 3, none⟩) x.2).trans x.1.2.2.2⟩, Nat.lt_of_lt_of_le x.2 hb.size⟩
theorem XRes.next (x : XRes w b) (hb : Below w.heap.size w w') : XRes w' b :=
  ⟨⟨(hb.cell (p := ⟨b, 0, none⟩) x.2).trans x.1.1, (hb.cell (p := ⟨b, 1, none⟩) x.2).trans x.1.2.1, (hb.cell (p := ⟨b, 2, none⟩) x.2).trans x.1.2.2.1, (hb.cell (p := ⟨b, 3, none⟩) x.2).trans x.1.2.2.2.1, (hb.frozen (p := ⟨b, 0, none⟩) x.2).trans x.1.2.2.2.2.1, (hb.frozen (p := ⟨b, 1, none⟩) x.2).trans x.1.2.2.2.2.2.1, (hb.frozen (p := ⟨b, 2, none⟩) x.2).trans x.1.2.2.2.2.2.2.1, (hb.frozen (p := ⟨b, 3, none⟩) x.2).trans x.1.2.2.2.2.2.2.2⟩, Nat.lt_of_lt_of_le x.2 hb.size⟩
theorem XBox.drew (x : XBox w b S A n c E g) : XBox w.drew b S A n c E g := x
theorem XRes.drew (x : XRes w b) : XRes w.drew b := x
theorem XBox.keep (x : XBox w b S A n c E g) {q : Addr} (hq : q.block ≠ b) (u : Value) : XBox (w.setCell q u) b S A n c E g := by
  have hk : ∀ o, (w.setCell q u).cell? ⟨b, o, none⟩ = w.cell? ⟨b, o, none⟩ := fun o => World.cell?_of_block (a := ⟨b, o, none⟩) (Below.heap_setCell _ _ _ _ (fun e => hq e.symm))
  exact ⟨⟨(hk 0).trans x.1.1, (hk 1).trans x.1.2.1, (hk 2).trans x.1.2.2.1, (hk 3).trans x.1.2.2.2⟩, by have := x.2; simpa using this⟩
theorem XBox.new (w : World) (S : Int) (A : Option Addr) (n c : Nat) (E g : Int) (T : TypeId) : XBox (w.alloc (.cells #[.int .i64 S, .slice A n c, .int .i64 E, .int .i64 g] T)) w.heap.size S A n c E g := by
  refine ⟨⟨?_, ?_, ?_, ?_⟩, ?_⟩
  · go_simp
  · go_simp
  · go_simp
  · go_simp
  · simp
theorem XRes.new (w : World) (T : TypeId) : XRes (w.alloc (.cells #[.int .i64 0, .slice none 0 0, .int .i64 0, .int .i64 0] T)) w.heap.size := by
  refine ⟨⟨?_, ?_, ?_, ?_, ?_, ?_, ?_, ?_⟩, ?_⟩
  · go_simp
  · go_simp
  · go_simp
  · go_simp
  · go_simp
  · go_simp
  · go_simp
  · go_simp
  · simp
end
/-- the sign bit -/
def sgn (b : Nat) : Int := if neg32 b = true then -1 else 1
end Go.Proofs.YtnecnbonnidijaaDoor
/- Zeros, sums, differences, products, rounding of exact results, of the program. -/
namespace Go.Proofs.YtnecnbonnidijaaDoor
set_option maxRecDepth 100000
open Go.RowKit
set_option linter.unusedSimpArgs false
set_option linter.unusedVariables false
attribute [local go_sem ↓] Go.wp_at_zero Go.wp_at_succ

/-- the sign of a sum that is 0 -/
def sgS (g h : Int) : Int := if g = h then g else 0
theorem XBox.sign {w : World} {b n c : Nat} {S E g : Int} {A : Option Addr} (x : XBox w b S A n c E g) (h : Int) : XBox (w.setCell ⟨b, 3, none⟩ (.int .i64 h)) b S A n c E h := by
  obtain ⟨⟨x0, x1, x2, x3⟩, x4⟩ := x
  refine ⟨⟨?_, ?_, ?_, ?_⟩, by simp; exact x4⟩
  · go_simp
  · go_simp
  · go_simp
  · go_simp
theorem XRes.keep {w : World} {b : Nat} (x : XRes w b) {q : Addr} (hq : q.block ≠ b) (u : Value) : XRes (w.setCell q u) b := by
  have hh := Below.heap_setCell w q u b (fun e => hq e.symm)
  have hk : ∀ o, (w.setCell q u).cell? ⟨b, o, none⟩ = w.cell? ⟨b, o, none⟩ := fun o => World.cell?_of_block (a := ⟨b, o, none⟩) hh
  have hf : ∀ o, (w.setCell q u).frozen? ⟨b, o, none⟩ = w.frozen? ⟨b, o, none⟩ := fun o => by unfold World.frozen?; rw [hh]
  exact ⟨⟨(hk 0).trans x.1.1, (hk 1).trans x.1.2.1, (hk 2).trans x.1.2.2.1, (hk 3).trans x.1.2.2.2.1, (hf 0).trans x.1.2.2.2.2.1, (hf 1).trans x.1.2.2.2.2.2.1, (hf 2).trans x.1.2.2.2.2.2.2.1, (hf 3).trans x.1.2.2.2.2.2.2.2⟩, by have := x.2; simpa using this⟩
/-- a zero result -/
def zF (g mode : Int) : Nat := if g < 0 ∨ (g = 0 ∧ mode = 1) then 2147483648 else 0
/-- what a result is rounded to -/
def xF (z E g mode : Int) : Nat := if z = 0 then zF g mode else rdF z E mode
def xL (z E mode : Int) : Int := if z = 0 then 0 else rdL z E mode
end Go.Proofs.YtnecnbonnidijaaDoor
/- Operations on floats in modes, of the program. -/
namespace Go.Proofs.YtnecnbonnidijaaDoor
set_option maxRecDepth 100000
open Go.RowKit
set_option linter.unusedSimpArgs false
set_option linter.unusedVariables false
attribute [local go_sem ↓] Go.wp_at_zero Go.wp_at_succ

/-- floats as values -/
def fs (l : List Nat) : List Value := l.map (Value.float .f32)
theorem fs_len (l : List Nat) : (fs l).length = l.length := by unfold fs; rw [List.length_map]
theorem fs_get {l : List Nat} {k : Nat} (h : k < l.length) : (fs l)[k]'(by rw [fs_len]; exact h) = .float .f32 l[k] := by unfold fs; rw [List.getElem_map]
/-- the code of floats and a mode -/
def ckE (l : List Nat) (mode : Int) : Int := if l.all fin32 = true then (if 0 ≤ mode ∧ mode ≤ 4 then 0 else 2) else 1
theorem all_take {l : List Nat} {k : Nat} (hk : k < l.length) (h : (l.take k).all fin32 = true) (hf : fin32 l[k] = true) : (l.take (k + 1)).all fin32 = true := by
  rw [List.take_succ_eq_append_getElem hk, List.all_append, h, List.all_cons, hf]; rfl
theorem not_all {l : List Nat} {k : Nat} (hk : k < l.length) (hf : fin32 l[k] = false) : l.all fin32 = false := by
  rw [List.all_eq_false]
  exact ⟨l[k], List.getElem_mem hk, by rw [hf]; simp⟩
/-- a float as an exact number -/
def fz (b : Nat) : Int := nz (ofM b)
def fe (b : Nat) : Int := nx (ofM b) (ofP b)
theorem fz_small {b : Nat} (hf : fin32 b = true) : (fz b).natAbs < 16777216 := by
  obtain ⟨h1, h2, _, _⟩ := of_bounds hf
  have h := nz_le (ofM b)
  unfold fz
  omega
theorem fe_small {b : Nat} (hf : fin32 b = true) : -149 ≤ fe b ∧ fe b ≤ 128 := by
  obtain ⟨h1, h2, h3, h4⟩ := of_bounds hf
  unfold fe
  by_cases h0 : ofM b = 0
  · rw [h0, nx_zero]; omega
  · rw [nx_ne h0]
    have hl : (limbs (ofM b).natAbs).length ≤ 1 := (limbs_len_le (n := 1)).2 (by rw [Bs_pow]; omega)
    have := tz_le (v := (ofM b).natAbs) rfl
    omega
theorem len_of_lt {z : Int} {n k : Nat} (hn : (limbs z.natAbs).length = n) (h : z.natAbs < 2 ^ (24 * k)) : (n : Int) ≤ k := by
  have : (limbs z.natAbs).length ≤ k := limbs_len_le.2 (by rw [Bs_pow]; exact h)
  omega
theorem fz_len {b n : Nat} (hf : fin32 b = true) (hn : (limbs (fz b).natAbs).length = n) : (n : Int) ≤ 1 := len_of_lt (k := 1) hn (fz_small hf)
/-- the results of operations -/
def adZ (x y : Nat) : Int := sumZ (fz x) (fe x) (fz y) (fe y)
def adF (x y : Nat) (mode : Int) : Nat := xF (adZ x y) (min (fe x) (fe y)) (sgS (sgn x) (sgn y)) mode
def adL (x y : Nat) (mode : Int) : Int := xL (adZ x y) (min (fe x) (fe y)) mode
def sbZ (x y : Nat) : Int := sumZ (fz x) (fe x) (-(fz y)) (fe y)
def sbF (x y : Nat) (mode : Int) : Nat := xF (sbZ x y) (min (fe x) (fe y)) (sgS (sgn x) (-(sgn y))) mode
def sbL (x y : Nat) (mode : Int) : Int := xL (sbZ x y) (min (fe x) (fe y)) mode
def muF (x y : Nat) (mode : Int) : Nat := xF (fz x * fz y) (fe x + fe y) (sgn x * sgn y) mode
def muL (x y : Nat) (mode : Int) : Int := xL (fz x * fz y) (fe x + fe y) mode
/-- a result, or 0 beside an error -/
def opF (x y : Nat) (mode : Int) (F : Nat) : Nat := if ckE [x, y] mode = 0 then F else 0
def opL (x y : Nat) (mode : Int) (L : Int) : Int := if ckE [x, y] mode = 0 then L else 0
end Go.Proofs.YtnecnbonnidijaaDoor
/- Operations on floats in modes, of the model. -/
namespace Go.Proofs.YtnecnbonnidijaaDoor
set_option maxRecDepth 100000
open Go.RowKit
set_option linter.unusedSimpArgs false
set_option linter.unusedVariables false
attribute [local go_sem ↓] Go.wp_at_zero Go.wp_at_succ

/-- a zero with a sign bit or without -/
def mzF (b : Bool) : Nat := if b = true then 2147483648 else 0
theorem finB_any (b : Nat) (w : World) (hb : b < 4294967296) : Calls Tryd.prog 84 #[.float .f32 b] w fun e w' => e = .returned (.bool (fin32 b)) ∧ Below w.heap.size w w' := by
  by_cases hf : fin32 b = true
  · rw [hf]
    exact (fin_yes b w hb hf).mono fun _ _ h => same_below h
  · have hf2 : fin32 b = false := by simpa using hf
    rw [hf2]
    refine (fin_no b w hb hf2).mono ?_
    rintro e w' ⟨rfl, rfl⟩
    exact ⟨rfl, (Below.refl _ _).drew⟩
/-- a sum, with the sign of one that is 0 -/
noncomputable def smF (z Z E : Int) (b1 b2 : Bool) (mode : Int) : Nat := if Z = 0 then (if z = 0 ∧ b1 = b2 then mzF b1 else mzF (mode == 1)) else rdF Z E mode
end Go.Proofs.YtnecnbonnidijaaDoor
/- AddIn, SubtractIn, MultiplyIn, of the model. -/
namespace Go.Proofs.YtnecnbonnidijaaDoor
set_option maxRecDepth 100000
open Go.RowKit
set_option linter.unusedSimpArgs false
set_option linter.unusedVariables false
attribute [local go_sem ↓] Go.wp_at_zero Go.wp_at_succ

/-- a float with its sign changed -/
def tn (b : Nat) : Nat := if 2147483648 ≤ b then b - 2147483648 else b + 2147483648
end Go.Proofs.YtnecnbonnidijaaDoor
/- IsExactSum, of the program and of the model; the words of results. -/
namespace Go.Proofs.YtnecnbonnidijaaDoor
set_option maxRecDepth 100000
open Go.RowKit
set_option linter.unusedSimpArgs false
set_option linter.unusedVariables false
attribute [local go_sem ↓] Go.wp_at_zero Go.wp_at_succ

/-- what IsExactSum tells -/
def isE (x y : Nat) : Bool := if ckE [x, y] 0 = 0 then adL x y 0 == 0 else false
end Go.Proofs.YtnecnbonnidijaaDoor
