/- Texts of this seat, joined: Ti Mu Mv Ds Sh Sd Dy Ha Hb Hd He To Tk Tw Db Dc Dd De Df -/
import Derived.Test.YtnecnbonnidijaaGI3
import Derived.IntWalk
import Derived.Test.YtnecnbonnidijaaGI1
import Derived.Shelf.Spec.TrailingZeros
import Derived.Lib.SliceRun
import Derived.Laws.CopyOwn
/- Products of limbs, of the program. -/
namespace Go.Proofs.Ytnecnbonnidijaa
set_option maxRecDepth 100000
open Go.RowKit
set_option linter.unusedSimpArgs false
set_option linter.unusedVariables false

/-- the greatest product of two limbs -/
def Mx : Nat := 281474943156225
end Go.Proofs.Ytnecnbonnidijaa
/- Products of whole numbers, of the program and of the model. -/
namespace Go.Proofs.Ytnecnbonnidijaa
set_option maxRecDepth 100000
open Go.RowKit
set_option linter.unusedSimpArgs false
set_option linter.unusedVariables false

end Go.Proofs.Ytnecnbonnidijaa
/- MultiplyWholes, of the program and of the model. -/
namespace Go.Proofs.Ytnecnbonnidijaa
set_option maxRecDepth 100000
open Go.RowKit
set_option linter.unusedSimpArgs false
set_option linter.unusedVariables false

end Go.Proofs.Ytnecnbonnidijaa
/- Quotients by small divisors, of the program. -/
namespace Go.Proofs.Ytnecnbonnidijaa
set_option maxRecDepth 100000
open Go.RowKit
set_option linter.unusedSimpArgs false
set_option linter.unusedVariables false

end Go.Proofs.Ytnecnbonnidijaa
/- Shifts of limbs, of the program. -/
namespace Go.Proofs.Ytnecnbonnidijaa
set_option maxRecDepth 100000
open Go.RowKit
set_option linter.unusedSimpArgs false
set_option linter.unusedVariables false

end Go.Proofs.Ytnecnbonnidijaa
/- Shifts down of limbs, of the program. -/
namespace Go.Proofs.Ytnecnbonnidijaa
set_option maxRecDepth 100000
open Go.RowKit
set_option linter.unusedSimpArgs false
set_option linter.unusedVariables false

end Go.Proofs.Ytnecnbonnidijaa
/- Whole and exact numbers as values and in boxes; the table of Go's library. -/
namespace Go.Proofs.Ytnecnbonnidijaa
set_option maxRecDepth 100000
open Go.RowKit
set_option linter.unusedSimpArgs false
set_option linter.unusedVariables false

/-- a value's parts that are the whole number z, its limbs to be read -/
def ZV (w : World) (z S : Int) (A : Option Addr) (n c : Nat) : Prop := S = z.sign ∧ (limbs z.natAbs).length = n ∧ n ≤ c ∧ Rd w w.heap.size A (vs (limbs z.natAbs))
/-- .. its limbs a row of the call's own -/
def ZO (w : World) (lo hi : Nat) (z S : Int) (A : Option Addr) (n c : Nat) : Prop := S = z.sign ∧ (limbs z.natAbs).length = n ∧ n ≤ c ∧ Ow w lo hi A (vs (limbs z.natAbs)) ∧ hi ≤ w.heap.size
section
variable {w w' : World} {z S : Int} {A : Option Addr} {n c lo hi : Nat}
theorem ZV.next (h : ZV w z S A n c) (hb : Below w.heap.size w w') : ZV w' z S A n c := ⟨h.1, h.2.1, h.2.2.1, (h.2.2.2.below hb).up hb.size⟩
theorem ZV.drew (h : ZV w z S A n c) : ZV w.drew z S A n c := h
theorem sg_sign (z : Int) : Sg z.sign z.natAbs := by
  refine ⟨?_, ?_, ?_⟩
  · rcases Int.lt_trichotomy z 0 with h | h | h
    · rw [Int.sign_eq_neg_one_of_neg h]; omega
    · subst h; simp
    · rw [Int.sign_eq_one_of_pos h]; omega
  · rcases Int.lt_trichotomy z 0 with h | h | h
    · rw [Int.sign_eq_neg_one_of_neg h]; omega
    · subst h; simp
    · rw [Int.sign_eq_one_of_pos h]; omega
  · rw [Int.sign_eq_zero_iff_zero]; omega
theorem ZV.sg (h : ZV w z S A n c) : Sg S z.natAbs := by rw [h.1]; exact sg_sign z
theorem ZV.val (h : ZV w z S A n c) : S * (z.natAbs : Int) = z := by rw [h.1]; exact Int.sign_mul_natAbs z
theorem ZV.len (h : ZV w z S A n c) : (limbs z.natAbs).length = n := h.2.1
theorem ZV.rd (h : ZV w z S A n c) : Rd w w.heap.size A (vs (limbs z.natAbs)) := h.2.2.2
theorem ZV.cap (h : ZV w z S A n c) : n ≤ c := h.2.2.1
theorem ZV.neg (h : ZV w z S A n c) : ZV w (-z) (-S) A n c := by
  refine ⟨?_, ?_, h.2.2.1, ?_⟩
  · rw [Int.sign_neg, h.1]
  · rw [Int.natAbs_neg]; exact h.2.1
  · rw [Int.natAbs_neg]; exact h.2.2.2
theorem ZO.next (h : ZO w lo hi z S A n c) (hb : Below w.heap.size w w') : ZO w' lo hi z S A n c := ⟨h.1, h.2.1, h.2.2.1, h.2.2.2.1.below' hb, Nat.le_trans h.2.2.2.2 hb.size⟩
theorem ZO.wide {lo' hi' : Nat} (h : ZO w lo hi z S A n c) (h1 : lo' ≤ lo) (h2 : hi ≤ hi') (h3 : hi' ≤ w.heap.size) : ZO w lo' hi' z S A n c := ⟨h.1, h.2.1, h.2.2.1, h.2.2.2.1.wide h1 h2, h3⟩
theorem ZO.setCell (h : ZO w lo hi z S A n c) {p : Addr} (hp : p.block < lo ∨ hi ≤ p.block) (u : Value) : ZO (w.setCell p u) lo hi z S A n c := ⟨h.1, h.2.1, h.2.2.1, h.2.2.2.1.setCell hp u, by have := h.2.2.2.2; simpa using this⟩
theorem ZO.alloc (h : ZO w lo hi z S A n c) (o : Obj) : ZO (w.alloc o) lo hi z S A n c := h.next (belAlloc1 w o)
theorem ZO.drew (h : ZO w lo hi z S A n c) : ZO w.drew lo hi z S A n c := h
theorem ZO.zero (h : hi ≤ w.heap.size) : ZO w lo hi 0 0 none 0 0 := ⟨by simp, by simp [limbs_zero], Nat.le_refl _, by simp [limbs_zero, vs, li, vi]; exact .inl rfl, h⟩
theorem ZV.zero : ZV w 0 0 none 0 0 := ⟨by simp, by simp [limbs_zero], Nat.le_refl _, by simp [limbs_zero, vs, li, vi]; exact Rd.nil_⟩
end

/-- an exact number's box -/
def DBox (w : World) (b : Nat) (S : Int) (A : Option Addr) (n c : Nat) (E : Int) : Prop := (w.cell? ⟨b, 0, none⟩ = some (.int .i64 S) ∧ w.cell? ⟨b, 1, none⟩ = some (.slice A n c) ∧ w.cell? ⟨b, 2, none⟩ = some (.int .i64 E)) ∧ b < w.heap.size
/-- a result's box, yet untouched -/
def DRes (w : World) (b : Nat) : Prop := (w.cell? ⟨b, 0, none⟩ = some (.int .i64 0) ∧ w.cell? ⟨b, 1, none⟩ = some (.slice none 0 0) ∧ w.cell? ⟨b, 2, none⟩ = some (.int .i64 0) ∧ w.frozen? ⟨b, 0, none⟩ = false ∧ w.frozen? ⟨b, 1, none⟩ = false ∧ w.frozen? ⟨b, 2, none⟩ = false) ∧ b < w.heap.size
section
variable {w w' : World} {S E : Int} {A : Option Addr} {n c b : Nat}
theorem DBox.next (h : DBox w b S A n c E) (hb : Below w.heap.size w w') : DBox w' b S A n c E :=
  ⟨⟨(hb.cell (p := ⟨b, 0, none⟩) h.2).trans h.1.1, (hb.cell (p := ⟨b, 1, none⟩) h.2).trans h.1.2.1, (hb.cell (p := ⟨b, 2, none⟩) h.2).trans h.1.2.2⟩, Nat.lt_of_lt_of_le h.2 hb.size⟩
theorem DRes.next (h : DRes w b) (hb : Below w.heap.size w w') : DRes w' b :=
  ⟨⟨(hb.cell (p := ⟨b, 0, none⟩) h.2).trans h.1.1, (hb.cell (p := ⟨b, 1, none⟩) h.2).trans h.1.2.1, (hb.cell (p := ⟨b, 2, none⟩) h.2).trans h.1.2.2.1, (hb.frozen (p := ⟨b, 0, none⟩) h.2).trans h.1.2.2.2.1, (hb.frozen (p := ⟨b, 1, none⟩) h.2).trans h.1.2.2.2.2.1, (hb.frozen (p := ⟨b, 2, none⟩) h.2).trans h.1.2.2.2.2.2⟩, Nat.lt_of_lt_of_le h.2 hb.size⟩
theorem DBox.drew (h : DBox w b S A n c E) : DBox w.drew b S A n c E := h
theorem DRes.drew (h : DRes w b) : DRes w.drew b := h
theorem DBox.keep (h : DBox w b S A n c E) {p : Addr} (hp : p.block ≠ b) (u : Value) : DBox (w.setCell p u) b S A n c E := by
  have hk : ∀ o, (w.setCell p u).cell? ⟨b, o, none⟩ = w.cell? ⟨b, o, none⟩ := fun o => World.cell?_of_block (a := ⟨b, o, none⟩) (Below.heap_setCell _ _ _ _ (fun e => hp e.symm))
  exact ⟨⟨(hk 0).trans h.1.1, (hk 1).trans h.1.2.1, (hk 2).trans h.1.2.2⟩, by have := h.2; simpa using this⟩
theorem DBox.new (w : World) (S : Int) (A : Option Addr) (n c : Nat) (E : Int) (t : TypeId) : DBox (w.alloc (.cells #[.int .i64 S, .slice A n c, .int .i64 E] t)) w.heap.size S A n c E := by
  refine ⟨⟨?_, ?_, ?_⟩, ?_⟩ <;> simp
theorem DRes.new (w : World) (t : TypeId) : DRes (w.alloc (.cells #[.int .i64 0, .slice none 0 0, .int .i64 0] t)) w.heap.size := by
  refine ⟨⟨?_, ?_, ?_, ?_, ?_, ?_⟩, ?_⟩
  · simp
  · simp
  · simp
  · go_simp
  · go_simp
  · go_simp
  · simp
end
end Go.Proofs.Ytnecnbonnidijaa
/- Shifts of a whole number, of the program. -/
namespace Go.Proofs.Ytnecnbonnidijaa
set_option maxRecDepth 100000
open Go.RowKit
set_option linter.unusedSimpArgs false
set_option linter.unusedVariables false

end Go.Proofs.Ytnecnbonnidijaa
/- Exact numbers without their last twos, and limited, of the program. -/
namespace Go.Proofs.Ytnecnbonnidijaa
set_option maxRecDepth 100000
open Go.RowKit
set_option linter.unusedSimpArgs false
set_option linter.unusedVariables false

/-- an exact number is laid into a box -/
def st3 (w : World) (b : Nat) (S : Int) (A : Option Addr) (n c : Nat) (E : Int) : World := ((w.setCell ⟨b, 0, none⟩ (.int .i64 S)).setCell ⟨b, 1, none⟩ (.slice A n c)).setCell ⟨b, 2, none⟩ (.int .i64 E)
/-- nothing of a box is frozen -/
def Fr3 (w : World) (b : Nat) : Prop := (w.frozen? ⟨b, 0, none⟩ = false ∧ w.frozen? ⟨b, 1, none⟩ = false ∧ w.frozen? ⟨b, 2, none⟩ = false) ∧ b < w.heap.size
section
variable {w w' : World} {b : Nat} {S E : Int} {A : Option Addr} {n c : Nat}
theorem Fr3.next (h : Fr3 w b) (hb : Below w.heap.size w w') : Fr3 w' b :=
  ⟨⟨(hb.frozen (p := ⟨b, 0, none⟩) h.2).trans h.1.1, (hb.frozen (p := ⟨b, 1, none⟩) h.2).trans h.1.2.1, (hb.frozen (p := ⟨b, 2, none⟩) h.2).trans h.1.2.2⟩, Nat.lt_of_lt_of_le h.2 hb.size⟩
theorem Fr3.drew (h : Fr3 w b) : Fr3 w.drew b := h
theorem Fr3.new (w : World) (S : Int) (A : Option Addr) (n c : Nat) (E : Int) (t : TypeId) : Fr3 (w.alloc (.cells #[.int .i64 S, .slice A n c, .int .i64 E] t)) w.heap.size := by
  refine ⟨⟨?_, ?_, ?_⟩, ?_⟩
  · go_simp
  · go_simp
  · go_simp
  · simp
theorem st3_size : (st3 w b S A n c E).heap.size = w.heap.size := by unfold st3; simp
theorem DBox.made (h : b < w.heap.size) (h0 : ∃ u, w.cell? ⟨b, 0, none⟩ = some u) (h1 : ∃ u, w.cell? ⟨b, 1, none⟩ = some u) (h2 : ∃ u, w.cell? ⟨b, 2, none⟩ = some u) : DBox (st3 w b S A n c E) b S A n c E := by
  obtain ⟨u0, h0⟩ := h0
  obtain ⟨u1, h1⟩ := h1
  obtain ⟨u2, h2⟩ := h2
  refine ⟨⟨?_, ?_, ?_⟩, by rw [st3_size]; exact h⟩ <;> · unfold st3; go_simp
theorem Fr3.made (h : Fr3 w b) : Fr3 (st3 w b S A n c E) b := by
  obtain ⟨⟨h0, h1, h2⟩, h3⟩ := h
  refine ⟨⟨?_, ?_, ?_⟩, by rw [st3_size]; exact h3⟩ <;> · unfold st3; go_simp
end

end Go.Proofs.Ytnecnbonnidijaa
/- Exact numbers: opposites, products, floors, tops, of the program. -/
namespace Go.Proofs.Ytnecnbonnidijaa
set_option maxRecDepth 100000
open Go.RowKit
set_option linter.unusedSimpArgs false
set_option linter.unusedVariables false

end Go.Proofs.Ytnecnbonnidijaa
/- Exact numbers: sums, comparing, of the program. -/
namespace Go.Proofs.Ytnecnbonnidijaa
set_option maxRecDepth 100000
open Go.RowKit
set_option linter.unusedSimpArgs false
set_option linter.unusedVariables false

end Go.Proofs.Ytnecnbonnidijaa
/- Multiples of a divisor added to a part of a row, of the program. -/
namespace Go.Proofs.Ytnecnbonnidijaa
set_option maxRecDepth 100000
open Go.RowKit
set_option linter.unusedSimpArgs false
set_option linter.unusedVariables false

/-- the value of cells that may be below zero -/
def VI : List Int → Int
  | [] => 0
  | x :: r => x + (Bs : Int) * VI r
end Go.Proofs.Ytnecnbonnidijaa
/- Taking a divisor off a rest: the mathematics. -/
namespace Go.Proofs.Ytnecnbonnidijaa
set_option maxRecDepth 100000
open Go.RowKit
set_option linter.unusedSimpArgs false
set_option linter.unusedVariables false

theorem VI_append : ∀ (a b : List Int), VI (a ++ b) = VI a + (Bs : Int) ^ a.length * VI b
  | [], b => by simp [VI]
  | x :: r, b => by
    have ih := VI_append r b
    rw [List.cons_append]
    simp only [VI, List.length_cons]
    rw [ih, Int.mul_add, ← Int.mul_assoc, Int.pow_succ, Int.mul_comm (Bs : Int) ((Bs : Int) ^ r.length)]
    omega
theorem pow_posI (n : Nat) : 0 < (Bs : Int) ^ n := Int.pow_pos (by rw [Bs_eq]; decide)

/-- a rest while a divisor is taken off its cells from o to o + n -/
structure Tk (ws ds : List Nat) (o n : Nat) (g : Int) (ys : List Int) : Prop where
  len : ys.length = ws.length
  far : ∀ p, p < o ∨ o + n < p → ys[p]? = (li ws)[p]?
  near : ∀ j, j < n → ∃ t : Nat, t < Bs ∧ ys[o + j]? = some (t : Int)
  val : VI (ys.drop o) = (V (ws.drop o) : Int) - g * V ds
  low : 0 ≤ g
  high : g ≤ 16777215
  over : (V (ws.drop o) : Int) < (g + 1) * V ds

section
variable {ws ds : List Nat} {o n : Nat} {g : Int} {ys : List Int}
/-- what was added -/
theorem tk_added {f : Int} {zs : List Int} (hlen : ys.length = ws.length) (hfar : ∀ p, p < o ∨ o + n < p → ys[p]? = (li ws)[p]?) (hval : VI (ys.drop o) = (V (ws.drop o) : Int) - g * V ds) (hl : zs.length = ys.length) (hv : VI zs = VI ys + (Bs : Int) ^ o * (f * V ds)) (hf : ∀ p, p < o ∨ o + n < p → zs[p]? = ys[p]?) (hn : ∀ j, j < n → ∃ t : Nat, t < Bs ∧ zs[o + j]? = some (t : Int)) (ho : o ≤ ws.length) (h0 : 0 ≤ g - f) (h1 : g - f ≤ 16777215) (h2 : (V (ws.drop o) : Int) < (g - f + 1) * V ds) : Tk ws ds o n (g - f) zs := by
  refine ⟨hl.trans hlen, fun p hp => (hf p hp).trans (hfar p hp), hn, ?_, h0, h1, h2⟩
  have e1 : zs.take o = ys.take o := by
    apply List.ext_getElem?
    intro p
    rw [List.getElem?_take, List.getElem?_take]
    split
    · exact hf p (by omega)
    · rfl
  have hz := VI_append (zs.take o) (zs.drop o)
  have hy := VI_append (ys.take o) (ys.drop o)
  rw [List.take_append_drop, List.length_take, hl, hlen, Nat.min_eq_left ho, e1] at hz
  rw [List.take_append_drop, List.length_take, hlen, Nat.min_eq_left ho] at hy
  have h3 : (Bs : Int) ^ o * VI (zs.drop o) = (Bs : Int) ^ o * (VI (ys.drop o) + f * V ds) := by rw [Int.mul_add]; omega
  have h4 := Int.eq_of_mul_eq_mul_left (Int.ne_of_gt (pow_posI o)) h3
  rw [h4, hval, Int.sub_mul]
  omega
theorem Tk.added {f : Int} {zs : List Int} (h : Tk ws ds o n g ys) (hl : zs.length = ys.length) (hv : VI zs = VI ys + (Bs : Int) ^ o * (f * V ds)) (hf : ∀ p, p < o ∨ o + n < p → zs[p]? = ys[p]?) (hn : ∀ j, j < n → ∃ t : Nat, t < Bs ∧ zs[o + j]? = some (t : Int)) (ho : o ≤ ws.length) (h0 : 0 ≤ g - f) (h1 : g - f ≤ 16777215) (h2 : (V (ws.drop o) : Int) < (g - f + 1) * V ds) : Tk ws ds o n (g - f) zs :=
  tk_added h.len h.far h.val hl hv hf hn ho h0 h1 h2
end
end Go.Proofs.Ytnecnbonnidijaa
/- Taking a divisor off a rest, of the program. -/
namespace Go.Proofs.Ytnecnbonnidijaa
set_option maxRecDepth 100000
open Go.RowKit
set_option linter.unusedSimpArgs false
set_option linter.unusedVariables false

end Go.Proofs.Ytnecnbonnidijaa
/- Quotients of limbs by one limb, of the program. -/
namespace Go.Proofs.Ytnecnbonnidijaa
set_option maxRecDepth 100000
open Go.RowKit
set_option linter.unusedSimpArgs false
set_option linter.unusedVariables false

end Go.Proofs.Ytnecnbonnidijaa
/- Quotients of limbs by greater ones, of the program. -/
namespace Go.Proofs.Ytnecnbonnidijaa
set_option maxRecDepth 100000
open Go.RowKit
set_option linter.unusedSimpArgs false
set_option linter.unusedVariables false

end Go.Proofs.Ytnecnbonnidijaa
/- Long division: the mathematics. -/
namespace Go.Proofs.Ytnecnbonnidijaa
set_option maxRecDepth 100000
open Go.RowKit
set_option linter.unusedSimpArgs false
set_option linter.unusedVariables false

/-- what is kept while the quotient's limbs are found, from the last to the first -/
structure Ld (M D i L : Nat) (ws qs : List Nat) : Prop where
  lim : Lim ws
  limq : Lim qs
  lenq : qs.length = L
  sum : V ws + Bs ^ i * (V (qs.drop i) * D) = M
  less : V (ws.drop i) < D

end Go.Proofs.Ytnecnbonnidijaa
/- Long division, of the program. -/
namespace Go.Proofs.Ytnecnbonnidijaa
set_option maxRecDepth 100000
open Go.RowKit
set_option linter.unusedSimpArgs false
set_option linter.unusedVariables false

end Go.Proofs.Ytnecnbonnidijaa
/- Quotients of limbs, of the program. -/
namespace Go.Proofs.Ytnecnbonnidijaa
set_option maxRecDepth 100000
open Go.RowKit
set_option linter.unusedSimpArgs false
set_option linter.unusedVariables false

end Go.Proofs.Ytnecnbonnidijaa
