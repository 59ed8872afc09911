/- Whole and exact numbers as values and in boxes; the table of Go's library. -/
import Derived.Test.YtnnoobdcdfcdaaaSc
import Derived.Test.YtnnoobdcdfcdaaaTz
import Derived.Shelf.Spec.TrailingZeros
namespace Go.Proofs.Ytnnoobdcdfcdaaa
set_option maxRecDepth 100000
open Go.RowKit
set_option linter.unusedSimpArgs false
set_option linter.unusedVariables false

/-- a value's parts that are the whole number z, its limbs to be read -/
def ZV (w : World) (z S : Int) (A : Option Addr) (n c : Nat) : Prop := S = z.sign ∧ (limbs z.natAbs).length = n ∧ n ≤ c ∧ Rd w w.heap.size A (vs (limbs z.natAbs))
/-- .. its limbs a row of the call's own -/
def ZO (w : World) (lo hi : Nat) (z S : Int) (A : Option Addr) (n c : Nat) : Prop := S = z.sign ∧ (limbs z.natAbs).length = n ∧ n ≤ c ∧ Ow w lo hi A (vs (limbs z.natAbs)) ∧ hi ≤ w.heap.size
section
variable {w w' : World} {z S : Int} {A : Option Addr} {n c lo hi : Nat}
theorem ZV.next (h : ZV w z S A n c) (hb : Below w.heap.size w w') : ZV w' z S A n c := ⟨h.1, h.2.1, h.2.2.1, (h.2.2.2.below hb).up hb.size⟩
theorem ZV.drew (h : ZV w z S A n c) : ZV w.drew z S A n c := h
theorem sg_sign (z : Int) : Sg z.sign z.natAbs := by
  refine ⟨?_, ?_, ?_⟩
  · rcases Int.lt_trichotomy z 0 with h | h | h
    · rw [Int.sign_eq_neg_one_of_neg h]; omega
    · subst h; simp
    · rw [Int.sign_eq_one_of_pos h]; omega
  · rcases Int.lt_trichotomy z 0 with h | h | h
    · rw [Int.sign_eq_neg_one_of_neg h]; omega
    · subst h; simp
    · rw [Int.sign_eq_one_of_pos h]; omega
  · rw [Int.sign_eq_zero_iff_zero]; omega
theorem ZV.sg (h : ZV w z S A n c) : Sg S z.natAbs := by rw [h.1]; exact sg_sign z
theorem ZV.val (h : ZV w z S A n c) : S * (z.natAbs : Int) = z := by rw [h.1]; exact Int.sign_mul_natAbs z
theorem ZV.len (h : ZV w z S A n c) : (limbs z.natAbs).length = n := h.2.1
theorem ZV.rd (h : ZV w z S A n c) : Rd w w.heap.size A (vs (limbs z.natAbs)) := h.2.2.2
theorem ZV.cap (h : ZV w z S A n c) : n ≤ c := h.2.2.1
theorem ZV.neg (h : ZV w z S A n c) : ZV w (-z) (-S) A n c := by
  refine ⟨?_, ?_, h.2.2.1, ?_⟩
  · rw [Int.sign_neg, h.1]
  · rw [Int.natAbs_neg]; exact h.2.1
  · rw [Int.natAbs_neg]; exact h.2.2.2
theorem ZV.cast_ {z' : Int} (h : ZV w z S A n c) (e : z = z') : ZV w z' S A n c := e ▸ h
theorem ZO.zv (h : ZO w lo hi z S A n c) : ZV w z S A n c := ⟨h.1, h.2.1, h.2.2.1, h.2.2.2.1.rd.up h.2.2.2.2⟩
theorem ZO.cast_ {z' : Int} (h : ZO w lo hi z S A n c) (e : z = z') : ZO w lo hi z' S A n c := e ▸ h
theorem ZO.next (h : ZO w lo hi z S A n c) (hb : Below w.heap.size w w') : ZO w' lo hi z S A n c := ⟨h.1, h.2.1, h.2.2.1, h.2.2.2.1.below' hb, Nat.le_trans h.2.2.2.2 hb.size⟩
theorem ZO.wide {lo' hi' : Nat} (h : ZO w lo hi z S A n c) (h1 : lo' ≤ lo) (h2 : hi ≤ hi') (h3 : hi' ≤ w.heap.size) : ZO w lo' hi' z S A n c := ⟨h.1, h.2.1, h.2.2.1, h.2.2.2.1.wide h1 h2, h3⟩
theorem ZO.setCell (h : ZO w lo hi z S A n c) {p : Addr} (hp : p.block < lo ∨ hi ≤ p.block) (u : Value) : ZO (w.setCell p u) lo hi z S A n c := ⟨h.1, h.2.1, h.2.2.1, h.2.2.2.1.setCell hp u, by have := h.2.2.2.2; simpa using this⟩
theorem ZO.alloc (h : ZO w lo hi z S A n c) (o : Obj) : ZO (w.alloc o) lo hi z S A n c := h.next (belAlloc1 w o)
theorem ZO.drew (h : ZO w lo hi z S A n c) : ZO w.drew lo hi z S A n c := h
theorem ZO.zero (h : hi ≤ w.heap.size) : ZO w lo hi 0 0 none 0 0 := ⟨by simp, by simp [limbs_zero], Nat.le_refl _, by simp [limbs_zero, vs, li, vi]; exact .inl rfl, h⟩
theorem ZV.zero : ZV w 0 0 none 0 0 := ⟨by simp, by simp [limbs_zero], Nat.le_refl _, by simp [limbs_zero, vs, li, vi]; exact Rd.nil_⟩
theorem Wz.zo {val : Value} (h : Wz w lo hi z val) (hi_ : hi ≤ w.heap.size) : ∃ S A n c, val = .agg #[.int .i64 S, .slice A n c] ∧ ZO w lo hi z S A n c := by
  obtain ⟨A, c, h1, h2, h3⟩ := h
  exact ⟨_, A, _, c, h1, rfl, rfl, h3, h2, hi_⟩
theorem ZO.wz (h : ZO w lo hi z S A n c) : Wz w lo hi z (.agg #[.int .i64 S, .slice A n c]) := by
  obtain ⟨h1, h2, h3, h4, _⟩ := h
  exact ⟨A, c, by rw [h1, h2], h4, by rw [h2]; exact h3⟩
end

/-- an exact number's box -/
def DBox (w : World) (b : Nat) (S : Int) (A : Option Addr) (n c : Nat) (E : Int) : Prop := (w.cell? ⟨b, 0, none⟩ = some (.int .i64 S) ∧ w.cell? ⟨b, 1, none⟩ = some (.slice A n c) ∧ w.cell? ⟨b, 2, none⟩ = some (.int .i64 E)) ∧ b < w.heap.size
/-- a result's box, yet untouched -/
def DRes (w : World) (b : Nat) : Prop := (w.cell? ⟨b, 0, none⟩ = some (.int .i64 0) ∧ w.cell? ⟨b, 1, none⟩ = some (.slice none 0 0) ∧ w.cell? ⟨b, 2, none⟩ = some (.int .i64 0) ∧ w.frozen? ⟨b, 0, none⟩ = false ∧ w.frozen? ⟨b, 1, none⟩ = false ∧ w.frozen? ⟨b, 2, none⟩ = false) ∧ b < w.heap.size
section
variable {w w' : World} {S E : Int} {A : Option Addr} {n c b : Nat}
theorem DBox.next (h : DBox w b S A n c E) (hb : Below w.heap.size w w') : DBox w' b S A n c E :=
  ⟨⟨(hb.cell (p := ⟨b, 0, none⟩) h.2).trans h.1.1, (hb.cell (p := ⟨b, 1, none⟩) h.2).trans h.1.2.1, (hb.cell (p := ⟨b, 2, none⟩) h.2).trans h.1.2.2⟩, Nat.lt_of_lt_of_le h.2 hb.size⟩
theorem DRes.next (h : DRes w b) (hb : Below w.heap.size w w') : DRes w' b :=
  ⟨⟨(hb.cell (p := ⟨b, 0, none⟩) h.2).trans h.1.1, (hb.cell (p := ⟨b, 1, none⟩) h.2).trans h.1.2.1, (hb.cell (p := ⟨b, 2, none⟩) h.2).trans h.1.2.2.1, (hb.frozen (p := ⟨b, 0, none⟩) h.2).trans h.1.2.2.2.1, (hb.frozen (p := ⟨b, 1, none⟩) h.2).trans h.1.2.2.2.2.1, (hb.frozen (p := ⟨b, 2, none⟩) h.2).trans h.1.2.2.2.2.2⟩, Nat.lt_of_lt_of_le h.2 hb.size⟩
theorem DBox.drew (h : DBox w b S A n c E) : DBox w.drew b S A n c E := h
theorem DRes.drew (h : DRes w b) : DRes w.drew b := h
theorem DBox.keep (h : DBox w b S A n c E) {p : Addr} (hp : p.block ≠ b) (u : Value) : DBox (w.setCell p u) b S A n c E := by
  have hk : ∀ o, (w.setCell p u).cell? ⟨b, o, none⟩ = w.cell? ⟨b, o, none⟩ := fun o => World.cell?_of_block (a := ⟨b, o, none⟩) (Below.heap_setCell _ _ _ _ (fun e => hp e.symm))
  exact ⟨⟨(hk 0).trans h.1.1, (hk 1).trans h.1.2.1, (hk 2).trans h.1.2.2⟩, by have := h.2; simpa using this⟩
theorem DBox.new (w : World) (S : Int) (A : Option Addr) (n c : Nat) (E : Int) (t : TypeId) : DBox (w.alloc (.cells #[.int .i64 S, .slice A n c, .int .i64 E] t)) w.heap.size S A n c E := by
  refine ⟨⟨?_, ?_, ?_⟩, ?_⟩ <;> simp
theorem DRes.new (w : World) (t : TypeId) : DRes (w.alloc (.cells #[.int .i64 0, .slice none 0 0, .int .i64 0] t)) w.heap.size := by
  refine ⟨⟨?_, ?_, ?_, ?_, ?_, ?_⟩, ?_⟩
  · simp
  · simp
  · simp
  · go_simp
  · go_simp
  · go_simp
  · simp
end
/-- the boxes of one argument and of the result -/
theorem dbox_res (w : World) (S : Int) (A : Option Addr) (n c : Nat) (E : Int) (t t2 : TypeId) :
    ∃ W, W = (w.alloc (.cells #[.int .i64 S, .slice A n c, .int .i64 E] t)).alloc (.cells #[.int .i64 0, .slice none 0 0, .int .i64 0] t2) ∧
      DBox W w.heap.size S A n c E ∧ DRes W (w.heap.size + 1) ∧ Below w.heap.size w W := by
  refine ⟨_, rfl, (DBox.new w S A n c E t).next (belAlloc1 _ _), ?_, ?_⟩
  · have h := DRes.new (w.alloc (.cells #[.int .i64 S, .slice A n c, .int .i64 E] t)) t2
    simpa using h
  · exact belNext (belAlloc1 _ _) (belAlloc1 _ _)
/-- of two arguments and of the result -/
theorem dbox2_res (w : World) (S S' : Int) (A A' : Option Addr) (n n' c c' : Nat) (E E' : Int) (t t' t2 : TypeId) :
    ∃ W, W = ((w.alloc (.cells #[.int .i64 S, .slice A n c, .int .i64 E] t)).alloc (.cells #[.int .i64 S', .slice A' n' c', .int .i64 E'] t')).alloc (.cells #[.int .i64 0, .slice none 0 0, .int .i64 0] t2) ∧
      DBox W w.heap.size S A n c E ∧ DBox W (w.heap.size + 1) S' A' n' c' E' ∧ DRes W (w.heap.size + 1 + 1) ∧ Below w.heap.size w W := by
  refine ⟨_, rfl, ((DBox.new w S A n c E t).next (belAlloc1 _ _)).next (belAlloc1 _ _), ?_, ?_, ?_⟩
  · have h := (DBox.new (w.alloc (.cells #[.int .i64 S, .slice A n c, .int .i64 E] t)) S' A' n' c' E' t').next (belAlloc1 _ (.cells #[.int .i64 0, .slice none 0 0, .int .i64 0] t2))
    simpa using h
  · have h := DRes.new ((w.alloc (.cells #[.int .i64 S, .slice A n c, .int .i64 E] t)).alloc (.cells #[.int .i64 S', .slice A' n' c', .int .i64 E'] t')) t2
    simpa using h
  · exact belNext (belNext (belAlloc1 _ _) (belAlloc1 _ _)) (belAlloc1 _ _)
/-- of two arguments -/
theorem dbox2 (w : World) (S S' : Int) (A A' : Option Addr) (n n' c c' : Nat) (E E' : Int) (t t' : TypeId) :
    ∃ W, W = (w.alloc (.cells #[.int .i64 S, .slice A n c, .int .i64 E] t)).alloc (.cells #[.int .i64 S', .slice A' n' c', .int .i64 E'] t') ∧
      DBox W w.heap.size S A n c E ∧ DBox W (w.heap.size + 1) S' A' n' c' E' ∧ Below w.heap.size w W := by
  refine ⟨_, rfl, (DBox.new w S A n c E t).next (belAlloc1 _ _), ?_, ?_⟩
  · have h := DBox.new (w.alloc (.cells #[.int .i64 S, .slice A n c, .int .i64 E] t)) S' A' n' c' E' t'
    simpa using h
  · exact belNext (belAlloc1 _ _) (belAlloc1 _ _)

theorem ctzFrom_tz : ∀ (f x : Nat), x ≠ 0 → x < 2 ^ f → Lib.ctzFrom f x = tz x
  | 0, x, h0, h => by simp at h; omega
  | f + 1, x, h0, h => by
    unfold Lib.ctzFrom
    split
    · rename_i h1; rw [tz_odd h1]
    · rename_i h1
      rw [tz_even h0 (by omega), ctzFrom_tz f (x / 2) (by omega) (by rw [Nat.pow_succ] at h; omega)]
      omega
theorem ctz_tz {x : Nat} (h0 : x ≠ 0) (h : x < 18446744073709551616) : Lib.ctz 64 x = tz x := by
  have e : Lib.ctz 64 x = Lib.ctzFrom 64 x := by simp [Lib.ctz, h0]
  rw [e, ctzFrom_tz 64 x h0 (by omega)]

end Go.Proofs.Ytnnoobdcdfcdaaa
