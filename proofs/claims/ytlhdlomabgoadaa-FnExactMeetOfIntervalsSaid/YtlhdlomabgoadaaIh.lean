/- Boxes of two floats (intervals); an interval of the laws: what came in, as the program takes it, compared. -/
import Derived.Test.YtlhdlomabgoadaaIv
import Derived.Test.YtlhdlomabgoadaaBx
import Derived.Test.YtlhdlomabgoadaaSf
import Derived.Test.YtlhdlomabgoadaaLw
import Derived.Lib.SmallJoins
import Derived.Laws.StructEq
namespace Go.Proofs.Ytlhdlomabgoadaa
set_option maxRecDepth 100000
open Go.RowKit
set_option linter.unusedSimpArgs false
set_option linter.unusedVariables false

theorem ret_boolI {a b : Bool} (h : a = b) : Ending.returned (.bool a) = .returned (.bool b) := by rw [h]
theorem ret_fI {a b : Nat} (h : a = b) : Ending.returned (.float .f32 a) = .returned (.float .f32 b) := by rw [h]
/-- a box of two floats -/
def IB (w : World) (b l h : Nat) : Prop := (w.cell? ⟨b, 0, none⟩ = some (.float .f32 l) ∧ w.cell? ⟨b, 1, none⟩ = some (.float .f32 h)) ∧ b < w.heap.size
theorem IB.next {w w' : World} {b h l : Nat} (x : IB w b l h) (hb : Below w.heap.size w w') : IB w' b l h :=
  ⟨⟨(hb.cell (p := ⟨b, 0, none⟩) x.2).trans x.1.1, (hb.cell (p := ⟨b, 1, none⟩) x.2).trans x.1.2⟩, Nat.lt_of_lt_of_le x.2 hb.size⟩
theorem IB.drew {w : World} {b h l : Nat} (x : IB w b l h) : IB w.drew b l h := x
theorem IB.keep {w : World} {b h l : Nat} (x : IB w b l h) {p : Addr} (hp : p.block ≠ b) (u : Value) : IB (w.setCell p u) b l h := by
  have hk : ∀ o, (w.setCell p u).cell? ⟨b, o, none⟩ = w.cell? ⟨b, o, none⟩ := fun o => World.cell?_of_block (a := ⟨b, o, none⟩) (Below.heap_setCell _ _ _ _ (fun e => hp e.symm))
  exact ⟨⟨(hk 0).trans x.1.1, (hk 1).trans x.1.2⟩, by have := x.2; simpa using this⟩
theorem IB.new (w : World) (l h : Nat) (T : TypeId) : IB (w.alloc (.cells #[.float .f32 l, .float .f32 h] T)) w.heap.size l h := ⟨by constructor <;> simp, by simp⟩
/-- a result's box, yet untouched -/
def IR (w : World) (b : Nat) : Prop := (w.cell? ⟨b, 0, none⟩ = some (.float .f32 0) ∧ w.cell? ⟨b, 1, none⟩ = some (.float .f32 0) ∧ w.frozen? ⟨b, 0, none⟩ = false ∧ w.frozen? ⟨b, 1, none⟩ = false) ∧ b < w.heap.size
theorem IR.next {w w' : World} {b : Nat} (h : IR w b) (hb : Below w.heap.size w w') : IR w' b :=
  ⟨⟨(hb.cell (p := ⟨b, 0, none⟩) h.2).trans h.1.1, (hb.cell (p := ⟨b, 1, none⟩) h.2).trans h.1.2.1, (hb.frozen (p := ⟨b, 0, none⟩) h.2).trans h.1.2.2.1, (hb.frozen (p := ⟨b, 1, none⟩) h.2).trans h.1.2.2.2⟩, Nat.lt_of_lt_of_le h.2 hb.size⟩
theorem IR.drew {w : World} {b : Nat} (h : IR w b) : IR w.drew b := h
theorem IR.new (w : World) (t : TypeId) : IR (w.alloc (.cells #[.float .f32 0, .float .f32 0] t)) w.heap.size := by
  refine ⟨⟨?_, ?_, ?_, ?_⟩, ?_⟩
  · simp
  · simp
  · go_simp
  · go_simp
  · simp
theorem ib_0 (w : World) : ∃ W, W = w ∧ Below w.heap.size w W := ⟨w, rfl, Below.refl _ _⟩
theorem ib_1 (w : World) (l h : Nat) (T : TypeId) : ∃ W, W = w.alloc (.cells #[.float .f32 l, .float .f32 h] T) ∧ IB W w.heap.size l h ∧ Below w.heap.size w W := ⟨_, rfl, IB.new _ _ _ _, belAlloc1 _ _⟩
theorem ib_2 (w : World) (l h l' h' : Nat) (T : TypeId) : ∃ W, W = (w.alloc (.cells #[.float .f32 l, .float .f32 h] T)).alloc (.cells #[.float .f32 l', .float .f32 h'] T) ∧ IB W w.heap.size l h ∧ IB W (w.heap.size + 1) l' h' ∧ Below w.heap.size w W := by
  obtain ⟨u, h1, h2, h3⟩ := ib_1 w l h T
  obtain ⟨v, g1, g2, g3⟩ := ib_1 u l' h' T
  have s : u.heap.size = w.heap.size + 1 := by rw [h1]; simp
  exact ⟨v, by rw [g1, h1], h2.next g3, by rw [← s]; exact g2, belNext h3 g3⟩
theorem ib_0r (w : World) (R : TypeId) : ∃ W, W = w.alloc (.cells #[.float .f32 0, .float .f32 0] R) ∧ IR W w.heap.size ∧ Below w.heap.size w W := ⟨_, rfl, IR.new _ _, belAlloc1 _ _⟩
theorem ib_1r (w : World) (l h : Nat) (T R : TypeId) : ∃ W, W = (w.alloc (.cells #[.float .f32 l, .float .f32 h] T)).alloc (.cells #[.float .f32 0, .float .f32 0] R) ∧ IB W w.heap.size l h ∧ IR W (w.heap.size + 1) ∧ Below w.heap.size w W := by
  obtain ⟨u, h1, h2, h3⟩ := ib_1 w l h T
  obtain ⟨v, g1, g2, g3⟩ := ib_0r u R
  have s : u.heap.size = w.heap.size + 1 := by rw [h1]; simp
  exact ⟨v, by rw [g1, h1], h2.next g3, by rw [← s]; exact g2, belNext h3 g3⟩
theorem ib_2r (w : World) (l h l' h' : Nat) (T R : TypeId) : ∃ W, W = ((w.alloc (.cells #[.float .f32 l, .float .f32 h] T)).alloc (.cells #[.float .f32 l', .float .f32 h'] T)).alloc (.cells #[.float .f32 0, .float .f32 0] R) ∧ IB W w.heap.size l h ∧ IB W (w.heap.size + 1) l' h' ∧ IR W (w.heap.size + 2) ∧ Below w.heap.size w W := by
  obtain ⟨u, h1, h2, h4, h3⟩ := ib_2 w l h l' h' T
  obtain ⟨v, g1, g2, g3⟩ := ib_0r u R
  have s : u.heap.size = w.heap.size + 2 := by rw [h1]; simp
  exact ⟨v, by rw [g1, h1], h2.next g3, h4.next g3, by rw [← s]; exact g2, belNext h3 g3⟩
theorem run_equalIn_f32I {P : Program} (d : Nat) (t : TypeId) (a b : Nat) (w : World) (h : P.underlying t = some (.float .f32)) : (Op.equalIn (d + 1) t (.float .f32 a) (.float .f32 b)).run P w = .ok (FloatKind.f32.format.order a b == some .eq) w := by
  simp [Op.equalIn, run_underlying h]
  rfl
theorem iv_fields : ∃ f g : Field, (Try.prog.fieldsOf 26).toList = [f, g] ∧ f.name ≠ "_" ∧ g.name ≠ "_" ∧ f.type = 22 ∧ g.type = 22 ∧ f.offset = 0 ∧ g.offset = 1 :=
  ⟨_, _, rfl, by decide, by decide, rfl, rfl, rfl, rfl⟩
/-- two intervals compared -/
theorem run_iv_eql (a b c d : Nat) (w : World) : (binOp .eql 26 (.agg #[.float .f32 a, .float .f32 b]) (.agg #[.float .f32 c, .float .f32 d])).run Try.prog w = .ok (.bool ((FloatKind.f32.format.order a c == some .eq) && (FloatKind.f32.format.order b d == some .eq))) w := by
  rw [run_eql_struct, run_equalIn_agg w 9999 26 _ _ (by kernel_rfl) (by kernel_rfl)]
  obtain ⟨f, g, h, n1, n2, t1, t2, o1, o2⟩ := iv_fields
  rw [h]
  have hu : Try.prog.underlying 22 = some (.float .f32) := Try.underlying22
  have hp : ∀ (x y : Nat) (w : World), (part 22 #[.float .f32 x, .float .f32 y] 0).run Try.prog w = .ok (.float .f32 x) w := fun x y w => by go_simp
  have hq : ∀ (x y : Nat) (w : World), (part 22 #[.float .f32 x, .float .f32 y] 1).run Try.prog w = .ok (.float .f32 y) w := fun x y w => by go_simp
  have e1 := fun w => run_equalIn_f32I (P := Try.prog) 9998 22 a c w hu
  have e2 := fun w => run_equalIn_f32I (P := Try.prog) 9998 22 b d w hu
  generalize (FloatKind.f32.format.order a c == some .eq) = p at *
  generalize (FloatKind.f32.format.order b d == some .eq) = q at *
  simp only [Op.eqFields, n1, n2, t1, t2, o1, o2, ne_eq, not_false_eq_true, if_true, Sem.run_bind, hp, hq, Result.andThen_ok, e1]
  cases p <;> simp [Sem.run_pure, hp, hq, e2]
  cases q <;> simp
set_option maxHeartbeats 1000000 in
theorem toIv_any (h l : Nat) (w : World) : Calls Try.prog 14 #[.agg #[.float .f32 h, .float .f32 l]] w fun e w' => e = .returned (.agg #[.float .f32 h, .float .f32 l]) ∧ Below w.heap.size w w' := by
  have hst := store_float Try.prog
  go_enter Try.func14, Try.ntmps14
  go_wp2_with fail
  refine bodyPost_ret (v := .agg #[.float .f32 h, .float .f32 l]) (by simp [results, Try.results14, go_sem]) rfl ⟨rfl, ?_⟩
  repeat (first | exact Below.refl _ _ | refine Below.alloc ?_ (by first | (simp; done) | (simp; omega)) _ | refine Below.setCell ?_ (by first | (simp; done) | (simp; omega)) _)
section
open Go.ChangeShapes Go.WideShapes Go.ChangeAt Go.Deep
variable {H : Type} {enc : TypeId × Value → H}
/-- an interval of the laws that came in -/
theorem open_iv {W : World} {base : Nat} {v : Value} {d : DataW H} {p : List MemPlace} (hval : Value.okWide Try.prog W .any base 24 v)
    (h : DataW.Trod enc Try.prog W 0 (fun _ => true) true 24 v d p) :
    ∃ (x y : Nat), v = .agg #[.float .f32 x, .float .f32 y] ∧ x < 4294967296 ∧ y < 4294967296 := by
  obtain ⟨v0, v1, y0, y1, m, rfl, _, _, h0, h1⟩ := Go.Joins.open_agg2 Try.underlying24 (by kernel_rfl) (by kernel_rfl) hval h
  obtain ⟨x, rfl, hx⟩ := trod_float Try.underlying22 h0
  obtain ⟨y, rfl, hy⟩ := trod_float Try.underlying22 h1
  simp only [Lit.wf, decide_eq_true_eq] at hx hy
  exact ⟨x, y, rfl, hx, hy⟩
end
set_option maxHeartbeats 1000000 in
theorem eqIv_yes (h l : Nat) (w : World) (hh : h < 4294967296 ∧ nan32 h = false) (hl : l < 4294967296 ∧ nan32 l = false) :
    Calls Try.prog 18 #[.agg #[.float .f32 h, .float .f32 l], .agg #[.float .f32 h, .float .f32 l]] w fun e w' => e = .returned (.bool true) ∧ Below w.heap.size w w' := by
  obtain ⟨c, hc, hcv⟩ := conv_yes h hh.1 hh.2
  obtain ⟨d, hd, hdv⟩ := conv_yes l hl.1 hl.2
  have Hcd := Lib.hid (And.intro hc hd)
  obtain ⟨w1, hw1⟩ : ∃ w1, w1 = (w.alloc (.cells #[.float .f32 h, .float .f32 l] 26)).alloc (.cells #[.float .f32 h, .float .f32 l] 26) := ⟨_, rfl⟩
  have P1 : Hid (IB w1 w.heap.size h l) := Lib.hid (by rw [hw1]; exact (IB.new _ _ _ _).next (belAlloc1 _ _))
  have P2 : Hid (IB w1 (w.heap.size + 1) h l) := Lib.hid (by rw [hw1]; have h := IB.new (w.alloc (.cells #[.float .f32 h, .float .f32 l] 26)) h l 26; simpa using h)
  have Bel1 : Hid (Below w.heap.size w w1) := Lib.hid (by rw [hw1]; exact belNext (belAlloc1 _ _) (belAlloc1 _ _))
  have Hw := Lib.hid hw1
  clear hh hl hw1 hc hd
  obtain ⟨⟨p0, p1⟩, p2⟩ := P1.out
  obtain ⟨⟨q0, q1⟩, q2⟩ := P2.out
  go_enter Try.func18, Try.ntmps18
  go_wp2_with fail
  rw [← Hw.out]
  refine (same_yes c _ Hcd.out.1).mono ?_
  rintro e w9 ⟨rfl, rfl⟩
  go_wp2_with fail
  refine (same_yes d _ Hcd.out.2).mono ?_
  rintro e w9 ⟨rfl, rfl⟩
  go_wp2_with fail
  go_ret
  exact ⟨rfl, Bel1.out⟩
end Go.Proofs.Ytlhdlomabgoadaa
