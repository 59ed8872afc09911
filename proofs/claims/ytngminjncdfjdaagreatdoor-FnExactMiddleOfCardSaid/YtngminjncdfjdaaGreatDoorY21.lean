/- Texts of this seat, joined: Fq Nx Iv Ih Is Ii Ij Ik Iq Il -/
import Derived.Test.YtngminjncdfjdaaGreatDoorY2
import Derived.Test.YtngminjncdfjdaaGreatDoorY1
import Derived.Lib.SmallJoins
import Derived.Laws.StructEq
import Derived.Deep.RegionHeld3
import Derived.Deep.QuietTactic
import Derived.Deep.Cut
import Derived.Laws.Externs
/- The walks of FloatAtPlace, of the model and of the program. -/
namespace Go.Proofs.YtngminjncdfjdaaGreatDoor
set_option maxRecDepth 100000
open Go.RowKit

end Go.Proofs.YtngminjncdfjdaaGreatDoor
/- The walks of the neighbours: the model's step and the program's. -/
namespace Go.Proofs.YtngminjncdfjdaaGreatDoor
set_option maxRecDepth 100000
open Go.RowKit

/-- the place beside a float's -/
def beside (b : Nat) (s : Int) : Int := if 2139095040 < place32 b + s then 2139095040 else if place32 b + s < -2139095040 then -2139095040 else place32 b + s

end Go.Proofs.YtngminjncdfjdaaGreatDoor
/- Intervals: their ends as words, what an interval is, the lesser and the greater of two ends, the opposite. -/
namespace Go.Proofs.YtngminjncdfjdaaGreatDoor
set_option maxRecDepth 100000
open Go.RowKit
set_option linter.unusedSimpArgs false
set_option linter.unusedVariables false

/-- neither NaN nor -0 -/
def pl32 (b : Nat) : Bool := !nan32 b && decide (b ≠ 2147483648)
def isI (l h : Nat) : Bool := pl32 l && pl32 h && decide (place32 l ≤ place32 h) && decide (place32 l < 2139095040) && decide (-2139095040 < place32 h)
/-- a word that is an end -/
def Pl (b : Nat) : Prop := b < 4294967296 ∧ nan32 b = false ∧ b ≠ 2147483648
theorem Pl.mk' {b : Nat} (hb : b < 4294967296) (h : pl32 b = true) : Pl b := by
  unfold pl32 at h
  simp only [Bool.and_eq_true, Bool.not_eq_true', decide_eq_true_eq] at h
  exact ⟨hb, h.1, h.2⟩
theorem Pl.pl {b : Nat} (h : Pl b) : pl32 b = true := by
  unfold pl32
  rw [h.2.1, decide_eq_true h.2.2]; rfl
theorem isI_facts {l h : Nat} (hl : l < 4294967296) (hh : h < 4294967296) (x : isI l h = true) : Pl l ∧ Pl h ∧ place32 l ≤ place32 h ∧ place32 l < 2139095040 ∧ -2139095040 < place32 h := by
  unfold isI at x
  simp only [Bool.and_eq_true, decide_eq_true_eq] at x
  exact ⟨Pl.mk' hl x.1.1.1.1, Pl.mk' hh x.1.1.1.2, x.1.1.2, x.1.2, x.2⟩
theorem place32_val (b : Nat) : place32 b = if 2147483648 ≤ b then -((b % 2147483648 : Nat) : Int) else ((b % 2147483648 : Nat) : Int) := by
  unfold place32
  by_cases h : 2147483648 ≤ b
  · rw [decide_eq_true h, if_pos rfl, if_pos h]
  · rw [decide_eq_false h, if_neg (by simp), if_neg h]
theorem Pl.inj {a b : Nat} (ha : Pl a) (hb : Pl b) (h : place32 a = place32 b) : a = b := by
  rw [place32_val, place32_val] at h
  obtain ⟨a1, a2, a3⟩ := ha
  obtain ⟨b1, b2, b3⟩ := hb
  split at h <;> split at h <;> omega
theorem place32_inf : place32 2139095040 = 2139095040 := by decide
theorem place32_minf : place32 4286578688 = -2139095040 := by decide
theorem Pl.zero : Pl 0 := by refine ⟨by omega, by decide, by omega⟩
theorem Pl.inf : Pl 2139095040 := by refine ⟨by omega, by decide, by omega⟩
theorem Pl.minf : Pl 4286578688 := by refine ⟨by omega, by decide, by omega⟩
theorem le32 (b c : Nat) (hb : b < 4294967296) (hc : c < 4294967296) (nb : nan32 b = false) (nc : nan32 c = false) : ((FloatKind.f32.format.order b c == some .lt) || (FloatKind.f32.format.order b c == some .eq)) = decide (place32 b ≤ place32 c) := by
  rw [lt32 b c hb hc nb nc, eq32 b c hb hc nb nc, Bool.eq_iff_iff]
  simp only [Bool.or_eq_true, decide_eq_true_eq]
  omega
/-- the lesser and the greater of two ends -/
def mn (a b : Nat) : Nat := if place32 b < place32 a then b else a
def mx (a b : Nat) : Nat := if place32 a < place32 b then b else a
/-- the opposite of a word -/
def ng (b : Nat) : Nat := if 2147483648 ≤ b then b - 2147483648 else b + 2147483648
theorem neg_ng (b : Nat) (hb : b < 4294967296) : Op.negFloat .f32 b = ng b := negFloat32 b hb
theorem neg_op (b : Nat) (hb : b < 4294967296) : Op.unary .neg (.float .f32 b) = pure (.float .f32 (ng b)) := by
  rw [← neg_ng b hb]; rfl
theorem neg_inf : Op.unary .neg (.float .f32 2139095040) = pure (.float .f32 4286578688) := by
  rw [neg_op _ (by omega)]; rfl
theorem ng_lt {b : Nat} (hb : b < 4294967296) : ng b < 4294967296 := by unfold ng; split <;> omega
theorem ng_nan {b : Nat} (hb : b < 4294967296) : nan32 (ng b) = nan32 b := by
  unfold nan32 ng
  rw [decide_eq_decide]
  split <;> omega
theorem ng_place {b : Nat} (hb : b < 4294967296) : place32 (ng b) = -place32 b := by
  rw [place32_val, place32_val]
  unfold ng
  split <;> split <;> omega
/-- 0 in the place of -0 -/
def wz (b : Nat) : Nat := if b % 2147483648 = 0 then 0 else b
theorem wz_lt {b : Nat} (hb : b < 4294967296) : wz b < 4294967296 := by unfold wz; split <;> omega
theorem wz_nan (b : Nat) : nan32 (wz b) = nan32 b := by
  unfold wz
  split
  · rename_i h; unfold nan32; rw [decide_eq_decide]; omega
  · rfl
theorem wz_pl {b : Nat} (hb : b < 4294967296) (hn : nan32 b = false) : Pl (wz b) := by
  refine ⟨wz_lt hb, by rw [wz_nan]; exact hn, ?_⟩
  unfold wz; split <;> omega
theorem wz_place (b : Nat) : place32 (wz b) = place32 b := by
  unfold wz
  split
  · rename_i h
    rw [place32_val, place32_val]
    split <;> split <;> omega
  · rfl
theorem wz_id {b : Nat} (h : Pl b) : wz b = b := by
  unfold wz
  obtain ⟨h1, h2, h3⟩ := h
  split <;> omega
/-- the opposite of an end -/
def opp (b : Nat) : Nat := wz (ng b)
theorem opp_pl {b : Nat} (h : Pl b) : Pl (opp b) := wz_pl (ng_lt h.1) (by rw [ng_nan h.1]; exact h.2.1)
theorem opp_place {b : Nat} (h : Pl b) : place32 (opp b) = -place32 b := by unfold opp; rw [wz_place, ng_place h.1]
theorem eqz32' (b : Nat) (hb : b < 4294967296) : (FloatKind.f32.format.order b 0 == some .eq) = decide (b % 2147483648 = 0) := by
  by_cases hn : nan32 b = true
  · rw [nan32_cmp b 0 .eq (.inl hn)]
    unfold nan32 at hn
    have := of_decide_eq_true hn
    exact (decide_eq_false (by omega)).symm
  · rw [eq_zero32 b hb (by simpa using hn), decide_eq_decide]
    rcases place_cases b with ⟨h1, h2⟩ | ⟨h1, h2⟩ <;> omega
end Go.Proofs.YtngminjncdfjdaaGreatDoor
/- Boxes of two floats (intervals); an interval of the laws: what came in, as the program takes it, compared. -/
namespace Go.Proofs.YtngminjncdfjdaaGreatDoor
set_option maxRecDepth 100000
open Go.RowKit
set_option linter.unusedSimpArgs false
set_option linter.unusedVariables false

theorem ret_boolI {a b : Bool} (h : a = b) : Ending.returned (.bool a) = .returned (.bool b) := by rw [h]
/-- a box of two floats -/
def IB (w : World) (b l h : Nat) : Prop := (w.cell? ⟨b, 0, none⟩ = some (.float .f32 l) ∧ w.cell? ⟨b, 1, none⟩ = some (.float .f32 h)) ∧ b < w.heap.size
theorem IB.next {w w' : World} {b h l : Nat} (x : IB w b l h) (hb : Below w.heap.size w w') : IB w' b l h :=
  ⟨⟨(hb.cell (p := ⟨b, 0, none⟩) x.2).trans x.1.1, (hb.cell (p := ⟨b, 1, none⟩) x.2).trans x.1.2⟩, Nat.lt_of_lt_of_le x.2 hb.size⟩
theorem IB.drew {w : World} {b h l : Nat} (x : IB w b l h) : IB w.drew b l h := x
theorem IB.keep {w : World} {b h l : Nat} (x : IB w b l h) {p : Addr} (hp : p.block ≠ b) (u : Value) : IB (w.setCell p u) b l h := by
  have hk : ∀ o, (w.setCell p u).cell? ⟨b, o, none⟩ = w.cell? ⟨b, o, none⟩ := fun o => World.cell?_of_block (a := ⟨b, o, none⟩) (Below.heap_setCell _ _ _ _ (fun e => hp e.symm))
  exact ⟨⟨(hk 0).trans x.1.1, (hk 1).trans x.1.2⟩, by have := x.2; simpa using this⟩
theorem IB.new (w : World) (l h : Nat) (T : TypeId) : IB (w.alloc (.cells #[.float .f32 l, .float .f32 h] T)) w.heap.size l h := ⟨by constructor <;> simp, by simp⟩
/-- a result's box, yet untouched -/
def IR (w : World) (b : Nat) : Prop := (w.cell? ⟨b, 0, none⟩ = some (.float .f32 0) ∧ w.cell? ⟨b, 1, none⟩ = some (.float .f32 0) ∧ w.frozen? ⟨b, 0, none⟩ = false ∧ w.frozen? ⟨b, 1, none⟩ = false) ∧ b < w.heap.size
theorem IR.next {w w' : World} {b : Nat} (h : IR w b) (hb : Below w.heap.size w w') : IR w' b :=
  ⟨⟨(hb.cell (p := ⟨b, 0, none⟩) h.2).trans h.1.1, (hb.cell (p := ⟨b, 1, none⟩) h.2).trans h.1.2.1, (hb.frozen (p := ⟨b, 0, none⟩) h.2).trans h.1.2.2.1, (hb.frozen (p := ⟨b, 1, none⟩) h.2).trans h.1.2.2.2⟩, Nat.lt_of_lt_of_le h.2 hb.size⟩
theorem IR.drew {w : World} {b : Nat} (h : IR w b) : IR w.drew b := h
theorem IR.new (w : World) (t : TypeId) : IR (w.alloc (.cells #[.float .f32 0, .float .f32 0] t)) w.heap.size := by
  refine ⟨⟨?_, ?_, ?_, ?_⟩, ?_⟩
  · simp
  · simp
  · go_simp
  · go_simp
  · simp
theorem ib_1 (w : World) (l h : Nat) (T : TypeId) : ∃ W, W = w.alloc (.cells #[.float .f32 l, .float .f32 h] T) ∧ IB W w.heap.size l h ∧ Below w.heap.size w W := ⟨_, rfl, IB.new _ _ _ _, belAlloc1 _ _⟩
theorem ib_2 (w : World) (l h l' h' : Nat) (T : TypeId) : ∃ W, W = (w.alloc (.cells #[.float .f32 l, .float .f32 h] T)).alloc (.cells #[.float .f32 l', .float .f32 h'] T) ∧ IB W w.heap.size l h ∧ IB W (w.heap.size + 1) l' h' ∧ Below w.heap.size w W := by
  obtain ⟨u, h1, h2, h3⟩ := ib_1 w l h T
  obtain ⟨v, g1, g2, g3⟩ := ib_1 u l' h' T
  have s : u.heap.size = w.heap.size + 1 := by rw [h1]; simp
  exact ⟨v, by rw [g1, h1], h2.next g3, by rw [← s]; exact g2, belNext h3 g3⟩
theorem ib_0r (w : World) (R : TypeId) : ∃ W, W = w.alloc (.cells #[.float .f32 0, .float .f32 0] R) ∧ IR W w.heap.size ∧ Below w.heap.size w W := ⟨_, rfl, IR.new _ _, belAlloc1 _ _⟩
theorem ib_1r (w : World) (l h : Nat) (T R : TypeId) : ∃ W, W = (w.alloc (.cells #[.float .f32 l, .float .f32 h] T)).alloc (.cells #[.float .f32 0, .float .f32 0] R) ∧ IB W w.heap.size l h ∧ IR W (w.heap.size + 1) ∧ Below w.heap.size w W := by
  obtain ⟨u, h1, h2, h3⟩ := ib_1 w l h T
  obtain ⟨v, g1, g2, g3⟩ := ib_0r u R
  have s : u.heap.size = w.heap.size + 1 := by rw [h1]; simp
  exact ⟨v, by rw [g1, h1], h2.next g3, by rw [← s]; exact g2, belNext h3 g3⟩
theorem ib_2r (w : World) (l h l' h' : Nat) (T R : TypeId) : ∃ W, W = ((w.alloc (.cells #[.float .f32 l, .float .f32 h] T)).alloc (.cells #[.float .f32 l', .float .f32 h'] T)).alloc (.cells #[.float .f32 0, .float .f32 0] R) ∧ IB W w.heap.size l h ∧ IB W (w.heap.size + 1) l' h' ∧ IR W (w.heap.size + 2) ∧ Below w.heap.size w W := by
  obtain ⟨u, h1, h2, h4, h3⟩ := ib_2 w l h l' h' T
  obtain ⟨v, g1, g2, g3⟩ := ib_0r u R
  have s : u.heap.size = w.heap.size + 2 := by rw [h1]; simp
  exact ⟨v, by rw [g1, h1], h2.next g3, h4.next g3, by rw [← s]; exact g2, belNext h3 g3⟩
set_option maxHeartbeats 1000000 in
theorem toIv_any (h l : Nat) (w : World) : Calls Tryz.prog 9 #[.agg #[.float .f32 h, .float .f32 l]] w fun e w' => e = .returned (.agg #[.float .f32 h, .float .f32 l]) ∧ Below w.heap.size w w' := by
  have hst := store_float Tryz.prog
  go_enter Tryz.func9, Tryz.ntmps9
  go_wp2_with fail
  refine bodyPost_ret (v := .agg #[.float .f32 h, .float .f32 l]) (by simp [results, Tryz.results9, go_sem]) rfl ⟨rfl, ?_⟩
  repeat (first | exact Below.refl _ _ | refine Below.alloc ?_ (by first | (simp; done) | (simp; omega)) _ | refine Below.setCell ?_ (by first | (simp; done) | (simp; omega)) _)
section
open Go.ChangeShapes Go.WideShapes Go.ChangeAt Go.Deep
variable {H : Type} {enc : TypeId × Value → H}
/-- an interval of the laws that came in -/
theorem open_iv {W : World} {base : Nat} {v : Value} {d : DataW H} {p : List MemPlace} (hval : Value.okWide Tryz.prog W .any base 24 v)
    (h : DataW.Trod enc Tryz.prog W 0 (fun _ => true) true 24 v d p) :
    ∃ (x y : Nat), v = .agg #[.float .f32 x, .float .f32 y] ∧ x < 4294967296 ∧ y < 4294967296 := by
  obtain ⟨v0, v1, y0, y1, m, rfl, _, _, h0, h1⟩ := Go.Joins.open_agg2 Tryz.underlying24 (by kernel_rfl) (by kernel_rfl) hval h
  obtain ⟨x, rfl, hx⟩ := trod_float Tryz.underlying22 h0
  obtain ⟨y, rfl, hy⟩ := trod_float Tryz.underlying22 h1
  simp only [Lit.wf, decide_eq_true_eq] at hx hy
  exact ⟨x, y, rfl, hx, hy⟩
end
set_option maxHeartbeats 1000000 in
theorem eqIv_yes (h l : Nat) (w : World) (hh : h < 4294967296 ∧ nan32 h = false) (hl : l < 4294967296 ∧ nan32 l = false) :
    Calls Tryz.prog 11 #[.agg #[.float .f32 h, .float .f32 l], .agg #[.float .f32 h, .float .f32 l]] w fun e w' => e = .returned (.bool true) ∧ Below w.heap.size w w' := by
  obtain ⟨c, hc, hcv⟩ := conv_yes h hh.1 hh.2
  obtain ⟨d, hd, hdv⟩ := conv_yes l hl.1 hl.2
  have Hcd := Lib.hid (And.intro hc hd)
  obtain ⟨w1, hw1⟩ : ∃ w1, w1 = (w.alloc (.cells #[.float .f32 h, .float .f32 l] 25)).alloc (.cells #[.float .f32 h, .float .f32 l] 25) := ⟨_, rfl⟩
  have P1 : Hid (IB w1 w.heap.size h l) := Lib.hid (by rw [hw1]; exact (IB.new _ _ _ _).next (belAlloc1 _ _))
  have P2 : Hid (IB w1 (w.heap.size + 1) h l) := Lib.hid (by rw [hw1]; have h := IB.new (w.alloc (.cells #[.float .f32 h, .float .f32 l] 25)) h l 25; simpa using h)
  have Bel1 : Hid (Below w.heap.size w w1) := Lib.hid (by rw [hw1]; exact belNext (belAlloc1 _ _) (belAlloc1 _ _))
  have Hw := Lib.hid hw1
  clear hh hl hw1 hc hd
  obtain ⟨⟨p0, p1⟩, p2⟩ := P1.out
  obtain ⟨⟨q0, q1⟩, q2⟩ := P2.out
  go_enter Tryz.func11, Tryz.ntmps11
  go_wp2_with fail
  rw [← Hw.out]
  refine (same_yes c _ Hcd.out.1).mono ?_
  rintro e w9 ⟨rfl, rfl⟩
  go_wp2_with fail
  refine (same_yes d _ Hcd.out.2).mono ?_
  rintro e w9 ⟨rfl, rfl⟩
  go_wp2_with fail
  go_ret
  exact ⟨rfl, Bel1.out⟩
end Go.Proofs.YtngminjncdfjdaaGreatDoor
/- Two floats laid into a box. -/
namespace Go.Proofs.YtngminjncdfjdaaGreatDoor
set_option maxRecDepth 100000
open Go.RowKit
set_option linter.unusedSimpArgs false
set_option linter.unusedVariables false

def st2 (w : World) (b l h : Nat) : World := (w.setCell ⟨b, 0, none⟩ (.float .f32 l)).setCell ⟨b, 1, none⟩ (.float .f32 h)
section
variable {w w' : World} {b l h : Nat}
theorem st2_size : (st2 w b l h).heap.size = w.heap.size := by unfold st2; simp
theorem st2_heap {g : Nat} (hg : g ≠ b) : (st2 w b l h).heap[g]? = w.heap[g]? := by
  unfold st2
  rw [Below.heap_setCell _ _ _ _ (by exact hg), Below.heap_setCell _ _ _ _ (by exact hg)]
theorem st2_cell {g o : Nat} (hg : g ≠ b) : (st2 w b l h).cell? ⟨g, o, none⟩ = w.cell? ⟨g, o, none⟩ := World.cell?_of_block (a := ⟨g, o, none⟩) (st2_heap hg)
theorem IB.st2_ {b' l' h' : Nat} (x : IB w b' l' h') (hne : b' ≠ b) : IB (st2 w b l h) b' l' h' :=
  ⟨⟨(st2_cell hne).trans x.1.1, (st2_cell hne).trans x.1.2⟩, by rw [st2_size]; exact x.2⟩
theorem belSt2 {W : World} (x : Below W.heap.size W w) (hb : W.heap.size ≤ b) : Below W.heap.size W (st2 w b l h) := (x.setCell hb _).setCell hb _
theorem IB.made (x : IR w b) : IB (st2 w b l h) b l h := by
  obtain ⟨⟨h0, h1, h2, h3⟩, h4⟩ := x
  refine ⟨⟨?_, ?_⟩, by rw [st2_size]; exact h4⟩ <;> · unfold st2; go_simp
end
end Go.Proofs.YtngminjncdfjdaaGreatDoor
/- The program's small functions on ends, and what an interval is, of the program and of the model. -/
namespace Go.Proofs.YtngminjncdfjdaaGreatDoor
set_option maxRecDepth 100000
open Go.RowKit
set_option linter.unusedSimpArgs false
set_option linter.unusedVariables false

theorem quietQ {P : Program} {f : FuncId} {args : Array Value} {w : World} {n : Nat} {v : Value} (h : Calls P f args (w.drewN n) fun e w' => e = .returned v ∧ w.drewN n = w') : Calls P f args (w.drewN n) fun e w'' => e = .returned v ∧ ∃ m, w'' = w.drewN m :=
  Calls.quiet_of_same (h.mono fun _ _ x => ⟨x.1, x.2.symm⟩)
theorem run_ffrom64I (n : Nat) (w : World) : (callFunc 93 #[.int .u64 n]).run Tryz.prog w = .ok (.value (.float .f64 n)) w := by
  rw [run_callFunc_extern Tryz.func93 (by kernel_rfl) (by kernel_rfl) (by kernel_rfl) (e := Extern.MathFloatBits.float64frombits) (by kernel_rfl)]; rfl
theorem inf_posI (w : World) : Calls Tryz.prog 71 #[.int .i64 1] w fun e w' => e = .returned (.float .f64 9218868437227405312) ∧ w = w' := by
  have hx := run_ffrom64I 9218868437227405312
  rw [show ((9218868437227405312 : Nat) : Int) = 9218868437227405312 from rfl] at hx
  go_enter Tryz.func71, Tryz.ntmps71
  go_wp2_with fail
  go_ret
  exact ⟨rfl, rfl⟩
theorem inf_negI (w : World) : Calls Tryz.prog 71 #[.int .i64 (-1)] w fun e w' => e = .returned (.float .f64 18442240474082181120) ∧ w = w' := by
  have hx := run_ffrom64I 18442240474082181120
  rw [show ((18442240474082181120 : Nat) : Int) = 18442240474082181120 from rfl] at hx
  go_enter Tryz.func71, Tryz.ntmps71
  go_wp2_with fail
  go_ret
  exact ⟨rfl, rfl⟩
theorem infF_pos (w : World) : Calls Tryz.prog 51 #[.int .i64 1] w fun e w' => e = .returned (.float .f32 2139095040) ∧ w = w' := by
  have hcv : ∀ w, (convert 34 22 (.float .f64 9218868437227405312)).run Tryz.prog w = .ok (.float .f32 2139095040) w := fun w => run_convert_float_float w _ _ .f64 .f32 _ _ (by kernel_rfl) (by kernel_rfl) (by decide +kernel)
  go_enter Tryz.func51, Tryz.ntmps51
  go_wp2_with fail
  refine (inf_posI _).mono ?_
  rintro e w9 ⟨rfl, rfl⟩
  go_wp2_with fail
  go_ret
  exact ⟨rfl, rfl⟩
theorem infF_neg (w : World) : Calls Tryz.prog 51 #[.int .i64 (-1)] w fun e w' => e = .returned (.float .f32 4286578688) ∧ w = w' := by
  have hcv : ∀ w, (convert 34 22 (.float .f64 18442240474082181120)).run Tryz.prog w = .ok (.float .f32 4286578688) w := fun w => run_convert_float_float w _ _ .f64 .f32 _ _ (by kernel_rfl) (by kernel_rfl) (by decide +kernel)
  go_enter Tryz.func51, Tryz.ntmps51
  go_wp2_with fail
  refine (inf_negI _).mono ?_
  rintro e w9 ⟨rfl, rfl⟩
  go_wp2_with fail
  go_ret
  exact ⟨rfl, rfl⟩
theorem mz_any (b : Nat) (w : World) (hb : b < 4294967296) : Calls Tryz.prog 50 #[.float .f32 b] w fun e w' => e = .returned (.bool (decide (b = 2147483648))) ∧ w = w' := by
  have h : (((bits32 b : Nat) : Int) == 2147483648) = decide (b = 2147483648) := by
    rw [Bool.eq_iff_iff]
    simp only [beq_iff_eq, decide_eq_true_eq]
    unfold bits32 nan32
    split
    · rename_i h; simp at h; omega
    · omega
  have h' : decide (((bits32 b : Nat) : Int) = 2147483648) = decide (b = 2147483648) := by
    rw [decide_eq_decide]
    unfold bits32 nan32
    split
    · rename_i h; simp at h; omega
    · omega
  obtain ⟨n, hn⟩ : ∃ n : Int, n = ((bits32 b : Nat) : Int) := ⟨_, rfl⟩
  have hB := implBits_any b w hb
  rw [← hn] at h h' hB
  have H := Lib.hid hn
  have HB := Lib.hid hB
  have H1 := Lib.hid (And.intro h h')
  clear hn hB h h'
  go_enter Tryz.func50, Tryz.ntmps50
  go_wp2_with fail
  refine HB.out.mono ?_
  rintro e w' ⟨rfl, rfl⟩
  go_wp2_with fail
  go_ret
  exact ⟨by first | exact ret_boolI H1.out.1 | exact ret_boolI H1.out.2, rfl⟩
theorem wz_any (b : Nat) (w : World) (hb : b < 4294967296) : Calls Tryz.prog 58 #[.float .f32 b] w fun e w' => e = .returned (.float .f32 (wz b)) ∧ w = w' := by
  have h := eqz32' b hb
  by_cases h0 : b % 2147483648 = 0
  · have Hw : Hid (wz b = 0) := Lib.hid (by unfold wz; rw [if_pos h0])
    have hd : decide (b % 2147483648 = 0) = true := decide_eq_true h0
    rw [hd] at h
    clear h0 hd
    go_enter Tryz.func58, Tryz.ntmps58
    go_wp2_with fail
    go_ret
    exact ⟨by rw [Hw.out]; rfl, rfl⟩
  · have Hw : Hid (wz b = b) := Lib.hid (by unfold wz; rw [if_neg h0])
    have hd : decide (b % 2147483648 = 0) = false := decide_eq_false h0
    rw [hd] at h
    clear h0 hd
    go_enter Tryz.func58, Tryz.ntmps58
    go_wp2_with fail
    go_ret
    exact ⟨by rw [Hw.out]; rfl, rfl⟩
theorem zeroI_any (b : Nat) (w : World) (hb : b < 4294967296) : Calls Tryz.prog 48 #[.float .f32 b] w fun e w' => e = .returned (.float .f32 (wz b)) ∧ w = w' := by
  have h := eqz32' b hb
  by_cases h0 : b % 2147483648 = 0
  · have Hw : Hid (wz b = 0) := Lib.hid (by unfold wz; rw [if_pos h0])
    have hd : decide (b % 2147483648 = 0) = true := decide_eq_true h0
    rw [hd] at h
    clear h0 hd
    go_enter Tryz.func48, Tryz.ntmps48
    go_wp2_with fail
    go_ret
    exact ⟨by rw [Hw.out]; rfl, rfl⟩
  · have Hw : Hid (wz b = b) := Lib.hid (by unfold wz; rw [if_neg h0])
    have hd : decide (b % 2147483648 = 0) = false := decide_eq_false h0
    rw [hd] at h
    clear h0 hd
    go_enter Tryz.func48, Tryz.ntmps48
    go_wp2_with fail
    go_ret
    exact ⟨by rw [Hw.out]; rfl, rfl⟩
theorem plain_any (b : Nat) (w : World) (hb : b < 4294967296) : Calls Tryz.prog 47 #[.float .f32 b] w fun e w' => e = .returned (.bool (pl32 b)) ∧ w = w' := by
  by_cases hn : nan32 b = true
  · have Hr : Hid (pl32 b = false) := Lib.hid (by unfold pl32; rw [hn]; rfl)
    have HN : Hid (∀ w, Calls Tryz.prog 67 #[.float .f32 b] w fun e w' => e = .returned (.bool true) ∧ w = w') := Lib.hid (fun w => by rw [← hn]; exact nan_any b w hb)
    clear hn
    go_enter Tryz.func47, Tryz.ntmps47
    go_wp2_with fail
    refine (HN.out _).mono ?_
    rintro e w' ⟨rfl, rfl⟩
    go_wp2_with fail
    go_ret
    exact ⟨ret_boolI Hr.out.symm, rfl⟩
  · have hn2 : nan32 b = false := by simpa using hn
    have HN : Hid (∀ w, Calls Tryz.prog 67 #[.float .f32 b] w fun e w' => e = .returned (.bool false) ∧ w = w') := Lib.hid (fun w => by rw [← hn2]; exact nan_any b w hb)
    have HM : Hid (∀ w, Calls Tryz.prog 68 #[.float .f32 b] w fun e w' => e = .returned (.bool (neg32 b)) ∧ w = w') := Lib.hid (fun w => minus_any b w hb hn2)
    have h := eqz32' b hb
    have hne : (FloatKind.f32.format.order b 0 != some .eq) = !decide (b % 2147483648 = 0) := by rw [bne, h]
    by_cases h0 : b % 2147483648 = 0
    · have Hr : Hid (pl32 b = !neg32 b) := Lib.hid (by
        unfold pl32 neg32
        rw [hn2]
        by_cases h1 : 2147483648 ≤ b
        · rw [decide_eq_true h1, decide_eq_false (by omega)]; rfl
        · rw [decide_eq_false h1, decide_eq_true (by omega)]; rfl)
      rw [decide_eq_true h0] at h hne
      obtain ⟨m, hm⟩ : ∃ m, m = neg32 b := ⟨_, rfl⟩
      rw [← hm] at HM Hr
      clear hn hn2 h0 hm
      go_enter Tryz.func47, Tryz.ntmps47
      go_wp2_with fail
      refine (HN.out _).mono ?_
      rintro e w' ⟨rfl, rfl⟩
      go_wp2_with fail
      refine (HM.out _).mono ?_
      rintro e w' ⟨rfl, rfl⟩
      go_wp2_with fail
      go_ret
      exact ⟨ret_boolI Hr.out.symm, rfl⟩
    · have Hr : Hid (pl32 b = true) := Lib.hid (by unfold pl32; rw [hn2, decide_eq_true (by omega)]; rfl)
      rw [decide_eq_false h0] at h hne
      clear hn hn2 h0
      go_enter Tryz.func47, Tryz.ntmps47
      go_wp2_with fail
      refine (HN.out _).mono ?_
      rintro e w' ⟨rfl, rfl⟩
      go_wp2_with fail
      go_ret
      exact ⟨ret_boolI Hr.out.symm, rfl⟩
end Go.Proofs.YtngminjncdfjdaaGreatDoor
/- What an interval is, of the program and of the model. -/
namespace Go.Proofs.YtngminjncdfjdaaGreatDoor
set_option maxRecDepth 100000
open Go.RowKit
set_option linter.unusedSimpArgs false
set_option linter.unusedVariables false

theorem isI_bits (l h : Nat) (hl : l < 4294967296) (hh : h < 4294967296) : isI l h = (pl32 l && pl32 h && ((FloatKind.f32.format.order l h == some .lt) || (FloatKind.f32.format.order l h == some .eq)) && (FloatKind.f32.format.order l 2139095040 == some .lt) && (FloatKind.f32.format.order h 4286578688 == some .gt)) := by
  unfold isI
  by_cases h1 : pl32 l = true
  · by_cases h2 : pl32 h = true
    · have p1 := Pl.mk' hl h1
      have p2 := Pl.mk' hh h2
      rw [le32 l h hl hh p1.2.1 p2.2.1, lt32 l _ hl (by omega) p1.2.1 (by decide), gt32 h _ hh (by omega) p2.2.1 (by decide), place32_inf, place32_minf]
    · have h2 : pl32 h = false := by simpa using h2
      rw [h2]; simp
  · have h1 : pl32 l = false := by simpa using h1
    rw [h1]; simp
theorem pl_not (b : Nat) : pl32 b = (!nan32 b && !decide (b = 2147483648)) := by
  unfold pl32
  by_cases h : b = 2147483648
  · rw [decide_eq_true h, decide_eq_false (by simpa using h)]; rfl
  · rw [decide_eq_false h, decide_eq_true (by simpa using h)]; rfl
theorem isI_bits2 (l h : Nat) (hl : l < 4294967296) (hh : h < 4294967296) : isI l h = (!decide (l = 2147483648) && !decide (h = 2147483648) && (((FloatKind.f32.format.order l h == some .lt) || (FloatKind.f32.format.order l h == some .eq)) && (FloatKind.f32.format.order l 2139095040 == some .lt) && (FloatKind.f32.format.order h 4286578688 == some .gt))) := by
  rw [isI_bits l h hl hh, pl_not, pl_not]
  by_cases h1 : nan32 l = true
  · have e : FloatKind.f32.format.order l h = none := order32_nan l h (.inl h1)
    rw [e]; simp
  · by_cases h2 : nan32 h = true
    · have e : FloatKind.f32.format.order l h = none := order32_nan l h (.inr h2)
      rw [e]; simp
    · have h1 : nan32 l = false := by simpa using h1
      have h2 : nan32 h = false := by simpa using h2
      rw [h1, h2]
      simp only [Bool.not_false, Bool.true_and, Bool.and_assoc]
set_option maxHeartbeats 4000000 in
theorem implIsI_any (l h : Nat) (w : World) (hl : l < 4294967296) (hh : h < 4294967296) :
    Calls Tryz.prog 29 #[.agg #[.float .f32 l, .float .f32 h]] w fun e w' => e = .returned (.bool (isI l h)) ∧ Below w.heap.size w w' := by
  have hr := isI_bits2 l h hl hh
  obtain ⟨m1, hm1⟩ : ∃ m1, m1 = decide (l = 2147483648) := ⟨_, rfl⟩
  obtain ⟨m2, hm2⟩ : ∃ m2, m2 = decide (h = 2147483648) := ⟨_, rfl⟩
  have H1 : Hid (∀ w, Calls Tryz.prog 50 #[.float .f32 l] w fun e w' => e = .returned (.bool m1) ∧ w = w') := Lib.hid (fun w => by rw [hm1]; exact mz_any l w hl)
  have H2 : Hid (∀ w, Calls Tryz.prog 50 #[.float .f32 h] w fun e w' => e = .returned (.bool m2) ∧ w = w') := Lib.hid (fun w => by rw [hm2]; exact mz_any h w hh)
  rw [← hm1, ← hm2] at hr
  obtain ⟨x1, hx1⟩ : ∃ x, ((FloatKind.f32.format.order l h == some .lt) || (FloatKind.f32.format.order l h == some .eq)) = x := ⟨_, rfl⟩
  obtain ⟨x3, hx3⟩ : ∃ x, (FloatKind.f32.format.order l 2139095040 == some .lt) = x := ⟨_, rfl⟩
  obtain ⟨x4, hx4⟩ : ∃ x, (FloatKind.f32.format.order h 4286578688 == some .gt) = x := ⟨_, rfl⟩
  rw [hx1, hx3, hx4] at hr
  have Hr := Lib.hid hr
  clear hr hm1 hm2 hl hh
  obtain ⟨w1, hw1, hp0, hB_⟩ := ib_1 w l h 25
  have P0_1 := Lib.hid hp0
  have B1 := Lib.hid hB_
  have Hw := Lib.hid hw1
  clear hw1 hp0 hB_
  obtain ⟨⟨c00, c01⟩, c02⟩ := P0_1.out
  go_enter Tryz.func29, Tryz.ntmps29
  go_wp2_with fail
  rw [← Hw.out]
  refine (H1.out _).mono ?_
  rintro e w9 ⟨rfl, rfl⟩
  cases m1
  · go_wp2_with fail
    refine (H2.out _).mono ?_
    rintro e w9 ⟨rfl, rfl⟩
    cases m2
    · go_wp2_with fail
      cases x1
      · skip
        go_quiet ((first | (go_at_call 51; first | with_reducible exact quietQ (infF_pos _) | with_reducible exact quietQ (infF_neg _))))
        go_wp2_with fail
        go_ret
        exact ⟨ret_boolI (by rw [Hr.out]; rfl), below_drewN B1.out nq⟩
      · skip
        cases x3
        · skip
          go_quiet ((first | (go_at_call 51; first | with_reducible exact quietQ (infF_pos _) | with_reducible exact quietQ (infF_neg _))))
          go_wp2_with fail
          go_ret
          exact ⟨ret_boolI (by rw [Hr.out]; rfl), below_drewN B1.out nq⟩
        · skip
          cases x4
          · skip
            go_quiet ((first | (go_at_call 51; first | with_reducible exact quietQ (infF_pos _) | with_reducible exact quietQ (infF_neg _))))
            go_wp2_with fail
            go_ret
            exact ⟨ret_boolI (by rw [Hr.out]; rfl), below_drewN B1.out nq⟩
          · skip
            go_quiet ((first | (go_at_call 51; first | with_reducible exact quietQ (infF_pos _) | with_reducible exact quietQ (infF_neg _))))
            go_wp2_with fail
            go_ret
            exact ⟨ret_boolI (by rw [Hr.out]; rfl), below_drewN B1.out nq⟩
    · skip
      go_wp2_with fail
      go_ret
      exact ⟨ret_boolI (by rw [Hr.out]; rfl), B1.out⟩
  · skip
    go_wp2_with fail
    go_ret
    exact ⟨ret_boolI (by rw [Hr.out]; rfl), B1.out⟩
set_option maxHeartbeats 4000000 in
theorem specIsI_any (l h : Nat) (w : World) (hl : l < 4294967296) (hh : h < 4294967296) :
    Calls Tryz.prog 27 #[.agg #[.float .f32 l, .float .f32 h]] w fun e w' => e = .returned (.bool (isI l h)) ∧ Below w.heap.size w w' := by
  have hr := isI_bits l h hl hh
  obtain ⟨m1, hm1⟩ : ∃ m1, m1 = pl32 l := ⟨_, rfl⟩
  obtain ⟨m2, hm2⟩ : ∃ m2, m2 = pl32 h := ⟨_, rfl⟩
  have H1 : Hid (∀ w, Calls Tryz.prog 47 #[.float .f32 l] w fun e w' => e = .returned (.bool m1) ∧ w = w') := Lib.hid (fun w => by rw [hm1]; exact plain_any l w hl)
  have H2 : Hid (∀ w, Calls Tryz.prog 47 #[.float .f32 h] w fun e w' => e = .returned (.bool m2) ∧ w = w') := Lib.hid (fun w => by rw [hm2]; exact plain_any h w hh)
  rw [← hm1, ← hm2] at hr
  obtain ⟨x1, hx1⟩ : ∃ x, ((FloatKind.f32.format.order l h == some .lt) || (FloatKind.f32.format.order l h == some .eq)) = x := ⟨_, rfl⟩
  obtain ⟨x3, hx3⟩ : ∃ x, (FloatKind.f32.format.order l 2139095040 == some .lt) = x := ⟨_, rfl⟩
  obtain ⟨x4, hx4⟩ : ∃ x, (FloatKind.f32.format.order h 4286578688 == some .gt) = x := ⟨_, rfl⟩
  rw [hx1, hx3, hx4] at hr
  have Hr := Lib.hid hr
  clear hr hm1 hm2 hl hh
  have hng := neg_inf
  obtain ⟨w1, hw1, hp0, hB_⟩ := ib_1 w l h 25
  have P0_1 := Lib.hid hp0
  have B1 := Lib.hid hB_
  have Hw := Lib.hid hw1
  clear hw1 hp0 hB_
  obtain ⟨⟨c00, c01⟩, c02⟩ := P0_1.out
  go_enter Tryz.func27, Tryz.ntmps27
  go_wp2_with fail
  rw [← Hw.out]
  cases m1
  · skip
    go_quiet ((first | (go_at_call 47; first | with_reducible exact quietQ (H1.out _) | with_reducible exact quietQ (H2.out _)) | (go_at_call 38; with_reducible exact quietQ (huge_any _))))
    go_wp2_with fail
    go_ret
    exact ⟨ret_boolI (by rw [Hr.out]; rfl), below_drewN B1.out nq⟩
  · cases m2
    · skip
      go_quiet ((first | (go_at_call 47; first | with_reducible exact quietQ (H1.out _) | with_reducible exact quietQ (H2.out _)) | (go_at_call 38; with_reducible exact quietQ (huge_any _))))
      go_wp2_with fail
      go_ret
      exact ⟨ret_boolI (by rw [Hr.out]; rfl), below_drewN B1.out nq⟩
    · skip
      cases x1
      · skip
        go_quiet ((first | (go_at_call 47; first | with_reducible exact quietQ (H1.out _) | with_reducible exact quietQ (H2.out _)) | (go_at_call 38; with_reducible exact quietQ (huge_any _))))
        go_wp2_with fail
        go_ret
        exact ⟨ret_boolI (by rw [Hr.out]; rfl), below_drewN B1.out nq⟩
      · skip
        cases x3
        · skip
          go_quiet ((first | (go_at_call 47; first | with_reducible exact quietQ (H1.out _) | with_reducible exact quietQ (H2.out _)) | (go_at_call 38; with_reducible exact quietQ (huge_any _))))
          go_wp2_with fail
          go_ret
          exact ⟨ret_boolI (by rw [Hr.out]; rfl), below_drewN B1.out nq⟩
        · skip
          cases x4
          · skip
            go_quiet ((first | (go_at_call 47; first | with_reducible exact quietQ (H1.out _) | with_reducible exact quietQ (H2.out _)) | (go_at_call 38; with_reducible exact quietQ (huge_any _))))
            go_wp2_with fail
            go_ret
            exact ⟨ret_boolI (by rw [Hr.out]; rfl), below_drewN B1.out nq⟩
          · skip
            go_quiet ((first | (go_at_call 47; first | with_reducible exact quietQ (H1.out _) | with_reducible exact quietQ (H2.out _)) | (go_at_call 38; with_reducible exact quietQ (huge_any _))))
            go_wp2_with fail
            go_ret
            exact ⟨ret_boolI (by rw [Hr.out]; rfl), below_drewN B1.out nq⟩
end Go.Proofs.YtngminjncdfjdaaGreatDoor
/- The operations on intervals that round nothing, of the program and of the model. -/
namespace Go.Proofs.YtngminjncdfjdaaGreatDoor
set_option maxRecDepth 100000
open Go.RowKit
set_option linter.unusedSimpArgs false
set_option linter.unusedVariables false

theorem finI_any (b : Nat) (w : World) (hb : b < 4294967296) : Calls Tryz.prog 39 #[.float .f32 b] w fun e w' => e = .returned (.bool (fin32 b)) ∧ Below w.heap.size w w' := by
  by_cases hf : fin32 b = true
  · rw [hf]
    refine (fin_yes b w hb hf).mono ?_
    rintro e w' ⟨rfl, rfl⟩
    exact ⟨rfl, Below.refl _ _⟩
  · have hf : fin32 b = false := by simpa using hf
    rw [hf]
    refine (fin_no b w hb hf).mono ?_
    rintro e w' ⟨rfl, rfl⟩
    exact ⟨rfl, (Below.refl _ _).drew⟩
set_option maxHeartbeats 1000000 in
theorem specMake_any (a b : Nat) (w : World) (ha : a < 4294967296) (hb0 : b < 4294967296) :
    Calls Tryz.prog 37 #[.float .f32 a, .float .f32 b] w fun e w' => e = .returned (.agg #[.float .f32 ((wz a)), .float .f32 ((wz b))]) ∧ Below w.heap.size w w' := by
  have H1 : Hid (∀ w, _) := Lib.hid (fun w => zeroI_any a w ha)
  have H2 : Hid (∀ w, _) := Lib.hid (fun w => zeroI_any b w hb0)
  obtain ⟨p, hp⟩ : ∃ p, p = wz a := ⟨_, rfl⟩
  obtain ⟨q, hq⟩ : ∃ q, q = wz b := ⟨_, rfl⟩
  rw [← hp] at H1 ⊢
  rw [← hq] at H2 ⊢
  clear ha hb0 hp hq
  obtain ⟨w1, hw1, hr_, hB_⟩ := ib_0r w  25
  have R_1 := Lib.hid hr_
  have hst := store_float Tryz.prog
  have B1 := Lib.hid hB_
  have Hw := Lib.hid hw1
  clear hw1 hr_ hB_
  obtain ⟨⟨r0, r1, r2, r3⟩, r4⟩ := R_1.out
  go_enter Tryz.func37, Tryz.ntmps37
  go_wp2_with fail
  rw [← Hw.out]
  refine (H1.out _).mono ?_
  rintro e w9 ⟨rfl, rfl⟩
  go_wp2_with fail
  refine (H2.out _).mono ?_
  rintro e w9 ⟨rfl, rfl⟩
  go_wp2_with fail
  refine bodyPost_ret (v := .agg #[.float .f32 p, .float .f32 q]) (by simp [results, Tryz.results37, go_sem, r0, r1]) rfl ⟨rfl, ?_⟩
  repeat (first | exact B1.out | exact Below.refl _ _ | refine Below.drew ?_ | refine Below.alloc ?_ (by first | (simp; done) | (simp; omega)) _ | refine Below.setCell ?_ (by first | (simp; done) | (simp; omega)) _)
/-- the absolute value of an interval -/
def abL (l h : Nat) : Nat := if 0 ≤ place32 l then l else if place32 h ≤ 0 then opp h else 0
def abH (l h : Nat) : Nat := if 0 ≤ place32 l then h else if place32 h ≤ 0 then opp l else mx (ng l) h
/-- the order of two intervals -/
def ordI (l h l' h' : Nat) : Int := if place32 h < place32 l' then -1 else if place32 h' < place32 l then 1 else 0
theorem wz_ng {b : Nat} : wz (ng b) = opp b := rfl
set_option maxHeartbeats 1000000 in
theorem implIOpp_any (l h : Nat) (w : World) (pl : Pl l) (ph : Pl h) :
    Calls Tryz.prog 46 #[.agg #[.float .f32 l, .float .f32 h]] w fun e w' => e = .returned (.agg #[.float .f32 ((opp h)), .float .f32 ((opp l))]) ∧ Below w.heap.size w w' := by
  have n1 := neg_op l pl.1
  have n2 := neg_op h ph.1
  have H1 : Hid (∀ w, _) := Lib.hid (fun w => wz_any (ng h) w (ng_lt ph.1))
  have H2 : Hid (∀ w, _) := Lib.hid (fun w => wz_any (ng l) w (ng_lt pl.1))
  rw [wz_ng] at H1 H2
  obtain ⟨p, hp⟩ : ∃ p, p = opp h := ⟨_, rfl⟩
  obtain ⟨q, hq⟩ : ∃ q, q = opp l := ⟨_, rfl⟩
  rw [← hp] at H1 ⊢
  rw [← hq] at H2 ⊢
  clear pl ph hp hq
  obtain ⟨w1, hw1, hp0, hr_, hB_⟩ := ib_1r w l h 25 25
  have P0_1 := Lib.hid hp0
  have R_1 := Lib.hid hr_
  have hst := store_float Tryz.prog
  have B1 := Lib.hid hB_
  have Hw := Lib.hid hw1
  clear hw1 hp0 hr_ hB_
  obtain ⟨⟨c00, c01⟩, c02⟩ := P0_1.out
  obtain ⟨⟨r0, r1, r2, r3⟩, r4⟩ := R_1.out
  go_enter Tryz.func46, Tryz.ntmps46
  go_wp2_with fail
  rw [← Hw.out]
  refine wp_region_held_drew (S := fun w' => (w'.cell? ⟨w.heap.size, 0, none⟩ = some (.float .f32 l) ∧ w'.cell? ⟨w.heap.size, 1, none⟩ = some (.float .f32 h))) (by kernel_rfl) P0_1.out.1 (fun hHeld => ?_)
  clear c00 c01 c02 r0 r1 r2 r3 r4
  refine wpAnyH_take (i := 0) (v := ?_) rfl (by kernel_rfl) (by kernel_rfl) (by kernel_rfl) (fun _ _ _ h => h) (Or.inl ⟨by rfl, ?_⟩) (by assumption) ?_
  rotate_left
  · (intro w hSw; (try dsimp only at hSw); go_simp; (try with_reducible rfl))
  try simp only [Act.put, List.setIfInBounds_toArray, List.set_cons_zero, List.set_cons_succ, List.getElem_toArray, List.getElem_cons_succ, List.getElem_cons_zero]
  refine wpAnyH_take (i := 1) (v := ?_) rfl (by kernel_rfl) (by kernel_rfl) (by kernel_rfl) (fun _ _ _ h => h) (Or.inl ⟨by rfl, ?_⟩) (by assumption) ?_
  rotate_left
  · (intro w hSw; (try dsimp only at hSw); go_simp; (try with_reducible rfl))
  try simp only [Act.put, List.setIfInBounds_toArray, List.set_cons_zero, List.set_cons_succ, List.getElem_toArray, List.getElem_cons_succ, List.getElem_cons_zero]
  refine wpAnyH_take (i := 2) (v := ?_) rfl (by kernel_rfl) (by kernel_rfl) (by kernel_rfl) (fun _ _ _ h => h) (Or.inl ⟨by rfl, ?_⟩) (by assumption) ?_
  rotate_left
  · (intro w hSw; (try dsimp only at hSw); go_simp; (try with_reducible rfl))
  try simp only [Act.put, List.setIfInBounds_toArray, List.set_cons_zero, List.set_cons_succ, List.getElem_toArray, List.getElem_cons_succ, List.getElem_cons_zero]
  refine wpAnyH_take (i := 4) (v := ?_) rfl (by kernel_rfl) (by kernel_rfl) (by kernel_rfl) (fun _ _ _ h => h) (Or.inl ⟨by rfl, ?_⟩) (by assumption) ?_
  rotate_left
  · (intro w hSw; (try dsimp only at hSw); go_simp; (try with_reducible rfl))
  try simp only [Act.put, List.setIfInBounds_toArray, List.set_cons_zero, List.set_cons_succ, List.getElem_toArray, List.getElem_cons_succ, List.getElem_cons_zero]
  refine wpAnyH_take (i := 5) (v := ?_) rfl (by kernel_rfl) (by kernel_rfl) (by kernel_rfl) (fun _ _ _ h => h) (Or.inl ⟨by rfl, ?_⟩) (by assumption) ?_
  rotate_left
  · (intro w hSw; (try dsimp only at hSw); go_simp; (try with_reducible rfl))
  try simp only [Act.put, List.setIfInBounds_toArray, List.set_cons_zero, List.set_cons_succ, List.getElem_toArray, List.getElem_cons_succ, List.getElem_cons_zero]
  refine wpAnyH_take (i := 6) (v := ?_) rfl (by kernel_rfl) (by kernel_rfl) (by kernel_rfl) (fun _ _ _ h => h) (Or.inl ⟨by rfl, ?_⟩) (by assumption) ?_
  rotate_left
  · (intro w hSw; (try dsimp only at hSw); go_simp; (try with_reducible rfl))
  try simp only [Act.put, List.setIfInBounds_toArray, List.set_cons_zero, List.set_cons_succ, List.getElem_toArray, List.getElem_cons_succ, List.getElem_cons_zero]
  refine wpAnyH_ready (rs := [3]) (by kernel_rfl) (by simp) ?_
  refine AllReadyH.cons rfl (fun K hK => ?_) AllReadyH.nil
  go_simp
  refine (H1.out _).mono ?_
  rintro e w9 ⟨rfl, rfl⟩
  refine hK.out _ _ hHeld (fun hHeld => ?_)
  clear hK K
  try simp only [Act.put, List.setIfInBounds_toArray, List.set_cons_zero, List.set_cons_succ, List.getElem_toArray, List.getElem_cons_succ, List.getElem_cons_zero]
  refine wpAnyH_ready (rs := [7]) (by kernel_rfl) (by simp) ?_
  refine AllReadyH.cons rfl (fun K hK => ?_) AllReadyH.nil
  go_simp
  refine (H2.out _).mono ?_
  rintro e w9 ⟨rfl, rfl⟩
  refine hK.out _ _ hHeld (fun hHeld => ?_)
  clear hK K
  try simp only [Act.put, List.setIfInBounds_toArray, List.set_cons_zero, List.set_cons_succ, List.getElem_toArray, List.getElem_cons_succ, List.getElem_cons_zero]
  refine wpAnyH_take (i := 8) (v := ?_) rfl (by kernel_rfl) (by kernel_rfl) (by kernel_rfl) (fun _ _ _ h => h) (Or.inl ⟨by rfl, ?_⟩) (by assumption) ?_
  rotate_left
  · (intro w hSw; (try dsimp only at hSw); go_simp; (try with_reducible rfl))
  try simp only [Act.put, List.setIfInBounds_toArray, List.set_cons_zero, List.set_cons_succ, List.getElem_toArray, List.getElem_cons_succ, List.getElem_cons_zero]
  obtain ⟨⟨r0, r1, r2, r3⟩, r4⟩ := R_1.out
  refine wpAnyH_ready (rs := [9]) (by kernel_rfl) (by simp) ?_
  refine AllReadyH.cons rfl (fun K hK => ?_) AllReadyH.nil
  go_simp
  refine hK.out _ _ (((P0_1.out.drew.keep (p := ⟨w.heap.size + 1, 0, none⟩) (by simp) _).keep (p := ⟨w.heap.size + 1, 1, none⟩) (by simp) _).1) (fun hHeld => ?_)
  clear hK K hHeld
  try simp only [Act.put, List.setIfInBounds_toArray, List.set_cons_zero, List.set_cons_succ, List.getElem_toArray, List.getElem_cons_succ, List.getElem_cons_zero]
  refine wpAnyH_done (by kernel_rfl) ?_ _
  go_wp2_with fail
  refine bodyPost_ret (v := .agg #[.float .f32 p, .float .f32 q]) (by simp [results, Tryz.results46, go_sem, r0, r1]) rfl ⟨rfl, ?_⟩
  repeat (first | exact B1.out | exact Below.refl _ _ | refine Below.drew ?_ | refine Below.alloc ?_ (by first | (simp; done) | (simp; omega)) _ | refine Below.setCell ?_ (by first | (simp; done) | (simp; omega)) _)
set_option maxHeartbeats 1000000 in
theorem specINeg_any (l h : Nat) (w : World) (pl : Pl l) (ph : Pl h) :
    Calls Tryz.prog 45 #[.agg #[.float .f32 l, .float .f32 h]] w fun e w' => e = .returned (.agg #[.float .f32 ((opp h)), .float .f32 ((opp l))]) ∧ Below w.heap.size w w' := by
  have n1 := neg_op l pl.1
  have n2 := neg_op h ph.1
  have H1 : Hid (∀ w, _) := Lib.hid (fun w => specMake_any (ng h) (ng l) w (ng_lt ph.1) (ng_lt pl.1))
  rw [wz_ng, wz_ng] at H1
  obtain ⟨p, hp⟩ : ∃ p, p = opp h := ⟨_, rfl⟩
  obtain ⟨q, hq⟩ : ∃ q, q = opp l := ⟨_, rfl⟩
  rw [← hp, ← hq] at H1 ⊢
  clear pl ph hp hq
  obtain ⟨w1, hw1, hp0, hr_, hB_⟩ := ib_1r w l h 25 25
  have P0_1 := Lib.hid hp0
  have R_1 := Lib.hid hr_
  have hst := store_float Tryz.prog
  have B1 := Lib.hid hB_
  have Hw := Lib.hid hw1
  clear hw1 hp0 hr_ hB_
  obtain ⟨⟨c00, c01⟩, c02⟩ := P0_1.out
  obtain ⟨⟨r0, r1, r2, r3⟩, r4⟩ := R_1.out
  go_enter Tryz.func45, Tryz.ntmps45
  go_wp2_with fail
  rw [← Hw.out]
  refine (H1.out _).mono ?_
  rintro e w2 ⟨rfl, hb⟩
  have B2 := Lib.hid (belNext B1.out hb)
  have P0_2 := Lib.hid (P0_1.out.next hb)
  have R_2 := Lib.hid (R_1.out.next hb)
  clear hb c00 c01 c02 r0 r1 r2 r3 r4
  obtain ⟨⟨c00, c01⟩, c02⟩ := P0_2.out
  obtain ⟨⟨r0, r1, r2, r3⟩, r4⟩ := R_2.out
  go_wp2_with fail
  refine bodyPost_ret (v := .agg #[.float .f32 p, .float .f32 q]) (by simp [results, Tryz.results45, go_sem, r0, r1]) rfl ⟨rfl, ?_⟩
  repeat (first | exact B2.out | exact Below.refl _ _ | refine Below.drew ?_ | refine Below.alloc ?_ (by first | (simp; done) | (simp; omega)) _ | refine Below.setCell ?_ (by first | (simp; done) | (simp; omega)) _)
end Go.Proofs.YtngminjncdfjdaaGreatDoor
/- The meet of two intervals, of the model. -/
namespace Go.Proofs.YtngminjncdfjdaaGreatDoor
set_option maxRecDepth 100000
open Go.RowKit
set_option linter.unusedSimpArgs false
set_option linter.unusedVariables false

end Go.Proofs.YtngminjncdfjdaaGreatDoor
/- Functions of intervals with a code, of the program and of the model: not rounded ones. -/
namespace Go.Proofs.YtngminjncdfjdaaGreatDoor
set_option maxRecDepth 100000
open Go.RowKit
set_option linter.unusedSimpArgs false
set_option linter.unusedVariables false

/-- both are intervals -/
def bI (l h l' h' : Nat) : Bool := isI l h && isI l' h'
def cI (b : Bool) : Int := if b = true then 0 else 1
def huL (l h l' h' : Nat) : Nat := if bI l h l' h' = true then mn l l' else 0
def huH (l h l' h' : Nat) : Nat := if bI l h l' h' = true then mx h h' else 0
def meB (l h l' h' : Nat) : Bool := decide (place32 (mx l l') ≤ place32 (mn h h'))
def meL (l h l' h' : Nat) : Nat := if bI l h l' h' = true then if meB l h l' h' = true then mx l l' else 0 else 0
def meH (l h l' h' : Nat) : Nat := if bI l h l' h' = true then if meB l h l' h' = true then mn h h' else 0 else 0
def meE (l h l' h' : Nat) : Int := if bI l h l' h' = true then if meB l h l' h' = true then 0 else 4 else 1
def ptB (l h l' h' : Nat) : Bool := bI l h l' h' && (decide (place32 l' ≤ place32 l) && decide (place32 h ≤ place32 h'))
def orI (l h l' h' : Nat) : Int := if bI l h l' h' = true then ordI l h l' h' else 0
def haB (l h x : Nat) : Bool := isI l h && fin32 x && (decide (place32 l ≤ place32 x) && decide (place32 x ≤ place32 h))
def haE (l h x : Nat) : Int := if isI l h = true then if fin32 x = true then 0 else 2 else 1
def abLw (l h : Nat) : Nat := if isI l h = true then abL l h else 0
def abHw (l h : Nat) : Nat := if isI l h = true then abH l h else 0
def ngLw (l h : Nat) : Nat := if isI l h = true then opp h else 0
def ngHw (l h : Nat) : Nat := if isI l h = true then opp l else 0
def wiLw (l h : Nat) : Nat := if isI l h = true then at32 (beside l (-1)) else 0
def wiHw (l h : Nat) : Nat := if isI l h = true then at32 (beside h 1) else 0
def ivL (x y : Nat) : Nat := if isI (wz x) (wz y) = true then wz x else 0
def ivH (x y : Nat) : Nat := if isI (wz x) (wz y) = true then wz y else 0
def ivE (x y : Nat) : Int := if isI (wz x) (wz y) = true then 0 else 2
set_option maxHeartbeats 1000000 in
theorem specIBoth_any (l h l' h' : Nat) (w : World) (hl : l < 4294967296) (hh : h < 4294967296) (hlq : l' < 4294967296) (hhq : h' < 4294967296) :
    Calls Tryz.prog 21 #[.agg #[.float .f32 l, .float .f32 h], .agg #[.float .f32 l', .float .f32 h']] w fun e w' => e = .returned (.int .i64 (cI (bI l h l' h'))) ∧ Below w.heap.size w w' := by
  have H1 : Hid (∀ w, _) := Lib.hid (fun w => specIsI_any l h w hl hh)
  have H2 : Hid (∀ w, _) := Lib.hid (fun w => specIsI_any l' h' w hlq hhq)
  have hr : bI l h l' h' = (isI l h && isI l' h') := rfl
  obtain ⟨b1, hb1⟩ : ∃ b, b = isI l h := ⟨_, rfl⟩
  obtain ⟨b2, hb2⟩ : ∃ b, b = isI l' h' := ⟨_, rfl⟩
  rw [← hb1] at H1 hr
  rw [← hb2] at H2 hr
  rw [hr]
  clear hl hh hlq hhq hr hb1 hb2
  obtain ⟨w1, hw1, hp0, hp1, hB_⟩ := ib_2 w l h l' h' 25
  have P0_1 := Lib.hid hp0
  have P1_1 := Lib.hid hp1
  have hst := store_float Tryz.prog
  have B1 := Lib.hid hB_
  have Hw := Lib.hid hw1
  clear hw1 hp0 hp1 hB_
  obtain ⟨⟨c00, c01⟩, c02⟩ := P0_1.out
  obtain ⟨⟨c10, c11⟩, c12⟩ := P1_1.out
  go_enter Tryz.func21, Tryz.ntmps21
  go_wp2_with fail
  rw [← Hw.out]
  refine (H1.out _).mono ?_
  rintro e w2 ⟨rfl, hb⟩
  have B2 := Lib.hid (belNext B1.out hb)
  have P0_2 := Lib.hid (P0_1.out.next hb)
  have P1_2 := Lib.hid (P1_1.out.next hb)
  clear hb c00 c01 c02 c10 c11 c12
  obtain ⟨⟨c00, c01⟩, c02⟩ := P0_2.out
  obtain ⟨⟨c10, c11⟩, c12⟩ := P1_2.out
  cases b1
  · go_wp2_with fail
    first | go_ret | go_ret2
    exact ⟨rfl, B2.out⟩
  · go_wp2_with fail
    refine (H2.out _).mono ?_
    rintro e w3 ⟨rfl, hb⟩
    have B3 := Lib.hid (belNext B2.out hb)
    have P0_3 := Lib.hid (P0_2.out.next hb)
    have P1_3 := Lib.hid (P1_2.out.next hb)
    clear hb c00 c01 c02 c10 c11 c12
    obtain ⟨⟨c00, c01⟩, c02⟩ := P0_3.out
    obtain ⟨⟨c10, c11⟩, c12⟩ := P1_3.out
    cases b2
    · go_wp2_with fail
      first | go_ret | go_ret2
      exact ⟨rfl, B3.out⟩
    · go_wp2_with fail
      first | go_ret | go_ret2
      exact ⟨rfl, B3.out⟩
end Go.Proofs.YtngminjncdfjdaaGreatDoor
