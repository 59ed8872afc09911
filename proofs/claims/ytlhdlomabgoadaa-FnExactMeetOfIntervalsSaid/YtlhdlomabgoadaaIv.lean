/- Intervals: their ends as words, what an interval is, the lesser and the greater of two ends, the opposite. -/
import Derived.Test.YtlhdlomabgoadaaNx
namespace Go.Proofs.Ytlhdlomabgoadaa
set_option maxRecDepth 100000
open Go.RowKit
set_option linter.unusedSimpArgs false
set_option linter.unusedVariables false

/-- neither NaN nor -0 -/
def pl32 (b : Nat) : Bool := !nan32 b && decide (b ≠ 2147483648)
def isI (l h : Nat) : Bool := pl32 l && pl32 h && decide (place32 l ≤ place32 h) && decide (place32 l < 2139095040) && decide (-2139095040 < place32 h)
/-- a word that is an end -/
def Pl (b : Nat) : Prop := b < 4294967296 ∧ nan32 b = false ∧ b ≠ 2147483648
theorem Pl.mk' {b : Nat} (hb : b < 4294967296) (h : pl32 b = true) : Pl b := by
  unfold pl32 at h
  simp only [Bool.and_eq_true, Bool.not_eq_true', decide_eq_true_eq] at h
  exact ⟨hb, h.1, h.2⟩
theorem Pl.pl {b : Nat} (h : Pl b) : pl32 b = true := by
  unfold pl32
  rw [h.2.1, decide_eq_true h.2.2]; rfl
theorem isI_facts {l h : Nat} (hl : l < 4294967296) (hh : h < 4294967296) (x : isI l h = true) : Pl l ∧ Pl h ∧ place32 l ≤ place32 h ∧ place32 l < 2139095040 ∧ -2139095040 < place32 h := by
  unfold isI at x
  simp only [Bool.and_eq_true, decide_eq_true_eq] at x
  exact ⟨Pl.mk' hl x.1.1.1.1, Pl.mk' hh x.1.1.1.2, x.1.1.2, x.1.2, x.2⟩
theorem place32_val (b : Nat) : place32 b = if 2147483648 ≤ b then -((b % 2147483648 : Nat) : Int) else ((b % 2147483648 : Nat) : Int) := by
  unfold place32
  by_cases h : 2147483648 ≤ b
  · rw [decide_eq_true h, if_pos rfl, if_pos h]
  · rw [decide_eq_false h, if_neg (by simp), if_neg h]
theorem Pl.inj {a b : Nat} (ha : Pl a) (hb : Pl b) (h : place32 a = place32 b) : a = b := by
  rw [place32_val, place32_val] at h
  obtain ⟨a1, a2, a3⟩ := ha
  obtain ⟨b1, b2, b3⟩ := hb
  split at h <;> split at h <;> omega
theorem place32_inf : place32 2139095040 = 2139095040 := by decide
theorem place32_minf : place32 4286578688 = -2139095040 := by decide
theorem Pl.zero : Pl 0 := by refine ⟨by omega, by decide, by omega⟩
theorem Pl.inf : Pl 2139095040 := by refine ⟨by omega, by decide, by omega⟩
theorem Pl.minf : Pl 4286578688 := by refine ⟨by omega, by decide, by omega⟩
theorem le32 (b c : Nat) (hb : b < 4294967296) (hc : c < 4294967296) (nb : nan32 b = false) (nc : nan32 c = false) : ((FloatKind.f32.format.order b c == some .lt) || (FloatKind.f32.format.order b c == some .eq)) = decide (place32 b ≤ place32 c) := by
  rw [lt32 b c hb hc nb nc, eq32 b c hb hc nb nc, Bool.eq_iff_iff]
  simp only [Bool.or_eq_true, decide_eq_true_eq]
  omega
theorem ge32 (b c : Nat) (hb : b < 4294967296) (hc : c < 4294967296) (nb : nan32 b = false) (nc : nan32 c = false) : ((FloatKind.f32.format.order b c == some .gt) || (FloatKind.f32.format.order b c == some .eq)) = decide (place32 c ≤ place32 b) := by
  rw [gt32 b c hb hc nb nc, eq32 b c hb hc nb nc, Bool.eq_iff_iff]
  simp only [Bool.or_eq_true, decide_eq_true_eq]
  omega
/-- the lesser and the greater of two ends -/
def mn (a b : Nat) : Nat := if place32 b < place32 a then b else a
def mx (a b : Nat) : Nat := if place32 a < place32 b then b else a
theorem mn_pl {a b : Nat} (ha : Pl a) (hb : Pl b) : Pl (mn a b) := by unfold mn; split <;> assumption
theorem mx_pl {a b : Nat} (ha : Pl a) (hb : Pl b) : Pl (mx a b) := by unfold mx; split <;> assumption
theorem mn_place (a b : Nat) : place32 (mn a b) = min (place32 a) (place32 b) := by unfold mn; split <;> omega
theorem mx_place (a b : Nat) : place32 (mx a b) = max (place32 a) (place32 b) := by unfold mx; split <;> omega
theorem order_f32 {a b : Nat} (ha : Pl a) (hb : Pl b) : FloatKind.f32.format.order a b = some (compare (place32 a) (place32 b)) := order32 a b ha.1 hb.1 ha.2.1 hb.2.1
theorem run_min32 {P : Program} {a b : Nat} (ha : Pl a) (hb : Pl b) (ts : Array TypeId) (t : TypeId) (w : World) : (Builtin.min_ ts t #[.float .f32 a, .float .f32 b]).run P w = .ok (.float .f32 (mn a b)) w := by
  simp only [Builtin.min_, List.foldlM_cons, List.foldlM_nil, Builtin.min2, order_f32 ha hb]
  rcases Int.lt_trichotomy (place32 a) (place32 b) with h | h | h
  · rw [Int.compare_eq_lt.2 h]
    have : mn a b = a := by unfold mn; rw [if_neg (by omega)]
    rw [this]; rfl
  · have e := ha.inj hb h
    subst e
    have : mn a a = a := by unfold mn; split <;> rfl
    rw [this, Int.compare_eq_eq.2 rfl]
    simp [Sem.run_bind, Sem.run_pure]
  · rw [Int.compare_eq_gt.2 h]
    have : mn a b = b := by unfold mn; rw [if_pos (by omega)]
    rw [this]; rfl
theorem run_max32 {P : Program} {a b : Nat} (ha : Pl a) (hb : Pl b) (ts : Array TypeId) (t : TypeId) (w : World) : (Builtin.max_ ts t #[.float .f32 a, .float .f32 b]).run P w = .ok (.float .f32 (mx a b)) w := by
  simp only [Builtin.max_, List.foldlM_cons, List.foldlM_nil, Builtin.max2, order_f32 ha hb]
  rcases Int.lt_trichotomy (place32 a) (place32 b) with h | h | h
  · rw [Int.compare_eq_lt.2 h]
    have : mx a b = b := by unfold mx; rw [if_pos (by omega)]
    rw [this]; rfl
  · have e := ha.inj hb h
    subst e
    have : mx a a = a := by unfold mx; split <;> rfl
    rw [this, Int.compare_eq_eq.2 rfl]
    simp [Sem.run_bind, Sem.run_pure]
  · rw [Int.compare_eq_gt.2 h]
    have : mx a b = a := by unfold mx; rw [if_neg (by omega)]
    rw [this]; rfl
/-- the opposite of a word -/
def ng (b : Nat) : Nat := if 2147483648 ≤ b then b - 2147483648 else b + 2147483648
theorem neg_ng (b : Nat) (hb : b < 4294967296) : Op.negFloat .f32 b = ng b := negFloat32 b hb
theorem neg_op (b : Nat) (hb : b < 4294967296) : Op.unary .neg (.float .f32 b) = pure (.float .f32 (ng b)) := by
  rw [← neg_ng b hb]; rfl
theorem neg_inf : Op.unary .neg (.float .f32 2139095040) = pure (.float .f32 4286578688) := by
  rw [neg_op _ (by omega)]; rfl
theorem ng_lt {b : Nat} (hb : b < 4294967296) : ng b < 4294967296 := by unfold ng; split <;> omega
theorem ng_nan {b : Nat} (hb : b < 4294967296) : nan32 (ng b) = nan32 b := by
  unfold nan32 ng
  rw [decide_eq_decide]
  split <;> omega
theorem ng_place {b : Nat} (hb : b < 4294967296) : place32 (ng b) = -place32 b := by
  rw [place32_val, place32_val]
  unfold ng
  split <;> split <;> omega
/-- 0 in the place of -0 -/
def wz (b : Nat) : Nat := if b % 2147483648 = 0 then 0 else b
theorem wz_lt {b : Nat} (hb : b < 4294967296) : wz b < 4294967296 := by unfold wz; split <;> omega
theorem wz_nan (b : Nat) : nan32 (wz b) = nan32 b := by
  unfold wz
  split
  · rename_i h; unfold nan32; rw [decide_eq_decide]; omega
  · rfl
theorem wz_pl {b : Nat} (hb : b < 4294967296) (hn : nan32 b = false) : Pl (wz b) := by
  refine ⟨wz_lt hb, by rw [wz_nan]; exact hn, ?_⟩
  unfold wz; split <;> omega
theorem wz_place (b : Nat) : place32 (wz b) = place32 b := by
  unfold wz
  split
  · rename_i h
    rw [place32_val, place32_val]
    split <;> split <;> omega
  · rfl
theorem wz_id {b : Nat} (h : Pl b) : wz b = b := by
  unfold wz
  obtain ⟨h1, h2, h3⟩ := h
  split <;> omega
/-- the opposite of an end -/
def opp (b : Nat) : Nat := wz (ng b)
theorem opp_pl {b : Nat} (h : Pl b) : Pl (opp b) := wz_pl (ng_lt h.1) (by rw [ng_nan h.1]; exact h.2.1)
theorem opp_place {b : Nat} (h : Pl b) : place32 (opp b) = -place32 b := by unfold opp; rw [wz_place, ng_place h.1]
theorem eqz32' (b : Nat) (hb : b < 4294967296) : (FloatKind.f32.format.order b 0 == some .eq) = decide (b % 2147483648 = 0) := by
  by_cases hn : nan32 b = true
  · rw [nan32_cmp b 0 .eq (.inl hn)]
    unfold nan32 at hn
    have := of_decide_eq_true hn
    exact (decide_eq_false (by omega)).symm
  · rw [eq_zero32 b hb (by simpa using hn), decide_eq_decide]
    rcases place_cases b with ⟨h1, h2⟩ | ⟨h1, h2⟩ <;> omega
end Go.Proofs.Ytlhdlomabgoadaa
