/- Texts of this seat, joined: Va Pa Pb Pc Pd Pi -/
import Derived.Test.YtnecnbonnidijaaDoorGB2
import Derived.Test.YtnecnbonnidijaaDoorGB9
import Derived.Laws.StructEq
/- Exact numbers in units of a power of two: plain mathematics. -/
namespace Go.Proofs.YtnecnbonnidijaaDoor
set_option maxRecDepth 100000
open Go.RowKit
set_option linter.unusedSimpArgs false
set_option linter.unusedVariables false

/-- z times 2^e in units of 2^B -/
def uV (B z e : Int) : Int := (2 : Int) ^ (e - B).toNat * z
theorem uV_zero (B e : Int) : uV B 0 e = 0 := by unfold uV; rw [Int.mul_zero]
theorem uV_one {B z : Int} : uV B z B = z := by unfold uV; rw [Int.sub_self]; simp
theorem uV_nz {B z e : Int} (h : B ≤ e) : uV B (nz z) (nx z e) = uV B z e := by
  by_cases h0 : z = 0
  · subst h0; rw [nz_zero, uV_zero, uV_zero]
  · unfold uV
    rw [nx_ne h0]
    conv => rhs; rw [nz_pow z]
    rw [← Int.mul_assoc, ← Int.pow_add, show (e - B).toNat + tz z.natAbs = (e + (tz z.natAbs : Int) - B).toNat by omega]
theorem uV_sum {B z e z' e' : Int} (h : B ≤ e) (h' : B ≤ e') : uV B (sumZ z e z' e') (min e e') = uV B z e + uV B z' e' := by
  unfold uV sumZ
  rw [Int.mul_add, ← Int.mul_assoc, ← Int.mul_assoc, ← Int.pow_add, ← Int.pow_add, show (min e e' - B).toNat + (e - min e e').toNat = (e - B).toNat by omega, show (min e e' - B).toNat + (e' - min e e').toNat = (e' - B).toNat by omega]
theorem nz_uV (B z e : Int) : nz (uV B z e) = nz z := nz_shl _ z
theorem nx_uV {B z e : Int} (h : B ≤ e) : nx (uV B z e) B = nx z e := by
  unfold uV
  rw [nx_shl, show B + ((e - B).toNat : Int) = e by omega]
/-- two writings of one number have one normal form -/
theorem nzx_same {B z e z' e' : Int} (h : B ≤ e) (h' : B ≤ e') (g : uV B z e = uV B z' e') : nz z = nz z' ∧ nx z e = nx z' e' := by
  rw [← nz_uV B z e, ← nz_uV B z' e', ← nx_uV h, ← nx_uV h', g]; exact ⟨rfl, rfl⟩
theorem nx_ge {B z e : Int} (h : B ≤ e) (hB : B ≤ 0) : B ≤ nx z e := by
  by_cases h0 : z = 0
  · subst h0; rw [nx_zero]; exact hB
  · rw [nx_ne h0]; omega
/-- multiples of a step less than the number are few -/
theorem uV_abs (B z e : Int) : (uV B z e).natAbs = 2 ^ (e - B).toNat * z.natAbs := by
  unfold uV; rw [Int.natAbs_mul, pow_cast, Int.natAbs_natCast]
theorem uV_le (B z e : Int) : z.natAbs ≤ (uV B z e).natAbs := by
  rw [uV_abs]
  exact Nat.le_mul_of_pos_left _ (Nat.two_pow_pos _)
end Go.Proofs.YtnecnbonnidijaaDoor
/- Rounding to the nearest float, as the float's own operations do it, is rounding in the first of the five modes: plain mathematics. -/
namespace Go.Proofs.YtnecnbonnidijaaDoor
set_option maxRecDepth 100000
open Go.RowKit
set_option linter.unusedSimpArgs false
set_option linter.unusedVariables false
open Ieee

/-- the word of so many steps -/
def wrd (s : Bool) (M : Nat) (q : Int) : Nat := Ieee.single.word s (min ((q + 149).toNat * 8388608 + M) 2139095040)
end Go.Proofs.YtnecnbonnidijaaDoor
/- What the nearest float loses of a sum is a float, and quick sums find it: plain mathematics, in whole units. -/
namespace Go.Proofs.YtnecnbonnidijaaDoor
set_option maxRecDepth 100000
open Go.RowKit
set_option linter.unusedSimpArgs false
set_option linter.unusedVariables false
open Ieee

/-- the value nearest to v -/
def rn (v : Nat) : Nat := evenCut v (blen v - 24) * 2 ^ (blen v - 24)
/-- it is the value of a float, if it is not too great -/
def FN (v : Nat) : Prop := ∃ m k : Nat, m < 16777216 ∧ v = m * 2 ^ k
theorem FN.zero : FN 0 := ⟨0, 0, by decide, rfl⟩
/-- the same of a number with a sign -/
def rnI (z : Int) : Int := if z < 0 then -((rn z.natAbs : Nat) : Int) else ((rn z.natAbs : Nat) : Int)
end Go.Proofs.YtnecnbonnidijaaDoor
/- The language's own sums, differences and products of finite floats are the exact ones, rounded to the nearest. -/
namespace Go.Proofs.YtnecnbonnidijaaDoor
set_option maxRecDepth 100000
open Go.RowKit
set_option linter.unusedSimpArgs false
set_option linter.unusedVariables false
open Ieee

/-- a finite float in units of 2^-149 -/
def uI (b : Nat) : Int := fz b * (2 : Int) ^ (fe b + 149).toNat
theorem ofM_fz (b : Nat) : ofM b = (2 : Int) ^ tz (ofM b).natAbs * fz b := nz_pow (ofM b)
theorem fe_tz (b : Nat) (h : ofM b ≠ 0) : fe b = ofP b + (tz (ofM b).natAbs : Int) := nx_ne h
theorem fz_zero (b : Nat) : fz b = 0 ↔ ofM b = 0 := nz_eq_zero
theorem ofP_ge (b : Nat) : -149 ≤ ofP b := by unfold ofP; omega
theorem uI_ofM (b : Nat) : uI b = ofM b * (2 : Int) ^ expo (b % 2147483648) := by
  unfold uI
  by_cases h0 : ofM b = 0
  · rw [(fz_zero b).2 h0, h0]; simp
  · have h1 := fe_tz b h0
    have h2 := ofM_fz b
    have h3 : ofP b = -149 + expo (b % 2147483648) := rfl
    conv => rhs; rw [h2]
    rw [show (fe b + 149).toNat = expo (b % 2147483648) + tz (ofM b).natAbs by omega, Int.pow_add]
    rw [Int.mul_comm ((2 : Int) ^ tz _) (fz b), Int.mul_assoc, Int.mul_comm ((2 : Int) ^ tz _)]
theorem uI_abs (b : Nat) : (uI b).natAbs = mant (b % 2147483648) * 2 ^ expo (b % 2147483648) := by
  rw [uI_ofM, Int.natAbs_mul, ofM_abs, pow_cast, Int.natAbs_natCast]
end Go.Proofs.YtnecnbonnidijaaDoor
/- What a pair is, of the program and of the model. -/
namespace Go.Proofs.YtnecnbonnidijaaDoor
set_option maxRecDepth 100000
open Go.RowKit
set_option linter.unusedSimpArgs false
set_option linter.unusedVariables false

theorem ret_boolE {a b : Bool} (h : a = b) : Ending.returned (.bool a) = .returned (.bool b) := by rw [h]
set_option maxHeartbeats 1000000 in
theorem implAllFin_any (l : List Nat) (A : Option Addr) (n c B : Nat) (w : World) (hr : Rd w B A (fs l)) (hn : l.length = n) (hm : (n : Int) ≤ 100) (hl : ∀ f ∈ l, f < 4294967296) :
    Calls Tryd.prog 132 #[.slice A n c] w fun e w' => e = .returned (.bool (l.all fin32)) ∧ w = w' := by
  have Hn := Lib.hid hn
  have Hr := Lib.hid hr
  have Hl := Lib.hid hl
  clear hr hn hl
  go_enter Tryd.func132, Tryd.ntmps132
  go_wp2_with fail
  go_loop [7] (fun i => ∃ k : Nat, k ≤ n ∧ i = .int .i64 k ∧ (l.take k).all fin32 = true) (fun i => n - (intOf i).toNat)
  case atStart => exact ⟨0, Nat.zero_le _, rfl, rfl⟩
  case round =>
    obtain ⟨k, hk, rfl, hall⟩ := hrel
    have Hall := Lib.hid hall
    clear hall
    by_cases hlt : k < n
    · have hkx : k < l.length := by rw [Hn.out]; exact hlt
      obtain ⟨q, hq, _⟩ := Hr.out.some_ (by rw [fs_len]; omega)
      subst hq
      have hcx := Hr.out.cell (k := k) (by rw [fs_len]; exact hkx)
      rw [fs_get hkx] at hcx
      have Hfb := Lib.hid (Hl.out _ (List.getElem_mem hkx))
      by_cases hf : fin32 l[k] = true
      · have Hnx := Lib.hid (all_take hkx Hall.out hf)
        generalize l[k] = x at *
        have Hf := Lib.hid hf
        clear hf hkx
        go_wp2_with fail
        refine (implFinite_any x _ Hfb.out).mono ?_
        rintro e w9 ⟨rfl, rfl⟩
        rw [Hf.out]
        go_wp2_with fail
        go_round
        case rel => exact ⟨k + 1, by omega, by go_num, Hnx.out⟩
        case measure => simp [intOf]; omega
      · have hf2 : fin32 l[k] = false := by simpa using hf
        have Hnx := Lib.hid (not_all hkx hf2)
        generalize l[k] = x at *
        have Hf := Lib.hid hf2
        clear hf hf2 hkx
        go_wp2_with fail
        refine (implFinite_any x _ Hfb.out).mono ?_
        rintro e w9 ⟨rfl, rfl⟩
        rw [Hf.out]
        go_wp2_with fail
        go_ret
        exact ⟨ret_boolE Hnx.out.symm, rfl⟩
    · have hin : k = n := by omega
      have Hal : Hid (l.all fin32 = true) := Lib.hid (by have h := Hall.out; rwa [List.take_of_length_le (by rw [Hn.out]; omega)] at h)
      subst hin
      go_wp2_with fail
      go_ret
      exact ⟨ret_boolE Hal.out.symm, rfl⟩

/-- a box of two floats -/
def PB (w : World) (b h l : Nat) : Prop := (w.cell? ⟨b, 0, none⟩ = some (.float .f32 h) ∧ w.cell? ⟨b, 1, none⟩ = some (.float .f32 l)) ∧ b < w.heap.size
theorem PB.next {w w' : World} {b h l : Nat} (x : PB w b h l) (hb : Below w.heap.size w w') : PB w' b h l :=
  ⟨⟨(hb.cell (p := ⟨b, 0, none⟩) x.2).trans x.1.1, (hb.cell (p := ⟨b, 1, none⟩) x.2).trans x.1.2⟩, Nat.lt_of_lt_of_le x.2 hb.size⟩
theorem PB.drew {w : World} {b h l : Nat} (x : PB w b h l) : PB w.drew b h l := x
theorem PB.keep {w : World} {b h l : Nat} (x : PB w b h l) {p : Addr} (hp : p.block ≠ b) (u : Value) : PB (w.setCell p u) b h l := by
  have hk : ∀ o, (w.setCell p u).cell? ⟨b, o, none⟩ = w.cell? ⟨b, o, none⟩ := fun o => World.cell?_of_block (a := ⟨b, o, none⟩) (Below.heap_setCell _ _ _ _ (fun e => hp e.symm))
  exact ⟨⟨(hk 0).trans x.1.1, (hk 1).trans x.1.2⟩, by have := x.2; simpa using this⟩
theorem PB.new (w : World) (h l : Nat) (T : TypeId) : PB (w.alloc (.cells #[.float .f32 h, .float .f32 l] T)) w.heap.size h l := ⟨by constructor <;> simp, by simp⟩
/-- a pair -/
def isP (h l : Nat) : Bool := fin32 h && fin32 l && (FloatKind.f32.format.order (adF h l 0) h == some .eq)
end Go.Proofs.YtnecnbonnidijaaDoor
