/- IntegerOf, of the program. -/
import Derived.Test.YtmabnnnpjpnhcaaCw
import Derived.Test.YtmabnnnpjpnhcaaWp
import Derived.IntWalk
namespace Go.Proofs.Ytmabnnnpjpnhcaa
open Go.RowKit
set_option linter.unusedSimpArgs false
set_option linter.unusedVariables false

/-- a whole number as an int64, and the code -/
noncomputable def inR (z : Int) : Prop := -9223372036854775808 ≤ z ∧ z ≤ 9223372036854775807
open Classical in
noncomputable def intR (s : Int) (xs : List Int) : Int := if isW s xs = true ∧ inR (s * magW s xs) then s * magW s xs else 0
open Classical in
noncomputable def intE (s : Int) (xs : List Int) : Int := if isW s xs = true then (if inR (s * magW s xs) then 0 else 3) else 1

theorem or_add {P x k : Nat} (hP : P < 2 ^ k) : P ||| (x * 2 ^ k) = P + x * 2 ^ k := by
  rw [Nat.or_comm, Nat.mul_comm, ← Nat.two_pow_add_eq_or_of_lt hP, Nat.add_comm]
theorem or_u64 (a b : Nat) (ha : a < 18446744073709551616) (hb : b < 18446744073709551616) : bits .or .u64 (a : Int) (b : Int) = ((a ||| b : Nat) : Int) := by
  show IntKind.u64.wrap ((BitVec.ofInt 64 (a : Int) ||| BitVec.ofInt 64 (b : Int)).toNat : Int) = _
  have h1 : (BitVec.ofInt 64 (a : Int)).toNat = a := by rw [BitVec.ofInt_natCast, BitVec.toNat_ofNat]; exact Nat.mod_eq_of_lt (by omega)
  have h2 : (BitVec.ofInt 64 (b : Int)).toNat = b := by rw [BitVec.ofInt_natCast, BitVec.toNat_ofNat]; exact Nat.mod_eq_of_lt (by omega)
  rw [BitVec.toNat_or, h1, h2]
  have hx : a ||| b < 2 ^ 64 := Nat.or_lt_two_pow (by omega) (by omega)
  rw [IntKind.wrap_u64]
  omega

theorem or_step {P x k : Nat} (hP : P < Bs ^ k) (h : P + Bs ^ k * x < 18446744073709551616) : bits .or .u64 (P : Int) (IntKind.u64.wrap ((x : Int) * 2 ^ (24 * k))) = ((P + Bs ^ k * x : Nat) : Int) := by
  rw [Bs_pow] at *
  rw [Nat.mul_comm (2 ^ (24 * k)) x] at h ⊢
  have e : (x : Int) * 2 ^ (24 * k) = ((x * 2 ^ (24 * k) : Nat) : Int) := by rw [Int.natCast_mul, Int.natCast_pow]; rfl
  have e2 : IntKind.u64.wrap (((x * 2 ^ (24 * k) : Nat)) : Int) = ((x * 2 ^ (24 * k) : Nat) : Int) := by rw [IntKind.wrap_u64]; omega
  rw [e, e2, or_u64 _ _ (by omega) (by omega), or_add hP]
theorem V_take_le (xs : List Nat) (k : Nat) : V (xs.take k) ≤ V xs := by
  rcases Nat.le_total k xs.length with h | h
  · rw [V_take_drop xs k h]; omega
  · rw [List.take_of_length_le h]; exact Nat.le_refl _
theorem int_fin {s : Int} {v : Nat} (hs : Sg s v) (h : inR (s * v)) : wrap64 (s * wrap64 v) = s * v ∧ wrap64 (s * v) = s * v := by
  obtain ⟨h1, h2, h3⟩ := hs
  obtain ⟨g1, g2⟩ := h
  have e : s = -1 ∨ s = 0 ∨ s = 1 := by omega
  unfold wrap64
  rcases e with rfl | rfl | rfl <;> constructor <;> omega

set_option maxHeartbeats 400000 in
theorem implInt_any (s : Int) (A : Option Addr) (n c : Nat) (xs : List Int) (w : World) (hr : Rd w w.heap.size A (vi xs)) (hn : xs.length = n) (hm : n ≤ 1048580) :
    Calls Try.prog 28 #[.agg #[.int .i64 s, .slice A n c]] w fun e w' => e = .returned (.tuple #[.int .i64 (intR s xs), .int .i64 (intE s xs)]) ∧ Below w.heap.size w w' := by
  have Hn := Lib.hid hn
  have Hm := Lib.hid hm
  have Ra0 : Hid (Rt w w.heap.size A (vi xs)) := Lib.hid ⟨hr, Nat.le_refl _⟩
  clear hr hn hm
  go_enter Try.func28, Try.ntmps28
  go_wp2_with fail
  obtain ⟨w1, hw1⟩ : ∃ w1, w1 = w.alloc (.cells #[.int .i64 s, .slice A n c] 27) := ⟨_, rfl⟩
  rw [← hw1]
  have hb : Below w.heap.size w w1 := by rw [hw1]; exact belAlloc1 _ _
  have Bel1 := Lib.hid hb
  have Bx1 : Hid (Box w1 w.heap.size s A n c) := Lib.hid (by rw [hw1]; exact Box.new _ _ _ _ _ _)
  have Ra1 := Lib.hid (Ra0.out.next hb)
  clear hw1 hb Ra0
  refine (implIsW_any s A n c xs _ Ra1.out.all Hn.out Hm.out).mono ?_
  rintro e w2 ⟨rfl, hb⟩
  have Bel2 := Lib.hid (belNext Bel1.out hb)
  have Bx2 := Lib.hid (Bx1.out.next hb)
  have Ra2 := Lib.hid (Ra1.out.next hb)
  clear hb Bel1 Bx1 Ra1
  obtain ⟨⟨hx1, hx2⟩, hx3⟩ := Bx2.out
  by_cases hw : isW s xs = true
  · rw [hw]
    obtain ⟨v, hv, hs, hx, hl, hh⟩ := okW_data Hn.out hw
    have Hv := Lib.hid hv
    have Hs := Lib.hid hs
    have Hx := Lib.hid hx
    have Hl := Lib.hid hl
    have Hw := Lib.hid hw
    have Hh : Hid ((n : Int) ≤ 100000) := Lib.hid (by omega)
    clear hv hs hx hl hh hw
    go_wp2_with fail
    refine (implLen_any s v A n c _ _ (Ra2.out.1.eq_ Hx.out) Ra2.out.2 Hl.out Hh.out).mono ?_
    rintro e w3 ⟨rfl, hb⟩
    have Bel3 := Lib.hid (belNext Bel2.out hb)
    have Bx3 := Lib.hid (Bx2.out.next hb)
    have Ra3 := Lib.hid (Ra2.out.next hb)
    clear hb Bel2 Bx2 Ra2 hx1 hx2 hx3
    obtain ⟨⟨hx1, hx2⟩, hx3⟩ := Bx3.out
    by_cases hbig : 64 < blen v
    · have Hno : Hid (¬ inR (s * magW s xs)) := Lib.hid (by
        rw [Hv.out]
        have h : ¬ v < 2 ^ 64 := fun h => by have := blen_lt.2 h; omega
        have hs1 := Hs.out
        rintro ⟨h1, h2⟩
        have hvv := (sign_mul_abs s v hs1.1 hs1.2.1 hs1.2.2).2
        omega)
      have hb2 : (64 : Int) < blen v := by omega
      have hb3 : (blen v : Int) ≤ 2400000 := by
        have := blen_lt (v := v) (k := 24 * n)
        rw [← Bs_pow] at this
        have h5 := this.2 (limbs_len_le.1 (by rw [Hl.out]; exact Nat.le_refl _))
        have := Hh.out
        omega
      go_wp2_with fail
      go_ret2
      exact ⟨ret_two (by unfold intR; rw [if_neg (fun h => Hno.out h.2)]) (by unfold intE; rw [if_pos Hw.out, if_neg Hno.out]), Bel3.out⟩
    · have Hv64 : Hid (v < 18446744073709551616) := Lib.hid (by have := (blen_lt (v := v) (k := 64)).1 (by omega); omega)
      have hb2 : (blen v : Int) ≤ 64 := by omega
      have Hn3 : Hid (n ≤ 3) := Lib.hid (by rw [← Hl.out]; exact limbs_len_le.2 (Nat.lt_of_lt_of_le Hv64.out (by rw [Bs_eq]; decide)))
      clear hbig
      have hrr := Ra3.out.1.eq_ Hx.out
      go_wp2_with fail
      go_loop [4, 5, 6, 17] (fun sz _ _ i => ∃ k : Nat, k ≤ n ∧ i = .int .i64 k ∧ sz = .int .u64 (V ((limbs v).take k) : Nat)) (fun _ _ _ i => n - (intOf i).toNat)
      case atStart => exact ⟨0, Nat.zero_le _, rfl, by simp [V]⟩
      case round =>
        obtain ⟨k, hk, rfl, rfl⟩ := hrel
        by_cases hlt : k < n
        · have hkx : k < (limbs v).length := by rw [Hl.out]; exact hlt
          obtain ⟨p, hp, _⟩ := hrr.some_ (by rw [vs_len]; omega)
          subst hp
          have hcx := hrr.cell (k := k) (by rw [vs_len]; exact hkx)
          rw [vs_get hkx] at hcx
          have Hva := Lib.hid (V_take_succ hkx)
          have Hxb := Lib.hid ((Lim_limbs v).getElem hkx)
          have hx0 : (0 : Int) ≤ ((limbs v)[k] : Nat) := by omega
          have hx9 : (((limbs v)[k] : Nat) : Int) ≤ 16777215 := by have := Hxb.out; rw [Bs_eq] at this; omega
          have HPk : Hid (V ((limbs v).take k) < Bs ^ k) := Lib.hid (by
            have h := V_lt ((Lim_limbs v).take k)
            rwa [List.length_take, Nat.min_eq_left (by omega)] at h)
          generalize hP : V ((limbs v).take k) = P at *
          have HPe := Lib.hid hP
          clear hP
          generalize (limbs v)[k] = x at *
          have hk2 : (k : Int) ≤ 2 := by have := Hn3.out; omega
          have Hor := Lib.hid (or_step (x := x) HPk.out (by rw [← Hva.out]; exact Nat.lt_of_le_of_lt (V_take_le _ _) (by rw [V_limbs]; exact Hv64.out)))
          clear hrr
          go_wp2_with fail
          go_round
          case rel => exact ⟨k + 1, by omega, by go_num, by rw [Hor.out, Hva.out]⟩
          case measure => simp [intOf]; omega
        · have hkn : k = n := by omega
          have e : V ((limbs v).take k) = v := by rw [List.take_of_length_le (by have := Hl.out; omega), V_limbs]
          rw [e]
          have hnl : ¬ (k : Int) < n := by omega
          clear e hrr
          have hs0 := Hs.out.1
          have hs9 := Hs.out.2.1
          by_cases hneg : s < 0
          · by_cases hv9 : (v : Int) ≤ 9223372036854775808
            · have Hin : Hid (inR (s * magW s xs)) := Lib.hid (by
                rw [Hv.out]
                have : s = -1 := by omega
                subst this
                unfold inR
                omega)
              have Hf := Lib.hid (int_fin Hs.out (by rw [← Hv.out]; exact Hin.out))
              go_wp2_with fail
              go_ret2
              exact ⟨ret_two (by unfold intR; rw [if_pos ⟨Hw.out, Hin.out⟩, Hv.out]; first | exact Hf.out.1 | exact Hf.out.2) (by unfold intE; rw [if_pos Hw.out, if_pos Hin.out]), Bel3.out⟩
            · have Hin : Hid (¬ inR (s * magW s xs)) := Lib.hid (by
                rw [Hv.out]
                have : s = -1 := by omega
                subst this
                rintro ⟨h1, h2⟩
                omega)
              have hv8 : (9223372036854775808 : Int) < v := by omega
              go_wp2_with fail
              go_ret2
              exact ⟨ret_two (by unfold intR; rw [if_neg (fun h => Hin.out h.2)]) (by unfold intE; rw [if_pos Hw.out, if_neg Hin.out]), Bel3.out⟩
          · by_cases hv9 : (v : Int) ≤ 9223372036854775807
            · have Hin : Hid (inR (s * magW s xs)) := Lib.hid (by
                rw [Hv.out]
                have : s = 0 ∨ s = 1 := by omega
                unfold inR
                rcases this with rfl | rfl <;> omega)
              have Hf := Lib.hid (int_fin Hs.out (by rw [← Hv.out]; exact Hin.out))
              go_wp2_with fail
              go_ret2
              exact ⟨ret_two (by unfold intR; rw [if_pos ⟨Hw.out, Hin.out⟩, Hv.out]; first | exact Hf.out.1 | exact Hf.out.2) (by unfold intE; rw [if_pos Hw.out, if_pos Hin.out]), Bel3.out⟩
            · have Hin : Hid (¬ inR (s * magW s xs)) := Lib.hid (by
                rw [Hv.out]
                have h3 := Hs.out.2.2
                have : s = 0 ∨ s = 1 := by omega
                rcases this with rfl | rfl
                · exfalso; have := h3.1 rfl; omega
                · rintro ⟨h1, h2⟩; omega)
              have hv8 : (9223372036854775807 : Int) < v := by omega
              go_wp2_with fail
              go_ret2
              exact ⟨ret_two (by unfold intR; rw [if_neg (fun h => Hin.out h.2)]) (by unfold intE; rw [if_pos Hw.out, if_neg Hin.out]), Bel3.out⟩
  · have hw2 : isW s xs = false := by simpa using hw
    rw [hw2]
    have Hw := Lib.hid hw
    clear hw hw2
    go_wp2_with fail
    go_ret2
    exact ⟨ret_two (by unfold intR; rw [if_neg (fun h => Hw.out h.1)]) (by unfold intE; rw [if_neg Hw.out]), Bel2.out⟩
end Go.Proofs.Ytmabnnnpjpnhcaa
