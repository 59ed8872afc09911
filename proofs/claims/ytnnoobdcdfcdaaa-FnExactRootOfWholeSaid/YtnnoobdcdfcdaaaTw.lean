/- Taking a divisor off a rest, of the program. -/
import Derived.Test.YtnnoobdcdfcdaaaTk
namespace Go.Proofs.Ytnnoobdcdfcdaaa
set_option maxRecDepth 100000
open Go.RowKit
set_option linter.unusedSimpArgs false
set_option linter.unusedVariables false

set_option maxHeartbeats 1000000 in
theorem takeOff_any (ds ws : List Nat) (A : Option Addr) (m n cA c o g B : Nat) (w : World) (hr : Rd w B A (vs ds)) (hB : B ≤ g) (hBs : B ≤ w.heap.size) (hown : Ow w g (g + 1) (some ⟨g, 0, none⟩) (vs ws)) (hn : ds.length = n) (hnm : n = m + 1) (hl : Lim ds) (hlw : Lim ws) (ho : o + n < ws.length) (hm : (ws.length : Int) ≤ 200000) (hd : ∀ h : m < ds.length, 0 < ds[m]) (hw : V (ws.drop o) < Bs * V ds) :
    Calls Try.prog 80 #[.slice (some ⟨g, o, none⟩) (n + 1) c, .slice A n cA] w fun e w' => e = .returned (.int .i64 ((V (ws.drop o) / V ds : Nat) : Int)) ∧ w.grownBy w' (some g) ∧ ∃ zs : List Nat, Ow w' g (g + 1) (some ⟨g, 0, none⟩) (vs zs) ∧ zs.length = ws.length ∧ Lim zs ∧ zs.take o = ws.take o ∧ V (zs.drop o) = V (ws.drop o) % V ds := by
  have hst := store_int Try.prog
  have hdm : m < ds.length := by omega
  have hd0 := hd hdm
  have hom : o + m < ws.length := by omega
  have hon : o + (m + 1) < ws.length := by omega
  have Hguess := Lib.hid (tk_guess (m := m) hl hlw (by omega) hon hw hd0)
  have HW : Hid (V (ws.drop o) < Bs * V ds) := Lib.hid hw
  obtain ⟨q, hq, _⟩ := hr.some_ (by rw [vs_len]; omega)
  subst hq
  have hcd := hr.cell (k := m) (by rw [vs_len]; exact hdm)
  rw [vs_get hdm] at hcd
  have hown' : Ow w g (g + 1) (some ⟨g, 0, none⟩) (vi (li ws)) := hown
  have hc1 := (ow_row hown' (k := o + (m + 1)) (by rw [li_len]; exact hon)).1
  have hc0 := (ow_row hown' (k := o + m) (by rw [li_len]; exact hom)).1
  rw [li_get hon] at hc1
  rw [li_get hom] at hc0
  have hx1 := hlw.getElem hon
  have hx0 := hlw.getElem hom
  have hdb := hl.getElem hdm
  rw [Bs_eq] at hx1 hx0 hdb
  have Hr := Lib.hid hr
  have Hn := Lib.hid hn
  have Hl := Lib.hid hl
  have Hlw := Lib.hid hlw
  have Ho := Lib.hid ho
  have Hown := Lib.hid hown'
  have HB := Lib.hid hB
  have HBs := Lib.hid hBs
  have hob : (o : Int) + n ≤ 199999 := by omega
  generalize ws[o + (m + 1)] = x1 at *
  generalize ws[o + m] = x0 at *
  generalize ds[m] = d at *
  have hor := or_limb x1 x0 (by omega) (by rw [Bs_eq]; omega)
  obtain ⟨t, ht⟩ : ∃ t, t = x1 * Bs + x0 := ⟨_, rfl⟩
  rw [← ht] at hor Hguess
  have ht0 : (0 : Int) ≤ t := by omega
  have ht1 : (t : Int) ≤ 281474976710655 := by rw [Bs_eq] at ht; omega
  have hx1a : (0 : Int) ≤ x1 := by omega
  have hx1b : (x1 : Int) ≤ 16777215 := by omega
  have hx0a : (0 : Int) ≤ x0 := by omega
  have hx0b : (x0 : Int) ≤ 16777215 := by omega
  have hda : (1 : Int) ≤ d := by omega
  have hdb' : (d : Int) ≤ 16777215 := by omega
  have hnm1 : (n : Int) - 1 = m := by omega
  have hmn : (m : Int) < (n : Int) + 1 := by omega
  have hmn2 : (m : Int) < (n : Int) := by omega
  clear hr hn hl hlw ho hown hown' hB hBs hd hd0 hw hx1 hx0 hdb ht hdm hom hon
  subst hnm
  go_enter Try.func80, Try.ntmps80
  go_wp2_with fail
  have hi1 : (m : Int) + 1 - 1 = m := by omega
  have hi2 : ((m : Int) + 1).toNat = m + 1 := by omega
  have hi3 : (m : Int) + 1 < ((m + 1 + 1 : Nat) : Int) := by omega
  have hi4 : (m : Int) < ((m + 1 + 1 : Nat) : Int) := by omega
  have hi5 : (m : Int) < ((m + 1 : Nat) : Int) := by omega
  have hi6 : (0 : Int) ≤ (m : Int) + 1 := by omega
  have hd0 : ((d : Int) == 0) = false := beq_false_of_ne (by omega)
  obtain ⟨q0, hq0⟩ : ∃ q0, q0 = t / d := ⟨_, rfl⟩
  have hquo : (t : Int).tdiv (d : Int) = (q0 : Int) := by rw [hq0]; exact (Int.ofNat_tdiv t d).symm
  rw [← hq0] at Hguess
  have hqt : (q0 : Int) ≤ 281474976710655 := by have := Nat.div_le_self t d; omega
  clear hq0
  go_quiet (fail)
  go_wp2_with fail
  obtain ⟨G0, hG0⟩ : ∃ G0, G0 = min (q0 : Int) 16777215 := ⟨_, rfl⟩
  rw [← hG0]
  have hG1 : 0 ≤ G0 := by omega
  have hG2 : G0 ≤ 16777215 := by omega
  have Hover : Hid ((V (ws.drop o) : Int) < (G0 + 1) * V ds) := Lib.hid (by
    have h1 := Hguess.out
    have h2 := HW.out
    rw [Bs_eq] at h2
    have e1 : (((q0 + 1) * V ds : Nat) : Int) = ((q0 : Int) + 1) * V ds := by rw [Int.natCast_mul]; rfl
    by_cases hc : (q0 : Int) ≤ 16777215
    · have : G0 = q0 := by omega
      rw [this, ← e1]; omega
    · have : G0 = 16777215 := by omega
      rw [this]; omega)
  clear hG0 Hguess hquo hor hc1 hc0 hcd hqt
  have Hdr : Hid (w.grownBy (w.drewN nq) (some g)) := Lib.hid ⟨rfl, rfl, rfl, Nat.le_refl _, fun _ _ _ => rfl⟩
  have Hlu := Lib.hid (li_len ws)
  refine (addTimes_any ds (li ws) (-G0) _ (m + 1) _ _ o g B _ (Hr.out.drewN nq) HB.out HBs.out (Hown.out.drewN nq) Hn.out Hl.out (by rw [li_len]; exact Ho.out) (by rw [li_len]; omega) (by omega) (by omega) (fun k h hk => ?_) ?_ ?_).mono ?_
  · rw [li_len] at h
    rw [li_get h]
    have := Hlw.out.getElem h
    rw [Bs_eq] at this; omega
  · rw [li_get Ho.out]; omega
  · rw [li_get Ho.out]
    have := Hlw.out.getElem Ho.out
    rw [Bs_eq] at this; omega
  rintro e w2 ⟨rfl, hg2, zs, hown2, hl2, hv2, hf2, hn2⟩
  have Hz := Lib.hid (tk_first Hlw.out hl2 hv2 hf2 hn2 (by have := Ho.out; omega) hG1 hG2 Hover.out)
  have Hown2 := Lib.hid hown2
  have Hg2 := Lib.hid (gtrans Hdr.out hg2)
  clear hg2 hown2 hl2 hv2 hf2 hn2 Hover Hdr
  go_wp2_with fail
  go_loopw [6] (fun gv wr => ∃ (G : Int) (ys : List Int), gv = .int .i64 G ∧ Tk ws ds o (m + 1) G ys ∧ Ow wr g (g + 1) (some ⟨g, 0, none⟩) (vi ys) ∧ w.grownBy wr (some g)) (fun gv _ => (intOf gv).toNat)
  case atStart => exact ⟨G0, zs, rfl, Hz.out, Hown2.out, Hg2.out⟩
  case round =>
    clear Hz Hown2 Hg2 hG1 hG2
    obtain ⟨G, ys, rfl, hT, hown, hg⟩ := hrel
    obtain ⟨lows, last, h1, h2, h3, h4, h5, h6, h7⟩ := hT.open_ Hl.out Hn.out Ho.out HW.out
    have hon : o + (m + 1) < ys.length := by rw [hT.len]; exact Ho.out
    have hcl := (ow_row hown hon).1
    have hyl : ys[o + (m + 1)] = last := by rw [List.getElem?_eq_getElem hon] at h3; exact Option.some.inj h3
    rw [hyl] at hcl
    have HT := Lib.hid hT
    have Hown := Lib.hid hown
    have Hg := Lib.hid hg
    have Hop := Lib.hid (And.intro h1 (And.intro h2 (And.intro h4 h5)))
    have Hyl := Lib.hid hyl
    have hG0 := hT.low
    have hG1 := hT.high
    have Hsg := Lib.hid (tk_sign (pow_posI (m + 1)) (show (0 : Int) ≤ V lows by omega) (by have := V_lt h1; rw [h2] at this; rw [← Int.natCast_pow]; omega) h5)
    clear hT hown hg h1 h2 h3 h4 h5 hyl
    by_cases hneg : last < 0
    · have Hpos : Hid (1 ≤ G ∧ (V (ws.drop o) : Int) < (G - 1 + 1) * V ds) := Lib.hid (by
        have hX := Hsg.out.1 hneg
        refine ⟨?_, by rw [show G - 1 + 1 = G by omega]; omega⟩
        by_cases hz : G = 0
        · subst hz; rw [Int.zero_mul] at hX; omega
        · omega)
      have hG2 : 1 ≤ G := Hpos.out.1
      go_wp2_with fail
      refine (addTimes_any ds ys 1 _ (m + 1) _ _ o g B _ (Hr.out.by_grown HB.out Hg.out HBs.out) HB.out (Nat.le_trans HBs.out Hg.out.size) Hown.out Hn.out Hl.out hon (by rw [HT.out.len]; omega) (by omega) (by omega) (fun k h hk => ?_) (by rw [Hyl.out]; omega) (by rw [Hyl.out]; omega)).mono ?_
      · obtain ⟨t', ht', hy'⟩ := HT.out.near k hk
        rw [List.getElem?_eq_getElem h] at hy'
        rw [Option.some.inj hy']
        rw [Bs_eq] at ht'; omega
      rintro e w2 ⟨rfl, hg2, zs, hown2, hl2, hv2, hf2, hn2⟩
      have Hz := Lib.hid (HT.out.added hl2 hv2 hf2 hn2 (by have := Ho.out; omega) (by omega) (by omega) Hpos.out.2)
      have Hown2 := Lib.hid hown2
      have Hg2 := Lib.hid (gtrans Hg.out hg2)
      clear hg2 hown2 hl2 hv2 hf2 hn2
      go_wp2_with fail
      go_roundw
      case rel => exact ⟨G - 1, zs, rfl, Hz.out, Hown2.out, Hg2.out⟩
      case measure => simp [intOf]; omega
    · have Hd := Lib.hid (tk_done HT.out Hl.out Hlw.out Hn.out Ho.out HW.out Hop.out.1 Hop.out.2.1 Hop.out.2.2.1 Hop.out.2.2.2 (by omega))
      go_wp2_with fail
      go_ret
      obtain ⟨zs, e1, e2, e3, e4, e5, e6⟩ := Hd.out
      exact ⟨by show Ending.returned (Value.int .i64 G) = _; rw [e6]; rfl, Hg.out, zs, by have h := Hown.out; rw [e1] at h; exact h, e2, e3, e4, e5⟩
end Go.Proofs.Ytnnoobdcdfcdaaa
