/- FnBits returns true at every code. No conditions. -/
import Derived.Test.YtjoflmclgiemoaaRows
import Derived.Test.YtjoflmclgiemoaaBt
import Derived.Test.YtjoflmclgiemoaaLw
import Derived.ProofKit
import Derived.OpenShut
namespace Go.Proofs.Ytjoflmclgiemoaa.fnBits
open Go.ChangeShapes Go.WideShapes Go.ChangeAt Go.RowKit
set_option linter.unusedVariables false

theorem own : ownKnob Try.prog.godebug = none := by kernel_rfl

set_option maxRecDepth 100000
set_option maxHeartbeats 8000000 in
theorem walk (A : Option Addr) (n c : Nat) (bs : List Nat) (w : World) (hr : Rd w w.heap.size A (bs.map fun b => Value.int .u8 (b : Nat))) (hn : bs.length = n) (hb : ∀ b ∈ bs, b < 256) :
    Calls Try.prog 3 #[.slice A n c] w fun e w' => e = .returned (.bool true) ∧ Below w.heap.size w w' := by
  by_cases hbig : 4096 < n
  · clear hr hn hb
    go_enter Try.func3, Try.ntmps3
    go_wp2_with fail
    refine (big_yes A n c _ hbig).mono ?_
    rintro e w' ⟨rfl, rfl⟩
    go_wp2_with fail
    go_ret
    exact ⟨rfl, Below.refl _ _⟩
  have C0 : Hid (Code1 w A n bs) := Lib.hid ⟨hr, hn, hb, by omega⟩
  have Hbig : Hid (n ≤ 4096) := Lib.hid (by omega)
  clear hr hn hb hbig
  go_enter Try.func3, Try.ntmps3
  go_wp2_with fail
  refine (big_no A n c _ Hbig.out).mono ?_
  rintro e w' ⟨rfl, rfl⟩
  go_wp2_with fail
  refine (drawBits_any A n c bs _ C0.out).mono ?_
  rintro e w1 ⟨x, rfl, hx, hb⟩
  have Hx := Lib.hid hx
  have B1 := Lib.hid hb
  clear hx hb
  go_wp2_with fail
  refine (implBits_any x _ Hx.out).mono ?_
  rintro e w' ⟨rfl, rfl⟩
  cases hnx : nan32 x
  case' false =>
    have Ex := Lib.hid (bits32_not hnx)
    rw [Ex.out]
    go_wp2_with fail
    refine (implFob_yes x _ Hx.out hnx).mono ?_
    rintro e w' ⟨rfl, rfl⟩
    go_wp2_with fail
    refine (specBits_any x _ Hx.out).mono ?_
    rintro e w' ⟨rfl, nd, rfl⟩
    rw [Ex.out]
    go_wp2_with fail
    refine (f5_yes x _ Hx.out hnx).mono ?_
    rintro e w' ⟨rfl, rfl⟩
  case' true =>
    have Ex : Hid (((bits32 x : Nat) : Int) = ((2143289344 : Nat) : Int)) := Lib.hid (by unfold bits32; rw [if_pos hnx])
    rw [Ex.out]
    go_wp2_with fail
    refine (implFob_nan 2143289344 _ (by decide) (by decide)).mono ?_
    rintro e w' ⟨rfl, rfl⟩
    go_wp2_with fail
    refine (specBits_any x _ Hx.out).mono ?_
    rintro e w' ⟨rfl, nd, rfl⟩
    rw [Ex.out]
    go_wp2_with fail
    refine (f5_nan x 2143289344 _ hnx (by decide)).mono ?_
    rintro e w' ⟨rfl, rfl⟩
  all_goals as_aux_lemma =>
    go_wp2_with fail
    refine (implClass_any x _ Hx.out).mono ?_
    rintro e w' ⟨rfl, rfl⟩
    go_wp2_with fail
    refine (specClass_any x _ Hx.out).mono ?_
    rintro e w' ⟨rfl, nd2, rfl⟩
    have B2 := Lib.hid (fun q => below_drewN B1.out q)
    go_wp2_with fail
    refine (drawFob_any A n c bs _ (C0.out.below (B2.out _))).mono ?_
    rintro e w2 ⟨m, rfl, hb⟩
    have B3 := Lib.hid ((B2.out _).trans (hb.mono (B2.out (nd + nd2)).size))
    clear hb
    rcases fob_cases m with ⟨ci, cs⟩ | ⟨ci, cs⟩ | ⟨z, hz, hzn, hzm, ci, cs⟩
    case' inl =>
      have Ci := Lib.hid ci
      have Cs := Lib.hid cs
      clear ci cs
      have hs1 := order_self32 0 (by decide) (by decide)
      go_wp2_with fail
      refine (Ci.out _).mono ?_
      rintro e w' ⟨rfl, rfl⟩
      go_wp2_with fail
      refine (Cs.out _).mono ?_
      rintro e w' ⟨rfl, rfl⟩
      go_wp2_with fail
      refine (f5_yes 0 _ (by decide) (by decide)).mono ?_
      rintro e w' ⟨rfl, rfl⟩
      go_wp2_with fail
    case' inr.inl =>
      have Ci := Lib.hid ci
      have Cs := Lib.hid cs
      clear ci cs
      have hs1 := nan32_cmp 2143289344 2143289344 .eq (.inl (by decide))
      go_wp2_with fail
      refine (Ci.out _).mono ?_
      rintro e w' ⟨rfl, rfl⟩
      go_wp2_with fail
      refine (Cs.out _).mono ?_
      rintro e w' ⟨z', rfl, hz', rfl⟩
      have Hz' := Lib.hid hz'
      clear hz'
      go_wp2_with fail
      refine (f5_nan 2143289344 z' _ (by decide) Hz'.out).mono ?_
      rintro e w' ⟨rfl, rfl⟩
      go_wp2_with fail
    case' inr.inr =>
      have Ci := Lib.hid ci
      have Cs := Lib.hid cs
      have Hz := Lib.hid hz
      have Hzn := Lib.hid hzn
      have Hzm := Lib.hid hzm
      have hs1 := order_self32 z hz hzn
      clear ci cs hz hzn hzm
      go_wp2_with fail
      refine (Ci.out _).mono ?_
      rintro e w' ⟨rfl, rfl⟩
      go_wp2_with fail
      refine (Cs.out _).mono ?_
      rintro e w' ⟨rfl, rfl⟩
      go_wp2_with fail
      refine (f5_yes z _ Hz.out Hzn.out).mono ?_
      rintro e w' ⟨rfl, rfl⟩
      go_wp2_with fail
      refine (implBits_any z _ Hz.out).mono ?_
      rintro e w' ⟨rfl, rfl⟩
      rw [Hzm.out]
      go_wp2_with fail
    all_goals as_aux_lemma =>
      by_cases hq : nan32 x = true
      case' pos =>
        first
        | exact absurd hq (by rw [hnx]; decide)
        | (
          refine (implPlace_no x _ Hx.out hq).mono ?_
          rintro e w' ⟨rfl, rfl⟩
          go_wp2_with fail
          refine (specPlace_no x _ Hx.out hq).mono ?_
          rintro e w' ⟨rfl, rfl⟩
          go_wp2_with fail
          )
      case' neg =>
        first
        | exact absurd hnx hq
        | (
          have hq' : nan32 x = false := hnx
          obtain ⟨l1, l2⟩ := place_bounds x hq'
          obtain ⟨n1, n2, n3, n4, n5, n6, n7⟩ := neigh_of x Hx.out hq'
          have N4 := Lib.hid n4
          have N5 := Lib.hid n5
          have N6 := Lib.hid n6
          clear n4 n5 n6
          refine (implPlace_yes x _ Hx.out hq').mono ?_
          rintro e w' ⟨rfl, rfl⟩
          go_wp2_with fail
          refine (specPlace_yes x _ Hx.out hq').mono ?_
          rintro e w' ⟨rfl, nd3, rfl⟩
          go_wp2_with fail
          refine (implAt_yes (place32 x) _ l1 l2).mono ?_
          rintro e w' ⟨rfl, rfl⟩
          go_wp2_with fail
          refine (implUp_yes x _ Hx.out hq').mono ?_
          rintro e w' ⟨rfl, rfl⟩
          go_wp2_with fail
          refine (implDown_yes x _ Hx.out hq').mono ?_
          rintro e w' ⟨rfl, rfl⟩
          rcases n7 with ⟨g1, g2, g3⟩ | ⟨g1, g2⟩
          case' inl =>
            have G2 := Lib.hid g2
            clear g2
            go_wp2_with fail
            refine (implDown_yes (at32 (beside x 1)) _ N4.out N5.out).mono ?_
            rintro e w' ⟨rfl, rfl⟩
            go_wp2_with fail
          case' inr =>
            have G2 := Lib.hid g2
            clear g2
            go_wp2_with fail
          all_goals
            refine (implPlace_yes (at32 (beside x 1)) _ N4.out N5.out).mono ?_
            rintro e w' ⟨rfl, rfl⟩
            rw [N6.out, G2.out]
            go_wp2_with fail
          )
      all_goals as_aux_lemma =>
        refine (drawAt_any A n c bs _ (C0.out.below (below_like B3.out (by rfl) (by rfl) (by rfl) (by rfl)))).mono ?_
        rintro e w3 ⟨k, rfl, hb⟩
        have B4 := Lib.hid (below_more B3.out hb (by rfl) (by rfl) (by rfl) (by rfl))
        clear hb
        obtain ⟨c2, z2, hz2, hzn2, ai, az⟩ := fap_same k
        have Ai := Lib.hid ai
        have As := Lib.hid az
        have Hz2 := Lib.hid hz2
        have Hzn2 := Lib.hid hzn2
        clear ai az hz2 hzn2
        go_wp2_with fail
        refine (Ai.out _).mono ?_
        rintro e w' ⟨rfl, rfl⟩
        go_wp2_with fail
        refine (As.out _).mono ?_
        rintro e w' ⟨rfl, rfl⟩
        go_wp2_with fail
        refine (drawCmp_any A n c bs _ (C0.out.below B4.out)).mono ?_
        rintro e w4 ⟨a, b, rfl, ha, hb, hbw⟩
        have B5 := Lib.hid (B4.out.trans (hbw.mono B4.out.size))
        have Ha := Lib.hid ha
        have Hb := Lib.hid hb
        clear ha hb hbw
        obtain ⟨t, s, ht, hs, hts⟩ := less_same a b
        have Ht := Lib.hid ht
        have Hs := Lib.hid hs
        have Hts := Lib.hid hts
        clear ht hs hts
        go_wp2_with fail
        rcases cmp_both a b Ha.out Hb.out with ⟨ki, ks⟩ | ⟨hna, hnb, o, ho, ki, ks⟩
        all_goals as_aux_lemma =>
          have Ki := Lib.hid ki
          have Ks := Lib.hid ks
          clear ki ks
          refine (Ki.out _).mono ?_
          rintro e w' ⟨rfl, rfl⟩
          go_wp2_with fail
          refine (Ks.out _).mono ?_
          rintro e w' ⟨rfl, rfl⟩
          go_wp2_with fail
          refine (f5_yes z2 _ Hz2.out Hzn2.out).mono ?_
          rintro e w' ⟨rfl, rfl⟩
          go_wp2_with fail
          refine (implLess_any a b _ Ha.out Hb.out).mono ?_
          rintro e w' ⟨rfl, rfl⟩
          rw [← Ht.out]
          go_wp2_with fail
          refine (specLess_any a b _ Ha.out Hb.out).mono ?_
          rintro e w' ⟨rfl, rfl⟩
          rw [← Ht.out]
          go_wp2_with fail
          refine (implLess_any a b _ Ha.out Hb.out).mono ?_
          rintro e w' ⟨rfl, rfl⟩
          rw [← Ht.out]
          cases t
          case' false => go_wp2_with fail
          case' true =>
            have hsf : s = false := by simpa using Hts.out
            have Hsf := Lib.hid hsf
            clear hsf
            go_wp2_with fail
            refine (implLess_any b a _ Hb.out Ha.out).mono ?_
            rintro e w' ⟨rfl, rfl⟩
            rw [← Hs.out, Hsf.out]
            go_wp2_with fail
          all_goals
            first
            | (go_ret
               exact ⟨rfl, below_like B5.out (by rfl) (by rfl) (by rfl) (by rfl)⟩)
            | (
              refine (implPlace_yes a _ Ha.out hna).mono ?_
              rintro e w' ⟨rfl, rfl⟩
              go_wp2_with fail
              refine (implPlace_yes b _ Hb.out hnb).mono ?_
              rintro e w' ⟨rfl, rfl⟩
              rcases ho with ⟨rfl, d1, d2⟩ | ⟨rfl, d1, d2⟩ | ⟨rfl, d1, d2⟩
              all_goals
                go_wp2_with fail
                go_ret
                exact ⟨rfl, below_like B5.out (by rfl) (by rfl) (by rfl) (by rfl)⟩)

/-! the step from the walk to the given statement -/
set_option maxRecDepth 100000 in
theorem lifted (os : Os) (started : os.Started) (H : Type) (enc : TypeId × Value → H) :
    ReturnsInHanded {} Try.checked os 3 .any (Rows.fnBitsSpec.pre6 enc Try.prog Try.f3 Rows.fnBitsRow.domain false) (Rows.fnBitsSpec.post enc Try.prog Try.f3 false true false false) := by
  refine returnsInHanded_of_change (C := Try.checked) own started (by kernel_rfl) Try.func3
    (ChangeSpec.witness6 (enc := enc) (C := Try.checked) false ⟨#[], #[.slice none 0 0], []⟩ 8 (by kernel_rfl) (by kernel_rfl) (by kernel_rfl) (by kernel_rfl)) ?_
  intro W base args ds gs before hval0 hW hcnd _
  have hval : ∀ (j : Nat) t v, Try.f3.params[j]? = some t → args[j]? = some v → Value.okWide Try.prog W .any base t v := hval0
  have hW' := hW
  obtain ⟨p, q, hA0, hV, rfl, hfz, hnd⟩ := hW
  have hA : DataW.TrodAll enc Try.prog W 0 (fun _ => true) true Try.f3.params.toList args.toList ds p := hA0
  rw [Try.params3] at hA hval
  obtain ⟨v0, vs0, d0, ds0, p0, q0, hargs, rfl, rfl, h0, r0⟩ := trodAll_cons hA
  obtain ⟨rfl, rfl, rfl⟩ := trodAll_nil r0
  obtain rfl : args = #[v0] := by cases args; simp_all
  obtain ⟨rfl, rfl⟩ := trodVars_none hV
  have hc0 := h0
  obtain ⟨A0, n0, c0, xs0, rfl, hr0, hl0, hx0⟩ := open_bytes (hval 0 22 v0 rfl rfl) h0
  clear hA0 hval0
  simp only [List.append_nil] at hW'
  refine (walk A0 n0 c0 xs0 W hr0 hl0 hx0).mono fun e W' ⟨he, hg⟩ => ?_
  subst he
  exact ⟨_, rfl, law_end (pa := _) hW' (by simp) rfl (fun _ _ _ => (trodAll_cons_mk (shut_bool Try.underlying4 _) trodAll_mk0)) (fun sp hsp => (trodAll_cons_mk (carryB (by kernel_rfl) (of_decide_eq_true (by kernel_rfl)) hg hc0 (fun x hx => hW'.lt x (by simp [hx])) (fun x hx => hsp x (by simp [hx]))) trodAll_mk0)) rfl
    hg (ok_one (by kernel_rfl) rfl (okWide_bool_mk Try.underlying4 _))⟩

theorem proved : Rows.FnBitsSaid :=
  OpenClaim.holds_of_wide 3 Try.f3 rfl rfl rfl rfl rfl rfl rfl ⟨rfl, rfl, rfl, rfl, rfl⟩ rfl rfl rfl rfl rfl (by kernel_rfl) Try.func3 (by kernel_rfl)
    (of_decide_eq_true (by kernel_rfl)) (by unfold Func.isWrapper; first | (rw [if_pos (by decide +kernel)]; kernel_rfl) | (rw [if_neg (by decide +kernel)]; exact ⟨rfl, rfl⟩))
    (fun os started H enc _ => lifted os started H enc)
#print axioms proved
end Go.Proofs.Ytjoflmclgiemoaa.fnBits
