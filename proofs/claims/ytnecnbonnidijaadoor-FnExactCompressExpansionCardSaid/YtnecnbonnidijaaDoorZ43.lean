/- FnExactCompressExpansion returns true at every slice of floats of 32 bits: the program's CompressExpansion gives the list and the code that the model gives, in memory of its own, and changes no argument. Condition: the table math/bits.deBruijn64tab is as Go's library lays it (tied to the text). -/
import Derived.Test.YtnecnbonnidijaaDoorRows
import Derived.Test.YtnecnbonnidijaaDoorGC20
import Derived.Test.YtnecnbonnidijaaDoorGC6
import Derived.Test.YtnecnbonnidijaaDoorGC19
import Derived.Test.YtnecnbonnidijaaDoorGC1
import Derived.Test.YtnecnbonnidijaaDoorTie
import Derived.Test.YtnecnbonnidijaaDoorCards
import Derived.SevenTiedAt
import Derived.ProofKit
import Derived.OpenShut
import Derived.Deep.RegionHeld3
namespace Go.Proofs.YtnecnbonnidijaaDoor.fnExactCompressExpansion
set_option maxRecDepth 100000
open Go Go.ChangeShapes Go.WideShapes Go.ChangeAt Go.RowKit
set_option linter.unusedVariables false
set_option linter.unusedSimpArgs false

theorem own : ownKnob Tryd.prog.godebug = none := by kernel_rfl

theorem fl_all (xs : List Nat) : ∀ u ∈ fs xs, ∃ b, u = .float .f32 b := by
  intro u hu; obtain ⟨x, _, rfl⟩ := List.mem_map.1 hu; exact ⟨x, rfl⟩
theorem cpL_ok : ∀ (k : Nat) (U : Int) (l : List Nat), cpL k U = some l → l.length ≤ k ∧ ∀ x ∈ l, x < 4294967296
  | 0, U, l, h => by cases h
  | k + 1, U, l, h => by
    have hw : wm (rdF U (-149) 0) < 4294967296 := wm_lt (rdF_ok _ _ _).1
    by_cases hf : fin32 (rdF U (-149) 0) = true
    · by_cases h0 : U - uI (rdF U (-149) 0) = 0
      · rw [cpL_end hf h0] at h
        cases h
        refine ⟨by simp, ?_⟩
        intro x hx
        simp only [List.mem_cons, List.not_mem_nil, or_false] at hx
        rw [hx]; exact hw
      · rw [cpL_on hf h0] at h
        cases hc : cpL k (U - uI (rdF U (-149) 0)) with
        | none => rw [hc] at h; cases h
        | some l2 =>
          rw [hc] at h
          cases h
          obtain ⟨h1, h2⟩ := cpL_ok k _ l2 hc
          refine ⟨by simp; omega, ?_⟩
          intro x hx
          rcases List.mem_cons.1 hx with rfl | hx
          · exact hw
          · exact h2 x hx
    · rw [cpL_inf (by simpa using hf)] at h; cases h
theorem ce_ok (xs : List Nat) : (ceL xs).length ≤ 8 ∧ ∀ x ∈ ceL xs, x < 4294967296 := by
  by_cases h : exE xs = 0
  · cases hc : cpL 8 (uS xs) with
    | none => rw [(ce_none h hc).2]; exact ⟨by simp, fun x hx => by simp at hx⟩
    | some l => rw [(ce_some h hc).2]; exact cpL_ok 8 _ l hc
  · rw [(ce_no h).2]; exact ⟨by simp, fun x hx => by simp at hx⟩
set_option maxHeartbeats 16000000 in
set_option maxRecDepth 100000 in
theorem walk (A0 : Option Addr) (n0 c0 : Nat) (xs0 : List Nat) (w0 : World) (hr0 : Rd w0 w0.heap.size A0 (xs0.map (Value.float .f32))) (hn0 : xs0.length = n0) (hb0 : ∀ x ∈ xs0, x < 4294967296) (hT : TabZ w0) :
    Calls Tryd.prog 9 #[.slice A0 n0 c0] w0 fun e w' => e = .returned (.bool true) ∧ Below w0.heap.size w0 w' := by
  have Hn0 := Lib.hid hn0
  have Hb0 := Lib.hid hb0
  have Hr0 := Lib.hid hr0
  have HT := Lib.hid hT
  by_cases hbig : 1048576 < n0
  · clear Hr0 Hb0 Hn0 HT hn0 hb0 hr0 hT
    go_enter Tryd.func9, Tryd.ntmps9
    go_wp2_with fail
    go_ret
    exact ⟨rfl, Below.refl _ _⟩
  have hle : (n0 : Int) ≤ 1048576 := by omega
  have Hle0 : Hid (n0 ≤ 1048576) := Lib.hid (by omega)
  have Hk0 : Hid (n0 ≤ 1048580) := Lib.hid (by omega)
  clear hn0 hb0 hr0 hT hbig
  obtain ⟨L, hL⟩ : ∃ L, L = ceL xs0 := ⟨_, rfl⟩
  have HL := Lib.hid hL
  have HLb : Hid (∀ x ∈ L, x < 4294967296) := Lib.hid (by rw [hL]; exact (ce_ok xs0).2)
  have hl8 : L.length ≤ 8 := by rw [hL]; exact (ce_ok xs0).1
  obtain ⟨N, hN⟩ : ∃ N, N = L.length := ⟨_, rfl⟩
  have HN := Lib.hid hN
  have HN1 : Hid (N ≤ 1048576) := Lib.hid (by omega)
  clear hL hl8 hN
  obtain ⟨CD, hCD⟩ : ∃ CD : Int, CD = ceE xs0 := ⟨_, rfl⟩
  have HCD := Lib.hid hCD
  clear hCD
  go_enter Tryd.func9, Tryd.ntmps9
  go_wp2_with fail
  have Bel_0 : Hid (Below w0.heap.size w0 w0) := Lib.hid (Below.refl _ _)
  have Ra0_0 : Hid (Rt w0 w0.heap.size A0 (fs xs0)) := Lib.hid ⟨Hr0.out, Nat.le_refl _⟩
  clear Hr0
  refine (toF_any A0 n0 c0 (fs xs0) _ Ra0_0.out.all (by rw [fs_len]; exact Hn0.out) (fl_all xs0) Hle0.out).mono ?_
  rintro e w1 ⟨v, rfl, own, hb⟩
  obtain ⟨Ba, da, rfl⟩ := own_form own
  have Own := Lib.hid (Ft.new (Fw.own own))
  clear own
  have Bel_1 := Lib.hid (belNext Bel_0.out hb)
  have Sz_1 : Hid (w0.heap.size ≤ w1.heap.size) := Lib.hid hb.size
  have Ra0_1 := Lib.hid (Ra0_0.out.next hb)
  clear hb Bel_0 Ra0_0
  have Owa_1 := Own
  clear Own
  go_wp2_with fail
  refine (specCe_any xs0 Ba n0 da _ Owa_1.out.rt.all Hn0.out Hk0.out Hb0.out).mono ?_
  rintro e w2 ⟨Be, nE, de, rfl, hlen, hfw, hcap, hb⟩
  rw [show nE = N by rw [HN.out, HL.out]; exact hlen.symm, ← HCD.out]
  rw [← HL.out] at hfw
  have Own := Lib.hid (Ft.new hfw)
  clear hlen hfw hcap
  have Bel_2 := Lib.hid (belNext Bel_1.out hb)
  have Sz_2 : Hid (w1.heap.size ≤ w2.heap.size) := Lib.hid hb.size
  have Ra0_2 := Lib.hid (Ra0_1.out.next hb)
  have Owa_2 := Lib.hid (Owa_1.out.next hb)
  clear hb Bel_1 Ra0_1 Owa_1
  have Owe_2 := Own
  clear Own
  go_wp2_with fail
  clear Owa_2
  refine (toF_any A0 n0 c0 (fs xs0) _ Ra0_2.out.all (by rw [fs_len]; exact Hn0.out) (fl_all xs0) Hle0.out).mono ?_
  rintro e w3 ⟨v, rfl, own, hb⟩
  obtain ⟨Bx, dx, rfl⟩ := own_form own
  have Own := Lib.hid (Ft.new (Fw.own own))
  clear own
  have Bel_3 := Lib.hid (belNext Bel_2.out hb)
  have Sz_3 : Hid (w2.heap.size ≤ w3.heap.size) := Lib.hid hb.size
  have Ra0_3 := Lib.hid (Ra0_2.out.next hb)
  have Owe_3 := Lib.hid (Owe_2.out.next hb)
  clear hb Bel_2 Ra0_2 Owe_2
  have Owx_3 := Own
  clear Own
  go_wp2_with fail
  refine (implCe_any xs0 Bx n0 dx _ Owx_3.out.rt.all Hn0.out Hk0.out Hb0.out (HT.out.next Bel_3.out)).mono ?_
  rintro e w4 ⟨Bg, nE, dg, rfl, hlen, hfw, hcap, hb⟩
  rw [show nE = N by rw [HN.out, HL.out]; exact hlen.symm, ← HCD.out]
  rw [← HL.out] at hfw
  have Own := Lib.hid (Ft.new hfw)
  clear hlen hfw hcap
  have Bel_4 := Lib.hid (belNext Bel_3.out hb)
  have Sz_4 : Hid (w3.heap.size ≤ w4.heap.size) := Lib.hid hb.size
  have Ra0_4 := Lib.hid (Ra0_3.out.next hb)
  have Owe_4 := Lib.hid (Owe_3.out.next hb)
  have Owx_4 := Lib.hid (Owx_3.out.next hb)
  clear hb Bel_3 Ra0_3 Owe_3 Owx_3
  have Owg_4 := Own
  clear Own
  go_wp2_with fail
  refine (eqF_yes Bg Be N dg de _ L L _ Owg_4.out.rt.all Owe_4.out.rt.all HN.out.symm HN.out.symm (fun k h h' => ⟨HLb.out _ (List.getElem_mem h), HLb.out _ (List.getElem_mem h), .inl rfl⟩) HN1.out).mono ?_
  rintro e w5 ⟨rfl, q, hq⟩
  have hb : Below w4.heap.size w4 w5 := by rw [hq]; exact below_drewN (Below.refl _ _) q
  clear hq
  have Bel_5 := Lib.hid (belNext Bel_4.out hb)
  have Sz_5 : Hid (w4.heap.size ≤ w5.heap.size) := Lib.hid hb.size
  have Ra0_5 := Lib.hid (Ra0_4.out.next hb)
  have Owe_5 := Lib.hid (Owe_4.out.next hb)
  have Owx_5 := Lib.hid (Owx_4.out.next hb)
  have Owg_5 := Lib.hid (Owg_4.out.next hb)
  clear hb Bel_4 Ra0_4 Owe_4 Owx_4 Owg_4
  go_wp2_with fail
  refine (toF_any A0 n0 c0 (fs xs0) _ Ra0_5.out.all (by rw [fs_len]; exact Hn0.out) (fl_all xs0) Hle0.out).mono ?_
  rintro e w6 ⟨v, rfl, own, hb⟩
  obtain ⟨Bt, dt, rfl⟩ := own_form own
  have Own := Lib.hid (Ft.new (Fw.own own))
  clear own
  have Bel_6 := Lib.hid (belNext Bel_5.out hb)
  have Sz_6 : Hid (w5.heap.size ≤ w6.heap.size) := Lib.hid hb.size
  have Ra0_6 := Lib.hid (Ra0_5.out.next hb)
  have Owe_6 := Lib.hid (Owe_5.out.next hb)
  have Owx_6 := Lib.hid (Owx_5.out.next hb)
  have Owg_6 := Lib.hid (Owg_5.out.next hb)
  clear hb Bel_5 Ra0_5 Owe_5 Owx_5 Owg_5
  have Owt_6 := Own
  clear Own
  go_wp2_with fail
  refine (eqF_yes Bx Bt n0 dx dt _ xs0 xs0 _ Owx_6.out.rt.all Owt_6.out.rt.all Hn0.out Hn0.out (fun k h h' => ⟨Hb0.out _ (List.getElem_mem h), Hb0.out _ (List.getElem_mem h), .inl rfl⟩) Hle0.out).mono ?_
  rintro e w7 ⟨rfl, q, hq⟩
  have hb : Below w6.heap.size w6 w7 := by rw [hq]; exact below_drewN (Below.refl _ _) q
  clear hq
  have Bel_7 := Lib.hid (belNext Bel_6.out hb)
  have Sz_7 : Hid (w6.heap.size ≤ w7.heap.size) := Lib.hid hb.size
  have Ra0_7 := Lib.hid (Ra0_6.out.next hb)
  have Owe_7 := Lib.hid (Owe_6.out.next hb)
  have Owx_7 := Lib.hid (Owx_6.out.next hb)
  have Owg_7 := Lib.hid (Owg_6.out.next hb)
  have Owt_7 := Lib.hid (Owt_6.out.next hb)
  clear hb Bel_6 Ra0_6 Owe_6 Owx_6 Owg_6 Owt_6
  go_wp2_with fail
  clear Owt_7
  refine (markF_any Bx n0 dx 1 xs0 _ _ _ Owx_7.out.1 Hn0.out (by have := Hle0.out; omega) (by omega) (by omega)).mono ?_
  rintro e w8 ⟨rfl, ho, row, hg, hrow⟩
  obtain ⟨K1, hK1⟩ : ∃ K1 : Int, K1 = 1 + ↑n0 := ⟨_, rfl⟩
  rw [← hK1]
  have hK1a : 0 ≤ K1 := by omega
  have hK1b : K1 ≤ 1048577 := by have := Hle0.out; omega
  clear hK1
  have Bel_8 := Lib.hid (belMarked Bel_7.out hg hrow (by have z0 := Sz_1.out; have z1 := Sz_2.out; have z2 := Sz_3.out; have z3 := Sz_4.out; have z4 := Sz_5.out; have z5 := Sz_6.out; have z6 := Sz_7.out; (try simp only [] at *); omega))
  have Sz_8 : Hid (w7.heap.size ≤ w8.heap.size) := Lib.hid hg.size
  have Ra0_8 := Lib.hid (Ra0_7.out.grown hg hrow (by have z0 := Sz_1.out; have z1 := Sz_2.out; have z2 := Sz_3.out; have z3 := Sz_4.out; have z4 := Sz_5.out; have z5 := Sz_6.out; have z6 := Sz_7.out; (try simp only [] at *); omega))
  have Owe_8 := Lib.hid (Owe_7.out.grown hg hrow (by have z0 := Sz_1.out; have z1 := Sz_2.out; have z2 := Sz_3.out; have z3 := Sz_4.out; have z4 := Sz_5.out; have z5 := Sz_6.out; have z6 := Sz_7.out; (try simp only [] at *); omega))
  have Owg_8 := Lib.hid (Owg_7.out.grown hg hrow (by have z0 := Sz_1.out; have z1 := Sz_2.out; have z2 := Sz_3.out; have z3 := Sz_4.out; have z4 := Sz_5.out; have z5 := Sz_6.out; have z6 := Sz_7.out; (try simp only [] at *); omega))
  clear hg hrow ho Bel_7 Ra0_7 Owe_7 Owx_7 Owg_7
  go_wp2_with fail
  refine (eqF_yes Bg Be N dg de _ L L _ Owg_8.out.rt.all Owe_8.out.rt.all HN.out.symm HN.out.symm (fun k h h' => ⟨HLb.out _ (List.getElem_mem h), HLb.out _ (List.getElem_mem h), .inl rfl⟩) HN1.out).mono ?_
  rintro e w9 ⟨rfl, q, hq⟩
  have hb : Below w8.heap.size w8 w9 := by rw [hq]; exact below_drewN (Below.refl _ _) q
  clear hq
  have Bel_9 := Lib.hid (belNext Bel_8.out hb)
  have Sz_9 : Hid (w8.heap.size ≤ w9.heap.size) := Lib.hid hb.size
  have Ra0_9 := Lib.hid (Ra0_8.out.next hb)
  have Owe_9 := Lib.hid (Owe_8.out.next hb)
  have Owg_9 := Lib.hid (Owg_8.out.next hb)
  clear hb Bel_8 Ra0_8 Owe_8 Owg_8
  go_wp2_with fail
  refine (markF_any Bg N dg 1 L _ _ _ Owg_9.out.1 HN.out.symm (by have := HN1.out; omega) (by omega) (by omega)).mono ?_
  rintro e w10 ⟨rfl, ho, row, hg, hrow⟩
  have Bel_10 := Lib.hid (belMarked Bel_9.out hg hrow (by have z0 := Sz_1.out; have z1 := Sz_2.out; have z2 := Sz_3.out; have z3 := Sz_4.out; have z4 := Sz_5.out; have z5 := Sz_6.out; have z6 := Sz_7.out; have z7 := Sz_8.out; have z8 := Sz_9.out; (try simp only [] at *); omega))
  have Sz_10 : Hid (w9.heap.size ≤ w10.heap.size) := Lib.hid hg.size
  have Ra0_10 := Lib.hid (Ra0_9.out.grown hg hrow (by have z0 := Sz_1.out; have z1 := Sz_2.out; have z2 := Sz_3.out; have z3 := Sz_4.out; have z4 := Sz_5.out; have z5 := Sz_6.out; have z6 := Sz_7.out; have z7 := Sz_8.out; have z8 := Sz_9.out; (try simp only [] at *); omega))
  have Owe_10 := Lib.hid (Owe_9.out.grown hg hrow (by have z0 := Sz_1.out; have z1 := Sz_2.out; have z2 := Sz_3.out; have z3 := Sz_4.out; have z4 := Sz_5.out; have z5 := Sz_6.out; have z6 := Sz_7.out; have z7 := Sz_8.out; have z8 := Sz_9.out; (try simp only [] at *); omega))
  have Own : Hid (Ft w10 _ _ Bg (fs (marksF 1 N))) := Lib.hid ⟨ho, Nat.le_trans Owg_9.out.2 hg.size⟩
  clear hg hrow ho Bel_9 Ra0_9 Owe_9 Owg_9
  have Owg_10 := Own
  clear Own
  go_wp2_with fail
  refine (heldF_any Bg N dg 1 _ _ Owg_10.out.rt.all (by have := HN1.out; omega) (by omega) (by omega)).mono ?_
  rintro e w11 ⟨rfl, q, hq⟩
  have hb : Below w10.heap.size w10 w11 := by rw [hq]; exact below_drewN (Below.refl _ _) q
  clear hq
  have Bel_11 := Lib.hid (belNext Bel_10.out hb)
  have Sz_11 : Hid (w10.heap.size ≤ w11.heap.size) := Lib.hid hb.size
  have Ra0_11 := Lib.hid (Ra0_10.out.next hb)
  have Owe_11 := Lib.hid (Owe_10.out.next hb)
  have Owg_11 := Lib.hid (Owg_10.out.next hb)
  clear hb Bel_10 Ra0_10 Owe_10 Owg_10
  go_wp2_with fail
  refine (toF_any A0 n0 c0 (fs xs0) _ Ra0_11.out.all (by rw [fs_len]; exact Hn0.out) (fl_all xs0) Hle0.out).mono ?_
  rintro e w12 ⟨v, rfl, own, hb⟩
  obtain ⟨By, dy, rfl⟩ := own_form own
  have Own := Lib.hid (Ft.new (Fw.own own))
  clear own
  have Bel_12 := Lib.hid (belNext Bel_11.out hb)
  have Sz_12 : Hid (w11.heap.size ≤ w12.heap.size) := Lib.hid hb.size
  have Ra0_12 := Lib.hid (Ra0_11.out.next hb)
  have Owe_12 := Lib.hid (Owe_11.out.next hb)
  have Owg_12 := Lib.hid (Owg_11.out.next hb)
  clear hb Bel_11 Ra0_11 Owe_11 Owg_11
  have Owy_12 := Own
  clear Own
  go_wp2_with fail
  refine (implCe_any xs0 By n0 dy _ Owy_12.out.rt.all Hn0.out Hk0.out Hb0.out (HT.out.next Bel_12.out)).mono ?_
  rintro e w13 ⟨Bh, nE, dh, rfl, hlen, hfw, hcap, hb⟩
  rw [show nE = N by rw [HN.out, HL.out]; exact hlen.symm, ← HCD.out]
  rw [← HL.out] at hfw
  have Own := Lib.hid (Ft.new hfw)
  clear hlen hfw hcap
  have Bel_13 := Lib.hid (belNext Bel_12.out hb)
  have Sz_13 : Hid (w12.heap.size ≤ w13.heap.size) := Lib.hid hb.size
  have Ra0_13 := Lib.hid (Ra0_12.out.next hb)
  have Owe_13 := Lib.hid (Owe_12.out.next hb)
  have Owg_13 := Lib.hid (Owg_12.out.next hb)
  have Owy_13 := Lib.hid (Owy_12.out.next hb)
  clear hb Bel_12 Ra0_12 Owe_12 Owg_12 Owy_12
  have Owh_13 := Own
  clear Own
  go_wp2_with fail
  refine (eqF_yes Bh Be N dh de _ L L _ Owh_13.out.rt.all Owe_13.out.rt.all HN.out.symm HN.out.symm (fun k h h' => ⟨HLb.out _ (List.getElem_mem h), HLb.out _ (List.getElem_mem h), .inl rfl⟩) HN1.out).mono ?_
  rintro e w14 ⟨rfl, q, hq⟩
  have hb : Below w13.heap.size w13 w14 := by rw [hq]; exact below_drewN (Below.refl _ _) q
  clear hq
  have Bel_14 := Lib.hid (belNext Bel_13.out hb)
  have Sz_14 : Hid (w13.heap.size ≤ w14.heap.size) := Lib.hid hb.size
  have Ra0_14 := Lib.hid (Ra0_13.out.next hb)
  have Owe_14 := Lib.hid (Owe_13.out.next hb)
  have Owg_14 := Lib.hid (Owg_13.out.next hb)
  have Owy_14 := Lib.hid (Owy_13.out.next hb)
  have Owh_14 := Lib.hid (Owh_13.out.next hb)
  clear hb Bel_13 Ra0_13 Owe_13 Owg_13 Owy_13 Owh_13
  go_wp2_with fail
  refine (heldF_any Bg N dg 1 _ _ Owg_14.out.rt.all (by have := HN1.out; omega) (by omega) (by omega)).mono ?_
  rintro e w15 ⟨rfl, q, hq⟩
  have hb : Below w14.heap.size w14 w15 := by rw [hq]; exact below_drewN (Below.refl _ _) q
  clear hq
  have Bel_15 := Lib.hid (belNext Bel_14.out hb)
  have Sz_15 : Hid (w14.heap.size ≤ w15.heap.size) := Lib.hid hb.size
  have Ra0_15 := Lib.hid (Ra0_14.out.next hb)
  have Owe_15 := Lib.hid (Owe_14.out.next hb)
  have Owg_15 := Lib.hid (Owg_14.out.next hb)
  have Owy_15 := Lib.hid (Owy_14.out.next hb)
  have Owh_15 := Lib.hid (Owh_14.out.next hb)
  clear hb Bel_14 Ra0_14 Owe_14 Owg_14 Owy_14 Owh_14
  go_wp2_with fail
  go_ret
  exact ⟨rfl, Bel_15.out⟩

/-! the step from the walk to the given statement -/
set_option maxRecDepth 100000 in
theorem lifted (os : Os) (started : os.Started) (H : Type) (enc : TypeId × Value → H) :
    ReturnsInHanded {} Tryd.checked os 9 .any (fun w args => (Rows.fnExactCompressExpansionSpec.pre enc Tryd.prog Tryd.f9 [] false w args ∧ laidMetH Tryd.prog laidL w) ∧ sizedMet enc Tryd.prog Tryd.f9 (OpenSpec.ofChange Rows.fnExactCompressExpansionSpec) false w args) (Rows.fnExactCompressExpansionSpec.post enc Tryd.prog Tryd.f9 false true false false) := by
  refine returnsInHanded_of_change_and (C := Tryd.checked) (X := fun w _ => laidMetH Tryd.prog laidL w) (fun _ _ _ hh h => h.of_heap hh) own started (by kernel_rfl) Tryd.func9
    (ChangeSpec.witness_shaped (enc := enc) (C := Tryd.checked) (os := os) (X := fun w _ => laidMetH Tryd.prog laidL w) false (World.doorLaid Tryd.prog 14 os) #[.slice none 0 0] 8 rfl (World.shaped_of_RefB (by kernel_rfl) (by kernel_rfl)) (by kernel_rfl) (by kernel_rfl) (by kernel_rfl) (door_met os _)) ?_
  intro W base args ds gs before hval0 hW _ _ hL _
  have hval : ∀ (j : Nat) t v, Tryd.f9.params[j]? = some t → args[j]? = some v → Value.okWide Tryd.prog W .any base t v := hval0
  have hW' := hW
  obtain ⟨p, q, hA0, hV, rfl, hfz, hnd⟩ := hW
  have hA : DataW.TrodAll enc Tryd.prog W 0 (fun _ => true) true Tryd.f9.params.toList args.toList ds p := hA0
  rw [Tryd.params9] at hA hval
  obtain ⟨v0, vs0, d0, ds0, p0, q0, hargs, rfl, rfl, h0, r0⟩ := trodAll_cons hA
  obtain ⟨rfl, rfl, rfl⟩ := trodAll_nil r0
  obtain rfl : args = #[v0] := by cases args; simp_all
  obtain ⟨rfl, rfl⟩ := trodVars_none hV
  have hc0 := h0
  obtain ⟨A0, n0, c0, xs0, rfl, hr0, hl0, hx0⟩ := open_floats (hval 0 53 v0 rfl rfl) h0
  clear hA0 hval0
  simp only [List.append_nil] at hW'
  refine (walk A0 n0 c0 xs0 W hr0 hl0 hx0 (tabz_of_laid hL)).mono fun e W' ⟨he, hg⟩ => ?_
  subst he
  exact ⟨_, rfl, law_end (pa := _) hW' (by simp) rfl (fun _ _ _ => (trodAll_cons_mk (shut_bool Tryd.underlying4 _) trodAll_mk0)) (fun sp hsp => (trodAll_cons_mk (carryB (by kernel_rfl) (of_decide_eq_true (by kernel_rfl)) hg hc0 (fun x hx => hW'.lt x (by simp [hx])) (fun x hx => hsp x (by simp [hx]))) trodAll_mk0)) rfl
    hg (ok_one (by kernel_rfl) rfl (okWide_bool_mk Tryd.underlying4 _))⟩

theorem row_proved : Rows.FnExactCompressExpansionSaid :=
  OpenClaim.holds_of_wide 9 Tryd.f9 rfl rfl rfl rfl rfl rfl rfl ⟨rfl, rfl, rfl, rfl, rfl⟩ rfl rfl rfl rfl rfl (by kernel_rfl) Tryd.func9 (by kernel_rfl)
    (of_decide_eq_true (by kernel_rfl)) (by unfold Func.isWrapper; first | (rw [if_pos (by decide +kernel)]; kernel_rfl) | (rw [if_neg (by decide +kernel)]; exact ⟨rfl, rfl⟩))
    (fun os started H enc _ => lifted os started H enc)

theorem proved : Rows.FnExactCompressExpansionCardSaid :=
  Claim7.holds_tied_plain_at .later [] [.data] true (true, "ef298af8e9429d058a3b92795f2aa35ea7919098cf63857fd1bcb0290a91013f") true
    row_proved (fun _ h => by cases h) (by kernel_rfl) (fun _ h => by cases h) fnExactCompressExpansion_row_tie rfl ⟨rfl, rfl⟩ (by kernel_rfl) rfl
    (fun f fn hf hfn => by
      obtain rfl : f = 9 := Option.some.inj ((show Tryd.prog.funcNamed "loop.example/g01172/laws.FnExactCompressExpansion" = some 9 by kernel_rfl).symm.trans hf) |>.symm
      obtain rfl : fn = Tryd.f9 := (Option.some.inj (Tryd.func9.symm.trans hfn)).symm
      exact ⟨by kernel_rfl, fun j t ht => by
        rw [Tryd.params9] at ht
        have hm : t ∈ [53] := by simpa using Array.mem_of_getElem? ht
        have hall : ([53].all fun u => !Tryd.prog.wantsStandIn u) = true := by kernel_rfl
        exact (show Tryd.prog.wantsStandIn t = false by simpa using List.all_eq_true.1 hall t hm)⟩)
    (by kernel_rfl)
#print axioms proved
end Go.Proofs.YtnecnbonnidijaaDoor.fnExactCompressExpansion
