/- Texts of this seat, joined: Ro Rp Kj Kk Kl -/
import Derived.Test.YtngminjncdfjdaaGreatDoorY4
import Derived.Test.YtngminjncdfjdaaGreatDoorY3
import Derived.Deep.LoopGhost
import Derived.Test.YtngminjncdfjdaaGreatDoorY6
import Derived.Test.YtngminjncdfjdaaGreatDoorY1
import Derived.Deep.DeepCutAuto
import Derived.Test.YtngminjncdfjdaaGreatDoorY5
import Derived.Test.YtngminjncdfjdaaGreatDoorY2
/- Roots of limbs, of the program: Newton's steps. -/
namespace Go.Proofs.YtngminjncdfjdaaGreatDoor
set_option maxRecDepth 100000
open Go.RowKit
set_option linter.unusedSimpArgs false
set_option linter.unusedVariables false

/-- the greatest number whose square is not greater -/
theorem root_exists (v : Nat) : ∃ r, r * r ≤ v ∧ v < (r + 1) * (r + 1) := by
  induction v with
  | zero => exact ⟨0, by omega, by omega⟩
  | succ v ih =>
    obtain ⟨r, h1, h2⟩ := ih
    by_cases h : v + 1 < (r + 1) * (r + 1)
    · exact ⟨r, by omega, h⟩
    · refine ⟨r + 1, by omega, ?_⟩
      have e : (r + 1 + 1) * (r + 1 + 1) = (r + 1) * (r + 1) + 2 * r + 3 := by
        simp only [Nat.add_mul, Nat.mul_add]; omega
      omega
noncomputable def rt (v : Nat) : Nat := Classical.choose (root_exists v)
end Go.Proofs.YtngminjncdfjdaaGreatDoor
/- Roots of whole numbers, of the model: bit by bit. -/
namespace Go.Proofs.YtngminjncdfjdaaGreatDoor
set_option maxRecDepth 100000
open Go.RowKit
set_option linter.unusedSimpArgs false
set_option linter.unusedVariables false

/-- a box that may be written -/
def MB (w : World) (b : Nat) (s : Int) (A : Option Addr) (n c : Nat) : Prop := (w.cell? ⟨b, 0, none⟩ = some (.int .i64 s) ∧ w.cell? ⟨b, 1, none⟩ = some (.slice A n c) ∧ w.frozen? ⟨b, 0, none⟩ = false ∧ w.frozen? ⟨b, 1, none⟩ = false) ∧ b < w.heap.size
section
variable {w w' : World} {b n c n' c' : Nat} {s s' : Int} {A A' : Option Addr}
theorem MB.next (h : MB w b s A n c) (hb : Below w.heap.size w w') : MB w' b s A n c :=
  ⟨⟨(hb.cell (p := ⟨b, 0, none⟩) h.2).trans h.1.1, (hb.cell (p := ⟨b, 1, none⟩) h.2).trans h.1.2.1, (hb.frozen (p := ⟨b, 0, none⟩) h.2).trans h.1.2.2.1, (hb.frozen (p := ⟨b, 1, none⟩) h.2).trans h.1.2.2.2⟩, Nat.lt_of_lt_of_le h.2 hb.size⟩
theorem MB.box (h : MB w b s A n c) : Box w b s A n c := ⟨⟨h.1.1, h.1.2.1⟩, h.2⟩
theorem MB.over (h : MB w b s A n c) : MB (st w b s' A' n' c') b s' A' n' c' := by
  obtain ⟨⟨h0, h1, h2, h3⟩, h4⟩ := h
  refine ⟨⟨?_, ?_, ?_, ?_⟩, by rw [st_size]; exact h4⟩ <;> · unfold st; go_simp
theorem MB.st_ {b' : Nat} (h : MB w b s A n c) (hne : b ≠ b') : MB (st w b' s' A' n' c') b s A n c := by
  obtain ⟨⟨h0, h1, h2, h3⟩, h4⟩ := h
  refine ⟨⟨?_, ?_, ?_, ?_⟩, by rw [st_size]; exact h4⟩
  · exact (World.cell?_of_block (a := ⟨b, 0, none⟩) (st_heap hne)).trans h0
  · exact (World.cell?_of_block (a := ⟨b, 1, none⟩) (st_heap hne)).trans h1
  · rw [← h2]; unfold World.frozen?; rw [st_heap hne]
  · rw [← h3]; unfold World.frozen?; rw [st_heap hne]
theorem ZO.st_ {lo hi : Nat} {z : Int} (h : ZO w lo hi z s A n c) (hne : b < lo ∨ hi ≤ b) : ZO (st w b s' A' n' c') lo hi z s A n c :=
  (h.setCell hne _).setCell hne _
theorem ResB.st_ {b' : Nat} (h : ResB w b) (hne : b ≠ b') : ResB (st w b' s' A' n' c') b := by
  obtain ⟨⟨h0, h1, h2, h3⟩, h4⟩ := h
  refine ⟨⟨?_, ?_, ?_, ?_⟩, by rw [st_size]; exact h4⟩
  · exact (World.cell?_of_block (a := ⟨b, 0, none⟩) (st_heap hne)).trans h0
  · exact (World.cell?_of_block (a := ⟨b, 1, none⟩) (st_heap hne)).trans h1
  · rw [← h2]; unfold World.frozen?; rw [st_heap hne]
  · rw [← h3]; unfold World.frozen?; rw [st_heap hne]
theorem ZO.lenN {lo hi X : Nat} (h : ZO w lo hi (X : Int) s A n c) : (limbs X).length = n := by have := h.2.1; simpa using this
end
theorem specLeftJ_any (z S k : Int) (A : Option Addr) (n c : Nat) (w : World) (hz : ZV w z S A n c) (hm : (n : Int) ≤ 4000) (hk0 : 0 ≤ k) (hk : k ≤ 100000) :
    Calls Tryz.prog 64 #[.agg #[.int .i64 S, .slice A n c], .int .i64 k] w fun e w' => ∃ Sr Ar nr cr, e = .returned (.agg #[.int .i64 Sr, .slice Ar nr cr]) ∧ ZO w' w.heap.size w'.heap.size ((2 : Int) ^ k.toNat * z) Sr Ar nr cr ∧ Below w.heap.size w w' := by
  obtain ⟨m, rfl⟩ : ∃ m : Nat, k = m := ⟨k.toNat, by omega⟩
  have h := specLeft_any z S A n c m w hz hm hk
  rw [Int.toNat_natCast]
  exact h
theorem specAddZ_any (z z' S S' : Int) (A A' : Option Addr) (n n' c c' : Nat) (w : World) (hz : ZV w z S A n c) (hz' : ZV w z' S' A' n' c') (hm : (n : Int) ≤ 90000) (hm' : (n' : Int) ≤ 90000) :
    Calls Tryz.prog 63 #[.agg #[.int .i64 S, .slice A n c], .agg #[.int .i64 S', .slice A' n' c']] w fun e w' => ∃ Sr Ar nr cr, e = .returned (.agg #[.int .i64 Sr, .slice Ar nr cr]) ∧ ZO w' w.heap.size w'.heap.size (z + z') Sr Ar nr cr ∧ Below w.heap.size w w' := by
  refine (specAdd_any S S' z.natAbs z'.natAbs A A' n n' c c' w hz.sg hz'.sg hz.rd hz'.rd hz.len hz'.len hm hm' hz.cap hz'.cap).mono ?_
  rintro e w' ⟨val, rfl, hv, hb⟩
  obtain ⟨S8, A8, n8, c8, rfl, hzo⟩ := Wz.zo (hv.cast_ (z' := z + z') (by rw [hz.val, hz'.val])) (Nat.le_refl _)
  exact ⟨S8, A8, n8, c8, rfl, hzo, hb⟩
/-- the world of the loop -/
def RtS (W w : World) (Sa : Int) (Aa : Option Addr) (na ca B R : Nat) (S : Int) (A : Option Addr) (n c : Nat) (S' : Int) (A' : Option Addr) (n' c' : Nat) (S1 : Int) (A1 : Option Addr) (n1 c1 : Nat) : Prop :=
  MB w B S A n c ∧ MB w (B + 1) S' A' n' c' ∧ Box w (B + 2) S1 A1 n1 c1 ∧ ZO w (B + 3) w.heap.size (R : Int) S A n c ∧ ZO w (B + 3) w.heap.size ((R * R : Nat) : Int) S' A' n' c' ∧ ZO w W.heap.size B 1 S1 A1 n1 c1 ∧ ResB w (W.heap.size + 1) ∧ Box w W.heap.size Sa Aa na ca ∧ Below W.heap.size W w ∧ W.heap.size + 1 < B
theorem RtS.next {W w w' : World} {Sa : Int} {Aa : Option Addr} {na ca B R : Nat} {S : Int} {A : Option Addr} {n c : Nat} {S' : Int} {A' : Option Addr} {n' c' : Nat} {S1 : Int} {A1 : Option Addr} {n1 c1 : Nat} (h : RtS W w Sa Aa na ca B R S A n c S' A' n' c' S1 A1 n1 c1) (hb : Below w.heap.size w w') : RtS W w' Sa Aa na ca B R S A n c S' A' n' c' S1 A1 n1 c1 := by
  obtain ⟨h1, h2, h3, h4, h5, h6, h7, h8, h9, h10⟩ := h
  exact ⟨h1.next hb, h2.next hb, h3.next hb, (h4.next hb).wide (Nat.le_refl _) hb.size (Nat.le_refl _), (h5.next hb).wide (Nat.le_refl _) hb.size (Nat.le_refl _), h6.next hb, h7.next hb, h8.next hb, belNext h9 hb, h10⟩
theorem RtS.both {W w : World} {Sa : Int} {Aa : Option Addr} {na ca B R R2 : Nat} {S : Int} {A : Option Addr} {n c : Nat} {S' : Int} {A' : Option Addr} {n' c' : Nat} {S1 : Int} {A1 : Option Addr} {n1 c1 : Nat} {T T' : Int} {A2 A3 : Option Addr} {n2 c2 n3 c3 : Nat} (h : RtS W w Sa Aa na ca B R S A n c S' A' n' c' S1 A1 n1 c1) (hz : ZO w (B + 3) w.heap.size (R2 : Int) T A2 n2 c2) (hz' : ZO w (B + 3) w.heap.size ((R2 * R2 : Nat) : Int) T' A3 n3 c3) : RtS W (st (st w B T A2 n2 c2) (B + 1) T' A3 n3 c3) Sa Aa na ca B R2 T A2 n2 c2 T' A3 n3 c3 S1 A1 n1 c1 := by
  obtain ⟨h1, h2, h3, h4, h5, h6, h7, h8, h9, h10⟩ := h
  refine ⟨(h1.over).st_ (by omega), (h2.st_ (by omega)).over, (h3.st_ (by omega)).st_ (by omega), ?_, ?_, (h6.st_ (.inr (Nat.le_refl _))).st_ (.inr (by omega)), (h7.st_ (by omega)).st_ (by omega), (h8.st_ (by omega)).st_ (by omega), belSt (belSt h9 (by omega)) (by omega), h10⟩
  · rw [st_size, st_size]; exact (hz.st_ (.inl (by omega))).st_ (.inl (by omega))
  · rw [st_size, st_size]; exact (hz'.st_ (.inl (by omega))).st_ (.inl (by omega))
end Go.Proofs.YtngminjncdfjdaaGreatDoor
/- Absolute values, multiples of a step, overflow, of the model. -/
namespace Go.Proofs.YtngminjncdfjdaaGreatDoor
set_option maxRecDepth 100000
open Go.RowKit
set_option linter.unusedSimpArgs false
set_option linter.unusedVariables false
attribute [local go_sem ↓] Go.wp_at_zero Go.wp_at_succ

set_option maxHeartbeats 800000 in
theorem specAbs_any (s : Int) (a : Nat) (A : Option Addr) (n c B : Nat) (w : World) (hs : Sg s a) (hr : Rd w B A (vs (limbs a))) (hB : B ≤ w.heap.size) (hn : (limbs a).length = n) (hm : (n : Int) ≤ 90000) (hcap : n ≤ c) :
    Calls Tryz.prog 107 #[.agg #[.int .i64 s, .slice A n c]] w fun e w' => ∃ val, e = .returned val ∧ Wz w' w.heap.size w'.heap.size ((a : Int)) val ∧ Below w.heap.size w w' := by
  have hst := store_int Tryz.prog
  have hst2 := store_slice Tryz.prog
  obtain ⟨w1, hw1, hb1, hb3, hb4⟩ := box_res w s A n c 46 46
  have Ra1 : Hid (Rt w1 B A (vs (limbs a))) := Lib.hid ⟨hr.below (hb4.mono hB), Nat.le_trans hB hb4.size⟩
  have Hn := Lib.hid hn
  have Hs := Lib.hid hs
  have Hw := Lib.hid hw1
  have Bx1 := Lib.hid hb1
  have Rs1 := Lib.hid hb3
  have Bel1 := Lib.hid hb4
  have Hcap : Hid ((n : Int) ≤ c) := Lib.hid (by omega)
  have hs1 := hs.1
  have hs2 := hs.2.1
  have Hone : Hid (s * s = 1 ∨ s * s = -1 ∨ a = 0) := Lib.hid (by rcases hs.one with h | h | h <;> first | (left; rw [h]; rfl) | exact .inr (.inr h))
  have Hsq : Hid (s * s * (a : Int) = a) := Lib.hid (by rcases hs.one with h | h | h <;> first | (rw [h]; omega) | (rw [h]; simp))
  have hss : s * s = 0 ∨ s * s = 1 := by rcases (show s = -1 ∨ s = 0 ∨ s = 1 by omega) with h | h | h <;> rw [h] <;> simp
  obtain ⟨ss, hss2⟩ : ∃ ss, ss = s * s := ⟨_, rfl⟩
  have hss0 : 0 ≤ ss := by omega
  have hss1 : ss ≤ 1 := by omega
  rw [← hss2] at Hone Hsq
  have Hmul := Lib.hid hss2
  clear hss
  clear hr hn hs hw1 hb1 hb3 hb4 hcap hB
  have hmulr : s * s = ss := Hmul.out.symm
  clear hss2
  go_enter Tryz.func107, Tryz.ntmps107
  go_wp2_with fail
  rw [← Hw.out]
  refine (make_any ss A n c _ (limbs a) _ Ra1.out.1 Ra1.out.2 Hn.out (Lim_limbs _) Hcap.out (by omega)).mono ?_
  rintro e w9 ⟨val, rfl, hv, hb9⟩
  have Hz : Hid (Wz w9 w1.heap.size w9.heap.size ((a : Int)) val) := Lib.hid ((hv.z (by rw [V_limbs]; exact Hone.out)).cast_ (by rw [V_limbs]; exact Hsq.out))
  have Rs9 := Lib.hid (Rs1.out.next hb9)
  have Bel9 := Lib.hid (belNext Bel1.out hb9)
  have Hlt := Lib.hid Rs1.out.2
  clear hv hb9
  obtain ⟨A9, c9, hval, _⟩ := Hz.out
  subst hval
  obtain ⟨⟨r1, r2, r3, r4⟩, _⟩ := Rs9.out
  go_wp2_with fail
  refine bodyPost_ret (v := .agg #[.int .i64 ((a : Int)).sign, .slice A9 (limbs ((a : Int)).natAbs).length c9]) (by simp [results, Tryz.results107, go_sem, r1, r2]) rfl ⟨_, rfl, ?_, ?_⟩
  · exact ((Hz.out.setCell (by have := Hlt.out; simp; omega) _).setCell (by have := Hlt.out; simp; omega) _).wide (by have := Hlt.out; omega) (by simp)
  · exact (Bel9.out.setCell (by simp) _).setCell (by simp) _
theorem neg_inf32 : Op.unary .neg (.float .f32 2139095040) = pure (.float .f32 4286578688) := by
  have h : Op.negFloat .f32 2139095040 = 4286578688 := by decide +kernel
  rw [← h]; rfl
theorem neg_top32 : Op.unary .neg (.float .f32 2139095039) = pure (.float .f32 4286578687) := by
  have h : Op.negFloat .f32 2139095039 = 4286578687 := by decide +kernel
  rw [← h]; rfl
theorem specOver0p (w : World) : Calls Tryz.prog 80 #[.int .i64 1, .int .i64 0] w fun e w' => e = .returned (.float .f32 2139095040) ∧ w = w' := by
  have h1 := neg_inf32
  have h2 := neg_top32
  go_enter Tryz.func80, Tryz.ntmps80
  go_wp2_with fail
  refine (huge_any _).mono ?_
  rintro e w9 ⟨rfl, rfl⟩
  go_wp2_with fail
  go_ret
  exact ⟨rfl, rfl⟩
theorem specOver0n (w : World) : Calls Tryz.prog 80 #[.int .i64 (-1), .int .i64 0] w fun e w' => e = .returned (.float .f32 4286578688) ∧ w = w' := by
  have h1 := neg_inf32
  have h2 := neg_top32
  go_enter Tryz.func80, Tryz.ntmps80
  go_wp2_with fail
  refine (huge_any _).mono ?_
  rintro e w9 ⟨rfl, rfl⟩
  go_wp2_with fail
  go_ret
  exact ⟨rfl, rfl⟩
theorem specOver1p (w : World) : Calls Tryz.prog 80 #[.int .i64 1, .int .i64 1] w fun e w' => e = .returned (.float .f32 2139095039) ∧ w = w' := by
  have h1 := neg_inf32
  have h2 := neg_top32
  go_enter Tryz.func80, Tryz.ntmps80
  go_wp2_with fail
  refine (huge_any _).mono ?_
  rintro e w9 ⟨rfl, rfl⟩
  go_wp2_with fail
  refine (at_nat 2139095039 _ (by omega)).mono ?_
  rintro e w9 ⟨rfl, rfl⟩
  go_wp2_with fail
  go_ret
  exact ⟨rfl, rfl⟩
theorem specOver1n (w : World) : Calls Tryz.prog 80 #[.int .i64 (-1), .int .i64 1] w fun e w' => e = .returned (.float .f32 4286578688) ∧ w = w' := by
  have h1 := neg_inf32
  have h2 := neg_top32
  go_enter Tryz.func80, Tryz.ntmps80
  go_wp2_with fail
  refine (huge_any _).mono ?_
  rintro e w9 ⟨rfl, rfl⟩
  go_wp2_with fail
  go_ret
  exact ⟨rfl, rfl⟩
theorem specOver2p (w : World) : Calls Tryz.prog 80 #[.int .i64 1, .int .i64 2] w fun e w' => e = .returned (.float .f32 2139095040) ∧ w = w' := by
  have h1 := neg_inf32
  have h2 := neg_top32
  go_enter Tryz.func80, Tryz.ntmps80
  go_wp2_with fail
  refine (huge_any _).mono ?_
  rintro e w9 ⟨rfl, rfl⟩
  go_wp2_with fail
  go_ret
  exact ⟨rfl, rfl⟩
theorem specOver2n (w : World) : Calls Tryz.prog 80 #[.int .i64 (-1), .int .i64 2] w fun e w' => e = .returned (.float .f32 4286578687) ∧ w = w' := by
  have h1 := neg_inf32
  have h2 := neg_top32
  go_enter Tryz.func80, Tryz.ntmps80
  go_wp2_with fail
  refine (huge_any _).mono ?_
  rintro e w9 ⟨rfl, rfl⟩
  go_wp2_with fail
  refine (at_nat 2139095039 _ (by omega)).mono ?_
  rintro e w9 ⟨rfl, rfl⟩
  go_wp2_with fail
  go_ret
  exact ⟨rfl, rfl⟩
theorem specOver3p (w : World) : Calls Tryz.prog 80 #[.int .i64 1, .int .i64 3] w fun e w' => e = .returned (.float .f32 2139095039) ∧ w = w' := by
  have h1 := neg_inf32
  have h2 := neg_top32
  go_enter Tryz.func80, Tryz.ntmps80
  go_wp2_with fail
  refine (huge_any _).mono ?_
  rintro e w9 ⟨rfl, rfl⟩
  go_wp2_with fail
  refine (at_nat 2139095039 _ (by omega)).mono ?_
  rintro e w9 ⟨rfl, rfl⟩
  go_wp2_with fail
  go_ret
  exact ⟨rfl, rfl⟩
theorem specOver3n (w : World) : Calls Tryz.prog 80 #[.int .i64 (-1), .int .i64 3] w fun e w' => e = .returned (.float .f32 4286578687) ∧ w = w' := by
  have h1 := neg_inf32
  have h2 := neg_top32
  go_enter Tryz.func80, Tryz.ntmps80
  go_wp2_with fail
  refine (huge_any _).mono ?_
  rintro e w9 ⟨rfl, rfl⟩
  go_wp2_with fail
  refine (at_nat 2139095039 _ (by omega)).mono ?_
  rintro e w9 ⟨rfl, rfl⟩
  go_wp2_with fail
  go_ret
  exact ⟨rfl, rfl⟩
theorem specOver4p (w : World) : Calls Tryz.prog 80 #[.int .i64 1, .int .i64 4] w fun e w' => e = .returned (.float .f32 2139095040) ∧ w = w' := by
  have h1 := neg_inf32
  have h2 := neg_top32
  go_enter Tryz.func80, Tryz.ntmps80
  go_wp2_with fail
  refine (huge_any _).mono ?_
  rintro e w9 ⟨rfl, rfl⟩
  go_wp2_with fail
  go_ret
  exact ⟨rfl, rfl⟩
theorem specOver4n (w : World) : Calls Tryz.prog 80 #[.int .i64 (-1), .int .i64 4] w fun e w' => e = .returned (.float .f32 4286578688) ∧ w = w' := by
  have h1 := neg_inf32
  have h2 := neg_top32
  go_enter Tryz.func80, Tryz.ntmps80
  go_wp2_with fail
  refine (huge_any _).mono ?_
  rintro e w9 ⟨rfl, rfl⟩
  go_wp2_with fail
  go_ret
  exact ⟨rfl, rfl⟩
theorem specOver_any (S mode : Int) (w : World) (hS : S = 1 ∨ S = -1) (h1 : 0 ≤ mode) (h2 : mode ≤ 4) : Calls Tryz.prog 80 #[.int .i64 S, .int .i64 mode] w fun e w' => e = .returned (.float .f32 (if away mode S false 1 = true then (if S < 0 then 4286578688 else 2139095040) else (if S < 0 then 4286578687 else 2139095039) : Nat)) ∧ w = w' := by
  rcases (show mode = 0 ∨ mode = 1 ∨ mode = 2 ∨ mode = 3 ∨ mode = 4 by omega) with rfl | rfl | rfl | rfl | rfl <;> rcases hS with rfl | rfl
  · exact specOver0p w
  · exact specOver0n w
  · exact specOver1p w
  · exact specOver1n w
  · exact specOver2p w
  · exact specOver2n w
  · exact specOver3p w
  · exact specOver3n w
  · exact specOver4p w
  · exact specOver4n w
end Go.Proofs.YtngminjncdfjdaaGreatDoor
/- Multiples of a step, of the model. -/
namespace Go.Proofs.YtngminjncdfjdaaGreatDoor
set_option maxRecDepth 100000
open Go.RowKit
set_option linter.unusedSimpArgs false
set_option linter.unusedVariables false
attribute [local go_sem ↓] Go.wp_at_zero Go.wp_at_succ

theorem rM_yes {mode S l : Int} {v T : Nat} (hb : rB v l = true) (hT : T = rT v l) (ha : away mode S (T % 2 == 1) (rH v l) = true) : rM mode S v l = T + 1 := by
  unfold rM; rw [← hT, if_pos ⟨hb, ha⟩]
theorem rM_no {mode S l : Int} {v T : Nat} (hb : rB v l = true) (hT : T = rT v l) (ha : away mode S (T % 2 == 1) (rH v l) = false) : rM mode S v l = T := by
  unfold rM; rw [← hT, if_neg (fun h => by rw [ha] at h; cases h.2)]
theorem belStQ {W w : World} {b : Nat} {s : Int} {A : Option Addr} {n c : Nat} (h : Below W.heap.size W w) (hb : W.heap.size ≤ b) : Below W.heap.size W (st w b s A n c) := (h.setCell hb _).setCell hb _
theorem ZO.castN {w : World} {lo hi n c : Nat} {z S : Int} {A : Option Addr} {v : Nat} (h : ZO w lo hi z S A n c) (e : z = (v : Int)) : ZO w lo hi (v : Int) S A n c := h.cast_ e
theorem ZV.rdN {w : World} {v n c : Nat} {S : Int} {A : Option Addr} (h : ZV w (v : Int) S A n c) : Rd w w.heap.size A (vs (limbs v)) := by have := h.rd; simpa using this
theorem ZV.lenN {w : World} {v n c : Nat} {S : Int} {A : Option Addr} (h : ZV w (v : Int) S A n c) : (limbs v).length = n := by have := h.len; simpa using this
theorem specLenN_any (v : Nat) (S : Int) (A : Option Addr) (n c : Nat) (w : World) (hz : ZV w (v : Int) S A n c) (hm : (n : Int) ≤ 100000) :
    Calls Tryz.prog 79 #[.agg #[.int .i64 S, .slice A n c]] w fun e w' => e = .returned (.int .i64 (blen v)) ∧ Below w.heap.size w w' :=
  specLen_any S v A n c _ w hz.rdN (Nat.le_refl _) hz.lenN hm
theorem specBitN_any (v : Nat) (S : Int) (A : Option Addr) (n c k : Nat) (w : World) (hz : ZV w (v : Int) S A n c) (hm : (n : Int) ≤ 100000) (hk : (k : Int) ≤ 10000000) :
    Calls Tryz.prog 108 #[.agg #[.int .i64 S, .slice A n c], .int .i64 k] w fun e w' => e = .returned (.int .i64 ((bt v k : Nat) : Int)) ∧ Below w.heap.size w w' := by
  have h := specBit_any (v : Int) S A n c k w hz hm hk
  rwa [Int.natAbs_natCast] at h
theorem specBit0_any (v : Nat) (S : Int) (A : Option Addr) (n c : Nat) (w : World) (hz : ZV w (v : Int) S A n c) (hm : (n : Int) ≤ 100000) :
    Calls Tryz.prog 108 #[.agg #[.int .i64 S, .slice A n c], .int .i64 0] w fun e w' => e = .returned (.int .i64 ((v % 2 : Nat) : Int)) ∧ Below w.heap.size w w' := by
  have h := specBitN_any v S A n c 0 w hz hm (by omega)
  have e : bt v 0 = v % 2 := by unfold bt; simp
  rw [e] at h
  exact h
theorem cutZ_nat (v k : Nat) : cutZ (v : Int) k = ((v / 2 ^ k : Nat) : Int) := by
  unfold cutZ
  rw [Int.natAbs_natCast]
  by_cases h : v = 0
  · subst h; simp
  · rw [Int.sign_eq_one_of_pos (by omega), Int.one_mul]
theorem specAddN_any (a b : Nat) (S S' : Int) (A A' : Option Addr) (n n' c c' : Nat) (w : World) (hz : ZV w (a : Int) S A n c) (hz' : ZV w (b : Int) S' A' n' c') (hm : (n : Int) ≤ 90000) (hm' : (n' : Int) ≤ 90000) :
    Calls Tryz.prog 63 #[.agg #[.int .i64 S, .slice A n c], .agg #[.int .i64 S', .slice A' n' c']] w fun e w' => ∃ Sr Ar nr cr, e = .returned (.agg #[.int .i64 Sr, .slice Ar nr cr]) ∧ ZO w' w.heap.size w'.heap.size ((a + b : Nat) : Int) Sr Ar nr cr ∧ Below w.heap.size w w' := by
  refine (specAddZ_any (a : Int) (b : Int) S S' A A' n n' c c' w hz hz' hm hm').mono ?_
  rintro e w' ⟨Sr, Ar, nr, cr, rfl, h, hb⟩
  exact ⟨Sr, Ar, nr, cr, rfl, h.castN (Int.natCast_add _ _).symm, hb⟩
theorem specOne_any (w : World) : Calls Tryz.prog 66 #[.int .i64 1] w fun e w' => ∃ Sr Ar nr cr, e = .returned (.agg #[.int .i64 Sr, .slice Ar nr cr]) ∧ ZO w' w.heap.size w'.heap.size ((1 : Nat) : Int) Sr Ar nr cr ∧ (nr : Int) ≤ 1 ∧ Below w.heap.size w w' := by
  refine (specOf_any 1 w (by omega) (by omega)).mono ?_
  rintro e w' ⟨val, rfl, hv, hb⟩
  obtain ⟨S1, A1, n1, c1, rfl, hzo⟩ := Wz.zo hv (Nat.le_refl _)
  refine ⟨S1, A1, n1, c1, rfl, hzo, ?_, hb⟩
  have h := hzo.2.1
  rw [show (1 : Int).natAbs = 1 from rfl, limbs_1] at h
  simp at h
  omega
theorem MB.new (w : World) (s : Int) (A : Option Addr) (n c : Nat) (T : TypeId) : MB (w.alloc (.cells #[.int .i64 s, .slice A n c] T)) w.heap.size s A n c := by
  refine ⟨⟨?_, ?_, ?_, ?_⟩, ?_⟩
  · go_simp
  · go_simp
  · go_simp
  · go_simp
  · simp
theorem lenT {v n : Nat} (hn : (limbs v).length = n) (h : v < 16777217) : (n : Int) ≤ 2 := by
  have : (limbs v).length ≤ 2 := (limbs_len_le (n := 2)).2 (by rw [Bs_pow]; omega)
  omega
set_option maxHeartbeats 16000000 in
theorem specMult_any (z S E mode : Int) (A : Option Addr) (n c : Nat) (w : World) (hz : ZV w z S A n c) (hodd : z.natAbs % 2 = 1) (hm : (n : Int) ≤ 200) (hE1 : -15000 ≤ E) (hE2 : E ≤ 15000) (hm1 : 0 ≤ mode) (hm2 : mode ≤ 4) :
    Calls Tryz.prog 78 #[.agg #[.int .i64 S, .slice A n c, .int .i64 E], .int .i64 mode] w fun e w' => ∃ Sr Ar nr cr, e = .returned (.tuple #[.agg #[.int .i64 Sr, .slice Ar nr cr], .int .i64 (rQ z.natAbs E), .bool (!rB z.natAbs (rQ z.natAbs E - E))]) ∧ ZO w' w.heap.size w'.heap.size ((rM mode z.sign z.natAbs (rQ z.natAbs E - E) : Nat) : Int) Sr Ar nr cr ∧ Below w.heap.size w w' := by
  have hst := store_int Tryz.prog
  have hst2 := store_slice Tryz.prog
  obtain ⟨w1, hw1⟩ : ∃ w1, w1 = (w.alloc (.cells #[.int .i64 S, .slice A n c, .int .i64 E] 48)).alloc (.cells #[.int .i64 0, .slice none 0 0] 46) := ⟨_, rfl⟩
  have Bx1 : Hid (DBox w1 w.heap.size S A n c E) := Lib.hid (by rw [hw1]; exact (DBox.new _ _ _ _ _ _ _).next (belAlloc1 _ _))
  have Rs1 : Hid (ResB w1 (w.heap.size + 1)) := Lib.hid (by rw [hw1]; have h := resBox_new (w.alloc (.cells #[.int .i64 S, .slice A n c, .int .i64 E] 48)) 46; simpa using h)
  have Bel1 : Hid (Below w.heap.size w w1) := Lib.hid (by rw [hw1]; exact belNext (belAlloc1 _ _) (belAlloc1 _ _))
  have Hlt : Hid (w.heap.size + 1 < w1.heap.size) := Lib.hid Rs1.out.2
  have Zv1 := Lib.hid (hz.next Bel1.out)
  have Hw := Lib.hid hw1
  have HS : Hid (S = z.sign) := Lib.hid hz.1
  have Hn : Hid ((limbs z.natAbs).length = n) := Lib.hid hz.2.1
  have Hm : Hid ((n : Int) ≤ 200) := Lib.hid hm
  have hv0 : z.natAbs ≠ 0 := by omega
  have hbb := blen_bound Hn.out
  obtain ⟨v, hv⟩ : ∃ v, v = z.natAbs := ⟨_, rfl⟩
  rw [← hv] at hbb hv0 hodd ⊢
  obtain ⟨bl, hbl⟩ : ∃ bl, bl = blen v := ⟨_, rfl⟩
  rw [← hbl] at hbb
  have hbl1 : (bl : Int) ≤ 4800 := by omega
  obtain ⟨q, hq⟩ : ∃ q, q = rQ v E := ⟨_, rfl⟩
  rw [← hq]
  have Hq : Hid (q = max ((bl : Int) + E - 24) (-149)) := Lib.hid (by rw [hq, hbl]; rfl)
  have hq1 : -149 ≤ q := by have := Hq.out; omega
  have hq2 : q ≤ 19776 := by have := Hq.out; omega
  obtain ⟨l, hl⟩ : ∃ l, l = q - E := ⟨_, rfl⟩
  rw [← hl]
  obtain ⟨T, hTt⟩ : ∃ T, T = rT v l := ⟨_, rfl⟩
  obtain ⟨M, hM⟩ : ∃ M, M = rM mode z.sign v l := ⟨_, rfl⟩
  have hT1 : (T : Int) ≤ 16777215 := by have := rT_lt hv0 E; rw [hTt, hl, hq]; omega
  rw [← hM]
  have HBo : Hid (rB v l = decide (0 < l)) := Lib.hid (rB_odd hodd l)
  have HHo := Lib.hid (rH_odd hodd l)
  have Hbl := Lib.hid hbl
  have HT := Lib.hid hTt
  have HM := Lib.hid hM
  have Hmo := Lib.hid (And.intro hm1 hm2)
  have Hv := Lib.hid hv
  have hql : q - E = l := hl.symm
  rw [HBo.out]
  obtain ⟨exb, hexb⟩ : ∃ exb, exb = !decide (0 < l) := ⟨_, rfl⟩
  rw [← hexb]
  have Hexb := Lib.hid hexb
  have BelO1 : Hid (Below w1.heap.size w1 w1) := Lib.hid (Below.refl _ _)
  clear hz hw1 hm hbb hbl hq hTt hM hl hv hodd hv0 hexb
  go_enter Tryz.func78, Tryz.ntmps78
  go_wp2_with fail
  rw [← Hw.out]
  obtain ⟨⟨hBx0, hBx1, hBx2⟩, hBx3⟩ := Bx1.out
  obtain ⟨⟨hRs0, hRs1, hRs2, hRs3⟩, hRs4⟩ := Rs1.out
  refine (specAbs_any S z.natAbs A n c _ _ Zv1.out.sg Zv1.out.rd (Nat.le_refl _) Hn.out (by have := Hm.out; omega) Zv1.out.cap).mono ?_
  rintro e w2 ⟨val, rfl, hv9, hb⟩
  rw [← Hv.out] at hv9
  obtain ⟨Sa, Aa, na, ca, rfl, hza⟩ := Wz.zo hv9 (Nat.le_refl _)
  have Za2 := Lib.hid hza.zv
  have Ha : Hid ((na : Int) ≤ 200) := Lib.hid (by have h := hza.zv.lenN; rw [Hv.out, Hn.out] at h; have := Hm.out; omega)
  clear hv9 hza
  have Sz2 := Lib.hid (Below.size hb)
  have Bel2 := Lib.hid (belNext Bel1.out hb)
  have BelO2 := Lib.hid (belNext BelO1.out hb)
  have Bx2 := Lib.hid (Bx1.out.next hb)
  have Zv2 := Lib.hid (Zv1.out.next hb)
  have Rs2 := Lib.hid (Rs1.out.next hb)
  clear hb Bel1 BelO1 Bx1 Zv1 Rs1 hBx0 hBx1 hBx2 hBx3 hRs0 hRs1 hRs2 hRs3 hRs4
  obtain ⟨⟨hBx0, hBx1, hBx2⟩, hBx3⟩ := Bx2.out
  obtain ⟨⟨hRs0, hRs1, hRs2, hRs3⟩, hRs4⟩ := Rs2.out
  go_upto_region 2 with fail
  obtain ⟨w3, hw3⟩ : ∃ w3, w3 = w2.alloc (.cells #[.int .i64 Sa, .slice Aa na ca] 46) := ⟨_, rfl⟩
  rw [← hw3]
  obtain ⟨f, hf⟩ : ∃ f, f = w2.heap.size := ⟨_, rfl⟩
  have hb : Below w2.heap.size w2 w3 := by rw [hw3]; exact belAlloc1 _ _
  have Ba3 : Hid (Box w3 f Sa Aa na ca) := Lib.hid (by rw [hw3, hf]; exact Box.new _ _ _ _ _ _)
  have Hf : Hid (w2.heap.size ≤ f) := Lib.hid (by omega)
  rw [← hf]
  clear hw3 hf
  have Sz3 := Lib.hid (Below.size hb)
  have Bel3 := Lib.hid (belNext Bel2.out hb)
  have BelO3 := Lib.hid (belNext BelO2.out hb)
  have Bx3 := Lib.hid (Bx2.out.next hb)
  have Zv3 := Lib.hid (Zv2.out.next hb)
  have Rs3 := Lib.hid (Rs2.out.next hb)
  have Za3 := Lib.hid (Za2.out.next hb)
  clear hb Bel2 BelO2 Bx2 Zv2 Rs2 Za2 hBx0 hBx1 hBx2 hBx3 hRs0 hRs1 hRs2 hRs3 hRs4
  obtain ⟨⟨hBx0, hBx1, hBx2⟩, hBx3⟩ := Bx3.out
  obtain ⟨⟨hBa0, hBa1⟩, hBa2⟩ := Ba3.out
  obtain ⟨⟨hRs0, hRs1, hRs2, hRs3⟩, hRs4⟩ := Rs3.out
  refine wp_region_held_drew (S := fun w' => (w'.cell? ⟨w.heap.size, 0, none⟩ = some (.int .i64 S) ∧ w'.cell? ⟨w.heap.size, 1, none⟩ = some (.slice A n c) ∧ w'.cell? ⟨w.heap.size, 2, none⟩ = some (.int .i64 E)) ∧ (w'.cell? ⟨f, 0, none⟩ = some (.int .i64 Sa) ∧ w'.cell? ⟨f, 1, none⟩ = some (.slice Aa na ca))) (by kernel_rfl) ⟨Bx3.out.1, Ba3.out.1⟩ (fun hHeld => ?_)
  clear hBx0 hBx1 hBx2 hBx3 hBa0 hBa1 hBa2 hRs0 hRs1 hRs2 hRs3 hRs4
  refine wpAnyH_take (i := 0) (v := ?_) rfl (by kernel_rfl) (by kernel_rfl) (by kernel_rfl) (fun _ _ _ h => h) (Or.inl ⟨by rfl, ?_⟩) (by assumption) ?_
  rotate_left
  · (intro w hSw; (try dsimp only at hSw); go_simp; (try with_reducible rfl))
  try simp only [Act.put, List.setIfInBounds_toArray, List.set_cons_zero, List.set_cons_succ, List.getElem_toArray, List.getElem_cons_succ, List.getElem_cons_zero]
  refine wpAnyH_take (i := 2) (v := ?_) rfl (by kernel_rfl) (by kernel_rfl) (by kernel_rfl) (fun _ _ _ h => h) (Or.inl ⟨by rfl, ?_⟩) (by assumption) ?_
  rotate_left
  · (intro w hSw; (try dsimp only at hSw); go_simp; (try with_reducible rfl))
  try simp only [Act.put, List.setIfInBounds_toArray, List.set_cons_zero, List.set_cons_succ, List.getElem_toArray, List.getElem_cons_succ, List.getElem_cons_zero]
  refine wpAnyH_take (i := 3) (v := ?_) rfl (by kernel_rfl) (by kernel_rfl) (by kernel_rfl) (fun _ _ _ h => h) (Or.inl ⟨by rfl, ?_⟩) (by assumption) ?_
  rotate_left
  · (intro w hSw; (try dsimp only at hSw); go_simp; (try with_reducible rfl))
  try simp only [Act.put, List.setIfInBounds_toArray, List.set_cons_zero, List.set_cons_succ, List.getElem_toArray, List.getElem_cons_succ, List.getElem_cons_zero]
  refine wpAnyH_ready (rs := [1]) (by kernel_rfl) (by simp) ?_
  refine AllReadyH.cons rfl (fun K hK => ?_) AllReadyH.nil
  go_simp
  refine (specLenN_any v Sa Aa na ca w3.drew Za3.out (by have := Ha.out; omega)).mono ?_
  rintro e w4 ⟨rfl, hb0⟩
  have hb : Below w3.heap.size w3 w4 := belDrew hb0
  rw [← Hbl.out]
  refine hK.out _ _ ⟨(Bx3.out.next hb).1, (Ba3.out.next hb).1⟩ (fun hHeld => ?_)
  clear hK K hb0
  have Sz4 := Lib.hid (Below.size hb)
  have Bel4 := Lib.hid (belNext Bel3.out hb)
  have BelO4 := Lib.hid (belNext BelO3.out hb)
  have Bx4 := Lib.hid (Bx3.out.next hb)
  have Zv4 := Lib.hid (Zv3.out.next hb)
  have Rs4 := Lib.hid (Rs3.out.next hb)
  have Za4 := Lib.hid (Za3.out.next hb)
  have Ba4 := Lib.hid (Ba3.out.next hb)
  clear hb Bel3 BelO3 Bx3 Zv3 Rs3 Za3 Ba3
  try simp only [Act.put, List.setIfInBounds_toArray, List.set_cons_zero, List.set_cons_succ, List.getElem_toArray, List.getElem_cons_succ, List.getElem_cons_zero]
  have hwr0 : IntKind.i64.wrap ((bl : Int) + E) = (bl : Int) + E := IntWalk.i64_in _ (by omega)
  have hwr : IntKind.i64.wrap ((bl : Int) + E - 24) = (bl : Int) + E - 24 := IntWalk.i64_in _ (by omega)
  refine wpAnyH_take (i := 4) (v := ?_) rfl (by kernel_rfl) (by kernel_rfl) (by kernel_rfl) (fun _ _ _ h => h) (Or.inl ⟨by rfl, ?_⟩) (by assumption) ?_
  rotate_left
  · (intro w hSw; (try dsimp only at hSw); go_simp; (try with_reducible rfl))
  try simp only [Act.put, List.setIfInBounds_toArray, List.set_cons_zero, List.set_cons_succ, List.getElem_toArray, List.getElem_cons_succ, List.getElem_cons_zero]
  refine wpAnyH_take (i := 5) (v := ?_) rfl (by kernel_rfl) (by kernel_rfl) (by kernel_rfl) (fun _ _ _ h => h) (Or.inl ⟨by rfl, ?_⟩) (by assumption) ?_
  rotate_left
  · (intro w hSw; (try dsimp only at hSw); go_simp; (try with_reducible rfl))
  try simp only [Act.put, List.setIfInBounds_toArray, List.set_cons_zero, List.set_cons_succ, List.getElem_toArray, List.getElem_cons_succ, List.getElem_cons_zero]
  refine wpAnyH_take (i := 6) (v := ?_) rfl (by kernel_rfl) (by kernel_rfl) (by kernel_rfl) (fun _ _ _ h => h) (Or.inl ⟨by rfl, ?_⟩) (by assumption) ?_
  rotate_left
  · (intro w hSw; (try dsimp only at hSw); go_simp; (try with_reducible rfl))
  try simp only [Act.put, List.setIfInBounds_toArray, List.set_cons_zero, List.set_cons_succ, List.getElem_toArray, List.getElem_cons_succ, List.getElem_cons_zero]
  rw [← Hq.out]
  refine wpAnyH_ready (rs := [7]) (by kernel_rfl) (by simp) ?_
  refine AllReadyH.cons rfl (fun K hK => ?_) AllReadyH.nil
  go_simp
  refine hK.out _ _ hHeld (fun hHeld => ?_)
  clear hK K
  try simp only [Act.put, List.setIfInBounds_toArray, List.set_cons_zero, List.set_cons_succ, List.getElem_toArray, List.getElem_cons_succ, List.getElem_cons_zero]
  clear hHeld
  refine wpAnyH_done (by kernel_rfl) ?_ _
  clear hwr hwr0
  obtain ⟨⟨hBx0, hBx1, hBx2⟩, hBx3⟩ := Bx4.out
  obtain ⟨⟨hBa0, hBa1⟩, hBa2⟩ := Ba4.out
  obtain ⟨⟨hRs0, hRs1, hRs2, hRs3⟩, hRs4⟩ := Rs4.out
  by_cases hl0 : l ≤ 0
  · have hB0 : decide (0 < l) = false := decide_eq_false (by omega)
    have HMv : Hid (((2 : Int) ^ (-l).toNat * (v : Int)) = (M : Int)) := Lib.hid (by
      have h := HM.out
      unfold rM at h
      rw [HBo.out, hB0, if_neg (fun hh => by cases hh.1)] at h
      unfold rT at h
      rw [if_pos hl0] at h
      rw [h, Int.natCast_mul, pow_cast, Int.mul_comm])
    have Hex : Hid (exb = true) := Lib.hid (by rw [Hexb.out, hB0]; rfl)
    clear hB0
    go_wp2_with fail
    refine (specLeftJ_any (v : Int) Sa (-l) Aa na ca _ Za4.out (by have := Ha.out; omega) (by omega) (by omega)).mono ?_
    rintro e w5 ⟨Sr, Ar, nr, cr, rfl, hz0, hb⟩
    have Zr5 := Lib.hid (hz0.castN HMv.out)
    clear hz0
    have Sz5 := Lib.hid (Below.size hb)
    have Bel5 := Lib.hid (belNext Bel4.out hb)
    have BelO5 := Lib.hid (belNext BelO4.out hb)
    have Bx5 := Lib.hid (Bx4.out.next hb)
    have Zv5 := Lib.hid (Zv4.out.next hb)
    have Rs5 := Lib.hid (Rs4.out.next hb)
    have Za5 := Lib.hid (Za4.out.next hb)
    have Ba5 := Lib.hid (Ba4.out.next hb)
    clear hb Bel4 BelO4 Bx4 Zv4 Rs4 Za4 Ba4 hBx0 hBx1 hBx2 hBx3 hBa0 hBa1 hBa2 hRs0 hRs1 hRs2 hRs3 hRs4
    obtain ⟨⟨hBx0, hBx1, hBx2⟩, hBx3⟩ := Bx5.out
    obtain ⟨⟨hBa0, hBa1⟩, hBa2⟩ := Ba5.out
    obtain ⟨⟨hRs0, hRs1, hRs2, hRs3⟩, hRs4⟩ := Rs5.out
    go_wp2_with fail
    refine bodyPost_ret (v := .tuple #[.agg #[.int .i64 Sr, .slice Ar nr cr], .int .i64 q, .bool true]) (by simp [results, Tryz.results78, go_sem, hRs0, hRs1]) rfl ⟨Sr, Ar, nr, cr, by rw [Hex.out], ?_, ?_⟩
    · exact ((Zr5.out.setCell (.inl (by have zz0 := Hlt.out; have zz1 := Sz2.out; have zz2 := Sz3.out; have zz3 := Hf.out; have zz4 := Sz4.out; have zz5 := Sz5.out; first | omega | (simp; done) | (simp; omega))) _).setCell (.inl (by have zz0 := Hlt.out; have zz1 := Sz2.out; have zz2 := Sz3.out; have zz3 := Hf.out; have zz4 := Sz4.out; have zz5 := Sz5.out; first | omega | (simp; done) | (simp; omega))) _).wide (by have zz0 := Hlt.out; have zz1 := Sz2.out; have zz2 := Sz3.out; have zz3 := Hf.out; have zz4 := Sz4.out; have zz5 := Sz5.out; first | omega | (simp; done) | (simp; omega)) (by have zz0 := Hlt.out; have zz1 := Sz2.out; have zz2 := Sz3.out; have zz3 := Hf.out; have zz4 := Sz4.out; have zz5 := Sz5.out; first | omega | (simp; done) | (simp; omega)) (Nat.le_refl _)
    · exact (Bel5.out.setCell (by have zz0 := Hlt.out; have zz1 := Sz2.out; have zz2 := Sz3.out; have zz3 := Hf.out; have zz4 := Sz4.out; have zz5 := Sz5.out; first | omega | (simp; done) | (simp; omega)) _).setCell (by have zz0 := Hlt.out; have zz1 := Sz2.out; have zz2 := Sz3.out; have zz3 := Hf.out; have zz4 := Sz4.out; have zz5 := Sz5.out; first | omega | (simp; done) | (simp; omega)) _
  · have hB0 : decide (0 < l) = true := decide_eq_true (by omega)
    have Hex : Hid (exb = false) := Lib.hid (by rw [Hexb.out, hB0]; rfl)
    clear hB0
    obtain ⟨m, hlm⟩ : ∃ m : Nat, l = (m : Int) := ⟨l.toNat, by omega⟩
    have hm1 : (1 : Int) ≤ m := by omega
    have hm2 : (m : Int) ≤ 34776 := by omega
    subst hlm
    have HTv : Hid (cutZ (v : Int) m = (T : Int)) := Lib.hid (by rw [cutZ_nat, HT.out]; unfold rT; rw [if_neg hl0, Int.toNat_natCast])
    clear hl0
    go_wp2_with fail
    refine (specCut_any (v : Int) Sa Aa na ca m _ Za4.out (by have := Ha.out; omega) (by omega)).mono ?_
    rintro e w5 ⟨Sm, Am, nm, cm, rfl, hz0, hb⟩
    have Zm5 := Lib.hid (hz0.castN HTv.out).zv
    have ZmO := Lib.hid (hz0.castN HTv.out)
    have Hnm : Hid ((nm : Int) ≤ 2) := Lib.hid (lenT (hz0.castN HTv.out).zv.lenN (by omega))
    clear hz0
    have Sz5 := Lib.hid (Below.size hb)
    have Bel5 := Lib.hid (belNext Bel4.out hb)
    have BelO5 := Lib.hid (belNext BelO4.out hb)
    have Bx5 := Lib.hid (Bx4.out.next hb)
    have Zv5 := Lib.hid (Zv4.out.next hb)
    have Rs5 := Lib.hid (Rs4.out.next hb)
    have Za5 := Lib.hid (Za4.out.next hb)
    have Ba5 := Lib.hid (Ba4.out.next hb)
    clear hb Bel4 BelO4 Bx4 Zv4 Rs4 Za4 Ba4 hBx0 hBx1 hBx2 hBx3 hBa0 hBa1 hBa2 hRs0 hRs1 hRs2 hRs3 hRs4
    obtain ⟨⟨hBx0, hBx1, hBx2⟩, hBx3⟩ := Bx5.out
    obtain ⟨⟨hBa0, hBa1⟩, hBa2⟩ := Ba5.out
    obtain ⟨⟨hRs0, hRs1, hRs2, hRs3⟩, hRs4⟩ := Rs5.out
    go_upto_region 7 with fail
    obtain ⟨w6, hw6⟩ : ∃ w6, w6 = w5.alloc (.cells #[.int .i64 Sm, .slice Am nm cm] 46) := ⟨_, rfl⟩
    rw [← hw6]
    obtain ⟨g, hg⟩ : ∃ g, g = w5.heap.size := ⟨_, rfl⟩
    have hb : Below w5.heap.size w5 w6 := by rw [hw6]; exact belAlloc1 _ _
    have Mb6 : Hid (MB w6 g Sm Am nm cm) := Lib.hid (by rw [hw6, hg]; exact MB.new _ _ _ _ _ _)
    have Hgl : Hid (g < w6.heap.size) := Lib.hid Mb6.out.2
    have Hg : Hid (w5.heap.size ≤ g) := Lib.hid (by omega)
    have BelP5 : Hid (Below w5.heap.size w5 w5) := Lib.hid (Below.refl _ _)
    rw [← hg]
    clear hw6 hg
    have ORs := Rs5
    have OBel := Bel5
    have BelQ5 : Hid (Below w5.heap.size w5 w5) := Lib.hid (Below.refl _ _)
    have Sz6 := Lib.hid (Below.size hb)
    have Bel6 := Lib.hid (belNext Bel5.out hb)
    have BelO6 := Lib.hid (belNext BelO5.out hb)
    have Bx6 := Lib.hid (Bx5.out.next hb)
    have Zv6 := Lib.hid (Zv5.out.next hb)
    have Rs6 := Lib.hid (Rs5.out.next hb)
    have Za6 := Lib.hid (Za5.out.next hb)
    have Ba6 := Lib.hid (Ba5.out.next hb)
    have Zm6 := Lib.hid (Zm5.out.next hb)
    have BelP6 := Lib.hid (belNext BelP5.out hb)
    have BelQ6 := Lib.hid (belNext BelQ5.out hb)
    clear hb Bel5 BelO5 Bx5 Zv5 Rs5 Za5 Ba5 Zm5 BelP5 BelQ5 hBx0 hBx1 hBx2 hBx3 hBa0 hBa1 hBa2 hRs0 hRs1 hRs2 hRs3 hRs4
    obtain ⟨⟨hBx0, hBx1, hBx2⟩, hBx3⟩ := Bx6.out
    obtain ⟨⟨hBa0, hBa1⟩, hBa2⟩ := Ba6.out
    obtain ⟨⟨hRs0, hRs1, hRs2, hRs3⟩, hRs4⟩ := Rs6.out
    obtain ⟨⟨hMb0, hMb1, hMb2, hMb3⟩, hMb4⟩ := Mb6.out
    obtain ⟨k1, hk⟩ : ∃ k1, k1 = m - 1 := ⟨_, rfl⟩
    have hk1 : (m : Int) - 1 = (k1 : Int) := by omega
    obtain ⟨b1, hb1⟩ : ∃ b1, b1 = bt v k1 := ⟨_, rfl⟩
    have Hh : Hid (rH v m = if b1 = 1 then (if 0 = k1 then 0 else 1) else -1) := Lib.hid (by rw [HHo.out, hb1]; unfold bt; rw [show ((m : Int)).toNat - 1 = k1 by omega])
    have Hb1 := Lib.hid hb1
    have HBt : Hid (rB v m = true) := Lib.hid (by rw [HBo.out]; exact decide_eq_true (by omega))
    clear hb1 hk
    obtain ⟨hmo1, hmo2⟩ := Hmo.out
    rcases (show mode = 0 ∨ mode = 1 ∨ mode = 2 ∨ mode = 3 ∨ mode = 4 by omega) with rfl | rfl | rfl | rfl | rfl
    · go_wp2_with fail
      refine (specBitN_any v Sa Aa na ca k1 _ Za6.out (by have := Ha.out; omega) (by omega)).mono ?_
      rintro e w7 ⟨rfl, hb⟩
      rw [← Hb1.out]
      have Sz7 := Lib.hid (Below.size hb)
      have Bel7 := Lib.hid (belNext Bel6.out hb)
      have BelO7 := Lib.hid (belNext BelO6.out hb)
      have Bx7 := Lib.hid (Bx6.out.next hb)
      have Zv7 := Lib.hid (Zv6.out.next hb)
      have Rs7 := Lib.hid (Rs6.out.next hb)
      have Za7 := Lib.hid (Za6.out.next hb)
      have Ba7 := Lib.hid (Ba6.out.next hb)
      have Zm7 := Lib.hid (Zm6.out.next hb)
      have BelP7 := Lib.hid (belNext BelP6.out hb)
      have BelQ7 := Lib.hid (belNext BelQ6.out hb)
      have Mb7 := Lib.hid (Mb6.out.next hb)
      clear hb Bel6 BelO6 Bx6 Zv6 Rs6 Za6 Ba6 Zm6 BelP6 BelQ6 Mb6 hBx0 hBx1 hBx2 hBx3 hBa0 hBa1 hBa2 hRs0 hRs1 hRs2 hRs3 hRs4 hMb0 hMb1 hMb2 hMb3 hMb4
      obtain ⟨⟨hBx0, hBx1, hBx2⟩, hBx3⟩ := Bx7.out
      obtain ⟨⟨hBa0, hBa1⟩, hBa2⟩ := Ba7.out
      obtain ⟨⟨hRs0, hRs1, hRs2, hRs3⟩, hRs4⟩ := Rs7.out
      obtain ⟨⟨hMb0, hMb1, hMb2, hMb3⟩, hMb4⟩ := Mb7.out
      by_cases hbc : b1 = 1
      · have hbt : ((b1 : Int) == 1) = true := by rw [hbc]; rfl
        by_cases hmc : 1 < m
        · have hmt : decide ((1 : Int) < m) = true := decide_eq_true (by omega)
          have hmt2 : decide (1 < m) = true := decide_eq_true (by omega)
          have hmt3 : (1 : Int) < m := by omega
          have Haw : Hid (away 0 z.sign (T % 2 == 1) (rH v m) = true) := Lib.hid (by unfold away; rw [if_pos rfl, Hh.out, if_pos hbc, if_neg (by omega)]; rfl)
          clear hbc hmc
          have HMv : Hid (((T + 1 : Nat) : Int) = (M : Int)) := Lib.hid (by rw [HM.out, rM_yes HBt.out HT.out Haw.out])
          go_upto_region 17 with fail
          go_cut [] from 68 to 70 (fun wx => ∃ (Sr : Int) (Ar : Option Addr) (nr cr : Nat), Box wx g Sr Ar nr cr ∧ ZO wx w1.heap.size wx.heap.size (M : Int) Sr Ar nr cr ∧ Below w5.heap.size w5 wx)
          case first =>
            clear hBx0 hBx1 hBx2 hBx3 hBa0 hBa1 hBa2 hRs0 hRs1 hRs2 hRs3 hRs4 hMb0 hMb1 hMb2 hMb3 hMb4
            obtain ⟨⟨hMb0, hMb1, hMb2, hMb3⟩, hMb4⟩ := Mb7.out
            refine wp_region_held_drew (S := fun _ => True) (by kernel_rfl) trivial (fun hHeld => ?_)
            refine wpAnyH_ready (rs := [0, 1]) (by kernel_rfl) (by simp) ?_
            refine AllReadyH.cons rfl (fun K hK => ?_) (AllReadyH.cons rfl (fun K hK => ?_) AllReadyH.nil)
            · go_simp
              refine hK.out _ _ trivial (fun hHeld => ?_)
              clear hK K hMb0 hMb1 hMb2 hMb3 hMb4
              try simp only [Act.put, List.setIfInBounds_toArray, List.set_cons_zero, List.set_cons_succ, List.getElem_toArray, List.getElem_cons_succ, List.getElem_cons_zero]
              refine wpAnyH_ready (rs := [1]) (by kernel_rfl) (by simp) ?_
              refine AllReadyH.cons rfl (fun K hK => ?_) AllReadyH.nil
              go_simp
              refine (specOne_any _).mono ?_
              rintro e y2 ⟨S1, A1, n1, c1, rfl, hz1, hn1, hb0⟩
              have hb : Below w7.heap.size w7 y2 := belDrew hb0
              refine hK.out _ _ trivial (fun hHeld => ?_)
              clear hK K hb0
              have Mb2 := Lib.hid (Mb7.out.next hb)
              have Zm2 := Lib.hid (Zm7.out.next hb)
              have Z1 := Lib.hid hz1.zv
              have H1n := Lib.hid hn1
              have B2 := Lib.hid (belNext BelP7.out hb)
              have Sg := Lib.hid hb.size
              clear hb hz1 hn1
              try simp only [Act.put, List.setIfInBounds_toArray, List.set_cons_zero, List.set_cons_succ, List.getElem_toArray, List.getElem_cons_succ, List.getElem_cons_zero]
              refine wpAnyH_ready (rs := [2]) (by kernel_rfl) (by simp) ?_
              refine AllReadyH.cons rfl (fun K hK => ?_) AllReadyH.nil
              go_simp
              refine (specAddN_any T 1 Sm S1 Am A1 nm n1 cm c1 _ Zm2.out Z1.out (by have := Hnm.out; omega) (by have := H1n.out; omega)).mono ?_
              rintro e y3 ⟨Sr, Ar, nr, cr, rfl, hzo, hb⟩
              refine hK.out _ _ trivial (fun hHeld => ?_)
              clear hK K
              have Mb3 := Lib.hid (Mb2.out.next hb)
              have B3 := Lib.hid (belNext B2.out hb)
              have Z3 := Lib.hid (hzo.cast_ HMv.out)
              have Sz3y := Lib.hid hb.size
              clear hb hzo
              try simp only [Act.put, List.setIfInBounds_toArray, List.set_cons_zero, List.set_cons_succ, List.getElem_toArray, List.getElem_cons_succ, List.getElem_cons_zero]
              obtain ⟨⟨hMb0, hMb1, hMb2, hMb3⟩, hMb4⟩ := Mb3.out
              refine wpAnyH_ready (rs := [3]) (by kernel_rfl) (by simp) ?_
              refine AllReadyH.cons rfl (fun K hK => ?_) AllReadyH.nil
              go_simp
              refine hK.out _ (st y3 g Sr Ar nr cr) trivial (fun hHeld => ?_)
              clear hK K hHeld hMb0 hMb1 hMb2 hMb3 hMb4
              try simp only [Act.put, List.setIfInBounds_toArray, List.set_cons_zero, List.set_cons_succ, List.getElem_toArray, List.getElem_cons_succ, List.getElem_cons_zero]
              refine wpAnyH_done (by kernel_rfl) ?_ _
              go_wp2_with fail
              go_meet
              exact ⟨Sr, Ar, nr, cr, Mb3.out.over.box, ((Z3.out.st_ (.inl (by have zz0 := Hlt.out; have zz1 := Sg.out; have zz2 := Sz3y.out; have zz3 := Hgl.out; have zz4 := Sz2.out; have zz5 := Sz3.out; have zz6 := Hf.out; have zz7 := Sz4.out; have zz8 := Sz5.out; have zz9 := Sz6.out; have zz10 := Hg.out; have zz11 := Sz7.out; first | omega | (simp; done) | (simp; omega)))).wide (by have zz0 := Hlt.out; have zz1 := Sg.out; have zz2 := Sz2.out; have zz3 := Sz3.out; have zz4 := Hf.out; have zz5 := Sz4.out; have zz6 := Sz5.out; have zz7 := Sz6.out; have zz8 := Hg.out; have zz9 := Sz7.out; first | omega | (simp; done) | (simp; omega)) (by rw [st_size]; exact Nat.le_refl _) (Nat.le_refl _)), (belStQ B3.out (by have zz0 := Hlt.out; have zz1 := Sz2.out; have zz2 := Sz3.out; have zz3 := Hf.out; have zz4 := Sz4.out; have zz5 := Sz5.out; have zz6 := Sz6.out; have zz7 := Hg.out; have zz8 := Sz7.out; first | omega | (simp; done) | (simp; omega)))⟩
            · clear hMb0 hMb1 hMb2 hMb3 hMb4
              go_simp
              refine (specOne_any _).mono ?_
              rintro e y2 ⟨S1, A1, n1, c1, rfl, hz1, hn1, hb0⟩
              have hb : Below w7.heap.size w7 y2 := belDrew hb0
              refine hK.out _ _ trivial (fun hHeld => ?_)
              clear hK K hb0
              have Mb2 := Lib.hid (Mb7.out.next hb)
              have Zm2 := Lib.hid (Zm7.out.next hb)
              have Z1 := Lib.hid hz1.zv
              have H1n := Lib.hid hn1
              have B2 := Lib.hid (belNext BelP7.out hb)
              have Sg := Lib.hid hb.size
              clear hb hz1 hn1
              try simp only [Act.put, List.setIfInBounds_toArray, List.set_cons_zero, List.set_cons_succ, List.getElem_toArray, List.getElem_cons_succ, List.getElem_cons_zero]
              obtain ⟨⟨hMb0, hMb1, hMb2, hMb3⟩, hMb4⟩ := Mb2.out
              refine wpAnyH_ready (rs := [0]) (by kernel_rfl) (by simp) ?_
              refine AllReadyH.cons rfl (fun K hK => ?_) AllReadyH.nil
              go_simp
              refine hK.out _ _ trivial (fun hHeld => ?_)
              clear hK K hMb0 hMb1 hMb2 hMb3 hMb4
              try simp only [Act.put, List.setIfInBounds_toArray, List.set_cons_zero, List.set_cons_succ, List.getElem_toArray, List.getElem_cons_succ, List.getElem_cons_zero]
              refine wpAnyH_ready (rs := [2]) (by kernel_rfl) (by simp) ?_
              refine AllReadyH.cons rfl (fun K hK => ?_) AllReadyH.nil
              go_simp
              refine (specAddN_any T 1 Sm S1 Am A1 nm n1 cm c1 _ Zm2.out Z1.out (by have := Hnm.out; omega) (by have := H1n.out; omega)).mono ?_
              rintro e y3 ⟨Sr, Ar, nr, cr, rfl, hzo, hb⟩
              refine hK.out _ _ trivial (fun hHeld => ?_)
              clear hK K
              have Mb3 := Lib.hid (Mb2.out.next hb)
              have B3 := Lib.hid (belNext B2.out hb)
              have Z3 := Lib.hid (hzo.cast_ HMv.out)
              have Sz3y := Lib.hid hb.size
              clear hb hzo
              try simp only [Act.put, List.setIfInBounds_toArray, List.set_cons_zero, List.set_cons_succ, List.getElem_toArray, List.getElem_cons_succ, List.getElem_cons_zero]
              obtain ⟨⟨hMb0, hMb1, hMb2, hMb3⟩, hMb4⟩ := Mb3.out
              refine wpAnyH_ready (rs := [3]) (by kernel_rfl) (by simp) ?_
              refine AllReadyH.cons rfl (fun K hK => ?_) AllReadyH.nil
              go_simp
              refine hK.out _ (st y3 g Sr Ar nr cr) trivial (fun hHeld => ?_)
              clear hK K hHeld hMb0 hMb1 hMb2 hMb3 hMb4
              try simp only [Act.put, List.setIfInBounds_toArray, List.set_cons_zero, List.set_cons_succ, List.getElem_toArray, List.getElem_cons_succ, List.getElem_cons_zero]
              refine wpAnyH_done (by kernel_rfl) ?_ _
              go_wp2_with fail
              go_meet
              exact ⟨Sr, Ar, nr, cr, Mb3.out.over.box, ((Z3.out.st_ (.inl (by have zz0 := Hlt.out; have zz1 := Sg.out; have zz2 := Sz3y.out; have zz3 := Hgl.out; have zz4 := Sz2.out; have zz5 := Sz3.out; have zz6 := Hf.out; have zz7 := Sz4.out; have zz8 := Sz5.out; have zz9 := Sz6.out; have zz10 := Hg.out; have zz11 := Sz7.out; first | omega | (simp; done) | (simp; omega)))).wide (by have zz0 := Hlt.out; have zz1 := Sg.out; have zz2 := Sz2.out; have zz3 := Sz3.out; have zz4 := Hf.out; have zz5 := Sz4.out; have zz6 := Sz5.out; have zz7 := Sz6.out; have zz8 := Hg.out; have zz9 := Sz7.out; first | omega | (simp; done) | (simp; omega)) (by rw [st_size]; exact Nat.le_refl _) (Nat.le_refl _)), (belStQ B3.out (by have zz0 := Hlt.out; have zz1 := Sz2.out; have zz2 := Sz3.out; have zz3 := Hf.out; have zz4 := Sz4.out; have zz5 := Sz5.out; have zz6 := Sz6.out; have zz7 := Hg.out; have zz8 := Sz7.out; first | omega | (simp; done) | (simp; omega)))⟩
          case rest =>
            obtain ⟨Sr, Ar, nr, cr, hx9, hz9, hb⟩ := hcut
            rename World => w99
            clear hBx0 hBx1 hBx2 hBx3 hBa0 hBa1 hBa2 hRs0 hRs1 hRs2 hRs3 hRs4 hMb0 hMb1 hMb2 hMb3 hMb4
            have Sz99 := Lib.hid hb.size
            have Rs99 := Lib.hid (ORs.out.next hb)
            have Bel99 := Lib.hid (belNext OBel.out hb)
            obtain ⟨⟨hRs0, hRs1, hRs2, hRs3⟩, hRs4⟩ := Rs99.out
            obtain ⟨⟨hg0, hg1⟩, hg2⟩ := hx9
            have Z9 := Lib.hid hz9
            clear hz9 hb
            go_wp2_with fail
            refine bodyPost_ret (v := .tuple #[.agg #[.int .i64 Sr, .slice Ar nr cr], .int .i64 q, .bool false]) (by simp [results, Tryz.results78, go_sem, hRs0, hRs1]) rfl ⟨Sr, Ar, nr, cr, by rw [Hex.out], ?_, ?_⟩
            · exact ((Z9.out.setCell (.inl (by have zz0 := Hlt.out; have zz1 := Sz2.out; have zz2 := Sz3.out; have zz3 := Hf.out; have zz4 := Sz4.out; have zz5 := Sz5.out; have zz6 := Sz6.out; have zz7 := Hg.out; have zz8 := Sz7.out; have zz9 := Sz99.out; first | omega | (simp; done) | (simp; omega))) _).setCell (.inl (by have zz0 := Hlt.out; have zz1 := Sz2.out; have zz2 := Sz3.out; have zz3 := Hf.out; have zz4 := Sz4.out; have zz5 := Sz5.out; have zz6 := Sz6.out; have zz7 := Hg.out; have zz8 := Sz7.out; have zz9 := Sz99.out; first | omega | (simp; done) | (simp; omega))) _).wide (by have zz0 := Hlt.out; have zz1 := Sz2.out; have zz2 := Sz3.out; have zz3 := Hf.out; have zz4 := Sz4.out; have zz5 := Sz5.out; have zz6 := Sz6.out; have zz7 := Hg.out; have zz8 := Sz7.out; have zz9 := Sz99.out; first | omega | (simp; done) | (simp; omega)) (by have zz0 := Hlt.out; have zz1 := Sz2.out; have zz2 := Sz3.out; have zz3 := Hf.out; have zz4 := Sz4.out; have zz5 := Sz5.out; have zz6 := Sz6.out; have zz7 := Hg.out; have zz8 := Sz7.out; have zz9 := Sz99.out; first | omega | (simp; done) | (simp; omega)) (Nat.le_refl _)
            · exact (Bel99.out.setCell (by have zz0 := Hlt.out; have zz1 := Sz2.out; have zz2 := Sz3.out; have zz3 := Hf.out; have zz4 := Sz4.out; have zz5 := Sz5.out; have zz6 := Sz6.out; have zz7 := Hg.out; have zz8 := Sz7.out; have zz9 := Sz99.out; first | omega | (simp; done) | (simp; omega)) _).setCell (by have zz0 := Hlt.out; have zz1 := Sz2.out; have zz2 := Sz3.out; have zz3 := Hf.out; have zz4 := Sz4.out; have zz5 := Sz5.out; have zz6 := Sz6.out; have zz7 := Hg.out; have zz8 := Sz7.out; have zz9 := Sz99.out; first | omega | (simp; done) | (simp; omega)) _
        · have hmt : decide ((1 : Int) < m) = false := decide_eq_false (by omega)
          have hmt2 : decide (1 < m) = false := decide_eq_false (by omega)
          have hmt3 : (m : Int) ≤ 1 := by omega
          have H00 : Hid (rH v m = 0) := Lib.hid (by rw [Hh.out, if_pos hbc, if_pos (by omega)])
          clear hbc hmc
          go_wp2_with fail
          refine (specBit0_any T Sm Am nm cm _ Zm7.out (by have := Hnm.out; omega)).mono ?_
          rintro e w8 ⟨rfl, hb⟩
          obtain ⟨r, hr⟩ : ∃ r, r = T % 2 := ⟨_, rfl⟩
          rw [← hr]
          have Sz8 := Lib.hid (Below.size hb)
          have Bel8 := Lib.hid (belNext Bel7.out hb)
          have BelO8 := Lib.hid (belNext BelO7.out hb)
          have Bx8 := Lib.hid (Bx7.out.next hb)
          have Zv8 := Lib.hid (Zv7.out.next hb)
          have Rs8 := Lib.hid (Rs7.out.next hb)
          have Za8 := Lib.hid (Za7.out.next hb)
          have Ba8 := Lib.hid (Ba7.out.next hb)
          have Zm8 := Lib.hid (Zm7.out.next hb)
          have BelP8 := Lib.hid (belNext BelP7.out hb)
          have BelQ8 := Lib.hid (belNext BelQ7.out hb)
          have Mb8 := Lib.hid (Mb7.out.next hb)
          clear hb Bel7 BelO7 Bx7 Zv7 Rs7 Za7 Ba7 Zm7 BelP7 BelQ7 Mb7 hBx0 hBx1 hBx2 hBx3 hBa0 hBa1 hBa2 hRs0 hRs1 hRs2 hRs3 hRs4 hMb0 hMb1 hMb2 hMb3 hMb4
          obtain ⟨⟨hBx0, hBx1, hBx2⟩, hBx3⟩ := Bx8.out
          obtain ⟨⟨hBa0, hBa1⟩, hBa2⟩ := Ba8.out
          obtain ⟨⟨hRs0, hRs1, hRs2, hRs3⟩, hRs4⟩ := Rs8.out
          obtain ⟨⟨hMb0, hMb1, hMb2, hMb3⟩, hMb4⟩ := Mb8.out
          by_cases hrc : r = 1
          · have hrt : ((r : Int) == 1) = true := by rw [hrc]; rfl
            have Haw : Hid (away 0 z.sign (T % 2 == 1) (rH v m) = true) := Lib.hid (by unfold away; rw [if_pos rfl, H00.out, ← hr, hrc]; rfl)
            clear hrc hr
            have HMv : Hid (((T + 1 : Nat) : Int) = (M : Int)) := Lib.hid (by rw [HM.out, rM_yes HBt.out HT.out Haw.out])
            go_upto_region 17 with fail
            go_cut [] from 68 to 70 (fun wx => ∃ (Sr : Int) (Ar : Option Addr) (nr cr : Nat), Box wx g Sr Ar nr cr ∧ ZO wx w1.heap.size wx.heap.size (M : Int) Sr Ar nr cr ∧ Below w5.heap.size w5 wx)
            case first =>
              clear hBx0 hBx1 hBx2 hBx3 hBa0 hBa1 hBa2 hRs0 hRs1 hRs2 hRs3 hRs4 hMb0 hMb1 hMb2 hMb3 hMb4
              obtain ⟨⟨hMb0, hMb1, hMb2, hMb3⟩, hMb4⟩ := Mb8.out
              refine wp_region_held_drew (S := fun _ => True) (by kernel_rfl) trivial (fun hHeld => ?_)
              refine wpAnyH_ready (rs := [0, 1]) (by kernel_rfl) (by simp) ?_
              refine AllReadyH.cons rfl (fun K hK => ?_) (AllReadyH.cons rfl (fun K hK => ?_) AllReadyH.nil)
              · go_simp
                refine hK.out _ _ trivial (fun hHeld => ?_)
                clear hK K hMb0 hMb1 hMb2 hMb3 hMb4
                try simp only [Act.put, List.setIfInBounds_toArray, List.set_cons_zero, List.set_cons_succ, List.getElem_toArray, List.getElem_cons_succ, List.getElem_cons_zero]
                refine wpAnyH_ready (rs := [1]) (by kernel_rfl) (by simp) ?_
                refine AllReadyH.cons rfl (fun K hK => ?_) AllReadyH.nil
                go_simp
                refine (specOne_any _).mono ?_
                rintro e y2 ⟨S1, A1, n1, c1, rfl, hz1, hn1, hb0⟩
                have hb : Below w8.heap.size w8 y2 := belDrew hb0
                refine hK.out _ _ trivial (fun hHeld => ?_)
                clear hK K hb0
                have Mb2 := Lib.hid (Mb8.out.next hb)
                have Zm2 := Lib.hid (Zm8.out.next hb)
                have Z1 := Lib.hid hz1.zv
                have H1n := Lib.hid hn1
                have B2 := Lib.hid (belNext BelP8.out hb)
                have Sg := Lib.hid hb.size
                clear hb hz1 hn1
                try simp only [Act.put, List.setIfInBounds_toArray, List.set_cons_zero, List.set_cons_succ, List.getElem_toArray, List.getElem_cons_succ, List.getElem_cons_zero]
                refine wpAnyH_ready (rs := [2]) (by kernel_rfl) (by simp) ?_
                refine AllReadyH.cons rfl (fun K hK => ?_) AllReadyH.nil
                go_simp
                refine (specAddN_any T 1 Sm S1 Am A1 nm n1 cm c1 _ Zm2.out Z1.out (by have := Hnm.out; omega) (by have := H1n.out; omega)).mono ?_
                rintro e y3 ⟨Sr, Ar, nr, cr, rfl, hzo, hb⟩
                refine hK.out _ _ trivial (fun hHeld => ?_)
                clear hK K
                have Mb3 := Lib.hid (Mb2.out.next hb)
                have B3 := Lib.hid (belNext B2.out hb)
                have Z3 := Lib.hid (hzo.cast_ HMv.out)
                have Sz3y := Lib.hid hb.size
                clear hb hzo
                try simp only [Act.put, List.setIfInBounds_toArray, List.set_cons_zero, List.set_cons_succ, List.getElem_toArray, List.getElem_cons_succ, List.getElem_cons_zero]
                obtain ⟨⟨hMb0, hMb1, hMb2, hMb3⟩, hMb4⟩ := Mb3.out
                refine wpAnyH_ready (rs := [3]) (by kernel_rfl) (by simp) ?_
                refine AllReadyH.cons rfl (fun K hK => ?_) AllReadyH.nil
                go_simp
                refine hK.out _ (st y3 g Sr Ar nr cr) trivial (fun hHeld => ?_)
                clear hK K hHeld hMb0 hMb1 hMb2 hMb3 hMb4
                try simp only [Act.put, List.setIfInBounds_toArray, List.set_cons_zero, List.set_cons_succ, List.getElem_toArray, List.getElem_cons_succ, List.getElem_cons_zero]
                refine wpAnyH_done (by kernel_rfl) ?_ _
                go_wp2_with fail
                go_meet
                exact ⟨Sr, Ar, nr, cr, Mb3.out.over.box, ((Z3.out.st_ (.inl (by have zz0 := Hlt.out; have zz1 := Sg.out; have zz2 := Sz3y.out; have zz3 := Hgl.out; have zz4 := Sz2.out; have zz5 := Sz3.out; have zz6 := Hf.out; have zz7 := Sz4.out; have zz8 := Sz5.out; have zz9 := Sz6.out; have zz10 := Hg.out; have zz11 := Sz7.out; have zz12 := Sz8.out; first | omega | (simp; done) | (simp; omega)))).wide (by have zz0 := Hlt.out; have zz1 := Sg.out; have zz2 := Sz2.out; have zz3 := Sz3.out; have zz4 := Hf.out; have zz5 := Sz4.out; have zz6 := Sz5.out; have zz7 := Sz6.out; have zz8 := Hg.out; have zz9 := Sz7.out; have zz10 := Sz8.out; first | omega | (simp; done) | (simp; omega)) (by rw [st_size]; exact Nat.le_refl _) (Nat.le_refl _)), (belStQ B3.out (by have zz0 := Hlt.out; have zz1 := Sz2.out; have zz2 := Sz3.out; have zz3 := Hf.out; have zz4 := Sz4.out; have zz5 := Sz5.out; have zz6 := Sz6.out; have zz7 := Hg.out; have zz8 := Sz7.out; have zz9 := Sz8.out; first | omega | (simp; done) | (simp; omega)))⟩
              · clear hMb0 hMb1 hMb2 hMb3 hMb4
                go_simp
                refine (specOne_any _).mono ?_
                rintro e y2 ⟨S1, A1, n1, c1, rfl, hz1, hn1, hb0⟩
                have hb : Below w8.heap.size w8 y2 := belDrew hb0
                refine hK.out _ _ trivial (fun hHeld => ?_)
                clear hK K hb0
                have Mb2 := Lib.hid (Mb8.out.next hb)
                have Zm2 := Lib.hid (Zm8.out.next hb)
                have Z1 := Lib.hid hz1.zv
                have H1n := Lib.hid hn1
                have B2 := Lib.hid (belNext BelP8.out hb)
                have Sg := Lib.hid hb.size
                clear hb hz1 hn1
                try simp only [Act.put, List.setIfInBounds_toArray, List.set_cons_zero, List.set_cons_succ, List.getElem_toArray, List.getElem_cons_succ, List.getElem_cons_zero]
                obtain ⟨⟨hMb0, hMb1, hMb2, hMb3⟩, hMb4⟩ := Mb2.out
                refine wpAnyH_ready (rs := [0]) (by kernel_rfl) (by simp) ?_
                refine AllReadyH.cons rfl (fun K hK => ?_) AllReadyH.nil
                go_simp
                refine hK.out _ _ trivial (fun hHeld => ?_)
                clear hK K hMb0 hMb1 hMb2 hMb3 hMb4
                try simp only [Act.put, List.setIfInBounds_toArray, List.set_cons_zero, List.set_cons_succ, List.getElem_toArray, List.getElem_cons_succ, List.getElem_cons_zero]
                refine wpAnyH_ready (rs := [2]) (by kernel_rfl) (by simp) ?_
                refine AllReadyH.cons rfl (fun K hK => ?_) AllReadyH.nil
                go_simp
                refine (specAddN_any T 1 Sm S1 Am A1 nm n1 cm c1 _ Zm2.out Z1.out (by have := Hnm.out; omega) (by have := H1n.out; omega)).mono ?_
                rintro e y3 ⟨Sr, Ar, nr, cr, rfl, hzo, hb⟩
                refine hK.out _ _ trivial (fun hHeld => ?_)
                clear hK K
                have Mb3 := Lib.hid (Mb2.out.next hb)
                have B3 := Lib.hid (belNext B2.out hb)
                have Z3 := Lib.hid (hzo.cast_ HMv.out)
                have Sz3y := Lib.hid hb.size
                clear hb hzo
                try simp only [Act.put, List.setIfInBounds_toArray, List.set_cons_zero, List.set_cons_succ, List.getElem_toArray, List.getElem_cons_succ, List.getElem_cons_zero]
                obtain ⟨⟨hMb0, hMb1, hMb2, hMb3⟩, hMb4⟩ := Mb3.out
                refine wpAnyH_ready (rs := [3]) (by kernel_rfl) (by simp) ?_
                refine AllReadyH.cons rfl (fun K hK => ?_) AllReadyH.nil
                go_simp
                refine hK.out _ (st y3 g Sr Ar nr cr) trivial (fun hHeld => ?_)
                clear hK K hHeld hMb0 hMb1 hMb2 hMb3 hMb4
                try simp only [Act.put, List.setIfInBounds_toArray, List.set_cons_zero, List.set_cons_succ, List.getElem_toArray, List.getElem_cons_succ, List.getElem_cons_zero]
                refine wpAnyH_done (by kernel_rfl) ?_ _
                go_wp2_with fail
                go_meet
                exact ⟨Sr, Ar, nr, cr, Mb3.out.over.box, ((Z3.out.st_ (.inl (by have zz0 := Hlt.out; have zz1 := Sg.out; have zz2 := Sz3y.out; have zz3 := Hgl.out; have zz4 := Sz2.out; have zz5 := Sz3.out; have zz6 := Hf.out; have zz7 := Sz4.out; have zz8 := Sz5.out; have zz9 := Sz6.out; have zz10 := Hg.out; have zz11 := Sz7.out; have zz12 := Sz8.out; first | omega | (simp; done) | (simp; omega)))).wide (by have zz0 := Hlt.out; have zz1 := Sg.out; have zz2 := Sz2.out; have zz3 := Sz3.out; have zz4 := Hf.out; have zz5 := Sz4.out; have zz6 := Sz5.out; have zz7 := Sz6.out; have zz8 := Hg.out; have zz9 := Sz7.out; have zz10 := Sz8.out; first | omega | (simp; done) | (simp; omega)) (by rw [st_size]; exact Nat.le_refl _) (Nat.le_refl _)), (belStQ B3.out (by have zz0 := Hlt.out; have zz1 := Sz2.out; have zz2 := Sz3.out; have zz3 := Hf.out; have zz4 := Sz4.out; have zz5 := Sz5.out; have zz6 := Sz6.out; have zz7 := Hg.out; have zz8 := Sz7.out; have zz9 := Sz8.out; first | omega | (simp; done) | (simp; omega)))⟩
            case rest =>
              obtain ⟨Sr, Ar, nr, cr, hx9, hz9, hb⟩ := hcut
              rename World => w99
              clear hBx0 hBx1 hBx2 hBx3 hBa0 hBa1 hBa2 hRs0 hRs1 hRs2 hRs3 hRs4 hMb0 hMb1 hMb2 hMb3 hMb4
              have Sz99 := Lib.hid hb.size
              have Rs99 := Lib.hid (ORs.out.next hb)
              have Bel99 := Lib.hid (belNext OBel.out hb)
              obtain ⟨⟨hRs0, hRs1, hRs2, hRs3⟩, hRs4⟩ := Rs99.out
              obtain ⟨⟨hg0, hg1⟩, hg2⟩ := hx9
              have Z9 := Lib.hid hz9
              clear hz9 hb
              go_wp2_with fail
              refine bodyPost_ret (v := .tuple #[.agg #[.int .i64 Sr, .slice Ar nr cr], .int .i64 q, .bool false]) (by simp [results, Tryz.results78, go_sem, hRs0, hRs1]) rfl ⟨Sr, Ar, nr, cr, by rw [Hex.out], ?_, ?_⟩
              · exact ((Z9.out.setCell (.inl (by have zz0 := Hlt.out; have zz1 := Sz2.out; have zz2 := Sz3.out; have zz3 := Hf.out; have zz4 := Sz4.out; have zz5 := Sz5.out; have zz6 := Sz6.out; have zz7 := Hg.out; have zz8 := Sz7.out; have zz9 := Sz8.out; have zz10 := Sz99.out; first | omega | (simp; done) | (simp; omega))) _).setCell (.inl (by have zz0 := Hlt.out; have zz1 := Sz2.out; have zz2 := Sz3.out; have zz3 := Hf.out; have zz4 := Sz4.out; have zz5 := Sz5.out; have zz6 := Sz6.out; have zz7 := Hg.out; have zz8 := Sz7.out; have zz9 := Sz8.out; have zz10 := Sz99.out; first | omega | (simp; done) | (simp; omega))) _).wide (by have zz0 := Hlt.out; have zz1 := Sz2.out; have zz2 := Sz3.out; have zz3 := Hf.out; have zz4 := Sz4.out; have zz5 := Sz5.out; have zz6 := Sz6.out; have zz7 := Hg.out; have zz8 := Sz7.out; have zz9 := Sz8.out; have zz10 := Sz99.out; first | omega | (simp; done) | (simp; omega)) (by have zz0 := Hlt.out; have zz1 := Sz2.out; have zz2 := Sz3.out; have zz3 := Hf.out; have zz4 := Sz4.out; have zz5 := Sz5.out; have zz6 := Sz6.out; have zz7 := Hg.out; have zz8 := Sz7.out; have zz9 := Sz8.out; have zz10 := Sz99.out; first | omega | (simp; done) | (simp; omega)) (Nat.le_refl _)
              · exact (Bel99.out.setCell (by have zz0 := Hlt.out; have zz1 := Sz2.out; have zz2 := Sz3.out; have zz3 := Hf.out; have zz4 := Sz4.out; have zz5 := Sz5.out; have zz6 := Sz6.out; have zz7 := Hg.out; have zz8 := Sz7.out; have zz9 := Sz8.out; have zz10 := Sz99.out; first | omega | (simp; done) | (simp; omega)) _).setCell (by have zz0 := Hlt.out; have zz1 := Sz2.out; have zz2 := Sz3.out; have zz3 := Hf.out; have zz4 := Sz4.out; have zz5 := Sz5.out; have zz6 := Sz6.out; have zz7 := Hg.out; have zz8 := Sz7.out; have zz9 := Sz8.out; have zz10 := Sz99.out; first | omega | (simp; done) | (simp; omega)) _
          · have hrt : ((r : Int) == 1) = false := beq_false_of_ne (by omega)
            have hr0 : r = 0 := by omega
            have Haw : Hid (away 0 z.sign (T % 2 == 1) (rH v m) = false) := Lib.hid (by unfold away; rw [if_pos rfl, H00.out, ← hr, hr0]; rfl)
            clear hrc hr hr0
            have HMv : Hid ((T : Int) = (M : Int)) := Lib.hid (by rw [HM.out, rM_no HBt.out HT.out Haw.out])
            go_wp2_with fail
            have Zr8 := Lib.hid (Zm8.out.cast_ HMv.out)
            refine bodyPost_ret (v := .tuple #[.agg #[.int .i64 Sm, .slice Am nm cm], .int .i64 q, .bool false]) (by simp [results, Tryz.results78, go_sem, hRs0, hRs1]) rfl ⟨Sm, Am, nm, cm, by rw [Hex.out], ?_, ?_⟩
            · exact (((ZmO.out.next BelQ8.out).cast_ HMv.out |>.setCell (.inl (by have zz0 := Hlt.out; have zz1 := Sz2.out; have zz2 := Sz3.out; have zz3 := Hf.out; have zz4 := Sz4.out; have zz5 := Sz5.out; have zz6 := Sz6.out; have zz7 := Hg.out; have zz8 := Sz7.out; have zz9 := Sz8.out; first | omega | (simp; done) | (simp; omega))) _).setCell (.inl (by have zz0 := Hlt.out; have zz1 := Sz2.out; have zz2 := Sz3.out; have zz3 := Hf.out; have zz4 := Sz4.out; have zz5 := Sz5.out; have zz6 := Sz6.out; have zz7 := Hg.out; have zz8 := Sz7.out; have zz9 := Sz8.out; first | omega | (simp; done) | (simp; omega))) _).wide (by have zz0 := Hlt.out; have zz1 := Sz2.out; have zz2 := Sz3.out; have zz3 := Hf.out; have zz4 := Sz4.out; have zz5 := Sz5.out; have zz6 := Sz6.out; have zz7 := Hg.out; have zz8 := Sz7.out; have zz9 := Sz8.out; first | omega | (simp; done) | (simp; omega)) (by have zz0 := Hlt.out; have zz1 := Sz2.out; have zz2 := Sz3.out; have zz3 := Hf.out; have zz4 := Sz4.out; have zz5 := Sz5.out; have zz6 := Sz6.out; have zz7 := Hg.out; have zz8 := Sz7.out; have zz9 := Sz8.out; first | omega | (simp; done) | (simp; omega)) (Nat.le_refl _)
            · exact (Bel8.out.setCell (by have zz0 := Hlt.out; have zz1 := Sz2.out; have zz2 := Sz3.out; have zz3 := Hf.out; have zz4 := Sz4.out; have zz5 := Sz5.out; have zz6 := Sz6.out; have zz7 := Hg.out; have zz8 := Sz7.out; have zz9 := Sz8.out; first | omega | (simp; done) | (simp; omega)) _).setCell (by have zz0 := Hlt.out; have zz1 := Sz2.out; have zz2 := Sz3.out; have zz3 := Hf.out; have zz4 := Sz4.out; have zz5 := Sz5.out; have zz6 := Sz6.out; have zz7 := Hg.out; have zz8 := Sz7.out; have zz9 := Sz8.out; first | omega | (simp; done) | (simp; omega)) _
      · have hbt : ((b1 : Int) == 1) = false := beq_false_of_ne (by omega)
        have Haw : Hid (away 0 z.sign (T % 2 == 1) (rH v m) = false) := Lib.hid (by unfold away; rw [if_pos rfl, Hh.out, if_neg hbc]; rfl)
        clear hbc
        have HMv : Hid ((T : Int) = (M : Int)) := Lib.hid (by rw [HM.out, rM_no HBt.out HT.out Haw.out])
        go_wp2_with fail
        have Zr7 := Lib.hid (Zm7.out.cast_ HMv.out)
        refine bodyPost_ret (v := .tuple #[.agg #[.int .i64 Sm, .slice Am nm cm], .int .i64 q, .bool false]) (by simp [results, Tryz.results78, go_sem, hRs0, hRs1]) rfl ⟨Sm, Am, nm, cm, by rw [Hex.out], ?_, ?_⟩
        · exact (((ZmO.out.next BelQ7.out).cast_ HMv.out |>.setCell (.inl (by have zz0 := Hlt.out; have zz1 := Sz2.out; have zz2 := Sz3.out; have zz3 := Hf.out; have zz4 := Sz4.out; have zz5 := Sz5.out; have zz6 := Sz6.out; have zz7 := Hg.out; have zz8 := Sz7.out; first | omega | (simp; done) | (simp; omega))) _).setCell (.inl (by have zz0 := Hlt.out; have zz1 := Sz2.out; have zz2 := Sz3.out; have zz3 := Hf.out; have zz4 := Sz4.out; have zz5 := Sz5.out; have zz6 := Sz6.out; have zz7 := Hg.out; have zz8 := Sz7.out; first | omega | (simp; done) | (simp; omega))) _).wide (by have zz0 := Hlt.out; have zz1 := Sz2.out; have zz2 := Sz3.out; have zz3 := Hf.out; have zz4 := Sz4.out; have zz5 := Sz5.out; have zz6 := Sz6.out; have zz7 := Hg.out; have zz8 := Sz7.out; first | omega | (simp; done) | (simp; omega)) (by have zz0 := Hlt.out; have zz1 := Sz2.out; have zz2 := Sz3.out; have zz3 := Hf.out; have zz4 := Sz4.out; have zz5 := Sz5.out; have zz6 := Sz6.out; have zz7 := Hg.out; have zz8 := Sz7.out; first | omega | (simp; done) | (simp; omega)) (Nat.le_refl _)
        · exact (Bel7.out.setCell (by have zz0 := Hlt.out; have zz1 := Sz2.out; have zz2 := Sz3.out; have zz3 := Hf.out; have zz4 := Sz4.out; have zz5 := Sz5.out; have zz6 := Sz6.out; have zz7 := Hg.out; have zz8 := Sz7.out; first | omega | (simp; done) | (simp; omega)) _).setCell (by have zz0 := Hlt.out; have zz1 := Sz2.out; have zz2 := Sz3.out; have zz3 := Hf.out; have zz4 := Sz4.out; have zz5 := Sz5.out; have zz6 := Sz6.out; have zz7 := Hg.out; have zz8 := Sz7.out; first | omega | (simp; done) | (simp; omega)) _
    · by_cases hs : S < 0
      · have hst9 : decide (S < 0) = true := decide_eq_true hs
        have Haw : Hid (away 1 z.sign (T % 2 == 1) (rH v m) = true) := Lib.hid (by unfold away; rw [if_neg (by decide), if_pos rfl, ← HS.out]; exact hst9)
        have HMv : Hid (((T + 1 : Nat) : Int) = (M : Int)) := Lib.hid (by rw [HM.out, rM_yes HBt.out HT.out Haw.out])
        go_upto_region 17 with fail
        go_cut [] from 68 to 70 (fun wx => ∃ (Sr : Int) (Ar : Option Addr) (nr cr : Nat), Box wx g Sr Ar nr cr ∧ ZO wx w1.heap.size wx.heap.size (M : Int) Sr Ar nr cr ∧ Below w5.heap.size w5 wx)
        case first =>
          clear hBx0 hBx1 hBx2 hBx3 hBa0 hBa1 hBa2 hRs0 hRs1 hRs2 hRs3 hRs4 hMb0 hMb1 hMb2 hMb3 hMb4
          obtain ⟨⟨hMb0, hMb1, hMb2, hMb3⟩, hMb4⟩ := Mb6.out
          refine wp_region_held_drew (S := fun _ => True) (by kernel_rfl) trivial (fun hHeld => ?_)
          refine wpAnyH_ready (rs := [0, 1]) (by kernel_rfl) (by simp) ?_
          refine AllReadyH.cons rfl (fun K hK => ?_) (AllReadyH.cons rfl (fun K hK => ?_) AllReadyH.nil)
          · go_simp
            refine hK.out _ _ trivial (fun hHeld => ?_)
            clear hK K hMb0 hMb1 hMb2 hMb3 hMb4
            try simp only [Act.put, List.setIfInBounds_toArray, List.set_cons_zero, List.set_cons_succ, List.getElem_toArray, List.getElem_cons_succ, List.getElem_cons_zero]
            refine wpAnyH_ready (rs := [1]) (by kernel_rfl) (by simp) ?_
            refine AllReadyH.cons rfl (fun K hK => ?_) AllReadyH.nil
            go_simp
            refine (specOne_any _).mono ?_
            rintro e y2 ⟨S1, A1, n1, c1, rfl, hz1, hn1, hb0⟩
            have hb : Below w6.heap.size w6 y2 := belDrew hb0
            refine hK.out _ _ trivial (fun hHeld => ?_)
            clear hK K hb0
            have Mb2 := Lib.hid (Mb6.out.next hb)
            have Zm2 := Lib.hid (Zm6.out.next hb)
            have Z1 := Lib.hid hz1.zv
            have H1n := Lib.hid hn1
            have B2 := Lib.hid (belNext BelP6.out hb)
            have Sg := Lib.hid hb.size
            clear hb hz1 hn1
            try simp only [Act.put, List.setIfInBounds_toArray, List.set_cons_zero, List.set_cons_succ, List.getElem_toArray, List.getElem_cons_succ, List.getElem_cons_zero]
            refine wpAnyH_ready (rs := [2]) (by kernel_rfl) (by simp) ?_
            refine AllReadyH.cons rfl (fun K hK => ?_) AllReadyH.nil
            go_simp
            refine (specAddN_any T 1 Sm S1 Am A1 nm n1 cm c1 _ Zm2.out Z1.out (by have := Hnm.out; omega) (by have := H1n.out; omega)).mono ?_
            rintro e y3 ⟨Sr, Ar, nr, cr, rfl, hzo, hb⟩
            refine hK.out _ _ trivial (fun hHeld => ?_)
            clear hK K
            have Mb3 := Lib.hid (Mb2.out.next hb)
            have B3 := Lib.hid (belNext B2.out hb)
            have Z3 := Lib.hid (hzo.cast_ HMv.out)
            have Sz3y := Lib.hid hb.size
            clear hb hzo
            try simp only [Act.put, List.setIfInBounds_toArray, List.set_cons_zero, List.set_cons_succ, List.getElem_toArray, List.getElem_cons_succ, List.getElem_cons_zero]
            obtain ⟨⟨hMb0, hMb1, hMb2, hMb3⟩, hMb4⟩ := Mb3.out
            refine wpAnyH_ready (rs := [3]) (by kernel_rfl) (by simp) ?_
            refine AllReadyH.cons rfl (fun K hK => ?_) AllReadyH.nil
            go_simp
            refine hK.out _ (st y3 g Sr Ar nr cr) trivial (fun hHeld => ?_)
            clear hK K hHeld hMb0 hMb1 hMb2 hMb3 hMb4
            try simp only [Act.put, List.setIfInBounds_toArray, List.set_cons_zero, List.set_cons_succ, List.getElem_toArray, List.getElem_cons_succ, List.getElem_cons_zero]
            refine wpAnyH_done (by kernel_rfl) ?_ _
            go_wp2_with fail
            go_meet
            exact ⟨Sr, Ar, nr, cr, Mb3.out.over.box, ((Z3.out.st_ (.inl (by have zz0 := Hlt.out; have zz1 := Sg.out; have zz2 := Sz3y.out; have zz3 := Hgl.out; have zz4 := Sz2.out; have zz5 := Sz3.out; have zz6 := Hf.out; have zz7 := Sz4.out; have zz8 := Sz5.out; have zz9 := Sz6.out; have zz10 := Hg.out; first | omega | (simp; done) | (simp; omega)))).wide (by have zz0 := Hlt.out; have zz1 := Sg.out; have zz2 := Sz2.out; have zz3 := Sz3.out; have zz4 := Hf.out; have zz5 := Sz4.out; have zz6 := Sz5.out; have zz7 := Sz6.out; have zz8 := Hg.out; first | omega | (simp; done) | (simp; omega)) (by rw [st_size]; exact Nat.le_refl _) (Nat.le_refl _)), (belStQ B3.out (by have zz0 := Hlt.out; have zz1 := Sz2.out; have zz2 := Sz3.out; have zz3 := Hf.out; have zz4 := Sz4.out; have zz5 := Sz5.out; have zz6 := Sz6.out; have zz7 := Hg.out; first | omega | (simp; done) | (simp; omega)))⟩
          · clear hMb0 hMb1 hMb2 hMb3 hMb4
            go_simp
            refine (specOne_any _).mono ?_
            rintro e y2 ⟨S1, A1, n1, c1, rfl, hz1, hn1, hb0⟩
            have hb : Below w6.heap.size w6 y2 := belDrew hb0
            refine hK.out _ _ trivial (fun hHeld => ?_)
            clear hK K hb0
            have Mb2 := Lib.hid (Mb6.out.next hb)
            have Zm2 := Lib.hid (Zm6.out.next hb)
            have Z1 := Lib.hid hz1.zv
            have H1n := Lib.hid hn1
            have B2 := Lib.hid (belNext BelP6.out hb)
            have Sg := Lib.hid hb.size
            clear hb hz1 hn1
            try simp only [Act.put, List.setIfInBounds_toArray, List.set_cons_zero, List.set_cons_succ, List.getElem_toArray, List.getElem_cons_succ, List.getElem_cons_zero]
            obtain ⟨⟨hMb0, hMb1, hMb2, hMb3⟩, hMb4⟩ := Mb2.out
            refine wpAnyH_ready (rs := [0]) (by kernel_rfl) (by simp) ?_
            refine AllReadyH.cons rfl (fun K hK => ?_) AllReadyH.nil
            go_simp
            refine hK.out _ _ trivial (fun hHeld => ?_)
            clear hK K hMb0 hMb1 hMb2 hMb3 hMb4
            try simp only [Act.put, List.setIfInBounds_toArray, List.set_cons_zero, List.set_cons_succ, List.getElem_toArray, List.getElem_cons_succ, List.getElem_cons_zero]
            refine wpAnyH_ready (rs := [2]) (by kernel_rfl) (by simp) ?_
            refine AllReadyH.cons rfl (fun K hK => ?_) AllReadyH.nil
            go_simp
            refine (specAddN_any T 1 Sm S1 Am A1 nm n1 cm c1 _ Zm2.out Z1.out (by have := Hnm.out; omega) (by have := H1n.out; omega)).mono ?_
            rintro e y3 ⟨Sr, Ar, nr, cr, rfl, hzo, hb⟩
            refine hK.out _ _ trivial (fun hHeld => ?_)
            clear hK K
            have Mb3 := Lib.hid (Mb2.out.next hb)
            have B3 := Lib.hid (belNext B2.out hb)
            have Z3 := Lib.hid (hzo.cast_ HMv.out)
            have Sz3y := Lib.hid hb.size
            clear hb hzo
            try simp only [Act.put, List.setIfInBounds_toArray, List.set_cons_zero, List.set_cons_succ, List.getElem_toArray, List.getElem_cons_succ, List.getElem_cons_zero]
            obtain ⟨⟨hMb0, hMb1, hMb2, hMb3⟩, hMb4⟩ := Mb3.out
            refine wpAnyH_ready (rs := [3]) (by kernel_rfl) (by simp) ?_
            refine AllReadyH.cons rfl (fun K hK => ?_) AllReadyH.nil
            go_simp
            refine hK.out _ (st y3 g Sr Ar nr cr) trivial (fun hHeld => ?_)
            clear hK K hHeld hMb0 hMb1 hMb2 hMb3 hMb4
            try simp only [Act.put, List.setIfInBounds_toArray, List.set_cons_zero, List.set_cons_succ, List.getElem_toArray, List.getElem_cons_succ, List.getElem_cons_zero]
            refine wpAnyH_done (by kernel_rfl) ?_ _
            go_wp2_with fail
            go_meet
            exact ⟨Sr, Ar, nr, cr, Mb3.out.over.box, ((Z3.out.st_ (.inl (by have zz0 := Hlt.out; have zz1 := Sg.out; have zz2 := Sz3y.out; have zz3 := Hgl.out; have zz4 := Sz2.out; have zz5 := Sz3.out; have zz6 := Hf.out; have zz7 := Sz4.out; have zz8 := Sz5.out; have zz9 := Sz6.out; have zz10 := Hg.out; first | omega | (simp; done) | (simp; omega)))).wide (by have zz0 := Hlt.out; have zz1 := Sg.out; have zz2 := Sz2.out; have zz3 := Sz3.out; have zz4 := Hf.out; have zz5 := Sz4.out; have zz6 := Sz5.out; have zz7 := Sz6.out; have zz8 := Hg.out; first | omega | (simp; done) | (simp; omega)) (by rw [st_size]; exact Nat.le_refl _) (Nat.le_refl _)), (belStQ B3.out (by have zz0 := Hlt.out; have zz1 := Sz2.out; have zz2 := Sz3.out; have zz3 := Hf.out; have zz4 := Sz4.out; have zz5 := Sz5.out; have zz6 := Sz6.out; have zz7 := Hg.out; first | omega | (simp; done) | (simp; omega)))⟩
        case rest =>
          obtain ⟨Sr, Ar, nr, cr, hx9, hz9, hb⟩ := hcut
          rename World => w99
          clear hBx0 hBx1 hBx2 hBx3 hBa0 hBa1 hBa2 hRs0 hRs1 hRs2 hRs3 hRs4 hMb0 hMb1 hMb2 hMb3 hMb4
          have Sz99 := Lib.hid hb.size
          have Rs99 := Lib.hid (ORs.out.next hb)
          have Bel99 := Lib.hid (belNext OBel.out hb)
          obtain ⟨⟨hRs0, hRs1, hRs2, hRs3⟩, hRs4⟩ := Rs99.out
          obtain ⟨⟨hg0, hg1⟩, hg2⟩ := hx9
          have Z9 := Lib.hid hz9
          clear hz9 hb
          go_wp2_with fail
          refine bodyPost_ret (v := .tuple #[.agg #[.int .i64 Sr, .slice Ar nr cr], .int .i64 q, .bool false]) (by simp [results, Tryz.results78, go_sem, hRs0, hRs1]) rfl ⟨Sr, Ar, nr, cr, by rw [Hex.out], ?_, ?_⟩
          · exact ((Z9.out.setCell (.inl (by have zz0 := Hlt.out; have zz1 := Sz2.out; have zz2 := Sz3.out; have zz3 := Hf.out; have zz4 := Sz4.out; have zz5 := Sz5.out; have zz6 := Sz6.out; have zz7 := Hg.out; have zz8 := Sz99.out; first | omega | (simp; done) | (simp; omega))) _).setCell (.inl (by have zz0 := Hlt.out; have zz1 := Sz2.out; have zz2 := Sz3.out; have zz3 := Hf.out; have zz4 := Sz4.out; have zz5 := Sz5.out; have zz6 := Sz6.out; have zz7 := Hg.out; have zz8 := Sz99.out; first | omega | (simp; done) | (simp; omega))) _).wide (by have zz0 := Hlt.out; have zz1 := Sz2.out; have zz2 := Sz3.out; have zz3 := Hf.out; have zz4 := Sz4.out; have zz5 := Sz5.out; have zz6 := Sz6.out; have zz7 := Hg.out; have zz8 := Sz99.out; first | omega | (simp; done) | (simp; omega)) (by have zz0 := Hlt.out; have zz1 := Sz2.out; have zz2 := Sz3.out; have zz3 := Hf.out; have zz4 := Sz4.out; have zz5 := Sz5.out; have zz6 := Sz6.out; have zz7 := Hg.out; have zz8 := Sz99.out; first | omega | (simp; done) | (simp; omega)) (Nat.le_refl _)
          · exact (Bel99.out.setCell (by have zz0 := Hlt.out; have zz1 := Sz2.out; have zz2 := Sz3.out; have zz3 := Hf.out; have zz4 := Sz4.out; have zz5 := Sz5.out; have zz6 := Sz6.out; have zz7 := Hg.out; have zz8 := Sz99.out; first | omega | (simp; done) | (simp; omega)) _).setCell (by have zz0 := Hlt.out; have zz1 := Sz2.out; have zz2 := Sz3.out; have zz3 := Hf.out; have zz4 := Sz4.out; have zz5 := Sz5.out; have zz6 := Sz6.out; have zz7 := Hg.out; have zz8 := Sz99.out; first | omega | (simp; done) | (simp; omega)) _
      · have hst9 : decide (S < 0) = false := decide_eq_false hs
        have hs2 : 0 ≤ S := by omega
        have Haw : Hid (away 1 z.sign (T % 2 == 1) (rH v m) = false) := Lib.hid (by unfold away; rw [if_neg (by decide), if_pos rfl, ← HS.out]; exact hst9)
        clear hs
        have HMv : Hid ((T : Int) = (M : Int)) := Lib.hid (by rw [HM.out, rM_no HBt.out HT.out Haw.out])
        go_wp2_with fail
        have Zr6 := Lib.hid (Zm6.out.cast_ HMv.out)
        refine bodyPost_ret (v := .tuple #[.agg #[.int .i64 Sm, .slice Am nm cm], .int .i64 q, .bool false]) (by simp [results, Tryz.results78, go_sem, hRs0, hRs1]) rfl ⟨Sm, Am, nm, cm, by rw [Hex.out], ?_, ?_⟩
        · exact (((ZmO.out.next BelQ6.out).cast_ HMv.out |>.setCell (.inl (by have zz0 := Hlt.out; have zz1 := Sz2.out; have zz2 := Sz3.out; have zz3 := Hf.out; have zz4 := Sz4.out; have zz5 := Sz5.out; have zz6 := Sz6.out; have zz7 := Hg.out; first | omega | (simp; done) | (simp; omega))) _).setCell (.inl (by have zz0 := Hlt.out; have zz1 := Sz2.out; have zz2 := Sz3.out; have zz3 := Hf.out; have zz4 := Sz4.out; have zz5 := Sz5.out; have zz6 := Sz6.out; have zz7 := Hg.out; first | omega | (simp; done) | (simp; omega))) _).wide (by have zz0 := Hlt.out; have zz1 := Sz2.out; have zz2 := Sz3.out; have zz3 := Hf.out; have zz4 := Sz4.out; have zz5 := Sz5.out; have zz6 := Sz6.out; have zz7 := Hg.out; first | omega | (simp; done) | (simp; omega)) (by have zz0 := Hlt.out; have zz1 := Sz2.out; have zz2 := Sz3.out; have zz3 := Hf.out; have zz4 := Sz4.out; have zz5 := Sz5.out; have zz6 := Sz6.out; have zz7 := Hg.out; first | omega | (simp; done) | (simp; omega)) (Nat.le_refl _)
        · exact (Bel6.out.setCell (by have zz0 := Hlt.out; have zz1 := Sz2.out; have zz2 := Sz3.out; have zz3 := Hf.out; have zz4 := Sz4.out; have zz5 := Sz5.out; have zz6 := Sz6.out; have zz7 := Hg.out; first | omega | (simp; done) | (simp; omega)) _).setCell (by have zz0 := Hlt.out; have zz1 := Sz2.out; have zz2 := Sz3.out; have zz3 := Hf.out; have zz4 := Sz4.out; have zz5 := Sz5.out; have zz6 := Sz6.out; have zz7 := Hg.out; first | omega | (simp; done) | (simp; omega)) _
    · by_cases hs : 0 < S
      · have hst9 : decide (0 < S) = true := decide_eq_true hs
        have Haw : Hid (away 2 z.sign (T % 2 == 1) (rH v m) = true) := Lib.hid (by unfold away; rw [if_neg (by decide), if_neg (by decide), if_pos rfl, ← HS.out]; exact hst9)
        have HMv : Hid (((T + 1 : Nat) : Int) = (M : Int)) := Lib.hid (by rw [HM.out, rM_yes HBt.out HT.out Haw.out])
        go_upto_region 17 with fail
        go_cut [] from 68 to 70 (fun wx => ∃ (Sr : Int) (Ar : Option Addr) (nr cr : Nat), Box wx g Sr Ar nr cr ∧ ZO wx w1.heap.size wx.heap.size (M : Int) Sr Ar nr cr ∧ Below w5.heap.size w5 wx)
        case first =>
          clear hBx0 hBx1 hBx2 hBx3 hBa0 hBa1 hBa2 hRs0 hRs1 hRs2 hRs3 hRs4 hMb0 hMb1 hMb2 hMb3 hMb4
          obtain ⟨⟨hMb0, hMb1, hMb2, hMb3⟩, hMb4⟩ := Mb6.out
          refine wp_region_held_drew (S := fun _ => True) (by kernel_rfl) trivial (fun hHeld => ?_)
          refine wpAnyH_ready (rs := [0, 1]) (by kernel_rfl) (by simp) ?_
          refine AllReadyH.cons rfl (fun K hK => ?_) (AllReadyH.cons rfl (fun K hK => ?_) AllReadyH.nil)
          · go_simp
            refine hK.out _ _ trivial (fun hHeld => ?_)
            clear hK K hMb0 hMb1 hMb2 hMb3 hMb4
            try simp only [Act.put, List.setIfInBounds_toArray, List.set_cons_zero, List.set_cons_succ, List.getElem_toArray, List.getElem_cons_succ, List.getElem_cons_zero]
            refine wpAnyH_ready (rs := [1]) (by kernel_rfl) (by simp) ?_
            refine AllReadyH.cons rfl (fun K hK => ?_) AllReadyH.nil
            go_simp
            refine (specOne_any _).mono ?_
            rintro e y2 ⟨S1, A1, n1, c1, rfl, hz1, hn1, hb0⟩
            have hb : Below w6.heap.size w6 y2 := belDrew hb0
            refine hK.out _ _ trivial (fun hHeld => ?_)
            clear hK K hb0
            have Mb2 := Lib.hid (Mb6.out.next hb)
            have Zm2 := Lib.hid (Zm6.out.next hb)
            have Z1 := Lib.hid hz1.zv
            have H1n := Lib.hid hn1
            have B2 := Lib.hid (belNext BelP6.out hb)
            have Sg := Lib.hid hb.size
            clear hb hz1 hn1
            try simp only [Act.put, List.setIfInBounds_toArray, List.set_cons_zero, List.set_cons_succ, List.getElem_toArray, List.getElem_cons_succ, List.getElem_cons_zero]
            refine wpAnyH_ready (rs := [2]) (by kernel_rfl) (by simp) ?_
            refine AllReadyH.cons rfl (fun K hK => ?_) AllReadyH.nil
            go_simp
            refine (specAddN_any T 1 Sm S1 Am A1 nm n1 cm c1 _ Zm2.out Z1.out (by have := Hnm.out; omega) (by have := H1n.out; omega)).mono ?_
            rintro e y3 ⟨Sr, Ar, nr, cr, rfl, hzo, hb⟩
            refine hK.out _ _ trivial (fun hHeld => ?_)
            clear hK K
            have Mb3 := Lib.hid (Mb2.out.next hb)
            have B3 := Lib.hid (belNext B2.out hb)
            have Z3 := Lib.hid (hzo.cast_ HMv.out)
            have Sz3y := Lib.hid hb.size
            clear hb hzo
            try simp only [Act.put, List.setIfInBounds_toArray, List.set_cons_zero, List.set_cons_succ, List.getElem_toArray, List.getElem_cons_succ, List.getElem_cons_zero]
            obtain ⟨⟨hMb0, hMb1, hMb2, hMb3⟩, hMb4⟩ := Mb3.out
            refine wpAnyH_ready (rs := [3]) (by kernel_rfl) (by simp) ?_
            refine AllReadyH.cons rfl (fun K hK => ?_) AllReadyH.nil
            go_simp
            refine hK.out _ (st y3 g Sr Ar nr cr) trivial (fun hHeld => ?_)
            clear hK K hHeld hMb0 hMb1 hMb2 hMb3 hMb4
            try simp only [Act.put, List.setIfInBounds_toArray, List.set_cons_zero, List.set_cons_succ, List.getElem_toArray, List.getElem_cons_succ, List.getElem_cons_zero]
            refine wpAnyH_done (by kernel_rfl) ?_ _
            go_wp2_with fail
            go_meet
            exact ⟨Sr, Ar, nr, cr, Mb3.out.over.box, ((Z3.out.st_ (.inl (by have zz0 := Hlt.out; have zz1 := Sg.out; have zz2 := Sz3y.out; have zz3 := Hgl.out; have zz4 := Sz2.out; have zz5 := Sz3.out; have zz6 := Hf.out; have zz7 := Sz4.out; have zz8 := Sz5.out; have zz9 := Sz6.out; have zz10 := Hg.out; first | omega | (simp; done) | (simp; omega)))).wide (by have zz0 := Hlt.out; have zz1 := Sg.out; have zz2 := Sz2.out; have zz3 := Sz3.out; have zz4 := Hf.out; have zz5 := Sz4.out; have zz6 := Sz5.out; have zz7 := Sz6.out; have zz8 := Hg.out; first | omega | (simp; done) | (simp; omega)) (by rw [st_size]; exact Nat.le_refl _) (Nat.le_refl _)), (belStQ B3.out (by have zz0 := Hlt.out; have zz1 := Sz2.out; have zz2 := Sz3.out; have zz3 := Hf.out; have zz4 := Sz4.out; have zz5 := Sz5.out; have zz6 := Sz6.out; have zz7 := Hg.out; first | omega | (simp; done) | (simp; omega)))⟩
          · clear hMb0 hMb1 hMb2 hMb3 hMb4
            go_simp
            refine (specOne_any _).mono ?_
            rintro e y2 ⟨S1, A1, n1, c1, rfl, hz1, hn1, hb0⟩
            have hb : Below w6.heap.size w6 y2 := belDrew hb0
            refine hK.out _ _ trivial (fun hHeld => ?_)
            clear hK K hb0
            have Mb2 := Lib.hid (Mb6.out.next hb)
            have Zm2 := Lib.hid (Zm6.out.next hb)
            have Z1 := Lib.hid hz1.zv
            have H1n := Lib.hid hn1
            have B2 := Lib.hid (belNext BelP6.out hb)
            have Sg := Lib.hid hb.size
            clear hb hz1 hn1
            try simp only [Act.put, List.setIfInBounds_toArray, List.set_cons_zero, List.set_cons_succ, List.getElem_toArray, List.getElem_cons_succ, List.getElem_cons_zero]
            obtain ⟨⟨hMb0, hMb1, hMb2, hMb3⟩, hMb4⟩ := Mb2.out
            refine wpAnyH_ready (rs := [0]) (by kernel_rfl) (by simp) ?_
            refine AllReadyH.cons rfl (fun K hK => ?_) AllReadyH.nil
            go_simp
            refine hK.out _ _ trivial (fun hHeld => ?_)
            clear hK K hMb0 hMb1 hMb2 hMb3 hMb4
            try simp only [Act.put, List.setIfInBounds_toArray, List.set_cons_zero, List.set_cons_succ, List.getElem_toArray, List.getElem_cons_succ, List.getElem_cons_zero]
            refine wpAnyH_ready (rs := [2]) (by kernel_rfl) (by simp) ?_
            refine AllReadyH.cons rfl (fun K hK => ?_) AllReadyH.nil
            go_simp
            refine (specAddN_any T 1 Sm S1 Am A1 nm n1 cm c1 _ Zm2.out Z1.out (by have := Hnm.out; omega) (by have := H1n.out; omega)).mono ?_
            rintro e y3 ⟨Sr, Ar, nr, cr, rfl, hzo, hb⟩
            refine hK.out _ _ trivial (fun hHeld => ?_)
            clear hK K
            have Mb3 := Lib.hid (Mb2.out.next hb)
            have B3 := Lib.hid (belNext B2.out hb)
            have Z3 := Lib.hid (hzo.cast_ HMv.out)
            have Sz3y := Lib.hid hb.size
            clear hb hzo
            try simp only [Act.put, List.setIfInBounds_toArray, List.set_cons_zero, List.set_cons_succ, List.getElem_toArray, List.getElem_cons_succ, List.getElem_cons_zero]
            obtain ⟨⟨hMb0, hMb1, hMb2, hMb3⟩, hMb4⟩ := Mb3.out
            refine wpAnyH_ready (rs := [3]) (by kernel_rfl) (by simp) ?_
            refine AllReadyH.cons rfl (fun K hK => ?_) AllReadyH.nil
            go_simp
            refine hK.out _ (st y3 g Sr Ar nr cr) trivial (fun hHeld => ?_)
            clear hK K hHeld hMb0 hMb1 hMb2 hMb3 hMb4
            try simp only [Act.put, List.setIfInBounds_toArray, List.set_cons_zero, List.set_cons_succ, List.getElem_toArray, List.getElem_cons_succ, List.getElem_cons_zero]
            refine wpAnyH_done (by kernel_rfl) ?_ _
            go_wp2_with fail
            go_meet
            exact ⟨Sr, Ar, nr, cr, Mb3.out.over.box, ((Z3.out.st_ (.inl (by have zz0 := Hlt.out; have zz1 := Sg.out; have zz2 := Sz3y.out; have zz3 := Hgl.out; have zz4 := Sz2.out; have zz5 := Sz3.out; have zz6 := Hf.out; have zz7 := Sz4.out; have zz8 := Sz5.out; have zz9 := Sz6.out; have zz10 := Hg.out; first | omega | (simp; done) | (simp; omega)))).wide (by have zz0 := Hlt.out; have zz1 := Sg.out; have zz2 := Sz2.out; have zz3 := Sz3.out; have zz4 := Hf.out; have zz5 := Sz4.out; have zz6 := Sz5.out; have zz7 := Sz6.out; have zz8 := Hg.out; first | omega | (simp; done) | (simp; omega)) (by rw [st_size]; exact Nat.le_refl _) (Nat.le_refl _)), (belStQ B3.out (by have zz0 := Hlt.out; have zz1 := Sz2.out; have zz2 := Sz3.out; have zz3 := Hf.out; have zz4 := Sz4.out; have zz5 := Sz5.out; have zz6 := Sz6.out; have zz7 := Hg.out; first | omega | (simp; done) | (simp; omega)))⟩
        case rest =>
          obtain ⟨Sr, Ar, nr, cr, hx9, hz9, hb⟩ := hcut
          rename World => w99
          clear hBx0 hBx1 hBx2 hBx3 hBa0 hBa1 hBa2 hRs0 hRs1 hRs2 hRs3 hRs4 hMb0 hMb1 hMb2 hMb3 hMb4
          have Sz99 := Lib.hid hb.size
          have Rs99 := Lib.hid (ORs.out.next hb)
          have Bel99 := Lib.hid (belNext OBel.out hb)
          obtain ⟨⟨hRs0, hRs1, hRs2, hRs3⟩, hRs4⟩ := Rs99.out
          obtain ⟨⟨hg0, hg1⟩, hg2⟩ := hx9
          have Z9 := Lib.hid hz9
          clear hz9 hb
          go_wp2_with fail
          refine bodyPost_ret (v := .tuple #[.agg #[.int .i64 Sr, .slice Ar nr cr], .int .i64 q, .bool false]) (by simp [results, Tryz.results78, go_sem, hRs0, hRs1]) rfl ⟨Sr, Ar, nr, cr, by rw [Hex.out], ?_, ?_⟩
          · exact ((Z9.out.setCell (.inl (by have zz0 := Hlt.out; have zz1 := Sz2.out; have zz2 := Sz3.out; have zz3 := Hf.out; have zz4 := Sz4.out; have zz5 := Sz5.out; have zz6 := Sz6.out; have zz7 := Hg.out; have zz8 := Sz99.out; first | omega | (simp; done) | (simp; omega))) _).setCell (.inl (by have zz0 := Hlt.out; have zz1 := Sz2.out; have zz2 := Sz3.out; have zz3 := Hf.out; have zz4 := Sz4.out; have zz5 := Sz5.out; have zz6 := Sz6.out; have zz7 := Hg.out; have zz8 := Sz99.out; first | omega | (simp; done) | (simp; omega))) _).wide (by have zz0 := Hlt.out; have zz1 := Sz2.out; have zz2 := Sz3.out; have zz3 := Hf.out; have zz4 := Sz4.out; have zz5 := Sz5.out; have zz6 := Sz6.out; have zz7 := Hg.out; have zz8 := Sz99.out; first | omega | (simp; done) | (simp; omega)) (by have zz0 := Hlt.out; have zz1 := Sz2.out; have zz2 := Sz3.out; have zz3 := Hf.out; have zz4 := Sz4.out; have zz5 := Sz5.out; have zz6 := Sz6.out; have zz7 := Hg.out; have zz8 := Sz99.out; first | omega | (simp; done) | (simp; omega)) (Nat.le_refl _)
          · exact (Bel99.out.setCell (by have zz0 := Hlt.out; have zz1 := Sz2.out; have zz2 := Sz3.out; have zz3 := Hf.out; have zz4 := Sz4.out; have zz5 := Sz5.out; have zz6 := Sz6.out; have zz7 := Hg.out; have zz8 := Sz99.out; first | omega | (simp; done) | (simp; omega)) _).setCell (by have zz0 := Hlt.out; have zz1 := Sz2.out; have zz2 := Sz3.out; have zz3 := Hf.out; have zz4 := Sz4.out; have zz5 := Sz5.out; have zz6 := Sz6.out; have zz7 := Hg.out; have zz8 := Sz99.out; first | omega | (simp; done) | (simp; omega)) _
      · have hst9 : decide (0 < S) = false := decide_eq_false hs
        have hs2 : S ≤ 0 := by omega
        have Haw : Hid (away 2 z.sign (T % 2 == 1) (rH v m) = false) := Lib.hid (by unfold away; rw [if_neg (by decide), if_neg (by decide), if_pos rfl, ← HS.out]; exact hst9)
        clear hs
        have HMv : Hid ((T : Int) = (M : Int)) := Lib.hid (by rw [HM.out, rM_no HBt.out HT.out Haw.out])
        go_wp2_with fail
        have Zr6 := Lib.hid (Zm6.out.cast_ HMv.out)
        refine bodyPost_ret (v := .tuple #[.agg #[.int .i64 Sm, .slice Am nm cm], .int .i64 q, .bool false]) (by simp [results, Tryz.results78, go_sem, hRs0, hRs1]) rfl ⟨Sm, Am, nm, cm, by rw [Hex.out], ?_, ?_⟩
        · exact (((ZmO.out.next BelQ6.out).cast_ HMv.out |>.setCell (.inl (by have zz0 := Hlt.out; have zz1 := Sz2.out; have zz2 := Sz3.out; have zz3 := Hf.out; have zz4 := Sz4.out; have zz5 := Sz5.out; have zz6 := Sz6.out; have zz7 := Hg.out; first | omega | (simp; done) | (simp; omega))) _).setCell (.inl (by have zz0 := Hlt.out; have zz1 := Sz2.out; have zz2 := Sz3.out; have zz3 := Hf.out; have zz4 := Sz4.out; have zz5 := Sz5.out; have zz6 := Sz6.out; have zz7 := Hg.out; first | omega | (simp; done) | (simp; omega))) _).wide (by have zz0 := Hlt.out; have zz1 := Sz2.out; have zz2 := Sz3.out; have zz3 := Hf.out; have zz4 := Sz4.out; have zz5 := Sz5.out; have zz6 := Sz6.out; have zz7 := Hg.out; first | omega | (simp; done) | (simp; omega)) (by have zz0 := Hlt.out; have zz1 := Sz2.out; have zz2 := Sz3.out; have zz3 := Hf.out; have zz4 := Sz4.out; have zz5 := Sz5.out; have zz6 := Sz6.out; have zz7 := Hg.out; first | omega | (simp; done) | (simp; omega)) (Nat.le_refl _)
        · exact (Bel6.out.setCell (by have zz0 := Hlt.out; have zz1 := Sz2.out; have zz2 := Sz3.out; have zz3 := Hf.out; have zz4 := Sz4.out; have zz5 := Sz5.out; have zz6 := Sz6.out; have zz7 := Hg.out; first | omega | (simp; done) | (simp; omega)) _).setCell (by have zz0 := Hlt.out; have zz1 := Sz2.out; have zz2 := Sz3.out; have zz3 := Hf.out; have zz4 := Sz4.out; have zz5 := Sz5.out; have zz6 := Sz6.out; have zz7 := Hg.out; first | omega | (simp; done) | (simp; omega)) _
    · have Haw : Hid (away 3 z.sign (T % 2 == 1) (rH v m) = false) := Lib.hid (by rfl)
      have HMv : Hid ((T : Int) = (M : Int)) := Lib.hid (by rw [HM.out, rM_no HBt.out HT.out Haw.out])
      go_wp2_with fail
      have Zr6 := Lib.hid (Zm6.out.cast_ HMv.out)
      refine bodyPost_ret (v := .tuple #[.agg #[.int .i64 Sm, .slice Am nm cm], .int .i64 q, .bool false]) (by simp [results, Tryz.results78, go_sem, hRs0, hRs1]) rfl ⟨Sm, Am, nm, cm, by rw [Hex.out], ?_, ?_⟩
      · exact (((ZmO.out.next BelQ6.out).cast_ HMv.out |>.setCell (.inl (by have zz0 := Hlt.out; have zz1 := Sz2.out; have zz2 := Sz3.out; have zz3 := Hf.out; have zz4 := Sz4.out; have zz5 := Sz5.out; have zz6 := Sz6.out; have zz7 := Hg.out; first | omega | (simp; done) | (simp; omega))) _).setCell (.inl (by have zz0 := Hlt.out; have zz1 := Sz2.out; have zz2 := Sz3.out; have zz3 := Hf.out; have zz4 := Sz4.out; have zz5 := Sz5.out; have zz6 := Sz6.out; have zz7 := Hg.out; first | omega | (simp; done) | (simp; omega))) _).wide (by have zz0 := Hlt.out; have zz1 := Sz2.out; have zz2 := Sz3.out; have zz3 := Hf.out; have zz4 := Sz4.out; have zz5 := Sz5.out; have zz6 := Sz6.out; have zz7 := Hg.out; first | omega | (simp; done) | (simp; omega)) (by have zz0 := Hlt.out; have zz1 := Sz2.out; have zz2 := Sz3.out; have zz3 := Hf.out; have zz4 := Sz4.out; have zz5 := Sz5.out; have zz6 := Sz6.out; have zz7 := Hg.out; first | omega | (simp; done) | (simp; omega)) (Nat.le_refl _)
      · exact (Bel6.out.setCell (by have zz0 := Hlt.out; have zz1 := Sz2.out; have zz2 := Sz3.out; have zz3 := Hf.out; have zz4 := Sz4.out; have zz5 := Sz5.out; have zz6 := Sz6.out; have zz7 := Hg.out; first | omega | (simp; done) | (simp; omega)) _).setCell (by have zz0 := Hlt.out; have zz1 := Sz2.out; have zz2 := Sz3.out; have zz3 := Hf.out; have zz4 := Sz4.out; have zz5 := Sz5.out; have zz6 := Sz6.out; have zz7 := Hg.out; first | omega | (simp; done) | (simp; omega)) _
    · have Haw : Hid (away 4 z.sign (T % 2 == 1) (rH v m) = true) := Lib.hid (by rfl)
      have HMv : Hid (((T + 1 : Nat) : Int) = (M : Int)) := Lib.hid (by rw [HM.out, rM_yes HBt.out HT.out Haw.out])
      go_upto_region 17 with fail
      go_cut [] from 68 to 70 (fun wx => ∃ (Sr : Int) (Ar : Option Addr) (nr cr : Nat), Box wx g Sr Ar nr cr ∧ ZO wx w1.heap.size wx.heap.size (M : Int) Sr Ar nr cr ∧ Below w5.heap.size w5 wx)
      case first =>
        clear hBx0 hBx1 hBx2 hBx3 hBa0 hBa1 hBa2 hRs0 hRs1 hRs2 hRs3 hRs4 hMb0 hMb1 hMb2 hMb3 hMb4
        obtain ⟨⟨hMb0, hMb1, hMb2, hMb3⟩, hMb4⟩ := Mb6.out
        refine wp_region_held_drew (S := fun _ => True) (by kernel_rfl) trivial (fun hHeld => ?_)
        refine wpAnyH_ready (rs := [0, 1]) (by kernel_rfl) (by simp) ?_
        refine AllReadyH.cons rfl (fun K hK => ?_) (AllReadyH.cons rfl (fun K hK => ?_) AllReadyH.nil)
        · go_simp
          refine hK.out _ _ trivial (fun hHeld => ?_)
          clear hK K hMb0 hMb1 hMb2 hMb3 hMb4
          try simp only [Act.put, List.setIfInBounds_toArray, List.set_cons_zero, List.set_cons_succ, List.getElem_toArray, List.getElem_cons_succ, List.getElem_cons_zero]
          refine wpAnyH_ready (rs := [1]) (by kernel_rfl) (by simp) ?_
          refine AllReadyH.cons rfl (fun K hK => ?_) AllReadyH.nil
          go_simp
          refine (specOne_any _).mono ?_
          rintro e y2 ⟨S1, A1, n1, c1, rfl, hz1, hn1, hb0⟩
          have hb : Below w6.heap.size w6 y2 := belDrew hb0
          refine hK.out _ _ trivial (fun hHeld => ?_)
          clear hK K hb0
          have Mb2 := Lib.hid (Mb6.out.next hb)
          have Zm2 := Lib.hid (Zm6.out.next hb)
          have Z1 := Lib.hid hz1.zv
          have H1n := Lib.hid hn1
          have B2 := Lib.hid (belNext BelP6.out hb)
          have Sg := Lib.hid hb.size
          clear hb hz1 hn1
          try simp only [Act.put, List.setIfInBounds_toArray, List.set_cons_zero, List.set_cons_succ, List.getElem_toArray, List.getElem_cons_succ, List.getElem_cons_zero]
          refine wpAnyH_ready (rs := [2]) (by kernel_rfl) (by simp) ?_
          refine AllReadyH.cons rfl (fun K hK => ?_) AllReadyH.nil
          go_simp
          refine (specAddN_any T 1 Sm S1 Am A1 nm n1 cm c1 _ Zm2.out Z1.out (by have := Hnm.out; omega) (by have := H1n.out; omega)).mono ?_
          rintro e y3 ⟨Sr, Ar, nr, cr, rfl, hzo, hb⟩
          refine hK.out _ _ trivial (fun hHeld => ?_)
          clear hK K
          have Mb3 := Lib.hid (Mb2.out.next hb)
          have B3 := Lib.hid (belNext B2.out hb)
          have Z3 := Lib.hid (hzo.cast_ HMv.out)
          have Sz3y := Lib.hid hb.size
          clear hb hzo
          try simp only [Act.put, List.setIfInBounds_toArray, List.set_cons_zero, List.set_cons_succ, List.getElem_toArray, List.getElem_cons_succ, List.getElem_cons_zero]
          obtain ⟨⟨hMb0, hMb1, hMb2, hMb3⟩, hMb4⟩ := Mb3.out
          refine wpAnyH_ready (rs := [3]) (by kernel_rfl) (by simp) ?_
          refine AllReadyH.cons rfl (fun K hK => ?_) AllReadyH.nil
          go_simp
          refine hK.out _ (st y3 g Sr Ar nr cr) trivial (fun hHeld => ?_)
          clear hK K hHeld hMb0 hMb1 hMb2 hMb3 hMb4
          try simp only [Act.put, List.setIfInBounds_toArray, List.set_cons_zero, List.set_cons_succ, List.getElem_toArray, List.getElem_cons_succ, List.getElem_cons_zero]
          refine wpAnyH_done (by kernel_rfl) ?_ _
          go_wp2_with fail
          go_meet
          exact ⟨Sr, Ar, nr, cr, Mb3.out.over.box, ((Z3.out.st_ (.inl (by have zz0 := Hlt.out; have zz1 := Sg.out; have zz2 := Sz3y.out; have zz3 := Hgl.out; have zz4 := Sz2.out; have zz5 := Sz3.out; have zz6 := Hf.out; have zz7 := Sz4.out; have zz8 := Sz5.out; have zz9 := Sz6.out; have zz10 := Hg.out; first | omega | (simp; done) | (simp; omega)))).wide (by have zz0 := Hlt.out; have zz1 := Sg.out; have zz2 := Sz2.out; have zz3 := Sz3.out; have zz4 := Hf.out; have zz5 := Sz4.out; have zz6 := Sz5.out; have zz7 := Sz6.out; have zz8 := Hg.out; first | omega | (simp; done) | (simp; omega)) (by rw [st_size]; exact Nat.le_refl _) (Nat.le_refl _)), (belStQ B3.out (by have zz0 := Hlt.out; have zz1 := Sz2.out; have zz2 := Sz3.out; have zz3 := Hf.out; have zz4 := Sz4.out; have zz5 := Sz5.out; have zz6 := Sz6.out; have zz7 := Hg.out; first | omega | (simp; done) | (simp; omega)))⟩
        · clear hMb0 hMb1 hMb2 hMb3 hMb4
          go_simp
          refine (specOne_any _).mono ?_
          rintro e y2 ⟨S1, A1, n1, c1, rfl, hz1, hn1, hb0⟩
          have hb : Below w6.heap.size w6 y2 := belDrew hb0
          refine hK.out _ _ trivial (fun hHeld => ?_)
          clear hK K hb0
          have Mb2 := Lib.hid (Mb6.out.next hb)
          have Zm2 := Lib.hid (Zm6.out.next hb)
          have Z1 := Lib.hid hz1.zv
          have H1n := Lib.hid hn1
          have B2 := Lib.hid (belNext BelP6.out hb)
          have Sg := Lib.hid hb.size
          clear hb hz1 hn1
          try simp only [Act.put, List.setIfInBounds_toArray, List.set_cons_zero, List.set_cons_succ, List.getElem_toArray, List.getElem_cons_succ, List.getElem_cons_zero]
          obtain ⟨⟨hMb0, hMb1, hMb2, hMb3⟩, hMb4⟩ := Mb2.out
          refine wpAnyH_ready (rs := [0]) (by kernel_rfl) (by simp) ?_
          refine AllReadyH.cons rfl (fun K hK => ?_) AllReadyH.nil
          go_simp
          refine hK.out _ _ trivial (fun hHeld => ?_)
          clear hK K hMb0 hMb1 hMb2 hMb3 hMb4
          try simp only [Act.put, List.setIfInBounds_toArray, List.set_cons_zero, List.set_cons_succ, List.getElem_toArray, List.getElem_cons_succ, List.getElem_cons_zero]
          refine wpAnyH_ready (rs := [2]) (by kernel_rfl) (by simp) ?_
          refine AllReadyH.cons rfl (fun K hK => ?_) AllReadyH.nil
          go_simp
          refine (specAddN_any T 1 Sm S1 Am A1 nm n1 cm c1 _ Zm2.out Z1.out (by have := Hnm.out; omega) (by have := H1n.out; omega)).mono ?_
          rintro e y3 ⟨Sr, Ar, nr, cr, rfl, hzo, hb⟩
          refine hK.out _ _ trivial (fun hHeld => ?_)
          clear hK K
          have Mb3 := Lib.hid (Mb2.out.next hb)
          have B3 := Lib.hid (belNext B2.out hb)
          have Z3 := Lib.hid (hzo.cast_ HMv.out)
          have Sz3y := Lib.hid hb.size
          clear hb hzo
          try simp only [Act.put, List.setIfInBounds_toArray, List.set_cons_zero, List.set_cons_succ, List.getElem_toArray, List.getElem_cons_succ, List.getElem_cons_zero]
          obtain ⟨⟨hMb0, hMb1, hMb2, hMb3⟩, hMb4⟩ := Mb3.out
          refine wpAnyH_ready (rs := [3]) (by kernel_rfl) (by simp) ?_
          refine AllReadyH.cons rfl (fun K hK => ?_) AllReadyH.nil
          go_simp
          refine hK.out _ (st y3 g Sr Ar nr cr) trivial (fun hHeld => ?_)
          clear hK K hHeld hMb0 hMb1 hMb2 hMb3 hMb4
          try simp only [Act.put, List.setIfInBounds_toArray, List.set_cons_zero, List.set_cons_succ, List.getElem_toArray, List.getElem_cons_succ, List.getElem_cons_zero]
          refine wpAnyH_done (by kernel_rfl) ?_ _
          go_wp2_with fail
          go_meet
          exact ⟨Sr, Ar, nr, cr, Mb3.out.over.box, ((Z3.out.st_ (.inl (by have zz0 := Hlt.out; have zz1 := Sg.out; have zz2 := Sz3y.out; have zz3 := Hgl.out; have zz4 := Sz2.out; have zz5 := Sz3.out; have zz6 := Hf.out; have zz7 := Sz4.out; have zz8 := Sz5.out; have zz9 := Sz6.out; have zz10 := Hg.out; first | omega | (simp; done) | (simp; omega)))).wide (by have zz0 := Hlt.out; have zz1 := Sg.out; have zz2 := Sz2.out; have zz3 := Sz3.out; have zz4 := Hf.out; have zz5 := Sz4.out; have zz6 := Sz5.out; have zz7 := Sz6.out; have zz8 := Hg.out; first | omega | (simp; done) | (simp; omega)) (by rw [st_size]; exact Nat.le_refl _) (Nat.le_refl _)), (belStQ B3.out (by have zz0 := Hlt.out; have zz1 := Sz2.out; have zz2 := Sz3.out; have zz3 := Hf.out; have zz4 := Sz4.out; have zz5 := Sz5.out; have zz6 := Sz6.out; have zz7 := Hg.out; first | omega | (simp; done) | (simp; omega)))⟩
      case rest =>
        obtain ⟨Sr, Ar, nr, cr, hx9, hz9, hb⟩ := hcut
        rename World => w99
        clear hBx0 hBx1 hBx2 hBx3 hBa0 hBa1 hBa2 hRs0 hRs1 hRs2 hRs3 hRs4 hMb0 hMb1 hMb2 hMb3 hMb4
        have Sz99 := Lib.hid hb.size
        have Rs99 := Lib.hid (ORs.out.next hb)
        have Bel99 := Lib.hid (belNext OBel.out hb)
        obtain ⟨⟨hRs0, hRs1, hRs2, hRs3⟩, hRs4⟩ := Rs99.out
        obtain ⟨⟨hg0, hg1⟩, hg2⟩ := hx9
        have Z9 := Lib.hid hz9
        clear hz9 hb
        go_wp2_with fail
        refine bodyPost_ret (v := .tuple #[.agg #[.int .i64 Sr, .slice Ar nr cr], .int .i64 q, .bool false]) (by simp [results, Tryz.results78, go_sem, hRs0, hRs1]) rfl ⟨Sr, Ar, nr, cr, by rw [Hex.out], ?_, ?_⟩
        · exact ((Z9.out.setCell (.inl (by have zz0 := Hlt.out; have zz1 := Sz2.out; have zz2 := Sz3.out; have zz3 := Hf.out; have zz4 := Sz4.out; have zz5 := Sz5.out; have zz6 := Sz6.out; have zz7 := Hg.out; have zz8 := Sz99.out; first | omega | (simp; done) | (simp; omega))) _).setCell (.inl (by have zz0 := Hlt.out; have zz1 := Sz2.out; have zz2 := Sz3.out; have zz3 := Hf.out; have zz4 := Sz4.out; have zz5 := Sz5.out; have zz6 := Sz6.out; have zz7 := Hg.out; have zz8 := Sz99.out; first | omega | (simp; done) | (simp; omega))) _).wide (by have zz0 := Hlt.out; have zz1 := Sz2.out; have zz2 := Sz3.out; have zz3 := Hf.out; have zz4 := Sz4.out; have zz5 := Sz5.out; have zz6 := Sz6.out; have zz7 := Hg.out; have zz8 := Sz99.out; first | omega | (simp; done) | (simp; omega)) (by have zz0 := Hlt.out; have zz1 := Sz2.out; have zz2 := Sz3.out; have zz3 := Hf.out; have zz4 := Sz4.out; have zz5 := Sz5.out; have zz6 := Sz6.out; have zz7 := Hg.out; have zz8 := Sz99.out; first | omega | (simp; done) | (simp; omega)) (Nat.le_refl _)
        · exact (Bel99.out.setCell (by have zz0 := Hlt.out; have zz1 := Sz2.out; have zz2 := Sz3.out; have zz3 := Hf.out; have zz4 := Sz4.out; have zz5 := Sz5.out; have zz6 := Sz6.out; have zz7 := Hg.out; have zz8 := Sz99.out; first | omega | (simp; done) | (simp; omega)) _).setCell (by have zz0 := Hlt.out; have zz1 := Sz2.out; have zz2 := Sz3.out; have zz3 := Hf.out; have zz4 := Sz4.out; have zz5 := Sz5.out; have zz6 := Sz6.out; have zz7 := Hg.out; have zz8 := Sz99.out; first | omega | (simp; done) | (simp; omega)) _

end Go.Proofs.YtngminjncdfjdaaGreatDoor
/- Rounding to a float of 32 bits, of the model. -/
namespace Go.Proofs.YtngminjncdfjdaaGreatDoor
set_option maxRecDepth 100000
open Go.RowKit
set_option linter.unusedSimpArgs false
set_option linter.unusedVariables false
attribute [local go_sem ↓] Go.wp_at_zero Go.wp_at_succ

open Ieee in
theorem sv_num {m x : Nat} {p : Int} (h : SameVal m p x 0) {base : Int} (hb : base ≤ p) : m * 2 ^ (p - base).toNat * 2 ^ base.toNat = x * 2 ^ (-base).toNat := by
  obtain ⟨a, b, h1, h2⟩ := h
  apply Nat.eq_of_mul_eq_mul_right (Nat.two_pow_pos b)
  have e : (p - base).toNat + base.toNat + b = a + (-base).toNat := by omega
  rw [Nat.mul_assoc m, ← Nat.pow_add, Nat.mul_assoc m, ← Nat.pow_add, e, Nat.pow_add, ← Nat.mul_assoc, h1, Nat.mul_assoc, Nat.mul_comm (2 ^ b), ← Nat.mul_assoc]
open Ieee in
theorem add_nat64 (x y : Nat) (hx : x < 9007199254740992) (hy : y < 9007199254740992) : floatBits .add .f64 (d64 false x 0) (d64 false y 0) = some (d64 false (x + y) 0) := by
  obtain ⟨m, p, e1, hs1, _⟩ := read64 false hx (p := 0) (by omega) (by omega)
  obtain ⟨n, r, e2, hs2, _⟩ := read64 false hy (p := 0) (by omega) (by omega)
  show Ieee.double.add _ _ = _
  unfold Format.add
  rw [e1, e2]
  unfold Datum.sum
  simp only
  rw [signed_eq, signed_eq]
  simp only [Bool.false_eq_true, if_false, Int.one_mul, Bool.and_self]
  obtain ⟨b, hb⟩ : ∃ b, b = min p r := ⟨_, rfl⟩
  rw [← hb]
  have k1 := sv_num hs1 (base := b) (by omega)
  have k2 := sv_num hs2 (base := b) (by omega)
  have e3 : (m : Int) * 2 ^ (p - b).toNat + (n : Int) * 2 ^ (r - b).toNat = ((m * 2 ^ (p - b).toNat + n * 2 ^ (r - b).toNat : Nat) : Int) := by rw [Int.natCast_add, Int.natCast_mul, Int.natCast_mul, pow_cast, pow_cast]
  rw [e3, Int.natAbs_natCast]
  have e4 : (if ((m * 2 ^ (p - b).toNat + n * 2 ^ (r - b).toNat : Nat) : Int) = 0 then false else decide (((m * 2 ^ (p - b).toNat + n * 2 ^ (r - b).toNat : Nat) : Int) < 0)) = false := by
    split
    · rfl
    · exact decide_eq_false (by omega)
  rw [e4, Option.map_some]
  congr 1
  refine nearest_same _ _ ⟨b.toNat, (-b).toNat, ?_, by omega⟩
  rw [Nat.add_mul, k1, k2, Nat.add_mul]
open Ieee in
theorem mul_24 (a : Nat) (ha : a < 9007199254740992) : floatBits .mul .f64 (d64 false a 0) 4715268809856909312 = some (d64 false (a * 16777216) 0) := by
  obtain ⟨m, p, e1, hs1, _⟩ := read64 false ha (p := 0) (by omega) (by omega)
  obtain ⟨n, r, e2, hs2, _⟩ := read64 false (m := 16777216) (p := 0) (by omega) (by omega) (by omega)
  rw [k24]
  show Ieee.double.mul _ _ = _
  unfold Format.mul
  rw [e1, e2]
  show some (Format.nearest _ _ _ _) = _
  congr 1
  exact nearest_same _ _ (by have := hs1.mul hs2; rwa [Int.add_zero] at this)
open Ieee in
theorem near32_words (m : Nat) (q : Int) : ∃ r, r ≤ 2139095040 ∧ s32 false m q = r ∧ s32 true m q = 2147483648 + r := by
  have hw : ∀ r, Ieee.single.word false r = r := fun r => by unfold Ieee.Format.word; rw [if_neg (by decide)]; try omega
  have hw2 : ∀ r, Ieee.single.word true r = 2147483648 + r := fun r => by unfold Ieee.Format.word; rw [if_pos rfl]; rfl
  unfold s32 Ieee.Format.nearest
  by_cases h : m = 0
  · rw [if_pos h, if_pos h, hw, hw2]; exact ⟨0, by decide, rfl, rfl⟩
  · rw [if_neg h, if_neg h]
    dsimp only
    rw [cut_even, cut_even, hw, hw2]
    refine ⟨_, ?_, rfl, rfl⟩
    have e := single_inf
    omega
theorem turned32 (m : Nat) (q : Int) (w : World) : Calls Tryz.prog 82 #[.float .f32 (s32 false m q)] w fun e w' => e = .returned (.float .f32 (s32 true m q)) ∧ w = w' := by
  obtain ⟨r, h1, h2, h3⟩ := near32_words m q
  rw [h2, h3]
  refine (turned_yes r w (by omega) (by unfold nan32; exact decide_eq_false (by omega))).mono ?_
  rintro e w' ⟨rfl, rfl⟩
  exact ⟨by rw [if_neg (by omega), Nat.add_comm], rfl⟩
theorem twos_any (m : Nat) (q : Int) (w : World) (hm : m < 9007199254740992) (h1 : -900 ≤ q) (h2 : q ≤ 900) : Calls Tryz.prog 81 #[.float .f64 (d64 false m 0), .int .i64 q] w fun e w' => e = .returned (.float .f64 (d64 false m q)) ∧ w = w' := by
  by_cases h : 0 ≤ q
  · obtain ⟨k, rfl⟩ : ∃ k : Nat, q = k := ⟨q.toNat, by omega⟩
    have := twos_up false m 0 k w hm (by omega) (by omega)
    rwa [Int.zero_add] at this
  · obtain ⟨k, rfl⟩ : ∃ k : Nat, q = -(k : Int) := ⟨(-q).toNat, by omega⟩
    have := twos_down false m 0 k w hm (by omega) (by omega)
    rwa [Int.zero_sub] at this
theorem drop_small {M k : Nat} (hM : M ≤ 16777216) (hk : k < (limbs M).length) : V ((limbs M).drop (k + 1)) ≤ 1 := by
  have h := V_drop_div (Lim_limbs M) (m := k + 1) (by omega)
  rw [V_limbs] at h
  rw [h, Nat.pow_succ, Nat.mul_comm, ← Nat.div_div_eq_div_mul]
  have h2 : M / Bs ≤ 1 := by rw [Bs_eq]; omega
  exact Nat.le_trans (Nat.div_le_self _ _) h2

set_option maxHeartbeats 16000000 in
theorem specRound_any (z S E mode : Int) (A : Option Addr) (n c : Nat) (w : World) (hz : ZV w z S A n c) (hodd : z ≠ 0 → z.natAbs % 2 = 1) (hm : (n : Int) ≤ 200) (hE1 : -15000 ≤ E) (hE2 : E ≤ 15000) (hm1 : 0 ≤ mode) (hm2 : mode ≤ 4) :
    Calls Tryz.prog 59 #[.agg #[.int .i64 S, .slice A n c, .int .i64 E], .int .i64 mode] w fun e w' => e = .returned (.tuple #[.float .f32 (rdF z E mode), .int .i64 (rdL z E mode)]) ∧ Below w.heap.size w w' := by
  have hst := store_int Tryz.prog
  have hst2 := store_slice Tryz.prog
  obtain ⟨w1, hw1⟩ : ∃ w1, w1 = w.alloc (.cells #[.int .i64 S, .slice A n c, .int .i64 E] 48) := ⟨_, rfl⟩
  have Bx1 : Hid (DBox w1 w.heap.size S A n c E) := Lib.hid (by rw [hw1]; exact DBox.new _ _ _ _ _ _ _)
  have Bel1 : Hid (Below w.heap.size w w1) := Lib.hid (by rw [hw1]; exact belAlloc1 _ _)
  have Zv1 := Lib.hid (hz.next Bel1.out)
  have Hw := Lib.hid hw1
  have HS : Hid (S = z.sign) := Lib.hid hz.1
  have Hn : Hid ((limbs z.natAbs).length = n) := Lib.hid hz.2.1
  have Hm : Hid ((n : Int) ≤ 200) := Lib.hid hm
  have Hmo := Lib.hid (And.intro hm1 hm2)
  by_cases h0 : z = 0
  · have hS0 : S = 0 := by rw [HS.out, h0]; rfl
    have H0 := Lib.hid h0
    subst hS0
    clear hz hw1 hm h0 hm1 hm2 hodd
    go_enter Tryz.func59, Tryz.ntmps59
    go_wp2_with fail
    rw [← Hw.out]
    obtain ⟨⟨hBx0, hBx1, hBx2⟩, hBx3⟩ := Bx1.out
    go_wp2_with fail
    go_ret2
    exact ⟨by rw [H0.out, (rd_zero E mode).1, (rd_zero E mode).2]; rfl, Bel1.out⟩
  · have hodd1 := hodd h0
    have H0 := Lib.hid h0
    have Hodd := Lib.hid hodd1
    have hv0 : z.natAbs ≠ 0 := by omega
    have hbb := blen_bound Hn.out
    obtain ⟨bl, hbl⟩ : ∃ bl, bl = blen z.natAbs := ⟨_, rfl⟩
    rw [← hbl] at hbb
    have hbl1 : (bl : Int) ≤ 4800 := by omega
    obtain ⟨q, hq⟩ : ∃ q, q = rQ z.natAbs E := ⟨_, rfl⟩
    have Hq : Hid (q = max ((bl : Int) + E - 24) (-149)) := Lib.hid (by rw [hq, hbl]; rfl)
    have hq1 : -149 ≤ q := by have := Hq.out; omega
    have hq2 : q ≤ 19776 := by have := Hq.out; omega
    obtain ⟨tb, htb⟩ : ∃ tb, tb = rB z.natAbs (q - E) := ⟨_, rfl⟩
    obtain ⟨M, hM⟩ : ∃ M, M = rM mode z.sign z.natAbs (q - E) := ⟨_, rfl⟩
    have hM1 : (M : Int) ≤ 16777216 := by have := rM_le hv0 mode z.sign E; rw [hM, hq]; omega
    have Hbl := Lib.hid hbl
    have HQ := Lib.hid hq
    have HB := Lib.hid htb
    have HM := Lib.hid hM
    clear hz hw1 hm h0 hv0 hbb hbl hq htb hM hm1 hm2 hodd hodd1
    have hSS := sign_pm HS.out H0.out
    have hzs : (z < 0 ↔ S = -1) := by rw [HS.out]; exact Int.sign_eq_neg_one_iff_neg.symm
    have HSS := Lib.hid hSS
    have Hzs := Lib.hid hzs
    have hSz : (S == 0) = false := beq_false_of_ne (by rcases hSS with h | h <;> rw [h] <;> decide)
    clear hSS hzs
    go_enter Tryz.func59, Tryz.ntmps59
    go_wp2_with fail
    rw [← Hw.out]
    obtain ⟨⟨hBx0, hBx1, hBx2⟩, hBx3⟩ := Bx1.out
    refine (specMult_any z S E mode A n c _ Zv1.out Hodd.out Hm.out hE1 hE2 Hmo.out.1 Hmo.out.2).mono ?_
    rintro e w2 ⟨Sr, Ar, nr, cr, rfl, hzo, hb⟩
    rw [← HQ.out, ← HB.out]
    rw [← HQ.out, ← HM.out] at hzo
    have Zm2 := Lib.hid hzo.zv
    have Hnr : Hid ((nr : Int) ≤ 2) := Lib.hid (lenT hzo.zv.lenN (by omega))
    have Hln : Hid ((limbs M).length = nr) := Lib.hid hzo.zv.lenN
    clear hzo
    have Sz2 := Lib.hid (Below.size hb)
    have Bel2 := Lib.hid (belNext Bel1.out hb)
    have Bx2 := Lib.hid (Bx1.out.next hb)
    have Zv2 := Lib.hid (Zv1.out.next hb)
    clear hb Bel1 Bx1 Zv1 hBx0 hBx1 hBx2 hBx3
    obtain ⟨⟨hBx0, hBx1, hBx2⟩, hBx3⟩ := Bx2.out
    go_upto_region 4 with fail
    obtain ⟨w3, hw3⟩ : ∃ w3, w3 = w2.alloc (.cells #[.int .i64 Sr, .slice Ar nr cr] 46) := ⟨_, rfl⟩
    rw [← hw3]
    obtain ⟨f, hf⟩ : ∃ f, f = w2.heap.size := ⟨_, rfl⟩
    have hb : Below w2.heap.size w2 w3 := by rw [hw3]; exact belAlloc1 _ _
    have Ba3 : Hid (Box w3 f Sr Ar nr cr) := Lib.hid (by rw [hw3, hf]; exact Box.new _ _ _ _ _ _)
    rw [← hf]
    clear hw3 hf
    have Sz3 := Lib.hid (Below.size hb)
    have Bel3 := Lib.hid (belNext Bel2.out hb)
    have Bx3 := Lib.hid (Bx2.out.next hb)
    have Zv3 := Lib.hid (Zv2.out.next hb)
    have Zm3 := Lib.hid (Zm2.out.next hb)
    clear hb Bel2 Bx2 Zv2 Zm2 hBx0 hBx1 hBx2 hBx3
    obtain ⟨⟨hBx0, hBx1, hBx2⟩, hBx3⟩ := Bx3.out
    obtain ⟨⟨hBa0, hBa1⟩, hBa2⟩ := Ba3.out
    go_wp2_with fail
    refine (specLenN_any M Sr Ar nr cr _ Zm3.out (by have := Hnr.out; omega)).mono ?_
    rintro e w4 ⟨rfl, hb⟩
    obtain ⟨bm, hbm⟩ : ∃ bm, bm = blen M := ⟨_, rfl⟩
    rw [← hbm]
    have hbm1 : (bm : Int) ≤ 25 := by have := blen_lt.2 (show M < 2 ^ 25 by omega); omega
    have Hbm := Lib.hid hbm
    clear hbm
    have Sz4 := Lib.hid (Below.size hb)
    have Bel4 := Lib.hid (belNext Bel3.out hb)
    have Bx4 := Lib.hid (Bx3.out.next hb)
    have Zv4 := Lib.hid (Zv3.out.next hb)
    have Zm4 := Lib.hid (Zm3.out.next hb)
    have Ba4 := Lib.hid (Ba3.out.next hb)
    clear hb Bel3 Bx3 Zv3 Zm3 Ba3 hBx0 hBx1 hBx2 hBx3 hBa0 hBa1 hBa2
    obtain ⟨⟨hBx0, hBx1, hBx2⟩, hBx3⟩ := Bx4.out
    obtain ⟨⟨hBa0, hBa1⟩, hBa2⟩ := Ba4.out
    by_cases hov : (128 : Int) < (bm : Int) + q
    · have hov2 : decide ((128 : Int) < (bm : Int) + q) = true := decide_eq_true hov
      have Hro := Lib.hid (rd_over H0.out HQ.out HM.out (by rw [← Hbm.out]; exact hov))
      go_wp2_with fail
      refine (specOver_any S mode _ HSS.out Hmo.out.1 Hmo.out.2).mono ?_
      rintro e w9 ⟨rfl, rfl⟩
      have Hres : Hid (rdF z E mode = (if away mode S false 1 = true then (if S < 0 then 4286578688 else 2139095040) else (if S < 0 then 4286578687 else 2139095039)) ∧ rdL z E mode = 5) := Lib.hid ⟨by
        rw [Hro.out.1, ← HS.out]
        have e : (z < 0) = (S < 0) := propext (by rw [Hzs.out]; rcases HSS.out with h | h <;> rw [h] <;> decide)
        simp only [e], Hro.out.2⟩
      rw [← Hres.out.1]
      go_wp2_with fail
      go_ret2
      exact ⟨by rw [Hres.out.2]; rfl, Bel4.out⟩
    · have hov2 : decide ((128 : Int) < (bm : Int) + q) = false := decide_eq_false hov
      have hov3 : (bm : Int) + q ≤ 128 := by omega
      have hq104 : q ≤ 104 := by have h1 := (rQ_le (v := z.natAbs) (by have := H0.out; omega) mode z.sign E (by rw [← HQ.out, ← HM.out, ← Hbm.out]; exact hov3)).2; rw [← HQ.out] at h1; exact h1
      have Hrf := Lib.hid (rd_fin H0.out HQ.out HM.out Hbl.out (by rw [← Hbm.out]; exact hov))
      have hMn : M ≤ 16777216 := by omega
      have hbq : (blen M : Int) + q ≤ 128 := by rw [← Hbm.out]; exact hov3
      have hcv : ∀ w, (convert 34 22 (.float .f64 (d64 false M q))).run Tryz.prog w = .ok (.float .f32 (s32 false M q)) w := fun w => run_convert_float_float w _ _ _ _ _ _ (by kernel_rfl) (by kernel_rfl) (conv_r false hMn hq1 hq104 hbq)
      have Hcv := Lib.hid hcv
      have Hrd := Lib.hid Zm4.out.rdN
      have Hsr : Hid ((nr : Int) ≤ cr) := Lib.hid (by have := Zm4.out.cap; omega)
      clear hbq hcv hov hMn
      have hnr2 : (nr : Int) ≤ 2 := Hnr.out
      go_wp2_with fail
      go_loop [9, 10] (fun t i => ∃ k : Nat, k ≤ nr ∧ i = .int .i64 ((k : Int) - 1) ∧ t = .float .f64 (d64 false (V ((limbs M).drop k)) 0)) (fun _ i => ((intOf i) + 1).toNat)
      case atStart => exact ⟨nr, Nat.le_refl _, rfl, by rw [List.drop_of_length_le (by rw [Hln.out]; exact Nat.le_refl _), V_nil, d64_zero]⟩
      case round =>
        obtain ⟨k, hk, rfl, rfl⟩ := hrel
        rcases k with _ | k
        · rw [List.drop_zero, V_limbs]
          have hcv := Hcv.out
          rw [show (((0 : Nat) : Int) - 1) = -1 from rfl]
          go_wp2_with fail
          refine (twos_any M q _ (by omega) (by omega) (by omega)).mono ?_
          rintro e w9 ⟨rfl, rfl⟩
          rcases tb with _ | _
          · rcases HSS.out with rfl | rfl
            · have Hres : Hid (rdF z E mode = s32 false M q ∧ rdL z E mode = 0) := Lib.hid ⟨by rw [Hrf.out.1, decide_eq_false (fun h => by have := Hzs.out.1 h; omega)], by rw [Hrf.out.2, ← HB.out]; rfl⟩
              go_wp2_with fail
              go_ret2
              exact ⟨by rw [Hres.out.1, Hres.out.2]; rfl, Bel4.out⟩
            · have Hres : Hid (rdF z E mode = s32 true M q ∧ rdL z E mode = 0) := Lib.hid ⟨by rw [Hrf.out.1, decide_eq_true (Hzs.out.2 rfl)], by rw [Hrf.out.2, ← HB.out]; rfl⟩
              go_wp2_with fail
              refine (turned32 M q _).mono ?_
              rintro e w99 ⟨rfl, rfl⟩
              go_wp2_with fail
              go_ret2
              exact ⟨by rw [Hres.out.1, Hres.out.2]; rfl, Bel4.out⟩
          · go_wp2_with fail
            refine wp_region_held_drew (S := fun w' => (w'.cell? ⟨w.heap.size, 0, none⟩ = some (.int .i64 S) ∧ w'.cell? ⟨w.heap.size, 1, none⟩ = some (.slice A n c) ∧ w'.cell? ⟨w.heap.size, 2, none⟩ = some (.int .i64 E))) (by kernel_rfl) Bx4.out.1 (fun hHeld => ?_)
            clear hBx0 hBx1 hBx2 hBx3 hBa0 hBa1 hBa2
            refine wpAnyH_take (i := 0) (v := ?_) rfl (by kernel_rfl) (by kernel_rfl) (by kernel_rfl) (fun _ _ _ h => h) (Or.inl ⟨by rfl, ?_⟩) (by assumption) ?_
            rotate_left
            · (intro w hSw; (try dsimp only at hSw); go_simp; (try with_reducible rfl))
            try simp only [Act.put, List.setIfInBounds_toArray, List.set_cons_zero, List.set_cons_succ, List.getElem_toArray, List.getElem_cons_succ, List.getElem_cons_zero]
            refine wpAnyH_take (i := 1) (v := ?_) rfl (by kernel_rfl) (by kernel_rfl) (by kernel_rfl) (fun _ _ _ h => h) (Or.inl ⟨by rfl, ?_⟩) (by assumption) ?_
            rotate_left
            · (intro w hSw; (try dsimp only at hSw); go_simp; (try with_reducible rfl))
            try simp only [Act.put, List.setIfInBounds_toArray, List.set_cons_zero, List.set_cons_succ, List.getElem_toArray, List.getElem_cons_succ, List.getElem_cons_zero]
            refine wpAnyH_take (i := 3) (v := ?_) rfl (by kernel_rfl) (by kernel_rfl) (by kernel_rfl) (fun _ _ _ h => h) (Or.inl ⟨by rfl, ?_⟩) (by assumption) ?_
            rotate_left
            · (intro w hSw; (try dsimp only at hSw); go_simp; (try with_reducible rfl))
            try simp only [Act.put, List.setIfInBounds_toArray, List.set_cons_zero, List.set_cons_succ, List.getElem_toArray, List.getElem_cons_succ, List.getElem_cons_zero]
            refine wpAnyH_take (i := 4) (v := ?_) rfl (by kernel_rfl) (by kernel_rfl) (by kernel_rfl) (fun _ _ _ h => h) (Or.inl ⟨by rfl, ?_⟩) (by assumption) ?_
            rotate_left
            · (intro w hSw; (try dsimp only at hSw); go_simp; (try with_reducible rfl))
            try simp only [Act.put, List.setIfInBounds_toArray, List.set_cons_zero, List.set_cons_succ, List.getElem_toArray, List.getElem_cons_succ, List.getElem_cons_zero]
            refine wpAnyH_ready (rs := [2]) (by kernel_rfl) (by simp) ?_
            refine AllReadyH.cons rfl (fun K hK => ?_) AllReadyH.nil
            go_simp
            refine (specLen_any S z.natAbs A n c _ w4.drew Zv4.out.rd (Nat.le_refl _) Hn.out (by have := Hm.out; omega)).mono ?_
            rintro e w5 ⟨rfl, hb0⟩
            have hb : Below w4.heap.size w4 w5 := belDrew hb0
            rw [← Hbl.out]
            refine hK.out _ _ ((Bx4.out.next hb).1) (fun hHeld => ?_)
            clear hK K hb0
            have Sz5 := Lib.hid (Below.size hb)
            have Bel5 := Lib.hid (belNext Bel4.out hb)
            have Bx5 := Lib.hid (Bx4.out.next hb)
            have Zv5 := Lib.hid (Zv4.out.next hb)
            have Zm5 := Lib.hid (Zm4.out.next hb)
            have Ba5 := Lib.hid (Ba4.out.next hb)
            clear hb Bel4 Bx4 Zv4 Zm4 Ba4
            try simp only [Act.put, List.setIfInBounds_toArray, List.set_cons_zero, List.set_cons_succ, List.getElem_toArray, List.getElem_cons_succ, List.getElem_cons_zero]
            have hwr : IntKind.i64.wrap ((bl : Int) + E) = (bl : Int) + E := IntWalk.i64_in _ (by omega)
            refine wpAnyH_take (i := 5) (v := ?_) rfl (by kernel_rfl) (by kernel_rfl) (by kernel_rfl) (fun _ _ _ h => h) (Or.inl ⟨by rfl, ?_⟩) (by assumption) ?_
            rotate_left
            · (intro w hSw; (try dsimp only at hSw); go_simp; (try with_reducible rfl))
            try simp only [Act.put, List.setIfInBounds_toArray, List.set_cons_zero, List.set_cons_succ, List.getElem_toArray, List.getElem_cons_succ, List.getElem_cons_zero]
            refine wpAnyH_take (i := 6) (v := ?_) rfl (by kernel_rfl) (by kernel_rfl) (by kernel_rfl) (fun _ _ _ h => h) (Or.inl ⟨by rfl, ?_⟩) (by assumption) ?_
            rotate_left
            · (intro w hSw; (try dsimp only at hSw); go_simp; (try with_reducible rfl))
            try simp only [Act.put, List.setIfInBounds_toArray, List.set_cons_zero, List.set_cons_succ, List.getElem_toArray, List.getElem_cons_succ, List.getElem_cons_zero]
            clear hHeld
            refine wpAnyH_done (by kernel_rfl) ?_ _
            clear hwr
            obtain ⟨⟨hBx0, hBx1, hBx2⟩, hBx3⟩ := Bx5.out
            obtain ⟨⟨hBa0, hBa1⟩, hBa2⟩ := Ba5.out
            by_cases hti : (bl : Int) + E ≤ -126
            · have hti2 : decide ((bl : Int) + E ≤ -126) = true := decide_eq_true hti
              rcases HSS.out with rfl | rfl
              · have Hres : Hid (rdF z E mode = s32 false M q ∧ rdL z E mode = 3) := Lib.hid ⟨by rw [Hrf.out.1, decide_eq_false (fun h => by have := Hzs.out.1 h; omega)], by rw [Hrf.out.2, ← HB.out]; simp; omega⟩
                go_wp2_with fail
                go_ret2
                exact ⟨by rw [Hres.out.1, Hres.out.2]; rfl, Bel5.out⟩
              · have Hres : Hid (rdF z E mode = s32 true M q ∧ rdL z E mode = 3) := Lib.hid ⟨by rw [Hrf.out.1, decide_eq_true (Hzs.out.2 rfl)], by rw [Hrf.out.2, ← HB.out]; simp; omega⟩
                go_wp2_with fail
                refine (turned32 M q _).mono ?_
                rintro e w99 ⟨rfl, rfl⟩
                go_wp2_with fail
                go_ret2
                exact ⟨by rw [Hres.out.1, Hres.out.2]; rfl, Bel5.out⟩
            · have hti2 : decide ((bl : Int) + E ≤ -126) = false := decide_eq_false hti
              have hti3 : -125 ≤ (bl : Int) + E := by omega
              rcases HSS.out with rfl | rfl
              · have Hres : Hid (rdF z E mode = s32 false M q ∧ rdL z E mode = 1) := Lib.hid ⟨by rw [Hrf.out.1, decide_eq_false (fun h => by have := Hzs.out.1 h; omega)], by rw [Hrf.out.2, ← HB.out]; simp; omega⟩
                go_wp2_with fail
                go_ret2
                exact ⟨by rw [Hres.out.1, Hres.out.2]; rfl, Bel5.out⟩
              · have Hres : Hid (rdF z E mode = s32 true M q ∧ rdL z E mode = 1) := Lib.hid ⟨by rw [Hrf.out.1, decide_eq_true (Hzs.out.2 rfl)], by rw [Hrf.out.2, ← HB.out]; simp; omega⟩
                go_wp2_with fail
                refine (turned32 M q _).mono ?_
                rintro e w99 ⟨rfl, rfl⟩
                go_wp2_with fail
                go_ret2
                exact ⟨by rw [Hres.out.1, Hres.out.2]; rfl, Bel5.out⟩
        · have hkx : k < (limbs M).length := by rw [Hln.out]; omega
          obtain ⟨a, ha, hab⟩ := Hrd.out.some_ (by rw [vs_len]; omega)
          subst ha
          have hcx := Hrd.out.cell (k := k) (by rw [vs_len]; exact hkx)
          rw [vs_get hkx] at hcx
          have hxb := (Lim_limbs M).getElem hkx
          have HV := Lib.hid (V_drop hkx)
          have hds := drop_small (by omega) hkx
          generalize (limbs M)[k] = x at *
          obtain ⟨y, hy⟩ : ∃ y, y = V ((limbs M).drop (k + 1)) := ⟨_, rfl⟩
          rw [← hy] at hds HV ⊢
          rw [Bs_eq] at hxb
          have hif := int_to_64 x
          have hop1 : ∀ t w, (binOp .mul t (.float .f64 (d64 false y 0)) (.float .f64 4715268809856909312)).run Tryz.prog w = .ok (.float .f64 (d64 false (y * 16777216) 0)) w := fun t w => run_float_arith w .mul t .f64 _ _ _ (mul_24 y (by omega))
          have hop2 : ∀ t w, (binOp .add t (.float .f64 (d64 false (y * 16777216) 0)) (.float .f64 (d64 false x 0))).run Tryz.prog w = .ok (.float .f64 (d64 false (y * 16777216 + x) 0)) w := fun t w => run_float_arith w .add t .f64 _ _ _ (add_nat64 _ _ (by omega) (by omega))
          have hx1 : (x : Int) ≤ 16777215 := by omega
          have hkn : (k : Int) < nr := by have := Hln.out; omega
          have hsc : (nr : Int) ≤ cr := Hsr.out
          have hk1 : (((k + 1 : Nat) : Int) - 1) = (k : Int) := by omega
          have Hy : Hid (V ((limbs M).drop k) = y * 16777216 + x) := Lib.hid (by rw [HV.out, Bs_eq, Nat.mul_comm, Nat.add_comm])
          rw [hk1]
          clear hxb hds hy hk1 hkx HV
          go_wp2_with fail
          go_round
          case rel => exact ⟨k, by omega, rfl, by rw [Hy.out]⟩
          case measure => simp [intOf]

end Go.Proofs.YtngminjncdfjdaaGreatDoor
