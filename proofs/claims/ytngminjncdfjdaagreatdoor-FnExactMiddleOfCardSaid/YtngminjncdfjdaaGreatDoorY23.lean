/- Texts of this seat, joined: Ue Uf -/
import Derived.Test.YtngminjncdfjdaaGreatDoorY22
import Derived.Test.YtngminjncdfjdaaGreatDoorY21
/- Sums of intervals, of the program. -/
namespace Go.Proofs.YtngminjncdfjdaaGreatDoor
set_option maxRecDepth 100000
open Go.RowKit
set_option linter.unusedSimpArgs false
set_option linter.unusedVariables false

/-- from this world on, the end v is rounded to f in this mode -/
def Gives (w : World) (v : Value) (k : Int) (f : Nat) : Prop := ∀ w', Below w.heap.size w w' → Calls Tryz.prog 32 #[v, .int .i64 k] w' fun e w'' => e = .returned (.float .f32 f) ∧ Below w'.heap.size w' w''
theorem Gives.next {w w' : World} {v : Value} {k : Int} {f : Nat} (h : Gives w v k f) (hb : Below w.heap.size w w') : Gives w' v k f := fun w2 h2 => h w2 (belNext hb h2)
/-- the end of a float -/
def EndV (w : World) (v : Value) (x : Nat) : Prop := (fin32 x = true ∧ ∃ S A n c, v = .agg #[.int .i64 S, .slice A n c, .int .i64 (fe x), .int .i64 (sgn x), .bool false] ∧ ZV w (fz x) S A n c ∧ (n : Int) ≤ 1) ∨ (fin32 x = false ∧ v = .agg #[.int .i64 0, .slice none 0 0, .int .i64 0, .int .i64 (sgn x), .bool true])
theorem EndV.next {w w' : World} {v : Value} {x : Nat} (h : EndV w v x) (hb : Below w.heap.size w w') : EndV w' v x := by
  rcases h with ⟨h1, S, A, n, c, h2, h3, h4⟩ | h
  · exact .inl ⟨h1, S, A, n, c, h2, h3.next hb, h4⟩
  · exact .inr h
theorem endOf_v (x : Nat) (w : World) (hx : x < 4294967296) (hn : nan32 x = false) (hT : TabZ w) :
    Calls Tryz.prog 30 #[.float .f32 x] w fun e w' => ∃ v, e = .returned v ∧ EndV w' v x ∧ Below w.heap.size w w' := by
  by_cases hf : fin32 x = true
  · refine (endOf_f x w hx hf hT).mono ?_
    rintro e w' ⟨S, A, n, c, rfl, h1, h2, hb⟩
    exact ⟨_, rfl, .inl ⟨hf, S, A, n, c, rfl, h1, h2⟩, hb⟩
  · have hf : fin32 x = false := by simpa using hf
    refine (endOf_i x w hx hn hf).mono ?_
    rintro e w' ⟨rfl, hb⟩
    exact ⟨_, rfl, .inr ⟨hf, rfl⟩, hb⟩
/-- an end's value is a struct of five cells -/
def Ag (v : Value) : Prop := ∃ S A n c E g i, v = .agg #[.int .i64 S, .slice A n c, .int .i64 E, .int .i64 g, .bool i]
/-- a sum of two ends, in a mode; with the infinite end I -/
def sV (x y : Nat) (k : Int) (I : Nat) : Nat := if fin32 x = true ∧ fin32 y = true then wz (adF x y k) else I
theorem infI (w : World) (s k : Int) (I : Nat) (hs : (s = 1 ∧ I = 2139095040) ∨ (s = -1 ∧ I = 4286578688)) : Gives w (.agg #[.int .i64 0, .slice none 0 0, .int .i64 0, .int .i64 s, .bool true]) k I := by
  intro w' _
  rcases hs with ⟨rfl, rfl⟩ | ⟨rfl, rfl⟩
  · exact floatIn_pos 0 0 1 k none 0 0 w' rfl
  · exact floatIn_neg 0 0 (-1) k none 0 0 w' rfl
theorem endPlus_v (x y : Nat) (a b : Value) (s k : Int) (I : Nat) (w : World) (ha : EndV w a x) (hb : EndV w b y) (hs : (s = 1 ∧ I = 2139095040) ∨ (s = -1 ∧ I = 4286578688)) (hx : fin32 x = false → sgn x = s) (hy : fin32 y = false → sgn y = s) (hk1 : 0 ≤ k) (hk2 : k ≤ 4) (hT : TabZ w) :
    Calls Tryz.prog 31 #[a, b] w fun e w' => ∃ v, e = .returned v ∧ Gives w' v k (sV x y k I) ∧ Ag v ∧ Below w.heap.size w w' := by
  unfold sV
  rcases ha with ⟨f1, S, A, n, c, rfl, z1, m1⟩ | ⟨f1, rfl⟩
  · obtain ⟨e1, e2⟩ := fe_small f1
    rcases hb with ⟨f2, S', A', n', c', rfl, z2, m2⟩ | ⟨f2, rfl⟩
    · obtain ⟨e3, e4⟩ := fe_small f2
      rw [if_pos ⟨f1, f2⟩]
      refine (endPlus_ff (fz x) (fz y) S (fe x) (sgn x) S' (fe y) (sgn y) A A' n c n' c' w z1 z2 (by omega) (by omega) (by omega) (by omega) (by omega) (by omega) hT).mono ?_
      rintro e w' ⟨Sr, Ar, nr, cr, rfl, z3, hb⟩
      refine ⟨_, rfl, fun w2 h2 => ?_, ⟨_, _, _, _, _, _, _, rfl⟩, hb⟩
      have hl : (nr : Int) ≤ 21 := sum_small (Nat.lt_of_lt_of_le (fz_small f1) (by decide)) (Nat.lt_of_lt_of_le (fz_small f2) (by decide)) (by omega) (by omega) z3.len
      exact floatIn_f (sumZ (fz x) (fe x) (fz y) (fe y)) Sr (min (fe x) (fe y)) (sgS (sgn x) (sgn y)) k Ar nr cr w2 (z3.next h2) (by omega) (by omega) (by omega) hk1 hk2 (hT.next (belNext hb h2))
    · rw [if_neg (by rw [f2]; simp), hy f2]
      refine (endPlus_ft S (fe x) (sgn x) 0 0 s A none n c 0 0 w).mono ?_
      rintro e w' ⟨rfl, hb⟩
      exact ⟨_, rfl, infI _ _ _ _ hs, ⟨_, _, _, _, _, _, _, rfl⟩, hb⟩
  · rw [if_neg (by rw [f1]; simp), hx f1]
    rcases hb with ⟨f2, S', A', n', c', rfl, z2, m2⟩ | ⟨f2, rfl⟩
    · refine (endPlus_t 0 0 s S' (fe y) (sgn y) none A' 0 0 n' c' false w).mono ?_
      rintro e w' ⟨rfl, hb⟩
      exact ⟨_, rfl, infI _ _ _ _ hs, ⟨_, _, _, _, _, _, _, rfl⟩, hb⟩
    · refine (endPlus_t 0 0 s 0 0 (sgn y) none none 0 0 0 0 true w).mono ?_
      rintro e w' ⟨rfl, hb⟩
      exact ⟨_, rfl, infI _ _ _ _ hs, ⟨_, _, _, _, _, _, _, rfl⟩, hb⟩
theorem EB.keep {w : World} {b n c : Nat} {S E g : Int} {A : Option Addr} {i : Bool} (x : EB w b S A n c E g i) {p : Addr} (hp : p.block ≠ b) (u : Value) : EB (w.setCell p u) b S A n c E g i := by
  have hk : ∀ o, (w.setCell p u).cell? ⟨b, o, none⟩ = w.cell? ⟨b, o, none⟩ := fun o => World.cell?_of_block (a := ⟨b, o, none⟩) (Below.heap_setCell _ _ _ _ (fun e => hp e.symm))
  exact ⟨⟨(hk 0).trans x.1.1, (hk 1).trans x.1.2.1, (hk 2).trans x.1.2.2.1, (hk 3).trans x.1.2.2.2.1, (hk 4).trans x.1.2.2.2.2⟩, by have := x.2; simpa using this⟩
set_option maxHeartbeats 2000000 in
theorem between_any (S E g S' E' g' : Int) (A A' : Option Addr) (n c n' c' : Nat) (i i' : Bool) (f1 f2 : Nat) (w : World) (h1 : Gives w (.agg #[.int .i64 S, .slice A n c, .int .i64 E, .int .i64 g, .bool i]) 1 f1) (h2 : Gives w (.agg #[.int .i64 S', .slice A' n' c', .int .i64 E', .int .i64 g', .bool i']) 2 f2) :
    Calls Tryz.prog 44 #[.agg #[.int .i64 S, .slice A n c, .int .i64 E, .int .i64 g, .bool i], .agg #[.int .i64 S', .slice A' n' c', .int .i64 E', .int .i64 g', .bool i']] w fun e w' => e = .returned (.agg #[.float .f32 f1, .float .f32 f2]) ∧ Below w.heap.size w w' := by
  obtain ⟨w0, hw0, hp0, hp1, hB_⟩ := eb_2 w S S' A A' n n' c c' E E' g g' i i' 52
  obtain ⟨w1, hw1, hr_, hC_⟩ := ib_0r w0 25
  have hst := store_float Tryz.prog
  have hsz : w0.heap.size = w.heap.size + 2 := by rw [hw0]; simp
  have P0_1 := Lib.hid (hp0.next hC_)
  have P1_1 := Lib.hid (hp1.next hC_)
  rw [hsz] at hr_
  have R_1 := Lib.hid hr_
  have B1 := Lib.hid (belNext hB_ hC_)
  have G1 := Lib.hid h1
  have G2 := Lib.hid h2
  rw [hw0] at hw1
  have Hw := Lib.hid hw1
  clear hw1 hw0 hsz hp0 hp1 hr_ hB_ hC_ h1 h2
  go_enter Tryz.func44, Tryz.ntmps44
  go_upto_region 1 with fail
  rw [← Hw.out]
  refine wp_region_held_drew (S := fun w' => (w'.cell? ⟨w.heap.size, 0, none⟩ = some (.int .i64 S) ∧ w'.cell? ⟨w.heap.size, 1, none⟩ = some (.slice A n c) ∧ w'.cell? ⟨w.heap.size, 2, none⟩ = some (.int .i64 E) ∧ w'.cell? ⟨w.heap.size, 3, none⟩ = some (.int .i64 g) ∧ w'.cell? ⟨w.heap.size, 4, none⟩ = some (.bool i)) ∧ (w'.cell? ⟨w.heap.size + 1, 0, none⟩ = some (.int .i64 S') ∧ w'.cell? ⟨w.heap.size + 1, 1, none⟩ = some (.slice A' n' c') ∧ w'.cell? ⟨w.heap.size + 1, 2, none⟩ = some (.int .i64 E') ∧ w'.cell? ⟨w.heap.size + 1, 3, none⟩ = some (.int .i64 g') ∧ w'.cell? ⟨w.heap.size + 1, 4, none⟩ = some (.bool i'))) (by kernel_rfl) ⟨P0_1.out.1, P1_1.out.1⟩ (fun hHeld => ?_)
  refine wpAnyH_take (i := 0) (v := ?_) rfl (by kernel_rfl) (by kernel_rfl) (by kernel_rfl) (fun _ _ _ h => h) (Or.inl ⟨by rfl, ?_⟩) (by assumption) ?_
  rotate_left
  · (intro w hSw; (try dsimp only at hSw); go_simp; (try with_reducible rfl))
  try simp only [Act.put, List.setIfInBounds_toArray, List.set_cons_zero, List.set_cons_succ, List.getElem_toArray, List.getElem_cons_succ, List.getElem_cons_zero]
  refine wpAnyH_take (i := 2) (v := ?_) rfl (by kernel_rfl) (by kernel_rfl) (by kernel_rfl) (fun _ _ _ h => h) (Or.inl ⟨by rfl, ?_⟩) (by assumption) ?_
  rotate_left
  · (intro w hSw; (try dsimp only at hSw); go_simp; (try with_reducible rfl))
  try simp only [Act.put, List.setIfInBounds_toArray, List.set_cons_zero, List.set_cons_succ, List.getElem_toArray, List.getElem_cons_succ, List.getElem_cons_zero]
  refine wpAnyH_ready (rs := [1]) (by kernel_rfl) (by simp) ?_
  refine AllReadyH.cons rfl (fun K hK => ?_) AllReadyH.nil
  go_simp
  refine (G1.out w1.drew B1.out.drew).mono ?_
  rintro e w2 ⟨rfl, hb0⟩
  have hb : Below w1.heap.size w1 w2 := belDrew hb0
  refine hK.out _ _ ⟨(P0_1.out.next hb).1, (P1_1.out.next hb).1⟩ (fun hHeld => ?_)
  clear hK K hb0
  have B2 := Lib.hid (belNext B1.out hb)
  have P0_2 := Lib.hid (P0_1.out.next hb)
  have P1_2 := Lib.hid (P1_1.out.next hb)
  have R_2 := Lib.hid (R_1.out.next hb)
  clear hb
  try simp only [Act.put, List.setIfInBounds_toArray, List.set_cons_zero, List.set_cons_succ, List.getElem_toArray, List.getElem_cons_succ, List.getElem_cons_zero]
  refine wpAnyH_ready (rs := [3]) (by kernel_rfl) (by simp) ?_
  refine AllReadyH.cons rfl (fun K hK => ?_) AllReadyH.nil
  go_simp
  refine (G2.out w2 B2.out).mono ?_
  rintro e w3 ⟨rfl, hb0⟩
  have hb : Below w2.heap.size w2 w3 := hb0
  refine hK.out _ _ ⟨(P0_2.out.next hb).1, (P1_2.out.next hb).1⟩ (fun hHeld => ?_)
  clear hK K hb0
  have B3 := Lib.hid (belNext B2.out hb)
  have P0_3 := Lib.hid (P0_2.out.next hb)
  have P1_3 := Lib.hid (P1_2.out.next hb)
  have R_3 := Lib.hid (R_2.out.next hb)
  clear hb
  try simp only [Act.put, List.setIfInBounds_toArray, List.set_cons_zero, List.set_cons_succ, List.getElem_toArray, List.getElem_cons_succ, List.getElem_cons_zero]
  refine wpAnyH_take (i := 4) (v := ?_) rfl (by kernel_rfl) (by kernel_rfl) (by kernel_rfl) (fun _ _ _ h => h) (Or.inl ⟨by rfl, ?_⟩) (by assumption) ?_
  rotate_left
  · (intro w hSw; (try dsimp only at hSw); go_simp; (try with_reducible rfl))
  try simp only [Act.put, List.setIfInBounds_toArray, List.set_cons_zero, List.set_cons_succ, List.getElem_toArray, List.getElem_cons_succ, List.getElem_cons_zero]
  obtain ⟨⟨r0, r1, r2, r3⟩, r4⟩ := R_3.out
  refine wpAnyH_ready (rs := [5]) (by kernel_rfl) (by simp) ?_
  refine AllReadyH.cons rfl (fun K hK => ?_) AllReadyH.nil
  go_simp
  refine hK.out _ _ ⟨((P0_3.out.keep (p := ⟨w.heap.size + 2, 0, none⟩) (by simp) _).keep (p := ⟨w.heap.size + 2, 1, none⟩) (by simp) _).1, ((P1_3.out.keep (p := ⟨w.heap.size + 2, 0, none⟩) (by simp) _).keep (p := ⟨w.heap.size + 2, 1, none⟩) (by simp) _).1⟩ (fun hHeld => ?_)
  clear hK K hHeld
  try simp only [Act.put, List.setIfInBounds_toArray, List.set_cons_zero, List.set_cons_succ, List.getElem_toArray, List.getElem_cons_succ, List.getElem_cons_zero]
  refine wpAnyH_done (by kernel_rfl) ?_ _
  go_wp2_with fail
  refine bodyPost_ret (v := .agg #[.float .f32 f1, .float .f32 f2]) (by simp [results, Tryz.results44, go_sem, r0, r1]) rfl ⟨rfl, ?_⟩
  repeat (first | exact B3.out | exact Below.refl _ _ | refine Below.drew ?_ | refine Below.alloc ?_ (by first | (simp; done) | (simp; omega)) _ | refine Below.setCell ?_ (by first | (simp; done) | (simp; omega)) _)
theorem between_v (a b : Value) (f1 f2 : Nat) (w : World) (ha : Ag a) (hb : Ag b) (h1 : Gives w a 1 f1) (h2 : Gives w b 2 f2) :
    Calls Tryz.prog 44 #[a, b] w fun e w' => e = .returned (.agg #[.float .f32 f1, .float .f32 f2]) ∧ Below w.heap.size w w' := by
  obtain ⟨S, A, n, c, E, g, i, rfl⟩ := ha
  obtain ⟨S', A', n', c', E', g', i', rfl⟩ := hb
  exact between_any S E g S' E' g' A A' n c n' c' i i' f1 f2 w h1 h2
end Go.Proofs.YtngminjncdfjdaaGreatDoor
/- Sums and differences of intervals, of the program: as intervals. -/
namespace Go.Proofs.YtngminjncdfjdaaGreatDoor
set_option maxRecDepth 100000
open Go.RowKit
set_option linter.unusedSimpArgs false
set_option linter.unusedVariables false

def NI : Nat := 4286578688
def PI : Nat := 2139095040
theorem sV_pl (x y : Nat) (k : Int) (I : Nat) (h : I = PI ∨ I = NI) : sV x y k I < 4294967296 ∧ nan32 (sV x y k I) = false := by
  unfold sV
  split
  · exact wz_ok _ _ _ _
  · rcases h with rfl | rfl
    · exact ⟨by decide, by decide⟩
    · exact ⟨by decide, by decide⟩
theorem lo_sgn {l h : Nat} (pl : Pl l) (k : place32 l < 2139095040) : fin32 l = false → sgn l = -1 := fun f => by
  have q := fin_not_inf f pl.2.1
  rw [sgn_of q, if_neg (by omega)]
theorem hi_sgn {h : Nat} (ph : Pl h) (k : -2139095040 < place32 h) : fin32 h = false → sgn h = 1 := fun f => by
  have q := fin_not_inf f ph.2.1
  rw [sgn_of q, if_pos (by omega)]
set_option maxHeartbeats 4000000 in
theorem implIPlus_any (l h l' h' : Nat) (w : World) (pl : Pl l) (ph : Pl h) (plq : Pl l') (phq : Pl h') (k1 : place32 l < 2139095040) (k2 : -2139095040 < place32 h) (k3 : place32 l' < 2139095040) (k4 : -2139095040 < place32 h') (hT : TabZ w) :
    Calls Tryz.prog 24 #[.agg #[.float .f32 l, .float .f32 h], .agg #[.float .f32 l', .float .f32 h']] w fun e w' => e = .returned (.agg #[.float .f32 ((sV l l' 1 4286578688)), .float .f32 ((sV h h' 2 2139095040))]) ∧ Below w.heap.size w w' := by
  have HT := Lib.hid hT
  have EL : Hid (∀ w, TabZ w → _) := Lib.hid (fun w t => endOf_v l w pl.1 pl.2.1 t)
  have EH : Hid (∀ w, TabZ w → _) := Lib.hid (fun w t => endOf_v h w ph.1 ph.2.1 t)
  have EM : Hid (∀ w, TabZ w → _) := Lib.hid (fun w t => endOf_v l' w plq.1 plq.2.1 t)
  have EG : Hid (∀ w, TabZ w → _) := Lib.hid (fun w t => endOf_v h' w phq.1 phq.2.1 t)
  have SL : Hid (∀ a b w, EndV w a l → EndV w b l' → TabZ w → _) := Lib.hid (fun a b w x y t => endPlus_v l l' a b (-1) 1 4286578688 w x y (.inr ⟨rfl, rfl⟩) (lo_sgn (h := h) pl k1) (lo_sgn (h := h) plq k3) (by decide) (by decide) t)
  have SH : Hid (∀ a b w, EndV w a h → EndV w b h' → TabZ w → _) := Lib.hid (fun a b w x y t => endPlus_v h h' a b 1 2 2139095040 w x y (.inl ⟨rfl, rfl⟩) (hi_sgn ph k2) (hi_sgn phq k4) (by decide) (by decide) t)
  obtain ⟨f1, hf1⟩ : ∃ f, f = sV l l' 1 4286578688 := ⟨_, rfl⟩
  obtain ⟨f2, hf2⟩ : ∃ f, f = sV h h' 2 2139095040 := ⟨_, rfl⟩
  rw [← hf1] at SL
  rw [← hf2] at SH
  rw [← hf1, ← hf2]
  clear pl ph plq phq k1 k2 k3 k4 hT hf1 hf2
  obtain ⟨w1, hw1, hp0, hp1, hr_, hB_⟩ := ib_2r w l h l' h' 25 25
  have P0_1 := Lib.hid hp0
  have P1_1 := Lib.hid hp1
  have R_1 := Lib.hid hr_
  have hst := store_float Tryz.prog
  have B1 := Lib.hid hB_
  have Hw := Lib.hid hw1
  clear hw1 hp0 hp1 hr_ hB_
  obtain ⟨⟨c00, c01⟩, c02⟩ := P0_1.out
  obtain ⟨⟨c10, c11⟩, c12⟩ := P1_1.out
  obtain ⟨⟨r0, r1, r2, r3⟩, r4⟩ := R_1.out
  go_enter Tryz.func24, Tryz.ntmps24
  go_upto_region 1 with fail
  rw [← Hw.out]
  refine wp_region_held_drew (S := fun w' => (w'.cell? ⟨w.heap.size, 0, none⟩ = some (.float .f32 l) ∧ w'.cell? ⟨w.heap.size, 1, none⟩ = some (.float .f32 h)) ∧ (w'.cell? ⟨w.heap.size + 1, 0, none⟩ = some (.float .f32 l') ∧ w'.cell? ⟨w.heap.size + 1, 1, none⟩ = some (.float .f32 h'))) (by kernel_rfl) ⟨P0_1.out.1, P1_1.out.1⟩ (fun hHeld => ?_)
  clear c00 c01 c02 c10 c11 c12 r0 r1 r2 r3 r4
  refine wpAnyH_take (i := 0) (v := ?_) rfl (by kernel_rfl) (by kernel_rfl) (by kernel_rfl) (fun _ _ _ h => h) (Or.inl ⟨by rfl, ?_⟩) (by assumption) ?_
  rotate_left
  · (intro w hSw; (try dsimp only at hSw); go_simp; (try with_reducible rfl))
  try simp only [Act.put, List.setIfInBounds_toArray, List.set_cons_zero, List.set_cons_succ, List.getElem_toArray, List.getElem_cons_succ, List.getElem_cons_zero]
  refine wpAnyH_take (i := 1) (v := ?_) rfl (by kernel_rfl) (by kernel_rfl) (by kernel_rfl) (fun _ _ _ h => h) (Or.inl ⟨by rfl, ?_⟩) (by assumption) ?_
  rotate_left
  · (intro w hSw; (try dsimp only at hSw); go_simp; (try with_reducible rfl))
  try simp only [Act.put, List.setIfInBounds_toArray, List.set_cons_zero, List.set_cons_succ, List.getElem_toArray, List.getElem_cons_succ, List.getElem_cons_zero]
  refine wpAnyH_take (i := 3) (v := ?_) rfl (by kernel_rfl) (by kernel_rfl) (by kernel_rfl) (fun _ _ _ h => h) (Or.inl ⟨by rfl, ?_⟩) (by assumption) ?_
  rotate_left
  · (intro w hSw; (try dsimp only at hSw); go_simp; (try with_reducible rfl))
  try simp only [Act.put, List.setIfInBounds_toArray, List.set_cons_zero, List.set_cons_succ, List.getElem_toArray, List.getElem_cons_succ, List.getElem_cons_zero]
  refine wpAnyH_take (i := 4) (v := ?_) rfl (by kernel_rfl) (by kernel_rfl) (by kernel_rfl) (fun _ _ _ h => h) (Or.inl ⟨by rfl, ?_⟩) (by assumption) ?_
  rotate_left
  · (intro w hSw; (try dsimp only at hSw); go_simp; (try with_reducible rfl))
  try simp only [Act.put, List.setIfInBounds_toArray, List.set_cons_zero, List.set_cons_succ, List.getElem_toArray, List.getElem_cons_succ, List.getElem_cons_zero]
  refine wpAnyH_take (i := 7) (v := ?_) rfl (by kernel_rfl) (by kernel_rfl) (by kernel_rfl) (fun _ _ _ h => h) (Or.inl ⟨by rfl, ?_⟩) (by assumption) ?_
  rotate_left
  · (intro w hSw; (try dsimp only at hSw); go_simp; (try with_reducible rfl))
  try simp only [Act.put, List.setIfInBounds_toArray, List.set_cons_zero, List.set_cons_succ, List.getElem_toArray, List.getElem_cons_succ, List.getElem_cons_zero]
  refine wpAnyH_take (i := 8) (v := ?_) rfl (by kernel_rfl) (by kernel_rfl) (by kernel_rfl) (fun _ _ _ h => h) (Or.inl ⟨by rfl, ?_⟩) (by assumption) ?_
  rotate_left
  · (intro w hSw; (try dsimp only at hSw); go_simp; (try with_reducible rfl))
  try simp only [Act.put, List.setIfInBounds_toArray, List.set_cons_zero, List.set_cons_succ, List.getElem_toArray, List.getElem_cons_succ, List.getElem_cons_zero]
  refine wpAnyH_take (i := 10) (v := ?_) rfl (by kernel_rfl) (by kernel_rfl) (by kernel_rfl) (fun _ _ _ h => h) (Or.inl ⟨by rfl, ?_⟩) (by assumption) ?_
  rotate_left
  · (intro w hSw; (try dsimp only at hSw); go_simp; (try with_reducible rfl))
  try simp only [Act.put, List.setIfInBounds_toArray, List.set_cons_zero, List.set_cons_succ, List.getElem_toArray, List.getElem_cons_succ, List.getElem_cons_zero]
  refine wpAnyH_take (i := 11) (v := ?_) rfl (by kernel_rfl) (by kernel_rfl) (by kernel_rfl) (fun _ _ _ h => h) (Or.inl ⟨by rfl, ?_⟩) (by assumption) ?_
  rotate_left
  · (intro w hSw; (try dsimp only at hSw); go_simp; (try with_reducible rfl))
  try simp only [Act.put, List.setIfInBounds_toArray, List.set_cons_zero, List.set_cons_succ, List.getElem_toArray, List.getElem_cons_succ, List.getElem_cons_zero]
  refine wpAnyH_ready (rs := [2]) (by kernel_rfl) (by simp) ?_
  refine AllReadyH.cons rfl (fun K hK => ?_) AllReadyH.nil
  go_simp
  refine (EL.out w1.drew (HT.out.next B1.out.drew)).mono ?_
  rintro e w2 ⟨va, rfl, hv, hb0⟩
  have hb : Below w1.heap.size w1 w2 := belDrew hb0
  refine hK.out _ _ ⟨(P0_1.out.next hb).1, (P1_1.out.next hb).1⟩ (fun hHeld => ?_)
  clear hK K hb0
  have Va_2 := Lib.hid hv
  clear hv
  have B2 := Lib.hid (belNext B1.out hb)
  have P0_2 := Lib.hid (P0_1.out.next hb)
  have P1_2 := Lib.hid (P1_1.out.next hb)
  have R_2 := Lib.hid (R_1.out.next hb)
  clear hb
  try simp only [Act.put, List.setIfInBounds_toArray, List.set_cons_zero, List.set_cons_succ, List.getElem_toArray, List.getElem_cons_succ, List.getElem_cons_zero]
  refine wpAnyH_ready (rs := [5]) (by kernel_rfl) (by simp) ?_
  refine AllReadyH.cons rfl (fun K hK => ?_) AllReadyH.nil
  go_simp
  refine (EM.out w2 (HT.out.next B2.out)).mono ?_
  rintro e w3 ⟨vb, rfl, hv, hb0⟩
  have hb : Below w2.heap.size w2 w3 := hb0
  refine hK.out _ _ ⟨(P0_2.out.next hb).1, (P1_2.out.next hb).1⟩ (fun hHeld => ?_)
  clear hK K hb0
  have Vb_3 := Lib.hid hv
  clear hv
  have B3 := Lib.hid (belNext B2.out hb)
  have P0_3 := Lib.hid (P0_2.out.next hb)
  have P1_3 := Lib.hid (P1_2.out.next hb)
  have R_3 := Lib.hid (R_2.out.next hb)
  have Va_3 := Lib.hid (Va_2.out.next hb)
  clear hb
  try simp only [Act.put, List.setIfInBounds_toArray, List.set_cons_zero, List.set_cons_succ, List.getElem_toArray, List.getElem_cons_succ, List.getElem_cons_zero]
  refine wpAnyH_ready (rs := [6]) (by kernel_rfl) (by simp) ?_
  refine AllReadyH.cons rfl (fun K hK => ?_) AllReadyH.nil
  go_simp
  refine (SL.out va vb w3 Va_3.out Vb_3.out (HT.out.next B3.out)).mono ?_
  rintro e w4 ⟨vc, rfl, hv, hag, hb0⟩
  have hb : Below w3.heap.size w3 w4 := hb0
  refine hK.out _ _ ⟨(P0_3.out.next hb).1, (P1_3.out.next hb).1⟩ (fun hHeld => ?_)
  clear hK K hb0
  have A1 := Lib.hid hag
  clear hag
  have Ga_4 := Lib.hid hv
  clear hv
  have B4 := Lib.hid (belNext B3.out hb)
  have P0_4 := Lib.hid (P0_3.out.next hb)
  have P1_4 := Lib.hid (P1_3.out.next hb)
  have R_4 := Lib.hid (R_3.out.next hb)
  have Va_4 := Lib.hid (Va_3.out.next hb)
  have Vb_4 := Lib.hid (Vb_3.out.next hb)
  clear hb
  try simp only [Act.put, List.setIfInBounds_toArray, List.set_cons_zero, List.set_cons_succ, List.getElem_toArray, List.getElem_cons_succ, List.getElem_cons_zero]
  refine wpAnyH_ready (rs := [9]) (by kernel_rfl) (by simp) ?_
  refine AllReadyH.cons rfl (fun K hK => ?_) AllReadyH.nil
  go_simp
  refine (EH.out w4 (HT.out.next B4.out)).mono ?_
  rintro e w5 ⟨vd, rfl, hv, hb0⟩
  have hb : Below w4.heap.size w4 w5 := hb0
  refine hK.out _ _ ⟨(P0_4.out.next hb).1, (P1_4.out.next hb).1⟩ (fun hHeld => ?_)
  clear hK K hb0
  have Vd_5 := Lib.hid hv
  clear hv
  have B5 := Lib.hid (belNext B4.out hb)
  have P0_5 := Lib.hid (P0_4.out.next hb)
  have P1_5 := Lib.hid (P1_4.out.next hb)
  have R_5 := Lib.hid (R_4.out.next hb)
  have Va_5 := Lib.hid (Va_4.out.next hb)
  have Vb_5 := Lib.hid (Vb_4.out.next hb)
  have Ga_5 := Lib.hid (Ga_4.out.next hb)
  clear hb
  try simp only [Act.put, List.setIfInBounds_toArray, List.set_cons_zero, List.set_cons_succ, List.getElem_toArray, List.getElem_cons_succ, List.getElem_cons_zero]
  refine wpAnyH_ready (rs := [12]) (by kernel_rfl) (by simp) ?_
  refine AllReadyH.cons rfl (fun K hK => ?_) AllReadyH.nil
  go_simp
  refine (EG.out w5 (HT.out.next B5.out)).mono ?_
  rintro e w6 ⟨ve, rfl, hv, hb0⟩
  have hb : Below w5.heap.size w5 w6 := hb0
  refine hK.out _ _ ⟨(P0_5.out.next hb).1, (P1_5.out.next hb).1⟩ (fun hHeld => ?_)
  clear hK K hb0
  have Ve_6 := Lib.hid hv
  clear hv
  have B6 := Lib.hid (belNext B5.out hb)
  have P0_6 := Lib.hid (P0_5.out.next hb)
  have P1_6 := Lib.hid (P1_5.out.next hb)
  have R_6 := Lib.hid (R_5.out.next hb)
  have Va_6 := Lib.hid (Va_5.out.next hb)
  have Vb_6 := Lib.hid (Vb_5.out.next hb)
  have Ga_6 := Lib.hid (Ga_5.out.next hb)
  have Vd_6 := Lib.hid (Vd_5.out.next hb)
  clear hb
  try simp only [Act.put, List.setIfInBounds_toArray, List.set_cons_zero, List.set_cons_succ, List.getElem_toArray, List.getElem_cons_succ, List.getElem_cons_zero]
  refine wpAnyH_ready (rs := [13]) (by kernel_rfl) (by simp) ?_
  refine AllReadyH.cons rfl (fun K hK => ?_) AllReadyH.nil
  go_simp
  refine (SH.out vd ve w6 Vd_6.out Ve_6.out (HT.out.next B6.out)).mono ?_
  rintro e w7 ⟨vf, rfl, hv, hag, hb0⟩
  have hb : Below w6.heap.size w6 w7 := hb0
  refine hK.out _ _ ⟨(P0_6.out.next hb).1, (P1_6.out.next hb).1⟩ (fun hHeld => ?_)
  clear hK K hb0
  have A2 := Lib.hid hag
  clear hag
  have Gb_7 := Lib.hid hv
  clear hv
  have B7 := Lib.hid (belNext B6.out hb)
  have P0_7 := Lib.hid (P0_6.out.next hb)
  have P1_7 := Lib.hid (P1_6.out.next hb)
  have R_7 := Lib.hid (R_6.out.next hb)
  have Va_7 := Lib.hid (Va_6.out.next hb)
  have Vb_7 := Lib.hid (Vb_6.out.next hb)
  have Ga_7 := Lib.hid (Ga_6.out.next hb)
  have Vd_7 := Lib.hid (Vd_6.out.next hb)
  have Ve_7 := Lib.hid (Ve_6.out.next hb)
  clear hb
  try simp only [Act.put, List.setIfInBounds_toArray, List.set_cons_zero, List.set_cons_succ, List.getElem_toArray, List.getElem_cons_succ, List.getElem_cons_zero]
  refine wpAnyH_ready (rs := [14]) (by kernel_rfl) (by simp) ?_
  refine AllReadyH.cons rfl (fun K hK => ?_) AllReadyH.nil
  go_simp
  refine (between_v vc vf f1 f2 w7 A1.out A2.out Ga_7.out Gb_7.out).mono ?_
  rintro e w8 ⟨rfl, hb0⟩
  have hb : Below w7.heap.size w7 w8 := hb0
  refine hK.out _ _ ⟨(P0_7.out.next hb).1, (P1_7.out.next hb).1⟩ (fun hHeld => ?_)
  clear hK K hb0
  have B8 := Lib.hid (belNext B7.out hb)
  have P0_8 := Lib.hid (P0_7.out.next hb)
  have P1_8 := Lib.hid (P1_7.out.next hb)
  have R_8 := Lib.hid (R_7.out.next hb)
  have Va_8 := Lib.hid (Va_7.out.next hb)
  have Vb_8 := Lib.hid (Vb_7.out.next hb)
  have Ga_8 := Lib.hid (Ga_7.out.next hb)
  have Vd_8 := Lib.hid (Vd_7.out.next hb)
  have Ve_8 := Lib.hid (Ve_7.out.next hb)
  have Gb_8 := Lib.hid (Gb_7.out.next hb)
  clear hb
  try simp only [Act.put, List.setIfInBounds_toArray, List.set_cons_zero, List.set_cons_succ, List.getElem_toArray, List.getElem_cons_succ, List.getElem_cons_zero]
  obtain ⟨⟨r0, r1, r2, r3⟩, r4⟩ := R_8.out
  refine wpAnyH_ready (rs := [15]) (by kernel_rfl) (by simp) ?_
  refine AllReadyH.cons rfl (fun K hK => ?_) AllReadyH.nil
  go_simp
  refine hK.out _ _ ⟨((P0_8.out.keep (p := ⟨w.heap.size + 2, 0, none⟩) (by simp) _).keep (p := ⟨w.heap.size + 2, 1, none⟩) (by simp) _).1, ((P1_8.out.keep (p := ⟨w.heap.size + 2, 0, none⟩) (by simp) _).keep (p := ⟨w.heap.size + 2, 1, none⟩) (by simp) _).1⟩ (fun hHeld => ?_)
  clear hK K hHeld
  try simp only [Act.put, List.setIfInBounds_toArray, List.set_cons_zero, List.set_cons_succ, List.getElem_toArray, List.getElem_cons_succ, List.getElem_cons_zero]
  refine wpAnyH_done (by kernel_rfl) ?_ _
  go_wp2_with fail
  refine bodyPost_ret (v := .agg #[.float .f32 f1, .float .f32 f2]) (by simp [results, Tryz.results24, go_sem, r0, r1]) rfl ⟨rfl, ?_⟩
  repeat (first | exact B8.out | exact Below.refl _ _ | refine Below.drew ?_ | refine Below.alloc ?_ (by first | (simp; done) | (simp; omega)) _ | refine Below.setCell ?_ (by first | (simp; done) | (simp; omega)) _)
set_option maxHeartbeats 4000000 in
theorem implIMinus_any (l h l' h' : Nat) (w : World) (pl : Pl l) (ph : Pl h) (plq : Pl l') (phq : Pl h') (k1 : place32 l < 2139095040) (k2 : -2139095040 < place32 h) (k3 : place32 l' < 2139095040) (k4 : -2139095040 < place32 h') (hT : TabZ w) :
    Calls Tryz.prog 26 #[.agg #[.float .f32 l, .float .f32 h], .agg #[.float .f32 l', .float .f32 h']] w fun e w' => e = .returned (.agg #[.float .f32 ((sV l (opp h') 1 4286578688)), .float .f32 ((sV h (opp l') 2 2139095040))]) ∧ Below w.heap.size w w' := by
  have HT := Lib.hid hT
  have EO : Hid (∀ w, _) := Lib.hid (fun w => implIOpp_any l' h' w plq phq)
  have EP : Hid (∀ w, TabZ w → _) := Lib.hid (fun w t => implIPlus_any l h (opp h') (opp l') w pl ph (opp_pl phq) (opp_pl plq) k1 k2 (by rw [opp_place phq]; omega) (by rw [opp_place plq]; omega) t)
  obtain ⟨f1, hf1⟩ : ∃ f, f = sV l (opp h') 1 4286578688 := ⟨_, rfl⟩
  obtain ⟨f2, hf2⟩ : ∃ f, f = sV h (opp l') 2 2139095040 := ⟨_, rfl⟩
  obtain ⟨o1, ho1⟩ : ∃ o, o = opp h' := ⟨_, rfl⟩
  obtain ⟨o2, ho2⟩ : ∃ o, o = opp l' := ⟨_, rfl⟩
  rw [← hf1, ← hf2] at EP
  rw [← ho1, ← ho2] at EP EO
  rw [← hf1, ← hf2]
  clear pl ph plq phq k1 k2 k3 k4 hT hf1 hf2 ho1 ho2
  obtain ⟨w1, hw1, hp0, hp1, hr_, hB_⟩ := ib_2r w l h l' h' 25 25
  have P0_1 := Lib.hid hp0
  have P1_1 := Lib.hid hp1
  have R_1 := Lib.hid hr_
  have hst := store_float Tryz.prog
  have B1 := Lib.hid hB_
  have Hw := Lib.hid hw1
  clear hw1 hp0 hp1 hr_ hB_
  obtain ⟨⟨c00, c01⟩, c02⟩ := P0_1.out
  obtain ⟨⟨c10, c11⟩, c12⟩ := P1_1.out
  obtain ⟨⟨r0, r1, r2, r3⟩, r4⟩ := R_1.out
  go_enter Tryz.func26, Tryz.ntmps26
  go_upto_region 1 with fail
  rw [← Hw.out]
  refine wp_region_held_drew (S := fun w' => (w'.cell? ⟨w.heap.size, 0, none⟩ = some (.float .f32 l) ∧ w'.cell? ⟨w.heap.size, 1, none⟩ = some (.float .f32 h)) ∧ (w'.cell? ⟨w.heap.size + 1, 0, none⟩ = some (.float .f32 l') ∧ w'.cell? ⟨w.heap.size + 1, 1, none⟩ = some (.float .f32 h'))) (by kernel_rfl) ⟨P0_1.out.1, P1_1.out.1⟩ (fun hHeld => ?_)
  clear c00 c01 c02 c10 c11 c12 r0 r1 r2 r3 r4
  refine wpAnyH_take (i := 0) (v := ?_) rfl (by kernel_rfl) (by kernel_rfl) (by kernel_rfl) (fun _ _ _ h => h) (Or.inl ⟨by rfl, ?_⟩) (by assumption) ?_
  rotate_left
  · (intro w hSw; (try dsimp only at hSw); go_simp; (try with_reducible rfl))
  try simp only [Act.put, List.setIfInBounds_toArray, List.set_cons_zero, List.set_cons_succ, List.getElem_toArray, List.getElem_cons_succ, List.getElem_cons_zero]
  refine wpAnyH_take (i := 1) (v := ?_) rfl (by kernel_rfl) (by kernel_rfl) (by kernel_rfl) (fun _ _ _ h => h) (Or.inl ⟨by rfl, ?_⟩) (by assumption) ?_
  rotate_left
  · (intro w hSw; (try dsimp only at hSw); go_simp; (try with_reducible rfl))
  try simp only [Act.put, List.setIfInBounds_toArray, List.set_cons_zero, List.set_cons_succ, List.getElem_toArray, List.getElem_cons_succ, List.getElem_cons_zero]
  refine wpAnyH_ready (rs := [2]) (by kernel_rfl) (by simp) ?_
  refine AllReadyH.cons rfl (fun K hK => ?_) AllReadyH.nil
  go_simp
  refine (EO.out w1.drew).mono ?_
  rintro e w2 ⟨rfl, hb0⟩
  have hb : Below w1.heap.size w1 w2 := belDrew hb0
  refine hK.out _ _ ⟨(P0_1.out.next hb).1, (P1_1.out.next hb).1⟩ (fun hHeld => ?_)
  clear hK K hb0
  have B2 := Lib.hid (belNext B1.out hb)
  have P0_2 := Lib.hid (P0_1.out.next hb)
  have P1_2 := Lib.hid (P1_1.out.next hb)
  have R_2 := Lib.hid (R_1.out.next hb)
  clear hb
  try simp only [Act.put, List.setIfInBounds_toArray, List.set_cons_zero, List.set_cons_succ, List.getElem_toArray, List.getElem_cons_succ, List.getElem_cons_zero]
  refine wpAnyH_ready (rs := [3]) (by kernel_rfl) (by simp) ?_
  refine AllReadyH.cons rfl (fun K hK => ?_) AllReadyH.nil
  go_simp
  refine (EP.out w2 (HT.out.next B2.out)).mono ?_
  rintro e w3 ⟨rfl, hb0⟩
  have hb : Below w2.heap.size w2 w3 := hb0
  refine hK.out _ _ ⟨(P0_2.out.next hb).1, (P1_2.out.next hb).1⟩ (fun hHeld => ?_)
  clear hK K hb0
  have B3 := Lib.hid (belNext B2.out hb)
  have P0_3 := Lib.hid (P0_2.out.next hb)
  have P1_3 := Lib.hid (P1_2.out.next hb)
  have R_3 := Lib.hid (R_2.out.next hb)
  clear hb
  try simp only [Act.put, List.setIfInBounds_toArray, List.set_cons_zero, List.set_cons_succ, List.getElem_toArray, List.getElem_cons_succ, List.getElem_cons_zero]
  obtain ⟨⟨r0, r1, r2, r3⟩, r4⟩ := R_3.out
  refine wpAnyH_ready (rs := [4]) (by kernel_rfl) (by simp) ?_
  refine AllReadyH.cons rfl (fun K hK => ?_) AllReadyH.nil
  go_simp
  refine hK.out _ _ ⟨((P0_3.out.keep (p := ⟨w.heap.size + 2, 0, none⟩) (by simp) _).keep (p := ⟨w.heap.size + 2, 1, none⟩) (by simp) _).1, ((P1_3.out.keep (p := ⟨w.heap.size + 2, 0, none⟩) (by simp) _).keep (p := ⟨w.heap.size + 2, 1, none⟩) (by simp) _).1⟩ (fun hHeld => ?_)
  clear hK K hHeld
  try simp only [Act.put, List.setIfInBounds_toArray, List.set_cons_zero, List.set_cons_succ, List.getElem_toArray, List.getElem_cons_succ, List.getElem_cons_zero]
  refine wpAnyH_done (by kernel_rfl) ?_ _
  go_wp2_with fail
  refine bodyPost_ret (v := .agg #[.float .f32 f1, .float .f32 f2]) (by simp [results, Tryz.results26, go_sem, r0, r1]) rfl ⟨rfl, ?_⟩
  repeat (first | exact B3.out | exact Below.refl _ _ | refine Below.drew ?_ | refine Below.alloc ?_ (by first | (simp; done) | (simp; omega)) _ | refine Below.setCell ?_ (by first | (simp; done) | (simp; omega)) _)
def adLw (l h l' h' : Nat) : Nat := if bI l h l' h' = true then sV l l' 1 4286578688 else 0
def adHw (l h l' h' : Nat) : Nat := if bI l h l' h' = true then sV h h' 2 2139095040 else 0
def sbLw (l h l' h' : Nat) : Nat := if bI l h l' h' = true then sV l (opp h') 1 4286578688 else 0
def sbHw (l h l' h' : Nat) : Nat := if bI l h l' h' = true then sV h (opp l') 2 2139095040 else 0
theorem if_ok (b : Bool) (x : Nat) (h : x < 4294967296 ∧ nan32 x = false) : (if b = true then x else 0) < 4294967296 ∧ nan32 (if b = true then x else 0) = false := by
  split
  · exact h
  · exact ⟨by omega, by decide⟩
theorem ad_ok4 (l h l' h' : Nat) : (adLw l h l' h' < 4294967296 ∧ nan32 (adLw l h l' h') = false) ∧ (adHw l h l' h' < 4294967296 ∧ nan32 (adHw l h l' h') = false) := ⟨if_ok _ _ (sV_pl _ _ _ _ (.inr rfl)), if_ok _ _ (sV_pl _ _ _ _ (.inl rfl))⟩
theorem sb_ok4 (l h l' h' : Nat) : (sbLw l h l' h' < 4294967296 ∧ nan32 (sbLw l h l' h') = false) ∧ (sbHw l h l' h' < 4294967296 ∧ nan32 (sbHw l h l' h') = false) := ⟨if_ok _ _ (sV_pl _ _ _ _ (.inr rfl)), if_ok _ _ (sV_pl _ _ _ _ (.inl rfl))⟩
set_option maxHeartbeats 2000000 in
theorem combAddI_any (l h l' h' : Nat) (w : World) (hl : l < 4294967296) (hh : h < 4294967296) (hlq : l' < 4294967296) (hhq : h' < 4294967296) (hT : TabZ w) :
    Calls Tryz.prog 23 #[.func (.func 24) #[] #[], .agg #[.float .f32 l, .float .f32 h], .agg #[.float .f32 l', .float .f32 h']] w fun e w' => e = .returned (.tuple #[.agg #[.float .f32 ((adLw l h l' h')), .float .f32 ((adHw l h l' h'))], .int .i64 (cI (bI l h l' h'))]) ∧ Below w.heap.size w w' := by
  have HT := Lib.hid hT
  clear hT
  by_cases b1 : isI l h = true
  · by_cases b2 : isI l' h' = true
    · skip
      obtain ⟨pl, ph, q1, q2, q3⟩ := isI_facts hl hh b1
      obtain ⟨plq, phq, q4, q5, q6⟩ := isI_facts hlq hhq b2
      have b : bI l h l' h' = true := by unfold bI; rw [b1, b2]; rfl
      have e0 : (.tuple #[.agg #[.float .f32 ((adLw l h l' h')), .float .f32 ((adHw l h l' h'))], .int .i64 (cI (bI l h l' h'))] : Value) = .tuple #[.agg #[.float .f32 ((sV l l' 1 4286578688)), .float .f32 ((sV h h' 2 2139095040))], .int .i64 0] := by unfold adLw adHw cI; simp [b]
      rw [e0]
      clear e0 b
      have H3 : Hid (∀ w, TabZ w → _) := Lib.hid (fun w t => implIPlus_any l h l' h' w pl ph plq phq q2 q3 q5 q6 t)
      obtain ⟨f1, hf1⟩ : ∃ f, f = (sV l l' 1 4286578688) := ⟨_, rfl⟩
      obtain ⟨f2, hf2⟩ : ∃ f, f = (sV h h' 2 2139095040) := ⟨_, rfl⟩
      rw [← hf1, ← hf2] at H3 ⊢
      clear hf1 hf2
      have H1 : Hid (∀ w, Calls Tryz.prog 29 #[.agg #[.float .f32 l, .float .f32 h]] w fun e w' => e = .returned (.bool true) ∧ Below w.heap.size w w') := Lib.hid (fun w => by rw [← b1]; exact implIsI_any l h w hl hh)
      have H2 : Hid (∀ w, Calls Tryz.prog 29 #[.agg #[.float .f32 l', .float .f32 h']] w fun e w' => e = .returned (.bool true) ∧ Below w.heap.size w w') := Lib.hid (fun w => by rw [← b2]; exact implIsI_any l' h' w hlq hhq)
      clear hl hh hlq hhq b1 b2 pl ph plq phq q1 q2 q3 q4 q5 q6
      obtain ⟨w1, hw1, hp0, hp1, hr_, hB_⟩ := ib_2r w l h l' h' 25 25
      have P0_1 := Lib.hid hp0
      have P1_1 := Lib.hid hp1
      have R_1 := Lib.hid hr_
      have hst := store_float Tryz.prog
      have B1 := Lib.hid hB_
      have Hw := Lib.hid hw1
      clear hw1 hp0 hp1 hr_ hB_
      obtain ⟨⟨c00, c01⟩, c02⟩ := P0_1.out
      obtain ⟨⟨c10, c11⟩, c12⟩ := P1_1.out
      obtain ⟨⟨r0, r1, r2, r3⟩, r4⟩ := R_1.out
      go_enter Tryz.func23, Tryz.ntmps23
      go_wp2_with fail
      rw [← Hw.out]
      refine (H1.out _).mono ?_
      rintro e w2 ⟨rfl, hb⟩
      have B2 := Lib.hid (belNext B1.out hb)
      have P0_2 := Lib.hid (P0_1.out.next hb)
      have P1_2 := Lib.hid (P1_1.out.next hb)
      have R_2 := Lib.hid (R_1.out.next hb)
      clear hb c00 c01 c02 c10 c11 c12 r0 r1 r2 r3 r4
      obtain ⟨⟨c00, c01⟩, c02⟩ := P0_2.out
      obtain ⟨⟨c10, c11⟩, c12⟩ := P1_2.out
      obtain ⟨⟨r0, r1, r2, r3⟩, r4⟩ := R_2.out
      go_wp2_with fail
      refine (H2.out _).mono ?_
      rintro e w3 ⟨rfl, hb⟩
      have B3 := Lib.hid (belNext B2.out hb)
      have P0_3 := Lib.hid (P0_2.out.next hb)
      have P1_3 := Lib.hid (P1_2.out.next hb)
      have R_3 := Lib.hid (R_2.out.next hb)
      clear hb c00 c01 c02 c10 c11 c12 r0 r1 r2 r3 r4
      obtain ⟨⟨c00, c01⟩, c02⟩ := P0_3.out
      obtain ⟨⟨c10, c11⟩, c12⟩ := P1_3.out
      obtain ⟨⟨r0, r1, r2, r3⟩, r4⟩ := R_3.out
      go_wp2_with fail
      refine (H3.out _ (HT.out.next B3.out)).mono ?_
      rintro e w4 ⟨rfl, hb⟩
      have B4 := Lib.hid (belNext B3.out hb)
      have P0_4 := Lib.hid (P0_3.out.next hb)
      have P1_4 := Lib.hid (P1_3.out.next hb)
      have R_4 := Lib.hid (R_3.out.next hb)
      clear hb c00 c01 c02 c10 c11 c12 r0 r1 r2 r3 r4
      obtain ⟨⟨c00, c01⟩, c02⟩ := P0_4.out
      obtain ⟨⟨c10, c11⟩, c12⟩ := P1_4.out
      obtain ⟨⟨r0, r1, r2, r3⟩, r4⟩ := R_4.out
      go_wp2_with fail
      refine bodyPost_ret (v := .tuple #[.agg #[.float .f32 f1, .float .f32 f2], .int .i64 0]) (by simp [results, Tryz.results23, go_sem, r0, r1]) rfl ⟨rfl, ?_⟩
      repeat (first | exact B4.out | exact Below.refl _ _ | refine Below.drew ?_ | refine Below.alloc ?_ (by first | (simp; done) | (simp; omega)) _ | refine Below.setCell ?_ (by first | (simp; done) | (simp; omega)) _)
    · skip
      have b2 : isI l' h' = false := by simpa using b2
      have b : bI l h l' h' = false := by unfold bI; rw [b2]; simp
      have e0 : (.tuple #[.agg #[.float .f32 ((adLw l h l' h')), .float .f32 ((adHw l h l' h'))], .int .i64 (cI (bI l h l' h'))] : Value) = .tuple #[.agg #[.float .f32 0, .float .f32 0], .int .i64 1] := by unfold adLw adHw cI; simp [b]
      rw [e0]
      clear e0 b
      have H1 : Hid (∀ w, Calls Tryz.prog 29 #[.agg #[.float .f32 l, .float .f32 h]] w fun e w' => e = .returned (.bool true) ∧ Below w.heap.size w w') := Lib.hid (fun w => by rw [← b1]; exact implIsI_any l h w hl hh)
      have H2 : Hid (∀ w, Calls Tryz.prog 29 #[.agg #[.float .f32 l', .float .f32 h']] w fun e w' => e = .returned (.bool false) ∧ Below w.heap.size w w') := Lib.hid (fun w => by rw [← b2]; exact implIsI_any l' h' w hlq hhq)
      clear hl hh hlq hhq b1 b2
      obtain ⟨w1, hw1, hp0, hp1, hr_, hB_⟩ := ib_2r w l h l' h' 25 25
      have P0_1 := Lib.hid hp0
      have P1_1 := Lib.hid hp1
      have R_1 := Lib.hid hr_
      have hst := store_float Tryz.prog
      have B1 := Lib.hid hB_
      have Hw := Lib.hid hw1
      clear hw1 hp0 hp1 hr_ hB_
      obtain ⟨⟨c00, c01⟩, c02⟩ := P0_1.out
      obtain ⟨⟨c10, c11⟩, c12⟩ := P1_1.out
      obtain ⟨⟨r0, r1, r2, r3⟩, r4⟩ := R_1.out
      go_enter Tryz.func23, Tryz.ntmps23
      go_wp2_with fail
      rw [← Hw.out]
      refine (H1.out _).mono ?_
      rintro e w2 ⟨rfl, hb⟩
      have B2 := Lib.hid (belNext B1.out hb)
      have P0_2 := Lib.hid (P0_1.out.next hb)
      have P1_2 := Lib.hid (P1_1.out.next hb)
      have R_2 := Lib.hid (R_1.out.next hb)
      clear hb c00 c01 c02 c10 c11 c12 r0 r1 r2 r3 r4
      obtain ⟨⟨c00, c01⟩, c02⟩ := P0_2.out
      obtain ⟨⟨c10, c11⟩, c12⟩ := P1_2.out
      obtain ⟨⟨r0, r1, r2, r3⟩, r4⟩ := R_2.out
      go_wp2_with fail
      refine (H2.out _).mono ?_
      rintro e w3 ⟨rfl, hb⟩
      have B3 := Lib.hid (belNext B2.out hb)
      have P0_3 := Lib.hid (P0_2.out.next hb)
      have P1_3 := Lib.hid (P1_2.out.next hb)
      have R_3 := Lib.hid (R_2.out.next hb)
      clear hb c00 c01 c02 c10 c11 c12 r0 r1 r2 r3 r4
      obtain ⟨⟨c00, c01⟩, c02⟩ := P0_3.out
      obtain ⟨⟨c10, c11⟩, c12⟩ := P1_3.out
      obtain ⟨⟨r0, r1, r2, r3⟩, r4⟩ := R_3.out
      go_wp2_with fail
      refine bodyPost_ret (v := .tuple #[.agg #[.float .f32 0, .float .f32 0], .int .i64 1]) (by simp [results, Tryz.results23, go_sem, r0, r1]) rfl ⟨rfl, ?_⟩
      repeat (first | exact B3.out | exact Below.refl _ _ | refine Below.drew ?_ | refine Below.alloc ?_ (by first | (simp; done) | (simp; omega)) _ | refine Below.setCell ?_ (by first | (simp; done) | (simp; omega)) _)
  · skip
    have b1 : isI l h = false := by simpa using b1
    have b : bI l h l' h' = false := by unfold bI; rw [b1]; simp
    have e0 : (.tuple #[.agg #[.float .f32 ((adLw l h l' h')), .float .f32 ((adHw l h l' h'))], .int .i64 (cI (bI l h l' h'))] : Value) = .tuple #[.agg #[.float .f32 0, .float .f32 0], .int .i64 1] := by unfold adLw adHw cI; simp [b]
    rw [e0]
    clear e0 b
    have H1 : Hid (∀ w, Calls Tryz.prog 29 #[.agg #[.float .f32 l, .float .f32 h]] w fun e w' => e = .returned (.bool false) ∧ Below w.heap.size w w') := Lib.hid (fun w => by rw [← b1]; exact implIsI_any l h w hl hh)
    clear hl hh hlq hhq b1
    obtain ⟨w1, hw1, hp0, hp1, hr_, hB_⟩ := ib_2r w l h l' h' 25 25
    have P0_1 := Lib.hid hp0
    have P1_1 := Lib.hid hp1
    have R_1 := Lib.hid hr_
    have hst := store_float Tryz.prog
    have B1 := Lib.hid hB_
    have Hw := Lib.hid hw1
    clear hw1 hp0 hp1 hr_ hB_
    obtain ⟨⟨c00, c01⟩, c02⟩ := P0_1.out
    obtain ⟨⟨c10, c11⟩, c12⟩ := P1_1.out
    obtain ⟨⟨r0, r1, r2, r3⟩, r4⟩ := R_1.out
    go_enter Tryz.func23, Tryz.ntmps23
    go_wp2_with fail
    rw [← Hw.out]
    refine (H1.out _).mono ?_
    rintro e w2 ⟨rfl, hb⟩
    have B2 := Lib.hid (belNext B1.out hb)
    have P0_2 := Lib.hid (P0_1.out.next hb)
    have P1_2 := Lib.hid (P1_1.out.next hb)
    have R_2 := Lib.hid (R_1.out.next hb)
    clear hb c00 c01 c02 c10 c11 c12 r0 r1 r2 r3 r4
    obtain ⟨⟨c00, c01⟩, c02⟩ := P0_2.out
    obtain ⟨⟨c10, c11⟩, c12⟩ := P1_2.out
    obtain ⟨⟨r0, r1, r2, r3⟩, r4⟩ := R_2.out
    go_wp2_with fail
    refine bodyPost_ret (v := .tuple #[.agg #[.float .f32 0, .float .f32 0], .int .i64 1]) (by simp [results, Tryz.results23, go_sem, r0, r1]) rfl ⟨rfl, ?_⟩
    repeat (first | exact B2.out | exact Below.refl _ _ | refine Below.drew ?_ | refine Below.alloc ?_ (by first | (simp; done) | (simp; omega)) _ | refine Below.setCell ?_ (by first | (simp; done) | (simp; omega)) _)
set_option maxHeartbeats 1000000 in
theorem implAddIW_any (l h l' h' : Nat) (w : World) (hl : l < 4294967296) (hh : h < 4294967296) (hlq : l' < 4294967296) (hhq : h' < 4294967296) (hT : TabZ w) :
    Calls Tryz.prog 10 #[.agg #[.float .f32 l, .float .f32 h], .agg #[.float .f32 l', .float .f32 h']] w fun e w' => e = .returned (.tuple #[.agg #[.float .f32 ((adLw l h l' h')), .float .f32 ((adHw l h l' h'))], .int .i64 (cI (bI l h l' h'))]) ∧ Below w.heap.size w w' := by
  have HT := Lib.hid hT
  have H1 : Hid (∀ w, TabZ w → _) := Lib.hid (fun w t => combAddI_any l h l' h' w hl hh hlq hhq t)
  obtain ⟨RL, hRL⟩ : ∃ r, r = adLw l h l' h' := ⟨_, rfl⟩
  obtain ⟨RH, hRH⟩ : ∃ r, r = adHw l h l' h' := ⟨_, rfl⟩
  obtain ⟨RE, hRE⟩ : ∃ r, r = cI (bI l h l' h') := ⟨_, rfl⟩
  rw [← hRL, ← hRH, ← hRE] at H1 ⊢
  clear hl hh hlq hhq hRL hRH hRE hT
  obtain ⟨w1, hw1, hp0, hp1, hr_, hB_⟩ := ib_2r w l h l' h' 25 25
  have P0_1 := Lib.hid hp0
  have P1_1 := Lib.hid hp1
  have R_1 := Lib.hid hr_
  have hst := store_float Tryz.prog
  have B1 := Lib.hid hB_
  have Hw := Lib.hid hw1
  clear hw1 hp0 hp1 hr_ hB_
  obtain ⟨⟨c00, c01⟩, c02⟩ := P0_1.out
  obtain ⟨⟨c10, c11⟩, c12⟩ := P1_1.out
  obtain ⟨⟨r0, r1, r2, r3⟩, r4⟩ := R_1.out
  go_enter Tryz.func10, Tryz.ntmps10
  go_wp2_with fail
  rw [← Hw.out]
  refine (H1.out _ (HT.out.next B1.out)).mono ?_
  rintro e w2 ⟨rfl, hb⟩
  have B2 := Lib.hid (belNext B1.out hb)
  have P0_2 := Lib.hid (P0_1.out.next hb)
  have P1_2 := Lib.hid (P1_1.out.next hb)
  have R_2 := Lib.hid (R_1.out.next hb)
  clear hb c00 c01 c02 c10 c11 c12 r0 r1 r2 r3 r4
  obtain ⟨⟨c00, c01⟩, c02⟩ := P0_2.out
  obtain ⟨⟨c10, c11⟩, c12⟩ := P1_2.out
  obtain ⟨⟨r0, r1, r2, r3⟩, r4⟩ := R_2.out
  go_wp2_with fail
  refine bodyPost_ret (v := .tuple #[.agg #[.float .f32 RL, .float .f32 RH], .int .i64 RE]) (by simp [results, Tryz.results10, go_sem, r0, r1]) rfl ⟨rfl, ?_⟩
  repeat (first | exact B2.out | exact Below.refl _ _ | refine Below.drew ?_ | refine Below.alloc ?_ (by first | (simp; done) | (simp; omega)) _ | refine Below.setCell ?_ (by first | (simp; done) | (simp; omega)) _)
set_option maxHeartbeats 2000000 in
theorem combSubI_any (l h l' h' : Nat) (w : World) (hl : l < 4294967296) (hh : h < 4294967296) (hlq : l' < 4294967296) (hhq : h' < 4294967296) (hT : TabZ w) :
    Calls Tryz.prog 23 #[.func (.func 26) #[] #[], .agg #[.float .f32 l, .float .f32 h], .agg #[.float .f32 l', .float .f32 h']] w fun e w' => e = .returned (.tuple #[.agg #[.float .f32 ((sbLw l h l' h')), .float .f32 ((sbHw l h l' h'))], .int .i64 (cI (bI l h l' h'))]) ∧ Below w.heap.size w w' := by
  have HT := Lib.hid hT
  clear hT
  by_cases b1 : isI l h = true
  · by_cases b2 : isI l' h' = true
    · skip
      obtain ⟨pl, ph, q1, q2, q3⟩ := isI_facts hl hh b1
      obtain ⟨plq, phq, q4, q5, q6⟩ := isI_facts hlq hhq b2
      have b : bI l h l' h' = true := by unfold bI; rw [b1, b2]; rfl
      have e0 : (.tuple #[.agg #[.float .f32 ((sbLw l h l' h')), .float .f32 ((sbHw l h l' h'))], .int .i64 (cI (bI l h l' h'))] : Value) = .tuple #[.agg #[.float .f32 ((sV l (opp h') 1 4286578688)), .float .f32 ((sV h (opp l') 2 2139095040))], .int .i64 0] := by unfold sbLw sbHw cI; simp [b]
      rw [e0]
      clear e0 b
      have H3 : Hid (∀ w, TabZ w → _) := Lib.hid (fun w t => implIMinus_any l h l' h' w pl ph plq phq q2 q3 q5 q6 t)
      obtain ⟨f1, hf1⟩ : ∃ f, f = (sV l (opp h') 1 4286578688) := ⟨_, rfl⟩
      obtain ⟨f2, hf2⟩ : ∃ f, f = (sV h (opp l') 2 2139095040) := ⟨_, rfl⟩
      rw [← hf1, ← hf2] at H3 ⊢
      clear hf1 hf2
      have H1 : Hid (∀ w, Calls Tryz.prog 29 #[.agg #[.float .f32 l, .float .f32 h]] w fun e w' => e = .returned (.bool true) ∧ Below w.heap.size w w') := Lib.hid (fun w => by rw [← b1]; exact implIsI_any l h w hl hh)
      have H2 : Hid (∀ w, Calls Tryz.prog 29 #[.agg #[.float .f32 l', .float .f32 h']] w fun e w' => e = .returned (.bool true) ∧ Below w.heap.size w w') := Lib.hid (fun w => by rw [← b2]; exact implIsI_any l' h' w hlq hhq)
      clear hl hh hlq hhq b1 b2 pl ph plq phq q1 q2 q3 q4 q5 q6
      obtain ⟨w1, hw1, hp0, hp1, hr_, hB_⟩ := ib_2r w l h l' h' 25 25
      have P0_1 := Lib.hid hp0
      have P1_1 := Lib.hid hp1
      have R_1 := Lib.hid hr_
      have hst := store_float Tryz.prog
      have B1 := Lib.hid hB_
      have Hw := Lib.hid hw1
      clear hw1 hp0 hp1 hr_ hB_
      obtain ⟨⟨c00, c01⟩, c02⟩ := P0_1.out
      obtain ⟨⟨c10, c11⟩, c12⟩ := P1_1.out
      obtain ⟨⟨r0, r1, r2, r3⟩, r4⟩ := R_1.out
      go_enter Tryz.func23, Tryz.ntmps23
      go_wp2_with fail
      rw [← Hw.out]
      refine (H1.out _).mono ?_
      rintro e w2 ⟨rfl, hb⟩
      have B2 := Lib.hid (belNext B1.out hb)
      have P0_2 := Lib.hid (P0_1.out.next hb)
      have P1_2 := Lib.hid (P1_1.out.next hb)
      have R_2 := Lib.hid (R_1.out.next hb)
      clear hb c00 c01 c02 c10 c11 c12 r0 r1 r2 r3 r4
      obtain ⟨⟨c00, c01⟩, c02⟩ := P0_2.out
      obtain ⟨⟨c10, c11⟩, c12⟩ := P1_2.out
      obtain ⟨⟨r0, r1, r2, r3⟩, r4⟩ := R_2.out
      go_wp2_with fail
      refine (H2.out _).mono ?_
      rintro e w3 ⟨rfl, hb⟩
      have B3 := Lib.hid (belNext B2.out hb)
      have P0_3 := Lib.hid (P0_2.out.next hb)
      have P1_3 := Lib.hid (P1_2.out.next hb)
      have R_3 := Lib.hid (R_2.out.next hb)
      clear hb c00 c01 c02 c10 c11 c12 r0 r1 r2 r3 r4
      obtain ⟨⟨c00, c01⟩, c02⟩ := P0_3.out
      obtain ⟨⟨c10, c11⟩, c12⟩ := P1_3.out
      obtain ⟨⟨r0, r1, r2, r3⟩, r4⟩ := R_3.out
      go_wp2_with fail
      refine (H3.out _ (HT.out.next B3.out)).mono ?_
      rintro e w4 ⟨rfl, hb⟩
      have B4 := Lib.hid (belNext B3.out hb)
      have P0_4 := Lib.hid (P0_3.out.next hb)
      have P1_4 := Lib.hid (P1_3.out.next hb)
      have R_4 := Lib.hid (R_3.out.next hb)
      clear hb c00 c01 c02 c10 c11 c12 r0 r1 r2 r3 r4
      obtain ⟨⟨c00, c01⟩, c02⟩ := P0_4.out
      obtain ⟨⟨c10, c11⟩, c12⟩ := P1_4.out
      obtain ⟨⟨r0, r1, r2, r3⟩, r4⟩ := R_4.out
      go_wp2_with fail
      refine bodyPost_ret (v := .tuple #[.agg #[.float .f32 f1, .float .f32 f2], .int .i64 0]) (by simp [results, Tryz.results23, go_sem, r0, r1]) rfl ⟨rfl, ?_⟩
      repeat (first | exact B4.out | exact Below.refl _ _ | refine Below.drew ?_ | refine Below.alloc ?_ (by first | (simp; done) | (simp; omega)) _ | refine Below.setCell ?_ (by first | (simp; done) | (simp; omega)) _)
    · skip
      have b2 : isI l' h' = false := by simpa using b2
      have b : bI l h l' h' = false := by unfold bI; rw [b2]; simp
      have e0 : (.tuple #[.agg #[.float .f32 ((sbLw l h l' h')), .float .f32 ((sbHw l h l' h'))], .int .i64 (cI (bI l h l' h'))] : Value) = .tuple #[.agg #[.float .f32 0, .float .f32 0], .int .i64 1] := by unfold sbLw sbHw cI; simp [b]
      rw [e0]
      clear e0 b
      have H1 : Hid (∀ w, Calls Tryz.prog 29 #[.agg #[.float .f32 l, .float .f32 h]] w fun e w' => e = .returned (.bool true) ∧ Below w.heap.size w w') := Lib.hid (fun w => by rw [← b1]; exact implIsI_any l h w hl hh)
      have H2 : Hid (∀ w, Calls Tryz.prog 29 #[.agg #[.float .f32 l', .float .f32 h']] w fun e w' => e = .returned (.bool false) ∧ Below w.heap.size w w') := Lib.hid (fun w => by rw [← b2]; exact implIsI_any l' h' w hlq hhq)
      clear hl hh hlq hhq b1 b2
      obtain ⟨w1, hw1, hp0, hp1, hr_, hB_⟩ := ib_2r w l h l' h' 25 25
      have P0_1 := Lib.hid hp0
      have P1_1 := Lib.hid hp1
      have R_1 := Lib.hid hr_
      have hst := store_float Tryz.prog
      have B1 := Lib.hid hB_
      have Hw := Lib.hid hw1
      clear hw1 hp0 hp1 hr_ hB_
      obtain ⟨⟨c00, c01⟩, c02⟩ := P0_1.out
      obtain ⟨⟨c10, c11⟩, c12⟩ := P1_1.out
      obtain ⟨⟨r0, r1, r2, r3⟩, r4⟩ := R_1.out
      go_enter Tryz.func23, Tryz.ntmps23
      go_wp2_with fail
      rw [← Hw.out]
      refine (H1.out _).mono ?_
      rintro e w2 ⟨rfl, hb⟩
      have B2 := Lib.hid (belNext B1.out hb)
      have P0_2 := Lib.hid (P0_1.out.next hb)
      have P1_2 := Lib.hid (P1_1.out.next hb)
      have R_2 := Lib.hid (R_1.out.next hb)
      clear hb c00 c01 c02 c10 c11 c12 r0 r1 r2 r3 r4
      obtain ⟨⟨c00, c01⟩, c02⟩ := P0_2.out
      obtain ⟨⟨c10, c11⟩, c12⟩ := P1_2.out
      obtain ⟨⟨r0, r1, r2, r3⟩, r4⟩ := R_2.out
      go_wp2_with fail
      refine (H2.out _).mono ?_
      rintro e w3 ⟨rfl, hb⟩
      have B3 := Lib.hid (belNext B2.out hb)
      have P0_3 := Lib.hid (P0_2.out.next hb)
      have P1_3 := Lib.hid (P1_2.out.next hb)
      have R_3 := Lib.hid (R_2.out.next hb)
      clear hb c00 c01 c02 c10 c11 c12 r0 r1 r2 r3 r4
      obtain ⟨⟨c00, c01⟩, c02⟩ := P0_3.out
      obtain ⟨⟨c10, c11⟩, c12⟩ := P1_3.out
      obtain ⟨⟨r0, r1, r2, r3⟩, r4⟩ := R_3.out
      go_wp2_with fail
      refine bodyPost_ret (v := .tuple #[.agg #[.float .f32 0, .float .f32 0], .int .i64 1]) (by simp [results, Tryz.results23, go_sem, r0, r1]) rfl ⟨rfl, ?_⟩
      repeat (first | exact B3.out | exact Below.refl _ _ | refine Below.drew ?_ | refine Below.alloc ?_ (by first | (simp; done) | (simp; omega)) _ | refine Below.setCell ?_ (by first | (simp; done) | (simp; omega)) _)
  · skip
    have b1 : isI l h = false := by simpa using b1
    have b : bI l h l' h' = false := by unfold bI; rw [b1]; simp
    have e0 : (.tuple #[.agg #[.float .f32 ((sbLw l h l' h')), .float .f32 ((sbHw l h l' h'))], .int .i64 (cI (bI l h l' h'))] : Value) = .tuple #[.agg #[.float .f32 0, .float .f32 0], .int .i64 1] := by unfold sbLw sbHw cI; simp [b]
    rw [e0]
    clear e0 b
    have H1 : Hid (∀ w, Calls Tryz.prog 29 #[.agg #[.float .f32 l, .float .f32 h]] w fun e w' => e = .returned (.bool false) ∧ Below w.heap.size w w') := Lib.hid (fun w => by rw [← b1]; exact implIsI_any l h w hl hh)
    clear hl hh hlq hhq b1
    obtain ⟨w1, hw1, hp0, hp1, hr_, hB_⟩ := ib_2r w l h l' h' 25 25
    have P0_1 := Lib.hid hp0
    have P1_1 := Lib.hid hp1
    have R_1 := Lib.hid hr_
    have hst := store_float Tryz.prog
    have B1 := Lib.hid hB_
    have Hw := Lib.hid hw1
    clear hw1 hp0 hp1 hr_ hB_
    obtain ⟨⟨c00, c01⟩, c02⟩ := P0_1.out
    obtain ⟨⟨c10, c11⟩, c12⟩ := P1_1.out
    obtain ⟨⟨r0, r1, r2, r3⟩, r4⟩ := R_1.out
    go_enter Tryz.func23, Tryz.ntmps23
    go_wp2_with fail
    rw [← Hw.out]
    refine (H1.out _).mono ?_
    rintro e w2 ⟨rfl, hb⟩
    have B2 := Lib.hid (belNext B1.out hb)
    have P0_2 := Lib.hid (P0_1.out.next hb)
    have P1_2 := Lib.hid (P1_1.out.next hb)
    have R_2 := Lib.hid (R_1.out.next hb)
    clear hb c00 c01 c02 c10 c11 c12 r0 r1 r2 r3 r4
    obtain ⟨⟨c00, c01⟩, c02⟩ := P0_2.out
    obtain ⟨⟨c10, c11⟩, c12⟩ := P1_2.out
    obtain ⟨⟨r0, r1, r2, r3⟩, r4⟩ := R_2.out
    go_wp2_with fail
    refine bodyPost_ret (v := .tuple #[.agg #[.float .f32 0, .float .f32 0], .int .i64 1]) (by simp [results, Tryz.results23, go_sem, r0, r1]) rfl ⟨rfl, ?_⟩
    repeat (first | exact B2.out | exact Below.refl _ _ | refine Below.drew ?_ | refine Below.alloc ?_ (by first | (simp; done) | (simp; omega)) _ | refine Below.setCell ?_ (by first | (simp; done) | (simp; omega)) _)
set_option maxHeartbeats 1000000 in
theorem implSubIW_any (l h l' h' : Nat) (w : World) (hl : l < 4294967296) (hh : h < 4294967296) (hlq : l' < 4294967296) (hhq : h' < 4294967296) (hT : TabZ w) :
    Calls Tryz.prog 13 #[.agg #[.float .f32 l, .float .f32 h], .agg #[.float .f32 l', .float .f32 h']] w fun e w' => e = .returned (.tuple #[.agg #[.float .f32 ((sbLw l h l' h')), .float .f32 ((sbHw l h l' h'))], .int .i64 (cI (bI l h l' h'))]) ∧ Below w.heap.size w w' := by
  have HT := Lib.hid hT
  have H1 : Hid (∀ w, TabZ w → _) := Lib.hid (fun w t => combSubI_any l h l' h' w hl hh hlq hhq t)
  obtain ⟨RL, hRL⟩ : ∃ r, r = sbLw l h l' h' := ⟨_, rfl⟩
  obtain ⟨RH, hRH⟩ : ∃ r, r = sbHw l h l' h' := ⟨_, rfl⟩
  obtain ⟨RE, hRE⟩ : ∃ r, r = cI (bI l h l' h') := ⟨_, rfl⟩
  rw [← hRL, ← hRH, ← hRE] at H1 ⊢
  clear hl hh hlq hhq hRL hRH hRE hT
  obtain ⟨w1, hw1, hp0, hp1, hr_, hB_⟩ := ib_2r w l h l' h' 25 25
  have P0_1 := Lib.hid hp0
  have P1_1 := Lib.hid hp1
  have R_1 := Lib.hid hr_
  have hst := store_float Tryz.prog
  have B1 := Lib.hid hB_
  have Hw := Lib.hid hw1
  clear hw1 hp0 hp1 hr_ hB_
  obtain ⟨⟨c00, c01⟩, c02⟩ := P0_1.out
  obtain ⟨⟨c10, c11⟩, c12⟩ := P1_1.out
  obtain ⟨⟨r0, r1, r2, r3⟩, r4⟩ := R_1.out
  go_enter Tryz.func13, Tryz.ntmps13
  go_wp2_with fail
  rw [← Hw.out]
  refine (H1.out _ (HT.out.next B1.out)).mono ?_
  rintro e w2 ⟨rfl, hb⟩
  have B2 := Lib.hid (belNext B1.out hb)
  have P0_2 := Lib.hid (P0_1.out.next hb)
  have P1_2 := Lib.hid (P1_1.out.next hb)
  have R_2 := Lib.hid (R_1.out.next hb)
  clear hb c00 c01 c02 c10 c11 c12 r0 r1 r2 r3 r4
  obtain ⟨⟨c00, c01⟩, c02⟩ := P0_2.out
  obtain ⟨⟨c10, c11⟩, c12⟩ := P1_2.out
  obtain ⟨⟨r0, r1, r2, r3⟩, r4⟩ := R_2.out
  go_wp2_with fail
  refine bodyPost_ret (v := .tuple #[.agg #[.float .f32 RL, .float .f32 RH], .int .i64 RE]) (by simp [results, Tryz.results13, go_sem, r0, r1]) rfl ⟨rfl, ?_⟩
  repeat (first | exact B2.out | exact Below.refl _ _ | refine Below.drew ?_ | refine Below.alloc ?_ (by first | (simp; done) | (simp; omega)) _ | refine Below.setCell ?_ (by first | (simp; done) | (simp; omega)) _)
end Go.Proofs.YtngminjncdfjdaaGreatDoor
