/- The draws of floats. -/
import Derived.Test.YtjoflmclgiemoaaDr
import Derived.Test.YtjoflmclgiemoaaFp
namespace Go.Proofs.Ytjoflmclgiemoaa
open Go.RowKit

/-- a float has been drawn -/
def Drawn (w : World) (g B n c : Nat) (A : Option Addr) (bs : List Nat) (e : Ending) (w' : World) : Prop :=
  ∃ b, e = .returned (.float .f32 b) ∧ b < 4294967296 ∧ Src w' g B A n c bs ∧ w.grownBy w' (some g)

theorem grown_drewN' {w w' : World} {r : Option Nat} (h : w.grownBy w' r) (n : Nat) : w.grownBy (w'.drewN n) r := ⟨h.os, h.tape, h.output, h.size, h.block⟩

theorem at32_lt' (n : Int) (h1 : -2139095040 ≤ n) (h2 : n ≤ 2139095040) : at32 n < 4294967296 := by unfold at32; split <;> omega
theorem nan32_lt (w : World) (x y : Nat) : nanOf w x y < 4294967296 := nanOf_lt w x y
theorem int32_lt (z : Int) : floatOfInt .f32 z < 4294967296 := by simpa [Lit.wf] using floatOfInt_wf .f32 z

/-- small integers, divided by others that are not 0, give a float -/
theorem quo_small (z d : Int) (hz1 : -1000 ≤ z) (hz2 : z ≤ 1000) (hd1 : 1 ≤ d) (hd2 : d ≤ 1000) : ∃ r, floatBits .quo .f32 (floatOfInt .f32 z) (floatOfInt .f32 d) = some r ∧ r < 4294967296 := by
  obtain ⟨m, p, e, hs, _⟩ := (repr32 (m := z.natAbs) (p := 0) (by omega) (by decide) (by decide)).read (decide (z < 0))
  obtain ⟨m', p', e', hs', _⟩ := (repr32 (m := d.natAbs) (p := 0) (by omega) (by decide) (by decide)).read (decide (d < 0))
  have hne : m' ≠ 0 := fun h => by
    have := hs'.zero_iff.1 h
    omega
  have hdiv : ∃ r, floatBits .quo .f32 (floatOfInt .f32 z) (floatOfInt .f32 d) = some r := by
    show ∃ r, Ieee.single.div (Ieee.single.nearest _ _ _) (Ieee.single.nearest _ _ _) = some r
    unfold Ieee.Format.div
    rw [e, e']
    unfold Ieee.Datum.quotient
    simp only [if_neg hne]
    exact ⟨_, rfl⟩
  obtain ⟨r, hr⟩ := hdiv
  exact ⟨r, hr, by simpa [Lit.wf] using floatBits_wf hr⟩

set_option maxHeartbeats 400000 in
theorem strange_any (g B n c : Nat) (A : Option Addr) (bs : List Nat) (w : World) (hs : Src w g B A n c bs) :
    Calls Try.prog 56 #[.pointer (some ⟨g, 0, none⟩)] w fun e w' => Drawn w g B n c A bs e w' := by
  have Hs := Lib.hid hs
  have hop : ∀ t w, (binOp .sub t (.float .f32 2139095040) (.float .f32 2139095040)).run Try.prog w = .ok (.float .f32 (nanOf w 2139095040 2139095040)) w.drew := fun t w => run_nan32 w .sub (.inr (.inl rfl)) t _ _ huge_sub
  have hng : Op.unary .neg (.float .f32 2139095040) = pure (.float .f32 4286578688) := by
    show pure (Value.float .f32 (Op.negFloat .f32 2139095040)) = _
    rw [negFloat32 _ (by decide), if_neg (by decide)]
  clear hs
  go_enter Try.func56, Try.ntmps56
  go_wp2_with fail
  refine (huge_any _).mono ?_
  rintro e w' ⟨rfl, rfl⟩
  go_wp2_with fail
  refine (next_any g B n c A bs 5 _ Hs.out).mono ?_
  rintro e w' ⟨r, rfl, r0, r1, hs', hg⟩
  have hr5 : r < 5 := r1 (by decide)
  have Hs' := Lib.hid hs'
  have Hg := Lib.hid hg
  clear hs' hg r1
  have hr : r = 0 ∨ r = 1 ∨ r = 2 ∨ r = 3 ∨ r = 4 := by omega
  clear r0 hr5
  rcases hr with rfl | rfl | rfl | rfl | rfl
  · go_wp2_with fail
    go_ret
    exact ⟨_, rfl, by decide, Hs'.out, Hg.out⟩
  · go_wp2_with fail
    go_ret
    exact ⟨_, rfl, by decide, Hs'.out, Hg.out⟩
  · go_wp2_with fail
    go_ret
    exact ⟨_, rfl, nan32_lt _ _ _, Hs'.out.drewN 1, grown_drewN' Hg.out 1⟩
  · go_wp2_with fail
    refine (turned_yes 0 _ (by decide) (by decide)).mono ?_
    rintro e w' ⟨rfl, rfl⟩
    rw [if_neg (by decide)]
    go_wp2_with fail
    go_ret
    exact ⟨_, rfl, by decide, Hs'.out, Hg.out⟩
  · go_wp2_with fail
    go_ret
    exact ⟨_, rfl, by decide, Hs'.out, Hg.out⟩

theorem grown_trans' {a b c : World} {g : Nat} (h : a.grownBy b (some g)) (k : b.grownBy c (some g)) : a.grownBy c (some g) :=
  ⟨k.os.trans h.os, k.tape.trans h.tape, k.output.trans h.output, Nat.le_trans h.size k.size, fun i hi hn => (k.block i (Nat.lt_of_lt_of_le hi h.size) hn).trans (h.block i hi hn)⟩
theorem grown_alloc' {a b : World} {g : Nat} (h : a.grownBy b (some g)) (o : Obj) : a.grownBy (b.alloc o) (some g) :=
  ⟨h.os, h.tape, h.output, Nat.le_trans h.size (by simp), fun i hi hn => (Below.heap_alloc b o i (Nat.lt_of_lt_of_le hi h.size)).trans (h.block i hi hn)⟩
theorem Src.alloc {w : World} {g B n c : Nat} {A : Option Addr} {bs : List Nat} (h : Src w g B A n c bs) (o : Obj) : Src (w.alloc o) g B A n c bs := by
  obtain ⟨p, h0, h1, h2, h3, h4, h5, h6⟩ := h
  have hg : g < w.heap.size := by
    rcases Nat.lt_or_ge g w.heap.size with h | h
    · exact h
    · rw [Array.getElem?_eq_none h] at h1; cases h1
  exact ⟨p, h0, (Below.heap_alloc w o g hg).trans h1, h2, h3, h4, h5.carry (fun q hq => World.cell?_alloc_lt w o q (by omega)), h6⟩

theorem Src.lt {w : World} {g B n c : Nat} {A : Option Addr} {bs : List Nat} (h : Src w g B A n c bs) : B ≤ g ∧ g < w.heap.size := by
  obtain ⟨p, h0, h1, h2, h3, h4, h5, h6⟩ := h
  refine ⟨h4, ?_⟩
  rcases Nat.lt_or_ge g w.heap.size with h | h
  · exact h
  · rw [Array.getElem?_eq_none h] at h1; cases h1

theorem pick_new (ls : List Int) (cs : Array Value) (t : TypeId) (g B n c len cap : Nat) (A : Option Addr) (bs : List Nat) (w : World) (hs : Src w g B A n c bs)
    (hcs : cs = (ls.map (Value.int .i64)).toArray) (hl : ls.length = len) (h0 : 0 < len) (hm : len ≤ 1000) :
    Calls Try.prog 44 #[.pointer (some ⟨g, 0, none⟩), .slice (some ⟨w.heap.size, 0, none⟩) len cap] (w.alloc (.cells cs t)) fun e w' => ∃ r ∈ ls, e = .returned (.int .i64 r) ∧ Src w' g B A n c bs ∧ w.grownBy w' (some g) := by
  refine (pick_any g B n c w.heap.size len cap A bs ls _ (hs.alloc _) hl h0 hm (fun k hk => ?_) (by have := hs.lt; omega)).mono ?_
  · rw [cell_of_row (w.alloc (.cells cs t)) w.heap.size k cs t (0, 0) (heap_alloc_new w _), hcs]
    simp [List.getElem?_eq_getElem hk]
  · rintro e w' ⟨r, hr, he, h1, h2⟩
    exact ⟨r, hr, he, h1, grown_trans' (grown_alloc' (World.grownBy.refl w _) _) h2⟩

set_option maxHeartbeats 8000000 in
theorem draw_any (g B n c : Nat) (A : Option Addr) (bs : List Nat) (w : World) (hs : Src w g B A n c bs) :
    Calls Try.prog 57 #[.pointer (some ⟨g, 0, none⟩)] w fun e w' => Drawn w g B n c A bs e w' := by
  have Hs := Lib.hid hs
  clear hs
  go_enter Try.func57, Try.ntmps57
  go_wp2_with fail
  refine (next_any g B n c A bs 10 _ Hs.out).mono ?_
  rintro e w1 ⟨r, rfl, r0, r1, hs', hg⟩
  have hr10 : r < 10 := r1 (by decide)
  have Hs1 := Lib.hid hs'
  have Hg1 := Lib.hid hg
  clear hs' hg r1
  have hr : r = 0 ∨ r = 1 ∨ r = 2 ∨ r = 3 ∨ r = 4 ∨ r = 5 ∨ r = 6 ∨ r = 7 ∨ r = 8 ∨ r = 9 := by omega
  clear r0 hr10
  rcases hr with rfl | rfl | rfl | rfl | rfl | rfl | rfl | rfl | rfl | rfl
  · go_wp2_with fail
    refine (next_any g B n c A bs 41 _ Hs1.out).mono ?_
    rintro e w2 ⟨z, rfl, z0, z1, hs', hg⟩
    have Hs2 := Lib.hid hs'
    have Hg2 := Lib.hid (grown_trans' Hg1.out hg)
    clear hs' hg z1 z0
    go_wp2_with fail
    go_ret
    exact ⟨_, rfl, int32_lt _, Hs2.out, Hg2.out⟩
  · go_wp2_with fail
    refine (next_any g B n c A bs 41 _ Hs1.out).mono ?_
    rintro e w2 ⟨z, rfl, z0, z1, hs', hg⟩
    have Hs2 := Lib.hid hs'
    have Hg2 := Lib.hid (grown_trans' Hg1.out hg)
    clear hs' hg z1 z0
    go_wp2_with fail
    go_ret
    exact ⟨_, rfl, int32_lt _, Hs2.out, Hg2.out⟩
  · go_wp2_with fail
    refine (next_any g B n c A bs 2001 _ Hs1.out).mono ?_
    rintro e w2 ⟨z, rfl, z0, z1, hs', hg⟩
    have hz2 : z ≤ 2000 := by have := z1 (by decide); omega
    have Hs2 := Lib.hid hs'
    have Hg2 := Lib.hid (grown_trans' Hg1.out hg)
    clear hs' hg z1
    go_wp2_with fail
    refine (pick_new [2, 4, 16, 128, 3, 10, 1000] _ _ g B n c 7 7 A bs w2 Hs2.out rfl rfl (by decide) (by decide)).mono ?_
    rintro e w3 ⟨d, hd, rfl, hs', hg⟩
    have hd1 : 1 ≤ d ∧ d ≤ 1000 := by simp at hd; omega
    obtain ⟨q, hq, hql⟩ := quo_small (z - 1000) d (by omega) (by omega) hd1.1 hd1.2
    have hop : ∀ t w, (binOp .quo t (.float .f32 (floatOfInt .f32 (z - 1000))) (.float .f32 (floatOfInt .f32 d))).run Try.prog w = .ok (.float .f32 q) w := fun t w => run_float_arith w .quo t .f32 _ _ _ hq
    have Hq := Lib.hid hql
    have Hs3 := Lib.hid hs'
    have Hg3 := Lib.hid (grown_trans' Hg2.out hg)
    clear hs' hg hd hd1 hq hql
    go_wp2_with fail
    go_ret
    exact ⟨_, rfl, Hq.out, Hs3.out, Hg3.out⟩
  · go_wp2_with fail
    refine (next_any g B n c A bs 2001 _ Hs1.out).mono ?_
    rintro e w2 ⟨z, rfl, z0, z1, hs', hg⟩
    have hz2 : z ≤ 2000 := by have := z1 (by decide); omega
    have Hs2 := Lib.hid hs'
    have Hg2 := Lib.hid (grown_trans' Hg1.out hg)
    clear hs' hg z1
    go_wp2_with fail
    refine (pick_new [2, 4, 16, 128, 3, 10, 1000] _ _ g B n c 7 7 A bs w2 Hs2.out rfl rfl (by decide) (by decide)).mono ?_
    rintro e w3 ⟨d, hd, rfl, hs', hg⟩
    have hd1 : 1 ≤ d ∧ d ≤ 1000 := by simp at hd; omega
    obtain ⟨q, hq, hql⟩ := quo_small (z - 1000) d (by omega) (by omega) hd1.1 hd1.2
    have hop : ∀ t w, (binOp .quo t (.float .f32 (floatOfInt .f32 (z - 1000))) (.float .f32 (floatOfInt .f32 d))).run Try.prog w = .ok (.float .f32 q) w := fun t w => run_float_arith w .quo t .f32 _ _ _ hq
    have Hq := Lib.hid hql
    have Hs3 := Lib.hid hs'
    have Hg3 := Lib.hid (grown_trans' Hg2.out hg)
    clear hs' hg hd hd1 hq hql
    go_wp2_with fail
    go_ret
    exact ⟨_, rfl, Hq.out, Hs3.out, Hg3.out⟩
  · go_wp2_with fail
    refine (next_any g B n c A bs 255 _ Hs1.out).mono ?_
    rintro e w2 ⟨z, rfl, z0, z1, hs', hg⟩
    have hz2 : z ≤ 254 := by have := z1 (by decide); omega
    have Hs2 := Lib.hid hs'
    have Hg2 := Lib.hid (grown_trans' Hg1.out hg)
    clear hs' hg z1
    go_wp2_with fail
    refine (next_any g B n c A bs 5 _ Hs2.out).mono ?_
    rintro e w3 ⟨x, rfl, x0, x1, hs', hg⟩
    have hx2 : x ≤ 4 := by have := x1 (by decide); omega
    have Hs3 := Lib.hid hs'
    have Hg3 := Lib.hid (grown_trans' Hg2.out hg)
    clear hs' hg x1
    go_wp2_with fail
    all_goals
      refine (next_any g B n c A bs 2 _ Hs3.out).mono ?_
      rintro e w9 ⟨y, rfl, y0, y1, hs', hg⟩
      have hy : y < 2 := y1 (by decide)
      have Hs9 := Lib.hid hs'
      have Hg9 := Lib.hid (grown_trans' Hg3.out hg)
      clear hs' hg y1
      have hyy : y = 0 ∨ y = 1 := by omega
      clear y0 hy
      rcases hyy with rfl | rfl
      all_goals
        go_wp2_with fail
        refine (at_any _ _ (by omega) (by omega)).mono ?_
        rintro e w' ⟨rfl, rfl⟩
        go_wp2_with fail
        go_ret
        exact ⟨_, rfl, at32_lt' _ (by omega) (by omega), Hs9.out, Hg9.out⟩
  · go_wp2_with fail
    refine (next_any g B n c A bs 8388608 _ Hs1.out).mono ?_
    rintro e w2 ⟨z, rfl, z0, z1, hs', hg⟩
    have hz2 : z ≤ 8388607 := by have := z1 (by decide); omega
    have Hs2 := Lib.hid hs'
    have Hg2 := Lib.hid (grown_trans' Hg1.out hg)
    clear hs' hg z1
    go_wp2_with fail
    all_goals
      refine (next_any g B n c A bs 2 _ Hs2.out).mono ?_
      rintro e w9 ⟨y, rfl, y0, y1, hs', hg⟩
      have hy : y < 2 := y1 (by decide)
      have Hs9 := Lib.hid hs'
      have Hg9 := Lib.hid (grown_trans' Hg2.out hg)
      clear hs' hg y1
      have hyy : y = 0 ∨ y = 1 := by omega
      clear y0 hy
      rcases hyy with rfl | rfl
      all_goals
        go_wp2_with fail
        refine (at_any _ _ (by omega) (by omega)).mono ?_
        rintro e w' ⟨rfl, rfl⟩
        go_wp2_with fail
        go_ret
        exact ⟨_, rfl, at32_lt' _ (by omega) (by omega), Hs9.out, Hg9.out⟩
  · go_wp2_with fail
    refine (next_any g B n c A bs 8388608 _ Hs1.out).mono ?_
    rintro e w2 ⟨z, rfl, z0, z1, hs', hg⟩
    have hz2 : z ≤ 8388607 := by have := z1 (by decide); omega
    have Hs2 := Lib.hid hs'
    have Hg2 := Lib.hid (grown_trans' Hg1.out hg)
    clear hs' hg z1
    go_wp2_with fail
    all_goals
      refine (next_any g B n c A bs 2 _ Hs2.out).mono ?_
      rintro e w9 ⟨y, rfl, y0, y1, hs', hg⟩
      have hy : y < 2 := y1 (by decide)
      have Hs9 := Lib.hid hs'
      have Hg9 := Lib.hid (grown_trans' Hg2.out hg)
      clear hs' hg y1
      have hyy : y = 0 ∨ y = 1 := by omega
      clear y0 hy
      rcases hyy with rfl | rfl
      all_goals
        go_wp2_with fail
        refine (at_any _ _ (by omega) (by omega)).mono ?_
        rintro e w' ⟨rfl, rfl⟩
        go_wp2_with fail
        go_ret
        exact ⟨_, rfl, at32_lt' _ (by omega) (by omega), Hs9.out, Hg9.out⟩
  · go_wp2_with fail
    refine (next_any g B n c A bs 16777216 _ Hs1.out).mono ?_
    rintro e w2 ⟨z, rfl, z0, z1, hs', hg⟩
    have hz2 : z ≤ 16777215 := by have := z1 (by decide); omega
    have Hs2 := Lib.hid hs'
    have Hg2 := Lib.hid (grown_trans' Hg1.out hg)
    clear hs' hg z1
    go_wp2_with fail
    all_goals
      refine (next_any g B n c A bs 2 _ Hs2.out).mono ?_
      rintro e w9 ⟨y, rfl, y0, y1, hs', hg⟩
      have hy : y < 2 := y1 (by decide)
      have Hs9 := Lib.hid hs'
      have Hg9 := Lib.hid (grown_trans' Hg2.out hg)
      clear hs' hg y1
      have hyy : y = 0 ∨ y = 1 := by omega
      clear y0 hy
      rcases hyy with rfl | rfl
      all_goals
        go_wp2_with fail
        refine (at_any _ _ (by omega) (by omega)).mono ?_
        rintro e w' ⟨rfl, rfl⟩
        go_wp2_with fail
        go_ret
        exact ⟨_, rfl, at32_lt' _ (by omega) (by omega), Hs9.out, Hg9.out⟩
  · go_wp2_with fail
    refine (pick_new [0, 1, 2, 3, 8388607, 8388608, 8388609, 2139095039, 2139095038, 1065353216, 1065353217] _ _ g B n c 11 11 A bs w1 Hs1.out rfl rfl (by decide) (by decide)).mono ?_
    rintro e w2 ⟨d, hd, rfl, hs', hg⟩
    have hd1 : 0 ≤ d ∧ d ≤ 2139095039 := by simp at hd; omega
    have Hd := Lib.hid hd1
    have Hs2 := Lib.hid hs'
    have Hg2 := Lib.hid (grown_trans' Hg1.out hg)
    clear hs' hg hd hd1
    go_wp2_with fail
    refine (at_any d _ (by have := Hd.out; omega) (by have := Hd.out; omega)).mono ?_
    rintro e w' ⟨rfl, rfl⟩
    go_wp2_with fail
    go_ret
    exact ⟨_, rfl, at32_lt' _ (by have := Hd.out; omega) (by have := Hd.out; omega), Hs2.out, Hg2.out⟩
  · go_wp2_with fail
    refine (next_any g B n c A bs 255 _ Hs1.out).mono ?_
    rintro e w2 ⟨z, rfl, z0, z1, hs', hg⟩
    have hz2 : z ≤ 254 := by have := z1 (by decide); omega
    have Hs2 := Lib.hid hs'
    have Hg2 := Lib.hid (grown_trans' Hg1.out hg)
    clear hs' hg z1
    go_wp2_with fail
    refine (next_any g B n c A bs 8388608 _ Hs2.out).mono ?_
    rintro e w3 ⟨x, rfl, x0, x1, hs', hg⟩
    have hx2 : x ≤ 8388607 := by have := x1 (by decide); omega
    have Hs3 := Lib.hid hs'
    have Hg3 := Lib.hid (grown_trans' Hg2.out hg)
    clear hs' hg x1
    go_wp2_with fail
    all_goals
      refine (next_any g B n c A bs 2 _ Hs3.out).mono ?_
      rintro e w9 ⟨y, rfl, y0, y1, hs', hg⟩
      have hy : y < 2 := y1 (by decide)
      have Hs9 := Lib.hid hs'
      have Hg9 := Lib.hid (grown_trans' Hg3.out hg)
      clear hs' hg y1
      have hyy : y = 0 ∨ y = 1 := by omega
      clear y0 hy
      rcases hyy with rfl | rfl
      all_goals
        go_wp2_with fail
        refine (at_any _ _ (by omega) (by omega)).mono ?_
        rintro e w' ⟨rfl, rfl⟩
        go_wp2_with fail
        go_ret
        exact ⟨_, rfl, at32_lt' _ (by omega) (by omega), Hs9.out, Hg9.out⟩

theorem spoil_any (g B n c : Nat) (A : Option Addr) (bs : List Nat) (w : World) (hs : Src w g B A n c bs) :
    Calls Try.prog 34 #[.pointer (some ⟨g, 0, none⟩)] w fun e w' => Drawn w g B n c A bs e w' := by
  have Hs := Lib.hid hs
  clear hs
  go_enter Try.func34, Try.ntmps34
  go_wp2_with fail
  refine (next_any g B n c A bs 16 _ Hs.out).mono ?_
  rintro e w1 ⟨r, rfl, r0, r1, hs', hg⟩
  have Hs1 := Lib.hid hs'
  have Hg1 := Lib.hid hg
  clear hs' hg r1 r0
  by_cases hr : r = 0
  · have hd : (r == 0) = true := by simpa using hr
    clear hr
    go_wp2_with fail
    refine (strange_any g B n c A bs _ Hs1.out).mono ?_
    rintro e w2 ⟨b, rfl, hb, hs', hg⟩
    have Hb := Lib.hid hb
    have Hs2 := Lib.hid hs'
    have Hg2 := Lib.hid (grown_trans' Hg1.out hg)
    clear hs' hg hb
    go_wp2_with fail
    go_ret
    exact ⟨b, rfl, Hb.out, Hs2.out, Hg2.out⟩
  · have hd : (r == 0) = false := by simpa using hr
    clear hr
    go_wp2_with fail
    refine (draw_any g B n c A bs _ Hs1.out).mono ?_
    rintro e w2 ⟨b, rfl, hb, hs', hg⟩
    have Hb := Lib.hid hb
    have Hs2 := Lib.hid hs'
    have Hg2 := Lib.hid (grown_trans' Hg1.out hg)
    clear hs' hg hb
    go_wp2_with fail
    go_ret
    exact ⟨b, rfl, Hb.out, Hs2.out, Hg2.out⟩
end Go.Proofs.Ytjoflmclgiemoaa
