/- The draws of chapter 1: DrawBitsOf, DrawFloatOfBits, DrawFloatAtPlace, l01Two, DrawCompareFloats; and the laws' float5 and big. -/
import Derived.Test.YtjoflmclgiemoaaDf
import Derived.Test.YtjoflmclgiemoaaNx
namespace Go.Proofs.Ytjoflmclgiemoaa
open Go.RowKit

/-- a code that came in -/
structure Code1 (w : World) (A : Option Addr) (n : Nat) (bs : List Nat) : Prop where
  rd : Rd w w.heap.size A (bs.map fun b => Value.int .u8 (b : Nat))
  len : bs.length = n
  lt : ∀ b ∈ bs, b < 256
  le : n ≤ 4096
theorem Code1.below {w w' : World} {A : Option Addr} {n : Nat} {bs : List Nat} (h : Code1 w A n bs) (hb : Below w.heap.size w w') : Code1 w' A n bs :=
  ⟨(h.rd.below hb).up hb.size, h.len, h.lt, h.le⟩

theorem below_src {w w1 w2 : World} {g : Nat} (hb : Below w.heap.size w w1) (hg : w1.grownBy w2 (some g)) (h : w.heap.size ≤ g) : Below w.heap.size w w2 :=
  hb.grown hg hb.size (fun k hk => by injection hk with hk; omega)

theorem big_no (A : Option Addr) (n c : Nat) (w : World) (h : n ≤ 4096) : Calls Try.prog 9 #[.slice A n c] w fun e w' => e = .returned (.bool false) ∧ w = w' := by
  have hd : decide ((4096 : Int) < (n : Int)) = false := decide_eq_false (by omega)
  clear h
  go_enter Try.func9, Try.ntmps9
  go_wp2_with fail
  go_ret
  exact ⟨rfl, rfl⟩
theorem big_yes (A : Option Addr) (n c : Nat) (w : World) (h : 4096 < n) : Calls Try.prog 9 #[.slice A n c] w fun e w' => e = .returned (.bool true) ∧ w = w' := by
  have hd : decide ((4096 : Int) < (n : Int)) = true := decide_eq_true (by omega)
  clear h
  go_enter Try.func9, Try.ntmps9
  go_wp2_with fail
  go_ret
  exact ⟨rfl, rfl⟩

theorem drawBits_any (A : Option Addr) (n c : Nat) (bs : List Nat) (w : World) (h : Code1 w A n bs) :
    Calls Try.prog 10 #[.slice A n c] w fun e w' => ∃ b, e = .returned (.float .f32 b) ∧ b < 4294967296 ∧ Below w.heap.size w w' := by
  have H := Lib.hid h
  clear h
  go_enter Try.func10, Try.ntmps10
  go_wp2_with fail
  refine (from_any A n c bs _ H.out.rd H.out.len H.out.lt H.out.le).mono ?_
  rintro e w1 ⟨g, rfl, hs, hb⟩
  have Hs := Lib.hid hs
  have Hb := Lib.hid hb
  clear hs hb
  go_wp2_with fail
  refine (spoil_any g _ n c A bs _ Hs.out).mono ?_
  rintro e w2 ⟨b, rfl, hbl, hs', hg⟩
  have Hbl := Lib.hid hbl
  have Hb2 := Lib.hid (below_src Hb.out hg Hs.out.lt.1)
  clear hs' hg hbl
  go_wp2_with fail
  go_ret
  exact ⟨b, rfl, Hbl.out, Hb2.out⟩

set_option maxHeartbeats 1000000 in
theorem drawFob_any (A : Option Addr) (n c : Nat) (bs : List Nat) (w : World) (h : Code1 w A n bs) :
    Calls Try.prog 17 #[.slice A n c] w fun e w' => ∃ m, e = .returned (.int .i64 m) ∧ Below w.heap.size w w' := by
  have H := Lib.hid h
  clear h
  go_enter Try.func17, Try.ntmps17
  go_wp2_with fail
  refine (from_any A n c bs _ H.out.rd H.out.len H.out.lt H.out.le).mono ?_
  rintro e w1 ⟨g, rfl, hs, hb⟩
  have Hs := Lib.hid hs
  have Hb := Lib.hid hb
  clear hs hb
  go_wp2_with fail
  refine (next_any g _ n c A bs 256 _ Hs.out).mono ?_
  rintro e w2 ⟨z, rfl, z0, z1, hs', hg⟩
  have hz2 : z ≤ 255 := by have := z1 (by decide); omega
  have Hs2 := Lib.hid hs'
  have Hb2 := Lib.hid (below_src Hb.out hg Hs.out.lt.1)
  clear hs' hg z1
  go_wp2_with fail
  refine (next_any g _ n c A bs 8388608 _ Hs2.out).mono ?_
  rintro e w3 ⟨x, rfl, x0, x1, hs', hg⟩
  have hx2 : x ≤ 8388607 := by have := x1 (by decide); omega
  have Hs3 := Lib.hid hs'
  have Hb3 := Lib.hid (below_src Hb2.out hg Hs.out.lt.1)
  clear hs' hg x1
  go_wp2_with fail
  refine (next_any g _ n c A bs 100 _ Hs3.out).mono ?_
  rintro e w4 ⟨y, rfl, y0, y1, hs', hg⟩
  have hy2 : y ≤ 99 := by have := y1 (by decide); omega
  have Hs4 := Lib.hid hs'
  have Hb4 := Lib.hid (below_src Hb3.out hg Hs.out.lt.1)
  clear hs' hg y1
  go_wp2_with fail
  refine (spoil_any g _ n c A bs _ Hs4.out).mono ?_
  rintro e w5 ⟨b, rfl, hbl, hs', hg⟩
  have Hs5 := Lib.hid hs'
  have Hb5 := Lib.hid (below_src Hb4.out hg Hs.out.lt.1)
  have hbi : (bits32 b : Int) ≤ 4294967295 := by have := bits32_lt b hbl; omega
  have Hbl := Lib.hid hbl
  clear hs' hg hbl
  go_wp2_with fail
  refine (specBits_any b _ Hbl.out).mono ?_
  rintro e w6 ⟨rfl, nd, rfl⟩
  go_wp2_with fail
  refine (pick_new [z * 8388608 + x, y, 2139095040, 2139095041, 2147483647, (bits32 b : Int)] _ _ g _ n c 6 6 A bs _ (Hs5.out.drewN nd) rfl rfl (by decide) (by decide)).mono ?_
  rintro e w7 ⟨d, hd, rfl, hs', hg⟩
  have hd1 : 0 ≤ d ∧ d ≤ 4294967295 := by
    simp at hd
    omega
  have hd0 := hd1.1
  have hd2 := hd1.2
  have Hs7 := Lib.hid hs'
  have Hb7 := Lib.hid (below_src (below_drewN Hb5.out nd) hg Hs.out.lt.1)
  clear hs' hg hd hd1
  go_wp2_with fail
  refine (pick_new [-1, 4294967296, d] _ _ g _ n c 3 3 A bs _ Hs7.out rfl rfl (by decide) (by decide)).mono ?_
  rintro e w8 ⟨k, hk, rfl, hs', hg⟩
  have Hs8 := Lib.hid hs'
  have Hb8 := Lib.hid (below_src Hb7.out hg Hs.out.lt.1)
  clear hs' hg hk
  go_wp2_with fail
  refine (pick_new [d, d, d + 2147483648, d, d, k] _ _ g _ n c 6 6 A bs _ Hs8.out rfl rfl (by decide) (by decide)).mono ?_
  rintro e w9 ⟨m, hm, rfl, hs', hg⟩
  have Hb9 := Lib.hid (below_src Hb8.out hg Hs.out.lt.1)
  clear hs' hg hm
  go_wp2_with fail
  go_ret
  exact ⟨m, rfl, Hb9.out⟩

set_option maxHeartbeats 1000000 in
theorem drawAt_any (A : Option Addr) (n c : Nat) (bs : List Nat) (w : World) (h : Code1 w A n bs) :
    Calls Try.prog 24 #[.slice A n c] w fun e w' => ∃ m, e = .returned (.int .i64 m) ∧ Below w.heap.size w w' := by
  have H := Lib.hid h
  clear h
  go_enter Try.func24, Try.ntmps24
  go_wp2_with fail
  refine (from_any A n c bs _ H.out.rd H.out.len H.out.lt H.out.le).mono ?_
  rintro e w1 ⟨g, rfl, hs, hb⟩
  have Hs := Lib.hid hs
  have Hb := Lib.hid hb
  clear hs hb
  go_wp2_with fail
  refine (next_any g _ n c A bs 256 _ Hs.out).mono ?_
  rintro e w2 ⟨z, rfl, z0, z1, hs', hg⟩
  have hz2 : z ≤ 255 := by have := z1 (by decide); omega
  have Hs2 := Lib.hid hs'
  have Hb2 := Lib.hid (below_src Hb.out hg Hs.out.lt.1)
  clear hs' hg z1
  go_wp2_with fail
  refine (next_any g _ n c A bs 8388608 _ Hs2.out).mono ?_
  rintro e w3 ⟨x, rfl, x0, x1, hs', hg⟩
  have hx2 : x ≤ 8388607 := by have := x1 (by decide); omega
  have Hs3 := Lib.hid hs'
  have Hb3 := Lib.hid (below_src Hb2.out hg Hs.out.lt.1)
  clear hs' hg x1
  go_wp2_with fail
  refine (next_any g _ n c A bs 100 _ Hs3.out).mono ?_
  rintro e w4 ⟨y, rfl, y0, y1, hs', hg⟩
  have hy2 : y ≤ 99 := by have := y1 (by decide); omega
  have Hs4 := Lib.hid hs'
  have Hb4 := Lib.hid (below_src Hb3.out hg Hs.out.lt.1)
  clear hs' hg y1
  go_wp2_with fail
  refine (pick_new [z * 8388608 + x, y, 2139095040, 2139095041] _ _ g _ n c 4 4 A bs _ Hs4.out rfl rfl (by decide) (by decide)).mono ?_
  rintro e w7 ⟨d, hd, rfl, hs', hg⟩
  have hd1 : 0 ≤ d ∧ d ≤ 2147483647 := by
    simp at hd
    omega
  have hd0 := hd1.1
  have hd2 := hd1.2
  have Hs7 := Lib.hid hs'
  have Hb7 := Lib.hid (below_src Hb4.out hg Hs.out.lt.1)
  clear hs' hg hd hd1
  go_wp2_with fail
  refine (pick_new [d, -d] _ _ g _ n c 2 2 A bs _ Hs7.out rfl rfl (by decide) (by decide)).mono ?_
  rintro e w8 ⟨m, hm, rfl, hs', hg⟩
  have Hb8 := Lib.hid (below_src Hb7.out hg Hs.out.lt.1)
  clear hs' hg hm
  go_wp2_with fail
  go_ret
  exact ⟨m, rfl, Hb8.out⟩
end Go.Proofs.Ytjoflmclgiemoaa
