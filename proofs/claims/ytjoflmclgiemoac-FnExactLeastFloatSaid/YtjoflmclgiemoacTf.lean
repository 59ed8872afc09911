/- The walk of the laws' toFloat32S: a copy in memory of its own. -/
import Derived.Test.YtjoflmclgiemoacIb
import Derived.Test.YtjoflmclgiemoacSl
namespace Go.Proofs.Ytjoflmclgiemoac
open Go.RowKit

theorem infoF : (Try.prog.info? 22).map (fun i => (i.zero, i.size, i.bytes)) = some (some (.float .f32 0), 1, 4) := by kernel_rfl

set_option maxHeartbeats 400000 in
theorem toF_any (A : Option Addr) (n c : Nat) (xs : List Value) (w : World) (hr : Rd w w.heap.size A xs) (hn : xs.length = n) (hf : ∀ u ∈ xs, ∃ b, u = .float .f32 b) (hm : n ≤ 1048576) :
    Calls Try.prog 16 #[.slice A n c] w fun e w' => ∃ v, e = .returned v ∧ w'.ownsRow w.heap.size 22 1 v n xs ∧ Below w.heap.size w w' := by
  obtain ⟨i0, hi0, hz0, hz1, hz2⟩ := info_parts infoF
  have hbytes : i0.bytes * n ≤ 281474976710656 := by rw [hz2]; omega
  have hst := store_float Try.prog
  go_enter Try.func16, Try.ntmps16
  go_wp2_with (refine wpList_make_full _ rfl _ _ _ rfl w.heap.size 22 i0 _ 1 Try.underlying32 hi0 hz0 hz1 _ _ _ _ n rfl rfl rfl rfl hbytes (by unfold maxLen; omega) (Nat.le_refl _) ?_; intro w1 hown hg)
  obtain ⟨ys, hys⟩ : ∃ ys, ys = (madeCells (Value.float FloatKind.f32 0).cells (n * 1)).toList := ⟨_, rfl⟩
  rw [← hys] at hown
  have hyl : ys.length = n := by have := hown.1; omega
  have hb1 : Below w.heap.size w w1 := (Below.refl _ _).grown hg (Nat.le_refl _) (by simp)
  have Hyl := Lib.hid hyl
  have Hn := Lib.hid hn
  clear hys hyl hn hg
  go_loopw [4] (fun i wr => ∃ k : Nat, k ≤ n ∧ i = .int .i64 k ∧ wr.ownsRow w.heap.size 22 1 (.slice (some ⟨w.heap.size, 0, none⟩) n n) n (xs.take k ++ ys.drop k) ∧ Below w.heap.size w wr) (fun i _ => n - (intOf i).toNat)
  case atStart => exact ⟨0, Nat.zero_le _, rfl, by simpa using hown, hb1⟩
  case round =>
    clear hown hb1
    obtain ⟨k, hk, rfl, hown, hb⟩ := hrel
    by_cases hlt : k < n
    · have hkx : k < xs.length := by rw [Hn.out]; exact hlt
      obtain ⟨a, ha, _⟩ := hr.some_ (by omega)
      subst ha
      obtain ⟨b, hxb⟩ := hf _ (List.getElem_mem hkx)
      have hc1 := (hr.below hb).cell hkx
      have hc2 := hown.cellAt k (by omega)
      have hf2 := hown.frozenAt k
      have hc2' : ∃ u, wr.cell? ⟨w.heap.size, k, none⟩ = some u := ⟨_, by rw [hc2]; exact List.getElem?_eq_getElem (by have := Hyl.out; simp; omega)⟩
      obtain ⟨u, hu⟩ := hc2'
      have hst2 := hown.stored k xs[k]
      rw [take_succ_set hkx (by rw [Hyl.out, Hn.out])] at hst2
      have H1 := Lib.hid hst2
      have H2 := Lib.hid hxb
      rw [hxb] at hc1
      clear hst2 hxb hc2 hr hown
      have Hb := Lib.hid hb
      clear hb
      go_wp2
      go_roundw
      case rel =>
        have h1 := H1.out
        rw [H2.out] at h1
        exact ⟨k + 1, by omega, by go_num, h1.1, Hb.out.grown h1.2 Hb.out.size (by simp)⟩
      case measure => simp [intOf]; omega
    · have hkn : k = n := by omega
      have H3 : Hid (xs.take k ++ ys.drop k = xs) := Lib.hid (by
        rw [List.take_of_length_le (by have := Hn.out; omega), List.drop_of_length_le (by have := Hyl.out; omega), List.append_nil])
      rw [H3.out] at hown
      subst hkn
      have Ho := Lib.hid hown
      have Hb := Lib.hid hb
      clear hr hown hb hf
      go_wp2
      go_ret
      exact ⟨_, rfl, Ho.out, Hb.out⟩
end Go.Proofs.Ytjoflmclgiemoac
