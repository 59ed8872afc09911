/- Results of the chapter's functions in the laws' boxes. -/
import Derived.Test.YtmabnnnpjpnhcaaBx
import Derived.Test.YtmabnnnpjpnhcaaTm
import Derived.Test.YtmabnnnpjpnhcaaWm
namespace Go.Proofs.Ytmabnnnpjpnhcaa
open Go.RowKit

theorem resForm {w : World} {lo hi : Nat} {z : Int} {val : Value} {S : Int} {N : Nat} {XS : List Int} (h : Wz w lo hi z val) (hS : S = z.sign) (hN : N = (limbs z.natAbs).length) (hX : XS = li (limbs z.natAbs)) : ∃ A c, val = .agg #[.int .i64 S, .slice A N c] ∧ Ow w lo hi A (vi XS) := by
  obtain ⟨A, c, h1, h2⟩ := h
  subst hS hN hX
  exact ⟨A, c, h1, h2⟩
theorem grown_size {w w' : World} {row : Option Nat} (h : w.grownBy w' row) : w.heap.size ≤ w'.heap.size := h.size
end Go.Proofs.Ytmabnnnpjpnhcaa
