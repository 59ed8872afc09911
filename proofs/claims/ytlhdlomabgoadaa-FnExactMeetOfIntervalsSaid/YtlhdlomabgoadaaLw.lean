/- From a law's walk to its statement: what a slice of floats that came in reads as, and that what came in reads behind the call as before it. -/
import Derived.Test.YtlhdlomabgoadaaSl
import Derived.Test.YtlhdlomabgoadaaRows
import Derived.Deep.Slices
import Derived.ChangeBook
import Derived.ChangeStays
import Derived.Deep.Frames
import Derived.ProofKit
import Derived.OpenShut
import Derived.WalkLawsBesides
namespace Go.Proofs.Ytlhdlomabgoadaa
set_option maxRecDepth 100000
open Go.ChangeShapes Go.WideShapes Go.ChangeAt Go.RowKit Go.Deep

theorem laidOut' : laidOutB Try.prog = true := by kernel_rfl

section
variable {H : Type} {enc : TypeId × Value → H}

/-- what came in reads behind the call as it did before, whatever new blocks there are -/
theorem carryT {t : TypeId} (hr : Try.prog.readableRec t = true) (hrow : t < Try.prog.types.size) {W W' : World} (hg : Grown W W') {v : Value} {d : DataW H} {p : List MemPlace} {sp : Nat → Bool}
    (h : DataW.Trod enc Try.prog W 0 (fun _ => true) true t v d p) (hlt : ∀ x ∈ p, x.block < W.heap.size) (hsp : ∀ x ∈ p, sp x.block = true) : DataW.Trod enc Try.prog W' 0 sp true t v d p := by
  obtain ⟨n, hn⟩ := h
  refine ⟨n, DataW.trod_stays (kids_book laidOut' hr) (book_sized hr) (fun h => by cases h) ⟨hrow, book_self t⟩ hn (fun x hx => ?_) hsp⟩
  exact hg.1.sameAt (hlt x hx) (fun h => h.elim) (fun b e => by
    have := DataW.trod_good (kids_book laidOut' hr) (fun h => by cases h) n t _ _ ⟨hrow, book_self t⟩ hn x hx
    subst e
    exact this)

/-- the same where the world is known below its old end alone -/
theorem carryB {t : TypeId} (hr : Try.prog.readableRec t = true) (hrow : t < Try.prog.types.size) {W W' : World} (hb : Below W.heap.size W W') {v : Value} {d : DataW H} {p : List MemPlace} {sp : Nat → Bool}
    (h : DataW.Trod enc Try.prog W 0 (fun _ => true) true t v d p) (hlt : ∀ x ∈ p, x.block < W.heap.size) (hsp : ∀ x ∈ p, sp x.block = true) : DataW.Trod enc Try.prog W' 0 sp true t v d p := by
  obtain ⟨n, hn⟩ := h
  exact ⟨n, DataW.trod_stays (kids_book laidOut' hr) (book_sized hr) (fun h => by cases h) ⟨hrow, book_self t⟩ hn (fun x hx => hb.same (hlt x hx)) hsp⟩

set_option maxRecDepth 100000 in
/-- a law's end: it has said true, what came in is carried over, all old blocks are as they were -/
theorem law_end {f : Func} {s : ChangeSpec} {apart fresh handsOn again : Bool} {W W' : World} {args : Array Value} {v : Value} {ds : List (DataW H)} {q pa : List MemPlace}
    (hW : DataW.Whole enc Try.prog f.params.toList s.vars apart W args.toList ds [] q) (hpa : q = pa) (hvs : s.vars = [])
    (hres : ∀ (b : Nat) (sp : Nat → Bool) (hd : Bool), DataW.TrodAll enc Try.prog W' b sp hd f.resultTypes.toList (v.resultList f.resultTypes.size) (s.fn H (ds ++ [])).results [])
    (hargs : ∀ sp : Nat → Bool, (∀ x ∈ q, sp x.block = true) → DataW.TrodAll enc Try.prog W' 0 sp true f.params.toList args.toList (s.fn H (ds ++ [])).args pa)
    (hvars : (s.fn H (ds ++ [])).vars = []) (hb : Below W.heap.size W W')
    (hok : ∀ (j : Nat) (t : TypeId) (r : Value), f.resultTypes[j]? = some t → (v.resultList f.resultTypes.size)[j]? = some r → Value.okWide Try.prog W' .any 0 t r) :
    s.post enc Try.prog f apart fresh handsOn again W args v W' := by
  subst hpa
  have old : ∀ x ∈ q, x.block < W.heap.size := hW.lt
  have nov : ∀ sp : Nat → Bool, DataW.TrodVars enc Try.prog W' sp s.vars (s.fn H (ds ++ [])).vars [] := fun sp => by rw [hvs, hvars]; rfl
  have ends : q ++ ([] : List MemPlace) = q := List.append_nil q
  refine ⟨ds, [], q, [], q, [], hW, hres _ _ _, hargs _ (fun x hx => by simpa using old x hx), nov _, ?_, ?_⟩
  · exact World.keptBut_mono (fun x hx => ⟨hx, .inr (by simpa using hx)⟩) (hb.frame (· ∈ q))
  · intro _
    have hz := hW
    obtain ⟨_, _, _, _, _, fz, nd⟩ := hz
    refine ⟨hok, (s.fn H (ds ++ [])).results ++ (s.fn H (ds ++ [])).args, (s.fn H (ds ++ [])).vars, q, ⟨q, [], ?_, nov _, ends.symm, ?_, nd⟩, fun x hx _ => ?_⟩
    · exact trodAll_append (hargs _ (fun _ _ => rfl)) (hres _ _ _)
    · intro b off hx
      exact (hb.frozen (p := ⟨b, off, none⟩) (old _ hx)).trans (fz b off hx)
    · simpa using hx

theorem trod_float {w : World} {base : Nat} {spare : Nat → Bool} {held : Bool} {t : TypeId} {k : FloatKind} {n : Nat} {v : Value} {y : DataW H × List MemPlace} (ht : Try.prog.underlying t = some (.float k))
    (h : DataW.trod enc Try.prog w base spare held n t [v] = some y) : ∃ b, v = .float k b ∧ (Lit.float k b).wf = true := by
  cases n with
  | zero => simp [DataW.trod] at h
  | succ n =>
    simp only [DataW.trod, ht] at h
    cases v <;> try (simp at h; done)
    rename_i k' b
    by_cases hw : (Lit.float k b).wf = true
    · by_cases hk : k' = k
      · subst hk; exact ⟨b, rfl, hw⟩
      · simp [hk] at h
    · exfalso
      by_cases hk : k' = k
      · subst hk; simp [hw] at h
      · simp [hk] at h

end
end Go.Proofs.Ytlhdlomabgoadaa
