/- manifest.Take and the reference's: one shape for what is a manifest's and what is none's (no conditions). -/
import Derived.Test.YtdllenoclnmmdaaMh
import Derived.Test.YtdllenoclnmmdaaGr
namespace Go.Proofs.Ytdllenoclnmmdaa
open Go.RowKit Go.Shelf
attribute [local go_sem] Oper.semAt_some

/-- the manifest that is told: the zero one if there is none -/
def mfO (o : Option Mf) : Mf := o.getD ⟨0, [], []⟩
theorem take_caseM (t : ByteArray) (m : Mf) (ok : Bool) (hm : m = mfO (takeM t)) (hok : ok = (takeM t).isSome) (w : World) :
    Calls Try.prog 17 #[.string t] w fun e w' => ∃ a c a2 c2, e = .returned (.tuple #[.agg #[.int .i64 m.k, .slice a m.bs.length c, .slice a2 m.us.length c2], .int .i64 (if ok = true then 0 else 7)]) ∧ StrsIn w' a m.bs.length m.bs ∧ StrsIn w' a2 m.us.length m.us ∧ Kept w w' := by
  refine (mtake_any t w).mono ?_
  rintro e w' ⟨h1, h2, h3⟩
  subst hm hok
  cases ho : takeM t with
  | none => exact ⟨none, 0, none, 0, h1 ho, nil_strs _ _, nil_strs _ _, h3⟩
  | some m =>
    obtain ⟨ab, cb, au, cu, e, _, s1, s2⟩ := h2 m ho
    exact ⟨ab, cb, au, cu, e, s1, s2, h3⟩
theorem take_caseR (t : ByteArray) (m : Mf) (ok : Bool) (hm : m = mfO (takeM t)) (hok : ok = (takeM t).isSome) (w : World) :
    Calls Try.prog 48 #[.string t] w fun e w' => ∃ a c a2 c2, e = .returned (.tuple #[.agg #[.int .i64 m.k, .slice a m.bs.length c, .slice a2 m.us.length c2], .bool ok]) ∧ StrsIn w' a m.bs.length m.bs ∧ StrsIn w' a2 m.us.length m.us ∧ Kept w w' := by
  refine (rmtake_any t w).mono ?_
  rintro e w' ⟨h1, h2, h3⟩
  subst hm hok
  cases ho : takeM t with
  | none => exact ⟨none, 0, none, 0, h1 ho, nil_strs _ _, nil_strs _ _, h3⟩
  | some m =>
    obtain ⟨ab, cb, au, cu, e, _, s1, s2⟩ := h2 m ho
    exact ⟨ab, cb, au, cu, e, s1, s2, h3⟩
end Go.Proofs.Ytdllenoclnmmdaa
