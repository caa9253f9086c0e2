/- A region that draws its order and whose callees make memory but hand back none of it: one walk of its text's order (no conditions). -/
import Derived.Test.YtlpjpeonejbpjaaText
namespace Go.Proofs.Ytlpjpeonejbpjaa
instance (w : World) : Nonempty (Later w) := ⟨⟨w, Kept.refl w⟩⟩
open BigFrame in
macro "go_later " "(" tac:tactic ")" : tactic => `(tactic|
  (refine region_later (by kernel_rfl) (by kernel_rfl) ?_
   repeat (go_big_quiet_step ($tac:tactic))
   refine wpQuiet_nil ?_
   intro _ hw'
   obtain ⟨$(Lean.mkIdent `nq):ident, hw''⟩ := hw'
   subst hw''))
end Go.Proofs.Ytlpjpeonejbpjaa
