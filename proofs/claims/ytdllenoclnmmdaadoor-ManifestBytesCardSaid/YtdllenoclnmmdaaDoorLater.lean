/- A region that draws its order and whose callees make memory but hand back none of it: one walk of its text's order; and such a head before one forced tail, inside any fence (no condition). -/
import Derived.Test.YtdllenoclnmmdaaDoorText
import Derived.Test.YtdllenoclnmmdaaDoorTail
namespace Go.Proofs.YtdllenoclnmmdaaDoor
instance (w : World) : Nonempty (Later w) := ⟨⟨w, Kept.refl w⟩⟩
theorem wpIn_region_later_tail {F : Fence} {n : Nat} {P : Program} {id : Nat} {Q : Exit → Act → World → Prop} {a : Act} {w : World} {l : List Oper} (m : Nat) (hm : P.follows .mixedOrders = true) (hnd : l.toArray.all Oper.noDefer = true) (hB : Region.lexTailB .any l.toArray m = true)
    (h : wpQuietIn F n P l.toArray (fun w' => ∃ u : Later w, w' = u.1) (fun a' => ∀ w', (∃ u : Later w, w' = u.1) → wpListIn F n P l.toArray Q (l.drop m) a' w') (l.take m) a) : (Code.region id l.toArray true).wpIn F n P Q a w :=
  wpIn_region_quiet_tail m hm hnd hB ⟨⟨{ w with drawn := w.drawn + 1 }, ⟨rfl, rfl, rfl, Nat.le_refl _, fun _ _ => rfl⟩⟩, rfl⟩ h
end Go.Proofs.YtdllenoclnmmdaaDoor
