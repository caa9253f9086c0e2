
/- What this seat's walks stand on: the library's words and small laws of our own (no conditions). -/
import Derived.Test.YtkfomaoillnehaaRows
import Derived.Test.YtkfomaoillnehaaInts
import Derived.Test.YtkfomaoillnehaaText
import Derived.Test.YtkfomaoillnehaaRes
import Derived.IntWalk
import Derived.Outline
import Derived.Deep.DeepCutAuto
import Derived.Deep.LoopGhost
import Derived.Laws.OwnMore
namespace Go.Proofs.Ytkfomaoillnehaa
open Go.RowKit
theorem kept_grown {w a b : World} {v : Value} {e : TypeId} {s n : Nat} {xs : List Value} (h : Kept w a) (ho : a.ownsRow w.heap.size e s v n xs) (hg : a.grownBy b v.ownBlock) : Kept w b :=
  Below.trans h ⟨hg.os, hg.tape, hg.output, hg.size, fun k hk => hg.block k (Nat.lt_of_lt_of_le hk h.size) (fun e => by have := (ho.lt k e.symm).1; omega)⟩
theorem all_snoc {α : Type} (l : List α) (p : α → Bool) (k : Nat) (d : α) (h : k < l.length) : (l.take (k + 1)).all p = ((l.take k).all p && p (l.getD k d)) := by
  rw [List.take_succ_eq_append_getElem h, List.all_append]
  simp [List.getD, h]
theorem all_at {α : Type} (l : List α) (p : α → Bool) (k : Nat) (d : α) (h : k < l.length) (hp : p (l.getD k d) = false) : l.all p = false := by
  rw [List.all_eq_false]
  exact ⟨l[k], List.getElem_mem h, by have : l.getD k d = l[k] := by simp [List.getD, h]
                                      rw [← this, hp]; exact Bool.false_ne_true⟩
end Go.Proofs.Ytkfomaoillnehaa
