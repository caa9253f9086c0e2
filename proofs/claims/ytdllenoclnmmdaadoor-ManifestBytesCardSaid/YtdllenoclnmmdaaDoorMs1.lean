/- manifest.sorted, Sorted: lists in order, without twins, in new memory (lists of no great length). -/
import Derived.Test.YtdllenoclnmmdaaDoorGt
import Derived.Test.YtdllenoclnmmdaaDoorShelf
import Derived.Sort.OwnSorted
namespace Go.Proofs.YtdllenoclnmmdaaDoor
open Go.RowKit Go.Shelf
attribute [local go_sem] Oper.semAt_some

/-- a list of texts in memory that a call has made -/
def NewIn (w0 w : World) (a : Option Addr) (l cap : Nat) (ss : List ByteArray) : Prop := l ≤ cap ∧ StrsIn w a l ss ∧ (0 < l → ∃ g cs, a = some ⟨g, 0, none⟩ ∧ w0.heap.size ≤ g ∧ BlockAt w g cs 9)
theorem NewIn.kept {w0 w w' : World} {a : Option Addr} {l cap : Nat} {ss : List ByteArray} (h : NewIn w0 w a l cap ss) (k : Kept w w') : NewIn w0 w' a l cap ss :=
  ⟨h.1, h.2.1.kept k, fun q => by obtain ⟨g, cs, e, h1, h2⟩ := h.2.2 q; exact ⟨g, cs, e, h1, h2.kept k⟩⟩
end Go.Proofs.YtdllenoclnmmdaaDoor
