
/- Small laws for walks: what a world keeps of an earlier one, and a callee that changes nothing within a statement that leaves its order open (no conditions). -/
import Derived.WalkKit
import Derived.BigQuiet
import Derived.Deep.QuietTactic
import Derived.Lib.Hide
import Derived.Lib.SmallJoins
namespace Go.Proofs.Ytkfomaoillnehaa
open Go.RowKit

/-- A callee that changes nothing, in a region that draws. -/
theorem quietly {P : Program} {f : FuncId} {args : Array Value} {w : World} {n : Nat} {v : Value}
    (h : Calls P f args (w.drewN n) fun e w' => e = .returned v ∧ w.drewN n = w') : Calls P f args (w.drewN n) fun e w'' => e = .returned v ∧ ∃ m, w'' = w.drewN m :=
  h.mono fun _ _ ⟨he, hm⟩ => ⟨he, n, hm.symm⟩

/-- All that lay in W lies in wr as it did. -/
def Kept (W wr : World) : Prop := Below W.heap.size W wr
theorem Kept.refl (W : World) : Kept W W := Below.refl _ _
theorem Kept.trans {a b c : World} (h : Kept a b) (k : Kept b c) : Kept a c := Below.trans h (Below.mono k (Below.size h))
theorem Kept.below {a b : World} (h : Kept a b) : Below a.heap.size a b := h
theorem Kept.alloc {a b : World} (h : Kept a b) (o : Obj) : Kept a (b.alloc o) := Below.alloc h (Below.size h) o
theorem Kept.drewN {a b : World} (h : Kept a b) (n : Nat) : Kept a (b.drewN n) := Below.trans h ⟨rfl, rfl, rfl, Nat.le_refl _, fun _ _ => rfl⟩
theorem Kept.drew {a b : World} (h : Kept a b) : Kept a b.drew := Below.drew h
theorem Kept.setCell {a b : World} (h : Kept a b) {p : Addr} (hp : a.heap.size ≤ p.block) (u : Value) : Kept a (b.setCell p u) := Below.setCell h hp u
theorem Kept.cell {a b : World} (h : Kept a b) {k o : Nat} {v : Value} (hk : k < a.heap.size) (hc : a.cell? ⟨k, o, none⟩ = some v) : b.cell? ⟨k, o, none⟩ = some v :=
  (Below.cell h (p := ⟨k, o, none⟩) hk).trans hc
theorem Kept.size {a b : World} (h : Kept a b) : a.heap.size ≤ b.heap.size := Below.size h
theorem Kept.frozen {a b : World} (h : Kept a b) {k o : Nat} {v : Bool} (hk : k < a.heap.size) (hc : a.frozen? ⟨k, o, none⟩ = v) : b.frozen? ⟨k, o, none⟩ = v :=
  (Below.frozen h (p := ⟨k, o, none⟩) hk).trans hc
theorem cell_lt {W : World} {b o : Nat} {v : Value} (h : W.cell? ⟨b, o, none⟩ = some v) : b < W.heap.size := World.block_lt_of_cell? _ _ h
/-- the cells of a new block -/
theorem cell_new (W : World) (xs : Array Value) (t : TypeId) (i : Nat) : (W.alloc (.cells xs t)).cell? ⟨W.heap.size, i, none⟩ = xs[i]? := by
  simp
theorem size_alloc (W : World) (o : Obj) : (W.alloc o).heap.size = W.heap.size + 1 := by simp

/-- A whole block of cells, as it lies. -/
def BlockAt (w : World) (b : Nat) (C : Array Value) (t : TypeId) : Prop := w.heap[b]? = some (.cells C t (0, 0))
theorem BlockAt.lt {w : World} {b : Nat} {C : Array Value} {t : TypeId} (h : BlockAt w b C t) : b < w.heap.size := by
  rcases Nat.lt_or_ge b w.heap.size with k | k
  · exact k
  · have h' : w.heap[b]? = some (.cells C t (0, 0)) := h
    rw [Array.getElem?_eq_none k] at h'; cases h'
theorem BlockAt.cell {w : World} {b : Nat} {C : Array Value} {t : TypeId} (h : BlockAt w b C t) (i : Nat) : w.cell? ⟨b, i, none⟩ = C[i]? := Joins.cell_of_block h i
theorem BlockAt.free {w : World} {b : Nat} {C : Array Value} {t : TypeId} (h : BlockAt w b C t) (i : Nat) : w.frozen? ⟨b, i, none⟩ = false := Joins.unfrozen_of_block h i
theorem BlockAt.set {w : World} {b i : Nat} {C : Array Value} {t : TypeId} (h : BlockAt w b C t) (v : Value) : BlockAt (w.setCell ⟨b, i, none⟩ v) b (C.setIfInBounds i v) t := Joins.block_setCell h v
theorem BlockAt.kept {w w' : World} {b : Nat} {C : Array Value} {t : TypeId} (h : BlockAt w b C t) (k : Kept w w') : BlockAt w' b C t := (Below.block k b h.lt).trans h
theorem BlockAt.new (w : World) (C : Array Value) (t : TypeId) : BlockAt (w.alloc (.cells C t)) w.heap.size C t := by
  show (w.heap.push _)[w.heap.size]? = _
  simp
end Go.Proofs.Ytkfomaoillnehaa
