/- Small laws for walks: what a world keeps of an earlier one, and a callee that changes nothing within a statement that leaves its order open (no conditions). -/
import Derived.WalkKit
import Derived.BigQuiet
import Derived.Deep.QuietTactic
import Derived.Lib.Hide
namespace Go.Proofs.Ytfgfkgelgkabkaa
open Go.RowKit

/-- A callee that changes nothing, in a region that draws. -/
theorem quietly {P : Program} {f : FuncId} {args : Array Value} {w : World} {n : Nat} {v : Value}
    (h : Calls P f args (w.drewN n) fun e w' => e = .returned v ∧ w.drewN n = w') : Calls P f args (w.drewN n) fun e w'' => e = .returned v ∧ ∃ m, w'' = w.drewN m :=
  h.mono fun _ _ ⟨he, hm⟩ => ⟨he, n, hm.symm⟩

/-- All that lay in W lies in wr as it did. -/
def Kept (W wr : World) : Prop := Below W.heap.size W wr
theorem Kept.refl (W : World) : Kept W W := Below.refl _ _
theorem Kept.trans {a b c : World} (h : Kept a b) (k : Kept b c) : Kept a c := Below.trans h (Below.mono k (Below.size h))
theorem Kept.below {a b : World} (h : Kept a b) : Below a.heap.size a b := h
theorem Kept.alloc {a b : World} (h : Kept a b) (o : Obj) : Kept a (b.alloc o) := Below.alloc h (Below.size h) o
theorem Kept.drewN {a b : World} (h : Kept a b) (n : Nat) : Kept a (b.drewN n) := Below.trans h ⟨rfl, rfl, rfl, Nat.le_refl _, fun _ _ => rfl⟩
theorem Kept.drew {a b : World} (h : Kept a b) : Kept a b.drew := Below.drew h
theorem Kept.setCell {a b : World} (h : Kept a b) {p : Addr} (hp : a.heap.size ≤ p.block) (u : Value) : Kept a (b.setCell p u) := Below.setCell h hp u
theorem Kept.cell {a b : World} (h : Kept a b) {k o : Nat} {v : Value} (hk : k < a.heap.size) (hc : a.cell? ⟨k, o, none⟩ = some v) : b.cell? ⟨k, o, none⟩ = some v :=
  (Below.cell h (p := ⟨k, o, none⟩) hk).trans hc
theorem Kept.size {a b : World} (h : Kept a b) : a.heap.size ≤ b.heap.size := Below.size h
theorem Kept.frozen {a b : World} (h : Kept a b) {k o : Nat} {v : Bool} (hk : k < a.heap.size) (hc : a.frozen? ⟨k, o, none⟩ = v) : b.frozen? ⟨k, o, none⟩ = v :=
  (Below.frozen h (p := ⟨k, o, none⟩) hk).trans hc
theorem cell_lt {W : World} {b o : Nat} {v : Value} (h : W.cell? ⟨b, o, none⟩ = some v) : b < W.heap.size := World.block_lt_of_cell? _ _ h
/-- the cells of a new block -/
theorem cell_new (W : World) (xs : Array Value) (t : TypeId) (i : Nat) : (W.alloc (.cells xs t)).cell? ⟨W.heap.size, i, none⟩ = xs[i]? := by
  simp
theorem size_alloc (W : World) (o : Obj) : (W.alloc o).heap.size = W.heap.size + 1 := by simp
end Go.Proofs.Ytfgfkgelgkabkaa
