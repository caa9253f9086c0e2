/- Bytes of a block read as rows and columns: what stores, new blocks and writes elsewhere do to that (no conditions). -/
import Derived.Test.YtlpjpeonejbpjaaMatM
import Derived.Test.YtlpjpeonejbpjaaRange
namespace Go.Proofs.Ytlpjpeonejbpjaa
open Go.RowKit

/-- Cells read as r rows of c numbers. -/
def MatR (w : World) (b off r c : Nat) (F : Nat → Nat → Nat) : Prop := ∀ i j, i < r → j < c → w.cell? ⟨b, off + i * c + j, none⟩ = some (.int .u8 ((F i j : Nat) : Int))
theorem MatR.kept {w w' : World} {b off r c : Nat} {F : Nat → Nat → Nat} (h : MatR w b off r c F) (k : Kept w w') : MatR w' b off r c F := fun i j hi hj => k.cell (cell_lt (h i j hi hj)) (h i j hi hj)
/-- The same in a block that may be written. -/
structure Mat (w : World) (b off r c : Nat) (F : Nat → Nat → Nat) : Prop where
  blk : ∃ cs, BlockAt w b cs 5
  cell : MatR w b off r c F
theorem Mat.lt {w : World} {b off r c : Nat} {F : Nat → Nat → Nat} (h : Mat w b off r c F) : b < w.heap.size := by
  obtain ⟨cs, hb⟩ := h.blk; exact hb.lt
theorem Mat.free {w : World} {b off r c : Nat} {F : Nat → Nat → Nat} (h : Mat w b off r c F) (i : Nat) : w.frozen? ⟨b, i, none⟩ = false := by
  obtain ⟨cs, hb⟩ := h.blk; exact hb.free i
theorem Mat.kept {w w' : World} {b off r c : Nat} {F : Nat → Nat → Nat} (h : Mat w b off r c F) (k : Kept w w') : Mat w' b off r c F := by
  obtain ⟨cs, hb⟩ := h.blk; exact ⟨⟨cs, hb.kept k⟩, h.cell.kept k⟩
theorem Mat.congr {w : World} {b off r c : Nat} {F G : Nat → Nat → Nat} (h : Mat w b off r c F) (e : ∀ i j, i < r → j < c → F i j = G i j) : Mat w b off r c G :=
  ⟨h.blk, fun i j hi hj => by rw [← e i j hi hj]; exact h.cell i j hi hj⟩
theorem Mat.set {w : World} {b off r c i j : Nat} {F : Nat → Nat → Nat} (h : Mat w b off r c F) (hi : i < r) (hj : j < c) (v : Nat) : Mat (w.setCell ⟨b, off + i * c + j, none⟩ (.int .u8 (v : Int))) b off r c (upd F i j v) := by
  obtain ⟨cs, hb⟩ := h.blk
  refine ⟨⟨_, hb.set _⟩, fun i' j' hi' hj' => ?_⟩
  by_cases e : i' = i ∧ j' = j
  · obtain ⟨rfl, rfl⟩ := e
    rw [World.cell?_setCell_same _ _ _ (h.cell i' j' hi' hj')]
    simp [upd]
  · have hne : (⟨b, off + i * c + j, none⟩ : Addr) ≠ ⟨b, off + i' * c + j', none⟩ := fun h => e (by
      have h2 : off + i * c + j = off + i' * c + j' := (Addr.mk.inj h).2.1
      obtain ⟨e1, e2⟩ := idx_inj (c := c) (i := i) (j := j) (i' := i') (j' := j') hj hj' (by omega)
      exact ⟨e1.symm, e2.symm⟩)
    rw [World.cell?_setCell_other (h := hne), h.cell i' j' hi' hj']
    simp [upd, e]
theorem MatR.grown {w w' : World} {b off r c : Nat} {row : Option Nat} {F : Nat → Nat → Nat} (h : MatR w b off r c F) (g : w.grownBy w' row) (hne : some b ≠ row) : MatR w' b off r c F :=
  fun i j hi hj => (World.cell?_of_block (g.block b (cell_lt (h i j hi hj)) hne)).trans (h i j hi hj)
theorem Mat.grown {w w' : World} {b off r c : Nat} {row : Option Nat} {F : Nat → Nat → Nat} (h : Mat w b off r c F) (g : w.grownBy w' row) (hne : some b ≠ row) : Mat w' b off r c F := by
  obtain ⟨cs, hb⟩ := h.blk
  exact ⟨⟨cs, (g.block b hb.lt hne).trans hb⟩, h.cell.grown g hne⟩
theorem BlockAt.grown {w w' : World} {b : Nat} {C : Array Value} {t : TypeId} {row : Option Nat} (h : BlockAt w b C t) (g : w.grownBy w' row) (hne : some b ≠ row) : BlockAt w' b C t := (g.block b h.lt hne).trans h
theorem Mat.own {w w' : World} {b off r c : Nat} {row : Option Nat} {F : Nat → Nat → Nat} (h : Mat w b off r c F) (g : w.grownBy w' row) (hr : ∀ k, row = some k → ∃ o : Obj, w.heap[k]? = some o ∧ o.isCells = false) : Mat w' b off r c F := by
  refine h.grown g (fun e => ?_)
  obtain ⟨cs, hb⟩ := h.blk
  obtain ⟨o, ho, hc⟩ := hr b e.symm
  have hb' : w.heap[b]? = some (.cells cs 5 (0, 0)) := hb
  rw [hb'] at ho
  cases ho
  cases hc

theorem BlockAt.own {w w' : World} {b : Nat} {C : Array Value} {t : TypeId} {row : Option Nat} (h : BlockAt w b C t) (g : w.grownBy w' row) (hr : ∀ k, row = some k → ∃ o : Obj, w.heap[k]? = some o ∧ o.isCells = false) : BlockAt w' b C t := by
  refine h.grown g (fun e => ?_)
  obtain ⟨o, ho, hc⟩ := hr b e.symm
  have hb' : w.heap[b]? = some (.cells C t (0, 0)) := h
  rw [hb'] at ho
  cases ho
  cases hc

/-! ### worlds in which one block may have been written -/
theorem grown_refl (w : World) (row : Option Nat) : w.grownBy w row := ⟨rfl, rfl, rfl, Nat.le_refl _, fun _ _ _ => rfl⟩
theorem grown_trans {a b c : World} {row : Option Nat} (h : a.grownBy b row) (k : b.grownBy c row) : a.grownBy c row :=
  ⟨k.os.trans h.os, k.tape.trans h.tape, k.output.trans h.output, Nat.le_trans h.size k.size, fun i hi hne => (k.block i (Nat.lt_of_lt_of_le hi h.size) hne).trans (h.block i hi hne)⟩
theorem grown_kept {a b : World} (h : Kept a b) (row : Option Nat) : a.grownBy b row := ⟨Below.os h, Below.tape h, Below.output h, Below.size h, fun k hk _ => Below.block h k hk⟩
theorem grown_set (w : World) (b i : Nat) (v : Value) : w.grownBy (w.setCell ⟨b, i, none⟩ v) (some b) :=
  ⟨rfl, rfl, rfl, by simp, fun k _ hne => Below.heap_setCell w ⟨b, i, none⟩ v k (fun e => hne (by rw [e]))⟩
theorem Kept.grown {W a b : World} {row : Option Nat} (h : Kept W a) (g : a.grownBy b row) (hr : ∀ k, row = some k → W.heap.size ≤ k) : Kept W b := Below.grown h g (Below.size h) hr
theorem but_of_grown {R : Nat → Prop} {a b : World} {k : Nat} (g : a.grownBy b (some k)) (hR : R k) : CellsBut R a b :=
  ⟨g.size, fun i cs t fr hr hi => by
    have hlt : i < a.heap.size := (Array.getElem?_eq_some_iff.1 hi).1
    exact (g.block i hlt (fun e => hr (by cases e; exact hR))).trans hi⟩
theorem others_of_grown {a b : World} {k : Nat} (g : a.grownBy b (some k)) {cs : Array Value} {t : TypeId} (h : BlockAt a k cs t) : KeepsOthers a b :=
  KeepsOthers.of_grownBy g (fun j o e ho => by
    cases e
    have h' : a.heap[k]? = some (.cells cs t (0, 0)) := h
    rw [h'] at ho
    cases ho
    rfl)
theorem Mat.others {w w' : World} {b off r c : Nat} {F : Nat → Nat → Nat} (h : Mat w b off r c F) (g : w.grownBy w' (some b)) : KeepsOthers w w' := by
  obtain ⟨cs, hb⟩ := h.blk
  exact others_of_grown g hb
end Go.Proofs.Ytlpjpeonejbpjaa
