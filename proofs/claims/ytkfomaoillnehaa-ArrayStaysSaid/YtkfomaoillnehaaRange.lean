
/- Ranges over functions, walked where nothing is fenced off: small laws (no conditions). -/
import Derived.RangeFuncNested
import Derived.RangeFuncBound
import Derived.RangeFuncCalls
import Derived.RangeFuncLeaves
import Derived.Shelf.Abstract
import Derived.Shelf.RegionOpen
import Derived.OwnWalkIn
import Derived.TacticsInMore
import Derived.LoopNIn
import Derived.LoopIn
import Derived.Maps.AppendAt
import Derived.Test.YtkfomaoillnehaaText
namespace Go.Proofs.Ytkfomaoillnehaa
open Go.RowKit Go.Shelf

/-- A scope through which the run goes without a goto. -/
theorem wpIn_scope {n : Nat} {P : Program} {c : Code} {Q : Exit → Act → World → Prop} {a : Act} {w : World} (h : c.wpIn Fence.wide n P (Exit.noGoto Q) a w) : (Code.scope c).wpIn Fence.wide n P Q a w :=
  wpIn_wide.2 (wp_scope_straight (wpIn_wide.1 h))
theorem wp_of_in (n : Nat) {P : Program} {c : Code} {Q : Exit → Act → World → Prop} {a : Act} {w : World} (h : c.wpIn Fence.wide n P Q a w) : c.wp P Q a w := wpIn_wide.1 h
theorem noGoto_normal {Q : Exit → Act → World → Prop} {a : Act} {w : World} (h : Q .normal a w) : Exit.noGoto Q .normal a w := h
theorem noGoto_ret {Q : Exit → Act → World → Prop} {a : Act} {w : World} (h : Q .ret a w) : Exit.noGoto Q .ret a w := h
theorem box_of {W : World} {b : Nat} {v : Value} {t : TypeId} (h : W.heap[b]? = some (.cells #[v] t (0, 0))) : W.cell? ⟨b, 0, none⟩ = some v ∧ W.frozen? ⟨b, 0, none⟩ = false := by
  refine ⟨?_, ?_⟩
  · simp [World.cell?, h]
  · simp [World.frozen?, h]
/-- a new box -/
theorem box_new (W : World) (v : Value) (t : TypeId) : (W.alloc (.cells #[v] t)).cell? ⟨W.heap.size, 0, none⟩ = some v ∧ (W.alloc (.cells #[v] t)).frozen? ⟨W.heap.size, 0, none⟩ = false :=
  box_of (World.alloc_heap_new W _)
theorem box_later {W : World} {a : Addr} {v : Value} (o : Obj) (h : W.cell? a = some v) (hf : W.frozen? a = false) : (W.alloc o).cell? a = some v ∧ (W.alloc o).frozen? a = false :=
  ⟨cell_kept h (World.grownBy_alloc W o none) (fun r e => by cases e), (frozen_kept h (World.grownBy_alloc W o none) (fun r e => by cases e)).trans hf⟩

/-! ### what a round of a loop keeps: all blocks of cells but those that are its own to write -/
structure CellsBut (R : Nat → Prop) (A B : World) : Prop where
  size : A.heap.size ≤ B.heap.size
  block : ∀ k cs t fr, ¬ R k → A.heap[k]? = some (.cells cs t fr) → B.heap[k]? = some (.cells cs t fr)
theorem CellsBut.refl (R : Nat → Prop) (A : World) : CellsBut R A A := ⟨Nat.le_refl _, fun _ _ _ _ _ h => h⟩
theorem CellsBut.trans {R : Nat → Prop} {A B C : World} (h : CellsBut R A B) (k : CellsBut R B C) : CellsBut R A C :=
  ⟨Nat.le_trans h.size k.size, fun i cs t fr hr hi => k.block i cs t fr hr (h.block i cs t fr hr hi)⟩
theorem CellsBut.putObj {R : Nat → Prop} {w : World} (W : World) (l : Nat) (o o' : Obj) (_ : w.heap.size ≤ l) (h : W.heap[l]? = some o) (hc : o.isCells = false) (_ : o.isWalk = false) : CellsBut R W (W.putObj l o') := by
  refine ⟨by simp, fun k cs t fr _ hk => ?_⟩
  have hne : k ≠ l := fun e => by
    subst e
    rw [h] at hk
    cases hk
    cases hc
  rw [World.putObj_heap_other hne]
  exact hk
theorem CellsBut.of_kept {R : Nat → Prop} {A B : World} (h : Kept A B) : CellsBut R A B :=
  ⟨h.size, fun k cs t fr _ hk => by
    have hlt : k < A.heap.size := (Array.getElem?_eq_some_iff.1 hk).1
    exact (Below.block h k hlt).trans hk⟩
theorem CellsBut.setCell {R : Nat → Prop} {b i : Nat} (A : World) (v : Value) (hR : R b) : CellsBut R A (A.setCell ⟨b, i, none⟩ v) := by
  refine ⟨by simp, fun k cs t fr hr hk => ?_⟩
  have hne : k ≠ b := fun e => hr (by rw [e]; exact hR)
  exact (Below.heap_setCell A ⟨b, i, none⟩ v k hne).trans hk
theorem BlockAt.but {R : Nat → Prop} {A B : World} {b : Nat} {C : Array Value} {t : TypeId} (h : BlockAt A b C t) (k : CellsBut R A B) (hr : ¬ R b) : BlockAt B b C t := k.block b C t (0, 0) hr h
/-- The world grown by nothing that was there. -/
theorem grown_of_kept {A B : World} (h : Kept A B) : A.grownBy B none :=
  ⟨Below.os h, Below.tape h, Below.output h, Below.size h, fun k hk _ => Below.block h k hk⟩
theorem AbidesFrom.kept {β : Type} {B : Nat} {J : β → World → Prop} (h : AbidesFrom B J) {s : β} {A A' : World} (hs : J s A) (k : Kept A A') : J s A' :=
  h s A A' none hs (grown_of_kept k) (fun r e => by cases e)
theorem box_block (w : World) (v : Value) (t : TypeId) : BlockAt (w.alloc (.cells #[v] t)) w.heap.size #[v] t := BlockAt.new w #[v] t

/-- places set one by one, each by what it holds -/
def setBy (g : Nat → UInt8 → UInt8) (l : List UInt8) (i : Nat) : List UInt8 := l.set i (g i (l.getD i 0))
theorem setBy_length (g : Nat → UInt8 → UInt8) (l : List UInt8) (i : Nat) : (setBy g l i).length = l.length := by simp [setBy]
def setAll (g : Nat → UInt8 → UInt8) (l : List UInt8) (is : List Nat) : List UInt8 := is.foldl (setBy g) l
theorem setAll_length (g : Nat → UInt8 → UInt8) : ∀ (is : List Nat) (l : List UInt8), (setAll g l is).length = l.length
  | [], _ => rfl
  | i :: is, l => by
    show (setAll g (setBy g l i) is).length = _
    rw [setAll_length g is, setBy_length]
theorem setAll_snoc (g : Nat → UInt8 → UInt8) (l : List UInt8) (is : List Nat) (i : Nat) : setAll g l (is ++ [i]) = setBy g (setAll g l is) i := by simp [setAll]
theorem setAll_range (g : Nat → UInt8 → UInt8) (l : List UInt8) : ∀ k, k ≤ l.length → setAll g l (List.range k) = upto g l k
  | 0, _ => by rw [upto_zero]; rfl
  | k + 1, h => by
    have hk : k < l.length := by omega
    rw [List.range_succ, setAll_snoc, setAll_range g l k (by omega)]
    have hu : k < (upto g l k).length := by rw [upto_length]; exact hk
    have e : (upto g l k).getD k 0 = l[k] := by
      rw [List.getD_eq_getElem?_getD, List.getElem?_eq_getElem hu, upto_get g l k hk]
      rfl
    unfold setBy
    rw [e, upto_set g l k hk]

theorem Buf.grown {W W' : World} {b : Nat} {l : List UInt8} {row : Option Nat} (h : Buf W b l) (hg : W.grownBy W' row) (hr : ∀ r, row = some r → ∃ o : Obj, W.heap[r]? = some o ∧ o.isCells = false) : Buf W' b l :=
  ⟨Nat.lt_of_lt_of_le h.lt hg.size, fun i hi => cell_kept (h.cell i hi) hg hr, fun i hi => (frozen_kept (h.cell i hi) hg hr).trans (h.free i hi)⟩

/-- the places of what has come -/
def ixs {n : Nat} (l : List { k : Nat // k < n }) : List Nat := l.map (·.1)
theorem ixs_nil {n : Nat} : ixs ([] : List { k : Nat // k < n }) = [] := rfl
theorem ixs_snoc {n : Nat} (l : List { k : Nat // k < n }) (k : Nat) (hk : k < n) : ixs (l ++ [⟨k, hk⟩]) = ixs l ++ [k] := by simp [ixs]
theorem ixs_length {n : Nat} (l : List { k : Nat // k < n }) : (ixs l).length = l.length := by simp [ixs]
theorem cell_other {w : World} {b b' i i' : Nat} {v u : Value} (h : w.cell? ⟨b, i, none⟩ = some v) (hne : b ≠ b') : (w.setCell ⟨b', i', none⟩ u).cell? ⟨b, i, none⟩ = some v := by
  have hn : (⟨b', i', none⟩ : Addr) ≠ ⟨b, i, none⟩ := fun e => hne (by cases e; rfl)
  rw [World.cell?_setCell_other (h := hn)]
  exact h
end Go.Proofs.Ytkfomaoillnehaa
