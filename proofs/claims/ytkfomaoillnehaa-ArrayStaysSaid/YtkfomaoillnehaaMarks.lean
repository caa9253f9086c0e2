
/- A function that leaves with marks of any number of ranges among its deferred calls (a range over a function in a loop): small laws (each mark's block is there once). -/
import Derived.Test.YtkfomaoillnehaaRound
namespace Go.Proofs.Ytkfomaoillnehaa
open Go.RowKit

def mark (D : Nat) : Deferred := { target := .collected D, args := #[] }
/-- all blocks but these are as they were -/
structure Turned (Ds : List Nat) (w w' : World) : Prop where
  os : w'.os = w.os
  tape : w'.tape = w.tape
  output : w'.output = w.output
  size : w'.heap.size = w.heap.size
  block : ∀ k, k ∉ Ds → w'.heap[k]? = w.heap[k]?
theorem Turned.refl (w : World) (Ds : List Nat) : Turned Ds w w := ⟨rfl, rfl, rfl, rfl, fun _ _ => rfl⟩
theorem leaves_marks {F : Fence} {n : Nat} {P : Program} {fn : Func} {tmps : Array Value} {R : Ending → World → Prop} : ∀ (Ds : List Nat) (W : World), Ds.Nodup → (∀ D, D ∈ Ds → W.heap[D]? = some (.deferred (some []))) →
    (∀ W', Turned Ds W W' → LeavesInM F n P fn tmps R [] .returning W') → LeavesInM F n P fn tmps R (Ds.map mark) .returning W
  | [], W, _, _, h => h W (Turned.refl W [])
  | D :: Ds, W, hn, hd, h => by
    have hD := hd D (by simp)
    obtain ⟨hn1, hn2⟩ := List.nodup_cons.1 hn
    refine ⟨by simp, .inl ⟨D, _, rfl, run_takeDeferred hD, ?_⟩⟩
    have hoth : ∀ k, k ≠ D → (W.putObj D (.deferred none)).heap[k]? = W.heap[k]? := fun k hk => World.putObj_heap_other hk
    have hg := grownBy_putObj' W D (.deferred none)
    refine leaves_marks Ds _ hn2 (fun E hE => ?_) (fun W' hT => h W' ⟨hT.os.trans hg.os, hT.tape.trans hg.tape, hT.output.trans hg.output, by rw [hT.size]; simp, fun k hk => ?_⟩)
    · rw [hoth E (fun e => hn1 (e ▸ hE))]; exact hd E (by simp [hE])
    · rw [hT.block k (fun h => hk (by simp [h])), hoth k (fun h => hk (by simp [h]))]
theorem Turned.grown {Ds : List Nat} {a w w' : World} {row : Option Nat} (h : Turned Ds w w') (g : a.grownBy w row) (hD : ∀ D, D ∈ Ds → a.heap.size ≤ D) : a.grownBy w' row :=
  ⟨h.os.trans g.os, h.tape.trans g.tape, h.output.trans g.output, by rw [h.size]; exact g.size, fun k hk hne => (h.block k (fun hm => by have := hD k hm; omega)).trans (g.block k hk hne)⟩
theorem ownFrom_grown {β : Type} {B : Nat} {row : Option Nat} (w₀ : World) (hB : w₀.heap.size ≤ B) : OwnFrom B (fun (_ : β) W => w₀.grownBy W row) := fun s A C r hs hg hr =>
  ⟨hg.os.trans hs.os, hg.tape.trans hs.tape, hg.output.trans hs.output, Nat.le_trans hs.size hg.size, fun k hk hne => by
    refine (hg.block k (Nat.lt_of_lt_of_le hk hs.size) (fun e => ?_)).trans (hs.block k hk hne)
    have := (hr k e.symm).1
    omega⟩
theorem grown_new {w a c : World} {row : Option Nat} {q : Nat} (h : w.grownBy a row) (g : a.grownBy c (some q)) (hq : w.heap.size ≤ q) : w.grownBy c row :=
  ⟨g.os.trans h.os, g.tape.trans h.tape, g.output.trans h.output, Nat.le_trans h.size g.size, fun k hk hne => (g.block k (Nat.lt_of_lt_of_le hk h.size) (fun e => by cases e; omega)).trans (h.block k hk hne)⟩
theorem BlockAt.turned {Ds : List Nat} {w w' : World} {b : Nat} {C : Array Value} {t : TypeId} (h : BlockAt w b C t) (g : Turned Ds w w') (hb : b ∉ Ds) : BlockAt w' b C t := (g.block b hb).trans h
/-- A piece that ends in no other way than by going on. -/
theorem wp_normal {P : Program} {c : Code} {K : Act → World → Prop} {Q : Exit → Act → World → Prop} {a : Act} {w : World} (h : c.wp P (Exit.then K (fun _ _ _ => False)) a w) : c.wp P (Exit.then K Q) a w :=
  wp_mono h (fun e a w h => by
    cases e with
    | normal => exact h
    | exit id => exact h.elim
    | goto l => exact h.elim
    | ret => exact h.elim
    | panic ch => exact h.elim
    | outgrown => exact h.elim)
end Go.Proofs.Ytkfomaoillnehaa
