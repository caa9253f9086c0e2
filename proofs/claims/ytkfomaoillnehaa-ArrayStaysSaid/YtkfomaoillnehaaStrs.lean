
/- Slices of texts as they are read: small laws (no conditions). -/
import Derived.SliceStrings
import Derived.ProofKit
import Derived.OpenShut
import Derived.Lib.SmallJoins
import Derived.Test.YtkfomaoillnehaaText
namespace Go.Proofs.Ytkfomaoillnehaa
open Go.ChangeShapes Go.WideShapes Go.ChangeAt Go.RowKit Go.Joins

/-- A slice value that reads as these texts: nil or not in one word. -/
structure StrsIn (W : World) (a : Option Addr) (len : Nat) (ss : List ByteArray) : Prop where
  len_eq : ss.length = len
  le : len ≤ 9223372036854775807
  sizes : ∀ s ∈ ss, s.size ≤ 9223372036854775807
  cells : ∃ b off, (0 < len → a = some ⟨b, off, none⟩) ∧ ∀ i, i < len → b < W.heap.size ∧ W.cell? ⟨b, off + i, none⟩ = some (.string (ss.getD i ByteArray.empty))

theorem StrsIn.kept {W W' : World} {a : Option Addr} {len : Nat} {ss : List ByteArray} (h : StrsIn W a len ss) (k : Kept W W') : StrsIn W' a len ss := by
  obtain ⟨b, off, ha, hc⟩ := h.cells
  exact ⟨h.len_eq, h.le, h.sizes, b, off, ha, fun i hi => ⟨Nat.lt_of_lt_of_le (hc i hi).1 k.size, k.cell (hc i hi).1 (hc i hi).2⟩⟩
theorem StrsIn.size {W : World} {a : Option Addr} {len : Nat} {ss : List ByteArray} (h : StrsIn W a len ss) (i : Nat) (hi : i < len) : (ss.getD i ByteArray.empty).size ≤ 9223372036854775807 := by
  have hl : i < ss.length := by rw [h.len_eq]; exact hi
  exact h.sizes _ (by simp [List.getD, hl])
/-- A slice that a call builds of texts. -/
theorem StrsIn.built (W : World) (ss : List ByteArray) (t : TypeId) (hl : ss.length ≤ 9223372036854775807) (hs : ∀ s ∈ ss, s.size ≤ 9223372036854775807) :
    StrsIn (W.alloc (.cells (ss.map Value.string).toArray t)) (some ⟨W.heap.size, 0, none⟩) ss.length ss := by
  refine ⟨rfl, hl, hs, W.heap.size, 0, fun _ => rfl, fun i hi => ⟨by simp, ?_⟩⟩
  rw [Nat.zero_add, cell_new]
  simp [List.getD, hi]

theorem strs_in {H : Type} {enc : TypeId × Value → H} {P : Program} {t e : TypeId} (ht : P.underlying t = some (.slice e)) (he : P.underlying e = some .string) (hc : P.cellsOf e = 1) {W : World} {fuel : Nat} {v : Value} {y : DataW H × List MemPlace}
    (h0 : DataW.trod enc P W 0 (fun _ => true) true fuel t [v] = some y) :
    ∃ a len cap ss, v = .slice a len cap ∧ StrsIn W a len ss := by
  rcases open_strings ht he hc h0 with ⟨hcs, hx⟩ | ⟨a, len', cap', ss, hcs, _, hl, hm, hz, hx, hcell, hws⟩
  · simp only [List.cons.injEq, and_true] at hcs
    exact ⟨none, 0, 0, [], hcs, rfl, by omega, (fun s hs => (by cases hs)), 0, 0, fun h => absurd h (Nat.lt_irrefl 0), fun i hi => absurd hi (Nat.not_lt_zero i)⟩
  · simp only [List.cons.injEq, and_true] at hcs
    simp only [if_true] at hz
    unfold maxLen at hm hws
    by_cases hp : 0 < ss.length
    · obtain ⟨b, off, spot⟩ := a
      have hspot : spot = none := by simpa [Addr.add] using World.cell?_spot (hcell 0 hp)
      subst hspot
      have hcell' : ∀ j, j < ss.length → W.cell? ⟨b, off + j, none⟩ = some (.string (ss.getD j ByteArray.empty)) := fun j hj => by rw [← Go.WideShapes.add_plain]; exact hcell j hj
      refine ⟨_, len', cap', ss.take len', hcs, by rw [List.length_take]; omega, by omega, fun s hs => hws s (List.mem_of_mem_take hs), b, off, fun _ => rfl, fun i hi => ?_⟩
      have h1 := hcell' i (by omega)
      refine ⟨World.block_lt_of_cell? _ _ h1, ?_⟩
      rw [h1]
      simp [List.getD, hi]
    · exact ⟨_, len', cap', [], hcs, by simp; omega, by omega, (fun s hs => (by cases hs)), 0, 0, fun h => by omega, fun i hi => by omega⟩
end Go.Proofs.Ytkfomaoillnehaa
