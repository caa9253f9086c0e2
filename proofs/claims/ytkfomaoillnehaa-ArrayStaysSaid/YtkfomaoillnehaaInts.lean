
/- Slices of integers as they are read: small laws (no conditions). -/
import Derived.WalkKit
import Derived.ProofKit
import Derived.OpenShut
import Derived.Lib.SmallJoins
import Derived.Test.YtkfomaoillnehaaKit
namespace Go.Proofs.Ytkfomaoillnehaa
open Go.ChangeShapes Go.WideShapes Go.ChangeAt Go.RowKit Go.Joins

/-- A slice value that reads as these integers: nil or not in one word. -/
structure IntsIn (W : World) (k : IntKind) (a : Option Addr) (len : Nat) (zs : List Int) : Prop where
  len_eq : zs.length = len
  le : len ≤ 9223372036854775807
  wf : ∀ x ∈ zs, (Lit.int k x).wf = true
  cells : ∃ b off, (0 < len → a = some ⟨b, off, none⟩) ∧ ∀ i, i < len → b < W.heap.size ∧ W.cell? ⟨b, off + i, none⟩ = some (.int k (zs.getD i 0))

theorem ints_in {H : Type} {enc : TypeId × Value → H} {P : Program} {t e : TypeId} {k : IntKind} (ht : P.underlying t = some (.slice e)) (he : P.underlying e = some (.int k)) (hc : P.cellsOf e = 1) {W : World} {fuel : Nat} {v : Value} {y : DataW H × List MemPlace}
    (h0 : DataW.trod enc P W 0 (fun _ => true) true fuel t [v] = some y) :
    ∃ a len cap zs, v = .slice a len cap ∧ len ≤ cap ∧ IntsIn W k a len zs := by
  rcases open_ints ht he hc h0 with ⟨hcs, hx⟩ | ⟨a, len', cap', zs, hcs, _, hl, hm, hz, hx, hcell, hwz⟩
  · simp only [List.cons.injEq, and_true] at hcs
    exact ⟨none, 0, 0, [], hcs, Nat.le_refl _, rfl, by omega, (fun x hx => (by cases hx)), 0, 0, fun h => absurd h (Nat.lt_irrefl 0), fun i hi => absurd hi (Nat.not_lt_zero i)⟩
  · simp only [List.cons.injEq, and_true] at hcs
    simp only [if_true] at hz
    unfold maxLen at hm
    by_cases hp : 0 < zs.length
    · obtain ⟨b, off, rfl, hcell'⟩ := ints_at hcell hp
      refine ⟨_, len', cap', zs.take len', hcs, hl, by rw [List.length_take]; omega, by omega, fun x hx => hwz x (List.mem_of_mem_take hx), b, off, fun _ => rfl, fun i hi => ?_⟩
      have h1 := hcell' i (by omega)
      refine ⟨World.block_lt_of_cell? _ _ h1, ?_⟩
      rw [h1]
      simp [List.getD, hi]
    · exact ⟨_, len', cap', [], hcs, hl, by simp; omega, by omega, (fun x hx => (by cases hx)), 0, 0, fun h => by omega, fun i hi => by omega⟩
theorem IntsIn.kept {W W' : World} {k : IntKind} {a : Option Addr} {len : Nat} {zs : List Int} (h : IntsIn W k a len zs) (hk : Kept W W') : IntsIn W' k a len zs := by
  obtain ⟨b, off, ha, hc⟩ := h.cells
  exact ⟨h.len_eq, h.le, h.wf, b, off, ha, fun i hi => ⟨Nat.lt_of_lt_of_le (hc i hi).1 hk.size, hk.cell (hc i hi).1 (hc i hi).2⟩⟩
theorem IntsIn.i64 {W : World} {a : Option Addr} {len : Nat} {zs : List Int} (h : IntsIn W .i64 a len zs) (i : Nat) (hi : i < len) : -9223372036854775808 ≤ zs.getD i 0 ∧ zs.getD i 0 ≤ 9223372036854775807 := by
  have hl : i < zs.length := by rw [h.len_eq]; exact hi
  exact bounds_i64 (h.wf (zs.getD i 0) (by simp [List.getD, hl]))
theorem IntsIn.u8 {W : World} {a : Option Addr} {len : Nat} {zs : List Int} (h : IntsIn W .u8 a len zs) (i : Nat) (hi : i < len) : 0 ≤ zs.getD i 0 ∧ zs.getD i 0 ≤ 255 := by
  have hl : i < zs.length := by rw [h.len_eq]; exact hi
  exact bounds_u8 (h.wf (zs.getD i 0) (by simp [List.getD, hl]))
end Go.Proofs.Ytkfomaoillnehaa
