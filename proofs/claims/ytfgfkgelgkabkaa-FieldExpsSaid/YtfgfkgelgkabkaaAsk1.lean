/- What a law's argument of two slices reads as: its bytes and its numbers, cell by cell; and how that comes out of the statement's own reading (no conditions). -/
import Derived.Test.YtfgfkgelgkabkaaRows
import Derived.WalkKit
import Derived.ProofKit
import Derived.OpenShut
import Derived.Lib.SmallJoins
namespace Go.Proofs.Ytfgfkgelgkabkaa
open Go.ChangeShapes Go.WideShapes Go.ChangeAt Go.RowKit Go.Joins

/-- A slice value that reads as these integers: nil or not in one word. -/
structure IntsIn (W : World) (k : IntKind) (a : Option Addr) (len : Nat) (zs : List Int) : Prop where
  len_eq : zs.length = len
  le : len ≤ 9223372036854775807
  wf : ∀ x ∈ zs, (Lit.int k x).wf = true
  cells : ∃ b off, (0 < len → a = some ⟨b, off, none⟩) ∧ ∀ i, i < len → b < W.heap.size ∧ W.cell? ⟨b, off + i, none⟩ = some (.int k (zs.getD i 0))

theorem ints_in {H : Type} {enc : TypeId × Value → H} {P : Program} {t e : TypeId} {k : IntKind} (ht : P.underlying t = some (.slice e)) (he : P.underlying e = some (.int k)) (hc : P.cellsOf e = 1) {W : World} {fuel : Nat} {v : Value} {y : DataW H × List MemPlace}
    (h0 : DataW.trod enc P W 0 (fun _ => true) true fuel t [v] = some y) :
    ∃ a len cap zs, v = .slice a len cap ∧ IntsIn W k a len zs := by
  rcases open_ints ht he hc h0 with ⟨hcs, hx⟩ | ⟨a, len', cap', zs, hcs, _, hl, hm, hz, hx, hcell, hwz⟩
  · simp only [List.cons.injEq, and_true] at hcs
    exact ⟨none, 0, 0, [], hcs, rfl, by omega, (fun x hx => (by cases hx)), 0, 0, fun h => absurd h (Nat.lt_irrefl 0), fun i hi => absurd hi (Nat.not_lt_zero i)⟩
  · simp only [List.cons.injEq, and_true] at hcs
    simp only [if_true] at hz
    unfold maxLen at hm
    by_cases hp : 0 < zs.length
    · obtain ⟨b, off, rfl, hcell'⟩ := ints_at hcell hp
      refine ⟨_, len', cap', zs.take len', hcs, by rw [List.length_take]; omega, by omega, fun x hx => hwz x (List.mem_of_mem_take hx), b, off, fun _ => rfl, fun i hi => ?_⟩
      have h1 := hcell' i (by omega)
      refine ⟨World.block_lt_of_cell? _ _ h1, ?_⟩
      rw [h1]
      simp [List.getD, hi]
    · exact ⟨_, len', cap', [], hcs, by simp; omega, by omega, (fun x hx => (by cases hx)), 0, 0, fun h => by omega, fun i hi => by omega⟩

theorem IntsIn.byte {W : World} {a : Option Addr} {len : Nat} {zs : List Int} (h : IntsIn W .u8 a len zs) (i : Nat) (hi : i < len) : ∃ n : Nat, n < 256 ∧ zs.getD i 0 = n := by
  have hl : i < zs.length := by rw [h.len_eq]; exact hi
  have hw := h.wf (zs.getD i 0) (by simp [List.getD, hl])
  have hb := bounds_u8 hw
  exact ⟨(zs.getD i 0).toNat, by omega, by omega⟩

/-- A byte of it, its place and its cell. -/
theorem IntsIn.byteAt {W : World} {a : Option Addr} {len : Nat} {zs : List Int} (h : IntsIn W .u8 a len zs) (i : Nat) (hi : i < len) : ∃ b off n : Nat, a = some ⟨b, off, none⟩ ∧ b < W.heap.size ∧ n < 256 ∧ W.cell? ⟨b, off + i, none⟩ = some (.int .u8 (n : Int)) ∧ zs.getD i 0 = n := by
  obtain ⟨n, hn, e⟩ := h.byte i hi
  obtain ⟨b, off, ha, hc⟩ := h.cells
  obtain ⟨h1, h2⟩ := hc i hi
  exact ⟨b, off, n, ha (by omega), h1, hn, by rw [h2, e], e⟩

/-- The same a block later. -/
theorem cell_old {W : World} {b off : Nat} {v : Value} (hb : b < W.heap.size) (h : W.cell? ⟨b, off, none⟩ = some v) (o : Obj) : (W.alloc o).cell? ⟨b, off, none⟩ = some v :=
  (((Below.refl W.heap.size W).alloc (Nat.le_refl _) o).cell (p := ⟨b, off, none⟩) hb).trans h
theorem Try.own : ownKnob Try.prog.godebug = none := by kernel_rfl
theorem Try.laidOut : laidOutB Try.prog = true := by kernel_rfl
theorem Try.cellsU8 : Try.prog.cellsOf 5 = 1 := by kernel_rfl
theorem Try.cellsInt : Try.prog.cellsOf 3 = 1 := by kernel_rfl
theorem Try.cellsAsk : Try.prog.cellsOf 25 = 2 := by kernel_rfl

/-- The argument: two slices, bytes and numbers. -/
structure AskIn (W : World) (v : Value) (a0 : Option Addr) (l0 c0 : Nat) (B : List Int) (a1 : Option Addr) (l1 c1 : Nat) (N : List Int) : Prop where
  val : v = .agg #[.slice a0 l0 c0, .slice a1 l1 c1]
  bytes : IntsIn W .u8 a0 l0 B
  nums : IntsIn W .i64 a1 l1 N
theorem ask_in {H : Type} {enc : TypeId × Value → H} {W : World} {base : Nat} {v : Value} {d : DataW H} {p : List MemPlace} (hv : Value.okWide Try.prog W .any base 25 v)
    (h : DataW.Trod enc Try.prog W 0 (fun _ => true) true 25 v d p) : ∃ a0 l0 c0 B a1 l1 c1 N, AskIn W v a0 l0 c0 B a1 l1 c1 N := by
  obtain ⟨c0, c1, y0, y1, m, rfl, rfl, rfl, hy0, hy1⟩ := open_agg2 Try.underlying25 (by kernel_rfl) Try.cellsAsk hv h
  obtain ⟨a0, l0, k0, B, rfl, h0⟩ := ints_in Try.underlying22 Try.underlying5 Try.cellsU8 hy0
  obtain ⟨a1, l1, k1, N, rfl, h1⟩ := ints_in Try.underlying23 Try.underlying3 Try.cellsInt hy1
  exact ⟨_, _, _, _, _, _, _, _, rfl, h0, h1⟩
end Go.Proofs.Ytfgfkgelgkabkaa
