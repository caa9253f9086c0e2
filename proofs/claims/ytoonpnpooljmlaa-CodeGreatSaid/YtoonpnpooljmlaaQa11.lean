/- Contracts of the code and of the reference, laid into one file: part 11 (what each says stands at its head). -/
import Derived.Test.YtoonpnpooljmlaaQa10

namespace Go.Proofs.Ytoonpnpooljmlaa
open Go.ChangeShapes Go.WideShapes Go.ChangeAt Go.RowKit Go.Joins Go.Deep

theorem Try.cellsBo : Try.prog.cellsOf 4 = 1 := by kernel_rfl
def boolAt (W : World) (b off i : Nat) : Bool := match W.cell? ⟨b, off + i, none⟩ with | some (.bool x) => x | _ => false
set_option maxRecDepth 100000 in
theorem bools_in {H : Type} {enc : TypeId × Value → H} {W : World} {fuel : Nat} {v : Value} {y : DataW H × List MemPlace}
    (h0 : DataW.trod enc Try.prog W 0 (fun _ => true) true fuel 24 [v] = some y) : ∃ a len cap T, v = .slice a len cap ∧ len ≤ cap ∧ len ≤ 9223372036854775807 ∧ BoolsIn W a len T := by
  rcases open_slice Try.underlying24 h0 with ⟨hcs, _⟩ | ⟨a, len, cap, m, n, D, Pl, hcs, hb, hl, hm, hmm, hx, hi⟩
  · simp only [List.cons.injEq, and_true] at hcs
    exact ⟨none, 0, 0, fun _ => false, hcs, Nat.le_refl _, by omega, 0, 0, fun h => absurd h (Nat.lt_irrefl 0), fun i hi => absurd hi (Nat.not_lt_zero i)⟩
  · simp only [List.cons.injEq, and_true] at hcs
    simp only [if_true] at hmm
    subst hmm
    unfold maxLen at hm
    have hcell : ∀ i, i < m → ∃ x, W.cell? (a.add i) = some (.bool x) := fun i him => by
      obtain ⟨cs', hc, ht'⟩ := hi i him
      rw [Try.cellsBo] at hc
      obtain ⟨x, rfl, _⟩ := DataW.trod_bool Try.underlying4 ht'
      obtain ⟨_, _, hat⟩ := World.cells?_some hc
      have h1 := hat 0 (by omega)
      rw [Go.Deep.add_add] at h1
      exact ⟨x, by simpa using h1⟩
    by_cases hp : 0 < len
    · obtain ⟨b, off, spot⟩ := a
      have hspot : spot = none := by
        obtain ⟨x, hc0⟩ := hcell 0 (by omega)
        simpa [Addr.add] using World.cell?_spot hc0
      subst hspot
      refine ⟨_, len, m, boolAt W b off, hcs, hl, by omega, b, off, fun _ => rfl, fun i hi => ?_⟩
      obtain ⟨x, hc⟩ := hcell i (by omega)
      rw [add_plain] at hc
      refine ⟨World.block_lt_of_cell? _ _ hc, ?_⟩
      unfold boolAt
      rw [hc]
    · exact ⟨_, len, m, fun _ => false, hcs, hl, by omega, 0, 0, fun h => by omega, fun i hi => by omega⟩
set_option maxRecDepth 100000 in
theorem ask4_in {H : Type} {enc : TypeId × Value → H} {W : World} {base : Nat} {v : Value} {d : DataW H} {p : List MemPlace} (hv : Value.okWide Try.prog W .any base 26 v)
    (h : DataW.Trod enc Try.prog W 0 (fun _ => true) true 26 v d p) (hz : ∀ n ∈ d.weights Try.prog 26, n ≤ reachBytes) :
    ∃ ax ls cs al ll cl ss ab lb cb T, v = .agg #[.slice ax ls cs, .slice al ll cl, .slice ab lb cb] ∧ AskC W ax ls cs al ll cl ss ∧ BoolsIn W ab lb T ∧ lb ≤ 9223372036854775807 := by
  obtain ⟨cs, rfl, hsz⟩ := okWide_struct Try.underlying26 hv
  obtain ⟨c0, c1, c2, rfl⟩ := array3 (hsz.trans Try.cellsAskC)
  obtain ⟨fuel, hf⟩ := h
  obtain ⟨y0, y1, y2, n, hx, _, t0, t1, t2⟩ := trod_struct3 Try.underlying26 hf
  obtain ⟨ab, lb, cb, T, rfl, _, hlb, hT⟩ := bools_in (v := c2) (by simpa [Value.cells, Try.cellsLb] using t2)
  obtain ⟨ax, ls, cs, al, ll, cl, ss, ab', lb', cb', rfl, rfl, he, hC⟩ := askC_in (c0 := c0) (c1 := c1) (c2 := .slice ab lb cb) (y := (d, p)) (by simpa [Value.cells] using hf) hz
  exact ⟨ax, ls, cs, al, ll, cl, ss, ab, lb, cb, T, rfl, hC, hT, hlb⟩
end Go.Proofs.Ytoonpnpooljmlaa
