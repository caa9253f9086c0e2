/- What the argument of a law of layers 4, 5, 7 and 8 holds: shapes, texts; whether a shape may be, ax the reference and package code tell (no conditions). -/
import Derived.Test.YtlncjheifkbomaaRows
import Derived.Deep.Slices
import Derived.Deep.Fields
import Derived.ChangeSame
import Derived.Test.YtlncjheifkbomaaTextsIn
namespace Go.Proofs.Ytlncjheifkbomaa
open Go.ChangeShapes Go.WideShapes Go.ChangeAt Go.RowKit Go.Joins Go.Deep

theorem trod_intI {H : Type} {enc : TypeId × Value → H} {P : Program} {t : TypeId} {k : IntKind} (ht : P.underlying t = some (.int k)) {W : World} {fuel : Nat} {v : Value} {y : DataW H × List MemPlace}
    (h0 : DataW.trod enc P W 0 (fun _ => true) true fuel t [v] = some y) : ∃ n, v = .int k n ∧ (Lit.int k n).wf = true := by
  obtain ⟨n, h, hx, hw⟩ := DataW.trod_int ht h0
  simp only [List.cons.injEq, and_true] at h
  exact ⟨n, h, hw⟩
/-- A slice value that reads ax shapes. -/
structure ShapesIn (W : World) (a : Option Addr) (len : Nat) : Prop where
  le : len ≤ 9223372036854775807
  cells : ∃ b off, (0 < len → a = some ⟨b, off, none⟩) ∧ ∀ i, i < len → ∃ (k m s : Int), b < W.heap.size ∧
    W.cell? ⟨b, off + i * 3, none⟩ = some (.int .i64 k) ∧ W.cell? ⟨b, off + i * 3 + 1, none⟩ = some (.int .i64 m) ∧ W.cell? ⟨b, off + i * 3 + 2, none⟩ = some (.int .i64 s) ∧
    (-9223372036854775808 ≤ k ∧ k ≤ 9223372036854775807) ∧ (-9223372036854775808 ≤ m ∧ m ≤ 9223372036854775807) ∧ (-9223372036854775808 ≤ s ∧ s ≤ 9223372036854775807)
theorem ShapesIn.kept {W W' : World} {a : Option Addr} {len : Nat} (h : ShapesIn W a len) (q : Kept W W') : ShapesIn W' a len := by
  obtain ⟨b, off, ha, hc⟩ := h.cells
  refine ⟨h.le, b, off, ha, fun i hi => ?_⟩
  obtain ⟨k, m, s, h1, h2, h3, h4, h5⟩ := hc i hi
  exact ⟨k, m, s, Nat.lt_of_lt_of_le h1 q.size, q.cell h1 h2, q.cell h1 h3, q.cell h1 h4, h5⟩
/-- the cells of a shape -/
theorem ShapesIn.cell {W : World} {a : Option Addr} {l : Nat} (h : ShapesIn W a l) (hl : 0 < l) : ∃ b off, a = some ⟨b, off, none⟩ ∧ ∀ i, i < l → ∃ (k m s : Int), ((-9223372036854775808 ≤ k ∧ k ≤ 9223372036854775807) ∧ (-9223372036854775808 ≤ m ∧ m ≤ 9223372036854775807) ∧ (-9223372036854775808 ≤ s ∧ s ≤ 9223372036854775807)) ∧
    ∀ w, Kept W w → w.cell? ⟨b, off + i * 3, none⟩ = some (.int .i64 k) ∧ w.cell? ⟨b, off + i * 3 + 1, none⟩ = some (.int .i64 m) ∧ w.cell? ⟨b, off + i * 3 + 2, none⟩ = some (.int .i64 s) := by
  obtain ⟨b, off, ha, hc⟩ := h.cells
  refine ⟨b, off, ha hl, fun i hi => ?_⟩
  obtain ⟨k, m, s, h1, h2, h3, h4, h5⟩ := hc i hi
  exact ⟨k, m, s, h5, fun w q => ⟨q.cell h1 h2, q.cell h1 h3, q.cell h1 h4⟩⟩
section
variable {H : Type} {enc : TypeId × Value → H} {P : Program} {w : World} {base : Nat} {spare : Nat → Bool} {held : Bool}
theorem open_structs {t e : TypeId} {fs : Array Field} {fuel : Nat} {cs : List Value} {x : DataW H × List MemPlace} (ht : P.underlying t = some (.slice e)) (he : P.underlying e = some (.struct fs))
    (hone : oneCellFields P fs = true) (hC : P.cellsOf e = fs.size) (h : DataW.trod enc P w base spare held fuel t cs = some x) :
    (cs = [.slice none 0 0] ∧ x = (.nil, [])) ∨
    ∃ (a : Addr) (len cap m : Nat) (D : Nat → DataW H) (Pl : Nat → List MemPlace), cs = [.slice (some a) len cap] ∧ base ≤ a.block ∧ len ≤ cap ∧ cap ≤ maxLen ∧ m = (if spare a.block then cap else len) ∧
      x = (.slice ((List.range len).map D) ((List.range (m - len)).map fun j => D (len + j)), MemPlace.row a (m * fs.size) ++ (List.range m).flatMap Pl) ∧
      ∀ i, i < m → ∃ (ys : List (DataW H × List MemPlace)) (n : Nat), D i = .agg (ys.map (·.1)) ∧ Pl i = ys.flatMap (·.2) ∧ ys.length = fs.size ∧
        ∀ (j : Nat) (f : Field), fs[j]? = some f → ∃ (v : Value) (y : DataW H × List MemPlace), w.cell? (a.add (i * fs.size + j)) = some v ∧ ys[j]? = some y ∧ DataW.trod enc P w base spare held n f.type [v] = some y := by
  rcases open_slice ht h with h0 | ⟨a, len, cap, m, n, D, Pl, hcs, hb, hl, hm, hmm, hx, hi⟩
  · exact .inl h0
  · refine .inr ⟨a, len, cap, m, D, Pl, hcs, hb, hl, hm, hmm, by rw [hC] at hx; exact hx, fun i him => ?_⟩
    obtain ⟨cs', hc, ht'⟩ := hi i him
    rw [hC] at hc
    obtain ⟨ys, n', hn', hy, hlen, hyl, hf⟩ := DataW.trod_struct he ht'
    obtain ⟨_, hcl, hat⟩ := World.cells?_some hc
    simp only [Prod.mk.injEq] at hy
    refine ⟨ys, n', hy.1, hy.2, hyl, fun j f hj => ?_⟩
    obtain ⟨ho, hk⟩ := hone_of hone j f hj
    have hjl : j < fs.size := (Array.getElem?_eq_some_iff.1 hj).1
    have hcell := hat j hjl
    have hv : cs'[j]? = some (cs'[j]'(by omega)) := List.getElem?_eq_getElem (by omega)
    have h1 := hf j f hj
    rw [ho, hk] at h1
    have hone' : (cs'.drop j).take 1 = [cs'[j]'(by omega)] := by
      rw [List.drop_eq_getElem_cons (by omega)]
      rfl
    rw [hone'] at h1
    have hys : ys[j]? = some (ys[j]'(by omega)) := List.getElem?_eq_getElem (by omega)
    refine ⟨_, _, ?_, hys, h1.trans hys⟩
    rw [← Go.Deep.add_add, hcell, hv]
end
theorem Try.cellsI : Try.prog.cellsOf 3 = 1 := by kernel_rfl
theorem Try.cellsShape : Try.prog.cellsOf 31 = 3 := by kernel_rfl
theorem Try.bytesShape : Try.prog.bytesOf 31 = 24 := by kernel_rfl
set_option maxRecDepth 100000 in
theorem shapes_in {H : Type} {enc : TypeId × Value → H} {W : World} {fuel : Nat} {v : Value} {y : DataW H × List MemPlace}
    (h0 : DataW.trod enc Try.prog W 0 (fun _ => true) true fuel 22 [v] = some y) : ∃ a len cap, v = .slice a len cap ∧ len ≤ cap ∧ ShapesIn W a len := by
  rcases open_structs Try.underlying22 Try.underlying31 (by kernel_rfl) Try.cellsShape h0 with ⟨hcs, _⟩ | ⟨a, len, cap, m, D, Pl, hcs, _, hl, hm, hmm, hx, hf⟩
  · simp only [List.cons.injEq, and_true] at hcs
    exact ⟨none, 0, 0, hcs, Nat.le_refl _, by omega, 0, 0, fun h => absurd h (Nat.lt_irrefl 0), fun i hi => absurd hi (Nat.not_lt_zero i)⟩
  · simp only [List.cons.injEq, and_true] at hcs
    simp only [if_true] at hmm
    subst hmm
    unfold maxLen at hm
    by_cases hp : 0 < len
    · obtain ⟨b, off, spot⟩ := a
      have hspot : spot = none := by
        obtain ⟨ys, n, _, _, _, hfj⟩ := hf 0 (by omega)
        obtain ⟨v0, _, hc0, _⟩ := hfj 0 _ rfl
        simpa [Addr.add] using World.cell?_spot hc0
      subst hspot
      refine ⟨_, len, m, hcs, hl, by omega, b, off, fun _ => rfl, fun i hi => ?_⟩
      obtain ⟨ys, n, _, _, _, hfj⟩ := hf i (by omega)
      obtain ⟨v0, y0, hc0, _, ht0⟩ := hfj 0 _ rfl
      obtain ⟨v1, y1, hc1, _, ht1⟩ := hfj 1 _ rfl
      obtain ⟨v2, y2, hc2, _, ht2⟩ := hfj 2 _ rfl
      obtain ⟨k, rfl, hk⟩ := trod_intI Try.underlying3 ht0
      obtain ⟨q, rfl, hq⟩ := trod_intI Try.underlying3 ht1
      obtain ⟨s, rfl, hs⟩ := trod_intI Try.underlying3 ht2
      rw [add_plain] at hc0 hc1 hc2
      simp only [List.size_toArray, List.length_cons, List.length_nil, Nat.reduceAdd, Nat.add_zero, ← Nat.add_assoc] at hc0 hc1 hc2
      exact ⟨k, q, s, World.block_lt_of_cell? _ _ hc0, hc0, hc1, hc2, bounds_i64 hk, bounds_i64 hq, bounds_i64 hs⟩
    · exact ⟨_, len, m, hcs, hl, by omega, 0, 0, fun h => by omega, fun i hi => by omega⟩

theorem Try.cellsLs : Try.prog.cellsOf 22 = 1 := by kernel_rfl
theorem Try.cellsLt : Try.prog.cellsOf 23 = 1 := by kernel_rfl
theorem Try.cellsLb : Try.prog.cellsOf 24 = 1 := by kernel_rfl
theorem Try.cellsAskC : Try.prog.cellsOf 26 = 3 := by kernel_rfl
/-- Shapes, texts, which are there. -/
structure AskC (W : World) (ax : Option Addr) (ls cs : Nat) (al : Option Addr) (ll cl : Nat) (ss : List ByteArray) : Prop where
  shapes : ShapesIn W ax ls
  scap : ls ≤ cs
  texts : TextsIn W al ll cl ss
theorem AskC.kept {W W' : World} {ax : Option Addr} {ls cs : Nat} {al : Option Addr} {ll cl : Nat} {ss : List ByteArray} (h : AskC W ax ls cs al ll cl ss) (k : Kept W W') : AskC W' ax ls cs al ll cl ss := ⟨h.shapes.kept k, h.scap, h.texts.kept k⟩
set_option maxRecDepth 100000 in
theorem askC_in {H : Type} {enc : TypeId × Value → H} {W : World} {fuel : Nat} {c0 c1 c2 : Value} {y : DataW H × List MemPlace}
    (h0 : DataW.trod enc Try.prog W 0 (fun _ => true) true fuel 26 [c0, c1, c2] = some y) (hz : ∀ n ∈ y.1.weights Try.prog 26, n ≤ reachBytes) :
    ∃ ax ls cs al ll cl ss ab lb cb, c0 = .slice ax ls cs ∧ c1 = .slice al ll cl ∧ c2 = .slice ab lb cb ∧ AskC W ax ls cs al ll cl ss := by
  obtain ⟨y0, y1, y2, n, rfl, _, t0, t1, t2⟩ := trod_struct3 Try.underlying26 h0
  obtain ⟨ax, ls, cs, rfl, hsc, hS⟩ := shapes_in (v := c0) (by simpa [Try.cellsLs] using t0)
  obtain ⟨al, ll, cl, ss, rfl, hT⟩ := texts_in Try.underlying23 Try.underlying9 Try.cellsStr Try.bytesStr (v := c1) (y := y1) (by simpa [Try.cellsLt] using t1) (fun n hn => hz n (by
    simp only [DataW.weights, Try.underlying26]
    exact DataW.weights_mem_each (j := 1) (t := 23) (d := y1.1) (by rfl) (by rfl) n hn))
  obtain ⟨ab, lb, cb, e2⟩ := slice_form Try.underlying24 t2
  exact ⟨ax, ls, cs, al, ll, cl, ss, ab, lb, cb, rfl, rfl, by simpa [Try.cellsLb] using e2, hS, hsc, hT⟩
theorem Try.cellsAskP : Try.prog.cellsOf 28 = 4 := by kernel_rfl
set_option maxRecDepth 100000 in
/-- the argument of layer 7: those, and a number -/
theorem askP_in {H : Type} {enc : TypeId × Value → H} {W : World} {base : Nat} {v : Value} {d : DataW H} {p : List MemPlace} (hv : Value.okWide Try.prog W .any base 28 v)
    (h : DataW.Trod enc Try.prog W 0 (fun _ => true) true 28 v d p) (hz : ∀ n ∈ d.weights Try.prog 28, n ≤ reachBytes) :
    ∃ ax ls cs al ll cl ss ab lb cb, ∃ n : Int, v = .agg #[.slice ax ls cs, .slice al ll cl, .slice ab lb cb, .int .i64 n] ∧ AskC W ax ls cs al ll cl ss ∧ (-9223372036854775808 ≤ n ∧ n ≤ 9223372036854775807) := by
  obtain ⟨cs, rfl, hsz⟩ := okWide_struct Try.underlying28 hv
  obtain ⟨c0, c1, c2, c3, rfl⟩ := array4 (hsz.trans Try.cellsAskP)
  obtain ⟨fuel, hf⟩ := h
  obtain ⟨y0, y1, n, hx, _, t0, t1⟩ := trod_struct2 Try.underlying28 hf
  simp only [Prod.mk.injEq] at hx
  obtain ⟨rfl, _⟩ := hx
  obtain ⟨ax, ls, cs, al, ll, cl, ss, ab, lb, cb, rfl, rfl, rfl, hC⟩ := askC_in (c0 := c0) (c1 := c1) (c2 := c2) (y := y0) (by simpa [Value.cells, Try.cellsAskC] using t0) (fun q hq => hz q (by
    simp only [DataW.weights, Try.underlying28]
    exact DataW.weights_mem_each (j := 0) (t := 26) (d := y0.1) (by rfl) (by rfl) q hq))
  obtain ⟨m, rfl, hm⟩ := trod_intI (v := c3) (y := y1) Try.underlying3 (by simpa [Value.cells, Try.cellsI] using t1)
  exact ⟨ax, ls, cs, al, ll, cl, ss, ab, lb, cb, m, rfl, hC, bounds_i64 hm⟩
/-- may a shape be? -/
def shpB (k m s : Int) : Bool := decide (1 ≤ k ∧ k ≤ 8 ∧ 0 ≤ m ∧ m ≤ 6 ∧ 1 ≤ s ∧ s ≤ 120)
theorem shpB_true {k m s : Int} (h : shpB k m s = true) : 1 ≤ k ∧ k ≤ 8 ∧ 0 ≤ m ∧ m ≤ 6 ∧ 1 ≤ s ∧ s ≤ 120 := of_decide_eq_true h
theorem between_any (n a b : Int) (w : World) : Calls Try.prog 22 #[.int .i64 n, .int .i64 a, .int .i64 b] w fun e w' => e = .returned (.bool (decide (a ≤ n) && decide (n ≤ b))) ∧ w = w' := by
  go_enter Try.func22, Try.ntmps22
  by_cases h : a ≤ n
  · go_wp2
    go_ret
    exact ⟨by simp [h], rfl⟩
  · have hd : decide (a ≤ n) = false := decide_eq_false h
    go_wp2
    go_ret
    exact ⟨rfl, rfl⟩
theorem num_any (n m : Int) (w : World) : Calls Try.prog 14 #[.int .i64 n, .int .i64 m] w fun e w' => e = .returned (.bool (decide (0 ≤ n) && decide (n ≤ m))) ∧ w = w' := by
  go_enter Try.func14, Try.ntmps14
  by_cases h : 0 ≤ n
  · go_wp2
    go_ret
    exact ⟨by simp [h], rfl⟩
  · have hd : decide (0 ≤ n) = false := decide_eq_false h
    go_wp2
    go_ret
    exact ⟨rfl, rfl⟩
end Go.Proofs.Ytlncjheifkbomaa
