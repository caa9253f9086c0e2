/- What the argument of a law of layer 20 holds: manifests, texts (no conditions). -/
import Derived.Test.YtdllenoclnmmdaaMs5
import Derived.Deep.Slices
import Derived.Deep.Fields
import Derived.ChangeSame
import Derived.SizedLaws
namespace Go.Proofs.Ytdllenoclnmmdaa
open Go.ChangeShapes Go.WideShapes Go.ChangeAt Go.RowKit Go.Joins Go.Deep
theorem trod_intI {H : Type} {enc : TypeId × Value → H} {P : Program} {t : TypeId} {k : IntKind} (ht : P.underlying t = some (.int k)) {W : World} {fuel : Nat} {v : Value} {y : DataW H × List MemPlace}
    (h0 : DataW.trod enc P W 0 (fun _ => true) true fuel t [v] = some y) : ∃ n, v = .int k n ∧ (Lit.int k n).wf = true := by
  obtain ⟨n, h, hx, hw⟩ := DataW.trod_int ht h0
  simp only [List.cons.injEq, and_true] at h
  exact ⟨n, h, hw⟩
section
variable {H : Type} {enc : TypeId × Value → H} {P : Program} {w : World} {base : Nat} {spare : Nat → Bool} {held : Bool}
theorem open_structs {t e : TypeId} {fs : Array Field} {fuel : Nat} {cs : List Value} {x : DataW H × List MemPlace} (ht : P.underlying t = some (.slice e)) (he : P.underlying e = some (.struct fs))
    (hone : oneCellFields P fs = true) (hC : P.cellsOf e = fs.size) (h : DataW.trod enc P w base spare held fuel t cs = some x) :
    (cs = [.slice none 0 0] ∧ x = (.nil, [])) ∨
    ∃ (a : Addr) (len cap m : Nat) (D : Nat → DataW H) (Pl : Nat → List MemPlace), cs = [.slice (some a) len cap] ∧ base ≤ a.block ∧ len ≤ cap ∧ cap ≤ maxLen ∧ m = (if spare a.block then cap else len) ∧
      x = (.slice ((List.range len).map D) ((List.range (m - len)).map fun j => D (len + j)), MemPlace.row a (m * fs.size) ++ (List.range m).flatMap Pl) ∧
      ∀ i, i < m → ∃ (ys : List (DataW H × List MemPlace)) (n : Nat), D i = .agg (ys.map (·.1)) ∧ Pl i = ys.flatMap (·.2) ∧ ys.length = fs.size ∧
        ∀ (j : Nat) (f : Field), fs[j]? = some f → ∃ (v : Value) (y : DataW H × List MemPlace), w.cell? (a.add (i * fs.size + j)) = some v ∧ ys[j]? = some y ∧ DataW.trod enc P w base spare held n f.type [v] = some y := by
  rcases open_slice ht h with h0 | ⟨a, len, cap, m, n, D, Pl, hcs, hb, hl, hm, hmm, hx, hi⟩
  · exact .inl h0
  · refine .inr ⟨a, len, cap, m, D, Pl, hcs, hb, hl, hm, hmm, by rw [hC] at hx; exact hx, fun i him => ?_⟩
    obtain ⟨cs', hc, ht'⟩ := hi i him
    rw [hC] at hc
    obtain ⟨ys, n', hn', hy, hlen, hyl, hf⟩ := DataW.trod_struct he ht'
    obtain ⟨_, hcl, hat⟩ := World.cells?_some hc
    simp only [Prod.mk.injEq] at hy
    refine ⟨ys, n', hy.1, hy.2, hyl, fun j f hj => ?_⟩
    obtain ⟨ho, hk⟩ := hone_of hone j f hj
    have hjl : j < fs.size := (Array.getElem?_eq_some_iff.1 hj).1
    have hcell := hat j hjl
    have hv : cs'[j]? = some (cs'[j]'(by omega)) := List.getElem?_eq_getElem (by omega)
    have h1 := hf j f hj
    rw [ho, hk] at h1
    have hone' : (cs'.drop j).take 1 = [cs'[j]'(by omega)] := by
      rw [List.drop_eq_getElem_cons (by omega)]
      rfl
    rw [hone'] at h1
    have hys : ys[j]? = some (ys[j]'(by omega)) := List.getElem?_eq_getElem (by omega)
    refine ⟨_, _, ?_, hys, h1.trans hys⟩
    rw [← Go.Deep.add_add, hcell, hv]
end
/-- a slice's own weight -/
theorem slice_sized {H : Type} {enc : TypeId × Value → H} {P : Program} {W : World} {fuel : Nat} {t e : TypeId} {a : Option Addr} {l cap : Nat} {y : DataW H × List MemPlace} (ht : P.underlying t = some (.slice e))
    (h : DataW.trod enc P W 0 (fun _ => true) true fuel t [.slice a l cap] = some y) (hz : ∀ n ∈ y.1.weights P t, n ≤ reachBytes) : l * P.bytesOf e ≤ reachBytes := by
  rcases open_slice ht h with ⟨hcs, _⟩ | ⟨a', len, cap', m, n, D, Pl, hcs, _, hl, _, _, hx, _⟩
  · simp only [List.cons.injEq, and_true, Value.slice.injEq] at hcs
    obtain ⟨_, rfl, _⟩ := hcs
    simp
  · simp only [List.cons.injEq, and_true, Value.slice.injEq] at hcs
    obtain ⟨_, rfl, _⟩ := hcs
    have h1 := hz (((List.range l).map D).length + ((List.range (m - l)).map fun j => D (l + j)).length |> (· * P.bytesOf e)) (by rw [hx]; simp [DataW.weights, ht])
    have h2 : l ≤ ((List.range l).map D).length + ((List.range (m - l)).map fun j => D (l + j)).length := by simp
    exact Nat.le_trans (Nat.mul_le_mul_right _ h2) h1
theorem Try.bytesMf : Try.prog.bytesOf 28 = 56 := by kernel_rfl
theorem Try.cellsMf : Try.prog.cellsOf 28 = 3 := by kernel_rfl
theorem Try.cellsAskM : Try.prog.cellsOf 25 = 2 := by kernel_rfl
/-- a list of what there is for each place -/
theorem list_of {α : Type} (d : α) : ∀ (n : Nat) (P : Nat → α → Prop), (∀ i, i < n → ∃ r, P i r) → ∃ l : List α, l.length = n ∧ ∀ i, i < n → P i (l.getD i d)
  | 0, _, _ => ⟨[], rfl, fun i hi => absurd hi (Nat.not_lt_zero i)⟩
  | n + 1, P, h => by
    obtain ⟨l, hl, hp⟩ := list_of d n P (fun i hi => h i (by omega))
    obtain ⟨r, hr⟩ := h n (by omega)
    refine ⟨l ++ [r], by simp [hl], fun i hi => ?_⟩
    by_cases e : i = n
    · subst e
      have : (l ++ [r]).getD i d = r := by simp [List.getD, ← hl]
      rw [this]; exact hr
    · have : (l ++ [r]).getD i d = l.getD i d := by simp [List.getD, List.getElem?_append_left (show i < l.length by omega)]
      rw [this]; exact hp i (by omega)
/-- a manifest in three cells -/
def MfCell (W : World) (b o : Nat) (m : Mf) : Prop := ∃ ab cb au cu, TextsIn W ab m.bs.length cb m.bs ∧ TextsIn W au m.us.length cu m.us ∧ (-9223372036854775808 ≤ m.k ∧ m.k ≤ 9223372036854775807) ∧ b < W.heap.size ∧
  W.cell? ⟨b, o, none⟩ = some (.int .i64 m.k) ∧ W.cell? ⟨b, o + 1, none⟩ = some (.slice ab m.bs.length cb) ∧ W.cell? ⟨b, o + 2, none⟩ = some (.slice au m.us.length cu)
def mf00 : Mf := ⟨0, [], []⟩
structure MfsIn (W : World) (a : Option Addr) (len : Nat) (ms : List Mf) : Prop where
  len_eq : ms.length = len
  few : len ≤ 2513169434916
  cells : ∃ b off, (0 < len → a = some ⟨b, off, none⟩) ∧ ∀ i, i < len → MfCell W b (off + i * 3) (ms.getD i mf00)
set_option maxRecDepth 100000 in
set_option maxHeartbeats 1000000 in
theorem mfs_in {H : Type} {enc : TypeId × Value → H} {W : World} {fuel : Nat} {v : Value} {y : DataW H × List MemPlace}
    (h0 : DataW.trod enc Try.prog W 0 (fun _ => true) true fuel 22 [v] = some y) (hz : ∀ n ∈ y.1.weights Try.prog 22, n ≤ reachBytes) : ∃ a len cap ms, v = .slice a len cap ∧ MfsIn W a len ms := by
  rcases open_structs Try.underlying22 Try.underlying28 (by kernel_rfl) Try.cellsMf h0 with ⟨hcs, _⟩ | ⟨a, len, cap, m, D, Pl, hcs, _, hl, hm, hmm, hx, hf⟩
  · simp only [List.cons.injEq, and_true] at hcs
    exact ⟨none, 0, 0, [], hcs, ⟨rfl, by omega, 0, 0, fun h => absurd h (Nat.lt_irrefl 0), fun i hi => absurd hi (Nat.not_lt_zero i)⟩⟩
  · simp only [List.cons.injEq, and_true] at hcs
    simp only [if_true] at hmm
    subst hmm
    unfold maxLen at hm
    by_cases hp : 0 < len
    · obtain ⟨b, off, spot⟩ := a
      have hspot : spot = none := by
        obtain ⟨ys, n, _, _, _, hfj⟩ := hf 0 (by omega)
        obtain ⟨v0, _, hc0, _⟩ := hfj 0 _ rfl
        simpa [Addr.add] using World.cell?_spot hc0
      subst hspot
      obtain ⟨ms, hrl, hr⟩ := list_of mf00 len (fun i r => MfCell W b (off + i * 3) r) (fun i hi => by
        obtain ⟨ys, n, hD, _, _, hfj⟩ := hf i (by omega)
        obtain ⟨v0, y0, hc0, _, ht0⟩ := hfj 0 _ rfl
        obtain ⟨v1, y1, hc1, hy1, ht1⟩ := hfj 1 _ rfl
        obtain ⟨v2, y2, hc2, hy2, ht2⟩ := hfj 2 _ rfl
        have hW : ∀ (j : Nat) (t : TypeId) (d : DataW H), (ys.map (·.1))[j]? = some d → (∀ q ∈ d.weights Try.prog t, q ∈ DataW.weights Try.prog 28 (.agg (ys.map (·.1)))) → ∀ q ∈ d.weights Try.prog t, q ≤ reachBytes := fun j t d _ hin q hq => by
          refine hz q ?_
          rw [hx]
          simp only [DataW.weights, Try.underlying22, List.mem_cons, List.mem_append]
          refine Or.inr (Or.inl (weightsAll_has (d := D i) (List.mem_map.2 ⟨i, List.mem_range.2 hi, rfl⟩) q ?_))
          rw [hD]
          exact hin q hq
        have w1 := hW 1 23 y1.1 (by rw [List.getElem?_map, hy1]; rfl) (fun q hq => by
          simp only [DataW.weights, Try.underlying28]
          exact DataW.weights_mem_each (j := 1) (t := 23) (d := y1.1) (by rfl) (by rw [List.getElem?_map, hy1]; rfl) q hq)
        have w2 := hW 2 23 y2.1 (by rw [List.getElem?_map, hy2]; rfl) (fun q hq => by
          simp only [DataW.weights, Try.underlying28]
          exact DataW.weights_mem_each (j := 2) (t := 23) (d := y2.1) (by rfl) (by rw [List.getElem?_map, hy2]; rfl) q hq)
        obtain ⟨k, rfl, hk⟩ := trod_intI Try.underlying3 ht0
        obtain ⟨ab, lb, cb, bs, rfl, hB⟩ := texts_in Try.underlying23 Try.underlying9 Try.cellsStr Try.bytesStr ht1 w1
        obtain ⟨au, lu, cu, us, rfl, hU⟩ := texts_in Try.underlying23 Try.underlying9 Try.cellsStr Try.bytesStr ht2 w2
        rw [add_plain] at hc0 hc1 hc2
        simp only [List.size_toArray, List.length_cons, List.length_nil, Nat.reduceAdd, Nat.add_zero, ← Nat.add_assoc] at hc0 hc1 hc2
        obtain rfl := hB.strs.len_eq
        obtain rfl := hU.strs.len_eq
        exact ⟨⟨k, bs, us⟩, ab, cb, au, cu, hB, hU, bounds_i64 hk, World.block_lt_of_cell? _ _ hc0, hc0, hc1, hc2⟩)
      have h56 : len * 56 ≤ reachBytes := by
        have := slice_sized Try.underlying22 (a := some ⟨b, off, none⟩) (l := len) (cap := m) (by rw [← hcs]; exact h0) hz
        rw [Try.bytesMf] at this
        exact this
      unfold reachBytes at h56
      exact ⟨_, len, m, ms, hcs, ⟨hrl, by omega, b, off, fun _ => rfl, fun i hi => hr i hi⟩⟩
    · obtain rfl : len = 0 := by omega
      exact ⟨_, 0, m, [], hcs, ⟨rfl, by omega, 0, 0, fun h => absurd h (Nat.lt_irrefl 0), fun i hi => absurd hi (Nat.not_lt_zero i)⟩⟩
theorem MfCell.kept {W W' : World} {b o : Nat} {m : Mf} (h : MfCell W b o m) (k : Kept W W') : MfCell W' b o m := by
  obtain ⟨ab, cb, au, cu, h1, h2, h3, h4, h5, h6, h7⟩ := h
  exact ⟨ab, cb, au, cu, h1.kept k, h2.kept k, h3, Nat.lt_of_lt_of_le h4 k.size, k.cell h4 h5, k.cell h4 h6, k.cell h4 h7⟩
theorem MfsIn.kept {W W' : World} {a : Option Addr} {len : Nat} {ms : List Mf} (h : MfsIn W a len ms) (k : Kept W W') : MfsIn W' a len ms := by
  obtain ⟨b, off, ha, hc⟩ := h.cells
  exact ⟨h.len_eq, h.few, b, off, ha, fun i hi => (hc i hi).kept k⟩
set_option maxRecDepth 100000 in
/-- the argument: manifests, texts -/
theorem askM_in {H : Type} {enc : TypeId × Value → H} {W : World} {base : Nat} {v : Value} {d : DataW H} {p : List MemPlace} (hv : Value.okWide Try.prog W .any base 25 v)
    (h : DataW.Trod enc Try.prog W 0 (fun _ => true) true 25 v d p) (hz : ∀ n ∈ d.weights Try.prog 25, n ≤ reachBytes) :
    ∃ am lm cm ms aa ls cs ss, v = .agg #[.slice am lm cm, .slice aa ls cs] ∧ MfsIn W am lm ms ∧ TextsIn W aa ls cs ss := by
  obtain ⟨v0, v1, y0, y1, m, rfl, rfl, rfl, hy0, hy1⟩ := open_agg2 Try.underlying25 (by kernel_rfl) Try.cellsAskM hv h
  obtain ⟨am, lm, cm, ms, rfl, h1⟩ := mfs_in hy0 (fun n hn => hz n (by
    simp only [DataW.weights, Try.underlying25]
    exact DataW.weights_mem_each (j := 0) (t := 22) (d := y0.1) (by rfl) (by rfl) n hn))
  obtain ⟨aa, ls, cs, ss, rfl, h2⟩ := texts_in Try.underlying23 Try.underlying9 Try.cellsStr Try.bytesStr hy1 (fun n hn => hz n (by
    simp only [DataW.weights, Try.underlying25]
    exact DataW.weights_mem_each (j := 1) (t := 23) (d := y1.1) (by rfl) (by rfl) n hn))
  exact ⟨am, lm, cm, ms, aa, ls, cs, ss, rfl, h1, h2⟩
end Go.Proofs.Ytdllenoclnmmdaa
