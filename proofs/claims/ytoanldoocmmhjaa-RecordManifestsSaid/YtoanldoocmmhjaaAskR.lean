/- What the argument of a law of layer 13 holds: records, texts, numbers (no conditions). -/
import Derived.Test.YtoanldoocmmhjaaRl4
import Derived.Deep.Slices
import Derived.Deep.Fields
import Derived.ChangeSame
import Derived.SizedLaws
namespace Go.Proofs.Ytoanldoocmmhjaa
open Go.ChangeShapes Go.WideShapes Go.ChangeAt Go.RowKit Go.Joins Go.Deep
theorem trod_intI {H : Type} {enc : TypeId × Value → H} {P : Program} {t : TypeId} {k : IntKind} (ht : P.underlying t = some (.int k)) {W : World} {fuel : Nat} {v : Value} {y : DataW H × List MemPlace}
    (h0 : DataW.trod enc P W 0 (fun _ => true) true fuel t [v] = some y) : ∃ n, v = .int k n ∧ (Lit.int k n).wf = true := by
  obtain ⟨n, h, hx, hw⟩ := DataW.trod_int ht h0
  simp only [List.cons.injEq, and_true] at h
  exact ⟨n, h, hw⟩
section
variable {H : Type} {enc : TypeId × Value → H} {P : Program} {w : World} {base : Nat} {spare : Nat → Bool} {held : Bool}
theorem open_structs {t e : TypeId} {fs : Array Field} {fuel : Nat} {cs : List Value} {x : DataW H × List MemPlace} (ht : P.underlying t = some (.slice e)) (he : P.underlying e = some (.struct fs))
    (hone : oneCellFields P fs = true) (hC : P.cellsOf e = fs.size) (h : DataW.trod enc P w base spare held fuel t cs = some x) :
    (cs = [.slice none 0 0] ∧ x = (.nil, [])) ∨
    ∃ (a : Addr) (len cap m : Nat) (D : Nat → DataW H) (Pl : Nat → List MemPlace), cs = [.slice (some a) len cap] ∧ base ≤ a.block ∧ len ≤ cap ∧ cap ≤ maxLen ∧ m = (if spare a.block then cap else len) ∧
      x = (.slice ((List.range len).map D) ((List.range (m - len)).map fun j => D (len + j)), MemPlace.row a (m * fs.size) ++ (List.range m).flatMap Pl) ∧
      ∀ i, i < m → ∃ (ys : List (DataW H × List MemPlace)) (n : Nat), D i = .agg (ys.map (·.1)) ∧ Pl i = ys.flatMap (·.2) ∧ ys.length = fs.size ∧
        ∀ (j : Nat) (f : Field), fs[j]? = some f → ∃ (v : Value) (y : DataW H × List MemPlace), w.cell? (a.add (i * fs.size + j)) = some v ∧ ys[j]? = some y ∧ DataW.trod enc P w base spare held n f.type [v] = some y := by
  rcases open_slice ht h with h0 | ⟨a, len, cap, m, n, D, Pl, hcs, hb, hl, hm, hmm, hx, hi⟩
  · exact .inl h0
  · refine .inr ⟨a, len, cap, m, D, Pl, hcs, hb, hl, hm, hmm, by rw [hC] at hx; exact hx, fun i him => ?_⟩
    obtain ⟨cs', hc, ht'⟩ := hi i him
    rw [hC] at hc
    obtain ⟨ys, n', hn', hy, hlen, hyl, hf⟩ := DataW.trod_struct he ht'
    obtain ⟨_, hcl, hat⟩ := World.cells?_some hc
    simp only [Prod.mk.injEq] at hy
    refine ⟨ys, n', hy.1, hy.2, hyl, fun j f hj => ?_⟩
    obtain ⟨ho, hk⟩ := hone_of hone j f hj
    have hjl : j < fs.size := (Array.getElem?_eq_some_iff.1 hj).1
    have hcell := hat j hjl
    have hv : cs'[j]? = some (cs'[j]'(by omega)) := List.getElem?_eq_getElem (by omega)
    have h1 := hf j f hj
    rw [ho, hk] at h1
    have hone' : (cs'.drop j).take 1 = [cs'[j]'(by omega)] := by
      rw [List.drop_eq_getElem_cons (by omega)]
      rfl
    rw [hone'] at h1
    have hys : ys[j]? = some (ys[j]'(by omega)) := List.getElem?_eq_getElem (by omega)
    refine ⟨_, _, ?_, hys, h1.trans hys⟩
    rw [← Go.Deep.add_add, hcell, hv]
end
/-- a slice's own weight -/
theorem slice_sized {H : Type} {enc : TypeId × Value → H} {P : Program} {W : World} {fuel : Nat} {t e : TypeId} {a : Option Addr} {l cap : Nat} {y : DataW H × List MemPlace} (ht : P.underlying t = some (.slice e))
    (h : DataW.trod enc P W 0 (fun _ => true) true fuel t [.slice a l cap] = some y) (hz : ∀ n ∈ y.1.weights P t, n ≤ reachBytes) : l * P.bytesOf e ≤ reachBytes := by
  rcases open_slice ht h with ⟨hcs, _⟩ | ⟨a', len, cap', m, n, D, Pl, hcs, _, hl, _, _, hx, _⟩
  · simp only [List.cons.injEq, and_true, Value.slice.injEq] at hcs
    obtain ⟨_, rfl, _⟩ := hcs
    simp
  · simp only [List.cons.injEq, and_true, Value.slice.injEq] at hcs
    obtain ⟨_, rfl, _⟩ := hcs
    have h1 := hz (((List.range l).map D).length + ((List.range (m - l)).map fun j => D (l + j)).length |> (· * P.bytesOf e)) (by rw [hx]; simp [DataW.weights, ht])
    have h2 : l ≤ ((List.range l).map D).length + ((List.range (m - l)).map fun j => D (l + j)).length := by simp
    exact Nat.le_trans (Nat.mul_le_mul_right _ h2) h1
theorem Try.cellsI : Try.prog.cellsOf 3 = 1 := by kernel_rfl
theorem Try.bytesI : Try.prog.bytesOf 3 = 8 := by kernel_rfl
theorem Try.cellsSlot : Try.prog.cellsOf 57 = 2 := by kernel_rfl
theorem Try.bytesSlot : Try.prog.bytesOf 57 = 16 := by kernel_rfl
theorem Try.cellsRec : Try.prog.cellsOf 31 = 6 := by kernel_rfl
theorem Try.bytesRec : Try.prog.bytesOf 31 = 96 := by kernel_rfl
theorem Try.cellsAskR : Try.prog.cellsOf 26 = 3 := by kernel_rfl
/-- a list of what there is for each place -/
theorem list_of {α : Type} (d : α) : ∀ (n : Nat) (P : Nat → α → Prop), (∀ i, i < n → ∃ r, P i r) → ∃ l : List α, l.length = n ∧ ∀ i, i < n → P i (l.getD i d)
  | 0, _, _ => ⟨[], rfl, fun i hi => absurd hi (Nat.not_lt_zero i)⟩
  | n + 1, P, h => by
    obtain ⟨l, hl, hp⟩ := list_of d n P (fun i hi => h i (by omega))
    obtain ⟨r, hr⟩ := h n (by omega)
    refine ⟨l ++ [r], by simp [hl], fun i hi => ?_⟩
    by_cases e : i = n
    · subst e
      have : (l ++ [r]).getD i d = r := by simp [List.getD, ← hl]
      rw [this]; exact hr
    · have : (l ++ [r]).getD i d = l.getD i d := by simp [List.getD, List.getElem?_append_left (show i < l.length by omega)]
      rw [this]; exact hp i (by omega)
set_option maxRecDepth 100000 in
theorem slots_in {H : Type} {enc : TypeId × Value → H} {W : World} {fuel : Nat} {v : Value} {y : DataW H × List MemPlace}
    (h0 : DataW.trod enc Try.prog W 0 (fun _ => true) true fuel 29 [v] = some y) : ∃ a len cap zs, v = .slice a len cap ∧ SlotsIn W a len zs := by
  rcases open_structs Try.underlying29 Try.underlying57 (by kernel_rfl) Try.cellsSlot h0 with ⟨hcs, _⟩ | ⟨a, len, cap, m, D, Pl, hcs, _, hl, hm, hmm, hx, hf⟩
  · simp only [List.cons.injEq, and_true] at hcs
    exact ⟨none, 0, 0, [], hcs, SlotsIn.nil _ _⟩
  · simp only [List.cons.injEq, and_true] at hcs
    simp only [if_true] at hmm
    subst hmm
    unfold maxLen at hm
    by_cases hp : 0 < len
    · obtain ⟨b, off, spot⟩ := a
      have hspot : spot = none := by
        obtain ⟨ys, n, _, _, _, hfj⟩ := hf 0 (by omega)
        obtain ⟨v0, _, hc0, _⟩ := hfj 0 _ rfl
        simpa [Addr.add] using World.cell?_spot hc0
      subst hspot
      obtain ⟨zs, hzl, hz⟩ := list_of ((0, 0) : Int × Int) len (fun i x => b < W.heap.size ∧ W.cell? ⟨b, off + i * 2, none⟩ = some (.int .i64 x.1) ∧ W.cell? ⟨b, off + i * 2 + 1, none⟩ = some (.int .i64 x.2) ∧ (-9223372036854775808 ≤ x.1 ∧ x.1 ≤ 9223372036854775807) ∧ (-9223372036854775808 ≤ x.2 ∧ x.2 ≤ 9223372036854775807)) (fun i hi => by
        obtain ⟨ys, n, _, _, _, hfj⟩ := hf i (by omega)
        obtain ⟨v0, y0, hc0, _, ht0⟩ := hfj 0 _ rfl
        obtain ⟨v1, y1, hc1, _, ht1⟩ := hfj 1 _ rfl
        obtain ⟨k, rfl, hk⟩ := trod_intI Try.underlying3 ht0
        obtain ⟨q, rfl, hq⟩ := trod_intI Try.underlying3 ht1
        rw [add_plain] at hc0 hc1
        simp only [List.size_toArray, List.length_cons, List.length_nil, Nat.reduceAdd, Nat.add_zero, ← Nat.add_assoc] at hc0 hc1
        exact ⟨(k, q), World.block_lt_of_cell? _ _ hc0, hc0, hc1, bounds_i64 hk, bounds_i64 hq⟩)
      refine ⟨_, len, m, zs, hcs, hzl, by omega, fun x hx => ?_, b, off, fun _ => rfl, fun i hi => ⟨(hz i hi).1, (hz i hi).2.1, (hz i hi).2.2.1⟩⟩
      obtain ⟨i, hi, rfl⟩ := List.getElem_of_mem hx
      have h1 := (hz i (by omega)).2.2.2
      have e : zs.getD i (0, 0) = zs[i] := by simp [List.getD, hi]
      rw [e] at h1
      exact h1
    · obtain rfl : len = 0 := by omega
      exact ⟨_, 0, m, [], hcs, SlotsIn.nil _ _⟩
set_option maxRecDepth 100000 in
set_option maxHeartbeats 1000000 in
theorem recs_in {H : Type} {enc : TypeId × Value → H} {W : World} {fuel : Nat} {v : Value} {y : DataW H × List MemPlace}
    (h0 : DataW.trod enc Try.prog W 0 (fun _ => true) true fuel 22 [v] = some y) (hz : ∀ n ∈ y.1.weights Try.prog 22, n ≤ reachBytes) : ∃ a len cap rs, v = .slice a len cap ∧ RecsIn W a len cap rs ∧ ∀ r ∈ rs, r.name.size ≤ 140737488351232 := by
  rcases open_structs Try.underlying22 Try.underlying31 (by kernel_rfl) Try.cellsRec h0 with ⟨hcs, _⟩ | ⟨a, len, cap, m, D, Pl, hcs, _, hl, hm, hmm, hx, hf⟩
  · simp only [List.cons.injEq, and_true] at hcs
    exact ⟨none, 0, 0, [], hcs, ⟨rfl, by omega, (fun r hr => (by cases hr)), 0, 0, fun h => absurd h (Nat.lt_irrefl 0), fun i hi => absurd hi (Nat.not_lt_zero i)⟩, fun r hr => by cases hr⟩
  · simp only [List.cons.injEq, and_true] at hcs
    simp only [if_true] at hmm
    subst hmm
    unfold maxLen at hm
    by_cases hp : 0 < len
    · obtain ⟨b, off, spot⟩ := a
      have hspot : spot = none := by
        obtain ⟨ys, n, _, _, _, hfj⟩ := hf 0 (by omega)
        obtain ⟨v0, _, hc0, _⟩ := hfj 0 _ rfl
        simpa [Addr.add] using World.cell?_spot hc0
      subst hspot
      obtain ⟨rs, hrl, hr⟩ := list_of Rec.zero len (fun i r => RecCell W b (off + i * 6) r ∧ (r.name.size ≤ 140737488351232 ∧ r.dig.size ≤ 140737488355000 ∧ r.list.length ≤ 140737488355000 ∧ r.slots.length ≤ 140737488355000)) (fun i hi => by
        obtain ⟨ys, n, hD, _, _, hfj⟩ := hf i (by omega)
        obtain ⟨v0, y0, hc0, _, ht0⟩ := hfj 0 _ rfl
        obtain ⟨v1, y1, hc1, _, ht1⟩ := hfj 1 _ rfl
        obtain ⟨v2, y2, hc2, hy2, ht2⟩ := hfj 2 _ rfl
        obtain ⟨v3, y3, hc3, hy3, ht3⟩ := hfj 3 _ rfl
        obtain ⟨v4, y4, hc4, hy4, ht4⟩ := hfj 4 _ rfl
        obtain ⟨v5, y5, hc5, hy5, ht5⟩ := hfj 5 _ rfl
        have hW : ∀ (j : Nat) (t : TypeId) (d : DataW H), (ys.map (·.1))[j]? = some d → (∀ q ∈ d.weights Try.prog t, q ∈ DataW.weights Try.prog 31 (.agg (ys.map (·.1)))) → ∀ q ∈ d.weights Try.prog t, q ≤ reachBytes := fun j t d _ hin q hq => by
          refine hz q ?_
          rw [hx]
          simp only [DataW.weights, Try.underlying22, List.mem_cons, List.mem_append]
          refine Or.inr (Or.inl (weightsAll_has (d := D i) (List.mem_map.2 ⟨i, List.mem_range.2 hi, rfl⟩) q ?_))
          rw [hD]
          exact hin q hq
        have w2 := hW 2 9 y2.1 (by rw [List.getElem?_map, hy2]; rfl) (fun q hq => by
          simp only [DataW.weights, Try.underlying31]
          exact DataW.weights_mem_each (j := 2) (t := 9) (d := y2.1) (by rfl) (by rw [List.getElem?_map, hy2]; rfl) q hq)
        have w3 := hW 3 9 y3.1 (by rw [List.getElem?_map, hy3]; rfl) (fun q hq => by
          simp only [DataW.weights, Try.underlying31]
          exact DataW.weights_mem_each (j := 3) (t := 9) (d := y3.1) (by rfl) (by rw [List.getElem?_map, hy3]; rfl) q hq)
        have w4 := hW 4 24 y4.1 (by rw [List.getElem?_map, hy4]; rfl) (fun q hq => by
          simp only [DataW.weights, Try.underlying31]
          exact DataW.weights_mem_each (j := 4) (t := 24) (d := y4.1) (by rfl) (by rw [List.getElem?_map, hy4]; rfl) q hq)
        have w5 := hW 5 29 y5.1 (by rw [List.getElem?_map, hy5]; rfl) (fun q hq => by
          simp only [DataW.weights, Try.underlying31]
          exact DataW.weights_mem_each (j := 5) (t := 29) (d := y5.1) (by rfl) (by rw [List.getElem?_map, hy5]; rfl) q hq)
        obtain ⟨k, rfl, hk⟩ := trod_intI Try.underlying3 ht0
        obtain ⟨id, rfl, hid⟩ := trod_intI Try.underlying3 ht1
        obtain ⟨nm, hn1, hn2, hn3⟩ := DataW.trod_string Try.underlying9 ht2
        obtain ⟨dg, hd1, hd2, hd3⟩ := DataW.trod_string Try.underlying9 ht3
        obtain ⟨al, nl, cl, zs, rfl, _, hI⟩ := ints_in Try.underlying24 Try.underlying3 Try.cellsI ht4
        obtain ⟨az, nz, cz, xs, rfl, hS⟩ := slots_in ht5
        have z4 := slice_sized Try.underlying24 ht4 w4
        have z5 := slice_sized Try.underlying29 ht5 w5
        rw [Try.bytesI] at z4
        rw [Try.bytesSlot] at z5
        have z2 := w2 nm.data.toList.length (by rw [hn2]; simp [DataW.weights])
        have z3 := w3 dg.data.toList.length (by rw [hd2]; simp [DataW.weights])
        have e2 : nm.data.toList.length = nm.size := by simp
        have e3 : dg.data.toList.length = dg.size := by simp
        rw [e2] at z2
        rw [e3] at z3
        simp only [List.cons.injEq, and_true] at hn1 hd1
        subst hn1
        subst hd1
        rw [add_plain] at hc0 hc1 hc2 hc3 hc4 hc5
        simp only [List.size_toArray, List.length_cons, List.length_nil, Nat.reduceAdd, Nat.add_zero, ← Nat.add_assoc] at hc0 hc1 hc2 hc3 hc4 hc5
        have hb := World.block_lt_of_cell? _ _ hc0
        unfold reachBytes at z2 z3 z4 z5
        obtain rfl := hI.len_eq
        obtain rfl := hS.len_eq
        refine ⟨⟨k, id, nm, dg, zs, xs⟩, ⟨al, cl, az, cz, ⟨hI, hS, bounds_i64 hk, bounds_i64 hid, by dsimp only; omega, by dsimp only; omega⟩, fun u ku => ⟨ku.cell hb hc0, ku.cell hb hc1, ku.cell hb hc2, ku.cell hb hc3, ku.cell hb hc4, ku.cell hb hc5⟩⟩, ?_⟩
        dsimp only
        omega)
      have h96 : len * 96 ≤ reachBytes := by
        have := slice_sized Try.underlying22 (a := some ⟨b, off, none⟩) (l := len) (cap := m) (by rw [← hcs]; exact h0) hz
        rw [Try.bytesRec] at this
        exact this
      unfold reachBytes at h96
      have hall : ∀ r ∈ rs, r.name.size ≤ 140737488351232 ∧ r.dig.size ≤ 140737488355000 ∧ r.list.length ≤ 140737488355000 ∧ r.slots.length ≤ 140737488355000 := fun r hrm => by
        obtain ⟨i, hi, rfl⟩ := List.getElem_of_mem hrm
        have h1 := (hr i (by omega)).2
        have e : rs.getD i Rec.zero = rs[i] := by simp [List.getD, hi]
        rw [e] at h1
        exact h1
      refine ⟨_, len, m, rs, hcs, ⟨hrl, by omega, fun r hrm => ?_, b, off, fun _ => rfl, fun i hi => (hr i hi).1⟩, fun r hrm => (hall r hrm).1⟩
      have := hall r hrm
      omega
    · obtain rfl : len = 0 := by omega
      exact ⟨_, 0, m, [], hcs, ⟨rfl, by omega, (fun r hr => (by cases hr)), 0, 0, fun h => absurd h (Nat.lt_irrefl 0), fun i hi => absurd hi (Nat.not_lt_zero i)⟩, fun r hr => by cases hr⟩
set_option maxRecDepth 100000 in
/-- the argument: records, texts, numbers -/
theorem askR_in {H : Type} {enc : TypeId × Value → H} {W : World} {base : Nat} {v : Value} {d : DataW H} {p : List MemPlace} (hv : Value.okWide Try.prog W .any base 26 v)
    (h : DataW.Trod enc Try.prog W 0 (fun _ => true) true 26 v d p) (hz : ∀ n ∈ d.weights Try.prog 26, n ≤ reachBytes) :
    ∃ ar nr cr aa ns cs an nn cn rs ss, v = .agg #[.slice ar nr cr, .slice aa ns cs, .slice an nn cn] ∧ RecsIn W ar nr cr rs ∧ TextsIn W aa ns cs ss ∧ ∀ r ∈ rs, r.name.size ≤ 140737488351232 := by
  obtain ⟨v0, v1, v2, y0, y1, y2, m, rfl, rfl, rfl, hy0, hy1, hy2⟩ := open_agg3 Try.underlying26 (by kernel_rfl) Try.cellsAskR hv h
  obtain ⟨ar, nr, cr, rs, rfl, h1, h3⟩ := recs_in hy0 (fun n hn => hz n (by
    simp only [DataW.weights, Try.underlying26]
    exact DataW.weights_mem_each (j := 0) (t := 22) (d := y0.1) (by rfl) (by rfl) n hn))
  obtain ⟨aa, ns, cs, ss, rfl, h2⟩ := texts_in Try.underlying23 Try.underlying9 Try.cellsStr Try.bytesStr hy1 (fun n hn => hz n (by
    simp only [DataW.weights, Try.underlying26]
    exact DataW.weights_mem_each (j := 1) (t := 23) (d := y1.1) (by rfl) (by rfl) n hn))
  obtain ⟨an, nn, cn, zs, rfl, _, _⟩ := ints_in Try.underlying24 Try.underlying3 Try.cellsI hy2
  exact ⟨ar, nr, cr, aa, ns, cs, an, nn, cn, rs, ss, rfl, h1, h2, h3⟩
end Go.Proofs.Ytoanldoocmmhjaa
