/- What the argument of a law of layer 21 holds: rows of things, texts (no conditions). -/
import Derived.Test.YtdllenoclnmmdaaTh5
import Derived.Test.YtdllenoclnmmdaaMh
namespace Go.Proofs.Ytdllenoclnmmdaa
open Go.ChangeShapes Go.WideShapes Go.ChangeAt Go.RowKit Go.Joins Go.Deep
theorem Try.bytesTh : Try.prog.bytesOf 65 = 40 := by kernel_rfl
theorem Try.cellsTh : Try.prog.cellsOf 65 = 3 := by kernel_rfl
theorem Try.bytesTs : Try.prog.bytesOf 46 = 24 := by kernel_rfl
theorem Try.cellsTs : Try.prog.cellsOf 46 = 1 := by kernel_rfl
theorem Try.cellsAskT : Try.prog.cellsOf 44 = 2 := by kernel_rfl
set_option maxRecDepth 100000 in
set_option maxHeartbeats 1000000 in
theorem ths_in {H : Type} {enc : TypeId × Value → H} {W : World} {fuel : Nat} {v : Value} {y : DataW H × List MemPlace}
    (h0 : DataW.trod enc Try.prog W 0 (fun _ => true) true fuel 46 [v] = some y) (hz : ∀ n ∈ y.1.weights Try.prog 46, n ≤ reachBytes) : ∃ a len cap ts, v = .slice a len cap ∧ ThsIn W a len ts := by
  rcases open_structs Try.underlying46 Try.underlying65 (by kernel_rfl) Try.cellsTh h0 with ⟨hcs, _⟩ | ⟨a, len, cap, m, D, Pl, hcs, _, hl, hm, hmm, hx, hf⟩
  · simp only [List.cons.injEq, and_true] at hcs
    exact ⟨none, 0, 0, [], hcs, ⟨rfl, by omega, (fun x hx => by cases hx), 0, 0, fun h => absurd h (Nat.lt_irrefl 0), fun i hi => absurd hi (Nat.not_lt_zero i)⟩⟩
  · simp only [List.cons.injEq, and_true] at hcs
    simp only [if_true] at hmm
    subst hmm
    unfold maxLen at hm
    by_cases hp : 0 < len
    · obtain ⟨b, off, spot⟩ := a
      have hspot : spot = none := by
        obtain ⟨ys, n, _, _, _, hfj⟩ := hf 0 (by omega)
        obtain ⟨v0, _, hc0, _⟩ := hfj 0 _ rfl
        simpa [Addr.add] using World.cell?_spot hc0
      subst hspot
      obtain ⟨ts, hrl, hr⟩ := list_of th00 len (fun i r => (r.d.size ≤ 140737488351232 ∧ r.t.size ≤ 140737488351232) ∧ b < W.heap.size ∧ W.cell? ⟨b, off + i * 3, none⟩ = some (.string r.d) ∧ W.cell? ⟨b, off + i * 3 + 1, none⟩ = some (.string r.t) ∧ W.cell? ⟨b, off + i * 3 + 2, none⟩ = some (.bool r.m)) (fun i hi => by
        obtain ⟨ys, n, hD, _, _, hfj⟩ := hf i (by omega)
        obtain ⟨v0, y0, hc0, hy0, ht0⟩ := hfj 0 _ rfl
        obtain ⟨v1, y1, hc1, hy1, ht1⟩ := hfj 1 _ rfl
        obtain ⟨v2, y2, hc2, hy2, ht2⟩ := hfj 2 _ rfl
        have hW : ∀ (j : Nat) (t : TypeId) (d : DataW H), (ys.map (·.1))[j]? = some d → (∀ q ∈ d.weights Try.prog t, q ∈ DataW.weights Try.prog 65 (.agg (ys.map (·.1)))) → ∀ q ∈ d.weights Try.prog t, q ≤ reachBytes := fun j t d _ hin q hq => by
          refine hz q ?_
          rw [hx]
          simp only [DataW.weights, Try.underlying46, List.mem_cons, List.mem_append]
          refine Or.inr (Or.inl (weightsAll_has (d := D i) (List.mem_map.2 ⟨i, List.mem_range.2 hi, rfl⟩) q ?_))
          rw [hD]
          exact hin q hq
        have w0 := hW 0 9 y0.1 (by rw [List.getElem?_map, hy0]; rfl) (fun q hq => by
          simp only [DataW.weights, Try.underlying65]
          exact DataW.weights_mem_each (j := 0) (t := 9) (d := y0.1) (by rfl) (by rw [List.getElem?_map, hy0]; rfl) q hq)
        have w1 := hW 1 9 y1.1 (by rw [List.getElem?_map, hy1]; rfl) (fun q hq => by
          simp only [DataW.weights, Try.underlying65]
          exact DataW.weights_mem_each (j := 1) (t := 9) (d := y1.1) (by rfl) (by rw [List.getElem?_map, hy1]; rfl) q hq)
        obtain ⟨d, hv0, rfl, _⟩ := DataW.trod_string Try.underlying9 ht0
        obtain ⟨t, hv1, rfl, _⟩ := DataW.trod_string Try.underlying9 ht1
        obtain ⟨m, hv2, rfl⟩ := DataW.trod_bool Try.underlying4 ht2
        simp only [List.cons.injEq, and_true] at hv0 hv1 hv2
        subst hv0
        subst hv1
        subst hv2
        have s0 := w0 d.data.toList.length (by simp [DataW.weights])
        have s1 := w1 t.data.toList.length (by simp [DataW.weights])
        unfold reachBytes at s0 s1
        rw [add_plain] at hc0 hc1 hc2
        simp only [List.size_toArray, List.length_cons, List.length_nil, Nat.reduceAdd, Nat.add_zero, ← Nat.add_assoc] at hc0 hc1 hc2
        exact ⟨⟨d, t, m⟩, ⟨s0, s1⟩, World.block_lt_of_cell? _ _ hc0, hc0, hc1, hc2⟩)
      have h40 : len * 40 ≤ reachBytes := by
        have := slice_sized Try.underlying46 (a := some ⟨b, off, none⟩) (l := len) (cap := m) (by rw [← hcs]; exact h0) hz
        rw [Try.bytesTh] at this
        exact this
      unfold reachBytes at h40
      refine ⟨_, len, m, ts, hcs, ⟨hrl, by omega, fun x hx => ?_, b, off, fun _ => rfl, fun i hi => (hr i hi).2⟩⟩
      obtain ⟨i, hi, rfl⟩ := List.mem_iff_getElem.1 hx
      have := (hr i (by omega)).1
      simpa [List.getD, hi] using this
    · obtain rfl : len = 0 := by omega
      exact ⟨_, 0, m, [], hcs, ⟨rfl, by omega, (fun x hx => by cases hx), 0, 0, fun h => absurd h (Nat.lt_irrefl 0), fun i hi => absurd hi (Nat.not_lt_zero i)⟩⟩
/-- rows of things that are read -/
structure TtsIn (W : World) (a : Option Addr) (len : Nat) (tt : List (List Th)) : Prop where
  len_eq : tt.length = len
  few : len ≤ 5864062014805
  cells : ∃ b off, (0 < len → a = some ⟨b, off, none⟩) ∧ ∀ i, i < len → b < W.heap.size ∧ ∃ ax cx, W.cell? ⟨b, off + i, none⟩ = some (.slice ax (tt.getD i []).length cx) ∧ ThsIn W ax (tt.getD i []).length (tt.getD i [])
theorem TtsIn.kept {W W' : World} {a : Option Addr} {len : Nat} {tt : List (List Th)} (h : TtsIn W a len tt) (k : Kept W W') : TtsIn W' a len tt := by
  obtain ⟨b, off, ha, hc⟩ := h.cells
  refine ⟨h.len_eq, h.few, b, off, ha, fun i hi => ?_⟩
  obtain ⟨hb, ax, cx, h1, h2⟩ := hc i hi
  exact ⟨Nat.lt_of_lt_of_le hb k.size, ax, cx, k.cell hb h1, h2.kept k⟩
/-- one row of them -/
theorem TtsIn.row {W : World} {a : Option Addr} {len : Nat} {tt : List (List Th)} (h : TtsIn W a len tt) (hl : 0 < len) : ∃ b off, a = some ⟨b, off, none⟩ ∧ ∀ i, i < len → ∃ ax cx, (∀ w, Kept W w → w.cell? ⟨b, off + i, none⟩ = some (.slice ax (tt.getD i []).length cx)) ∧ ThsIn W ax (tt.getD i []).length (tt.getD i []) := by
  obtain ⟨b, off, ha, hc⟩ := h.cells
  refine ⟨b, off, ha hl, fun i hi => ?_⟩
  obtain ⟨hb, ax, cx, h1, h2⟩ := hc i hi
  exact ⟨ax, cx, fun w k => k.cell hb h1, h2⟩
set_option maxRecDepth 100000 in
set_option maxHeartbeats 1000000 in
theorem tts_in {H : Type} {enc : TypeId × Value → H} {W : World} {fuel : Nat} {v : Value} {y : DataW H × List MemPlace}
    (h0 : DataW.trod enc Try.prog W 0 (fun _ => true) true fuel 42 [v] = some y) (hz : ∀ n ∈ y.1.weights Try.prog 42, n ≤ reachBytes) : ∃ a len cap tt, v = .slice a len cap ∧ TtsIn W a len tt := by
  rcases open_slice1 Try.underlying42 Try.cellsTs h0 with ⟨hcs, _⟩ | ⟨a, len, cap, m, n, V, D, Pl, hcs, _, hl, hm, hmm, hx, hf⟩
  · simp only [List.cons.injEq, and_true] at hcs
    exact ⟨none, 0, 0, [], hcs, ⟨rfl, by omega, 0, 0, fun h => absurd h (Nat.lt_irrefl 0), fun i hi => absurd hi (Nat.not_lt_zero i)⟩⟩
  · simp only [List.cons.injEq, and_true] at hcs
    simp only [if_true] at hmm
    subst hmm
    unfold maxLen at hm
    by_cases hp : 0 < len
    · obtain ⟨b, off, spot⟩ := a
      have hspot : spot = none := by simpa [Addr.add] using World.cell?_spot (hf 0 (by omega)).1
      subst hspot
      obtain ⟨tt, hrl, hr⟩ := list_of [] len (fun i r => b < W.heap.size ∧ ∃ ax cx, W.cell? ⟨b, off + i, none⟩ = some (.slice ax (List.length (α := Th) r) cx) ∧ ThsIn W ax r.length r) (fun i hi => by
        obtain ⟨hc, ht⟩ := hf i (by omega)
        obtain ⟨ax, l, cx, ts, hv, hT⟩ := ths_in ht (fun q hq => by
          refine hz q ?_
          rw [hx]
          simp only [DataW.weights, Try.underlying42, List.mem_cons, List.mem_append]
          exact Or.inr (Or.inl (weightsAll_has (d := D i) (List.mem_map.2 ⟨i, List.mem_range.2 hi, rfl⟩) q hq)))
        rw [hv, add_plain] at hc
        obtain rfl := hT.len_eq
        exact ⟨ts, World.block_lt_of_cell? _ _ hc, ax, cx, hc, hT⟩)
      have h24 : len * 24 ≤ reachBytes := by
        have := slice_sized Try.underlying42 (a := some ⟨b, off, none⟩) (l := len) (cap := m) (by rw [← hcs]; exact h0) hz
        rw [Try.bytesTs] at this
        exact this
      unfold reachBytes at h24
      exact ⟨_, len, m, tt, hcs, ⟨hrl, by omega, b, off, fun _ => rfl, fun i hi => hr i hi⟩⟩
    · obtain rfl : len = 0 := by omega
      exact ⟨_, 0, m, [], hcs, ⟨rfl, by omega, 0, 0, fun h => absurd h (Nat.lt_irrefl 0), fun i hi => absurd hi (Nat.not_lt_zero i)⟩⟩
set_option maxRecDepth 100000 in
/-- the argument: rows of things, texts -/
theorem askT_in {H : Type} {enc : TypeId × Value → H} {W : World} {base : Nat} {v : Value} {d : DataW H} {p : List MemPlace} (hv : Value.okWide Try.prog W .any base 44 v)
    (h : DataW.Trod enc Try.prog W 0 (fun _ => true) true 44 v d p) (hz : ∀ n ∈ d.weights Try.prog 44, n ≤ reachBytes) :
    ∃ am lm cm tt aa ls cs ss, v = .agg #[.slice am lm cm, .slice aa ls cs] ∧ TtsIn W am lm tt ∧ TextsIn W aa ls cs ss := by
  obtain ⟨v0, v1, y0, y1, m, rfl, rfl, rfl, hy0, hy1⟩ := open_agg2 Try.underlying44 (by kernel_rfl) Try.cellsAskT hv h
  obtain ⟨am, lm, cm, tt, rfl, h1⟩ := tts_in hy0 (fun n hn => hz n (by
    simp only [DataW.weights, Try.underlying44]
    exact DataW.weights_mem_each (j := 0) (t := 42) (d := y0.1) (by rfl) (by rfl) n hn))
  obtain ⟨aa, ls, cs, ss, rfl, h2⟩ := texts_in Try.underlying23 Try.underlying9 Try.cellsStr Try.bytesStr hy1 (fun n hn => hz n (by
    simp only [DataW.weights, Try.underlying44]
    exact DataW.weights_mem_each (j := 1) (t := 23) (d := y1.1) (by rfl) (by rfl) n hn))
  exact ⟨am, lm, cm, tt, aa, ls, cs, ss, rfl, h1, h2⟩
end Go.Proofs.Ytdllenoclnmmdaa
