/- What the walk of silolaw13.kind keeps from round to round: small laws (no conditions). -/
import Derived.Test.YtoanldoocmmhjaaRl3
import Derived.Test.YtoanldoocmmhjaaRl5
import Derived.Test.YtoanldoocmmhjaaRl9
import Derived.Maps.AppendAt
namespace Go.Proofs.Ytoanldoocmmhjaa
open Go.RowKit
/-- an ask that reads as one, beside what was there -/
def KindP (w : World) (aa : Option Addr) (ns cs : Nat) (an : Option Addr) (nn cn : Nat) (e : Ending) (w' : World) : Prop :=
  ∃ ar nr cr rs, e = .returned (.agg (askCells ar nr cr aa ns cs an nn cn)) ∧ RecsIn w' ar nr cr rs ∧ Kept w w'
/-- what is asked of silolaw13.kind -/
def KindOK (k : Int) : Prop := ∀ (ar : Option Addr) (nr cr : Nat) (aa : Option Addr) (ns cs : Nat) (an : Option Addr) (nn cn : Nat) (rs : List Rec) (w : World), RecsIn w ar nr cr rs → (∀ r ∈ rs, r.name.size ≤ 140737488351232) →
  Calls Try.prog 24 #[.agg (askCells ar nr cr aa ns cs an nn cn), .int .i64 k] w (KindP w aa ns cs an nn cn)
/-- from a block on nothing that was there has been written but one row -/
def Apart (base : Nat) (W W' : World) (row : Option Nat) : Prop := W.heap.size ≤ W'.heap.size ∧ ∀ k, base ≤ k → k < W.heap.size → some k ≠ row → W'.heap[k]? = W.heap[k]?
theorem Apart.refl (base : Nat) (W : World) (row : Option Nat) : Apart base W W row := ⟨Nat.le_refl _, fun _ _ _ _ => rfl⟩
theorem Apart.of_gr {base : Nat} {W W' : World} {row : Option Nat} (h : W.grownBy W' row) : Apart base W W' row := ⟨h.size, fun k _ hk hne => h.block k hk hne⟩
theorem Apart.of_kept {base : Nat} {W W' : World} {row : Option Nat} (h : Kept W W') : Apart base W W' row := Apart.of_gr (gr_kept h row)
theorem Apart.set {base : Nat} {W : World} {row : Option Nat} {b i : Nat} (v : Value) (hb : b < base) : Apart base W (W.setCell ⟨b, i, none⟩ v) row :=
  ⟨by simp, fun k hk _ _ => Below.heap_setCell W ⟨b, i, none⟩ v k (by show k ≠ b; omega)⟩
theorem Apart.setRow {base : Nat} {W : World} {row : Option Nat} {b : Nat} (cs : Array Value) (hb : b < base) : Apart base W (W.setRow b cs) row :=
  ⟨by simp [World.setRow], fun k hk _ _ => setRow_other W b k cs (by omega)⟩
/-- a record whose lists lie beside a row -/
def Lies (base : Nat) (W : World) (row : Option Nat) (r : Rec) (al az : Option Addr) : Prop := ∀ W', Apart base W W' row → RecIn W' r al r.list.length az r.slots.length
theorem Lies.step {base : Nat} {W W1 : World} {row row' : Option Nat} {r : Rec} {al az : Option Addr} (h : Lies base W row r al az) (g : Apart base W W1 row) (hb : row' = row ∨ ∀ g, row' = some g → W.heap.size ≤ g) : Lies base W1 row' r al az := by
  intro W' g'
  refine h W' ⟨Nat.le_trans g.1 g'.1, fun k hk hlt hne => ?_⟩
  have hne' : some k ≠ row' := by
    rcases hb with rfl | hb
    · exact hne
    · intro e
      have := hb k e.symm
      omega
  exact (g'.2 k hk (Nat.lt_of_lt_of_le hlt g.1) hne').trans (g.2 k hk hlt hne)
/-- a block stays -/
theorem BlockAt.apart {base : Nat} {W W' : World} {row : Option Nat} {b : Nat} {C : Array Value} {t : TypeId} (h : BlockAt W b C t) (g : Apart base W W' row) (hb : base ≤ b) (hne : some b ≠ row) : BlockAt W' b C t := (g.2 b hb h.lt hne).trans h
theorem two_ints {W : World} {b : Nat} {x y : Int} {t : TypeId} (h : BlockAt W b #[.int .i64 x, .int .i64 y] t) (hx : (Lit.int .i64 x).wf = true) (hy : (Lit.int .i64 y).wf = true) : IntsIn W .i64 (some ⟨b, 0, none⟩) 2 [x, y] := by
  refine ⟨rfl, by omega, fun z hz => ?_, b, 0, fun _ => rfl, fun i hi => ⟨h.lt, ?_⟩⟩
  · simp at hz
    rcases hz with rfl | rfl
    · exact hx
    · exact hy
  · match i, hi with
    | 0, _ => exact h.cell 0
    | 1, _ => exact h.cell 1
    | i + 2, hi => omega
theorem three_ints {W : World} {b : Nat} {x y z : Int} {t : TypeId} (h : BlockAt W b #[.int .i64 x, .int .i64 y, .int .i64 z] t) (hx : (Lit.int .i64 x).wf = true) (hy : (Lit.int .i64 y).wf = true) (hz : (Lit.int .i64 z).wf = true) : IntsIn W .i64 (some ⟨b, 0, none⟩) 3 [x, y, z] := by
  refine ⟨rfl, by omega, fun u hu => ?_, b, 0, fun _ => rfl, fun i hi => ⟨h.lt, ?_⟩⟩
  · simp at hu
    rcases hu with rfl | rfl | rfl
    · exact hx
    · exact hy
    · exact hz
  · match i, hi with
    | 0, _ => exact h.cell 0
    | 1, _ => exact h.cell 1
    | 2, _ => exact h.cell 2
    | i + 3, hi => omega
theorem two_slots {W : World} {b : Nat} {x y : Int × Int} {t : TypeId} (h : BlockAt W b #[.int .i64 x.1, .int .i64 x.2, .int .i64 y.1, .int .i64 y.2] t)
    (hx : (-9223372036854775808 ≤ x.1 ∧ x.1 ≤ 9223372036854775807) ∧ (-9223372036854775808 ≤ x.2 ∧ x.2 ≤ 9223372036854775807)) (hy : (-9223372036854775808 ≤ y.1 ∧ y.1 ≤ 9223372036854775807) ∧ (-9223372036854775808 ≤ y.2 ∧ y.2 ≤ 9223372036854775807)) : SlotsIn W (some ⟨b, 0, none⟩) 2 [x, y] := by
  refine ⟨rfl, by omega, fun u hu => ?_, b, 0, fun _ => rfl, fun i hi => ⟨h.lt, ?_⟩⟩
  · simp at hu
    rcases hu with rfl | rfl
    · exact hx
    · exact hy
  · match i, hi with
    | 0, _ => exact ⟨h.cell 0, h.cell 1⟩
    | 1, _ => exact ⟨h.cell 2, h.cell 3⟩
    | i + 2, hi => omega
theorem Try.infoRecZ : (Try.prog.info? 31).map (fun i => (i.zero, i.size, i.bytes)) = some (some (.agg #[.int .i64 0, .int .i64 0, .string ⟨#[]⟩, .string ⟨#[]⟩, .slice none 0 0, .slice none 0 0]), 6, 96) := by kernel_rfl
theorem Try.infoAsk : (Try.prog.info? 26).map (·.size) = some 3 := by kernel_rfl
theorem one3s (a : Option Addr) (l c : Nat) (a2 : Option Addr) (l2 c2 : Nat) (a3 : Option Addr) (l3 c3 : Nat) : (#[Value.slice a l c, .slice a2 l2 c2, .slice a3 l3 c3] : Array Value).all (·.oneCell') = true := by simp [Value.oneCell']
theorem BlockAt.new_at (w : World) (C : Array Value) (t : TypeId) {n : Nat} (h : w.heap.size = n) : BlockAt (w.alloc (.cells C t)) n C t := h ▸ BlockAt.new w C t
/-- what is short enough to be weighed -/
def RecShort (r : Rec) : Prop := r.name.size ≤ 140737488355000 ∧ r.dig.size ≤ 140737488355000 ∧ r.list.length ≤ 140737488355000 ∧ r.slots.length ≤ 140737488355000
/-- a list of records under way -/
structure KL (w wr : World) (C Z T : Array Value) (k : Nat) (V : Value) (rs : List Rec) (xs : List Value) : Prop where
  kept : Kept w wr
  pbox : BlockAt wr w.heap.size C 26
  zbox : BlockAt wr (w.heap.size + 1) Z 26
  qbox : BlockAt wr (w.heap.size + 2) (#[V] ++ T) 26
  own : wr.ownsRow (w.heap.size + 3) 31 6 V k xs
  len : rs.length = k
  short : ∀ r ∈ rs, RecShort r
  each : ∀ j, j < k → ∃ al cl az cz, (∀ c, c < 6 → xs[j * 6 + c]? = (recCells (rs.getD j Rec.zero) al (rs.getD j Rec.zero).list.length cl az (rs.getD j Rec.zero).slots.length cz)[c]?) ∧ Lies (w.heap.size + 3) wr V.ownBlock (rs.getD j Rec.zero) al az
theorem KL.later {w wr wx : World} {C Z T : Array Value} {k : Nat} {V : Value} {rs : List Rec} {xs : List Value} (h : KL w wr C Z T k V rs xs) (g : Kept wr wx) : KL w wx C Z T k V rs xs :=
  ⟨h.kept.trans g, h.pbox.kept g, h.zbox.kept g, h.qbox.kept g, own_kept h.own g, h.len, h.short, fun j hj => by
    obtain ⟨al, cl, az, cz, h1, h2⟩ := h.each j hj
    exact ⟨al, cl, az, cz, h1, h2.step (Apart.of_kept g) (.inl rfl)⟩⟩
theorem own_cells {w : World} {base n : Nat} {e : TypeId} {v : Value} {xs : List Value} (h : w.ownsRow base e 6 v n xs) : xs.length = n * 6 := h.1
theorem KL.app {w wx wy : World} {C Z T : Array Value} {k : Nat} {V V' : Value} {rs : List Rec} {xs : List Value} {r : Rec} {al az : Option Addr} {cl cz : Nat} (h : KL w wx C Z T k V rs xs)
    (hr : Lies (w.heap.size + 3) wx V.ownBlock r al az) (hs : RecShort r) (hT : T.size = 2)
    (g : wx.grownBy wy V.ownBlock) (o : wy.ownsRow (w.heap.size + 3) 31 6 V' (k + 1) (xs ++ (recCells r al r.list.length cl az r.slots.length cz).toList)) (hb : V'.ownBlock = V.ownBlock ∨ V'.ownBlock = some wx.heap.size) :
    KL w (wy.setCell ⟨w.heap.size + 2, 0, none⟩ V') C Z T (k + 1) V' (rs ++ [r]) (xs ++ (recCells r al r.list.length cl az r.slots.length cz).toList) := by
  have hlt : ∀ g', V.ownBlock = some g' → w.heap.size + 3 ≤ g' := fun g' e => (h.own.lt g' e).1
  have hlt' : ∀ g', V'.ownBlock = some g' → w.heap.size + 3 ≤ g' := fun g' e => (o.lt g' e).1
  have hxl := own_cells h.own
  have hnew : V'.ownBlock = V.ownBlock ∨ ∀ g', V'.ownBlock = some g' → wx.heap.size ≤ g' := by
    rcases hb with e | e
    · exact .inl e
    · exact .inr fun g' e' => by rw [e] at e'; cases e'; exact Nat.le_refl _
  have hq := h.qbox.gr g (fun e => by have := hlt _ e.symm; omega)
  refine ⟨?_, ?_, ?_, ?_, ?_, ?_, ?_, ?_⟩
  · exact (kept_gr h.kept g (fun k' e => by have := hlt k' e; omega)).setCell (p := ⟨w.heap.size + 2, 0, none⟩) (by show w.heap.size ≤ w.heap.size + 2; omega) V'
  · exact (h.pbox.gr g (fun e => by have := hlt _ e.symm; omega)).setOther (g' := w.heap.size + 2) (i := 0) V' (by omega)
  · exact (h.zbox.gr g (fun e => by have := hlt _ e.symm; omega)).setOther (g' := w.heap.size + 2) (i := 0) V' (by omega)
  · have h1 := hq.set (i := 0) V'
    have e : (#[V] ++ T).setIfInBounds 0 V' = #[V'] ++ T := by
      apply Array.ext_getElem?
      intro i
      rw [Array.getElem?_setIfInBounds]
      cases i with
      | zero =>
        have h0 : 0 < 1 + T.size := by omega
        rw [Array.getElem?_append]
        simp [h0]
      | succ i => simp [Array.getElem?_append]
    rw [e] at h1
    exact h1
  · exact own_gr o (gr_set wy (w.heap.size + 2) 0 V') (fun k' e => by cases e; omega)
  · rw [List.length_append, h.len]; rfl
  · intro x hx
    rcases List.mem_append.1 hx with h1 | h1
    · exact h.short x h1
    · simp at h1
      subst h1
      exact hs
  · intro j hj
    have hA : Apart (w.heap.size + 3) wy (wy.setCell ⟨w.heap.size + 2, 0, none⟩ V') V'.ownBlock := Apart.set V' (by omega)
    by_cases e : j = k
    · subst e
      have hg : (rs ++ [r]).getD j Rec.zero = r := by simp [List.getD, h.len]
      rw [hg]
      refine ⟨al, cl, az, cz, fun c hc => ?_, (hr.step (Apart.of_gr g) hnew).step hA (.inl rfl)⟩
      rw [List.getElem?_append_right (by omega), hxl, show j * 6 + c - j * 6 = c by omega]
      simp
    · have hg : (rs ++ [r]).getD j Rec.zero = rs.getD j Rec.zero := by
        have : j < rs.length := by rw [h.len]; omega
        simp [List.getD, List.getElem?_append_left this]
      obtain ⟨al', cl', az', cz', h1, h2⟩ := h.each j (by omega)
      rw [hg]
      refine ⟨al', cl', az', cz', fun c hc => ?_, (h2.step (Apart.of_gr g) hnew).step hA (.inl rfl)⟩
      rw [List.getElem?_append_left (by omega)]
      exact h1 c hc
/-- what the list reads as in the end -/
theorem KL.recs {w wr wx : World} {C Z T : Array Value} {k : Nat} {V : Value} {rs : List Rec} {xs : List Value} (h : KL w wr C Z T k V rs xs) (hk : k ≤ 1466015503658) (g : wr.grownBy wx (some (w.heap.size + 1))) :
    ∃ ar cr, V = .slice ar k cr ∧ RecsIn wx ar k cr rs := by
  have hlt : ∀ g', V.ownBlock = some g' → w.heap.size + 3 ≤ g' := fun g' e => (h.own.lt g' e).1
  have o := own_gr h.own g (fun k' e => by cases e; omega)
  have hA : Apart (w.heap.size + 3) wr wx V.ownBlock := ⟨g.size, fun k' hk' hl' _ => g.block k' hl' (by simp; omega)⟩
  have hlen := h.len
  have hxl := own_cells h.own
  rcases o.2 with ⟨rfl, rfl⟩ | ⟨gb, cap, cur, rfl, hb, hg, hn, hm, _⟩
  · exact ⟨none, 0, rfl, hlen, by omega, fun r hr => h.short r hr, 0, 0, fun h => absurd h (Nat.lt_irrefl 0), fun i hi => absurd hi (Nat.not_lt_zero i)⟩
  · refine ⟨_, cap, rfl, hlen, hk, fun r hr => h.short r hr, gb, 0, fun _ => rfl, fun i hi => ?_⟩
    obtain ⟨al, cl, az, cz, h1, h2⟩ := h.each i hi
    refine ⟨al, cl, az, cz, h2 wx hA, fun u ku => ?_⟩
    have hc : ∀ c, c < 6 → u.cell? ⟨gb, 0 + i * 6 + c, none⟩ = (recCells (rs.getD i Rec.zero) al (rs.getD i Rec.zero).list.length cl az (rs.getD i Rec.zero).slots.length cz)[c]? := fun c hc => by
      have e : wx.cell? ⟨gb, i * 6 + c, none⟩ = xs[i * 6 + c]? := o.cellAt (i * 6 + c) (by omega)
      rw [h1 c hc] at e
      rw [Nat.zero_add]
      have hs : (recCells (rs.getD i Rec.zero) al (rs.getD i Rec.zero).list.length cl az (rs.getD i Rec.zero).slots.length cz)[c]? = some ((recCells (rs.getD i Rec.zero) al (rs.getD i Rec.zero).list.length cl az (rs.getD i Rec.zero).slots.length cz)[c]'(by simpa [recCells] using hc)) := Array.getElem?_eq_getElem _
      rw [hs] at e ⊢
      exact ku.cell (o.lt gb rfl).2 e
    exact ⟨hc 0 (by omega), hc 1 (by omega), hc 2 (by omega), hc 3 (by omega), hc 4 (by omega), hc 5 (by omega)⟩
end Go.Proofs.Ytoanldoocmmhjaa
