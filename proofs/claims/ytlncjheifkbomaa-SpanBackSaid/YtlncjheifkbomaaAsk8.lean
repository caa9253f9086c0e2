/- The argument of layer 8's laws, read: shapes, texts, numbers, parts (no conditions). -/
import Derived.Test.YtlncjheifkbomaaAsk7
import Derived.Test.YtlncjheifkbomaaSpn2
namespace Go.Proofs.Ytlncjheifkbomaa
open Go.ChangeShapes Go.WideShapes Go.ChangeAt Go.RowKit Go.Joins Go.Deep

section
variable {H : Type} {enc : TypeId × Value → H} {P : Program} {w : World} {base : Nat} {spare : Nat → Bool} {held : Bool}
theorem trod_struct5 {t : TypeId} {f0 f1 f2 f3 f4 : Field} {fuel : Nat} {cs : List Value} {x : DataW H × List MemPlace} (ht : P.underlying t = some (.struct #[f0, f1, f2, f3, f4])) (h : DataW.trod enc P w base spare held fuel t cs = some x) :
    ∃ y0 y1 y2 y3 y4 n, x = (.agg [y0.1, y1.1, y2.1, y3.1, y4.1], y0.2 ++ (y1.2 ++ (y2.2 ++ (y3.2 ++ y4.2)))) ∧ cs.length = P.cellsOf t ∧ DataW.trod enc P w base spare held n f0.type ((cs.drop f0.offset).take (P.cellsOf f0.type)) = some y0 ∧
      DataW.trod enc P w base spare held n f1.type ((cs.drop f1.offset).take (P.cellsOf f1.type)) = some y1 ∧ DataW.trod enc P w base spare held n f2.type ((cs.drop f2.offset).take (P.cellsOf f2.type)) = some y2 ∧
      DataW.trod enc P w base spare held n f3.type ((cs.drop f3.offset).take (P.cellsOf f3.type)) = some y3 ∧ DataW.trod enc P w base spare held n f4.type ((cs.drop f4.offset).take (P.cellsOf f4.type)) = some y4 := by
  obtain ⟨xs, n, _, rfl, hl, hlen, hf⟩ := DataW.trod_struct ht h
  match xs, hlen with
  | [y0, y1, y2, y3, y4], _ => exact ⟨y0, y1, y2, y3, y4, n, by simp, hl, by simpa using hf 0 f0 rfl, by simpa using hf 1 f1 rfl, by simpa using hf 2 f2 rfl, by simpa using hf 3 f3 rfl, by simpa using hf 4 f4 rfl⟩
end
theorem array7 {α : Type} {cs : Array α} (h : cs.size = 7) : ∃ c0 c1 c2 c3 c4 c5 c6, cs = #[c0, c1, c2, c3, c4, c5, c6] := by
  obtain ⟨l⟩ := cs
  match l, h with
  | [c0, c1, c2, c3, c4, c5, c6], _ => exact ⟨c0, c1, c2, c3, c4, c5, c6, rfl⟩
theorem choose_list {α : Type} (d : α) {p : Nat → α → Prop} : ∀ n, (∀ i, i < n → ∃ x, p i x) → ∃ l : List α, l.length = n ∧ ∀ i, i < n → p i (l.getD i d)
  | 0, _ => ⟨[], rfl, fun i hi => absurd hi (Nat.not_lt_zero i)⟩
  | n + 1, h => by
    obtain ⟨l, hl, hp⟩ := choose_list d n (fun i hi => h i (by omega))
    obtain ⟨x, hx⟩ := h n (by omega)
    refine ⟨l ++ [x], by simp [hl], fun i hi => ?_⟩
    by_cases hin : i < n
    · have := hp i hin
      rw [List.getD_eq_getElem?_getD, List.getElem?_append_left (by omega)]
      rw [List.getD_eq_getElem?_getD] at this
      exact this
    · obtain rfl : i = n := by omega
      rw [List.getD_eq_getElem?_getD, List.getElem?_append_right (by omega), hl]
      simpa using hx
theorem Try.cellsPart : Try.prog.cellsOf 84 = 3 := by kernel_rfl
theorem Try.cellsLp : Try.prog.cellsOf 56 = 1 := by kernel_rfl
def i64B (x : Int) : Prop := -9223372036854775808 ≤ x ∧ x ≤ 9223372036854775807
def partB (x : Int × Int × Int) : Prop := i64B x.1 ∧ i64B x.2.1 ∧ i64B x.2.2
set_option maxRecDepth 100000 in
theorem parts_in {H : Type} {enc : TypeId × Value → H} {W : World} {fuel : Nat} {v : Value} {y : DataW H × List MemPlace}
    (h0 : DataW.trod enc Try.prog W 0 (fun _ => true) true fuel 56 [v] = some y) : ∃ a len cap ps, v = .slice a len cap ∧ len ≤ cap ∧ PartsIn W a len ps ∧ ∀ i, i < len → partB (ps.getD i (0, 0, 0)) := by
  rcases open_structs Try.underlying56 Try.underlying84 (by kernel_rfl) Try.cellsPart h0 with ⟨hcs, _⟩ | ⟨a, len, cap, m, D, Pl, hcs, _, hl, hm, hmm, hx, hf⟩
  · simp only [List.cons.injEq, and_true] at hcs
    exact ⟨none, 0, 0, [], hcs, Nat.le_refl _, PartsIn.nil _ _, fun i hi => absurd hi (Nat.not_lt_zero i)⟩
  · simp only [List.cons.injEq, and_true] at hcs
    simp only [if_true] at hmm
    subst hmm
    unfold maxLen at hm
    by_cases hp : 0 < len
    · obtain ⟨b, off, spot⟩ := a
      have hspot : spot = none := by
        obtain ⟨ys, n, _, _, _, hfj⟩ := hf 0 (by omega)
        obtain ⟨v0, _, hc0, _⟩ := hfj 0 _ rfl
        simpa [Addr.add] using World.cell?_spot hc0
      subst hspot
      obtain ⟨ps, hps, hpp⟩ := choose_list (0, 0, 0) (p := fun i (x : Int × Int × Int) => (b < W.heap.size ∧ W.cell? ⟨b, off + i * 3, none⟩ = some (.int .i64 x.1) ∧ W.cell? ⟨b, off + i * 3 + 1, none⟩ = some (.int .i64 x.2.1) ∧ W.cell? ⟨b, off + i * 3 + 2, none⟩ = some (.int .i64 x.2.2)) ∧ partB x) len (fun i hi => by
        obtain ⟨ys, n, _, _, _, hfj⟩ := hf i (by omega)
        obtain ⟨v0, y0, hc0, _, ht0⟩ := hfj 0 _ rfl
        obtain ⟨v1, y1, hc1, _, ht1⟩ := hfj 1 _ rfl
        obtain ⟨v2, y2, hc2, _, ht2⟩ := hfj 2 _ rfl
        obtain ⟨k, rfl, hk⟩ := trod_intI Try.underlying3 ht0
        obtain ⟨q, rfl, hq⟩ := trod_intI Try.underlying3 ht1
        obtain ⟨s, rfl, hs⟩ := trod_intI Try.underlying3 ht2
        rw [add_plain] at hc0 hc1 hc2
        simp only [List.size_toArray, List.length_cons, List.length_nil, Nat.reduceAdd, Nat.add_zero, ← Nat.add_assoc] at hc0 hc1 hc2
        exact ⟨(k, q, s), ⟨World.block_lt_of_cell? _ _ hc0, hc0, hc1, hc2⟩, bounds_i64 hk, bounds_i64 hq, bounds_i64 hs⟩)
      exact ⟨_, len, m, ps, hcs, hl, ⟨hps, by omega, b, off, fun _ => rfl, fun i hi => (hpp i hi).1⟩, fun i hi => (hpp i hi).2⟩
    · obtain rfl : len = 0 := by omega
      exact ⟨_, 0, m, [], hcs, hl, PartsIn.nil _ _, fun i hi => absurd hi (Nat.not_lt_zero i)⟩
/-- The argument: shapes, texts, three numbers, parts. -/
structure AskQ (W : World) (ax : Option Addr) (ls cs : Nat) (al : Option Addr) (ll cl : Nat) (ss : List ByteArray) (n a b : Int) (ap : Option Addr) (lp cp : Nat) (ps : List (Int × Int × Int)) : Prop where
  c : AskC W ax ls cs al ll cl ss
  n : i64B n
  a : i64B a
  b : i64B b
  p : PartsIn W ap lp ps
  pcap : lp ≤ cp
  pb : ∀ i, i < lp → partB (ps.getD i (0, 0, 0))
theorem AskQ.kept {W W' : World} {ax : Option Addr} {ls cs : Nat} {al : Option Addr} {ll cl : Nat} {ss : List ByteArray} {n a b : Int} {ap : Option Addr} {lp cp : Nat} {ps : List (Int × Int × Int)} (h : AskQ W ax ls cs al ll cl ss n a b ap lp cp ps) (k : Kept W W') : AskQ W' ax ls cs al ll cl ss n a b ap lp cp ps :=
  ⟨h.c.kept k, h.n, h.a, h.b, h.p.kept k, h.pcap, h.pb⟩
theorem Try.cellsAskQ : Try.prog.cellsOf 58 = 7 := by kernel_rfl
theorem Try.cellsI8 : Try.prog.cellsOf 3 = 1 := by kernel_rfl
set_option maxRecDepth 100000 in
theorem askQ_in {H : Type} {enc : TypeId × Value → H} {W : World} {base : Nat} {v : Value} {d : DataW H} {p : List MemPlace} (hv : Value.okWide Try.prog W .any base 58 v)
    (h : DataW.Trod enc Try.prog W 0 (fun _ => true) true 58 v d p) (hz : ∀ n ∈ d.weights Try.prog 58, n ≤ reachBytes) :
    ∃ ax ls cs al ll cl ss ab lb cb, ∃ n a b : Int, ∃ ap lp cp ps, v = .agg #[.slice ax ls cs, .slice al ll cl, .slice ab lb cb, .int .i64 n, .int .i64 a, .int .i64 b, .slice ap lp cp] ∧ AskQ W ax ls cs al ll cl ss n a b ap lp cp ps := by
  obtain ⟨cs, rfl, hsz⟩ := okWide_struct Try.underlying58 hv
  obtain ⟨c0, c1, c2, c3, c4, c5, c6, rfl⟩ := array7 (hsz.trans Try.cellsAskQ)
  obtain ⟨fuel, hf⟩ := h
  obtain ⟨y0, y1, y2, y3, y4, n, hx, _, t0, t1, t2, t3, t4⟩ := trod_struct5 Try.underlying58 hf
  simp only [Prod.mk.injEq] at hx
  obtain ⟨rfl, _⟩ := hx
  obtain ⟨ax, ls, cs, al, ll, cl, ss, ab, lb, cb, rfl, rfl, rfl, hC⟩ := askC_in (c0 := c0) (c1 := c1) (c2 := c2) (y := y0) (by simpa [Value.cells, Try.cellsAskC] using t0) (fun q hq => hz q (by
    simp only [DataW.weights, Try.underlying58]
    exact DataW.weights_mem_each (j := 0) (t := 26) (d := y0.1) (by rfl) (by rfl) q hq))
  obtain ⟨m1, rfl, h1⟩ := trod_intI (v := c3) (y := y1) Try.underlying3 (by simpa [Value.cells, Try.cellsI8] using t1)
  obtain ⟨m2, rfl, h2⟩ := trod_intI (v := c4) (y := y2) Try.underlying3 (by simpa [Value.cells, Try.cellsI8] using t2)
  obtain ⟨m3, rfl, h3⟩ := trod_intI (v := c5) (y := y3) Try.underlying3 (by simpa [Value.cells, Try.cellsI8] using t3)
  obtain ⟨ap, lp, cp, ps, rfl, hpc, hP, hpb⟩ := parts_in (v := c6) (y := y4) (by simpa [Value.cells, Try.cellsLp] using t4)
  exact ⟨ax, ls, cs, al, ll, cl, ss, ab, lb, cb, m1, m2, m3, ap, lp, cp, ps, rfl, hC, bounds_i64 h1, bounds_i64 h2, bounds_i64 h3, hP, hpc, hpb⟩
end Go.Proofs.Ytlncjheifkbomaa
