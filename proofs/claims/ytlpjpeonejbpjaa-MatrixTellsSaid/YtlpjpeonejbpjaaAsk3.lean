/- What the argument of a law of layer 3 reads as: its matrices, its numbers and its lanes (no conditions). -/
import Derived.Test.YtlpjpeonejbpjaaRows
import Derived.Deep.Slices
import Derived.Deep.Fields
import Derived.ChangeSame
import Derived.Test.YtlpjpeonejbpjaaInts
import Derived.Test.YtlpjpeonejbpjaaCopyStr
import Derived.Test.YtlpjpeonejbpjaaMatInv
import Derived.Test.YtlpjpeonejbpjaaByt
namespace Go.Proofs.Ytlpjpeonejbpjaa
open Go.ChangeShapes Go.WideShapes Go.ChangeAt Go.RowKit Go.Joins Go.Deep

/-- A slice value that reads as matrices, each with its two numbers and its bytes. -/
structure MsIn (W : World) (a : Option Addr) (len : Nat) : Prop where
  le : len ≤ 9223372036854775807
  cells : ∃ b off, (0 < len → a = some ⟨b, off, none⟩) ∧ ∀ i, i < len → ∃ (r c : Int) (x : Option Addr) (l cap : Nat) (zs : List Int), b < W.heap.size ∧
    W.cell? ⟨b, off + i * 3, none⟩ = some (.int .i64 r) ∧ W.cell? ⟨b, off + i * 3 + 1, none⟩ = some (.int .i64 c) ∧ W.cell? ⟨b, off + i * 3 + 2, none⟩ = some (.slice x l cap) ∧
    (-9223372036854775808 ≤ r ∧ r ≤ 9223372036854775807) ∧ (-9223372036854775808 ≤ c ∧ c ≤ 9223372036854775807) ∧ l ≤ cap ∧ IntsIn W .u8 x l zs
theorem MsIn.kept {W W' : World} {a : Option Addr} {len : Nat} (h : MsIn W a len) (k : Kept W W') : MsIn W' a len := by
  obtain ⟨b, off, ha, hc⟩ := h.cells
  refine ⟨h.le, b, off, ha, fun i hi => ?_⟩
  obtain ⟨r, c, x, l, cap, zs, h1, h2, h3, h4, h5, h6, h7, h8⟩ := hc i hi
  exact ⟨r, c, x, l, cap, zs, Nat.lt_of_lt_of_le h1 k.size, k.cell h1 h2, k.cell h1 h3, k.cell h1 h4, h5, h6, h7, h8.kept k⟩

section
variable {H : Type} {enc : TypeId × Value → H} {P : Program} {w : World} {base : Nat} {spare : Nat → Bool} {held : Bool}
theorem open_slice_structs {t e : TypeId} {fs : Array Field} {fuel : Nat} {cs : List Value} {x : DataW H × List MemPlace} (ht : P.underlying t = some (.slice e)) (he : P.underlying e = some (.struct fs))
    (hone : oneCellFields P fs = true) (hC : P.cellsOf e = fs.size) (h : DataW.trod enc P w base spare held fuel t cs = some x) :
    (cs = [.slice none 0 0] ∧ x = (.nil, [])) ∨
    ∃ (a : Addr) (len cap m : Nat) (D : Nat → DataW H) (Pl : Nat → List MemPlace), cs = [.slice (some a) len cap] ∧ base ≤ a.block ∧ len ≤ cap ∧ cap ≤ maxLen ∧ m = (if spare a.block then cap else len) ∧
      x = (.slice ((List.range len).map D) ((List.range (m - len)).map fun j => D (len + j)), MemPlace.row a (m * fs.size) ++ (List.range m).flatMap Pl) ∧
      ∀ i, i < m → ∃ (ys : List (DataW H × List MemPlace)) (n : Nat), D i = .agg (ys.map (·.1)) ∧ Pl i = ys.flatMap (·.2) ∧ ys.length = fs.size ∧
        ∀ (j : Nat) (f : Field), fs[j]? = some f → ∃ (v : Value) (y : DataW H × List MemPlace), w.cell? (a.add (i * fs.size + j)) = some v ∧ ys[j]? = some y ∧ DataW.trod enc P w base spare held n f.type [v] = some y := by
  rcases open_slice ht h with h0 | ⟨a, len, cap, m, n, D, Pl, hcs, hb, hl, hm, hmm, hx, hi⟩
  · exact .inl h0
  · refine .inr ⟨a, len, cap, m, D, Pl, hcs, hb, hl, hm, hmm, by rw [hC] at hx; exact hx, fun i him => ?_⟩
    obtain ⟨cs', hc, ht'⟩ := hi i him
    rw [hC] at hc
    obtain ⟨ys, n', hn', hy, hlen, hyl, hf⟩ := DataW.trod_struct he ht'
    obtain ⟨_, hcl, hat⟩ := World.cells?_some hc
    simp only [Prod.mk.injEq] at hy
    refine ⟨ys, n', hy.1, hy.2, hyl, fun j f hj => ?_⟩
    obtain ⟨ho, hk⟩ := hone_of hone j f hj
    have hjl : j < fs.size := (Array.getElem?_eq_some_iff.1 hj).1
    have hcell := hat j hjl
    have hv : cs'[j]? = some (cs'[j]'(by omega)) := List.getElem?_eq_getElem (by omega)
    have h1 := hf j f hj
    rw [ho, hk] at h1
    have hone' : (cs'.drop j).take 1 = [cs'[j]'(by omega)] := by
      rw [List.drop_eq_getElem_cons (by omega)]
      rfl
    rw [hone'] at h1
    have hys : ys[j]? = some (ys[j]'(by omega)) := List.getElem?_eq_getElem (by omega)
    refine ⟨_, _, ?_, hys, h1.trans hys⟩
    rw [← Go.Deep.add_add, hcell, hv]
end
theorem Try.cellsMat : Try.prog.cellsOf 50 = 3 := by kernel_rfl
theorem Try.cellsU8 : Try.prog.cellsOf 5 = 1 := by kernel_rfl
theorem Try.cellsInt : Try.prog.cellsOf 3 = 1 := by kernel_rfl
set_option maxRecDepth 100000 in
theorem ms_in {H : Type} {enc : TypeId × Value → H} {W : World} {fuel : Nat} {v : Value} {y : DataW H × List MemPlace}
    (h0 : DataW.trod enc Try.prog W 0 (fun _ => true) true fuel 45 [v] = some y) : ∃ a len cap, v = .slice a len cap ∧ len ≤ cap ∧ MsIn W a len := by
  rcases open_slice_structs Try.underlying45 Try.underlying50 (by kernel_rfl) Try.cellsMat h0 with ⟨hcs, _⟩ | ⟨a, len, cap, m, D, Pl, hcs, _, hl, hm, hmm, hx, hf⟩
  · simp only [List.cons.injEq, and_true] at hcs
    exact ⟨none, 0, 0, hcs, Nat.le_refl _, by omega, 0, 0, fun h => absurd h (Nat.lt_irrefl 0), fun i hi => absurd hi (Nat.not_lt_zero i)⟩
  · simp only [List.cons.injEq, and_true] at hcs
    simp only [if_true] at hmm
    subst hmm
    unfold maxLen at hm
    by_cases hp : 0 < len
    · obtain ⟨b, off, spot⟩ := a
      have hspot : spot = none := by
        obtain ⟨ys, n, _, _, _, hfj⟩ := hf 0 (by omega)
        obtain ⟨v0, _, hc0, _⟩ := hfj 0 _ rfl
        simpa [Addr.add] using World.cell?_spot hc0
      subst hspot
      refine ⟨_, len, m, hcs, hl, by omega, b, off, fun _ => rfl, fun i hi => ?_⟩
      obtain ⟨ys, n, _, _, _, hfj⟩ := hf i (by omega)
      obtain ⟨v0, y0, hc0, _, ht0⟩ := hfj 0 _ rfl
      obtain ⟨v1, y1, hc1, _, ht1⟩ := hfj 1 _ rfl
      obtain ⟨v2, y2, hc2, _, ht2⟩ := hfj 2 _ rfl
      obtain ⟨r, rfl, hr⟩ := trod_int Try.underlying3 ht0
      obtain ⟨c, rfl, hc⟩ := trod_int Try.underlying3 ht1
      obtain ⟨x, l, cp, zs, rfl, hlc, hz⟩ := ints_in Try.underlying44 Try.underlying5 Try.cellsU8 ht2
      rw [add_plain] at hc0 hc1 hc2
      simp only [List.size_toArray, List.length_cons, List.length_nil, Nat.reduceAdd, Nat.add_zero, ← Nat.add_assoc] at hc0 hc1 hc2
      exact ⟨r, c, x, l, cp, zs, World.block_lt_of_cell? _ _ hc0, hc0, hc1, hc2, bounds_i64 hr, bounds_i64 hc, hlc, hz⟩
    · exact ⟨_, len, m, hcs, hl, by omega, 0, 0, fun h => by omega, fun i hi => by omega⟩
theorem Try.cellsAsk3 : Try.prog.cellsOf 47 = 3 := by kernel_rfl
/-- The argument: matrices, numbers, lanes. -/
structure AskM (W : World) (v : Value) (am : Option Addr) (lm cm : Nat) (an : Option Addr) (ln cn : Nat) (zs : List Int) (al : Option Addr) (ll cl : Nat) (ss : List ByteArray) : Prop where
  val : v = .agg #[.slice am lm cm, .slice an ln cn, .slice al ll cl]
  mats : MsIn W am lm
  nums : IntsIn W .i64 an ln zs
  strs : StrsIn W al ll ss
  caps : lm ≤ cm ∧ ln ≤ cn ∧ ll ≤ cl
set_option maxRecDepth 100000 in
theorem askM_in {H : Type} {enc : TypeId × Value → H} {W : World} {base : Nat} {v : Value} {d : DataW H} {p : List MemPlace} (hv : Value.okWide Try.prog W .any base 47 v)
    (h : DataW.Trod enc Try.prog W 0 (fun _ => true) true 47 v d p) : ∃ am lm cm an ln cn zs al ll cl ss, AskM W v am lm cm an ln cn zs al ll cl ss := by
  obtain ⟨v0, v1, v2, y0, y1, y2, m, rfl, rfl, rfl, hy0, hy1, hy2⟩ := open_agg3 Try.underlying47 (by kernel_rfl) Try.cellsAsk3 hv h
  obtain ⟨am, lm, cm, rfl, h1, h2⟩ := ms_in hy0
  obtain ⟨an, ln, cn, zs, rfl, h3, h4⟩ := ints_in Try.underlying41 Try.underlying3 Try.cellsInt hy1
  obtain ⟨al, ll, cl, ss, rfl, h5, h6⟩ := strs_in_cap Try.underlying22 Try.underlying9 Try.cellsStr hy2
  exact ⟨am, lm, cm, an, ln, cn, zs, al, ll, cl, ss, rfl, h2, h4, h6, h1, h3, h5⟩
theorem num3_any (n : Int) (w : World) : Calls Try.prog 41 #[.int .i64 n] w fun e w' => e = .returned (.int .i64 n) ∧ w = w' := by
  go_enter Try.func41, Try.ntmps41
  go_wp2
  go_ret
  exact ⟨rfl, rfl⟩
end Go.Proofs.Ytlpjpeonejbpjaa
