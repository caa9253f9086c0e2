/- Lists of texts that are read, each within the form's reach; how much they are (no conditions). -/
import Derived.Test.YtdllenoclnmmdaaRows
import Derived.SizedLaws
import Derived.Lib.SmallJoins
import Derived.Test.YtdllenoclnmmdaaStrs
import Derived.Test.YtdllenoclnmmdaaRes
namespace Go.Proofs.Ytdllenoclnmmdaa
open Go.ChangeShapes Go.WideShapes Go.ChangeAt Go.RowKit Go.Joins Go.Deep

theorem Try.cellsStr : Try.prog.cellsOf 9 = 1 := by kernel_rfl
theorem Try.bytesStr : Try.prog.bytesOf 9 = 16 := by kernel_rfl
theorem array1 {α : Type} {cs : Array α} (h : cs.size = 1) : ∃ c0, cs = #[c0] := by
  obtain ⟨l⟩ := cs
  match l, h with
  | [c0], _ => exact ⟨c0, rfl⟩
section
variable {H : Type} {enc : TypeId × Value → H} {P : Program} {w : World} {base : Nat} {spare : Nat → Bool} {held : Bool}
theorem trod_struct1 {t : TypeId} {f0 : Field} {fuel : Nat} {cs : List Value} {x : DataW H × List MemPlace} (ht : P.underlying t = some (.struct #[f0])) (h : DataW.trod enc P w base spare held fuel t cs = some x) :
    ∃ y0 n, x = (.agg [y0.1], y0.2) ∧ cs.length = P.cellsOf t ∧ DataW.trod enc P w base spare held n f0.type ((cs.drop f0.offset).take (P.cellsOf f0.type)) = some y0 := by
  obtain ⟨xs, n, _, rfl, hl, hlen, hf⟩ := DataW.trod_struct ht h
  match xs, hlen with
  | [y0], _ => exact ⟨y0, n, by simp, hl, by simpa using hf 0 f0 rfl⟩
theorem open_agg1 {r : Reach} {b0 : Nat} {t : TypeId} {f0 : Field} {v : Value} {d : DataW H} {p : List MemPlace} (hs : P.underlying t = some (.struct #[f0])) (hone : oneCellFields P #[f0] = true) (hC : P.cellsOf t = 1)
    (hv : Value.okWide P w r b0 t v) (h : DataW.Trod enc P w base spare held t v d p) :
    ∃ (v0 : Value) (y0 : DataW H × List MemPlace) (n : Nat), v = .agg #[v0] ∧ d = .agg [y0.1] ∧ p = y0.2 ∧ DataW.trod enc P w base spare held n f0.type [v0] = some y0 := by
  obtain ⟨cs, rfl, hsz⟩ := okWide_struct hs hv
  obtain ⟨c0, rfl⟩ := array1 (hsz.trans hC)
  obtain ⟨fuel, hf⟩ := h
  obtain ⟨y0, n, hx, _, h0⟩ := trod_struct1 hs hf
  obtain ⟨o0, k0⟩ := hone_of hone 0 f0 rfl
  simp only [Prod.mk.injEq] at hx
  exact ⟨c0, y0, n, rfl, hx.1, hx.2, by simpa [Value.cells, o0, k0] using h0⟩
end
theorem weightsAll_has {H : Type} {P : Program} {e : TypeId} : ∀ {l : List (DataW H)} {d : DataW H}, d ∈ l → ∀ n ∈ d.weights P e, n ∈ DataW.weightsAll P e l
  | d' :: r, d, hd, n, hn => by
    simp only [DataW.weightsAll, List.mem_append]
    rcases List.mem_cons.1 hd with rfl | h
    · exact Or.inl hn
    · exact Or.inr (weightsAll_has h n hn)
/-- A list of texts that is read: its number and its texts within the reach. -/
structure TextsIn (W : World) (a : Option Addr) (l cap : Nat) (ss : List ByteArray) : Prop where
  strs : StrsIn W a l ss
  le_cap : l ≤ cap
  few : l ≤ 8796093021952
  short : ∀ s ∈ ss, s.size ≤ 140737488351232
theorem TextsIn.kept {W W' : World} {a : Option Addr} {l cap : Nat} {ss : List ByteArray} (h : TextsIn W a l cap ss) (k : Kept W W') : TextsIn W' a l cap ss := ⟨h.strs.kept k, h.le_cap, h.few, h.short⟩
theorem TextsIn.size {W : World} {a : Option Addr} {l cap : Nat} {ss : List ByteArray} (h : TextsIn W a l cap ss) (i : Nat) (hi : i < l) : (ss.getD i ByteArray.empty).size ≤ 140737488351232 := by
  have hl : i < ss.length := by rw [h.strs.len_eq]; exact hi
  exact h.short _ (by simp [List.getD, hl])
/-- the cell of a text -/
theorem TextsIn.cell {W : World} {a : Option Addr} {l cap : Nat} {ss : List ByteArray} (h : TextsIn W a l cap ss) (hl : 0 < l) : ∃ b off, a = some ⟨b, off, none⟩ ∧ ∀ i, i < l → ∀ w, Kept W w → w.cell? ⟨b, off + i, none⟩ = some (.string (ss.getD i ByteArray.empty)) := by
  obtain ⟨b, off, ha, hc⟩ := h.strs.cells
  exact ⟨b, off, ha hl, fun i hi w k => k.cell (hc i hi).1 (hc i hi).2⟩
theorem texts_in {H : Type} {enc : TypeId × Value → H} {P : Program} {t e : TypeId} (ht : P.underlying t = some (.slice e)) (he : P.underlying e = some .string) (hc : P.cellsOf e = 1) (hb : P.bytesOf e = 16) {W : World} {fuel : Nat} {v : Value} {y : DataW H × List MemPlace}
    (h0 : DataW.trod enc P W 0 (fun _ => true) true fuel t [v] = some y) (hz : ∀ n ∈ y.1.weights P t, n ≤ reachBytes) :
    ∃ a len cap ss, v = .slice a len cap ∧ TextsIn W a len cap ss := by
  rcases open_strings ht he hc h0 with ⟨hcs, hx⟩ | ⟨a, len', cap', ss, hcs, _, hl, hm, hsz, hx, hcell, hws⟩
  · simp only [List.cons.injEq, and_true] at hcs
    exact ⟨none, 0, 0, [], hcs, ⟨rfl, by omega, (fun s hs => (by cases hs)), 0, 0, fun h => absurd h (Nat.lt_irrefl 0), fun i hi => absurd hi (Nat.not_lt_zero i)⟩, Nat.le_refl _, by omega, (fun s hs => (by cases hs))⟩
  · simp only [List.cons.injEq, and_true] at hcs
    simp only [if_true] at hsz
    unfold maxLen at hm hws
    subst hx
    have hz1 : ss.length * 16 ≤ reachBytes := by
      have := hz (((strs (H := H) (ss.take len')).length + (strs (H := H) (ss.drop len')).length) * P.bytesOf e) (by simp [DataW.weights, ht])
      rw [hb] at this
      simp [strs] at this
      omega
    have hz2 : ∀ s ∈ ss.take len', s.size ≤ reachBytes := fun s hs => by
      refine hz s.data.toList.length ?_
      simp only [DataW.weights, ht]
      exact List.mem_cons_of_mem _ (List.mem_append.2 (Or.inl (weightsAll_has (d := .lit (.string s.data.toList)) (List.mem_map.2 ⟨s, hs, rfl⟩) _ (by simp [DataW.weights]))))
    unfold reachBytes at hz1 hz2
    by_cases hp : 0 < ss.length
    · obtain ⟨b, off, spot⟩ := a
      have hspot : spot = none := by simpa [Addr.add] using World.cell?_spot (hcell 0 hp)
      subst hspot
      have hcell' : ∀ j, j < ss.length → W.cell? ⟨b, off + j, none⟩ = some (.string (ss.getD j ByteArray.empty)) := fun j hj => by rw [← Go.WideShapes.add_plain]; exact hcell j hj
      refine ⟨_, len', cap', ss.take len', hcs, ⟨by rw [List.length_take]; omega, by omega, fun s hs => hws s (List.mem_of_mem_take hs), b, off, fun _ => rfl, fun i hi => ?_⟩, by omega, by omega, hz2⟩
      have h1 := hcell' i (by omega)
      refine ⟨World.block_lt_of_cell? _ _ h1, ?_⟩
      rw [h1]
      simp [List.getD, hi]
    · exact ⟨_, len', cap', [], hcs, ⟨by simp; omega, by omega, (fun s hs => (by cases hs)), 0, 0, fun h => by omega, fun i hi => by omega⟩, by omega, by omega, (fun s hs => (by cases hs))⟩
/-- what the reckoning of texts tells: no less than nothing, and if it is little each is little -/
structure TxtSum (l : Nat) (ss : List ByteArray) (n : Int) : Prop where
  nonneg : 0 ≤ n
  many : n < 1048576 → (l : Int) ≤ n
  each : n < 1048576 → ∀ i, i < l → ((ss.getD i ByteArray.empty).size : Int) ≤ n
set_option maxRecDepth 100000 in
theorem texts_sum (a : Option Addr) (l cap : Nat) (ss : List ByteArray) (w : World) (h : TextsIn w a l cap ss) :
    Calls Try.prog 41 #[.slice a l cap] w fun e w' => (∃ n, e = .returned (.int .i64 n) ∧ TxtSum l ss n) ∧ w = w' := by
  have hle := h.few
  have HH := Lib.hid h
  clear h
  go_enter Try.func41, Try.ntmps41
  go_wp2
  go_loopw [3, 4] (fun m i wr => ∃ (k : Nat) (n : Int), k ≤ l ∧ i = .int .i64 k ∧ m = .int .i64 n ∧ (l : Int) ≤ n ∧ n ≤ 281474976710656 ∧ (∀ j, j < k → ((ss.getD j ByteArray.empty).size : Int) ≤ n) ∧ w = wr) (fun _ i _ => l - (intOf i).toNat)
  case atStart => exact ⟨0, l, by omega, rfl, rfl, by omega, by omega, fun j hj => by omega, rfl⟩
  case round =>
    obtain ⟨k, n, hk, rfl, rfl, hn0, hn1, hall, rfl⟩ := hrel
    have HA := Lib.hid hall
    clear hall
    by_cases hlt : k < l
    · by_cases hn : n < 1048576
      · obtain ⟨b, off, rfl, hc⟩ := HH.out.cell (by omega)
        have hcell := hc k hlt w (Kept.refl _)
        have hs := HH.out.size k hlt
        have HG : Hid (∀ z : Int, n ≤ z → ((ss.getD k ByteArray.empty).size : Int) ≤ z → ∀ j, j < k + 1 → ((ss.getD j ByteArray.empty).size : Int) ≤ z) := Lib.hid fun z h1 h2 j hj => by
          by_cases e : j = k
          · subst e; exact h2
          · exact Int.le_trans (HA.out j (by omega)) h1
        generalize ss.getD k ByteArray.empty = s at hcell hs HG
        clear hc
        go_wp2
        go_roundw
        case rel => exact ⟨k + 1, n + s.size, by omega, by go_num, rfl, by omega, by omega, HG.out _ (by omega) (by omega), by trivial⟩
        case measure => simp [intOf]; omega
      · go_wp2
        go_ret
        exact ⟨⟨n, rfl, by omega, fun h => by omega, fun h => by omega⟩, rfl⟩
    · obtain rfl : k = l := by omega
      go_wp2
      go_ret
      exact ⟨⟨n, rfl, by omega, fun _ => hn0, fun _ => HA.out⟩, rfl⟩
end Go.Proofs.Ytdllenoclnmmdaa
