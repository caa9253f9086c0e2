
/- A slice of the call's own that may begin anywhere in its block: its head, its tail, append to it (no conditions). -/
import Derived.Test.YtkfomaoillnehaaAps
import Derived.ArgAppend
namespace Go.Proofs.Ytkfomaoillnehaa
open Go.RowKit

theorem block_setCells (g : Nat) (t : TypeId) : ∀ (vs : List Value) (o : Nat) (w : World) (C : Array Value), BlockAt w g C t →
    ∃ C' : Array Value, BlockAt (w.setCells g o vs) g C' t ∧ C'.size = C.size ∧ (∀ j, j < vs.length → o + j < C.size → C'[o + j]? = vs[j]?) ∧ ∀ j, (j < o ∨ o + vs.length ≤ j) → C'[j]? = C[j]?
  | [], o, w, C, h => ⟨C, h, rfl, fun j hj => absurd hj (Nat.not_lt_zero j), fun _ _ => rfl⟩
  | v :: r, o, w, C, h => by
    obtain ⟨C', h1, h2, h3, h4⟩ := block_setCells g t r (o + 1) _ _ (h.set (i := o) v)
    refine ⟨C', h1, by rw [h2, Array.size_setIfInBounds], fun j hj hb => ?_, fun j hj => ?_⟩
    · cases j with
      | zero =>
        rw [Nat.add_zero, h4 o (by omega), Array.getElem?_setIfInBounds, if_pos rfl, if_pos (by omega)]
        rfl
      | succ j =>
        rw [show o + (j + 1) = o + 1 + j by omega, h3 j (by simpa using hj) (by rw [Array.size_setIfInBounds]; omega)]
        rfl
    · rw [h4 j (by simp at hj; omega), Array.getElem?_setIfInBounds, if_neg (by simp at hj; omega)]
theorem gr_setCells (g : Nat) : ∀ (vs : List Value) (o : Nat) (w : World), w.grownBy (w.setCells g o vs) (some g)
  | [], _, w => gr_refl w _
  | v :: r, o, w => gr_trans (gr_set w g o v) (gr_setCells g r (o + 1) _)
/-- a slice of one's own that may begin anywhere in its block -/
def TailOwn (w : World) (base : Nat) (e : TypeId) (v : Value) (n : Nat) (xs : List Value) : Prop :=
  xs.length = n ∧ ((v = .slice none 0 0 ∧ n = 0) ∨ ∃ g off cap cur, v = .slice (some ⟨g, off, none⟩) n cap ∧ base ≤ g ∧ BlockAt w g cur e ∧ n ≤ cap ∧ cap ≤ maxLen ∧ off + cap ≤ cur.size ∧ ∀ j, j < n → cur[off + j]? = xs[j]?)
section
variable {w w' : World} {base : Nat} {e : TypeId} {v : Value} {n : Nat} {xs : List Value}
theorem TailOwn.of_own (h : w.ownsRow base e 1 v n xs) : TailOwn w base e v n xs := by
  obtain ⟨h1, h2 | ⟨g, cap, cur, hv, hb, hg, hn, hm, hz, ht⟩⟩ := h
  · exact ⟨by omega, .inl h2⟩
  · refine ⟨by omega, .inr ⟨g, 0, cap, cur, hv, hb, hg, hn, hm, by omega, fun j hj => ?_⟩⟩
    rw [← ht, Nat.zero_add, List.getElem?_take, if_pos (by omega), Array.getElem?_toList]
theorem TailOwn.slice (h : TailOwn w base e v n xs) : ∃ a c, v = .slice a n c ∧ n ≤ c := by
  obtain ⟨h1, ⟨rfl, rfl⟩ | ⟨g, off, cap, cur, rfl, hb, hg, hn, _⟩⟩ := h
  · exact ⟨_, _, rfl, Nat.le_refl _⟩
  · exact ⟨_, _, rfl, hn⟩
theorem TailOwn.lt (h : TailOwn w base e v n xs) : ∀ q, v.ownBlock = some q → base ≤ q ∧ q < w.heap.size := by
  intro q hq
  obtain ⟨h1, ⟨rfl, rfl⟩ | ⟨g, off, cap, cur, rfl, hb, hg, hn, _⟩⟩ := h
  · cases hq
  · cases hq
    exact ⟨hb, hg.lt⟩
theorem TailOwn.gr {row : Option Nat} (h : TailOwn w base e v n xs) (k : w.grownBy w' row) (hne : ∀ q C, BlockAt w q C e → v.ownBlock = some q → some q ≠ row) : TailOwn w' base e v n xs := by
  obtain ⟨h1, h2 | ⟨g, off, cap, cur, rfl, hb, hg, h3⟩⟩ := h
  · exact ⟨h1, .inl h2⟩
  · exact ⟨h1, .inr ⟨g, off, cap, cur, rfl, hb, hg.gr k (hne g cur hg rfl), h3⟩⟩
theorem TailOwn.kept (h : TailOwn w base e v n xs) (k : Kept w w') : TailOwn w' base e v n xs := by
  obtain ⟨h1, h2 | ⟨g, off, cap, cur, rfl, hb, hg, h3⟩⟩ := h
  · exact ⟨h1, .inl h2⟩
  · exact ⟨h1, .inr ⟨g, off, cap, cur, rfl, hb, hg.kept k, h3⟩⟩
/-- its cells -/
theorem TailOwn.cells (h : TailOwn w base e v n xs) (hn : 0 < n) : ∃ g off cap, v = .slice (some ⟨g, off, none⟩) n cap ∧ base ≤ g ∧ n ≤ cap ∧ ∀ j, j < n → ∀ wk, Kept w wk → wk.cell? ⟨g, off + j, none⟩ = xs[j]? := by
  obtain ⟨h1, ⟨rfl, rfl⟩ | ⟨g, off, cap, cur, rfl, hb, hg, hc, _, _, h3⟩⟩ := h
  · omega
  · exact ⟨g, off, cap, rfl, hb, hc, fun j hj wk k => by rw [(hg.kept k).cell, h3 j hj]⟩
/-- what is behind its first -/
theorem TailOwn.tail {g off cap : Nat} {x : Value} (h : TailOwn w base e (.slice (some ⟨g, off, none⟩) (n + 1) cap) (n + 1) (x :: xs)) : TailOwn w base e (.slice (if cap = 1 then some ⟨g, off, none⟩ else some ⟨g, off + 1, none⟩) n (cap - 1)) n xs := by
  obtain ⟨h1, ⟨h2, h3⟩ | ⟨g', off', cap', cur, hv, hb, hg, hn, hm, hz, hc⟩⟩ := h
  · omega
  · cases hv
    refine ⟨by simpa using h1, .inr ?_⟩
    by_cases e1 : cap = 1
    · rw [if_pos e1]
      exact ⟨g, off, cap - 1, cur, rfl, hb, hg, by omega, by omega, by omega, fun j hj => by omega⟩
    · rw [if_neg e1]
      exact ⟨g, off + 1, cap - 1, cur, rfl, hb, hg, by omega, by omega, by omega, fun j hj => by
        have := hc (j + 1) (by omega)
        rw [show off + 1 + j = off + (j + 1) by omega, this]; rfl⟩
end
theorem gr_none {a b : World} (h : a.grownBy b none) (row : Option Nat) : a.grownBy b row := ⟨h.os, h.tape, h.output, h.size, fun k hk _ => h.block k hk (fun e => by cases e)⟩
theorem run_append_tail {P : Program} {w : World} (base : Nat) (t ty e : TypeId) (i : TypeInfo) (z : Value) (bytes : Nat) (ht : P.underlying t = some (.slice e)) (hi : P.info? e = some i) (hz : i.zero = some z)
    (hsize : i.size = 1) (hby : i.bytes = bytes) (hzs : z.cells.size = 1) (v : Value) (n : Nat) (xs : List Value) (hown : TailOwn w base e v n xs)
    (ax : Option Addr) (m c : Nat) (news : List Value) (hU : Holds1 w ax m news) (h63 : n + m ≤ maxLen) (hbytes : (n + m) * bytes ≤ 140737488355328) (hbase : base ≤ w.heap.size) :
    ∃ v' w', (Builtin.append_ #[t, t] ty #[v, .slice ax m c]).run P w = .ok v' w' ∧ TailOwn w' base e v' (n + m) (xs ++ news) ∧ w.grownBy w' v.ownBlock ∧ (∀ q, v'.ownBlock = some q → v.ownBlock = some q ∨ w.heap.size ≤ q) := by
  obtain ⟨hl, h1, hn, hc⟩ := hU
  cases ax with
  | none =>
    obtain rfl := hn rfl
    obtain rfl : news = [] := List.length_eq_zero_iff.1 hl
    refine ⟨v, w, ?_, by rw [List.append_nil]; exact hown, gr_refl w _, fun q h => .inl h⟩
    rcases hown.2 with ⟨rfl, rfl⟩ | ⟨g, off, cap, cur, rfl, _, _, hnc, _⟩
    · simp [Builtin.append_, run_underlying ht, sizeOf, typeInfo, hi, Builtin.lenOf, Builtin.firstCells]
    · simp [Builtin.append_, run_underlying ht, sizeOf, typeInfo, hi, Builtin.lenOf, Builtin.firstCells, hnc, storeCells]
  | some ad =>
    rcases hown.2 with ⟨rfl, rfl⟩ | ⟨g, off, cap, cur, rfl, hb, hg, hnc, hcm, hoc, hcur⟩
    · obtain rfl : xs = [] := List.length_eq_zero_iff.1 hown.1
      obtain ⟨v', w', hr, h2, h3, _, h5⟩ := run_append_own_at (P := P) (w := w) base t ty e i z 1 bytes ht hi hz hsize hby hzs (by omega) (.slice none 0 0) 0 [] (World.ownsRow_nil _ _ _ _) ad m c news (by omega) (hc ad rfl) h1 h63 hbytes hbase
      refine ⟨v', w', hr, TailOwn.of_own h2, h3, fun q hq => ?_⟩
      rcases h5 with h5 | h5
      · rw [h5] at hq; exact .inl hq
      · rw [h5] at hq; cases hq; exact .inr (Nat.le_refl _)
    · by_cases hroom : n + m ≤ cap
      · have hr := run_append_room_cells (P := P) w t ty e i ht hi g off n cap ad m c news (by rw [hsize]; omega) (hc ad rfl) h1 hroom
          (fun j hj => by rw [hsize, Nat.mul_one, hg.cell, Array.getElem?_eq_getElem (show off + n + j < cur.size by omega)]; rfl) (fun j hj => hg.free _)
        rw [hsize, Nat.mul_one] at hr
        obtain ⟨C', k1, k2, k3, k4⟩ := block_setCells g e news (off + n) w cur hg
        refine ⟨_, _, hr, ⟨by rw [List.length_append, hown.1, hl], .inr ⟨g, off, cap, C', rfl, hb, k1, hroom, hcm, by omega, fun j hj => ?_⟩⟩, gr_setCells g news (off + n) w, fun q hq => .inl hq⟩
        by_cases e1 : j < n
        · rw [k4 _ (Or.inl (by omega)), hcur j e1, List.getElem?_append_left (by rw [hown.1]; exact e1)]
        · have := k3 (j - n) (by omega) (by omega)
          rw [show off + n + (j - n) = off + j by omega] at this
          rw [this, List.getElem?_append_right (by rw [hown.1]; omega), hown.1]
      · have holds : ∀ j u, xs[j]? = some u → w.cell? ((⟨g, off, none⟩ : Addr).add j) = some u := fun j u hj => by
          have hj' : j < n := by have := (List.getElem?_eq_some_iff.1 hj).1; rw [hown.1] at this; exact this
          rw [show (⟨g, off, none⟩ : Addr).add j = ⟨g, off + j, none⟩ by unfold Addr.add; split <;> simp_all, hg.cell, hcur j hj', hj]
        obtain ⟨v', w', hr, h2, h3⟩ := run_append_arg_grows (P := P) w t ty e i z 1 bytes ht hi hz hsize hby hzs (by omega) ⟨g, off, none⟩ n cap xs (by rw [hown.1]; omega) holds ad m c news (by omega) (hc ad rfl) (by omega) h63 hbytes
        exact ⟨v', w', hr, TailOwn.of_own (own_base h2 hbase), gr_none h3 _, fun q hq => .inr (h2.lt q hq).1⟩
theorem wpList_append_tail {P : Program} {w : World} {ops : Array Oper} {rest : List Oper} {o : Oper} {a : Act} {Q : Exit → Act → World → Prop} (hgd : o.guard = none) (s x : Operand) (t : TypeId)
    (ho : o.op = .call { callee := .builtin .append, args := #[s, x], argTypes := #[t, t] })
    (base : Nat) (e : TypeId) (i : TypeInfo) (z : Value) (bytes : Nat) (ht : P.underlying t = some (.slice e)) (hi : P.info? e = some i) (hz : i.zero = some z)
    (hsize : i.size = 1) (hby : i.bytes = bytes) (hzs : z.cells.size = 1) (v : Value) (n : Nat) (xs : List Value) (hs : a.eval s = v) (hown : TailOwn w base e v n xs)
    (ax : Option Addr) (m c : Nat) (news : List Value) (hx : a.eval x = .slice ax m c) (hU : Holds1 w ax m news) (h63 : n + m ≤ maxLen) (hbytes : (n + m) * bytes ≤ 140737488355328) (hbase : base ≤ w.heap.size)
    (h : ∀ v' w', TailOwn w' base e v' (n + m) (xs ++ news) → w.grownBy w' v.ownBlock → (∀ q, v'.ownBlock = some q → v.ownBlock = some q ∨ w.heap.size ≤ q) → wpList P ops Q rest (a.put o.dst v') w') :
    wpList P ops Q (o :: rest) a w := by
  refine wpList_plain hgd fun K hK => ?_
  obtain ⟨v', w', hrun, h2, h3, h5⟩ := run_append_tail (P := P) (w := w) base t o.type e i z bytes ht hi hz hsize hby hzs v n xs hown ax m c news hU h63 hbytes hbase
  unfold Oper.wp
  simp [execOp, ho, resolve, invoke, builtin, hs, hx, hrun, Result.andThen]
  exact hK _ _ (h v' w' h2 h3 h5)
end Go.Proofs.Ytkfomaoillnehaa
