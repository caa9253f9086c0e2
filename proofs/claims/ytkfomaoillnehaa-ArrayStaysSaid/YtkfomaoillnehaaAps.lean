
/- Append of a list of texts as it is read, nil or not, to a row of the call's own; of nothing (no conditions). -/
import Derived.Test.YtkfomaoillnehaaOwn
import Derived.Test.YtkfomaoillnehaaStrs
namespace Go.Proofs.Ytkfomaoillnehaa
open Go.RowKit

theorem own_takes_nil {P : Program} {w : World} (base : Nat) (t ty e : TypeId) (i : TypeInfo) (size : Nat) (ht : P.underlying t = some (.slice e)) (hi : P.info? e = some i) (c : Nat)
    (v : Value) (n : Nat) (xs : List Value) (hown : w.ownsRow base e size v n xs) : (Builtin.append_ #[t, t] ty #[v, .slice none 0 c]).run P w = .ok v w := by
  rcases hown.2 with ⟨rfl, rfl⟩ | ⟨g, cap, cur, rfl, _, _, hnc, _⟩
  · simp [Builtin.append_, run_underlying ht, sizeOf, typeInfo, hi, Builtin.lenOf, Builtin.firstCells]
  · simp [Builtin.append_, run_underlying ht, sizeOf, typeInfo, hi, Builtin.lenOf, Builtin.firstCells, hnc, storeCells]
/-- what is appended: so many values, from a slice that is nil or holds them -/
def Holds1 (w : World) (ax : Option Addr) (m : Nat) (news : List Value) : Prop := news.length = m ∧ (∀ u ∈ news, u.oneCell' = true) ∧ (ax = none → m = 0) ∧ ∀ ad, ax = some ad → ∀ j u, news[j]? = some u → w.cell? (ad.add j) = some u
theorem run_append_held {P : Program} {w : World} (base : Nat) (t ty e : TypeId) (i : TypeInfo) (z : Value) (bytes : Nat) (ht : P.underlying t = some (.slice e)) (hi : P.info? e = some i) (hz : i.zero = some z)
    (hsize : i.size = 1) (hby : i.bytes = bytes) (hzs : z.cells.size = 1) (v : Value) (n : Nat) (xs : List Value) (hown : w.ownsRow base e 1 v n xs)
    (ax : Option Addr) (m c : Nat) (news : List Value) (hU : Holds1 w ax m news) (h63 : n + m ≤ maxLen) (hbytes : (n + m) * bytes ≤ 140737488355328) (hbase : base ≤ w.heap.size) :
    ∃ v' w', (Builtin.append_ #[t, t] ty #[v, .slice ax m c]).run P w = .ok v' w' ∧ w'.ownsRow base e 1 v' (n + m) (xs ++ news) ∧ w.grownBy w' v.ownBlock ∧ (v'.ownBlock = v.ownBlock ∨ v'.ownBlock = some w.heap.size) := by
  obtain ⟨hl, h1, hn, hc⟩ := hU
  cases ax with
  | none =>
    obtain rfl := hn rfl
    obtain rfl : news = [] := List.length_eq_zero_iff.1 hl
    exact ⟨v, w, own_takes_nil base t ty e i 1 ht hi c v n xs hown, by rw [List.append_nil]; exact hown, gr_refl w _, .inl rfl⟩
  | some ad =>
    obtain ⟨v', w', hr, h2, h3, _, h5⟩ := run_append_own_at (P := P) (w := w) base t ty e i z 1 bytes ht hi hz hsize hby hzs (by omega) v n xs hown ad m c news (by omega) (hc ad rfl) h1 h63 hbytes hbase
    exact ⟨v', w', hr, h2, h3, h5⟩
theorem wpList_append_held {P : Program} {w : World} {ops : Array Oper} {rest : List Oper} {o : Oper} {a : Act} {Q : Exit → Act → World → Prop} (hgd : o.guard = none) (s x : Operand) (t : TypeId)
    (ho : o.op = .call { callee := .builtin .append, args := #[s, x], argTypes := #[t, t] })
    (base : Nat) (e : TypeId) (i : TypeInfo) (z : Value) (bytes : Nat) (ht : P.underlying t = some (.slice e)) (hi : P.info? e = some i) (hz : i.zero = some z)
    (hsize : i.size = 1) (hby : i.bytes = bytes) (hzs : z.cells.size = 1) (v : Value) (n : Nat) (xs : List Value) (hs : a.eval s = v) (hown : w.ownsRow base e 1 v n xs)
    (ax : Option Addr) (m c : Nat) (news : List Value) (hx : a.eval x = .slice ax m c) (hU : Holds1 w ax m news) (h63 : n + m ≤ maxLen) (hbytes : (n + m) * bytes ≤ 140737488355328) (hbase : base ≤ w.heap.size)
    (h : ∀ v' w', w'.ownsRow base e 1 v' (n + m) (xs ++ news) → w.grownBy w' v.ownBlock → (v'.ownBlock = v.ownBlock ∨ v'.ownBlock = some w.heap.size) → wpList P ops Q rest (a.put o.dst v') w') :
    wpList P ops Q (o :: rest) a w := by
  refine wpList_plain hgd fun K hK => ?_
  obtain ⟨v', w', hrun, h2, h3, h5⟩ := run_append_held (P := P) (w := w) base t o.type e i z bytes ht hi hz hsize hby hzs v n xs hown ax m c news hU h63 hbytes hbase
  unfold Oper.wp
  simp [execOp, ho, resolve, invoke, builtin, hs, hx, hrun, Result.andThen]
  exact hK _ _ (h v' w' h2 h3 h5)
theorem held_strs {w : World} {a : Option Addr} {m : Nat} {us : List ByteArray} (h : StrsIn w a m us) : Holds1 w a m (us.map Value.string) := by
  obtain ⟨b, off, ha, hc⟩ := h.cells
  refine ⟨by rw [List.length_map, h.len_eq], fun u hu => ?_, fun e => ?_, fun ad e j u hj => ?_⟩
  · obtain ⟨s, _, rfl⟩ := List.mem_map.1 hu
    rfl
  · rcases Nat.eq_zero_or_pos m with h0 | h0
    · exact h0
    · rw [ha h0] at e; cases e
  · have hj' : j < us.length := by
      have := (List.getElem?_eq_some_iff.1 hj).1
      simpa using this
    have hjm : j < m := by rw [← h.len_eq]; exact hj'
    rw [ha (by omega)] at e
    cases e
    rw [show (⟨b, off, none⟩ : Addr).add j = ⟨b, off + j, none⟩ by unfold Addr.add; split <;> simp_all, (hc j hjm).2]
    rw [List.getElem?_map, List.getElem?_eq_getElem hj'] at hj
    simp at hj
    rw [← hj]
    simp [List.getD, hj']
/-- one value, in a block of its own -/
theorem held_one (w : World) (x : Value) (t : TypeId) (hx : x.oneCell' = true) : Holds1 (w.alloc (.cells #[x] t)) (some ⟨w.heap.size, 0, none⟩) 1 [x] :=
  ⟨rfl, fun u hu => by rw [List.mem_singleton] at hu; rw [hu]; exact hx, (fun e => by cases e), fun ad e => by cases e; exact cell_one_new w x t⟩
end Go.Proofs.Ytkfomaoillnehaa
