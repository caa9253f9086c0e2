
/- Rows of bytes that a call makes and writes, strings made of them, and statements that leave their order open and whose calls make memory: small laws (no conditions). -/
import Derived.Laws.IdiomStrings
import Derived.Laws.Rows
import Derived.Laws.Tables
import Derived.Laws.CopyRow
import Derived.Test.YtkfomaoillnehaaKit
namespace Go.Proofs.Ytkfomaoillnehaa
open Go.RowKit

/-! ### a region that leaves its order open, whose calls may make memory but write none that was there -/
/-- The worlds that keep all that lay in w. -/
def Later (w : World) : Type := { u : World // Kept w u }
def Later.of {w u : World} (h : Kept w u) : Later w := ⟨u, h⟩
theorem region_later {P : Program} {id : Nat} {Q : Exit → Act → World → Prop} {a : Act} {w : World} {l : List Oper} (hm : P.follows .mixedOrders = true) (hB : Region.lexB .any l.toArray = true)
    (h : wpQuiet P l.toArray (fun w' => ∃ u : Later w, w' = u.1) (fun a' => ∀ w', (∃ u : Later w, w' = u.1) → Q .normal a' w') l a) : (Code.region id l.toArray true).wp P Q a w :=
  wp_region_quiet (C := fun w' => ∃ u : Later w, w' = u.1) hm hB ⟨⟨{ w with drawn := w.drawn + 1 }, ⟨rfl, rfl, rfl, Nat.le_refl _, fun _ _ => rfl⟩⟩, rfl⟩ (by simpa using h)
/-- A callee that makes memory, in such a region. -/
theorem later_call {P : Program} {f : FuncId} {args : Array Value} {w : World} {u : Later w} {v : Value}
    (h : Calls P f args u.1 fun e w' => e = .returned v ∧ Kept u.1 w') : Calls P f args u.1 fun e w'' => e = .returned v ∧ ∃ u' : Later w, w'' = u'.1 :=
  h.mono fun _ w' ⟨he, hk⟩ => ⟨he, ⟨⟨w', u.2.trans hk⟩, rfl⟩⟩
/-- A callee that changes nothing. -/
theorem later_same {P : Program} {f : FuncId} {args : Array Value} {w : World} {u : Later w} {v : Value}
    (h : Calls P f args u.1 fun e w' => e = .returned v ∧ u.1 = w') : Calls P f args u.1 fun e w'' => e = .returned v ∧ ∃ u' : Later w, w'' = u'.1 :=
  h.mono fun _ _ ⟨he, hk⟩ => ⟨he, ⟨u, hk.symm⟩⟩
theorem later_cell {w : World} {b o : Nat} {v : Value} (h : w.cell? ⟨b, o, none⟩ = some v) : ∀ u : Later w, u.1.cell? ⟨b, o, none⟩ = some v :=
  fun u => u.2.cell (cell_lt h) h

/-! ### a row of bytes -/
structure Buf (w : World) (b : Nat) (l : List UInt8) : Prop where
  lt : b < w.heap.size
  cell : ∀ i (h : i < l.length), w.cell? ⟨b, i, none⟩ = some (.int .u8 (l[i].toNat : Int))
  free : ∀ i, i < l.length → w.frozen? ⟨b, i, none⟩ = false
theorem Buf.kept {w w' : World} {b : Nat} {l : List UInt8} (h : Buf w b l) (k : Kept w w') : Buf w' b l :=
  ⟨Nat.lt_of_lt_of_le h.lt k.size, fun i hi => k.cell h.lt (h.cell i hi), fun i hi => k.frozen h.lt (h.free i hi)⟩
theorem Buf.set {w : World} {b : Nat} {l : List UInt8} (h : Buf w b l) (i : Nat) (hi : i < l.length) (x : UInt8) : Buf (w.setCell ⟨b, i, none⟩ (.int .u8 (x.toNat : Int))) b (l.set i x) := by
  refine ⟨by simpa using h.lt, fun j hj => ?_, fun j hj => by rw [World.frozen?_setCell]; exact h.free j (by simpa using hj)⟩
  by_cases e : i = j
  · subst e
    rw [World.cell?_setCell_same _ _ _ (h.cell i hi)]
    simp
  · have hne : (⟨b, i, none⟩ : Addr) ≠ ⟨b, j, none⟩ := fun h => e (by cases h; rfl)
    rw [World.cell?_setCell_other (h := hne), h.cell j (by simpa using hj)]
    simp [e]
/-- '[]byte(s)' -/
def bytesBehind (w : World) (t : TypeId) (s : ByteArray) : World :=
  w.drew.alloc (.cells (bytesRow s (grownCap w s.size 0 t)) t ((bytesRow s (grownCap w s.size 0 t)).size, (bytesRow s (grownCap w s.size 0 t)).size + 1))
theorem bytes_of {P : Program} (src dst e : TypeId) (s : ByteArray) (hs : P.underlying src = some .string) (hd : P.underlying dst = some (.slice e)) (he : P.underlying e = some (.int .u8)) :
    ∀ w, (convert src dst (.string s)).run P w = .ok (.slice (some ⟨w.heap.size, 0, none⟩) s.size (grownCap w s.size 0 e)) (bytesBehind w e s) := fun w => run_bytes_of_string w src dst e s hs hd he
theorem bytesBehind_kept (w : World) (t : TypeId) (s : ByteArray) : Kept w (bytesBehind w t s) := by
  have h : Kept w w.drew := (Kept.refl w).drew
  exact h.alloc _
theorem bytesBehind_size (w : World) (t : TypeId) (s : ByteArray) : (bytesBehind w t s).heap.size = w.heap.size + 1 := by
  unfold bytesBehind; rw [World.size_alloc, World.size_drew]
theorem bytesBehind_buf (w : World) (t : TypeId) (s : ByteArray) : Buf (bytesBehind w t s) w.heap.size s.data.toList := by
  have hz : (bytesBehind w t s).heap.size = w.heap.size + 1 := by
    unfold bytesBehind; rw [World.size_alloc, World.size_drew]
  refine ⟨by omega, fun i hi => ?_, fun i hi => ?_⟩
  · have hi' : i < s.size := by simpa using hi
    have h := World.cell?_alloc_mark w.drew (bytesRow s (grownCap w s.size 0 t)) t ((bytesRow s (grownCap w s.size 0 t)).size, (bytesRow s (grownCap w s.size 0 t)).size + 1) i
    rw [World.size_drew] at h
    unfold bytesBehind
    rw [h]
    simp [bytesRow, Array.getElem?_append, hi']
  · have hi' : i < s.data.size := by simpa using hi
    have h := World.frozen?_alloc_mark w.drew (bytesRow s (grownCap w s.size 0 t)) t (bytesRow s (grownCap w s.size 0 t)).size ((bytesRow s (grownCap w s.size 0 t)).size + 1) i
    rw [World.size_drew] at h
    unfold bytesBehind
    rw [h]
    have e : s.size = s.data.size := rfl
    have : i < (bytesRow s (grownCap w s.size 0 t)).size := by
      simp [bytesRow]; omega
    simp; omega
/-- 'string(b)' -/
theorem Buf.string {P : Program} {w : World} {b : Nat} {l : List UInt8} (h : Buf w b l) (src dst e : TypeId) (hs : P.underlying src = some (.slice e)) (he : P.underlying e = some (.int .u8)) (hd : P.underlying dst = some .string) (cap : Nat) :
    (convert src dst (.slice (some ⟨b, 0, none⟩) l.length cap)).run P w = .ok (.string ⟨l.toArray⟩) w := by
  refine run_convert_bytes_back w src dst e ⟨b, 0, none⟩ cap l hs he hd (fun j hj => ?_)
  have e : (⟨b, 0, none⟩ : Addr).add j = ⟨b, j, none⟩ := by unfold Addr.add; split <;> simp_all
  rw [e]
  exact h.cell j hj

/-! ### a list of bytes turned from its head on -/
def upto (f : Nat → UInt8 → UInt8) (l : List UInt8) (k : Nat) : List UInt8 := l.mapIdx fun i x => if i < k then f i x else x
theorem upto_length (f : Nat → UInt8 → UInt8) (l : List UInt8) (k : Nat) : (upto f l k).length = l.length := by simp [upto]
theorem upto_zero (f : Nat → UInt8 → UInt8) (l : List UInt8) : upto f l 0 = l := by
  apply List.ext_getElem <;> simp [upto]
theorem upto_get (f : Nat → UInt8 → UInt8) (l : List UInt8) (k : Nat) (hk : k < l.length) : (upto f l k)[k]'(by rw [upto_length]; exact hk) = l[k] := by simp [upto]
theorem upto_set (f : Nat → UInt8 → UInt8) (l : List UInt8) (k : Nat) (hk : k < l.length) : (upto f l k).set k (f k l[k]) = upto f l (k + 1) := by
  apply List.ext_getElem
  · simp [upto]
  · intro i h1 h2
    simp only [upto, List.getElem_set, List.getElem_mapIdx]
    by_cases e : k = i
    · subst e; simp
    · rw [if_neg e]
      by_cases h : i < k
      · rw [if_pos h, if_pos (by omega)]
      · rw [if_neg h, if_neg (by omega)]
theorem upto_all (f : Nat → UInt8 → UInt8) (l : List UInt8) (k : Nat) (hk : l.length ≤ k) : upto f l k = l.mapIdx f := by
  apply List.ext_getElem
  · simp [upto]
  · intro i h1 h2
    have : i < k := by simp [upto] at h1; omega
    simp [upto, this]

theorem str_list (s : ByteArray) : (⟨s.data.toList.toArray⟩ : ByteArray) = s := Joins.bytes_eta s
theorem str_size (s : ByteArray) : s.data.toList.length = s.size := by simp

/-! ### whole rows -/
/-- The world under a name of its own. -/
theorem wp_named {P : Program} {c : Code} {Q : Exit → Act → World → Prop} {a : Act} {w : World} (h : ∀ w1, w1 = w → c.wp P Q a w1) : c.wp P Q a w := h _ rfl
theorem Kept.setRow {a b : World} (h : Kept a b) {g : Nat} (hg : a.heap.size ≤ g) (cs : Array Value) : Kept a (b.setRow g cs) :=
  Below.trans h ⟨rfl, rfl, rfl, by simp [World.setRow], fun k hk => setRow_other b g k cs (by omega)⟩
theorem BlockAt.setRow {w : World} {g : Nat} {C : Array Value} {t : TypeId} (h : BlockAt w g C t) (cs : Array Value) : BlockAt (w.setRow g cs) g cs t := setRow_heap w g C cs t (0, 0) h
theorem BlockAt.other {w : World} {g g' : Nat} {C : Array Value} {t : TypeId} (h : BlockAt w g C t) (cs : Array Value) (hne : g ≠ g') : BlockAt (w.setRow g' cs) g C t := (setRow_other w g' g cs hne).trans h
theorem BlockAt.setOther {w : World} {g g' i : Nat} {C : Array Value} {t : TypeId} (h : BlockAt w g C t) (v : Value) (hne : g ≠ g') : BlockAt (w.setCell ⟨g', i, none⟩ v) g C t := (Below.heap_setCell w ⟨g', i, none⟩ v g hne).trans h
theorem wpList_store_block {P : Program} {ops : Array Oper} {rest : List Oper} {op : Oper} {a : Act} {w : World} {Q : Exit → Act → World → Prop} (hgd : op.guard = none) (ty : TypeId) (x y : Operand) (ho : op.op = .store ty x y)
    (g : Nat) (cells old : Array Value) (t : TypeId) (hx : a.eval x = .pointer (some ⟨g, 0, none⟩)) (hy : a.eval y = .agg cells) (hg : BlockAt w g old t) (hi : (P.info? ty).map (·.size) = some cells.size) (hsz : old.size = cells.size) (h1 : cells.all (·.oneCell') = true)
    (h : wpList P ops Q rest (a.put op.dst undef) (w.setRow g cells)) : wpList P ops Q (op :: rest) a w :=
  wpList_plain hgd fun _ hK => by
    unfold Oper.wp execOp
    simp only [ho, hx, hy, Instr.storeAt, Instr.sureAddr, Sem.run_bind, Sem.run_pure, Result.andThen_ok, run_storeVar_row w g t ty old cells hg hi hsz h1]
    exact hK _ _ h

theorem zero_run {P : Program} {t : TypeId} {v : Value} (h : (P.info? t).map (·.zero) = some (some v)) (w : World) : (zeroValue t).run P w = .ok v w := by
  cases hq : P.info? t with
  | none => simp [hq] at h
  | some i => simp [hq] at h; simp [zeroValue, typeInfo, hq, h]
theorem wpList_alloc_block {P : Program} {ops : Array Oper} {rest : List Oper} {op : Oper} {a : Act} {w : World} {Q : Exit → Act → World → Prop} (hgd : op.guard = none) (ty : TypeId) (ho : op.op = .alloc ty)
    (z : Array Value) (hz : (P.info? ty).map (·.zero) = some (some (.agg z)))
    (h : wpList P ops Q rest (a.put op.dst (.pointer (some ⟨w.heap.size, 0, none⟩))) (w.alloc (.cells z ty))) : wpList P ops Q (op :: rest) a w :=
  wpList_plain hgd fun _ hK => by
    unfold Oper.wp execOp
    have hr : (Instr.alloc ty true (.tuple #[])).run P w = .ok (.pointer (some ⟨w.heap.size, 0, none⟩)) (w.alloc (.cells z ty)) := by
      simp [Instr.alloc, zero_run hz, Result.andThen, Value.cells, go_sem]
    simp only [ho, hr, Sem.run_bind, Sem.run_pure, Result.andThen_ok]
    exact hK _ _ h
theorem wpList_build_zero {P : Program} {ops : Array Oper} {rest : List Oper} {op : Oper} {a : Act} {w : World} {Q : Exit → Act → World → Prop} (hgd : op.guard = none) (ty : TypeId) (ho : op.op = .build ty #[])
    (z : Array Value) (hz : P.built ty [] = some z)
    (h : wpList P ops Q rest (a.put op.dst (.agg z)) w) : wpList P ops Q (op :: rest) a w :=
  wpList_plain hgd fun _ hK => by
    unfold Oper.wp execOp
    have hr := run_build w ty #[] z hz
    simp only [ho, Array.map_empty, hr, Sem.run_bind, Sem.run_pure, Result.andThen_ok]
    exact hK _ _ h
end Go.Proofs.Ytkfomaoillnehaa
