/- A text fed to a Hash: (*digest.Hash).Write (of at most 2^48 bytes in all; both tables as they are laid, the Hash no part of them). -/
import Derived.Test.YtdllenoclnmmdaaDoorBl9
import Derived.Test.YtdllenoclnmmdaaDoorLater
namespace Go.Proofs.YtdllenoclnmmdaaDoor
open Go.RowKit Go.Shelf
attribute [local go_sem] Oper.semAt_some

/-! a Hash -/
def hcells (v : List Nat) (r : ByteArray) (n : Nat) : Array Value := cw v ++ #[.string r, .int .i64 (n : Int)]
def restOf (l : List UInt8) : ByteArray := ⟨(l.drop (64 * Bl.ahead l.length)).toArray⟩
def hsum (l : List UInt8) : List Nat := Bl.sums l (Bl.ahead l.length)
def HashAt (w : World) (b : Nat) (l : List UInt8) : Prop := BlockAt w b (hcells (begun (hsum l)) (restOf l) l.length) 56
theorem hsum_ok (l : List UInt8) : Bl.W 8 (hsum l) := Bl.sums_ok _ _
theorem hcells_size {v : List Nat} (h : Bl.W 8 v) (r : ByteArray) (n : Nat) : (hcells v r n).size = 10 := by
  unfold hcells
  rw [Array.size_append, size8 h]
  rfl
theorem hcells_8 {v : List Nat} (h : Bl.W 8 v) (r : ByteArray) (n : Nat) : (hcells v r n)[8]? = some (.string r) := by
  unfold hcells
  rw [Array.getElem?_append_right (by rw [size8 h]; omega), size8 h]
  rfl
theorem hcells_9 {v : List Nat} (h : Bl.W 8 v) (r : ByteArray) (n : Nat) : (hcells v r n)[9]? = some (.int .i64 (n : Int)) := by
  unfold hcells
  rw [Array.getElem?_append_right (by rw [size8 h]; omega), size8 h]
  rfl
theorem hcells_low {v : List Nat} (h : Bl.W 8 v) (r : ByteArray) (n i : Nat) (hi : i < 8) : (hcells v r n)[i]? = (cw v)[i]? := by
  unfold hcells
  rw [Array.getElem?_append_left (by rw [size8 h]; omega)]
theorem hcells_rest {v : List Nat} (h : Bl.W 8 v) (r r' : ByteArray) (n : Nat) : (hcells v r n).setIfInBounds 8 (.string r') = hcells v r' n := by
  obtain ⟨h1, _⟩ := h
  match v, h1 with
  | [a, b, c, d, e, f, g, i], _ => rfl
theorem hcells_len {v : List Nat} (h : Bl.W 8 v) (r : ByteArray) (n n' : Nat) : (hcells v r n).setIfInBounds 9 (.int .i64 (n' : Int)) = hcells v r n' := by
  obtain ⟨h1, _⟩ := h
  match v, h1 with
  | [a, b, c, d, e, f, g, i], _ => rfl
theorem hcells_sums {v v' : List Nat} (h : Bl.W 8 v) (h' : Bl.W 8 v') (r : ByteArray) (n : Nat) : ((hcells v r n).toList.take (0 + 0) ++ (cw v').toList ++ (hcells v r n).toList.drop (0 + 0 + (cw v').toList.length)).toArray = hcells v' r n := by
  obtain ⟨h1, _⟩ := h
  obtain ⟨h2, _⟩ := h'
  match v, h1, v', h2 with
  | [a, b, c, d, e, f, g, i], _, [a', b', c', d', e', f', g', i'], _ => rfl
theorem hash_part {w : World} {b : Nat} {v : List Nat} {r : ByteArray} {n : Nat} {t : TypeId} (hv : Bl.W 8 v) (h : BlockAt w b (hcells v r n) t) : ∀ j x, (cw v).toList[j]? = some x → w.cell? ((⟨b, 0, none⟩ : Addr).add j) = some x := by
  intro j x hj
  have hj8 : j < 8 := by
    have h2 := (List.getElem?_eq_some_iff.1 hj).1
    rw [Array.length_toList, size8 hv] at h2
    exact h2
  rw [add_none, Nat.zero_add, h.cell, hcells_low hv r n j hj8, ← Array.getElem?_toList]
  exact hj
theorem Begins.gr {w w' : World} {b : Nat} (h : Begins w) (k : w.grownBy w' (some b)) (hne : b ≠ 0) : Begins w' := fun i hi => by
  have hc := h i hi
  have e := k.block _ (cell_lt hc) (fun q => hne (by cases q; rfl))
  unfold World.cell? at hc ⊢
  rw [e]
  exact hc
theorem Orders.gr {w w' : World} {b : Nat} (h : Orders w) (k : w.grownBy w' (some b)) (hne : b ≠ 1) : Orders w' := fun i hi => by
  have hc := h i hi
  have e := k.block _ (cell_lt hc) (fun q => hne (by cases q; rfl))
  unfold World.cell? at hc ⊢
  rw [e]
  exact hc
theorem ownFrom_grown {β : Type} {B b : Nat} {w₀ : World} (hB : w₀.heap.size ≤ B) : OwnFrom B (fun (_ : β) W => w₀.grownBy W (some b)) := fun _ W W' row hs hg hr =>
  ⟨hg.os.trans hs.os, hg.tape.trans hs.tape, hg.output.trans hs.output, Nat.le_trans hs.size hg.size, fun k hk hne => (hg.block k (Nat.lt_of_lt_of_le hk hs.size) (fun e => by have := (hr k e.symm).1; omega)).trans (hs.block k hk hne)⟩

/-! laws within a round -/
theorem wpListIn_load_row {F : Fence} {n : Nat} {P : Program} {w : World} {ops : Array Oper} {rest : List Oper} {o : Oper} {a : Act} {Q : Exit → Act → World → Prop} (hgd : o.guard = none) (ty : TypeId) (x : Operand) (ho : o.op = .load ty x)
    (p : Addr) (hx : a.eval x = .pointer (some p)) (cs : Array Value) (d : TypeDesc) (hc : ∀ j v, cs.toList[j]? = some v → w.cell? (p.add j) = some v)
    (hu : P.underlying ty = some d) (hd : (match d with | .struct _ | .array _ _ => true | _ => false) = true) (hi : (P.info? ty).map (·.size) = some cs.size)
    (h : wpListIn F n P ops Q rest (a.put o.dst (.agg cs)) w) : wpListIn F n P ops Q (o :: rest) a w := by
  refine wpListIn_plain hgd fun K hK => ?_
  unfold Oper.wpIn
  refine ⟨?_, ?_⟩
  · simp [Oper.about, ho]
  · rw [Oper.semAt_plain F _ _ (by rw [ho]; intro c hc'; cases hc')]
    unfold execOp
    simp only [ho, hx, Instr.loadAt, Instr.sureAddr, Sem.run_bind, Sem.run_pure, Result.andThen_ok, run_load_part w p ty cs d hc hu hd hi]
    exact hK _ _ h
theorem wpListIn_store_row {F : Fence} {n : Nat} {P : Program} {w : World} {ops : Array Oper} {rest : List Oper} {o : Oper} {a : Act} {Q : Exit → Act → World → Prop} (hgd : o.guard = none) (ty : TypeId) (x y : Operand) (ho : o.op = .store ty x y)
    (g : Nat) (cells old : Array Value) (t : TypeId) (hx : a.eval x = .pointer (some ⟨g, 0, none⟩)) (hy : a.eval y = .agg cells) (hg : BlockAt w g old t) (hi : (P.info? ty).map (·.size) = some cells.size) (hsz : old.size = cells.size) (h1 : cells.all (·.oneCell') = true)
    (h : wpListIn F n P ops Q rest (a.put o.dst undef) (w.setRow g cells)) : wpListIn F n P ops Q (o :: rest) a w := by
  refine wpListIn_plain hgd fun K hK => ?_
  unfold Oper.wpIn
  refine ⟨?_, ?_⟩
  · simp [Oper.about, ho]
  · rw [Oper.semAt_plain F _ _ (by rw [ho]; intro c hc'; cases hc')]
    unfold execOp
    simp only [ho, hx, hy, Instr.storeAt, Instr.sureAddr, Sem.run_bind, Sem.run_pure, Result.andThen_ok, run_storeVar_row w g t ty old cells hg hi hsz h1]
    exact hK _ _ h
/-- eight cells stored into a part of a block -/
theorem run_store_part {P : Program} (w : World) (g : Nat) (t ty : TypeId) (old cells : Array Value) (hg : BlockAt w g old t) (hi : (P.info? ty).map (·.size) = some cells.size) (hsz : cells.size ≤ old.size) (h1 : cells.all (·.oneCell') = true) :
    (storeVar ty ⟨g, 0, none⟩ (.agg cells)).run P w = .ok () (w.setRow g (old.toList.take (0 + 0) ++ cells.toList ++ old.toList.drop (0 + 0 + cells.toList.length)).toArray) := by
  have hst := run_storeCells_at P g 0 t cells.toList 0 old w hg (by simpa using hsz) (fun v hv => Array.all_eq_true'.1 h1 v (by simpa using hv))
  cases hq : P.info? ty with
  | none => simp [hq] at hi
  | some i =>
    have hs : i.size = cells.size := by simpa [hq] using hi
    unfold storeVar
    simp only [Sem.run_bind, sizeOf_run w hi, Result.andThen_ok, Value.cells]
    simp [hst]
theorem wpListIn_store_part {F : Fence} {n : Nat} {P : Program} {w : World} {ops : Array Oper} {rest : List Oper} {o : Oper} {a : Act} {Q : Exit → Act → World → Prop} (hgd : o.guard = none) (ty : TypeId) (x y : Operand) (ho : o.op = .store ty x y)
    (g : Nat) (cells old : Array Value) (t : TypeId) (hx : a.eval x = .pointer (some ⟨g, 0, none⟩)) (hy : a.eval y = .agg cells) (hg : BlockAt w g old t) (hi : (P.info? ty).map (·.size) = some cells.size) (hsz : cells.size ≤ old.size) (h1 : cells.all (·.oneCell') = true)
    (h : wpListIn F n P ops Q rest (a.put o.dst undef) (w.setRow g (old.toList.take (0 + 0) ++ cells.toList ++ old.toList.drop (0 + 0 + cells.toList.length)).toArray)) : wpListIn F n P ops Q (o :: rest) a w := by
  refine wpListIn_plain hgd fun K hK => ?_
  unfold Oper.wpIn
  refine ⟨?_, ?_⟩
  · simp [Oper.about, ho]
  · rw [Oper.semAt_plain F _ _ (by rw [ho]; intro c hc'; cases hc')]
    unfold execOp
    simp only [ho, hx, hy, Instr.storeAt, Instr.sureAddr, Sem.run_bind, Sem.run_pure, Result.andThen_ok, run_store_part w g t ty old cells hg hi hsz h1]
    exact hK _ _ h
theorem cut_drop (L : List UInt8) (c a b : Nat) : Bl.cut (L.drop c) a b = Bl.cut L (c + a) (c + b) := by
  unfold Bl.cut
  rw [List.take_drop, List.drop_drop]
end Go.Proofs.YtdllenoclnmmdaaDoor
