/- The digest's two tables as they lie, the eight numbers turned with their begins (digest.begun), and laws for a value's parts (a table lies as it is laid). -/
import Derived.Test.YtdllenoclnmmdaaDoorBl5
import Derived.Laws.CopyRow
namespace Go.Proofs.YtdllenoclnmmdaaDoor
open Go.RowKit Go.Shelf
attribute [local go_sem] Oper.semAt_some

/-! laws -/
theorem wpList_box_block {P : Program} {ops : Array Oper} {rest : List Oper} {o : Oper} {a : Act} {w : World} {Q : Exit → Act → World → Prop} (hg : o.guard = none) (t : TypeId) (x : Operand) (ho : o.op = .box t x)
    (cells : Array Value) (hx : a.eval x = .agg cells)
    (h : wpList P ops Q rest (a.put o.dst (.pointer (some ⟨w.heap.size, 0, none⟩))) (w.alloc (.cells cells t))) : wpList P ops Q (o :: rest) a w := by
  refine wpList_plain hg fun K hK => ?_
  unfold Oper.wp execOp
  simp only [ho, hx, Sem.run_bind, Instr.box, newVar, newRow, run_newObj_alloc, Sem.run_pure, Result.andThen_ok]
  exact hK _ _ h
theorem isAgg_run {P : Program} (w : World) {t : TypeId} {d : TypeDesc} (hu : P.underlying t = some d) : (isAgg t).run P w = .ok (match d with | .struct _ | .array _ _ => true | _ => false) w := by
  unfold isAgg
  rw [Sem.run_bind, run_underlying hu w]
  cases d <;> simp
theorem sizeOf_run {P : Program} (w : World) {t : TypeId} {n : Nat} (hi : (P.info? t).map (·.size) = some n) : (sizeOf t).run P w = .ok n w := by
  cases hq : P.info? t with
  | none => simp [hq] at hi
  | some i =>
    have hs : i.size = n := by simpa [hq] using hi
    simp [sizeOf, typeInfo, hq, hs]
/-- a part of an array by value, in cells -/
theorem run_index_row {P : Program} (w : World) (t e : TypeId) (n sz : Nat) (cs : Array Value) (k : IntKind) (i : Nat) (d : TypeDesc) (h : P.underlying t = some (.array n e)) (hi : i < n)
    (hs : (P.info? e).map (·.size) = some sz) (hu : P.underlying e = some d) (hd : (match d with | .struct _ | .array _ _ => true | _ => false) = true) :
    (Instr.index t (.agg cs) (.int k i)).run P w = .ok (.agg (cs.extract (i * sz) (i * sz + sz))) w := by
  have hn : (0 : Int) ≤ (i : Int) ∧ (i : Int) < (n : Int) := by omega
  have e1 : (part e cs (i * sz)).run P w = .ok (.agg (cs.extract (i * sz) (i * sz + sz))) w := by
    unfold part
    simp [Sem.run_bind, isAgg_run w hu, hd, sizeOf_run w hs]
  simp [Instr.index, run_underlying h, asIntOf, hn, sizeOf_run w hs, Sem.run_bind, e1]
  intro q
  omega
/-- an entry of an array by value, one cell -/
theorem run_index_cell {P : Program} (w : World) (t e : TypeId) (n : Nat) (cs : Array Value) (k : IntKind) (i : Nat) (d : TypeDesc) (v : Value) (h : P.underlying t = some (.array n e)) (hi : i < n)
    (hs : (P.info? e).map (·.size) = some 1) (hu : P.underlying e = some d) (hd : (match d with | .struct _ | .array _ _ => true | _ => false) = false) (hv : cs[i]? = some v) :
    (Instr.index t (.agg cs) (.int k i)).run P w = .ok v w := by
  have hn : (0 : Int) ≤ (i : Int) ∧ (i : Int) < (n : Int) := by omega
  have e1 : (part e cs i).run P w = .ok v w := by
    unfold part
    simp [Sem.run_bind, isAgg_run w hu, hd, hv]
  simp [Instr.index, run_underlying h, asIntOf, hn, sizeOf_run w hs, Sem.run_bind, e1]
  intro q
  omega
theorem Tryd.info32 : (Tryd.prog.info? 53).map (·.size) = some 1 := by kernel_rfl
/-- an entry of eight numbers by value -/
theorem index8 {v : List Nat} (h : Bl.W 8 v) (i : Nat) (hi : i < 8) (w : World) : (Instr.index 54 (.agg (cw v)) (.int .i64 i)).run Tryd.prog w = .ok (.int .u32 (v.getD i 0 : Nat)) w :=
  run_index_cell w _ _ 8 _ _ i _ _ Tryd.underlying54 hi Tryd.info32 Tryd.underlying53 rfl (cw_at v i (by rw [h.len]; exact hi))

/-! the tables -/
def Begins (w : World) : Prop := ∀ i, i < 8 → w.cell? ⟨0, i, none⟩ = some (.int .u32 (Bl.begins.getD i 0 : Nat))
def Orders (w : World) : Prop := ∀ i, i < 160 → w.cell? ⟨1, i, none⟩ = some (.int .u8 (Bl.orders.flatten.getD i 0 : Nat))
theorem Begins.kept {w w' : World} (h : Begins w) (k : Kept w w') : Begins w' := fun i hi => k.cell (cell_lt (h i hi)) (h i hi)
theorem Orders.kept {w w' : World} (h : Orders w) (k : Kept w w') : Orders w' := fun i hi => k.cell (cell_lt (h i hi)) (h i hi)
theorem Begins.part {w : World} (h : Begins w) : ∀ j v, (cw Bl.begins).toList[j]? = some v → w.cell? ((⟨0, 0, none⟩ : Addr).add j) = some v := by
  intro j v hj
  have hj8 : j < 8 := by
    have h2 := (List.getElem?_eq_some_iff.1 hj).1
    rw [Array.length_toList, cw_size, Bl.begins_ok.len] at h2
    exact h2
  rw [add_none, Nat.zero_add, h j hj8]
  rw [Array.getElem?_toList, cw_at Bl.begins j (by rw [Bl.begins_ok.len]; exact hj8)] at hj
  exact hj
/-- a table of bytes, as it is loaded -/
def ordB : Array Value := (Bl.orders.flatten.map fun (n : Nat) => Value.int .u8 (n : Int)).toArray
def ordBR (r : Nat) : Array Value := ((Bl.orders.getD r []).map fun (n : Nat) => Value.int .u8 (n : Int)).toArray
set_option maxRecDepth 100000 in
theorem flat_size : Bl.orders.flatten.length = 160 := by decide
theorem ordB_size : ordB.size = 160 := by simp only [ordB, List.size_toArray, List.length_map]; exact flat_size
theorem Orders.part {w : World} (h : Orders w) : ∀ j v, ordB.toList[j]? = some v → w.cell? ((⟨1, 0, none⟩ : Addr).add j) = some v := by
  intro j v hj
  have hj8 : j < 160 := by
    have h2 := (List.getElem?_eq_some_iff.1 hj).1
    rw [Array.length_toList, ordB_size] at h2
    exact h2
  rw [add_none, Nat.zero_add, h j hj8]
  have hl : j < Bl.orders.flatten.length := by rw [flat_size]; exact hj8
  simp only [ordB, List.getElem?_map, List.getElem?_eq_getElem hl, Option.map_some] at hj
  rw [List.getD_eq_getElem?_getD, List.getElem?_eq_getElem hl]
  exact hj
set_option maxRecDepth 100000 in
theorem ordB_row (r : Nat) (h : r < 10) : ordB.extract (r * 16) (r * 16 + 16) = ordBR r := by
  have h1 : ∀ r, r < 10 → (Bl.orders.flatten.drop (r * 16)).take 16 = Bl.orders.getD r [] := by decide
  apply Array.ext'
  simp only [ordB, ordBR, List.extract_toArray, List.extract_eq_take_drop]
  rw [← List.map_drop, ← List.map_take, show r * 16 + 16 - r * 16 = 16 by omega, h1 r h]
theorem ordBR_size (r : Nat) (h : r < 10) : (ordBR r).size = 16 := by
  have h2 : ∀ r, r < 10 → (Bl.orders.getD r []).length = 16 := by decide
  simp only [ordBR, List.size_toArray, List.length_map]
  exact h2 r h
theorem ordBR_at (r j : Nat) (h : r < 10) (hj : j < 16) : (ordBR r)[j]? = some (.int .u8 ((Bl.orders.getD r []).getD j 0 : Nat)) := by
  have h2 : ∀ r, r < 10 → (Bl.orders.getD r []).length = 16 := by decide
  have h3 := h2 r h
  have h4 : j < (Bl.orders.getD r []).length := by omega
  rw [List.getD_eq_getElem?_getD (l := Bl.orders.getD r []), List.getElem?_eq_getElem h4]
  simp only [ordBR, List.getElem?_toArray, List.getElem?_map, List.getElem?_eq_getElem h4, Option.map_some, Option.getD_some]
theorem ordBR_one (r : Nat) : (ordBR r).all (·.oneCell') = true := by
  rw [Array.all_eq_true]
  intro i h
  simp [ordBR, Value.oneCell']

/-! digest.begun -/
def beg (h : List Nat) : Nat → List Nat
  | 0 => h
  | k + 1 => (beg h k).set k ((beg h k).getD k 0 ^^^ Bl.begins.getD k 0)
theorem beg_ok {h : List Nat} (hh : Bl.W 8 h) : ∀ k, Bl.W 8 (beg h k)
  | 0 => hh
  | k + 1 => (beg_ok hh k).set _ (Bl.xor_lt ((beg_ok hh k).at _) (Bl.begins_ok.at _))
def begun (h : List Nat) : List Nat := (beg h 8).set 0 ((beg h 8).getD 0 0 ^^^ 16842784)
theorem begun_ok {h : List Nat} (hh : Bl.W 8 h) : Bl.W 8 (begun h) := (beg_ok hh 8).set _ (Bl.xor_lt ((beg_ok hh 8).at _) (by decide))
theorem begun_zero : begun (List.replicate 8 0) = Bl.h0 := by decide
theorem begun_twice {h : List Nat} (hh : Bl.W 8 h) : begun (begun h) = h := by
  obtain ⟨h1, _⟩ := hh
  match h, h1 with
  | [a, b, c, d, e, f, g, i], _ =>
    simp only [begun, beg, List.set_cons_zero, List.set_cons_succ, List.getD_cons_zero, List.getD_cons_succ, Bl.begins]
    simp only [Nat.xor_assoc, List.cons.injEq, and_true]
    have e1 : ∀ x y : Nat, x ^^^ (y ^^^ y) = x := fun x y => by rw [Nat.xor_self, Nat.xor_zero]
    refine ⟨?_, e1 _ _, e1 _ _, e1 _ _, e1 _ _, e1 _ _, e1 _ _, e1 _ _⟩
    rw [show (1779033703 : Nat) ^^^ (16842784 ^^^ (1779033703 ^^^ 16842784)) = 0 by decide, Nat.xor_zero]
set_option maxRecDepth 100000 in
set_option maxHeartbeats 2000000 in
theorem begun_any (h : List Nat) (hh : Bl.W 8 h) (w : World) (hB : Begins w) :
    Calls Tryd.prog 35 #[.agg (cw h)] w fun e w' => e = .returned (.agg (cw (begun h))) ∧ Kept w w' := by
  go_enter Tryd.func35, Tryd.ntmps35
  go_wp2_with (first
    | (with_reducible refine wpList_box_block rfl 54 (.tmp 0) rfl (cw h) rfl ?_)
    | (with_reducible refine wpList_alloc_block rfl 54 rfl z8 Tryd.zero8 ?_)
    | (refine wpList_load_part rfl 54 (.global 0) rfl ⟨0, 0, none⟩ rfl (cw Bl.begins) _ (hB.kept (((Kept.refl w).alloc _).alloc _)).part Tryd.underlying54 rfl Tryd.info8 ?_))
  obtain ⟨w1, hw1⟩ : ∃ w1, w1 = (w.alloc (.cells (cw h) 54)).alloc (.cells z8 54) := ⟨_, rfl⟩
  rw [← hw1]
  have hk1 : Kept w w1 := by rw [hw1]; exact ((Kept.refl w).alloc _).alloc _
  have hb1 : BlockAt w1 w.heap.size (cw h) 54 := by rw [hw1]; exact (BlockAt.new w _ _).kept ((Kept.refl _).alloc _)
  have hr1 : BlockAt w1 (w.heap.size + 1) z8 54 := by rw [hw1]; have q := BlockAt.new (w.alloc (.cells (cw h) 54)) z8 54; rw [World.size_alloc] at q; exact q
  obtain ⟨pb, hpb⟩ : ∃ pb, pb = w.heap.size := ⟨_, rfl⟩
  rw [← hpb] at hb1 hr1 ⊢
  have HPB := Lib.hid hpb
  have HV1 := Lib.hid (V8.here hb1 hh)
  have HR1 := Lib.hid hr1
  have HK1 := Lib.hid hk1
  clear hw1 hk1 hb1 hr1 hpb
  go_wp2_with fail
  go_loopw [6] (fun i wx => ∃ k : Nat, k ≤ 8 ∧ i = .int .i64 k ∧ V8 w1 pb (beg h k) wx) (fun i _ => 8 - (intOf i).toNat)
  case atStart => exact ⟨0, by omega, rfl, HV1.out⟩
  case round =>
    obtain ⟨k, hk, rfl, hv⟩ := hrel
    have HVk := Lib.hid hv
    clear hv
    by_cases hlt : k < 8
    · as_aux_lemma =>
        have hix := index8 Bl.begins_ok k hlt
        have c1 := HVk.out.cell k hlt
        have f1 := HVk.out.free k
        have e1 := x32 _ _ (HVk.out.ok.at k) (Bl.begins_ok.at k)
        have HST := Lib.hid (show V8 w1 pb (beg h (k + 1)) _ from HVk.out.put0 k (Bl.xor_lt (HVk.out.ok.at k) (Bl.begins_ok.at k)))
        generalize (beg h k).getD k 0 ^^^ Bl.begins.getD k 0 = z at *
        generalize (beg h k).getD k 0 = x at *
        generalize Bl.begins.getD k 0 = y at *
        go_wp2
        go_roundw
        case rel => exact ⟨k + 1, by omega, by go_num, HST.out⟩
        case measure => simp [intOf]; omega
    · obtain rfl : k = 8 := by omega
      have c1 := HVk.out.cell 0 (by omega)
      have f1 := HVk.out.free 0
      have e1 : bits .xor .u32 ((beg h 8).getD 0 0 : Nat) 16842784 = (((beg h 8).getD 0 0 ^^^ 16842784 : Nat) : Int) := x32 _ 16842784 (HVk.out.ok.at 0) (by decide)
      have hst : V8 w1 pb (begun h) _ := HVk.out.put0 0 (Bl.xor_lt (HVk.out.ok.at 0) (by decide : 16842784 < 4294967296))
      have HST := Lib.hid hst
      have hrow := other_row HR1.out hst.grown (by omega)
      have HR := Lib.hid hrow
      have HKK := Lib.hid (hst.kept HK1.out (by have := HPB.out; omega))
      clear hst hrow
      generalize (beg h 8).getD 0 0 ^^^ 16842784 = z at *
      generalize (beg h 8).getD 0 0 = x at *
      go_wp2_with (first
        | (refine wpList_load_row rfl 54 (.tmp 1) rfl pb rfl 54 (cw (begun h)) (0, 0) _ HST.out.row Tryd.underlying54 rfl (by rw [size8 HST.out.ok]; exact Tryd.info8) ?_)
        | (refine wpList_store_block rfl 54 (.tmp 2) (.tmp 21) rfl (pb + 1) (cw (begun h)) z8 54 rfl rfl HR.out (by rw [size8 HST.out.ok]; exact Tryd.info8) (by rw [size8 HST.out.ok]; exact z8_size) (cw_one _) ?_))
      refine bodyPost_ret (v := .agg (cw (begun h))) ?_ rfl ⟨rfl, HKK.out.setRow (by have := HPB.out; omega) _⟩
      exact results_cell_row rfl _ _ (pb + 1) 54 (cw (begun h)) (0, 0) _ rfl (HR.out.setRow _) Tryd.underlying54 rfl (by rw [size8 HST.out.ok]; exact Tryd.info8)
end Go.Proofs.YtdllenoclnmmdaaDoor
