/- What the reference makes of a block: its begins, its rows, the sixteen numbers and the rounds (a block of at most 64 bytes). -/
import Derived.Test.YtdllenoclnmmdaaDoorBl3
namespace Go.Proofs.YtdllenoclnmmdaaDoor
open Go.RowKit Go.Shelf
attribute [local go_sem] Oper.semAt_some

/-- a piece of a row, loaded whole -/
theorem run_load_part {P : Program} (w : World) (a : Addr) (ty : TypeId) (cs : Array Value) (d : TypeDesc) (hc : ∀ j v, cs.toList[j]? = some v → w.cell? (a.add j) = some v)
    (hu : P.underlying ty = some d) (hd : (match d with | .struct _ | .array _ _ => true | _ => false) = true) (hi : (P.info? ty).map (·.size) = some cs.size) :
    (loadVar ty a).run P w = .ok (.agg cs) w := by
  have hl : (loadCells a cs.toList.length).run P w = .ok cs.toList.toArray w := run_loadCells_list (P := P) w a cs.toList hc
  cases hq : P.info? ty with
  | none => simp [hq] at hi
  | some i =>
    have hs : i.size = cs.size := by simpa [hq] using hi
    have hagg : (isAgg ty).run P w = .ok true w := by
      unfold isAgg
      rw [Sem.run_bind, run_underlying hu w]
      cases d <;> simp_all
    simp only [Array.length_toList, Array.toArray_toList] at hl
    simp [loadVar, Sem.run_bind, hagg, sizeOf, typeInfo, hq, hs, hl]
theorem wpList_load_part {P : Program} {ops : Array Oper} {rest : List Oper} {o : Oper} {a : Act} {w : World} {Q : Exit → Act → World → Prop} (hgd : o.guard = none) (ty : TypeId) (x : Operand) (ho : o.op = .load ty x)
    (p : Addr) (hx : a.eval x = .pointer (some p)) (cs : Array Value) (d : TypeDesc) (hc : ∀ j v, cs.toList[j]? = some v → w.cell? (p.add j) = some v)
    (hu : P.underlying ty = some d) (hd : (match d with | .struct _ | .array _ _ => true | _ => false) = true) (hi : (P.info? ty).map (·.size) = some cs.size)
    (h : wpList P ops Q rest (a.put o.dst (.agg cs)) w) : wpList P ops Q (o :: rest) a w :=
  wpList_plain hgd fun _ hK => by
    unfold Oper.wp execOp
    simp only [ho, hx, Instr.loadAt, Instr.sureAddr, Sem.run_bind, Sem.run_pure, Result.andThen_ok, run_load_part w p ty cs d hc hu hd hi]
    exact hK _ _ h
theorem wpList_build_at {P : Program} {ops : Array Oper} {rest : List Oper} {o : Oper} {a : Act} {w : World} {Q : Exit → Act → World → Prop} (hgd : o.guard = none) (ty : TypeId) (parts : Array (Nat × Operand)) (ho : o.op = .build ty parts) (cells : Array Value)
    (hf : P.built ty (parts.map fun (i, x) => (i, a.eval x)).toList = some cells) (h : wpList P ops Q rest (a.put o.dst (.agg cells)) w) : wpList P ops Q (o :: rest) a w :=
  wpList_plain hgd fun _ hK => by
    have hr := run_build (P := P) w ty (parts.map fun (i, x) => (i, a.eval x)) cells hf
    unfold Oper.wp execOp
    simp only [ho, hr, Sem.run_bind, Sem.run_pure, Result.andThen_ok]
    exact hK _ _ h
theorem add_none (b o j : Nat) : (⟨b, o, none⟩ : Addr).add j = ⟨b, o + j, none⟩ := by unfold Addr.add; split <;> simp_all
set_option maxRecDepth 100000 in
theorem rbegins_any (w : World) : Calls Tryd.prog 30 #[] w fun e w' => e = .returned (.agg (cw Bl.begins)) ∧ Kept w w' := by
  go_enter Tryd.func30, Tryd.ntmps30
  go_wp2_with (first
    | (with_reducible refine wpList_alloc_block rfl 54 rfl z8 Tryd.zero8 ?_)
    | (refine wpList_store_block rfl 54 (.tmp 0) (.tmp 1) rfl w.heap.size (cw Bl.begins) z8 54 rfl (by kernel_rfl) (BlockAt.new _ _ _) Tryd.info8 rfl (cw_one _) ?_))
  refine bodyPost_ret (v := .agg (cw Bl.begins)) ?_ rfl ⟨rfl, ((Kept.refl w).alloc _).setRow (Nat.le_refl _) _⟩
  exact results_cell_row rfl _ _ w.heap.size 54 (cw Bl.begins) (0, 0) _ rfl ((BlockAt.new w z8 _).setRow _) Tryd.underlying54 rfl Tryd.info8
def ordV : Array Value := (Bl.orders.flatten.map fun (n : Nat) => Value.int .i64 (n : Int)).toArray
def ord0 : Array Value := Array.replicate 160 (.int .i64 0)
def ordR (r : Nat) : Array Value := ((Bl.orders.getD r []).map fun (n : Nat) => Value.int .i64 (n : Int)).toArray
def row0 : Array Value := Array.replicate 16 (.int .i64 0)
theorem Tryd.zeroOrd : (Tryd.prog.info? 73).map (·.zero) = some (some (.agg ord0)) := by kernel_rfl
theorem Tryd.infoOrd : (Tryd.prog.info? 73).map (·.size) = some 160 := by kernel_rfl
theorem Tryd.zeroRow : (Tryd.prog.info? 72).map (·.zero) = some (some (.agg row0)) := by kernel_rfl
theorem Tryd.infoRow : (Tryd.prog.info? 72).map (·.size) = some 16 := by kernel_rfl
theorem ordV_one : ordV.all (·.oneCell') = true := by kernel_rfl
theorem ordV_size : ordV.size = 160 := by kernel_rfl
theorem ordR_one (r : Nat) : (ordR r).all (·.oneCell') = true := by
  rw [Array.all_eq_true]
  intro i h
  simp [ordR, Value.oneCell']
theorem ordR_size (r : Nat) (h : r < 10) : (ordR r).size = 16 := by
  have h2 : ∀ r, r < 10 → (Bl.orders.getD r []).length = 16 := by decide
  simp only [ordR, List.size_toArray, List.length_map]
  exact h2 r h
theorem ordV_at : ∀ r, r < 10 → ∀ j, j < 16 → ordV[16 * r + j]? = (ordR r)[j]? := by
  have h : ∀ r, r < 10 → ∀ j, j < 16 → (Bl.orders.flatten)[16 * r + j]? = (Bl.orders.getD r [])[j]? := by decide
  intro r hr j hj
  simp only [ordV, ordR, List.getElem?_toArray, List.getElem?_map, h r hr j hj]
theorem ordR_at (r j : Nat) (h : r < 10) (hj : j < 16) : (ordR r)[j]? = some (.int .i64 ((Bl.orders.getD r []).getD j 0 : Nat)) := by
  have h2 : ∀ r, r < 10 → (Bl.orders.getD r []).length = 16 := by decide
  have h3 := h2 r h
  have h4 : j < (Bl.orders.getD r []).length := by omega
  rw [List.getD_eq_getElem?_getD (l := Bl.orders.getD r []), List.getElem?_eq_getElem h4]
  simp only [ordR, List.getElem?_toArray, List.getElem?_map, List.getElem?_eq_getElem h4, Option.map_some, Option.getD_some]
set_option maxRecDepth 100000 in
set_option maxHeartbeats 4000000 in
theorem rrows_any (w : World) : Calls Tryd.prog 38 #[] w fun e w' => e = .returned (.agg ordV) ∧ Kept w w' := by
  go_enter Tryd.func38, Tryd.ntmps38
  go_wp2_with (first
    | (with_reducible refine wpList_alloc_block rfl 73 rfl ord0 Tryd.zeroOrd ?_)
    | (with_reducible refine wpList_build_at (o := ⟨some 1, _, _, _, _, _⟩) rfl 72 _ rfl (ordR 0) (by kernel_rfl) ?_)
    | (with_reducible refine wpList_build_at (o := ⟨some 2, _, _, _, _, _⟩) rfl 72 _ rfl (ordR 1) (by kernel_rfl) ?_)
    | (with_reducible refine wpList_build_at (o := ⟨some 3, _, _, _, _, _⟩) rfl 72 _ rfl (ordR 2) (by kernel_rfl) ?_)
    | (with_reducible refine wpList_build_at (o := ⟨some 4, _, _, _, _, _⟩) rfl 72 _ rfl (ordR 3) (by kernel_rfl) ?_)
    | (with_reducible refine wpList_build_at (o := ⟨some 5, _, _, _, _, _⟩) rfl 72 _ rfl (ordR 4) (by kernel_rfl) ?_)
    | (with_reducible refine wpList_build_at (o := ⟨some 6, _, _, _, _, _⟩) rfl 72 _ rfl (ordR 5) (by kernel_rfl) ?_)
    | (with_reducible refine wpList_build_at (o := ⟨some 7, _, _, _, _, _⟩) rfl 72 _ rfl (ordR 6) (by kernel_rfl) ?_)
    | (with_reducible refine wpList_build_at (o := ⟨some 8, _, _, _, _, _⟩) rfl 72 _ rfl (ordR 7) (by kernel_rfl) ?_)
    | (with_reducible refine wpList_build_at (o := ⟨some 9, _, _, _, _, _⟩) rfl 72 _ rfl (ordR 8) (by kernel_rfl) ?_)
    | (with_reducible refine wpList_build_at (o := ⟨some 10, _, _, _, _, _⟩) rfl 72 _ rfl (ordR 9) (by kernel_rfl) ?_)
    | (with_reducible refine wpList_build_at (o := ⟨some 11, _, _, _, _, _⟩) rfl 73 _ rfl ordV (by kernel_rfl) ?_)
    | (refine wpList_store_block rfl 73 (.tmp 0) (.tmp 11) rfl w.heap.size ordV ord0 73 ?a1 ?a2 ?a3 ?a4 ?a5 ?a6 ?a7))
  case a3 => exact BlockAt.new _ _ _
  case a4 => rw [ordV_size]; exact Tryd.infoOrd
  case a5 => rw [ordV_size, ord0, Array.size_replicate]
  case a6 => exact ordV_one
  case a7 =>
    have hb := (BlockAt.new w ord0 73).setRow ordV
    have hk := ((Kept.refl w).alloc (.cells ord0 73)).setRow (Nat.le_refl _) ordV
    have hs : (Tryd.prog.info? 73).map (·.size) = some ordV.size := by rw [ordV_size]; exact Tryd.infoOrd
    generalize ordV = V at *
    simp only [Act.put, List.setIfInBounds_toArray, List.set_cons_zero, List.set_cons_succ]
    refine bodyPost_ret (v := .agg V) ?_ rfl ⟨rfl, hk⟩
    exact results_cell_row rfl _ _ w.heap.size 73 V (0, 0) _ rfl hb Tryd.underlying73 rfl hs
end Go.Proofs.YtdllenoclnmmdaaDoor
