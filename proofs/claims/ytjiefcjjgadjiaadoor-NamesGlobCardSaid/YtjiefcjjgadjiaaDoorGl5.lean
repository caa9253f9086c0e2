/- names.Glob for any texts; what a call's own row takes of a nil one (no conditions). -/
import Derived.Test.YtjiefcjjgadjiaaDoorGl2
namespace Go.Proofs.YtjiefcjjgadjiaaDoor
open Go.RowKit Go.Shelf
noncomputable def globV (p s : ByteArray) : Value := if p.size ≤ 40 ∧ s.size ≤ 40 then .tuple #[.bool (globB p s), .int .i64 0] else .tuple #[.bool false, .int .i64 2]
theorem glob_any (p s : ByteArray) (w : World) : Calls Tryd.prog 18 #[.string p, .string s] w fun e w' => e = .returned (globV p s) ∧ Kept w w' := by
  by_cases hp : p.size ≤ 40
  · by_cases hs : s.size ≤ 40
    · rw [show globV p s = .tuple #[.bool (globB p s), .int .i64 0] by unfold globV; rw [if_pos ⟨hp, hs⟩]]
      exact glob_good p s w hp hs
    · rw [show globV p s = .tuple #[.bool false, .int .i64 2] by unfold globV; rw [if_neg (fun e => hs e.2)]]
      have hd1 : decide ((40 : Int) < p.size) = false := decide_eq_false (by omega)
      have hd2 : decide ((40 : Int) < s.size) = true := decide_eq_true (by omega)
      go_enter Tryd.func18, Tryd.ntmps18
      go_wp2
      go_ret2
      exact ⟨rfl, Kept.refl _⟩
  · rw [show globV p s = .tuple #[.bool false, .int .i64 2] by unfold globV; rw [if_neg (fun e => hp e.1)]]
    have hd1 : decide ((40 : Int) < p.size) = true := decide_eq_true (by omega)
    go_enter Tryd.func18, Tryd.ntmps18
    go_wp2
    go_ret2
    exact ⟨rfl, Kept.refl _⟩
theorem own_takes_nil {P : Program} {w : World} (base : Nat) (t ty e : TypeId) (i : TypeInfo) (size : Nat) (ht : P.underlying t = some (.slice e)) (hi : P.info? e = some i) (c : Nat)
    (v : Value) (n : Nat) (xs : List Value) (hown : w.ownsRow base e size v n xs) : (Builtin.append_ #[t, t] ty #[v, .slice none 0 c]).run P w = .ok v w := by
  rcases hown.2 with ⟨rfl, rfl⟩ | ⟨g, cap, cur, rfl, _, _, hnc, _⟩
  · simp [Builtin.append_, run_underlying ht, sizeOf, typeInfo, hi, Builtin.lenOf, Builtin.firstCells]
  · simp [Builtin.append_, run_underlying ht, sizeOf, typeInfo, hi, Builtin.lenOf, Builtin.firstCells, hnc, storeCells]
theorem wpList_takes_nil {P : Program} {w : World} {ops : Array Oper} {rest : List Oper} {o : Oper} {a : Act} {Q : Exit → Act → World → Prop} (hgd : o.guard = none) (s x : Operand) (t : TypeId)
    (ho : o.op = .call { callee := .builtin .append, args := #[s, x], argTypes := #[t, t] })
    (base : Nat) (e : TypeId) (i : TypeInfo) (size : Nat) (ht : P.underlying t = some (.slice e)) (hi : P.info? e = some i) (c : Nat)
    (v : Value) (n : Nat) (xs : List Value) (hs : a.eval s = v) (hown : w.ownsRow base e size v n xs) (hx : a.eval x = .slice none 0 c)
    (h : wpList P ops Q rest (a.put o.dst v) w) : wpList P ops Q (o :: rest) a w := by
  refine wpList_plain hgd fun K hK => ?_
  have hrun := own_takes_nil (P := P) (w := w) base t o.type e i size ht hi c v n xs hown
  unfold Oper.wp
  simp [execOp, ho, resolve, invoke, builtin, hs, hx, hrun, Result.andThen]
  exact hK _ _ h
end Go.Proofs.YtjiefcjjgadjiaaDoor
