/- Two slots compared: small laws (no conditions). -/
import Derived.Test.YtoanldoocmmhjaaRc4
import Derived.Laws.StructEq
namespace Go.Proofs.Ytoanldoocmmhjaa
open Go.RowKit
theorem Try.slotFields : (Try.prog.fieldsOf 57).toList.map (fun f => (f.name, f.type, f.offset)) = [("Disk", 3, 0), ("At", 3, 1)] := by kernel_rfl
theorem Try.slotStood : Try.prog.stoodInHeld 57 = false := by kernel_rfl
theorem Try.slotUnder : Try.prog.underlying 57 = some (.struct (Try.prog.fieldsOf 57)) := by kernel_rfl
theorem eq_slot (x1 x2 y1 y2 : Int) (w : World) : (Op.equal 57 (.agg #[.int .i64 x1, .int .i64 x2]) (.agg #[.int .i64 y1, .int .i64 y2])).run Try.prog w = .ok (decide ((x1, x2) = (y1, y2))) w := by
  have hf := Try.slotFields
  have h1 := run_equalIn_struct (P := Try.prog) w 9999 57 #[.int .i64 x1, .int .i64 x2] #[.int .i64 y1, .int .i64 y2] Try.slotUnder Try.slotStood
  have e : decide ((x1, x2) = (y1, y2)) = ((x1 == y1) && (x2 == y2)) := by
    rw [Bool.eq_iff_iff]; simp
  show (Op.equalIn (9999 + 1) _ _ _).run _ _ = _
  rw [h1, e]
  generalize (Try.prog.fieldsOf 57).toList = fs at *
  rcases fs with _ | ⟨f, _ | ⟨g, _ | ⟨g3, fs⟩⟩⟩
  · simp at hf
  · simp at hf
  · simp only [List.map_cons, List.map_nil, List.cons.injEq, Prod.mk.injEq, and_true] at hf
    obtain ⟨⟨n1, t1, o1⟩, n2, t2, o2⟩ := hf
    have p1 (a b : Int) : (part f.type #[.int .i64 a, .int .i64 b] f.offset).run Try.prog w = .ok (.int .i64 a) w := by rw [t1, o1]; rfl
    have p2 (a b : Int) : (part g.type #[.int .i64 a, .int .i64 b] g.offset).run Try.prog w = .ok (.int .i64 b) w := by rw [t2, o2]; rfl
    have q1 (a b : Int) : (Op.equalIn 9999 f.type (.int .i64 a) (.int .i64 b)).run Try.prog w = .ok (a == b) w := run_equalIn_int w 9998 f.type .i64 .i64 a b (by rw [t1]; exact Try.underlying3)
    have q2 (a b : Int) : (Op.equalIn 9999 g.type (.int .i64 a) (.int .i64 b)).run Try.prog w = .ok (a == b) w := run_equalIn_int w 9998 g.type .i64 .i64 a b (by rw [t2]; exact Try.underlying3)
    have hn1 : f.name ≠ "_" := by rw [n1]; decide
    have hn2 : g.name ≠ "_" := by rw [n2]; decide
    simp only [Op.eqFields, if_pos hn1, if_pos hn2, Sem.run_bind, p1, p2, q1, q2, Result.andThen_ok, Sem.run_ite, Sem.run_pure]
    cases x1 == y1 <;> cases x2 == y2 <;> rfl
  · simp at hf
theorem neq_slot (x1 x2 y1 y2 : Int) (w : World) : (binOp .neq 57 (.agg #[.int .i64 x1, .int .i64 x2]) (.agg #[.int .i64 y1, .int .i64 y2])).run Try.prog w = .ok (.bool (!decide ((x1, x2) = (y1, y2)))) w := by
  unfold binOp
  simp only [Sem.run_bind, eq_slot, Result.andThen_ok, Sem.run_pure]
theorem guard_slot (x y : Operand) (a b : Array Value) (w : World) : (eqGuard .neq 57 x y (.agg a) (.agg b)).run Try.prog w = .ok () w := by
  unfold eqGuard
  simp [Result.andThen]
end Go.Proofs.Ytoanldoocmmhjaa
