
/- Results of which one lies in a cell of several words: small laws (no conditions). -/
import Derived.Test.YtkfomaoillnehaaRange
namespace Go.Proofs.Ytkfomaoillnehaa
open Go.RowKit

theorem results_row_tmp {P : Program} {fn : Func} {p u : Tmp} {ty : TypeId} (h : fn.results = #[.cell p ty, .tmp u]) (tmps : Array Value) (w : World) (g : Nat) (t : TypeId) (cs : Array Value) (d : TypeDesc)
    (hp : tmps.getD p undef = .pointer (some ⟨g, 0, none⟩)) (hg : BlockAt w g cs t)
    (hu : P.underlying ty = some d) (hd : (match d with | .struct _ | .array _ _ => true | _ => false) = true) (hi : (P.info? ty).map (·.size) = some cs.size) (v : Value) (hv : tmps.getD u undef = v) :
    (results fn tmps).run P w = .ok (.tuple #[.agg cs, v]) w := by
  have hp' : tmps[p]?.getD undef = .pointer (some ⟨g, 0, none⟩) := by simpa using hp
  have hv' : tmps[u]?.getD undef = v := by simpa using hv
  have hg' : w.heap[g]? = some (.cells cs t (0, 0)) := hg
  simp [results, h, hp', hv', asAddr, run_loadVar_row w g t ty cs (0, 0) d hg' hu hd hi, Result.andThen]
theorem results_tmp_row {P : Program} {fn : Func} {p u : Tmp} {ty : TypeId} (h : fn.results = #[.tmp u, .cell p ty]) (tmps : Array Value) (w : World) (g : Nat) (t : TypeId) (cs : Array Value) (d : TypeDesc)
    (hp : tmps.getD p undef = .pointer (some ⟨g, 0, none⟩)) (hg : BlockAt w g cs t)
    (hu : P.underlying ty = some d) (hd : (match d with | .struct _ | .array _ _ => true | _ => false) = true) (hi : (P.info? ty).map (·.size) = some cs.size) (v : Value) (hv : tmps.getD u undef = v) :
    (results fn tmps).run P w = .ok (.tuple #[v, .agg cs]) w := by
  have hp' : tmps[p]?.getD undef = .pointer (some ⟨g, 0, none⟩) := by simpa using hp
  have hv' : tmps[u]?.getD undef = v := by simpa using hv
  have hg' : w.heap[g]? = some (.cells cs t (0, 0)) := hg
  simp [results, h, hp', hv', asAddr, run_loadVar_row w g t ty cs (0, 0) d hg' hu hd hi, Result.andThen]
theorem one3 (r c : Int) (a : Option Addr) (l cap : Nat) : (#[Value.int .i64 r, .int .i64 c, .slice a l cap] : Array Value).all (·.oneCell') = true := by simp [Value.oneCell']
theorem box3 {W : World} {b : Nat} {x y z : Value} {t : TypeId} (h : BlockAt W b #[x, y, z] t) : W.cell? ⟨b, 0, none⟩ = some x ∧ W.cell? ⟨b, 1, none⟩ = some y ∧ W.cell? ⟨b, 2, none⟩ = some z :=
  ⟨h.cell 0, h.cell 1, h.cell 2⟩
theorem box1 {W : World} {b : Nat} {x : Value} {t : TypeId} (h : BlockAt W b #[x] t) : W.cell? ⟨b, 0, none⟩ = some x := h.cell 0
/-- a new block, some blocks later -/
theorem BlockAt.new1 (w : World) (C : Array Value) (t : TypeId) (o : Obj) : BlockAt ((w.alloc o).alloc (.cells C t)) (w.heap.size + 1) C t := by
  have h := BlockAt.new (w.alloc o) C t
  rw [World.size_alloc] at h
  exact h
theorem BlockAt.new2 (w : World) (C : Array Value) (t : TypeId) (o o2 : Obj) : BlockAt (((w.alloc o).alloc o2).alloc (.cells C t)) (w.heap.size + 1 + 1) C t := by
  have h := BlockAt.new1 (w.alloc o) C t o2
  rw [World.size_alloc] at h
  exact h
theorem BlockAt.new3 (w : World) (C : Array Value) (t : TypeId) (o o2 o3 : Obj) : BlockAt ((((w.alloc o).alloc o2).alloc o3).alloc (.cells C t)) (w.heap.size + 1 + 1 + 1) C t := by
  have h := BlockAt.new2 (w.alloc o) C t o2 o3
  rw [World.size_alloc] at h
  exact h
/-- what is left of a range's deferred calls is taken -/
theorem grown_put (W : World) (D : Nat) (o' : Obj) : W.grownBy (W.putObj D o') (some D) := grownBy_putObj' W D o'
theorem grown_row (W : World) (g : Nat) (cs : Array Value) : W.grownBy (W.setRow g cs) (some g) := ⟨rfl, rfl, rfl, by simp [World.setRow], fun k _ hne => setRow_other W g k cs (fun e => hne (by rw [e]))⟩
end Go.Proofs.Ytkfomaoillnehaa
