/- A region that draws its order and lays a struct's block: one operation makes it, one stores the whole of it, the others only read (no conditions). -/
import Derived.Test.YtdllenoclnmmdaaPj
import Derived.Test.YtdllenoclnmmdaaText
namespace Go.Proofs.Ytdllenoclnmmdaa.Pj
open Go.RowKit
/-- what stays while no world shrinks -/
def Flat (p : World → Value → Prop) : Prop := ∀ w w' v, p w v → w.heap.size ≤ w'.heap.size → p w' v
theorem Is.flat (x : Value) : Flat (Is x) := fun _ _ _ h _ => h
def AllFlat : List (World → Value → Prop) → Prop
  | [] => True
  | p :: l => Flat p ∧ AllFlat l
theorem AllFlat.at : ∀ {l : List (World → Value → Prop)}, AllFlat l → ∀ j, Flat (of l j)
  | [], _, j => fun _ _ _ _ _ => by simp [of]
  | p :: l, h, 0 => h.1
  | p :: l, h, j + 1 => fun w w' v hv hk => by
    have := AllFlat.at h.2 j w w' v (by simpa [of] using hv) hk
    simpa [of] using this
/-- a block's pointer, from a world on -/
def Ptr (W : World) : World → Value → Prop := fun w v => ∃ b, v = .pointer (some ⟨b, 0, none⟩) ∧ W.heap.size ≤ b ∧ b < w.heap.size
theorem Ptr.flat (W : World) : Flat (Ptr W) := fun _ _ _ ⟨b, e, h1, h2⟩ k => ⟨b, e, h1, Nat.lt_of_lt_of_le h2 k⟩
structure JS (W : World) (l : List (World → Value → Prop)) (ia is : Nat) (Z X : Array Value) (t : TypeId) (L : Nat → Prop) (V : Nat → Value) (w : World) : Prop where
  kp : Kept W w
  h : ∀ j, L j → of l j w (V j)
  ord : L is → L ia
  z : L ia → ¬ L is → ∃ b, V ia = .pointer (some ⟨b, 0, none⟩) ∧ W.heap.size ≤ b ∧ BlockAt w b Z t
  x : L is → ∃ b, V ia = .pointer (some ⟨b, 0, none⟩) ∧ W.heap.size ≤ b ∧ BlockAt w b X t
section
variable {W w w' : World} {l : List (World → Value → Prop)} {ia is : Nat} {Z X : Array Value} {t : TypeId} {L L' : Nat → Prop} {V : Nat → Value}
theorem JS.start {n : Nat} (hn : l.length ≤ n) (hia : ia < n) (his : is < n) (hL : ∀ j, j < n → ¬ L j) (k : Kept W w) : JS W l ia is Z X t L V w :=
  ⟨k, fun j hj => by
    by_cases h : j < n
    · exact absurd hj (hL j h)
    · have : of l j = fun _ _ => True := by
        unfold of
        rw [List.getD_eq_getElem?_getD, List.getElem?_eq_none (by omega)]
        rfl
      rw [this]
      trivial, fun h => absurd h (hL is his), fun h => absurd h (hL ia hia), fun h => absurd h (hL is his)⟩
theorem JS.more {i : Nat} (h : JS W l ia is Z X t L V w) (hP : AllFlat l) (hia : i ≠ ia) (his : i ≠ is) (hL : ∀ j, L' j ↔ (j = i ∨ L j)) (hk : Kept w w') {x : Value} (hx : of l i w' x) : JS W l ia is Z X t L' (vset V i x) w' := by
  have e1 : L' ia ↔ L ia := ⟨fun q => ((hL ia).1 q).resolve_left (fun e => hia e.symm), fun q => (hL ia).2 (.inr q)⟩
  have e2 : L' is ↔ L is := ⟨fun q => ((hL is).1 q).resolve_left (fun e => his e.symm), fun q => (hL is).2 (.inr q)⟩
  have ev : vset V i x ia = V ia := vset_other _ _ (fun e => hia e.symm)
  refine ⟨h.kp.trans hk, fun j hj => ?_, fun q => e1.2 (h.ord (e2.1 q)), fun q r => ?_, fun q => ?_⟩
  · by_cases e : j = i
    · subst e; rw [vset_same]; exact hx
    · rw [vset_other _ _ e]; exact hP.at j w w' _ (h.h j (((hL j).1 hj).resolve_left e)) hk.size
  · obtain ⟨b, e, h1, h2⟩ := h.z (e1.1 q) (fun s => r (e2.2 s))
    exact ⟨b, ev.trans e, h1, h2.kept hk⟩
  · obtain ⟨b, e, h1, h2⟩ := h.x (e2.1 q)
    exact ⟨b, ev.trans e, h1, h2.kept hk⟩
theorem JS.made (h : JS W l ia is Z X t L V w) (hP : AllFlat l) (hne : ia ≠ is) (ho : ¬ L ia) (hL : ∀ j, L' j ↔ (j = ia ∨ L j)) (hx : of l ia = Ptr W) : JS W l ia is Z X t L' (vset V ia (.pointer (some ⟨w.heap.size, 0, none⟩))) (w.alloc (.cells Z t)) := by
  have hk : Kept w (w.alloc (.cells Z t)) := (Kept.refl w).alloc _
  have hns : ¬ L is := fun q => ho (h.ord q)
  have hns' : ¬ L' is := fun q => hns (((hL is).1 q).resolve_left (fun e => hne e.symm))
  refine ⟨h.kp.trans hk, fun j hj => ?_, fun q => absurd q hns', fun _ _ => ⟨_, vset_same _ _ _, h.kp.size, BlockAt.new w Z t⟩, fun q => absurd q hns'⟩
  by_cases e : j = ia
  · subst e; rw [vset_same, hx]; exact ⟨_, rfl, h.kp.size, by simp⟩
  · rw [vset_other _ _ e]; exact hP.at j w _ _ (h.h j (((hL j).1 hj).resolve_left e)) hk.size
theorem JS.stored {b : Nat} (h : JS W l ia is Z X t L V w) (hP : AllFlat l) (hne : ia ≠ is) (hl : L ia) (hL : ∀ j, L' j ↔ (j = is ∨ L j)) (hb : V ia = .pointer (some ⟨b, 0, none⟩)) (hw : W.heap.size ≤ b) (hz : BlockAt w b Z t) (hs : of l is = fun _ _ => True) : JS W l ia is Z X t L' (vset V is undef) (w.setRow b X) := by
  have ev : vset V is undef ia = V ia := vset_other _ _ hne
  refine ⟨h.kp.setRow hw X, fun j hj => ?_, fun _ => (hL ia).2 (.inr hl), fun _ r => absurd ((hL is).2 (.inl rfl)) r, fun _ => ⟨b, ev.trans hb, hw, hz.setRow X⟩⟩
  by_cases e : j = is
  · subst e; rw [hs]; trivial
  · rw [vset_other _ _ e]; exact hP.at j w _ _ (h.h j (((hL j).1 hj).resolve_left e)) (by simp [World.setRow])
end
theorem oper_store_block {P : Program} {op : Oper} {a : Act} {w : World} {K : Act → World → Prop} {Q : Exit → Act → World → Prop} (ty : TypeId) (x y : Operand) (ho : op.op = .store ty x y)
    (g : Nat) (cells old : Array Value) (t : TypeId) (hx : a.eval x = .pointer (some ⟨g, 0, none⟩)) (hy : a.eval y = .agg cells) (hg : BlockAt w g old t) (hi : (P.info? ty).map (·.size) = some cells.size) (hsz : old.size = cells.size) (h1 : cells.all (·.oneCell') = true)
    (h : K (a.put op.dst undef) (w.setRow g cells)) : Oper.wp P op a w K Q := by
  unfold Oper.wp execOp
  simp only [ho, hx, hy, Instr.storeAt, Instr.sureAddr, Sem.run_bind, Sem.run_pure, Result.andThen_ok, run_storeVar_row w g t ty old cells hg hi hsz h1]
  exact h
theorem oper_alloc_block {P : Program} {op : Oper} {a : Act} {w : World} {K : Act → World → Prop} {Q : Exit → Act → World → Prop} (ty : TypeId) (ho : op.op = .alloc ty)
    (z : Array Value) (hz : (P.info? ty).map (·.zero) = some (some (.agg z)))
    (h : K (a.put op.dst (.pointer (some ⟨w.heap.size, 0, none⟩))) (w.alloc (.cells z ty))) : Oper.wp P op a w K Q := by
  unfold Oper.wp execOp
  have hr : (Instr.alloc ty true (.tuple #[])).run P w = .ok (.pointer (some ⟨w.heap.size, 0, none⟩)) (w.alloc (.cells z ty)) := by
    simp [Instr.alloc, zero_run hz, Result.andThen, Value.cells, go_sem]
  simp only [ho, hr, Sem.run_bind, Sem.run_pure, Result.andThen_ok]
  exact h
end Go.Proofs.Ytdllenoclnmmdaa.Pj
