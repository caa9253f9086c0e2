
/- A region that draws its order, some of whose operations change the world, those in one forced order; the others read (no conditions). -/
import Derived.Test.YtkfomaoillnehaaPjR
namespace Go.Proofs.Ytkfomaoillnehaa.Pj
open Go.RowKit
/-- does operation i wait for operation j, whatever the order? -/
def dep (ops : Array Oper) (i j : Nat) : Bool := match ops[i]? with
  | some o => o.after.any fun e => e.on == j && Region.binds .any e
  | none => false
/-- what the operations that are done have left: values; the world behind the first m of the operations ix, which change it -/
structure JQ (ops : Array Oper) (val : Nat → Value) (ix : List Nat) (Ws : Nat → World) (L : Nat → Prop) (V : Nat → Value) (w : World) : Prop where
  h : ∀ j, L j → j < ops.size → V j = val j
  s : ∃ m, m ≤ ix.length ∧ w = Ws m ∧ (∀ q, q < m → L (ix.getD q 0)) ∧ ∀ q, m ≤ q → q < ix.length → ¬ L (ix.getD q 0)
  o : ∀ q, q < ix.length → L (ix.getD q 0) → ∀ j, dep ops (ix.getD q 0) j = true → L j
section
variable {ops : Array Oper} {val : Nat → Value} {ix : List Nat} {Ws : Nat → World} {L L' : Nat → Prop} {V : Nat → Value} {w : World}
theorem JQ.start (hL : ∀ j, j < ops.size → ¬ L j) (hix : ∀ q, q < ix.length → ix.getD q 0 < ops.size) (h0 : w = Ws 0) : JQ ops val ix Ws L V w :=
  ⟨fun j hj h => absurd hj (hL j h), ⟨0, Nat.zero_le _, h0, fun q h => absurd h (Nat.not_lt_zero q), fun q _ h => hL _ (hix q h)⟩, fun q h hl => absurd hl (hL _ (hix q h))⟩
theorem JQ.more {i : Nat} (h : JQ ops val ix Ws L V w) (hi : ∀ q, q < ix.length → ix.getD q 0 ≠ i) (hL : ∀ j, L' j ↔ (j = i ∨ L j)) {x : Value} (hx : x = val i) : JQ ops val ix Ws L' (vset V i x) w := by
  have e : ∀ q, q < ix.length → (L' (ix.getD q 0) ↔ L (ix.getD q 0)) := fun q hq => ⟨fun k => ((hL _).1 k).resolve_left (hi q hq), fun k => (hL _).2 (.inr k)⟩
  obtain ⟨m, hm, hw, h1, h2⟩ := h.s
  refine ⟨fun j hj hs => ?_, ⟨m, hm, hw, fun q hq => (e q (by omega)).2 (h1 q hq), fun q hq hl k => h2 q hq hl ((e q hl).1 k)⟩, fun q hq hl j hd => (hL j).2 (.inr (h.o q hq ((e q hq).1 hl) j hd))⟩
  by_cases q : j = i
  · subst q; rw [vset_same, hx]
  · rw [vset_other _ _ q]; exact h.h j (((hL j).1 hj).resolve_left q) hs
/-- which worlds an operation that is not done may find -/
theorem JQ.le {i : Nat} (h : JQ ops val ix Ws L V w) (ho : ¬ L i) : ∃ m, m ≤ ix.length ∧ w = Ws m ∧ ∀ q, q < ix.length → dep ops (ix.getD q 0) i = true → m ≤ q := by
  obtain ⟨m, hm, hw, h1, h2⟩ := h.s
  refine ⟨m, hm, hw, fun q hq hd => ?_⟩
  by_cases k : m ≤ q
  · exact k
  · exact absurd (h.o q hq (h1 q (by omega)) i hd) ho
theorem JQ.rd (h : JQ ops val ix Ws L V w) {R : World → Prop} (HR : ∀ m, m ≤ ix.length → R (Ws m)) : R w := by
  obtain ⟨m, hm, hw, _⟩ := h.s
  rw [hw]; exact HR m hm
theorem JQ.rdLe {i : Nat} (h : JQ ops val ix Ws L V w) (ho : ¬ L i) (q : Nat) (hq : q < ix.length) (hd : dep ops (ix.getD q 0) i = true) {R : World → Prop} (HR : ∀ m, m ≤ q → R (Ws m)) : R w := by
  obtain ⟨m, hm, hw, h1⟩ := h.le ho
  rw [hw]; exact HR m (h1 q hq hd)
theorem JQ.at {i : Nat} (h : JQ ops val ix Ws L V w) (q : Nat) (hq : q < ix.length) (hi : ix.getD q 0 = i) (ho : ¬ L i) (hp : q = 0 ∨ L (ix.getD (q - 1) 0)) : w = Ws q := by
  obtain ⟨m, hm, hw, h1, h2⟩ := h.s
  subst hi
  have a : m ≤ q := by
    by_cases k : m ≤ q
    · exact k
    · exact absurd (h1 q (by omega)) ho
  rcases hp with rfl | hp
  · rw [hw, show m = 0 by omega]
  · have b : q ≤ m := by
      by_cases k : q ≤ m
      · exact k
      · exact absurd hp (h2 (q - 1) (by omega) (by omega))
    rw [hw, show m = q by omega]
theorem JQ.here {i : Nat} (h : JQ ops val ix Ws L V w) (q : Nat) (hq : q < ix.length) (hd : dep ops (ix.getD q 0) i = true) (ho : ¬ L i) (hp : q = 0 ∨ L (ix.getD (q - 1) 0)) : w = Ws q := by
  obtain ⟨m, hm, hw, h1, h2⟩ := h.s
  have a : m ≤ q := by
    by_cases k : m ≤ q
    · exact k
    · exact absurd (h.o q hq (h1 q (by omega)) i hd) ho
  rcases hp with rfl | hp
  · rw [hw, show m = 0 by omega]
  · have b : q ≤ m := by
      by_cases k : q ≤ m
      · exact k
      · exact absurd hp (h2 (q - 1) (by omega) (by omega))
    rw [hw, show m = q by omega]
theorem JQ.step {i : Nat} {oi : Oper} (h : JQ ops val ix Ws L V w) (q : Nat) (hq : q < ix.length) (hi : ix.getD q 0 = i) (hinj : ∀ r, r < ix.length → r ≠ q → ix.getD r 0 ≠ i) (hw : w = Ws q) (hn : ¬ L i) (ho : ops[i]? = some oi) (hL : ∀ j, L' j ↔ (j = i ∨ L j)) (hdep : ∀ j, (oi.after.any fun e => e.on == j && Region.binds .any e) = true → L j) (hprev : q = 0 ∨ L (ix.getD (q - 1) 0)) {x : Value} (hx : x = val i) :
    JQ ops val ix Ws L' (vset V i x) (Ws (q + 1)) := by
  have e : ∀ r, r < ix.length → r ≠ q → (L' (ix.getD r 0) ↔ L (ix.getD r 0)) := fun r hr hne => ⟨fun k => ((hL _).1 k).resolve_left (hinj r hr hne), fun k => (hL _).2 (.inr k)⟩
  obtain ⟨m, hm, hw2, h1, h2⟩ := h.s
  have a : m ≤ q := by
    by_cases k : m ≤ q
    · exact k
    · exact absurd (by rw [← hi]; exact h1 q (by omega)) hn
  have b : q ≤ m := by
    rcases hprev with rfl | hp
    · exact Nat.zero_le _
    · by_cases k : q ≤ m
      · exact k
      · exact absurd hp (h2 (q - 1) (by omega) (by omega))
  obtain rfl : m = q := by omega
  refine ⟨fun j hj hs => ?_, ⟨m + 1, by omega, rfl, fun r hr => ?_, fun r hr hl k => ?_⟩, fun r hr hl j hd => ?_⟩
  · by_cases k : j = i
    · subst k; rw [vset_same, hx]
    · rw [vset_other _ _ k]; exact h.h j (((hL j).1 hj).resolve_left k) hs
  · by_cases k : r = m
    · subst k; rw [hi]; exact (hL i).2 (.inl rfl)
    · exact (e r (by omega) k).2 (h1 r (by omega))
  · exact h2 r (by omega) hl ((e r hl (by omega)).1 k)
  · by_cases k : r = m
    · subst k
      refine (hL j).2 (.inr (hdep j ?_))
      unfold dep at hd
      rw [hi, ho] at hd
      exact hd
    · exact (hL j).2 (.inr (h.o r hr ((e r hr k).1 hl) j hd))
theorem JQ.end (h : JQ ops val ix Ws L V w) (hall : ∀ j, j < ops.size → L j) (hix : ∀ q, q < ix.length → ix.getD q 0 < ops.size) : w = Ws ix.length ∧ ∀ j, j < ops.size → V j = val j := by
  obtain ⟨m, hm, hw, h1, h2⟩ := h.s
  have : m = ix.length := by
    by_cases k : m = ix.length
    · exact k
    · exact absurd (hall _ (hix m (by omega))) (h2 m (Nat.le_refl _) (by omega))
  subst this
  exact ⟨hw, fun j hj => h.h j (hall j hj) hj⟩
end
theorem oper_append_run {P : Program} {op : Oper} {a : Act} {w w' : World} {K : Act → World → Prop} {Q : Exit → Act → World → Prop} {v sl v' : Value} (s x : Operand) (t : TypeId) (ho : op.op = .call { callee := .builtin .append, args := #[s, x], argTypes := #[t, t] })
    (hs : a.eval s = v) (hx : a.eval x = sl) (hr : (Builtin.append_ #[t, t] op.type #[v, sl]).run P w = .ok v' w') (h : K (a.put op.dst v') w') : Oper.wp P op a w K Q := by
  unfold Oper.wp execOp
  simp only [ho, resolve, invoke, builtin, Sem.run_bind, Sem.run_pure, Result.andThen_ok, List.map_toArray, List.map_cons, List.map_nil, hs, hx, hr]
  exact h
theorem wp_region_jq {P : Program} {id : Nat} {ops : Array Oper} {Q : Exit → Act → World → Prop} (sl : List (Nat × Nat)) (val : Nat → Value) (ix : List Nat) (Ws : Nat → World) {a : Act} {w : World} (hm : P.follows .mixedOrders = true) (hb : backB ops = true) (hix : ∀ q, q < ix.length → ix.getD q 0 < ops.size) (h0 : w.drew = Ws 0)
    (hs : ∃ V, a = puts sl V a)
    (hstep : ∀ (L L' : Nat → Prop) (V : Nat → Value) w i o K, JQ ops val ix Ws L V w → ops[i]? = some o → ¬ L i → (∀ j, (o.after.any fun e => e.on == j && Region.binds .any e) = true → L j) → (∀ j, L' j ↔ (j = i ∨ L j)) → (∀ a' w', (∃ V', a' = puts sl V' a ∧ JQ ops val ix Ws L' V' w') → K a' w') →
      Step o (yielded ops (puts sl V a).tmps) (Oper.wp P o (puts sl V a) w K Q) (K ((puts sl V a).put o.dst undef) w))
    (hend : ∀ (V : Nat → Value), (∀ j, j < ops.size → V j = val j) → Q .normal (puts sl V a) (Ws ix.length)) : (Code.region id ops true).wp P Q a w := by
  refine wp_region_step (fun a0 L b w => ∃ V, b = puts sl V a0 ∧ JQ ops val ix Ws L V w) hm hb (fun L hL => ?_) (fun L L' b w i o K => ?_) (fun L b w => ?_)
  · obtain ⟨V, hV⟩ := hs
    exact ⟨V, hV, JQ.start hL hix h0⟩
  · rintro ⟨V, rfl, hJ⟩ h1 h2 h3 h4 h5
    exact hstep L L' V w i o K hJ h1 h2 h3 h4 h5
  · rintro ⟨V, rfl, hJ⟩ hall
    obtain ⟨rfl, hv⟩ := hJ.end hall hix
    exact hend V hv
theorem wpIn_round_jq {l n : Nat} {P : Program} {id : Nat} {ops : Array Oper} {Q : Exit → Act → World → Prop} (hnd : noDef ops = true) (sl : List (Nat × Nat)) (val : Nat → Value) (ix : List Nat) (Ws : Nat → World) {a : Act} {w : World} (hm : P.follows .mixedOrders = true) (hb : backB ops = true) (hix : ∀ q, q < ix.length → ix.getD q 0 < ops.size) (h0 : w.drew = Ws 0)
    (hs : ∃ V, a = puts sl V a)
    (hstep : ∀ (L L' : Nat → Prop) (V : Nat → Value) w i o K, JQ ops val ix Ws L V w → ops[i]? = some o → ¬ L i → (∀ j, (o.after.any fun e => e.on == j && Region.binds .any e) = true → L j) → (∀ j, L' j ↔ (j = i ∨ L j)) → (∀ a' w', (∃ V', a' = puts sl V' a ∧ JQ ops val ix Ws L' V' w') → K a' w') →
      Step o (yielded ops (puts sl V a).tmps) (Oper.wp P o (puts sl V a) w K Q) (K ((puts sl V a).put o.dst undef) w))
    (hend : ∀ (V : Nat → Value), (∀ j, j < ops.size → V j = val j) → Q .normal (puts sl V a) (Ws ix.length)) : (Code.region id ops true).wpIn (Fence.wide.inRound l) n P Q a w := by
  refine wpIn_round_step hnd (fun a0 L b w => ∃ V, b = puts sl V a0 ∧ JQ ops val ix Ws L V w) hm hb (fun L hL => ?_) (fun L L' b w i o K => ?_) (fun L b w => ?_)
  · obtain ⟨V, hV⟩ := hs
    exact ⟨V, hV, JQ.start hL hix h0⟩
  · rintro ⟨V, rfl, hJ⟩ h1 h2 h3 h4 h5
    exact hstep L L' V w i o K hJ h1 h2 h3 h4 h5
  · rintro ⟨V, rfl, hJ⟩ hall
    obtain ⟨rfl, hv⟩ := hJ.end hall hix
    exact hend V hv
end Go.Proofs.Ytkfomaoillnehaa.Pj
