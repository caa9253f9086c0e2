
/- A region that draws its order: stores in one forced order, and one operation more that makes memory, at whatever time; the others read (no conditions). -/
import Derived.Test.YtkfomaoillnehaaJq
namespace Go.Proofs.Ytkfomaoillnehaa.Pj
open Go.RowKit
structure JF (ops : Array Oper) (val : Nat → Value) (ix : List Nat) (f : Nat) (Ws : Nat → Bool → World) (L : Nat → Prop) (V : Nat → Value) (w : World) : Prop where
  h : ∀ j, L j → j < ops.size → V j = val j
  s : ∃ m b, m ≤ ix.length ∧ w = Ws m b ∧ (∀ q, q < m → L (ix.getD q 0)) ∧ (∀ q, m ≤ q → q < ix.length → ¬ L (ix.getD q 0)) ∧ (b = true ↔ L f)
  o : ∀ q, q < ix.length → L (ix.getD q 0) → ∀ j, dep ops (ix.getD q 0) j = true → L j
section
variable {ops : Array Oper} {val : Nat → Value} {ix : List Nat} {f : Nat} {Ws : Nat → Bool → World} {L L' : Nat → Prop} {V : Nat → Value} {w : World}
theorem JF.start (hL : ∀ j, j < ops.size → ¬ L j) (hix : ∀ q, q < ix.length → ix.getD q 0 < ops.size) (hf : f < ops.size) (h0 : w = Ws 0 false) : JF ops val ix f Ws L V w :=
  ⟨fun j hj h => absurd hj (hL j h), ⟨0, false, Nat.zero_le _, h0, fun q h => absurd h (Nat.not_lt_zero q), fun q _ h => hL _ (hix q h), ⟨fun e => (by cases e), fun e => absurd e (hL f hf)⟩⟩, fun q h hl => absurd hl (hL _ (hix q h))⟩
theorem JF.more {i : Nat} (h : JF ops val ix f Ws L V w) (hi : ∀ q, q < ix.length → ix.getD q 0 ≠ i) (hf : f ≠ i) (hL : ∀ j, L' j ↔ (j = i ∨ L j)) {x : Value} (hx : x = val i) : JF ops val ix f Ws L' (vset V i x) w := by
  have e : ∀ q, q < ix.length → (L' (ix.getD q 0) ↔ L (ix.getD q 0)) := fun q hq => ⟨fun k => ((hL _).1 k).resolve_left (hi q hq), fun k => (hL _).2 (.inr k)⟩
  have ef : L' f ↔ L f := ⟨fun k => ((hL _).1 k).resolve_left hf, fun k => (hL _).2 (.inr k)⟩
  obtain ⟨m, b, hm, hw, h1, h2, h3⟩ := h.s
  refine ⟨fun j hj hs => ?_, ⟨m, b, hm, hw, fun q hq => (e q (by omega)).2 (h1 q hq), fun q hq hl k => h2 q hq hl ((e q hl).1 k), h3.trans ef.symm⟩, fun q hq hl j hd => (hL j).2 (.inr (h.o q hq ((e q hq).1 hl) j hd))⟩
  by_cases q : j = i
  · subst q; rw [vset_same, hx]
  · rw [vset_other _ _ q]; exact h.h j (((hL j).1 hj).resolve_left q) hs
theorem JF.rd (h : JF ops val ix f Ws L V w) {R : World → Prop} (HR : ∀ m b, m ≤ ix.length → R (Ws m b)) : R w := by
  obtain ⟨m, b, hm, hw, _⟩ := h.s
  rw [hw]; exact HR m b hm
theorem JF.at {i : Nat} (h : JF ops val ix f Ws L V w) (q : Nat) (hq : q < ix.length) (hi : ix.getD q 0 = i) (ho : ¬ L i) (hp : q = 0 ∨ L (ix.getD (q - 1) 0)) : ∃ b, w = Ws q b ∧ (b = true ↔ L f) := by
  obtain ⟨m, b, hm, hw, h1, h2, h3⟩ := h.s
  subst hi
  have a : m ≤ q := by
    by_cases k : m ≤ q
    · exact k
    · exact absurd (h1 q (by omega)) ho
  refine ⟨b, ?_, h3⟩
  rcases hp with rfl | hp
  · rw [hw, show m = 0 by omega]
  · have c : q ≤ m := by
      by_cases k : q ≤ m
      · exact k
      · exact absurd hp (h2 (q - 1) (by omega) (by omega))
    rw [hw, show m = q by omega]
theorem JF.step {i : Nat} {oi : Oper} {b : Bool} (h : JF ops val ix f Ws L V w) (q : Nat) (hq : q < ix.length) (hi : ix.getD q 0 = i) (hinj : ∀ r, r < ix.length → r ≠ q → ix.getD r 0 ≠ i) (hf : f ≠ i) (hb : b = true ↔ L f) (hn : ¬ L i) (ho : ops[i]? = some oi) (hL : ∀ j, L' j ↔ (j = i ∨ L j)) (hdep : ∀ j, (oi.after.any fun e => e.on == j && Region.binds .any e) = true → L j) (hprev : q = 0 ∨ L (ix.getD (q - 1) 0)) {x : Value} (hx : x = val i) :
    JF ops val ix f Ws L' (vset V i x) (Ws (q + 1) b) := by
  have e : ∀ r, r < ix.length → r ≠ q → (L' (ix.getD r 0) ↔ L (ix.getD r 0)) := fun r hr hne => ⟨fun k => ((hL _).1 k).resolve_left (hinj r hr hne), fun k => (hL _).2 (.inr k)⟩
  have ef : L' f ↔ L f := ⟨fun k => ((hL _).1 k).resolve_left hf, fun k => (hL _).2 (.inr k)⟩
  obtain ⟨m, _, hm, hw2, h1, h2, _⟩ := h.s
  have a : m ≤ q := by
    by_cases k : m ≤ q
    · exact k
    · exact absurd (by rw [← hi]; exact h1 q (by omega)) hn
  have c : q ≤ m := by
    rcases hprev with rfl | hp
    · exact Nat.zero_le _
    · by_cases k : q ≤ m
      · exact k
      · exact absurd hp (h2 (q - 1) (by omega) (by omega))
  obtain rfl : m = q := by omega
  refine ⟨fun j hj hs => ?_, ⟨m + 1, b, by omega, rfl, fun r hr => ?_, fun r hr hl k => ?_, hb.trans ef.symm⟩, fun r hr hl j hd => ?_⟩
  · by_cases k : j = i
    · subst k; rw [vset_same, hx]
    · rw [vset_other _ _ k]; exact h.h j (((hL j).1 hj).resolve_left k) hs
  · by_cases k : r = m
    · subst k; rw [hi]; exact (hL i).2 (.inl rfl)
    · exact (e r (by omega) k).2 (h1 r (by omega))
  · exact h2 r (by omega) hl ((e r hl (by omega)).1 k)
  · by_cases k : r = m
    · subst k
      refine (hL j).2 (.inr (hdep j ?_))
      unfold dep at hd
      rw [hi, ho] at hd
      exact hd
    · exact (hL j).2 (.inr (h.o r hr ((e r hr k).1 hl) j hd))
/-- how far the stores are, when memory is made -/
structure JFm (ops : Array Oper) (ix : List Nat) (f : Nat) (L : Nat → Prop) (m : Nat) : Prop where
  le : m ≤ ix.length
  d : ∀ q, q < m → L (ix.getD q 0)
  u : ∀ q, m ≤ q → q < ix.length → ¬ L (ix.getD q 0)
  b : ∀ q, q < ix.length → dep ops (ix.getD q 0) f = true → m ≤ q
theorem JF.atf (h : JF ops val ix f Ws L V w) (ho : ¬ L f) : ∃ m, w = Ws m false ∧ JFm ops ix f L m := by
  obtain ⟨m, b, hm, hw, h1, h2, h3⟩ := h.s
  have hb : b = false := by
    cases b with
    | false => rfl
    | true => exact absurd (h3.1 rfl) ho
  subst hb
  exact ⟨m, hw, hm, h1, h2, fun q hq hd => by
    by_cases k : m ≤ q
    · exact k
    · exact absurd (h.o q hq (h1 q (by omega)) f hd) ho⟩
theorem JF.stepf {m : Nat} (h : JF ops val ix f Ws L V w) (hm : JFm ops ix f L m) (hi : ∀ q, q < ix.length → ix.getD q 0 ≠ f) (hL : ∀ j, L' j ↔ (j = f ∨ L j)) {x : Value} (hx : x = val f) : JF ops val ix f Ws L' (vset V f x) (Ws m true) := by
  have e : ∀ q, q < ix.length → (L' (ix.getD q 0) ↔ L (ix.getD q 0)) := fun q hq => ⟨fun k => ((hL _).1 k).resolve_left (hi q hq), fun k => (hL _).2 (.inr k)⟩
  refine ⟨fun j hj hs => ?_, ⟨m, true, hm.le, rfl, fun q hq => (e q (by have := hm.le; omega)).2 (hm.d q hq), fun q hq hl k => hm.u q hq hl ((e q hl).1 k), ⟨fun _ => (hL f).2 (.inl rfl), fun _ => rfl⟩⟩, fun q hq hl j hd => (hL j).2 (.inr (h.o q hq ((e q hq).1 hl) j hd))⟩
  by_cases q : j = f
  · subst q; rw [vset_same, hx]
  · rw [vset_other _ _ q]; exact h.h j (((hL j).1 hj).resolve_left q) hs
theorem JF.end (h : JF ops val ix f Ws L V w) (hall : ∀ j, j < ops.size → L j) (hix : ∀ q, q < ix.length → ix.getD q 0 < ops.size) (hf : f < ops.size) : w = Ws ix.length true ∧ ∀ j, j < ops.size → V j = val j := by
  obtain ⟨m, b, hm, hw, h1, h2, h3⟩ := h.s
  have : m = ix.length := by
    by_cases k : m = ix.length
    · exact k
    · exact absurd (hall _ (hix m (by omega))) (h2 m (Nat.le_refl _) (by omega))
  subst this
  have hb : b = true := h3.2 (hall f hf)
  subst hb
  exact ⟨hw, fun j hj => h.h j (hall j hj) hj⟩
end
theorem wp_region_jf {P : Program} {id : Nat} {ops : Array Oper} {Q : Exit → Act → World → Prop} (sl : List (Nat × Nat)) (val : Nat → Value) (ix : List Nat) (f : Nat) (Ws : Nat → Bool → World) {a : Act} {w : World} (hm : P.follows .mixedOrders = true) (hb : backB ops = true) (hix : ∀ q, q < ix.length → ix.getD q 0 < ops.size) (hf : f < ops.size) (h0 : w.drew = Ws 0 false)
    (hs : ∃ V, a = puts sl V a)
    (hstep : ∀ (L L' : Nat → Prop) (V : Nat → Value) w i o K, JF ops val ix f Ws L V w → ops[i]? = some o → ¬ L i → (∀ j, (o.after.any fun e => e.on == j && Region.binds .any e) = true → L j) → (∀ j, L' j ↔ (j = i ∨ L j)) → (∀ a' w', (∃ V', a' = puts sl V' a ∧ JF ops val ix f Ws L' V' w') → K a' w') →
      Step o (yielded ops (puts sl V a).tmps) (Oper.wp P o (puts sl V a) w K Q) (K ((puts sl V a).put o.dst undef) w))
    (hend : ∀ (V : Nat → Value), (∀ j, j < ops.size → V j = val j) → Q .normal (puts sl V a) (Ws ix.length true)) : (Code.region id ops true).wp P Q a w := by
  refine wp_region_step (fun a0 L b w => ∃ V, b = puts sl V a0 ∧ JF ops val ix f Ws L V w) hm hb (fun L hL => ?_) (fun L L' b w i o K => ?_) (fun L b w => ?_)
  · obtain ⟨V, hV⟩ := hs
    exact ⟨V, hV, JF.start hL hix hf h0⟩
  · rintro ⟨V, rfl, hJ⟩ h1 h2 h3 h4 h5
    exact hstep L L' V w i o K hJ h1 h2 h3 h4 h5
  · rintro ⟨V, rfl, hJ⟩ hall
    obtain ⟨rfl, hv⟩ := hJ.end hall hix hf
    exact hend V hv
end Go.Proofs.Ytkfomaoillnehaa.Pj
