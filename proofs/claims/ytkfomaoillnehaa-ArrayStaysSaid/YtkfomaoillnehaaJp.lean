/- A region that draws its order, some of whose operations change the world, those in one forced order, told by what each leaves; the others read (no conditions). -/
import Derived.Test.YtkfomaoillnehaaJq
namespace Go.Proofs.Ytkfomaoillnehaa.Pj
open Go.RowKit
structure JP (ops : Array Oper) (val : Nat → Value) (ix : List Nat) (Ph : Nat → World → Prop) (L : Nat → Prop) (V : Nat → Value) (w : World) : Prop where
  h : ∀ j, L j → j < ops.size → V j = val j
  s : ∃ m, m ≤ ix.length ∧ Ph m w ∧ (∀ q, q < m → L (ix.getD q 0)) ∧ ∀ q, m ≤ q → q < ix.length → ¬ L (ix.getD q 0)
section
variable {ops : Array Oper} {val : Nat → Value} {ix : List Nat} {Ph : Nat → World → Prop} {L L' : Nat → Prop} {V : Nat → Value} {w w' : World}
theorem JP.start (hL : ∀ j, j < ops.size → ¬ L j) (hix : ∀ q, q < ix.length → ix.getD q 0 < ops.size) (h0 : Ph 0 w) : JP ops val ix Ph L V w :=
  ⟨fun j hj h => absurd hj (hL j h), ⟨0, Nat.zero_le _, h0, fun q h => absurd h (Nat.not_lt_zero q), fun q _ h => hL _ (hix q h)⟩⟩
theorem JP.more {i : Nat} (h : JP ops val ix Ph L V w) (hi : ∀ q, q < ix.length → ix.getD q 0 ≠ i) (hL : ∀ j, L' j ↔ (j = i ∨ L j)) {x : Value} (hx : x = val i) : JP ops val ix Ph L' (vset V i x) w := by
  have e : ∀ q, q < ix.length → (L' (ix.getD q 0) ↔ L (ix.getD q 0)) := fun q hq => ⟨fun k => ((hL _).1 k).resolve_left (hi q hq), fun k => (hL _).2 (.inr k)⟩
  obtain ⟨m, hm, hw, h1, h2⟩ := h.s
  refine ⟨fun j hj hs => ?_, ⟨m, hm, hw, fun q hq => (e q (by omega)).2 (h1 q hq), fun q hq hl k => h2 q hq hl ((e q hl).1 k)⟩⟩
  by_cases q : j = i
  · subst q; rw [vset_same, hx]
  · rw [vset_other _ _ q]; exact h.h j (((hL j).1 hj).resolve_left q) hs
theorem JP.rd (h : JP ops val ix Ph L V w) {R : World → Prop} (HR : ∀ m, m ≤ ix.length → ∀ w, Ph m w → R w) : R w := by
  obtain ⟨m, hm, hw, _⟩ := h.s
  exact HR m hm w hw
theorem JP.at {i : Nat} (h : JP ops val ix Ph L V w) (q : Nat) (hq : q < ix.length) (hi : ix.getD q 0 = i) (ho : ¬ L i) (hp : q = 0 ∨ L (ix.getD (q - 1) 0)) : Ph q w := by
  obtain ⟨m, hm, hw, h1, h2⟩ := h.s
  subst hi
  have a : m ≤ q := by
    by_cases k : m ≤ q
    · exact k
    · exact absurd (h1 q (by omega)) ho
  rcases hp with rfl | hp
  · obtain rfl : m = 0 := by omega
    exact hw
  · have b : q ≤ m := by
      by_cases k : q ≤ m
      · exact k
      · exact absurd hp (h2 (q - 1) (by omega) (by omega))
    obtain rfl : m = q := by omega
    exact hw
theorem JP.step {i : Nat} (h : JP ops val ix Ph L V w) (q : Nat) (hq : q < ix.length) (hi : ix.getD q 0 = i) (hinj : ∀ r, r < ix.length → r ≠ q → ix.getD r 0 ≠ i) (hn : ¬ L i) (hL : ∀ j, L' j ↔ (j = i ∨ L j)) (hprev : q = 0 ∨ L (ix.getD (q - 1) 0)) {x : Value} (hx : x = val i) (hw' : Ph (q + 1) w') :
    JP ops val ix Ph L' (vset V i x) w' := by
  have e : ∀ r, r < ix.length → r ≠ q → (L' (ix.getD r 0) ↔ L (ix.getD r 0)) := fun r hr hne => ⟨fun k => ((hL _).1 k).resolve_left (hinj r hr hne), fun k => (hL _).2 (.inr k)⟩
  obtain ⟨m, hm, _, h1, h2⟩ := h.s
  have a : m ≤ q := by
    by_cases k : m ≤ q
    · exact k
    · exact absurd (by rw [← hi]; exact h1 q (by omega)) hn
  have b : q ≤ m := by
    rcases hprev with rfl | hp
    · exact Nat.zero_le _
    · by_cases k : q ≤ m
      · exact k
      · exact absurd hp (h2 (q - 1) (by omega) (by omega))
  obtain rfl : m = q := by omega
  refine ⟨fun j hj hs => ?_, ⟨m + 1, by omega, hw', fun r hr => ?_, fun r hr hl k => ?_⟩⟩
  · by_cases k : j = i
    · subst k; rw [vset_same, hx]
    · rw [vset_other _ _ k]; exact h.h j (((hL j).1 hj).resolve_left k) hs
  · by_cases k : r = m
    · subst k; rw [hi]; exact (hL i).2 (.inl rfl)
    · exact (e r (by omega) k).2 (h1 r (by omega))
  · exact h2 r (by omega) hl ((e r hl (by omega)).1 k)
theorem JP.end (h : JP ops val ix Ph L V w) (hall : ∀ j, j < ops.size → L j) (hix : ∀ q, q < ix.length → ix.getD q 0 < ops.size) : Ph ix.length w ∧ ∀ j, j < ops.size → V j = val j := by
  obtain ⟨m, hm, hw, h1, h2⟩ := h.s
  have : m = ix.length := by
    by_cases k : m = ix.length
    · exact k
    · exact absurd (hall _ (hix m (by omega))) (h2 m (Nat.le_refl _) (by omega))
  subst this
  exact ⟨hw, fun j hj => h.h j (hall j hj) hj⟩
end
theorem wp_region_jp {P : Program} {id : Nat} {ops : Array Oper} {Q : Exit → Act → World → Prop} (sl : List (Nat × Nat)) (val : Nat → Value) (ix : List Nat) (Ph : Nat → World → Prop) {a : Act} {w : World} (hm : P.follows .mixedOrders = true) (hb : backB ops = true) (hix : ∀ q, q < ix.length → ix.getD q 0 < ops.size) (h0 : Ph 0 w.drew)
    (hs : ∃ V, a = puts sl V a)
    (hstep : ∀ (L L' : Nat → Prop) (V : Nat → Value) w i o K, JP ops val ix Ph L V w → ops[i]? = some o → ¬ L i → (∀ j, (o.after.any fun e => e.on == j && Region.binds .any e) = true → L j) → (∀ j, L' j ↔ (j = i ∨ L j)) → (∀ a' w', (∃ V', a' = puts sl V' a ∧ JP ops val ix Ph L' V' w') → K a' w') →
      Step o (yielded ops (puts sl V a).tmps) (Oper.wp P o (puts sl V a) w K Q) (K ((puts sl V a).put o.dst undef) w))
    (hend : ∀ (V : Nat → Value) w, Ph ix.length w → (∀ j, j < ops.size → V j = val j) → Q .normal (puts sl V a) w) : (Code.region id ops true).wp P Q a w := by
  refine wp_region_step (fun a0 L b w => ∃ V, b = puts sl V a0 ∧ JP ops val ix Ph L V w) hm hb (fun L hL => ?_) (fun L L' b w i o K => ?_) (fun L b w => ?_)
  · obtain ⟨V, hV⟩ := hs
    exact ⟨V, hV, JP.start hL hix h0⟩
  · rintro ⟨V, rfl, hJ⟩ h1 h2 h3 h4 h5
    exact hstep L L' V w i o K hJ h1 h2 h3 h4 h5
  · rintro ⟨V, rfl, hJ⟩ hall
    obtain ⟨hw, hv⟩ := hJ.end hall hix
    exact hend V w hw hv
end Go.Proofs.Ytkfomaoillnehaa.Pj
