/- A copy and a row made beside it, the one appended to the other, in a region that draws its order (no conditions). -/
import Derived.Test.YtdllenoclnmmdaaIns
namespace Go.Proofs.Ytdllenoclnmmdaa.Pj
open Go.RowKit

/-- c the copy, d the row, q the append -/
structure Cp2 (base : Nat) (t : TypeId) (s na nb : Nat) (xs zs : List Value) (c d q : Nat) (L : Nat → Prop) (V : Nat → Value) (w : World) : Prop where
  c1 : L c → ¬ L q → w.ownsRow base t s (V c) na xs
  d1 : L d → ¬ L q → w.ownsRow base t s (V d) nb zs
  q1 : L q → w.ownsRow base t s (V q) (na + nb) (xs ++ zs)
  oq : L q → L c ∧ L d
section
variable {base : Nat} {t : TypeId} {s na nb : Nat} {xs zs : List Value} {c d q : Nat} {L L' : Nat → Prop} {V : Nat → Value} {w w' : World}
theorem Cp2.start (hc : ¬ L c) (hd : ¬ L d) (hq : ¬ L q) : Cp2 base t s na nb xs zs c d q L V w := ⟨fun h => absurd h hc, fun h => absurd h hd, fun h => absurd h hq, fun h => absurd h hq⟩
theorem Cp2.keep {i : Nat} (h : Cp2 base t s na nb xs zs c d q L V w) (hc : i ≠ c) (hd : i ≠ d) (hq : i ≠ q) (hL : ∀ j, L' j ↔ (j = i ∨ L j)) (hk : Kept w w') {x : Value} : Cp2 base t s na nb xs zs c d q L' (vset V i x) w' := by
  have e : ∀ j, i ≠ j → (L' j ↔ L j) := fun j hj => ⟨fun q => ((hL j).1 q).resolve_left (fun e => hj e.symm), fun q => (hL j).2 (.inr q)⟩
  refine ⟨fun h1 h2 => ?_, fun h1 h2 => ?_, fun h1 => ?_, fun h1 => ⟨(e c hc).2 (h.oq ((e q hq).1 h1)).1, (e d hd).2 (h.oq ((e q hq).1 h1)).2⟩⟩
  · rw [vset_other _ _ (fun e => hc e.symm)]; exact own_kept (h.c1 ((e c hc).1 h1) (fun r => h2 ((e q hq).2 r))) hk
  · rw [vset_other _ _ (fun e => hd e.symm)]; exact own_kept (h.d1 ((e d hd).1 h1) (fun r => h2 ((e q hq).2 r))) hk
  · rw [vset_other _ _ (fun e => hq e.symm)]; exact own_kept (h.q1 ((e q hq).1 h1)) hk
theorem Cp2.copied (h : Cp2 base t s na nb xs zs c d q L V w) (ho : ¬ L c) (hcd : c ≠ d) (hcq : c ≠ q) (hL : ∀ j, L' j ↔ (j = c ∨ L j)) (hk : Kept w w') {x : Value} (hx : w'.ownsRow base t s x na xs) : Cp2 base t s na nb xs zs c d q L' (vset V c x) w' := by
  have e : ∀ j, c ≠ j → (L' j ↔ L j) := fun j hj => ⟨fun q => ((hL j).1 q).resolve_left (fun e => hj e.symm), fun q => (hL j).2 (.inr q)⟩
  have hq : ¬ L' q := fun h1 => ho (h.oq ((e q hcq).1 h1)).1
  refine ⟨fun _ _ => by rw [vset_same]; exact hx, fun h1 _ => ?_, fun h1 => absurd h1 hq, fun h1 => absurd h1 hq⟩
  rw [vset_other _ _ (fun e => hcd e.symm)]
  exact own_kept (h.d1 ((e d hcd).1 h1) (fun r => hq ((e q hcq).2 r))) hk
theorem Cp2.laid (h : Cp2 base t s na nb xs zs c d q L V w) (ho : ¬ L d) (hdc : d ≠ c) (hdq : d ≠ q) (hL : ∀ j, L' j ↔ (j = d ∨ L j)) (hk : Kept w w') {x : Value} (hx : w'.ownsRow base t s x nb zs) : Cp2 base t s na nb xs zs c d q L' (vset V d x) w' := by
  have e : ∀ j, d ≠ j → (L' j ↔ L j) := fun j hj => ⟨fun q => ((hL j).1 q).resolve_left (fun e => hj e.symm), fun q => (hL j).2 (.inr q)⟩
  have hq : ¬ L' q := fun h1 => ho (h.oq ((e q hdq).1 h1)).2
  refine ⟨fun h1 _ => ?_, fun _ _ => by rw [vset_same]; exact hx, fun h1 => absurd h1 hq, fun h1 => absurd h1 hq⟩
  rw [vset_other _ _ (fun e => hdc e.symm)]
  exact own_kept (h.c1 ((e c hdc).1 h1) (fun r => hq ((e q hdq).2 r))) hk
theorem Cp2.tail (hc : L c) (hd : L d) (hL : ∀ j, L' j ↔ (j = q ∨ L j)) {x : Value} (hx : w'.ownsRow base t s x (na + nb) (xs ++ zs)) : Cp2 base t s na nb xs zs c d q L' (vset V q x) w' :=
  ⟨fun _ h2 => absurd ((hL q).2 (.inl rfl)) h2, fun _ h2 => absurd ((hL q).2 (.inl rfl)) h2, fun _ => by rw [vset_same]; exact hx, fun _ => ⟨(hL c).2 (.inr hc), (hL d).2 (.inr hd)⟩⟩
/-- a row of one's own, as what is appended -/
theorem own_source {a : Option Addr} {n cap : Nat} {ys : List Value} (h : w.ownsRow base t s (.slice a n cap) n ys) :
    (a = none → n = 0) ∧ ys.length = n * s ∧ ∀ ad, a = some ad → ∀ j u, ys[j]? = some u → w.cell? (ad.add j) = some u := by
  refine ⟨fun e => ?_, h.1, fun ad e j u hj => ?_⟩
  · rcases h.2 with ⟨_, h0⟩ | ⟨g, c', cur, e1, _⟩
    · exact h0
    · rw [e] at e1; cases e1
  · rcases h.2 with ⟨e1, _⟩ | ⟨g, c', cur, e1, _⟩
    · rw [e] at e1; cases e1
    · cases e1
      cases e
      have hlt : j < ys.length := (List.getElem?_eq_some_iff.1 hj).1
      rw [show (⟨g, 0, none⟩ : Addr).add j = ⟨g, j, none⟩ by unfold Addr.add; split <;> simp_all, h.cellAt j (by rw [← h.1]; exact hlt), hj]
end
end Go.Proofs.Ytdllenoclnmmdaa.Pj
