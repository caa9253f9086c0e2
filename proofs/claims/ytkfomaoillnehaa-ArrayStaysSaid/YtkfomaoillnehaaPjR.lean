
/- Pj within a round of a range over a function: the operations are walked as outside (no conditions but that nothing is deferred). -/
import Derived.Test.YtkfomaoillnehaaPjIn
import Derived.RangeFuncCalls
namespace Go.Proofs.Ytkfomaoillnehaa.Pj
open Go.RowKit

/-- an operation that defers nothing, walked outside, is walked within a round of the wide fence -/
theorem operIn_of_wp {l n : Nat} {P : Program} {o : Oper} {a : Act} {w : World} {K : Act → World → Prop} {Q : Exit → Act → World → Prop} (hd : ∀ c, o.op ≠ .defer c)
    (h : Oper.wp P o a w K Q) : Oper.wpIn (Fence.wide.inRound l) n P o a w K Q := by
  unfold Oper.wpIn
  unfold Oper.wp at h
  refine ⟨fun f _ => trivial, ?_⟩
  have e : o.semAt (Fence.wide.inRound l).round a.eval = execOp a.eval o := Oper.semAt_some l _ _ hd
  rw [e]
  generalize (execOp a.eval o).run P w = r at *
  cases r with
  | ok x w' =>
    cases x <;> simp only [Oper.upon] at h <;> simp only [Oper.uponIn]
    case value u => exact h
    case skip => exact h
    case defer d => exact h
    case enter f args =>
      refine ⟨fun q => by simp [Fence.wide] at q, ?_⟩
      exact (callsIn_wide (n := n - 1)).2 h
    case row row args =>
      refine ⟨fun q => by simp [Fence.wide] at q, ?_⟩
      exact fun c cs _ => let ⟨v, w', r, s⟩ := h c cs; ⟨v, w', r, stepsIn_wide.2 s⟩
    all_goals exact h
  | halt x w' => cases x <;> simp only [Oper.upon] at h <;> simp only [Oper.uponIn] <;> exact h
def noDef (ops : Array Oper) : Bool := ops.all fun o => match o.op with | .defer _ => false | _ => true
theorem noDef_at {ops : Array Oper} (h : noDef ops = true) {i : Nat} {o : Oper} (ho : ops[i]? = some o) : ∀ c, o.op ≠ .defer c := by
  intro c e
  obtain ⟨hi, he⟩ := Array.getElem?_eq_some_iff.1 ho
  have := Array.all_eq_true'.1 h o (he ▸ Array.getElem_mem hi)
  rw [e] at this
  cases this
theorem wpIn_round_step {l n : Nat} {P : Program} {id : Nat} {ops : Array Oper} {Q : Exit → Act → World → Prop} (hnd : noDef ops = true) (J : Act → (Nat → Prop) → Act → World → Prop) {a : Act} {w : World} (hm : P.follows .mixedOrders = true) (hb : backB ops = true)
    (h0 : ∀ L : Nat → Prop, (∀ j, j < ops.size → ¬ L j) → J a L a w.drew)
    (hstep : ∀ (L L' : Nat → Prop) b w i o K, J a L b w → ops[i]? = some o → ¬ L i → (∀ j, (o.after.any fun e => e.on == j && Region.binds .any e) = true → L j) → (∀ j, L' j ↔ (j = i ∨ L j)) → (∀ a' w', J a L' a' w' → K a' w') →
      Step o (yielded ops b.tmps) (Oper.wp P o b w K Q) (K (b.put o.dst undef) w))
    (hend : ∀ (L : Nat → Prop) b w, J a L b w → (∀ j, j < ops.size → L j) → Q .normal b w) : (Code.region id ops true).wpIn (Fence.wide.inRound l) n P Q a w :=
  wpIn_region_step (fun _ => trivial) J hm hb h0 (fun L L' b w i o K h1 h2 h3 h4 h5 h6 =>
    have h := hstep L L' b w i o K h1 h2 h3 h4 h5 h6
    ⟨fun q => operIn_of_wp (noDef_at hnd h2) (h.1 q), h.2⟩) hend
end Go.Proofs.Ytkfomaoillnehaa.Pj
