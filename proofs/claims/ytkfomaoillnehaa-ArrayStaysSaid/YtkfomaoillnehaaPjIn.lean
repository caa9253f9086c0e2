
/- Pj inside a fence that lets every function in: a region that draws its order, one step an operation (no conditions). -/
import Derived.Test.YtkfomaoillnehaaPj
import Derived.OrdersIn
namespace Go.Proofs.Ytkfomaoillnehaa.Pj
open Go.RowKit

theorem wpAnyIn_inv {F : Fence} {n : Nat} {P : Program} {md : Region.Mode} {ops : Array Oper} {Q : Exit → Act → World → Prop} (J : Array Bool → Act → World → Prop)
    (hstep : ∀ listed a w i, J listed a w → i ∈ Region.ready md ops listed → wpOpIn F n P ops Q i (J (listed.setIfInBounds i true)) a w)
    (hend : ∀ listed a w, J listed a w → Region.ready md ops listed = [] → Q .normal a w) : ∀ fuel listed a w, leftOf listed ≤ fuel → J listed a w → wpAnyIn F n P md ops Q fuel listed a w
  | 0, listed, a, w, hl, hJ => by
    have hr : Region.ready md ops listed = [] := left_none (by omega)
    exact ⟨hr, hend listed a w hJ hr⟩
  | fuel + 1, listed, a, w, hl, hJ => by
    refine ⟨hend listed a w hJ, fun i hi => wpOpIn_mono (fun a' w' h => wpAnyIn_inv J hstep hend fuel _ a' w' ?_ h) (hstep listed a w i hJ hi)⟩
    have := left_set (ready_open hi)
    omega
theorem wpIn_region_inv {F : Fence} {n : Nat} {P : Program} {id : Nat} {ops : Array Oper} {Q : Exit → Act → World → Prop} (hF : ∀ f, F.fn f) (J : (Nat → Prop) → Act → World → Prop) {a : Act} {w : World} (hm : P.follows .mixedOrders = true) (hb : backB ops = true)
    (h0 : ∀ L : Nat → Prop, (∀ j, j < ops.size → ¬ L j) → J L a w.drew)
    (hstep : ∀ (L L' : Nat → Prop) a w i o K, J L a w → ops[i]? = some o → ¬ L i → (∀ j, (o.after.any fun e => e.on == j && Region.binds .any e) = true → L j) → (∀ j, L' j ↔ (j = i ∨ L j)) → (∀ a' w', J L' a' w' → K a' w') →
      Step o (yielded ops a.tmps) (Oper.wpIn F n P o a w K Q) (K (a.put o.dst undef) w))
    (hend : ∀ (L : Nat → Prop) a w, J L a w → (∀ j, j < ops.size → L j) → Q .normal a w) : (Code.region id ops true).wpIn F n P Q a w := by
  refine wpIn_region_any hm (wpAnyIn_inv (fun listed a w => listed.size = ops.size ∧ J (fun j => listed.getD j true = true) a w) ?_ ?_ ops.size _ a _ (by unfold leftOf; rw [Array.toList_replicate, List.count_replicate]; split <;> omega) ⟨Array.size_replicate, h0 _ (fun j hj => by simp [getD_rep _ _ hj])⟩)
  · rintro listed a w i ⟨hs, hJ⟩ hi
    have hopen := ready_open hi
    have hi2 := (List.mem_filter.1 hi).2
    have hil : i < ops.size := List.mem_range.1 (List.mem_filter.1 hi).1
    have ho : ops[i]? = some ops[i] := Array.getElem?_eq_getElem hil
    have hall := back_at hb ho
    refine wpOpIn_step ho fun K' hK => ?_
    have h := hstep _ (fun j => (listed.setIfInBounds i true).getD j true = true) a w i ops[i] K' hJ ho (by rw [hopen]; exact Bool.false_ne_true) (fun j hj => ?_) (fun j => ?_) (fun a' w' h' => hK a' w' ⟨by rw [Array.size_setIfInBounds]; exact hs, h'⟩)
    · by_cases hw : Region.wanted ops[i] (yielded ops a.tmps) = true
      · rw [if_pos hw]; exact h.1 hw
      · rw [if_neg hw]; exact ⟨fun f _ => hF f, h.2 hw⟩
    · rw [ho, hopen] at hi2
      simp only [Bool.not_false, Bool.true_and, Option.map_some, Option.getD_some] at hi2
      rw [Array.any_eq_true] at hj
      obtain ⟨k, hk, he⟩ := hj
      rw [Bool.and_eq_true] at he
      have h1 := (Array.all_eq_true.1 hi2) k hk
      have h0 := (Array.all_eq_true.1 hall) k hk
      rw [he.2] at h0
      have h2 : (ops[i].after[k]).on < i := by simpa using h0
      rw [he.2] at h1
      simp only [Bool.not_true, Bool.false_or] at h1
      have h3 : (ops[i].after[k]).on = j := by simpa using he.1
      rw [getD_size listed _ (by omega), h3] at h1
      exact h1
    · rw [getD_set]
      by_cases e : i = j
      · simp [e]
      · rw [if_neg e]
        exact ⟨.inr, fun h => h.resolve_left (fun h => e h.symm)⟩
  · rintro listed a w ⟨hs, hJ⟩ hr
    exact hend _ a w hJ (fun j hj => all_listed hb hs hr (j + 1) j (by omega) hj)
/-- the same, where the invariant names the frame that the region begins with -/
theorem wpIn_region_step {F : Fence} {n : Nat} {P : Program} {id : Nat} {ops : Array Oper} {Q : Exit → Act → World → Prop} (hF : ∀ f, F.fn f) (J : Act → (Nat → Prop) → Act → World → Prop) {a : Act} {w : World} (hm : P.follows .mixedOrders = true) (hb : backB ops = true)
    (h0 : ∀ L : Nat → Prop, (∀ j, j < ops.size → ¬ L j) → J a L a w.drew)
    (hstep : ∀ (L L' : Nat → Prop) b w i o K, J a L b w → ops[i]? = some o → ¬ L i → (∀ j, (o.after.any fun e => e.on == j && Region.binds .any e) = true → L j) → (∀ j, L' j ↔ (j = i ∨ L j)) → (∀ a' w', J a L' a' w' → K a' w') →
      Step o (yielded ops b.tmps) (Oper.wpIn F n P o b w K Q) (K (b.put o.dst undef) w))
    (hend : ∀ (L : Nat → Prop) b w, J a L b w → (∀ j, j < ops.size → L j) → Q .normal b w) : (Code.region id ops true).wpIn F n P Q a w :=
  wpIn_region_inv hF (J a) hm hb h0 hstep hend
/-- an operation that makes a value inside a fence that lets every function in: told by its run -/
theorem operIn_value {F : Fence} {n : Nat} {P : Program} {o : Oper} {a : Act} {w w' : World} {K : Act → World → Prop} {Q : Exit → Act → World → Prop} {v : Value} (hF : ∀ f, F.fn f) (hd : ∀ c, o.op ≠ .defer c)
    (hr : (execOp a.eval o).run P w = .ok (.value v) w') (hK : K (a.put o.dst v) w') : Oper.wpIn F n P o a w K Q := by
  unfold Oper.wpIn
  refine ⟨fun f _ => hF f, ?_⟩
  have e : o.semAt F.round a.eval = execOp a.eval o := by
    cases F.round with
    | none => simp [Oper.semAt]
    | some l => exact Oper.semAt_some l _ _ hd
  rw [e, hr]
  exact hK
end Go.Proofs.Ytkfomaoillnehaa.Pj
