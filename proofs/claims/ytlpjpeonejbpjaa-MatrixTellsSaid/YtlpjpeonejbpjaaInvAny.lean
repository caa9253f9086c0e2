/- A region that draws its order, by an invariant of what has been done: one step for each operation, whatever the order (no conditions). -/
import Derived.Test.YtlpjpeonejbpjaaKit
import Derived.Orders
import Derived.RegionTactic
namespace Go.Proofs.Ytlpjpeonejbpjaa

/-- how many operations are left -/
def leftOf (listed : Array Bool) : Nat := listed.toList.count false
theorem left_set {listed : Array Bool} {i : Nat} (h : listed.getD i true = false) : leftOf (listed.setIfInBounds i true) + 1 = leftOf listed := by
  have hi : i < listed.size := by
    rcases Nat.lt_or_ge i listed.size with hi | hi
    · exact hi
    · rw [Array.getD_eq_getD_getElem?, Array.getElem?_eq_none hi] at h
      cases h
  have hv : listed.toList[i]'(by simpa using hi) = false := by
    rw [Array.getD_eq_getD_getElem?, Array.getElem?_eq_getElem hi] at h
    simpa using h
  have hpos : 0 < listed.toList.count false := List.count_pos_iff.2 (by rw [← hv]; exact List.getElem_mem _)
  unfold leftOf
  rw [Array.toList_setIfInBounds, List.count_set (by simpa using hi), hv, if_pos (by rfl), if_neg (by decide)]
  omega
theorem left_none {md : Region.Mode} {ops : Array Oper} {listed : Array Bool} (h : leftOf listed = 0) : Region.ready md ops listed = [] := by
  unfold Region.ready
  rw [List.filter_eq_nil_iff]
  intro i _ hb
  rw [Bool.and_eq_true] at hb
  have h1 : listed.getD i true = false := by simpa using hb.1
  have := left_set h1
  omega
theorem ready_open {md : Region.Mode} {ops : Array Oper} {listed : Array Bool} {i : Nat} (h : i ∈ Region.ready md ops listed) : listed.getD i true = false := by
  unfold Region.ready at h
  have := (List.mem_filter.1 h).2
  rw [Bool.and_eq_true] at this
  simpa using this.1
theorem wpAny_inv {P : Program} {md : Region.Mode} {ops : Array Oper} {Q : Exit → Act → World → Prop} (J : Array Bool → Act → World → Prop)
    (hstep : ∀ listed a w i, J listed a w → i ∈ Region.ready md ops listed → wpOp P ops Q i (J (listed.setIfInBounds i true)) a w)
    (hend : ∀ listed a w, J listed a w → Region.ready md ops listed = [] → Q .normal a w) : ∀ fuel listed a w, leftOf listed ≤ fuel → J listed a w → wpAny P md ops Q fuel listed a w
  | 0, listed, a, w, hl, hJ => by
    have hr : Region.ready md ops listed = [] := left_none (by omega)
    exact ⟨hr, hend listed a w hJ hr⟩
  | fuel + 1, listed, a, w, hl, hJ => by
    refine ⟨hend listed a w hJ, fun i hi => wpOp_mono (fun a' w' h => wpAny_inv J hstep hend fuel _ a' w' ?_ h) (hstep listed a w i hJ hi)⟩
    have := left_set (ready_open hi)
    omega
theorem getD_set (listed : Array Bool) (i j : Nat) : (listed.setIfInBounds i true).getD j true = if i = j then true else listed.getD j true := by
  simp only [Array.getD_eq_getD_getElem?, Array.getElem?_setIfInBounds]
  split
  · rename_i h
    split
    · rfl
    · rename_i h2
      rfl
  · rfl
theorem getD_rep (n j : Nat) (h : j < n) : (Array.replicate n false).getD j true = false := by
  simp [Array.getD_eq_getD_getElem?, h]

theorem getD_size (listed : Array Bool) (j : Nat) (h : j < listed.size) : listed.getD j false = listed.getD j true := by
  simp [Array.getD_eq_getD_getElem?, h]
/-- the edges that bind in whatever order go back -/
def backB (ops : Array Oper) : Bool := (List.range ops.size).all fun i => ((ops[i]?).map (fun o => o.after.all fun e => decide (e.on < i) || !Region.binds .any e)).getD true
theorem back_at {ops : Array Oper} (hb : backB ops = true) {i : Nat} {o : Oper} (ho : ops[i]? = some o) : o.after.all (fun e => decide (e.on < i) || !Region.binds .any e) = true := by
  have hi : i < ops.size := (Array.getElem?_eq_some_iff.1 ho).1
  have := List.all_eq_true.1 hb i (List.mem_range.2 hi)
  rw [ho] at this
  exact this
theorem all_listed {ops : Array Oper} (hb : backB ops = true) {listed : Array Bool} (hs : listed.size = ops.size) (hr : Region.ready .any ops listed = []) : ∀ n i, i < n → i < ops.size → listed.getD i true = true
  | n + 1, i, hin, hi => by
    have ih := all_listed hb hs hr n
    cases hl : listed.getD i true with
    | true => rfl
    | false =>
      exfalso
      have ho : ops[i]? = some ops[i] := Array.getElem?_eq_getElem hi
      have hall := back_at hb ho
      have hmem : i ∈ Region.ready .any ops listed := by
        unfold Region.ready
        refine List.mem_filter.2 ⟨List.mem_range.2 hi, ?_⟩
        rw [hl, ho]
        simp only [Bool.not_false, Bool.true_and, Option.map_some, Option.getD_some]
        rw [Array.all_eq_true] at hall ⊢
        intro k hk
        have h0 := hall k hk
        cases hbd : Region.binds .any (ops[i].after[k]) with
        | false => rfl
        | true =>
          rw [hbd] at h0
          have h1 : (ops[i].after[k]).on < i := by simpa using h0
          rw [getD_size listed _ (by omega), ih _ (by omega) (by omega), Bool.or_true]
      rw [hr] at hmem
      cases hmem
theorem wp_region_inv {P : Program} {id : Nat} {ops : Array Oper} {Q : Exit → Act → World → Prop} (J : (Nat → Prop) → Act → World → Prop) {a : Act} {w : World} (hm : P.follows .mixedOrders = true) (hb : backB ops = true)
    (h0 : ∀ L : Nat → Prop, (∀ j, j < ops.size → ¬ L j) → J L a w.drew)
    (hstep : ∀ (L L' : Nat → Prop) a w i o K, J L a w → ops[i]? = some o → ¬ L i → (∀ j, (o.after.any fun e => e.on == j && Region.binds .any e) = true → L j) → (∀ j, L' j ↔ (j = i ∨ L j)) → (∀ a' w', J L' a' w' → K a' w') →
      if Region.wanted o (yielded ops a.tmps) = true then Oper.wp P o a w K Q else K (a.put o.dst undef) w)
    (hend : ∀ (L : Nat → Prop) a w, J L a w → (∀ j, j < ops.size → L j) → Q .normal a w) : (Code.region id ops true).wp P Q a w := by
  refine wp_region_any hm (wpAny_inv (fun listed a w => listed.size = ops.size ∧ J (fun j => listed.getD j true = true) a w) ?_ ?_ ops.size _ a _ (by unfold leftOf; rw [Array.toList_replicate, List.count_replicate]; split <;> omega) ⟨Array.size_replicate, h0 _ (fun j hj => by simp [getD_rep _ _ hj])⟩)
  · rintro listed a w i ⟨hs, hJ⟩ hi
    have hopen := ready_open hi
    have hi2 := (List.mem_filter.1 hi).2
    have hil : i < ops.size := List.mem_range.1 (List.mem_filter.1 hi).1
    have ho : ops[i]? = some ops[i] := Array.getElem?_eq_getElem hil
    have hall := back_at hb ho
    refine wpOp_step ho fun K' hK => hstep _ (fun j => (listed.setIfInBounds i true).getD j true = true) a w i ops[i] K' hJ ho (by rw [hopen]; exact Bool.false_ne_true) (fun j hj => ?_) (fun j => ?_) (fun a' w' h' => hK a' w' ⟨by rw [Array.size_setIfInBounds]; exact hs, h'⟩)
    · rw [ho, hopen] at hi2
      simp only [Bool.not_false, Bool.true_and, Option.map_some, Option.getD_some] at hi2
      rw [Array.any_eq_true] at hj
      obtain ⟨k, hk, he⟩ := hj
      rw [Bool.and_eq_true] at he
      have h1 := (Array.all_eq_true.1 hi2) k hk
      have h0 := (Array.all_eq_true.1 hall) k hk
      rw [he.2] at h0
      have h2 : (ops[i].after[k]).on < i := by simpa using h0
      rw [he.2] at h1
      simp only [Bool.not_true, Bool.false_or] at h1
      have h3 : (ops[i].after[k]).on = j := by simpa using he.1
      rw [getD_size listed _ (by omega), h3] at h1
      exact h1
    · rw [getD_set]
      by_cases e : i = j
      · simp [e]
      · rw [if_neg e]
        exact ⟨.inr, fun h => h.resolve_left (fun h => e h.symm)⟩
  · rintro listed a w ⟨hs, hJ⟩ hr
    exact hend _ a w hJ (fun j hj => all_listed hb hs hr (j + 1) j (by omega) hj)
/-- the same, where the invariant names the frame that the region begins with -/
theorem wp_region_inv1 {P : Program} {id : Nat} {ops : Array Oper} {Q : Exit → Act → World → Prop} (J : Act → (Nat → Prop) → Act → World → Prop) {a : Act} {w : World} (hm : P.follows .mixedOrders = true) (hb : backB ops = true)
    (h0 : ∀ L : Nat → Prop, (∀ j, j < ops.size → ¬ L j) → J a L a w.drew)
    (hstep : ∀ (L L' : Nat → Prop) b w i o K, J a L b w → ops[i]? = some o → ¬ L i → (∀ j, (o.after.any fun e => e.on == j && Region.binds .any e) = true → L j) → (∀ j, L' j ↔ (j = i ∨ L j)) → (∀ a' w', J a L' a' w' → K a' w') →
      if Region.wanted o (yielded ops b.tmps) = true then Oper.wp P o b w K Q else K (b.put o.dst undef) w)
    (hend : ∀ (L : Nat → Prop) b w, J a L b w → (∀ j, j < ops.size → L j) → Q .normal b w) : (Code.region id ops true).wp P Q a w :=
  wp_region_inv (J a) hm hb h0 hstep hend
end Go.Proofs.Ytlpjpeonejbpjaa
