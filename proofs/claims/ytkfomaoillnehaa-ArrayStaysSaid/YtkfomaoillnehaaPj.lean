
/- A region that draws its order, by what the operations that are done have left: one step an operation, in whatever order (no conditions). -/
import Derived.Test.YtkfomaoillnehaaKit
import Derived.Orders
import Derived.RegionTactic
namespace Go.Proofs.Ytkfomaoillnehaa.Pj
open Go.RowKit

/-- how many operations are left -/
def leftOf (listed : Array Bool) : Nat := listed.toList.count false
theorem left_set {listed : Array Bool} {i : Nat} (h : listed.getD i true = false) : leftOf (listed.setIfInBounds i true) + 1 = leftOf listed := by
  have hi : i < listed.size := by
    rcases Nat.lt_or_ge i listed.size with hi | hi
    · exact hi
    · rw [Array.getD_eq_getD_getElem?, Array.getElem?_eq_none hi] at h
      cases h
  have hv : listed.toList[i]'(by simpa using hi) = false := by
    rw [Array.getD_eq_getD_getElem?, Array.getElem?_eq_getElem hi] at h
    simpa using h
  have hpos : 0 < listed.toList.count false := List.count_pos_iff.2 (by rw [← hv]; exact List.getElem_mem _)
  unfold leftOf
  rw [Array.toList_setIfInBounds, List.count_set (by simpa using hi), hv, if_pos (by rfl), if_neg (by decide)]
  omega
theorem left_none {md : Region.Mode} {ops : Array Oper} {listed : Array Bool} (h : leftOf listed = 0) : Region.ready md ops listed = [] := by
  unfold Region.ready
  rw [List.filter_eq_nil_iff]
  intro i _ hb
  rw [Bool.and_eq_true] at hb
  have h1 : listed.getD i true = false := by simpa using hb.1
  have := left_set h1
  omega
theorem ready_open {md : Region.Mode} {ops : Array Oper} {listed : Array Bool} {i : Nat} (h : i ∈ Region.ready md ops listed) : listed.getD i true = false := by
  unfold Region.ready at h
  have := (List.mem_filter.1 h).2
  rw [Bool.and_eq_true] at this
  simpa using this.1
theorem wpAny_inv {P : Program} {md : Region.Mode} {ops : Array Oper} {Q : Exit → Act → World → Prop} (J : Array Bool → Act → World → Prop)
    (hstep : ∀ listed a w i, J listed a w → i ∈ Region.ready md ops listed → wpOp P ops Q i (J (listed.setIfInBounds i true)) a w)
    (hend : ∀ listed a w, J listed a w → Region.ready md ops listed = [] → Q .normal a w) : ∀ fuel listed a w, leftOf listed ≤ fuel → J listed a w → wpAny P md ops Q fuel listed a w
  | 0, listed, a, w, hl, hJ => by
    have hr : Region.ready md ops listed = [] := left_none (by omega)
    exact ⟨hr, hend listed a w hJ hr⟩
  | fuel + 1, listed, a, w, hl, hJ => by
    refine ⟨hend listed a w hJ, fun i hi => wpOp_mono (fun a' w' h => wpAny_inv J hstep hend fuel _ a' w' ?_ h) (hstep listed a w i hJ hi)⟩
    have := left_set (ready_open hi)
    omega
theorem getD_set (listed : Array Bool) (i j : Nat) : (listed.setIfInBounds i true).getD j true = if i = j then true else listed.getD j true := by
  simp only [Array.getD_eq_getD_getElem?, Array.getElem?_setIfInBounds]
  split
  · rename_i h
    split
    · rfl
    · rename_i h2
      rfl
  · rfl
theorem getD_rep (n j : Nat) (h : j < n) : (Array.replicate n false).getD j true = false := by
  simp [Array.getD_eq_getD_getElem?, h]

theorem getD_size (listed : Array Bool) (j : Nat) (h : j < listed.size) : listed.getD j false = listed.getD j true := by
  simp [Array.getD_eq_getD_getElem?, h]
/-- the edges that bind in whatever order go back -/
def backB (ops : Array Oper) : Bool := (List.range ops.size).all fun i => ((ops[i]?).map (fun o => o.after.all fun e => decide (e.on < i) || !Region.binds .any e)).getD true
theorem back_at {ops : Array Oper} (hb : backB ops = true) {i : Nat} {o : Oper} (ho : ops[i]? = some o) : o.after.all (fun e => decide (e.on < i) || !Region.binds .any e) = true := by
  have hi : i < ops.size := (Array.getElem?_eq_some_iff.1 ho).1
  have := List.all_eq_true.1 hb i (List.mem_range.2 hi)
  rw [ho] at this
  exact this
theorem all_listed {ops : Array Oper} (hb : backB ops = true) {listed : Array Bool} (hs : listed.size = ops.size) (hr : Region.ready .any ops listed = []) : ∀ n i, i < n → i < ops.size → listed.getD i true = true
  | n + 1, i, hin, hi => by
    have ih := all_listed hb hs hr n
    cases hl : listed.getD i true with
    | true => rfl
    | false =>
      exfalso
      have ho : ops[i]? = some ops[i] := Array.getElem?_eq_getElem hi
      have hall := back_at hb ho
      have hmem : i ∈ Region.ready .any ops listed := by
        unfold Region.ready
        refine List.mem_filter.2 ⟨List.mem_range.2 hi, ?_⟩
        rw [hl, ho]
        simp only [Bool.not_false, Bool.true_and, Option.map_some, Option.getD_some]
        rw [Array.all_eq_true] at hall ⊢
        intro k hk
        have h0 := hall k hk
        cases hbd : Region.binds .any (ops[i].after[k]) with
        | false => rfl
        | true =>
          rw [hbd] at h0
          have h1 : (ops[i].after[k]).on < i := by simpa using h0
          rw [getD_size listed _ (by omega), ih _ (by omega) (by omega), Bool.or_true]
      rw [hr] at hmem
      cases hmem
theorem wp_region_inv {P : Program} {id : Nat} {ops : Array Oper} {Q : Exit → Act → World → Prop} (J : (Nat → Prop) → Act → World → Prop) {a : Act} {w : World} (hm : P.follows .mixedOrders = true) (hb : backB ops = true)
    (h0 : ∀ L : Nat → Prop, (∀ j, j < ops.size → ¬ L j) → J L a w.drew)
    (hstep : ∀ (L L' : Nat → Prop) a w i o K, J L a w → ops[i]? = some o → ¬ L i → (∀ j, (o.after.any fun e => e.on == j && Region.binds .any e) = true → L j) → (∀ j, L' j ↔ (j = i ∨ L j)) → (∀ a' w', J L' a' w' → K a' w') →
      if Region.wanted o (yielded ops a.tmps) = true then Oper.wp P o a w K Q else K (a.put o.dst undef) w)
    (hend : ∀ (L : Nat → Prop) a w, J L a w → (∀ j, j < ops.size → L j) → Q .normal a w) : (Code.region id ops true).wp P Q a w := by
  refine wp_region_any hm (wpAny_inv (fun listed a w => listed.size = ops.size ∧ J (fun j => listed.getD j true = true) a w) ?_ ?_ ops.size _ a _ (by unfold leftOf; rw [Array.toList_replicate, List.count_replicate]; split <;> omega) ⟨Array.size_replicate, h0 _ (fun j hj => by simp [getD_rep _ _ hj])⟩)
  · rintro listed a w i ⟨hs, hJ⟩ hi
    have hopen := ready_open hi
    have hi2 := (List.mem_filter.1 hi).2
    have hil : i < ops.size := List.mem_range.1 (List.mem_filter.1 hi).1
    have ho : ops[i]? = some ops[i] := Array.getElem?_eq_getElem hil
    have hall := back_at hb ho
    refine wpOp_step ho fun K' hK => hstep _ (fun j => (listed.setIfInBounds i true).getD j true = true) a w i ops[i] K' hJ ho (by rw [hopen]; exact Bool.false_ne_true) (fun j hj => ?_) (fun j => ?_) (fun a' w' h' => hK a' w' ⟨by rw [Array.size_setIfInBounds]; exact hs, h'⟩)
    · rw [ho, hopen] at hi2
      simp only [Bool.not_false, Bool.true_and, Option.map_some, Option.getD_some] at hi2
      rw [Array.any_eq_true] at hj
      obtain ⟨k, hk, he⟩ := hj
      rw [Bool.and_eq_true] at he
      have h1 := (Array.all_eq_true.1 hi2) k hk
      have h0 := (Array.all_eq_true.1 hall) k hk
      rw [he.2] at h0
      have h2 : (ops[i].after[k]).on < i := by simpa using h0
      rw [he.2] at h1
      simp only [Bool.not_true, Bool.false_or] at h1
      have h3 : (ops[i].after[k]).on = j := by simpa using he.1
      rw [getD_size listed _ (by omega), h3] at h1
      exact h1
    · rw [getD_set]
      by_cases e : i = j
      · simp [e]
      · rw [if_neg e]
        exact ⟨.inr, fun h => h.resolve_left (fun h => e h.symm)⟩
  · rintro listed a w ⟨hs, hJ⟩ hr
    exact hend _ a w hJ (fun j hj => all_listed hb hs hr (j + 1) j (by omega) hj)
/-- the same, where the invariant names the frame that the region begins with -/
theorem wp_region_inv1 {P : Program} {id : Nat} {ops : Array Oper} {Q : Exit → Act → World → Prop} (J : Act → (Nat → Prop) → Act → World → Prop) {a : Act} {w : World} (hm : P.follows .mixedOrders = true) (hb : backB ops = true)
    (h0 : ∀ L : Nat → Prop, (∀ j, j < ops.size → ¬ L j) → J a L a w.drew)
    (hstep : ∀ (L L' : Nat → Prop) b w i o K, J a L b w → ops[i]? = some o → ¬ L i → (∀ j, (o.after.any fun e => e.on == j && Region.binds .any e) = true → L j) → (∀ j, L' j ↔ (j = i ∨ L j)) → (∀ a' w', J a L' a' w' → K a' w') →
      if Region.wanted o (yielded ops b.tmps) = true then Oper.wp P o b w K Q else K (b.put o.dst undef) w)
    (hend : ∀ (L : Nat → Prop) b w, J a L b w → (∀ j, j < ops.size → L j) → Q .normal b w) : (Code.region id ops true).wp P Q a w :=
  wp_region_inv (J a) hm hb h0 hstep hend


theorem wanted_free {o : Oper} (h : o.guard = none) (y : Nat → Option Bool) : Region.wanted o y = true := by unfold Region.wanted; rw [h]
/-- a value more -/
def vset (V : Nat → Value) (i : Nat) (x : Value) : Nat → Value := fun j => if j = i then x else V j
theorem vset_same (V : Nat → Value) (i : Nat) (x : Value) : vset V i x i = x := by simp [vset]
theorem vset_other (V : Nat → Value) {i j : Nat} (x : Value) (h : j ≠ i) : vset V i x j = V j := by simp [vset, h]
/-- what stays while memory is made -/
def Stays (p : World → Value → Prop) : Prop := ∀ w w' v, p w v → Kept w w' → p w' v
/-- just this value -/
def Is (x : Value) : World → Value → Prop := fun _ v => v = x
theorem Is.stays (x : Value) : Stays (Is x) := fun _ _ _ h _ => h
/-- what is told of each operation's value -/
def of (l : List (World → Value → Prop)) (j : Nat) : World → Value → Prop := l.getD j (fun _ _ => True)
def AllStay : List (World → Value → Prop) → Prop
  | [] => True
  | p :: l => Stays p ∧ AllStay l
theorem AllStay.at : ∀ {l : List (World → Value → Prop)}, AllStay l → ∀ j, Stays (of l j)
  | [], _, j => fun _ _ _ _ _ => by simp [of]
  | p :: l, h, 0 => h.1
  | p :: l, h, j + 1 => fun w w' v hv hk => by
    have := AllStay.at h.2 j w w' v (by simpa [of] using hv) hk
    simpa [of] using this
structure J (W : World) (l : List (World → Value → Prop)) (L : Nat → Prop) (V : Nat → Value) (w : World) : Prop where
  kp : Kept W w
  h : ∀ j, L j → of l j w (V j)
theorem J.none {W w : World} {l : List (World → Value → Prop)} {L : Nat → Prop} {V : Nat → Value} {n : Nat} (hn : l.length ≤ n) (hL : ∀ j, j < n → ¬ L j) (k : Kept W w) : J W l L V w :=
  ⟨k, fun j hj => by
    by_cases h : j < n
    · exact absurd hj (hL j h)
    · have : of l j = fun _ _ => True := by
        unfold of
        rw [List.getD_eq_getElem?_getD, List.getElem?_eq_none (by omega)]
        rfl
      rw [this]
      trivial⟩
theorem J.more {W : World} {l : List (World → Value → Prop)} {L L' : Nat → Prop} {V : Nat → Value} {w w' : World} {i : Nat} (h : J W l L V w) (hP : AllStay l) (hL : ∀ j, L' j ↔ (j = i ∨ L j)) (hk : Kept w w') {x : Value} (hx : of l i w' x) : J W l L' (vset V i x) w' :=
  ⟨h.kp.trans hk, fun j hj => by
    by_cases e : j = i
    · subst e; rw [vset_same]; exact hx
    · rw [vset_other _ _ e]; exact hP.at j w w' _ (h.h j (((hL j).1 hj).resolve_left e)) hk⟩
/-- the slots that are done hold their values -/
def puts (sl : List (Nat × Nat)) (V : Nat → Value) (a : Act) : Act := sl.foldl (fun a p => a.put (some p.1) (V p.2)) a
theorem put_self (a : Act) (s : Nat) : a.put (some s) (a.tmps.getD s undef) = a := by
  obtain ⟨t, d⟩ := a
  unfold Act.put
  simp only
  congr 1
  apply Array.ext_getElem?
  intro i
  rw [Array.getElem?_setIfInBounds]
  by_cases h : s = i
  · subst h
    by_cases h2 : s < t.size
    · simp [h2]
    · simp [h2]
  · simp [h]
theorem puts_self (a : Act) (f : Nat → Nat) : ∀ js : List Nat, a = puts (js.map fun j => (f j, j)) (fun j => a.tmps.getD (f j) undef) a
  | [] => rfl
  | j :: js => by
    have h := puts_self a f js
    have e : puts ((j :: js).map fun j => (f j, j)) (fun j => a.tmps.getD (f j) undef) a = puts (js.map fun j => (f j, j)) (fun j => a.tmps.getD (f j) undef) (a.put (some (f j)) (a.tmps.getD (f j) undef)) := rfl
    rw [e, put_self]
    exact h
theorem wanted_at {o : Oper} {g : Nat} {b : Bool} (h : o.guard = some (g, b)) {y : Nat → Option Bool} (hy : y g = some b) : Region.wanted o y = true := by
  unfold Region.wanted
  rw [h]
  simp [hy]
theorem wanted_not {o : Oper} {g : Nat} {b : Bool} (h : o.guard = some (g, b)) {y : Nat → Option Bool} (hy : y g = some (!b)) : ¬ Region.wanted o y = true := by
  unfold Region.wanted
  rw [h]
  simp [hy]
/-- a step of an operation that may be guarded: A if it is wanted, else B -/
def Step (o : Oper) (y : Nat → Option Bool) (A B : Prop) : Prop := (Region.wanted o y = true → A) ∧ (¬ Region.wanted o y = true → B)
theorem Step.free {o : Oper} {y : Nat → Option Bool} {A B : Prop} (h : o.guard = none) (a : A) : Step o y A B := ⟨fun _ => a, fun k => absurd (wanted_free h y) k⟩
theorem Step.at {o : Oper} {y : Nat → Option Bool} {A B : Prop} {g : Nat} {b : Bool} (h : o.guard = some (g, b)) (hy : y g = some b) (a : A) : Step o y A B := ⟨fun _ => a, fun k => absurd (wanted_at h hy) k⟩
theorem Step.not {o : Oper} {y : Nat → Option Bool} {A B : Prop} {g : Nat} {b : Bool} (h : o.guard = some (g, b)) (hy : y g = some (!b)) (a : B) : Step o y A B := ⟨fun k => absurd k (wanted_not h hy), fun _ => a⟩
theorem wp_region_step {P : Program} {id : Nat} {ops : Array Oper} {Q : Exit → Act → World → Prop} (J : Act → (Nat → Prop) → Act → World → Prop) {a : Act} {w : World} (hm : P.follows .mixedOrders = true) (hb : backB ops = true)
    (h0 : ∀ L : Nat → Prop, (∀ j, j < ops.size → ¬ L j) → J a L a w.drew)
    (hstep : ∀ (L L' : Nat → Prop) b w i o K, J a L b w → ops[i]? = some o → ¬ L i → (∀ j, (o.after.any fun e => e.on == j && Region.binds .any e) = true → L j) → (∀ j, L' j ↔ (j = i ∨ L j)) → (∀ a' w', J a L' a' w' → K a' w') →
      Step o (yielded ops b.tmps) (Oper.wp P o b w K Q) (K (b.put o.dst undef) w))
    (hend : ∀ (L : Nat → Prop) b w, J a L b w → (∀ j, j < ops.size → L j) → Q .normal b w) : (Code.region id ops true).wp P Q a w :=
  wp_region_inv1 J hm hb h0 (fun L L' b w i o K h1 h2 h3 h4 h5 h6 => by
    have h := hstep L L' b w i o K h1 h2 h3 h4 h5 h6
    by_cases hw : Region.wanted o (yielded ops b.tmps) = true
    · rw [if_pos hw]; exact h.1 hw
    · rw [if_neg hw]; exact h.2 hw) hend
end Go.Proofs.Ytkfomaoillnehaa.Pj
