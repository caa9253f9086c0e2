/- Products of matrices of the field's numbers, and what sweeping a matrix's columns does to it: rows made of rows, both ways; the form at the end (no conditions). -/
import Derived.Test.YtlpjpeonejbpjaaMatF
namespace Go.Proofs.Ytlpjpeonejbpjaa

/-! ### sums -/
def xs (g : Nat → Nat) : Nat → Nat
  | 0 => 0
  | n + 1 => xs g n ^^^ g n
theorem xs_lt {g : Nat → Nat} (h : ∀ j, g j < 256) : ∀ n, xs g n < 256
  | 0 => by show 0 < 256; omega
  | n + 1 => Gf.xor_lt (xs_lt h n) (h n)
theorem xs_congr {g h : Nat → Nat} : ∀ {n : Nat}, (∀ j, j < n → g j = h j) → xs g n = xs h n
  | 0, _ => rfl
  | n + 1, e => by
    show xs g n ^^^ g n = xs h n ^^^ h n
    rw [xs_congr (n := n) (fun j hj => e j (by omega)), e n (by omega)]
theorem xs_xor (g h : Nat → Nat) : ∀ n, xs (fun j => g j ^^^ h j) n = xs g n ^^^ xs h n
  | 0 => (Nat.xor_self 0).symm
  | n + 1 => by
    show xs (fun j => g j ^^^ h j) n ^^^ (g n ^^^ h n) = (xs g n ^^^ g n) ^^^ (xs h n ^^^ h n)
    rw [xs_xor g h n, Nat.xor_assoc, Nat.xor_assoc, ← Nat.xor_assoc (xs h n) (g n), Nat.xor_comm (xs h n) (g n), Nat.xor_assoc (g n)]
theorem xs_zero {g : Nat → Nat} : ∀ {n : Nat}, (∀ j, j < n → g j = 0) → xs g n = 0
  | 0, _ => rfl
  | n + 1, e => by
    show xs g n ^^^ g n = 0
    rw [xs_zero (n := n) (fun j hj => e j (by omega)), e n (by omega)]; rfl
theorem xs_single {g : Nat → Nat} {k : Nat} : ∀ {n : Nat}, k < n → (∀ j, j < n → j ≠ k → g j = 0) → xs g n = g k
  | 0, h, _ => by omega
  | n + 1, h, e => by
    show xs g n ^^^ g n = g k
    by_cases hk : k = n
    · subst hk
      rw [xs_zero (fun j hj => e j (by omega) (by omega)), Nat.zero_xor]
    · rw [xs_single (n := n) (by omega) (fun j hj hne => e j (by omega) hne), e n (by omega) (fun h => hk h.symm), Nat.xor_zero]
theorem xs_mul_right {g : Nat → Nat} (h : ∀ j, g j < 256) (c : Nat) : ∀ n, Gf.mul (xs g n) c = xs (fun j => Gf.mul (g j) c) n
  | 0 => Gf.zero_mul c
  | n + 1 => by
    show Gf.mul (xs g n ^^^ g n) c = xs (fun j => Gf.mul (g j) c) n ^^^ Gf.mul (g n) c
    rw [Gf.mul_left (xs_lt h n) (h n), xs_mul_right h c n]
theorem xs_mul_left (g : Nat → Nat) (c : Nat) : ∀ n, Gf.mul c (xs g n) = xs (fun j => Gf.mul c (g j)) n
  | 0 => Gf.mul_zero c
  | n + 1 => by
    show Gf.mul c (xs g n ^^^ g n) = xs (fun j => Gf.mul c (g j)) n ^^^ Gf.mul c (g n)
    rw [Gf.mul_right, xs_mul_left g c n]
theorem xs_swap (h : Nat → Nat → Nat) (m : Nat) : ∀ n, xs (fun i => xs (fun j => h i j) m) n = xs (fun j => xs (fun i => h i j) n) m
  | 0 => (xs_zero (fun _ _ => rfl)).symm
  | n + 1 => by
    show xs (fun i => xs (fun j => h i j) m) n ^^^ xs (fun j => h n j) m = xs (fun j => xs (fun i => h i j) n ^^^ h n j) m
    rw [xs_xor, xs_swap h m n]

/-! ### products -/
def mulM (n : Nat) (f g : Nat → Nat → Nat) : Nat → Nat → Nat := fun i k => xs (fun j => Gf.mul (f i j) (g j k)) n
theorem mulM_bt {f : Nat → Nat → Nat} (hf : Bt f) (n : Nat) (g : Nat → Nat → Nat) : Bt (mulM n f g) := fun _ _ => xs_lt (fun _ => Gf.mul_lt (hf _ _) _) n
theorem mulM_congr {n : Nat} {f f' g g' : Nat → Nat → Nat} {i k : Nat} (hf : ∀ j, j < n → f i j = f' i j) (hg : ∀ j, j < n → g j k = g' j k) : mulM n f g i k = mulM n f' g' i k :=
  xs_congr (fun j hj => by rw [hf j hj, hg j hj])
theorem mulM_assoc {f g h : Nat → Nat → Nat} (hf : Bt f) (hg : Bt g) (hh : Bt h) (m n i k : Nat) : mulM n (mulM m f g) h i k = mulM m f (mulM n g h) i k := by
  show xs (fun j => Gf.mul (xs (fun l => Gf.mul (f i l) (g l j)) m) (h j k)) n = xs (fun l => Gf.mul (f i l) (xs (fun j => Gf.mul (g l j) (h j k)) n)) m
  rw [show (fun j => Gf.mul (xs (fun l => Gf.mul (f i l) (g l j)) m) (h j k)) = (fun j => xs (fun l => Gf.mul (Gf.mul (f i l) (g l j)) (h j k)) m) from
    funext fun j => xs_mul_right (fun l => Gf.mul_lt (hf _ _) _) _ m]
  rw [show (fun l => Gf.mul (f i l) (xs (fun j => Gf.mul (g l j) (h j k)) n)) = (fun l => xs (fun j => Gf.mul (f i l) (Gf.mul (g l j) (h j k))) n) from
    funext fun l => xs_mul_left _ _ n]
  rw [xs_swap]
  exact xs_congr (fun l _ => xs_congr (fun j _ => Gf.mul_assoc _ _ _ (hf _ _) (hg _ _) (hh _ _)))
def oneF : Nat → Nat → Nat := fun i j => if i = j then 1 else 0
theorem oneF_bt : Bt oneF := fun i j => by unfold oneF; split <;> omega
theorem mulM_one_left {n i k : Nat} {g : Nat → Nat → Nat} (hg : Bt g) (hi : i < n) : mulM n oneF g i k = g i k := by
  show xs (fun j => Gf.mul (oneF i j) (g j k)) n = _
  rw [xs_single hi (fun j _ hne => by
    show Gf.mul (oneF i j) _ = 0
    rw [show oneF i j = 0 from if_neg (fun e => hne e.symm), Gf.zero_mul])]
  rw [show oneF i i = 1 from if_pos rfl, Gf.one_mul _ (hg _ _)]
theorem mulM_one_right {n i k : Nat} {f : Nat → Nat → Nat} (hf : Bt f) (hk : k < n) : mulM n f oneF i k = f i k := by
  show xs (fun j => Gf.mul (f i j) (oneF j k)) n = _
  rw [xs_single hk (fun j _ hne => by
    show Gf.mul _ (oneF j k) = 0
    rw [show oneF j k = 0 from if_neg hne, Gf.mul_zero])]
  rw [show oneF k k = 1 from if_pos rfl, Gf.mul_one _ (hf _ _)]

/-! ### rows made of rows -/
/-- f's rows below r are made of g's -/
def Made (r : Nat) (f g : Nat → Nat → Nat) : Prop := ∃ P, Bt P ∧ ∀ i k, i < r → f i k = mulM r P g i k
theorem Made.refl {r : Nat} {f : Nat → Nat → Nat} (hf : Bt f) : Made r f f := ⟨oneF, oneF_bt, fun _ _ hi => (mulM_one_left hf hi).symm⟩
theorem Made.trans {r : Nat} {f g h : Nat → Nat → Nat} (hh : Bt h) : Made r f g → Made r g h → Made r f h := fun ⟨P, hP, hp⟩ ⟨Q, hQ, hq⟩ => by
  refine ⟨mulM r P Q, mulM_bt hP r Q, fun i k hi => ?_⟩
  rw [hp i k hi, mulM_assoc hP hQ hh]
  exact mulM_congr (fun _ _ => rfl) (fun j hj => hq j k hj)
theorem mul0 (x : Nat) : Gf.mul 0 x = 0 := Gf.zero_mul x
theorem made_swap {r a b : Nat} {f : Nat → Nat → Nat} (hf : Bt f) (ha : a < r) (hb : b < r) : Made r (swapF f a b) f := by
  refine ⟨swapF oneF a b, oneF_bt.swap a b, fun i k hi => ?_⟩
  have key : ∀ q, q < r → (∀ j, swapF oneF a b i j = oneF q j) → mulM r (swapF oneF a b) f i k = f q k := fun q hq e => by
    rw [show mulM r (swapF oneF a b) f i k = mulM r oneF f q k from xs_congr (fun j _ => by rw [e j])]
    exact mulM_one_left hf hq
  by_cases h1 : i = a
  · subst h1
    rw [key b hb (fun j => by simp [swapF])]
    simp [swapF]
  · by_cases h2 : i = b
    · subst h2
      rw [key a ha (fun j => by simp [swapF, h1])]
      simp [swapF, h1]
    · rw [key i hi (fun j => by simp [swapF, h1, h2])]
      simp [swapF, h1, h2]
theorem made_scale {r a v : Nat} {f : Nat → Nat → Nat} (hf : Bt f) (hv : v < 256) : Made r (scaleF f a v) f := by
  refine ⟨fun i j => if i = j then (if i = a then v else 1) else 0, fun i j => ?_, fun i k hi => ?_⟩
  · show (if i = j then (if i = a then v else 1) else 0) < 256
    split
    · split <;> omega
    · omega
  · show _ = xs (fun j => Gf.mul (if i = j then (if i = a then v else 1) else 0) (f j k)) r
    rw [xs_single hi (fun j _ hne => by
      show Gf.mul (if i = j then _ else 0) _ = 0
      rw [if_neg (fun e => hne e.symm), Gf.zero_mul])]
    rw [if_pos rfl]
    unfold scaleF
    by_cases h : i = a
    · subst h
      rw [if_pos rfl, if_pos rfl, Gf.mul_comm _ _ (hf _ _) hv]
    · rw [if_neg h, if_neg h, Gf.one_mul _ (hf _ _)]
theorem made_add {r a b v : Nat} {f : Nat → Nat → Nat} (hf : Bt f) (hb : b < r) (hv : v < 256) : Made r (addF f a b v) f := by
  refine ⟨fun i j => oneF i j ^^^ (if i = a ∧ j = b then v else 0), fun i j => ?_, fun i k hi => ?_⟩
  · refine Gf.xor_lt (oneF_bt _ _) ?_
    split <;> omega
  · show _ = xs (fun j => Gf.mul (oneF i j ^^^ (if i = a ∧ j = b then v else 0)) (f j k)) r
    have e : (fun j => Gf.mul (oneF i j ^^^ (if i = a ∧ j = b then v else 0)) (f j k)) = (fun j => Gf.mul (oneF i j) (f j k) ^^^ Gf.mul (if i = a ∧ j = b then v else 0) (f j k)) := funext fun j =>
      Gf.mul_left (oneF_bt _ _) (by split <;> omega) _
    rw [e, xs_xor]
    rw [show xs (fun j => Gf.mul (oneF i j) (f j k)) r = f i k from mulM_one_left hf hi]
    unfold addF
    by_cases h : i = a
    · subst h
      rw [if_pos rfl, xs_single hb (fun j _ hne => by
        show Gf.mul (if i = i ∧ j = b then v else 0) _ = 0
        rw [if_neg (fun e => hne e.2), Gf.zero_mul])]
      rw [if_pos ⟨rfl, rfl⟩, Gf.mul_comm _ _ (hf _ _) hv]
    · rw [if_neg h, xs_zero (fun j _ => by
        show Gf.mul (if i = a ∧ j = b then v else 0) _ = 0
        rw [if_neg (fun e => h e.1), Gf.zero_mul]), Nat.xor_zero]
theorem swapF_twice (f : Nat → Nat → Nat) (a b : Nat) : swapF (swapF f a b) a b = f := by
  funext i j
  unfold swapF
  by_cases h1 : i = a
  · subst h1
    by_cases h2 : b = i
    · subst h2; simp
    · simp [h2]
  · by_cases h2 : i = b
    · subst h2; simp [h1]
    · simp [h1, h2]
theorem scaleF_back {f : Nat → Nat → Nat} (hf : Bt f) (a v : Nat) (h0 : 0 < v) (hv : v < 256) : scaleF (scaleF f a v) a (Gf.inv v) = f := by
  funext i j
  unfold scaleF
  by_cases h : i = a
  · subst h
    simp only [if_true]
    rw [Gf.mul_assoc _ _ _ (hf _ _) hv (Gf.inv_lt hv), Gf.mul_comm v _ hv (Gf.inv_lt hv), Gf.mul_inv v h0 hv, Gf.mul_one _ (hf _ _)]
  · simp [h]
theorem addF_twice (f : Nat → Nat → Nat) (a b v : Nat) (hne : a ≠ b) : addF (addF f a b v) a b v = f := by
  funext i j
  unfold addF
  by_cases h : i = a
  · subst h
    rw [if_pos rfl, if_pos rfl, if_neg (fun e => hne e.symm), Nat.xor_assoc, Nat.xor_self, Nat.xor_zero]
  · simp [h]
/-- each made of the other -/
def Alike2 (r : Nat) (f g : Nat → Nat → Nat) : Prop := Made r f g ∧ Made r g f
theorem Alike2.trans {r : Nat} {f g h : Nat → Nat → Nat} (hf : Bt f) (hh : Bt h) (x : Alike2 r f g) (y : Alike2 r g h) : Alike2 r f h := ⟨x.1.trans hh y.1, y.2.trans hf x.2⟩
theorem alike_elim {r top col : Nat} {f : Nat → Nat → Nat} (hf : Bt f) (ht : top < r) : ∀ n, n ≤ r → Alike2 r (elimTo f top col n) f
  | 0, _ => by rw [elimTo_zero]; exact ⟨Made.refl hf, Made.refl hf⟩
  | n + 1, h => by
    have ih := alike_elim hf ht (col := col) n (by omega)
    by_cases e : n = top
    · subst e
      rw [elimTo_top]; exact ih
    · rw [← elimTo_succ f top col n e]
      refine Alike2.trans ((hf.elim _ _ _).add _ _ _) hf ⟨made_add (hf.elim _ _ _) ht (hf _ _), ?_⟩ ih
      have h2 := made_add (r := r) (a := n) (b := top) (v := f n col) ((hf.elim top col n).add n top (f n col)) ht (hf _ _)
      rw [addF_twice _ _ _ _ e] at h2
      exact h2
theorem alike_sweep {r rank col a : Nat} {f : Nat → Nat → Nat} (hf : Bt f) (hr : rank < r) (ha : a < r) (h0 : f a col ≠ 0) : Alike2 r (sweepF r f rank col a) f := by
  have hv := Gf.inv_lt (hf a col)
  have hp := Gf.inv_pos (f a col) (by omega) (hf a col)
  refine Alike2.trans ((hf.top _ _ _).elim _ _ _) hf (alike_elim (hf.top _ _ _) hr r (Nat.le_refl r)) ?_
  refine Alike2.trans (hf.top _ _ _) hf ⟨made_scale (hf.swap _ _) hv, ?_⟩ ⟨made_swap hf hr ha, ?_⟩
  · have h := made_scale (r := r) (a := rank) (v := Gf.inv (Gf.inv (f a col))) (hf.top rank col a) (Gf.inv_lt hv)
    unfold topF at h
    rw [scaleF_back (hf.swap _ _) _ _ hp hv] at h
    exact h
  · have h := made_swap (r := r) (a := rank) (b := a) (hf.swap rank a) hr ha
    rw [swapF_twice] at h
    exact h
theorem alike_red (r : Nat) (f : Nat → Nat → Nat) (hf : Bt f) : ∀ n, Alike2 r (redTo r f n).2 f
  | 0 => ⟨Made.refl hf, Made.refl hf⟩
  | n + 1 => by
    have ih := alike_red r f hf n
    cases h : pv (redTo r f n).2 n (redTo r f n).1 (r - (redTo r f n).1) with
    | none => rw [redTo_none r f n h]; exact ih
    | some a =>
      obtain ⟨g1, g2, g3, _⟩ := pv_some h
      rw [redTo_some r f n a h]
      exact Alike2.trans ((redTo_bt r f hf n).sweep _ _ _ _) hf (alike_sweep (redTo_bt r f hf n) (by omega) (by omega) g3) ih

/-! ### the form at the end -/
theorem topF_at {f : Nat → Nat → Nat} {rank col a : Nat} (hf : Bt f) (h0 : f a col ≠ 0) : topF f rank col a rank col = 1 := by
  unfold topF scaleF swapF
  rw [if_pos rfl, if_pos rfl, Gf.mul_comm _ _ (hf _ _) (Gf.inv_lt (hf _ _)), Gf.mul_inv _ (by omega) (hf _ _)]
/-- the column swept -/
theorem sweep_col {r rank col a i : Nat} {f : Nat → Nat → Nat} (hf : Bt f) (h0 : f a col ≠ 0) (hi : i < r) : sweepF r f rank col a i col = if i = rank then 1 else 0 := by
  unfold sweepF elimTo
  by_cases h : i = rank
  · subst h
    simp [topF_at hf h0]
  · rw [if_pos ⟨hi, h⟩, if_neg h, topF_at hf h0, Gf.one_mul _ (hf.top _ _ _ _ _), Nat.xor_self]
/-- a column that is 0 in both rows stays -/
theorem sweep_other {r rank col a i j : Nat} {f : Nat → Nat → Nat} (h1 : f rank j = 0) (h2 : f a j = 0) : sweepF r f rank col a i j = f i j := by
  have ht : ∀ i, topF f rank col a i j = f i j := fun i => by
    unfold topF scaleF swapF
    by_cases e : i = rank
    · subst e; simp [h1, h2, Gf.zero_mul]
    · by_cases e2 : i = a
      · subst e2; simp [e, h1, h2]
      · simp [e, e2]
  unfold sweepF elimTo
  by_cases h : i < r ∧ i ≠ rank
  · rw [if_pos h, ht, ht, h1, Gf.zero_mul, Nat.xor_zero]
  · rw [if_neg h, ht]
theorem red_low (r : Nat) (f : Nat → Nat → Nat) (hf : Bt f) : ∀ n i j, (redTo r f n).1 ≤ i → i < r → j < n → (redTo r f n).2 i j = 0
  | 0, _, _, _, _, h => by omega
  | n + 1, i, j, h1, h2, h3 => by
    have ih := red_low r f hf n
    have hb := redTo_bt r f hf n
    cases h : pv (redTo r f n).2 n (redTo r f n).1 (r - (redTo r f n).1) with
    | none =>
      rw [redTo_none r f n h] at h1 ⊢
      by_cases e : j = n
      · rw [e]; exact pv_none h i h1 (by omega)
      · exact ih i j h1 h2 (by omega)
    | some a =>
      obtain ⟨g1, g2, g3, _⟩ := pv_some h
      rw [redTo_some r f n a h] at h1 ⊢
      have h1' : (redTo r f n).1 + 1 ≤ i := h1
      show sweepF r (redTo r f n).2 (redTo r f n).1 n a i j = 0
      by_cases e : j = n
      · rw [e, sweep_col hb g3 h2, if_neg (by omega)]
      · rw [sweep_other (ih _ j (Nat.le_refl _) (by omega) (by omega)) (ih a j g1 (by omega) (by omega))]
        exact ih i j (by omega) h2 (by omega)
/-- columns of One, one for each row up to the rank -/
theorem red_cols (r : Nat) (f : Nat → Nat → Nat) (hf : Bt f) : ∀ n, ∃ p : Nat → Nat, ∀ t, t < (redTo r f n).1 → p t < n ∧ ∀ i, i < r → (redTo r f n).2 i (p t) = oneF i t
  | 0 => ⟨fun _ => 0, fun t h => by exact absurd h (Nat.not_lt_zero t)⟩
  | n + 1 => by
    obtain ⟨p, hp⟩ := red_cols r f hf n
    have hb := redTo_bt r f hf n
    have hl := (redTo_le r f n).1
    cases h : pv (redTo r f n).2 n (redTo r f n).1 (r - (redTo r f n).1) with
    | none =>
      rw [redTo_none r f n h]
      exact ⟨p, fun t ht => ⟨by have := (hp t ht).1; omega, (hp t ht).2⟩⟩
    | some a =>
      obtain ⟨g1, g2, g3, _⟩ := pv_some h
      rw [redTo_some r f n a h]
      refine ⟨fun t => if t = (redTo r f n).1 then n else p t, fun t ht => ?_⟩
      have ht' : t < (redTo r f n).1 + 1 := ht
      show (if t = (redTo r f n).1 then n else p t) < n + 1 ∧ ∀ i, i < r → sweepF r (redTo r f n).2 (redTo r f n).1 n a i (if t = (redTo r f n).1 then n else p t) = oneF i t
      by_cases e : t = (redTo r f n).1
      · rw [if_pos e]
        refine ⟨by omega, fun i hi => ?_⟩
        rw [sweep_col hb g3 hi, e]; rfl
      · rw [if_neg e]
        have hpt := hp t (by omega)
        refine ⟨by have := hpt.1; omega, fun i hi => ?_⟩
        rw [sweep_other, hpt.2 i hi]
        · rw [hpt.2 _ (by omega)]; exact if_neg (fun h => e h.symm)
        · rw [hpt.2 _ (by omega)]; exact if_neg (by omega)
/-- the rank goes up by at most one a column -/
theorem red_steps (r : Nat) (f : Nat → Nat → Nat) (n : Nat) : ∀ k, (redTo r f (n + k)).1 ≤ (redTo r f n).1 + k
  | 0 => Nat.le_refl _
  | k + 1 => by
    have ih := red_steps r f n k
    rw [← Nat.add_assoc]
    cases h : pv (redTo r f (n + k)).2 (n + k) (redTo r f (n + k)).1 (r - (redTo r f (n + k)).1) with
    | none => rw [redTo_none r f (n + k) h]; omega
    | some a => rw [redTo_some r f (n + k) a h]; show (redTo r f (n + k)).1 + 1 ≤ _; omega
/-- of full rank the columns are those of One -/
theorem red_full (r : Nat) (f : Nat → Nat → Nat) (hf : Bt f) (n : Nat) (hn : (redTo r f n).1 = n) : ∀ m, m ≤ n → ∀ i j, i < r → j < m → (redTo r f m).2 i j = oneF i j
  | 0, _, _, _, _, h => by omega
  | m + 1, hm, i, j, hi, hj => by
    have ih := red_full r f hf n hn m (by omega)
    have hb := redTo_bt r f hf m
    have h1 := (redTo_le r f m).2
    have h2 := red_steps r f m (n - m)
    rw [show m + (n - m) = n by omega, hn] at h2
    have h3 := red_steps r f (m + 1) (n - (m + 1))
    rw [show m + 1 + (n - (m + 1)) = n by omega, hn] at h3
    have hrm : (redTo r f m).1 = m := by omega
    cases h : pv (redTo r f m).2 m (redTo r f m).1 (r - (redTo r f m).1) with
    | none => rw [redTo_none r f m h] at h3; omega
    | some a =>
      obtain ⟨g1, g2, g3, _⟩ := pv_some h
      rw [redTo_some r f m a h]
      show sweepF r (redTo r f m).2 (redTo r f m).1 m a i j = _
      by_cases e : j = m
      · rw [e, sweep_col hb g3 hi, hrm]; rfl
      · rw [sweep_other, ih i j hi (by omega)]
        · rw [ih _ j (by omega) (by omega)]; exact if_neg (by omega)
        · rw [ih _ j (by omega) (by omega)]; exact if_neg (by omega)

/-! ### too few rows -/
/-- of more rows than columns some sum of multiples, not all 0, is 0 -/
theorem depends : ∀ (k n : Nat) (A : Nat → Nat → Nat), Bt A → k < n → ∃ v : Nat → Nat, (∀ i, v i < 256) ∧ (∃ i, i < n ∧ v i ≠ 0) ∧ ∀ j, j < k → xs (fun i => Gf.mul (v i) (A i j)) n = 0
  | 0, n, _, _, h => ⟨fun _ => 1, fun _ => by show 1 < 256; omega, ⟨0, h, by show 1 ≠ 0; omega⟩, fun j hj => by omega⟩
  | k + 1, n, A, hA, h => by
    by_cases hz : ∃ p, p < n ∧ A p k ≠ 0
    · obtain ⟨p, hp, h0⟩ := hz
      -- the row p, taken off all others
      obtain ⟨m, rfl⟩ : ∃ m, n = m + 1 := ⟨n - 1, by omega⟩
      let sk : Nat → Nat := fun i => if i < p then i else i + 1
      have hsk : ∀ i, sk i ≠ p := fun i => by show (if i < p then i else i + 1) ≠ p; split <;> omega
      let q : Nat → Nat := fun i => Gf.mul (A i k) (Gf.inv (A p k))
      have hq : ∀ i, q i < 256 := fun i => Gf.mul_lt (hA _ _) _
      have hqk : ∀ i, Gf.mul (q i) (A p k) = A i k := fun i => Gf.div_mul _ _ (hA _ _) (by omega) (hA _ _)
      obtain ⟨v, hv, ⟨i0, hi0, hvi⟩, hs⟩ := depends k m (fun i j => A (sk i) j ^^^ Gf.mul (q (sk i)) (A p j)) (fun i j => Gf.xor_lt (hA _ _) (Gf.mul_lt (hq _) _)) (by omega)
      -- sums over all rows but p
      have split : ∀ g : Nat → Nat, xs g (m + 1) = xs (fun i => g (sk i)) m ^^^ g p := by
        intro g
        have gen : ∀ l, p ≤ l → xs g (l + 1) = xs (fun i => g (sk i)) l ^^^ g p := by
          intro l
          induction l with
          | zero =>
            intro hl
            obtain rfl : p = 0 := by omega
            rfl
          | succ l ih =>
            intro hl
            by_cases e : p = l + 1
            · show xs g (l + 1) ^^^ g (l + 1) = _
              rw [e]
              congr 1
              refine xs_congr (fun i hi => ?_)
              show g i = g (if i < p then i else i + 1)
              rw [if_pos (by omega)]
            · show xs g (l + 1) ^^^ g (l + 1) = (xs (fun i => g (sk i)) l ^^^ g (sk l)) ^^^ g p
              rw [ih (by omega), show sk l = l + 1 from if_neg (by omega)]
              rw [Nat.xor_assoc, Nat.xor_comm (g p), ← Nat.xor_assoc]
        exact gen m (by omega)
      let back : Nat → Nat := fun i => if i < p then i else i - 1
      have hback : ∀ i, back (sk i) = i := fun i => by
        show (if (if i < p then i else i + 1) < p then (if i < p then i else i + 1) else (if i < p then i else i + 1) - 1) = i
        by_cases e : i < p
        · rw [if_pos e, if_pos e]
        · rw [if_neg e, if_neg (by omega)]; omega
      let S : Nat := xs (fun i => Gf.mul (v i) (q (sk i))) m
      have hS : S < 256 := xs_lt (fun i => Gf.mul_lt (hv i) _) m
      let u : Nat → Nat := fun i => if i = p then S else v (back i)
      have hus : ∀ i, u (sk i) = v i := fun i => by show (if sk i = p then S else v (back (sk i))) = v i; rw [if_neg (hsk i), hback]
      have hup : u p = S := if_pos rfl
      refine ⟨u, fun i => ?_, ⟨sk i0, ?_, by rw [hus]; exact hvi⟩, fun j hj => ?_⟩
      · show (if i = p then S else v (back i)) < 256
        split
        · exact hS
        · exact hv _
      · show (if i0 < p then i0 else i0 + 1) < m + 1
        split <;> omega
      · rw [split, hup]
        have e1 : xs (fun i => Gf.mul (u (sk i)) (A (sk i) j)) m = xs (fun i => Gf.mul (v i) (A (sk i) j)) m := xs_congr (fun i _ => by rw [hus])
        have e2 : Gf.mul S (A p j) = xs (fun i => Gf.mul (v i) (Gf.mul (q (sk i)) (A p j))) m := by
          show Gf.mul (xs (fun i => Gf.mul (v i) (q (sk i))) m) (A p j) = _
          rw [xs_mul_right (fun i => Gf.mul_lt (hv i) _)]
          exact xs_congr (fun i _ => Gf.mul_assoc _ _ _ (hv _) (hq _) (hA _ _))
        show xs (fun i => Gf.mul (u (sk i)) (A (sk i) j)) m ^^^ Gf.mul S (A p j) = 0
        rw [e1, e2, ← xs_xor]
        by_cases e : j = k
        · subst e
          refine xs_zero (fun i _ => ?_)
          rw [hqk, Nat.xor_self]
        · rw [← hs j (by omega)]
          exact xs_congr (fun i _ => (Gf.mul_right _ _ _).symm)
    · obtain ⟨v, hv, hi, hs⟩ := depends k n A hA (by omega)
      refine ⟨v, hv, hi, fun j hj => ?_⟩
      by_cases e : j = k
      · refine xs_zero (fun i hin => ?_)
        have : A i j = 0 := by
          rw [e]
          exact Classical.byContradiction fun hne => hz ⟨i, hin, hne⟩
        rw [this, Gf.mul_zero]
      · exact hs j (by omega)
/-- One is no product through fewer -/
theorem one_through {n k : Nat} {A B : Nat → Nat → Nat} (hA : Bt A) (hB : Bt B) (h : ∀ i j, i < n → j < n → mulM k A B i j = oneF i j) : n ≤ k := by
  apply Nat.le_of_not_lt
  intro hk
  obtain ⟨v, hv, ⟨i0, hi0, h0⟩, hs⟩ := depends k n A hA hk
  apply h0
  have hvB : Bt (fun _ j => v j) := fun _ j => hv j
  have e1 : mulM n (fun _ j => v j) (mulM k A B) 0 i0 = v i0 := by
    rw [show mulM n (fun _ j => v j) (mulM k A B) 0 i0 = mulM n (fun _ j => v j) oneF 0 i0 from mulM_congr (fun _ _ => rfl) (fun j hj => h j i0 hj hi0)]
    exact mulM_one_right hvB hi0
  rw [← e1, ← mulM_assoc hvB hA hB]
  refine xs_zero (fun j hj => ?_)
  show Gf.mul (xs (fun i => Gf.mul (v i) (A i j)) n) _ = 0
  rw [hs j hj, Gf.zero_mul]
end Go.Proofs.Ytlpjpeonejbpjaa
