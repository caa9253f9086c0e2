/- Inverses and ranks: what a matrix beside One becomes when it is swept (no conditions). -/
import Derived.Test.YtlpjpeonejbpjaaMatM
namespace Go.Proofs.Ytlpjpeonejbpjaa

/-- two matrices side by side, the first of n columns -/
def beside (n : Nat) (f g : Nat → Nat → Nat) : Nat → Nat → Nat := fun i j => if j < n then f i j else g i (j - n)
theorem beside_left {n i j : Nat} (f g : Nat → Nat → Nat) (h : j < n) : beside n f g i j = f i j := if_pos h
theorem beside_right (n i j : Nat) (f g : Nat → Nat → Nat) : beside n f g i (n + j) = g i j := by
  unfold beside; rw [if_neg (by omega), Nat.add_sub_cancel_left]
theorem beside_bt {f g : Nat → Nat → Nat} (hf : Bt f) (hg : Bt g) (n : Nat) : Bt (beside n f g) := fun i j => by
  unfold beside; split
  · exact hf _ _
  · exact hg _ _
def rankF (r c : Nat) (f : Nat → Nat → Nat) : Nat := (redTo r (beside c f oneF) c).1
def invF (n : Nat) (f : Nat → Nat → Nat) : Nat → Nat → Nat := fun i j => (redTo n (beside n f oneF) n).2 i (n + j)
theorem rankF_le (r c : Nat) (f : Nat → Nat → Nat) : rankF r c f ≤ r ∧ rankF r c f ≤ c := redTo_le r _ c
theorem invF_bt {f : Nat → Nat → Nat} (hf : Bt f) (n : Nat) : Bt (invF n f) := fun i j => redTo_bt n _ (beside_bt hf oneF_bt n) n i (n + j)
theorem inv_left {n : Nat} {f : Nat → Nat → Nat} (hf : Bt f) (hr : rankF n n f = n) {i k : Nat} (hi : i < n) (hk : k < n) : mulM n (invF n f) f i k = oneF i k := by
  have hF := beside_bt hf oneF_bt n
  obtain ⟨P, hP, hp⟩ := (alike_red n _ hF n).1
  have hl := red_full n _ hF n hr n (Nat.le_refl n)
  have h1 : ∀ j, j < n → invF n f i j = P i j := fun j hj => by
    show (redTo n (beside n f oneF) n).2 i (n + j) = _
    rw [hp i (n + j) hi, show mulM n P (beside n f oneF) i (n + j) = mulM n P oneF i j from xs_congr (fun q _ => by rw [beside_right])]
    exact mulM_one_right hP hj
  rw [mulM_congr (f' := P) (g' := f) h1 (fun _ _ => rfl)]
  rw [← hl i k hi hk, hp i k hi]
  exact xs_congr (fun q _ => by rw [beside_left f oneF hk])
theorem inv_right {n : Nat} {f : Nat → Nat → Nat} (hf : Bt f) (hr : rankF n n f = n) {i k : Nat} (hi : i < n) : mulM n f (invF n f) i k = oneF i k := by
  have hF := beside_bt hf oneF_bt n
  obtain ⟨Q, hQ, hq⟩ := (alike_red n _ hF n).2
  have hl := red_full n _ hF n hr n (Nat.le_refl n)
  have h1 : ∀ j, j < n → f i j = Q i j := fun j hj => by
    have h := hq i j hi
    rw [beside_left f oneF hj] at h
    rw [h, mulM_congr (f' := Q) (g' := oneF) (fun _ _ => rfl) (fun q hq' => hl q j hq' hj)]
    exact mulM_one_right hQ hj
  rw [mulM_congr (f' := Q) (g' := invF n f) h1 (fun _ _ => rfl)]
  have h := hq i (n + k) hi
  rw [beside_right] at h
  exact h.symm
theorem xs_less {g : Nat → Nat} {m : Nat} : ∀ k, (∀ j, m ≤ j → j < m + k → g j = 0) → xs g (m + k) = xs g m
  | 0, _ => rfl
  | k + 1, h => by
    show xs g (m + k) ^^^ g (m + k) = _
    rw [h (m + k) (by omega) (by omega), Nat.xor_zero]
    exact xs_less k (fun j h1 h2 => h j h1 (by omega))
theorem rank_of_inv {n : Nat} {f g : Nat → Nat → Nat} (hf : Bt f) (hg : Bt g) (h : ∀ i k, i < n → k < n → mulM n f g i k = oneF i k) : rankF n n f = n := by
  have hF := beside_bt hf oneF_bt n
  have hle := (rankF_le n n f).1
  obtain ⟨Q, hQ, hq⟩ := (alike_red n _ hF n).2
  have hB := redTo_bt n _ hF n
  have hz := red_low n _ hF n
  refine Nat.le_antisymm hle ?_
  refine one_through (A := Q) (B := mulM n (redTo n (beside n f oneF) n).2 g) hQ (mulM_bt hB n g) (fun i k hi hk => ?_)
  have e1 : mulM n (mulM n Q (redTo n (beside n f oneF) n).2) g i k = oneF i k := by
    rw [← h i k hi hk]
    refine mulM_congr (fun j hj => ?_) (fun _ _ => rfl)
    rw [← hq i j hi, beside_left f oneF hj]
  rw [mulM_assoc hQ hB hg] at e1
  rw [← e1]
  show xs _ (rankF n n f) = xs _ n
  have e2 := xs_less (g := fun j => Gf.mul (Q i j) (mulM n (redTo n (beside n f oneF) n).2 g j k)) (m := rankF n n f) (n - rankF n n f) (fun j h1 h2 => by
    have : mulM n (redTo n (beside n f oneF) n).2 g j k = 0 := xs_zero (fun q hq' => by
      show Gf.mul _ _ = 0
      rw [hz j q h1 (by omega) hq', Gf.zero_mul])
    show Gf.mul _ _ = 0
    rw [this, Gf.mul_zero])
  rw [show rankF n n f + (n - rankF n n f) = n by omega] at e2
  exact e2.symm
theorem inv_rank {n : Nat} {f : Nat → Nat → Nat} (hf : Bt f) (hr : rankF n n f = n) : rankF n n (invF n f) = n :=
  rank_of_inv (invF_bt hf n) hf (fun _ _ hi hk => inv_left hf hr hi hk)
theorem inv_back {n : Nat} {f : Nat → Nat → Nat} (hf : Bt f) (hr : rankF n n f = n) {i k : Nat} (hi : i < n) (hk : k < n) : invF n (invF n f) i k = f i k := by
  have hG := invF_bt hf n
  have hG' := invF_bt hG n
  have e1 : mulM n (mulM n (invF n (invF n f)) (invF n f)) f i k = f i k := by
    rw [mulM_congr (f' := oneF) (g' := f) (fun j hj => inv_left hG (inv_rank hf hr) hi hj) (fun _ _ => rfl)]
    exact mulM_one_left hf hi
  rw [mulM_assoc hG' hG hf] at e1
  rw [← e1, mulM_congr (f' := invF n (invF n f)) (g' := oneF) (fun _ _ => rfl) (fun j hj => inv_left hf hr hj hk)]
  exact (mulM_one_right hG' hk).symm
/-- of a product the rank is no more than the numbers between -/
theorem rank_product {r c m : Nat} {a b F : Nat → Nat → Nat} (ha : Bt a) (hb : Bt b) (hF : Bt F) (h : ∀ i k, i < r → k < c → F i k = mulM m a b i k) : (redTo r F c).1 ≤ m := by
  obtain ⟨P, hP, hp⟩ := (alike_red r F hF c).1
  obtain ⟨p, hcol⟩ := red_cols r F hF c
  have hle := (redTo_le r F c).1
  refine one_through (A := mulM r P a) (B := fun j t => b j (p t)) (mulM_bt hP r a) (fun j t => hb _ _) (fun i t hi ht => ?_)
  obtain ⟨h1, h2⟩ := hcol t ht
  rw [← h2 i (by omega), hp i (p t) (by omega)]
  rw [mulM_congr (f' := P) (g' := mulM m a b) (fun _ _ => rfl) (fun j hj => h j (p t) hj h1)]
  rw [← mulM_assoc hP ha hb]
  rfl
end Go.Proofs.Ytlpjpeonejbpjaa
