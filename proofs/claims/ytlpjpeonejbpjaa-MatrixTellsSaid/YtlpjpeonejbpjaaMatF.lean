/- Matrices of the field's numbers as functions of row and column: rows changed, scaled, added; a column swept; all columns swept (no conditions). -/
import Derived.Test.YtlpjpeonejbpjaaGf
namespace Go.Proofs.Ytlpjpeonejbpjaa

/-! ### rows -/
def swapF (f : Nat → Nat → Nat) (a b : Nat) : Nat → Nat → Nat := fun i j => if i = a then f b j else if i = b then f a j else f i j
def scaleF (f : Nat → Nat → Nat) (a v : Nat) : Nat → Nat → Nat := fun i j => if i = a then Gf.mul (f a j) v else f i j
def addF (f : Nat → Nat → Nat) (a b v : Nat) : Nat → Nat → Nat := fun i j => if i = a then f a j ^^^ Gf.mul (f b j) v else f i j
def elimTo (f : Nat → Nat → Nat) (top col n : Nat) : Nat → Nat → Nat := fun i j => if i < n ∧ i ≠ top then f i j ^^^ Gf.mul (f top j) (f i col) else f i j
def upd (f : Nat → Nat → Nat) (a b v : Nat) : Nat → Nat → Nat := fun i j => if i = a ∧ j = b then v else f i j
theorem swapF_comm (f : Nat → Nat → Nat) (a b : Nat) : swapF f a b = swapF f b a := by
  funext i j
  unfold swapF
  by_cases h1 : i = a <;> by_cases h2 : i = b
  · subst h1; subst h2; simp
  · subst h1; simp [h2]
  · subst h2; simp [h1]
  · simp [h1, h2]
theorem swapF_same (f : Nat → Nat → Nat) (a : Nat) : swapF f a a = f := by
  funext i j
  unfold swapF
  by_cases h1 : i = a
  · subst h1; simp
  · simp [h1]
theorem elimTo_zero (f : Nat → Nat → Nat) (top col : Nat) : elimTo f top col 0 = f := by
  funext i j; simp [elimTo]
theorem elimTo_top (f : Nat → Nat → Nat) (top col : Nat) : elimTo f top col (top + 1) = elimTo f top col top := by
  funext i j
  unfold elimTo
  by_cases h : i = top
  · simp [h]
  · have : (i < top + 1 ∧ i ≠ top) ↔ (i < top ∧ i ≠ top) := by omega
    simp only [this]
theorem elimTo_succ (f : Nat → Nat → Nat) (top col n : Nat) (hn : n ≠ top) : addF (elimTo f top col n) n top (f n col) = elimTo f top col (n + 1) := by
  funext i j
  unfold addF elimTo
  by_cases h : i = n
  · subst h
    simp [hn]
  · have : (i < n + 1 ∧ i ≠ top) ↔ (i < n ∧ i ≠ top) := by omega
    simp only [this, h, if_false]
theorem elimTo_at (f : Nat → Nat → Nat) (top col n j : Nat) : elimTo f top col n n j = f n j := by simp [elimTo]
theorem elimTo_of_top (f : Nat → Nat → Nat) (top col n j : Nat) : elimTo f top col n top j = f top j := by simp [elimTo]
theorem elimTo_skip (f : Nat → Nat → Nat) (top col n : Nat) (h0 : f n col = 0) : elimTo f top col (n + 1) = elimTo f top col n := by
  funext i j
  unfold elimTo
  by_cases h : i = n
  · subst h
    simp [h0, Gf.mul_zero]
  · have : (i < n + 1 ∧ i ≠ top) ↔ (i < n ∧ i ≠ top) := by omega
    simp only [this]

/-! ### all are bytes -/
def Bt (f : Nat → Nat → Nat) : Prop := ∀ i j, f i j < 256
theorem Bt.swap {f : Nat → Nat → Nat} (h : Bt f) (a b : Nat) : Bt (swapF f a b) := fun i j => by
  unfold swapF; split
  · exact h _ _
  · split <;> exact h _ _
theorem Bt.scale {f : Nat → Nat → Nat} (h : Bt f) (a v : Nat) : Bt (scaleF f a v) := fun i j => by
  unfold scaleF; split
  · exact Gf.mul_lt (h _ _) _
  · exact h _ _
theorem Bt.add {f : Nat → Nat → Nat} (h : Bt f) (a b v : Nat) : Bt (addF f a b v) := fun i j => by
  unfold addF; split
  · exact Gf.xor_lt (h _ _) (Gf.mul_lt (h _ _) _)
  · exact h _ _
theorem Bt.elim {f : Nat → Nat → Nat} (h : Bt f) (top col n : Nat) : Bt (elimTo f top col n) := fun i j => by
  unfold elimTo; split
  · exact Gf.xor_lt (h _ _) (Gf.mul_lt (h _ _) _)
  · exact h _ _

/-! ### a column -/
/-- the first row from n on, of k rows, that has no 0 in the column -/
def pv (f : Nat → Nat → Nat) (col : Nat) : Nat → Nat → Option Nat
  | _, 0 => none
  | n, k + 1 => if f n col = 0 then pv f col (n + 1) k else some n
theorem pv_some {f : Nat → Nat → Nat} {col : Nat} : ∀ {k n a : Nat}, pv f col n k = some a → n ≤ a ∧ a < n + k ∧ f a col ≠ 0 ∧ ∀ i, n ≤ i → i < a → f i col = 0
  | 0, _, _, h => by cases h
  | k + 1, n, a, h => by
    unfold pv at h
    by_cases h0 : f n col = 0
    · rw [if_pos h0] at h
      obtain ⟨h1, h2, h3, h4⟩ := pv_some h
      refine ⟨by omega, by omega, h3, fun i hi hia => ?_⟩
      by_cases e : i = n
      · rw [e]; exact h0
      · exact h4 i (by omega) hia
    · rw [if_neg h0] at h
      cases h
      exact ⟨Nat.le_refl _, by omega, h0, fun i h1 h2 => by omega⟩
theorem pv_none {f : Nat → Nat → Nat} {col : Nat} : ∀ {k n : Nat}, pv f col n k = none → ∀ i, n ≤ i → i < n + k → f i col = 0
  | 0, _, _, i, h1, h2 => by omega
  | k + 1, n, h, i, h1, h2 => by
    unfold pv at h
    by_cases h0 : f n col = 0
    · rw [if_pos h0] at h
      by_cases e : i = n
      · rw [e]; exact h0
      · exact pv_none h i (by omega) (by omega)
    · rw [if_neg h0] at h
      cases h
theorem pv_first {f : Nat → Nat → Nat} {col n a k : Nat} (h1 : n ≤ a) (h2 : a < n + k) (h3 : f a col ≠ 0) (h4 : ∀ i, n ≤ i → i < a → f i col = 0) : pv f col n k = some a := by
  cases h : pv f col n k with
  | none => exact absurd (pv_none h a h1 h2) h3
  | some b =>
    obtain ⟨g1, g2, g3, g4⟩ := pv_some h
    rcases Nat.lt_trichotomy a b with e | e | e
    · exact absurd (g4 a h1 e) h3
    · rw [e]
    · exact absurd (h4 b g1 e) g3
theorem pv_zeros {f : Nat → Nat → Nat} {col n k : Nat} (h : ∀ i, n ≤ i → i < n + k → f i col = 0) : pv f col n k = none := by
  cases e : pv f col n k with
  | none => rfl
  | some b =>
    obtain ⟨g1, g2, g3, _⟩ := pv_some e
    exact absurd (h b g1 g2) g3

/-- a row to the top, scaled to 1 in the column, and the column's other numbers made 0 -/
def topF (f : Nat → Nat → Nat) (rank col a : Nat) : Nat → Nat → Nat := scaleF (swapF f rank a) rank (Gf.inv (f a col))
def sweepF (r : Nat) (f : Nat → Nat → Nat) (rank col a : Nat) : Nat → Nat → Nat := elimTo (topF f rank col a) rank col r
def colStep (r : Nat) (s : Nat × (Nat → Nat → Nat)) (col : Nat) : Nat × (Nat → Nat → Nat) :=
  match pv s.2 col s.1 (r - s.1) with
  | none => s
  | some a => (s.1 + 1, sweepF r s.2 s.1 col a)
theorem colStep_none {r rank col : Nat} {f : Nat → Nat → Nat} (h : pv f col rank (r - rank) = none) : colStep r (rank, f) col = (rank, f) := by
  unfold colStep; simp only [h]
theorem colStep_some {r rank col a : Nat} {f : Nat → Nat → Nat} (h : pv f col rank (r - rank) = some a) : colStep r (rank, f) col = (rank + 1, sweepF r f rank col a) := by
  unfold colStep; simp only [h]
def redTo (r : Nat) (f : Nat → Nat → Nat) : Nat → Nat × (Nat → Nat → Nat)
  | 0 => (0, f)
  | n + 1 => colStep r (redTo r f n) n
theorem Bt.top {f : Nat → Nat → Nat} (h : Bt f) (rank col a : Nat) : Bt (topF f rank col a) := (h.swap _ _).scale _ _
theorem Bt.sweep {f : Nat → Nat → Nat} (h : Bt f) (r rank col a : Nat) : Bt (sweepF r f rank col a) := (h.top _ _ _).elim _ _ _
theorem redTo_le (r : Nat) (f : Nat → Nat → Nat) : ∀ n, (redTo r f n).1 ≤ r ∧ (redTo r f n).1 ≤ n
  | 0 => ⟨Nat.zero_le _, Nat.zero_le _⟩
  | n + 1 => by
    obtain ⟨h1, h2⟩ := redTo_le r f n
    show (colStep r (redTo r f n) n).1 ≤ r ∧ (colStep r (redTo r f n) n).1 ≤ n + 1
    cases h : pv (redTo r f n).2 n (redTo r f n).1 (r - (redTo r f n).1) with
    | none => rw [show redTo r f n = ((redTo r f n).1, (redTo r f n).2) from rfl, colStep_none h]; exact ⟨h1, by omega⟩
    | some a =>
      obtain ⟨g1, g2, _, _⟩ := pv_some h
      rw [show redTo r f n = ((redTo r f n).1, (redTo r f n).2) from rfl, colStep_some h]
      exact ⟨by show (redTo r f n).1 + 1 ≤ r; omega, by show (redTo r f n).1 + 1 ≤ n + 1; omega⟩
theorem redTo_bt (r : Nat) (f : Nat → Nat → Nat) (hf : Bt f) : ∀ n, Bt (redTo r f n).2
  | 0 => hf
  | n + 1 => by
    have h1 := redTo_bt r f hf n
    show Bt (colStep r (redTo r f n) n).2
    cases h : pv (redTo r f n).2 n (redTo r f n).1 (r - (redTo r f n).1) with
    | none => rw [show redTo r f n = ((redTo r f n).1, (redTo r f n).2) from rfl, colStep_none h]; exact h1
    | some a =>
      rw [show redTo r f n = ((redTo r f n).1, (redTo r f n).2) from rfl, colStep_some h]
      exact h1.sweep _ _ _ _
theorem redTo_none (r : Nat) (f : Nat → Nat → Nat) (n : Nat) (h : pv (redTo r f n).2 n (redTo r f n).1 (r - (redTo r f n).1) = none) : redTo r f (n + 1) = redTo r f n := by
  show colStep r (redTo r f n) n = _
  rw [show redTo r f n = ((redTo r f n).1, (redTo r f n).2) from rfl, colStep_none h]
theorem redTo_some (r : Nat) (f : Nat → Nat → Nat) (n a : Nat) (h : pv (redTo r f n).2 n (redTo r f n).1 (r - (redTo r f n).1) = some a) : redTo r f (n + 1) = ((redTo r f n).1 + 1, sweepF r (redTo r f n).2 (redTo r f n).1 n a) := by
  show colStep r (redTo r f n) n = _
  rw [show redTo r f n = ((redTo r f n).1, (redTo r f n).2) from rfl, colStep_some h]
/-- with as many as there are rows nothing is left to do -/
theorem redTo_full (r : Nat) (f : Nat → Nat → Nat) (n : Nat) (h : (redTo r f n).1 = r) : ∀ k, redTo r f (n + k) = redTo r f n
  | 0 => rfl
  | k + 1 => by
    have e := redTo_full r f n h k
    rw [← Nat.add_assoc, redTo_none, e]
    rw [e, h, Nat.sub_self]
    rfl

/-! ### one number at a time -/
theorem idx_inj {c i j i' j' : Nat} (hj : j < c) (hj' : j' < c) (h : i * c + j = i' * c + j') : i = i' ∧ j = j' := by
  have h1 : (i * c + j) / c = i := by rw [Nat.mul_comm, Nat.mul_add_div (by omega), Nat.div_eq_of_lt hj]; omega
  have h2 : (i' * c + j') / c = i' := by rw [Nat.mul_comm, Nat.mul_add_div (by omega), Nat.div_eq_of_lt hj']; omega
  rw [h] at h1
  have e : i = i' := by rw [← h1, h2]
  subst e
  exact ⟨rfl, by omega⟩
theorem idx_lt {r c i j : Nat} (hi : i < r) (hj : j < c) : i * c + j < r * c := by
  have h := Nat.mul_le_mul_right c (Nat.succ_le_of_lt hi)
  rw [Nat.succ_mul] at h
  omega
/-- a row changed as far as column k -/
def rowTo (f g : Nat → Nat → Nat) (a k : Nat) : Nat → Nat → Nat := fun i j => if i = a ∧ j < k then g i j else f i j
theorem rowTo_zero (f g : Nat → Nat → Nat) (a : Nat) : rowTo f g a 0 = f := by funext i j; simp [rowTo]
theorem rowTo_succ (f g : Nat → Nat → Nat) (a k : Nat) : upd (rowTo f g a k) a k (g a k) = rowTo f g a (k + 1) := by
  funext i j
  unfold upd rowTo
  by_cases h : i = a
  · subst h
    by_cases e : j = k
    · subst e; simp
    · have : j < k + 1 ↔ j < k := by omega
      simp [e, this]
  · simp [h]
theorem rowTo_at (f g : Nat → Nat → Nat) (a k : Nat) : rowTo f g a k a k = f a k := by simp [rowTo]
end Go.Proofs.Ytlpjpeonejbpjaa
