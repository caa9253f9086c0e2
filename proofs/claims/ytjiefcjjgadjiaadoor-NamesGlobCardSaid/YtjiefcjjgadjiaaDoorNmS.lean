/- What stands between a text's slashes: as data (no conditions). -/
import Derived.Test.YtjiefcjjgadjiaaDoorNmP
namespace Go.Proofs.YtjiefcjjgadjiaaDoor
/-- where the piece that begins at low ends -/
def segEnd (l : List UInt8) (low : Nat) : Nat := low + ((l.drop low).takeWhile (fun c => !(c == 47))).length
/-- where the k-th piece begins -/
def posN (l : List UInt8) : Nat → Nat
  | 0 => 0
  | k + 1 => segEnd l (posN l k) + 1
theorem segEnd_ge (l : List UInt8) (low : Nat) : low ≤ segEnd l low := by unfold segEnd; omega
theorem segEnd_le (l : List UInt8) (low : Nat) (h : low ≤ l.length) : segEnd l low ≤ l.length := by
  unfold segEnd
  have h1 := (List.takeWhile_sublist (fun c : UInt8 => !(c == 47)) (l := l.drop low)).length_le
  rw [List.length_drop] at h1
  omega
theorem takeWhile_at (p : UInt8 → Bool) : ∀ (l : List UInt8) (i : Nat), i < (l.takeWhile p).length → p (l.getD i 0) = true
  | [], i, h => by simp at h
  | x :: l, i, h => by
    rw [List.takeWhile_cons] at h
    by_cases hx : p x = true
    · rw [if_pos hx, List.length_cons] at h
      cases i with
      | zero => simpa using hx
      | succ i => simpa using takeWhile_at p l i (by omega)
    · rw [if_neg hx] at h; simp at h
theorem takeWhile_end (p : UInt8 → Bool) : ∀ (l : List UInt8), (l.takeWhile p).length < l.length → p (l.getD (l.takeWhile p).length 0) = false
  | [], h => by simp at h
  | x :: l, h => by
    rw [List.takeWhile_cons] at h ⊢
    by_cases hx : p x = true
    · rw [if_pos hx, List.length_cons] at h ⊢
      simpa using takeWhile_end p l (by simpa using h)
    · rw [if_neg hx]; simpa using hx
theorem getD_drop (l : List UInt8) (a i : Nat) : (l.drop a).getD i 0 = l.getD (a + i) 0 := by
  rw [List.getD_eq_getElem?_getD, List.getElem?_drop, List.getD_eq_getElem?_getD]
/-- within a piece there is no slash -/
theorem seg_in (l : List UInt8) (low j : Nat) (h1 : low ≤ j) (h2 : j < segEnd l low) : (l.getD j 0 == 47) = false := by
  unfold segEnd at h2
  have h := takeWhile_at (fun c => !(c == 47)) (l.drop low) (j - low) (by omega)
  rw [getD_drop, show low + (j - low) = j by omega] at h
  simpa using h
theorem seg_at (l : List UInt8) (low : Nat) (h : low ≤ l.length) (h2 : segEnd l low < l.length) : (l.getD (segEnd l low) 0 == 47) = true := by
  unfold segEnd at h2 ⊢
  have h := takeWhile_end (fun c => !(c == 47)) (l.drop low) (by rw [List.length_drop]; omega)
  rw [getD_drop] at h
  simpa using h
theorem posN_ge (l : List UInt8) : ∀ k, k ≤ posN l k
  | 0 => Nat.le_refl _
  | k + 1 => by have h1 := posN_ge l k; have h2 := segEnd_ge l (posN l k); show k + 1 ≤ segEnd l (posN l k) + 1; omega
theorem posN_lt (l : List UInt8) (k : Nat) : posN l k < posN l (k + 1) := by have h2 := segEnd_ge l (posN l k); show posN l k < segEnd l (posN l k) + 1; omega
theorem posN_succ (l : List UInt8) (k : Nat) : posN l (k + 1) = segEnd l (posN l k) + 1 := rfl
theorem count_ex {p : Nat → Prop} (hd : ∀ k, p (k + 1) → p k) : ∀ M, ¬ p M → ∃ N, ∀ k, k < N ↔ p k
  | 0, h => ⟨0, fun k => ⟨fun e => absurd e (Nat.not_lt_zero k), fun e => absurd (by
      induction k with
      | zero => exact e
      | succ k ih => exact ih (hd k e)) h⟩⟩
  | M + 1, h => by
    by_cases hM : p M
    · refine ⟨M + 1, fun k => ⟨fun hk => ?_, fun hk => ?_⟩⟩
      · have : ∀ j, j ≤ M → p (M - j) := fun j => by
          induction j with
          | zero => intro _; exact hM
          | succ j ih => intro hj; have := ih (by omega); rw [show M - j = (M - (j + 1)) + 1 by omega] at this; exact hd _ this
        have h2 := this (M - k) (by omega)
        rwa [show M - (M - k) = k by omega] at h2
      · by_cases hlt : k < M + 1
        · exact hlt
        · exfalso
          have : ∀ j, p (M + 1 + j) → p (M + 1) := fun j => by
            induction j with
            | zero => exact id
            | succ j ih => exact fun e => ih (hd _ e)
          exact h (this (k - (M + 1)) (by rwa [show M + 1 + (k - (M + 1)) = k by omega]))
    · exact count_ex hd M hM
theorem cnt_ex (l : List UInt8) : ∃ N, ∀ k, k < N ↔ posN l k ≤ l.length :=
  count_ex (fun k h => by have := posN_lt l k; omega) (l.length + 1) (by have := posN_ge l (l.length + 1); omega)
/-- how many pieces there are -/
noncomputable def cntN (l : List UInt8) : Nat := Classical.choose (cnt_ex l)
theorem cntN_lt (l : List UInt8) (k : Nat) : k < cntN l ↔ posN l k ≤ l.length := Classical.choose_spec (cnt_ex l) k
theorem cntN_pos (l : List UInt8) : 0 < cntN l := (cntN_lt l 0).2 (Nat.zero_le _)
theorem cntN_le (l : List UInt8) : cntN l ≤ l.length + 1 := by
  by_cases h : l.length + 1 < cntN l
  · have h1 := (cntN_lt l _).1 h
    have h2 := posN_ge l (l.length + 1)
    omega
  · omega
/-- the k-th piece -/
def pieceAt (l : List UInt8) (k : Nat) : List UInt8 := seg l (posN l k) (segEnd l (posN l k))
noncomputable def piecesOf (l : List UInt8) : List (List UInt8) := (List.range (cntN l)).map (pieceAt l)
theorem piecesOf_length (l : List UInt8) : (piecesOf l).length = cntN l := by simp [piecesOf]
/-- are the first k pieces parts of names? -/
def goodTo (l : List UInt8) (k : Nat) : Bool := (List.range k).all fun i => partB (pieceAt l i)
theorem goodTo_succ (l : List UInt8) (k : Nat) : goodTo l (k + 1) = (goodTo l k && partB (pieceAt l k)) := by
  unfold goodTo
  rw [List.range_succ, List.all_append]
  simp
theorem goodTo_bad (l : List UInt8) (k : Nat) (h : partB (pieceAt l k) = false) : ∀ n, k < n → goodTo l n = false := fun n hn => by
  unfold goodTo
  rw [List.all_eq_false]
  exact ⟨k, List.mem_range.2 hn, by rw [h]; exact Bool.false_ne_true⟩
end Go.Proofs.YtjiefcjjgadjiaaDoor
