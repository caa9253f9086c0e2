/- The parts of a piece, stripe by stripe: each stripe has one part, or none (no conditions). -/
import Derived.Test.YtlncjheifkbomaaSpn2
namespace Go.Proofs.Ytlncjheifkbomaa
open Go.RowKit
/-- what is told of the i-th stripe -/
def selP (q f e n i : Nat) : List (Int × Int × Int) :=
  if f < min (i * q + q) n ∧ max f (i * q) < min e (min (i * q + q) n) then [((i : Int), ((max f (i * q) - i * q : Nat) : Int), ((min e (min (i * q + q) n) - i * q : Nat) : Int))] else []
theorem selP_none {q f e n i : Nat} (h : ¬ (f < min (i * q + q) n ∧ max f (i * q) < min e (min (i * q + q) n))) : selP q f e n i = [] := if_neg h
theorem selP_some {q f e n i : Nat} (h1 : f < min (i * q + q) n) (h2 : max f (i * q) < min e (min (i * q + q) n)) : selP q f e n i = [((i : Int), ((max f (i * q) - i * q : Nat) : Int), ((min e (min (i * q + q) n) - i * q : Nat) : Int))] := if_pos ⟨h1, h2⟩
def selL (q f e n : Nat) (l : List Nat) : List (Int × Int × Int) := l.flatMap (selP q f e n)
theorem selL_snoc (q f e n : Nat) (l : List Nat) (i : Nat) : selL q f e n (l ++ [i]) = selL q f e n l ++ selP q f e n i := by simp [selL]
theorem selP_length (q f e n i : Nat) : (selP q f e n i).length ≤ 1 := by unfold selP; split <;> simp
theorem selL_length (q f e n : Nat) : ∀ l : List Nat, (selL q f e n l).length ≤ l.length
  | [] => Nat.le_refl _
  | i :: l => by
    have h1 := selL_length q f e n l
    have h2 := selP_length q f e n i
    have e1 : selL q f e n (i :: l) = selP q f e n i ++ selL q f e n l := by simp [selL]
    rw [e1, List.length_append, List.length_cons]
    omega
theorem selP_spP {q f e n j : Nat} (hq : 1 ≤ q) (hfe : f ≤ e) (hen : e ≤ n) (hj : j < spN q f e) : selP q f e n (f / q + j) = [spP q f e j] := by
  have h1 := (spA_lt q f e j hq).2 hj
  have h2 := spA_next q f e j hq hfe
  have h4 : f < q * (f / q + 1) := Nat.lt_mul_div_succ f (by omega)
  have h3 : q * (f / q + 1) ≤ (f / q + j + 1) * q := by rw [Nat.mul_comm]; exact Nat.mul_le_mul_right q (by omega)
  have h5 : (f / q + j + 1) * q = (f / q + j) * q + q := Nat.succ_mul _ _
  have ha : spA q f e j = max f (min e ((f / q + j) * q)) := rfl
  have hfe2 : f < e := by
    unfold spN at hj
    by_cases h : f < e
    · exact h
    · rw [if_neg h] at hj; omega
  rw [h5] at h2 h3
  have hz : (f / q + j) * q < e := by omega
  rw [selP_some (by omega) (by omega)]
  unfold spP
  rw [h2, ha]
  congr 4
  · omega
  · omega
theorem selP_low {q f e n i : Nat} (h : i < f / q) : selP q f e n i = [] := by
  have h1 : (i + 1) * q ≤ f := Nat.le_trans (Nat.mul_le_mul_right q h) (Nat.div_mul_le_self f q)
  rw [Nat.succ_mul] at h1
  exact selP_none (by omega)
theorem selP_high {q f e n i : Nat} (h : e ≤ i * q) : selP q f e n i = [] := selP_none (by omega)
theorem selP_end {q f e n j : Nat} (hq : 1 ≤ q) (hj : spN q f e ≤ j) : selP q f e n (f / q + j) = [] := by
  have h1 : ¬ spA q f e j < e := fun h => by have := (spA_lt q f e j hq).1 h; omega
  unfold spA at h1
  exact selP_none (by omega)
theorem selL_take {q f e n : Nat} (hq : 1 ≤ q) (hfe : f ≤ e) (hen : e ≤ n) : ∀ k, selL q f e n (List.range k) = (spL q f e).take (k - f / q)
  | 0 => by simp [selL]
  | k + 1 => by
    rw [List.range_succ, selL_snoc, selL_take hq hfe hen k]
    by_cases h : k < f / q
    · rw [selP_low h, show k - f / q = 0 by omega, show k + 1 - f / q = 0 by omega, List.append_nil]
    · obtain ⟨j, rfl⟩ : ∃ j, k = f / q + j := ⟨k - f / q, by omega⟩
      rw [show f / q + j - f / q = j by omega, show f / q + j + 1 - f / q = j + 1 by omega]
      by_cases hj : j < spN q f e
      · rw [selP_spP hq hfe hen hj, spL_take q f e j hj]
      · rw [selP_end hq (by omega), List.append_nil, List.take_of_length_le (by rw [spL_length]; omega), List.take_of_length_le (by rw [spL_length]; omega)]
theorem selL_all {q f e n k : Nat} (hq : 1 ≤ q) (hfe : f ≤ e) (hen : e ≤ n) (hk : e ≤ k * q) : selL q f e n (List.range k) = spL q f e := by
  rw [selL_take hq hfe hen, List.take_of_length_le]
  rw [spL_length]
  unfold spN
  by_cases h : f < e
  · rw [if_pos h]
    have h1 : (e - 1) / q < k := (Nat.div_lt_iff_lt_mul (by omega)).2 (by omega)
    omega
  · rw [if_neg h]; omega
end Go.Proofs.Ytlncjheifkbomaa
