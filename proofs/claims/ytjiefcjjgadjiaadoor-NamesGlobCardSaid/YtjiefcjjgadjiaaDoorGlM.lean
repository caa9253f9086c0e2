/- What siloref19.Glob's table tells, as data; it is what names.Glob answers (no conditions). -/
import Derived.Test.YtjiefcjjgadjiaaDoorGl2
namespace Go.Proofs.YtjiefcjjgadjiaaDoor
open Go.RowKit Go.Shelf
/-- how a row of the table comes of another, behind a star: so far from the end -/
def starBd (s : ByteArray) (two : Bool) (R : Nat → Bool) : Nat → Bool
  | 0 => R s.size
  | d + 1 => R (s.size - (d + 1)) || (passB (s.data.toList.getD (s.size - (d + 1)) 0) two && starBd s two R d)
def starB (s : ByteArray) (two : Bool) (R : Nat → Bool) (k : Nat) : Bool := starBd s two R (s.size - k)
def letB (s : ByteArray) (c : UInt8) (R : Nat → Bool) (k : Nat) : Bool := decide (k < s.size) && ((c == s.data.toList.getD k 0) && R (k + 1))
theorem starB_end (s : ByteArray) (two : Bool) (R : Nat → Bool) : starB s two R s.size = R s.size := by unfold starB; rw [Nat.sub_self]; rfl
theorem starB_at (s : ByteArray) (two : Bool) (R : Nat → Bool) (k : Nat) (hk : k < s.size) : starB s two R k = (R k || (passB (s.data.toList.getD k 0) two && starB s two R (k + 1))) := by
  obtain ⟨d, hd⟩ : ∃ d, s.size - k = d + 1 := ⟨s.size - k - 1, by omega⟩
  unfold starB
  rw [hd, show s.size - (k + 1) = d by omega]
  show (R (s.size - (d + 1)) || (passB (s.data.toList.getD (s.size - (d + 1)) 0) two && starBd s two R d)) = _
  rw [show s.size - (d + 1) = k by omega]
/-- the table's row of what is left of a pattern -/
def rowG (s : ByteArray) (l : List UInt8) : Nat → Bool :=
  if _h0 : l = [] then fun k => k == s.size
  else if Lib.hasPrefix l [42, 42] = true then starB s true (rowG s (l.drop 2))
  else if (l.getD 0 0 == 42) = true then starB s false (rowG s (l.drop 1))
  else letB s (l.getD 0 0) (rowG s (l.drop 1))
termination_by l.length
decreasing_by all_goals (have := List.length_pos_iff.2 _h0; simp only [List.length_drop]; omega)
theorem rowG_nil (s : ByteArray) : rowG s [] = fun k => k == s.size := by rw [rowG, dif_pos rfl]
theorem rowG_two (s : ByteArray) (l : List UInt8) (h0 : l ≠ []) (h : Lib.hasPrefix l [42, 42] = true) : rowG s l = starB s true (rowG s (l.drop 2)) := by rw [rowG, dif_neg h0, if_pos h]
theorem rowG_one (s : ByteArray) (l : List UInt8) (h0 : l ≠ []) (h : Lib.hasPrefix l [42, 42] = false) (h1 : (l.getD 0 0 == 42) = true) : rowG s l = starB s false (rowG s (l.drop 1)) := by rw [rowG, dif_neg h0, if_neg (by rw [h]; exact Bool.false_ne_true), if_pos h1]
theorem rowG_let (s : ByteArray) (l : List UInt8) (h0 : l ≠ []) (h : Lib.hasPrefix l [42, 42] = false) (h1 : (l.getD 0 0 == 42) = false) : rowG s l = letB s (l.getD 0 0) (rowG s (l.drop 1)) := by rw [rowG, dif_neg h0, if_neg (by rw [h]; exact Bool.false_ne_true), if_neg (by rw [h1]; exact Bool.false_ne_true)]
theorem starF_iff (s : ByteArray) (two : Bool) (F : Nat → Bool) : ∀ k, starF s two F k = true ↔ ∃ j, j ≤ k ∧ F j = true ∧ ∀ i, j ≤ i → i < k → passB (s.data.toList.getD i 0) two = true
  | 0 => ⟨fun h => ⟨0, Nat.le_refl _, h, fun i _ hi => absurd hi (Nat.not_lt_zero i)⟩, fun ⟨j, hj, hF, _⟩ => by
    have e : j = 0 := by omega
    rw [e] at hF
    exact hF⟩
  | k + 1 => by
    show (F (k + 1) || (starF s two F k && passB (s.data.toList.getD k 0) two)) = true ↔ _
    rw [Bool.or_eq_true, Bool.and_eq_true, starF_iff s two F k]
    constructor
    · rintro (h | ⟨⟨j, hj, hF, hp⟩, hk⟩)
      · exact ⟨k + 1, Nat.le_refl _, h, fun i h1 h2 => by omega⟩
      · refine ⟨j, by omega, hF, fun i h1 h2 => ?_⟩
        by_cases e : i = k
        · rw [e]; exact hk
        · exact hp i h1 (by omega)
    · rintro ⟨j, hj, hF, hp⟩
      by_cases e : j = k + 1
      · exact .inl (e ▸ hF)
      · exact .inr ⟨⟨j, by omega, hF, fun i h1 h2 => hp i h1 (by omega)⟩, hp k (by omega) (by omega)⟩
theorem starB_iff (s : ByteArray) (two : Bool) (R : Nat → Bool) : ∀ d j, s.size - j = d → j ≤ s.size → (starB s two R j = true ↔ ∃ k, j ≤ k ∧ k ≤ s.size ∧ R k = true ∧ ∀ i, j ≤ i → i < k → passB (s.data.toList.getD i 0) two = true)
  | 0, j, hd, hj => by
    obtain rfl : j = s.size := by omega
    rw [starB_end]
    exact ⟨fun h => ⟨s.size, Nat.le_refl _, Nat.le_refl _, h, fun i h1 h2 => by omega⟩, fun ⟨k, h1, h2, h3, _⟩ => by
      have e : k = s.size := by omega
      rw [e] at h3
      exact h3⟩
  | d + 1, j, hd, hj => by
    rw [starB_at s two R j (by omega), Bool.or_eq_true, Bool.and_eq_true, starB_iff s two R d (j + 1) (by omega) (by omega)]
    constructor
    · rintro (h | ⟨hp, k, h1, h2, h3, h4⟩)
      · exact ⟨j, Nat.le_refl _, hj, h, fun i h1 h2 => by omega⟩
      · refine ⟨k, by omega, h2, h3, fun i h5 h6 => ?_⟩
        by_cases e : i = j
        · rw [e]; exact hp
        · exact h4 i (by omega) h6
    · rintro ⟨k, h1, h2, h3, h4⟩
      by_cases e : k = j
      · exact .inl (e ▸ h3)
      · exact .inr ⟨h4 j (Nat.le_refl _) (by omega), k, by omega, h2, h3, fun i h5 h6 => h4 i (by omega) h6⟩
theorem star_swap (s : ByteArray) (two : Bool) (F R : Nat → Bool) : (∃ k, k ≤ s.size ∧ starF s two F k = true ∧ R k = true) ↔ ∃ j, j ≤ s.size ∧ F j = true ∧ starB s two R j = true := by
  constructor
  · rintro ⟨k, hk, hs, hR⟩
    obtain ⟨j, hj, hF, hp⟩ := (starF_iff s two F k).1 hs
    exact ⟨j, by omega, hF, (starB_iff s two R _ j rfl (by omega)).2 ⟨k, hj, hk, hR, hp⟩⟩
  · rintro ⟨j, hj, hF, hs⟩
    obtain ⟨k, h1, h2, h3, h4⟩ := (starB_iff s two R _ j rfl hj).1 hs
    exact ⟨k, h2, (starF_iff s two F k).2 ⟨j, h1, hF, h4⟩, h3⟩
theorem let_swap (s : ByteArray) (c : UInt8) (F R : Nat → Bool) : (∃ k, k ≤ s.size ∧ letF s c F k = true ∧ R k = true) ↔ ∃ j, j ≤ s.size ∧ F j = true ∧ letB s c R j = true := by
  constructor
  · rintro ⟨k, hk, hs, hR⟩
    cases k with
    | zero => exact absurd hs Bool.false_ne_true
    | succ j =>
      have h1 : (F j && (s.data.toList.getD j 0 == c)) = true := hs
      rw [Bool.and_eq_true, beq_iff_eq] at h1
      refine ⟨j, by omega, h1.1, ?_⟩
      unfold letB
      rw [decide_eq_true (show j < s.size by omega), h1.2, beq_self_eq_true, hR]
      rfl
  · rintro ⟨j, hj, hF, hs⟩
    unfold letB at hs
    rw [Bool.and_eq_true, Bool.and_eq_true, decide_eq_true_eq, beq_iff_eq] at hs
    refine ⟨j + 1, by omega, ?_, hs.2.2⟩
    show (F j && (s.data.toList.getD j 0 == c)) = true
    rw [hF, hs.2.1, beq_self_eq_true]
    rfl
theorem glob_row (s : ByteArray) : ∀ (n : Nat) (l : List UInt8) (F : Nat → Bool), l.length ≤ n → (globF s l F s.size = true ↔ ∃ k, k ≤ s.size ∧ F k = true ∧ rowG s l k = true)
  | n, [], F, _ => by
    rw [globF_nil, rowG_nil]
    exact ⟨fun h => ⟨s.size, Nat.le_refl _, h, beq_self_eq_true _⟩, fun ⟨k, h1, h2, h3⟩ => by rw [← beq_iff_eq.1 h3]; exact h2⟩
  | 0, c :: l, F, h => by simp at h
  | n + 1, c :: l, F, h => by
    have hne : c :: l ≠ [] := by simp
    have hl : l.length ≤ n := by simpa using h
    cases h2 : Lib.hasPrefix (c :: l) [42, 42] with
    | true => rw [globF_two _ _ _ hne h2, rowG_two _ _ hne h2, glob_row s n _ _ (by rw [List.length_drop, List.length_cons]; omega), star_swap]
    | false =>
      cases h1 : ((c :: l).getD 0 0 == 42) with
      | true => rw [globF_one _ _ _ hne h2 h1, rowG_one _ _ hne h2 h1, glob_row s n _ _ (by rw [List.length_drop, List.length_cons]; omega), star_swap]
      | false => rw [globF_let _ _ _ hne h2 h1, rowG_let _ _ hne h2 h1, glob_row s n _ _ (by rw [List.length_drop, List.length_cons]; omega), let_swap]
/-- what the page's table tells is what the program's walk tells -/
theorem glob_is (p s : ByteArray) : rowG s p.data.toList 0 = globB p s := by
  rw [Bool.eq_iff_iff]
  unfold globB
  rw [glob_row s _ _ _ (Nat.le_refl _)]
  constructor
  · exact fun h => ⟨0, Nat.zero_le _, rfl, h⟩
  · rintro ⟨k, _, h2, h3⟩
    obtain rfl : k = 0 := beq_iff_eq.1 h2
    exact h3
end Go.Proofs.YtjiefcjjgadjiaaDoor
