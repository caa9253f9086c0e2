/- A name's whole is its own whole; every text is of itself as a pattern, and of two stars (no conditions). -/
import Derived.Test.YtjiefcjjgadjiaaDoorGl2
import Derived.Test.YtjiefcjjgadjiaaDoorNm10
namespace Go.Proofs.YtjiefcjjgadjiaaDoor
open Go.RowKit Go.Shelf
theorem takeWhile_cons_end (p : UInt8 → Bool) (x : UInt8) (hx : p x = false) (m : List UInt8) : ∀ l : List UInt8, (∀ y ∈ l, p y = true) → (l ++ x :: m).takeWhile p = l
  | [], _ => by rw [List.nil_append, List.takeWhile_cons, if_neg (by rw [hx]; exact Bool.false_ne_true)]
  | y :: l, h => by rw [List.cons_append, List.takeWhile_cons, if_pos (h y (List.mem_cons_self ..)), takeWhile_cons_end p x hx m l (fun z hz => h z (List.mem_cons_of_mem _ hz))]
theorem takeWhile_all (p : UInt8 → Bool) : ∀ (l : List UInt8) (x : UInt8), x ∈ l.takeWhile p → p x = true
  | [], x, h => by simp at h
  | y :: l, x, h => by
    rw [List.takeWhile_cons] at h
    by_cases hy : p y = true
    · rw [if_pos hy] at h
      rcases List.mem_cons.1 h with rfl | h
      · exact hy
      · exact takeWhile_all p l x h
    · rw [if_neg hy] at h; simp at h
theorem take_takeWhile (p : UInt8 → Bool) (l : List UInt8) : l.take (l.takeWhile p).length = l.takeWhile p := by
  have h := List.takeWhile_append_dropWhile (p := p) (l := l)
  have h2 := List.take_left (l₁ := l.takeWhile p) (l₂ := l.dropWhile p)
  rw [h] at h2
  exact h2
theorem path_list (s : ByteArray) : (pathB s).data.toList = s.data.toList.takeWhile (fun c => !(c == 58)) := by
  unfold pathB
  rw [seg_of]
  unfold seg colN
  rw [List.drop_zero, Nat.sub_zero, take_takeWhile]
theorem path_no (s : ByteArray) : ∀ x ∈ (pathB s).data.toList, (!(x == 58)) = true := by
  rw [path_list]
  exact fun x hx => takeWhile_all _ _ x hx
theorem full_list (s : ByteArray) : (fullB s).data.toList = (pathB s).data.toList ++ 58 :: (verOf s).data.toList := by
  unfold fullB
  rw [ByteArray.data_append, ByteArray.data_append, Array.toList_append, Array.toList_append, List.append_assoc]
  rfl
theorem full_col (s : ByteArray) : colN (fullB s).data.toList = (pathB s).size := by
  unfold colN
  rw [full_list, takeWhile_cons_end _ 58 (by decide) _ _ (path_no s)]
  rfl
theorem full_size (s : ByteArray) : (fullB s).size = (pathB s).size + 1 + (verOf s).size := by
  unfold fullB
  rw [ByteArray.size_append, ByteArray.size_append]
  rfl
theorem full_has (s : ByteArray) : hasB (fullB s) = true := by
  unfold hasB
  rw [full_col]
  exact decide_eq_true (by rw [len_size, full_size]; omega)
theorem full_path (s : ByteArray) : pathB (fullB s) = pathB s := by
  apply ByteArray.ext
  apply Array.toList_inj.1
  rw [path_list, full_list, takeWhile_cons_end _ 58 (by decide) _ _ (path_no s)]
theorem full_ver (s : ByteArray) : verOf (fullB s) = verOf s := by
  unfold verOf
  rw [if_pos (full_has s)]
  unfold rawV
  rw [if_pos (full_has s), full_col]
  apply ByteArray.ext
  apply Array.toList_inj.1
  rw [seg_of, full_list]
  unfold seg
  rw [List.drop_append, List.drop_eq_nil_of_le (by rw [len_size]; omega), List.nil_append, len_size, show (pathB s).size + 1 - (pathB s).size = 1 by omega, List.drop_succ_cons, List.drop_zero, List.take_of_length_le (by rw [len_size, full_size]; omega)]
  rfl
theorem full_full (s : ByteArray) : fullB (fullB s) = fullB s := by
  show (pathB (fullB s) ++ ⟨#[58]⟩) ++ verOf (fullB s) = _
  rw [full_path, full_ver]
  rfl
theorem full_name (s : ByteArray) (h : nameB s = true) (h40 : (fullB s).size ≤ 40) : nameB (fullB s) = true := by
  rw [nameB_ver] at h ⊢
  have hg : goodP (fullB s) = goodP s := by unfold goodP; rw [full_path]
  rw [hg, full_ver, decide_eq_true h40]
  rw [Bool.and_eq_true] at h
  rw [h.2]
  rfl
theorem starF_at (s : ByteArray) (two : Bool) (F : Nat → Bool) (k : Nat) (h : F k = true) : starF s two F k = true := by
  cases k with
  | zero => exact h
  | succ m => unfold starF; rw [h]; rfl
theorem starF_next (s : ByteArray) (two : Bool) (F : Nat → Bool) (k : Nat) (h : starF s two F k = true) (hp : passB (s.data.toList.getD k 0) two = true) : starF s two F (k + 1) = true := by
  show (F (k + 1) || (starF s two F k && passB (s.data.toList.getD k 0) two)) = true
  rw [h, hp, Bool.and_self, Bool.or_true]
theorem passB_two (c : UInt8) : passB c true = true := rfl
theorem globF_self (s : ByteArray) : ∀ (n k : Nat) (F : Nat → Bool), s.data.toList.length - k ≤ n → k ≤ s.data.toList.length → F k = true → globF s (s.data.toList.drop k) F s.size = true
  | n, k, F, hn, hk, hF => by
    by_cases h0 : k = s.data.toList.length
    · rw [List.drop_eq_nil_of_le (by omega), globF_nil, ← len_size, ← h0]
      exact hF
    · have hne : s.data.toList.drop k ≠ [] := fun e => by
        have := congrArg List.length e
        rw [List.length_drop] at this
        simp only [List.length_nil] at this
        omega
      have hg : (s.data.toList.drop k).getD 0 0 = s.data.toList.getD k 0 := by rw [getD_drop, Nat.add_zero]
      obtain ⟨n', rfl⟩ : ∃ n', n = n' + 1 := ⟨n - 1, by omega⟩
      cases h2 : Lib.hasPrefix (s.data.toList.drop k) [42, 42] with
      | true =>
        have hl := prefix_len _ h2
        rw [List.length_drop] at hl
        rw [globF_two _ _ _ hne h2, List.drop_drop]
        refine globF_self s n' _ _ (by omega) (by omega) ?_
        exact starF_next _ _ _ _ (starF_next _ _ _ _ (starF_at _ _ _ _ hF) rfl) rfl
      | false =>
        cases h1 : ((s.data.toList.drop k).getD 0 0 == 42) with
        | true =>
          rw [globF_one _ _ _ hne h2 h1, List.drop_drop]
          refine globF_self s n' _ _ (by omega) (by omega) ?_
          refine starF_next _ _ _ _ (starF_at _ _ _ _ hF) ?_
          rw [hg] at h1
          rw [beq_iff_eq.1 h1]
          rfl
        | false =>
          rw [globF_let _ _ _ hne h2 h1, List.drop_drop]
          refine globF_self s n' _ _ (by omega) (by omega) ?_
          show (F k && (s.data.toList.getD k 0 == (s.data.toList.drop k).getD 0 0)) = true
          rw [hF, hg, beq_self_eq_true]
          rfl
theorem glob_self (s : ByteArray) : globB s s = true := by
  have h := globF_self s s.data.toList.length 0 atZero (by omega) (by omega) rfl
  rwa [List.drop_zero] at h
theorem starF_zero (s : ByteArray) : ∀ k, starF s true atZero k = true
  | 0 => rfl
  | k + 1 => starF_next _ _ _ _ (starF_zero s k) rfl
theorem glob_stars (s : ByteArray) : globB ⟨#[42, 42]⟩ s = true := by
  show globF s [42, 42] atZero s.size = true
  rw [globF_two _ _ _ (by simp) rfl]
  show globF s [] _ s.size = true
  rw [globF_nil]
  exact starF_zero s _
end Go.Proofs.YtjiefcjjgadjiaaDoor
