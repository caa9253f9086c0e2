/- The pieces of a text joined by slashes are the text (no conditions). -/
import Derived.Test.YtjiefcjjgadjiaaDoorNmI
namespace Go.Proofs.YtjiefcjjgadjiaaDoor
/-- the first k pieces, joined -/
def headB (P : ByteArray) : Nat → ByteArray
  | 0 => ⟨#[]⟩
  | j + 1 => P.extract 0 (segEnd P.data.toList (posN P.data.toList j))
theorem headB_size (P : ByteArray) : ∀ k, (headB P k).size ≤ P.size
  | 0 => Nat.zero_le _
  | j + 1 => by show (P.extract 0 _).size ≤ _; rw [ByteArray.size_extract]; omega
theorem headB_one (P : ByteArray) : headB P 0 ++ pcN P 0 = headB P 1 := by
  show ByteArray.empty ++ pcN P 0 = _
  rw [ByteArray.empty_append]
  rfl
theorem len_size (P : ByteArray) : P.data.toList.length = P.size := rfl
theorem headB_succ (P : ByteArray) (k : Nat) (h0 : 0 < k) (hk : k < cntN P.data.toList) : (headB P k ++ ⟨#[47]⟩) ++ pcN P k = headB P (k + 1) := by
  obtain ⟨j, rfl⟩ : ∃ j, k = j + 1 := ⟨k - 1, by omega⟩
  have h1 := (cntN_lt _ _).1 hk
  rw [posN_succ] at h1
  have hj : posN P.data.toList j ≤ P.data.toList.length := (cntN_lt _ _).1 (by omega)
  have hs := seg_at P.data.toList (posN P.data.toList j) hj (by omega)
  have hge := segEnd_ge P.data.toList (segEnd P.data.toList (posN P.data.toList j) + 1)
  show (P.extract 0 (segEnd P.data.toList (posN P.data.toList j)) ++ ⟨#[47]⟩) ++ P.extract (segEnd P.data.toList (posN P.data.toList j) + 1) (segEnd P.data.toList (segEnd P.data.toList (posN P.data.toList j) + 1)) = P.extract 0 (segEnd P.data.toList (segEnd P.data.toList (posN P.data.toList j) + 1))
  generalize segEnd P.data.toList (posN P.data.toList j) = e at *
  generalize segEnd P.data.toList (e + 1) = f at *
  have h47 : (⟨#[47]⟩ : ByteArray) = P.extract e (e + 1) := by
    apply ByteArray.ext
    apply Array.toList_inj.1
    rw [seg_of, seg_snoc _ _ _ (Nat.le_refl _) (by omega), seg_nil, show P.data.toList.getD e 0 = 47 by simpa using hs]
    rfl
  rw [h47, ← ByteArray.extract_eq_extract_append_extract e (by omega) (by omega), ← ByteArray.extract_eq_extract_append_extract (e + 1) (by omega) (by omega)]
theorem headB_all (P : ByteArray) : headB P (cntN P.data.toList) = P := by
  have hp := cntN_pos P.data.toList
  obtain ⟨j, hj⟩ : ∃ j, cntN P.data.toList = j + 1 := ⟨cntN P.data.toList - 1, by omega⟩
  have h1 : posN P.data.toList j ≤ P.data.toList.length := (cntN_lt _ _).1 (by omega)
  have h2 : ¬ posN P.data.toList (j + 1) ≤ P.data.toList.length := fun e => by have := (cntN_lt _ _).2 e; omega
  rw [posN_succ] at h2
  have h3 := segEnd_le _ _ h1
  rw [hj]
  show P.extract 0 (segEnd P.data.toList (posN P.data.toList j)) = P
  rw [show segEnd P.data.toList (posN P.data.toList j) = P.size by have := len_size P; omega]
  exact ByteArray.extract_zero_size
end Go.Proofs.YtjiefcjjgadjiaaDoor
