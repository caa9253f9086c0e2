/- A name taken apart: what stands ahead of its first colon, and behind it: as data; strings.Cut at a colon (a text of no great length; bytealg's limit lies as a number). -/
import Derived.Test.YtjiefcjjgadjiaaDoorNmI
namespace Go.Proofs.YtjiefcjjgadjiaaDoor
open Go.RowKit Go.Shelf

/-- where the first colon stands (behind all, if there is none) -/
def colN (l : List UInt8) : Nat := (l.takeWhile (fun c => !(c == 58))).length
theorem colN_le (l : List UInt8) : colN l ≤ l.length := (List.takeWhile_sublist _).length_le
theorem index_col : ∀ l : List UInt8, Lib.index l [58] = if colN l < l.length then (colN l : Int) else -1
  | [] => rfl
  | b :: l => by
    have ih := index_col l
    have hb : ([58] : List UInt8).isPrefixOf (b :: l) = (b == 58) := by
      simp [List.isPrefixOf]
      rw [Bool.eq_iff_iff]
      simp
      exact eq_comm
    rw [Lib.index, hb]
    by_cases h : b = 58
    · subst h
      have hc : colN (58 :: l) = 0 := rfl
      rw [hc, if_pos (by rfl), if_pos (by simp)]
      rfl
    · have h1 : (b == 58) = false := beq_eq_false_iff_ne.2 h
      have hc : colN (b :: l) = colN l + 1 := by unfold colN; rw [List.takeWhile_cons, h1]; rfl
      rw [h1, hc, if_neg Bool.false_ne_true, ih]
      by_cases hl : colN l < l.length
      · rw [if_pos hl, if_neg (by rw [beq_iff_eq]; omega), if_pos (by rw [List.length_cons]; omega)]
        rfl
      · rw [if_neg hl, if_pos (by rfl), if_neg (by rw [List.length_cons]; omega)]
def hasB (s : ByteArray) : Bool := decide (colN s.data.toList < s.data.toList.length)
/-- what stands ahead of the first colon -/
def pathB (s : ByteArray) : ByteArray := s.extract 0 (colN s.data.toList)
/-- what stands behind it, if there is one -/
def rawV (s : ByteArray) : ByteArray := if hasB s = true then s.extract (colN s.data.toList + 1) s.size else ⟨#[]⟩
def latB : ByteArray := ⟨#[108, 97, 116, 101, 115, 116]⟩
/-- the version -/
def verOf (s : ByteArray) : ByteArray := if hasB s = true then rawV s else latB
theorem cut_col (s : ByteArray) : (⟨(Lib.cut s.data.toList [58]).1.toArray⟩ : ByteArray) = pathB s ∧ (⟨(Lib.cut s.data.toList [58]).2.1.toArray⟩ : ByteArray) = rawV s ∧ (Lib.cut s.data.toList [58]).2.2 = hasB s := by
  have hi := index_col s.data.toList
  unfold Lib.cut rawV hasB pathB
  rw [hi]
  by_cases h : colN s.data.toList < s.data.toList.length
  · rw [if_pos h, if_pos (by omega), decide_eq_true h, if_pos rfl]
    refine ⟨?_, ?_, rfl⟩
    · apply ByteArray.ext
      apply Array.toList_inj.1
      rw [seg_of]
      unfold seg
      simp
    · apply ByteArray.ext
      apply Array.toList_inj.1
      rw [seg_of]
      unfold seg
      show s.data.toList.drop (((colN s.data.toList : Int)).toNat + [(58 : UInt8)].length) = _
      rw [show ((colN s.data.toList : Int)).toNat + [(58 : UInt8)].length = colN s.data.toList + 1 from rfl, List.take_of_length_le (by rw [List.length_drop]; show _ ≤ s.data.toList.length - _; exact Nat.le_refl _)]
  · have h2 := colN_le s.data.toList
    have h3 : colN s.data.toList = s.data.toList.length := by omega
    rw [if_neg h, if_neg (by omega), decide_eq_false h, if_neg Bool.false_ne_true]
    refine ⟨?_, rfl, rfl⟩
    apply ByteArray.ext
    apply Array.toList_inj.1
    rw [seg_of, h3]
    unfold seg
    rw [List.drop_zero, Nat.sub_zero, List.take_of_length_le (Nat.le_refl _)]
theorem cut_nm (s : ByteArray) (m : Int) (w : World) (hs : s.size < 4294967281) (hm : w.cell? ⟨0, 0, none⟩ = some (.int .i64 m)) :
    Calls Tryd.prog 30 #[.string s, .string ⟨#[58]⟩] w fun e w' => e = .returned (.tuple #[.string (pathB s), .string (rawV s), .bool (hasB s)]) ∧ Kept w w' := by
  have h := Tryd.strings_Cut s ⟨#[58]⟩ m w hs hm
  obtain ⟨h1, h2, h3⟩ := cut_col s
  rw [show (⟨#[58]⟩ : ByteArray).data.toList = [58] from rfl, h1, h2, h3] at h
  refine h.mono ?_
  rintro e w' ⟨h4, n, rfl⟩
  exact ⟨h4, (Kept.refl _).drewN n⟩
theorem pathB_size (s : ByteArray) : (pathB s).size ≤ s.size := by unfold pathB; rw [ByteArray.size_extract]; omega
theorem rawV_size (s : ByteArray) : (rawV s).size ≤ s.size := by
  unfold rawV
  split
  · rw [ByteArray.size_extract]; omega
  · exact Nat.zero_le _
/-- are all parts of a path parts of names? -/
noncomputable def goodP (s : ByteArray) : Bool := goodTo (pathB s).data.toList (cntN (pathB s).data.toList)
/-- is this a name? -/
noncomputable def nameB (s : ByteArray) : Bool := decide (s.size ≤ 40) && ((!hasB s || versB (rawV s).data.toList) && goodP s)
end Go.Proofs.YtjiefcjjgadjiaaDoor
