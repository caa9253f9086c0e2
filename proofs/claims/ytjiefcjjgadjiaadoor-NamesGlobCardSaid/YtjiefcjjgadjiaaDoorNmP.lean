/- What a part of a name, and a version, may be: as data (no conditions). -/
import Derived.Test.YtjiefcjjgadjiaaDoorNm1
namespace Go.Proofs.YtjiefcjjgadjiaaDoor
/-- what may stand between two letters -/
def okRun (l : List UInt8) : Bool := l == [46] || l == [95] || l == [95, 95] || l.all (· == 45)
/-- from here on each run between letters may stand there; cur: the run under way -/
def runsOk : List UInt8 → List UInt8 → Bool
  | _, [] => true
  | cur, c :: l => if plB c = true then okRun cur && runsOk [] l else runsOk (cur ++ [c]) l
theorem runsOk_letter (cur : List UInt8) (c : UInt8) (l : List UInt8) (h : plB c = true) : runsOk cur (c :: l) = (okRun cur && runsOk [] l) := by rw [runsOk, if_pos h]
theorem runsOk_other (cur : List UInt8) (c : UInt8) (l : List UInt8) (h : plB c = false) : runsOk cur (c :: l) = runsOk (cur ++ [c]) l := by rw [runsOk, if_neg (by rw [h]; exact Bool.false_ne_true)]
theorem runsOk_nil (cur : List UInt8) : runsOk cur [] = true := by rw [runsOk]
/-- a part of a name -/
def partB (l : List UInt8) : Bool := decide (l ≠ []) && (plB (l.getD 0 0) && (plB (l.getD (l.length - 1) 0) && runsOk [] l))
/-- a version -/
def versB (l : List UInt8) : Bool := decide (l ≠ []) && (!(l.getD 0 0 == 46) && (!(l.getD 0 0 == 45) && l.all veB))
theorem drop_at (l : List UInt8) (i : Nat) (h : i < l.length) : l.drop i = l.getD i 0 :: l.drop (i + 1) := by
  rw [List.drop_eq_getElem_cons h]
  simp [List.getD, h]
/-- the bytes from a to b -/
def seg (l : List UInt8) (a b : Nat) : List UInt8 := (l.drop a).take (b - a)
theorem seg_nil (l : List UInt8) (a : Nat) : seg l a a = [] := by unfold seg; rw [Nat.sub_self, List.take_zero]
theorem seg_snoc (l : List UInt8) (a b : Nat) (h : a ≤ b) (hb : b < l.length) : seg l a (b + 1) = seg l a b ++ [l.getD b 0] := by
  unfold seg
  rw [show b + 1 - a = (b - a) + 1 by omega, List.take_succ_eq_append_getElem (by rw [List.length_drop]; omega), List.getElem_drop]
  simp [List.getD, hb, show a + (b - a) = b by omega]
theorem seg_length (l : List UInt8) (a b : Nat) (h : b ≤ l.length) : (seg l a b).length = b - a := by
  unfold seg
  rw [List.length_take, List.length_drop]
  omega
theorem seg_getD (l : List UInt8) (a b i : Nat) (hi : a + i < b) : (seg l a b).getD i 0 = l.getD (a + i) 0 := by
  unfold seg
  rw [List.getD_eq_getElem?_getD, List.getElem?_take_of_lt (by omega), List.getElem?_drop, List.getD_eq_getElem?_getD]
theorem seg_of (s : ByteArray) (a b : Nat) : (s.extract a b).data.toList = seg s.data.toList a b := by
  unfold seg
  rw [ByteArray.data_extract, Array.toList_extract]
theorem byte_of (s : ByteArray) (i : Nat) (h : i < s.size) : s[i] = s.data.toList.getD i 0 := by
  have hl : i < s.data.toList.length := by simpa using h
  rw [List.getD_eq_getElem?_getD, List.getElem?_eq_getElem hl]
  rfl
/-- a run that lies behind no letter: each is none -/
theorem runs_skip (l : List UInt8) (i : Nat) : ∀ k, i ≤ k → k ≤ l.length → (∀ j, i ≤ j → j < k → plB (l.getD j 0) = false) → runsOk [] (l.drop i) = runsOk (seg l i k) (l.drop k) := by
  intro k
  induction k with
  | zero => intro h _ _; obtain rfl : i = 0 := by omega
            rw [seg_nil]
  | succ k ih =>
    intro h hk hp
    by_cases he : i = k + 1
    · subst he; rw [seg_nil]
    · rw [ih (by omega) (by omega) (fun j h1 h2 => hp j h1 (by omega)), drop_at l k (by omega), runsOk_other _ _ _ (hp k (by omega) (by omega)), seg_snoc l i k (by omega) (by omega)]
theorem okRun_nil : okRun [] = true := rfl
end Go.Proofs.YtjiefcjjgadjiaaDoor
