/- names.Check, Split and Full, by what they answer; silolaw19's num, wakes and same (a text of no great length; bytealg's limit lies as a number). -/
import Derived.Test.YtjiefcjjgadjiaaDoorNm6
namespace Go.Proofs.YtjiefcjjgadjiaaDoor
open Go.RowKit Go.Shelf

/-- bytealg's limit lies as a number -/
def MaxL (W : World) : Prop := 0 < W.heap.size ∧ ∃ m, W.cell? ⟨0, 0, none⟩ = some (.int .i64 m)
theorem MaxL.kept {W W' : World} (h : MaxL W) (k : Kept W W') : MaxL W' := ⟨Nat.lt_of_lt_of_le h.1 k.size, by obtain ⟨m, hm⟩ := h.2; exact ⟨m, k.cell h.1 hm⟩⟩
theorem read_any (s : ByteArray) (w : World) (hs : s.size ≤ 1000000) (hm : MaxL w) : Calls Tryd.prog 24 #[.string s] w fun e w' => e = .returned (readV s) ∧ Kept w w' := by
  obtain ⟨m, h⟩ := hm.2
  exact read_nm s m w hs h hm.1
theorem num19_any (n : Int) (w : World) : Calls Tryd.prog 13 #[.int .i64 n] w fun e w' => e = .returned (.int .i64 n) ∧ w = w' := by
  go_enter Tryd.func13, Tryd.ntmps13
  go_wp2
  go_ret
  exact ⟨rfl, rfl⟩
noncomputable def checkV (s : ByteArray) : Int := if nameB s = true then 0 else 7
theorem check_nm (s : ByteArray) (w : World) (hs : s.size ≤ 1000000) (hm : MaxL w) : Calls Tryd.prog 14 #[.string s] w fun e w' => e = .returned (.int .i64 (checkV s)) ∧ Kept w w' := by
  have HR := Lib.hid (read_any s w hs hm)
  clear hm
  cases h : nameB s with
  | true =>
    rw [readV_good s h] at HR
    rw [show checkV s = 0 by unfold checkV; rw [if_pos h]]
    clear h
    go_enter Tryd.func14, Tryd.ntmps14
    go_wp2_with fail
    refine (HR.out).mono ?_
    rintro e w1 ⟨rfl, hk⟩
    have HK := Lib.hid hk
    clear hk
    go_wp2
    go_ret
    exact ⟨rfl, HK.out⟩
  | false =>
    rw [readV_bad s h] at HR
    rw [show checkV s = 7 by unfold checkV; rw [h]; rfl]
    clear h
    go_enter Tryd.func14, Tryd.ntmps14
    go_wp2_with fail
    refine (HR.out).mono ?_
    rintro e w1 ⟨rfl, hk⟩
    have HK := Lib.hid hk
    clear hk
    go_wp2
    go_ret
    exact ⟨rfl, HK.out⟩
noncomputable def splitV (s : ByteArray) : Value := if nameB s = true then .tuple #[.string (pathB s), .string (verOf s), .int .i64 0] else .tuple #[.string ⟨#[]⟩, .string ⟨#[]⟩, .int .i64 7]
theorem split_nm (s : ByteArray) (w : World) (hs : s.size ≤ 1000000) (hm : MaxL w) : Calls Tryd.prog 10 #[.string s] w fun e w' => e = .returned (splitV s) ∧ Kept w w' := by
  have HR := Lib.hid (read_any s w hs hm)
  clear hm
  cases h : nameB s with
  | true =>
    rw [readV_good s h] at HR
    rw [show splitV s = .tuple #[.string (pathB s), .string (verOf s), .int .i64 0] by unfold splitV; rw [if_pos h]]
    clear h
    go_enter Tryd.func10, Tryd.ntmps10
    go_wp2_with fail
    refine (HR.out).mono ?_
    rintro e w1 ⟨rfl, hk⟩
    have HK := Lib.hid hk
    clear hk
    go_wp2
    go_ret3
    exact ⟨rfl, HK.out⟩
  | false =>
    rw [readV_bad s h] at HR
    rw [show splitV s = .tuple #[.string ⟨#[]⟩, .string ⟨#[]⟩, .int .i64 7] by unfold splitV; rw [h]; rfl]
    clear h
    go_enter Tryd.func10, Tryd.ntmps10
    go_wp2_with fail
    refine (HR.out).mono ?_
    rintro e w1 ⟨rfl, hk⟩
    have HK := Lib.hid hk
    clear hk
    go_wp2
    go_ret3
    exact ⟨rfl, HK.out⟩
/-- a name with its version -/
def fullB (s : ByteArray) : ByteArray := (pathB s ++ ⟨#[58]⟩) ++ verOf s
noncomputable def fullV (s : ByteArray) : Value := if nameB s = true then (if (fullB s).size ≤ 40 then .tuple #[.string (fullB s), .int .i64 0] else .tuple #[.string ⟨#[]⟩, .int .i64 2]) else .tuple #[.string ⟨#[]⟩, .int .i64 7]
theorem verOf_size (s : ByteArray) : (verOf s).size ≤ s.size + 6 := by
  unfold verOf
  split
  · have := rawV_size s; omega
  · show 6 ≤ _; omega
theorem full_nm (s : ByteArray) (w : World) (hs : s.size ≤ 1000000) (hm : MaxL w) : Calls Tryd.prog 12 #[.string s] w fun e w' => e = .returned (fullV s) ∧ Kept w w' := by
  have HR := Lib.hid (read_any s w hs hm)
  clear hm
  have h1 := pathB_size s
  have h2 := verOf_size s
  cases h : nameB s with
  | true =>
    rw [readV_good s h] at HR
    obtain ⟨a, ha⟩ : ∃ a, pathB s ++ ⟨#[58]⟩ = a := ⟨_, rfl⟩
    obtain ⟨f, hf⟩ : ∃ f, a ++ verOf s = f := ⟨_, rfl⟩
    have has : a.size = (pathB s).size + 1 := by rw [← ha, ByteArray.size_append]; rfl
    have hA : ∀ w : World, (Op.stringOp .add (pathB s) ⟨#[58]⟩).run Tryd.prog w = .ok (.string a) w := fun w => by rw [← ha]; exact run_string_add_sum _ _ _ (by show (pathB s).size + 1 ≤ _; omega)
    have hB : ∀ w : World, (Op.stringOp .add a (verOf s)).run Tryd.prog w = .ok (.string f) w := fun w => by rw [← hf]; exact run_string_add_sum _ _ _ (by omega)
    have hff : fullB s = f := by unfold fullB; rw [ha, hf]
    have hfs : f.size ≤ 2000010 := by rw [← hf, ByteArray.size_append]; omega
    have HFV := Lib.hid (show fullV s = if f.size ≤ 40 then .tuple #[.string f, .int .i64 0] else .tuple #[.string ⟨#[]⟩, .int .i64 2] by unfold fullV; rw [if_pos h, hff])
    clear h ha hf has hff h1 h2
    by_cases h40 : f.size ≤ 40
    · rw [HFV.out, if_pos h40]
      have hd : decide ((40 : Int) < f.size) = false := decide_eq_false (by omega)
      go_enter Tryd.func12, Tryd.ntmps12
      go_wp2_with fail
      refine (HR.out).mono ?_
      rintro e w1 ⟨rfl, hk⟩
      have HK := Lib.hid hk
      clear hk
      go_wp2
      go_ret2
      exact ⟨rfl, HK.out⟩
    · rw [HFV.out, if_neg h40]
      have hd : decide ((40 : Int) < f.size) = true := decide_eq_true (by omega)
      go_enter Tryd.func12, Tryd.ntmps12
      go_wp2_with fail
      refine (HR.out).mono ?_
      rintro e w1 ⟨rfl, hk⟩
      have HK := Lib.hid hk
      clear hk
      go_wp2
      go_ret2
      exact ⟨rfl, HK.out⟩
  | false =>
    rw [readV_bad s h] at HR
    rw [show fullV s = .tuple #[.string ⟨#[]⟩, .int .i64 7] by unfold fullV; rw [h]; rfl]
    clear h
    go_enter Tryd.func12, Tryd.ntmps12
    go_wp2_with fail
    refine (HR.out).mono ?_
    rintro e w1 ⟨rfl, hk⟩
    have HK := Lib.hid hk
    clear hk
    go_wp2
    go_ret2
    exact ⟨rfl, HK.out⟩
theorem cntN_is (l : List UInt8) (n : Nat) (h1 : posN l n ≤ l.length) (h2 : ¬ posN l (n + 1) ≤ l.length) : cntN l = n + 1 := by
  have a := (cntN_lt l n).2 h1
  have b : ¬ n + 1 < cntN l := fun h => h2 ((cntN_lt l _).1 h)
  omega
def abB : ByteArray := ⟨#[97, 47, 98]⟩
theorem ab_split : splitV abB = .tuple #[.string abB, .string latB, .int .i64 0] := by
  have hh : hasB abB = false := by decide
  have hp := pathB_all abB hh
  have hv : verOf abB = latB := by unfold verOf; rw [if_neg (by rw [hh]; exact Bool.false_ne_true)]
  have hl : abB.data.toList = [97, 47, 98] := rfl
  have hn : nameB abB = true := by
    rw [nameB_ver, hv]
    unfold goodP
    rw [hp, hl, cntN_is _ 1 (by decide) (by decide)]
    decide
  unfold splitV
  rw [if_pos hn, hp, hv]
theorem wakes19_any (w : World) (hm : MaxL w) : Calls Tryd.prog 17 #[] w fun e w' => e = .returned (.bool true) ∧ Kept w w' := by
  have hs := split_nm abB w (by decide) hm
  rw [ab_split] at hs
  have HS := Lib.hid hs
  clear hs hm
  go_enter Tryd.func17, Tryd.ntmps17
  go_wp2_with fail
  refine (HS.out).mono ?_
  rintro e w1 ⟨rfl, hk⟩
  have HK := Lib.hid hk
  have e1 : (abB.toList == [97, 47, 98]) = true := by rw [← toList_data]; rfl
  have e2 : (latB.toList == [108, 97, 116, 101, 115, 116]) = true := by rw [← toList_data]; rfl
  have e1' : abB.toList = [97, 47, 98] := by rw [← toList_data]; rfl
  have e2' : latB.toList = [108, 97, 116, 101, 115, 116] := by rw [← toList_data]; rfl
  clear hk
  go_wp2_with fail
  refine (num19_any _ _).mono ?_
  rintro e w2 ⟨rfl, rfl⟩
  go_wp2
  go_ret
  exact ⟨rfl, HK.out⟩
theorem same_nm (s : ByteArray) (w : World) (hs : s.size ≤ 1000000) (hm : MaxL w) : Calls Tryd.prog 20 #[.string s] w fun e w' => e = .returned (.bool true) ∧ Kept w w' := by
  have HC := Lib.hid (fun w' (k : Kept w w') => check_nm s w' hs (hm.kept k))
  have HN := Lib.hid (name_ref s w hs)
  clear hm
  go_enter Tryd.func20, Tryd.ntmps20
  go_wp2_with fail
  refine (HN.out).mono ?_
  rintro e w1 ⟨hr, hk⟩
  have HK := Lib.hid hk
  clear hk
  rcases hr with ⟨hn, a, cap, rfl, _, _⟩ | ⟨hn, rfl⟩
  · have hcv : checkV s = 0 := by unfold checkV; rw [if_pos hn]
    rw [hcv] at HC
    clear hn hcv
    go_wp2_with fail
    refine (HC.out _ HK.out).mono ?_
    rintro e w2 ⟨rfl, hk⟩
    have HK2 := Lib.hid (HK.out.trans hk)
    clear hk
    go_wp2_with fail
    refine (num19_any _ _).mono ?_
    rintro e w3 ⟨rfl, rfl⟩
    go_wp2
    go_ret
    exact ⟨rfl, HK2.out⟩
  · have hcv : checkV s = 7 := by unfold checkV; rw [if_neg (by rw [hn]; exact Bool.false_ne_true)]
    rw [hcv] at HC
    clear hn hcv
    go_wp2_with fail
    refine (HC.out _ HK.out).mono ?_
    rintro e w2 ⟨rfl, hk⟩
    have HK2 := Lib.hid (HK.out.trans hk)
    clear hk
    go_wp2_with fail
    refine (num19_any _ _).mono ?_
    rintro e w3 ⟨rfl, rfl⟩
    go_wp2
    go_ret
    exact ⟨rfl, HK2.out⟩
end Go.Proofs.YtjiefcjjgadjiaaDoor
