/- names.between, part and version; the reference's part and version (texts no longer than a text may be). -/
import Derived.Test.YtjiefcjjgadjiaaDoorNmP
namespace Go.Proofs.YtjiefcjjgadjiaaDoor
open Go.RowKit Go.Shelf
theorem toList_data (u : ByteArray) : u.data.toList = u.toList := by simp [ByteArray.toList_eq]
theorem mem_dropWhile {α : Type} {p : α → Bool} {x : α} (hx : p x = false) : ∀ l : List α, x ∈ l → x ∈ l.dropWhile p
  | y :: l, h => by
    rw [List.dropWhile_cons]
    by_cases hy : p y = true
    · rw [if_pos hy]
      refine mem_dropWhile hx l ((List.mem_cons.1 h).resolve_left (fun e => ?_))
      rw [e, hy] at hx
      cases hx
    · rw [if_neg hy]; exact h
theorem trim_empty (l : List UInt8) (c : UInt8) : (Lib.trimB l c).isEmpty = l.all (· == c) := by
  cases h : l.all (· == c) with
  | true =>
    have hall := List.all_eq_true.1 h
    have h0 : ∀ k : List UInt8, (∀ x ∈ k, (x == c) = true) → k.dropWhile (· == c) = [] := fun k => by
      induction k with
      | nil => intro _; rfl
      | cons y k ih => intro hk; rw [List.dropWhile_cons, if_pos (hk y (List.mem_cons_self ..))]; exact ih (fun x hx => hk x (List.mem_cons_of_mem _ hx))
    unfold Lib.trimB Lib.trimLeftB Lib.trimRightB
    rw [h0 l.reverse (fun x hx => hall x (List.mem_reverse.1 hx))]
    rfl
  | false =>
    obtain ⟨x, hx, hp⟩ := List.all_eq_false.1 h
    have hp' : (x == c) = false := by simpa using hp
    have h1 : x ∈ Lib.trimB l c := mem_dropWhile (p := (· == c)) hp' _ (List.mem_reverse.2 (mem_dropWhile (p := (· == c)) hp' _ (List.mem_reverse.2 hx)))
    cases e : Lib.trimB l c with
    | nil => rw [e] at h1; cases h1
    | cons y k => rfl
set_option maxHeartbeats 1000000 in
theorem between_nm (u : ByteArray) (w : World) (hu : u.size ≤ 9223372036854775807) : Calls Tryd.prog 39 #[.string u] w fun e w' => e = .returned (.bool (okRun u.data.toList)) ∧ Kept w w' := by
  have hT := Tryd.strings_Trim_one u 45 (by decide) w hu
  have hdash := trim_empty u.data.toList 45
  rw [toList_data] at hT hdash ⊢
  obtain ⟨t, ht⟩ : ∃ t : ByteArray, (⟨(Lib.trimB u.toList 45).toArray⟩ : ByteArray) = t := ⟨_, rfl⟩
  have htl : t.toList.isEmpty = u.toList.all (· == 45) := by rw [← hdash, ← toList_data, ← ht]
  rw [ht] at hT
  have HT := Lib.hid hT
  clear hT ht hdash hu
  generalize hl : u.toList = l at htl ⊢
  have HR := Lib.hid (show okRun l = (l == [46] || l == [95] || l == [95, 95] || l.all (· == 45)) from rfl)
  cases e0 : l.isEmpty with
  | true =>
    obtain rfl : l = [] := List.isEmpty_iff.1 e0
    have e1 : u.toList.isEmpty = true := by rw [hl]; rfl
    clear HR htl hl e0
    go_enter Tryd.func39, Tryd.ntmps39
    go_wp2
    go_ret
    exact ⟨rfl, Kept.refl _⟩
  | false =>
    have f0 : u.toList.isEmpty = false := by rw [hl]; exact e0
    cases e1 : (l == [46]) with
    | true =>
      rw [HR.out, e1]
      have f1 : (u.toList == [46]) = true := by rw [hl]; exact e1
      clear HR htl hl e0
      (try clear e1)
      (try clear e2)
      (try clear e3)
      go_enter Tryd.func39, Tryd.ntmps39
      go_wp2
      go_ret
      exact ⟨rfl, Kept.refl _⟩
    | false =>
      have f1 : (u.toList == [46]) = false := by rw [hl]; exact e1
      cases e2 : (l == [95]) with
      | true =>
        rw [HR.out, e1, e2]
        have f2 : (u.toList == [95]) = true := by rw [hl]; exact e2
        clear HR htl hl e0
        (try clear e1)
        (try clear e2)
        (try clear e3)
        go_enter Tryd.func39, Tryd.ntmps39
        go_wp2
        go_ret
        exact ⟨rfl, Kept.refl _⟩
      | false =>
        have f2 : (u.toList == [95]) = false := by rw [hl]; exact e2
        cases e3 : (l == [95, 95]) with
        | true =>
          rw [HR.out, e1, e2, e3]
          have f3 : (u.toList == [95, 95]) = true := by rw [hl]; exact e3
          clear HR htl hl e0
          (try clear e1)
          (try clear e2)
          (try clear e3)
          go_enter Tryd.func39, Tryd.ntmps39
          go_wp2
          go_ret
          exact ⟨rfl, Kept.refl _⟩
        | false =>
          have f3 : (u.toList == [95, 95]) = false := by rw [hl]; exact e3
          rw [HR.out, e1, e2, e3, Bool.false_or, Bool.false_or, Bool.false_or, ← htl]
          clear HR htl hl e0 e1 e2 e3
          generalize hte : t.toList.isEmpty = b
          go_enter Tryd.func39, Tryd.ntmps39
          go_wp2_with fail
          refine (HT.out).mono ?_
          rintro e w' ⟨rfl, hw⟩
          have HK := Lib.hid (show Kept w w' by rcases hw with rfl | rfl; exact Kept.refl _; exact (Kept.refl _).drew)
          clear hw f0 f1 f2 f3
          go_wp2
          go_ret
          exact ⟨rfl, HK.out⟩
theorem partB_false1 (l : List UInt8) (h : plB (l.getD 0 0) = false) : partB l = false := by unfold partB; rw [h, Bool.false_and, Bool.and_false]
theorem partB_false2 (l : List UInt8) (h : plB (l.getD (l.length - 1) 0) = false) : partB l = false := by unfold partB; rw [h, Bool.false_and, Bool.and_false, Bool.and_false]
theorem partB_false3 (l : List UInt8) (h : runsOk [] l = false) : partB l = false := by unfold partB; rw [h, Bool.and_false, Bool.and_false, Bool.and_false]
theorem partB_true (l : List UInt8) (h0 : l ≠ []) (h1 : plB (l.getD 0 0) = true) (h2 : plB (l.getD (l.length - 1) 0) = true) (h3 : runsOk [] l = true) : partB l = true := by unfold partB; rw [h1, h2, h3, decide_eq_true h0]; rfl
set_option maxRecDepth 100000 in
set_option maxHeartbeats 2000000 in
theorem part_nm (u : ByteArray) (w : World) (hu : u.size ≤ 9223372036854775807) : Calls Tryd.prog 32 #[.string u] w fun e w' => e = .returned (.bool (partB u.data.toList)) ∧ Kept w w' := by
  have hln : u.data.toList.length = u.size := rfl
  have HLN := Lib.hid hln
  by_cases h0 : 0 < u.size
  · have hne : u.toList.isEmpty = false := by
      rw [← toList_data]
      cases hc : u.data.toList with
      | nil => rw [hc] at hln; simp at hln; omega
      | cons x k => rfl
    have hu0 : 0 < u.size := by omega
    obtain ⟨m, hm⟩ : ∃ m, m = u.size - 1 := ⟨_, rfl⟩
    have hmu : m < u.size := by omega
    have hmi : (u.size : Int) - 1 = (m : Int) := by omega
    have HB0 := Lib.hid (byte_of u 0 hu0)
    have HB1 := Lib.hid (show u[m] = u.data.toList.getD (u.data.toList.length - 1) 0 by rw [byte_of u m hmu, hln, hm])
    have HBI := Lib.hid (fun i (h : i < u.size) => byte_of u i h)
    have HNE := Lib.hid (show u.data.toList ≠ [] from fun e => by rw [e] at hln; simp at hln; omega)
    clear hln hm
    cases hp0 : plB u[0] with
    | false =>
      have HP := Lib.hid (partB_false1 u.data.toList (by rw [← HB0.out]; exact hp0))
      go_enter Tryd.func32, Tryd.ntmps32
      go_wp2_with fail
      go_step3
      go_wp2_with fail
      refine (plain_any _ _).mono ?_
      rintro e w' ⟨rfl, rfl⟩
      go_wp2
      rw [Exit.noGoto_ret]
      go_ret
      rw [HP.out]
      exact ⟨rfl, Kept.refl _⟩
    | true =>
      cases hp1 : plB u[m] with
      | false =>
        have HP := Lib.hid (partB_false2 u.data.toList (by rw [← HB1.out]; exact hp1))
        go_enter Tryd.func32, Tryd.ntmps32
        go_wp2_with fail
        go_step3
        go_wp2_with fail
        refine (plain_any _ _).mono ?_
        rintro e w' ⟨rfl, rfl⟩
        go_wp2_with fail
        refine (plain_any _ _).mono ?_
        rintro e w' ⟨rfl, rfl⟩
        go_wp2
        rw [Exit.noGoto_ret]
        go_ret
        rw [HP.out]
        exact ⟨rfl, Kept.refl _⟩
      | true =>
        go_enter Tryd.func32, Tryd.ntmps32
        go_wp2_with fail
        go_step3
        go_wp2_with fail
        refine (plain_any _ _).mono ?_
        rintro e w' ⟨rfl, rfl⟩
        go_wp2_with fail
        refine (plain_any _ _).mono ?_
        rintro e w' ⟨rfl, rfl⟩
        have HQ0 := Lib.hid (show plB (u.data.toList.getD 0 0) = true by rw [← HB0.out]; exact hp0)
        have HQ1 := Lib.hid (show plB (u.data.toList.getD (u.data.toList.length - 1) 0) = true by rw [← HB1.out]; exact hp1)
        rw [hp1]
        clear hp0 hp1 hmi hne
        go_wp2_with fail
        go_step3
        go_wp2_with fail
        go_loopw [3, 24] (fun f i wr => ∃ f' i' : Nat, f' ≤ i' ∧ i' ≤ u.size ∧ f = .int .i64 f' ∧ i = .int .i64 i' ∧ runsOk [] u.data.toList = runsOk (seg u.data.toList f' i') (u.data.toList.drop i') ∧ Kept w wr) (fun _ i _ => u.size - (intOf i).toNat)
        case atStart => exact ⟨0, 0, by omega, by omega, rfl, rfl, by rw [seg_nil, List.drop_zero], Kept.refl _⟩
        case round =>
          obtain ⟨f, i, hfi, hin, rfl, rfl, hru, hk⟩ := hrel
          have HK := Lib.hid hk
          have HRU := Lib.hid hru
          clear hk hru
          by_cases hlt : i < u.size
          · have hiu : i < u.size := by omega
            have hd1 : decide (i < u.size) = true := decide_eq_true hiu
            have hdr := drop_at u.data.toList i (by rw [HLN.out]; exact hlt)
            have hbi := HBI.out i hiu
            have hss := seg_snoc u.data.toList f i hfi (by rw [HLN.out]; exact hlt)
            cases hp : plB u[i] with
            | false =>
              have HNX := Lib.hid (show runsOk [] u.data.toList = runsOk (seg u.data.toList f (i + 1)) (u.data.toList.drop (i + 1)) by
                rw [HRU.out, hdr, ← hbi, runsOk_other _ _ _ hp, hss, ← hbi])
              clear hdr hbi hss
              go_wp2_with fail
              refine (plain_any _ _).mono ?_
              rintro e w' ⟨rfl, rfl⟩
              go_wp2
              go_roundw
              case rel => exact ⟨f, i + 1, by omega, by omega, rfl, by go_num, HNX.out, HK.out⟩
              case measure => simp [intOf]; omega
            | true =>
              have hrn : runsOk [] u.data.toList = (okRun (seg u.data.toList f i) && runsOk [] (u.data.toList.drop (i + 1))) := by
                rw [HRU.out, hdr, ← hbi, runsOk_letter _ _ _ hp]
              have HRN := Lib.hid hrn
              have hbt := fun w => between_nm (u.extract f i) w (by rw [ByteArray.size_extract]; omega)
              rw [seg_of] at hbt
              generalize okRun (seg u.data.toList f i) = ok at hbt HRN
              have HBT := Lib.hid hbt
              clear hdr hbi hss hrn hbt
              go_wp2_with fail
              refine (plain_any _ _).mono ?_
              rintro e w' ⟨rfl, rfl⟩
              go_wp2_with fail
              refine (HBT.out _).mono ?_
              rintro e w5 ⟨rfl, hk5⟩
              have HK5 := Lib.hid (HK.out.trans hk5)
              clear hk5
              cases ok with
              | false =>
                have HP := Lib.hid (partB_false3 u.data.toList (by rw [HRN.out]; rfl))
                go_wp2
                rw [Exit.noGoto_ret]
                go_ret
                rw [HP.out]
                exact ⟨rfl, HK5.out⟩
              | true =>
                go_wp2
                go_roundw
                case rel => exact ⟨i + 1, i + 1, by omega, by omega, by go_num, by go_num, by rw [seg_nil, HRN.out, Bool.true_and], HK5.out⟩
                case measure => simp [intOf]; omega
          · obtain rfl : i = u.size := by omega
            have hd1 : decide (u.size < u.size) = false := decide_eq_false (by omega)
            have HP := Lib.hid (partB_true u.data.toList HNE.out HQ0.out HQ1.out (by rw [HRU.out, List.drop_of_length_le (by rw [HLN.out]; omega), runsOk_nil]))
            go_wp2
            rw [Exit.noGoto_ret]
            go_ret
            rw [HP.out]
            exact ⟨rfl, HK.out⟩
  · have hl0 : u.data.toList = [] := List.length_eq_zero_iff.1 (by omega)
    have hne : u.toList.isEmpty = true := by rw [← toList_data, hl0]; rfl
    rw [hl0, show partB [] = false from rfl]
    clear hl0 HLN hln h0
    go_enter Tryd.func32, Tryd.ntmps32
    go_wp2_with fail
    go_step3
    go_wp2
    rw [Exit.noGoto_ret]
    go_ret
    exact ⟨rfl, Kept.refl _⟩
end Go.Proofs.YtjiefcjjgadjiaaDoor
