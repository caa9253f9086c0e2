/- The walk of the law DigestFeeds: it answers true and changes nothing that was there (no condition but that both tables lie as they are laid). -/
import Derived.Test.YtldfamccobcpjaaDoorBl13
import Derived.Test.YtldfamccobcpjaaDoorAsk6
namespace Go.Proofs.YtldfamccobcpjaaDoor
open Go.RowKit Go.Shelf
attribute [local go_sem] Oper.semAt_some
set_option maxRecDepth 100000 in
set_option maxHeartbeats 2000000 in
theorem digestFeeds_walk {W : World} {v : Value} {a : Option Addr} {l cap : Nat} {ss : List ByteArray} (h : AskS W v a l cap ss) (hB : Begins W) (hO : Orders W) :
    Calls Tryd.prog 5 #[v] W fun e W' => e = .returned (.bool true) ∧ Below W.heap.size W W' := by
  obtain ⟨rfl, hT⟩ := h
  have k1 : Kept W (W.alloc (.cells #[.slice a l cap] 24)) := (Kept.refl W).alloc _
  have HB := Lib.hid (BlockAt.new W #[.slice a l cap] 24)
  have HT := Lib.hid (hT.kept k1)
  have HBG := Lib.hid (hB.kept k1)
  have HOR := Lib.hid (hO.kept k1)
  have HK1 := Lib.hid k1
  clear hT k1 hB hO
  go_enter Tryd.func5, Tryd.ntmps5
  go_wp2_with fail
  generalize W.alloc (.cells #[.slice a l cap] 24) = w0 at *
  have a0 := box1 HB.out
  go_wp2_with fail
  refine (heavy6_any _ _ _ ss _ HT.out).mono ?_
  rintro e w1 ⟨hbv, hk⟩
  have HB1 := Lib.hid (HB.out.kept hk)
  have HT1 := Lib.hid (HT.out.kept hk)
  have HBG1 := Lib.hid (HBG.out.kept hk)
  have HOR1 := Lib.hid (HOR.out.kept hk)
  have HK2 := Lib.hid (HK1.out.trans hk)
  clear hk HB HT HBG HOR HK1 a0
  rcases hbv with rfl | ⟨rfl, hl6, hs6⟩
  · go_wp2
    go_ret
    exact ⟨rfl, HK2.out⟩
  have HS6 := Lib.hid hs6
  clear hs6
  go_wp2_with fail
  refine (new_any _).mono ?_
  rintro e w2 ⟨rfl, hh2, hk2⟩
  obtain ⟨hb, hhb⟩ : ∃ hb, hb = w1.heap.size := ⟨_, rfl⟩
  rw [← hhb] at hh2 ⊢
  have hg1 : hb ≠ 0 := by have := HBG1.out.lt; omega
  have hg2 : hb ≠ 1 := by have := HOR1.out.lt; omega
  have HHB := Lib.hid hhb
  have HH2 := Lib.hid hh2
  have HK12 := Lib.hid hk2
  obtain ⟨A0, hA0⟩ : ∃ A0 : ByteArray, A0 = ⟨#[]⟩ := ⟨_, rfl⟩
  have HA0 := Lib.hid hA0
  clear hh2 hk2 hhb hA0
  go_wp2_with fail
  rw [← HA0.out]
  have hz0 : A0.size ≤ 0 := by rw [HA0.out]; exact Nat.le_refl _
  have HA1 := Lib.hid (show A0.data.toList = [] by rw [HA0.out])
  go_loopw [4, 5] (fun av i wr => ∃ (k : Nat) (A : ByteArray), k ≤ 12 ∧ i = .int .i64 k ∧ av = .string A ∧ A.size ≤ 72000 ∧ A.size ≤ 6000 * k ∧ HashAt wr hb A.data.toList ∧ Kept w1 wr) (fun _ i _ => 12 - (intOf i).toNat)
  case atStart => exact ⟨0, A0, by omega, rfl, rfl, by omega, by omega, by rw [HA1.out]; exact HH2.out, HK12.out⟩
  case round =>
    obtain ⟨k, A, hk, rfl, rfl, hA7, hA6, hH, hK⟩ := hrel
    have HK := Lib.hid hK
    have HH := Lib.hid hH
    clear hH hK
    have a0 := box1 (HB1.out.kept HK.out)
    have HBGr := Lib.hid (HBG1.out.kept HK.out)
    have HORr := Lib.hid (HOR1.out.kept HK.out)
    by_cases hin : k < l ∧ k < 12
    · as_aux_lemma =>
        obtain ⟨hlt, h12⟩ := hin
        obtain ⟨b, off, rfl, hc⟩ := HT1.out.cell (by omega)
        have hcell := hc k hlt wr HK.out
        have HC := Lib.hid hc
        have hs := HS6.out k hlt
        generalize hsd : ss.getD k ByteArray.empty = s at hcell hs
        clear hc
        have HSD := Lib.hid hsd
        have HA6 := Lib.hid hA6
        have HW := Lib.hid (write_any A.data.toList s hb wr HH.out (by rw [Array.length_toList]; show A.size + s.size ≤ _; omega) HBGr.out HORr.out hg1 hg2)
        clear hsd hA6
        go_wp2_with fail
        refine HW.out.mono ?_
        rintro e w5 ⟨rfl, hh5, hgr5⟩
        have hkk : Kept w1 w5 := HK.out.gr hgr5 (fun k e => by cases e; exact Nat.le_of_eq HHB.out.symm)
        have b0 := box1 (HB1.out.kept hkk)
        have bcell := HC.out k hlt w5 hkk
        rw [HSD.out] at bcell
        obtain ⟨B, hBB⟩ : ∃ B, B = A ++ s := ⟨_, rfl⟩
        have hbs : B.size = A.size + s.size := by rw [hBB, ByteArray.size_append]
        have hbl : A.data.toList ++ s.data.toList = B.data.toList := by rw [hBB, ByteArray.data_append, Array.toList_append]
        rw [hbl] at hh5
        have hadd : ∀ u : World, (Op.stringOp .add A s).run Tryd.prog u = .ok (.string B) u := fun u => by
          rw [hBB]
          exact run_string_add_sum _ _ _ (by omega)
        have hb7 : B.size ≤ 72000 := by have := HA6.out; omega
        have hb6 : B.size ≤ 6000 * (k + 1) := by have := HA6.out; omega
        obtain ⟨D, hD⟩ : ∃ D, D = dg B.data.toList := ⟨_, rfl⟩
        have HBG5 := Lib.hid (HBGr.out.gr hgr5 hg1)
        have HOR5 := Lib.hid (HORr.out.gr hgr5 hg2)
        have HLN := Lib.hid (show ∀ w, Kept w5 w → Calls Tryd.prog 16 #[.pointer (some ⟨hb, 0, none⟩)] w fun e w' => e = .returned (.int .i64 B.size) ∧ w' = w from fun w q => by
          have r := len_any B.data.toList hb w (BlockAt.kept hh5 q)
          rw [Array.length_toList] at r
          exact r)
        have HSM := Lib.hid (show ∀ w, Kept w5 w → Calls Tryd.prog 17 #[.pointer (some ⟨hb, 0, none⟩)] w fun e w' => e = .returned (.string D) ∧ Kept w w' from fun w q => by
          rw [hD]
          exact sum_any B.data.toList hb w (BlockAt.kept hh5 q) (by rw [Array.length_toList]; show B.size ≤ _; omega) (HBG5.out.kept q) (HOR5.out.kept q))
        have HRD := Lib.hid (show ∀ w, Calls Tryd.prog 10 #[.string B] w fun e w' => e = .returned (.string D) ∧ Kept w w' from fun w => by
          rw [hD]
          exact rdigest_any B (by omega) w)
        have HOF := Lib.hid (show ∀ w, Kept w5 w → Calls Tryd.prog 9 #[.string B] w fun e w' => e = .returned (.string D) ∧ Kept w w' from fun w q => by
          rw [hD]
          exact of_any B (by omega) w (HBG5.out.kept q) (HOR5.out.kept q))
        have HKK := Lib.hid hkk
        have HH5 := Lib.hid hh5
        have HB6 := Lib.hid hb6
        have HB7 := Lib.hid hb7
        clear hkk hgr5 hh5 hBB hbs hbl hD hb6 HW a0 hcell hA7 hs hb7
        go_wp2_with fail
        refine (HLN.out _ (Kept.refl _)).mono ?_
        rintro e w6 ⟨rfl, rfl⟩
        go_wp2_with fail
        refine (HSM.out _ (Kept.refl _)).mono ?_
        rintro e w7 ⟨rfl, k7⟩
        have K7 := Lib.hid k7
        clear k7 b0 bcell hadd
        go_wp2_with fail
        refine (HRD.out _).mono ?_
        rintro e w8 ⟨rfl, k8⟩
        have K8 := Lib.hid (K7.out.trans k8)
        clear k8 K7
        go_wp2_with fail
        refine (HSM.out _ K8.out).mono ?_
        rintro e w9 ⟨rfl, k9⟩
        have K9 := Lib.hid (K8.out.trans k9)
        clear k9 K8
        go_wp2_with fail
        refine (HOF.out _ K9.out).mono ?_
        rintro e w10 ⟨rfl, k10⟩
        have K10 := Lib.hid (K9.out.trans k10)
        clear k10 K9
        go_wp2
        go_roundw
        case rel => exact ⟨k + 1, B, by omega, by go_num, rfl, HB7.out, HB6.out, BlockAt.kept HH5.out K10.out, HKK.out.trans K10.out⟩
        case measure => simp [intOf]; omega
    · as_aux_lemma =>
        obtain ⟨D, hD⟩ : ∃ D, D = dg A.data.toList := ⟨_, rfl⟩
        have HLN := Lib.hid (show ∀ w, Kept wr w → Calls Tryd.prog 16 #[.pointer (some ⟨hb, 0, none⟩)] w fun e w' => e = .returned (.int .i64 A.size) ∧ w' = w from fun w q => by
          have r := len_any A.data.toList hb w (BlockAt.kept HH.out q)
          rw [Array.length_toList] at r
          exact r)
        have HSM := Lib.hid (show ∀ w, Kept wr w → Calls Tryd.prog 17 #[.pointer (some ⟨hb, 0, none⟩)] w fun e w' => e = .returned (.string D) ∧ Kept w w' from fun w q => by
          rw [hD]
          exact sum_any A.data.toList hb w (BlockAt.kept HH.out q) (by rw [Array.length_toList]; show A.size ≤ _; omega) (HBGr.out.kept q) (HORr.out.kept q))
        have HRD := Lib.hid (show ∀ w, Calls Tryd.prog 10 #[.string A] w fun e w' => e = .returned (.string D) ∧ Kept w w' from fun w => by
          rw [hD]
          exact rdigest_any A (by omega) w)
        have hwk : ∀ w, Kept wr w → Calls Tryd.prog 13 #[] w fun e w' => e = .returned (.bool true) ∧ Kept w w' := fun w q => wakes6_any w (HBGr.out.kept q) (HORr.out.kept q)
        have HWK := Lib.hid hwk
        clear hwk hD hA6
        have hout : (¬ k < l) ∨ (k < l ∧ ¬ k < 12) := by
          by_cases q : k < l
          · exact .inr ⟨q, fun r => hin ⟨q, r⟩⟩
          · exact .inl q
        clear hin
        rcases hout with hnl | ⟨hlt, hn6⟩
        all_goals
          go_wp2_with fail
          refine (HLN.out _ (Kept.refl _)).mono ?_
          rintro e w6 ⟨rfl, rfl⟩
          go_wp2_with fail
          refine (HSM.out _ (Kept.refl _)).mono ?_
          rintro e w7 ⟨rfl, k7⟩
          have K7 := Lib.hid k7
          clear k7
          go_wp2_with fail
          refine (HRD.out _).mono ?_
          rintro e w8 ⟨rfl, k8⟩
          have K8 := Lib.hid (K7.out.trans k8)
          clear k8 K7
          go_wp2_with fail
          refine (HWK.out _ K8.out).mono ?_
          rintro e w9 ⟨rfl, k9⟩
          have K9 := Lib.hid ((HK2.out.trans HK.out).trans (K8.out.trans k9))
          clear k9
          go_wp2
          go_ret
          exact ⟨rfl, K9.out⟩
end Go.Proofs.YtldfamccobcpjaaDoor
