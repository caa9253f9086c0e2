/- The walk of the law DigestOf: it answers true and changes nothing that was there (no condition but that both tables lie as they are laid). -/
import Derived.Test.YtldfamccobcpjaaDoorBl13
import Derived.Test.YtldfamccobcpjaaDoorAsk6
namespace Go.Proofs.YtldfamccobcpjaaDoor
open Go.RowKit Go.Shelf
attribute [local go_sem] Oper.semAt_some
set_option maxRecDepth 100000 in
set_option maxHeartbeats 2000000 in
theorem digestOf_walk {W : World} {v : Value} {a : Option Addr} {l cap : Nat} {ss : List ByteArray} (h : AskS W v a l cap ss) (hB : Begins W) (hO : Orders W) :
    Calls Tryd.prog 3 #[v] W fun e W' => e = .returned (.bool true) ∧ Below W.heap.size W W' := by
  obtain ⟨rfl, hT⟩ := h
  have k1 : Kept W (W.alloc (.cells #[.slice a l cap] 24)) := (Kept.refl W).alloc _
  have HB := Lib.hid (BlockAt.new W #[.slice a l cap] 24)
  have HT := Lib.hid (hT.kept k1)
  have HBG := Lib.hid (hB.kept k1)
  have HOR := Lib.hid (hO.kept k1)
  have HK1 := Lib.hid k1
  clear hT k1 hB hO
  go_enter Tryd.func3, Tryd.ntmps3
  go_wp2_with fail
  generalize W.alloc (.cells #[.slice a l cap] 24) = w0 at *
  have a0 := box1 HB.out
  go_wp2_with fail
  refine (heavy6_any _ _ _ ss _ HT.out).mono ?_
  rintro e w1 ⟨hbv, hk⟩
  have HB1 := Lib.hid (HB.out.kept hk)
  have HT1 := Lib.hid (HT.out.kept hk)
  have HBG1 := Lib.hid (HBG.out.kept hk)
  have HOR1 := Lib.hid (HOR.out.kept hk)
  have HK2 := Lib.hid (HK1.out.trans hk)
  clear hk HB HT HBG HOR HK1 a0
  rcases hbv with rfl | ⟨rfl, hl6, hs6⟩
  · go_wp2
    go_ret
    exact ⟨rfl, HK2.out⟩
  have HS6 := Lib.hid hs6
  clear hs6
  go_wp2_with fail
  go_loopw [3] (fun i wr => ∃ k : Nat, k ≤ 6 ∧ i = .int .i64 k ∧ Kept w1 wr) (fun i _ => 6 - (intOf i).toNat)
  case atStart => exact ⟨0, by omega, rfl, Kept.refl _⟩
  case round =>
    obtain ⟨k, hk, rfl, hK⟩ := hrel
    have HK := Lib.hid hK
    clear hK
    have a0 := box1 (HB1.out.kept HK.out)
    have hend : Calls Tryd.prog 9 #[.string ⟨#[97, 98, 99]⟩] wr fun e w' => e = .returned (.string (dg [97, 98, 99])) ∧ Kept wr w' := of_any ⟨#[97, 98, 99]⟩ (by decide) wr (HBG1.out.kept HK.out) (HOR1.out.kept HK.out)
    rw [dg_abc] at hend
    have HEND := Lib.hid hend
    clear hend
    by_cases hin : k < l ∧ k < 6
    · as_aux_lemma =>
        obtain ⟨hlt, h6⟩ := hin
        obtain ⟨b, off, rfl, hc⟩ := HT1.out.cell (by omega)
        have hcell := hc k hlt wr HK.out
        have hs := HS6.out k hlt
        have hd1 : decide ((k : Int) < l) = true := decide_eq_true (by omega)
        have hd6 : decide ((k : Int) < 6) = true := decide_eq_true (by omega)
        generalize ss.getD k ByteArray.empty = s at hcell hs
        clear hc
        obtain ⟨D, hD⟩ : ∃ D, D = dg s.data.toList := ⟨_, rfl⟩
        obtain ⟨x, hx⟩ : ∃ x, x = rowsI s.size := ⟨_, rfl⟩
        have hof : ∀ u : Later wr, Calls Tryd.prog 9 #[.string s] u.1 fun e w' => e = .returned (.string D) ∧ Kept u.1 w' := fun u => by rw [hD]; exact of_any s (by omega) u.1 ((HBG1.out.kept HK.out).kept u.2) ((HOR1.out.kept HK.out).kept u.2)
        have hdg : ∀ u : Later wr, Calls Tryd.prog 10 #[.string s] u.1 fun e w' => e = .returned (.string D) ∧ Kept u.1 w' := fun u => by rw [hD]; exact rdigest_any s (by omega) u.1
        have hrw : ∀ u : Later wr, Calls Tryd.prog 11 #[.string s] u.1 fun e w' => e = .returned (.int .i64 x) ∧ u.1 = w' := fun u => by rw [hx]; exact (rows_any s (by omega) u.1).mono fun _ _ ⟨p, q⟩ => ⟨p, q.symm⟩
        have hbl : ∀ u : Later wr, Calls Tryd.prog 12 #[.string s] u.1 fun e w' => e = .returned (.int .i64 x) ∧ u.1 = w' := fun u => by rw [hx]; exact (blocksn_any s (by omega) u.1).mono fun _ _ ⟨p, q⟩ => ⟨p, q.symm⟩
        have HOF := Lib.hid hof
        have HDG := Lib.hid hdg
        have HRW := Lib.hid hrw
        have HBL := Lib.hid hbl
        have la := later_cell a0
        have lc := later_cell hcell
        clear hof hdg hrw hbl hD hx hs
        go_wp2_with fail
        refine region_later (by kernel_rfl) (by kernel_rfl) ?_
        repeat (go_big_quiet_step (first | (go_at_call 9; exact later_call (HOF.out _)) | (go_at_call 10; exact later_call (HDG.out _)) | (go_at_call 11; exact later_same (HRW.out _)) | (go_at_call 12; exact later_same (HBL.out _))))
        refine wpQuiet_nil ?_
        intro _ hw'
        obtain ⟨nq, hw''⟩ := hw'
        subst hw''
        have HKn := Lib.hid (HK.out.trans nq.2)
        obtain ⟨w9, hw9⟩ : ∃ w9, w9 = nq.1 := ⟨_, rfl⟩
        rw [← hw9] at HKn ⊢
        clear hw9 la lc
        go_wp2
        go_roundw
        case rel => exact ⟨k + 1, by omega, by go_num, HKn.out⟩
        case measure => simp [intOf]; omega
    · as_aux_lemma =>
        have hwk : ∀ w, Kept wr w → Calls Tryd.prog 13 #[] w fun e w' => e = .returned (.bool true) ∧ Kept w w' := fun w q => wakes6_any w ((HBG1.out.kept HK.out).kept q) ((HOR1.out.kept HK.out).kept q)
        have HWK := Lib.hid hwk
        clear hwk
        have hout : (¬ k < l) ∨ (k < l ∧ ¬ k < 6) := by
          by_cases q : k < l
          · exact .inr ⟨q, fun r => hin ⟨q, r⟩⟩
          · exact .inl q
        clear hin
        rcases hout with hnl | ⟨hlt, hn6⟩
        all_goals
          go_wp2_with fail
          refine HEND.out.mono ?_
          rintro e w5 ⟨rfl, k5⟩
          have HK5 := Lib.hid k5
          clear k5
          go_wp2_with fail
          refine (HWK.out _ HK5.out).mono ?_
          rintro e w6 ⟨rfl, k6⟩
          have HK6 := Lib.hid (((HK2.out.trans HK.out).trans HK5.out).trans k6)
          clear k6
          go_wp2
          go_ret
          exact ⟨rfl, HK6.out⟩
end Go.Proofs.YtldfamccobcpjaaDoor
