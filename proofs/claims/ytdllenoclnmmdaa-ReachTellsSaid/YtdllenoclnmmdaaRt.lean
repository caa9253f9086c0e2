/- The law ReachTells. -/
import Derived.Test.YtdllenoclnmmdaaRtU
namespace Go.Proofs.Ytdllenoclnmmdaa
open Go.RowKit Go.Shelf
attribute [local go_sem] Oper.semAt_some

theorem rtF_small {ts : List Th} (h : ∀ x ∈ ts, x.d.size ≤ 140737488351232 ∧ x.t.size ≤ 140737488351232) (q : Nat) : ∀ k, ∀ s ∈ rtF ts q k, s.size ≤ 9223372036854775807
  | 0, s, hs => by cases hs
  | k + 1, s, hs => by
    have ih := rtF_small h q k
    unfold rtF at hs
    split at hs
    · rcases List.mem_append.1 hs with hs | hs
      · exact ih s hs
      · rw [List.mem_singleton] at hs
        have := (ths_small h k).1
        rw [hs]; omega
    · exact ih s hs
theorem rootsL_small {ts : List Th} {ss : List ByteArray} (h : ∀ x ∈ ts, x.d.size ≤ 140737488351232 ∧ x.t.size ≤ 140737488351232) (hs : ∀ s ∈ ss, s.size ≤ 9223372036854775807) (q : Nat) : ∀ s ∈ rootsL ts ss q, s.size ≤ 9223372036854775807 := fun s h' => by
  unfold rootsL at h'
  rcases List.mem_append.1 h' with h' | h'
  · exact hs s h'
  · exact rtF_small h q _ s h'
set_option maxRecDepth 100000 in
set_option maxHeartbeats 8000000 in
theorem reach_tells (am : Option Addr) (lm cm : Nat) (tt : List (List Th)) (aa : Option Addr) (ls cs : Nat) (ss : List ByteArray) (wo : World) (hm : TtsIn wo am lm tt) (hs : TextsIn wo aa ls cs ss) :
    Calls Try.prog 4 #[.agg #[.slice am lm cm, .slice aa ls cs]] wo fun e w' => e = .returned (.bool true) ∧ Kept wo w' := by
  have HMS := Lib.hid hm
  have HSS := Lib.hid hs
  have hlm := hm.few
  have HB0 := Lib.hid (BlockAt.new wo #[.slice am lm cm, .slice aa ls cs] 44)
  have HK0 := Lib.hid ((Kept.refl wo).alloc (.cells #[.slice am lm cm, .slice aa ls cs] 44))
  clear hm hs
  go_enter Try.func4, Try.ntmps4
  go_upto_region 1 with (fail)
  generalize wo.alloc (.cells #[.slice am lm cm, .slice aa ls cs] 44) = w1 at *
  have HBX0 := Lib.hid (show ∀ w, Kept w1 w → w.cell? ⟨wo.heap.size, 0, none⟩ = some (.slice am lm cm) ∧ w.cell? ⟨wo.heap.size, 1, none⟩ = some (.slice aa ls cs) from fun w k => ⟨(HB0.out.kept k).cell 0, (HB0.out.kept k).cell 1⟩)
  obtain ⟨a0, a1⟩ := HBX0.out _ (Kept.refl _)
  go_wp2_with fail
  refine (heavy21_any am lm cm tt aa ls cs ss _ (HMS.out.kept HK0.out) (HSS.out.kept HK0.out)).mono ?_
  rintro e w2 ⟨hk2, rfl | ⟨rfl, hlt, hls⟩⟩
  · have HK2 := Lib.hid (HK0.out.trans hk2)
    clear hk2 a0 a1
    go_wp2_with fail
    go_ret
    exact ⟨rfl, HK2.out⟩
  have HK2 := Lib.hid hk2
  have HLT := Lib.hid hlt
  clear hk2 hlt a0 a1
  go_wp2_with fail
  go_loopw [3] (fun kv wr => ∃ k : Nat, k ≤ lm ∧ kv = .int .i64 k ∧ Kept w1 wr) (fun kv _ => lm - (intOf kv).toNat)
  case atStart => exact ⟨0, by omega, rfl, HK2.out⟩
  case round =>
    obtain ⟨k, hk, rfl, hkr⟩ := hrel
    have HKR := Lib.hid hkr
    obtain ⟨a0, a1⟩ := HBX0.out _ hkr
    clear hkr
    by_cases hend : k < lm ∧ k < 6
    · obtain ⟨hlt, hlt6⟩ := hend
      have hd1 : decide (k < lm) = true := decide_eq_true hlt
      have hd2 : decide (k < 6) = true := decide_eq_true hlt6
      obtain ⟨bm, om, rfl, hc⟩ := HMS.out.row (by omega)
      obtain ⟨ax, cx, hcell, hT⟩ := hc k hlt
      have hwt := HLT.out k hlt
      have hwl := hT.wt
      generalize tt.getD k [] = ts at *
      obtain ⟨la, hla⟩ : ∃ la, la = ts.length := ⟨_, rfl⟩
      rw [← hla] at hcell hT hwl
      have HLA := Lib.hid hla.symm
      have c1 := hcell wr (HK0.out.trans HKR.out)
      have hla9 : la ≤ 9000 := by omega
      have HTS := Lib.hid (hT.kept (HK0.out.trans HKR.out))
      have HRS := Lib.hid (HSS.out.strs.kept (HK0.out.trans HKR.out))
      have HBX := Lib.hid (show ∀ w, Kept wr w → w.cell? ⟨wo.heap.size, 0, none⟩ = some (.slice (some ⟨bm, om, none⟩) lm cm) ∧ w.cell? ⟨wo.heap.size, 1, none⟩ = some (.slice aa ls cs) from fun w k => HBX0.out _ (HKR.out.trans k))
      obtain ⟨B, hB⟩ : ∃ B, B = thsB ts := ⟨_, rfl⟩
      have HB := Lib.hid hB
      obtain ⟨C, hC⟩ : ∃ C, C = cE ts := ⟨_, rfl⟩
      have HC := Lib.hid hC
      have hCB := cE_zero ts
      rw [← hC, ← hB] at hCB
      have HCB := Lib.hid hCB
      clear hCB hB hC hc hcell hla hwt hwl hT
      go_wp2_with fail
      refine (copy_things ax la cx ts _ HTS.out).mono ?_
      rintro e w3 ⟨ai, ci, rfl, hown, hk⟩
      have HK3 := Lib.hid hk
      have HIN := Lib.hid (show ThsIn w3 ai la ts by
        obtain ⟨a', c', e', h'⟩ := ths_own hown HLA.out HTS.out.le HTS.out.sizes
        cases e'
        exact h')
      clear hk hown a0 a1 c1
      go_wp2_with fail
      refine (rthings_any ax la cx ts _ (HTS.out.kept HK3.out)).mono ?_
      rintro e w4 ⟨rfl, hk⟩
      rw [← HB.out]
      have HK4 := Lib.hid (HK3.out.trans hk)
      have HIN4 := Lib.hid (HIN.out.kept hk)
      clear hk HIN
      go_wp2_with fail
      obtain ⟨OL, hOL⟩ : ∃ OL, OL = ordL ts := ⟨_, rfl⟩
      obtain ⟨OE, hOE⟩ : ∃ OE, OE = ordE ts := ⟨_, rfl⟩
      have HOL := Lib.hid hOL
      have HOE := Lib.hid hOE
      have HOC := Lib.hid (order_any ai la ci ts w4 HIN4.out)
      rw [← hOL, ← hOE] at HOC
      clear hOL hOE
      refine HOC.out.mono ?_
      rintro e w5 ⟨ao, co, rfl, hso, hk⟩
      have HK5 := Lib.hid (HK4.out.trans hk)
      have HIN5 := Lib.hid (HIN4.out.kept hk)
      have HSO := Lib.hid hso
      clear hk hso HOC HIN4
      go_upto_if 51 with (fail)
      go_cut [9, 10] (fun e v wx => e = .int .i64 OE ∧ (∃ a c, v = .slice a OL.length c ∧ StrsIn wx a OL.length OL) ∧ Kept w5 wx)
      case first =>
        cases B with
        | false =>
          have HE1 := Lib.hid (show OE = 1 by rw [HOE.out]; unfold ordE; rw [← HB.out]; rfl)
          have HE2 := Lib.hid (show OL = [] by rw [HOL.out]; unfold ordL; rw [← HB.out]; rfl)
          go_wp2_with fail
          go_meet
          exact ⟨by rw [HE1.out], ⟨none, 0, by rw [HE2.out]; rfl, by rw [HE2.out]; exact nil_strs _ _⟩, Kept.refl _⟩
        | true =>
          have hB' : thsB ts = true := HB.out.symm
          have HBT := Lib.hid hB'
          have HE1 := Lib.hid (show OE = if (ordO ts).isSome = true then 0 else 7 by rw [HOE.out]; unfold ordE; rw [hB']; rfl)
          have HE2 := Lib.hid (show OL = (ordO ts).getD [] by rw [HOL.out]; unfold ordL; rw [hB']; rfl)
          clear hB'
          go_wp2_with fail
          refine (rorder_any ax la cx ts _ (HTS.out.kept HK5.out) HBT.out).mono ?_
          rintro e w6 ⟨a6, c6, rfl, hs6, hk⟩
          rw [← HE2.out] at hs6 ⊢
          have HK6 := Lib.hid hk
          have HS6 := Lib.hid hs6
          have HE3 := HE1
          clear hk hs6 HE1
          cases ho : (ordO ts).isSome with
          | false =>
            have HE4 := Lib.hid (show OE = 7 by rw [HE3.out, ho]; rfl)
            have HE5 := Lib.hid (show OL = [] by
              rw [HE2.out]
              cases h : ordO ts with
              | none => rfl
              | some x => rw [h] at ho; cases ho)
            clear ho
            go_wp2_with fail
            go_meet
            exact ⟨by rw [HE4.out], ⟨none, 0, by rw [HE5.out]; rfl, by rw [HE5.out]; exact nil_strs _ _⟩, HK6.out⟩
          | true =>
            have HE4 := Lib.hid (show OE = 0 by rw [HE3.out, ho]; rfl)
            clear ho
            go_wp2_with fail
            go_meet
            exact ⟨by rw [HE4.out], ⟨_, _, rfl, HS6.out⟩, HK6.out⟩
      case rest =>
        obtain ⟨rfl, ⟨aw, cw, rfl, hsw⟩, hkx⟩ := hcut
        rename World => wx
        have HKX := Lib.hid (HK5.out.trans hkx)
        have HINX := Lib.hid (HIN5.out.kept hkx)
        have HSOX := Lib.hid (HSO.out.kept hkx)
        have HSW := Lib.hid hsw
        clear hsw hkx HSO HIN5
        go_wp2_with fail
        refine (rcheck_any ai la ci ts _ HINX.out).mono ?_
        rintro e w7 ⟨rfl, hk⟩
        have HK7 := Lib.hid hk
        have hce : (if thsB ts = true then (0 : Int) else 1) = C := HC.out.symm
        rw [hce]
        clear hk hce
        go_wp2_with fail
        refine (num21_any _ _).mono ?_
        rintro e w' ⟨rfl, rfl⟩
        have hcb := HCB.out
        have hbb : (B != B) = false := by cases B <;> rfl
        go_wp2_with fail
        refine (num21_any _ _).mono ?_
        rintro e w' ⟨rfl, rfl⟩
        have hoo : (OE != OE) = false := by simp
        go_wp2_with fail
        refine (eq_strings2 _ _ _ _ _ _ OL OL _ (HSOX.out.kept HK7.out) (HSW.out.kept HK7.out)).mono ?_
        rintro e w8 ⟨rfl, hk⟩
        rw [show decide (OL = OL) = true from decide_eq_true rfl]
        have HK8 := Lib.hid (HKX.out.trans (HK7.out.trans hk))
        have HIN8 := Lib.hid (HINX.out.kept (HK7.out.trans hk))
        clear hk hcb hbb hoo HSW HSOX HINX HK7 HKX HK5 HK4 HK3 HOL HOE
        go_wp2_with fail
        go_loopw [13] (fun kv ws => ∃ j : Nat, j ≤ 3 ∧ kv = .int .i64 j ∧ Kept w8 ws) (fun kv _ => 3 - (intOf kv).toNat)
        case atStart => exact ⟨0, by omega, rfl, Kept.refl _⟩
        case round =>
          rename World => ws
          obtain ⟨j, hj, rfl, hks⟩ := hrel
          have HKS := Lib.hid hks
          clear hks
          by_cases hj3 : j < 3
          · have hd3 : decide (j < 3) = true := decide_eq_true hj3
            obtain ⟨a0, a1⟩ := HBX.out _ (HK8.out.trans HKS.out)
            have hrl : (rootsL ts ss j).length ≤ 18000 := by
              unfold rootsL
              have h1 := rtF_len ts j ts.length
              have h2 := HLA.out
              have h3 := HRS.out.len_eq
              rw [List.length_append, h3]
              omega
            have HRC := Lib.hid (roots_any ax la cx ts aa ls cs ss j ws (HTS.out.kept (HK8.out.trans HKS.out)) (HRS.out.kept (HK8.out.trans HKS.out)) (by omega) (by omega) (by omega))
            have HRZ := Lib.hid (show ∀ s ∈ rootsL ts ss j, s.size ≤ 9223372036854775807 from rootsL_small HTS.out.sizes HRS.out.sizes j)
            generalize rootsL ts ss j = r at *
            go_wp2_with fail
            refine HRC.out.mono ?_
            rintro e w9 ⟨ar, cr, rfl, hown, hk⟩
            have HK9 := Lib.hid hk
            have HR := Lib.hid (show StrsIn w9 ar r.length r by
              obtain ⟨a', c', e', _, h'⟩ := strs_own hown rfl HRZ.out
              cases e'
              exact h')
            clear hk hown HRC a0 a1
            go_wp2_with fail
            refine (copy_strings_own ar r.length cr r _ HR.out (by omega)).mono ?_
            rintro e wa ⟨aq, cq, rfl, hown, hk⟩
            have HKA := Lib.hid (HK9.out.trans hk)
            have HRA := Lib.hid (HR.out.kept hk)
            have HQ := Lib.hid (show StrsIn wa aq r.length r by
              obtain ⟨a', c', e', _, h'⟩ := strs_own hown rfl HRZ.out
              cases e'
              exact h')
            clear hk hown HR
            go_wp2_with fail
            have HFC := Lib.hid (from_any ai la ci ts aq r.length cq r wa (HIN8.out.kept (HKS.out.trans HKA.out)) HQ.out (by omega))
            obtain ⟨FF, hFF⟩ : ∃ FF, FF = fF ts r := ⟨_, rfl⟩
            have HFF := Lib.hid hFF
            have hfl := fF_len ts r
            rw [← HC.out, ← hFF] at HFC
            rw [← hFF] at hfl
            clear hFF
            refine HFC.out.mono ?_
            rintro e wb ⟨af, cf, rfl, hsf, hk, hof⟩
            have HKB := Lib.hid (HKA.out.trans hk)
            have HRB := Lib.hid (HRA.out.kept hk)
            have HQB := Lib.hid (HQ.out.kept hk)
            have HFS := Lib.hid hsf
            have HOF := Lib.hid (show OwnQ ws wb af FF from fun q => by
              obtain ⟨g, h1, h2, h3⟩ := hof q
              exact ⟨g, h1, by have := HKA.out.size; omega, h3⟩)
            clear hk hsf hof HFC HRA HQ
            go_upto_if 94 with (fail)
            go_cut [18, 19] (fun e v wx => e = .int .i64 C ∧ (∃ a c, v = .slice a FF.length c ∧ StrsIn wx a FF.length FF) ∧ Kept wb wx)
            case first =>
              cases B with
              | false =>
                have HE1 := Lib.hid (show C = 1 by rw [HC.out]; unfold cE; rw [← HB.out]; rfl)
                have HE2 := Lib.hid (show FF = [] by rw [HFF.out]; unfold fF; rw [← HB.out]; rfl)
                go_wp2_with fail
                go_meet
                exact ⟨by rw [HE1.out], ⟨none, 0, by rw [HE2.out]; rfl, by rw [HE2.out]; exact nil_strs _ _⟩, Kept.refl _⟩
              | true =>
                have HBT := Lib.hid (show thsB ts = true from HB.out.symm)
                have HE1 := Lib.hid (show C = 0 by rw [HC.out]; unfold cE; rw [← HB.out]; rfl)
                have HE2 := Lib.hid (show FF = fromL ts r by rw [HFF.out]; unfold fF; rw [← HB.out]; rfl)
                go_wp2_with fail
                refine (rfrom_any ax la cx ts ar r.length cr r _ (HTS.out.kept (HK8.out.trans (HKS.out.trans HKB.out))) HRB.out HBT.out (by omega)).mono ?_
                rintro e w6 ⟨a6, c6, rfl, hs6, hk⟩
                rw [← HE2.out] at hs6 ⊢
                have HK6 := Lib.hid hk
                have HS6 := Lib.hid hs6
                clear hk hs6
                go_wp2_with fail
                go_meet
                exact ⟨by rw [HE1.out], ⟨_, _, rfl, HS6.out⟩, HK6.out⟩
            case rest =>
              obtain ⟨rfl, ⟨ad, cd, rfl, hsd⟩, hkx⟩ := hcut
              rename World => wx
              have HKX := Lib.hid (HKB.out.trans hkx)
              have HFX := Lib.hid (HFS.out.kept hkx)
              have HOX := Lib.hid (HOF.out.kept hkx)
              have HRX := Lib.hid (HRB.out.kept hkx)
              have HQX := Lib.hid (HQB.out.kept hkx)
              have HSD := Lib.hid hsd
              clear hsd hkx HFS HOF HRB HQB HKA HKB
              go_wp2_with fail
              refine (num21_any _ _).mono ?_
              rintro e w' ⟨rfl, rfl⟩
              have hcc : (C != C) = false := by simp
              go_wp2_with fail
              refine (eq_strings2 _ _ _ _ _ _ FF FF _ HFX.out HSD.out).mono ?_
              rintro e wc ⟨rfl, hk⟩
              rw [show decide (FF = FF) = true from decide_eq_true rfl]
              have HKC := Lib.hid hk
              clear hk
              go_wp2_with fail
              refine (eq_strings2 _ _ _ _ _ _ r r _ (HQX.out.kept HKC.out) (HRX.out.kept HKC.out)).mono ?_
              rintro e wd ⟨rfl, hk⟩
              rw [show decide (r = r) = true from decide_eq_true rfl]
              have HKD := Lib.hid (HKC.out.trans hk)
              clear hk
              go_wp2_with fail
              refine (eq_things _ _ _ _ _ ts _ (HIN8.out.kept (HKS.out.trans (HKX.out.trans HKD.out))) (HTS.out.kept (HK8.out.trans (HKS.out.trans (HKX.out.trans HKD.out))))).mono ?_
              rintro e we ⟨rfl, hk⟩
              have HKE := Lib.hid (HKX.out.trans (HKD.out.trans hk))
              have HFE := Lib.hid (HFX.out.kept (HKD.out.trans hk))
              have HOE := Lib.hid (HOX.out.kept (HKD.out.trans hk))
              have HRE := Lib.hid (HRX.out.kept (HKD.out.trans hk))
              clear hk hcc HFX HOX HRX HQX HSD HKC HKD HKX
              go_wp2_with fail
              go_loopw [20] (fun kv wq => ∃ q : Nat, q ≤ r.length ∧ kv = .int .i64 q ∧ Kept we wq) (fun kv _ => r.length - (intOf kv).toNat)
              case atStart => exact ⟨0, by omega, rfl, Kept.refl _⟩
              case round =>
                rename World => wq
                obtain ⟨q, hq, rfl, hkq⟩ := hrel
                have HKQ := Lib.hid hkq
                clear hkq
                by_cases hend : q < r.length ∧ q < 8
                · obtain ⟨hq1, hq8⟩ := hend
                  have hd4 : decide (q < r.length) = true := decide_eq_true hq1
                  have hd5 : decide (q < 8) = true := decide_eq_true hq8
                  have hd6 : decide ((q : Int) < (r.length : Int)) = true := decide_eq_true (by omega)
                  obtain ⟨br, or', rfl, hcr⟩ := HRE.out.at (by omega)
                  have HCR := Lib.hid (fun w k => hcr q hq1 w k)
                  have c0 := HCR.out _ HKQ.out
                  clear hcr
                  generalize r.getD q ByteArray.empty = d at *
                  have HUC := Lib.hid (fun w h => users_any ai la ci ts d w h)
                  obtain ⟨UL, hUL⟩ : ∃ UL, UL = uF ts d := ⟨_, rfl⟩
                  have HUL := Lib.hid hUL
                  rw [← HC.out, ← hUL] at HUC
                  clear hUL
                  go_wp2_with fail
                  refine (HUC.out _ (HIN8.out.kept (HKS.out.trans (HKE.out.trans HKQ.out)))).mono ?_
                  rintro e wf ⟨au, cu, rfl, hsu, hk⟩
                  have HKF := Lib.hid (HKQ.out.trans hk)
                  have HSU := Lib.hid hsu
                  clear hk hsu HUC c0
                  go_upto_if 139 with (fail)
                  go_cut [23] (fun v wx => (∃ a c, v = .slice a UL.length c ∧ StrsIn wx a UL.length UL) ∧ Kept wf wx)
                  case first =>
                    cases B with
                    | false =>
                      have HE2 := Lib.hid (show UL = [] by rw [HUL.out]; unfold uF; rw [← HB.out]; rfl)
                      go_wp2_with fail
                      go_meet
                      exact ⟨⟨none, 0, by rw [HE2.out]; rfl, by rw [HE2.out]; exact nil_strs _ _⟩, Kept.refl _⟩
                    | true =>
                      have HBT := Lib.hid (show thsB ts = true from HB.out.symm)
                      have HE2 := Lib.hid (show UL = usersL ts d by rw [HUL.out]; unfold uF; rw [← HB.out]; rfl)
                      have c0 := HCR.out _ HKF.out
                      go_wp2_with fail
                      refine (rusers_any ax la cx ts d _ (HTS.out.kept (HK8.out.trans (HKS.out.trans (HKE.out.trans HKF.out)))) HBT.out).mono ?_
                      rintro e w6 ⟨a6, c6, rfl, hs6, hk⟩
                      rw [← HE2.out] at hs6 ⊢
                      have HK6 := Lib.hid hk
                      have HS6 := Lib.hid hs6
                      clear hk hs6 c0
                      go_wp2_with fail
                      go_meet
                      exact ⟨⟨_, _, rfl, HS6.out⟩, HK6.out⟩
                  case rest =>
                    obtain ⟨⟨av, cv, rfl, hsv⟩, hkx⟩ := hcut
                    rename World => wx
                    have HKX := Lib.hid (HKF.out.trans hkx)
                    have HSUX := Lib.hid (HSU.out.kept hkx)
                    have HSV := Lib.hid hsv
                    clear hsv hkx HSU HKF
                    go_wp2_with fail
                    refine (num21_any _ _).mono ?_
                    rintro e w' ⟨rfl, rfl⟩
                    have hcc : (C != C) = false := by simp
                    go_wp2_with fail
                    refine (eq_strings2 _ _ _ _ _ _ UL UL _ HSUX.out HSV.out).mono ?_
                    rintro e wg ⟨rfl, hk⟩
                    rw [show decide (UL = UL) = true from decide_eq_true rfl]
                    have HKG := Lib.hid (HKX.out.trans hk)
                    clear hk hcc HSUX HSV HKX
                    go_wp2_with fail
                    go_roundw
                    case rel => exact ⟨q + 1, by omega, by go_num, HKG.out⟩
                    case measure => simp [intOf]; omega
                · have hdx : (decide (q < r.length) = false ∧ ¬ q < r.length) ∨ (decide (q < r.length) = true ∧ decide (q < 8) = false ∧ decide ((q : Int) < 8) = false ∧ q < r.length ∧ ¬ q < 8) := by
                    by_cases h : q < r.length
                    · exact .inr ⟨decide_eq_true h, decide_eq_false (by omega), decide_eq_false (by omega), h, by omega⟩
                    · exact .inl ⟨decide_eq_false h, h⟩
                  clear hend
                  rcases hdx with ⟨hd4, hd4n⟩ | ⟨hd4, hd5, hd6, hd7, hd8⟩
                  all_goals
                    go_wp2_with fail
                    refine (spoil_q ws _ _ _ FF (HFE.out.kept HKQ.out) (HOE.out.kept HKQ.out) (by omega) (HKE.out.trans HKQ.out)).mono ?_
                    rintro e wz ⟨⟨u, rfl⟩, hk⟩
                    have HKZ := Lib.hid (HKS.out.trans hk)
                    clear hk
                    go_wp2_with fail
                    go_roundw
                    case rel => exact ⟨j + 1, by omega, by go_num, HKZ.out⟩
                    case measure => simp [intOf]; omega
          · obtain rfl : j = 3 := by omega
            go_wp2
            go_roundw
            case rel => exact ⟨k + 1, by omega, by go_num, HKR.out.trans (HK8.out.trans HKS.out)⟩
            case measure => simp [intOf]; omega
    · have hdx : (decide (k < lm) = false ∧ ¬ k < lm) ∨ (decide (k < lm) = true ∧ decide (k < 6) = false ∧ decide ((k : Int) < 6) = false ∧ k < lm ∧ ¬ k < 6) := by
        by_cases h : k < lm
        · exact .inr ⟨decide_eq_true h, decide_eq_false (by omega), decide_eq_false (by omega), h, by omega⟩
        · exact .inl ⟨decide_eq_false h, h⟩
      clear hend
      rcases hdx with ⟨hd1, hd1n⟩ | ⟨hd1, hd2, hd3, hd4, hd5⟩
      all_goals
        go_wp2_with fail
        refine (wakes21_any _).mono ?_
        rintro e w9 ⟨rfl, hk⟩
        have HK9 := Lib.hid (HK0.out.trans (HKR.out.trans hk))
        clear hk
        go_wp2
        go_ret
        exact ⟨rfl, HK9.out⟩
end Go.Proofs.Ytdllenoclnmmdaa
