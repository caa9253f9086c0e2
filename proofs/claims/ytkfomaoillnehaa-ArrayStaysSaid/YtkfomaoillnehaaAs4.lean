/- silolaw10.ArrayStays (no conditions). -/
import Derived.Test.YtkfomaoillnehaaAx
import Derived.Test.YtkfomaoillnehaaAr20
namespace Go.Proofs.Ytkfomaoillnehaa
open Go.RowKit
attribute [local go_sem] Oper.semAt_some
set_option maxRecDepth 100000 in
set_option maxHeartbeats 4000000 in
theorem array_stays (m nn : Int) (a : Option Addr) (len cap : Nat) (xs : List Ac) (W : World) (_hm : -9223372036854775808 ≤ m ∧ m ≤ 9223372036854775807) (_hn : -9223372036854775808 ≤ nn ∧ nn ≤ 9223372036854775807) (h : ActsIn W a len xs) :
    Calls Try.prog 4 #[.agg #[.int .i64 m, .int .i64 nn, .slice a len cap]] W fun e w' => e = .returned (.bool true) ∧ Kept W w' := by
  have hfew := h.few
  have HA := Lib.hid h
  have HK1 := Lib.hid ((Kept.refl W).alloc (.cells #[.int .i64 m, .int .i64 nn, .slice a len cap] 24))
  have c0 := BlockAt.new W #[.int .i64 m, .int .i64 nn, .slice a len cap] 24
  clear h
  go_enter Try.func4, Try.ntmps4
  go_upto_region 1 with (fail)
  generalize W.alloc (.cells #[.int .i64 m, .int .i64 nn, .slice a len cap] 24) = w1 at *
  obtain ⟨q, hq⟩ : ∃ q, q = W.heap.size := ⟨_, rfl⟩
  rw [← hq] at c0 ⊢
  have HB := Lib.hid c0
  clear hq
  obtain ⟨a0, a1, a2⟩ := box3a c0
  clear c0
  go_wp2_with fail
  refine (heavy10_any m nn a len cap xs _ (HA.out.below HK1.out (Nat.le_refl _))).mono ?_
  rintro e w2 ⟨he, hk2⟩
  have HK2 := Lib.hid hk2
  clear a0 a1 a2 hk2
  rcases he with rfl | ⟨rfl, hs⟩
  · go_wp2
    go_ret
    exact ⟨rfl, HK1.out.trans HK2.out⟩
  · have HS := Lib.hid hs
    clear hs
    have HX := Lib.hid (fun i (hi : i < len) => show ∃ b off, a = some ⟨b, off, none⟩ ∧ ∀ w', Below w1.heap.size w1 w' → ActCell w' b (off + i * 6) (xs.getD i ac00) from by
      obtain ⟨b, off, ha, hc⟩ := (HA.out.below HK1.out (Nat.le_refl _)).cells
      exact ⟨b, off, ha (by omega), fun w' k => (hc i hi).below k (Nat.le_refl _)⟩)
    go_wp2_with fail
    go_loopw [3] (fun i wr => ∃ k : Nat, k ≤ len ∧ k ≤ 8 ∧ i = .int .i64 k ∧ Below w1.heap.size w1 wr) (fun i _ => len - (intOf i).toNat)
    case atStart => exact ⟨0, by omega, by omega, rfl, HK2.out⟩
    case round =>
      rename World => wr
      obtain ⟨k, hk, hk8, rfl, hb⟩ := hrel
      have HL := Lib.hid hb
      by_cases hlt : k < len ∧ k < 8
      · obtain ⟨hl1, hl2⟩ := hlt
        have hd1 : decide (k < len) = true := decide_eq_true hl1
        have hd2 : decide ((k : Int) < (len : Int)) = true := decide_eq_true (by omega)
        have hd3 : decide ((k : Int) < 8) = true := decide_eq_true (by omega)
        obtain ⟨bt, of, rfl, hct⟩ := HX.out k hl1
        obtain ⟨al, cl, hbd, hfx⟩ := (hct w1 (Below.refl _ _)).fix (Nat.le_refl _)
        have HFW := Lib.hid (HS.out.2 k hl1)
        generalize xs.getD k ac00 = x at *
        obtain ⟨xk, xd, xs9, xn, xt, xl⟩ := x
        dsimp only at HFW hfx hbd
        have HCL := Lib.hid (fun (w : World) (q9 : Below w1.heap.size w1 w) => show w.cell? ⟨q, 2, none⟩ = some (.slice (some ⟨bt, of, none⟩) len cap) ∧ w.cell? ⟨bt, of + k * 6 + 4, none⟩ = some (.string xt) ∧ w.cell? ⟨bt, of + k * 6 + 5, none⟩ = some (.slice al xl.length cl) ∧ IntsIn w .i64 al xl.length xl from by
          obtain ⟨_, _, a2⟩ := box3a (HB.out.kept q9)
          obtain ⟨hi, _, _, _, _, c4, c5⟩ := hfx w q9
          exact ⟨a2, c4, c5, hi⟩)
        clear hct hbd hfx hb
        obtain ⟨a2, _, _, _⟩ := HCL.out wr HL.out
        go_wp2_with fail
        refine (new_good 2 8 (by decide) (by decide) (by decide) (by decide) _).mono ?_
        rintro e w5 ⟨p, D, K, C, rfl, hk5, ha, l1, l2, l3⟩
        obtain ⟨old, hold⟩ : ∃ t, t = sectorT xt := ⟨_, rfl⟩
        obtain ⟨nt, hnt⟩ : ∃ t, t = (⟨#[110, 101, 119]⟩ : ByteArray) ++ xt := ⟨_, rfl⟩
        obtain ⟨now, hnow⟩ : ∃ t, t = sectorT nt := ⟨_, rfl⟩
        obtain ⟨k0, hk0⟩ : ∃ f : Nat → ByteArray, f = fun _ => zeroT := ⟨_, rfl⟩
        obtain ⟨c0, hc0⟩ : ∃ f : Nat → ByteArray, f = fun _ => ByteArray.empty := ⟨_, rfl⟩
        have HS5 := Lib.hid (show StA w1.heap.size w1 w5 p D K C 0 k0 c0 from by
          rw [hk0, hc0]
          exact ⟨arrS_new ▸ ha, Below.trans HL.out (Below.mono hk5 (Below.size HL.out)), Nat.le_trans (Below.size HL.out) l1, fun d hd => ⟨Nat.le_trans (Below.size HL.out) (l3 d hd).1, Nat.le_trans (Below.size HL.out) (l3 d hd).2⟩, Nat.le_trans (Below.size HL.out) (Kept.size hk5)⟩)
        have HOS := Lib.hid (show old.size = 64 ∧ now.size = 64 from ⟨by rw [hold]; exact sectorT_size _, by rw [hnow]; exact sectorT_size _⟩)
        have hnz : nt.size ≤ 6000 := by
          have := HFW.out.1
          rw [hnt, ByteArray.size_append, show (⟨#[110, 101, 119]⟩ : ByteArray).size = 3 from rfl]; omega
        have HSE1 := Lib.hid (fun u : Later w5 => show Calls Try.prog 21 #[.string xt] u.1 fun e w' => e = .returned (.string old) ∧ Kept u.1 w' by rw [hold]; exact sector_any xt (by have := HFW.out.1; omega) u.1)
        have HSE2 := Lib.hid (fun u : Later w5 => show Calls Try.prog 21 #[.string nt] u.1 fun e w' => e = .returned (.string now) ∧ Kept u.1 w' by rw [hnow]; exact sector_any nt (by omega) u.1)
        have hA : ∀ w : World, (Op.stringOp .add (⟨#[110, 101, 119]⟩ : ByteArray) xt).run Try.prog w = .ok (.string nt) w := fun w => by
          rw [hnt]
          exact run_string_add_sum _ _ _ (by have := HFW.out.1; rw [show (⟨#[110, 101, 119]⟩ : ByteArray).size = 3 from rfl]; omega)
        clear hold hnow hnt hk0 hc0 hk5 ha l1 l2 l3 hnz a2
        go_wp2_with fail
        refine (num10_any 0 _).mono ?_
        rintro e w6 ⟨rfl, rfl⟩
        go_wp2_with fail
        obtain ⟨a2, c4, _, _⟩ := HCL.out w5 HS5.out.low
        have l2 := later_cell a2
        have l4 := later_cell c4
        clear a2 c4
        refine region_later (by kernel_rfl) (by kernel_rfl) ?_
        repeat (go_big_quiet_step ((go_at_call 21; first | exact later_call (HSE1.out _) | exact later_call (HSE2.out _))))
        refine wpQuiet_nil ?_
        intro _ hw'
        obtain ⟨nq, hw''⟩ := hw'
        subst hw''
        have HS6 := Lib.hid (HS5.out.kept nq.2)
        clear l2 l4 hA HSE1 HSE2 HS5
        generalize nq.1 = w6 at *
        go_wp2_with fail
        go_loopw [8] (fun i wr => ∃ s : Nat, s ≤ 8 ∧ i = .int .i64 s ∧ StA w1.heap.size w1 wr p D K C (0 + s) k0 (firstF c0 old s)) (fun i _ => 8 - (intOf i).toNat)
        case atStart => exact ⟨0, by omega, rfl, by rw [firstF_zero]; exact HS6.out⟩
        case round =>
          clear HS6
          rename World => wt
          obtain ⟨s, hs, rfl, hst⟩ := hrel
          have HST := Lib.hid hst
          clear hst
          by_cases hls : s < 8
          · have he1 : decide (s < 8) = true := decide_eq_true hls
            have he2 : decide ((s : Int) < 8) = true := decide_eq_true (by omega)
            go_wp2_with fail
            refine (HST.out.write hls HOS.out.1 (by omega)).mono ?_
            rintro e wy ⟨rfl, hst⟩
            have HST2 := Lib.hid hst
            clear hst HST
            go_wp2_with fail
            refine (num10_any 0 _).mono ?_
            rintro e wx ⟨rfl, rfl⟩
            go_wp2_with fail
            go_roundw
            case rel => exact ⟨s + 1, by omega, by go_num, HST2.out⟩
            case measure => simp [intOf]; omega
          · have he1 : decide (s < 8) = false := decide_eq_false hls
            have he2 : decide ((s : Int) < 8) = false := decide_eq_false (by omega)
            obtain rfl : s = 8 := by omega
            have he3 : decide ((8 : Int) < 8) = false := rfl
            clear hs hls
            go_wp2_with fail
            refine (HST.out.flush HOS.out.1 (by omega)).mono ?_
            rintro e wf ⟨rfl, k1, c1, hkc, hst⟩
            have HSF := Lib.hid hst
            have HKF := Lib.hid hkc
            clear hst hkc HST he1 he2 he3
            go_wp2_with fail
            refine (num10_any 0 _).mono ?_
            rintro e wx ⟨rfl, rfl⟩
            go_wp2_with fail
            go_loopw [9] (fun i wr => ∃ s : Nat, s ≤ 8 ∧ i = .int .i64 s ∧ StA w1.heap.size w1 wr p D K C (9 + s) k1 (firstF c1 now s)) (fun i _ => 8 - (intOf i).toNat)
            case atStart => exact ⟨0, by omega, rfl, by rw [firstF_zero]; exact HSF.out⟩
            case round =>
              clear HSF
              rename World => wz
              obtain ⟨s, hs, rfl, hst⟩ := hrel
              have HST := Lib.hid hst
              clear hst
              by_cases hls : s < 8
              · have he1 : decide (s < 8) = true := decide_eq_true hls
                have he2 : decide ((s : Int) < 8) = true := decide_eq_true (by omega)
                go_wp2_with fail
                refine (HST.out.write hls HOS.out.2 (by omega)).mono ?_
                rintro e wy ⟨rfl, hst⟩
                have HST2 := Lib.hid hst
                clear hst HST
                go_wp2_with fail
                refine (num10_any 0 _).mono ?_
                rintro e wx ⟨rfl, rfl⟩
                go_wp2_with fail
                go_roundw
                case rel => exact ⟨s + 1, by omega, by go_num, HST2.out⟩
                case measure => simp [intOf]; omega
              · have he1 : decide (s < 8) = false := decide_eq_false hls
                have he2 : decide ((s : Int) < 8) = false := decide_eq_false (by omega)
                obtain rfl : s = 8 := by omega
                have he3 : decide ((8 : Int) < 8) = false := rfl
                clear hs hls
                go_wp2_with fail
                refine (HST.out.dirtied (z := 8) (dirty_all _ _ 8 (fun i hi => by rw [show firstF c1 now 8 i = now from if_pos hi, HOS.out.2]; decide)) rfl).mono ?_
                rintro e wd ⟨rfl, hkd⟩
                have HSX := Lib.hid (HST.out.kept hkd)
                clear HST hkd he1 he2 he3
                obtain ⟨a2, _, c5, _⟩ := HCL.out wd HSX.out.low
                go_wp2_with fail
                refine (HSX.out.crash HOS.out.2 (fun i hi => (HKF.out i hi).1) al xl.length cl xl (fun W q9 => (HCL.out W (Below.trans HSX.out.low q9.low)).2.2.2)).mono ?_
                rintro e wc ⟨rfl, k2, c2, hkc, hst⟩
                have HSC := Lib.hid hst
                have HKC := Lib.hid hkc
                clear hst hkc HSX a2 c5 HKF
                go_wp2_with fail
                go_loopw [10] (fun i wr => ∃ s : Nat, s ≤ 8 ∧ i = .int .i64 s ∧ Kept wc wr) (fun i _ => 8 - (intOf i).toNat)
                case atStart => exact ⟨0, by omega, rfl, Kept.refl _⟩
                case round =>
                  rename World => wu
                  obtain ⟨s, hs, rfl, hk⟩ := hrel
                  have HK := Lib.hid hk
                  clear hk
                  by_cases hls : s < 8
                  · have he1 : decide (s < 8) = true := decide_eq_true hls
                    have he2 : decide ((s : Int) < 8) = true := decide_eq_true (by omega)
                    obtain ⟨tt, htt⟩ : ∃ t, t = if pickA xl s = true then now else old := ⟨_, rfl⟩
                    have HRD := Lib.hid ((HSC.out.kept HK.out).read hls ((HKC.out s hls).1.trans htt.symm) (HKC.out s hls).2)
                    have HTT := Lib.hid htt
                    clear htt
                    go_wp2_with fail
                    refine HRD.out.mono ?_
                    rintro e wv ⟨rfl, hkv⟩
                    have HKV := Lib.hid (HK.out.trans hkv)
                    clear hkv HRD HK he1 he2
                    go_upto_region 30 with (fail)
                    obtain ⟨a2, _, c5, hin⟩ := HCL.out wv (HSC.out.kept HKV.out).low
                    have HIN := Lib.hid hin
                    have HLE := Lib.hid hin.len_eq
                    have hll := hin.le
                    clear hin
                    obtain ⟨ll, hlz⟩ : ∃ n, n = xl.length := ⟨_, rfl⟩
                    rw [← hlz] at c5 hll HIN HLE
                    have HLZ := Lib.hid hlz
                    clear hlz
                    by_cases hl0 : 0 < ll
                    · have hdl : decide (0 < ll) = true := decide_eq_true hl0
                      have hdl2 : decide ((0 : Int) < (ll : Int)) = true := decide_eq_true (by omega)
                      obtain ⟨zb, zo, hza, hzc⟩ := HIN.out.cells
                      obtain rfl := hza hl0
                      have hrm : (s : Int).tmod (ll : Int) = ((s % ll : Nat) : Int) := by simp [Int.tmod_eq_emod_of_nonneg]
                      have hq := Nat.mod_lt s hl0
                      have hz1 := (hzc (s % ll) hq).2
                      have ha1 := i64_and1 (xl.getD (s % ll) 0)
                      by_cases hz : xl.getD (s % ll) 0 % 2 = 1
                      · have hpk : pickA xl s = true := by unfold pickA; rw [← HLZ.out, hdl, decide_eq_true hz]; rfl
                        have htt := HTT.out
                        rw [if_pos hpk] at htt
                        have hz3 : (xl.getD (s % ll) 0 % 2 == 1) = true := by rw [hz]; rfl
                        generalize xl.getD (s % ll) 0 = z at *
                        generalize s % ll = q9 at *
                        subst htt
                        clear hza hzc hpk hz HTT HLZ HIN HLE
                        go_quiet (fail)
                        have HKW := Lib.hid (HKV.out.drewN nq)
                        clear a2 c5 hdl hdl2 HKV
                        (try clear hrm hq hz1 ha1 hz3)
                        generalize wv.drewN nq = ww at *
                        go_wp2_with fail
                        refine (num10_any 0 _).mono ?_
                        rintro e wx ⟨rfl, rfl⟩
                        go_wp2_with fail
                        go_roundw
                        case rel => exact ⟨s + 1, by omega, by go_num, HKW.out⟩
                        case measure => simp [intOf]; omega
                      · have hpk : pickA xl s = false := by unfold pickA; rw [← HLZ.out, decide_eq_false hz, Bool.and_false]
                        have htt := HTT.out
                        rw [if_neg (by rw [hpk]; decide)] at htt
                        have hz3 : (xl.getD (s % ll) 0 % 2 == 1) = false := by rw [beq_eq_false_iff_ne]; exact hz
                        generalize xl.getD (s % ll) 0 = z at *
                        generalize s % ll = q9 at *
                        subst htt
                        clear hza hzc hpk hz HTT HLZ HIN HLE
                        go_quiet (fail)
                        have HKW := Lib.hid (HKV.out.drewN nq)
                        clear a2 c5 hdl hdl2 HKV
                        (try clear hrm hq hz1 ha1 hz3)
                        generalize wv.drewN nq = ww at *
                        go_wp2_with fail
                        refine (num10_any 0 _).mono ?_
                        rintro e wx ⟨rfl, rfl⟩
                        go_wp2_with fail
                        go_roundw
                        case rel => exact ⟨s + 1, by omega, by go_num, HKW.out⟩
                        case measure => simp [intOf]; omega
                    · have hpk : pickA xl s = false := by unfold pickA; rw [← HLZ.out, decide_eq_false hl0, Bool.false_and]
                      have htt := HTT.out
                      rw [if_neg (by rw [hpk]; decide)] at htt
                      obtain rfl : ll = 0 := by omega
                      have hdl : decide (0 < 0) = false := rfl
                      have hdl2 : decide ((0 : Int) < ((0 : Nat) : Int)) = false := rfl
                      subst htt
                      clear hpk HTT HLZ HIN HLE
                      go_quiet (fail)
                      have HKW := Lib.hid (HKV.out.drewN nq)
                      clear a2 c5 hdl hdl2 HKV
                      (try clear hrm hq hz1 ha1 hz3)
                      generalize wv.drewN nq = ww at *
                      go_wp2_with fail
                      refine (num10_any 0 _).mono ?_
                      rintro e wx ⟨rfl, rfl⟩
                      go_wp2_with fail
                      go_roundw
                      case rel => exact ⟨s + 1, by omega, by go_num, HKW.out⟩
                      case measure => simp [intOf]; omega
                  · have he1 : decide (s < 8) = false := decide_eq_false hls
                    have he2 : decide ((s : Int) < 8) = false := decide_eq_false (by omega)
                    obtain rfl : s = 8 := by omega
                    have he3 : decide ((8 : Int) < 8) = false := rfl
                    clear hs hls
                    have HSD := Lib.hid (HSC.out.kept HK.out)
                    clear HSC HK
                    have HBK := Lib.hid (BlockAt.new wu #[.int .i64 1] 3)
                    have HSE := Lib.hid (HSD.out.kept ((Kept.refl wu).alloc (.cells #[.int .i64 1] 3)))
                    have HFO := Lib.hid (fun b' (h : b' = p ∨ ArF D K C 2 b') => show b' ≠ wu.heap.size from Nat.ne_of_lt (HSD.out.a.foot_lt b' h))
                    go_wp2_with fail
                    refine (HSE.out.still (fun i hi => by rw [(HKC.out i hi).2]; rfl) (some ⟨wu.heap.size, 0, none⟩) 1 1 [1] (fun W q9 => ints_still HBK.out HFO.out q9)).mono ?_
                    rintro e wg ⟨rfl, hst⟩
                    have HSG := Lib.hid hst
                    clear hst HSE HBK HFO HSD he1 he2 he3
                    obtain ⟨was, hwas⟩ : ∃ t, t = k2 1 := ⟨_, rfl⟩
                    have HWS := Lib.hid (show was.size = 64 from by
                      rw [hwas, (HKC.out 1 (by decide)).1]
                      split
                      · exact HOS.out.2
                      · exact HOS.out.1)
                    have HRD := Lib.hid (HSG.out.read (s := 1) (by decide) hwas.symm (HKC.out 1 (by decide)).2)
                    have HWQ := Lib.hid hwas
                    clear hwas
                    go_wp2_with fail
                    refine HRD.out.mono ?_
                    rintro e wh ⟨rfl, hkh⟩
                    have HSH := Lib.hid (HSG.out.kept hkh)
                    clear hkh HSG HRD
                    have HFL := Lib.hid (HSH.out.flip (fun i hi => by
                      rw [(HKC.out i hi).1]
                      split
                      · exact HOS.out.2
                      · exact HOS.out.1))
                    go_wp2_with fail
                    refine HFL.out.mono ?_
                    rintro e wi ⟨rfl, hst⟩
                    obtain ⟨t, ht⟩ : ∃ t, t = turnT was 5 := ⟨_, rfl⟩
                    have HRD := Lib.hid (hst.read (s := 1) (t := t) (by decide) (by rw [upF_same, ht, HWQ.out]) (HKC.out 1 (by decide)).2)
                    have HSI := Lib.hid hst
                    have HLT := Lib.hid (lastsT HWS.out ht)
                    clear hst ht HWQ HSH HFL
                    go_wp2_with fail
                    refine (num10_any 0 _).mono ?_
                    rintro e wx ⟨rfl, rfl⟩
                    go_wp2_with fail
                    refine HRD.out.mono ?_
                    rintro e wj ⟨rfl, hkj⟩
                    have HSJ := Lib.hid (HSI.out.kept hkj)
                    clear hkj HSI HRD
                    have HDT := Lib.hid (fun u : Later wj => (HSJ.out.kept u.2).dirtied (z := 0) (dirty_none _ _ 8 (fun i hi => by rw [(HKC.out i hi).2]; rfl)) rfl)
                    have HNM := Lib.hid (fun u : Later wj => num10_any 0 u.1)
                    go_wp2_with fail
                    obtain ⟨hts, hx1, hex⟩ := HLT.out
                    have hws := HWS.out
                    refine region_later (by kernel_rfl) (by kernel_rfl) ?_
                    repeat (go_big_quiet_step (first | (go_at_call 11; exact later_same (HNM.out _)) | (go_at_call 24; exact later_call (HDT.out _))))
                    refine wpQuiet_nil ?_
                    intro _ hw'
                    obtain ⟨nq, hw''⟩ := hw'
                    subst hw''
                    have HSK := Lib.hid (HSJ.out.kept nq.2)
                    clear hx1 hex HDT HNM HSJ
                    generalize nq.1 = wk at *
                    go_wp2_with fail
                    go_roundw
                    case rel => exact ⟨k + 1, by omega, by omega, by go_num, HSK.out.low⟩
                    case measure => simp [intOf]; omega

      · by_cases hl : k < len
        · have hd1 : decide (k < len) = true := decide_eq_true hl
          have hd2 : decide ((k : Int) < (len : Int)) = true := decide_eq_true (by omega)
          have hd3 : decide ((k : Int) < 8) = false := decide_eq_false (by omega)
          obtain ⟨_, _, a2⟩ := box3a (HB.out.kept hb)
          clear hb
          go_wp2_with fail
          refine (wakes_any w1.heap.size _ (Below.size HL.out)).mono ?_
          rintro e w9 ⟨rfl, hb⟩
          have HF := Lib.hid (HK1.out.trans (Below.trans HL.out hb))
          clear hb a2
          go_wp2
          go_ret
          exact ⟨rfl, HF.out⟩
        · have hd1 : decide (k < len) = false := decide_eq_false hl
          have hd2 : decide ((k : Int) < (len : Int)) = false := decide_eq_false (by omega)
          obtain ⟨_, _, a2⟩ := box3a (HB.out.kept hb)
          clear hb
          go_wp2_with fail
          refine (wakes_any w1.heap.size _ (Below.size HL.out)).mono ?_
          rintro e w9 ⟨rfl, hb⟩
          have HF := Lib.hid (HK1.out.trans (Below.trans HL.out hb))
          clear hb a2
          go_wp2
          go_ret
          exact ⟨rfl, HF.out⟩

end Go.Proofs.Ytkfomaoillnehaa
