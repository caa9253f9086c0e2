
/- The reference of package array: Crash (conditions: the array lies as it should; the list reads as its numbers, whatever the array does to itself). -/
import Derived.Test.YtkfomaoillnehaaAr23
namespace Go.Proofs.Ytkfomaoillnehaa
open Go.RowKit
attribute [local go_sem] Oper.semAt_some

set_option maxRecDepth 100000 in
set_option maxHeartbeats 4000000 in
theorem crash_ar {B : Nat} {w : World} {p A D E : Nat} {K C : Nat → Nat} {S : Arr} (h : RfP w p A D E K C S) (hB : B ≤ p) (hBC : ∀ d, d < S.m → B ≤ K d ∧ B ≤ C d) (hBw : B ≤ w.heap.size) (al : Option Addr) (ll cl : Nat) (zs : List Int) (hl : ∀ W, RfN B w p A D E K C S.m W K C → IntsIn W .i64 al ll zs) :
    Calls Try.prog 17 #[.pointer (some ⟨p, 0, none⟩), .slice al ll cl] w fun e w' => e = .returned (.tuple #[]) ∧ RfP w' p A D E K C (crashA S zs) ∧ RfN B w p A D E K C S.m w' K C := by
  have HP := Lib.hid h
  have hm := h.m2
  have hn2 := h.n2
  have HB := Lib.hid (And.intro hB (And.intro hBC hBw))
  have HLS := Lib.hid hl
  obtain ⟨a1, a2, a3, ht⟩ := h.top
  obtain ⟨c0, c1, c2, c3, c4, c5, c6⟩ := box7r ht
  have f5 := ht.free 5
  have b1 := ht.set (i := 5) (.int .i64 (-1))
  have k1 := CellsBut.setCell (R := fun b => b = p) w (.int .i64 (-1)) (i := 5) (b := p) rfl
  have HP1 := Lib.hid (h.setTop (T := crS S zs 0) rfl rfl rfl k1 ⟨a1, a2, a3, b1⟩)
  have HN1 := Lib.hid (RfN.of_one (w := w) (p := p) (A := A) (D := D) (E := E) (K := K) (C := C) (m := S.m) (Below.setCell (Below.refl _ _) (p := ⟨p, 5, none⟩) hB (.int .i64 (-1))) k1 (.inl rfl))
  clear h hB hBC hBw hl ht b1 k1
  go_enter Try.func17, Try.ntmps17
  go_upto_region 1 with (fail)
  clear c0 c1 c2 c3 c4 c5 c6 f5
  generalize w.setCell ⟨p, 5, none⟩ (.int .i64 (-1)) = w1 at *
  go_wp2_with fail
  go_loopw [4, 5] (fun s d wr => ∃ k : Nat, k ≤ S.m ∧ d = .int .i64 ((k : Nat) : Int) ∧ s = .int .i64 (((crashD zs S.n S.ds k).2 : Nat) : Int) ∧ RfP wr p A D E K C (crS S zs k) ∧ RfN B w p A D E K C S.m wr K C) (fun _ d _ => S.m - (intOf d).toNat)
  case atStart => exact ⟨0, by omega, rfl, rfl, HP1.out, HN1.out⟩
  case round =>
    obtain ⟨k, hk, rfl, rfl, hp, hnn⟩ := hrel
    have HPK := Lib.hid hp
    have HNK := Lib.hid hnn
    clear hnn HP1 HN1
    obtain ⟨a1, a2, a3, ht⟩ := hp.top
    obtain ⟨c0, c1, c2, c3, c4, c5, c6⟩ := box7r ht
    change wr.cell? ⟨p, 0, none⟩ = some (.int .i64 (S.m : Int)) at c0
    change wr.cell? ⟨p, 1, none⟩ = some (.int .i64 (S.n : Int)) at c1
    change wr.cell? ⟨p, 2, none⟩ = some (.slice (some ⟨A, 0, none⟩) S.m a1) at c2
    change wr.cell? ⟨p, 3, none⟩ = some (.slice (some ⟨D, 0, none⟩) S.m a2) at c3
    change wr.cell? ⟨p, 4, none⟩ = some (.slice (some ⟨E, 0, none⟩) S.m a3) at c4
    clear ht c5 c6
    by_cases hlt : k < S.m
    · have hd1 : decide ((k : Int) < S.m) = true := decide_eq_true (by omega)
      have hbe := crashD_behind zs S.n S.ds k k (Nat.le_refl _)
      have hbd := crashD_le zs S.n S.ds k
      have hbd2 := Nat.mul_le_mul (show k + 1 ≤ 12 by omega) hn2
      obtain ⟨V0, hV⟩ : ∃ V0, V0 = (crashD zs S.n S.ds k).2 := ⟨_, rfl⟩
      rw [← hV]
      have HV0 := Lib.hid hV
      clear hV hp
      cases hx : S.ds k with
      | none =>
        have HX := Lib.hid (show (crS S zs k).ds k = none by show (crashD zs S.n S.ds k).1 k = none; rw [hbe, hx])
        have HE := Lib.hid (crash_none (l := zs) hx)
        clear hx hbe hbd hbd2
        go_wp2_with fail
        obtain ⟨wo, rfl⟩ : ∃ wo : World, wo = wr := ⟨_, rfl⟩
        go_loopw [4, 6] (fun s t wr => ∃ i : Nat, i ≤ S.n ∧ t = .int .i64 ((i : Nat) : Int) ∧ s = .int .i64 ((V0 : Nat) : Int) ∧ Kept wo wr) (fun _ t _ => S.n - (intOf t).toNat)
        case atStart => exact ⟨0, by omega, rfl, rfl, Kept.refl _⟩
        case round =>
          obtain ⟨i, hi, rfl, rfl, hki⟩ := hrel
          have HKI := Lib.hid hki
          have hp := HPK.out.kept hki
          clear hki c0 c1 c2 c3 c4
          obtain ⟨a1, a2, a3, ht⟩ := hp.top
          obtain ⟨c0, c1, c2, c3, c4, c5, c6⟩ := box7r ht
          change wr.cell? ⟨p, 0, none⟩ = some (.int .i64 (S.m : Int)) at c0
          change wr.cell? ⟨p, 1, none⟩ = some (.int .i64 (S.n : Int)) at c1
          change wr.cell? ⟨p, 2, none⟩ = some (.slice (some ⟨A, 0, none⟩) S.m a1) at c2
          change wr.cell? ⟨p, 3, none⟩ = some (.slice (some ⟨D, 0, none⟩) S.m a2) at c3
          change wr.cell? ⟨p, 4, none⟩ = some (.slice (some ⟨E, 0, none⟩) S.m a3) at c4
          clear ht c5 c6
          by_cases hil : i < S.n
          · have hd2 : decide ((i : Int) < S.n) = true := decide_eq_true (by omega)
            have l0 : wr.cell? ⟨A, k, none⟩ = some (.bool false) := by rw [hp.r.live k hlt, HX.out]; rfl
            clear hp
            go_wp2
            go_roundw
            case rel => exact ⟨i + 1, by omega, by go_num, rfl, HKI.out⟩
            case measure => simp [intOf]; omega
          · have hd2 : decide ((i : Int) < S.n) = false := decide_eq_false (by omega)
            have HQ := Lib.hid (show RfP wr p A D E K C (crS S zs (k + 1)) by unfold crS; rw [HE.out]; exact hp)
            have HNQ := Lib.hid (HNK.out.trans (RfN.of_kept HKI.out (Nat.le_trans HB.out.2.2 HNK.out.but.size)))
            clear hp
            go_wp2
            go_roundw
            case rel => exact ⟨k + 1, by omega, by go_num, by rw [HE.out, HV0.out], HQ.out, HNQ.out⟩
            case measure => simp [intOf]; omega
      | some x =>
        obtain ⟨N, ad, c, T, V, hcr⟩ := crD_ex p D K C S zs k hlt hn2
        obtain ⟨hN, hc⟩ := hcr.lv x hx
        subst hN hc
        have HCR := Lib.hid hcr
        have HT0 := Lib.hid (show RfP wr p A D E K C (T 0) by rw [hcr.t0]; exact HPK.out)
        have HV1 := Lib.hid (show V0 = V 0 by rw [hcr.v0, HV0.out])
        clear hx hbe hbd hcr
        go_wp2_with fail
        go_loopw [4, 6] (fun s t wr => ∃ i : Nat, i ≤ S.n ∧ t = .int .i64 ((i : Nat) : Int) ∧ s = .int .i64 ((V i : Nat) : Int) ∧ RfP wr p A D E K C (T i) ∧ RfN B w p A D E K C S.m wr K C) (fun _ t _ => S.n - (intOf t).toNat)
        case atStart => exact ⟨0, by omega, rfl, by rw [HV1.out], HT0.out, HNK.out⟩
        case round =>
          obtain ⟨i, hi, rfl, rfl, hp, hnn⟩ := hrel
          have hmm := HCR.out.tm i
          have HPI := Lib.hid hp
          have HNI := Lib.hid hnn
          clear hnn c0 c1 c2 c3 c4 HT0 HPK HNK
          obtain ⟨a1, a2, a3, ht⟩ := hp.top
          obtain ⟨c0, c1, c2, c3, c4, c5, c6⟩ := box7r ht
          rw [hmm.2] at c1
          rw [hmm.1] at c0 c2 c3 c4
          clear ht c5 c6
          by_cases hil : i < S.n
          · have hd2 : decide ((i : Int) < S.n) = true := decide_eq_true (by omega)
            obtain ⟨y, hy, hyc⟩ := HCR.out.rd i hil
            have hvb := HCR.out.bound i hi
            have hkT : k < (T i).m := by rw [hmm.1]; exact hlt
            have hiT : i < (T i).n := by rw [hmm.2]; exact hil
            have l0 : wr.cell? ⟨A, k, none⟩ = some (.bool true) := by rw [hp.r.live k hkT, hy]; rfl
            obtain ⟨cp, l1, hcp⟩ := hp.r.cach k hkT
            rw [hmm.2] at l1 hcp
            have tc := hp.r.txc hkT hy
            have l2 := tc.cell i hiT
            have l4 := tc.free i
            rw [hyc] at l2
            obtain ⟨j, hj⟩ : ∃ j, j = V i := ⟨_, rfl⟩
            have hjb : j ≤ 100000 := by omega
            rw [← hj]
            have HJ := Lib.hid hj
            have HY := Lib.hid hy
            have HMM := Lib.hid hmm
            have HSK := Lib.hid (HCR.out.skip i hil)
            have HST := Lib.hid (HCR.out.step i hil)
            clear hp tc hvb hy hyc hj hmm
            by_cases hz : (x.c i).size = 0
            · obtain ⟨e1, e2⟩ := HSK.out hz
              have HT := Lib.hid e1
              have HVV := Lib.hid e2
              have hte := isEmpty_none hz
              clear e1 e2 hz HSK HST
              generalize x.c i = t at *
              go_wp2
              go_roundw
              case rel => exact ⟨i + 1, by omega, by go_num, by rw [HVV.out, HJ.out], by rw [HT.out]; exact HPI.out, HNI.out⟩
              case measure => simp [intOf]; omega
            · obtain ⟨y2, hy2, hT, hV⟩ := HST.out hz
              have hte := isEmpty_some hz
              obtain rfl : y2 = y := by rw [HY.out] at hy2; cases hy2; rfl
              rw [← HJ.out] at hT hV
              have HT := Lib.hid hT
              have HVV := Lib.hid hV
              have HLI := Lib.hid (HLS.out wr HNI.out)
              have HLE := Lib.hid HLI.out.len_eq
              have hll := HLI.out.le
              clear hy2 hT hV hz HSK HST
              obtain ⟨t, hxt⟩ : ∃ t, t = x.c i := ⟨_, rfl⟩
              rw [← hxt] at hte l2 HT
              have HXT := Lib.hid hxt
              clear hxt
              by_cases hl0 : 0 < ll
              · by_cases hz : zs.getD (j % ll) 0 % 2 = 1
                · have HPB := Lib.hid (show zs.getD (j % ll) 0 % 2 = 1 ↔ True from ⟨fun _ => trivial, fun _ => hz⟩)
                  have hpk : pickA zs j = true := by unfold pickA; rw [HLE.out, decide_eq_true hl0, decide_eq_true hz]; rfl
                  have HT2 := Lib.hid (show T (i + 1) = putD (T i) k ⟨upF y2.k i t, upF y2.c i ByteArray.empty⟩ by rw [HT.out, hpk]; rfl)
                  clear hz hpk HT
                  have hd4 : decide (0 < ll) = true := decide_eq_true hl0
                  have hd3 : decide ((0 : Int) < (ll : Int)) = true := decide_eq_true (by omega)
                  obtain ⟨zb, zo, hza, hzc⟩ := HLI.out.cells
                  obtain rfl := hza hl0
                  have hrm : (j : Int).tmod (ll : Int) = ((j % ll : Nat) : Int) := by simp [Int.tmod_eq_emod_of_nonneg]
                  have hq := Nat.mod_lt j hl0
                  have hz1 := (hzc (j % ll) hq).2
                  have hz2 : zs.getD (j % ll) 0 % 2 = 1 ↔ True := HPB.out
                  have ha1 := i64_and1 (zs.getD (j % ll) 0)
                  have hz3 : (zs.getD (j % ll) 0 % 2 == 1) = true := by rw [hz2.2 trivial]; rfl
                  generalize zs.getD (j % ll) 0 = z at *
                  generalize j % ll = q at *
                  clear hza hzc hz2
                  go_upto_region 10 with (fail)
                  clear c0 c1 c2 c3 c4 l0 l1 l2 l4 hz1 hrm ha1 hz3 hd4 hd3 hq HLI HPB
                  have hp := HPI.out
                  have hmm := HMM.out
                  obtain ⟨a1, a2, a3, ht⟩ := hp.top
                  obtain ⟨c0, c1, c2, c3, c4, c5, c6⟩ := box7r ht
                  rw [hmm.2] at c1
                  rw [hmm.1] at c0 c2 c3 c4
                  clear ht c5 c6
                  obtain ⟨cp2, l1, hcp2⟩ := hp.r.cach k hkT
                  rw [hmm.2] at l1 hcp2
                  obtain ⟨kp, l3, hkp⟩ := hp.r.disk k hkT
                  rw [hmm.2] at l3 hkp
                  have tk := hp.r.txk hkT HY.out
                  have tc := hp.r.txc hkT HY.out
                  have k0 := tk.cell i hiT
                  have k1 := tk.free i
                  have l2 := tc.cell i hiT
                  obtain ⟨y3, hy3, hyc⟩ := HCR.out.rd i hil
                  obtain rfl : y3 = y2 := by rw [HY.out] at hy3; cases hy3; rfl
                  clear tk tc hy3 hp hmm
                  have HH1 := Lib.hid (fun nq => (HPI.out.kept ((Kept.refl wr).drewN nq)).setK hkT HY.out i t)
                  have HNH1 := Lib.hid (fun nq => (HNI.out.trans (RfN.of_kept ((Kept.refl wr).drewN nq) (Nat.le_trans HB.out.2.2 HNI.out.but.size))).trans (RfN.of_one (Below.setCell (Below.refl _ _) (p := ⟨K k, i, none⟩) (HB.out.2.1 k hlt).1 (.string t)) (CellsBut.setCell (wr.drewN nq) (.string t) rfl) (.inr (.inr (.inr (.inr ⟨k, hlt, .inl rfl⟩))))))
                  have hyt : y3.c i = t := by
                    rw [hyc]; exact HXT.out.symm
                  rw [hyt] at l2
                  clear hyt hyc
                  refine (wpIn_wide (n := 0)).1 ?_
                  refine wpIn_region_quiet_tail_lit 19 (by kernel_rfl) (by kernel_rfl) (by kernel_rfl) ?_
                  simp only [List.take_succ_cons, List.take_zero, List.drop_succ_cons, List.drop_zero]
                  repeat (gi_big_quiet_step (fail))
                  refine wpQuietIn_nil ?_
                  intro _ hw'
                  obtain ⟨nq, hw''⟩ := hw'
                  subst hw''
                  gi_wp2
                  have HH2 := Lib.hid (HH1.out nq)
                  have HNH2 := Lib.hid (HNH1.out nq)
                  clear HH1 HNH1 c0 c1 c2 c3 c4 l1 l2 l3 k0 k1
                  generalize (wr.drewN nq).setCell ⟨K k, i, none⟩ (.string t) = w5 at *
                  have hp := HH2.out
                  have hmm := HMM.out
                  obtain ⟨a1, a2, a3, ht⟩ := hp.top
                  obtain ⟨c0, c1, c2, c3, c4, c5, c6⟩ := box7r ht
                  change w5.cell? ⟨p, 4, none⟩ = some (.slice (some ⟨E, 0, none⟩) (T i).m a3) at c4
                  rw [hmm.1] at c4
                  clear ht c0 c1 c2 c3 c5 c6
                  obtain ⟨cp3, l1, hcp3⟩ := hp.r.cach k hkT
                  change w5.cell? ⟨E, k, none⟩ = some (.slice (some ⟨C k, 0, none⟩) (T i).n cp3) at l1
                  change (T i).n ≤ cp3 at hcp3
                  rw [hmm.2] at l1 hcp3
                  have tc := hp.r.txc (d := k) hkT (upF_same _ _ _)
                  have l2 := tc.cell i hiT
                  have l4 := tc.free i
                  have ha2 := HH2.out.setC (d := k) hkT (upF_same _ _ _) i ByteArray.empty
                  rw [putD_putD] at ha2
                  dsimp only at ha2
                  rw [← HT2.out] at ha2
                  have HA2 := Lib.hid ha2
                  have HNA := Lib.hid (HNH2.out.trans (RfN.of_one (Below.setCell (Below.refl _ _) (p := ⟨C k, i, none⟩) (HB.out.2.1 k hlt).2 (.string ByteArray.empty)) (CellsBut.setCell w5 (.string ByteArray.empty) rfl) (.inr (.inr (.inr (.inr ⟨k, hlt, .inr rfl⟩))))))
                  clear ha2 tc hp hmm
                  go_wp2
                  go_roundw
                  case rel => exact ⟨i + 1, by omega, by go_num, by rw [HVV.out]; go_num, HA2.out, HNA.out⟩
                  case measure => simp [intOf]; omega
                · have HPB := Lib.hid (show zs.getD (j % ll) 0 % 2 = 1 ↔ False from ⟨fun h => hz h, fun h => h.elim⟩)
                  have hpk : pickA zs j = false := by unfold pickA; rw [HLE.out, decide_eq_false hz, Bool.and_false]
                  have HT2 := Lib.hid (show T (i + 1) = putD (T i) k ⟨y2.k, upF y2.c i ByteArray.empty⟩ by rw [HT.out, hpk]; rfl)
                  clear hz hpk HT
                  have hd4 : decide (0 < ll) = true := decide_eq_true hl0
                  have hd3 : decide ((0 : Int) < (ll : Int)) = true := decide_eq_true (by omega)
                  obtain ⟨zb, zo, hza, hzc⟩ := HLI.out.cells
                  obtain rfl := hza hl0
                  have hrm : (j : Int).tmod (ll : Int) = ((j % ll : Nat) : Int) := by simp [Int.tmod_eq_emod_of_nonneg]
                  have hq := Nat.mod_lt j hl0
                  have hz1 := (hzc (j % ll) hq).2
                  have hz2 : zs.getD (j % ll) 0 % 2 = 1 ↔ False := HPB.out
                  have ha1 := i64_and1 (zs.getD (j % ll) 0)
                  have hz3 : (zs.getD (j % ll) 0 % 2 == 1) = false := by rw [beq_eq_false_iff_ne]; exact fun e => hz2.1 e
                  generalize zs.getD (j % ll) 0 = z at *
                  generalize j % ll = q at *
                  clear hza hzc hz2
                  go_upto_region 11 with (fail)
                  clear c0 c1 c2 c3 c4 l0 l1 l2 l4 hz1 hrm ha1 hz3 hq HPB hd4 hd3 HLI
                  have hp := HPI.out
                  have hmm := HMM.out
                  obtain ⟨a1, a2, a3, ht⟩ := hp.top
                  obtain ⟨c0, c1, c2, c3, c4, c5, c6⟩ := box7r ht
                  rw [hmm.2] at c1
                  rw [hmm.1] at c0 c2 c3 c4
                  clear ht c5 c6
                  obtain ⟨cp3, l1, hcp3⟩ := hp.r.cach k hkT
                  rw [hmm.2] at l1 hcp3
                  have tc := hp.r.txc hkT HY.out
                  have l2 := tc.cell i hiT
                  have l4 := tc.free i
                  have ha2 := HPI.out.setC (d := k) hkT HY.out i ByteArray.empty
                  rw [← HT2.out] at ha2
                  have HA2 := Lib.hid ha2
                  have HNA := Lib.hid (HNI.out.trans (RfN.of_one (Below.setCell (Below.refl _ _) (p := ⟨C k, i, none⟩) (HB.out.2.1 k hlt).2 (.string ByteArray.empty)) (CellsBut.setCell wr (.string ByteArray.empty) rfl) (.inr (.inr (.inr (.inr ⟨k, hlt, .inr rfl⟩))))))
                  clear ha2 tc hp hmm
                  go_wp2
                  go_roundw
                  case rel => exact ⟨i + 1, by omega, by go_num, by rw [HVV.out]; go_num, HA2.out, HNA.out⟩
                  case measure => simp [intOf]; omega
              · have hpk : pickA zs j = false := by unfold pickA; rw [HLE.out, decide_eq_false hl0, Bool.false_and]
                have HT2 := Lib.hid (show T (i + 1) = putD (T i) k ⟨y2.k, upF y2.c i ByteArray.empty⟩ by rw [HT.out, hpk]; rfl)
                clear hpk HT
                obtain rfl : ll = 0 := by omega
                have hd4 : decide (0 < 0) = false := rfl
                have hd3 : decide ((0 : Int) < ((0 : Nat) : Int)) = false := rfl
                go_upto_region 11 with (fail)
                clear c0 c1 c2 c3 c4 l0 l1 l2 l4 hd4 hd3 HLI
                have hp := HPI.out
                have hmm := HMM.out
                obtain ⟨a1, a2, a3, ht⟩ := hp.top
                obtain ⟨c0, c1, c2, c3, c4, c5, c6⟩ := box7r ht
                rw [hmm.2] at c1
                rw [hmm.1] at c0 c2 c3 c4
                clear ht c5 c6
                obtain ⟨cp3, l1, hcp3⟩ := hp.r.cach k hkT
                rw [hmm.2] at l1 hcp3
                have tc := hp.r.txc hkT HY.out
                have l2 := tc.cell i hiT
                have l4 := tc.free i
                have ha2 := HPI.out.setC (d := k) hkT HY.out i ByteArray.empty
                rw [← HT2.out] at ha2
                have HA2 := Lib.hid ha2
                have HNA := Lib.hid (HNI.out.trans (RfN.of_one (Below.setCell (Below.refl _ _) (p := ⟨C k, i, none⟩) (HB.out.2.1 k hlt).2 (.string ByteArray.empty)) (CellsBut.setCell wr (.string ByteArray.empty) rfl) (.inr (.inr (.inr (.inr ⟨k, hlt, .inr rfl⟩))))))
                clear ha2 tc hp hmm
                go_wp2
                go_roundw
                case rel => exact ⟨i + 1, by omega, by go_num, by rw [HVV.out]; go_num, HA2.out, HNA.out⟩
                case measure => simp [intOf]; omega
          · have hd2 : decide ((i : Int) < S.n) = false := decide_eq_false (by omega)
            obtain rfl : i = S.n := by omega
            have HQ := Lib.hid (show RfP wr p A D E K C (crS S zs (k + 1)) by rw [← HCR.out.tn]; exact hp)
            have HVN := Lib.hid HCR.out.vn
            clear hp hmm
            go_wp2
            go_roundw
            case rel => exact ⟨k + 1, by omega, by go_num, by rw [HVN.out], HQ.out, HNI.out⟩
            case measure => simp [intOf]; omega
    · obtain rfl : k = S.m := by omega
      have hd1 : decide ((S.m : Int) < S.m) = false := decide_eq_false (by omega)
      clear hp
      go_wp2
      go_end0
      exact ⟨rfl, HPK.out, HNK.out⟩
end Go.Proofs.Ytkfomaoillnehaa
