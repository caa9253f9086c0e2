/- The walk of the law SpanBack: it answers true and changes nothing that was there (no conditions). -/
import Derived.Test.YtlncjheifkbomaaSpnH
import Derived.Test.YtlncjheifkbomaaTk2
import Derived.Test.YtlncjheifkbomaaSpnB
import Derived.Test.YtlncjheifkbomaaRl9
namespace Go.Proofs.Ytlncjheifkbomaa
open Go.RowKit

set_option maxRecDepth 100000 in
set_option maxHeartbeats 8000000 in
theorem span_back (ax : Option Addr) (ls cs : Nat) (al : Option Addr) (ll cl : Nat) (ss : List ByteArray) (ab : Option Addr) (lb cb : Nat) (n0 a0 b0 : Int) (ap : Option Addr) (lp cp : Nat) (ps : List (Int × Int × Int)) (W : World) (h : AskQ W ax ls cs al ll cl ss n0 a0 b0 ap lp cp ps) :
    Calls Try.prog 9 #[.agg #[.slice ax ls cs, .slice al ll cl, .slice ab lb cb, .int .i64 n0, .int .i64 a0, .int .i64 b0, .slice ap lp cp]] W fun e W' => e = .returned (.bool true) ∧ Below W.heap.size W W' := by
  have HA := Lib.hid h
  clear h
  have HK1 := Lib.hid ((Kept.refl W).alloc (.cells #[.slice ax ls cs, .slice al ll cl, .slice ab lb cb, .int .i64 n0, .int .i64 a0, .int .i64 b0, .slice ap lp cp] 58))
  have hB1 := BlockAt.new W #[.slice ax ls cs, .slice al ll cl, .slice ab lb cb, .int .i64 n0, .int .i64 a0, .int .i64 b0, .slice ap lp cp] 58
  go_enter Try.func9, Try.ntmps9
  go_upto_region 1 with (fail)
  generalize W.alloc (.cells #[.slice ax ls cs, .slice al ll cl, .slice ab lb cb, .int .i64 n0, .int .i64 a0, .int .i64 b0, .slice ap lp cp] 58) = w1 at *
  have HREAD := Lib.hid (fun w (kk : Kept w1 w) => box7 (hB1.kept kk))
  clear hB1
  generalize W.heap.size = p0 at HREAD ⊢
  obtain ⟨r0, r1, r2, r3, r4, r5, r6⟩ := HREAD.out _ (Kept.refl _)
  go_wp2_with fail
  refine (heavy8_any ax ls cs al ll cl ss ab lb cb n0 a0 b0 ap lp cp _ (HA.out.c.kept HK1.out)).mono ?_
  rintro e w2 ⟨he, hk2⟩
  have HK2 := Lib.hid hk2
  clear hk2 r0 r1 r2 r3 r4 r5 r6
  rcases he with rfl | ⟨rfl, ⟨hll, hls, hsz⟩, hlp⟩
  · go_wp2
    go_ret
    exact ⟨rfl, HK1.out.trans HK2.out⟩
  · have HSZ := Lib.hid hsz
    clear hsz hlp
    go_wp2_with fail
    obtain ⟨wo, rfl⟩ : ∃ wo : World, wo = w2 := ⟨_, rfl⟩
    go_loopw [3] (fun i wr => ∃ j : Nat, j ≤ ls ∧ i = .int .i64 j ∧ Kept w1 wr) (fun i _ => ls - (intOf i).toNat)
    case atStart => exact ⟨0, by omega, rfl, HK2.out⟩
    case round =>
      obtain ⟨j, hj, rfl, hK⟩ := hrel
      have HK := Lib.hid hK
      clear hK
      obtain ⟨r0, r1, r2, r3, r4, r5, r6⟩ := HREAD.out _ HK.out
      by_cases hjl : j < ls
      · by_cases hj4 : j < 4
        · obtain ⟨b, off, rfl, hc⟩ := HA.out.c.shapes.cell (by omega)
          obtain ⟨k, m, s, hkb, hcell⟩ := hc j hjl
          obtain ⟨c0, c1, c2⟩ := hcell _ (HK1.out.trans HK.out)
          clear hc hcell
          have hd1 : decide ((j : Int) < ls) = true := decide_eq_true (by omega)
          have hd2 : decide ((j : Int) < 4) = true := decide_eq_true (by omega)
          go_upto_region 7 with (fail)
          have hB4 := BlockAt.new wr #[.int .i64 k, .int .i64 m, .int .i64 s] 31
          have k4 : Kept wr (wr.alloc (.cells #[.int .i64 k, .int .i64 m, .int .i64 s] 31)) := (Kept.refl wr).alloc _
          generalize wr.alloc (.cells #[.int .i64 k, .int .i64 m, .int .i64 s] 31) = wa at *
          have HKa := Lib.hid (HK.out.trans k4)
          have HS4 := Lib.hid (fun w (kk : Kept wa w) => box3c (hB4.kept kk))
          clear hB4 k4 r0 r1 r2 r3 r4 r5 r6 c0 c1 c2
          generalize wr.heap.size = p4 at *
          obtain ⟨c0, c1, c2⟩ := HS4.out _ (Kept.refl _)
          go_wp2_with fail
          refine (shape_ref k m s _).mono ?_
          rintro e w6 ⟨rfl, hk6⟩
          have HKb := Lib.hid (HKa.out.trans hk6)
          have HKs := Lib.hid hk6
          clear hk6 c0 c1 c2
          cases hs : shpB k m s with
          | false =>
            clear hs
            go_wp2
            go_roundw
            case rel => exact ⟨j + 1, by omega, by go_num, HKb.out⟩
            case measure => simp [intOf]; omega
          | true =>
            have hkb2 := ks_bounds hs
            obtain ⟨q, hq⟩ : ∃ q : Nat, k * s = q := ⟨(k * s).toNat, by omega⟩
            have hq1 : 1 ≤ q := by omega
            have hq9 : q ≤ 960 := by omega
            have HSH := Lib.hid hs
            have HQ := Lib.hid hq
            clear hs hq hkb2
            obtain ⟨wb, rfl⟩ : ∃ wb, wb = w6 := ⟨_, rfl⟩
            go_wp2_with fail
            go_loopw [5] (fun i wr => ∃ z : Nat, z ≤ ll ∧ i = .int .i64 z ∧ Kept wa wr) (fun i _ => ll - (intOf i).toNat)
            case atStart => exact ⟨0, by omega, rfl, HKs.out⟩
            case round =>
              obtain ⟨z, hz, rfl, hkz⟩ := hrel
              have HKz := Lib.hid hkz
              clear hkz
              obtain ⟨wz, rfl⟩ : ∃ wz, wz = wr := ⟨_, rfl⟩
              obtain ⟨r0, r1, r2, r3, r4, r5, r6⟩ := HREAD.out _ (HKa.out.trans HKz.out)
              by_cases hzl : z < ll
              · have hd3 : decide (z < ll) = true := decide_eq_true hzl
                by_cases hz4 : z < 4
                · have hd4 : decide ((z : Int) < 4) = true := decide_eq_true (by omega)
                  obtain ⟨bt, ot, rfl, hct⟩ := HA.out.c.texts.cell (by omega)
                  have htx := hct z hzl _ (HK1.out.trans (HKa.out.trans HKz.out))
                  have hts := HSZ.out z hzl
                  generalize ss.getD z ByteArray.empty = t at htx hts
                  clear hct
                  by_cases ht : t.size ≤ 2000
                  · have hd5 : decide ((2000 : Int) < t.size) = false := decide_eq_false (by omega)
                    obtain ⟨n1, hn1⟩ : ∃ n1 : Nat, n1 = t.size + 1 := ⟨_, rfl⟩
                    obtain ⟨n3, hn3⟩ : ∃ n3 : Nat, n3 = t.size + 3 := ⟨_, rfl⟩
                    have f1 : (t.size : Int) + 1 = (n1 : Int) := by omega
                    have f3 : (t.size : Int) + 3 = (n3 : Int) := by omega
                    obtain ⟨f, hf, hw1⟩ : ∃ f : Nat, f < n1 ∧ ∀ w, Calls Try.prog 28 #[.int .i64 a0, .int .i64 (n1 : Int)] w fun e w' => e = .returned (.int .i64 (f : Int)) ∧ w = w' := ⟨wthn a0 n1, wthn_lt a0 (by omega), fun w => within_ref a0 n1 (by omega) w⟩
                    obtain ⟨y, hy, hw2⟩ : ∃ y : Nat, y < n3 ∧ ∀ w, Calls Try.prog 28 #[.int .i64 b0, .int .i64 (n3 : Int)] w fun e w' => e = .returned (.int .i64 (y : Int)) ∧ w = w' := ⟨wthn b0 n3, wthn_lt b0 (by omega), fun w => within_ref b0 n3 (by omega) w⟩
                    obtain ⟨e9, he9⟩ : ∃ e9 : Nat, e9 = min t.size (f + y) := ⟨_, rfl⟩
                    obtain ⟨fy, hfy⟩ : ∃ fy : Nat, fy = f + y := ⟨_, rfl⟩
                    have g1 : (f : Int) + (y : Int) = (fy : Int) := by omega
                    have g2 : min (t.size : Int) (fy : Int) = (e9 : Int) := by omega
                    have hfe : f ≤ e9 ∧ e9 ≤ t.size := by omega
                    have hfyb : fy ≤ 8000 := by omega
                    have hefb : e9 ≤ 2000 := by omega
                    have HW1 := Lib.hid hw1
                    have HW2 := Lib.hid hw2
                    have HG := Lib.hid (And.intro g1 g2)
                    have hst : stB k m s t.size = true := by
                      unfold stB
                      rw [HSH.out, decide_eq_true (show (0 : Int) ≤ (t.size : Int) by omega), decide_eq_true (show (t.size : Int) ≤ 2000 by omega)]
                      rfl
                    have HPA := Lib.hid (fun w => sparts_good k m s t.size f e9 (y : Int) q hst HQ.out (by omega) (by omega) (by
                      rw [he9]
                      by_cases h : y ≤ t.size - f
                      · rw [Int.min_eq_left (by omega)]; omega
                      · rw [Int.min_eq_right (by omega)]; omega) w)
                    have hpr := fun w => parts_ref k m s t HSH.out ht w
                    rw [HQ.out, Int.toNat_natCast] at hpr
                    have HPR := Lib.hid hpr
                    have HMY := Lib.hid (mayL_sp (t := t) hq1 hfe.1 hfe.2)
                    have HTK := Lib.hid (tookL_sp (t := t) hq1 hfe.1 hfe.2)
                    have hnm := spN_few q f e9
                    have HZS := Lib.hid (fun i (hi : i < nP t.size q) => show ((pcs t q).getD i ByteArray.empty).size ≤ 4000 by rw [pcs_getD t q i hi, pcOf_size]; omega)
                    clear hn1 hn3 hw1 hw2 he9 hfy g1 g2 hst hpr
                    go_wp2_with fail
                    refine (HW1.out _).mono ?_
                    rintro e w' ⟨rfl, rfl⟩
                    go_wp2_with fail
                    refine (HW2.out _).mono ?_
                    rintro e w' ⟨rfl, rfl⟩
                    clear f1 f3 r0 r1 r2 r3 r4 r5 r6 htx
                    obtain ⟨c0, c1, c2⟩ := HS4.out _ HKz.out
                    go_wp2_with fail
                    refine (HPA.out _).mono ?_
                    rintro e w7 ⟨a7, c7, rfl, hp7, hk7⟩
                    have HP7 := Lib.hid hp7
                    have HK7 := Lib.hid (HKz.out.trans hk7)
                    clear hp7 hk7 c0 c1 c2
                    obtain ⟨c0, c1, c2⟩ := HS4.out _ HK7.out
                    go_wp2_with fail
                    refine (HPR.out _).mono ?_
                    rintro e w8 ⟨a8, c8, rfl, _, hs8, hk8⟩
                    have HS8 := Lib.hid hs8
                    have HP8 := Lib.hid (HP7.out.kept hk8)
                    have HK8 := Lib.hid (HK7.out.trans hk8)
                    clear hs8 hk8 c0 c1 c2
                    have HTA := Lib.hid (take_any a8 (nP t.size q) c8 (pcs t q) a7 (spN q f e9) c7 (spL q f e9) w8 HS8.out HP8.out HZS.out (by omega))
                    have hte : takeE (pcs t q) (spL q f e9) = 0 := by unfold takeE; rw [if_pos HMY.out]
                    have htS : takeS (pcs t q) (spL q f e9) = t.extract f e9 := by unfold takeS; rw [if_pos HMY.out, HTK.out]
                    rw [hte, htS] at HTA
                    clear hte htS HMY HTK
                    go_wp2_with fail
                    refine (HTA.out).mono ?_
                    rintro e w9 ⟨rfl, hk9⟩
                    have HK9 := Lib.hid (HK8.out.trans hk9)
                    clear hk9
                    go_wp2_with fail
                    refine (num8_any _ _).mono ?_
                    rintro e w' ⟨rfl, rfl⟩
                    go_wp2_with fail
                    refine (num8_any _ _).mono ?_
                    rintro e w' ⟨rfl, rfl⟩
                    obtain ⟨g1, g2⟩ := HG.out
                    go_wp2
                    go_roundw
                    case rel => exact ⟨z + 1, by omega, by go_num, HK9.out⟩
                    case measure => simp [intOf]; omega
                  · have hd5 : decide ((2000 : Int) < t.size) = true := decide_eq_true (by omega)
                    go_wp2
                    go_roundw
                    case rel => exact ⟨z + 1, by omega, by go_num, HKz.out⟩
                    case measure => simp [intOf]; omega
                · have hd4 : decide ((z : Int) < 4) = false := decide_eq_false (by omega)
                  go_wp2
                  go_roundw
                  case rel => exact ⟨j + 1, by omega, by go_num, HKa.out.trans HKz.out⟩
                  case measure => simp [intOf]; omega
              · have hd3 : decide (z < ll) = false := decide_eq_false hzl
                go_wp2
                go_roundw
                case rel => exact ⟨j + 1, by omega, by go_num, HKa.out.trans HKz.out⟩
                case measure => simp [intOf]; omega
        · have hd1 : decide ((j : Int) < ls) = true := decide_eq_true (by omega)
          have hd2 : decide ((j : Int) < 4) = false := decide_eq_false (by omega)
          go_wp2_with fail
          refine (wakes8_any _).mono ?_
          rintro e w3 ⟨rfl, hk3⟩
          have HK3 := Lib.hid (HK.out.trans hk3)
          clear hk3 r0 r1 r2 r3 r4 r5 r6
          go_wp2
          go_ret
          exact ⟨rfl, HK1.out.trans HK3.out⟩
      · have hd1 : decide ((j : Int) < ls) = false := decide_eq_false (by omega)
        go_wp2_with fail
        refine (wakes8_any _).mono ?_
        rintro e w3 ⟨rfl, hk3⟩
        have HK3 := Lib.hid (HK.out.trans hk3)
        clear hk3 r0 r1 r2 r3 r4 r5 r6
        go_wp2
        go_ret
        exact ⟨rfl, HK1.out.trans HK3.out⟩
end Go.Proofs.Ytlncjheifkbomaa
