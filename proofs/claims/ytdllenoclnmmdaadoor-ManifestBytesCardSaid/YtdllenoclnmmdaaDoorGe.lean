/- Contracts laid together: what each says stands at its head (no conditions). -/
import Derived.Test.YtdllenoclnmmdaaDoorMblM
import Derived.Test.YtdllenoclnmmdaaDoorGn
namespace Go.Proofs.YtdllenoclnmmdaaDoor
open Go.RowKit Go.Shelf
attribute [local go_sem] Oper.semAt_some
set_option maxRecDepth 100000 in
set_option maxHeartbeats 8000000 in
theorem manifest_bytesB : manifest_bytesM.1.1 := by
  intro am lm cm ms aa ls cs ss W HMS HSS HBG HOR hlm zi0 w1 HB0 HK0 w2 HK2 HB2 hls HLI w3 a3 c3 HK3 HT3 HSL zi1 wr u2 u3 u5 u6 u7 u8 u9 u10 u11 u12 u13 u24 u25 u26 u27 u28 u29 u30 u31 u32 u33 u34 u35 u36 u37 u38 u39 u40 u41 u42 u43 u44 u45 u46 u47 u48 u49 u50 u51 u52 u53 u54 u55 u56 u57 u58 u59 u60 u61 u62 u63 u64 u65 u66 u67 u68 u69 u70 u71 u72 u73 u74 u75 u76 u77 u78 u79 u80 u81 u82 u83 u84 u85 u86 u87 u88 u89 u90 u91 u92 u93 u94 u95 u96 u97 u98 u99 u100 u101 u102 u103 u104 u105 u106 u107 u108 u109 u110 u111 u112 u113 v3 i T hi hi6 hTl HKR HTT a0 a1 HBX HKE hlt hd1 hd2 zi2 zi3 zi4 zi5 zi6
  obtain ⟨av, cv, rfl⟩ := slice_of_own1 HTT.out.1
  have HTS := Lib.hid (strs_of_own HTT.out.1 HTT.out.2 rfl)
  go_loopw [14] (fun kv wx => ∃ j : Nat, j ≤ T.length ∧ kv = .int .i64 j ∧ Kept wr wx) (fun kv _ => T.length - (intOf kv).toNat)
  case atStart => exact ⟨0, by omega, rfl, Kept.refl _⟩
  case round =>
    rename World => wx
    obtain ⟨j, hj, rfl, hkx⟩ := hrel
    have HKX := Lib.hid hkx
    clear hkx
    by_cases hjl : j < T.length
    · have hd3 : decide (j < T.length) = true := decide_eq_true hjl
      have hd3i : decide ((j : Int) < (T.length : Int)) = true := decide_eq_true (by omega)
      obtain ⟨ba, oa, rfl, hca⟩ := HTS.out.at (by omega)
      have hcx := hca j hjl
      obtain ⟨t, ht⟩ : ∃ t, t = T.getD j ByteArray.empty := ⟨_, rfl⟩
      rw [← ht] at hcx
      have HC := Lib.hid hcx
      have c0 := hcx _ HKX.out
      clear hca ht hcx
      obtain ⟨m, hm⟩ : ∃ m, m = mfO (takeM t) := ⟨_, rfl⟩
      obtain ⟨ok, hok⟩ : ∃ ok, ok = (takeM t).isSome := ⟨_, rfl⟩
      have htk := take_caseM t m ok hm hok
      have htr := take_caseR t m ok hm hok
      clear hm hok
      obtain ⟨mk, mbs, mus⟩ := m
      dsimp only at htk htr
      cases ok with
      | true =>
        have HTK := Lib.hid htk
        have HTR := Lib.hid htr
        clear htk htr
        go_wp2_with fail
        refine (HTK.out _).mono ?_
        rintro e wy ⟨b1, e1, b2, e2, rfl, hs1, hs2, hk⟩
        have HK1 := Lib.hid (HKX.out.trans hk)
        clear hk c0
        go_upto_region 22 with (fail)
        have HPA0 := Lib.hid (BlockAt.new wy #[.int .i64 mk, .slice b1 mbs.length e1, .slice b2 mus.length e2] 29)
        have HKY := Lib.hid (HK1.out.alloc (.cells #[.int .i64 mk, .slice b1 mbs.length e1, .slice b2 mus.length e2] 29))
        have ka := (Kept.refl wy).alloc (.cells #[.int .i64 mk, .slice b1 mbs.length e1, .slice b2 mus.length e2] 29)
        have HA1 := Lib.hid (hs1.kept ka)
        have HA2 := Lib.hid (hs2.kept ka)
        clear ka hs1 hs2 HK1
        generalize wy.alloc (.cells #[.int .i64 mk, .slice b1 mbs.length e1, .slice b2 mus.length e2] 29) = wz at *
        obtain ⟨pa, hpa⟩ : ∃ pa, pa = wy.heap.size := ⟨_, rfl⟩
        rw [← hpa] at HPA0 ⊢
        clear hpa
        have c0 := HC.out _ HKY.out
        go_wp2_with fail
        refine (HTR.out _).mono ?_
        rintro e wu ⟨b3, e3, b4, e4, rfl, hs1, hs2, hk⟩
        have HK1 := Lib.hid hk
        clear hk c0
        go_upto_region 23 with (fail)
        have HPB0 := Lib.hid (BlockAt.new wu #[.int .i64 mk, .slice b3 mbs.length e3, .slice b4 mus.length e4] 29)
        have HKU := Lib.hid (HK1.out.alloc (.cells #[.int .i64 mk, .slice b3 mbs.length e3, .slice b4 mus.length e4] 29))
        have ka := (Kept.refl wu).alloc (.cells #[.int .i64 mk, .slice b3 mbs.length e3, .slice b4 mus.length e4] 29)
        have HB1 := Lib.hid (hs1.kept ka)
        have HB2' := Lib.hid (hs2.kept ka)
        clear ka hs1 hs2 HK1
        generalize wu.alloc (.cells #[.int .i64 mk, .slice b3 mbs.length e3, .slice b4 mus.length e4] 29) = wv at *
        obtain ⟨pb, hpb⟩ : ∃ pb, pb = wu.heap.size := ⟨_, rfl⟩
        rw [← hpb] at HPB0 ⊢
        clear hpb
        have HPA := Lib.hid (show ∀ w, Kept wv w → w.cell? ⟨pa, 0, none⟩ = some (.int .i64 mk) ∧ w.cell? ⟨pa, 1, none⟩ = some (.slice b1 mbs.length e1) ∧ w.cell? ⟨pa, 2, none⟩ = some (.slice b2 mus.length e2) from fun w q => box3k HPA0.out (HKU.out.trans q))
        have HPB := Lib.hid (show ∀ w, Kept wv w → w.cell? ⟨pb, 0, none⟩ = some (.int .i64 mk) ∧ w.cell? ⟨pb, 1, none⟩ = some (.slice b3 mbs.length e3) ∧ w.cell? ⟨pb, 2, none⟩ = some (.slice b4 mus.length e4) from fun w q => box3k HPB0.out q)
        have HEQ := Lib.hid (show ∀ w, Kept wv w → Calls Tryd.prog 14 #[.agg #[.int .i64 mk, .slice b1 mbs.length e1, .slice b2 mus.length e2], .agg #[.int .i64 mk, .slice b3 mbs.length e3, .slice b4 mus.length e4]] w fun e w' => e = .returned (.bool true) ∧ Kept w w' from fun w q => by
          refine (eq_mf mk b1 mbs.length e1 b2 mus.length e2 mbs mus mk b3 mbs.length e3 b4 mus.length e4 mbs mus w (HA1.out.kept (HKU.out.trans q)) (HA2.out.kept (HKU.out.trans q)) (HB1.out.kept q) (HB2'.out.kept q)).mono ?_
          rintro e w' ⟨rfl, hk⟩
          exact ⟨by simp, hk⟩)
        go_wp2_with fail
        obtain ⟨d0, d1, d2⟩ := HPA.out _ (Kept.refl _)
        obtain ⟨g0, g1, g2⟩ := HPB.out _ (Kept.refl _)
        refine (num20_any _ _).mono ?_
        rintro e wn ⟨rfl, rfl⟩
        go_wp2_with fail
        refine (HEQ.out _ (Kept.refl _)).mono ?_
        rintro e w9 ⟨rfl, hk9⟩
        have HKj := Lib.hid hk9
        clear hk9 d0 d1 d2 g0 g1 g2
        have HKD := Lib.hid (HKY.out.trans (HKU.out.trans HKj.out))
        clear HKj
        go_wp2_with fail
        go_roundw
        case rel => exact ⟨j + 1, by omega, by go_num, HKD.out⟩
        case measure => simp [intOf]; omega

      | false =>
        have HTK := Lib.hid htk
        have HTR := Lib.hid htr
        clear htk htr
        go_wp2_with fail
        refine (HTK.out _).mono ?_
        rintro e wy ⟨b1, e1, b2, e2, rfl, hs1, hs2, hk⟩
        have HK1 := Lib.hid (HKX.out.trans hk)
        clear hk c0
        go_upto_region 22 with (fail)
        have HPA0 := Lib.hid (BlockAt.new wy #[.int .i64 mk, .slice b1 mbs.length e1, .slice b2 mus.length e2] 29)
        have HKY := Lib.hid (HK1.out.alloc (.cells #[.int .i64 mk, .slice b1 mbs.length e1, .slice b2 mus.length e2] 29))
        have ka := (Kept.refl wy).alloc (.cells #[.int .i64 mk, .slice b1 mbs.length e1, .slice b2 mus.length e2] 29)
        have HA1 := Lib.hid (hs1.kept ka)
        have HA2 := Lib.hid (hs2.kept ka)
        clear ka hs1 hs2 HK1
        generalize wy.alloc (.cells #[.int .i64 mk, .slice b1 mbs.length e1, .slice b2 mus.length e2] 29) = wz at *
        obtain ⟨pa, hpa⟩ : ∃ pa, pa = wy.heap.size := ⟨_, rfl⟩
        rw [← hpa] at HPA0 ⊢
        clear hpa
        have c0 := HC.out _ HKY.out
        go_wp2_with fail
        refine (HTR.out _).mono ?_
        rintro e wu ⟨b3, e3, b4, e4, rfl, hs1, hs2, hk⟩
        have HK1 := Lib.hid hk
        clear hk c0
        go_upto_region 23 with (fail)
        have HPB0 := Lib.hid (BlockAt.new wu #[.int .i64 mk, .slice b3 mbs.length e3, .slice b4 mus.length e4] 29)
        have HKU := Lib.hid (HK1.out.alloc (.cells #[.int .i64 mk, .slice b3 mbs.length e3, .slice b4 mus.length e4] 29))
        have ka := (Kept.refl wu).alloc (.cells #[.int .i64 mk, .slice b3 mbs.length e3, .slice b4 mus.length e4] 29)
        have HB1 := Lib.hid (hs1.kept ka)
        have HB2' := Lib.hid (hs2.kept ka)
        clear ka hs1 hs2 HK1
        generalize wu.alloc (.cells #[.int .i64 mk, .slice b3 mbs.length e3, .slice b4 mus.length e4] 29) = wv at *
        obtain ⟨pb, hpb⟩ : ∃ pb, pb = wu.heap.size := ⟨_, rfl⟩
        rw [← hpb] at HPB0 ⊢
        clear hpb
        have HPA := Lib.hid (show ∀ w, Kept wv w → w.cell? ⟨pa, 0, none⟩ = some (.int .i64 mk) ∧ w.cell? ⟨pa, 1, none⟩ = some (.slice b1 mbs.length e1) ∧ w.cell? ⟨pa, 2, none⟩ = some (.slice b2 mus.length e2) from fun w q => box3k HPA0.out (HKU.out.trans q))
        have HPB := Lib.hid (show ∀ w, Kept wv w → w.cell? ⟨pb, 0, none⟩ = some (.int .i64 mk) ∧ w.cell? ⟨pb, 1, none⟩ = some (.slice b3 mbs.length e3) ∧ w.cell? ⟨pb, 2, none⟩ = some (.slice b4 mus.length e4) from fun w q => box3k HPB0.out q)
        have HEQ := Lib.hid (show ∀ w, Kept wv w → Calls Tryd.prog 14 #[.agg #[.int .i64 mk, .slice b1 mbs.length e1, .slice b2 mus.length e2], .agg #[.int .i64 mk, .slice b3 mbs.length e3, .slice b4 mus.length e4]] w fun e w' => e = .returned (.bool true) ∧ Kept w w' from fun w q => by
          refine (eq_mf mk b1 mbs.length e1 b2 mus.length e2 mbs mus mk b3 mbs.length e3 b4 mus.length e4 mbs mus w (HA1.out.kept (HKU.out.trans q)) (HA2.out.kept (HKU.out.trans q)) (HB1.out.kept q) (HB2'.out.kept q)).mono ?_
          rintro e w' ⟨rfl, hk⟩
          exact ⟨by simp, hk⟩)
        go_wp2_with fail
        obtain ⟨d0, d1, d2⟩ := HPA.out _ (Kept.refl _)
        obtain ⟨g0, g1, g2⟩ := HPB.out _ (Kept.refl _)
        refine (num20_any _ _).mono ?_
        rintro e wn ⟨rfl, rfl⟩
        go_wp2_with fail
        refine (num20_any _ _).mono ?_
        rintro e wn ⟨rfl, rfl⟩
        go_wp2_with fail
        refine (HEQ.out _ (Kept.refl _)).mono ?_
        rintro e w9 ⟨rfl, hk9⟩
        have HKj := Lib.hid hk9
        clear hk9 d0 d1 d2 g0 g1 g2
        have HKD := Lib.hid (HKY.out.trans (HKU.out.trans HKj.out))
        clear HKj
        go_wp2_with fail
        go_roundw
        case rel => exact ⟨j + 1, by omega, by go_num, HKD.out⟩
        case measure => simp [intOf]; omega

    · obtain rfl : T.length = j := by omega
      have hd3 : decide (T.length < T.length) = false := decide_eq_false (by omega)
      have hd3i : decide ((T.length : Int) < (T.length : Int)) = false := decide_eq_false (by omega)
      have HKE2 := Lib.hid (HKE.out.trans HKX.out)
      go_wp2_with fail
      refine (wakes20_any _).mono ?_
      rintro e w9 ⟨rfl, hk9⟩
      have HK9 := Lib.hid (HKE2.out.trans hk9)
      clear hk9
      go_wp2
      go_ret
      exact ⟨rfl, HK9.out⟩

end Go.Proofs.YtdllenoclnmmdaaDoor

namespace Go.Proofs.YtdllenoclnmmdaaDoor
open Go.RowKit Go.Shelf
attribute [local go_sem] Oper.semAt_some
set_option maxRecDepth 100000 in
set_option maxHeartbeats 8000000 in
theorem manifest_bytesC : manifest_bytesM.1.2 := by
  intro am lm cm ms aa ls cs ss W HMS HSS HBG HOR hlm zi0 w1 HB0 HK0 w2 HK2 HB2 hls HLI w3 a3 c3 HK3 HT3 HSL zi1 wr u2 u3 u5 u6 u7 u8 u9 u10 u11 u12 u13 u24 u25 u26 u27 u28 u29 u30 u31 u32 u33 u34 u35 u36 u37 u38 u39 u40 u41 u42 u43 u44 u45 u46 u47 u48 u49 u50 u51 u52 u53 u54 u55 u56 u57 u58 u59 u60 u61 u62 u63 u64 u65 u66 u67 u68 u69 u70 u71 u72 u73 u74 u75 u76 u77 u78 u79 u80 u81 u82 u83 u84 u85 u86 u87 u88 u89 u90 u91 u92 u93 u94 u95 u96 u97 u98 u99 u100 u101 u102 u103 u104 u105 u106 u107 u108 u109 u110 u111 u112 u113 v3 i T hi hi6 hTl HKR HTT a0 a1 HBX HKE hlt hd1 zi2 zi3 zi4 zi5 zi6
  obtain ⟨av, cv, rfl⟩ := slice_of_own1 HTT.out.1
  have HTS := Lib.hid (strs_of_own HTT.out.1 HTT.out.2 rfl)
  go_loopw [14] (fun kv wx => ∃ j : Nat, j ≤ T.length ∧ kv = .int .i64 j ∧ Kept wr wx) (fun kv _ => T.length - (intOf kv).toNat)
  case atStart => exact ⟨0, by omega, rfl, Kept.refl _⟩
  case round =>
    rename World => wx
    obtain ⟨j, hj, rfl, hkx⟩ := hrel
    have HKX := Lib.hid hkx
    clear hkx
    by_cases hjl : j < T.length
    · have hd3 : decide (j < T.length) = true := decide_eq_true hjl
      have hd3i : decide ((j : Int) < (T.length : Int)) = true := decide_eq_true (by omega)
      obtain ⟨ba, oa, rfl, hca⟩ := HTS.out.at (by omega)
      have hcx := hca j hjl
      obtain ⟨t, ht⟩ : ∃ t, t = T.getD j ByteArray.empty := ⟨_, rfl⟩
      rw [← ht] at hcx
      have HC := Lib.hid hcx
      have c0 := hcx _ HKX.out
      clear hca ht hcx
      obtain ⟨m, hm⟩ : ∃ m, m = mfO (takeM t) := ⟨_, rfl⟩
      obtain ⟨ok, hok⟩ : ∃ ok, ok = (takeM t).isSome := ⟨_, rfl⟩
      have htk := take_caseM t m ok hm hok
      have htr := take_caseR t m ok hm hok
      clear hm hok
      obtain ⟨mk, mbs, mus⟩ := m
      dsimp only at htk htr
      cases ok with
      | true =>
        have HTK := Lib.hid htk
        have HTR := Lib.hid htr
        clear htk htr
        go_wp2_with fail
        refine (HTK.out _).mono ?_
        rintro e wy ⟨b1, e1, b2, e2, rfl, hs1, hs2, hk⟩
        have HK1 := Lib.hid (HKX.out.trans hk)
        clear hk c0
        go_upto_region 22 with (fail)
        have HPA0 := Lib.hid (BlockAt.new wy #[.int .i64 mk, .slice b1 mbs.length e1, .slice b2 mus.length e2] 29)
        have HKY := Lib.hid (HK1.out.alloc (.cells #[.int .i64 mk, .slice b1 mbs.length e1, .slice b2 mus.length e2] 29))
        have ka := (Kept.refl wy).alloc (.cells #[.int .i64 mk, .slice b1 mbs.length e1, .slice b2 mus.length e2] 29)
        have HA1 := Lib.hid (hs1.kept ka)
        have HA2 := Lib.hid (hs2.kept ka)
        clear ka hs1 hs2 HK1
        generalize wy.alloc (.cells #[.int .i64 mk, .slice b1 mbs.length e1, .slice b2 mus.length e2] 29) = wz at *
        obtain ⟨pa, hpa⟩ : ∃ pa, pa = wy.heap.size := ⟨_, rfl⟩
        rw [← hpa] at HPA0 ⊢
        clear hpa
        have c0 := HC.out _ HKY.out
        go_wp2_with fail
        refine (HTR.out _).mono ?_
        rintro e wu ⟨b3, e3, b4, e4, rfl, hs1, hs2, hk⟩
        have HK1 := Lib.hid hk
        clear hk c0
        go_upto_region 23 with (fail)
        have HPB0 := Lib.hid (BlockAt.new wu #[.int .i64 mk, .slice b3 mbs.length e3, .slice b4 mus.length e4] 29)
        have HKU := Lib.hid (HK1.out.alloc (.cells #[.int .i64 mk, .slice b3 mbs.length e3, .slice b4 mus.length e4] 29))
        have ka := (Kept.refl wu).alloc (.cells #[.int .i64 mk, .slice b3 mbs.length e3, .slice b4 mus.length e4] 29)
        have HB1 := Lib.hid (hs1.kept ka)
        have HB2' := Lib.hid (hs2.kept ka)
        clear ka hs1 hs2 HK1
        generalize wu.alloc (.cells #[.int .i64 mk, .slice b3 mbs.length e3, .slice b4 mus.length e4] 29) = wv at *
        obtain ⟨pb, hpb⟩ : ∃ pb, pb = wu.heap.size := ⟨_, rfl⟩
        rw [← hpb] at HPB0 ⊢
        clear hpb
        have HPA := Lib.hid (show ∀ w, Kept wv w → w.cell? ⟨pa, 0, none⟩ = some (.int .i64 mk) ∧ w.cell? ⟨pa, 1, none⟩ = some (.slice b1 mbs.length e1) ∧ w.cell? ⟨pa, 2, none⟩ = some (.slice b2 mus.length e2) from fun w q => box3k HPA0.out (HKU.out.trans q))
        have HPB := Lib.hid (show ∀ w, Kept wv w → w.cell? ⟨pb, 0, none⟩ = some (.int .i64 mk) ∧ w.cell? ⟨pb, 1, none⟩ = some (.slice b3 mbs.length e3) ∧ w.cell? ⟨pb, 2, none⟩ = some (.slice b4 mus.length e4) from fun w q => box3k HPB0.out q)
        have HEQ := Lib.hid (show ∀ w, Kept wv w → Calls Tryd.prog 14 #[.agg #[.int .i64 mk, .slice b1 mbs.length e1, .slice b2 mus.length e2], .agg #[.int .i64 mk, .slice b3 mbs.length e3, .slice b4 mus.length e4]] w fun e w' => e = .returned (.bool true) ∧ Kept w w' from fun w q => by
          refine (eq_mf mk b1 mbs.length e1 b2 mus.length e2 mbs mus mk b3 mbs.length e3 b4 mus.length e4 mbs mus w (HA1.out.kept (HKU.out.trans q)) (HA2.out.kept (HKU.out.trans q)) (HB1.out.kept q) (HB2'.out.kept q)).mono ?_
          rintro e w' ⟨rfl, hk⟩
          exact ⟨by simp, hk⟩)
        go_wp2_with fail
        obtain ⟨d0, d1, d2⟩ := HPA.out _ (Kept.refl _)
        obtain ⟨g0, g1, g2⟩ := HPB.out _ (Kept.refl _)
        refine (num20_any _ _).mono ?_
        rintro e wn ⟨rfl, rfl⟩
        go_wp2_with fail
        refine (HEQ.out _ (Kept.refl _)).mono ?_
        rintro e w9 ⟨rfl, hk9⟩
        have HKj := Lib.hid hk9
        clear hk9 d0 d1 d2 g0 g1 g2
        have HKD := Lib.hid (HKY.out.trans (HKU.out.trans HKj.out))
        clear HKj
        go_wp2_with fail
        go_roundw
        case rel => exact ⟨j + 1, by omega, by go_num, HKD.out⟩
        case measure => simp [intOf]; omega

      | false =>
        have HTK := Lib.hid htk
        have HTR := Lib.hid htr
        clear htk htr
        go_wp2_with fail
        refine (HTK.out _).mono ?_
        rintro e wy ⟨b1, e1, b2, e2, rfl, hs1, hs2, hk⟩
        have HK1 := Lib.hid (HKX.out.trans hk)
        clear hk c0
        go_upto_region 22 with (fail)
        have HPA0 := Lib.hid (BlockAt.new wy #[.int .i64 mk, .slice b1 mbs.length e1, .slice b2 mus.length e2] 29)
        have HKY := Lib.hid (HK1.out.alloc (.cells #[.int .i64 mk, .slice b1 mbs.length e1, .slice b2 mus.length e2] 29))
        have ka := (Kept.refl wy).alloc (.cells #[.int .i64 mk, .slice b1 mbs.length e1, .slice b2 mus.length e2] 29)
        have HA1 := Lib.hid (hs1.kept ka)
        have HA2 := Lib.hid (hs2.kept ka)
        clear ka hs1 hs2 HK1
        generalize wy.alloc (.cells #[.int .i64 mk, .slice b1 mbs.length e1, .slice b2 mus.length e2] 29) = wz at *
        obtain ⟨pa, hpa⟩ : ∃ pa, pa = wy.heap.size := ⟨_, rfl⟩
        rw [← hpa] at HPA0 ⊢
        clear hpa
        have c0 := HC.out _ HKY.out
        go_wp2_with fail
        refine (HTR.out _).mono ?_
        rintro e wu ⟨b3, e3, b4, e4, rfl, hs1, hs2, hk⟩
        have HK1 := Lib.hid hk
        clear hk c0
        go_upto_region 23 with (fail)
        have HPB0 := Lib.hid (BlockAt.new wu #[.int .i64 mk, .slice b3 mbs.length e3, .slice b4 mus.length e4] 29)
        have HKU := Lib.hid (HK1.out.alloc (.cells #[.int .i64 mk, .slice b3 mbs.length e3, .slice b4 mus.length e4] 29))
        have ka := (Kept.refl wu).alloc (.cells #[.int .i64 mk, .slice b3 mbs.length e3, .slice b4 mus.length e4] 29)
        have HB1 := Lib.hid (hs1.kept ka)
        have HB2' := Lib.hid (hs2.kept ka)
        clear ka hs1 hs2 HK1
        generalize wu.alloc (.cells #[.int .i64 mk, .slice b3 mbs.length e3, .slice b4 mus.length e4] 29) = wv at *
        obtain ⟨pb, hpb⟩ : ∃ pb, pb = wu.heap.size := ⟨_, rfl⟩
        rw [← hpb] at HPB0 ⊢
        clear hpb
        have HPA := Lib.hid (show ∀ w, Kept wv w → w.cell? ⟨pa, 0, none⟩ = some (.int .i64 mk) ∧ w.cell? ⟨pa, 1, none⟩ = some (.slice b1 mbs.length e1) ∧ w.cell? ⟨pa, 2, none⟩ = some (.slice b2 mus.length e2) from fun w q => box3k HPA0.out (HKU.out.trans q))
        have HPB := Lib.hid (show ∀ w, Kept wv w → w.cell? ⟨pb, 0, none⟩ = some (.int .i64 mk) ∧ w.cell? ⟨pb, 1, none⟩ = some (.slice b3 mbs.length e3) ∧ w.cell? ⟨pb, 2, none⟩ = some (.slice b4 mus.length e4) from fun w q => box3k HPB0.out q)
        have HEQ := Lib.hid (show ∀ w, Kept wv w → Calls Tryd.prog 14 #[.agg #[.int .i64 mk, .slice b1 mbs.length e1, .slice b2 mus.length e2], .agg #[.int .i64 mk, .slice b3 mbs.length e3, .slice b4 mus.length e4]] w fun e w' => e = .returned (.bool true) ∧ Kept w w' from fun w q => by
          refine (eq_mf mk b1 mbs.length e1 b2 mus.length e2 mbs mus mk b3 mbs.length e3 b4 mus.length e4 mbs mus w (HA1.out.kept (HKU.out.trans q)) (HA2.out.kept (HKU.out.trans q)) (HB1.out.kept q) (HB2'.out.kept q)).mono ?_
          rintro e w' ⟨rfl, hk⟩
          exact ⟨by simp, hk⟩)
        go_wp2_with fail
        obtain ⟨d0, d1, d2⟩ := HPA.out _ (Kept.refl _)
        obtain ⟨g0, g1, g2⟩ := HPB.out _ (Kept.refl _)
        refine (num20_any _ _).mono ?_
        rintro e wn ⟨rfl, rfl⟩
        go_wp2_with fail
        refine (num20_any _ _).mono ?_
        rintro e wn ⟨rfl, rfl⟩
        go_wp2_with fail
        refine (HEQ.out _ (Kept.refl _)).mono ?_
        rintro e w9 ⟨rfl, hk9⟩
        have HKj := Lib.hid hk9
        clear hk9 d0 d1 d2 g0 g1 g2
        have HKD := Lib.hid (HKY.out.trans (HKU.out.trans HKj.out))
        clear HKj
        go_wp2_with fail
        go_roundw
        case rel => exact ⟨j + 1, by omega, by go_num, HKD.out⟩
        case measure => simp [intOf]; omega

    · obtain rfl : T.length = j := by omega
      have hd3 : decide (T.length < T.length) = false := decide_eq_false (by omega)
      have hd3i : decide ((T.length : Int) < (T.length : Int)) = false := decide_eq_false (by omega)
      have HKE2 := Lib.hid (HKE.out.trans HKX.out)
      go_wp2_with fail
      refine (wakes20_any _).mono ?_
      rintro e w9 ⟨rfl, hk9⟩
      have HK9 := Lib.hid (HKE2.out.trans hk9)
      clear hk9
      go_wp2
      go_ret
      exact ⟨rfl, HK9.out⟩

end Go.Proofs.YtdllenoclnmmdaaDoor

namespace Go.Proofs.YtdllenoclnmmdaaDoor
open Go.RowKit Go.Shelf
attribute [local go_sem] Oper.semAt_some
theorem manifest_bytes (am : Option Addr) (lm cm : Nat) (ms : List Mf) (aa : Option Addr) (ls cs : Nat) (ss : List ByteArray) (W : World) (h : MfsIn W am lm ms) (hs : TextsIn W aa ls cs ss) (hB : Begins W) (hO : Orders W) :
    Calls Tryd.prog 3 #[.agg #[.slice am lm cm, .slice aa ls cs]] W fun e W' => e = .returned (.bool true) ∧ Kept W W' := manifest_bytesM.2 manifest_bytesB manifest_bytesC am lm cm ms aa ls cs ss W h hs hB hO
end Go.Proofs.YtdllenoclnmmdaaDoor

