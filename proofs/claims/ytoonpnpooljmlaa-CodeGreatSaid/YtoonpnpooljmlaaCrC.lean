/- One arm of the walk of the law in Cr: its goal is the component of code_rebuildsM that the walk ahead left (no conditions). -/
import Derived.Test.YtoonpnpooljmlaaCrM
namespace Go.Proofs.Ytoonpnpooljmlaa
open Go.RowKit Go.Shelf
attribute [local go_sem] Oper.semAt_some
set_option maxRecDepth 100000 in
set_option maxHeartbeats 40000000 in
theorem code_rebuildsC : code_rebuildsM.1.2.2.1 := by
  intro ls cs al ll cl ss ab lb cb T W hlb HTT iBo HIBo zi0 w1 HK1 w2 HK2 hll hls HSZ zi1 zi2 wr zi3 u4 u5 u6 u7 u8 u9 u10 u11 u12 u13 u14 u15 zi4 zi5 zi6 zi7 zi8 zi9 zi10 zi11 zi12 zi13 zi14 zi15 u28 u29 u32 u33 u34 u35 u36 u37 u38 u39 u40 u41 u42 u43 u44 u45 u46 u47 u48 u49 u50 u51 u52 u53 u54 u55 u56 u57 u58 u59 u60 u61 u62 u63 u64 u65 u66 u67 u68 u69 u70 u71 u72 u73 u74 u75 u76 u77 u78 u79 u80 u81 zi16 zi17 zi18 zi19 zi20 zi21 zi22 zi23 zi24 zi25 zi26 zi27 zi28 zi29 zi30 zi31 zi32 zi33 zi34 zi35 zi36 zi37 zi38 u105 u106 u107 u108 u109 u110 u111 u112 u113 u114 u115 u116 u117 u118 u119 u120 u121 u122 u123 u124 u125 u126 zi39 zi40 zi41 zi42 zi43 zi44 zi45 zi46 zi47 zi48 zi49 zi50 zi51 zi52 zi53 zi54 zi55 zi56 zi57 zi58 zi59 zi60 zi61 zi62 zi63 zi64 zi65 zi66 zi67 zi68 zi69 zi70 zi71 zi72 zi73 zi74 zi75 zi76 zi77 zi78 zi79 zi80 zi81 zi82 zi83 zi84 zi85 zi86 zi87 zi88 zi89 zi90 zi91 zi92 zi93 zi94 zi95 zi96 zi97 zi98 zi99 zi100 zi101 zi102 zi103 zi104 zi105 zi106 zi107 zi108 zi109 zi110 zi111 zi112 zi113 zi114 zi115 zi116 zi117 zi118 zi119 zi120 zi121 zi122 zi123 zi124 zi125 zi126 zi127 zi128 zi129 zi130 zi131 zi132 zi133 zi134 zi135 zi136 u225 u226 u227 u228 u229 u230 u231 u232 u233 u234 u235 u236 u237 j hj HK hjl hj4 b off HA HREAD hd1 hd2 zi137 zi138 zi139 wa HKa p4 wb HKb K M S zi140 zi141 zi142 hkb HB5 hK1 hS1 HSB H HH eH hH14 zi143 w5 HK5 pt HC0 HPT HRB HTB wy u82 u83 u84 u85 u86 u87 u88 u89 u90 u91 u92 u93 u94 u95 u96 u97 u98 u99 u100 u101 u102 u103 u104 HKY hi HBC hiH HBY T9 HTC0 HTI HRW HBW HFT HEN zi144 zi145 zi146 L w V a7 c7 X7 h7 h7s a8 c8 h8 c9z HKj HK18 w19 aw cw Xw hcw HLW HK19 X9 hc9 b8 o8 HL18 HLP H1 HLC HH1 hb8 zi147 zi148 wl HKL HLP2 HLW2 HLC2 g14 HG HLS wx u2 u16 u17 u18 u19 u20 u21 u22 u23 u24 u25 u26 u27 u127 u128 u129 u130 u131 u132 u133 u134 u135 u136 u137 zi149 zi150 zi151 zi152 zi153 zi154 zi155 zi156 zi157 zi158 zi159 zi160 zi161 zi162 zi163 zi164 zi165 zi166 zi167 u157 u158 u159 u160 u161 u162 u163 u164 u165 u166 u167 u168 u169 u170 u171 u172 u173 u174 u175 u176 u177 u178 u179 u180 u181 u182 u183 u184 u185 u186 u187 u188 u189 u190 u191 u192 u193 u194 u195 u196 u197 u198 u199 u200 u201 u202 u203 u204 u205 u206 u207 u208 u209 u210 u211 u212 u213 u214 u215 u216 u217 u218 u219 u220 u221 u222 u223 u224 q hq HKX hq3 hd3 l hlH a cap X hlc HCU HXX HXS HXL HBX zi168 zi169 zi170 wE a2 cap2 HOW HKE zi171 zi172 wj u138 u139 u140 u141 u142 u143 u144 u145 u146 u147 u148 u149 u150 u151 u152 u153 u154 u155 u156 HKJ hn HO2 hnl HTJ hlc3 HIN c0 c1 c2 hlH2
  have hdl : ((l : Int) == (H : Int)) = false := by rw [beq_eq_false_iff_ne]; omega
  have HVF := Lib.hid (show ∀ w, Kept wx w → Calls Try.prog 26 #[.agg #[.int .i64 K, .int .i64 M, .int .i64 S], .slice a l cap] w fun e w' => e = .returned (.tuple #[.bool false, .int .i64 1]) ∧ Kept w w' from fun w kk => verify_unfit K M H S HH.out hK1 hS1 a l cap X w (HXX.out.kept kk) (sizedB_short (by rw [HXL.out]; exact hlH2)))
  have HUF := Lib.hid (sizedT_short (T := T9) (S := S) (H := H) (X := goneL X T9 l) (by rw [goneL_len, HXL.out]; exact hlH2))
  go_wp2_with fail
  refine (rebuild_unfit K M H S HH.out hK1 hS1 a2 (some ⟨pt, 0, none⟩) l cap2 H (goneL X T9 l) T9 _ HIN.out HTJ.out HUF.out).mono ?_
  rintro e w35 ⟨rfl, hk30⟩
  have HK35 := Lib.hid (HKJ.out.trans hk30)
  clear hk30 c0 c1 c2
  go_wp2_with fail
  refine Pj.wp_region_step (fun az0 L az w => ∃ V : Nat → Value, az = Pj.puts [(178, 0), (179, 1), (180, 2), (181, 3), (182, 4), (183, 5), (177, 6), (184, 7), (185, 8), (24, 9), (25, 10)] V az0 ∧ Pj.J w35 [Pj.Is (.agg #[.int .i64 K, .int .i64 M, .int .i64 S]), Pj.Is (.slice (some ⟨g14, 0, none⟩) 3 3), Pj.Is (.int .i64 q), Pj.Is (.pointer (some ⟨g14, q, none⟩)), Pj.Is (.slice a l cap), Pj.Is (.tuple #[.bool false, .int .i64 1]), Pj.Is (.tuple #[.bool false, .int .i64 1]), Pj.Is (.bool false), Pj.Is (.int .i64 1), Pj.Is (.bool false), Pj.Is (.int .i64 1)] L V w) (by as_aux_lemma => kernel_rfl) (by as_aux_lemma => kernel_rfl) ?eh0 ?ehs ?ehe
  case eh0 =>
    intro L hL
    exact ⟨_, Pj.puts_self _ (fun j => ([178, 179, 180, 181, 182, 183, 177, 184, 185, 24, 25] : List Nat).getD j 0) [0, 1, 2, 3, 4, 5, 6, 7, 8, 9, 10], Pj.J.none (n := 11) (Nat.le_refl _) hL ((Kept.refl _).drew)⟩
  case ehs =>
    rintro L L' az w iz opz Kq ⟨V, rfl, hJ⟩ ho hopen hdep hL hKq
    have hP : Pj.AllStay [Pj.Is (.agg #[.int .i64 K, .int .i64 M, .int .i64 S]), Pj.Is (.slice (some ⟨g14, 0, none⟩) 3 3), Pj.Is (.int .i64 q), Pj.Is (.pointer (some ⟨g14, q, none⟩)), Pj.Is (.slice a l cap), Pj.Is (.tuple #[.bool false, .int .i64 1]), Pj.Is (.tuple #[.bool false, .int .i64 1]), Pj.Is (.bool false), Pj.Is (.int .i64 1), Pj.Is (.bool false), Pj.Is (.int .i64 1)] := ⟨Pj.Is.stays _, Pj.Is.stays _, Pj.Is.stays _, Pj.Is.stays _, Pj.Is.stays _, Pj.Is.stays _, Pj.Is.stays _, Pj.Is.stays _, Pj.Is.stays _, Pj.Is.stays _, Pj.Is.stays _, trivial⟩
    have HP := Lib.hid hP
    clear hP
    match iz, ho with
    | 0, ho =>
      simp only [List.getElem?_toArray, List.getElem?_cons_zero, Option.some.injEq] at ho
      obtain ⟨d0, d1, d2⟩ := HBX.out _ (HK35.out.trans hJ.kp)
      have HJ := Lib.hid hJ
      clear hJ
      subst ho
      refine Pj.Step.free rfl ?_
      simp only [Pj.puts, List.foldl_cons, List.foldl_nil, Act.put, List.setIfInBounds_toArray, List.set_cons_zero, List.set_cons_succ]
      go_simp
      exact hKq _ _ ⟨Pj.vset V 0 (.agg #[.int .i64 K, .int .i64 M, .int .i64 S]), by simp only [Pj.puts, List.foldl_cons, List.foldl_nil, Act.put, List.setIfInBounds_toArray, List.set_cons_zero, List.set_cons_succ, Pj.vset, Nat.reduceEqDiff, if_true, if_false], HJ.out.more HP.out hL (Kept.refl _) (rfl)⟩
    | 1, ho =>
      simp only [List.getElem?_toArray, List.getElem?_cons_zero, List.getElem?_cons_succ, Option.some.injEq] at ho
      have HJ := Lib.hid hJ
      clear hJ
      subst ho
      refine Pj.Step.free rfl ?_
      simp only [Pj.puts, List.foldl_cons, List.foldl_nil, Act.put, List.setIfInBounds_toArray, List.set_cons_zero, List.set_cons_succ]
      go_simp
      exact hKq _ _ ⟨Pj.vset V 1 (.slice (some ⟨g14, 0, none⟩) 3 3), by simp only [Pj.puts, List.foldl_cons, List.foldl_nil, Act.put, List.setIfInBounds_toArray, List.set_cons_zero, List.set_cons_succ, Pj.vset, Nat.reduceEqDiff, if_true, if_false], HJ.out.more HP.out hL (Kept.refl _) (rfl)⟩
    | 2, ho =>
      simp only [List.getElem?_toArray, List.getElem?_cons_zero, List.getElem?_cons_succ, Option.some.injEq] at ho
      have HJ := Lib.hid hJ
      clear hJ
      subst ho
      refine Pj.Step.free rfl ?_
      simp only [Pj.puts, List.foldl_cons, List.foldl_nil, Act.put, List.setIfInBounds_toArray, List.set_cons_zero, List.set_cons_succ]
      go_simp
      exact hKq _ _ ⟨Pj.vset V 2 (.int .i64 q), by simp only [Pj.puts, List.foldl_cons, List.foldl_nil, Act.put, List.setIfInBounds_toArray, List.set_cons_zero, List.set_cons_succ, Pj.vset, Nat.reduceEqDiff, if_true, if_false], HJ.out.more HP.out hL (Kept.refl _) (rfl)⟩
    | 3, ho =>
      simp only [List.getElem?_toArray, List.getElem?_cons_zero, List.getElem?_cons_succ, Option.some.injEq] at ho
      have e1 : V 1 = .slice (some ⟨g14, 0, none⟩) 3 3 := hJ.h 1 (hdep 1 (by rw [← ho]; kernel_rfl))
      have e2 : V 2 = .int .i64 q := hJ.h 2 (hdep 2 (by rw [← ho]; kernel_rfl))
      have hq9 : (q : Int) < 3 := by omega
      have HJ := Lib.hid hJ
      clear hJ
      subst ho
      refine Pj.Step.free rfl ?_
      simp only [Pj.puts, List.foldl_cons, List.foldl_nil, Act.put, List.setIfInBounds_toArray, List.set_cons_zero, List.set_cons_succ, e1, e2]
      go_simp
      exact hKq _ _ ⟨Pj.vset V 3 (.pointer (some ⟨g14, q, none⟩)), by simp only [Pj.puts, List.foldl_cons, List.foldl_nil, Act.put, List.setIfInBounds_toArray, List.set_cons_zero, List.set_cons_succ, Pj.vset, Nat.reduceEqDiff, if_true, if_false, e1, e2], HJ.out.more HP.out hL (Kept.refl _) (rfl)⟩
    | 4, ho =>
      simp only [List.getElem?_toArray, List.getElem?_cons_zero, List.getElem?_cons_succ, Option.some.injEq] at ho
      have e3 : V 3 = .pointer (some ⟨g14, q, none⟩) := hJ.h 3 (hdep 3 (by rw [← ho]; kernel_rfl))
      have hcc := HCU.out _ (HK35.out.trans hJ.kp)
      have HJ := Lib.hid hJ
      clear hJ
      subst ho
      refine Pj.Step.free rfl ?_
      simp only [Pj.puts, List.foldl_cons, List.foldl_nil, Act.put, List.setIfInBounds_toArray, List.set_cons_zero, List.set_cons_succ, e3]
      go_simp
      exact hKq _ _ ⟨Pj.vset V 4 (.slice a l cap), by simp only [Pj.puts, List.foldl_cons, List.foldl_nil, Act.put, List.setIfInBounds_toArray, List.set_cons_zero, List.set_cons_succ, Pj.vset, Nat.reduceEqDiff, if_true, if_false, e3], HJ.out.more HP.out hL (Kept.refl _) (rfl)⟩
    | 5, ho =>
      simp only [List.getElem?_toArray, List.getElem?_cons_zero, List.getElem?_cons_succ, Option.some.injEq] at ho
      have e0 : V 0 = .agg #[.int .i64 K, .int .i64 M, .int .i64 S] := hJ.h 0 (hdep 0 (by rw [← ho]; kernel_rfl))
      have e4 : V 4 = .slice a l cap := hJ.h 4 (hdep 4 (by rw [← ho]; kernel_rfl))
      have hvf := HVF.out _ (HK35.out.trans hJ.kp)
      have HJ := Lib.hid hJ
      clear hJ
      subst ho
      refine Pj.Step.free rfl ?_
      simp only [Pj.puts, List.foldl_cons, List.foldl_nil, Act.put, List.setIfInBounds_toArray, List.set_cons_zero, List.set_cons_succ, e0, e4]
      go_simp
      refine hvf.mono ?_
      rintro e w' ⟨rfl, hk9⟩
      exact hKq _ _ ⟨Pj.vset V 5 (.tuple #[.bool false, .int .i64 1]), by simp only [Pj.puts, List.foldl_cons, List.foldl_nil, Act.put, List.setIfInBounds_toArray, List.set_cons_zero, List.set_cons_succ, Pj.vset, Nat.reduceEqDiff, if_true, if_false, e0, e4], HJ.out.more HP.out hL (hk9) (rfl)⟩
    | 6, ho =>
      simp only [List.getElem?_toArray, List.getElem?_cons_zero, List.getElem?_cons_succ, Option.some.injEq] at ho
      have e5 : V 5 = .tuple #[.bool false, .int .i64 1] := hJ.h 5 (hdep 5 (by rw [← ho]; kernel_rfl))
      have HJ := Lib.hid hJ
      clear hJ
      subst ho
      refine Pj.Step.free rfl ?_
      simp only [Pj.puts, List.foldl_cons, List.foldl_nil, Act.put, List.setIfInBounds_toArray, List.set_cons_zero, List.set_cons_succ, e5]
      go_simp
      exact hKq _ _ ⟨Pj.vset V 6 (.tuple #[.bool false, .int .i64 1]), by simp only [Pj.puts, List.foldl_cons, List.foldl_nil, Act.put, List.setIfInBounds_toArray, List.set_cons_zero, List.set_cons_succ, Pj.vset, Nat.reduceEqDiff, if_true, if_false, e5], HJ.out.more HP.out hL (Kept.refl _) (rfl)⟩
    | 7, ho =>
      simp only [List.getElem?_toArray, List.getElem?_cons_zero, List.getElem?_cons_succ, Option.some.injEq] at ho
      have e6 : V 6 = .tuple #[.bool false, .int .i64 1] := hJ.h 6 (hdep 6 (by rw [← ho]; kernel_rfl))
      have HJ := Lib.hid hJ
      clear hJ
      subst ho
      refine Pj.Step.free rfl ?_
      simp only [Pj.puts, List.foldl_cons, List.foldl_nil, Act.put, List.setIfInBounds_toArray, List.set_cons_zero, List.set_cons_succ, e6]
      go_simp
      exact hKq _ _ ⟨Pj.vset V 7 (.bool false), by simp only [Pj.puts, List.foldl_cons, List.foldl_nil, Act.put, List.setIfInBounds_toArray, List.set_cons_zero, List.set_cons_succ, Pj.vset, Nat.reduceEqDiff, if_true, if_false, e6], HJ.out.more HP.out hL (Kept.refl _) (rfl)⟩
    | 8, ho =>
      simp only [List.getElem?_toArray, List.getElem?_cons_zero, List.getElem?_cons_succ, Option.some.injEq] at ho
      have e6 : V 6 = .tuple #[.bool false, .int .i64 1] := hJ.h 6 (hdep 6 (by rw [← ho]; kernel_rfl))
      have HJ := Lib.hid hJ
      clear hJ
      subst ho
      refine Pj.Step.free rfl ?_
      simp only [Pj.puts, List.foldl_cons, List.foldl_nil, Act.put, List.setIfInBounds_toArray, List.set_cons_zero, List.set_cons_succ, e6]
      go_simp
      exact hKq _ _ ⟨Pj.vset V 8 (.int .i64 1), by simp only [Pj.puts, List.foldl_cons, List.foldl_nil, Act.put, List.setIfInBounds_toArray, List.set_cons_zero, List.set_cons_succ, Pj.vset, Nat.reduceEqDiff, if_true, if_false, e6], HJ.out.more HP.out hL (Kept.refl _) (rfl)⟩
    | 9, ho =>
      simp only [List.getElem?_toArray, List.getElem?_cons_zero, List.getElem?_cons_succ, Option.some.injEq] at ho
      have e7 : V 7 = .bool false := hJ.h 7 (hdep 7 (by rw [← ho]; kernel_rfl))
      have HJ := Lib.hid hJ
      clear hJ
      subst ho
      refine Pj.Step.free rfl ?_
      simp only [Pj.puts, List.foldl_cons, List.foldl_nil, Act.put, List.setIfInBounds_toArray, List.set_cons_zero, List.set_cons_succ, e7]
      go_simp
      exact hKq _ _ ⟨Pj.vset V 9 (.bool false), by simp only [Pj.puts, List.foldl_cons, List.foldl_nil, Act.put, List.setIfInBounds_toArray, List.set_cons_zero, List.set_cons_succ, Pj.vset, Nat.reduceEqDiff, if_true, if_false, e7], HJ.out.more HP.out hL (Kept.refl _) (rfl)⟩
    | 10, ho =>
      simp only [List.getElem?_toArray, List.getElem?_cons_zero, List.getElem?_cons_succ, Option.some.injEq] at ho
      have e8 : V 8 = .int .i64 1 := hJ.h 8 (hdep 8 (by rw [← ho]; kernel_rfl))
      have HJ := Lib.hid hJ
      clear hJ
      subst ho
      refine Pj.Step.free rfl ?_
      simp only [Pj.puts, List.foldl_cons, List.foldl_nil, Act.put, List.setIfInBounds_toArray, List.set_cons_zero, List.set_cons_succ, e8]
      go_simp
      exact hKq _ _ ⟨Pj.vset V 10 (.int .i64 1), by simp only [Pj.puts, List.foldl_cons, List.foldl_nil, Act.put, List.setIfInBounds_toArray, List.set_cons_zero, List.set_cons_succ, Pj.vset, Nat.reduceEqDiff, if_true, if_false, e8], HJ.out.more HP.out hL (Kept.refl _) (rfl)⟩
    | n + 11, ho => simp at ho
  case ehe =>
    rintro L az w ⟨V, rfl, hJ⟩ hall
    have e0 : V 0 = .agg #[.int .i64 K, .int .i64 M, .int .i64 S] := hJ.h 0 (hall 0 (by decide))
    have e1 : V 1 = .slice (some ⟨g14, 0, none⟩) 3 3 := hJ.h 1 (hall 1 (by decide))
    have e2 : V 2 = .int .i64 q := hJ.h 2 (hall 2 (by decide))
    have e3 : V 3 = .pointer (some ⟨g14, q, none⟩) := hJ.h 3 (hall 3 (by decide))
    have e4 : V 4 = .slice a l cap := hJ.h 4 (hall 4 (by decide))
    have e5 : V 5 = .tuple #[.bool false, .int .i64 1] := hJ.h 5 (hall 5 (by decide))
    have e6 : V 6 = .tuple #[.bool false, .int .i64 1] := hJ.h 6 (hall 6 (by decide))
    have e7 : V 7 = .bool false := hJ.h 7 (hall 7 (by decide))
    have e8 : V 8 = .int .i64 1 := hJ.h 8 (hall 8 (by decide))
    have e9 : V 9 = .bool false := hJ.h 9 (hall 9 (by decide))
    have e10 : V 10 = .int .i64 1 := hJ.h 10 (hall 10 (by decide))
    have HKj := Lib.hid hJ.kp
    clear hJ hall
    simp only [Pj.puts, List.foldl_cons, List.foldl_nil, Act.put, List.setIfInBounds_toArray, List.set_cons_zero, List.set_cons_succ, e0, e1, e2, e3, e4, e5, e6, e7, e8, e9, e10]
    clear e0 e1 e2 e3 e4 e5 e6 e7 e8 e9 e10
    have HK42 := Lib.hid (HK35.out.trans HKj.out)
    go_wp2_with fail
    refine (num4_any _ _).mono ?_
    rintro e w' ⟨rfl, rfl⟩
    go_wp2_with fail
    refine (eq_strings none none 0 0 0 [] _ (strs_nil4 _) (strs_nil4 _)).mono ?_
    rintro e w43 ⟨rfl, hk43⟩
    have HK43 := Lib.hid (HK42.out.trans hk43)
    clear hk43
    go_wp2_with fail
    refine (num4_any _ _).mono ?_
    rintro e w' ⟨rfl, rfl⟩
    go_wp2_with fail
    go_roundw
    case rel => exact ⟨q + 1, by omega, by go_num, HKX.out.trans HK43.out⟩
    case measure => simp [intOf]; omega
end Go.Proofs.Ytoonpnpooljmlaa
