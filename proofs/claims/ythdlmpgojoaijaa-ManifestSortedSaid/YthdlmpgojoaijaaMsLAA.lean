/- One arm of the walk of the law in MsLA: its goal is the component of manifest_sortedAM that the walk ahead left (no conditions). -/
import Derived.Test.YthdlmpgojoaijaaMsLAM
import Derived.Test.YthdlmpgojoaijaaMs6
namespace Go.Proofs.Ythdlmpgojoaijaa
open Go.RowKit Go.Shelf
attribute [local go_sem] Oper.semAt_some
set_option maxRecDepth 100000 in
set_option maxHeartbeats 8000000 in
theorem manifest_sortedAA : manifest_sortedAM.1 := by
  intro lm cm ms aa ls cs ss W HSS hlm zi0 w1 HK0 w2 HK2 HLI zi1 zi2 wr u2 u4 u5 u6 yi0 u8 u9 u10 u11 u12 u13 u14 u15 u16 zi3 zi4 zi5 zi6 zi7 zi8 zi9 zi10 zi11 zi12 zi13 zi14 zi15 zi16 zi17 zi18 zi19 zi20 zi21 zi22 zi23 zi24 zi25 zi26 zi27 zi28 zi29 zi30 zi31 zi32 zi33 zi34 zi35 zi36 zi37 zi38 zi39 zi40 zi41 zi42 zi43 zi44 zi45 zi46 zi47 zi48 zi49 zi50 zi51 zi52 zi53 zi54 zi55 zi56 zi57 zi58 zi59 zi60 zi61 zi62 zi63 zi64 zi65 zi66 zi67 zi68 zi69 zi70 zi71 zi72 zi73 zi74 zi75 zi76 zi77 zi78 zi79 zi80 zi81 zi82 zi83 zi84 zi85 zi86 zi87 zi88 zi89 zi90 zi91 zi92 zi93 zi94 zi95 zi96 zi97 zi98 zi99 zi100 zi101 zi102 zi103 zi104 zi105 zi106 zi107 zi108 zi109 zi110 zi111 zi112 zi113 zi114 zi115 zi116 zi117 zi118 zi119 zi120 zi121 zi122 zi123 zi124 zi125 zi126 zi127 zi128 zi129 zi130 zi131 zi132 zi133 zi134 zi135 zi136 zi137 zi138 zi139 zi140 zi141 zi142 zi143 zi144 zi145 zi146 zi147 zi148 zi149 zi150 zi151 zi152 zi153 zi154 zi155 zi156 zi157 zi158 zi159 zi160 zi161 zi162 i hi HKR hlt h6 yi1 hd2 bm om HMS HB0 HB2 HBX ab cb au cu k bs us mb mu HA hmb6 hmu6 HKW HK1 zi163 zi164 zi165 zi166 w3 x1 y1 x2 y2 w4 HK4 HX14 HX24 p4 HIN hp5 hp6 w5 E X3 Z1 X4 Z2 kk N1 N2 p5 w6 HXB HK6 HIN6 HX16 HX26 HCS6 hp7 HK46 HBX6 HA6 kO HKO HNM yi2 yi3 yi4 yi5 yi6 yi7 yi8 yi9 yi10 yi11 yi12 yi13 yi14 yi15 yi16 yi17 yi18 yi19 yi20 yi21 yi22 yi23 yi24 yi25 yi26 yi27 yi28 yi29 yi30 yi31 yi32 yi33 yi34 yi35 yi36 yi37 yi38 yi39 yi40 yi41 yi42 yi43 yi44 yi45 yi46 yi47 yi48 yi49 yi50 yi51 yi52 yi53 yi54 yi55 yi56 yi57 yi58 yi59 yi60 yi61 yi62 yi63 yi64 yi65 yi66 yi67 yi68 yi69 yi70 yi71 yi72 yi73 yi74 yi75 yi76 yi77 yi78 yi79 yi80 yi81 yi82 yi83 yi84 yi85 yi86 yi87 yi88 yi89 yi90 yi91 yi92 yi93 yi94 yi95 yi96 yi97 yi98 yi99 yi100 yi101 yi102 yi103 yi104 yi105 yi106 yi107 yi108 yi109 yi110 yi111 yi112 yi113 yi114 yi115 yi116 yi117 yi118 yi119 yi120 yi121 yi122 yi123 yi124 yi125 yi126 yi127 yi128 yi129 yi130 yi131 yi132 yi133 yi134 yi135 yi136 yi137 yi138 yi139 yi140 yi141 yi142 yi143 yi144 yi145 yi146 yi147 yi148 yi149 yi150 yi151 yi152 yi153 yi154 yi155 yi156 yi157 yi158 yi159 yi160 yi161 b7 HB7 i0 HI HCP HTL HNO L w V a13 c13 al HALN HALE HEE w8 HKW6 HAL yi162 wx yi163 yi164 yi165 yi166 yi167 yi168 yi169 yi170 yi171 yi172 yi173 yi174 B HKX hj hjl hd1 hd1i HBM yi175 yi176 yi177 yi178 yi179 pw hpw8 w9 HPW HK89 HBX9 HA9 wc u7 u19 u20 u21 u22 u23 u24 u25 u26 u27 u28 u29 u30 u31 u32 u33 u34 u35 u36 u37 u38 u39 u40 u41 u42 u43 u44 u45 u46 u47 u48 u49 u50 u51 u52 u53 u54 u55 u56 u57 u58 u59 u60 u61 u62 u63 u64 u65 u66 u67 u68 u69 u70 u71 u72 u73 u74 u75 u76 u77 u78 u79 u80 u81 u82 u83 u84 u85 u86 u87 u88 u89 u90 u91 u92 u93 u94 u95 u96 u97 u98 u99 u100 u101 u102 u103 u104 u105 u106 u107 u108 u109 u110 u111 u112 u113 u114 u115 u116 u117 u118 u119 u120 u121 u122 u123 u124 u125 u126 u127 u128 u129 u130 u131 u132 u133 u134 u135 u136 u137 u138 u139 u140 u141 u142 u143 u144 u145 u146 u147 u148 u149 u150 u151 u152 u153 u154 u155 u156 u157 u158 u159 u160 u161 u162 u163 u164 u165 u166 u167 u168 u169 u170 u171 u172 u173 u174 u175 u176 u177 u178 hcut
  obtain ⟨Q9, hq9⟩ : ∃ q : Int, q = ((mb + mu : Nat) : Int) := ⟨_, rfl⟩
  rw [← hq9]
  clear hq9
  obtain ⟨LB, LU, A1, C1, A2, C2, hbt, hlb⟩ := both_of (p5 := p5) HCS6.out hcut (by rw [HA.out.hb.strs.len_eq]; exact hmb6) (by rw [HA.out.hu.strs.len_eq]; exact hmu6)
  have HLB := Lib.hid hlb
  clear hcut hlb
  obtain ⟨rfl, hkc0, hbw, hs1, hs2, hx3, hx4, hl1, hl2⟩ := hbt
  have HKC := Lib.hid (HKW6.out.trans hkc0)
  have HWB := Lib.hid hbw
  have HS1 := Lib.hid hs1
  have HS2 := Lib.hid hs2
  have HX3 := Lib.hid hx3
  have HX4 := Lib.hid hx4
  have HN1 := Lib.hid hl1
  have HN2 := Lib.hid hl2
  clear hkc0 hbw hs1 hs2 hx3 hx4 hl1 hl2
  have HP5 := Lib.hid (show ∀ w, Kept wc w → w.cell? ⟨p5, 0, none⟩ = some (.int .i64 kk) ∧ w.cell? ⟨p5, 1, none⟩ = some (.slice X3 N1 Z1) ∧ w.cell? ⟨p5, 2, none⟩ = some (.slice X4 N2 Z2) from fun w q => box3k HXB.out (HKC.out.trans q))
  have HP4 := Lib.hid (show ∀ w, Kept wc w → w.cell? ⟨p4, 0, none⟩ = some (.int .i64 k) ∧ w.cell? ⟨p4, 1, none⟩ = some (.slice x1 mb y1) ∧ w.cell? ⟨p4, 2, none⟩ = some (.slice x2 mu y2) from fun w q => box3k HIN6.out (HKC.out.trans q))
  have HPWc := Lib.hid (show ∀ w, Kept wc w → w.cell? ⟨pw, 0, none⟩ = some (.int .i64 kk) ∧ w.cell? ⟨pw, 1, none⟩ = some (.slice A1 N1 C1) ∧ w.cell? ⟨pw, 2, none⟩ = some (.slice A2 N2 C2) from fun w q => box3k HWB.out q)
  have HBXc := Lib.hid (show ∀ w, Kept wc w → w.cell? ⟨W.heap.size, 0, none⟩ = some (.slice (some ⟨bm, om, none⟩) lm cm) ∧ w.cell? ⟨W.heap.size, 1, none⟩ = some (.slice aa ls cs) from fun w q => HBX6.out _ (HKC.out.trans q))
  have HAc := Lib.hid (show ∀ w, Kept wc w → w.cell? ⟨bm, om + i * 3, none⟩ = some (.int .i64 k) ∧ w.cell? ⟨bm, om + i * 3 + 1, none⟩ = some (.slice ab mb cb) ∧ w.cell? ⟨bm, om + i * 3 + 2, none⟩ = some (.slice au mu cu) from fun w q => HA6.out _ (HKC.out.trans q))
  have HEQ1 := Lib.hid (show ∀ w, Kept wc w → Calls Try.prog 15 #[.agg #[.int .i64 kk, .slice X3 N1 Z1, .slice X4 N2 Z2], .agg #[.int .i64 kk, .slice A1 N1 C1, .slice A2 N2 C2]] w fun e w' => e = .returned (.bool true) ∧ Kept w w' from fun w q => eq_mf_same kk X3 N1 Z1 X4 N2 Z2 A1 N1 C1 A2 N2 C2 LB LU w (HX3.out.kept (HKC.out.trans q)) (HX4.out.kept (HKC.out.trans q)) (HS1.out.kept q) (HS2.out.kept q))
  have HEQ2 := Lib.hid (show ∀ w, Kept wc w → Calls Try.prog 15 #[.agg #[.int .i64 k, .slice x1 mb y1, .slice x2 mu y2], .agg #[.int .i64 k, .slice ab mb cb, .slice au mu cu]] w fun e w' => e = .returned (.bool true) ∧ Kept w w' from fun w q => eq_mf_same k x1 mb y1 x2 mu y2 ab mb cb au mu cu bs us w (HX16.out.kept (HKC.out.trans q)) (HX26.out.kept (HKC.out.trans q)) (HA.out.hb.strs.kept ((HK6.out.trans HKC.out).trans q)) (HA.out.hu.strs.kept ((HK6.out.trans HKC.out).trans q)))
  go_wp2_with fail
  refine Pj.wp_region_step (fun az0 L az w => ∃ V : Nat → Value, az = Pj.puts [(107, 0), (108, 1), (109, 2), (110, 3), (111, 4), (112, 5), (113, 6), (114, 7), (115, 8), (116, 9), (117, 10), (118, 11), (119, 12), (120, 13), (121, 14), (122, 15), (123, 16), (124, 17), (125, 18), (126, 19)] V az0 ∧ Pj.J wc [Pj.Is (.int .i64 E), Pj.Is (.int .i64 E), Pj.Is (.int .i64 E), Pj.Is (.bool false), Pj.Is (.bool false), Pj.Is (.agg #[.int .i64 kk, .slice X3 N1 Z1, .slice X4 N2 Z2]), Pj.Is (.agg #[.int .i64 kk, .slice A1 N1 C1, .slice A2 N2 C2]), Pj.Is (.bool true), Pj.Is (.bool false), Pj.Is (.bool false), Pj.Is (.bool false), Pj.Is (.agg #[.int .i64 k, .slice x1 mb y1, .slice x2 mu y2]), Pj.Is (.pointer (some ⟨W.heap.size, 0, none⟩)), Pj.Is (.slice (some ⟨bm, om, none⟩) lm cm), Pj.Is (.int .i64 i), Pj.Is (.pointer (some ⟨bm, om + i * 3, none⟩)), Pj.Is (.agg #[.int .i64 k, .slice ab mb cb, .slice au mu cu]), Pj.Is (.bool true), Pj.Is (.bool false), Pj.Is (.bool false)] L V w) (by as_aux_lemma => kernel_rfl) (by as_aux_lemma => kernel_rfl) ?eh0 ?ehs ?ehe
  case eh0 =>
    intro L hL
    exact ⟨_, Pj.puts_self _ (fun j => ([107, 108, 109, 110, 111, 112, 113, 114, 115, 116, 117, 118, 119, 120, 121, 122, 123, 124, 125, 126] : List Nat).getD j 0) [0, 1, 2, 3, 4, 5, 6, 7, 8, 9, 10, 11, 12, 13, 14, 15, 16, 17, 18, 19], Pj.J.none (n := 20) (Nat.le_refl _) hL ((Kept.refl _).drew)⟩
  case ehs =>
    rintro L L' az w iz opz Kq ⟨V, rfl, hJ⟩ ho hopen hdep hL hKq
    have hP : Pj.AllStay [Pj.Is (.int .i64 E), Pj.Is (.int .i64 E), Pj.Is (.int .i64 E), Pj.Is (.bool false), Pj.Is (.bool false), Pj.Is (.agg #[.int .i64 kk, .slice X3 N1 Z1, .slice X4 N2 Z2]), Pj.Is (.agg #[.int .i64 kk, .slice A1 N1 C1, .slice A2 N2 C2]), Pj.Is (.bool true), Pj.Is (.bool false), Pj.Is (.bool false), Pj.Is (.bool false), Pj.Is (.agg #[.int .i64 k, .slice x1 mb y1, .slice x2 mu y2]), Pj.Is (.pointer (some ⟨W.heap.size, 0, none⟩)), Pj.Is (.slice (some ⟨bm, om, none⟩) lm cm), Pj.Is (.int .i64 i), Pj.Is (.pointer (some ⟨bm, om + i * 3, none⟩)), Pj.Is (.agg #[.int .i64 k, .slice ab mb cb, .slice au mu cu]), Pj.Is (.bool true), Pj.Is (.bool false), Pj.Is (.bool false)] := ⟨Pj.Is.stays _, Pj.Is.stays _, Pj.Is.stays _, Pj.Is.stays _, Pj.Is.stays _, Pj.Is.stays _, Pj.Is.stays _, Pj.Is.stays _, Pj.Is.stays _, Pj.Is.stays _, Pj.Is.stays _, Pj.Is.stays _, Pj.Is.stays _, Pj.Is.stays _, Pj.Is.stays _, Pj.Is.stays _, Pj.Is.stays _, Pj.Is.stays _, Pj.Is.stays _, Pj.Is.stays _, trivial⟩
    have HP := Lib.hid hP
    clear hP
    match iz, ho with
    | 0, ho =>
      simp only [List.getElem?_toArray, List.getElem?_cons_zero, Option.some.injEq] at ho
      have HJ := Lib.hid hJ
      clear hJ
      subst ho
      refine Pj.Step.free rfl ?_
      simp only [Pj.puts, List.foldl_cons, List.foldl_nil, Act.put, List.setIfInBounds_toArray, List.set_cons_zero, List.set_cons_succ]
      go_simp
      exact hKq _ _ ⟨Pj.vset V 0 (.int .i64 E), by simp only [Pj.puts, List.foldl_cons, List.foldl_nil, Act.put, List.setIfInBounds_toArray, List.set_cons_zero, List.set_cons_succ, Pj.vset, Nat.reduceEqDiff, if_true, if_false], HJ.out.more HP.out hL (Kept.refl _) (rfl)⟩
    | 1, ho =>
      simp only [List.getElem?_toArray, List.getElem?_cons_zero, List.getElem?_cons_succ, Option.some.injEq] at ho
      have e0 : V 0 = .int .i64 E := hJ.h 0 (hdep 0 (by rw [← ho]; kernel_rfl))
      have HJ := Lib.hid hJ
      clear hJ
      subst ho
      refine Pj.Step.free rfl ?_
      simp only [Pj.puts, List.foldl_cons, List.foldl_nil, Act.put, List.setIfInBounds_toArray, List.set_cons_zero, List.set_cons_succ, e0]
      go_simp
      refine (num20_any _ _).mono ?_
      rintro e w' ⟨rfl, rfl⟩
      exact hKq _ _ ⟨Pj.vset V 1 (.int .i64 E), by simp only [Pj.puts, List.foldl_cons, List.foldl_nil, Act.put, List.setIfInBounds_toArray, List.set_cons_zero, List.set_cons_succ, Pj.vset, Nat.reduceEqDiff, if_true, if_false, e0], HJ.out.more HP.out hL (Kept.refl _) (rfl)⟩
    | 2, ho =>
      simp only [List.getElem?_toArray, List.getElem?_cons_zero, List.getElem?_cons_succ, Option.some.injEq] at ho
      have HJ := Lib.hid hJ
      clear hJ
      subst ho
      refine Pj.Step.free rfl ?_
      simp only [Pj.puts, List.foldl_cons, List.foldl_nil, Act.put, List.setIfInBounds_toArray, List.set_cons_zero, List.set_cons_succ]
      go_simp
      exact hKq _ _ ⟨Pj.vset V 2 (.int .i64 E), by simp only [Pj.puts, List.foldl_cons, List.foldl_nil, Act.put, List.setIfInBounds_toArray, List.set_cons_zero, List.set_cons_succ, Pj.vset, Nat.reduceEqDiff, if_true, if_false], HJ.out.more HP.out hL (Kept.refl _) (rfl)⟩
    | 3, ho =>
      simp only [List.getElem?_toArray, List.getElem?_cons_zero, List.getElem?_cons_succ, Option.some.injEq] at ho
      have e1 : V 1 = .int .i64 E := hJ.h 1 (hdep 1 (by rw [← ho]; kernel_rfl))
      have e2 : V 2 = .int .i64 E := hJ.h 2 (hdep 2 (by rw [← ho]; kernel_rfl))
      have hEE : (E != E) = false := by simp
      have HJ := Lib.hid hJ
      clear hJ
      subst ho
      refine Pj.Step.free rfl ?_
      simp only [Pj.puts, List.foldl_cons, List.foldl_nil, Act.put, List.setIfInBounds_toArray, List.set_cons_zero, List.set_cons_succ, e1, e2]
      go_simp
      exact hKq _ _ ⟨Pj.vset V 3 (.bool false), by simp only [Pj.puts, List.foldl_cons, List.foldl_nil, Act.put, List.setIfInBounds_toArray, List.set_cons_zero, List.set_cons_succ, Pj.vset, Nat.reduceEqDiff, if_true, if_false, e1, e2], HJ.out.more HP.out hL (Kept.refl _) (rfl)⟩
    | 4, ho =>
      simp only [List.getElem?_toArray, List.getElem?_cons_zero, List.getElem?_cons_succ, Option.some.injEq] at ho
      have e3 : V 3 = .bool false := hJ.h 3 (hdep 3 (by rw [← ho]; kernel_rfl))
      have HJ := Lib.hid hJ
      clear hJ
      subst ho
      refine Pj.Step.free rfl ?_
      simp only [Pj.puts, List.foldl_cons, List.foldl_nil, Act.put, List.setIfInBounds_toArray, List.set_cons_zero, List.set_cons_succ, e3]
      go_simp
      exact hKq _ _ ⟨Pj.vset V 4 (.bool false), by simp only [Pj.puts, List.foldl_cons, List.foldl_nil, Act.put, List.setIfInBounds_toArray, List.set_cons_zero, List.set_cons_succ, Pj.vset, Nat.reduceEqDiff, if_true, if_false, e3], HJ.out.more HP.out hL (Kept.refl _) (rfl)⟩
    | 5, ho =>
      simp only [List.getElem?_toArray, List.getElem?_cons_zero, List.getElem?_cons_succ, Option.some.injEq] at ho
      have e4 : V 4 = .bool false := hJ.h 4 (hdep 4 (by rw [← ho]; kernel_rfl))
      obtain ⟨d0, d1, d2⟩ := HP5.out _ hJ.kp
      have HJ := Lib.hid hJ
      clear hJ
      subst ho
      refine Pj.Step.at (g := 4) (b := false) rfl ?hy ?_
      case hy =>
        simp only [Pj.puts, List.foldl_cons, List.foldl_nil, Act.put, List.setIfInBounds_toArray, List.set_cons_zero, List.set_cons_succ, e4]
        rfl
      simp only [Pj.puts, List.foldl_cons, List.foldl_nil, Act.put, List.setIfInBounds_toArray, List.set_cons_zero, List.set_cons_succ, e4]
      go_simp
      exact hKq _ _ ⟨Pj.vset V 5 (.agg #[.int .i64 kk, .slice X3 N1 Z1, .slice X4 N2 Z2]), by simp only [Pj.puts, List.foldl_cons, List.foldl_nil, Act.put, List.setIfInBounds_toArray, List.set_cons_zero, List.set_cons_succ, Pj.vset, Nat.reduceEqDiff, if_true, if_false, e4], HJ.out.more HP.out hL (Kept.refl _) (rfl)⟩
    | 6, ho =>
      simp only [List.getElem?_toArray, List.getElem?_cons_zero, List.getElem?_cons_succ, Option.some.injEq] at ho
      have e4 : V 4 = .bool false := hJ.h 4 (hdep 4 (by rw [← ho]; kernel_rfl))
      obtain ⟨d0, d1, d2⟩ := HPWc.out _ hJ.kp
      have HJ := Lib.hid hJ
      clear hJ
      subst ho
      refine Pj.Step.at (g := 4) (b := false) rfl ?hy ?_
      case hy =>
        simp only [Pj.puts, List.foldl_cons, List.foldl_nil, Act.put, List.setIfInBounds_toArray, List.set_cons_zero, List.set_cons_succ, e4]
        rfl
      simp only [Pj.puts, List.foldl_cons, List.foldl_nil, Act.put, List.setIfInBounds_toArray, List.set_cons_zero, List.set_cons_succ, e4]
      go_simp
      exact hKq _ _ ⟨Pj.vset V 6 (.agg #[.int .i64 kk, .slice A1 N1 C1, .slice A2 N2 C2]), by simp only [Pj.puts, List.foldl_cons, List.foldl_nil, Act.put, List.setIfInBounds_toArray, List.set_cons_zero, List.set_cons_succ, Pj.vset, Nat.reduceEqDiff, if_true, if_false, e4], HJ.out.more HP.out hL (Kept.refl _) (rfl)⟩
    | 7, ho =>
      simp only [List.getElem?_toArray, List.getElem?_cons_zero, List.getElem?_cons_succ, Option.some.injEq] at ho
      have e5 : V 5 = .agg #[.int .i64 kk, .slice X3 N1 Z1, .slice X4 N2 Z2] := hJ.h 5 (hdep 5 (by rw [← ho]; kernel_rfl))
      have e6 : V 6 = .agg #[.int .i64 kk, .slice A1 N1 C1, .slice A2 N2 C2] := hJ.h 6 (hdep 6 (by rw [← ho]; kernel_rfl))
      have e4 : V 4 = .bool false := hJ.h 4 (hdep 4 (by rw [← ho]; kernel_rfl))
      have heq := HEQ1.out w hJ.kp
      have HJ := Lib.hid hJ
      clear hJ
      subst ho
      refine Pj.Step.at (g := 4) (b := false) rfl ?hy ?_
      case hy =>
        simp only [Pj.puts, List.foldl_cons, List.foldl_nil, Act.put, List.setIfInBounds_toArray, List.set_cons_zero, List.set_cons_succ, e5, e6, e4]
        rfl
      simp only [Pj.puts, List.foldl_cons, List.foldl_nil, Act.put, List.setIfInBounds_toArray, List.set_cons_zero, List.set_cons_succ, e5, e6, e4]
      go_simp
      refine heq.mono ?_
      rintro e w' ⟨rfl, hk9⟩
      exact hKq _ _ ⟨Pj.vset V 7 (.bool true), by simp only [Pj.puts, List.foldl_cons, List.foldl_nil, Act.put, List.setIfInBounds_toArray, List.set_cons_zero, List.set_cons_succ, Pj.vset, Nat.reduceEqDiff, if_true, if_false, e5, e6, e4], HJ.out.more HP.out hL (hk9) (rfl)⟩
    | 8, ho =>
      simp only [List.getElem?_toArray, List.getElem?_cons_zero, List.getElem?_cons_succ, Option.some.injEq] at ho
      have e7 : V 7 = .bool true := hJ.h 7 (hdep 7 (by rw [← ho]; kernel_rfl))
      have e4 : V 4 = .bool false := hJ.h 4 (hdep 4 (by rw [← ho]; kernel_rfl))
      have HJ := Lib.hid hJ
      clear hJ
      subst ho
      refine Pj.Step.at (g := 4) (b := false) rfl ?hy ?_
      case hy =>
        simp only [Pj.puts, List.foldl_cons, List.foldl_nil, Act.put, List.setIfInBounds_toArray, List.set_cons_zero, List.set_cons_succ, e7, e4]
        rfl
      simp only [Pj.puts, List.foldl_cons, List.foldl_nil, Act.put, List.setIfInBounds_toArray, List.set_cons_zero, List.set_cons_succ, e7, e4]
      go_simp
      exact hKq _ _ ⟨Pj.vset V 8 (.bool false), by simp only [Pj.puts, List.foldl_cons, List.foldl_nil, Act.put, List.setIfInBounds_toArray, List.set_cons_zero, List.set_cons_succ, Pj.vset, Nat.reduceEqDiff, if_true, if_false, e7, e4], HJ.out.more HP.out hL (Kept.refl _) (rfl)⟩
    | 9, ho =>
      simp only [List.getElem?_toArray, List.getElem?_cons_zero, List.getElem?_cons_succ, Option.some.injEq] at ho
      have e4 : V 4 = .bool false := hJ.h 4 (hdep 4 (by rw [← ho]; kernel_rfl))
      have e8 : V 8 = .bool false := hJ.h 8 (hdep 8 (by rw [← ho]; kernel_rfl))
      have HJ := Lib.hid hJ
      clear hJ
      subst ho
      refine Pj.Step.free rfl ?_
      simp only [Pj.puts, List.foldl_cons, List.foldl_nil, Act.put, List.setIfInBounds_toArray, List.set_cons_zero, List.set_cons_succ, e4, e8]
      go_simp
      exact hKq _ _ ⟨Pj.vset V 9 (.bool false), by simp only [Pj.puts, List.foldl_cons, List.foldl_nil, Act.put, List.setIfInBounds_toArray, List.set_cons_zero, List.set_cons_succ, Pj.vset, Nat.reduceEqDiff, if_true, if_false, e4, e8], HJ.out.more HP.out hL (Kept.refl _) (rfl)⟩
    | 10, ho =>
      simp only [List.getElem?_toArray, List.getElem?_cons_zero, List.getElem?_cons_succ, Option.some.injEq] at ho
      have e9 : V 9 = .bool false := hJ.h 9 (hdep 9 (by rw [← ho]; kernel_rfl))
      have HJ := Lib.hid hJ
      clear hJ
      subst ho
      refine Pj.Step.free rfl ?_
      simp only [Pj.puts, List.foldl_cons, List.foldl_nil, Act.put, List.setIfInBounds_toArray, List.set_cons_zero, List.set_cons_succ, e9]
      go_simp
      exact hKq _ _ ⟨Pj.vset V 10 (.bool false), by simp only [Pj.puts, List.foldl_cons, List.foldl_nil, Act.put, List.setIfInBounds_toArray, List.set_cons_zero, List.set_cons_succ, Pj.vset, Nat.reduceEqDiff, if_true, if_false, e9], HJ.out.more HP.out hL (Kept.refl _) (rfl)⟩
    | 11, ho =>
      simp only [List.getElem?_toArray, List.getElem?_cons_zero, List.getElem?_cons_succ, Option.some.injEq] at ho
      have e10 : V 10 = .bool false := hJ.h 10 (hdep 10 (by rw [← ho]; kernel_rfl))
      obtain ⟨d0, d1, d2⟩ := HP4.out _ hJ.kp
      have HJ := Lib.hid hJ
      clear hJ
      subst ho
      refine Pj.Step.at (g := 10) (b := false) rfl ?hy ?_
      case hy =>
        simp only [Pj.puts, List.foldl_cons, List.foldl_nil, Act.put, List.setIfInBounds_toArray, List.set_cons_zero, List.set_cons_succ, e10]
        rfl
      simp only [Pj.puts, List.foldl_cons, List.foldl_nil, Act.put, List.setIfInBounds_toArray, List.set_cons_zero, List.set_cons_succ, e10]
      go_simp
      exact hKq _ _ ⟨Pj.vset V 11 (.agg #[.int .i64 k, .slice x1 mb y1, .slice x2 mu y2]), by simp only [Pj.puts, List.foldl_cons, List.foldl_nil, Act.put, List.setIfInBounds_toArray, List.set_cons_zero, List.set_cons_succ, Pj.vset, Nat.reduceEqDiff, if_true, if_false, e10], HJ.out.more HP.out hL (Kept.refl _) (rfl)⟩
    | 12, ho =>
      simp only [List.getElem?_toArray, List.getElem?_cons_zero, List.getElem?_cons_succ, Option.some.injEq] at ho
      have e10 : V 10 = .bool false := hJ.h 10 (hdep 10 (by rw [← ho]; kernel_rfl))
      have HJ := Lib.hid hJ
      clear hJ
      subst ho
      refine Pj.Step.at (g := 10) (b := false) rfl ?hy ?_
      case hy =>
        simp only [Pj.puts, List.foldl_cons, List.foldl_nil, Act.put, List.setIfInBounds_toArray, List.set_cons_zero, List.set_cons_succ, e10]
        rfl
      simp only [Pj.puts, List.foldl_cons, List.foldl_nil, Act.put, List.setIfInBounds_toArray, List.set_cons_zero, List.set_cons_succ, e10]
      go_simp
      exact hKq _ _ ⟨Pj.vset V 12 (.pointer (some ⟨W.heap.size, 0, none⟩)), by simp only [Pj.puts, List.foldl_cons, List.foldl_nil, Act.put, List.setIfInBounds_toArray, List.set_cons_zero, List.set_cons_succ, Pj.vset, Nat.reduceEqDiff, if_true, if_false, e10], HJ.out.more HP.out hL (Kept.refl _) (rfl)⟩
    | 13, ho =>
      simp only [List.getElem?_toArray, List.getElem?_cons_zero, List.getElem?_cons_succ, Option.some.injEq] at ho
      have e12 : V 12 = .pointer (some ⟨W.heap.size, 0, none⟩) := hJ.h 12 (hdep 12 (by rw [← ho]; kernel_rfl))
      have e10 : V 10 = .bool false := hJ.h 10 (hdep 10 (by rw [← ho]; kernel_rfl))
      obtain ⟨d0, d1⟩ := HBXc.out _ hJ.kp
      have HJ := Lib.hid hJ
      clear hJ
      subst ho
      refine Pj.Step.at (g := 10) (b := false) rfl ?hy ?_
      case hy =>
        simp only [Pj.puts, List.foldl_cons, List.foldl_nil, Act.put, List.setIfInBounds_toArray, List.set_cons_zero, List.set_cons_succ, e12, e10]
        rfl
      simp only [Pj.puts, List.foldl_cons, List.foldl_nil, Act.put, List.setIfInBounds_toArray, List.set_cons_zero, List.set_cons_succ, e12, e10]
      go_simp
      exact hKq _ _ ⟨Pj.vset V 13 (.slice (some ⟨bm, om, none⟩) lm cm), by simp only [Pj.puts, List.foldl_cons, List.foldl_nil, Act.put, List.setIfInBounds_toArray, List.set_cons_zero, List.set_cons_succ, Pj.vset, Nat.reduceEqDiff, if_true, if_false, e12, e10], HJ.out.more HP.out hL (Kept.refl _) (rfl)⟩
    | 14, ho =>
      simp only [List.getElem?_toArray, List.getElem?_cons_zero, List.getElem?_cons_succ, Option.some.injEq] at ho
      have e10 : V 10 = .bool false := hJ.h 10 (hdep 10 (by rw [← ho]; kernel_rfl))
      have HJ := Lib.hid hJ
      clear hJ
      subst ho
      refine Pj.Step.at (g := 10) (b := false) rfl ?hy ?_
      case hy =>
        simp only [Pj.puts, List.foldl_cons, List.foldl_nil, Act.put, List.setIfInBounds_toArray, List.set_cons_zero, List.set_cons_succ, e10]
        rfl
      simp only [Pj.puts, List.foldl_cons, List.foldl_nil, Act.put, List.setIfInBounds_toArray, List.set_cons_zero, List.set_cons_succ, e10]
      go_simp
      exact hKq _ _ ⟨Pj.vset V 14 (.int .i64 i), by simp only [Pj.puts, List.foldl_cons, List.foldl_nil, Act.put, List.setIfInBounds_toArray, List.set_cons_zero, List.set_cons_succ, Pj.vset, Nat.reduceEqDiff, if_true, if_false, e10], HJ.out.more HP.out hL (Kept.refl _) (rfl)⟩
    | 15, ho =>
      simp only [List.getElem?_toArray, List.getElem?_cons_zero, List.getElem?_cons_succ, Option.some.injEq] at ho
      have e13 : V 13 = .slice (some ⟨bm, om, none⟩) lm cm := hJ.h 13 (hdep 13 (by rw [← ho]; kernel_rfl))
      have e14 : V 14 = .int .i64 i := hJ.h 14 (hdep 14 (by rw [← ho]; kernel_rfl))
      have e10 : V 10 = .bool false := hJ.h 10 (hdep 10 (by rw [← ho]; kernel_rfl))
      have HJ := Lib.hid hJ
      clear hJ
      subst ho
      refine Pj.Step.at (g := 10) (b := false) rfl ?hy ?_
      case hy =>
        simp only [Pj.puts, List.foldl_cons, List.foldl_nil, Act.put, List.setIfInBounds_toArray, List.set_cons_zero, List.set_cons_succ, e13, e14, e10]
        rfl
      simp only [Pj.puts, List.foldl_cons, List.foldl_nil, Act.put, List.setIfInBounds_toArray, List.set_cons_zero, List.set_cons_succ, e13, e14, e10]
      go_simp
      exact hKq _ _ ⟨Pj.vset V 15 (.pointer (some ⟨bm, om + i * 3, none⟩)), by simp only [Pj.puts, List.foldl_cons, List.foldl_nil, Act.put, List.setIfInBounds_toArray, List.set_cons_zero, List.set_cons_succ, Pj.vset, Nat.reduceEqDiff, if_true, if_false, e13, e14, e10], HJ.out.more HP.out hL (Kept.refl _) (rfl)⟩
    | 16, ho =>
      simp only [List.getElem?_toArray, List.getElem?_cons_zero, List.getElem?_cons_succ, Option.some.injEq] at ho
      have e15 : V 15 = .pointer (some ⟨bm, om + i * 3, none⟩) := hJ.h 15 (hdep 15 (by rw [← ho]; kernel_rfl))
      have e10 : V 10 = .bool false := hJ.h 10 (hdep 10 (by rw [← ho]; kernel_rfl))
      obtain ⟨d0, d1, d2⟩ := HAc.out _ hJ.kp
      have HJ := Lib.hid hJ
      clear hJ
      subst ho
      refine Pj.Step.at (g := 10) (b := false) rfl ?hy ?_
      case hy =>
        simp only [Pj.puts, List.foldl_cons, List.foldl_nil, Act.put, List.setIfInBounds_toArray, List.set_cons_zero, List.set_cons_succ, e15, e10]
        rfl
      simp only [Pj.puts, List.foldl_cons, List.foldl_nil, Act.put, List.setIfInBounds_toArray, List.set_cons_zero, List.set_cons_succ, e15, e10]
      go_simp
      exact hKq _ _ ⟨Pj.vset V 16 (.agg #[.int .i64 k, .slice ab mb cb, .slice au mu cu]), by simp only [Pj.puts, List.foldl_cons, List.foldl_nil, Act.put, List.setIfInBounds_toArray, List.set_cons_zero, List.set_cons_succ, Pj.vset, Nat.reduceEqDiff, if_true, if_false, e15, e10], HJ.out.more HP.out hL (Kept.refl _) (rfl)⟩
    | 17, ho =>
      simp only [List.getElem?_toArray, List.getElem?_cons_zero, List.getElem?_cons_succ, Option.some.injEq] at ho
      have e11 : V 11 = .agg #[.int .i64 k, .slice x1 mb y1, .slice x2 mu y2] := hJ.h 11 (hdep 11 (by rw [← ho]; kernel_rfl))
      have e16 : V 16 = .agg #[.int .i64 k, .slice ab mb cb, .slice au mu cu] := hJ.h 16 (hdep 16 (by rw [← ho]; kernel_rfl))
      have e10 : V 10 = .bool false := hJ.h 10 (hdep 10 (by rw [← ho]; kernel_rfl))
      have heq := HEQ2.out w hJ.kp
      have HJ := Lib.hid hJ
      clear hJ
      subst ho
      refine Pj.Step.at (g := 10) (b := false) rfl ?hy ?_
      case hy =>
        simp only [Pj.puts, List.foldl_cons, List.foldl_nil, Act.put, List.setIfInBounds_toArray, List.set_cons_zero, List.set_cons_succ, e11, e16, e10]
        rfl
      simp only [Pj.puts, List.foldl_cons, List.foldl_nil, Act.put, List.setIfInBounds_toArray, List.set_cons_zero, List.set_cons_succ, e11, e16, e10]
      go_simp
      refine heq.mono ?_
      rintro e w' ⟨rfl, hk9⟩
      exact hKq _ _ ⟨Pj.vset V 17 (.bool true), by simp only [Pj.puts, List.foldl_cons, List.foldl_nil, Act.put, List.setIfInBounds_toArray, List.set_cons_zero, List.set_cons_succ, Pj.vset, Nat.reduceEqDiff, if_true, if_false, e11, e16, e10], HJ.out.more HP.out hL (hk9) (rfl)⟩
    | 18, ho =>
      simp only [List.getElem?_toArray, List.getElem?_cons_zero, List.getElem?_cons_succ, Option.some.injEq] at ho
      have e17 : V 17 = .bool true := hJ.h 17 (hdep 17 (by rw [← ho]; kernel_rfl))
      have e10 : V 10 = .bool false := hJ.h 10 (hdep 10 (by rw [← ho]; kernel_rfl))
      have HJ := Lib.hid hJ
      clear hJ
      subst ho
      refine Pj.Step.at (g := 10) (b := false) rfl ?hy ?_
      case hy =>
        simp only [Pj.puts, List.foldl_cons, List.foldl_nil, Act.put, List.setIfInBounds_toArray, List.set_cons_zero, List.set_cons_succ, e17, e10]
        rfl
      simp only [Pj.puts, List.foldl_cons, List.foldl_nil, Act.put, List.setIfInBounds_toArray, List.set_cons_zero, List.set_cons_succ, e17, e10]
      go_simp
      exact hKq _ _ ⟨Pj.vset V 18 (.bool false), by simp only [Pj.puts, List.foldl_cons, List.foldl_nil, Act.put, List.setIfInBounds_toArray, List.set_cons_zero, List.set_cons_succ, Pj.vset, Nat.reduceEqDiff, if_true, if_false, e17, e10], HJ.out.more HP.out hL (Kept.refl _) (rfl)⟩
    | 19, ho =>
      simp only [List.getElem?_toArray, List.getElem?_cons_zero, List.getElem?_cons_succ, Option.some.injEq] at ho
      have e10 : V 10 = .bool false := hJ.h 10 (hdep 10 (by rw [← ho]; kernel_rfl))
      have e18 : V 18 = .bool false := hJ.h 18 (hdep 18 (by rw [← ho]; kernel_rfl))
      have HJ := Lib.hid hJ
      clear hJ
      subst ho
      refine Pj.Step.free rfl ?_
      simp only [Pj.puts, List.foldl_cons, List.foldl_nil, Act.put, List.setIfInBounds_toArray, List.set_cons_zero, List.set_cons_succ, e10, e18]
      go_simp
      exact hKq _ _ ⟨Pj.vset V 19 (.bool false), by simp only [Pj.puts, List.foldl_cons, List.foldl_nil, Act.put, List.setIfInBounds_toArray, List.set_cons_zero, List.set_cons_succ, Pj.vset, Nat.reduceEqDiff, if_true, if_false, e10, e18], HJ.out.more HP.out hL (Kept.refl _) (rfl)⟩
    | n + 20, ho => simp at ho
  case ehe =>
    rintro L az w ⟨V, rfl, hJ⟩ hall
    have e0 : V 0 = .int .i64 E := hJ.h 0 (hall 0 (by decide))
    have e1 : V 1 = .int .i64 E := hJ.h 1 (hall 1 (by decide))
    have e2 : V 2 = .int .i64 E := hJ.h 2 (hall 2 (by decide))
    have e3 : V 3 = .bool false := hJ.h 3 (hall 3 (by decide))
    have e4 : V 4 = .bool false := hJ.h 4 (hall 4 (by decide))
    have e5 : V 5 = .agg #[.int .i64 kk, .slice X3 N1 Z1, .slice X4 N2 Z2] := hJ.h 5 (hall 5 (by decide))
    have e6 : V 6 = .agg #[.int .i64 kk, .slice A1 N1 C1, .slice A2 N2 C2] := hJ.h 6 (hall 6 (by decide))
    have e7 : V 7 = .bool true := hJ.h 7 (hall 7 (by decide))
    have e8 : V 8 = .bool false := hJ.h 8 (hall 8 (by decide))
    have e9 : V 9 = .bool false := hJ.h 9 (hall 9 (by decide))
    have e10 : V 10 = .bool false := hJ.h 10 (hall 10 (by decide))
    have e11 : V 11 = .agg #[.int .i64 k, .slice x1 mb y1, .slice x2 mu y2] := hJ.h 11 (hall 11 (by decide))
    have e12 : V 12 = .pointer (some ⟨W.heap.size, 0, none⟩) := hJ.h 12 (hall 12 (by decide))
    have e13 : V 13 = .slice (some ⟨bm, om, none⟩) lm cm := hJ.h 13 (hall 13 (by decide))
    have e14 : V 14 = .int .i64 i := hJ.h 14 (hall 14 (by decide))
    have e15 : V 15 = .pointer (some ⟨bm, om + i * 3, none⟩) := hJ.h 15 (hall 15 (by decide))
    have e16 : V 16 = .agg #[.int .i64 k, .slice ab mb cb, .slice au mu cu] := hJ.h 16 (hall 16 (by decide))
    have e17 : V 17 = .bool true := hJ.h 17 (hall 17 (by decide))
    have e18 : V 18 = .bool false := hJ.h 18 (hall 18 (by decide))
    have e19 : V 19 = .bool false := hJ.h 19 (hall 19 (by decide))
    have HKj := Lib.hid hJ.kp
    clear hJ hall
    simp only [Pj.puts, List.foldl_cons, List.foldl_nil, Act.put, List.setIfInBounds_toArray, List.set_cons_zero, List.set_cons_succ, e0, e1, e2, e3, e4, e5, e6, e7, e8, e9, e10, e11, e12, e13, e14, e15, e16, e17, e18, e19]
    clear e0 e1 e2 e3 e4 e5 e6 e7 e8 e9 e10 e11 e12 e13 e14 e15 e16 e17 e18 e19
    have HKD := Lib.hid HKj.out
    clear HKj
    generalize w = wd at *
    by_cases hE0 : E = 0
    · have hne : (E != 0) = false := by simp [hE0]
      obtain ⟨hkk, hn1, hn2, n3, n4⟩ := HCS6.out.good hE0
      obtain ⟨e1, e2⟩ := HLB.out hE0
      have HMB := Lib.hid (show mfB ⟨kk, LB, LU⟩ = true by rw [hkk, e1, e2]; exact zero_may HCS6.out.e hE0)
      have HN3 := Lib.hid n3
      have HN4 := Lib.hid n4
      clear hE0 hkk hn1 hn2 n3 n4 e1 e2
      obtain ⟨T, hT⟩ : ∃ T, T = mfT ⟨kk, LB, LU⟩ := ⟨_, rfl⟩
      have HSO := Lib.hid (show ∀ w, Kept wc w → Calls Try.prog 10 #[.agg #[.int .i64 kk, .slice X3 N1 Z1, .slice X4 N2 Z2]] w fun e w' => ∃ a1 c1 a2 c2, e = .returned (.tuple #[.agg #[.int .i64 kk, .slice a1 N1 c1, .slice a2 N2 c2], .int .i64 0]) ∧ StrsIn w' a1 N1 LB ∧ StrsIn w' a2 N2 LU ∧ Kept w w' from fun w q => msorted_again kk X3 N1 Z1 X4 N2 Z2 LB LU w (HX3.out.kept (HKC.out.trans q)) (HX4.out.kept (HKC.out.trans q)) (by have := HN1.out; have := HN2.out; omega) HMB.out)
      have HBY := Lib.hid (show ∀ w, Kept wc w → Calls Try.prog 16 #[.agg #[.int .i64 kk, .slice X3 N1 Z1, .slice X4 N2 Z2]] w fun e w' => e = .returned (.tuple #[.string T, .int .i64 0]) ∧ Kept w w' from fun w q => hT ▸ mbytes_good kk X3 N1 Z1 X4 N2 Z2 LB LU w (HX3.out.kept (HKC.out.trans q)) (HX4.out.kept (HKC.out.trans q)) HMB.out)
      have HTK := Lib.hid (show ∀ w, Calls Try.prog 17 #[.string T] w fun e w' => ∃ a1 c1 a2 c2, e = .returned (.tuple #[.agg #[.int .i64 kk, .slice a1 N1 c1, .slice a2 N2 c2], .int .i64 0]) ∧ StrsIn w' a1 N1 LB ∧ StrsIn w' a2 N2 LU ∧ Kept w w' from fun w => hT ▸ mtake_again kk LB LU N1 N2 HX3.out.len_eq HX4.out.len_eq w HMB.out)
      clear hT
      obtain ⟨d0, d1, d2⟩ := HP5.out _ HKD.out
      go_wp2_with fail
      refine (HSO.out _ HKD.out).mono ?_
      rintro e we0 ⟨B1, D1, B2, D2, rfl, hb1, hb2, hk⟩
      have HK1 := Lib.hid (HKD.out.trans hk)
      clear hk d0 d1 d2
      go_upto_region 26 with (fail)
      have HPE := Lib.hid (BlockAt.new we0 #[.int .i64 kk, .slice B1 N1 D1, .slice B2 N2 D2] 28)
      have HKE := Lib.hid (HK1.out.alloc (.cells #[.int .i64 kk, .slice B1 N1 D1, .slice B2 N2 D2] 28))
      have ka := (Kept.refl we0).alloc (.cells #[.int .i64 kk, .slice B1 N1 D1, .slice B2 N2 D2] 28)
      have HB1 := Lib.hid (hb1.kept ka)
      have HB2 := Lib.hid (hb2.kept ka)
      clear ka hb1 hb2
      generalize we0.alloc (.cells #[.int .i64 kk, .slice B1 N1 D1, .slice B2 N2 D2] 28) = we at *
      obtain ⟨pe, hpp⟩ : ∃ pp, pp = we0.heap.size := ⟨_, rfl⟩
      rw [← hpp] at HPE ⊢
      clear hpp
      have HPEc := Lib.hid (show ∀ w, Kept we w → w.cell? ⟨pe, 0, none⟩ = some (.int .i64 kk) ∧ w.cell? ⟨pe, 1, none⟩ = some (.slice B1 N1 D1) ∧ w.cell? ⟨pe, 2, none⟩ = some (.slice B2 N2 D2) from fun w q => box3k HPE.out q)
      clear HK1
      obtain ⟨d0, d1, d2⟩ := HP5.out _ HKE.out
      go_wp2_with fail
      refine (HBY.out _ HKE.out).mono ?_
      rintro e wf ⟨rfl, hk⟩
      have HKF := Lib.hid hk
      clear hk d0 d1 d2
      go_wp2_with fail
      refine (HTK.out _).mono ?_
      rintro e wg0 ⟨B3, D3, B4, D4, rfl, hb1, hb2, hk⟩
      have HK1 := Lib.hid (HKF.out.trans hk)
      clear hk
      go_upto_region 28 with (fail)
      have HPG := Lib.hid (BlockAt.new wg0 #[.int .i64 kk, .slice B3 N1 D3, .slice B4 N2 D4] 28)
      have HKG := Lib.hid (HK1.out.alloc (.cells #[.int .i64 kk, .slice B3 N1 D3, .slice B4 N2 D4] 28))
      have ka := (Kept.refl wg0).alloc (.cells #[.int .i64 kk, .slice B3 N1 D3, .slice B4 N2 D4] 28)
      have HB3 := Lib.hid (hb1.kept ka)
      have HB4 := Lib.hid (hb2.kept ka)
      clear ka hb1 hb2
      generalize wg0.alloc (.cells #[.int .i64 kk, .slice B3 N1 D3, .slice B4 N2 D4] 28) = wg at *
      obtain ⟨pg, hpp⟩ : ∃ pp, pp = wg0.heap.size := ⟨_, rfl⟩
      rw [← hpp] at HPG ⊢
      clear hpp
      have HPGc := Lib.hid (show ∀ w, Kept wg w → w.cell? ⟨pg, 0, none⟩ = some (.int .i64 kk) ∧ w.cell? ⟨pg, 1, none⟩ = some (.slice B3 N1 D3) ∧ w.cell? ⟨pg, 2, none⟩ = some (.slice B4 N2 D4) from fun w q => box3k HPG.out q)
      have HEQ3 := Lib.hid (show ∀ w, Kept wg w → Calls Try.prog 15 #[.agg #[.int .i64 kk, .slice B1 N1 D1, .slice B2 N2 D2], .agg #[.int .i64 kk, .slice X3 N1 Z1, .slice X4 N2 Z2]] w fun e w' => e = .returned (.bool true) ∧ Kept w w' from fun w q => eq_mf_same kk B1 N1 D1 B2 N2 D2 X3 N1 Z1 X4 N2 Z2 LB LU w (HB1.out.kept (HKG.out.trans q)) (HB2.out.kept (HKG.out.trans q)) (HX3.out.kept (HKC.out.trans (HKE.out.trans (HKG.out.trans q)))) (HX4.out.kept (HKC.out.trans (HKE.out.trans (HKG.out.trans q)))))
      have HEQ4 := Lib.hid (show ∀ w, Kept wg w → Calls Try.prog 15 #[.agg #[.int .i64 kk, .slice B3 N1 D3, .slice B4 N2 D4], .agg #[.int .i64 kk, .slice X3 N1 Z1, .slice X4 N2 Z2]] w fun e w' => e = .returned (.bool true) ∧ Kept w w' from fun w q => eq_mf_same kk B3 N1 D3 B4 N2 D4 X3 N1 Z1 X4 N2 Z2 LB LU w (HB3.out.kept q) (HB4.out.kept q) (HX3.out.kept (HKC.out.trans (HKE.out.trans (HKG.out.trans q)))) (HX4.out.kept (HKC.out.trans (HKE.out.trans (HKG.out.trans q)))))
      have HKG2 := Lib.hid (HKE.out.trans HKG.out)
      clear HK1
      go_wp2_with fail
      refine (num20_any _ _).mono ?_
      rintro e w' ⟨rfl, rfl⟩
      go_wp2_with fail
      refine (num20_any _ _).mono ?_
      rintro e w' ⟨rfl, rfl⟩
      go_wp2_with fail
      refine (num20_any _ _).mono ?_
      rintro e w' ⟨rfl, rfl⟩
      obtain ⟨d0, d1, d2⟩ := HP5.out _ HKG2.out
      obtain ⟨c0, c1, c2⟩ := HPEc.out _ HKG.out
      go_wp2_with fail
      refine (HEQ3.out _ (Kept.refl _)).mono ?_
      rintro e wh ⟨rfl, hk⟩
      have HKH := Lib.hid hk
      clear hk d0 d1 d2 c0 c1 c2
      obtain ⟨d0, d1, d2⟩ := HP5.out _ (HKG2.out.trans HKH.out)
      obtain ⟨c0, c1, c2⟩ := HPGc.out _ HKH.out
      go_wp2_with fail
      refine (HEQ4.out _ HKH.out).mono ?_
      rintro e wi ⟨rfl, hk⟩
      have HKI := Lib.hid ((HKG2.out.trans HKH.out).trans hk)
      clear hk d0 d1 d2 c0 c1 c2
      obtain ⟨d0, d1, d2⟩ := HP5.out _ HKI.out
      go_wp2_with fail
      refine (spoil_new HN3.out (Still.of_kept (HKC.out.trans HKI.out)) (Nat.le_trans HN1.out (by decide))).mono ?_
      rintro e wj ⟨⟨uu, rfl⟩, hkj, hst, hbl⟩
      have HKJ := Lib.hid (hkj (HK46.out.trans (HKC.out.trans HKI.out)))
      have HSTJ := Lib.hid hst
      have HXJ := Lib.hid (hbl p5 _ _ (by decide) (HXB.out.kept (HKC.out.trans HKI.out)))
      clear hkj hst hbl d0 d1 d2
      obtain ⟨d0, d1, d2⟩ := box3k HXJ.out (Kept.refl _)
      go_wp2_with fail
      refine (spoil_new HN4.out HSTJ.out (Nat.le_trans HN2.out (by decide))).mono ?_
      rintro e wk ⟨⟨uu2, rfl⟩, hkj, hst, hbl⟩
      have HKK := Lib.hid (hkj HKJ.out)
      clear hkj hst hbl d0 d1 d2
      have HP4k := Lib.hid (show ∀ w, Kept wk w → w.cell? ⟨p4, 0, none⟩ = some (.int .i64 k) ∧ w.cell? ⟨p4, 1, none⟩ = some (.slice x1 mb y1) ∧ w.cell? ⟨p4, 2, none⟩ = some (.slice x2 mu y2) from fun w q => box3k HIN.out (HKK.out.trans q))
      have HBXk := Lib.hid (show ∀ w, Kept wk w → w.cell? ⟨W.heap.size, 0, none⟩ = some (.slice (some ⟨bm, om, none⟩) lm cm) ∧ w.cell? ⟨W.heap.size, 1, none⟩ = some (.slice aa ls cs) from fun w q => HBX.out _ (HK4.out.trans (HKK.out.trans q)))
      have HAk := Lib.hid (show ∀ w, Kept wk w → w.cell? ⟨bm, om + i * 3, none⟩ = some (.int .i64 k) ∧ w.cell? ⟨bm, om + i * 3 + 1, none⟩ = some (.slice ab mb cb) ∧ w.cell? ⟨bm, om + i * 3 + 2, none⟩ = some (.slice au mu cu) from fun w q => HA.out.c _ (HK4.out.trans (HKK.out.trans q)))
      have HEQ5 := Lib.hid (show ∀ w, Kept wk w → Calls Try.prog 15 #[.agg #[.int .i64 k, .slice x1 mb y1, .slice x2 mu y2], .agg #[.int .i64 k, .slice ab mb cb, .slice au mu cu]] w fun e w' => e = .returned (.bool true) ∧ Kept w w' from fun w q => eq_mf_same k x1 mb y1 x2 mu y2 ab mb cb au mu cu bs us w (HX14.out.kept (HKK.out.trans q)) (HX24.out.kept (HKK.out.trans q)) (HA.out.hb.strs.kept (HK4.out.trans (HKK.out.trans q))) (HA.out.hu.strs.kept (HK4.out.trans (HKK.out.trans q))))
      go_wp2_with fail
      refine Pj.wp_region_step (fun az0 L az w => ∃ V : Nat → Value, az = Pj.puts [(171, 0), (172, 1), (173, 2), (174, 3), (175, 4), (176, 5), (177, 6), (178, 7)] V az0 ∧ Pj.J wk [Pj.Is (.agg #[.int .i64 k, .slice x1 mb y1, .slice x2 mu y2]), Pj.Is (.pointer (some ⟨W.heap.size, 0, none⟩)), Pj.Is (.slice (some ⟨bm, om, none⟩) lm cm), Pj.Is (.int .i64 i), Pj.Is (.pointer (some ⟨bm, om + i * 3, none⟩)), Pj.Is (.agg #[.int .i64 k, .slice ab mb cb, .slice au mu cu]), Pj.Is (.bool true), Pj.Is (.bool false)] L V w) (by as_aux_lemma => kernel_rfl) (by as_aux_lemma => kernel_rfl) ?eh0 ?ehs ?ehe
      case eh0 =>
        intro L hL
        exact ⟨_, Pj.puts_self _ (fun j => ([171, 172, 173, 174, 175, 176, 177, 178] : List Nat).getD j 0) [0, 1, 2, 3, 4, 5, 6, 7], Pj.J.none (n := 8) (Nat.le_refl _) hL ((Kept.refl _).drew)⟩
      case ehs =>
        rintro L L' az w iz opz Kq ⟨V, rfl, hJ⟩ ho hopen hdep hL hKq
        have hP : Pj.AllStay [Pj.Is (.agg #[.int .i64 k, .slice x1 mb y1, .slice x2 mu y2]), Pj.Is (.pointer (some ⟨W.heap.size, 0, none⟩)), Pj.Is (.slice (some ⟨bm, om, none⟩) lm cm), Pj.Is (.int .i64 i), Pj.Is (.pointer (some ⟨bm, om + i * 3, none⟩)), Pj.Is (.agg #[.int .i64 k, .slice ab mb cb, .slice au mu cu]), Pj.Is (.bool true), Pj.Is (.bool false)] := ⟨Pj.Is.stays _, Pj.Is.stays _, Pj.Is.stays _, Pj.Is.stays _, Pj.Is.stays _, Pj.Is.stays _, Pj.Is.stays _, Pj.Is.stays _, trivial⟩
        have HP := Lib.hid hP
        clear hP
        match iz, ho with
        | 0, ho =>
          simp only [List.getElem?_toArray, List.getElem?_cons_zero, Option.some.injEq] at ho
          obtain ⟨d0, d1, d2⟩ := HP4k.out _ hJ.kp
          have HJ := Lib.hid hJ
          clear hJ
          subst ho
          refine Pj.Step.free rfl ?_
          simp only [Pj.puts, List.foldl_cons, List.foldl_nil, Act.put, List.setIfInBounds_toArray, List.set_cons_zero, List.set_cons_succ]
          go_simp
          exact hKq _ _ ⟨Pj.vset V 0 (.agg #[.int .i64 k, .slice x1 mb y1, .slice x2 mu y2]), by simp only [Pj.puts, List.foldl_cons, List.foldl_nil, Act.put, List.setIfInBounds_toArray, List.set_cons_zero, List.set_cons_succ, Pj.vset, Nat.reduceEqDiff, if_true, if_false], HJ.out.more HP.out hL (Kept.refl _) (rfl)⟩
        | 1, ho =>
          simp only [List.getElem?_toArray, List.getElem?_cons_zero, List.getElem?_cons_succ, Option.some.injEq] at ho
          have HJ := Lib.hid hJ
          clear hJ
          subst ho
          refine Pj.Step.free rfl ?_
          simp only [Pj.puts, List.foldl_cons, List.foldl_nil, Act.put, List.setIfInBounds_toArray, List.set_cons_zero, List.set_cons_succ]
          go_simp
          exact hKq _ _ ⟨Pj.vset V 1 (.pointer (some ⟨W.heap.size, 0, none⟩)), by simp only [Pj.puts, List.foldl_cons, List.foldl_nil, Act.put, List.setIfInBounds_toArray, List.set_cons_zero, List.set_cons_succ, Pj.vset, Nat.reduceEqDiff, if_true, if_false], HJ.out.more HP.out hL (Kept.refl _) (rfl)⟩
        | 2, ho =>
          simp only [List.getElem?_toArray, List.getElem?_cons_zero, List.getElem?_cons_succ, Option.some.injEq] at ho
          have e1 : V 1 = .pointer (some ⟨W.heap.size, 0, none⟩) := hJ.h 1 (hdep 1 (by rw [← ho]; kernel_rfl))
          obtain ⟨d0, d1⟩ := HBXk.out _ hJ.kp
          have HJ := Lib.hid hJ
          clear hJ
          subst ho
          refine Pj.Step.free rfl ?_
          simp only [Pj.puts, List.foldl_cons, List.foldl_nil, Act.put, List.setIfInBounds_toArray, List.set_cons_zero, List.set_cons_succ, e1]
          go_simp
          exact hKq _ _ ⟨Pj.vset V 2 (.slice (some ⟨bm, om, none⟩) lm cm), by simp only [Pj.puts, List.foldl_cons, List.foldl_nil, Act.put, List.setIfInBounds_toArray, List.set_cons_zero, List.set_cons_succ, Pj.vset, Nat.reduceEqDiff, if_true, if_false, e1], HJ.out.more HP.out hL (Kept.refl _) (rfl)⟩
        | 3, ho =>
          simp only [List.getElem?_toArray, List.getElem?_cons_zero, List.getElem?_cons_succ, Option.some.injEq] at ho
          have HJ := Lib.hid hJ
          clear hJ
          subst ho
          refine Pj.Step.free rfl ?_
          simp only [Pj.puts, List.foldl_cons, List.foldl_nil, Act.put, List.setIfInBounds_toArray, List.set_cons_zero, List.set_cons_succ]
          go_simp
          exact hKq _ _ ⟨Pj.vset V 3 (.int .i64 i), by simp only [Pj.puts, List.foldl_cons, List.foldl_nil, Act.put, List.setIfInBounds_toArray, List.set_cons_zero, List.set_cons_succ, Pj.vset, Nat.reduceEqDiff, if_true, if_false], HJ.out.more HP.out hL (Kept.refl _) (rfl)⟩
        | 4, ho =>
          simp only [List.getElem?_toArray, List.getElem?_cons_zero, List.getElem?_cons_succ, Option.some.injEq] at ho
          have e2 : V 2 = .slice (some ⟨bm, om, none⟩) lm cm := hJ.h 2 (hdep 2 (by rw [← ho]; kernel_rfl))
          have e3 : V 3 = .int .i64 i := hJ.h 3 (hdep 3 (by rw [← ho]; kernel_rfl))
          have HJ := Lib.hid hJ
          clear hJ
          subst ho
          refine Pj.Step.free rfl ?_
          simp only [Pj.puts, List.foldl_cons, List.foldl_nil, Act.put, List.setIfInBounds_toArray, List.set_cons_zero, List.set_cons_succ, e2, e3]
          go_simp
          exact hKq _ _ ⟨Pj.vset V 4 (.pointer (some ⟨bm, om + i * 3, none⟩)), by simp only [Pj.puts, List.foldl_cons, List.foldl_nil, Act.put, List.setIfInBounds_toArray, List.set_cons_zero, List.set_cons_succ, Pj.vset, Nat.reduceEqDiff, if_true, if_false, e2, e3], HJ.out.more HP.out hL (Kept.refl _) (rfl)⟩
        | 5, ho =>
          simp only [List.getElem?_toArray, List.getElem?_cons_zero, List.getElem?_cons_succ, Option.some.injEq] at ho
          have e4 : V 4 = .pointer (some ⟨bm, om + i * 3, none⟩) := hJ.h 4 (hdep 4 (by rw [← ho]; kernel_rfl))
          obtain ⟨d0, d1, d2⟩ := HAk.out _ hJ.kp
          have HJ := Lib.hid hJ
          clear hJ
          subst ho
          refine Pj.Step.free rfl ?_
          simp only [Pj.puts, List.foldl_cons, List.foldl_nil, Act.put, List.setIfInBounds_toArray, List.set_cons_zero, List.set_cons_succ, e4]
          go_simp
          exact hKq _ _ ⟨Pj.vset V 5 (.agg #[.int .i64 k, .slice ab mb cb, .slice au mu cu]), by simp only [Pj.puts, List.foldl_cons, List.foldl_nil, Act.put, List.setIfInBounds_toArray, List.set_cons_zero, List.set_cons_succ, Pj.vset, Nat.reduceEqDiff, if_true, if_false, e4], HJ.out.more HP.out hL (Kept.refl _) (rfl)⟩
        | 6, ho =>
          simp only [List.getElem?_toArray, List.getElem?_cons_zero, List.getElem?_cons_succ, Option.some.injEq] at ho
          have e0 : V 0 = .agg #[.int .i64 k, .slice x1 mb y1, .slice x2 mu y2] := hJ.h 0 (hdep 0 (by rw [← ho]; kernel_rfl))
          have e5 : V 5 = .agg #[.int .i64 k, .slice ab mb cb, .slice au mu cu] := hJ.h 5 (hdep 5 (by rw [← ho]; kernel_rfl))
          have heq := HEQ5.out w hJ.kp
          have HJ := Lib.hid hJ
          clear hJ
          subst ho
          refine Pj.Step.free rfl ?_
          simp only [Pj.puts, List.foldl_cons, List.foldl_nil, Act.put, List.setIfInBounds_toArray, List.set_cons_zero, List.set_cons_succ, e0, e5]
          go_simp
          refine heq.mono ?_
          rintro e w' ⟨rfl, hk9⟩
          exact hKq _ _ ⟨Pj.vset V 6 (.bool true), by simp only [Pj.puts, List.foldl_cons, List.foldl_nil, Act.put, List.setIfInBounds_toArray, List.set_cons_zero, List.set_cons_succ, Pj.vset, Nat.reduceEqDiff, if_true, if_false, e0, e5], HJ.out.more HP.out hL (hk9) (rfl)⟩
        | 7, ho =>
          simp only [List.getElem?_toArray, List.getElem?_cons_zero, List.getElem?_cons_succ, Option.some.injEq] at ho
          have e6 : V 6 = .bool true := hJ.h 6 (hdep 6 (by rw [← ho]; kernel_rfl))
          have HJ := Lib.hid hJ
          clear hJ
          subst ho
          refine Pj.Step.free rfl ?_
          simp only [Pj.puts, List.foldl_cons, List.foldl_nil, Act.put, List.setIfInBounds_toArray, List.set_cons_zero, List.set_cons_succ, e6]
          go_simp
          exact hKq _ _ ⟨Pj.vset V 7 (.bool false), by simp only [Pj.puts, List.foldl_cons, List.foldl_nil, Act.put, List.setIfInBounds_toArray, List.set_cons_zero, List.set_cons_succ, Pj.vset, Nat.reduceEqDiff, if_true, if_false, e6], HJ.out.more HP.out hL (Kept.refl _) (rfl)⟩
        | n + 8, ho => simp at ho
      case ehe =>
        rintro L az w ⟨V, rfl, hJ⟩ hall
        have e0 : V 0 = .agg #[.int .i64 k, .slice x1 mb y1, .slice x2 mu y2] := hJ.h 0 (hall 0 (by decide))
        have e1 : V 1 = .pointer (some ⟨W.heap.size, 0, none⟩) := hJ.h 1 (hall 1 (by decide))
        have e2 : V 2 = .slice (some ⟨bm, om, none⟩) lm cm := hJ.h 2 (hall 2 (by decide))
        have e3 : V 3 = .int .i64 i := hJ.h 3 (hall 3 (by decide))
        have e4 : V 4 = .pointer (some ⟨bm, om + i * 3, none⟩) := hJ.h 4 (hall 4 (by decide))
        have e5 : V 5 = .agg #[.int .i64 k, .slice ab mb cb, .slice au mu cu] := hJ.h 5 (hall 5 (by decide))
        have e6 : V 6 = .bool true := hJ.h 6 (hall 6 (by decide))
        have e7 : V 7 = .bool false := hJ.h 7 (hall 7 (by decide))
        have HKj := Lib.hid hJ.kp
        clear hJ hall
        simp only [Pj.puts, List.foldl_cons, List.foldl_nil, Act.put, List.setIfInBounds_toArray, List.set_cons_zero, List.set_cons_succ, e0, e1, e2, e3, e4, e5, e6, e7]
        clear e0 e1 e2 e3 e4 e5 e6 e7
        have HKL := Lib.hid HKj.out
        clear HKj
        go_wp2_with fail
        go_roundw
        case rel => exact ⟨i + 1, by omega, by go_num, ((HKR.out.trans HK4.out).trans HKK.out).trans HKL.out⟩
        case measure => simp [intOf]; omega
    · have hne : (E != 0) = true := by simp [hE0]
      clear hE0
      go_wp2_with fail
      go_roundw
      case rel => exact ⟨i + 1, by omega, by go_num, ((HKR.out.trans HK6.out).trans HKC.out).trans HKD.out⟩
      case measure => simp [intOf]; omega

end Go.Proofs.Ythdlmpgojoaijaa
