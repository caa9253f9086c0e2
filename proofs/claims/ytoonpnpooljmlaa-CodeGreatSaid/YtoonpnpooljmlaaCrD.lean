/- One arm of the walk of the law in Cr: its goal is the component of code_rebuildsM that the walk ahead left (no conditions). -/
import Derived.Test.YtoonpnpooljmlaaCrM
namespace Go.Proofs.Ytoonpnpooljmlaa
open Go.RowKit Go.Shelf
attribute [local go_sem] Oper.semAt_some
set_option maxRecDepth 100000 in
set_option maxHeartbeats 40000000 in
theorem code_rebuildsD : code_rebuildsM.1.2.2.2 := by
  intro ls cs al ll cl ss ab lb cb T W hlb HTT iBo HIBo zi0 w1 HK1 w2 HK2 hll hls HSZ zi1 zi2 wr zi3 u4 u5 u6 u7 u8 u9 u10 u11 u12 u13 u14 u15 zi4 zi5 zi6 zi7 zi8 zi9 zi10 zi11 zi12 zi13 zi14 zi15 u28 u29 u32 u33 u34 u35 u36 u37 u38 u39 u40 u41 u42 u43 u44 u45 u46 u47 u48 u49 u50 u51 u52 u53 u54 u55 u56 u57 u58 u59 u60 u61 u62 u63 u64 u65 u66 u67 u68 u69 u70 u71 u72 u73 u74 u75 u76 u77 u78 u79 u80 u81 zi16 zi17 zi18 zi19 zi20 zi21 zi22 zi23 zi24 zi25 zi26 zi27 zi28 zi29 zi30 zi31 zi32 zi33 zi34 zi35 zi36 zi37 zi38 u105 u106 u107 u108 u109 u110 u111 u112 u113 u114 u115 u116 u117 u118 u119 u120 u121 u122 u123 u124 u125 u126 zi39 zi40 zi41 zi42 zi43 zi44 zi45 zi46 zi47 zi48 zi49 zi50 zi51 zi52 zi53 zi54 zi55 zi56 zi57 zi58 zi59 zi60 zi61 zi62 zi63 zi64 zi65 zi66 zi67 zi68 zi69 zi70 zi71 zi72 zi73 zi74 zi75 zi76 zi77 zi78 zi79 zi80 zi81 zi82 zi83 zi84 zi85 zi86 zi87 zi88 zi89 zi90 zi91 zi92 zi93 zi94 zi95 zi96 zi97 zi98 zi99 zi100 zi101 zi102 zi103 zi104 zi105 zi106 zi107 zi108 zi109 zi110 zi111 zi112 zi113 zi114 zi115 zi116 zi117 zi118 zi119 zi120 zi121 zi122 zi123 zi124 zi125 zi126 zi127 zi128 zi129 zi130 zi131 zi132 zi133 zi134 zi135 zi136 u225 u226 u227 u228 u229 u230 u231 u232 u233 u234 u235 u236 u237 j hj HK hjl hj4 b off HA HREAD hd1 hd2 zi137 zi138 zi139 wa HKa p4 wb HKb K M S c0 c1 c2 hkb HB5 hK1 hS1 HSB H HH eH hH14 zi140 w5 HK5 pt HC0 HPT HRB HTB wy u82 u83 u84 u85 u86 u87 u88 u89 u90 u91 u92 u93 u94 u95 u96 u97 u98 u99 u100 u101 u102 u103 u104 HKY hi HBC hiH HBY T9 HTC0 HTI HRW HBW HFT HEN zi141 zi142 zi143 L w V a7 c7 X7 h7 h7s a8 c8 h8 c9z HKj HK18 w19 aw cw Xw hcw HLW HK19 X9 hc9 b8 o8 HL18 HLP H1 HLC HH1 hb8 zi144 zi145 wl HKL HLP2 HLW2 HLC2 g14 HG HLS wx u2 u16 u17 u18 u19 u20 u21 u22 u23 u24 u25 u26 u27 u127 u128 u129 u130 u131 u132 u133 u134 u135 u136 u137 u138 u139 u140 u141 u142 u143 u144 u145 u146 u147 u148 u149 u150 u151 u152 u153 u154 u155 u156 u157 u158 u159 u160 u161 u162 u163 u164 u165 u166 u167 u168 u169 u170 u171 u172 u173 u174 u175 u176 u177 u178 u179 u180 u181 u182 u183 u184 u185 u186 u187 u188 u189 u190 u191 u192 u193 u194 u195 u196 u197 u198 u199 u200 u201 u202 u203 u204 u205 u206 u207 u208 u209 u210 u211 u212 u213 u214 u215 u216 u217 u218 u219 u220 u221 u222 u223 u224 q hq HKX hq3
  have hd3 : decide ((q : Int) < 3) = false := decide_eq_false (by omega)
  have HBZ := Lib.hid (show ∀ w, Kept wx w → w.cell? ⟨p4, 0, none⟩ = some (.int .i64 K) ∧ w.cell? ⟨p4, 1, none⟩ = some (.int .i64 M) ∧ w.cell? ⟨p4, 2, none⟩ = some (.int .i64 S) from fun w kk => HBW.out _ ((HKL.out.trans HKX.out).trans kk))
  have HTZ := Lib.hid (show ∀ w, Kept wx w → BoolsIn w (some ⟨pt, 0, none⟩) H T9 from fun w kk => HTI.out.kept ((HKL.out.trans HKX.out).trans kk))
  go_wp2_with fail
  refine Pj.wp_region_step (fun az0 L az w => ∃ V : Nat → Value, az = Pj.puts [(226, 0), (227, 1), (228, 2), (229, 3), (230, 4), (231, 5), (232, 6), (225, 7), (233, 8), (234, 9), (28, 10), (29, 11)] V az0 ∧ Pj.J wx [Pj.Is (.agg #[.int .i64 K, .int .i64 M, .int .i64 S]), Pj.Is (.slice (some ⟨b8, o8, none⟩) H c9z), Pj.Is (.slice (some ⟨pt, 0, none⟩) H H), (fun _ v => ∃ a c, v = .slice a H c), (fun _ v => ∃ g : Nat, v = .slice (some ⟨g, 0, none⟩) 1 1), (fun _ v => ∃ a c, v = .slice a (H + 1) c), Pj.Is (.tuple #[.slice none 0 0, .int .i64 1]), Pj.Is (.tuple #[.slice none 0 0, .int .i64 1]), Pj.Is (.slice none 0 0), Pj.Is (.int .i64 1), Pj.Is (.slice none 0 0), Pj.Is (.int .i64 1)] L V w ∧ Pj.Src wx.heap.size 4 H ((List.range H).map fun i => Value.bool (T9 i)) (.bool true) 3 4 5 L V w) (by as_aux_lemma => kernel_rfl) (by as_aux_lemma => kernel_rfl) ?eh0 ?ehs ?ehe
  case eh0 =>
    intro L hL
    exact ⟨_, Pj.puts_self _ (fun j => ([226, 227, 228, 229, 230, 231, 232, 225, 233, 234, 28, 29] : List Nat).getD j 0) [0, 1, 2, 3, 4, 5, 6, 7, 8, 9, 10, 11], Pj.J.none (n := 12) (Nat.le_refl _) hL ((Kept.refl _).drew), Pj.Src.start (hL 3 (by decide)) (hL 4 (by decide))⟩
  case ehs =>
    rintro L L' az w iz opz Kq ⟨V, rfl, hJ, hS⟩ ho hopen hdep hL hKq
    have hP : Pj.AllFlat [Pj.Is (.agg #[.int .i64 K, .int .i64 M, .int .i64 S]), Pj.Is (.slice (some ⟨b8, o8, none⟩) H c9z), Pj.Is (.slice (some ⟨pt, 0, none⟩) H H), (fun _ v => ∃ a c, v = .slice a H c), (fun _ v => ∃ g : Nat, v = .slice (some ⟨g, 0, none⟩) 1 1), (fun _ v => ∃ a c, v = .slice a (H + 1) c), Pj.Is (.tuple #[.slice none 0 0, .int .i64 1]), Pj.Is (.tuple #[.slice none 0 0, .int .i64 1]), Pj.Is (.slice none 0 0), Pj.Is (.int .i64 1), Pj.Is (.slice none 0 0), Pj.Is (.int .i64 1)] := ⟨Pj.Is.flat _, Pj.Is.flat _, Pj.Is.flat _, (fun _ _ _ h _ => h), (fun _ _ _ h _ => h), (fun _ _ _ h _ => h), Pj.Is.flat _, Pj.Is.flat _, Pj.Is.flat _, Pj.Is.flat _, Pj.Is.flat _, Pj.Is.flat _, trivial⟩
    have HP := Lib.hid hP
    clear hP
    match iz, ho with
    | 0, ho =>
      simp only [List.getElem?_toArray, List.getElem?_cons_zero, Option.some.injEq] at ho
      obtain ⟨d0, d1, d2⟩ := HBZ.out _ hJ.kp
      have HJ := Lib.hid hJ
      clear hJ
      have HXhS := Lib.hid hS
      clear hS
      subst ho
      refine Pj.Step.free rfl ?_
      simp only [Pj.puts, List.foldl_cons, List.foldl_nil, Act.put, List.setIfInBounds_toArray, List.set_cons_zero, List.set_cons_succ]
      go_simp
      exact hKq _ _ ⟨Pj.vset V 0 (.agg #[.int .i64 K, .int .i64 M, .int .i64 S]), by simp only [Pj.puts, List.foldl_cons, List.foldl_nil, Act.put, List.setIfInBounds_toArray, List.set_cons_zero, List.set_cons_succ, Pj.vset, Nat.reduceEqDiff, if_true, if_false], HJ.out.flat HP.out hL (HJ.out.kp.trans (Kept.refl _)) (Kept.size (Kept.refl _)) (rfl), HXhS.out.same (by decide) (by decide) (by decide) hL (Kept.refl _)⟩
    | 1, ho =>
      simp only [List.getElem?_toArray, List.getElem?_cons_zero, List.getElem?_cons_succ, Option.some.injEq] at ho
      have HJ := Lib.hid hJ
      clear hJ
      have HXhS := Lib.hid hS
      clear hS
      subst ho
      refine Pj.Step.free rfl ?_
      simp only [Pj.puts, List.foldl_cons, List.foldl_nil, Act.put, List.setIfInBounds_toArray, List.set_cons_zero, List.set_cons_succ]
      go_simp
      exact hKq _ _ ⟨Pj.vset V 1 (.slice (some ⟨b8, o8, none⟩) H c9z), by simp only [Pj.puts, List.foldl_cons, List.foldl_nil, Act.put, List.setIfInBounds_toArray, List.set_cons_zero, List.set_cons_succ, Pj.vset, Nat.reduceEqDiff, if_true, if_false], HJ.out.flat HP.out hL (HJ.out.kp.trans (Kept.refl _)) (Kept.size (Kept.refl _)) (rfl), HXhS.out.same (by decide) (by decide) (by decide) hL (Kept.refl _)⟩
    | 2, ho =>
      simp only [List.getElem?_toArray, List.getElem?_cons_zero, List.getElem?_cons_succ, Option.some.injEq] at ho
      have HJ := Lib.hid hJ
      clear hJ
      have HXhS := Lib.hid hS
      clear hS
      subst ho
      refine Pj.Step.free rfl ?_
      simp only [Pj.puts, List.foldl_cons, List.foldl_nil, Act.put, List.setIfInBounds_toArray, List.set_cons_zero, List.set_cons_succ]
      go_simp
      exact hKq _ _ ⟨Pj.vset V 2 (.slice (some ⟨pt, 0, none⟩) H H), by simp only [Pj.puts, List.foldl_cons, List.foldl_nil, Act.put, List.setIfInBounds_toArray, List.set_cons_zero, List.set_cons_succ, Pj.vset, Nat.reduceEqDiff, if_true, if_false], HJ.out.flat HP.out hL (HJ.out.kp.trans (Kept.refl _)) (Kept.size (Kept.refl _)) (rfl), HXhS.out.same (by decide) (by decide) (by decide) hL (Kept.refl _)⟩
    | 3, ho =>
      simp only [List.getElem?_toArray, List.getElem?_cons_zero, List.getElem?_cons_succ, Option.some.injEq] at ho
      have e2 : V 2 = .slice (some ⟨pt, 0, none⟩) H H := hJ.h 2 (hdep 2 (by rw [← ho]; kernel_rfl))
      have hcb := copy_bools_own _ H H T9 w (HTZ.out _ hJ.kp) (by omega)
      have HJ := Lib.hid hJ
      clear hJ
      have HXhS := Lib.hid hS
      clear hS
      subst ho
      refine Pj.Step.free rfl ?_
      simp only [Pj.puts, List.foldl_cons, List.foldl_nil, Act.put, List.setIfInBounds_toArray, List.set_cons_zero, List.set_cons_succ, e2]
      go_simp
      refine hcb.mono ?_
      rintro e w' ⟨a5, c5, rfl, hown5, hk9⟩
      exact hKq _ _ ⟨Pj.vset V 3 (.slice a5 H c5), by simp only [Pj.puts, List.foldl_cons, List.foldl_nil, Act.put, List.setIfInBounds_toArray, List.set_cons_zero, List.set_cons_succ, Pj.vset, Nat.reduceEqDiff, if_true, if_false, e2], HJ.out.flat HP.out hL (HJ.out.kp.trans (hk9)) (Kept.size (hk9)) (⟨_, _, rfl⟩), HXhS.out.own (by decide) hk9 (own_mono hown5 HJ.out.kp.size) hL⟩
    | 4, ho =>
      simp only [List.getElem?_toArray, List.getElem?_cons_zero, List.getElem?_cons_succ, Option.some.injEq] at ho
      have HJ := Lib.hid hJ
      clear hJ
      have HXhS := Lib.hid hS
      clear hS
      subst ho
      refine Pj.Step.free rfl ?_
      simp only [Pj.puts, List.foldl_cons, List.foldl_nil, Act.put, List.setIfInBounds_toArray, List.set_cons_zero, List.set_cons_succ]
      go_simp
      exact hKq _ _ ⟨Pj.vset V 4 (.slice (some ⟨w.heap.size, 0, none⟩) 1 1), by simp only [Pj.puts, List.foldl_cons, List.foldl_nil, Act.put, List.setIfInBounds_toArray, List.set_cons_zero, List.set_cons_succ, Pj.vset, Nat.reduceEqDiff, if_true, if_false], HJ.out.flat HP.out hL (HJ.out.kp.trans ((Kept.refl _).alloc _)) (Kept.size ((Kept.refl _).alloc _)) (⟨_, rfl⟩), HXhS.out.made (by decide) hL⟩
    | 5, ho =>
      simp only [List.getElem?_toArray, List.getElem?_cons_zero, List.getElem?_cons_succ, Option.some.injEq] at ho
      have l3 := hdep 3 (by rw [← ho]; kernel_rfl)
      obtain ⟨a3, c3, e3⟩ := hJ.h 3 l3
      have l4 := hdep 4 (by rw [← ho]; kernel_rfl)
      obtain ⟨g4, e4⟩ := hJ.h 4 l4
      obtain ⟨g, eg, hgb⟩ := hS.c l4 hopen
      have hown := hS.a0 l3 hopen
      rw [e3] at hown
      rw [e4] at eg
      cases eg
      have HJ := Lib.hid hJ
      clear hJ
      have HXhS := Lib.hid hS
      clear hS
      subst ho
      refine Pj.Step.free rfl ?_
      simp only [Pj.puts, List.foldl_cons, List.foldl_nil, Act.put, List.setIfInBounds_toArray, List.set_cons_zero, List.set_cons_succ, e3, e4]
      refine Pj.oper_app _ _ 24 rfl wx.heap.size 4 iBo (.bool false) 1 Try.underlying24 HIBo.out.1 HIBo.out.2.1 HIBo.out.2.2.1 HIBo.out.2.2.2 rfl (.slice a3 H c3) H ((List.range H).map fun i => Value.bool (T9 i)) rfl hown g4 (.bool true) rfl hgb rfl (by omega) (by decide) HJ.out.kp.size ?_
      intro v' w' hown' hgrow
      obtain ⟨a6, c6, rfl⟩ := slice_of_own1 hown'
      simp only [Act.put, List.setIfInBounds_toArray, List.set_cons_zero, List.set_cons_succ]
      exact hKq _ _ ⟨Pj.vset V 5 (.slice a6 (H + 1) c6), by simp only [Pj.puts, List.foldl_cons, List.foldl_nil, Act.put, List.setIfInBounds_toArray, List.set_cons_zero, List.set_cons_succ, Pj.vset, Nat.reduceEqDiff, if_true, if_false, e3, e4], HJ.out.flat HP.out hL (kept_gr1 HJ.out.kp hgrow (fun q e => (hown.lt q e).1) (Nat.le_refl _)) (hgrow.size) (⟨_, _, rfl⟩), Pj.Src.done hL⟩
    | 6, ho =>
      simp only [List.getElem?_toArray, List.getElem?_cons_zero, List.getElem?_cons_succ, Option.some.injEq] at ho
      have e0 : V 0 = .agg #[.int .i64 K, .int .i64 M, .int .i64 S] := hJ.h 0 (hdep 0 (by rw [← ho]; kernel_rfl))
      have e1 : V 1 = .slice (some ⟨b8, o8, none⟩) H c9z := hJ.h 1 (hdep 1 (by rw [← ho]; kernel_rfl))
      have l5 := hdep 5 (by rw [← ho]; kernel_rfl)
      obtain ⟨a6, c6, e5⟩ := hJ.h 5 l5
      have hrb := rebuild_len K M H S HH.out hK1 hS1 (some ⟨b8, o8, none⟩) a6 H c9z (H + 1) c6 (by omega) w
      have HJ := Lib.hid hJ
      clear hJ
      have HXhS := Lib.hid hS
      clear hS
      subst ho
      refine Pj.Step.free rfl ?_
      simp only [Pj.puts, List.foldl_cons, List.foldl_nil, Act.put, List.setIfInBounds_toArray, List.set_cons_zero, List.set_cons_succ, e0, e1, e5]
      go_simp
      refine hrb.mono ?_
      rintro e w' ⟨rfl, hk9⟩
      exact hKq _ _ ⟨Pj.vset V 6 (.tuple #[.slice none 0 0, .int .i64 1]), by simp only [Pj.puts, List.foldl_cons, List.foldl_nil, Act.put, List.setIfInBounds_toArray, List.set_cons_zero, List.set_cons_succ, Pj.vset, Nat.reduceEqDiff, if_true, if_false, e0, e1, e5], HJ.out.flat HP.out hL (HJ.out.kp.trans (hk9)) (Kept.size (hk9)) (rfl), HXhS.out.same (by decide) (by decide) (by decide) hL (hk9)⟩
    | 7, ho =>
      simp only [List.getElem?_toArray, List.getElem?_cons_zero, List.getElem?_cons_succ, Option.some.injEq] at ho
      have e6 : V 6 = .tuple #[.slice none 0 0, .int .i64 1] := hJ.h 6 (hdep 6 (by rw [← ho]; kernel_rfl))
      have HJ := Lib.hid hJ
      clear hJ
      have HXhS := Lib.hid hS
      clear hS
      subst ho
      refine Pj.Step.free rfl ?_
      simp only [Pj.puts, List.foldl_cons, List.foldl_nil, Act.put, List.setIfInBounds_toArray, List.set_cons_zero, List.set_cons_succ, e6]
      go_simp
      exact hKq _ _ ⟨Pj.vset V 7 (.tuple #[.slice none 0 0, .int .i64 1]), by simp only [Pj.puts, List.foldl_cons, List.foldl_nil, Act.put, List.setIfInBounds_toArray, List.set_cons_zero, List.set_cons_succ, Pj.vset, Nat.reduceEqDiff, if_true, if_false, e6], HJ.out.flat HP.out hL (HJ.out.kp.trans (Kept.refl _)) (Kept.size (Kept.refl _)) (rfl), HXhS.out.same (by decide) (by decide) (by decide) hL (Kept.refl _)⟩
    | 8, ho =>
      simp only [List.getElem?_toArray, List.getElem?_cons_zero, List.getElem?_cons_succ, Option.some.injEq] at ho
      have e7 : V 7 = .tuple #[.slice none 0 0, .int .i64 1] := hJ.h 7 (hdep 7 (by rw [← ho]; kernel_rfl))
      have HJ := Lib.hid hJ
      clear hJ
      have HXhS := Lib.hid hS
      clear hS
      subst ho
      refine Pj.Step.free rfl ?_
      simp only [Pj.puts, List.foldl_cons, List.foldl_nil, Act.put, List.setIfInBounds_toArray, List.set_cons_zero, List.set_cons_succ, e7]
      go_simp
      exact hKq _ _ ⟨Pj.vset V 8 (.slice none 0 0), by simp only [Pj.puts, List.foldl_cons, List.foldl_nil, Act.put, List.setIfInBounds_toArray, List.set_cons_zero, List.set_cons_succ, Pj.vset, Nat.reduceEqDiff, if_true, if_false, e7], HJ.out.flat HP.out hL (HJ.out.kp.trans (Kept.refl _)) (Kept.size (Kept.refl _)) (rfl), HXhS.out.same (by decide) (by decide) (by decide) hL (Kept.refl _)⟩
    | 9, ho =>
      simp only [List.getElem?_toArray, List.getElem?_cons_zero, List.getElem?_cons_succ, Option.some.injEq] at ho
      have e7 : V 7 = .tuple #[.slice none 0 0, .int .i64 1] := hJ.h 7 (hdep 7 (by rw [← ho]; kernel_rfl))
      have HJ := Lib.hid hJ
      clear hJ
      have HXhS := Lib.hid hS
      clear hS
      subst ho
      refine Pj.Step.free rfl ?_
      simp only [Pj.puts, List.foldl_cons, List.foldl_nil, Act.put, List.setIfInBounds_toArray, List.set_cons_zero, List.set_cons_succ, e7]
      go_simp
      exact hKq _ _ ⟨Pj.vset V 9 (.int .i64 1), by simp only [Pj.puts, List.foldl_cons, List.foldl_nil, Act.put, List.setIfInBounds_toArray, List.set_cons_zero, List.set_cons_succ, Pj.vset, Nat.reduceEqDiff, if_true, if_false, e7], HJ.out.flat HP.out hL (HJ.out.kp.trans (Kept.refl _)) (Kept.size (Kept.refl _)) (rfl), HXhS.out.same (by decide) (by decide) (by decide) hL (Kept.refl _)⟩
    | 10, ho =>
      simp only [List.getElem?_toArray, List.getElem?_cons_zero, List.getElem?_cons_succ, Option.some.injEq] at ho
      have e8 : V 8 = .slice none 0 0 := hJ.h 8 (hdep 8 (by rw [← ho]; kernel_rfl))
      have HJ := Lib.hid hJ
      clear hJ
      have HXhS := Lib.hid hS
      clear hS
      subst ho
      refine Pj.Step.free rfl ?_
      simp only [Pj.puts, List.foldl_cons, List.foldl_nil, Act.put, List.setIfInBounds_toArray, List.set_cons_zero, List.set_cons_succ, e8]
      go_simp
      exact hKq _ _ ⟨Pj.vset V 10 (.slice none 0 0), by simp only [Pj.puts, List.foldl_cons, List.foldl_nil, Act.put, List.setIfInBounds_toArray, List.set_cons_zero, List.set_cons_succ, Pj.vset, Nat.reduceEqDiff, if_true, if_false, e8], HJ.out.flat HP.out hL (HJ.out.kp.trans (Kept.refl _)) (Kept.size (Kept.refl _)) (rfl), HXhS.out.same (by decide) (by decide) (by decide) hL (Kept.refl _)⟩
    | 11, ho =>
      simp only [List.getElem?_toArray, List.getElem?_cons_zero, List.getElem?_cons_succ, Option.some.injEq] at ho
      have e9 : V 9 = .int .i64 1 := hJ.h 9 (hdep 9 (by rw [← ho]; kernel_rfl))
      have HJ := Lib.hid hJ
      clear hJ
      have HXhS := Lib.hid hS
      clear hS
      subst ho
      refine Pj.Step.free rfl ?_
      simp only [Pj.puts, List.foldl_cons, List.foldl_nil, Act.put, List.setIfInBounds_toArray, List.set_cons_zero, List.set_cons_succ, e9]
      go_simp
      exact hKq _ _ ⟨Pj.vset V 11 (.int .i64 1), by simp only [Pj.puts, List.foldl_cons, List.foldl_nil, Act.put, List.setIfInBounds_toArray, List.set_cons_zero, List.set_cons_succ, Pj.vset, Nat.reduceEqDiff, if_true, if_false, e9], HJ.out.flat HP.out hL (HJ.out.kp.trans (Kept.refl _)) (Kept.size (Kept.refl _)) (rfl), HXhS.out.same (by decide) (by decide) (by decide) hL (Kept.refl _)⟩
    | n + 12, ho => simp at ho
  case ehe =>
    rintro L az w ⟨V, rfl, hJ, hS⟩ hall
    have e10 : V 10 = .slice none 0 0 := hJ.h 10 (hall 10 (by decide))
    have e11 : V 11 = .int .i64 1 := hJ.h 11 (hall 11 (by decide))
    have HKj := Lib.hid hJ.kp
    clear hJ hall hS
    simp only [Pj.puts, List.foldl_cons, List.foldl_nil, Act.put, List.setIfInBounds_toArray, List.set_cons_zero, List.set_cons_succ, e10, e11]
    clear e10 e11
    have HKZ := Lib.hid (((((HKa.out.trans HKb.out).trans HKY.out).trans HKL.out).trans HKX.out).trans HKj.out)
    go_wp2_with fail
    refine (num4_any _ _).mono ?_
    rintro e w' ⟨rfl, rfl⟩
    go_wp2_with fail
    go_roundw
    case rel => exact ⟨j + 1, by omega, by go_num, HKZ.out⟩
    case measure => simp [intOf]; omega
end Go.Proofs.Ytoonpnpooljmlaa
