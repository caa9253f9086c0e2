/- One arm of the walk of the law in MsL: its goal is the component of manifest_sortedM that the walk ahead left (no conditions). -/
import Derived.Test.YthdlmpgojoaijaaMsLM
namespace Go.Proofs.Ythdlmpgojoaijaa
open Go.RowKit Go.Shelf
attribute [local go_sem] Oper.semAt_some
/-- what Sorted told and what the law wants: the same lists -/
structure Both (t : Value) (w6 w8 w : World) (p5 pw : Nat) (kk E : Int) (N1 N2 : Nat) (X3 X4 : Option Addr) (Z1 Z2 : Nat) (LB LU : List ByteArray) (a1 a2 : Option Addr) (c1 c2 : Nat) : Prop where
  t : t = .int .i64 E
  kp : Kept w8 w
  hb : BlockAt w pw #[.int .i64 kk, .slice a1 N1 c1, .slice a2 N2 c2] 28
  s1 : StrsIn w a1 N1 LB
  s2 : StrsIn w a2 N2 LU
  x3 : StrsIn w6 X3 N1 LB
  x4 : StrsIn w6 X4 N2 LU
  l1 : N1 ≤ 6000
  l2 : N2 ≤ 6000
/-- the manifest that the law wants, where it lies -/
structure WantC (t : Value) (w8 w : World) (pw : Nat) (k : Int) (bs us : List ByteArray) (E : Int) : Prop where
  t : t = .int .i64 E
  kp : Kept w8 w
  c : (E = 0 ∧ ∃ a1 c1 a2 c2, BlockAt w pw #[.int .i64 k, .slice a1 (risen bs).length c1, .slice a2 (risen us).length c2] 28 ∧ StrsIn w a1 (risen bs).length (risen bs) ∧ StrsIn w a2 (risen us).length (risen us)) ∨
    (E ≠ 0 ∧ BlockAt w pw #[.int .i64 0, .slice none 0 0, .slice none 0 0] 28)
theorem WantC.bad {t : Value} {w8 w : World} {pw : Nat} {k : Int} {bs us : List ByteArray} {E : Int} (ht : t = .int .i64 E) (he : E ≠ 0) (hb : BlockAt w pw #[.int .i64 0, .slice none 0 0, .slice none 0 0] 28) (hk : Kept w8 w) : WantC t w8 w pw k bs us E := ⟨ht, hk, .inr ⟨he, hb⟩⟩
theorem WantC.good {t : Value} {w8 w : World} {pw : Nat} {k : Int} {bs us : List ByteArray} {E : Int} {a1 : Option Addr} {c1 : Nat} {a2 : Option Addr} {c2 : Nat} (ht : t = .int .i64 E) (he : E = 0) (hb : BlockAt w pw #[.int .i64 k, .slice a1 (risen bs).length c1, .slice a2 (risen us).length c2] 28) (h1 : StrsIn w a1 (risen bs).length (risen bs)) (h2 : StrsIn w a2 (risen us).length (risen us)) (hk : Kept w8 w) : WantC t w8 w pw k bs us E := ⟨ht, hk, .inl ⟨he, a1, c1, a2, c2, hb, h1, h2⟩⟩
theorem both_of {t : Value} {w4 w6 w8 w : World} {k : Int} {bs us : List ByteArray} {E kk : Int} {N1 N2 : Nat} {X3 X4 : Option Addr} {Z1 Z2 : Nat} {p5 pw : Nat} (h : SortC w4 w6 k bs us E kk N1 N2 X3 Z1 X4 Z2) (g : WantC t w8 w pw k bs us E) (h1 : bs.length ≤ 6000) (h2 : us.length ≤ 6000) :
    ∃ LB LU a1 c1 a2 c2, Both t w6 w8 w p5 pw kk E N1 N2 X3 X4 Z1 Z2 LB LU a1 a2 c1 c2 ∧ (E = 0 → LB = risen bs ∧ LU = risen us) := by
  obtain ⟨ht, hk, ⟨he, a1, c1, a2, c2, hb, s1, s2⟩ | ⟨he, hb⟩⟩ := g
  · obtain ⟨rfl, rfl, rfl, n1, n2⟩ := h.good he
    exact ⟨_, _, a1, c1, a2, c2, ⟨ht, hk, hb, s1, s2, n1.2.1, n2.2.1, Nat.le_trans (risen_length _) h1, Nat.le_trans (risen_length _) h2⟩, fun _ => ⟨rfl, rfl⟩⟩
  · obtain ⟨rfl, rfl, rfl, rfl, rfl, rfl, rfl⟩ := h.bad he
    exact ⟨[], [], none, 0, none, 0, ⟨ht, hk, hb, nil_strs _ _, nil_strs _ _, nil_strs _ _, nil_strs _ _, by omega, by omega⟩, fun e => absurd e he⟩
set_option maxRecDepth 100000 in
set_option maxHeartbeats 8000000 in
noncomputable def manifest_sortedAM : {A : Prop // A → (manifest_sortedM.1)} := ⟨_, by
  intro hcut0
  have HCUT0 := Lib.hid hcut0
  clear hcut0
  skip 
  intro lm cm ms aa ls cs ss W HSS hlm zi0 w1 HK0 w2 HK2 HLI zi1 zi2 wr u2 u4 u5 u6 u7 u8 u9 u10 u11 u12 u13 u14 u15 u16 zi3 zi4 zi5 zi6 zi7 zi8 zi9 zi10 zi11 zi12 zi13 zi14 zi15 zi16 zi17 zi18 zi19 zi20 zi21 zi22 zi23 zi24 zi25 zi26 zi27 zi28 zi29 zi30 zi31 zi32 zi33 zi34 zi35 zi36 zi37 zi38 zi39 zi40 zi41 zi42 zi43 zi44 zi45 zi46 zi47 zi48 zi49 zi50 zi51 zi52 zi53 zi54 zi55 zi56 zi57 zi58 zi59 zi60 zi61 zi62 zi63 zi64 zi65 zi66 zi67 zi68 zi69 zi70 zi71 zi72 zi73 zi74 zi75 zi76 zi77 zi78 zi79 zi80 zi81 zi82 zi83 zi84 zi85 zi86 zi87 zi88 zi89 zi90 zi91 zi92 zi93 zi94 zi95 zi96 zi97 zi98 zi99 zi100 zi101 zi102 zi103 zi104 zi105 zi106 zi107 zi108 zi109 zi110 zi111 zi112 zi113 zi114 zi115 zi116 zi117 zi118 zi119 zi120 zi121 zi122 zi123 zi124 zi125 zi126 zi127 zi128 zi129 zi130 zi131 zi132 zi133 zi134 zi135 zi136 zi137 zi138 zi139 zi140 zi141 zi142 zi143 zi144 zi145 zi146 zi147 zi148 zi149 zi150 zi151 zi152 zi153 zi154 zi155 zi156 zi157 zi158 zi159 zi160 zi161 zi162 i hi HKR hlt h6 hd1 hd2 bm om HMS HB0 HB2 HBX ab cb au cu k bs us mb mu HA hmb6 hmu6 HKW HK1 zi163 zi164 zi165 zi166 w3 x1 y1 x2 y2 w4 HK4 HX14 HX24 p4 HIN hp5 hp6 w5 E X3 Z1 X4 Z2 kk N1 N2 p5 w6 HXB HK6 HIN6 HX16 HX26 HCS6 hp7 HK46 HBX6 HA6 kO HKO HNM u19 u20 u21 u22 u23 u24 u25 u26 u27 u28 u29 u30 u31 u32 u33 u34 u35 u36 u37 u38 u39 u40 u41 u42 u43 u44 u45 u46 u47 u48 u49 u50 u51 u52 u53 u54 u55 u56 u57 u58 u59 u60 u61 u62 u63 u64 u65 u66 u67 u68 u69 u70 u71 u72 u73 u74 u75 u76 u77 u78 u79 u80 u81 u82 u83 u84 u85 u86 u87 u88 u89 u90 u91 u92 u93 u94 u95 u96 u97 u98 u99 u100 u101 u102 u103 u104 u105 u106 u107 u108 u109 u110 u111 u112 u113 u114 u115 u116 u117 u118 u119 u120 u121 u122 u123 u124 u125 u126 u127 u128 u129 u130 u131 u132 u133 u134 u135 u136 u137 u138 u139 u140 u141 u142 u143 u144 u145 u146 u147 u148 u149 u150 u151 u152 u153 u154 u155 u156 u157 u158 u159 u160 u161 u162 u163 u164 u165 u166 u167 u168 u169 u170 u171 u172 u173 u174 u175 u176 u177 u178 b7 HB7 i0 HI HCP HTL HNO zi167 zi168 L w V a13 c13 HQ9 HKj
  have HKW6 := Lib.hid HKj.out
  obtain ⟨al, hal⟩ : ∃ al, al = bs ++ us := ⟨_, rfl⟩
  have hmapa : bs.map Value.string ++ us.map Value.string = al.map Value.string := by rw [hal, List.map_append]
  have hall : al.length = mb + mu := by rw [hal, List.length_append, HA.out.hb.strs.len_eq, HA.out.hu.strs.len_eq]
  have hals : ∀ s ∈ al, s.size ≤ 9223372036854775807 := fun s hs => by
    rw [hal, List.mem_append] at hs
    rcases hs with q | q
    · exact HA.out.hb.strs.sizes s q
    · exact HA.out.hu.strs.sizes s q
  have hown := HQ9.out
  rw [hmapa] at hown
  have HAL := Lib.hid (strs_of_own hown hals hall)
  have HALN := Lib.hid hall
  have HALE := Lib.hid hal
  have HEE := Lib.hid HCS6.out.e
  clear hal hmapa hall hals hown HQ9 HKj
  generalize w = w8 at *
  go_wp2_with fail
  go_loopw [7, 9] (fun bv jv wx => ∃ j : Nat, j ≤ mb + mu ∧ jv = .int .i64 j ∧ (∃ B : Int, bv = .int .i64 B ∧ Hid (B = if (kO && szB (al.take j)) = true then 0 else 1)) ∧ Kept w8 wx) (fun _ jv _ => mb + mu - (intOf jv).toNat)
  case atStart => exact ⟨0, by omega, rfl, ⟨_, rfl, Lib.hid (by rw [HB7.out]; simp [szB])⟩, Kept.refl _⟩
  case round =>
    rename World => wx
    obtain ⟨j, hj, rfl, ⟨B, rfl, HBB⟩, hkx⟩ := hrel
    have HKX := Lib.hid hkx
    clear hkx
    by_cases hjl : j < mb + mu
    · have hd1 : decide (j < mb + mu) = true := decide_eq_true hjl
      have hd1i : decide ((j : Int) < (mb : Int) + (mu : Int)) = true := decide_eq_true (by omega)
      obtain ⟨ba, oa, rfl, hca⟩ := HAL.out.at (by omega)
      have c0 := hca j hjl _ HKX.out
      have hts := HAL.out.size j hjl
      have HSN := Lib.hid (size_szB_snoc al j (by rw [HALN.out]; exact hjl))
      unfold txt at HSN
      obtain ⟨t, ht⟩ : ∃ t, t = al.getD j ByteArray.empty := ⟨_, rfl⟩
      rw [← ht] at c0 hts HSN
      clear hca ht
      by_cases h32 : t.size = 32
      · have hne : ((t.size : Int) != 32) = false := by simp [h32]
        have HN := Lib.hid (show B = if (kO && szB (al.take (j + 1))) = true then 0 else 1 by rw [HBB.out, HSN.out, decide_eq_true h32, Bool.and_true])
        clear h32
        go_wp2_with fail
        go_roundw
        case rel => exact ⟨j + 1, by omega, by go_num, ⟨B, rfl, HN⟩, HKX.out⟩
        case measure => simp [intOf]; omega
      · have hne : ((t.size : Int) != 32) = true := by simp; omega
        have HN := Lib.hid (show (1 : Int) = if (kO && szB (al.take (j + 1))) = true then 0 else 1 by rw [HSN.out, decide_eq_false h32, Bool.and_false, Bool.and_false]; rfl)
        clear h32
        go_wp2_with fail
        go_roundw
        case rel => exact ⟨j + 1, by omega, by go_num, ⟨1, rfl, HN⟩, HKX.out⟩
        case measure => simp [intOf]; omega
    · obtain rfl : j = mb + mu := by omega
      have hd1 : decide (mb + mu < mb + mu) = false := decide_eq_false (by omega)
      have hd1i : decide ((mb : Int) + (mu : Int) < (mb : Int) + (mu : Int)) = false := decide_eq_false (by omega)
      have HBM := Lib.hid (show B = if mfMade ⟨k, bs, us⟩ = true then 0 else 1 by
        rw [HBB.out, mfMade_iff, ← HKO.out, ← HALE.out, List.take_of_length_le (by rw [HALN.out]; omega)])
      clear HBB
      go_upto_region 18 with (fail)
      have HPW0 := Lib.hid (BlockAt.new wx #[.int .i64 0, .slice none 0 0, .slice none 0 0] 28)
      have HKP := Lib.hid (HKX.out.alloc (.cells #[.int .i64 0, .slice none 0 0, .slice none 0 0] 28))
      obtain ⟨pw, hpw⟩ : ∃ pw, pw = wx.heap.size := ⟨_, rfl⟩
      have hpw8 : w8.heap.size ≤ pw := by rw [hpw]; exact HKX.out.size
      generalize wx.alloc (.cells #[.int .i64 0, .slice none 0 0, .slice none 0 0] 28) = w9 at *
      rw [← hpw] at HPW0 ⊢
      have HPW := Lib.hid HPW0.out
      have HK89 := Lib.hid HKP.out
      clear hpw HPW0 HKP
      have HBX9 := Lib.hid (show ∀ w, Kept w9 w → w.cell? ⟨W.heap.size, 0, none⟩ = some (.slice (some ⟨bm, om, none⟩) lm cm) ∧ w.cell? ⟨W.heap.size, 1, none⟩ = some (.slice aa ls cs) from fun w q => HBX6.out _ ((HKW6.out.trans HK89.out).trans q))
      have HA9 := Lib.hid (show ∀ w, Kept w9 w → w.cell? ⟨bm, om + i * 3, none⟩ = some (.int .i64 k) ∧ w.cell? ⟨bm, om + i * 3 + 1, none⟩ = some (.slice ab mb cb) ∧ w.cell? ⟨bm, om + i * 3 + 2, none⟩ = some (.slice au mu cu) from fun w q => HA6.out _ ((HKW6.out.trans HK89.out).trans q))
      go_upto_if 76 with (fail)
      go_cut [7] (fun t wx => WantC t w8 wx pw k bs us E)
      case first =>
        cases hmd : mfMade ⟨k, bs, us⟩ with
        | false =>
          have HE1 := Lib.hid (show B = 1 by rw [HBM.out, hmd]; rfl)
          have HE2 := Lib.hid (show E = 1 by rw [HEE.out, hmd]; rfl)
          obtain rfl := HE1.out
          clear hmd
          go_wp2_with fail
          go_meet
          exact WantC.bad (by rw [HE2.out]) (by rw [HE2.out]; decide) HPW.out HK89.out
        | true =>
          have HE1 := Lib.hid (show B = 0 by rw [HBM.out, hmd]; rfl)
          have HE2 := Lib.hid (show E = if mfFew ⟨k, risen bs, risen us⟩ = true then 0 else 2 by rw [HEE.out, hmd]; rfl)
          have hkw9 := (HK6.out.trans HKW6.out).trans HK89.out
          have HRIb := Lib.hid (show ∀ w, Kept w9 w → Calls Try.prog 13 #[.slice ab mb cb] w fun e w' => ∃ a' c', e = .returned (.slice a' (risen bs).length c') ∧ (risen bs).length ≤ c' ∧ StrsIn w' a' (risen bs).length (risen bs) ∧ Kept w w' from fun w q => rising_ref ab mb cb bs w (HA.out.hb.strs.kept (hkw9.trans q)) (by omega))
          have HRIu := Lib.hid (show ∀ w, Kept w9 w → Calls Try.prog 13 #[.slice au mu cu] w fun e w' => ∃ a' c', e = .returned (.slice a' (risen us).length c') ∧ (risen us).length ≤ c' ∧ StrsIn w' a' (risen us).length (risen us) ∧ Kept w w' from fun w q => rising_ref au mu cu us w (HA.out.hu.strs.kept (hkw9.trans q)) (by omega))
          have HRB := Lib.hid (show (risen bs).length ≤ 6000 by have h1 := risen_length bs; rw [HA.out.hb.strs.len_eq] at h1; omega)
          have HRU := Lib.hid (show (risen us).length ≤ 6000 by have h1 := risen_length us; rw [HA.out.hu.strs.len_eq] at h1; omega)
          obtain rfl := HE1.out
          clear hmd hkw9
          go_wp2_with fail
          refine Pj.wp_region_step (fun az0 L az w => ∃ V : Nat → Value, az = Pj.puts [(77, 0), (78, 1), (79, 2), (80, 3), (81, 4), (82, 5), (83, 6), (84, 7), (85, 8), (86, 9), (87, 10), (88, 11), (89, 12), (90, 13), (91, 14), (92, 15), (93, 16), (94, 17), (95, 18), (96, 19), (97, 20)] V az0 ∧ (¬ L 21 → Pj.J w9 [Pj.Is (.pointer (some ⟨W.heap.size, 0, none⟩)), Pj.Is (.slice (some ⟨bm, om, none⟩) lm cm), Pj.Is (.int .i64 i), Pj.Is (.pointer (some ⟨bm, om + i * 3, none⟩)), Pj.Is (.pointer (some ⟨bm, om + i * 3, none⟩)), Pj.Is (.int .i64 k), Pj.Is (.pointer (some ⟨W.heap.size, 0, none⟩)), Pj.Is (.slice (some ⟨bm, om, none⟩) lm cm), Pj.Is (.int .i64 i), Pj.Is (.pointer (some ⟨bm, om + i * 3, none⟩)), Pj.Is (.pointer (some ⟨bm, om + i * 3 + 1, none⟩)), Pj.Is (.slice ab mb cb), (fun w v => ∃ a c, v = .slice a (risen bs).length c ∧ StrsIn w a (risen bs).length (risen bs)), Pj.Is (.pointer (some ⟨W.heap.size, 0, none⟩)), Pj.Is (.slice (some ⟨bm, om, none⟩) lm cm), Pj.Is (.int .i64 i), Pj.Is (.pointer (some ⟨bm, om + i * 3, none⟩)), Pj.Is (.pointer (some ⟨bm, om + i * 3 + 2, none⟩)), Pj.Is (.slice au mu cu), (fun w v => ∃ a c, v = .slice a (risen us).length c ∧ StrsIn w a (risen us).length (risen us)), (fun w v => ∃ a c a2 c2, v = .agg #[.int .i64 k, .slice a (risen bs).length c, .slice a2 (risen us).length c2] ∧ StrsIn w a (risen bs).length (risen bs) ∧ StrsIn w a2 (risen us).length (risen us)), (fun _ _ => True)] L V w) ∧ (L 1 → L 0) ∧ (L 3 → L 1) ∧ (L 3 → L 2) ∧ (L 4 → L 3) ∧ (L 5 → L 4) ∧ (L 7 → L 6) ∧ (L 9 → L 7) ∧ (L 9 → L 8) ∧ (L 10 → L 9) ∧ (L 11 → L 10) ∧ (L 12 → L 11) ∧ (L 14 → L 13) ∧ (L 16 → L 14) ∧ (L 16 → L 15) ∧ (L 17 → L 16) ∧ (L 18 → L 17) ∧ (L 19 → L 18) ∧ (L 20 → L 5) ∧ (L 20 → L 12) ∧ (L 20 → L 19) ∧ (L 21 → L 20) ∧ (L 21 → ∃ a1 c1 a2 c2, BlockAt w pw #[.int .i64 k, .slice a1 (risen bs).length c1, .slice a2 (risen us).length c2] 28 ∧ StrsIn w a1 (risen bs).length (risen bs) ∧ StrsIn w a2 (risen us).length (risen us) ∧ Kept w8 w)) (by as_aux_lemma => kernel_rfl) (by as_aux_lemma => kernel_rfl) ?eh0 ?ehs ?ehe
          case eh0 =>
            intro L hL
            exact ⟨_, Pj.puts_self _ (fun j => ([77, 78, 79, 80, 81, 82, 83, 84, 85, 86, 87, 88, 89, 90, 91, 92, 93, 94, 95, 96, 97, 0] : List Nat).getD j 0) [0, 1, 2, 3, 4, 5, 6, 7, 8, 9, 10, 11, 12, 13, 14, 15, 16, 17, 18, 19, 20], fun _ => Pj.J.none (n := 22) (Nat.le_refl _) hL ((Kept.refl _).drew), fun h => absurd h (hL 1 (by decide)), fun h => absurd h (hL 3 (by decide)), fun h => absurd h (hL 3 (by decide)), fun h => absurd h (hL 4 (by decide)), fun h => absurd h (hL 5 (by decide)), fun h => absurd h (hL 7 (by decide)), fun h => absurd h (hL 9 (by decide)), fun h => absurd h (hL 9 (by decide)), fun h => absurd h (hL 10 (by decide)), fun h => absurd h (hL 11 (by decide)), fun h => absurd h (hL 12 (by decide)), fun h => absurd h (hL 14 (by decide)), fun h => absurd h (hL 16 (by decide)), fun h => absurd h (hL 16 (by decide)), fun h => absurd h (hL 17 (by decide)), fun h => absurd h (hL 18 (by decide)), fun h => absurd h (hL 19 (by decide)), fun h => absurd h (hL 20 (by decide)), fun h => absurd h (hL 20 (by decide)), fun h => absurd h (hL 20 (by decide)), fun h => absurd h (hL 21 (by decide)), fun h => absurd h (hL 21 (by decide))⟩
          case ehs =>
            rintro L L' az w iz opz Kq ⟨V, rfl, hj, hm1_0, hm3_1, hm3_2, hm4_3, hm5_4, hm7_6, hm9_7, hm9_8, hm10_9, hm11_10, hm12_11, hm14_13, hm16_14, hm16_15, hm17_16, hm18_17, hm19_18, hm20_5, hm20_12, hm20_19, hm21_20, hf⟩ ho hopen hdep hL hKq
            have hP : Pj.AllStay [Pj.Is (.pointer (some ⟨W.heap.size, 0, none⟩)), Pj.Is (.slice (some ⟨bm, om, none⟩) lm cm), Pj.Is (.int .i64 i), Pj.Is (.pointer (some ⟨bm, om + i * 3, none⟩)), Pj.Is (.pointer (some ⟨bm, om + i * 3, none⟩)), Pj.Is (.int .i64 k), Pj.Is (.pointer (some ⟨W.heap.size, 0, none⟩)), Pj.Is (.slice (some ⟨bm, om, none⟩) lm cm), Pj.Is (.int .i64 i), Pj.Is (.pointer (some ⟨bm, om + i * 3, none⟩)), Pj.Is (.pointer (some ⟨bm, om + i * 3 + 1, none⟩)), Pj.Is (.slice ab mb cb), (fun w v => ∃ a c, v = .slice a (risen bs).length c ∧ StrsIn w a (risen bs).length (risen bs)), Pj.Is (.pointer (some ⟨W.heap.size, 0, none⟩)), Pj.Is (.slice (some ⟨bm, om, none⟩) lm cm), Pj.Is (.int .i64 i), Pj.Is (.pointer (some ⟨bm, om + i * 3, none⟩)), Pj.Is (.pointer (some ⟨bm, om + i * 3 + 2, none⟩)), Pj.Is (.slice au mu cu), (fun w v => ∃ a c, v = .slice a (risen us).length c ∧ StrsIn w a (risen us).length (risen us)), (fun w v => ∃ a c a2 c2, v = .agg #[.int .i64 k, .slice a (risen bs).length c, .slice a2 (risen us).length c2] ∧ StrsIn w a (risen bs).length (risen bs) ∧ StrsIn w a2 (risen us).length (risen us)), (fun _ _ => True)] := ⟨Pj.Is.stays _, Pj.Is.stays _, Pj.Is.stays _, Pj.Is.stays _, Pj.Is.stays _, Pj.Is.stays _, Pj.Is.stays _, Pj.Is.stays _, Pj.Is.stays _, Pj.Is.stays _, Pj.Is.stays _, Pj.Is.stays _, fun _ _ _ ⟨a, c, e, h⟩ q => ⟨a, c, e, h.kept q⟩, Pj.Is.stays _, Pj.Is.stays _, Pj.Is.stays _, Pj.Is.stays _, Pj.Is.stays _, Pj.Is.stays _, fun _ _ _ ⟨a, c, e, h⟩ q => ⟨a, c, e, h.kept q⟩, fun _ _ _ ⟨a, c, a2, c2, e, h1, h2⟩ q => ⟨a, c, a2, c2, e, h1.kept q, h2.kept q⟩, (fun _ _ _ _ _ => trivial), trivial⟩
            have HP := Lib.hid hP
            clear hP hf
            match iz, ho with
            | 0, ho =>
              simp only [List.getElem?_toArray, List.getElem?_cons_zero, Option.some.injEq] at ho
              have hnj : ¬ L 21 := fun h => hopen (hm1_0 (hm3_1 (hm4_3 (hm5_4 (hm20_5 (hm21_20 h))))))
              have hJ := hj hnj
              have HJ := Lib.hid hJ
              clear hJ hj
              subst ho
              refine Pj.Step.free rfl ?_
              simp only [Pj.puts, List.foldl_cons, List.foldl_nil, Act.put, List.setIfInBounds_toArray, List.set_cons_zero, List.set_cons_succ]
              go_simp
              exact hKq _ _ ⟨Pj.vset V 0 (.pointer (some ⟨W.heap.size, 0, none⟩)), by simp only [Pj.puts, List.foldl_cons, List.foldl_nil, Act.put, List.setIfInBounds_toArray, List.set_cons_zero, List.set_cons_succ, Pj.vset, Nat.reduceEqDiff, if_true, if_false], fun _ => HJ.out.more HP.out hL (Kept.refl _) (rfl), fun h => (hL 0).2 (((hL 1).1 h).elim (fun e => absurd e (by decide)) (fun q => .inr (hm1_0 q))), fun h => (hL 1).2 (((hL 3).1 h).elim (fun e => absurd e (by decide)) (fun q => .inr (hm3_1 q))), fun h => (hL 2).2 (((hL 3).1 h).elim (fun e => absurd e (by decide)) (fun q => .inr (hm3_2 q))), fun h => (hL 3).2 (((hL 4).1 h).elim (fun e => absurd e (by decide)) (fun q => .inr (hm4_3 q))), fun h => (hL 4).2 (((hL 5).1 h).elim (fun e => absurd e (by decide)) (fun q => .inr (hm5_4 q))), fun h => (hL 6).2 (((hL 7).1 h).elim (fun e => absurd e (by decide)) (fun q => .inr (hm7_6 q))), fun h => (hL 7).2 (((hL 9).1 h).elim (fun e => absurd e (by decide)) (fun q => .inr (hm9_7 q))), fun h => (hL 8).2 (((hL 9).1 h).elim (fun e => absurd e (by decide)) (fun q => .inr (hm9_8 q))), fun h => (hL 9).2 (((hL 10).1 h).elim (fun e => absurd e (by decide)) (fun q => .inr (hm10_9 q))), fun h => (hL 10).2 (((hL 11).1 h).elim (fun e => absurd e (by decide)) (fun q => .inr (hm11_10 q))), fun h => (hL 11).2 (((hL 12).1 h).elim (fun e => absurd e (by decide)) (fun q => .inr (hm12_11 q))), fun h => (hL 13).2 (((hL 14).1 h).elim (fun e => absurd e (by decide)) (fun q => .inr (hm14_13 q))), fun h => (hL 14).2 (((hL 16).1 h).elim (fun e => absurd e (by decide)) (fun q => .inr (hm16_14 q))), fun h => (hL 15).2 (((hL 16).1 h).elim (fun e => absurd e (by decide)) (fun q => .inr (hm16_15 q))), fun h => (hL 16).2 (((hL 17).1 h).elim (fun e => absurd e (by decide)) (fun q => .inr (hm17_16 q))), fun h => (hL 17).2 (((hL 18).1 h).elim (fun e => absurd e (by decide)) (fun q => .inr (hm18_17 q))), fun h => (hL 18).2 (((hL 19).1 h).elim (fun e => absurd e (by decide)) (fun q => .inr (hm19_18 q))), fun h => (hL 5).2 (((hL 20).1 h).elim (fun e => absurd e (by decide)) (fun q => .inr (hm20_5 q))), fun h => (hL 12).2 (((hL 20).1 h).elim (fun e => absurd e (by decide)) (fun q => .inr (hm20_12 q))), fun h => (hL 19).2 (((hL 20).1 h).elim (fun e => absurd e (by decide)) (fun q => .inr (hm20_19 q))), fun h => (hL 20).2 (((hL 21).1 h).elim (fun e => absurd e (by decide)) (fun q => .inr (hm21_20 q))), fun h => absurd (hm1_0 (hm3_1 (hm4_3 (hm5_4 (hm20_5 (hm21_20 (((hL 21).1 h).resolve_left (by decide)))))))) hopen⟩
            | 1, ho =>
              simp only [List.getElem?_toArray, List.getElem?_cons_zero, List.getElem?_cons_succ, Option.some.injEq] at ho
              have hnj : ¬ L 21 := fun h => hopen (hm3_1 (hm4_3 (hm5_4 (hm20_5 (hm21_20 h)))))
              have hJ := hj hnj
              have l0 := hdep 0 (by rw [← ho]; kernel_rfl)
              have e0 : V 0 = .pointer (some ⟨W.heap.size, 0, none⟩) := hJ.h 0 l0
              obtain ⟨d0, d1⟩ := HBX9.out _ hJ.kp
              have HJ := Lib.hid hJ
              clear hJ hj
              subst ho
              refine Pj.Step.free rfl ?_
              simp only [Pj.puts, List.foldl_cons, List.foldl_nil, Act.put, List.setIfInBounds_toArray, List.set_cons_zero, List.set_cons_succ, e0]
              go_simp
              exact hKq _ _ ⟨Pj.vset V 1 (.slice (some ⟨bm, om, none⟩) lm cm), by simp only [Pj.puts, List.foldl_cons, List.foldl_nil, Act.put, List.setIfInBounds_toArray, List.set_cons_zero, List.set_cons_succ, Pj.vset, Nat.reduceEqDiff, if_true, if_false, e0], fun _ => HJ.out.more HP.out hL (Kept.refl _) (rfl), fun _ => (hL 0).2 (.inr l0), fun h => (hL 1).2 (((hL 3).1 h).elim (fun e => absurd e (by decide)) (fun q => .inr (hm3_1 q))), fun h => (hL 2).2 (((hL 3).1 h).elim (fun e => absurd e (by decide)) (fun q => .inr (hm3_2 q))), fun h => (hL 3).2 (((hL 4).1 h).elim (fun e => absurd e (by decide)) (fun q => .inr (hm4_3 q))), fun h => (hL 4).2 (((hL 5).1 h).elim (fun e => absurd e (by decide)) (fun q => .inr (hm5_4 q))), fun h => (hL 6).2 (((hL 7).1 h).elim (fun e => absurd e (by decide)) (fun q => .inr (hm7_6 q))), fun h => (hL 7).2 (((hL 9).1 h).elim (fun e => absurd e (by decide)) (fun q => .inr (hm9_7 q))), fun h => (hL 8).2 (((hL 9).1 h).elim (fun e => absurd e (by decide)) (fun q => .inr (hm9_8 q))), fun h => (hL 9).2 (((hL 10).1 h).elim (fun e => absurd e (by decide)) (fun q => .inr (hm10_9 q))), fun h => (hL 10).2 (((hL 11).1 h).elim (fun e => absurd e (by decide)) (fun q => .inr (hm11_10 q))), fun h => (hL 11).2 (((hL 12).1 h).elim (fun e => absurd e (by decide)) (fun q => .inr (hm12_11 q))), fun h => (hL 13).2 (((hL 14).1 h).elim (fun e => absurd e (by decide)) (fun q => .inr (hm14_13 q))), fun h => (hL 14).2 (((hL 16).1 h).elim (fun e => absurd e (by decide)) (fun q => .inr (hm16_14 q))), fun h => (hL 15).2 (((hL 16).1 h).elim (fun e => absurd e (by decide)) (fun q => .inr (hm16_15 q))), fun h => (hL 16).2 (((hL 17).1 h).elim (fun e => absurd e (by decide)) (fun q => .inr (hm17_16 q))), fun h => (hL 17).2 (((hL 18).1 h).elim (fun e => absurd e (by decide)) (fun q => .inr (hm18_17 q))), fun h => (hL 18).2 (((hL 19).1 h).elim (fun e => absurd e (by decide)) (fun q => .inr (hm19_18 q))), fun h => (hL 5).2 (((hL 20).1 h).elim (fun e => absurd e (by decide)) (fun q => .inr (hm20_5 q))), fun h => (hL 12).2 (((hL 20).1 h).elim (fun e => absurd e (by decide)) (fun q => .inr (hm20_12 q))), fun h => (hL 19).2 (((hL 20).1 h).elim (fun e => absurd e (by decide)) (fun q => .inr (hm20_19 q))), fun h => (hL 20).2 (((hL 21).1 h).elim (fun e => absurd e (by decide)) (fun q => .inr (hm21_20 q))), fun h => absurd (hm3_1 (hm4_3 (hm5_4 (hm20_5 (hm21_20 (((hL 21).1 h).resolve_left (by decide))))))) hopen⟩
            | 2, ho =>
              simp only [List.getElem?_toArray, List.getElem?_cons_zero, List.getElem?_cons_succ, Option.some.injEq] at ho
              have hnj : ¬ L 21 := fun h => hopen (hm3_2 (hm4_3 (hm5_4 (hm20_5 (hm21_20 h)))))
              have hJ := hj hnj
              have HJ := Lib.hid hJ
              clear hJ hj
              subst ho
              refine Pj.Step.free rfl ?_
              simp only [Pj.puts, List.foldl_cons, List.foldl_nil, Act.put, List.setIfInBounds_toArray, List.set_cons_zero, List.set_cons_succ]
              go_simp
              exact hKq _ _ ⟨Pj.vset V 2 (.int .i64 i), by simp only [Pj.puts, List.foldl_cons, List.foldl_nil, Act.put, List.setIfInBounds_toArray, List.set_cons_zero, List.set_cons_succ, Pj.vset, Nat.reduceEqDiff, if_true, if_false], fun _ => HJ.out.more HP.out hL (Kept.refl _) (rfl), fun h => (hL 0).2 (((hL 1).1 h).elim (fun e => absurd e (by decide)) (fun q => .inr (hm1_0 q))), fun h => (hL 1).2 (((hL 3).1 h).elim (fun e => absurd e (by decide)) (fun q => .inr (hm3_1 q))), fun h => (hL 2).2 (((hL 3).1 h).elim (fun e => absurd e (by decide)) (fun q => .inr (hm3_2 q))), fun h => (hL 3).2 (((hL 4).1 h).elim (fun e => absurd e (by decide)) (fun q => .inr (hm4_3 q))), fun h => (hL 4).2 (((hL 5).1 h).elim (fun e => absurd e (by decide)) (fun q => .inr (hm5_4 q))), fun h => (hL 6).2 (((hL 7).1 h).elim (fun e => absurd e (by decide)) (fun q => .inr (hm7_6 q))), fun h => (hL 7).2 (((hL 9).1 h).elim (fun e => absurd e (by decide)) (fun q => .inr (hm9_7 q))), fun h => (hL 8).2 (((hL 9).1 h).elim (fun e => absurd e (by decide)) (fun q => .inr (hm9_8 q))), fun h => (hL 9).2 (((hL 10).1 h).elim (fun e => absurd e (by decide)) (fun q => .inr (hm10_9 q))), fun h => (hL 10).2 (((hL 11).1 h).elim (fun e => absurd e (by decide)) (fun q => .inr (hm11_10 q))), fun h => (hL 11).2 (((hL 12).1 h).elim (fun e => absurd e (by decide)) (fun q => .inr (hm12_11 q))), fun h => (hL 13).2 (((hL 14).1 h).elim (fun e => absurd e (by decide)) (fun q => .inr (hm14_13 q))), fun h => (hL 14).2 (((hL 16).1 h).elim (fun e => absurd e (by decide)) (fun q => .inr (hm16_14 q))), fun h => (hL 15).2 (((hL 16).1 h).elim (fun e => absurd e (by decide)) (fun q => .inr (hm16_15 q))), fun h => (hL 16).2 (((hL 17).1 h).elim (fun e => absurd e (by decide)) (fun q => .inr (hm17_16 q))), fun h => (hL 17).2 (((hL 18).1 h).elim (fun e => absurd e (by decide)) (fun q => .inr (hm18_17 q))), fun h => (hL 18).2 (((hL 19).1 h).elim (fun e => absurd e (by decide)) (fun q => .inr (hm19_18 q))), fun h => (hL 5).2 (((hL 20).1 h).elim (fun e => absurd e (by decide)) (fun q => .inr (hm20_5 q))), fun h => (hL 12).2 (((hL 20).1 h).elim (fun e => absurd e (by decide)) (fun q => .inr (hm20_12 q))), fun h => (hL 19).2 (((hL 20).1 h).elim (fun e => absurd e (by decide)) (fun q => .inr (hm20_19 q))), fun h => (hL 20).2 (((hL 21).1 h).elim (fun e => absurd e (by decide)) (fun q => .inr (hm21_20 q))), fun h => absurd (hm3_2 (hm4_3 (hm5_4 (hm20_5 (hm21_20 (((hL 21).1 h).resolve_left (by decide))))))) hopen⟩
            | 3, ho =>
              simp only [List.getElem?_toArray, List.getElem?_cons_zero, List.getElem?_cons_succ, Option.some.injEq] at ho
              have hnj : ¬ L 21 := fun h => hopen (hm4_3 (hm5_4 (hm20_5 (hm21_20 h))))
              have hJ := hj hnj
              have l1 := hdep 1 (by rw [← ho]; kernel_rfl)
              have e1 : V 1 = .slice (some ⟨bm, om, none⟩) lm cm := hJ.h 1 l1
              have l2 := hdep 2 (by rw [← ho]; kernel_rfl)
              have e2 : V 2 = .int .i64 i := hJ.h 2 l2
              have HJ := Lib.hid hJ
              clear hJ hj
              subst ho
              refine Pj.Step.free rfl ?_
              simp only [Pj.puts, List.foldl_cons, List.foldl_nil, Act.put, List.setIfInBounds_toArray, List.set_cons_zero, List.set_cons_succ, e1, e2]
              go_simp
              exact hKq _ _ ⟨Pj.vset V 3 (.pointer (some ⟨bm, om + i * 3, none⟩)), by simp only [Pj.puts, List.foldl_cons, List.foldl_nil, Act.put, List.setIfInBounds_toArray, List.set_cons_zero, List.set_cons_succ, Pj.vset, Nat.reduceEqDiff, if_true, if_false, e1, e2], fun _ => HJ.out.more HP.out hL (Kept.refl _) (rfl), fun h => (hL 0).2 (((hL 1).1 h).elim (fun e => absurd e (by decide)) (fun q => .inr (hm1_0 q))), fun _ => (hL 1).2 (.inr l1), fun _ => (hL 2).2 (.inr l2), fun h => (hL 3).2 (((hL 4).1 h).elim (fun e => absurd e (by decide)) (fun q => .inr (hm4_3 q))), fun h => (hL 4).2 (((hL 5).1 h).elim (fun e => absurd e (by decide)) (fun q => .inr (hm5_4 q))), fun h => (hL 6).2 (((hL 7).1 h).elim (fun e => absurd e (by decide)) (fun q => .inr (hm7_6 q))), fun h => (hL 7).2 (((hL 9).1 h).elim (fun e => absurd e (by decide)) (fun q => .inr (hm9_7 q))), fun h => (hL 8).2 (((hL 9).1 h).elim (fun e => absurd e (by decide)) (fun q => .inr (hm9_8 q))), fun h => (hL 9).2 (((hL 10).1 h).elim (fun e => absurd e (by decide)) (fun q => .inr (hm10_9 q))), fun h => (hL 10).2 (((hL 11).1 h).elim (fun e => absurd e (by decide)) (fun q => .inr (hm11_10 q))), fun h => (hL 11).2 (((hL 12).1 h).elim (fun e => absurd e (by decide)) (fun q => .inr (hm12_11 q))), fun h => (hL 13).2 (((hL 14).1 h).elim (fun e => absurd e (by decide)) (fun q => .inr (hm14_13 q))), fun h => (hL 14).2 (((hL 16).1 h).elim (fun e => absurd e (by decide)) (fun q => .inr (hm16_14 q))), fun h => (hL 15).2 (((hL 16).1 h).elim (fun e => absurd e (by decide)) (fun q => .inr (hm16_15 q))), fun h => (hL 16).2 (((hL 17).1 h).elim (fun e => absurd e (by decide)) (fun q => .inr (hm17_16 q))), fun h => (hL 17).2 (((hL 18).1 h).elim (fun e => absurd e (by decide)) (fun q => .inr (hm18_17 q))), fun h => (hL 18).2 (((hL 19).1 h).elim (fun e => absurd e (by decide)) (fun q => .inr (hm19_18 q))), fun h => (hL 5).2 (((hL 20).1 h).elim (fun e => absurd e (by decide)) (fun q => .inr (hm20_5 q))), fun h => (hL 12).2 (((hL 20).1 h).elim (fun e => absurd e (by decide)) (fun q => .inr (hm20_12 q))), fun h => (hL 19).2 (((hL 20).1 h).elim (fun e => absurd e (by decide)) (fun q => .inr (hm20_19 q))), fun h => (hL 20).2 (((hL 21).1 h).elim (fun e => absurd e (by decide)) (fun q => .inr (hm21_20 q))), fun h => absurd (hm4_3 (hm5_4 (hm20_5 (hm21_20 (((hL 21).1 h).resolve_left (by decide)))))) hopen⟩
            | 4, ho =>
              simp only [List.getElem?_toArray, List.getElem?_cons_zero, List.getElem?_cons_succ, Option.some.injEq] at ho
              have hnj : ¬ L 21 := fun h => hopen (hm5_4 (hm20_5 (hm21_20 h)))
              have hJ := hj hnj
              have l3 := hdep 3 (by rw [← ho]; kernel_rfl)
              have e3 : V 3 = .pointer (some ⟨bm, om + i * 3, none⟩) := hJ.h 3 l3
              have HJ := Lib.hid hJ
              clear hJ hj
              subst ho
              refine Pj.Step.free rfl ?_
              simp only [Pj.puts, List.foldl_cons, List.foldl_nil, Act.put, List.setIfInBounds_toArray, List.set_cons_zero, List.set_cons_succ, e3]
              go_simp
              exact hKq _ _ ⟨Pj.vset V 4 (.pointer (some ⟨bm, om + i * 3, none⟩)), by simp only [Pj.puts, List.foldl_cons, List.foldl_nil, Act.put, List.setIfInBounds_toArray, List.set_cons_zero, List.set_cons_succ, Pj.vset, Nat.reduceEqDiff, if_true, if_false, e3], fun _ => HJ.out.more HP.out hL (Kept.refl _) (rfl), fun h => (hL 0).2 (((hL 1).1 h).elim (fun e => absurd e (by decide)) (fun q => .inr (hm1_0 q))), fun h => (hL 1).2 (((hL 3).1 h).elim (fun e => absurd e (by decide)) (fun q => .inr (hm3_1 q))), fun h => (hL 2).2 (((hL 3).1 h).elim (fun e => absurd e (by decide)) (fun q => .inr (hm3_2 q))), fun _ => (hL 3).2 (.inr l3), fun h => (hL 4).2 (((hL 5).1 h).elim (fun e => absurd e (by decide)) (fun q => .inr (hm5_4 q))), fun h => (hL 6).2 (((hL 7).1 h).elim (fun e => absurd e (by decide)) (fun q => .inr (hm7_6 q))), fun h => (hL 7).2 (((hL 9).1 h).elim (fun e => absurd e (by decide)) (fun q => .inr (hm9_7 q))), fun h => (hL 8).2 (((hL 9).1 h).elim (fun e => absurd e (by decide)) (fun q => .inr (hm9_8 q))), fun h => (hL 9).2 (((hL 10).1 h).elim (fun e => absurd e (by decide)) (fun q => .inr (hm10_9 q))), fun h => (hL 10).2 (((hL 11).1 h).elim (fun e => absurd e (by decide)) (fun q => .inr (hm11_10 q))), fun h => (hL 11).2 (((hL 12).1 h).elim (fun e => absurd e (by decide)) (fun q => .inr (hm12_11 q))), fun h => (hL 13).2 (((hL 14).1 h).elim (fun e => absurd e (by decide)) (fun q => .inr (hm14_13 q))), fun h => (hL 14).2 (((hL 16).1 h).elim (fun e => absurd e (by decide)) (fun q => .inr (hm16_14 q))), fun h => (hL 15).2 (((hL 16).1 h).elim (fun e => absurd e (by decide)) (fun q => .inr (hm16_15 q))), fun h => (hL 16).2 (((hL 17).1 h).elim (fun e => absurd e (by decide)) (fun q => .inr (hm17_16 q))), fun h => (hL 17).2 (((hL 18).1 h).elim (fun e => absurd e (by decide)) (fun q => .inr (hm18_17 q))), fun h => (hL 18).2 (((hL 19).1 h).elim (fun e => absurd e (by decide)) (fun q => .inr (hm19_18 q))), fun h => (hL 5).2 (((hL 20).1 h).elim (fun e => absurd e (by decide)) (fun q => .inr (hm20_5 q))), fun h => (hL 12).2 (((hL 20).1 h).elim (fun e => absurd e (by decide)) (fun q => .inr (hm20_12 q))), fun h => (hL 19).2 (((hL 20).1 h).elim (fun e => absurd e (by decide)) (fun q => .inr (hm20_19 q))), fun h => (hL 20).2 (((hL 21).1 h).elim (fun e => absurd e (by decide)) (fun q => .inr (hm21_20 q))), fun h => absurd (hm5_4 (hm20_5 (hm21_20 (((hL 21).1 h).resolve_left (by decide))))) hopen⟩
            | 5, ho =>
              simp only [List.getElem?_toArray, List.getElem?_cons_zero, List.getElem?_cons_succ, Option.some.injEq] at ho
              have hnj : ¬ L 21 := fun h => hopen (hm20_5 (hm21_20 h))
              have hJ := hj hnj
              have l4 := hdep 4 (by rw [← ho]; kernel_rfl)
              have e4 : V 4 = .pointer (some ⟨bm, om + i * 3, none⟩) := hJ.h 4 l4
              obtain ⟨q0, q1, q2⟩ := HA9.out _ hJ.kp
              have HJ := Lib.hid hJ
              clear hJ hj
              subst ho
              refine Pj.Step.free rfl ?_
              simp only [Pj.puts, List.foldl_cons, List.foldl_nil, Act.put, List.setIfInBounds_toArray, List.set_cons_zero, List.set_cons_succ, e4]
              go_simp
              exact hKq _ _ ⟨Pj.vset V 5 (.int .i64 k), by simp only [Pj.puts, List.foldl_cons, List.foldl_nil, Act.put, List.setIfInBounds_toArray, List.set_cons_zero, List.set_cons_succ, Pj.vset, Nat.reduceEqDiff, if_true, if_false, e4], fun _ => HJ.out.more HP.out hL (Kept.refl _) (rfl), fun h => (hL 0).2 (((hL 1).1 h).elim (fun e => absurd e (by decide)) (fun q => .inr (hm1_0 q))), fun h => (hL 1).2 (((hL 3).1 h).elim (fun e => absurd e (by decide)) (fun q => .inr (hm3_1 q))), fun h => (hL 2).2 (((hL 3).1 h).elim (fun e => absurd e (by decide)) (fun q => .inr (hm3_2 q))), fun h => (hL 3).2 (((hL 4).1 h).elim (fun e => absurd e (by decide)) (fun q => .inr (hm4_3 q))), fun _ => (hL 4).2 (.inr l4), fun h => (hL 6).2 (((hL 7).1 h).elim (fun e => absurd e (by decide)) (fun q => .inr (hm7_6 q))), fun h => (hL 7).2 (((hL 9).1 h).elim (fun e => absurd e (by decide)) (fun q => .inr (hm9_7 q))), fun h => (hL 8).2 (((hL 9).1 h).elim (fun e => absurd e (by decide)) (fun q => .inr (hm9_8 q))), fun h => (hL 9).2 (((hL 10).1 h).elim (fun e => absurd e (by decide)) (fun q => .inr (hm10_9 q))), fun h => (hL 10).2 (((hL 11).1 h).elim (fun e => absurd e (by decide)) (fun q => .inr (hm11_10 q))), fun h => (hL 11).2 (((hL 12).1 h).elim (fun e => absurd e (by decide)) (fun q => .inr (hm12_11 q))), fun h => (hL 13).2 (((hL 14).1 h).elim (fun e => absurd e (by decide)) (fun q => .inr (hm14_13 q))), fun h => (hL 14).2 (((hL 16).1 h).elim (fun e => absurd e (by decide)) (fun q => .inr (hm16_14 q))), fun h => (hL 15).2 (((hL 16).1 h).elim (fun e => absurd e (by decide)) (fun q => .inr (hm16_15 q))), fun h => (hL 16).2 (((hL 17).1 h).elim (fun e => absurd e (by decide)) (fun q => .inr (hm17_16 q))), fun h => (hL 17).2 (((hL 18).1 h).elim (fun e => absurd e (by decide)) (fun q => .inr (hm18_17 q))), fun h => (hL 18).2 (((hL 19).1 h).elim (fun e => absurd e (by decide)) (fun q => .inr (hm19_18 q))), fun h => (hL 5).2 (((hL 20).1 h).elim (fun e => absurd e (by decide)) (fun q => .inr (hm20_5 q))), fun h => (hL 12).2 (((hL 20).1 h).elim (fun e => absurd e (by decide)) (fun q => .inr (hm20_12 q))), fun h => (hL 19).2 (((hL 20).1 h).elim (fun e => absurd e (by decide)) (fun q => .inr (hm20_19 q))), fun h => (hL 20).2 (((hL 21).1 h).elim (fun e => absurd e (by decide)) (fun q => .inr (hm21_20 q))), fun h => absurd (hm20_5 (hm21_20 (((hL 21).1 h).resolve_left (by decide)))) hopen⟩
            | 6, ho =>
              simp only [List.getElem?_toArray, List.getElem?_cons_zero, List.getElem?_cons_succ, Option.some.injEq] at ho
              have hnj : ¬ L 21 := fun h => hopen (hm7_6 (hm9_7 (hm10_9 (hm11_10 (hm12_11 (hm20_12 (hm21_20 h)))))))
              have hJ := hj hnj
              have HJ := Lib.hid hJ
              clear hJ hj
              subst ho
              refine Pj.Step.free rfl ?_
              simp only [Pj.puts, List.foldl_cons, List.foldl_nil, Act.put, List.setIfInBounds_toArray, List.set_cons_zero, List.set_cons_succ]
              go_simp
              exact hKq _ _ ⟨Pj.vset V 6 (.pointer (some ⟨W.heap.size, 0, none⟩)), by simp only [Pj.puts, List.foldl_cons, List.foldl_nil, Act.put, List.setIfInBounds_toArray, List.set_cons_zero, List.set_cons_succ, Pj.vset, Nat.reduceEqDiff, if_true, if_false], fun _ => HJ.out.more HP.out hL (Kept.refl _) (rfl), fun h => (hL 0).2 (((hL 1).1 h).elim (fun e => absurd e (by decide)) (fun q => .inr (hm1_0 q))), fun h => (hL 1).2 (((hL 3).1 h).elim (fun e => absurd e (by decide)) (fun q => .inr (hm3_1 q))), fun h => (hL 2).2 (((hL 3).1 h).elim (fun e => absurd e (by decide)) (fun q => .inr (hm3_2 q))), fun h => (hL 3).2 (((hL 4).1 h).elim (fun e => absurd e (by decide)) (fun q => .inr (hm4_3 q))), fun h => (hL 4).2 (((hL 5).1 h).elim (fun e => absurd e (by decide)) (fun q => .inr (hm5_4 q))), fun h => (hL 6).2 (((hL 7).1 h).elim (fun e => absurd e (by decide)) (fun q => .inr (hm7_6 q))), fun h => (hL 7).2 (((hL 9).1 h).elim (fun e => absurd e (by decide)) (fun q => .inr (hm9_7 q))), fun h => (hL 8).2 (((hL 9).1 h).elim (fun e => absurd e (by decide)) (fun q => .inr (hm9_8 q))), fun h => (hL 9).2 (((hL 10).1 h).elim (fun e => absurd e (by decide)) (fun q => .inr (hm10_9 q))), fun h => (hL 10).2 (((hL 11).1 h).elim (fun e => absurd e (by decide)) (fun q => .inr (hm11_10 q))), fun h => (hL 11).2 (((hL 12).1 h).elim (fun e => absurd e (by decide)) (fun q => .inr (hm12_11 q))), fun h => (hL 13).2 (((hL 14).1 h).elim (fun e => absurd e (by decide)) (fun q => .inr (hm14_13 q))), fun h => (hL 14).2 (((hL 16).1 h).elim (fun e => absurd e (by decide)) (fun q => .inr (hm16_14 q))), fun h => (hL 15).2 (((hL 16).1 h).elim (fun e => absurd e (by decide)) (fun q => .inr (hm16_15 q))), fun h => (hL 16).2 (((hL 17).1 h).elim (fun e => absurd e (by decide)) (fun q => .inr (hm17_16 q))), fun h => (hL 17).2 (((hL 18).1 h).elim (fun e => absurd e (by decide)) (fun q => .inr (hm18_17 q))), fun h => (hL 18).2 (((hL 19).1 h).elim (fun e => absurd e (by decide)) (fun q => .inr (hm19_18 q))), fun h => (hL 5).2 (((hL 20).1 h).elim (fun e => absurd e (by decide)) (fun q => .inr (hm20_5 q))), fun h => (hL 12).2 (((hL 20).1 h).elim (fun e => absurd e (by decide)) (fun q => .inr (hm20_12 q))), fun h => (hL 19).2 (((hL 20).1 h).elim (fun e => absurd e (by decide)) (fun q => .inr (hm20_19 q))), fun h => (hL 20).2 (((hL 21).1 h).elim (fun e => absurd e (by decide)) (fun q => .inr (hm21_20 q))), fun h => absurd (hm7_6 (hm9_7 (hm10_9 (hm11_10 (hm12_11 (hm20_12 (hm21_20 (((hL 21).1 h).resolve_left (by decide))))))))) hopen⟩
            | 7, ho =>
              simp only [List.getElem?_toArray, List.getElem?_cons_zero, List.getElem?_cons_succ, Option.some.injEq] at ho
              have hnj : ¬ L 21 := fun h => hopen (hm9_7 (hm10_9 (hm11_10 (hm12_11 (hm20_12 (hm21_20 h))))))
              have hJ := hj hnj
              have l6 := hdep 6 (by rw [← ho]; kernel_rfl)
              have e6 : V 6 = .pointer (some ⟨W.heap.size, 0, none⟩) := hJ.h 6 l6
              obtain ⟨d0, d1⟩ := HBX9.out _ hJ.kp
              have HJ := Lib.hid hJ
              clear hJ hj
              subst ho
              refine Pj.Step.free rfl ?_
              simp only [Pj.puts, List.foldl_cons, List.foldl_nil, Act.put, List.setIfInBounds_toArray, List.set_cons_zero, List.set_cons_succ, e6]
              go_simp
              exact hKq _ _ ⟨Pj.vset V 7 (.slice (some ⟨bm, om, none⟩) lm cm), by simp only [Pj.puts, List.foldl_cons, List.foldl_nil, Act.put, List.setIfInBounds_toArray, List.set_cons_zero, List.set_cons_succ, Pj.vset, Nat.reduceEqDiff, if_true, if_false, e6], fun _ => HJ.out.more HP.out hL (Kept.refl _) (rfl), fun h => (hL 0).2 (((hL 1).1 h).elim (fun e => absurd e (by decide)) (fun q => .inr (hm1_0 q))), fun h => (hL 1).2 (((hL 3).1 h).elim (fun e => absurd e (by decide)) (fun q => .inr (hm3_1 q))), fun h => (hL 2).2 (((hL 3).1 h).elim (fun e => absurd e (by decide)) (fun q => .inr (hm3_2 q))), fun h => (hL 3).2 (((hL 4).1 h).elim (fun e => absurd e (by decide)) (fun q => .inr (hm4_3 q))), fun h => (hL 4).2 (((hL 5).1 h).elim (fun e => absurd e (by decide)) (fun q => .inr (hm5_4 q))), fun _ => (hL 6).2 (.inr l6), fun h => (hL 7).2 (((hL 9).1 h).elim (fun e => absurd e (by decide)) (fun q => .inr (hm9_7 q))), fun h => (hL 8).2 (((hL 9).1 h).elim (fun e => absurd e (by decide)) (fun q => .inr (hm9_8 q))), fun h => (hL 9).2 (((hL 10).1 h).elim (fun e => absurd e (by decide)) (fun q => .inr (hm10_9 q))), fun h => (hL 10).2 (((hL 11).1 h).elim (fun e => absurd e (by decide)) (fun q => .inr (hm11_10 q))), fun h => (hL 11).2 (((hL 12).1 h).elim (fun e => absurd e (by decide)) (fun q => .inr (hm12_11 q))), fun h => (hL 13).2 (((hL 14).1 h).elim (fun e => absurd e (by decide)) (fun q => .inr (hm14_13 q))), fun h => (hL 14).2 (((hL 16).1 h).elim (fun e => absurd e (by decide)) (fun q => .inr (hm16_14 q))), fun h => (hL 15).2 (((hL 16).1 h).elim (fun e => absurd e (by decide)) (fun q => .inr (hm16_15 q))), fun h => (hL 16).2 (((hL 17).1 h).elim (fun e => absurd e (by decide)) (fun q => .inr (hm17_16 q))), fun h => (hL 17).2 (((hL 18).1 h).elim (fun e => absurd e (by decide)) (fun q => .inr (hm18_17 q))), fun h => (hL 18).2 (((hL 19).1 h).elim (fun e => absurd e (by decide)) (fun q => .inr (hm19_18 q))), fun h => (hL 5).2 (((hL 20).1 h).elim (fun e => absurd e (by decide)) (fun q => .inr (hm20_5 q))), fun h => (hL 12).2 (((hL 20).1 h).elim (fun e => absurd e (by decide)) (fun q => .inr (hm20_12 q))), fun h => (hL 19).2 (((hL 20).1 h).elim (fun e => absurd e (by decide)) (fun q => .inr (hm20_19 q))), fun h => (hL 20).2 (((hL 21).1 h).elim (fun e => absurd e (by decide)) (fun q => .inr (hm21_20 q))), fun h => absurd (hm9_7 (hm10_9 (hm11_10 (hm12_11 (hm20_12 (hm21_20 (((hL 21).1 h).resolve_left (by decide)))))))) hopen⟩
            | 8, ho =>
              simp only [List.getElem?_toArray, List.getElem?_cons_zero, List.getElem?_cons_succ, Option.some.injEq] at ho
              have hnj : ¬ L 21 := fun h => hopen (hm9_8 (hm10_9 (hm11_10 (hm12_11 (hm20_12 (hm21_20 h))))))
              have hJ := hj hnj
              have HJ := Lib.hid hJ
              clear hJ hj
              subst ho
              refine Pj.Step.free rfl ?_
              simp only [Pj.puts, List.foldl_cons, List.foldl_nil, Act.put, List.setIfInBounds_toArray, List.set_cons_zero, List.set_cons_succ]
              go_simp
              exact hKq _ _ ⟨Pj.vset V 8 (.int .i64 i), by simp only [Pj.puts, List.foldl_cons, List.foldl_nil, Act.put, List.setIfInBounds_toArray, List.set_cons_zero, List.set_cons_succ, Pj.vset, Nat.reduceEqDiff, if_true, if_false], fun _ => HJ.out.more HP.out hL (Kept.refl _) (rfl), fun h => (hL 0).2 (((hL 1).1 h).elim (fun e => absurd e (by decide)) (fun q => .inr (hm1_0 q))), fun h => (hL 1).2 (((hL 3).1 h).elim (fun e => absurd e (by decide)) (fun q => .inr (hm3_1 q))), fun h => (hL 2).2 (((hL 3).1 h).elim (fun e => absurd e (by decide)) (fun q => .inr (hm3_2 q))), fun h => (hL 3).2 (((hL 4).1 h).elim (fun e => absurd e (by decide)) (fun q => .inr (hm4_3 q))), fun h => (hL 4).2 (((hL 5).1 h).elim (fun e => absurd e (by decide)) (fun q => .inr (hm5_4 q))), fun h => (hL 6).2 (((hL 7).1 h).elim (fun e => absurd e (by decide)) (fun q => .inr (hm7_6 q))), fun h => (hL 7).2 (((hL 9).1 h).elim (fun e => absurd e (by decide)) (fun q => .inr (hm9_7 q))), fun h => (hL 8).2 (((hL 9).1 h).elim (fun e => absurd e (by decide)) (fun q => .inr (hm9_8 q))), fun h => (hL 9).2 (((hL 10).1 h).elim (fun e => absurd e (by decide)) (fun q => .inr (hm10_9 q))), fun h => (hL 10).2 (((hL 11).1 h).elim (fun e => absurd e (by decide)) (fun q => .inr (hm11_10 q))), fun h => (hL 11).2 (((hL 12).1 h).elim (fun e => absurd e (by decide)) (fun q => .inr (hm12_11 q))), fun h => (hL 13).2 (((hL 14).1 h).elim (fun e => absurd e (by decide)) (fun q => .inr (hm14_13 q))), fun h => (hL 14).2 (((hL 16).1 h).elim (fun e => absurd e (by decide)) (fun q => .inr (hm16_14 q))), fun h => (hL 15).2 (((hL 16).1 h).elim (fun e => absurd e (by decide)) (fun q => .inr (hm16_15 q))), fun h => (hL 16).2 (((hL 17).1 h).elim (fun e => absurd e (by decide)) (fun q => .inr (hm17_16 q))), fun h => (hL 17).2 (((hL 18).1 h).elim (fun e => absurd e (by decide)) (fun q => .inr (hm18_17 q))), fun h => (hL 18).2 (((hL 19).1 h).elim (fun e => absurd e (by decide)) (fun q => .inr (hm19_18 q))), fun h => (hL 5).2 (((hL 20).1 h).elim (fun e => absurd e (by decide)) (fun q => .inr (hm20_5 q))), fun h => (hL 12).2 (((hL 20).1 h).elim (fun e => absurd e (by decide)) (fun q => .inr (hm20_12 q))), fun h => (hL 19).2 (((hL 20).1 h).elim (fun e => absurd e (by decide)) (fun q => .inr (hm20_19 q))), fun h => (hL 20).2 (((hL 21).1 h).elim (fun e => absurd e (by decide)) (fun q => .inr (hm21_20 q))), fun h => absurd (hm9_8 (hm10_9 (hm11_10 (hm12_11 (hm20_12 (hm21_20 (((hL 21).1 h).resolve_left (by decide)))))))) hopen⟩
            | 9, ho =>
              simp only [List.getElem?_toArray, List.getElem?_cons_zero, List.getElem?_cons_succ, Option.some.injEq] at ho
              have hnj : ¬ L 21 := fun h => hopen (hm10_9 (hm11_10 (hm12_11 (hm20_12 (hm21_20 h)))))
              have hJ := hj hnj
              have l7 := hdep 7 (by rw [← ho]; kernel_rfl)
              have e7 : V 7 = .slice (some ⟨bm, om, none⟩) lm cm := hJ.h 7 l7
              have l8 := hdep 8 (by rw [← ho]; kernel_rfl)
              have e8 : V 8 = .int .i64 i := hJ.h 8 l8
              have HJ := Lib.hid hJ
              clear hJ hj
              subst ho
              refine Pj.Step.free rfl ?_
              simp only [Pj.puts, List.foldl_cons, List.foldl_nil, Act.put, List.setIfInBounds_toArray, List.set_cons_zero, List.set_cons_succ, e7, e8]
              go_simp
              exact hKq _ _ ⟨Pj.vset V 9 (.pointer (some ⟨bm, om + i * 3, none⟩)), by simp only [Pj.puts, List.foldl_cons, List.foldl_nil, Act.put, List.setIfInBounds_toArray, List.set_cons_zero, List.set_cons_succ, Pj.vset, Nat.reduceEqDiff, if_true, if_false, e7, e8], fun _ => HJ.out.more HP.out hL (Kept.refl _) (rfl), fun h => (hL 0).2 (((hL 1).1 h).elim (fun e => absurd e (by decide)) (fun q => .inr (hm1_0 q))), fun h => (hL 1).2 (((hL 3).1 h).elim (fun e => absurd e (by decide)) (fun q => .inr (hm3_1 q))), fun h => (hL 2).2 (((hL 3).1 h).elim (fun e => absurd e (by decide)) (fun q => .inr (hm3_2 q))), fun h => (hL 3).2 (((hL 4).1 h).elim (fun e => absurd e (by decide)) (fun q => .inr (hm4_3 q))), fun h => (hL 4).2 (((hL 5).1 h).elim (fun e => absurd e (by decide)) (fun q => .inr (hm5_4 q))), fun h => (hL 6).2 (((hL 7).1 h).elim (fun e => absurd e (by decide)) (fun q => .inr (hm7_6 q))), fun _ => (hL 7).2 (.inr l7), fun _ => (hL 8).2 (.inr l8), fun h => (hL 9).2 (((hL 10).1 h).elim (fun e => absurd e (by decide)) (fun q => .inr (hm10_9 q))), fun h => (hL 10).2 (((hL 11).1 h).elim (fun e => absurd e (by decide)) (fun q => .inr (hm11_10 q))), fun h => (hL 11).2 (((hL 12).1 h).elim (fun e => absurd e (by decide)) (fun q => .inr (hm12_11 q))), fun h => (hL 13).2 (((hL 14).1 h).elim (fun e => absurd e (by decide)) (fun q => .inr (hm14_13 q))), fun h => (hL 14).2 (((hL 16).1 h).elim (fun e => absurd e (by decide)) (fun q => .inr (hm16_14 q))), fun h => (hL 15).2 (((hL 16).1 h).elim (fun e => absurd e (by decide)) (fun q => .inr (hm16_15 q))), fun h => (hL 16).2 (((hL 17).1 h).elim (fun e => absurd e (by decide)) (fun q => .inr (hm17_16 q))), fun h => (hL 17).2 (((hL 18).1 h).elim (fun e => absurd e (by decide)) (fun q => .inr (hm18_17 q))), fun h => (hL 18).2 (((hL 19).1 h).elim (fun e => absurd e (by decide)) (fun q => .inr (hm19_18 q))), fun h => (hL 5).2 (((hL 20).1 h).elim (fun e => absurd e (by decide)) (fun q => .inr (hm20_5 q))), fun h => (hL 12).2 (((hL 20).1 h).elim (fun e => absurd e (by decide)) (fun q => .inr (hm20_12 q))), fun h => (hL 19).2 (((hL 20).1 h).elim (fun e => absurd e (by decide)) (fun q => .inr (hm20_19 q))), fun h => (hL 20).2 (((hL 21).1 h).elim (fun e => absurd e (by decide)) (fun q => .inr (hm21_20 q))), fun h => absurd (hm10_9 (hm11_10 (hm12_11 (hm20_12 (hm21_20 (((hL 21).1 h).resolve_left (by decide))))))) hopen⟩
            | 10, ho =>
              simp only [List.getElem?_toArray, List.getElem?_cons_zero, List.getElem?_cons_succ, Option.some.injEq] at ho
              have hnj : ¬ L 21 := fun h => hopen (hm11_10 (hm12_11 (hm20_12 (hm21_20 h))))
              have hJ := hj hnj
              have l9 := hdep 9 (by rw [← ho]; kernel_rfl)
              have e9 : V 9 = .pointer (some ⟨bm, om + i * 3, none⟩) := hJ.h 9 l9
              have HJ := Lib.hid hJ
              clear hJ hj
              subst ho
              refine Pj.Step.free rfl ?_
              simp only [Pj.puts, List.foldl_cons, List.foldl_nil, Act.put, List.setIfInBounds_toArray, List.set_cons_zero, List.set_cons_succ, e9]
              go_simp
              exact hKq _ _ ⟨Pj.vset V 10 (.pointer (some ⟨bm, om + i * 3 + 1, none⟩)), by simp only [Pj.puts, List.foldl_cons, List.foldl_nil, Act.put, List.setIfInBounds_toArray, List.set_cons_zero, List.set_cons_succ, Pj.vset, Nat.reduceEqDiff, if_true, if_false, e9], fun _ => HJ.out.more HP.out hL (Kept.refl _) (rfl), fun h => (hL 0).2 (((hL 1).1 h).elim (fun e => absurd e (by decide)) (fun q => .inr (hm1_0 q))), fun h => (hL 1).2 (((hL 3).1 h).elim (fun e => absurd e (by decide)) (fun q => .inr (hm3_1 q))), fun h => (hL 2).2 (((hL 3).1 h).elim (fun e => absurd e (by decide)) (fun q => .inr (hm3_2 q))), fun h => (hL 3).2 (((hL 4).1 h).elim (fun e => absurd e (by decide)) (fun q => .inr (hm4_3 q))), fun h => (hL 4).2 (((hL 5).1 h).elim (fun e => absurd e (by decide)) (fun q => .inr (hm5_4 q))), fun h => (hL 6).2 (((hL 7).1 h).elim (fun e => absurd e (by decide)) (fun q => .inr (hm7_6 q))), fun h => (hL 7).2 (((hL 9).1 h).elim (fun e => absurd e (by decide)) (fun q => .inr (hm9_7 q))), fun h => (hL 8).2 (((hL 9).1 h).elim (fun e => absurd e (by decide)) (fun q => .inr (hm9_8 q))), fun _ => (hL 9).2 (.inr l9), fun h => (hL 10).2 (((hL 11).1 h).elim (fun e => absurd e (by decide)) (fun q => .inr (hm11_10 q))), fun h => (hL 11).2 (((hL 12).1 h).elim (fun e => absurd e (by decide)) (fun q => .inr (hm12_11 q))), fun h => (hL 13).2 (((hL 14).1 h).elim (fun e => absurd e (by decide)) (fun q => .inr (hm14_13 q))), fun h => (hL 14).2 (((hL 16).1 h).elim (fun e => absurd e (by decide)) (fun q => .inr (hm16_14 q))), fun h => (hL 15).2 (((hL 16).1 h).elim (fun e => absurd e (by decide)) (fun q => .inr (hm16_15 q))), fun h => (hL 16).2 (((hL 17).1 h).elim (fun e => absurd e (by decide)) (fun q => .inr (hm17_16 q))), fun h => (hL 17).2 (((hL 18).1 h).elim (fun e => absurd e (by decide)) (fun q => .inr (hm18_17 q))), fun h => (hL 18).2 (((hL 19).1 h).elim (fun e => absurd e (by decide)) (fun q => .inr (hm19_18 q))), fun h => (hL 5).2 (((hL 20).1 h).elim (fun e => absurd e (by decide)) (fun q => .inr (hm20_5 q))), fun h => (hL 12).2 (((hL 20).1 h).elim (fun e => absurd e (by decide)) (fun q => .inr (hm20_12 q))), fun h => (hL 19).2 (((hL 20).1 h).elim (fun e => absurd e (by decide)) (fun q => .inr (hm20_19 q))), fun h => (hL 20).2 (((hL 21).1 h).elim (fun e => absurd e (by decide)) (fun q => .inr (hm21_20 q))), fun h => absurd (hm11_10 (hm12_11 (hm20_12 (hm21_20 (((hL 21).1 h).resolve_left (by decide)))))) hopen⟩
            | 11, ho =>
              simp only [List.getElem?_toArray, List.getElem?_cons_zero, List.getElem?_cons_succ, Option.some.injEq] at ho
              have hnj : ¬ L 21 := fun h => hopen (hm12_11 (hm20_12 (hm21_20 h)))
              have hJ := hj hnj
              have l10 := hdep 10 (by rw [← ho]; kernel_rfl)
              have e10 : V 10 = .pointer (some ⟨bm, om + i * 3 + 1, none⟩) := hJ.h 10 l10
              obtain ⟨q0, q1, q2⟩ := HA9.out _ hJ.kp
              have HJ := Lib.hid hJ
              clear hJ hj
              subst ho
              refine Pj.Step.free rfl ?_
              simp only [Pj.puts, List.foldl_cons, List.foldl_nil, Act.put, List.setIfInBounds_toArray, List.set_cons_zero, List.set_cons_succ, e10]
              go_simp
              exact hKq _ _ ⟨Pj.vset V 11 (.slice ab mb cb), by simp only [Pj.puts, List.foldl_cons, List.foldl_nil, Act.put, List.setIfInBounds_toArray, List.set_cons_zero, List.set_cons_succ, Pj.vset, Nat.reduceEqDiff, if_true, if_false, e10], fun _ => HJ.out.more HP.out hL (Kept.refl _) (rfl), fun h => (hL 0).2 (((hL 1).1 h).elim (fun e => absurd e (by decide)) (fun q => .inr (hm1_0 q))), fun h => (hL 1).2 (((hL 3).1 h).elim (fun e => absurd e (by decide)) (fun q => .inr (hm3_1 q))), fun h => (hL 2).2 (((hL 3).1 h).elim (fun e => absurd e (by decide)) (fun q => .inr (hm3_2 q))), fun h => (hL 3).2 (((hL 4).1 h).elim (fun e => absurd e (by decide)) (fun q => .inr (hm4_3 q))), fun h => (hL 4).2 (((hL 5).1 h).elim (fun e => absurd e (by decide)) (fun q => .inr (hm5_4 q))), fun h => (hL 6).2 (((hL 7).1 h).elim (fun e => absurd e (by decide)) (fun q => .inr (hm7_6 q))), fun h => (hL 7).2 (((hL 9).1 h).elim (fun e => absurd e (by decide)) (fun q => .inr (hm9_7 q))), fun h => (hL 8).2 (((hL 9).1 h).elim (fun e => absurd e (by decide)) (fun q => .inr (hm9_8 q))), fun h => (hL 9).2 (((hL 10).1 h).elim (fun e => absurd e (by decide)) (fun q => .inr (hm10_9 q))), fun _ => (hL 10).2 (.inr l10), fun h => (hL 11).2 (((hL 12).1 h).elim (fun e => absurd e (by decide)) (fun q => .inr (hm12_11 q))), fun h => (hL 13).2 (((hL 14).1 h).elim (fun e => absurd e (by decide)) (fun q => .inr (hm14_13 q))), fun h => (hL 14).2 (((hL 16).1 h).elim (fun e => absurd e (by decide)) (fun q => .inr (hm16_14 q))), fun h => (hL 15).2 (((hL 16).1 h).elim (fun e => absurd e (by decide)) (fun q => .inr (hm16_15 q))), fun h => (hL 16).2 (((hL 17).1 h).elim (fun e => absurd e (by decide)) (fun q => .inr (hm17_16 q))), fun h => (hL 17).2 (((hL 18).1 h).elim (fun e => absurd e (by decide)) (fun q => .inr (hm18_17 q))), fun h => (hL 18).2 (((hL 19).1 h).elim (fun e => absurd e (by decide)) (fun q => .inr (hm19_18 q))), fun h => (hL 5).2 (((hL 20).1 h).elim (fun e => absurd e (by decide)) (fun q => .inr (hm20_5 q))), fun h => (hL 12).2 (((hL 20).1 h).elim (fun e => absurd e (by decide)) (fun q => .inr (hm20_12 q))), fun h => (hL 19).2 (((hL 20).1 h).elim (fun e => absurd e (by decide)) (fun q => .inr (hm20_19 q))), fun h => (hL 20).2 (((hL 21).1 h).elim (fun e => absurd e (by decide)) (fun q => .inr (hm21_20 q))), fun h => absurd (hm12_11 (hm20_12 (hm21_20 (((hL 21).1 h).resolve_left (by decide))))) hopen⟩
            | 12, ho =>
              simp only [List.getElem?_toArray, List.getElem?_cons_zero, List.getElem?_cons_succ, Option.some.injEq] at ho
              have hnj : ¬ L 21 := fun h => hopen (hm20_12 (hm21_20 h))
              have hJ := hj hnj
              have l11 := hdep 11 (by rw [← ho]; kernel_rfl)
              have e11 : V 11 = .slice ab mb cb := hJ.h 11 l11
              have hso := HRIb.out w hJ.kp
              have HJ := Lib.hid hJ
              clear hJ hj
              subst ho
              refine Pj.Step.free rfl ?_
              simp only [Pj.puts, List.foldl_cons, List.foldl_nil, Act.put, List.setIfInBounds_toArray, List.set_cons_zero, List.set_cons_succ, e11]
              go_simp
              refine hso.mono ?_
              rintro e w' ⟨a9, c9, rfl, _, h9, hk9⟩
              exact hKq _ _ ⟨Pj.vset V 12 (.slice a9 (risen bs).length c9), by simp only [Pj.puts, List.foldl_cons, List.foldl_nil, Act.put, List.setIfInBounds_toArray, List.set_cons_zero, List.set_cons_succ, Pj.vset, Nat.reduceEqDiff, if_true, if_false, e11], fun _ => HJ.out.more HP.out hL (hk9) (⟨_, _, rfl, h9⟩), fun h => (hL 0).2 (((hL 1).1 h).elim (fun e => absurd e (by decide)) (fun q => .inr (hm1_0 q))), fun h => (hL 1).2 (((hL 3).1 h).elim (fun e => absurd e (by decide)) (fun q => .inr (hm3_1 q))), fun h => (hL 2).2 (((hL 3).1 h).elim (fun e => absurd e (by decide)) (fun q => .inr (hm3_2 q))), fun h => (hL 3).2 (((hL 4).1 h).elim (fun e => absurd e (by decide)) (fun q => .inr (hm4_3 q))), fun h => (hL 4).2 (((hL 5).1 h).elim (fun e => absurd e (by decide)) (fun q => .inr (hm5_4 q))), fun h => (hL 6).2 (((hL 7).1 h).elim (fun e => absurd e (by decide)) (fun q => .inr (hm7_6 q))), fun h => (hL 7).2 (((hL 9).1 h).elim (fun e => absurd e (by decide)) (fun q => .inr (hm9_7 q))), fun h => (hL 8).2 (((hL 9).1 h).elim (fun e => absurd e (by decide)) (fun q => .inr (hm9_8 q))), fun h => (hL 9).2 (((hL 10).1 h).elim (fun e => absurd e (by decide)) (fun q => .inr (hm10_9 q))), fun h => (hL 10).2 (((hL 11).1 h).elim (fun e => absurd e (by decide)) (fun q => .inr (hm11_10 q))), fun _ => (hL 11).2 (.inr l11), fun h => (hL 13).2 (((hL 14).1 h).elim (fun e => absurd e (by decide)) (fun q => .inr (hm14_13 q))), fun h => (hL 14).2 (((hL 16).1 h).elim (fun e => absurd e (by decide)) (fun q => .inr (hm16_14 q))), fun h => (hL 15).2 (((hL 16).1 h).elim (fun e => absurd e (by decide)) (fun q => .inr (hm16_15 q))), fun h => (hL 16).2 (((hL 17).1 h).elim (fun e => absurd e (by decide)) (fun q => .inr (hm17_16 q))), fun h => (hL 17).2 (((hL 18).1 h).elim (fun e => absurd e (by decide)) (fun q => .inr (hm18_17 q))), fun h => (hL 18).2 (((hL 19).1 h).elim (fun e => absurd e (by decide)) (fun q => .inr (hm19_18 q))), fun h => (hL 5).2 (((hL 20).1 h).elim (fun e => absurd e (by decide)) (fun q => .inr (hm20_5 q))), fun h => (hL 12).2 (((hL 20).1 h).elim (fun e => absurd e (by decide)) (fun q => .inr (hm20_12 q))), fun h => (hL 19).2 (((hL 20).1 h).elim (fun e => absurd e (by decide)) (fun q => .inr (hm20_19 q))), fun h => (hL 20).2 (((hL 21).1 h).elim (fun e => absurd e (by decide)) (fun q => .inr (hm21_20 q))), fun h => absurd (hm20_12 (hm21_20 (((hL 21).1 h).resolve_left (by decide)))) hopen⟩
            | 13, ho =>
              simp only [List.getElem?_toArray, List.getElem?_cons_zero, List.getElem?_cons_succ, Option.some.injEq] at ho
              have hnj : ¬ L 21 := fun h => hopen (hm14_13 (hm16_14 (hm17_16 (hm18_17 (hm19_18 (hm20_19 (hm21_20 h)))))))
              have hJ := hj hnj
              have HJ := Lib.hid hJ
              clear hJ hj
              subst ho
              refine Pj.Step.free rfl ?_
              simp only [Pj.puts, List.foldl_cons, List.foldl_nil, Act.put, List.setIfInBounds_toArray, List.set_cons_zero, List.set_cons_succ]
              go_simp
              exact hKq _ _ ⟨Pj.vset V 13 (.pointer (some ⟨W.heap.size, 0, none⟩)), by simp only [Pj.puts, List.foldl_cons, List.foldl_nil, Act.put, List.setIfInBounds_toArray, List.set_cons_zero, List.set_cons_succ, Pj.vset, Nat.reduceEqDiff, if_true, if_false], fun _ => HJ.out.more HP.out hL (Kept.refl _) (rfl), fun h => (hL 0).2 (((hL 1).1 h).elim (fun e => absurd e (by decide)) (fun q => .inr (hm1_0 q))), fun h => (hL 1).2 (((hL 3).1 h).elim (fun e => absurd e (by decide)) (fun q => .inr (hm3_1 q))), fun h => (hL 2).2 (((hL 3).1 h).elim (fun e => absurd e (by decide)) (fun q => .inr (hm3_2 q))), fun h => (hL 3).2 (((hL 4).1 h).elim (fun e => absurd e (by decide)) (fun q => .inr (hm4_3 q))), fun h => (hL 4).2 (((hL 5).1 h).elim (fun e => absurd e (by decide)) (fun q => .inr (hm5_4 q))), fun h => (hL 6).2 (((hL 7).1 h).elim (fun e => absurd e (by decide)) (fun q => .inr (hm7_6 q))), fun h => (hL 7).2 (((hL 9).1 h).elim (fun e => absurd e (by decide)) (fun q => .inr (hm9_7 q))), fun h => (hL 8).2 (((hL 9).1 h).elim (fun e => absurd e (by decide)) (fun q => .inr (hm9_8 q))), fun h => (hL 9).2 (((hL 10).1 h).elim (fun e => absurd e (by decide)) (fun q => .inr (hm10_9 q))), fun h => (hL 10).2 (((hL 11).1 h).elim (fun e => absurd e (by decide)) (fun q => .inr (hm11_10 q))), fun h => (hL 11).2 (((hL 12).1 h).elim (fun e => absurd e (by decide)) (fun q => .inr (hm12_11 q))), fun h => (hL 13).2 (((hL 14).1 h).elim (fun e => absurd e (by decide)) (fun q => .inr (hm14_13 q))), fun h => (hL 14).2 (((hL 16).1 h).elim (fun e => absurd e (by decide)) (fun q => .inr (hm16_14 q))), fun h => (hL 15).2 (((hL 16).1 h).elim (fun e => absurd e (by decide)) (fun q => .inr (hm16_15 q))), fun h => (hL 16).2 (((hL 17).1 h).elim (fun e => absurd e (by decide)) (fun q => .inr (hm17_16 q))), fun h => (hL 17).2 (((hL 18).1 h).elim (fun e => absurd e (by decide)) (fun q => .inr (hm18_17 q))), fun h => (hL 18).2 (((hL 19).1 h).elim (fun e => absurd e (by decide)) (fun q => .inr (hm19_18 q))), fun h => (hL 5).2 (((hL 20).1 h).elim (fun e => absurd e (by decide)) (fun q => .inr (hm20_5 q))), fun h => (hL 12).2 (((hL 20).1 h).elim (fun e => absurd e (by decide)) (fun q => .inr (hm20_12 q))), fun h => (hL 19).2 (((hL 20).1 h).elim (fun e => absurd e (by decide)) (fun q => .inr (hm20_19 q))), fun h => (hL 20).2 (((hL 21).1 h).elim (fun e => absurd e (by decide)) (fun q => .inr (hm21_20 q))), fun h => absurd (hm14_13 (hm16_14 (hm17_16 (hm18_17 (hm19_18 (hm20_19 (hm21_20 (((hL 21).1 h).resolve_left (by decide))))))))) hopen⟩
            | 14, ho =>
              simp only [List.getElem?_toArray, List.getElem?_cons_zero, List.getElem?_cons_succ, Option.some.injEq] at ho
              have hnj : ¬ L 21 := fun h => hopen (hm16_14 (hm17_16 (hm18_17 (hm19_18 (hm20_19 (hm21_20 h))))))
              have hJ := hj hnj
              have l13 := hdep 13 (by rw [← ho]; kernel_rfl)
              have e13 : V 13 = .pointer (some ⟨W.heap.size, 0, none⟩) := hJ.h 13 l13
              obtain ⟨d0, d1⟩ := HBX9.out _ hJ.kp
              have HJ := Lib.hid hJ
              clear hJ hj
              subst ho
              refine Pj.Step.free rfl ?_
              simp only [Pj.puts, List.foldl_cons, List.foldl_nil, Act.put, List.setIfInBounds_toArray, List.set_cons_zero, List.set_cons_succ, e13]
              go_simp
              exact hKq _ _ ⟨Pj.vset V 14 (.slice (some ⟨bm, om, none⟩) lm cm), by simp only [Pj.puts, List.foldl_cons, List.foldl_nil, Act.put, List.setIfInBounds_toArray, List.set_cons_zero, List.set_cons_succ, Pj.vset, Nat.reduceEqDiff, if_true, if_false, e13], fun _ => HJ.out.more HP.out hL (Kept.refl _) (rfl), fun h => (hL 0).2 (((hL 1).1 h).elim (fun e => absurd e (by decide)) (fun q => .inr (hm1_0 q))), fun h => (hL 1).2 (((hL 3).1 h).elim (fun e => absurd e (by decide)) (fun q => .inr (hm3_1 q))), fun h => (hL 2).2 (((hL 3).1 h).elim (fun e => absurd e (by decide)) (fun q => .inr (hm3_2 q))), fun h => (hL 3).2 (((hL 4).1 h).elim (fun e => absurd e (by decide)) (fun q => .inr (hm4_3 q))), fun h => (hL 4).2 (((hL 5).1 h).elim (fun e => absurd e (by decide)) (fun q => .inr (hm5_4 q))), fun h => (hL 6).2 (((hL 7).1 h).elim (fun e => absurd e (by decide)) (fun q => .inr (hm7_6 q))), fun h => (hL 7).2 (((hL 9).1 h).elim (fun e => absurd e (by decide)) (fun q => .inr (hm9_7 q))), fun h => (hL 8).2 (((hL 9).1 h).elim (fun e => absurd e (by decide)) (fun q => .inr (hm9_8 q))), fun h => (hL 9).2 (((hL 10).1 h).elim (fun e => absurd e (by decide)) (fun q => .inr (hm10_9 q))), fun h => (hL 10).2 (((hL 11).1 h).elim (fun e => absurd e (by decide)) (fun q => .inr (hm11_10 q))), fun h => (hL 11).2 (((hL 12).1 h).elim (fun e => absurd e (by decide)) (fun q => .inr (hm12_11 q))), fun _ => (hL 13).2 (.inr l13), fun h => (hL 14).2 (((hL 16).1 h).elim (fun e => absurd e (by decide)) (fun q => .inr (hm16_14 q))), fun h => (hL 15).2 (((hL 16).1 h).elim (fun e => absurd e (by decide)) (fun q => .inr (hm16_15 q))), fun h => (hL 16).2 (((hL 17).1 h).elim (fun e => absurd e (by decide)) (fun q => .inr (hm17_16 q))), fun h => (hL 17).2 (((hL 18).1 h).elim (fun e => absurd e (by decide)) (fun q => .inr (hm18_17 q))), fun h => (hL 18).2 (((hL 19).1 h).elim (fun e => absurd e (by decide)) (fun q => .inr (hm19_18 q))), fun h => (hL 5).2 (((hL 20).1 h).elim (fun e => absurd e (by decide)) (fun q => .inr (hm20_5 q))), fun h => (hL 12).2 (((hL 20).1 h).elim (fun e => absurd e (by decide)) (fun q => .inr (hm20_12 q))), fun h => (hL 19).2 (((hL 20).1 h).elim (fun e => absurd e (by decide)) (fun q => .inr (hm20_19 q))), fun h => (hL 20).2 (((hL 21).1 h).elim (fun e => absurd e (by decide)) (fun q => .inr (hm21_20 q))), fun h => absurd (hm16_14 (hm17_16 (hm18_17 (hm19_18 (hm20_19 (hm21_20 (((hL 21).1 h).resolve_left (by decide)))))))) hopen⟩
            | 15, ho =>
              simp only [List.getElem?_toArray, List.getElem?_cons_zero, List.getElem?_cons_succ, Option.some.injEq] at ho
              have hnj : ¬ L 21 := fun h => hopen (hm16_15 (hm17_16 (hm18_17 (hm19_18 (hm20_19 (hm21_20 h))))))
              have hJ := hj hnj
              have HJ := Lib.hid hJ
              clear hJ hj
              subst ho
              refine Pj.Step.free rfl ?_
              simp only [Pj.puts, List.foldl_cons, List.foldl_nil, Act.put, List.setIfInBounds_toArray, List.set_cons_zero, List.set_cons_succ]
              go_simp
              exact hKq _ _ ⟨Pj.vset V 15 (.int .i64 i), by simp only [Pj.puts, List.foldl_cons, List.foldl_nil, Act.put, List.setIfInBounds_toArray, List.set_cons_zero, List.set_cons_succ, Pj.vset, Nat.reduceEqDiff, if_true, if_false], fun _ => HJ.out.more HP.out hL (Kept.refl _) (rfl), fun h => (hL 0).2 (((hL 1).1 h).elim (fun e => absurd e (by decide)) (fun q => .inr (hm1_0 q))), fun h => (hL 1).2 (((hL 3).1 h).elim (fun e => absurd e (by decide)) (fun q => .inr (hm3_1 q))), fun h => (hL 2).2 (((hL 3).1 h).elim (fun e => absurd e (by decide)) (fun q => .inr (hm3_2 q))), fun h => (hL 3).2 (((hL 4).1 h).elim (fun e => absurd e (by decide)) (fun q => .inr (hm4_3 q))), fun h => (hL 4).2 (((hL 5).1 h).elim (fun e => absurd e (by decide)) (fun q => .inr (hm5_4 q))), fun h => (hL 6).2 (((hL 7).1 h).elim (fun e => absurd e (by decide)) (fun q => .inr (hm7_6 q))), fun h => (hL 7).2 (((hL 9).1 h).elim (fun e => absurd e (by decide)) (fun q => .inr (hm9_7 q))), fun h => (hL 8).2 (((hL 9).1 h).elim (fun e => absurd e (by decide)) (fun q => .inr (hm9_8 q))), fun h => (hL 9).2 (((hL 10).1 h).elim (fun e => absurd e (by decide)) (fun q => .inr (hm10_9 q))), fun h => (hL 10).2 (((hL 11).1 h).elim (fun e => absurd e (by decide)) (fun q => .inr (hm11_10 q))), fun h => (hL 11).2 (((hL 12).1 h).elim (fun e => absurd e (by decide)) (fun q => .inr (hm12_11 q))), fun h => (hL 13).2 (((hL 14).1 h).elim (fun e => absurd e (by decide)) (fun q => .inr (hm14_13 q))), fun h => (hL 14).2 (((hL 16).1 h).elim (fun e => absurd e (by decide)) (fun q => .inr (hm16_14 q))), fun h => (hL 15).2 (((hL 16).1 h).elim (fun e => absurd e (by decide)) (fun q => .inr (hm16_15 q))), fun h => (hL 16).2 (((hL 17).1 h).elim (fun e => absurd e (by decide)) (fun q => .inr (hm17_16 q))), fun h => (hL 17).2 (((hL 18).1 h).elim (fun e => absurd e (by decide)) (fun q => .inr (hm18_17 q))), fun h => (hL 18).2 (((hL 19).1 h).elim (fun e => absurd e (by decide)) (fun q => .inr (hm19_18 q))), fun h => (hL 5).2 (((hL 20).1 h).elim (fun e => absurd e (by decide)) (fun q => .inr (hm20_5 q))), fun h => (hL 12).2 (((hL 20).1 h).elim (fun e => absurd e (by decide)) (fun q => .inr (hm20_12 q))), fun h => (hL 19).2 (((hL 20).1 h).elim (fun e => absurd e (by decide)) (fun q => .inr (hm20_19 q))), fun h => (hL 20).2 (((hL 21).1 h).elim (fun e => absurd e (by decide)) (fun q => .inr (hm21_20 q))), fun h => absurd (hm16_15 (hm17_16 (hm18_17 (hm19_18 (hm20_19 (hm21_20 (((hL 21).1 h).resolve_left (by decide)))))))) hopen⟩
            | 16, ho =>
              simp only [List.getElem?_toArray, List.getElem?_cons_zero, List.getElem?_cons_succ, Option.some.injEq] at ho
              have hnj : ¬ L 21 := fun h => hopen (hm17_16 (hm18_17 (hm19_18 (hm20_19 (hm21_20 h)))))
              have hJ := hj hnj
              have l14 := hdep 14 (by rw [← ho]; kernel_rfl)
              have e14 : V 14 = .slice (some ⟨bm, om, none⟩) lm cm := hJ.h 14 l14
              have l15 := hdep 15 (by rw [← ho]; kernel_rfl)
              have e15 : V 15 = .int .i64 i := hJ.h 15 l15
              have HJ := Lib.hid hJ
              clear hJ hj
              subst ho
              refine Pj.Step.free rfl ?_
              simp only [Pj.puts, List.foldl_cons, List.foldl_nil, Act.put, List.setIfInBounds_toArray, List.set_cons_zero, List.set_cons_succ, e14, e15]
              go_simp
              exact hKq _ _ ⟨Pj.vset V 16 (.pointer (some ⟨bm, om + i * 3, none⟩)), by simp only [Pj.puts, List.foldl_cons, List.foldl_nil, Act.put, List.setIfInBounds_toArray, List.set_cons_zero, List.set_cons_succ, Pj.vset, Nat.reduceEqDiff, if_true, if_false, e14, e15], fun _ => HJ.out.more HP.out hL (Kept.refl _) (rfl), fun h => (hL 0).2 (((hL 1).1 h).elim (fun e => absurd e (by decide)) (fun q => .inr (hm1_0 q))), fun h => (hL 1).2 (((hL 3).1 h).elim (fun e => absurd e (by decide)) (fun q => .inr (hm3_1 q))), fun h => (hL 2).2 (((hL 3).1 h).elim (fun e => absurd e (by decide)) (fun q => .inr (hm3_2 q))), fun h => (hL 3).2 (((hL 4).1 h).elim (fun e => absurd e (by decide)) (fun q => .inr (hm4_3 q))), fun h => (hL 4).2 (((hL 5).1 h).elim (fun e => absurd e (by decide)) (fun q => .inr (hm5_4 q))), fun h => (hL 6).2 (((hL 7).1 h).elim (fun e => absurd e (by decide)) (fun q => .inr (hm7_6 q))), fun h => (hL 7).2 (((hL 9).1 h).elim (fun e => absurd e (by decide)) (fun q => .inr (hm9_7 q))), fun h => (hL 8).2 (((hL 9).1 h).elim (fun e => absurd e (by decide)) (fun q => .inr (hm9_8 q))), fun h => (hL 9).2 (((hL 10).1 h).elim (fun e => absurd e (by decide)) (fun q => .inr (hm10_9 q))), fun h => (hL 10).2 (((hL 11).1 h).elim (fun e => absurd e (by decide)) (fun q => .inr (hm11_10 q))), fun h => (hL 11).2 (((hL 12).1 h).elim (fun e => absurd e (by decide)) (fun q => .inr (hm12_11 q))), fun h => (hL 13).2 (((hL 14).1 h).elim (fun e => absurd e (by decide)) (fun q => .inr (hm14_13 q))), fun _ => (hL 14).2 (.inr l14), fun _ => (hL 15).2 (.inr l15), fun h => (hL 16).2 (((hL 17).1 h).elim (fun e => absurd e (by decide)) (fun q => .inr (hm17_16 q))), fun h => (hL 17).2 (((hL 18).1 h).elim (fun e => absurd e (by decide)) (fun q => .inr (hm18_17 q))), fun h => (hL 18).2 (((hL 19).1 h).elim (fun e => absurd e (by decide)) (fun q => .inr (hm19_18 q))), fun h => (hL 5).2 (((hL 20).1 h).elim (fun e => absurd e (by decide)) (fun q => .inr (hm20_5 q))), fun h => (hL 12).2 (((hL 20).1 h).elim (fun e => absurd e (by decide)) (fun q => .inr (hm20_12 q))), fun h => (hL 19).2 (((hL 20).1 h).elim (fun e => absurd e (by decide)) (fun q => .inr (hm20_19 q))), fun h => (hL 20).2 (((hL 21).1 h).elim (fun e => absurd e (by decide)) (fun q => .inr (hm21_20 q))), fun h => absurd (hm17_16 (hm18_17 (hm19_18 (hm20_19 (hm21_20 (((hL 21).1 h).resolve_left (by decide))))))) hopen⟩
            | 17, ho =>
              simp only [List.getElem?_toArray, List.getElem?_cons_zero, List.getElem?_cons_succ, Option.some.injEq] at ho
              have hnj : ¬ L 21 := fun h => hopen (hm18_17 (hm19_18 (hm20_19 (hm21_20 h))))
              have hJ := hj hnj
              have l16 := hdep 16 (by rw [← ho]; kernel_rfl)
              have e16 : V 16 = .pointer (some ⟨bm, om + i * 3, none⟩) := hJ.h 16 l16
              have HJ := Lib.hid hJ
              clear hJ hj
              subst ho
              refine Pj.Step.free rfl ?_
              simp only [Pj.puts, List.foldl_cons, List.foldl_nil, Act.put, List.setIfInBounds_toArray, List.set_cons_zero, List.set_cons_succ, e16]
              go_simp
              exact hKq _ _ ⟨Pj.vset V 17 (.pointer (some ⟨bm, om + i * 3 + 2, none⟩)), by simp only [Pj.puts, List.foldl_cons, List.foldl_nil, Act.put, List.setIfInBounds_toArray, List.set_cons_zero, List.set_cons_succ, Pj.vset, Nat.reduceEqDiff, if_true, if_false, e16], fun _ => HJ.out.more HP.out hL (Kept.refl _) (rfl), fun h => (hL 0).2 (((hL 1).1 h).elim (fun e => absurd e (by decide)) (fun q => .inr (hm1_0 q))), fun h => (hL 1).2 (((hL 3).1 h).elim (fun e => absurd e (by decide)) (fun q => .inr (hm3_1 q))), fun h => (hL 2).2 (((hL 3).1 h).elim (fun e => absurd e (by decide)) (fun q => .inr (hm3_2 q))), fun h => (hL 3).2 (((hL 4).1 h).elim (fun e => absurd e (by decide)) (fun q => .inr (hm4_3 q))), fun h => (hL 4).2 (((hL 5).1 h).elim (fun e => absurd e (by decide)) (fun q => .inr (hm5_4 q))), fun h => (hL 6).2 (((hL 7).1 h).elim (fun e => absurd e (by decide)) (fun q => .inr (hm7_6 q))), fun h => (hL 7).2 (((hL 9).1 h).elim (fun e => absurd e (by decide)) (fun q => .inr (hm9_7 q))), fun h => (hL 8).2 (((hL 9).1 h).elim (fun e => absurd e (by decide)) (fun q => .inr (hm9_8 q))), fun h => (hL 9).2 (((hL 10).1 h).elim (fun e => absurd e (by decide)) (fun q => .inr (hm10_9 q))), fun h => (hL 10).2 (((hL 11).1 h).elim (fun e => absurd e (by decide)) (fun q => .inr (hm11_10 q))), fun h => (hL 11).2 (((hL 12).1 h).elim (fun e => absurd e (by decide)) (fun q => .inr (hm12_11 q))), fun h => (hL 13).2 (((hL 14).1 h).elim (fun e => absurd e (by decide)) (fun q => .inr (hm14_13 q))), fun h => (hL 14).2 (((hL 16).1 h).elim (fun e => absurd e (by decide)) (fun q => .inr (hm16_14 q))), fun h => (hL 15).2 (((hL 16).1 h).elim (fun e => absurd e (by decide)) (fun q => .inr (hm16_15 q))), fun _ => (hL 16).2 (.inr l16), fun h => (hL 17).2 (((hL 18).1 h).elim (fun e => absurd e (by decide)) (fun q => .inr (hm18_17 q))), fun h => (hL 18).2 (((hL 19).1 h).elim (fun e => absurd e (by decide)) (fun q => .inr (hm19_18 q))), fun h => (hL 5).2 (((hL 20).1 h).elim (fun e => absurd e (by decide)) (fun q => .inr (hm20_5 q))), fun h => (hL 12).2 (((hL 20).1 h).elim (fun e => absurd e (by decide)) (fun q => .inr (hm20_12 q))), fun h => (hL 19).2 (((hL 20).1 h).elim (fun e => absurd e (by decide)) (fun q => .inr (hm20_19 q))), fun h => (hL 20).2 (((hL 21).1 h).elim (fun e => absurd e (by decide)) (fun q => .inr (hm21_20 q))), fun h => absurd (hm18_17 (hm19_18 (hm20_19 (hm21_20 (((hL 21).1 h).resolve_left (by decide)))))) hopen⟩
            | 18, ho =>
              simp only [List.getElem?_toArray, List.getElem?_cons_zero, List.getElem?_cons_succ, Option.some.injEq] at ho
              have hnj : ¬ L 21 := fun h => hopen (hm19_18 (hm20_19 (hm21_20 h)))
              have hJ := hj hnj
              have l17 := hdep 17 (by rw [← ho]; kernel_rfl)
              have e17 : V 17 = .pointer (some ⟨bm, om + i * 3 + 2, none⟩) := hJ.h 17 l17
              obtain ⟨q0, q1, q2⟩ := HA9.out _ hJ.kp
              have HJ := Lib.hid hJ
              clear hJ hj
              subst ho
              refine Pj.Step.free rfl ?_
              simp only [Pj.puts, List.foldl_cons, List.foldl_nil, Act.put, List.setIfInBounds_toArray, List.set_cons_zero, List.set_cons_succ, e17]
              go_simp
              exact hKq _ _ ⟨Pj.vset V 18 (.slice au mu cu), by simp only [Pj.puts, List.foldl_cons, List.foldl_nil, Act.put, List.setIfInBounds_toArray, List.set_cons_zero, List.set_cons_succ, Pj.vset, Nat.reduceEqDiff, if_true, if_false, e17], fun _ => HJ.out.more HP.out hL (Kept.refl _) (rfl), fun h => (hL 0).2 (((hL 1).1 h).elim (fun e => absurd e (by decide)) (fun q => .inr (hm1_0 q))), fun h => (hL 1).2 (((hL 3).1 h).elim (fun e => absurd e (by decide)) (fun q => .inr (hm3_1 q))), fun h => (hL 2).2 (((hL 3).1 h).elim (fun e => absurd e (by decide)) (fun q => .inr (hm3_2 q))), fun h => (hL 3).2 (((hL 4).1 h).elim (fun e => absurd e (by decide)) (fun q => .inr (hm4_3 q))), fun h => (hL 4).2 (((hL 5).1 h).elim (fun e => absurd e (by decide)) (fun q => .inr (hm5_4 q))), fun h => (hL 6).2 (((hL 7).1 h).elim (fun e => absurd e (by decide)) (fun q => .inr (hm7_6 q))), fun h => (hL 7).2 (((hL 9).1 h).elim (fun e => absurd e (by decide)) (fun q => .inr (hm9_7 q))), fun h => (hL 8).2 (((hL 9).1 h).elim (fun e => absurd e (by decide)) (fun q => .inr (hm9_8 q))), fun h => (hL 9).2 (((hL 10).1 h).elim (fun e => absurd e (by decide)) (fun q => .inr (hm10_9 q))), fun h => (hL 10).2 (((hL 11).1 h).elim (fun e => absurd e (by decide)) (fun q => .inr (hm11_10 q))), fun h => (hL 11).2 (((hL 12).1 h).elim (fun e => absurd e (by decide)) (fun q => .inr (hm12_11 q))), fun h => (hL 13).2 (((hL 14).1 h).elim (fun e => absurd e (by decide)) (fun q => .inr (hm14_13 q))), fun h => (hL 14).2 (((hL 16).1 h).elim (fun e => absurd e (by decide)) (fun q => .inr (hm16_14 q))), fun h => (hL 15).2 (((hL 16).1 h).elim (fun e => absurd e (by decide)) (fun q => .inr (hm16_15 q))), fun h => (hL 16).2 (((hL 17).1 h).elim (fun e => absurd e (by decide)) (fun q => .inr (hm17_16 q))), fun _ => (hL 17).2 (.inr l17), fun h => (hL 18).2 (((hL 19).1 h).elim (fun e => absurd e (by decide)) (fun q => .inr (hm19_18 q))), fun h => (hL 5).2 (((hL 20).1 h).elim (fun e => absurd e (by decide)) (fun q => .inr (hm20_5 q))), fun h => (hL 12).2 (((hL 20).1 h).elim (fun e => absurd e (by decide)) (fun q => .inr (hm20_12 q))), fun h => (hL 19).2 (((hL 20).1 h).elim (fun e => absurd e (by decide)) (fun q => .inr (hm20_19 q))), fun h => (hL 20).2 (((hL 21).1 h).elim (fun e => absurd e (by decide)) (fun q => .inr (hm21_20 q))), fun h => absurd (hm19_18 (hm20_19 (hm21_20 (((hL 21).1 h).resolve_left (by decide))))) hopen⟩
            | 19, ho =>
              simp only [List.getElem?_toArray, List.getElem?_cons_zero, List.getElem?_cons_succ, Option.some.injEq] at ho
              have hnj : ¬ L 21 := fun h => hopen (hm20_19 (hm21_20 h))
              have hJ := hj hnj
              have l18 := hdep 18 (by rw [← ho]; kernel_rfl)
              have e18 : V 18 = .slice au mu cu := hJ.h 18 l18
              have hso := HRIu.out w hJ.kp
              have HJ := Lib.hid hJ
              clear hJ hj
              subst ho
              refine Pj.Step.free rfl ?_
              simp only [Pj.puts, List.foldl_cons, List.foldl_nil, Act.put, List.setIfInBounds_toArray, List.set_cons_zero, List.set_cons_succ, e18]
              go_simp
              refine hso.mono ?_
              rintro e w' ⟨a9, c9, rfl, _, h9, hk9⟩
              exact hKq _ _ ⟨Pj.vset V 19 (.slice a9 (risen us).length c9), by simp only [Pj.puts, List.foldl_cons, List.foldl_nil, Act.put, List.setIfInBounds_toArray, List.set_cons_zero, List.set_cons_succ, Pj.vset, Nat.reduceEqDiff, if_true, if_false, e18], fun _ => HJ.out.more HP.out hL (hk9) (⟨_, _, rfl, h9⟩), fun h => (hL 0).2 (((hL 1).1 h).elim (fun e => absurd e (by decide)) (fun q => .inr (hm1_0 q))), fun h => (hL 1).2 (((hL 3).1 h).elim (fun e => absurd e (by decide)) (fun q => .inr (hm3_1 q))), fun h => (hL 2).2 (((hL 3).1 h).elim (fun e => absurd e (by decide)) (fun q => .inr (hm3_2 q))), fun h => (hL 3).2 (((hL 4).1 h).elim (fun e => absurd e (by decide)) (fun q => .inr (hm4_3 q))), fun h => (hL 4).2 (((hL 5).1 h).elim (fun e => absurd e (by decide)) (fun q => .inr (hm5_4 q))), fun h => (hL 6).2 (((hL 7).1 h).elim (fun e => absurd e (by decide)) (fun q => .inr (hm7_6 q))), fun h => (hL 7).2 (((hL 9).1 h).elim (fun e => absurd e (by decide)) (fun q => .inr (hm9_7 q))), fun h => (hL 8).2 (((hL 9).1 h).elim (fun e => absurd e (by decide)) (fun q => .inr (hm9_8 q))), fun h => (hL 9).2 (((hL 10).1 h).elim (fun e => absurd e (by decide)) (fun q => .inr (hm10_9 q))), fun h => (hL 10).2 (((hL 11).1 h).elim (fun e => absurd e (by decide)) (fun q => .inr (hm11_10 q))), fun h => (hL 11).2 (((hL 12).1 h).elim (fun e => absurd e (by decide)) (fun q => .inr (hm12_11 q))), fun h => (hL 13).2 (((hL 14).1 h).elim (fun e => absurd e (by decide)) (fun q => .inr (hm14_13 q))), fun h => (hL 14).2 (((hL 16).1 h).elim (fun e => absurd e (by decide)) (fun q => .inr (hm16_14 q))), fun h => (hL 15).2 (((hL 16).1 h).elim (fun e => absurd e (by decide)) (fun q => .inr (hm16_15 q))), fun h => (hL 16).2 (((hL 17).1 h).elim (fun e => absurd e (by decide)) (fun q => .inr (hm17_16 q))), fun h => (hL 17).2 (((hL 18).1 h).elim (fun e => absurd e (by decide)) (fun q => .inr (hm18_17 q))), fun _ => (hL 18).2 (.inr l18), fun h => (hL 5).2 (((hL 20).1 h).elim (fun e => absurd e (by decide)) (fun q => .inr (hm20_5 q))), fun h => (hL 12).2 (((hL 20).1 h).elim (fun e => absurd e (by decide)) (fun q => .inr (hm20_12 q))), fun h => (hL 19).2 (((hL 20).1 h).elim (fun e => absurd e (by decide)) (fun q => .inr (hm20_19 q))), fun h => (hL 20).2 (((hL 21).1 h).elim (fun e => absurd e (by decide)) (fun q => .inr (hm21_20 q))), fun h => absurd (hm20_19 (hm21_20 (((hL 21).1 h).resolve_left (by decide)))) hopen⟩
            | 20, ho =>
              simp only [List.getElem?_toArray, List.getElem?_cons_zero, List.getElem?_cons_succ, Option.some.injEq] at ho
              have hnj : ¬ L 21 := fun h => hopen (hm21_20 h)
              have hJ := hj hnj
              have l5 := hdep 5 (by rw [← ho]; kernel_rfl)
              have e5 : V 5 = .int .i64 k := hJ.h 5 l5
              have l12 := hdep 12 (by rw [← ho]; kernel_rfl)
              obtain ⟨a12, c12, e12, h12⟩ := hJ.h 12 l12
              have l19 := hdep 19 (by rw [← ho]; kernel_rfl)
              obtain ⟨a19, c19, e19, h19⟩ := hJ.h 19 l19
              have HJ := Lib.hid hJ
              clear hJ hj
              subst ho
              refine Pj.Step.free rfl ?_
              simp only [Pj.puts, List.foldl_cons, List.foldl_nil, Act.put, List.setIfInBounds_toArray, List.set_cons_zero, List.set_cons_succ, e5, e12, e19]
              go_simp
              exact hKq _ _ ⟨Pj.vset V 20 (.agg #[.int .i64 k, .slice a12 (risen bs).length c12, .slice a19 (risen us).length c19]), by simp only [Pj.puts, List.foldl_cons, List.foldl_nil, Act.put, List.setIfInBounds_toArray, List.set_cons_zero, List.set_cons_succ, Pj.vset, Nat.reduceEqDiff, if_true, if_false, e5, e12, e19], fun _ => HJ.out.more HP.out hL (Kept.refl _) (⟨_, _, _, _, rfl, h12, h19⟩), fun h => (hL 0).2 (((hL 1).1 h).elim (fun e => absurd e (by decide)) (fun q => .inr (hm1_0 q))), fun h => (hL 1).2 (((hL 3).1 h).elim (fun e => absurd e (by decide)) (fun q => .inr (hm3_1 q))), fun h => (hL 2).2 (((hL 3).1 h).elim (fun e => absurd e (by decide)) (fun q => .inr (hm3_2 q))), fun h => (hL 3).2 (((hL 4).1 h).elim (fun e => absurd e (by decide)) (fun q => .inr (hm4_3 q))), fun h => (hL 4).2 (((hL 5).1 h).elim (fun e => absurd e (by decide)) (fun q => .inr (hm5_4 q))), fun h => (hL 6).2 (((hL 7).1 h).elim (fun e => absurd e (by decide)) (fun q => .inr (hm7_6 q))), fun h => (hL 7).2 (((hL 9).1 h).elim (fun e => absurd e (by decide)) (fun q => .inr (hm9_7 q))), fun h => (hL 8).2 (((hL 9).1 h).elim (fun e => absurd e (by decide)) (fun q => .inr (hm9_8 q))), fun h => (hL 9).2 (((hL 10).1 h).elim (fun e => absurd e (by decide)) (fun q => .inr (hm10_9 q))), fun h => (hL 10).2 (((hL 11).1 h).elim (fun e => absurd e (by decide)) (fun q => .inr (hm11_10 q))), fun h => (hL 11).2 (((hL 12).1 h).elim (fun e => absurd e (by decide)) (fun q => .inr (hm12_11 q))), fun h => (hL 13).2 (((hL 14).1 h).elim (fun e => absurd e (by decide)) (fun q => .inr (hm14_13 q))), fun h => (hL 14).2 (((hL 16).1 h).elim (fun e => absurd e (by decide)) (fun q => .inr (hm16_14 q))), fun h => (hL 15).2 (((hL 16).1 h).elim (fun e => absurd e (by decide)) (fun q => .inr (hm16_15 q))), fun h => (hL 16).2 (((hL 17).1 h).elim (fun e => absurd e (by decide)) (fun q => .inr (hm17_16 q))), fun h => (hL 17).2 (((hL 18).1 h).elim (fun e => absurd e (by decide)) (fun q => .inr (hm18_17 q))), fun h => (hL 18).2 (((hL 19).1 h).elim (fun e => absurd e (by decide)) (fun q => .inr (hm19_18 q))), fun _ => (hL 5).2 (.inr l5), fun _ => (hL 12).2 (.inr l12), fun _ => (hL 19).2 (.inr l19), fun h => (hL 20).2 (((hL 21).1 h).elim (fun e => absurd e (by decide)) (fun q => .inr (hm21_20 q))), fun h => absurd (hm21_20 (((hL 21).1 h).resolve_left (by decide))) hopen⟩
            | 21, ho =>
              simp only [List.getElem?_toArray, List.getElem?_cons_zero, List.getElem?_cons_succ, Option.some.injEq] at ho
              have hJ := hj hopen
              have l20 := hdep 20 (by rw [← ho]; kernel_rfl)
              obtain ⟨x8, y8, x8b, y8b, e20, n8, n8b⟩ := hJ.h 20 l20
              have hbw := HPW.out.kept hJ.kp
              have HJ := Lib.hid hJ
              clear hJ hj
              subst ho
              refine Pj.Step.free rfl ?_
              simp only [Pj.puts, List.foldl_cons, List.foldl_nil, Act.put, List.setIfInBounds_toArray, List.set_cons_zero, List.set_cons_succ, e20]
              refine Pj.oper_store_block 28 _ _ rfl pw #[.int .i64 k, .slice x8 (risen bs).length y8, .slice x8b (risen us).length y8b] #[.int .i64 0, .slice none 0 0, .slice none 0 0] 28 rfl rfl hbw (by kernel_rfl) rfl (one3m _ _ _ _ _ _ _) ?_
              simp only [Act.put]
              have g8 := grown_row w pw #[.int .i64 k, .slice x8 (risen bs).length y8, .slice x8b (risen us).length y8b]
              exact hKq _ _ ⟨Pj.vset V 21 undef, by simp only [Pj.puts, List.foldl_cons, List.foldl_nil, Act.put, List.setIfInBounds_toArray, List.set_cons_zero, List.set_cons_succ, Pj.vset, Nat.reduceEqDiff, if_false, e20], fun h => absurd ((hL 21).2 (.inl rfl)) h, fun h => (hL 0).2 (((hL 1).1 h).elim (fun e => absurd e (by decide)) (fun q => .inr (hm1_0 q))), fun h => (hL 1).2 (((hL 3).1 h).elim (fun e => absurd e (by decide)) (fun q => .inr (hm3_1 q))), fun h => (hL 2).2 (((hL 3).1 h).elim (fun e => absurd e (by decide)) (fun q => .inr (hm3_2 q))), fun h => (hL 3).2 (((hL 4).1 h).elim (fun e => absurd e (by decide)) (fun q => .inr (hm4_3 q))), fun h => (hL 4).2 (((hL 5).1 h).elim (fun e => absurd e (by decide)) (fun q => .inr (hm5_4 q))), fun h => (hL 6).2 (((hL 7).1 h).elim (fun e => absurd e (by decide)) (fun q => .inr (hm7_6 q))), fun h => (hL 7).2 (((hL 9).1 h).elim (fun e => absurd e (by decide)) (fun q => .inr (hm9_7 q))), fun h => (hL 8).2 (((hL 9).1 h).elim (fun e => absurd e (by decide)) (fun q => .inr (hm9_8 q))), fun h => (hL 9).2 (((hL 10).1 h).elim (fun e => absurd e (by decide)) (fun q => .inr (hm10_9 q))), fun h => (hL 10).2 (((hL 11).1 h).elim (fun e => absurd e (by decide)) (fun q => .inr (hm11_10 q))), fun h => (hL 11).2 (((hL 12).1 h).elim (fun e => absurd e (by decide)) (fun q => .inr (hm12_11 q))), fun h => (hL 13).2 (((hL 14).1 h).elim (fun e => absurd e (by decide)) (fun q => .inr (hm14_13 q))), fun h => (hL 14).2 (((hL 16).1 h).elim (fun e => absurd e (by decide)) (fun q => .inr (hm16_14 q))), fun h => (hL 15).2 (((hL 16).1 h).elim (fun e => absurd e (by decide)) (fun q => .inr (hm16_15 q))), fun h => (hL 16).2 (((hL 17).1 h).elim (fun e => absurd e (by decide)) (fun q => .inr (hm17_16 q))), fun h => (hL 17).2 (((hL 18).1 h).elim (fun e => absurd e (by decide)) (fun q => .inr (hm18_17 q))), fun h => (hL 18).2 (((hL 19).1 h).elim (fun e => absurd e (by decide)) (fun q => .inr (hm19_18 q))), fun h => (hL 5).2 (((hL 20).1 h).elim (fun e => absurd e (by decide)) (fun q => .inr (hm20_5 q))), fun h => (hL 12).2 (((hL 20).1 h).elim (fun e => absurd e (by decide)) (fun q => .inr (hm20_12 q))), fun h => (hL 19).2 (((hL 20).1 h).elim (fun e => absurd e (by decide)) (fun q => .inr (hm20_19 q))), fun _ => (hL 20).2 (.inr l20), fun _ => ⟨x8, y8, x8b, y8b, hbw.setRow _, strs_set n8 hbw (mf0_no _ _ _ _ _ _ _) g8, strs_set n8b hbw (mf0_no _ _ _ _ _ _ _) g8, Kept.setRow (HK89.out.trans HJ.out.kp) (by omega) _⟩⟩
            | n + 22, ho => simp at ho
          case ehe =>
            rintro L az w ⟨V, rfl, hj, hm1_0, hm3_1, hm3_2, hm4_3, hm5_4, hm7_6, hm9_7, hm9_8, hm10_9, hm11_10, hm12_11, hm14_13, hm16_14, hm16_15, hm17_16, hm18_17, hm19_18, hm20_5, hm20_12, hm20_19, hm21_20, hf⟩ hall
            obtain ⟨q1, r1, q2, r2, hb9, n8, n8b, hk9⟩ := hf (hall 21 (by decide))
            clear hj hf hall hm1_0 hm3_1 hm3_2 hm4_3 hm5_4 hm7_6 hm9_7 hm9_8 hm10_9 hm11_10 hm12_11 hm14_13 hm16_14 hm16_15 hm17_16 hm18_17 hm19_18 hm20_5 hm20_12 hm20_19 hm21_20
            have HB9 := Lib.hid hb9
            have HN8 := Lib.hid n8
            have HN8b := Lib.hid n8b
            have HK9 := Lib.hid hk9
            clear hb9 n8 n8b hk9
            simp only [Pj.puts, List.foldl_cons, List.foldl_nil, Act.put, List.setIfInBounds_toArray, List.set_cons_zero, List.set_cons_succ]
            have hrb := HRB.out
            have hru := HRU.out
            have HFE := Lib.hid (show mfFew ⟨k, risen bs, risen us⟩ = decide ((risen bs).length + (risen us).length ≤ 20) from rfl)
            obtain ⟨a0, a1, a2⟩ := box3 HB9.out
            by_cases h20 : (risen bs).length + (risen us).length ≤ 20
            · have hd20 : decide (20 < ((risen bs).length : Int) + ((risen us).length : Int)) = false := decide_eq_false (by omega)
              have HE3 := Lib.hid (show E = 0 by rw [HE2.out, HFE.out, decide_eq_true h20]; rfl)
              clear h20
              go_wp2_with fail
              go_meet
              exact WantC.good (by rw [HE3.out]) HE3.out HB9.out HN8.out HN8b.out HK9.out
            · have hd20 : decide (20 < ((risen bs).length : Int) + ((risen us).length : Int)) = true := decide_eq_true (by omega)
              have HE3 := Lib.hid (show E = 2 by rw [HE2.out, HFE.out, decide_eq_false h20]; rfl)
              clear h20
              go_wp2_with (refine wpList_store_block rfl 28 (.tmp 10) (.tmp 106) rfl _ #[.int .i64 0, .slice none 0 0, .slice none 0 0] #[.int .i64 k, .slice q1 (risen bs).length r1, .slice q2 (risen us).length r2] 28 rfl rfl HB9.out Try.infoMf rfl (one3m _ _ _ _ _ _ _) ?_)
              go_meet
              exact WantC.bad (by rw [HE3.out]) (by rw [HE3.out]; decide) (HB9.out.setRow _) (HK9.out.setRow (by omega) _)
      case rest =>
        rename_i yi0 yi1 yi2 yi3 yi4 yi5 yi6 yi7 yi8 yi9 yi10 yi11 yi12 yi13 yi14 yi15 yi16 yi17 yi18 yi19 yi20 yi21 yi22 yi23 yi24 yi25 yi26 yi27 yi28 yi29 yi30 yi31 yi32 yi33 yi34 yi35 yi36 yi37 yi38 yi39 yi40 yi41 yi42 yi43 yi44 yi45 yi46 yi47 yi48 yi49 yi50 yi51 yi52 yi53 yi54 yi55 yi56 yi57 yi58 yi59 yi60 yi61 yi62 yi63 yi64 yi65 yi66 yi67 yi68 yi69 yi70 yi71 yi72 yi73 yi74 yi75 yi76 yi77 yi78 yi79 yi80 yi81 yi82 yi83 yi84 yi85 yi86 yi87 yi88 yi89 yi90 yi91 yi92 yi93 yi94 yi95 yi96 yi97 yi98 yi99 yi100 yi101 yi102 yi103 yi104 yi105 yi106 yi107 yi108 yi109 yi110 yi111 yi112 yi113 yi114 yi115 yi116 yi117 yi118 yi119 yi120 yi121 yi122 yi123 yi124 yi125 yi126 yi127 yi128 yi129 yi130 yi131 yi132 yi133 yi134 yi135 yi136 yi137 yi138 yi139 yi140 yi141 yi142 yi143 yi144 yi145 yi146 yi147 yi148 yi149 yi150 yi151 yi152 yi153 yi154 yi155 yi156 yi157 yi158 yi159 yi160 yi161 yi162 yi163 yi164 yi165 yi166 yi167 yi168 yi169 yi170 yi171 yi172 yi173 yi174 yi175 yi176 yi177 yi178 yi179
        skip
        revert lm cm ms aa ls cs ss W HSS hlm zi0 w1 HK0 w2 HK2 HLI zi1 zi2 wr u2 u4 u5 u6 yi0 u8 u9 u10 u11 u12 u13 u14 u15 u16 zi3 zi4 zi5 zi6 zi7 zi8 zi9 zi10 zi11 zi12 zi13 zi14 zi15 zi16 zi17 zi18 zi19 zi20 zi21 zi22 zi23 zi24 zi25 zi26 zi27 zi28 zi29 zi30 zi31 zi32 zi33 zi34 zi35 zi36 zi37 zi38 zi39 zi40 zi41 zi42 zi43 zi44 zi45 zi46 zi47 zi48 zi49 zi50 zi51 zi52 zi53 zi54 zi55 zi56 zi57 zi58 zi59 zi60 zi61 zi62 zi63 zi64 zi65 zi66 zi67 zi68 zi69 zi70 zi71 zi72 zi73 zi74 zi75 zi76 zi77 zi78 zi79 zi80 zi81 zi82 zi83 zi84 zi85 zi86 zi87 zi88 zi89 zi90 zi91 zi92 zi93 zi94 zi95 zi96 zi97 zi98 zi99 zi100 zi101 zi102 zi103 zi104 zi105 zi106 zi107 zi108 zi109 zi110 zi111 zi112 zi113 zi114 zi115 zi116 zi117 zi118 zi119 zi120 zi121 zi122 zi123 zi124 zi125 zi126 zi127 zi128 zi129 zi130 zi131 zi132 zi133 zi134 zi135 zi136 zi137 zi138 zi139 zi140 zi141 zi142 zi143 zi144 zi145 zi146 zi147 zi148 zi149 zi150 zi151 zi152 zi153 zi154 zi155 zi156 zi157 zi158 zi159 zi160 zi161 zi162 i hi HKR hlt h6 yi1 hd2 bm om HMS HB0 HB2 HBX ab cb au cu k bs us mb mu HA hmb6 hmu6 HKW HK1 zi163 zi164 zi165 zi166 w3 x1 y1 x2 y2 w4 HK4 HX14 HX24 p4 HIN hp5 hp6 w5 E X3 Z1 X4 Z2 kk N1 N2 p5 w6 HXB HK6 HIN6 HX16 HX26 HCS6 hp7 HK46 HBX6 HA6 kO HKO HNM yi2 yi3 yi4 yi5 yi6 yi7 yi8 yi9 yi10 yi11 yi12 yi13 yi14 yi15 yi16 yi17 yi18 yi19 yi20 yi21 yi22 yi23 yi24 yi25 yi26 yi27 yi28 yi29 yi30 yi31 yi32 yi33 yi34 yi35 yi36 yi37 yi38 yi39 yi40 yi41 yi42 yi43 yi44 yi45 yi46 yi47 yi48 yi49 yi50 yi51 yi52 yi53 yi54 yi55 yi56 yi57 yi58 yi59 yi60 yi61 yi62 yi63 yi64 yi65 yi66 yi67 yi68 yi69 yi70 yi71 yi72 yi73 yi74 yi75 yi76 yi77 yi78 yi79 yi80 yi81 yi82 yi83 yi84 yi85 yi86 yi87 yi88 yi89 yi90 yi91 yi92 yi93 yi94 yi95 yi96 yi97 yi98 yi99 yi100 yi101 yi102 yi103 yi104 yi105 yi106 yi107 yi108 yi109 yi110 yi111 yi112 yi113 yi114 yi115 yi116 yi117 yi118 yi119 yi120 yi121 yi122 yi123 yi124 yi125 yi126 yi127 yi128 yi129 yi130 yi131 yi132 yi133 yi134 yi135 yi136 yi137 yi138 yi139 yi140 yi141 yi142 yi143 yi144 yi145 yi146 yi147 yi148 yi149 yi150 yi151 yi152 yi153 yi154 yi155 yi156 yi157 yi158 yi159 yi160 yi161 b7 HB7 i0 HI HCP HTL HNO L w V a13 c13 al HALN HALE HEE w8 HKW6 HAL yi162 wx yi163 yi164 yi165 yi166 yi167 yi168 yi169 yi170 yi171 yi172 yi173 yi174 B HKX hj hjl hd1 hd1i HBM yi175 yi176 yi177 yi178 yi179 pw hpw8 w9 HPW HK89 HBX9 HA9 wc u7 u19 u20 u21 u22 u23 u24 u25 u26 u27 u28 u29 u30 u31 u32 u33 u34 u35 u36 u37 u38 u39 u40 u41 u42 u43 u44 u45 u46 u47 u48 u49 u50 u51 u52 u53 u54 u55 u56 u57 u58 u59 u60 u61 u62 u63 u64 u65 u66 u67 u68 u69 u70 u71 u72 u73 u74 u75 u76 u77 u78 u79 u80 u81 u82 u83 u84 u85 u86 u87 u88 u89 u90 u91 u92 u93 u94 u95 u96 u97 u98 u99 u100 u101 u102 u103 u104 u105 u106 u107 u108 u109 u110 u111 u112 u113 u114 u115 u116 u117 u118 u119 u120 u121 u122 u123 u124 u125 u126 u127 u128 u129 u130 u131 u132 u133 u134 u135 u136 u137 u138 u139 u140 u141 u142 u143 u144 u145 u146 u147 u148 u149 u150 u151 u152 u153 u154 u155 u156 u157 u158 u159 u160 u161 u162 u163 u164 u165 u166 u167 u168 u169 u170 u171 u172 u173 u174 u175 u176 u177 u178 hcut
        exact HCUT0.out
  ⟩
end Go.Proofs.Ythdlmpgojoaijaa
