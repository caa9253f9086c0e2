/- The walk of the law NamesSplit: it answers true and changes nothing that was there (bytealg's limit lies as a number). -/
import Derived.Test.YtjiefcjjgadjiaaDoorNm9
import Derived.Test.YtjiefcjjgadjiaaDoorNm10
import Derived.Test.YtjiefcjjgadjiaaDoorAsk6
import Derived.Test.YtjiefcjjgadjiaaDoorEqS
namespace Go.Proofs.YtjiefcjjgadjiaaDoor
open Go.RowKit Go.Shelf
theorem pcLP_getD (P : ByteArray) (k : Nat) (h : k < cntN P.data.toList) : (pcLP P).getD k ByteArray.empty = pcN P k := by
  unfold pcLP
  simp [List.getD_eq_getElem?_getD, h]
theorem strs_none (w : World) : StrsIn w none 0 [] := ⟨rfl, by omega, (fun s hs => (by cases hs)), 0, 0, fun h => absurd h (Nat.lt_irrefl 0), fun i hi => absurd hi (Nat.not_lt_zero i)⟩
set_option maxRecDepth 100000 in
set_option maxHeartbeats 8000000 in
theorem names_split (a : Option Addr) (l cap : Nat) (ss : List ByteArray) (W : World) (h : TextsIn W a l cap ss) (hm : MaxL W) :
    Calls Tryd.prog 3 #[.agg #[.slice a l cap]] W fun e W' => e = .returned (.bool true) ∧ Below W.heap.size W W' := by
  have HK1 := Lib.hid ((Kept.refl W).alloc (.cells #[.slice a l cap] 24))
  have hB1 := BlockAt.new W #[.slice a l cap] 24
  have HT := Lib.hid h
  have HM := Lib.hid (fun w (k : Kept W w) => hm.kept k)
  clear h hm
  go_enter Tryd.func3, Tryd.ntmps3
  go_upto_region 1 with (fail)
  generalize W.alloc (.cells #[.slice a l cap] 24) = w1 at *
  have HREAD := Lib.hid (fun w (kk : Kept w1 w) => box1 (hB1.kept kk))
  clear hB1
  generalize W.heap.size = p0 at HREAD ⊢
  have c0 := HREAD.out _ (Kept.refl _)
  go_wp2_with fail
  refine (heavy6_any a l cap ss _ (HT.out.kept HK1.out)).mono ?_
  rintro e w2 ⟨he, hk2⟩
  have HK2 := Lib.hid hk2
  clear hk2 c0
  rcases he with rfl | ⟨rfl, hll, hsz⟩
  · go_wp2
    go_ret
    exact ⟨rfl, HK1.out.trans HK2.out⟩
  · have HSZ := Lib.hid hsz
    clear hsz
    go_wp2_with fail
    go_loopw [3] (fun i wr => ∃ j : Nat, j ≤ l ∧ i = .int .i64 j ∧ Kept w1 wr) (fun i _ => l - (intOf i).toNat)
    case atStart => exact ⟨0, by omega, rfl, HK2.out⟩
    case round =>
      obtain ⟨j, hj, rfl, hkr⟩ := hrel
      have HK := Lib.hid hkr
      clear hkr
      obtain ⟨wa, rfl⟩ : ∃ wa, wa = wr := ⟨_, rfl⟩
      have c0 := HREAD.out _ HK.out
      by_cases hjl : j < l
      · have hd1 : decide ((j : Int) < l) = true := decide_eq_true (by omega)
        by_cases hj10 : j < 10
        · obtain ⟨b, off, rfl, hc⟩ := HT.out.cell (by omega)
          have c1 := hc j hjl _ (HK1.out.trans HK.out)
          have hss := HSZ.out j hjl
          clear hc
          generalize ss.getD j ByteArray.empty = s at c1 hss
          have hd2 : decide ((j : Int) < 10) = true := decide_eq_true (by omega)
          go_wp2_with fail
          refine (name_ref s _ (by omega)).mono ?_
          rintro e w5 ⟨hN, hk⟩
          have HK5 := Lib.hid (HK.out.trans hk)
          clear hk c0 c1
          rcases hN with ⟨hok, ax, cx, rfl, hcx, hst⟩ | ⟨hok, rfl⟩
          ·
            have HSP := Lib.hid (show splitV s = .tuple #[.string (pathB s), .string (verOf s), .int .i64 0] by unfold splitV; rw [if_pos hok])
            have HFV := Lib.hid (show fullV s = if (fullB s).size ≤ 40 then .tuple #[.string (fullB s), .int .i64 0] else .tuple #[.string ⟨#[]⟩, .int .i64 2] by unfold fullV; rw [if_pos hok])
            have HSPL := Lib.hid (fun w (hm : MaxL w) => split_nm s w (by omega) hm)
            have HPA := Lib.hid (fun w (hm : MaxL w) => nparts_good s w (by omega) hm hok)
            have HFL := Lib.hid (fun w (hm : MaxL w) => full_nm s w (by omega) hm)
            have HCK := Lib.hid (fun w (hm : MaxL w) => check_nm s w (by omega) hm)
            rw [show checkV s = 0 by unfold checkV; rw [if_pos hok]] at HCK
            rw [show pcL s = pcLP (pathB s) from rfl] at HPA
            rw [HSP.out] at HSPL
            rw [HFV.out] at HFL
            rw [show fullB s = (pathB s ++ ⟨#[58]⟩) ++ verOf s from rfl] at HFL
            have hps := pathB_size s
            have hvs := verOf_size s
            clear HSP HFV hok
            generalize pathB s = P at *
            generalize verOf s = V at *
            have HJ0 := headB_one P
            have HJA := headB_all P
            have HJS := headB_succ P
            have HJL := headB_size P
            have HNP := Lib.hid (cntN_pos P.data.toList)
            have HNL := Lib.hid (show cntN P.data.toList ≤ 6001 by have := cntN_le P.data.toList; have := len_size P; omega)
            have HJ0 := Lib.hid HJ0
            have HJA := Lib.hid HJA
            have HJS := Lib.hid HJS
            have HJL := Lib.hid HJL
            have HST := Lib.hid hst
            clear hst hcx
            have HGD := Lib.hid (fun k hk => pcLP_getD P k hk)
            have hps : P.size ≤ 6000 := by omega
            have hvs : V.size ≤ 6006 := by omega
            clear hss
            obtain ⟨N, hNN⟩ : ∃ N, cntN P.data.toList = N := ⟨_, rfl⟩
            rw [hNN] at HPA HJA HJS HNP HNL HGD HST ⊢
            clear hNN
            go_wp2_with fail
            go_loopw [8, 9] (fun h i wr => ∃ k : Nat, k ≤ N ∧ h = .string (headB P k) ∧ i = .int .i64 k ∧ Kept w5 wr) (fun _ i _ => N - (intOf i).toNat)
            case atStart => exact ⟨0, by omega, rfl, rfl, Kept.refl _⟩
            case round =>
              obtain ⟨k, hk, rfl, rfl, hkr⟩ := hrel
              have HKB := Lib.hid hkr
              clear hkr
              obtain ⟨wb, rfl⟩ : ∃ wb, wb = wr := ⟨_, rfl⟩
              have hN1 := HNL.out
              by_cases hkN : k < N
              · have hd3 : decide ((k : Int) < N) = true := decide_eq_true (by omega)
                obtain ⟨bx, ox, rfl, hcx⟩ := HST.out.at (by omega)
                have c2 := hcx k hkN _ HKB.out
                rw [HGD.out k hkN] at c2
                clear hcx
                have hz1 := HJL.out k
                have hz2 := pcN_size P k
                have hz3 := HJL.out (k + 1)
                by_cases hk0 : k = 0
                · have hA : ∀ w : World, (Op.stringOp .add (headB P k) (pcN P k)).run Tryd.prog w = .ok (.string (headB P (k + 1))) w := fun w => by
                    subst hk0
                    rw [← HJ0.out]
                    exact run_string_add_sum _ _ _ (by omega)
                  have hd4 : decide ((0 : Int) < k) = false := decide_eq_false (by omega)
                  have hd4n : ¬ 0 < k := by omega
                  clear hz1 hz2 hz3 hk0
                  obtain ⟨h1, hh1⟩ : ∃ h1, headB P (k + 1) = h1 := ⟨_, rfl⟩
                  rw [hh1] at hA
                  have HH1 := Lib.hid hh1
                  clear hh1
                  generalize headB P k = h0 at *
                  generalize pcN P k = t0 at *
                  go_wp2
                  go_roundw
                  case rel => exact ⟨k + 1, by omega, by rw [HH1.out], by go_num, HKB.out⟩
                  case measure => simp [intOf]; omega
                · obtain ⟨h2, hh2⟩ : ∃ h2, headB P k ++ (⟨#[47]⟩ : ByteArray) = h2 := ⟨_, rfl⟩
                  have hz4 : h2.size = (headB P k).size + 1 := by rw [← hh2, ByteArray.size_append]; rfl
                  have hA1 : ∀ w : World, (Op.stringOp .add (headB P k) ⟨#[47]⟩).run Tryd.prog w = .ok (.string h2) w := fun w => by rw [← hh2]; exact run_string_add_sum _ _ _ (by show (headB P k).size + 1 ≤ _; omega)
                  have hA2 : ∀ w : World, (Op.stringOp .add h2 (pcN P k)).run Tryd.prog w = .ok (.string (headB P (k + 1))) w := fun w => by
                    rw [← HJS.out k (by omega) hkN, hh2]
                    exact run_string_add_sum _ _ _ (by omega)
                  have hd4 : decide ((0 : Int) < k) = true := decide_eq_true (by omega)
                  have hd4n : 0 < k := by omega
                  clear hz1 hz2 hz3 hz4 hk0 hh2
                  obtain ⟨h1, hh1⟩ : ∃ h1, headB P (k + 1) = h1 := ⟨_, rfl⟩
                  rw [hh1] at hA2
                  have HH1 := Lib.hid hh1
                  clear hh1
                  generalize headB P k = h0 at *
                  generalize pcN P k = t0 at *
                  go_wp2
                  go_roundw
                  case rel => exact ⟨k + 1, by omega, by rw [HH1.out], by go_num, HKB.out⟩
                  case measure => simp [intOf]; omega
              · obtain rfl : k = N := by omega
                rw [HJA.out]
                have hd3 : decide ((k : Int) < k) = false := decide_eq_false (by omega)
                have HLX := Lib.hid (HST.out.kept HKB.out)
                have HK5a := Lib.hid (HK5.out.trans HKB.out)
                clear HK5
                have HK5 := Lib.hid HK5a.out
                clear HK5a hk hkN
                obtain ⟨Q, hQ⟩ : ∃ Q, P ++ (⟨#[58]⟩ : ByteArray) = Q := ⟨_, rfl⟩
                have hQs : Q.size = P.size + 1 := by rw [← hQ, ByteArray.size_append]; rfl
                obtain ⟨F, hF⟩ : ∃ F, Q ++ V = F := ⟨_, rfl⟩
                have hFs : F.size = P.size + 1 + V.size := by rw [← hF, ByteArray.size_append, hQs]
                rw [hQ, hF] at HFL
                have hA1 : ∀ w : World, (Op.stringOp .add P ⟨#[58]⟩).run Tryd.prog w = .ok (.string Q) w := fun w => by rw [← hQ]; exact run_string_add_sum _ _ _ (by show P.size + 1 ≤ _; omega)
                have hA2 : ∀ w : World, (Op.stringOp .add Q V).run Tryd.prog w = .ok (.string F) w := fun w => by rw [← hF]; exact run_string_add_sum _ _ _ (by omega)
                by_cases h40 : F.size ≤ 40
                · rw [if_pos h40] at HFL
                  have hd5 : decide ((P.size : Int) + 1 + V.size ≤ 40) = true := decide_eq_true (by omega)
                  clear hQ hF hQs hFs h40
                  go_wp2_with fail
                  refine (HSPL.out _ (HM.out _ (HK1.out.trans HK5.out))).mono ?_
                  rintro e w6 ⟨rfl, hk⟩
                  have HK6 := Lib.hid (HK5.out.trans hk)
                  have HLX6 := Lib.hid (HLX.out.kept hk)
                  clear hk
                  go_wp2_with fail
                  refine (HPA.out _ (HM.out _ (HK1.out.trans HK6.out))).mono ?_
                  rintro e w7 ⟨⟨g, cg, rfl, hsg, hgb, cg9, hbg⟩, hk⟩
                  have HK7 := Lib.hid (HK6.out.trans hk)
                  have HSG7 := Lib.hid hsg
                  have HBG7 := Lib.hid hbg
                  have HGB := Lib.hid (show w1.heap.size ≤ g by have := HK6.out.size; omega)
                  have HLX7 := Lib.hid (HLX6.out.kept hk)
                  clear hk hsg hbg hgb
                  go_wp2_with fail
                  refine (HFL.out _ (HM.out _ (HK1.out.trans HK7.out))).mono ?_
                  rintro e w8 ⟨rfl, hk⟩
                  have HK8 := Lib.hid (HK7.out.trans hk)
                  have HSG8 := Lib.hid (HSG7.out.kept hk)
                  have HBG8 := Lib.hid (HBG7.out.kept hk)
                  have HLX8 := Lib.hid (HLX7.out.kept hk)
                  clear hk
                  go_wp2_with fail
                  refine (HCK.out _ (HM.out _ (HK1.out.trans HK8.out))).mono ?_
                  rintro e w9 ⟨rfl, hk⟩
                  have HK9 := Lib.hid (HK8.out.trans hk)
                  have HSG9 := Lib.hid (HSG8.out.kept hk)
                  have HBG9 := Lib.hid (HBG8.out.kept hk)
                  have HLX9 := Lib.hid (HLX8.out.kept hk)
                  clear hk
                  go_wp2_with fail
                  refine (num19_any _ _).mono ?_
                  rintro e w' ⟨rfl, rfl⟩
                  go_wp2_with fail
                  refine (num19_any _ _).mono ?_
                  rintro e w' ⟨rfl, rfl⟩
                  go_wp2_with fail
                  refine (num19_any _ _).mono ?_
                  rintro e w' ⟨rfl, rfl⟩
                  go_wp2_with fail
                  refine (num19_any _ _).mono ?_
                  rintro e w' ⟨rfl, rfl⟩
                  go_wp2_with fail
                  refine (eq_strings _ _ _ _ _ _ _ HSG9.out HLX9.out).mono ?_
                  rintro e w10 ⟨rfl, hk⟩
                  have HK10 := Lib.hid (HK9.out.trans hk)
                  have HSG10 := Lib.hid (HSG9.out.kept hk)
                  have HBG10 := Lib.hid (HBG9.out.kept hk)
                  clear hk
                  obtain ⟨bg, og, hbo, hcg⟩ := HSG10.out.at HNP.out
                  obtain ⟨rfl, rfl⟩ : g = bg ∧ og = 0 := by have := Option.some.inj hbo; cases this; exact ⟨rfl, rfl⟩
                  have HCG := Lib.hid (fun i hi => by have := hcg i hi _ (Kept.refl _); rwa [Nat.zero_add] at this)
                  clear hbo hcg
                  go_wp2_with fail
                  refine (spoil_nm g k cg (fun i => (pcLP P).getD i ByteArray.empty) (by have := HNL.out; omega) _ ⟨_, HBG10.out⟩ (fun i hi => HCG.out i hi)).mono ?_
                  rintro e w11 ⟨⟨u11, rfl⟩, hg⟩
                  have HK11 := Lib.hid (kept_gr1 HK10.out hg (fun k e => by cases e; exact HGB.out) (Nat.le_refl _))
                  clear hg
                  go_wp2
                  go_roundw
                  case rel => exact ⟨j + 1, by omega, by go_num, HK11.out⟩
                  case measure => simp [intOf]; omega
                · rw [if_neg h40] at HFL
                  have hd5 : decide ((P.size : Int) + 1 + V.size ≤ 40) = false := decide_eq_false (by omega)
                  clear hQ hF hQs hFs h40 hA1 hA2
                  go_wp2_with fail
                  refine (HSPL.out _ (HM.out _ (HK1.out.trans HK5.out))).mono ?_
                  rintro e w6 ⟨rfl, hk⟩
                  have HK6 := Lib.hid (HK5.out.trans hk)
                  have HLX6 := Lib.hid (HLX.out.kept hk)
                  clear hk
                  go_wp2_with fail
                  refine (HPA.out _ (HM.out _ (HK1.out.trans HK6.out))).mono ?_
                  rintro e w7 ⟨⟨g, cg, rfl, hsg, hgb, cg9, hbg⟩, hk⟩
                  have HK7 := Lib.hid (HK6.out.trans hk)
                  have HSG7 := Lib.hid hsg
                  have HBG7 := Lib.hid hbg
                  have HGB := Lib.hid (show w1.heap.size ≤ g by have := HK6.out.size; omega)
                  have HLX7 := Lib.hid (HLX6.out.kept hk)
                  clear hk hsg hbg hgb
                  go_wp2_with fail
                  refine (HFL.out _ (HM.out _ (HK1.out.trans HK7.out))).mono ?_
                  rintro e w8 ⟨rfl, hk⟩
                  have HK8 := Lib.hid (HK7.out.trans hk)
                  have HSG8 := Lib.hid (HSG7.out.kept hk)
                  have HBG8 := Lib.hid (HBG7.out.kept hk)
                  have HLX8 := Lib.hid (HLX7.out.kept hk)
                  clear hk
                  go_wp2_with fail
                  refine (HCK.out _ (HM.out _ (HK1.out.trans HK8.out))).mono ?_
                  rintro e w9 ⟨rfl, hk⟩
                  have HK9 := Lib.hid (HK8.out.trans hk)
                  have HSG9 := Lib.hid (HSG8.out.kept hk)
                  have HBG9 := Lib.hid (HBG8.out.kept hk)
                  have HLX9 := Lib.hid (HLX8.out.kept hk)
                  clear hk
                  go_wp2_with fail
                  refine (num19_any _ _).mono ?_
                  rintro e w' ⟨rfl, rfl⟩
                  go_wp2_with fail
                  refine (num19_any _ _).mono ?_
                  rintro e w' ⟨rfl, rfl⟩
                  go_wp2_with fail
                  refine (num19_any _ _).mono ?_
                  rintro e w' ⟨rfl, rfl⟩
                  go_wp2_with fail
                  refine (num19_any _ _).mono ?_
                  rintro e w' ⟨rfl, rfl⟩
                  go_wp2_with fail
                  refine (eq_strings _ _ _ _ _ _ _ HSG9.out HLX9.out).mono ?_
                  rintro e w10 ⟨rfl, hk⟩
                  have HK10 := Lib.hid (HK9.out.trans hk)
                  have HSG10 := Lib.hid (HSG9.out.kept hk)
                  have HBG10 := Lib.hid (HBG9.out.kept hk)
                  clear hk
                  obtain ⟨bg, og, hbo, hcg⟩ := HSG10.out.at HNP.out
                  obtain ⟨rfl, rfl⟩ : g = bg ∧ og = 0 := by have := Option.some.inj hbo; cases this; exact ⟨rfl, rfl⟩
                  have HCG := Lib.hid (fun i hi => by have := hcg i hi _ (Kept.refl _); rwa [Nat.zero_add] at this)
                  clear hbo hcg
                  go_wp2_with fail
                  refine (spoil_nm g k cg (fun i => (pcLP P).getD i ByteArray.empty) (by have := HNL.out; omega) _ ⟨_, HBG10.out⟩ (fun i hi => HCG.out i hi)).mono ?_
                  rintro e w11 ⟨⟨u11, rfl⟩, hg⟩
                  have HK11 := Lib.hid (kept_gr1 HK10.out hg (fun k e => by cases e; exact HGB.out) (Nat.le_refl _))
                  clear hg
                  go_wp2
                  go_roundw
                  case rel => exact ⟨j + 1, by omega, by go_num, HK11.out⟩
                  case measure => simp [intOf]; omega
          ·
            have HSPL := Lib.hid (fun w (hm : MaxL w) => split_nm s w (by omega) hm)
            have HPA := Lib.hid (fun w (hm : MaxL w) => nparts_bad s w (by omega) hm hok)
            have HFL := Lib.hid (fun w (hm : MaxL w) => full_nm s w (by omega) hm)
            have HCK := Lib.hid (fun w (hm : MaxL w) => check_nm s w (by omega) hm)
            rw [show checkV s = 7 by unfold checkV; rw [hok]; rfl] at HCK
            rw [show splitV s = .tuple #[.string ⟨#[]⟩, .string ⟨#[]⟩, .int .i64 7] by unfold splitV; rw [hok]; rfl] at HSPL
            rw [show fullV s = .tuple #[.string ⟨#[]⟩, .int .i64 7] by unfold fullV; rw [hok]; rfl] at HFL
            clear hok hss
            go_wp2_with fail
            go_loopw [8, 9] (fun h i wr => h = .string ⟨#[]⟩ ∧ i = .int .i64 0 ∧ w5 = wr) (fun _ _ _ => 0)
            case atStart => exact ⟨rfl, rfl, rfl⟩
            case round =>
              obtain ⟨rfl, rfl, rfl⟩ := hrel
              go_wp2_with fail
              refine (HSPL.out _ (HM.out _ (HK1.out.trans HK5.out))).mono ?_
              rintro e w6 ⟨rfl, hk⟩
              have HK6 := Lib.hid (HK5.out.trans hk)
              clear hk
              go_wp2_with fail
              refine (HPA.out _ (HM.out _ (HK1.out.trans HK6.out))).mono ?_
              rintro e w7 ⟨rfl, hk⟩
              have HK7 := Lib.hid (HK6.out.trans hk)
              clear hk
              go_wp2_with fail
              refine (HFL.out _ (HM.out _ (HK1.out.trans HK7.out))).mono ?_
              rintro e w8 ⟨rfl, hk⟩
              have HK8 := Lib.hid (HK7.out.trans hk)
              clear hk
              go_wp2_with fail
              refine (HCK.out _ (HM.out _ (HK1.out.trans HK8.out))).mono ?_
              rintro e w9 ⟨rfl, hk⟩
              have HK9 := Lib.hid (HK8.out.trans hk)
              clear hk
              go_wp2_with fail
              refine (num19_any _ _).mono ?_
              rintro e w' ⟨rfl, rfl⟩
              go_wp2_with fail
              refine (num19_any _ _).mono ?_
              rintro e w' ⟨rfl, rfl⟩
              go_wp2_with fail
              refine (num19_any _ _).mono ?_
              rintro e w' ⟨rfl, rfl⟩
              go_wp2_with fail
              refine (num19_any _ _).mono ?_
              rintro e w' ⟨rfl, rfl⟩
              go_wp2_with fail
              refine (eq_strings none none 0 0 0 [] _ (strs_none _) (strs_none _)).mono ?_
              rintro e w10 ⟨rfl, hk⟩
              have HK10 := Lib.hid (HK9.out.trans hk)
              clear hk
              go_wp2_with fail
              refine (spoil_none _).mono ?_
              rintro e w11 ⟨⟨u11, rfl⟩, rfl⟩
              go_wp2
              go_roundw
              case rel => exact ⟨j + 1, by omega, by go_num, HK10.out⟩
              case measure => simp [intOf]; omega
        · have hd2 : decide ((j : Int) < 10) = false := decide_eq_false (by omega)
          go_wp2_with fail
          refine (wakes19_any _ (HM.out _ (HK1.out.trans HK.out))).mono ?_
          rintro e w5 ⟨rfl, hk⟩
          have HK5 := Lib.hid (HK.out.trans hk)
          clear hk c0
          go_wp2
          go_ret
          exact ⟨rfl, HK1.out.trans HK5.out⟩
      · have hd1 : decide ((j : Int) < l) = false := decide_eq_false (by omega)
        go_wp2_with fail
        refine (wakes19_any _ (HM.out _ (HK1.out.trans HK.out))).mono ?_
        rintro e w5 ⟨rfl, hk⟩
        have HK5 := Lib.hid (HK.out.trans hk)
        clear hk c0
        go_wp2
        go_ret
        exact ⟨rfl, HK1.out.trans HK5.out⟩
end Go.Proofs.YtjiefcjjgadjiaaDoor
