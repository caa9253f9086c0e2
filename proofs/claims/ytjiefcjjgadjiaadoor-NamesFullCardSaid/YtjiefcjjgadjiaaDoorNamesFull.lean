/- The walk of the law NamesFull: it answers true and changes nothing that was there (bytealg's limit lies as a number). -/
import Derived.Test.YtjiefcjjgadjiaaDoorNm9
import Derived.Test.YtjiefcjjgadjiaaDoorNm11
import Derived.Test.YtjiefcjjgadjiaaDoorAsk6
import Derived.Test.YtjiefcjjgadjiaaDoorEqS
namespace Go.Proofs.YtjiefcjjgadjiaaDoor
open Go.RowKit Go.Shelf
theorem pcLP_getD (P : ByteArray) (k : Nat) (h : k < cntN P.data.toList) : (pcLP P).getD k ByteArray.empty = pcN P k := by
  unfold pcLP
  simp [List.getD_eq_getElem?_getD, h]
set_option maxRecDepth 100000 in
set_option maxHeartbeats 8000000 in
theorem names_full (a : Option Addr) (l cap : Nat) (ss : List ByteArray) (W : World) (h : TextsIn W a l cap ss) (hm : MaxL W) :
    Calls Tryd.prog 5 #[.agg #[.slice a l cap]] W fun e W' => e = .returned (.bool true) ∧ Below W.heap.size W W' := by
  have HK1 := Lib.hid ((Kept.refl W).alloc (.cells #[.slice a l cap] 24))
  have hB1 := BlockAt.new W #[.slice a l cap] 24
  have HT := Lib.hid h
  have HM := Lib.hid (fun w (k : Kept W w) => hm.kept k)
  clear h hm
  go_enter Tryd.func5, Tryd.ntmps5
  go_upto_region 1 with (fail)
  generalize W.alloc (.cells #[.slice a l cap] 24) = w1 at *
  have HREAD := Lib.hid (fun w (kk : Kept w1 w) => box1 (hB1.kept kk))
  clear hB1
  generalize W.heap.size = p0 at HREAD ⊢
  have c0 := HREAD.out _ (Kept.refl _)
  go_wp2_with fail
  refine (heavy6_any a l cap ss _ (HT.out.kept HK1.out)).mono ?_
  rintro e w2 ⟨he, hk2⟩
  have HK2 := Lib.hid hk2
  clear hk2 c0
  rcases he with rfl | ⟨rfl, hll, hsz⟩
  · go_wp2
    go_ret
    exact ⟨rfl, HK1.out.trans HK2.out⟩
  · have HSZ := Lib.hid hsz
    clear hsz
    go_wp2_with fail
    go_loopw [3] (fun i wr => ∃ j : Nat, j ≤ l ∧ i = .int .i64 j ∧ Kept w1 wr) (fun i _ => l - (intOf i).toNat)
    case atStart => exact ⟨0, by omega, rfl, HK2.out⟩
    case round =>
      obtain ⟨j, hj, rfl, hkr⟩ := hrel
      have HK := Lib.hid hkr
      clear hkr
      obtain ⟨wa, rfl⟩ : ∃ wa, wa = wr := ⟨_, rfl⟩
      have c0 := HREAD.out _ HK.out
      by_cases hjl : j < l
      · have hd1 : decide ((j : Int) < l) = true := decide_eq_true (by omega)
        by_cases hj10 : j < 10
        · obtain ⟨b, off, rfl, hc⟩ := HT.out.cell (by omega)
          have c1 := hc j hjl _ (HK1.out.trans HK.out)
          have hss := HSZ.out j hjl
          clear hc
          generalize ss.getD j ByteArray.empty = s at c1 hss
          have hd2 : decide ((j : Int) < 10) = true := decide_eq_true (by omega)
          have HF0 := Lib.hid (fun w (hm : MaxL w) => full_nm s w (by omega) hm)
          cases hok : nameB s with
          | true =>
            by_cases h40 : (fullB s).size ≤ 40
            ·
              have HT40 := Lib.hid h40
              have ht1 := full_name s hok h40
              have ht2 := full_path s
              have ht3 := full_ver s
              have ht4 := full_full s
              have hts := full_size s
              have HFL := Lib.hid (fun w (hm : MaxL w) => full_nm (fullB s) w (by omega) hm)
              have HSPL := Lib.hid (fun w (hm : MaxL w) => split_nm (fullB s) w (by omega) hm)
              have HPA := Lib.hid (fun w (hm : MaxL w) => nparts_good (fullB s) w (by omega) hm ht1)
              have HGS := Lib.hid (fun w => glob_good (fullB s) (fullB s) w h40 h40)
              have HG2 := Lib.hid (fun w => glob_good ⟨#[42, 42]⟩ (fullB s) w (by decide) h40)
              rw [show fullV (fullB s) = .tuple #[.string (fullB s), .int .i64 0] by unfold fullV; rw [if_pos ht1, ht4, if_pos h40]] at HFL
              rw [show splitV (fullB s) = .tuple #[.string (pathB s), .string (verOf s), .int .i64 0] by unfold splitV; rw [if_pos ht1, ht2, ht3]] at HSPL
              rw [show pcL (fullB s) = pcLP (pathB s) by unfold pcL; rw [ht2], ht2] at HPA
              rw [glob_self] at HGS
              rw [glob_stars] at HG2
              have hA : ∀ w : World, (Op.stringOp .add (pathB s) ⟨#[58]⟩).run Tryd.prog w = .ok (.string (pathB s ++ ⟨#[58]⟩)) w := fun w => run_string_add_sum _ _ _ (by show (pathB s).size + 1 ≤ _; omega)
              have hB : ∀ w : World, (Op.stringOp .add (pathB s ++ ⟨#[58]⟩) (verOf s)).run Tryd.prog w = .ok (.string (fullB s)) w := fun w => run_string_add_sum _ _ _ (by rw [ByteArray.size_append]; show (pathB s).size + 1 + (verOf s).size ≤ _; omega)
              have hps : (pathB s).size ≤ 40 := by omega
              clear ht1 ht2 ht3 ht4 hts
              rw [show fullV s = .tuple #[.string (fullB s), .int .i64 0] by unfold fullV; rw [if_pos hok, if_pos h40]] at HF0
              clear hok h40 hss
              generalize fullB s = t at *
              generalize verOf s = V at *
              generalize pathB s = P at *
              generalize hQ : P ++ (⟨#[58]⟩ : ByteArray) = Q at *
              clear hQ
              have HJ0 := Lib.hid (headB_one P)
              have HJA := Lib.hid (headB_all P)
              have HJS := Lib.hid (headB_succ P)
              have HJL := Lib.hid (headB_size P)
              have hNp := cntN_pos P.data.toList
              have hNl : cntN P.data.toList ≤ 41 := by have := cntN_le P.data.toList; have := len_size P; omega
              have HGD := Lib.hid (fun k hk => pcLP_getD P k hk)
              obtain ⟨N, hNN⟩ : ∃ N, cntN P.data.toList = N := ⟨_, rfl⟩
              rw [hNN] at HPA HJA HJS hNp hNl HGD
              clear hNN
              have hn0 : ((N : Int) == 0) = false := beq_eq_false_iff_ne.2 (by omega)
              have hn1 : decide ((N : Int) = 0) = false := decide_eq_false (by omega)
              have hn2 : ¬ N = 0 := by omega
              go_wp2_with fail
              refine (HF0.out _ (HM.out _ (HK1.out.trans HK.out))).mono ?_
              rintro e w5 ⟨rfl, hk⟩
              have HK5 := Lib.hid (HK.out.trans hk)
              clear hk c0 c1
              go_wp2_with fail
              refine (num19_any _ _).mono ?_
              rintro e w' ⟨rfl, rfl⟩
              go_wp2_with fail
              refine (HFL.out _ (HM.out _ (HK1.out.trans HK5.out))).mono ?_
              rintro e w6 ⟨rfl, hk⟩
              have HK6 := Lib.hid (HK5.out.trans hk)
              clear hk
              go_wp2_with fail
              refine (HSPL.out _ (HM.out _ (HK1.out.trans HK6.out))).mono ?_
              rintro e w7 ⟨rfl, hk⟩
              have HK7 := Lib.hid (HK6.out.trans hk)
              clear hk
              go_wp2_with fail
              refine (HPA.out _ (HM.out _ (HK1.out.trans HK7.out))).mono ?_
              rintro e w8 ⟨⟨g, cg, rfl, hsg, hgb, cg9, hbg⟩, hk⟩
              have HK8 := Lib.hid (HK7.out.trans hk)
              have HSG8 := Lib.hid hsg
              clear hk hsg hgb hbg cg9
              go_wp2_with fail
              refine (HGS.out _).mono ?_
              rintro e w9 ⟨rfl, hk⟩
              have HK9 := Lib.hid (HK8.out.trans hk)
              have HSG9 := Lib.hid (HSG8.out.kept hk)
              clear hk
              go_wp2_with fail
              refine (HG2.out _).mono ?_
              rintro e w10 ⟨rfl, hk⟩
              have HK10 := Lib.hid (HK9.out.trans hk)
              have HSG10 := Lib.hid (HSG9.out.kept hk)
              clear hk
              go_wp2_with fail
              refine (num19_any _ _).mono ?_
              rintro e w' ⟨rfl, rfl⟩
              go_wp2_with fail
              refine (num19_any _ _).mono ?_
              rintro e w' ⟨rfl, rfl⟩
              go_wp2_with fail
              refine (num19_any _ _).mono ?_
              rintro e w' ⟨rfl, rfl⟩
              go_wp2_with fail
              refine (num19_any _ _).mono ?_
              rintro e w' ⟨rfl, rfl⟩
              go_wp2_with fail
              refine (num19_any _ _).mono ?_
              rintro e w' ⟨rfl, rfl⟩
              obtain ⟨bx, ox, hbo, hcx⟩ := HSG10.out.at hNp
              obtain ⟨rfl, rfl⟩ : g = bx ∧ ox = 0 := by have := Option.some.inj hbo; cases this; exact ⟨rfl, rfl⟩
              have HCX := Lib.hid (fun k (hk : k < N) w (kk : Kept w10 w) => by have h1 := hcx k hk w kk; rw [HGD.out k hk, Nat.zero_add] at h1; exact h1)
              clear hbo hcx
              have c2 := HCX.out 0 hNp _ (Kept.refl _)
              obtain ⟨q0, hq0⟩ : ∃ q0, pcN P 0 = q0 := ⟨_, rfl⟩
              rw [hq0] at c2
              have HQ0 := Lib.hid (show q0 = headB P 1 by rw [← hq0, ← HJ0.out]; show _ = ByteArray.empty ++ pcN P 0; rw [ByteArray.empty_append])
              clear hq0
              go_wp2_with fail
              clear c2
              obtain ⟨wo, rfl⟩ : ∃ wo, wo = w10 := ⟨_, rfl⟩
              go_loopw [17, 18] (fun h i wr => ∃ k : Nat, 1 ≤ k ∧ k ≤ N ∧ h = .string (headB P k) ∧ i = .int .i64 k ∧ Kept wo wr) (fun _ i _ => N - (intOf i).toNat)
              case atStart => exact ⟨1, Nat.le_refl _, hNp, by rw [HQ0.out], rfl, Kept.refl _⟩
              case round =>
                obtain ⟨k, hk1, hk, rfl, rfl, hkr⟩ := hrel
                have HKB := Lib.hid hkr
                clear hkr
                obtain ⟨wb, rfl⟩ : ∃ wb, wb = wr := ⟨_, rfl⟩
                by_cases hkN : k < N
                · have hd3 : decide ((k : Int) < N) = true := decide_eq_true (by omega)
                  have c2 := HCX.out k hkN _ HKB.out
                  have hz1 := HJL.out k
                  have hz2 := pcN_size P k
                  have hz3 := HJL.out (k + 1)
                  obtain ⟨h2, hh2⟩ : ∃ h2, headB P k ++ (⟨#[47]⟩ : ByteArray) = h2 := ⟨_, rfl⟩
                  have hz4 : h2.size = (headB P k).size + 1 := by rw [← hh2, ByteArray.size_append]; rfl
                  have hA1 : ∀ w : World, (Op.stringOp .add (headB P k) ⟨#[47]⟩).run Tryd.prog w = .ok (.string h2) w := fun w => by rw [← hh2]; exact run_string_add_sum _ _ _ (by show (headB P k).size + 1 ≤ _; omega)
                  have hA2 : ∀ w : World, (Op.stringOp .add h2 (pcN P k)).run Tryd.prog w = .ok (.string (headB P (k + 1))) w := fun w => by
                    rw [← HJS.out k (by omega) hkN, hh2]
                    exact run_string_add_sum _ _ _ (by omega)
                  clear hz1 hz2 hz3 hz4 hh2
                  obtain ⟨h1, hh1⟩ : ∃ h1, headB P (k + 1) = h1 := ⟨_, rfl⟩
                  rw [hh1] at hA2
                  have HH1 := Lib.hid hh1
                  clear hh1
                  generalize headB P k = h0 at *
                  generalize pcN P k = t0 at *
                  go_wp2
                  go_roundw
                  case rel => exact ⟨k + 1, by omega, by omega, by rw [HH1.out], by go_num, HKB.out⟩
                  case measure => simp [intOf]; omega
                · obtain rfl : k = N := by omega
                  rw [HJA.out]
                  have hd3 : decide ((k : Int) < k) = false := decide_eq_false (by omega)
                  have HK11 := Lib.hid (HK10.out.trans HKB.out)
                  go_wp2
                  go_roundw
                  case rel => exact ⟨j + 1, by omega, by go_num, HK11.out⟩
                  case measure => simp [intOf]; omega
            ·
              have HE := Lib.hid (show fullV s = .tuple #[.string ⟨#[]⟩, .int .i64 2] by unfold fullV; rw [if_pos hok, if_neg h40])
              rw [HE.out] at HF0
              clear HE hok hss
              go_wp2_with fail
              refine (HF0.out _ (HM.out _ (HK1.out.trans HK.out))).mono ?_
              rintro e w5 ⟨rfl, hk⟩
              have HK5 := Lib.hid (HK.out.trans hk)
              clear hk c0 c1
              go_wp2_with fail
              refine (num19_any _ _).mono ?_
              rintro e w' ⟨rfl, rfl⟩
              go_wp2
              go_roundw
              case rel => exact ⟨j + 1, by omega, by go_num, HK5.out⟩
              case measure => simp [intOf]; omega
          | false =>
            have HE := Lib.hid (show fullV s = .tuple #[.string ⟨#[]⟩, .int .i64 7] by unfold fullV; rw [hok]; rfl)
            rw [HE.out] at HF0
            clear HE hok hss
            go_wp2_with fail
            refine (HF0.out _ (HM.out _ (HK1.out.trans HK.out))).mono ?_
            rintro e w5 ⟨rfl, hk⟩
            have HK5 := Lib.hid (HK.out.trans hk)
            clear hk c0 c1
            go_wp2_with fail
            refine (num19_any _ _).mono ?_
            rintro e w' ⟨rfl, rfl⟩
            go_wp2
            go_roundw
            case rel => exact ⟨j + 1, by omega, by go_num, HK5.out⟩
            case measure => simp [intOf]; omega
        · have hd2 : decide ((j : Int) < 10) = false := decide_eq_false (by omega)
          go_wp2_with fail
          refine (wakes19_any _ (HM.out _ (HK1.out.trans HK.out))).mono ?_
          rintro e w5 ⟨rfl, hk⟩
          have HK5 := Lib.hid (HK.out.trans hk)
          clear hk c0
          go_wp2
          go_ret
          exact ⟨rfl, HK1.out.trans HK5.out⟩
      · have hd1 : decide ((j : Int) < l) = false := decide_eq_false (by omega)
        go_wp2_with fail
        refine (wakes19_any _ (HM.out _ (HK1.out.trans HK.out))).mono ?_
        rintro e w5 ⟨rfl, hk⟩
        have HK5 := Lib.hid (HK.out.trans hk)
        clear hk c0
        go_wp2
        go_ret
        exact ⟨rfl, HK1.out.trans HK5.out⟩
end Go.Proofs.YtjiefcjjgadjiaaDoor
