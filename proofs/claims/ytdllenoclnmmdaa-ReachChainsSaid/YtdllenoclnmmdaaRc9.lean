/- The law ReachChains. -/
import Derived.Test.YtdllenoclnmmdaaGz
import Derived.Test.YtdllenoclnmmdaaGc
import Derived.Test.YtdllenoclnmmdaaCsx
import Derived.Test.YtdllenoclnmmdaaGx
namespace Go.Proofs.Ytdllenoclnmmdaa
open Go.RowKit Go.Shelf
attribute [local go_sem] Oper.semAt_some

set_option maxRecDepth 100000 in
set_option maxHeartbeats 8000000 in
theorem reach_chains (am : Option Addr) (lm cm : Nat) (tt : List (List Th)) (aa : Option Addr) (ls cs : Nat) (ss : List ByteArray) (wo : World) (hm : TtsIn wo am lm tt) (hs : TextsIn wo aa ls cs ss) :
    Calls Try.prog 6 #[.agg #[.slice am lm cm, .slice aa ls cs]] wo fun e w' => e = .returned (.bool true) ∧ Kept wo w' := by
  have HMS := Lib.hid hm
  have HSS := Lib.hid hs
  have HB0 := Lib.hid (BlockAt.new wo #[.slice am lm cm, .slice aa ls cs] 44)
  have HK0 := Lib.hid ((Kept.refl wo).alloc (.cells #[.slice am lm cm, .slice aa ls cs] 44))
  clear hm hs
  go_enter Try.func6, Try.ntmps6
  go_upto_region 1 with (fail)
  generalize wo.alloc (.cells #[.slice am lm cm, .slice aa ls cs] 44) = w1 at *
  have HBX0 := Lib.hid (show ∀ w, Kept w1 w → w.cell? ⟨wo.heap.size, 0, none⟩ = some (.slice am lm cm) ∧ w.cell? ⟨wo.heap.size, 1, none⟩ = some (.slice aa ls cs) from fun w k => ⟨(HB0.out.kept k).cell 0, (HB0.out.kept k).cell 1⟩)
  obtain ⟨a0, a1⟩ := HBX0.out _ (Kept.refl _)
  go_wp2_with fail
  refine (heavy21_any am lm cm tt aa ls cs ss _ (HMS.out.kept HK0.out) (HSS.out.kept HK0.out)).mono ?_
  rintro e w2 ⟨hk2, rfl | ⟨rfl, hlt, hls⟩⟩
  · have HK2 := Lib.hid (HK0.out.trans hk2)
    clear hk2 a0 a1
    go_wp2_with fail
    go_ret
    exact ⟨rfl, HK2.out⟩
  have HK2 := Lib.hid (HK0.out.trans hk2)
  obtain ⟨a0', a1'⟩ := HBX0.out _ hk2
  clear hk2 hlt a0 a1
  go_wp2_with fail
  obtain ⟨q, hq, hwi⟩ : ∃ q : Nat, q < 8 ∧ ∀ w, Calls Try.prog 38 #[.int .i64 (ls : Int), .int .i64 ((8 : Nat) : Int)] w fun e w' => e = .returned (.int .i64 (q : Int)) ∧ w = w' := ⟨wthn (ls : Int) 8, wthn_lt _ (by omega), fun w => within_ref (ls : Int) 8 (by omega) w⟩
  refine (hwi _).mono ?_
  rintro e w' ⟨rfl, rfl⟩
  obtain ⟨n, hn⟩ : ∃ n, n = 2 + q := ⟨_, rfl⟩
  have hn2 : 2 ≤ n := by omega
  have hn9 : n ≤ 9 := by omega
  have hnw : (2 : Int) + (q : Int) = (n : Int) := by omega
  have hww : IntKind.i64.wrap (2 + (q : Int)) = (n : Int) := by rw [IntWalk.i64_in _ (by omega)]; exact hnw
  clear hn hwi hnw a0' a1'
  go_wp2_with fail
  have HOK := Lib.hid (ok_x n hn2 hn9)
  have HCH := Lib.hid (chain_any n hn9 ⟨#[120]⟩ (by decide) w2)
  have HSM := Lib.hid (show ∀ s ∈ (List.range n).map (chN ⟨#[120]⟩), s.size ≤ 9223372036854775807 from fun s hs => by
    obtain ⟨i, _, rfl⟩ := List.mem_map.1 hs
    rw [chN_size]; omega)
  have HNS := Lib.hid (fun i (hi : i < n) => ns_at ⟨#[120]⟩ n i hi)
  have HNL := Lib.hid (show ((List.range n).map (chN ⟨#[120]⟩)).length = n by simp)
  generalize hts : chL ⟨#[120]⟩ n = ts at HCH
  have HT1 := Lib.hid (show thsB ts = true by rw [← hts]; exact HOK.out.ths)
  have HT2 := Lib.hid (show ∀ i, i < n → (fromL ts [((List.range n).map (chN ⟨#[120]⟩)).getD i ByteArray.empty]).length = 2 * (i + 1) ∧ ∀ k, k ≤ i → hasB (((List.range n).map (chN ⟨#[120]⟩)).getD k ByteArray.empty) (fromL ts [((List.range n).map (chN ⟨#[120]⟩)).getD i ByteArray.empty]) = true from fun i hi => by
    rw [HNS.out i hi, ← hts]
    obtain ⟨h1, h2⟩ := HOK.out.from1 i hi
    exact ⟨h1, fun k hk => by rw [HNS.out k (by omega)]; exact h2 k hk⟩)
  have HT3 := Lib.hid (show ordE ts = 0 by rw [← hts]; exact HOK.out.oe)
  have HT4 := Lib.hid (show (ordL ts).length = 2 * n by rw [← hts]; exact HOK.out.ol)
  have HT5 := Lib.hid (show cntK (ordL ts) ((List.range n).map (chN ⟨#[120]⟩)) n (2 * n) = n by rw [← hts]; exact HOK.out.cnt)
  clear hts HNS HOK
  generalize (List.range n).map (chN ⟨#[120]⟩) = NL at *
  refine HCH.out.mono ?_
  rintro e w4 ⟨a, c, a2, c2, rfl, hT, hO, hk⟩
  obtain ⟨g, c2', e2⟩ := own_form hO (by omega)
  cases e2
  have HO := Lib.hid (own_strs' hO HNL.out HSM.out)
  have HT := Lib.hid hT
  have HK4 := Lib.hid (HK2.out.trans hk)
  have HCAP := Lib.hid (show n ≤ c2 by
    rcases hO.2 with ⟨e, _⟩ | ⟨g', c', cur, e, _, _, hn', _⟩
    · cases e
    · cases e; exact hn')
  have hcap := HCAP.out
  clear hT hO hk HCH
  go_wp2_with fail
  go_loopw [6] (fun kv wr => ∃ k : Nat, k ≤ n ∧ kv = .int .i64 k ∧ Kept w4 wr) (fun kv _ => n - (intOf kv).toNat)
  case atStart => exact ⟨0, by omega, rfl, Kept.refl _⟩
  case round =>
    obtain ⟨i, hi, rfl, hkr⟩ := hrel
    have HKR := Lib.hid hkr
    clear hkr
    by_cases hin : i < n
    · have hd1 : decide (i < n) = true := decide_eq_true hin
      obtain ⟨hF1, hF2⟩ := HT2.out i hin
      have HF2 := Lib.hid hF2
      have HSI := Lib.hid (strs_one (HO.out.kept HKR.out) hin)
      rw [Nat.zero_add] at HSI
      have HFC := Lib.hid (from_good a (2 * n) c ts (some ⟨g, i, none⟩) 1 (c2 - i) _ wr (HT.out.kept HKR.out) HSI.out (by omega) HT1.out)
      clear hF2
      generalize fromL ts [NL.getD i ByteArray.empty] = X at *
      have hne : ((X.length : Int) != 2 * ((i : Int) + 1)) = false := by
        rw [hF1]
        simp
      have HF1 := Lib.hid hF1
      have hXl : X.length ≤ 100 := by omega
      clear hF1
      go_wp2_with fail
      refine HFC.out.mono ?_
      rintro e w5 ⟨g5, c5, rfl, hs5, hk, _, _⟩
      have HX := Lib.hid hs5
      have HK5 := Lib.hid (HKR.out.trans hk)
      clear hs5 hk HFC
      go_wp2_with fail
      refine (num21_any _ _).mono ?_
      rintro e w' ⟨rfl, rfl⟩
      go_wp2_with fail
      clear hne
      go_loopw [9] (fun kv ws => ∃ k : Nat, k ≤ i + 1 ∧ kv = .int .i64 k ∧ Kept w5 ws) (fun kv _ => i + 1 - (intOf kv).toNat)
      case atStart => exact ⟨0, by omega, rfl, Kept.refl _⟩
      case round =>
        rename World => ws
        obtain ⟨k, hk, rfl, hks⟩ := hrel
        have HKS := Lib.hid hks
        clear hks
        by_cases hki : k ≤ i
        · have hd2 : decide (k ≤ i) = true := decide_eq_true hki
          have hd3 : decide (k < n) = true := decide_eq_true (by omega)
          have c0 := (HO.out.kept (HK5.out.trans HKS.out)).cell_of k (by omega)
          rw [Nat.zero_add] at c0
          have hh := HF2.out k hki
          have HHC := Lib.hid (has_any (some ⟨g5, 0, none⟩) X.length c5 X (NL.getD k ByteArray.empty) ws (HX.out.kept HKS.out))
          rw [hh] at HHC
          clear hh
          generalize NL.getD k ByteArray.empty = d at *
          go_wp2_with fail
          refine HHC.out.mono ?_
          rintro e w6 ⟨rfl, hk6⟩
          have HK6 := Lib.hid (HKS.out.trans hk6)
          clear hk6 HHC c0
          go_wp2_with fail
          go_roundw
          case rel => exact ⟨k + 1, by omega, by go_num, HK6.out⟩
          case measure => simp [intOf]; omega
        · obtain rfl : k = i + 1 := by omega
          have hd2 : decide (i + 1 ≤ i) = false := decide_eq_false (by omega)
          have hd3 : decide ((i : Int) + 1 ≤ i) = false := decide_eq_false (by omega)
          go_wp2_with fail
          go_roundw
          case rel => exact ⟨i + 1, by omega, by go_num, HK5.out.trans HKS.out⟩
          case measure => simp [intOf]; omega
    · obtain rfl : n = i := by omega
      have hd1 : decide (n < n) = false := decide_eq_false (by omega)
      have HOC := Lib.hid (order_any a (2 * n) c ts wr (HT.out.kept HKR.out))
      rw [HT3.out] at HOC
      have hOl := HT4.out
      generalize ordL ts = OL at *
      have hne : ((OL.length : Int) != 2 * (n : Int)) = false := by
        rw [hOl]
        simp
      have HOL := Lib.hid hOl
      have hol : OL.length ≤ 100 := by omega
      clear hOl
      go_wp2_with fail
      refine HOC.out.mono ?_
      rintro e w5 ⟨ao, co, rfl, hso, hk⟩
      have HSO := Lib.hid hso
      have HK5 := Lib.hid (HKR.out.trans hk)
      clear hso hk HOC
      go_wp2_with fail
      refine (num21_any _ _).mono ?_
      rintro e w' ⟨rfl, rfl⟩
      go_wp2_with fail
      clear hne
      go_loopw [12, 13] (fun kv iv ws => ∃ i : Nat, i ≤ OL.length ∧ iv = .int .i64 i ∧ kv = .int .i64 (cntK OL NL n i : Nat) ∧ Kept w5 ws) (fun _ iv _ => OL.length - (intOf iv).toNat)
      case atStart => exact ⟨0, by omega, rfl, rfl, Kept.refl _⟩
      case round =>
        rename World => wk
        obtain ⟨i, hi, rfl, rfl, hks⟩ := hrel
        have HKS := Lib.hid hks
        clear hks
        by_cases hil : i < OL.length
        · have hdl : decide (i < OL.length) = true := decide_eq_true hil
          have HDI := Lib.hid hdl
          obtain ⟨bo, oo, rfl, hco⟩ := HSO.out.at (by omega)
          have HC1 := Lib.hid (fun w (h : Kept wk w) => hco i hil w (HKS.out.trans h))
          have hkn := cntK_le OL NL n i
          have HST := Lib.hid (show cntK OL NL n (i + 1) = if cntK OL NL n i < n ∧ OL.getD i ByteArray.empty = NL.getD (cntK OL NL n i) ByteArray.empty then cntK OL NL n i + 1 else cntK OL NL n i from rfl)
          obtain ⟨k', hk'⟩ : ∃ k', cntK OL NL n (i + 1) = k' := ⟨_, rfl⟩
          rw [hk'] at HST
          have HKP := Lib.hid hk'
          clear hk'
          generalize cntK OL NL n i = k at *
          generalize OL.getD i ByteArray.empty = d1 at *
          clear hco
          by_cases hkl : k < n
          · have HKN := Lib.hid (show decide (k < n) = true ∧ decide ((k : Int) < (n : Int)) = true from ⟨decide_eq_true hkl, decide_eq_true (by omega)⟩)
            have HC2 := Lib.hid (fun w (h : Kept wk w) => (HO.out.kept (HK5.out.trans (HKS.out.trans h))).cell_of k hkl)
            rw [Nat.zero_add] at HC2
            generalize NL.getD k ByteArray.empty = d2 at *
            obtain ⟨T, hT⟩ : ∃ T, T = decide (d1 = d2) := ⟨_, rfl⟩
            have HTQ := Lib.hid (show (d1.toList == d2.toList) = T by
              rw [hT]
              by_cases e : d1 = d2
              · subst e; simp
              · rw [(bytes_ne4 e).2.1, decide_eq_false e])
            have HTE := Lib.hid (show k' = if T = true then k + 1 else k by
              rw [HST.out, hT]
              simp [hkl])
            clear hT
            go_wp2_with fail
            refine Pj.wp_region_step (fun az0 L az w => ∃ V : Nat → Value, az = Pj.puts [(85, 0), (86, 1), (87, 2), (88, 3), (89, 4), (90, 5), (91, 6), (92, 7), (93, 8), (94, 9), (95, 10), (96, 11), (97, 12), (98, 13)] V az0 ∧ Pj.J wk [Pj.Is (.int .i64 k), Pj.Is (.int .i64 n), Pj.Is (.bool true), Pj.Is (.bool true), Pj.Is (.slice (some ⟨bo, oo, none⟩) OL.length co), Pj.Is (.int .i64 i), Pj.Is (.pointer (some ⟨bo, oo + i, none⟩)), Pj.Is (.string d1), Pj.Is (.slice (some ⟨g, 0, none⟩) n c2), Pj.Is (.int .i64 k), Pj.Is (.pointer (some ⟨g, k, none⟩)), Pj.Is (.string d2), Pj.Is (.bool T), Pj.Is (.bool T)] L V w) (by as_aux_lemma => kernel_rfl) (by as_aux_lemma => kernel_rfl) ?eh0 ?ehs ?ehe
            case eh0 =>
              intro L hL
              exact ⟨_, Pj.puts_self _ (fun j => ([85, 86, 87, 88, 89, 90, 91, 92, 93, 94, 95, 96, 97, 98] : List Nat).getD j 0) [0, 1, 2, 3, 4, 5, 6, 7, 8, 9, 10, 11, 12, 13], Pj.J.none (n := 14) (Nat.le_refl _) hL ((Kept.refl _).drew)⟩
            case ehs =>
              rintro L L' az w iz opz Kq ⟨V, rfl, hJ⟩ ho hopen hdep hL hKq
              have hP : Pj.AllStay [Pj.Is (.int .i64 k), Pj.Is (.int .i64 n), Pj.Is (.bool true), Pj.Is (.bool true), Pj.Is (.slice (some ⟨bo, oo, none⟩) OL.length co), Pj.Is (.int .i64 i), Pj.Is (.pointer (some ⟨bo, oo + i, none⟩)), Pj.Is (.string d1), Pj.Is (.slice (some ⟨g, 0, none⟩) n c2), Pj.Is (.int .i64 k), Pj.Is (.pointer (some ⟨g, k, none⟩)), Pj.Is (.string d2), Pj.Is (.bool T), Pj.Is (.bool T)] := ⟨Pj.Is.stays _, Pj.Is.stays _, Pj.Is.stays _, Pj.Is.stays _, Pj.Is.stays _, Pj.Is.stays _, Pj.Is.stays _, Pj.Is.stays _, Pj.Is.stays _, Pj.Is.stays _, Pj.Is.stays _, Pj.Is.stays _, Pj.Is.stays _, Pj.Is.stays _, trivial⟩
              have HP := Lib.hid hP
              clear hP
              match iz, ho with
              | 0, ho =>
                simp only [List.getElem?_toArray, List.getElem?_cons_zero, Option.some.injEq] at ho
                have HJ := Lib.hid hJ
                clear hJ
                subst ho
                refine Pj.Step.free rfl ?_
                simp only [Pj.puts, List.foldl_cons, List.foldl_nil, Act.put, List.setIfInBounds_toArray, List.set_cons_zero, List.set_cons_succ]
                go_simp
                exact hKq _ _ ⟨Pj.vset V 0 (.int .i64 k), by simp only [Pj.puts, List.foldl_cons, List.foldl_nil, Act.put, List.setIfInBounds_toArray, List.set_cons_zero, List.set_cons_succ, Pj.vset, Nat.reduceEqDiff, if_true, if_false], HJ.out.more HP.out hL (Kept.refl _) (rfl)⟩
              | 1, ho =>
                simp only [List.getElem?_toArray, List.getElem?_cons_zero, List.getElem?_cons_succ, Option.some.injEq] at ho
                have HJ := Lib.hid hJ
                clear hJ
                subst ho
                refine Pj.Step.free rfl ?_
                simp only [Pj.puts, List.foldl_cons, List.foldl_nil, Act.put, List.setIfInBounds_toArray, List.set_cons_zero, List.set_cons_succ]
                go_simp
                exact hKq _ _ ⟨Pj.vset V 1 (.int .i64 n), by simp only [Pj.puts, List.foldl_cons, List.foldl_nil, Act.put, List.setIfInBounds_toArray, List.set_cons_zero, List.set_cons_succ, Pj.vset, Nat.reduceEqDiff, if_true, if_false], HJ.out.more HP.out hL (Kept.refl _) (rfl)⟩
              | 2, ho =>
                simp only [List.getElem?_toArray, List.getElem?_cons_zero, List.getElem?_cons_succ, Option.some.injEq] at ho
                have e0 : V 0 = .int .i64 k := hJ.h 0 (hdep 0 (by rw [← ho]; kernel_rfl))
                have e1 : V 1 = .int .i64 n := hJ.h 1 (hdep 1 (by rw [← ho]; kernel_rfl))
                have hd7 := HKN.out.1
                have hd8 := HKN.out.2
                have HJ := Lib.hid hJ
                clear hJ
                subst ho
                refine Pj.Step.free rfl ?_
                simp only [Pj.puts, List.foldl_cons, List.foldl_nil, Act.put, List.setIfInBounds_toArray, List.set_cons_zero, List.set_cons_succ, e0, e1]
                go_simp
                exact hKq _ _ ⟨Pj.vset V 2 (.bool true), by simp only [Pj.puts, List.foldl_cons, List.foldl_nil, Act.put, List.setIfInBounds_toArray, List.set_cons_zero, List.set_cons_succ, Pj.vset, Nat.reduceEqDiff, if_true, if_false, e0, e1], HJ.out.more HP.out hL (Kept.refl _) (rfl)⟩
              | 3, ho =>
                simp only [List.getElem?_toArray, List.getElem?_cons_zero, List.getElem?_cons_succ, Option.some.injEq] at ho
                have e2 : V 2 = .bool true := hJ.h 2 (hdep 2 (by rw [← ho]; kernel_rfl))
                have HJ := Lib.hid hJ
                clear hJ
                subst ho
                refine Pj.Step.free rfl ?_
                simp only [Pj.puts, List.foldl_cons, List.foldl_nil, Act.put, List.setIfInBounds_toArray, List.set_cons_zero, List.set_cons_succ, e2]
                go_simp
                exact hKq _ _ ⟨Pj.vset V 3 (.bool true), by simp only [Pj.puts, List.foldl_cons, List.foldl_nil, Act.put, List.setIfInBounds_toArray, List.set_cons_zero, List.set_cons_succ, Pj.vset, Nat.reduceEqDiff, if_true, if_false, e2], HJ.out.more HP.out hL (Kept.refl _) (rfl)⟩
              | 4, ho =>
                simp only [List.getElem?_toArray, List.getElem?_cons_zero, List.getElem?_cons_succ, Option.some.injEq] at ho
                have e3 : V 3 = .bool true := hJ.h 3 (hdep 3 (by rw [← ho]; kernel_rfl))
                have HJ := Lib.hid hJ
                clear hJ
                subst ho
                refine Pj.Step.at (g := 3) (b := true) rfl ?hy ?_
                case hy =>
                  simp only [Pj.puts, List.foldl_cons, List.foldl_nil, Act.put, List.setIfInBounds_toArray, List.set_cons_zero, List.set_cons_succ, e3]
                  rfl
                simp only [Pj.puts, List.foldl_cons, List.foldl_nil, Act.put, List.setIfInBounds_toArray, List.set_cons_zero, List.set_cons_succ, e3]
                go_simp
                exact hKq _ _ ⟨Pj.vset V 4 (.slice (some ⟨bo, oo, none⟩) OL.length co), by simp only [Pj.puts, List.foldl_cons, List.foldl_nil, Act.put, List.setIfInBounds_toArray, List.set_cons_zero, List.set_cons_succ, Pj.vset, Nat.reduceEqDiff, if_true, if_false, e3], HJ.out.more HP.out hL (Kept.refl _) (rfl)⟩
              | 5, ho =>
                simp only [List.getElem?_toArray, List.getElem?_cons_zero, List.getElem?_cons_succ, Option.some.injEq] at ho
                have e3 : V 3 = .bool true := hJ.h 3 (hdep 3 (by rw [← ho]; kernel_rfl))
                have HJ := Lib.hid hJ
                clear hJ
                subst ho
                refine Pj.Step.at (g := 3) (b := true) rfl ?hy ?_
                case hy =>
                  simp only [Pj.puts, List.foldl_cons, List.foldl_nil, Act.put, List.setIfInBounds_toArray, List.set_cons_zero, List.set_cons_succ, e3]
                  rfl
                simp only [Pj.puts, List.foldl_cons, List.foldl_nil, Act.put, List.setIfInBounds_toArray, List.set_cons_zero, List.set_cons_succ, e3]
                go_simp
                exact hKq _ _ ⟨Pj.vset V 5 (.int .i64 i), by simp only [Pj.puts, List.foldl_cons, List.foldl_nil, Act.put, List.setIfInBounds_toArray, List.set_cons_zero, List.set_cons_succ, Pj.vset, Nat.reduceEqDiff, if_true, if_false, e3], HJ.out.more HP.out hL (Kept.refl _) (rfl)⟩
              | 6, ho =>
                simp only [List.getElem?_toArray, List.getElem?_cons_zero, List.getElem?_cons_succ, Option.some.injEq] at ho
                have e4 : V 4 = .slice (some ⟨bo, oo, none⟩) OL.length co := hJ.h 4 (hdep 4 (by rw [← ho]; kernel_rfl))
                have e5 : V 5 = .int .i64 i := hJ.h 5 (hdep 5 (by rw [← ho]; kernel_rfl))
                have e3 : V 3 = .bool true := hJ.h 3 (hdep 3 (by rw [← ho]; kernel_rfl))
                have hdi := HDI.out
                have HJ := Lib.hid hJ
                clear hJ
                subst ho
                refine Pj.Step.at (g := 3) (b := true) rfl ?hy ?_
                case hy =>
                  simp only [Pj.puts, List.foldl_cons, List.foldl_nil, Act.put, List.setIfInBounds_toArray, List.set_cons_zero, List.set_cons_succ, e4, e5, e3]
                  rfl
                simp only [Pj.puts, List.foldl_cons, List.foldl_nil, Act.put, List.setIfInBounds_toArray, List.set_cons_zero, List.set_cons_succ, e4, e5, e3]
                go_simp
                exact hKq _ _ ⟨Pj.vset V 6 (.pointer (some ⟨bo, oo + i, none⟩)), by simp only [Pj.puts, List.foldl_cons, List.foldl_nil, Act.put, List.setIfInBounds_toArray, List.set_cons_zero, List.set_cons_succ, Pj.vset, Nat.reduceEqDiff, if_true, if_false, e4, e5, e3], HJ.out.more HP.out hL (Kept.refl _) (rfl)⟩
              | 7, ho =>
                simp only [List.getElem?_toArray, List.getElem?_cons_zero, List.getElem?_cons_succ, Option.some.injEq] at ho
                have e6 : V 6 = .pointer (some ⟨bo, oo + i, none⟩) := hJ.h 6 (hdep 6 (by rw [← ho]; kernel_rfl))
                have e3 : V 3 = .bool true := hJ.h 3 (hdep 3 (by rw [← ho]; kernel_rfl))
                have c9 := HC1.out _ hJ.kp
                have HJ := Lib.hid hJ
                clear hJ
                subst ho
                refine Pj.Step.at (g := 3) (b := true) rfl ?hy ?_
                case hy =>
                  simp only [Pj.puts, List.foldl_cons, List.foldl_nil, Act.put, List.setIfInBounds_toArray, List.set_cons_zero, List.set_cons_succ, e6, e3]
                  rfl
                simp only [Pj.puts, List.foldl_cons, List.foldl_nil, Act.put, List.setIfInBounds_toArray, List.set_cons_zero, List.set_cons_succ, e6, e3]
                go_simp
                exact hKq _ _ ⟨Pj.vset V 7 (.string d1), by simp only [Pj.puts, List.foldl_cons, List.foldl_nil, Act.put, List.setIfInBounds_toArray, List.set_cons_zero, List.set_cons_succ, Pj.vset, Nat.reduceEqDiff, if_true, if_false, e6, e3], HJ.out.more HP.out hL (Kept.refl _) (rfl)⟩
              | 8, ho =>
                simp only [List.getElem?_toArray, List.getElem?_cons_zero, List.getElem?_cons_succ, Option.some.injEq] at ho
                have e3 : V 3 = .bool true := hJ.h 3 (hdep 3 (by rw [← ho]; kernel_rfl))
                have HJ := Lib.hid hJ
                clear hJ
                subst ho
                refine Pj.Step.at (g := 3) (b := true) rfl ?hy ?_
                case hy =>
                  simp only [Pj.puts, List.foldl_cons, List.foldl_nil, Act.put, List.setIfInBounds_toArray, List.set_cons_zero, List.set_cons_succ, e3]
                  rfl
                simp only [Pj.puts, List.foldl_cons, List.foldl_nil, Act.put, List.setIfInBounds_toArray, List.set_cons_zero, List.set_cons_succ, e3]
                go_simp
                exact hKq _ _ ⟨Pj.vset V 8 (.slice (some ⟨g, 0, none⟩) n c2), by simp only [Pj.puts, List.foldl_cons, List.foldl_nil, Act.put, List.setIfInBounds_toArray, List.set_cons_zero, List.set_cons_succ, Pj.vset, Nat.reduceEqDiff, if_true, if_false, e3], HJ.out.more HP.out hL (Kept.refl _) (rfl)⟩
              | 9, ho =>
                simp only [List.getElem?_toArray, List.getElem?_cons_zero, List.getElem?_cons_succ, Option.some.injEq] at ho
                have e3 : V 3 = .bool true := hJ.h 3 (hdep 3 (by rw [← ho]; kernel_rfl))
                have HJ := Lib.hid hJ
                clear hJ
                subst ho
                refine Pj.Step.at (g := 3) (b := true) rfl ?hy ?_
                case hy =>
                  simp only [Pj.puts, List.foldl_cons, List.foldl_nil, Act.put, List.setIfInBounds_toArray, List.set_cons_zero, List.set_cons_succ, e3]
                  rfl
                simp only [Pj.puts, List.foldl_cons, List.foldl_nil, Act.put, List.setIfInBounds_toArray, List.set_cons_zero, List.set_cons_succ, e3]
                go_simp
                exact hKq _ _ ⟨Pj.vset V 9 (.int .i64 k), by simp only [Pj.puts, List.foldl_cons, List.foldl_nil, Act.put, List.setIfInBounds_toArray, List.set_cons_zero, List.set_cons_succ, Pj.vset, Nat.reduceEqDiff, if_true, if_false, e3], HJ.out.more HP.out hL (Kept.refl _) (rfl)⟩
              | 10, ho =>
                simp only [List.getElem?_toArray, List.getElem?_cons_zero, List.getElem?_cons_succ, Option.some.injEq] at ho
                have e8 : V 8 = .slice (some ⟨g, 0, none⟩) n c2 := hJ.h 8 (hdep 8 (by rw [← ho]; kernel_rfl))
                have e9 : V 9 = .int .i64 k := hJ.h 9 (hdep 9 (by rw [← ho]; kernel_rfl))
                have e3 : V 3 = .bool true := hJ.h 3 (hdep 3 (by rw [← ho]; kernel_rfl))
                have hd7 := HKN.out.1
                have HJ := Lib.hid hJ
                clear hJ
                subst ho
                refine Pj.Step.at (g := 3) (b := true) rfl ?hy ?_
                case hy =>
                  simp only [Pj.puts, List.foldl_cons, List.foldl_nil, Act.put, List.setIfInBounds_toArray, List.set_cons_zero, List.set_cons_succ, e8, e9, e3]
                  rfl
                simp only [Pj.puts, List.foldl_cons, List.foldl_nil, Act.put, List.setIfInBounds_toArray, List.set_cons_zero, List.set_cons_succ, e8, e9, e3]
                go_simp
                exact hKq _ _ ⟨Pj.vset V 10 (.pointer (some ⟨g, k, none⟩)), by simp only [Pj.puts, List.foldl_cons, List.foldl_nil, Act.put, List.setIfInBounds_toArray, List.set_cons_zero, List.set_cons_succ, Pj.vset, Nat.reduceEqDiff, if_true, if_false, e8, e9, e3], HJ.out.more HP.out hL (Kept.refl _) (rfl)⟩
              | 11, ho =>
                simp only [List.getElem?_toArray, List.getElem?_cons_zero, List.getElem?_cons_succ, Option.some.injEq] at ho
                have e10 : V 10 = .pointer (some ⟨g, k, none⟩) := hJ.h 10 (hdep 10 (by rw [← ho]; kernel_rfl))
                have e3 : V 3 = .bool true := hJ.h 3 (hdep 3 (by rw [← ho]; kernel_rfl))
                have c8 := HC2.out _ hJ.kp
                have HJ := Lib.hid hJ
                clear hJ
                subst ho
                refine Pj.Step.at (g := 3) (b := true) rfl ?hy ?_
                case hy =>
                  simp only [Pj.puts, List.foldl_cons, List.foldl_nil, Act.put, List.setIfInBounds_toArray, List.set_cons_zero, List.set_cons_succ, e10, e3]
                  rfl
                simp only [Pj.puts, List.foldl_cons, List.foldl_nil, Act.put, List.setIfInBounds_toArray, List.set_cons_zero, List.set_cons_succ, e10, e3]
                go_simp
                exact hKq _ _ ⟨Pj.vset V 11 (.string d2), by simp only [Pj.puts, List.foldl_cons, List.foldl_nil, Act.put, List.setIfInBounds_toArray, List.set_cons_zero, List.set_cons_succ, Pj.vset, Nat.reduceEqDiff, if_true, if_false, e10, e3], HJ.out.more HP.out hL (Kept.refl _) (rfl)⟩
              | 12, ho =>
                simp only [List.getElem?_toArray, List.getElem?_cons_zero, List.getElem?_cons_succ, Option.some.injEq] at ho
                have e7 : V 7 = .string d1 := hJ.h 7 (hdep 7 (by rw [← ho]; kernel_rfl))
                have e11 : V 11 = .string d2 := hJ.h 11 (hdep 11 (by rw [← ho]; kernel_rfl))
                have e3 : V 3 = .bool true := hJ.h 3 (hdep 3 (by rw [← ho]; kernel_rfl))
                have hTT := HTQ.out
                have HJ := Lib.hid hJ
                clear hJ
                subst ho
                refine Pj.Step.at (g := 3) (b := true) rfl ?hy ?_
                case hy =>
                  simp only [Pj.puts, List.foldl_cons, List.foldl_nil, Act.put, List.setIfInBounds_toArray, List.set_cons_zero, List.set_cons_succ, e7, e11, e3]
                  rfl
                simp only [Pj.puts, List.foldl_cons, List.foldl_nil, Act.put, List.setIfInBounds_toArray, List.set_cons_zero, List.set_cons_succ, e7, e11, e3]
                go_simp
                exact hKq _ _ ⟨Pj.vset V 12 (.bool T), by simp only [Pj.puts, List.foldl_cons, List.foldl_nil, Act.put, List.setIfInBounds_toArray, List.set_cons_zero, List.set_cons_succ, Pj.vset, Nat.reduceEqDiff, if_true, if_false, e7, e11, e3], HJ.out.more HP.out hL (Kept.refl _) (rfl)⟩
              | 13, ho =>
                simp only [List.getElem?_toArray, List.getElem?_cons_zero, List.getElem?_cons_succ, Option.some.injEq] at ho
                have e3 : V 3 = .bool true := hJ.h 3 (hdep 3 (by rw [← ho]; kernel_rfl))
                have e12 : V 12 = .bool T := hJ.h 12 (hdep 12 (by rw [← ho]; kernel_rfl))
                have HJ := Lib.hid hJ
                clear hJ
                subst ho
                refine Pj.Step.free rfl ?_
                simp only [Pj.puts, List.foldl_cons, List.foldl_nil, Act.put, List.setIfInBounds_toArray, List.set_cons_zero, List.set_cons_succ, e3, e12]
                go_simp
                exact hKq _ _ ⟨Pj.vset V 13 (.bool T), by simp only [Pj.puts, List.foldl_cons, List.foldl_nil, Act.put, List.setIfInBounds_toArray, List.set_cons_zero, List.set_cons_succ, Pj.vset, Nat.reduceEqDiff, if_true, if_false, e3, e12], HJ.out.more HP.out hL (Kept.refl _) (rfl)⟩
              | n + 14, ho => simp at ho
            case ehe =>
              rintro L az w ⟨V, rfl, hJ⟩ hall
              have e13 : V 13 = .bool T := hJ.h 13 (hall 13 (by decide))
              have HKj := Lib.hid hJ.kp
              clear hJ hall
              simp only [Pj.puts, List.foldl_cons, List.foldl_nil, Act.put, List.setIfInBounds_toArray, List.set_cons_zero, List.set_cons_succ, e13]
              clear e13
              have hkn2 : k ≤ n := hkn
              cases T with
              | true =>
                have HE := Lib.hid (show k' = k + 1 from HTE.out)
                go_wp2_with fail
                go_roundw
                case rel => exact ⟨i + 1, by omega, by go_num, by rw [HKP.out, HE.out]; go_num, HKS.out.trans HKj.out⟩
                case measure => simp [intOf]; omega
              | false =>
                have HE := Lib.hid (show k' = k from HTE.out)
                go_wp2_with fail
                go_roundw
                case rel => exact ⟨i + 1, by omega, by go_num, by rw [HKP.out, HE.out], HKS.out.trans HKj.out⟩
                case measure => simp [intOf]; omega
          · have HKN := Lib.hid (show decide (k < n) = false ∧ decide ((k : Int) < (n : Int)) = false from ⟨decide_eq_false hkl, decide_eq_false (by omega)⟩)
            have HE := Lib.hid (show k' = k by
              rw [HST.out]
              simp [hkl])
            clear hkl
            go_wp2_with fail
            refine Pj.wp_region_step (fun az0 L az w => ∃ V : Nat → Value, az = Pj.puts [(85, 0), (86, 1), (87, 2), (88, 3), (89, 4), (90, 5), (91, 6), (92, 7), (93, 8), (94, 9), (95, 10), (96, 11), (97, 12), (98, 13)] V az0 ∧ Pj.J wk [Pj.Is (.int .i64 k), Pj.Is (.int .i64 n), Pj.Is (.bool false), Pj.Is (.bool false), Pj.Is (undef), Pj.Is (undef), Pj.Is (undef), Pj.Is (undef), Pj.Is (undef), Pj.Is (undef), Pj.Is (undef), Pj.Is (undef), Pj.Is (undef), Pj.Is (.bool false)] L V w) (by as_aux_lemma => kernel_rfl) (by as_aux_lemma => kernel_rfl) ?eh0 ?ehs ?ehe
            case eh0 =>
              intro L hL
              exact ⟨_, Pj.puts_self _ (fun j => ([85, 86, 87, 88, 89, 90, 91, 92, 93, 94, 95, 96, 97, 98] : List Nat).getD j 0) [0, 1, 2, 3, 4, 5, 6, 7, 8, 9, 10, 11, 12, 13], Pj.J.none (n := 14) (Nat.le_refl _) hL ((Kept.refl _).drew)⟩
            case ehs =>
              rintro L L' az w iz opz Kq ⟨V, rfl, hJ⟩ ho hopen hdep hL hKq
              have hP : Pj.AllStay [Pj.Is (.int .i64 k), Pj.Is (.int .i64 n), Pj.Is (.bool false), Pj.Is (.bool false), Pj.Is (undef), Pj.Is (undef), Pj.Is (undef), Pj.Is (undef), Pj.Is (undef), Pj.Is (undef), Pj.Is (undef), Pj.Is (undef), Pj.Is (undef), Pj.Is (.bool false)] := ⟨Pj.Is.stays _, Pj.Is.stays _, Pj.Is.stays _, Pj.Is.stays _, Pj.Is.stays _, Pj.Is.stays _, Pj.Is.stays _, Pj.Is.stays _, Pj.Is.stays _, Pj.Is.stays _, Pj.Is.stays _, Pj.Is.stays _, Pj.Is.stays _, Pj.Is.stays _, trivial⟩
              have HP := Lib.hid hP
              clear hP
              match iz, ho with
              | 0, ho =>
                simp only [List.getElem?_toArray, List.getElem?_cons_zero, Option.some.injEq] at ho
                have HJ := Lib.hid hJ
                clear hJ
                subst ho
                refine Pj.Step.free rfl ?_
                simp only [Pj.puts, List.foldl_cons, List.foldl_nil, Act.put, List.setIfInBounds_toArray, List.set_cons_zero, List.set_cons_succ]
                go_simp
                exact hKq _ _ ⟨Pj.vset V 0 (.int .i64 k), by simp only [Pj.puts, List.foldl_cons, List.foldl_nil, Act.put, List.setIfInBounds_toArray, List.set_cons_zero, List.set_cons_succ, Pj.vset, Nat.reduceEqDiff, if_true, if_false], HJ.out.more HP.out hL (Kept.refl _) (rfl)⟩
              | 1, ho =>
                simp only [List.getElem?_toArray, List.getElem?_cons_zero, List.getElem?_cons_succ, Option.some.injEq] at ho
                have HJ := Lib.hid hJ
                clear hJ
                subst ho
                refine Pj.Step.free rfl ?_
                simp only [Pj.puts, List.foldl_cons, List.foldl_nil, Act.put, List.setIfInBounds_toArray, List.set_cons_zero, List.set_cons_succ]
                go_simp
                exact hKq _ _ ⟨Pj.vset V 1 (.int .i64 n), by simp only [Pj.puts, List.foldl_cons, List.foldl_nil, Act.put, List.setIfInBounds_toArray, List.set_cons_zero, List.set_cons_succ, Pj.vset, Nat.reduceEqDiff, if_true, if_false], HJ.out.more HP.out hL (Kept.refl _) (rfl)⟩
              | 2, ho =>
                simp only [List.getElem?_toArray, List.getElem?_cons_zero, List.getElem?_cons_succ, Option.some.injEq] at ho
                have e0 : V 0 = .int .i64 k := hJ.h 0 (hdep 0 (by rw [← ho]; kernel_rfl))
                have e1 : V 1 = .int .i64 n := hJ.h 1 (hdep 1 (by rw [← ho]; kernel_rfl))
                have hd7 := HKN.out.1
                have hd8 := HKN.out.2
                have HJ := Lib.hid hJ
                clear hJ
                subst ho
                refine Pj.Step.free rfl ?_
                simp only [Pj.puts, List.foldl_cons, List.foldl_nil, Act.put, List.setIfInBounds_toArray, List.set_cons_zero, List.set_cons_succ, e0, e1]
                go_simp
                exact hKq _ _ ⟨Pj.vset V 2 (.bool false), by simp only [Pj.puts, List.foldl_cons, List.foldl_nil, Act.put, List.setIfInBounds_toArray, List.set_cons_zero, List.set_cons_succ, Pj.vset, Nat.reduceEqDiff, if_true, if_false, e0, e1], HJ.out.more HP.out hL (Kept.refl _) (rfl)⟩
              | 3, ho =>
                simp only [List.getElem?_toArray, List.getElem?_cons_zero, List.getElem?_cons_succ, Option.some.injEq] at ho
                have e2 : V 2 = .bool false := hJ.h 2 (hdep 2 (by rw [← ho]; kernel_rfl))
                have HJ := Lib.hid hJ
                clear hJ
                subst ho
                refine Pj.Step.free rfl ?_
                simp only [Pj.puts, List.foldl_cons, List.foldl_nil, Act.put, List.setIfInBounds_toArray, List.set_cons_zero, List.set_cons_succ, e2]
                go_simp
                exact hKq _ _ ⟨Pj.vset V 3 (.bool false), by simp only [Pj.puts, List.foldl_cons, List.foldl_nil, Act.put, List.setIfInBounds_toArray, List.set_cons_zero, List.set_cons_succ, Pj.vset, Nat.reduceEqDiff, if_true, if_false, e2], HJ.out.more HP.out hL (Kept.refl _) (rfl)⟩
              | 4, ho =>
                simp only [List.getElem?_toArray, List.getElem?_cons_zero, List.getElem?_cons_succ, Option.some.injEq] at ho
                have e3 : V 3 = .bool false := hJ.h 3 (hdep 3 (by rw [← ho]; kernel_rfl))
                have HJ := Lib.hid hJ
                clear hJ
                subst ho
                refine Pj.Step.not (g := 3) (b := true) rfl ?hy ?_
                case hy =>
                  simp only [Pj.puts, List.foldl_cons, List.foldl_nil, Act.put, List.setIfInBounds_toArray, List.set_cons_zero, List.set_cons_succ, e3]
                  rfl
                simp only [Pj.puts, List.foldl_cons, List.foldl_nil, Act.put, List.setIfInBounds_toArray, List.set_cons_zero, List.set_cons_succ, e3]
                exact hKq _ _ ⟨Pj.vset V 4 (undef), by simp only [Pj.puts, List.foldl_cons, List.foldl_nil, Act.put, List.setIfInBounds_toArray, List.set_cons_zero, List.set_cons_succ, Pj.vset, Nat.reduceEqDiff, if_true, if_false, e3], HJ.out.more HP.out hL (Kept.refl _) (rfl)⟩
              | 5, ho =>
                simp only [List.getElem?_toArray, List.getElem?_cons_zero, List.getElem?_cons_succ, Option.some.injEq] at ho
                have e3 : V 3 = .bool false := hJ.h 3 (hdep 3 (by rw [← ho]; kernel_rfl))
                have HJ := Lib.hid hJ
                clear hJ
                subst ho
                refine Pj.Step.not (g := 3) (b := true) rfl ?hy ?_
                case hy =>
                  simp only [Pj.puts, List.foldl_cons, List.foldl_nil, Act.put, List.setIfInBounds_toArray, List.set_cons_zero, List.set_cons_succ, e3]
                  rfl
                simp only [Pj.puts, List.foldl_cons, List.foldl_nil, Act.put, List.setIfInBounds_toArray, List.set_cons_zero, List.set_cons_succ, e3]
                exact hKq _ _ ⟨Pj.vset V 5 (undef), by simp only [Pj.puts, List.foldl_cons, List.foldl_nil, Act.put, List.setIfInBounds_toArray, List.set_cons_zero, List.set_cons_succ, Pj.vset, Nat.reduceEqDiff, if_true, if_false, e3], HJ.out.more HP.out hL (Kept.refl _) (rfl)⟩
              | 6, ho =>
                simp only [List.getElem?_toArray, List.getElem?_cons_zero, List.getElem?_cons_succ, Option.some.injEq] at ho
                have e4 : V 4 = undef := hJ.h 4 (hdep 4 (by rw [← ho]; kernel_rfl))
                have e5 : V 5 = undef := hJ.h 5 (hdep 5 (by rw [← ho]; kernel_rfl))
                have e3 : V 3 = .bool false := hJ.h 3 (hdep 3 (by rw [← ho]; kernel_rfl))
                have HJ := Lib.hid hJ
                clear hJ
                subst ho
                refine Pj.Step.not (g := 3) (b := true) rfl ?hy ?_
                case hy =>
                  simp only [Pj.puts, List.foldl_cons, List.foldl_nil, Act.put, List.setIfInBounds_toArray, List.set_cons_zero, List.set_cons_succ, e4, e5, e3]
                  rfl
                simp only [Pj.puts, List.foldl_cons, List.foldl_nil, Act.put, List.setIfInBounds_toArray, List.set_cons_zero, List.set_cons_succ, e4, e5, e3]
                exact hKq _ _ ⟨Pj.vset V 6 (undef), by simp only [Pj.puts, List.foldl_cons, List.foldl_nil, Act.put, List.setIfInBounds_toArray, List.set_cons_zero, List.set_cons_succ, Pj.vset, Nat.reduceEqDiff, if_true, if_false, e4, e5, e3], HJ.out.more HP.out hL (Kept.refl _) (rfl)⟩
              | 7, ho =>
                simp only [List.getElem?_toArray, List.getElem?_cons_zero, List.getElem?_cons_succ, Option.some.injEq] at ho
                have e6 : V 6 = undef := hJ.h 6 (hdep 6 (by rw [← ho]; kernel_rfl))
                have e3 : V 3 = .bool false := hJ.h 3 (hdep 3 (by rw [← ho]; kernel_rfl))
                have HJ := Lib.hid hJ
                clear hJ
                subst ho
                refine Pj.Step.not (g := 3) (b := true) rfl ?hy ?_
                case hy =>
                  simp only [Pj.puts, List.foldl_cons, List.foldl_nil, Act.put, List.setIfInBounds_toArray, List.set_cons_zero, List.set_cons_succ, e6, e3]
                  rfl
                simp only [Pj.puts, List.foldl_cons, List.foldl_nil, Act.put, List.setIfInBounds_toArray, List.set_cons_zero, List.set_cons_succ, e6, e3]
                exact hKq _ _ ⟨Pj.vset V 7 (undef), by simp only [Pj.puts, List.foldl_cons, List.foldl_nil, Act.put, List.setIfInBounds_toArray, List.set_cons_zero, List.set_cons_succ, Pj.vset, Nat.reduceEqDiff, if_true, if_false, e6, e3], HJ.out.more HP.out hL (Kept.refl _) (rfl)⟩
              | 8, ho =>
                simp only [List.getElem?_toArray, List.getElem?_cons_zero, List.getElem?_cons_succ, Option.some.injEq] at ho
                have e3 : V 3 = .bool false := hJ.h 3 (hdep 3 (by rw [← ho]; kernel_rfl))
                have HJ := Lib.hid hJ
                clear hJ
                subst ho
                refine Pj.Step.not (g := 3) (b := true) rfl ?hy ?_
                case hy =>
                  simp only [Pj.puts, List.foldl_cons, List.foldl_nil, Act.put, List.setIfInBounds_toArray, List.set_cons_zero, List.set_cons_succ, e3]
                  rfl
                simp only [Pj.puts, List.foldl_cons, List.foldl_nil, Act.put, List.setIfInBounds_toArray, List.set_cons_zero, List.set_cons_succ, e3]
                exact hKq _ _ ⟨Pj.vset V 8 (undef), by simp only [Pj.puts, List.foldl_cons, List.foldl_nil, Act.put, List.setIfInBounds_toArray, List.set_cons_zero, List.set_cons_succ, Pj.vset, Nat.reduceEqDiff, if_true, if_false, e3], HJ.out.more HP.out hL (Kept.refl _) (rfl)⟩
              | 9, ho =>
                simp only [List.getElem?_toArray, List.getElem?_cons_zero, List.getElem?_cons_succ, Option.some.injEq] at ho
                have e3 : V 3 = .bool false := hJ.h 3 (hdep 3 (by rw [← ho]; kernel_rfl))
                have HJ := Lib.hid hJ
                clear hJ
                subst ho
                refine Pj.Step.not (g := 3) (b := true) rfl ?hy ?_
                case hy =>
                  simp only [Pj.puts, List.foldl_cons, List.foldl_nil, Act.put, List.setIfInBounds_toArray, List.set_cons_zero, List.set_cons_succ, e3]
                  rfl
                simp only [Pj.puts, List.foldl_cons, List.foldl_nil, Act.put, List.setIfInBounds_toArray, List.set_cons_zero, List.set_cons_succ, e3]
                exact hKq _ _ ⟨Pj.vset V 9 (undef), by simp only [Pj.puts, List.foldl_cons, List.foldl_nil, Act.put, List.setIfInBounds_toArray, List.set_cons_zero, List.set_cons_succ, Pj.vset, Nat.reduceEqDiff, if_true, if_false, e3], HJ.out.more HP.out hL (Kept.refl _) (rfl)⟩
              | 10, ho =>
                simp only [List.getElem?_toArray, List.getElem?_cons_zero, List.getElem?_cons_succ, Option.some.injEq] at ho
                have e8 : V 8 = undef := hJ.h 8 (hdep 8 (by rw [← ho]; kernel_rfl))
                have e9 : V 9 = undef := hJ.h 9 (hdep 9 (by rw [← ho]; kernel_rfl))
                have e3 : V 3 = .bool false := hJ.h 3 (hdep 3 (by rw [← ho]; kernel_rfl))
                have HJ := Lib.hid hJ
                clear hJ
                subst ho
                refine Pj.Step.not (g := 3) (b := true) rfl ?hy ?_
                case hy =>
                  simp only [Pj.puts, List.foldl_cons, List.foldl_nil, Act.put, List.setIfInBounds_toArray, List.set_cons_zero, List.set_cons_succ, e8, e9, e3]
                  rfl
                simp only [Pj.puts, List.foldl_cons, List.foldl_nil, Act.put, List.setIfInBounds_toArray, List.set_cons_zero, List.set_cons_succ, e8, e9, e3]
                exact hKq _ _ ⟨Pj.vset V 10 (undef), by simp only [Pj.puts, List.foldl_cons, List.foldl_nil, Act.put, List.setIfInBounds_toArray, List.set_cons_zero, List.set_cons_succ, Pj.vset, Nat.reduceEqDiff, if_true, if_false, e8, e9, e3], HJ.out.more HP.out hL (Kept.refl _) (rfl)⟩
              | 11, ho =>
                simp only [List.getElem?_toArray, List.getElem?_cons_zero, List.getElem?_cons_succ, Option.some.injEq] at ho
                have e10 : V 10 = undef := hJ.h 10 (hdep 10 (by rw [← ho]; kernel_rfl))
                have e3 : V 3 = .bool false := hJ.h 3 (hdep 3 (by rw [← ho]; kernel_rfl))
                have HJ := Lib.hid hJ
                clear hJ
                subst ho
                refine Pj.Step.not (g := 3) (b := true) rfl ?hy ?_
                case hy =>
                  simp only [Pj.puts, List.foldl_cons, List.foldl_nil, Act.put, List.setIfInBounds_toArray, List.set_cons_zero, List.set_cons_succ, e10, e3]
                  rfl
                simp only [Pj.puts, List.foldl_cons, List.foldl_nil, Act.put, List.setIfInBounds_toArray, List.set_cons_zero, List.set_cons_succ, e10, e3]
                exact hKq _ _ ⟨Pj.vset V 11 (undef), by simp only [Pj.puts, List.foldl_cons, List.foldl_nil, Act.put, List.setIfInBounds_toArray, List.set_cons_zero, List.set_cons_succ, Pj.vset, Nat.reduceEqDiff, if_true, if_false, e10, e3], HJ.out.more HP.out hL (Kept.refl _) (rfl)⟩
              | 12, ho =>
                simp only [List.getElem?_toArray, List.getElem?_cons_zero, List.getElem?_cons_succ, Option.some.injEq] at ho
                have e7 : V 7 = undef := hJ.h 7 (hdep 7 (by rw [← ho]; kernel_rfl))
                have e11 : V 11 = undef := hJ.h 11 (hdep 11 (by rw [← ho]; kernel_rfl))
                have e3 : V 3 = .bool false := hJ.h 3 (hdep 3 (by rw [← ho]; kernel_rfl))
                have HJ := Lib.hid hJ
                clear hJ
                subst ho
                refine Pj.Step.not (g := 3) (b := true) rfl ?hy ?_
                case hy =>
                  simp only [Pj.puts, List.foldl_cons, List.foldl_nil, Act.put, List.setIfInBounds_toArray, List.set_cons_zero, List.set_cons_succ, e7, e11, e3]
                  rfl
                simp only [Pj.puts, List.foldl_cons, List.foldl_nil, Act.put, List.setIfInBounds_toArray, List.set_cons_zero, List.set_cons_succ, e7, e11, e3]
                exact hKq _ _ ⟨Pj.vset V 12 (undef), by simp only [Pj.puts, List.foldl_cons, List.foldl_nil, Act.put, List.setIfInBounds_toArray, List.set_cons_zero, List.set_cons_succ, Pj.vset, Nat.reduceEqDiff, if_true, if_false, e7, e11, e3], HJ.out.more HP.out hL (Kept.refl _) (rfl)⟩
              | 13, ho =>
                simp only [List.getElem?_toArray, List.getElem?_cons_zero, List.getElem?_cons_succ, Option.some.injEq] at ho
                have e3 : V 3 = .bool false := hJ.h 3 (hdep 3 (by rw [← ho]; kernel_rfl))
                have e12 : V 12 = undef := hJ.h 12 (hdep 12 (by rw [← ho]; kernel_rfl))
                have HJ := Lib.hid hJ
                clear hJ
                subst ho
                refine Pj.Step.free rfl ?_
                simp only [Pj.puts, List.foldl_cons, List.foldl_nil, Act.put, List.setIfInBounds_toArray, List.set_cons_zero, List.set_cons_succ, e3, e12]
                go_simp
                exact hKq _ _ ⟨Pj.vset V 13 (.bool false), by simp only [Pj.puts, List.foldl_cons, List.foldl_nil, Act.put, List.setIfInBounds_toArray, List.set_cons_zero, List.set_cons_succ, Pj.vset, Nat.reduceEqDiff, if_true, if_false, e3, e12], HJ.out.more HP.out hL (Kept.refl _) (rfl)⟩
              | n + 14, ho => simp at ho
            case ehe =>
              rintro L az w ⟨V, rfl, hJ⟩ hall
              have e13 : V 13 = .bool false := hJ.h 13 (hall 13 (by decide))
              have HKj := Lib.hid hJ.kp
              clear hJ hall
              simp only [Pj.puts, List.foldl_cons, List.foldl_nil, Act.put, List.setIfInBounds_toArray, List.set_cons_zero, List.set_cons_succ, e13]
              clear e13
              go_wp2_with fail
              go_roundw
              case rel => exact ⟨i + 1, by omega, by go_num, by rw [HKP.out, HE.out], HKS.out.trans HKj.out⟩
              case measure => simp [intOf]; omega
        · obtain rfl : OL.length = i := by omega
          have hdl : decide (OL.length < OL.length) = false := decide_eq_false (by omega)
          have hc9 : cntK OL NL n OL.length = n := by rw [HOL.out]; exact HT5.out
          rw [hc9]
          have hee : ((n : Int) == (n : Int)) = true := by simp
          clear hc9
          go_wp2_with fail
          refine (wakes21_any _).mono ?_
          rintro e w9 ⟨rfl, hk⟩
          have HK9 := Lib.hid (HK4.out.trans (HK5.out.trans (HKS.out.trans hk)))
          clear hk
          go_wp2
          go_ret
          exact ⟨rfl, HK9.out⟩
end Go.Proofs.Ytdllenoclnmmdaa
