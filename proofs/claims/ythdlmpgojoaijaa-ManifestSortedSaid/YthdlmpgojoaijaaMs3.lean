/- siloref19.Rising: texts in their order, without twins, as the reference has them (lists of no great length). -/
import Derived.Test.YthdlmpgojoaijaaMb
import Derived.Test.YthdlmpgojoaijaaOwn
namespace Go.Proofs.Ythdlmpgojoaijaa
open Go.RowKit Go.Shelf
attribute [local go_sem] Oper.semAt_some

theorem insR_len (x : ByteArray) (l : List ByteArray) : (insR x l).length ≤ l.length + 1 := by
  unfold insR
  split
  · omega
  · rw [List.length_append, List.length_append, List.length_take, List.length_drop]
    have := posR_le x l
    simp
    omega
set_option maxRecDepth 100000 in
set_option maxHeartbeats 8000000 in
theorem rising_ref (a : Option Addr) (l cap : Nat) (ss : List ByteArray) (w : World) (h : StrsIn w a l ss) (hl : l ≤ 100000) :
    Calls Try.prog 13 #[.slice a l cap] w fun e w' => ∃ a' c', e = .returned (.slice a' (risen ss).length c') ∧ (risen ss).length ≤ c' ∧ StrsIn w' a' (risen ss).length (risen ss) ∧ Kept w w' := by
  rw [← risR_risen]
  have HS := Lib.hid h
  have HL := Lib.hid h.len_eq
  obtain ⟨i0, hi, hz0, hz1, hz2⟩ := info_parts Try.infoSt
  have HI := Lib.hid (And.intro hi (And.intro hz0 (And.intro hz1 hz2)))
  clear h hi hz0 hz1 hz2
  go_enter Try.func13, Try.ntmps13
  go_wp2_with fail
  go_loopw [3, 4] (fun x iv wr => ∃ i n : Nat, i ≤ l ∧ iv = .int .i64 i ∧ Hid (n = (risR (ss.take i)).length) ∧ n ≤ i ∧ wr.ownsRow w.heap.size 9 1 x n ((risR (ss.take i)).map Value.string) ∧ Kept w wr) (fun _ i _ => l - (intOf i).toNat)
  case atStart => exact ⟨0, 0, by omega, rfl, Lib.hid rfl, by omega, World.ownsRow_nil _ _ _ _, Kept.refl _⟩
  case round =>
    obtain ⟨i, n, hi, rfl, HN, hni, hown, hkr⟩ := hrel
    have HK := Lib.hid hkr
    have hXs : ∀ s ∈ risR (ss.take i), s.size ≤ 9223372036854775807 := fun s hs => HS.out.sizes s (by
      rw [risR_risen, risen_mem] at hs
      exact List.mem_of_mem_take hs)
    have HO := Lib.hid hown
    have hXl : (risR (ss.take i)).length = n := HN.out.symm
    by_cases hlt : i < l
    · have hSN := risR_snoc ss i (by rw [HL.out]; exact hlt)
      obtain ⟨bs, os, rfl, hc⟩ := HS.out.at (by omega)
      have HCT := Lib.hid (hc i hlt)
      unfold txt at hSN
      obtain ⟨t, ht⟩ : ∃ t, t = ss.getD i ByteArray.empty := ⟨_, rfl⟩
      have hts := HS.out.size i hlt
      rw [← ht] at hSN hts
      have HCT := Lib.hid (show ∀ w', Kept w w' → w'.cell? ⟨bs, os + i, none⟩ = some (.string t) by rw [ht]; exact hc i hlt)
      have HSN := Lib.hid hSN
      clear hc ht hSN
      obtain ⟨X, hX⟩ : ∃ X, X = risR (ss.take i) := ⟨_, rfl⟩
      rw [← hX] at hown hXs hXl HSN HO
      have HXR := Lib.hid hX
      obtain ⟨ax, cx, rfl, hncx, hst⟩ := strs_own hown hXl hXs
      have HST := Lib.hid hst
      have HNC := Lib.hid (show ax = none → cx = 0 from fun e => by
        rcases HO.out.2 with ⟨h1, _⟩ | ⟨g, c2, cur, h1, _⟩
        · cases h1; rfl
        · rw [e] at h1; cases h1)
      have HXL := Lib.hid hXl
      have HXS := Lib.hid hXs
      clear hown hkr hX hst hXl hXs HN
      obtain ⟨P, hP⟩ : ∃ P, P = posR t X := ⟨_, rfl⟩
      have hPn : P ≤ n := by rw [hP, ← HXL.out]; exact posR_le t X
      have HPB := Lib.hid (show ∀ q, q < P → ltB (X.getD q ByteArray.empty) t = true from fun q hq => posR_below t X q (by rw [← hP]; exact hq))
      have HPA := Lib.hid (show P < n → ltB (X.getD P ByteArray.empty) t = false from fun hq => by have := posR_at t X (by rw [← hP, HXL.out]; exact hq); rw [← hP] at this; exact this)
      have HINS := Lib.hid (show insR t X = if P < n ∧ X.getD P ByteArray.empty = t then X else X.take P ++ [t] ++ X.drop P by unfold insR; rw [← hP, HXL.out]; rfl)
      clear hP
      obtain ⟨wz, rfl⟩ : ∃ wz, wz = wr := ⟨_, rfl⟩
      go_wp2_with fail
      go_loopw [5] (fun kv wx => ∃ k : Nat, k ≤ P ∧ kv = .int .i64 k ∧ Kept wz wx) (fun kv _ => n - (intOf kv).toNat)
      case atStart => exact ⟨0, by omega, rfl, Kept.refl _⟩
      case round =>
        rename World => wx
        obtain ⟨k, hk, rfl, hkx⟩ := hrel
        have HKX := Lib.hid hkx
        clear hkx
        have c0 := HCT.out _ (HK.out.trans HKX.out)
        by_cases hkn : k < n
        · have hdk : decide (k < n) = true := decide_eq_true hkn
          obtain ⟨bx, ox, rfl, hcx⟩ := HST.out.at (by omega)
          have c1 := hcx k hkn _ HKX.out
          obtain ⟨u, hu⟩ : ∃ u, u = X.getD k ByteArray.empty := ⟨_, rfl⟩
          have hus := HST.out.size k hkn
          rw [← hu] at c1 hus
          have HU := Lib.hid hu
          by_cases hkP : k < P
          · have hq : ltB u t = true := by rw [hu]; exact HPB.out k hkP
            have hop : Op.bytesLess u.toList t.toList = true := hq
            clear hq hcx hu
            go_wp2_with fail
            go_quiet (fail)
            go_wp2
            go_roundw
            case rel => exact ⟨k + 1, by omega, by go_num, HKX.out.drewN nq⟩
            case measure => simp [intOf]; omega
          · obtain rfl : k = P := by omega
            have hq : ltB u t = false := by rw [hu]; exact HPA.out hkn
            have hop : Op.bytesLess u.toList t.toList = false := hq
            have hop2 := run_lss hq
            clear hq hcx hu
            go_wp2_with fail
            go_quiet (fail)
            have HKN := Lib.hid (HKX.out.drewN nq)
            generalize wx.drewN nq = wq at *
            by_cases he : u = t
            · have hIN : insR t X = X := by rw [HINS.out, if_pos ⟨hkn, by rw [← HU.out]; exact he⟩]
              have HRE := Lib.hid (show risR (ss.take (i + 1)) = X by rw [HSN.out, hIN])
              have c0 := HCT.out _ (HK.out.trans HKN.out)
              have c1 := HKN.out.cell (HST.out.lt_of k hkn) (HST.out.cell_of k hkn)
              rw [← HU.out] at c1
              subst he
              clear hIN HU HINS HSN hop2
              go_wp2_with fail
              go_quiet (fail)
              go_wp2
              go_roundw
              case rel => exact ⟨i + 1, n, by omega, by go_num, Lib.hid (by rw [HRE.out, HXL.out]), by omega, by rw [HRE.out]; exact own_kept HO.out (HKN.out.drewN nq), HK.out.trans (HKN.out.drewN nq)⟩
              case measure => simp [intOf]; omega
            · have hX2 : ¬ (k < n ∧ X.getD k ByteArray.empty = t) := fun h => he (by rw [HU.out]; exact h.2)
              have c0 := HCT.out _ (HK.out.trans HKN.out)
              have c1 := HKN.out.cell (HST.out.lt_of k hkn) (HST.out.cell_of k hkn)
              rw [← HU.out] at c1
              obtain ⟨g1, g2, g3⟩ := bytes_ne4 he
              have HX2 := Lib.hid hX2
              clear he hX2 HU hop2
              go_wp2_with fail
              go_quiet (fail)
              have HKN := Lib.hid (HKN.out.drewN nq)
              generalize wq.drewN nq = wq at *
              clear g1 g2 g3 c0 c1 hop
              generalize hax2 : (some ⟨bx, ox, none⟩ : Option Addr) = ax at *
              clear hax2
              have HRE := Lib.hid (show risR (ss.take (i + 1)) = X.take k ++ [t] ++ X.drop k by rw [HSN.out, HINS.out, if_neg HX2.out])
              have HNN := Lib.hid (show ((X.take k ++ [t] ++ X.drop k).map Value.string) = (X.take k).map Value.string ++ [.string t] ++ (X.drop k).map Value.string by simp)
              have HLN := Lib.hid (show (X.take k ++ [t] ++ X.drop k).length = k + 1 + (n - k) by have := HXL.out; simp; omega)
              have HKW := Lib.hid (HK.out.trans HKN.out)
              have HCT2 := Lib.hid (show ∀ w', Kept wq w' → w'.cell? ⟨bs, os + i, none⟩ = some (.string t) from fun w' kk => HCT.out _ (HKW.out.trans kk))
              have HST2 := Lib.hid (HST.out.kept HKN.out)
              obtain ⟨aq, HSL, HNO, HTL⟩ := tail_slice ax n cx X k (by omega) hncx wq HST2.out HNC.out
              have HCP := Lib.hid (show ∀ w', Kept wq w' → Calls Try.prog 12 #[.slice ax k cx] w' fun e w2 => ∃ a' c', e = .returned (.slice a' k c') ∧ w2.ownsRow w'.heap.size 9 1 (.slice a' k c') k ((X.take k).map Value.string) ∧ Kept w' w2 from fun w' kk => copy_strings_own ax k cx (X.take k) w' (strs_take1 (HST2.out.kept kk) (by omega)) (by omega))
              have hHQ : k ≤ cx := by omega
              clear HINS HSN
              go_wp2_with fail
              refine Pj.wp_region_step (fun az0 L az w => ∃ V : Nat → Value, az = Pj.puts [(44, 0), (45, 1), (46, 2), (47, 3), (48, 4), (49, 5), (50, 6), (51, 7), (52, 8), (53, 9), (54, 10), (55, 11), (56, 12), (57, 13), (3, 14)] V az0 ∧ Pj.J wq [Pj.Is (.slice ax n cx), Pj.Is (.int .i64 k), Pj.Is (.slice ax k cx), (fun _ v => ∃ a c, v = .slice a k c), Pj.Is (.slice (some ⟨bs, os, none⟩) l cap), Pj.Is (.int .i64 i), Pj.Is (.pointer (some ⟨bs, os + i, none⟩)), Pj.Is (.string t), (fun _ v => ∃ g : Nat, v = .slice (some ⟨g, 0, none⟩) 1 1), (fun _ v => ∃ a c, v = .slice a (k + 1) c), Pj.Is (.slice ax n cx), Pj.Is (.int .i64 k), Pj.Is (.slice aq (n - k) (cx - k)), (fun _ v => ∃ a c, v = .slice a (k + 1 + (n - k)) c), (fun _ _ => True)] L V w ∧ Pj.Ins wq.heap.size 9 1 k (n - k) ((X.take k).map Value.string) [.string t] ((X.drop k).map Value.string) 3 8 9 13 L V w ∧ (L 14 → L 13 ∧ V 14 = V 13) ∧ (¬ L 14 → V 14 = .slice ax n cx) ∧ (L 14 → L 0) ∧ (L 14 → L 10)) (by as_aux_lemma => kernel_rfl) (by as_aux_lemma => kernel_rfl) ?eh0 ?ehs ?ehe
              case eh0 =>
                intro L hL
                exact ⟨_, Pj.puts_self _ (fun j => ([44, 45, 46, 47, 48, 49, 50, 51, 52, 53, 54, 55, 56, 57, 3] : List Nat).getD j 0) [0, 1, 2, 3, 4, 5, 6, 7, 8, 9, 10, 11, 12, 13, 14], Pj.J.none (n := 15) (Nat.le_refl _) hL ((Kept.refl _).drew), Pj.Ins.start (hL 3 (by decide)) (hL 8 (by decide)) (hL 9 (by decide)) (hL 13 (by decide)), fun h => absurd h (hL 14 (by decide)), fun _ => rfl, fun h => absurd h (hL 14 (by decide)), fun h => absurd h (hL 14 (by decide))⟩
              case ehs =>
                rintro L L' az w iz opz Kq ⟨V, rfl, hJ, hI, hc14, hi14, hl14_0, hl14_10⟩ ho hopen hdep hL hKq
                have hP : Pj.AllFlat [Pj.Is (.slice ax n cx), Pj.Is (.int .i64 k), Pj.Is (.slice ax k cx), (fun _ v => ∃ a c, v = .slice a k c), Pj.Is (.slice (some ⟨bs, os, none⟩) l cap), Pj.Is (.int .i64 i), Pj.Is (.pointer (some ⟨bs, os + i, none⟩)), Pj.Is (.string t), (fun _ v => ∃ g : Nat, v = .slice (some ⟨g, 0, none⟩) 1 1), (fun _ v => ∃ a c, v = .slice a (k + 1) c), Pj.Is (.slice ax n cx), Pj.Is (.int .i64 k), Pj.Is (.slice aq (n - k) (cx - k)), (fun _ v => ∃ a c, v = .slice a (k + 1 + (n - k)) c), (fun _ _ => True)] := ⟨Pj.Is.flat _, Pj.Is.flat _, Pj.Is.flat _, (fun _ _ _ h _ => h), Pj.Is.flat _, Pj.Is.flat _, Pj.Is.flat _, Pj.Is.flat _, (fun _ _ _ h _ => h), (fun _ _ _ h _ => h), Pj.Is.flat _, Pj.Is.flat _, Pj.Is.flat _, (fun _ _ _ h _ => h), (fun _ _ _ _ _ => trivial), trivial⟩
                have HP := Lib.hid hP
                clear hP
                match iz, ho with
                | 0, ho =>
                  simp only [List.getElem?_toArray, List.getElem?_cons_zero, Option.some.injEq] at ho
                  have ei14 : V 14 = .slice ax n cx := hi14 (fun h => hopen (hl14_0 h))
                  have HJ := Lib.hid hJ
                  clear hJ
                  have HXhI := Lib.hid hI
                  clear hI
                  subst ho
                  refine Pj.Step.free rfl ?_
                  simp only [Pj.puts, List.foldl_cons, List.foldl_nil, Act.put, List.setIfInBounds_toArray, List.set_cons_zero, List.set_cons_succ, ei14]
                  go_simp
                  exact hKq _ _ ⟨Pj.vset V 0 (.slice ax n cx), by simp only [Pj.puts, List.foldl_cons, List.foldl_nil, Act.put, List.setIfInBounds_toArray, List.set_cons_zero, List.set_cons_succ, Pj.vset, Nat.reduceEqDiff, if_true, if_false, ei14], HJ.out.flat HP.out hL (HJ.out.kp.trans (Kept.refl _)) (Kept.size (Kept.refl _)) (rfl), HXhI.out.keep (by decide) (by decide) (by decide) (by decide) hL (Kept.refl _), fun h => ⟨(hL 13).2 (.inr (hc14 (((hL 14).1 h).resolve_left (by decide))).1), by rw [Pj.vset_other _ _ (by decide), Pj.vset_other _ _ (by decide)]; exact (hc14 (((hL 14).1 h).resolve_left (by decide))).2⟩, fun h => by rw [Pj.vset_other _ _ (by decide)]; exact hi14 (fun q => h ((hL 14).2 (.inr q))), fun h => (hL 0).2 (((hL 14).1 h).elim (fun e => absurd e (by decide)) (fun q => .inr (hl14_0 q))), fun h => (hL 10).2 (((hL 14).1 h).elim (fun e => absurd e (by decide)) (fun q => .inr (hl14_10 q)))⟩
                | 1, ho =>
                  simp only [List.getElem?_toArray, List.getElem?_cons_zero, List.getElem?_cons_succ, Option.some.injEq] at ho
                  have HJ := Lib.hid hJ
                  clear hJ
                  have HXhI := Lib.hid hI
                  clear hI
                  subst ho
                  refine Pj.Step.free rfl ?_
                  simp only [Pj.puts, List.foldl_cons, List.foldl_nil, Act.put, List.setIfInBounds_toArray, List.set_cons_zero, List.set_cons_succ]
                  go_simp
                  exact hKq _ _ ⟨Pj.vset V 1 (.int .i64 k), by simp only [Pj.puts, List.foldl_cons, List.foldl_nil, Act.put, List.setIfInBounds_toArray, List.set_cons_zero, List.set_cons_succ, Pj.vset, Nat.reduceEqDiff, if_true, if_false], HJ.out.flat HP.out hL (HJ.out.kp.trans (Kept.refl _)) (Kept.size (Kept.refl _)) (rfl), HXhI.out.keep (by decide) (by decide) (by decide) (by decide) hL (Kept.refl _), fun h => ⟨(hL 13).2 (.inr (hc14 (((hL 14).1 h).resolve_left (by decide))).1), by rw [Pj.vset_other _ _ (by decide), Pj.vset_other _ _ (by decide)]; exact (hc14 (((hL 14).1 h).resolve_left (by decide))).2⟩, fun h => by rw [Pj.vset_other _ _ (by decide)]; exact hi14 (fun q => h ((hL 14).2 (.inr q))), fun h => (hL 0).2 (((hL 14).1 h).elim (fun e => absurd e (by decide)) (fun q => .inr (hl14_0 q))), fun h => (hL 10).2 (((hL 14).1 h).elim (fun e => absurd e (by decide)) (fun q => .inr (hl14_10 q)))⟩
                | 2, ho =>
                  simp only [List.getElem?_toArray, List.getElem?_cons_zero, List.getElem?_cons_succ, Option.some.injEq] at ho
                  have e0 : V 0 = .slice ax n cx := hJ.h 0 (hdep 0 (by rw [← ho]; kernel_rfl))
                  have e1 : V 1 = .int .i64 k := hJ.h 1 (hdep 1 (by rw [← ho]; kernel_rfl))
                  have HJ := Lib.hid hJ
                  clear hJ
                  have HXhI := Lib.hid hI
                  clear hI
                  subst ho
                  refine Pj.Step.free rfl ?_
                  simp only [Pj.puts, List.foldl_cons, List.foldl_nil, Act.put, List.setIfInBounds_toArray, List.set_cons_zero, List.set_cons_succ, e0, e1]
                  go_simp
                  exact hKq _ _ ⟨Pj.vset V 2 (.slice ax k cx), by simp only [Pj.puts, List.foldl_cons, List.foldl_nil, Act.put, List.setIfInBounds_toArray, List.set_cons_zero, List.set_cons_succ, Pj.vset, Nat.reduceEqDiff, if_true, if_false, e0, e1], HJ.out.flat HP.out hL (HJ.out.kp.trans (Kept.refl _)) (Kept.size (Kept.refl _)) (rfl), HXhI.out.keep (by decide) (by decide) (by decide) (by decide) hL (Kept.refl _), fun h => ⟨(hL 13).2 (.inr (hc14 (((hL 14).1 h).resolve_left (by decide))).1), by rw [Pj.vset_other _ _ (by decide), Pj.vset_other _ _ (by decide)]; exact (hc14 (((hL 14).1 h).resolve_left (by decide))).2⟩, fun h => by rw [Pj.vset_other _ _ (by decide)]; exact hi14 (fun q => h ((hL 14).2 (.inr q))), fun h => (hL 0).2 (((hL 14).1 h).elim (fun e => absurd e (by decide)) (fun q => .inr (hl14_0 q))), fun h => (hL 10).2 (((hL 14).1 h).elim (fun e => absurd e (by decide)) (fun q => .inr (hl14_10 q)))⟩
                | 3, ho =>
                  simp only [List.getElem?_toArray, List.getElem?_cons_zero, List.getElem?_cons_succ, Option.some.injEq] at ho
                  have e2 : V 2 = .slice ax k cx := hJ.h 2 (hdep 2 (by rw [← ho]; kernel_rfl))
                  have hcp := HCP.out w hJ.kp
                  have HJ := Lib.hid hJ
                  clear hJ
                  have HXhI := Lib.hid hI
                  clear hI
                  subst ho
                  refine Pj.Step.free rfl ?_
                  simp only [Pj.puts, List.foldl_cons, List.foldl_nil, Act.put, List.setIfInBounds_toArray, List.set_cons_zero, List.set_cons_succ, e2]
                  go_simp
                  refine hcp.mono ?_
                  rintro e w' ⟨a5, c5, rfl, hown5', hk9⟩
                  have hown5 := own_base hown5' (Kept.size HJ.out.kp)
                  exact hKq _ _ ⟨Pj.vset V 3 (.slice a5 k c5), by simp only [Pj.puts, List.foldl_cons, List.foldl_nil, Act.put, List.setIfInBounds_toArray, List.set_cons_zero, List.set_cons_succ, Pj.vset, Nat.reduceEqDiff, if_true, if_false, e2], HJ.out.flat HP.out hL (HJ.out.kp.trans (hk9)) (Kept.size (hk9)) (⟨_, _, rfl⟩), HXhI.out.copied hopen (by decide) (by decide) (by decide) hL hk9 hown5, fun h => ⟨(hL 13).2 (.inr (hc14 (((hL 14).1 h).resolve_left (by decide))).1), by rw [Pj.vset_other _ _ (by decide), Pj.vset_other _ _ (by decide)]; exact (hc14 (((hL 14).1 h).resolve_left (by decide))).2⟩, fun h => by rw [Pj.vset_other _ _ (by decide)]; exact hi14 (fun q => h ((hL 14).2 (.inr q))), fun h => (hL 0).2 (((hL 14).1 h).elim (fun e => absurd e (by decide)) (fun q => .inr (hl14_0 q))), fun h => (hL 10).2 (((hL 14).1 h).elim (fun e => absurd e (by decide)) (fun q => .inr (hl14_10 q)))⟩
                | 4, ho =>
                  simp only [List.getElem?_toArray, List.getElem?_cons_zero, List.getElem?_cons_succ, Option.some.injEq] at ho
                  have HJ := Lib.hid hJ
                  clear hJ
                  have HXhI := Lib.hid hI
                  clear hI
                  subst ho
                  refine Pj.Step.free rfl ?_
                  simp only [Pj.puts, List.foldl_cons, List.foldl_nil, Act.put, List.setIfInBounds_toArray, List.set_cons_zero, List.set_cons_succ]
                  go_simp
                  exact hKq _ _ ⟨Pj.vset V 4 (.slice (some ⟨bs, os, none⟩) l cap), by simp only [Pj.puts, List.foldl_cons, List.foldl_nil, Act.put, List.setIfInBounds_toArray, List.set_cons_zero, List.set_cons_succ, Pj.vset, Nat.reduceEqDiff, if_true, if_false], HJ.out.flat HP.out hL (HJ.out.kp.trans (Kept.refl _)) (Kept.size (Kept.refl _)) (rfl), HXhI.out.keep (by decide) (by decide) (by decide) (by decide) hL (Kept.refl _), fun h => ⟨(hL 13).2 (.inr (hc14 (((hL 14).1 h).resolve_left (by decide))).1), by rw [Pj.vset_other _ _ (by decide), Pj.vset_other _ _ (by decide)]; exact (hc14 (((hL 14).1 h).resolve_left (by decide))).2⟩, fun h => by rw [Pj.vset_other _ _ (by decide)]; exact hi14 (fun q => h ((hL 14).2 (.inr q))), fun h => (hL 0).2 (((hL 14).1 h).elim (fun e => absurd e (by decide)) (fun q => .inr (hl14_0 q))), fun h => (hL 10).2 (((hL 14).1 h).elim (fun e => absurd e (by decide)) (fun q => .inr (hl14_10 q)))⟩
                | 5, ho =>
                  simp only [List.getElem?_toArray, List.getElem?_cons_zero, List.getElem?_cons_succ, Option.some.injEq] at ho
                  have HJ := Lib.hid hJ
                  clear hJ
                  have HXhI := Lib.hid hI
                  clear hI
                  subst ho
                  refine Pj.Step.free rfl ?_
                  simp only [Pj.puts, List.foldl_cons, List.foldl_nil, Act.put, List.setIfInBounds_toArray, List.set_cons_zero, List.set_cons_succ]
                  go_simp
                  exact hKq _ _ ⟨Pj.vset V 5 (.int .i64 i), by simp only [Pj.puts, List.foldl_cons, List.foldl_nil, Act.put, List.setIfInBounds_toArray, List.set_cons_zero, List.set_cons_succ, Pj.vset, Nat.reduceEqDiff, if_true, if_false], HJ.out.flat HP.out hL (HJ.out.kp.trans (Kept.refl _)) (Kept.size (Kept.refl _)) (rfl), HXhI.out.keep (by decide) (by decide) (by decide) (by decide) hL (Kept.refl _), fun h => ⟨(hL 13).2 (.inr (hc14 (((hL 14).1 h).resolve_left (by decide))).1), by rw [Pj.vset_other _ _ (by decide), Pj.vset_other _ _ (by decide)]; exact (hc14 (((hL 14).1 h).resolve_left (by decide))).2⟩, fun h => by rw [Pj.vset_other _ _ (by decide)]; exact hi14 (fun q => h ((hL 14).2 (.inr q))), fun h => (hL 0).2 (((hL 14).1 h).elim (fun e => absurd e (by decide)) (fun q => .inr (hl14_0 q))), fun h => (hL 10).2 (((hL 14).1 h).elim (fun e => absurd e (by decide)) (fun q => .inr (hl14_10 q)))⟩
                | 6, ho =>
                  simp only [List.getElem?_toArray, List.getElem?_cons_zero, List.getElem?_cons_succ, Option.some.injEq] at ho
                  have e4 : V 4 = .slice (some ⟨bs, os, none⟩) l cap := hJ.h 4 (hdep 4 (by rw [← ho]; kernel_rfl))
                  have e5 : V 5 = .int .i64 i := hJ.h 5 (hdep 5 (by rw [← ho]; kernel_rfl))
                  have HJ := Lib.hid hJ
                  clear hJ
                  have HXhI := Lib.hid hI
                  clear hI
                  subst ho
                  refine Pj.Step.free rfl ?_
                  simp only [Pj.puts, List.foldl_cons, List.foldl_nil, Act.put, List.setIfInBounds_toArray, List.set_cons_zero, List.set_cons_succ, e4, e5]
                  go_simp
                  exact hKq _ _ ⟨Pj.vset V 6 (.pointer (some ⟨bs, os + i, none⟩)), by simp only [Pj.puts, List.foldl_cons, List.foldl_nil, Act.put, List.setIfInBounds_toArray, List.set_cons_zero, List.set_cons_succ, Pj.vset, Nat.reduceEqDiff, if_true, if_false, e4, e5], HJ.out.flat HP.out hL (HJ.out.kp.trans (Kept.refl _)) (Kept.size (Kept.refl _)) (rfl), HXhI.out.keep (by decide) (by decide) (by decide) (by decide) hL (Kept.refl _), fun h => ⟨(hL 13).2 (.inr (hc14 (((hL 14).1 h).resolve_left (by decide))).1), by rw [Pj.vset_other _ _ (by decide), Pj.vset_other _ _ (by decide)]; exact (hc14 (((hL 14).1 h).resolve_left (by decide))).2⟩, fun h => by rw [Pj.vset_other _ _ (by decide)]; exact hi14 (fun q => h ((hL 14).2 (.inr q))), fun h => (hL 0).2 (((hL 14).1 h).elim (fun e => absurd e (by decide)) (fun q => .inr (hl14_0 q))), fun h => (hL 10).2 (((hL 14).1 h).elim (fun e => absurd e (by decide)) (fun q => .inr (hl14_10 q)))⟩
                | 7, ho =>
                  simp only [List.getElem?_toArray, List.getElem?_cons_zero, List.getElem?_cons_succ, Option.some.injEq] at ho
                  have e6 : V 6 = .pointer (some ⟨bs, os + i, none⟩) := hJ.h 6 (hdep 6 (by rw [← ho]; kernel_rfl))
                  have c0 := HCT2.out _ hJ.kp
                  have HJ := Lib.hid hJ
                  clear hJ
                  have HXhI := Lib.hid hI
                  clear hI
                  subst ho
                  refine Pj.Step.free rfl ?_
                  simp only [Pj.puts, List.foldl_cons, List.foldl_nil, Act.put, List.setIfInBounds_toArray, List.set_cons_zero, List.set_cons_succ, e6]
                  go_simp
                  exact hKq _ _ ⟨Pj.vset V 7 (.string t), by simp only [Pj.puts, List.foldl_cons, List.foldl_nil, Act.put, List.setIfInBounds_toArray, List.set_cons_zero, List.set_cons_succ, Pj.vset, Nat.reduceEqDiff, if_true, if_false, e6], HJ.out.flat HP.out hL (HJ.out.kp.trans (Kept.refl _)) (Kept.size (Kept.refl _)) (rfl), HXhI.out.keep (by decide) (by decide) (by decide) (by decide) hL (Kept.refl _), fun h => ⟨(hL 13).2 (.inr (hc14 (((hL 14).1 h).resolve_left (by decide))).1), by rw [Pj.vset_other _ _ (by decide), Pj.vset_other _ _ (by decide)]; exact (hc14 (((hL 14).1 h).resolve_left (by decide))).2⟩, fun h => by rw [Pj.vset_other _ _ (by decide)]; exact hi14 (fun q => h ((hL 14).2 (.inr q))), fun h => (hL 0).2 (((hL 14).1 h).elim (fun e => absurd e (by decide)) (fun q => .inr (hl14_0 q))), fun h => (hL 10).2 (((hL 14).1 h).elim (fun e => absurd e (by decide)) (fun q => .inr (hl14_10 q)))⟩
                | 8, ho =>
                  simp only [List.getElem?_toArray, List.getElem?_cons_zero, List.getElem?_cons_succ, Option.some.injEq] at ho
                  have e7 : V 7 = .string t := hJ.h 7 (hdep 7 (by rw [← ho]; kernel_rfl))
                  have HJ := Lib.hid hJ
                  clear hJ
                  have HXhI := Lib.hid hI
                  clear hI
                  subst ho
                  refine Pj.Step.free rfl ?_
                  simp only [Pj.puts, List.foldl_cons, List.foldl_nil, Act.put, List.setIfInBounds_toArray, List.set_cons_zero, List.set_cons_succ, e7]
                  go_simp
                  exact hKq _ _ ⟨Pj.vset V 8 (.slice (some ⟨w.heap.size, 0, none⟩) 1 1), by simp only [Pj.puts, List.foldl_cons, List.foldl_nil, Act.put, List.setIfInBounds_toArray, List.set_cons_zero, List.set_cons_succ, Pj.vset, Nat.reduceEqDiff, if_true, if_false, e7], HJ.out.flat HP.out hL (HJ.out.kp.trans ((Kept.refl _).alloc _)) (Kept.size ((Kept.refl _).alloc _)) (⟨_, rfl⟩), HXhI.out.built hopen (by decide) (by decide) (by decide) hL, fun h => ⟨(hL 13).2 (.inr (hc14 (((hL 14).1 h).resolve_left (by decide))).1), by rw [Pj.vset_other _ _ (by decide), Pj.vset_other _ _ (by decide)]; exact (hc14 (((hL 14).1 h).resolve_left (by decide))).2⟩, fun h => by rw [Pj.vset_other _ _ (by decide)]; exact hi14 (fun q => h ((hL 14).2 (.inr q))), fun h => (hL 0).2 (((hL 14).1 h).elim (fun e => absurd e (by decide)) (fun q => .inr (hl14_0 q))), fun h => (hL 10).2 (((hL 14).1 h).elim (fun e => absurd e (by decide)) (fun q => .inr (hl14_10 q)))⟩
                | 9, ho =>
                  simp only [List.getElem?_toArray, List.getElem?_cons_zero, List.getElem?_cons_succ, Option.some.injEq] at ho
                  have l3 := hdep 3 (by rw [← ho]; kernel_rfl)
                  obtain ⟨a3, c3, e3⟩ := hJ.h 3 l3
                  have l8 := hdep 8 (by rw [← ho]; kernel_rfl)
                  obtain ⟨g8, e8⟩ := hJ.h 8 l8
                  obtain ⟨g, eg, hgb⟩ := hI.b1 l8 hopen
                  have hown := hI.c1 l3 hopen
                  rw [e3] at hown
                  rw [e8] at eg
                  cases eg
                  have HJ := Lib.hid hJ
                  clear hJ
                  have HXhI := Lib.hid hI
                  clear hI
                  subst ho
                  refine Pj.Step.free rfl ?_
                  simp only [Pj.puts, List.foldl_cons, List.foldl_nil, Act.put, List.setIfInBounds_toArray, List.set_cons_zero, List.set_cons_succ, e3, e8]
                  refine Pj.oper_takes _ _ 23 rfl wq.heap.size 9 i0 (.string ByteArray.empty) 1 16 Try.underlying23 HI.out.1 HI.out.2.1 HI.out.2.2.1 HI.out.2.2.2 rfl (by decide) (.slice a3 k c3) k ((X.take k).map Value.string) rfl hown (some ⟨g8, 0, none⟩) 1 1 [.string t] rfl (fun e => by cases e) rfl (fun ad e j u hj => by cases e; exact Pj.block_cells hgb j u hj) (by intro u hu; simp at hu; subst hu; rfl) (by omega) (by decide) HJ.out.kp.size ?_
                  intro v' w' hown' hgrow
                  obtain ⟨a6, c6, rfl⟩ := slice_of_own1 hown'
                  simp only [Act.put, List.setIfInBounds_toArray, List.set_cons_zero, List.set_cons_succ]
                  exact hKq _ _ ⟨Pj.vset V 9 (.slice a6 (k + 1) c6), by simp only [Pj.puts, List.foldl_cons, List.foldl_nil, Act.put, List.setIfInBounds_toArray, List.set_cons_zero, List.set_cons_succ, Pj.vset, Nat.reduceEqDiff, if_true, if_false, e3, e8], HJ.out.flat HP.out hL (kept_gr1 HJ.out.kp hgrow (fun q e => (hown.lt q e).1) (Nat.le_refl _)) (hgrow.size) (⟨_, _, rfl⟩), HXhI.out.one hopen l3 l8 (by decide) (by decide) (by decide) hL hown', fun h => ⟨(hL 13).2 (.inr (hc14 (((hL 14).1 h).resolve_left (by decide))).1), by rw [Pj.vset_other _ _ (by decide), Pj.vset_other _ _ (by decide)]; exact (hc14 (((hL 14).1 h).resolve_left (by decide))).2⟩, fun h => by rw [Pj.vset_other _ _ (by decide)]; exact hi14 (fun q => h ((hL 14).2 (.inr q))), fun h => (hL 0).2 (((hL 14).1 h).elim (fun e => absurd e (by decide)) (fun q => .inr (hl14_0 q))), fun h => (hL 10).2 (((hL 14).1 h).elim (fun e => absurd e (by decide)) (fun q => .inr (hl14_10 q)))⟩
                | 10, ho =>
                  simp only [List.getElem?_toArray, List.getElem?_cons_zero, List.getElem?_cons_succ, Option.some.injEq] at ho
                  have ei14 : V 14 = .slice ax n cx := hi14 (fun h => hopen (hl14_10 h))
                  have HJ := Lib.hid hJ
                  clear hJ
                  have HXhI := Lib.hid hI
                  clear hI
                  subst ho
                  refine Pj.Step.free rfl ?_
                  simp only [Pj.puts, List.foldl_cons, List.foldl_nil, Act.put, List.setIfInBounds_toArray, List.set_cons_zero, List.set_cons_succ, ei14]
                  go_simp
                  exact hKq _ _ ⟨Pj.vset V 10 (.slice ax n cx), by simp only [Pj.puts, List.foldl_cons, List.foldl_nil, Act.put, List.setIfInBounds_toArray, List.set_cons_zero, List.set_cons_succ, Pj.vset, Nat.reduceEqDiff, if_true, if_false, ei14], HJ.out.flat HP.out hL (HJ.out.kp.trans (Kept.refl _)) (Kept.size (Kept.refl _)) (rfl), HXhI.out.keep (by decide) (by decide) (by decide) (by decide) hL (Kept.refl _), fun h => ⟨(hL 13).2 (.inr (hc14 (((hL 14).1 h).resolve_left (by decide))).1), by rw [Pj.vset_other _ _ (by decide), Pj.vset_other _ _ (by decide)]; exact (hc14 (((hL 14).1 h).resolve_left (by decide))).2⟩, fun h => by rw [Pj.vset_other _ _ (by decide)]; exact hi14 (fun q => h ((hL 14).2 (.inr q))), fun h => (hL 0).2 (((hL 14).1 h).elim (fun e => absurd e (by decide)) (fun q => .inr (hl14_0 q))), fun h => (hL 10).2 (((hL 14).1 h).elim (fun e => absurd e (by decide)) (fun q => .inr (hl14_10 q)))⟩
                | 11, ho =>
                  simp only [List.getElem?_toArray, List.getElem?_cons_zero, List.getElem?_cons_succ, Option.some.injEq] at ho
                  have HJ := Lib.hid hJ
                  clear hJ
                  have HXhI := Lib.hid hI
                  clear hI
                  subst ho
                  refine Pj.Step.free rfl ?_
                  simp only [Pj.puts, List.foldl_cons, List.foldl_nil, Act.put, List.setIfInBounds_toArray, List.set_cons_zero, List.set_cons_succ]
                  go_simp
                  exact hKq _ _ ⟨Pj.vset V 11 (.int .i64 k), by simp only [Pj.puts, List.foldl_cons, List.foldl_nil, Act.put, List.setIfInBounds_toArray, List.set_cons_zero, List.set_cons_succ, Pj.vset, Nat.reduceEqDiff, if_true, if_false], HJ.out.flat HP.out hL (HJ.out.kp.trans (Kept.refl _)) (Kept.size (Kept.refl _)) (rfl), HXhI.out.keep (by decide) (by decide) (by decide) (by decide) hL (Kept.refl _), fun h => ⟨(hL 13).2 (.inr (hc14 (((hL 14).1 h).resolve_left (by decide))).1), by rw [Pj.vset_other _ _ (by decide), Pj.vset_other _ _ (by decide)]; exact (hc14 (((hL 14).1 h).resolve_left (by decide))).2⟩, fun h => by rw [Pj.vset_other _ _ (by decide)]; exact hi14 (fun q => h ((hL 14).2 (.inr q))), fun h => (hL 0).2 (((hL 14).1 h).elim (fun e => absurd e (by decide)) (fun q => .inr (hl14_0 q))), fun h => (hL 10).2 (((hL 14).1 h).elim (fun e => absurd e (by decide)) (fun q => .inr (hl14_10 q)))⟩
                | 12, ho =>
                  simp only [List.getElem?_toArray, List.getElem?_cons_zero, List.getElem?_cons_succ, Option.some.injEq] at ho
                  have e10 : V 10 = .slice ax n cx := hJ.h 10 (hdep 10 (by rw [← ho]; kernel_rfl))
                  have e11 : V 11 = .int .i64 k := hJ.h 11 (hdep 11 (by rw [← ho]; kernel_rfl))
                  have hsl := HSL.out
                  have HJ := Lib.hid hJ
                  clear hJ
                  have HXhI := Lib.hid hI
                  clear hI
                  subst ho
                  refine Pj.Step.free rfl ?_
                  simp only [Pj.puts, List.foldl_cons, List.foldl_nil, Act.put, List.setIfInBounds_toArray, List.set_cons_zero, List.set_cons_succ, e10, e11]
                  go_simp
                  exact hKq _ _ ⟨Pj.vset V 12 (.slice aq (n - k) (cx - k)), by simp only [Pj.puts, List.foldl_cons, List.foldl_nil, Act.put, List.setIfInBounds_toArray, List.set_cons_zero, List.set_cons_succ, Pj.vset, Nat.reduceEqDiff, if_true, if_false, e10, e11], HJ.out.flat HP.out hL (HJ.out.kp.trans (Kept.refl _)) (Kept.size (Kept.refl _)) (rfl), HXhI.out.keep (by decide) (by decide) (by decide) (by decide) hL (Kept.refl _), fun h => ⟨(hL 13).2 (.inr (hc14 (((hL 14).1 h).resolve_left (by decide))).1), by rw [Pj.vset_other _ _ (by decide), Pj.vset_other _ _ (by decide)]; exact (hc14 (((hL 14).1 h).resolve_left (by decide))).2⟩, fun h => by rw [Pj.vset_other _ _ (by decide)]; exact hi14 (fun q => h ((hL 14).2 (.inr q))), fun h => (hL 0).2 (((hL 14).1 h).elim (fun e => absurd e (by decide)) (fun q => .inr (hl14_0 q))), fun h => (hL 10).2 (((hL 14).1 h).elim (fun e => absurd e (by decide)) (fun q => .inr (hl14_10 q)))⟩
                | 13, ho =>
                  simp only [List.getElem?_toArray, List.getElem?_cons_zero, List.getElem?_cons_succ, Option.some.injEq] at ho
                  have l9 := hdep 9 (by rw [← ho]; kernel_rfl)
                  obtain ⟨a9, c9, e9⟩ := hJ.h 9 l9
                  have e12 : V 12 = .slice aq (n - k) (cx - k) := hJ.h 12 (hdep 12 (by rw [← ho]; kernel_rfl))
                  have hown := hI.p1 l9 hopen
                  rw [e9] at hown
                  have htl := HTL.out w hJ.kp
                  have HJ := Lib.hid hJ
                  clear hJ
                  have HXhI := Lib.hid hI
                  clear hI
                  subst ho
                  refine Pj.Step.free rfl ?_
                  simp only [Pj.puts, List.foldl_cons, List.foldl_nil, Act.put, List.setIfInBounds_toArray, List.set_cons_zero, List.set_cons_succ, e9, e12]
                  refine Pj.oper_takes _ _ 23 rfl wq.heap.size 9 i0 (.string ByteArray.empty) 1 16 Try.underlying23 HI.out.1 HI.out.2.1 HI.out.2.2.1 HI.out.2.2.2 rfl (by decide) (.slice a9 (k + 1) c9) (k + 1) (((X.take k).map Value.string) ++ [.string t]) rfl hown aq (n - k) (cx - k) ((X.drop k).map Value.string) rfl HNO.out htl.1 htl.2 (fun u hu => by obtain ⟨x, _, rfl⟩ := List.mem_map.1 hu; rfl) (by omega) (by decide) HJ.out.kp.size ?_
                  intro v' w' hown' hgrow
                  obtain ⟨a6, c6, rfl⟩ := slice_of_own1 hown'
                  simp only [Act.put, List.setIfInBounds_toArray, List.set_cons_zero, List.set_cons_succ]
                  exact hKq _ _ ⟨Pj.vset V 13 (.slice a6 (k + 1 + (n - k)) c6), by simp only [Pj.puts, List.foldl_cons, List.foldl_nil, Act.put, List.setIfInBounds_toArray, List.set_cons_zero, List.set_cons_succ, Pj.vset, Nat.reduceEqDiff, if_true, if_false, e9, e12], HJ.out.flat HP.out hL (kept_gr1 HJ.out.kp hgrow (fun q e => (hown.lt q e).1) (Nat.le_refl _)) (hgrow.size) (⟨_, _, rfl⟩), HXhI.out.tail l9 (by decide) hL hown', fun h => absurd (hc14 (((hL 14).1 h).resolve_left (by decide))).1 hopen, fun h => by rw [Pj.vset_other _ _ (by decide)]; exact hi14 (fun q => h ((hL 14).2 (.inr q))), fun h => (hL 0).2 (((hL 14).1 h).elim (fun e => absurd e (by decide)) (fun q => .inr (hl14_0 q))), fun h => (hL 10).2 (((hL 14).1 h).elim (fun e => absurd e (by decide)) (fun q => .inr (hl14_10 q)))⟩
                | 14, ho =>
                  simp only [List.getElem?_toArray, List.getElem?_cons_zero, List.getElem?_cons_succ, Option.some.injEq] at ho
                  have l13 := hdep 13 (by rw [← ho]; kernel_rfl)
                  obtain ⟨a13, c13, e13⟩ := hJ.h 13 l13
                  have hd14_0 := hdep 0 (by rw [← ho]; kernel_rfl)
                  have hd14_10 := hdep 10 (by rw [← ho]; kernel_rfl)
                  have HJ := Lib.hid hJ
                  clear hJ
                  have HXhI := Lib.hid hI
                  clear hI
                  subst ho
                  refine Pj.Step.free rfl ?_
                  simp only [Pj.puts, List.foldl_cons, List.foldl_nil, Act.put, List.setIfInBounds_toArray, List.set_cons_zero, List.set_cons_succ, e13]
                  go_simp
                  exact hKq _ _ ⟨Pj.vset V 14 (V 13), by simp only [Pj.puts, List.foldl_cons, List.foldl_nil, Act.put, List.setIfInBounds_toArray, List.set_cons_zero, List.set_cons_succ, Pj.vset, Nat.reduceEqDiff, if_true, if_false, e13], HJ.out.flat HP.out hL (HJ.out.kp.trans (Kept.refl _)) (Kept.size (Kept.refl _)) (trivial), HXhI.out.keep (by decide) (by decide) (by decide) (by decide) hL (Kept.refl _), fun _ => ⟨(hL 13).2 (.inr l13), by rw [Pj.vset_same, Pj.vset_other _ _ (by decide)]⟩, fun h => absurd ((hL 14).2 (.inl rfl)) h, fun _ => (hL 0).2 (.inr hd14_0), fun _ => (hL 10).2 (.inr hd14_10)⟩
                | n + 15, ho => simp at ho
              case ehe =>
                rintro L az w ⟨V, rfl, hJ, hI, hc14, hi14, hl14_0, hl14_10⟩ hall
                have e14 : V 14 = V 13 := (hc14 (hall 14 (by decide))).2
                obtain ⟨a13, c13, e13⟩ := hJ.h 13 (hall 13 (by decide))
                have hq9 := hI.q1 (hall 13 (by decide))
                rw [e13] at hq9
                have HQ9 := Lib.hid hq9
                clear hq9
                have HKj := Lib.hid hJ.kp
                clear hJ hall hI hc14 hi14 hl14_0 hl14_10
                simp only [Pj.puts, List.foldl_cons, List.foldl_nil, Act.put, List.setIfInBounds_toArray, List.set_cons_zero, List.set_cons_succ, e14, e13]
                clear e14 e13
                have HWQ := Lib.hid (HKW.out.size)
                go_wp2_with fail
                go_roundw
                case rel => exact ⟨i + 1, k + 1 + (n - k), by omega, by go_num, Lib.hid (by rw [HRE.out, HLN.out]), by omega, by rw [HRE.out, HNN.out]; exact own_base HQ9.out HWQ.out, HKW.out.trans HKj.out⟩
                case measure => simp [intOf]; omega
        · have hX2 : ¬ (k < n ∧ X.getD k ByteArray.empty = t) := fun h => hkn h.1
          have hdk : decide (k < n) = false := decide_eq_false hkn
          have HX2 := Lib.hid hX2
          have hkP : k = P := by omega
          subst hkP
          clear hX2
          go_wp2_with fail
          go_quiet (fail)
          have HKN := Lib.hid (HKX.out.drewN nq)
          generalize wx.drewN nq = wq at *
          go_wp2_with fail
          go_quiet (fail)
          have HKN := Lib.hid (HKN.out.drewN nq)
          generalize wq.drewN nq = wq at *
          clear c0
          have HRE := Lib.hid (show risR (ss.take (i + 1)) = X.take k ++ [t] ++ X.drop k by rw [HSN.out, HINS.out, if_neg HX2.out])
          have HNN := Lib.hid (show ((X.take k ++ [t] ++ X.drop k).map Value.string) = (X.take k).map Value.string ++ [.string t] ++ (X.drop k).map Value.string by simp)
          have HLN := Lib.hid (show (X.take k ++ [t] ++ X.drop k).length = k + 1 + (n - k) by have := HXL.out; simp; omega)
          have HKW := Lib.hid (HK.out.trans HKN.out)
          have HCT2 := Lib.hid (show ∀ w', Kept wq w' → w'.cell? ⟨bs, os + i, none⟩ = some (.string t) from fun w' kk => HCT.out _ (HKW.out.trans kk))
          have HST2 := Lib.hid (HST.out.kept HKN.out)
          obtain ⟨aq, HSL, HNO, HTL⟩ := tail_slice ax n cx X k (by omega) hncx wq HST2.out HNC.out
          have HCP := Lib.hid (show ∀ w', Kept wq w' → Calls Try.prog 12 #[.slice ax k cx] w' fun e w2 => ∃ a' c', e = .returned (.slice a' k c') ∧ w2.ownsRow w'.heap.size 9 1 (.slice a' k c') k ((X.take k).map Value.string) ∧ Kept w' w2 from fun w' kk => copy_strings_own ax k cx (X.take k) w' (strs_take1 (HST2.out.kept kk) (by omega)) (by omega))
          have hHQ : k ≤ cx := by omega
          clear HINS HSN
          go_wp2_with fail
          refine Pj.wp_region_step (fun az0 L az w => ∃ V : Nat → Value, az = Pj.puts [(44, 0), (45, 1), (46, 2), (47, 3), (48, 4), (49, 5), (50, 6), (51, 7), (52, 8), (53, 9), (54, 10), (55, 11), (56, 12), (57, 13), (3, 14)] V az0 ∧ Pj.J wq [Pj.Is (.slice ax n cx), Pj.Is (.int .i64 k), Pj.Is (.slice ax k cx), (fun _ v => ∃ a c, v = .slice a k c), Pj.Is (.slice (some ⟨bs, os, none⟩) l cap), Pj.Is (.int .i64 i), Pj.Is (.pointer (some ⟨bs, os + i, none⟩)), Pj.Is (.string t), (fun _ v => ∃ g : Nat, v = .slice (some ⟨g, 0, none⟩) 1 1), (fun _ v => ∃ a c, v = .slice a (k + 1) c), Pj.Is (.slice ax n cx), Pj.Is (.int .i64 k), Pj.Is (.slice aq (n - k) (cx - k)), (fun _ v => ∃ a c, v = .slice a (k + 1 + (n - k)) c), (fun _ _ => True)] L V w ∧ Pj.Ins wq.heap.size 9 1 k (n - k) ((X.take k).map Value.string) [.string t] ((X.drop k).map Value.string) 3 8 9 13 L V w ∧ (L 14 → L 13 ∧ V 14 = V 13) ∧ (¬ L 14 → V 14 = .slice ax n cx) ∧ (L 14 → L 0) ∧ (L 14 → L 10)) (by as_aux_lemma => kernel_rfl) (by as_aux_lemma => kernel_rfl) ?eh0 ?ehs ?ehe
          case eh0 =>
            intro L hL
            exact ⟨_, Pj.puts_self _ (fun j => ([44, 45, 46, 47, 48, 49, 50, 51, 52, 53, 54, 55, 56, 57, 3] : List Nat).getD j 0) [0, 1, 2, 3, 4, 5, 6, 7, 8, 9, 10, 11, 12, 13, 14], Pj.J.none (n := 15) (Nat.le_refl _) hL ((Kept.refl _).drew), Pj.Ins.start (hL 3 (by decide)) (hL 8 (by decide)) (hL 9 (by decide)) (hL 13 (by decide)), fun h => absurd h (hL 14 (by decide)), fun _ => rfl, fun h => absurd h (hL 14 (by decide)), fun h => absurd h (hL 14 (by decide))⟩
          case ehs =>
            rintro L L' az w iz opz Kq ⟨V, rfl, hJ, hI, hc14, hi14, hl14_0, hl14_10⟩ ho hopen hdep hL hKq
            have hP : Pj.AllFlat [Pj.Is (.slice ax n cx), Pj.Is (.int .i64 k), Pj.Is (.slice ax k cx), (fun _ v => ∃ a c, v = .slice a k c), Pj.Is (.slice (some ⟨bs, os, none⟩) l cap), Pj.Is (.int .i64 i), Pj.Is (.pointer (some ⟨bs, os + i, none⟩)), Pj.Is (.string t), (fun _ v => ∃ g : Nat, v = .slice (some ⟨g, 0, none⟩) 1 1), (fun _ v => ∃ a c, v = .slice a (k + 1) c), Pj.Is (.slice ax n cx), Pj.Is (.int .i64 k), Pj.Is (.slice aq (n - k) (cx - k)), (fun _ v => ∃ a c, v = .slice a (k + 1 + (n - k)) c), (fun _ _ => True)] := ⟨Pj.Is.flat _, Pj.Is.flat _, Pj.Is.flat _, (fun _ _ _ h _ => h), Pj.Is.flat _, Pj.Is.flat _, Pj.Is.flat _, Pj.Is.flat _, (fun _ _ _ h _ => h), (fun _ _ _ h _ => h), Pj.Is.flat _, Pj.Is.flat _, Pj.Is.flat _, (fun _ _ _ h _ => h), (fun _ _ _ _ _ => trivial), trivial⟩
            have HP := Lib.hid hP
            clear hP
            match iz, ho with
            | 0, ho =>
              simp only [List.getElem?_toArray, List.getElem?_cons_zero, Option.some.injEq] at ho
              have ei14 : V 14 = .slice ax n cx := hi14 (fun h => hopen (hl14_0 h))
              have HJ := Lib.hid hJ
              clear hJ
              have HXhI := Lib.hid hI
              clear hI
              subst ho
              refine Pj.Step.free rfl ?_
              simp only [Pj.puts, List.foldl_cons, List.foldl_nil, Act.put, List.setIfInBounds_toArray, List.set_cons_zero, List.set_cons_succ, ei14]
              go_simp
              exact hKq _ _ ⟨Pj.vset V 0 (.slice ax n cx), by simp only [Pj.puts, List.foldl_cons, List.foldl_nil, Act.put, List.setIfInBounds_toArray, List.set_cons_zero, List.set_cons_succ, Pj.vset, Nat.reduceEqDiff, if_true, if_false, ei14], HJ.out.flat HP.out hL (HJ.out.kp.trans (Kept.refl _)) (Kept.size (Kept.refl _)) (rfl), HXhI.out.keep (by decide) (by decide) (by decide) (by decide) hL (Kept.refl _), fun h => ⟨(hL 13).2 (.inr (hc14 (((hL 14).1 h).resolve_left (by decide))).1), by rw [Pj.vset_other _ _ (by decide), Pj.vset_other _ _ (by decide)]; exact (hc14 (((hL 14).1 h).resolve_left (by decide))).2⟩, fun h => by rw [Pj.vset_other _ _ (by decide)]; exact hi14 (fun q => h ((hL 14).2 (.inr q))), fun h => (hL 0).2 (((hL 14).1 h).elim (fun e => absurd e (by decide)) (fun q => .inr (hl14_0 q))), fun h => (hL 10).2 (((hL 14).1 h).elim (fun e => absurd e (by decide)) (fun q => .inr (hl14_10 q)))⟩
            | 1, ho =>
              simp only [List.getElem?_toArray, List.getElem?_cons_zero, List.getElem?_cons_succ, Option.some.injEq] at ho
              have HJ := Lib.hid hJ
              clear hJ
              have HXhI := Lib.hid hI
              clear hI
              subst ho
              refine Pj.Step.free rfl ?_
              simp only [Pj.puts, List.foldl_cons, List.foldl_nil, Act.put, List.setIfInBounds_toArray, List.set_cons_zero, List.set_cons_succ]
              go_simp
              exact hKq _ _ ⟨Pj.vset V 1 (.int .i64 k), by simp only [Pj.puts, List.foldl_cons, List.foldl_nil, Act.put, List.setIfInBounds_toArray, List.set_cons_zero, List.set_cons_succ, Pj.vset, Nat.reduceEqDiff, if_true, if_false], HJ.out.flat HP.out hL (HJ.out.kp.trans (Kept.refl _)) (Kept.size (Kept.refl _)) (rfl), HXhI.out.keep (by decide) (by decide) (by decide) (by decide) hL (Kept.refl _), fun h => ⟨(hL 13).2 (.inr (hc14 (((hL 14).1 h).resolve_left (by decide))).1), by rw [Pj.vset_other _ _ (by decide), Pj.vset_other _ _ (by decide)]; exact (hc14 (((hL 14).1 h).resolve_left (by decide))).2⟩, fun h => by rw [Pj.vset_other _ _ (by decide)]; exact hi14 (fun q => h ((hL 14).2 (.inr q))), fun h => (hL 0).2 (((hL 14).1 h).elim (fun e => absurd e (by decide)) (fun q => .inr (hl14_0 q))), fun h => (hL 10).2 (((hL 14).1 h).elim (fun e => absurd e (by decide)) (fun q => .inr (hl14_10 q)))⟩
            | 2, ho =>
              simp only [List.getElem?_toArray, List.getElem?_cons_zero, List.getElem?_cons_succ, Option.some.injEq] at ho
              have e0 : V 0 = .slice ax n cx := hJ.h 0 (hdep 0 (by rw [← ho]; kernel_rfl))
              have e1 : V 1 = .int .i64 k := hJ.h 1 (hdep 1 (by rw [← ho]; kernel_rfl))
              have HJ := Lib.hid hJ
              clear hJ
              have HXhI := Lib.hid hI
              clear hI
              subst ho
              refine Pj.Step.free rfl ?_
              simp only [Pj.puts, List.foldl_cons, List.foldl_nil, Act.put, List.setIfInBounds_toArray, List.set_cons_zero, List.set_cons_succ, e0, e1]
              go_simp
              exact hKq _ _ ⟨Pj.vset V 2 (.slice ax k cx), by simp only [Pj.puts, List.foldl_cons, List.foldl_nil, Act.put, List.setIfInBounds_toArray, List.set_cons_zero, List.set_cons_succ, Pj.vset, Nat.reduceEqDiff, if_true, if_false, e0, e1], HJ.out.flat HP.out hL (HJ.out.kp.trans (Kept.refl _)) (Kept.size (Kept.refl _)) (rfl), HXhI.out.keep (by decide) (by decide) (by decide) (by decide) hL (Kept.refl _), fun h => ⟨(hL 13).2 (.inr (hc14 (((hL 14).1 h).resolve_left (by decide))).1), by rw [Pj.vset_other _ _ (by decide), Pj.vset_other _ _ (by decide)]; exact (hc14 (((hL 14).1 h).resolve_left (by decide))).2⟩, fun h => by rw [Pj.vset_other _ _ (by decide)]; exact hi14 (fun q => h ((hL 14).2 (.inr q))), fun h => (hL 0).2 (((hL 14).1 h).elim (fun e => absurd e (by decide)) (fun q => .inr (hl14_0 q))), fun h => (hL 10).2 (((hL 14).1 h).elim (fun e => absurd e (by decide)) (fun q => .inr (hl14_10 q)))⟩
            | 3, ho =>
              simp only [List.getElem?_toArray, List.getElem?_cons_zero, List.getElem?_cons_succ, Option.some.injEq] at ho
              have e2 : V 2 = .slice ax k cx := hJ.h 2 (hdep 2 (by rw [← ho]; kernel_rfl))
              have hcp := HCP.out w hJ.kp
              have HJ := Lib.hid hJ
              clear hJ
              have HXhI := Lib.hid hI
              clear hI
              subst ho
              refine Pj.Step.free rfl ?_
              simp only [Pj.puts, List.foldl_cons, List.foldl_nil, Act.put, List.setIfInBounds_toArray, List.set_cons_zero, List.set_cons_succ, e2]
              go_simp
              refine hcp.mono ?_
              rintro e w' ⟨a5, c5, rfl, hown5', hk9⟩
              have hown5 := own_base hown5' (Kept.size HJ.out.kp)
              exact hKq _ _ ⟨Pj.vset V 3 (.slice a5 k c5), by simp only [Pj.puts, List.foldl_cons, List.foldl_nil, Act.put, List.setIfInBounds_toArray, List.set_cons_zero, List.set_cons_succ, Pj.vset, Nat.reduceEqDiff, if_true, if_false, e2], HJ.out.flat HP.out hL (HJ.out.kp.trans (hk9)) (Kept.size (hk9)) (⟨_, _, rfl⟩), HXhI.out.copied hopen (by decide) (by decide) (by decide) hL hk9 hown5, fun h => ⟨(hL 13).2 (.inr (hc14 (((hL 14).1 h).resolve_left (by decide))).1), by rw [Pj.vset_other _ _ (by decide), Pj.vset_other _ _ (by decide)]; exact (hc14 (((hL 14).1 h).resolve_left (by decide))).2⟩, fun h => by rw [Pj.vset_other _ _ (by decide)]; exact hi14 (fun q => h ((hL 14).2 (.inr q))), fun h => (hL 0).2 (((hL 14).1 h).elim (fun e => absurd e (by decide)) (fun q => .inr (hl14_0 q))), fun h => (hL 10).2 (((hL 14).1 h).elim (fun e => absurd e (by decide)) (fun q => .inr (hl14_10 q)))⟩
            | 4, ho =>
              simp only [List.getElem?_toArray, List.getElem?_cons_zero, List.getElem?_cons_succ, Option.some.injEq] at ho
              have HJ := Lib.hid hJ
              clear hJ
              have HXhI := Lib.hid hI
              clear hI
              subst ho
              refine Pj.Step.free rfl ?_
              simp only [Pj.puts, List.foldl_cons, List.foldl_nil, Act.put, List.setIfInBounds_toArray, List.set_cons_zero, List.set_cons_succ]
              go_simp
              exact hKq _ _ ⟨Pj.vset V 4 (.slice (some ⟨bs, os, none⟩) l cap), by simp only [Pj.puts, List.foldl_cons, List.foldl_nil, Act.put, List.setIfInBounds_toArray, List.set_cons_zero, List.set_cons_succ, Pj.vset, Nat.reduceEqDiff, if_true, if_false], HJ.out.flat HP.out hL (HJ.out.kp.trans (Kept.refl _)) (Kept.size (Kept.refl _)) (rfl), HXhI.out.keep (by decide) (by decide) (by decide) (by decide) hL (Kept.refl _), fun h => ⟨(hL 13).2 (.inr (hc14 (((hL 14).1 h).resolve_left (by decide))).1), by rw [Pj.vset_other _ _ (by decide), Pj.vset_other _ _ (by decide)]; exact (hc14 (((hL 14).1 h).resolve_left (by decide))).2⟩, fun h => by rw [Pj.vset_other _ _ (by decide)]; exact hi14 (fun q => h ((hL 14).2 (.inr q))), fun h => (hL 0).2 (((hL 14).1 h).elim (fun e => absurd e (by decide)) (fun q => .inr (hl14_0 q))), fun h => (hL 10).2 (((hL 14).1 h).elim (fun e => absurd e (by decide)) (fun q => .inr (hl14_10 q)))⟩
            | 5, ho =>
              simp only [List.getElem?_toArray, List.getElem?_cons_zero, List.getElem?_cons_succ, Option.some.injEq] at ho
              have HJ := Lib.hid hJ
              clear hJ
              have HXhI := Lib.hid hI
              clear hI
              subst ho
              refine Pj.Step.free rfl ?_
              simp only [Pj.puts, List.foldl_cons, List.foldl_nil, Act.put, List.setIfInBounds_toArray, List.set_cons_zero, List.set_cons_succ]
              go_simp
              exact hKq _ _ ⟨Pj.vset V 5 (.int .i64 i), by simp only [Pj.puts, List.foldl_cons, List.foldl_nil, Act.put, List.setIfInBounds_toArray, List.set_cons_zero, List.set_cons_succ, Pj.vset, Nat.reduceEqDiff, if_true, if_false], HJ.out.flat HP.out hL (HJ.out.kp.trans (Kept.refl _)) (Kept.size (Kept.refl _)) (rfl), HXhI.out.keep (by decide) (by decide) (by decide) (by decide) hL (Kept.refl _), fun h => ⟨(hL 13).2 (.inr (hc14 (((hL 14).1 h).resolve_left (by decide))).1), by rw [Pj.vset_other _ _ (by decide), Pj.vset_other _ _ (by decide)]; exact (hc14 (((hL 14).1 h).resolve_left (by decide))).2⟩, fun h => by rw [Pj.vset_other _ _ (by decide)]; exact hi14 (fun q => h ((hL 14).2 (.inr q))), fun h => (hL 0).2 (((hL 14).1 h).elim (fun e => absurd e (by decide)) (fun q => .inr (hl14_0 q))), fun h => (hL 10).2 (((hL 14).1 h).elim (fun e => absurd e (by decide)) (fun q => .inr (hl14_10 q)))⟩
            | 6, ho =>
              simp only [List.getElem?_toArray, List.getElem?_cons_zero, List.getElem?_cons_succ, Option.some.injEq] at ho
              have e4 : V 4 = .slice (some ⟨bs, os, none⟩) l cap := hJ.h 4 (hdep 4 (by rw [← ho]; kernel_rfl))
              have e5 : V 5 = .int .i64 i := hJ.h 5 (hdep 5 (by rw [← ho]; kernel_rfl))
              have HJ := Lib.hid hJ
              clear hJ
              have HXhI := Lib.hid hI
              clear hI
              subst ho
              refine Pj.Step.free rfl ?_
              simp only [Pj.puts, List.foldl_cons, List.foldl_nil, Act.put, List.setIfInBounds_toArray, List.set_cons_zero, List.set_cons_succ, e4, e5]
              go_simp
              exact hKq _ _ ⟨Pj.vset V 6 (.pointer (some ⟨bs, os + i, none⟩)), by simp only [Pj.puts, List.foldl_cons, List.foldl_nil, Act.put, List.setIfInBounds_toArray, List.set_cons_zero, List.set_cons_succ, Pj.vset, Nat.reduceEqDiff, if_true, if_false, e4, e5], HJ.out.flat HP.out hL (HJ.out.kp.trans (Kept.refl _)) (Kept.size (Kept.refl _)) (rfl), HXhI.out.keep (by decide) (by decide) (by decide) (by decide) hL (Kept.refl _), fun h => ⟨(hL 13).2 (.inr (hc14 (((hL 14).1 h).resolve_left (by decide))).1), by rw [Pj.vset_other _ _ (by decide), Pj.vset_other _ _ (by decide)]; exact (hc14 (((hL 14).1 h).resolve_left (by decide))).2⟩, fun h => by rw [Pj.vset_other _ _ (by decide)]; exact hi14 (fun q => h ((hL 14).2 (.inr q))), fun h => (hL 0).2 (((hL 14).1 h).elim (fun e => absurd e (by decide)) (fun q => .inr (hl14_0 q))), fun h => (hL 10).2 (((hL 14).1 h).elim (fun e => absurd e (by decide)) (fun q => .inr (hl14_10 q)))⟩
            | 7, ho =>
              simp only [List.getElem?_toArray, List.getElem?_cons_zero, List.getElem?_cons_succ, Option.some.injEq] at ho
              have e6 : V 6 = .pointer (some ⟨bs, os + i, none⟩) := hJ.h 6 (hdep 6 (by rw [← ho]; kernel_rfl))
              have c0 := HCT2.out _ hJ.kp
              have HJ := Lib.hid hJ
              clear hJ
              have HXhI := Lib.hid hI
              clear hI
              subst ho
              refine Pj.Step.free rfl ?_
              simp only [Pj.puts, List.foldl_cons, List.foldl_nil, Act.put, List.setIfInBounds_toArray, List.set_cons_zero, List.set_cons_succ, e6]
              go_simp
              exact hKq _ _ ⟨Pj.vset V 7 (.string t), by simp only [Pj.puts, List.foldl_cons, List.foldl_nil, Act.put, List.setIfInBounds_toArray, List.set_cons_zero, List.set_cons_succ, Pj.vset, Nat.reduceEqDiff, if_true, if_false, e6], HJ.out.flat HP.out hL (HJ.out.kp.trans (Kept.refl _)) (Kept.size (Kept.refl _)) (rfl), HXhI.out.keep (by decide) (by decide) (by decide) (by decide) hL (Kept.refl _), fun h => ⟨(hL 13).2 (.inr (hc14 (((hL 14).1 h).resolve_left (by decide))).1), by rw [Pj.vset_other _ _ (by decide), Pj.vset_other _ _ (by decide)]; exact (hc14 (((hL 14).1 h).resolve_left (by decide))).2⟩, fun h => by rw [Pj.vset_other _ _ (by decide)]; exact hi14 (fun q => h ((hL 14).2 (.inr q))), fun h => (hL 0).2 (((hL 14).1 h).elim (fun e => absurd e (by decide)) (fun q => .inr (hl14_0 q))), fun h => (hL 10).2 (((hL 14).1 h).elim (fun e => absurd e (by decide)) (fun q => .inr (hl14_10 q)))⟩
            | 8, ho =>
              simp only [List.getElem?_toArray, List.getElem?_cons_zero, List.getElem?_cons_succ, Option.some.injEq] at ho
              have e7 : V 7 = .string t := hJ.h 7 (hdep 7 (by rw [← ho]; kernel_rfl))
              have HJ := Lib.hid hJ
              clear hJ
              have HXhI := Lib.hid hI
              clear hI
              subst ho
              refine Pj.Step.free rfl ?_
              simp only [Pj.puts, List.foldl_cons, List.foldl_nil, Act.put, List.setIfInBounds_toArray, List.set_cons_zero, List.set_cons_succ, e7]
              go_simp
              exact hKq _ _ ⟨Pj.vset V 8 (.slice (some ⟨w.heap.size, 0, none⟩) 1 1), by simp only [Pj.puts, List.foldl_cons, List.foldl_nil, Act.put, List.setIfInBounds_toArray, List.set_cons_zero, List.set_cons_succ, Pj.vset, Nat.reduceEqDiff, if_true, if_false, e7], HJ.out.flat HP.out hL (HJ.out.kp.trans ((Kept.refl _).alloc _)) (Kept.size ((Kept.refl _).alloc _)) (⟨_, rfl⟩), HXhI.out.built hopen (by decide) (by decide) (by decide) hL, fun h => ⟨(hL 13).2 (.inr (hc14 (((hL 14).1 h).resolve_left (by decide))).1), by rw [Pj.vset_other _ _ (by decide), Pj.vset_other _ _ (by decide)]; exact (hc14 (((hL 14).1 h).resolve_left (by decide))).2⟩, fun h => by rw [Pj.vset_other _ _ (by decide)]; exact hi14 (fun q => h ((hL 14).2 (.inr q))), fun h => (hL 0).2 (((hL 14).1 h).elim (fun e => absurd e (by decide)) (fun q => .inr (hl14_0 q))), fun h => (hL 10).2 (((hL 14).1 h).elim (fun e => absurd e (by decide)) (fun q => .inr (hl14_10 q)))⟩
            | 9, ho =>
              simp only [List.getElem?_toArray, List.getElem?_cons_zero, List.getElem?_cons_succ, Option.some.injEq] at ho
              have l3 := hdep 3 (by rw [← ho]; kernel_rfl)
              obtain ⟨a3, c3, e3⟩ := hJ.h 3 l3
              have l8 := hdep 8 (by rw [← ho]; kernel_rfl)
              obtain ⟨g8, e8⟩ := hJ.h 8 l8
              obtain ⟨g, eg, hgb⟩ := hI.b1 l8 hopen
              have hown := hI.c1 l3 hopen
              rw [e3] at hown
              rw [e8] at eg
              cases eg
              have HJ := Lib.hid hJ
              clear hJ
              have HXhI := Lib.hid hI
              clear hI
              subst ho
              refine Pj.Step.free rfl ?_
              simp only [Pj.puts, List.foldl_cons, List.foldl_nil, Act.put, List.setIfInBounds_toArray, List.set_cons_zero, List.set_cons_succ, e3, e8]
              refine Pj.oper_takes _ _ 23 rfl wq.heap.size 9 i0 (.string ByteArray.empty) 1 16 Try.underlying23 HI.out.1 HI.out.2.1 HI.out.2.2.1 HI.out.2.2.2 rfl (by decide) (.slice a3 k c3) k ((X.take k).map Value.string) rfl hown (some ⟨g8, 0, none⟩) 1 1 [.string t] rfl (fun e => by cases e) rfl (fun ad e j u hj => by cases e; exact Pj.block_cells hgb j u hj) (by intro u hu; simp at hu; subst hu; rfl) (by omega) (by decide) HJ.out.kp.size ?_
              intro v' w' hown' hgrow
              obtain ⟨a6, c6, rfl⟩ := slice_of_own1 hown'
              simp only [Act.put, List.setIfInBounds_toArray, List.set_cons_zero, List.set_cons_succ]
              exact hKq _ _ ⟨Pj.vset V 9 (.slice a6 (k + 1) c6), by simp only [Pj.puts, List.foldl_cons, List.foldl_nil, Act.put, List.setIfInBounds_toArray, List.set_cons_zero, List.set_cons_succ, Pj.vset, Nat.reduceEqDiff, if_true, if_false, e3, e8], HJ.out.flat HP.out hL (kept_gr1 HJ.out.kp hgrow (fun q e => (hown.lt q e).1) (Nat.le_refl _)) (hgrow.size) (⟨_, _, rfl⟩), HXhI.out.one hopen l3 l8 (by decide) (by decide) (by decide) hL hown', fun h => ⟨(hL 13).2 (.inr (hc14 (((hL 14).1 h).resolve_left (by decide))).1), by rw [Pj.vset_other _ _ (by decide), Pj.vset_other _ _ (by decide)]; exact (hc14 (((hL 14).1 h).resolve_left (by decide))).2⟩, fun h => by rw [Pj.vset_other _ _ (by decide)]; exact hi14 (fun q => h ((hL 14).2 (.inr q))), fun h => (hL 0).2 (((hL 14).1 h).elim (fun e => absurd e (by decide)) (fun q => .inr (hl14_0 q))), fun h => (hL 10).2 (((hL 14).1 h).elim (fun e => absurd e (by decide)) (fun q => .inr (hl14_10 q)))⟩
            | 10, ho =>
              simp only [List.getElem?_toArray, List.getElem?_cons_zero, List.getElem?_cons_succ, Option.some.injEq] at ho
              have ei14 : V 14 = .slice ax n cx := hi14 (fun h => hopen (hl14_10 h))
              have HJ := Lib.hid hJ
              clear hJ
              have HXhI := Lib.hid hI
              clear hI
              subst ho
              refine Pj.Step.free rfl ?_
              simp only [Pj.puts, List.foldl_cons, List.foldl_nil, Act.put, List.setIfInBounds_toArray, List.set_cons_zero, List.set_cons_succ, ei14]
              go_simp
              exact hKq _ _ ⟨Pj.vset V 10 (.slice ax n cx), by simp only [Pj.puts, List.foldl_cons, List.foldl_nil, Act.put, List.setIfInBounds_toArray, List.set_cons_zero, List.set_cons_succ, Pj.vset, Nat.reduceEqDiff, if_true, if_false, ei14], HJ.out.flat HP.out hL (HJ.out.kp.trans (Kept.refl _)) (Kept.size (Kept.refl _)) (rfl), HXhI.out.keep (by decide) (by decide) (by decide) (by decide) hL (Kept.refl _), fun h => ⟨(hL 13).2 (.inr (hc14 (((hL 14).1 h).resolve_left (by decide))).1), by rw [Pj.vset_other _ _ (by decide), Pj.vset_other _ _ (by decide)]; exact (hc14 (((hL 14).1 h).resolve_left (by decide))).2⟩, fun h => by rw [Pj.vset_other _ _ (by decide)]; exact hi14 (fun q => h ((hL 14).2 (.inr q))), fun h => (hL 0).2 (((hL 14).1 h).elim (fun e => absurd e (by decide)) (fun q => .inr (hl14_0 q))), fun h => (hL 10).2 (((hL 14).1 h).elim (fun e => absurd e (by decide)) (fun q => .inr (hl14_10 q)))⟩
            | 11, ho =>
              simp only [List.getElem?_toArray, List.getElem?_cons_zero, List.getElem?_cons_succ, Option.some.injEq] at ho
              have HJ := Lib.hid hJ
              clear hJ
              have HXhI := Lib.hid hI
              clear hI
              subst ho
              refine Pj.Step.free rfl ?_
              simp only [Pj.puts, List.foldl_cons, List.foldl_nil, Act.put, List.setIfInBounds_toArray, List.set_cons_zero, List.set_cons_succ]
              go_simp
              exact hKq _ _ ⟨Pj.vset V 11 (.int .i64 k), by simp only [Pj.puts, List.foldl_cons, List.foldl_nil, Act.put, List.setIfInBounds_toArray, List.set_cons_zero, List.set_cons_succ, Pj.vset, Nat.reduceEqDiff, if_true, if_false], HJ.out.flat HP.out hL (HJ.out.kp.trans (Kept.refl _)) (Kept.size (Kept.refl _)) (rfl), HXhI.out.keep (by decide) (by decide) (by decide) (by decide) hL (Kept.refl _), fun h => ⟨(hL 13).2 (.inr (hc14 (((hL 14).1 h).resolve_left (by decide))).1), by rw [Pj.vset_other _ _ (by decide), Pj.vset_other _ _ (by decide)]; exact (hc14 (((hL 14).1 h).resolve_left (by decide))).2⟩, fun h => by rw [Pj.vset_other _ _ (by decide)]; exact hi14 (fun q => h ((hL 14).2 (.inr q))), fun h => (hL 0).2 (((hL 14).1 h).elim (fun e => absurd e (by decide)) (fun q => .inr (hl14_0 q))), fun h => (hL 10).2 (((hL 14).1 h).elim (fun e => absurd e (by decide)) (fun q => .inr (hl14_10 q)))⟩
            | 12, ho =>
              simp only [List.getElem?_toArray, List.getElem?_cons_zero, List.getElem?_cons_succ, Option.some.injEq] at ho
              have e10 : V 10 = .slice ax n cx := hJ.h 10 (hdep 10 (by rw [← ho]; kernel_rfl))
              have e11 : V 11 = .int .i64 k := hJ.h 11 (hdep 11 (by rw [← ho]; kernel_rfl))
              have hsl := HSL.out
              have HJ := Lib.hid hJ
              clear hJ
              have HXhI := Lib.hid hI
              clear hI
              subst ho
              refine Pj.Step.free rfl ?_
              simp only [Pj.puts, List.foldl_cons, List.foldl_nil, Act.put, List.setIfInBounds_toArray, List.set_cons_zero, List.set_cons_succ, e10, e11]
              go_simp
              exact hKq _ _ ⟨Pj.vset V 12 (.slice aq (n - k) (cx - k)), by simp only [Pj.puts, List.foldl_cons, List.foldl_nil, Act.put, List.setIfInBounds_toArray, List.set_cons_zero, List.set_cons_succ, Pj.vset, Nat.reduceEqDiff, if_true, if_false, e10, e11], HJ.out.flat HP.out hL (HJ.out.kp.trans (Kept.refl _)) (Kept.size (Kept.refl _)) (rfl), HXhI.out.keep (by decide) (by decide) (by decide) (by decide) hL (Kept.refl _), fun h => ⟨(hL 13).2 (.inr (hc14 (((hL 14).1 h).resolve_left (by decide))).1), by rw [Pj.vset_other _ _ (by decide), Pj.vset_other _ _ (by decide)]; exact (hc14 (((hL 14).1 h).resolve_left (by decide))).2⟩, fun h => by rw [Pj.vset_other _ _ (by decide)]; exact hi14 (fun q => h ((hL 14).2 (.inr q))), fun h => (hL 0).2 (((hL 14).1 h).elim (fun e => absurd e (by decide)) (fun q => .inr (hl14_0 q))), fun h => (hL 10).2 (((hL 14).1 h).elim (fun e => absurd e (by decide)) (fun q => .inr (hl14_10 q)))⟩
            | 13, ho =>
              simp only [List.getElem?_toArray, List.getElem?_cons_zero, List.getElem?_cons_succ, Option.some.injEq] at ho
              have l9 := hdep 9 (by rw [← ho]; kernel_rfl)
              obtain ⟨a9, c9, e9⟩ := hJ.h 9 l9
              have e12 : V 12 = .slice aq (n - k) (cx - k) := hJ.h 12 (hdep 12 (by rw [← ho]; kernel_rfl))
              have hown := hI.p1 l9 hopen
              rw [e9] at hown
              have htl := HTL.out w hJ.kp
              have HJ := Lib.hid hJ
              clear hJ
              have HXhI := Lib.hid hI
              clear hI
              subst ho
              refine Pj.Step.free rfl ?_
              simp only [Pj.puts, List.foldl_cons, List.foldl_nil, Act.put, List.setIfInBounds_toArray, List.set_cons_zero, List.set_cons_succ, e9, e12]
              refine Pj.oper_takes _ _ 23 rfl wq.heap.size 9 i0 (.string ByteArray.empty) 1 16 Try.underlying23 HI.out.1 HI.out.2.1 HI.out.2.2.1 HI.out.2.2.2 rfl (by decide) (.slice a9 (k + 1) c9) (k + 1) (((X.take k).map Value.string) ++ [.string t]) rfl hown aq (n - k) (cx - k) ((X.drop k).map Value.string) rfl HNO.out htl.1 htl.2 (fun u hu => by obtain ⟨x, _, rfl⟩ := List.mem_map.1 hu; rfl) (by omega) (by decide) HJ.out.kp.size ?_
              intro v' w' hown' hgrow
              obtain ⟨a6, c6, rfl⟩ := slice_of_own1 hown'
              simp only [Act.put, List.setIfInBounds_toArray, List.set_cons_zero, List.set_cons_succ]
              exact hKq _ _ ⟨Pj.vset V 13 (.slice a6 (k + 1 + (n - k)) c6), by simp only [Pj.puts, List.foldl_cons, List.foldl_nil, Act.put, List.setIfInBounds_toArray, List.set_cons_zero, List.set_cons_succ, Pj.vset, Nat.reduceEqDiff, if_true, if_false, e9, e12], HJ.out.flat HP.out hL (kept_gr1 HJ.out.kp hgrow (fun q e => (hown.lt q e).1) (Nat.le_refl _)) (hgrow.size) (⟨_, _, rfl⟩), HXhI.out.tail l9 (by decide) hL hown', fun h => absurd (hc14 (((hL 14).1 h).resolve_left (by decide))).1 hopen, fun h => by rw [Pj.vset_other _ _ (by decide)]; exact hi14 (fun q => h ((hL 14).2 (.inr q))), fun h => (hL 0).2 (((hL 14).1 h).elim (fun e => absurd e (by decide)) (fun q => .inr (hl14_0 q))), fun h => (hL 10).2 (((hL 14).1 h).elim (fun e => absurd e (by decide)) (fun q => .inr (hl14_10 q)))⟩
            | 14, ho =>
              simp only [List.getElem?_toArray, List.getElem?_cons_zero, List.getElem?_cons_succ, Option.some.injEq] at ho
              have l13 := hdep 13 (by rw [← ho]; kernel_rfl)
              obtain ⟨a13, c13, e13⟩ := hJ.h 13 l13
              have hd14_0 := hdep 0 (by rw [← ho]; kernel_rfl)
              have hd14_10 := hdep 10 (by rw [← ho]; kernel_rfl)
              have HJ := Lib.hid hJ
              clear hJ
              have HXhI := Lib.hid hI
              clear hI
              subst ho
              refine Pj.Step.free rfl ?_
              simp only [Pj.puts, List.foldl_cons, List.foldl_nil, Act.put, List.setIfInBounds_toArray, List.set_cons_zero, List.set_cons_succ, e13]
              go_simp
              exact hKq _ _ ⟨Pj.vset V 14 (V 13), by simp only [Pj.puts, List.foldl_cons, List.foldl_nil, Act.put, List.setIfInBounds_toArray, List.set_cons_zero, List.set_cons_succ, Pj.vset, Nat.reduceEqDiff, if_true, if_false, e13], HJ.out.flat HP.out hL (HJ.out.kp.trans (Kept.refl _)) (Kept.size (Kept.refl _)) (trivial), HXhI.out.keep (by decide) (by decide) (by decide) (by decide) hL (Kept.refl _), fun _ => ⟨(hL 13).2 (.inr l13), by rw [Pj.vset_same, Pj.vset_other _ _ (by decide)]⟩, fun h => absurd ((hL 14).2 (.inl rfl)) h, fun _ => (hL 0).2 (.inr hd14_0), fun _ => (hL 10).2 (.inr hd14_10)⟩
            | n + 15, ho => simp at ho
          case ehe =>
            rintro L az w ⟨V, rfl, hJ, hI, hc14, hi14, hl14_0, hl14_10⟩ hall
            have e14 : V 14 = V 13 := (hc14 (hall 14 (by decide))).2
            obtain ⟨a13, c13, e13⟩ := hJ.h 13 (hall 13 (by decide))
            have hq9 := hI.q1 (hall 13 (by decide))
            rw [e13] at hq9
            have HQ9 := Lib.hid hq9
            clear hq9
            have HKj := Lib.hid hJ.kp
            clear hJ hall hI hc14 hi14 hl14_0 hl14_10
            simp only [Pj.puts, List.foldl_cons, List.foldl_nil, Act.put, List.setIfInBounds_toArray, List.set_cons_zero, List.set_cons_succ, e14, e13]
            clear e14 e13
            have HWQ := Lib.hid (HKW.out.size)
            go_wp2_with fail
            go_roundw
            case rel => exact ⟨i + 1, k + 1 + (n - k), by omega, by go_num, Lib.hid (by rw [HRE.out, HLN.out]), by omega, by rw [HRE.out, HNN.out]; exact own_base HQ9.out HWQ.out, HKW.out.trans HKj.out⟩
            case measure => simp [intOf]; omega
    · obtain rfl : l = i := by omega
      have hd1 : decide (l < l) = false := decide_eq_false (by omega)
      rw [List.take_of_length_le (by rw [HL.out]; omega)] at hown hXs hXl
      obtain ⟨ax, cx, rfl, hncx, hst⟩ := strs_own hown hXl hXs
      rw [← hXl] at hst hncx
      have HST := Lib.hid hst
      have HXL := Lib.hid hXl
      clear hown hst hXs hkr HO hXl
      go_wp2
      go_ret
      rw [HXL.out] at HST hncx ⊢
      exact ⟨ax, cx, rfl, hncx, HST.out, HK.out⟩
end Go.Proofs.Ythdlmpgojoaijaa
