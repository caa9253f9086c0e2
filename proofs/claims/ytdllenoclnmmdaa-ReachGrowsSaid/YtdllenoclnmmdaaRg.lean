/- The law ReachGrows. -/
import Derived.Test.YtdllenoclnmmdaaRg0
import Derived.Test.YtdllenoclnmmdaaCp2
namespace Go.Proofs.Ytdllenoclnmmdaa
open Go.RowKit Go.Shelf
attribute [local go_sem] Oper.semAt_some

theorem rtF_small {ts : List Th} (h : ∀ x ∈ ts, x.d.size ≤ 140737488351232 ∧ x.t.size ≤ 140737488351232) (q : Nat) : ∀ k, ∀ s ∈ rtF ts q k, s.size ≤ 9223372036854775807
  | 0, s, hs => by cases hs
  | k + 1, s, hs => by
    have ih := rtF_small h q k
    unfold rtF at hs
    split at hs
    · rcases List.mem_append.1 hs with hs | hs
      · exact ih s hs
      · rw [List.mem_singleton] at hs
        have := (ths_small h k).1
        rw [hs]; omega
    · exact ih s hs
theorem rootsL_small {ts : List Th} {ss : List ByteArray} (h : ∀ x ∈ ts, x.d.size ≤ 140737488351232 ∧ x.t.size ≤ 140737488351232) (hs : ∀ s ∈ ss, s.size ≤ 9223372036854775807) (q : Nat) : ∀ s ∈ rootsL ts ss q, s.size ≤ 9223372036854775807 := fun s h' => by
  unfold rootsL at h'
  rcases List.mem_append.1 h' with h' | h'
  · exact hs s h'
  · exact rtF_small h q _ s h'
theorem own_strs {w : World} {base : Nat} {a : Option Addr} {c : Nat} {A : List ByteArray} (h : w.ownsRow base 9 1 (.slice a A.length c) A.length (A.map Value.string)) (hz : ∀ s ∈ A, s.size ≤ 9223372036854775807) : StrsIn w a A.length A := by
  obtain ⟨a', c', e', _, h'⟩ := strs_own h rfl hz
  cases e'
  exact h'
set_option maxRecDepth 100000 in
set_option maxHeartbeats 8000000 in
theorem reach_grows (am : Option Addr) (lm cm : Nat) (tt : List (List Th)) (aa : Option Addr) (ls cs : Nat) (ss : List ByteArray) (wo : World) (hm : TtsIn wo am lm tt) (hs : TextsIn wo aa ls cs ss) :
    Calls Try.prog 5 #[.agg #[.slice am lm cm, .slice aa ls cs]] wo fun e w' => e = .returned (.bool true) ∧ Kept wo w' := by
  obtain ⟨i0, hi1, hz0, hz1, hz2⟩ := info_parts Try.infoSt
  have HI := Lib.hid (And.intro hi1 (And.intro hz0 (And.intro hz1 hz2)))
  have HMS := Lib.hid hm
  have HSS := Lib.hid hs
  have hlm := hm.few
  have HB0 := Lib.hid (BlockAt.new wo #[.slice am lm cm, .slice aa ls cs] 44)
  have HK0 := Lib.hid ((Kept.refl wo).alloc (.cells #[.slice am lm cm, .slice aa ls cs] 44))
  clear hm hs hi1 hz0 hz1 hz2
  go_enter Try.func5, Try.ntmps5
  go_upto_region 1 with (fail)
  generalize wo.alloc (.cells #[.slice am lm cm, .slice aa ls cs] 44) = w1 at *
  have HBX0 := Lib.hid (show ∀ w, Kept w1 w → w.cell? ⟨wo.heap.size, 0, none⟩ = some (.slice am lm cm) ∧ w.cell? ⟨wo.heap.size, 1, none⟩ = some (.slice aa ls cs) from fun w k => ⟨(HB0.out.kept k).cell 0, (HB0.out.kept k).cell 1⟩)
  obtain ⟨a0, a1⟩ := HBX0.out _ (Kept.refl _)
  go_wp2_with fail
  refine (heavy21_any am lm cm tt aa ls cs ss _ (HMS.out.kept HK0.out) (HSS.out.kept HK0.out)).mono ?_
  rintro e w2 ⟨hk2, rfl | ⟨rfl, hlt, hls⟩⟩
  · have HK2 := Lib.hid (HK0.out.trans hk2)
    clear hk2 a0 a1
    go_wp2_with fail
    go_ret
    exact ⟨rfl, HK2.out⟩
  have HK2 := Lib.hid hk2
  have HLT := Lib.hid hlt
  clear hk2 hlt a0 a1
  go_wp2_with fail
  go_loopw [3] (fun kv wr => ∃ k : Nat, k ≤ lm ∧ kv = .int .i64 k ∧ Kept w1 wr) (fun kv _ => lm - (intOf kv).toNat)
  case atStart => exact ⟨0, by omega, rfl, HK2.out⟩
  case round =>
    obtain ⟨k, hk, rfl, hkr⟩ := hrel
    have HKR := Lib.hid hkr
    obtain ⟨a0, a1⟩ := HBX0.out _ hkr
    clear hkr
    by_cases hend : k < lm ∧ k < 6
    · obtain ⟨hlt, hlt6⟩ := hend
      have hd1 : decide (k < lm) = true := decide_eq_true hlt
      have hd2 : decide (k < 6) = true := decide_eq_true hlt6
      obtain ⟨bm, om, rfl, hc⟩ := HMS.out.row (by omega)
      obtain ⟨ax, cx, hcell, hT⟩ := hc k hlt
      have hwt := HLT.out k hlt
      have hwl := hT.wt
      generalize tt.getD k [] = ts at *
      obtain ⟨la, hla⟩ : ∃ la, la = ts.length := ⟨_, rfl⟩
      rw [← hla] at hcell hT hwl
      have HLA := Lib.hid hla.symm
      have c1 := hcell wr (HK0.out.trans HKR.out)
      have hla9 : la ≤ 9000 := by omega
      have HTS := Lib.hid (hT.kept (HK0.out.trans HKR.out))
      have HRS := Lib.hid (HSS.out.strs.kept (HK0.out.trans HKR.out))
      have HBX := Lib.hid (show ∀ w, Kept wr w → w.cell? ⟨wo.heap.size, 0, none⟩ = some (.slice (some ⟨bm, om, none⟩) lm cm) ∧ w.cell? ⟨wo.heap.size, 1, none⟩ = some (.slice aa ls cs) from fun w k => HBX0.out _ (HKR.out.trans k))
      obtain ⟨B, hB⟩ : ∃ B, B = thsB ts := ⟨_, rfl⟩
      have HB := Lib.hid hB
      clear hB hc hcell hla hwt hwl hT
      go_wp2_with fail
      refine (rthings_any ax la cx ts _ HTS.out).mono ?_
      rintro e w4 ⟨rfl, hk⟩
      rw [← HB.out]
      have HK4 := Lib.hid hk
      clear hk a0 a1 c1
      cases B with
      | false =>
        go_wp2_with fail
        go_roundw
        case rel => exact ⟨k + 1, by omega, by go_num, HKR.out.trans HK4.out⟩
        case measure => simp [intOf]; omega
      | true =>
        have HBT := Lib.hid (show thsB ts = true from HB.out.symm)
        have HAZ := Lib.hid (rootsL_small HTS.out.sizes (show ∀ s ∈ ([] : List ByteArray), s.size ≤ 9223372036854775807 from fun s hs => by cases hs) 0)
        have hAl : (rootsL ts [] 0).length ≤ 9000 := by
          unfold rootsL
          have h1 := rtF_len ts 0 ts.length
          have h2 := HLA.out
          rw [List.length_append]
          simp
          omega
        have HRC := Lib.hid (roots_any ax la cx ts none 0 0 [] 0 w4 (HTS.out.kept HK4.out) (nil_strs _ _) (by omega) (by omega) (by omega))
        have HR1Z := Lib.hid (rootsL_small HTS.out.sizes HRS.out.sizes 1)
        have hR1l : (rootsL ts ss 1).length ≤ 18000 := by
          unfold rootsL
          have h1 := rtF_len ts 1 ts.length
          have h2 := HLA.out
          have h3 := HRS.out.len_eq
          rw [List.length_append, h3]
          omega
        have HRT0 := Lib.hid (fun (w : World) (h : Kept wr w) => roots_any ax la cx ts aa ls cs ss 1 w (HTS.out.kept h) (HRS.out.kept h) (by omega) (by omega) (by omega))
        generalize rootsL ts [] 0 = A at *
        generalize rootsL ts ss 1 = R1 at *
        go_wp2_with fail
        refine HRC.out.mono ?_
        rintro e w5 ⟨aA, cA, rfl, hown, hk⟩
        have HK5 := Lib.hid (HK4.out.trans hk)
        have HA5 := Lib.hid (own_strs hown HAZ.out)
        have HCP := Lib.hid (fun (w : World) (h : Kept w5 w) => copy_strings_own aA A.length cA A w (HA5.out.kept h) (by omega))
        have HRT := Lib.hid (fun (w : World) (h : Kept w5 w) => HRT0.out w (HK5.out.trans h))
        have HBX5 := Lib.hid (fun (w : World) (h : Kept w5 w) => HBX.out w (HK5.out.trans h))
        have HFW := Lib.hid (show A.length + R1.length ≤ 1000000 by omega)
        clear hk hown HRC HRT0
        go_wp2_with fail
        refine Pj.wp_region_step (fun az0 L az w => ∃ V : Nat → Value, az = Pj.puts [(40, 0), (41, 1), (42, 2), (43, 3), (44, 4), (45, 5), (46, 6), (6, 7)] V az0 ∧ Pj.J w5 [Pj.Is (.slice aA A.length cA), (fun _ v => ∃ a c, v = .slice a A.length c), Pj.Is (.slice ax la cx), Pj.Is (.pointer (some ⟨wo.heap.size, 1, none⟩)), Pj.Is (.slice aa ls cs), (fun _ v => ∃ a c, v = .slice a R1.length c), (fun _ v => ∃ a c, v = .slice a (A.length + R1.length) c), (fun _ _ => True)] L V w ∧ Pj.Cp2 w5.heap.size 9 1 A.length R1.length (A.map Value.string) (R1.map Value.string) 1 5 6 L V w ∧ (L 7 → L 6 ∧ V 7 = V 6)) (by as_aux_lemma => kernel_rfl) (by as_aux_lemma => kernel_rfl) ?eh0 ?ehs ?ehe
        case eh0 =>
          intro L hL
          exact ⟨_, Pj.puts_self _ (fun j => ([40, 41, 42, 43, 44, 45, 46, 6] : List Nat).getD j 0) [0, 1, 2, 3, 4, 5, 6, 7], Pj.J.none (n := 8) (Nat.le_refl _) hL ((Kept.refl _).drew), Pj.Cp2.start (hL 1 (by decide)) (hL 5 (by decide)) (hL 6 (by decide)), fun h => absurd h (hL 7 (by decide))⟩
        case ehs =>
          rintro L L' az w iz opz Kq ⟨V, rfl, hJ, hI, hc7⟩ ho hopen hdep hL hKq
          have hP : Pj.AllFlat [Pj.Is (.slice aA A.length cA), (fun _ v => ∃ a c, v = .slice a A.length c), Pj.Is (.slice ax la cx), Pj.Is (.pointer (some ⟨wo.heap.size, 1, none⟩)), Pj.Is (.slice aa ls cs), (fun _ v => ∃ a c, v = .slice a R1.length c), (fun _ v => ∃ a c, v = .slice a (A.length + R1.length) c), (fun _ _ => True)] := ⟨Pj.Is.flat _, (fun _ _ _ h _ => h), Pj.Is.flat _, Pj.Is.flat _, Pj.Is.flat _, (fun _ _ _ h _ => h), (fun _ _ _ h _ => h), (fun _ _ _ _ _ => trivial), trivial⟩
          have HP := Lib.hid hP
          clear hP
          match iz, ho with
          | 0, ho =>
            simp only [List.getElem?_toArray, List.getElem?_cons_zero, Option.some.injEq] at ho
            have HJ := Lib.hid hJ
            clear hJ
            have HXhI := Lib.hid hI
            clear hI
            subst ho
            refine Pj.Step.free rfl ?_
            simp only [Pj.puts, List.foldl_cons, List.foldl_nil, Act.put, List.setIfInBounds_toArray, List.set_cons_zero, List.set_cons_succ]
            go_simp
            exact hKq _ _ ⟨Pj.vset V 0 (.slice aA A.length cA), by simp only [Pj.puts, List.foldl_cons, List.foldl_nil, Act.put, List.setIfInBounds_toArray, List.set_cons_zero, List.set_cons_succ, Pj.vset, Nat.reduceEqDiff, if_true, if_false], HJ.out.flat HP.out hL (HJ.out.kp.trans (Kept.refl _)) (Kept.size (Kept.refl _)) (rfl), HXhI.out.keep (by decide) (by decide) (by decide) hL (Kept.refl _), fun h => ⟨(hL 6).2 (.inr (hc7 (((hL 7).1 h).resolve_left (by decide))).1), by rw [Pj.vset_other _ _ (by decide), Pj.vset_other _ _ (by decide)]; exact (hc7 (((hL 7).1 h).resolve_left (by decide))).2⟩⟩
          | 1, ho =>
            simp only [List.getElem?_toArray, List.getElem?_cons_zero, List.getElem?_cons_succ, Option.some.injEq] at ho
            have e0 : V 0 = .slice aA A.length cA := hJ.h 0 (hdep 0 (by rw [← ho]; kernel_rfl))
            have hcp := HCP.out w hJ.kp
            have HJ := Lib.hid hJ
            clear hJ
            have HXhI := Lib.hid hI
            clear hI
            subst ho
            refine Pj.Step.free rfl ?_
            simp only [Pj.puts, List.foldl_cons, List.foldl_nil, Act.put, List.setIfInBounds_toArray, List.set_cons_zero, List.set_cons_succ, e0]
            go_simp
            refine hcp.mono ?_
            rintro e w' ⟨a5, c5, rfl, hown5', hk9⟩
            have hown5 := own_base hown5' (Kept.size HJ.out.kp)
            exact hKq _ _ ⟨Pj.vset V 1 (.slice a5 A.length c5), by simp only [Pj.puts, List.foldl_cons, List.foldl_nil, Act.put, List.setIfInBounds_toArray, List.set_cons_zero, List.set_cons_succ, Pj.vset, Nat.reduceEqDiff, if_true, if_false, e0], HJ.out.flat HP.out hL (HJ.out.kp.trans (hk9)) (Kept.size (hk9)) (⟨_, _, rfl⟩), HXhI.out.copied hopen (by decide) (by decide) hL hk9 hown5, fun h => ⟨(hL 6).2 (.inr (hc7 (((hL 7).1 h).resolve_left (by decide))).1), by rw [Pj.vset_other _ _ (by decide), Pj.vset_other _ _ (by decide)]; exact (hc7 (((hL 7).1 h).resolve_left (by decide))).2⟩⟩
          | 2, ho =>
            simp only [List.getElem?_toArray, List.getElem?_cons_zero, List.getElem?_cons_succ, Option.some.injEq] at ho
            have HJ := Lib.hid hJ
            clear hJ
            have HXhI := Lib.hid hI
            clear hI
            subst ho
            refine Pj.Step.free rfl ?_
            simp only [Pj.puts, List.foldl_cons, List.foldl_nil, Act.put, List.setIfInBounds_toArray, List.set_cons_zero, List.set_cons_succ]
            go_simp
            exact hKq _ _ ⟨Pj.vset V 2 (.slice ax la cx), by simp only [Pj.puts, List.foldl_cons, List.foldl_nil, Act.put, List.setIfInBounds_toArray, List.set_cons_zero, List.set_cons_succ, Pj.vset, Nat.reduceEqDiff, if_true, if_false], HJ.out.flat HP.out hL (HJ.out.kp.trans (Kept.refl _)) (Kept.size (Kept.refl _)) (rfl), HXhI.out.keep (by decide) (by decide) (by decide) hL (Kept.refl _), fun h => ⟨(hL 6).2 (.inr (hc7 (((hL 7).1 h).resolve_left (by decide))).1), by rw [Pj.vset_other _ _ (by decide), Pj.vset_other _ _ (by decide)]; exact (hc7 (((hL 7).1 h).resolve_left (by decide))).2⟩⟩
          | 3, ho =>
            simp only [List.getElem?_toArray, List.getElem?_cons_zero, List.getElem?_cons_succ, Option.some.injEq] at ho
            have HJ := Lib.hid hJ
            clear hJ
            have HXhI := Lib.hid hI
            clear hI
            subst ho
            refine Pj.Step.free rfl ?_
            simp only [Pj.puts, List.foldl_cons, List.foldl_nil, Act.put, List.setIfInBounds_toArray, List.set_cons_zero, List.set_cons_succ]
            go_simp
            exact hKq _ _ ⟨Pj.vset V 3 (.pointer (some ⟨wo.heap.size, 1, none⟩)), by simp only [Pj.puts, List.foldl_cons, List.foldl_nil, Act.put, List.setIfInBounds_toArray, List.set_cons_zero, List.set_cons_succ, Pj.vset, Nat.reduceEqDiff, if_true, if_false], HJ.out.flat HP.out hL (HJ.out.kp.trans (Kept.refl _)) (Kept.size (Kept.refl _)) (rfl), HXhI.out.keep (by decide) (by decide) (by decide) hL (Kept.refl _), fun h => ⟨(hL 6).2 (.inr (hc7 (((hL 7).1 h).resolve_left (by decide))).1), by rw [Pj.vset_other _ _ (by decide), Pj.vset_other _ _ (by decide)]; exact (hc7 (((hL 7).1 h).resolve_left (by decide))).2⟩⟩
          | 4, ho =>
            simp only [List.getElem?_toArray, List.getElem?_cons_zero, List.getElem?_cons_succ, Option.some.injEq] at ho
            have e3 : V 3 = .pointer (some ⟨wo.heap.size, 1, none⟩) := hJ.h 3 (hdep 3 (by rw [← ho]; kernel_rfl))
            obtain ⟨d0, d1⟩ := HBX5.out _ hJ.kp
            have HJ := Lib.hid hJ
            clear hJ
            have HXhI := Lib.hid hI
            clear hI
            subst ho
            refine Pj.Step.free rfl ?_
            simp only [Pj.puts, List.foldl_cons, List.foldl_nil, Act.put, List.setIfInBounds_toArray, List.set_cons_zero, List.set_cons_succ, e3]
            go_simp
            exact hKq _ _ ⟨Pj.vset V 4 (.slice aa ls cs), by simp only [Pj.puts, List.foldl_cons, List.foldl_nil, Act.put, List.setIfInBounds_toArray, List.set_cons_zero, List.set_cons_succ, Pj.vset, Nat.reduceEqDiff, if_true, if_false, e3], HJ.out.flat HP.out hL (HJ.out.kp.trans (Kept.refl _)) (Kept.size (Kept.refl _)) (rfl), HXhI.out.keep (by decide) (by decide) (by decide) hL (Kept.refl _), fun h => ⟨(hL 6).2 (.inr (hc7 (((hL 7).1 h).resolve_left (by decide))).1), by rw [Pj.vset_other _ _ (by decide), Pj.vset_other _ _ (by decide)]; exact (hc7 (((hL 7).1 h).resolve_left (by decide))).2⟩⟩
          | 5, ho =>
            simp only [List.getElem?_toArray, List.getElem?_cons_zero, List.getElem?_cons_succ, Option.some.injEq] at ho
            have e2 : V 2 = .slice ax la cx := hJ.h 2 (hdep 2 (by rw [← ho]; kernel_rfl))
            have e4 : V 4 = .slice aa ls cs := hJ.h 4 (hdep 4 (by rw [← ho]; kernel_rfl))
            have hcp := HRT.out w hJ.kp
            have HJ := Lib.hid hJ
            clear hJ
            have HXhI := Lib.hid hI
            clear hI
            subst ho
            refine Pj.Step.free rfl ?_
            simp only [Pj.puts, List.foldl_cons, List.foldl_nil, Act.put, List.setIfInBounds_toArray, List.set_cons_zero, List.set_cons_succ, e2, e4]
            go_simp
            refine hcp.mono ?_
            rintro e w' ⟨a5, c5, rfl, hown5', hk9⟩
            have hown5 := own_base hown5' (Kept.size HJ.out.kp)
            exact hKq _ _ ⟨Pj.vset V 5 (.slice a5 R1.length c5), by simp only [Pj.puts, List.foldl_cons, List.foldl_nil, Act.put, List.setIfInBounds_toArray, List.set_cons_zero, List.set_cons_succ, Pj.vset, Nat.reduceEqDiff, if_true, if_false, e2, e4], HJ.out.flat HP.out hL (HJ.out.kp.trans (hk9)) (Kept.size (hk9)) (⟨_, _, rfl⟩), HXhI.out.laid hopen (by decide) (by decide) hL hk9 hown5, fun h => ⟨(hL 6).2 (.inr (hc7 (((hL 7).1 h).resolve_left (by decide))).1), by rw [Pj.vset_other _ _ (by decide), Pj.vset_other _ _ (by decide)]; exact (hc7 (((hL 7).1 h).resolve_left (by decide))).2⟩⟩
          | 6, ho =>
            simp only [List.getElem?_toArray, List.getElem?_cons_zero, List.getElem?_cons_succ, Option.some.injEq] at ho
            have l1 := hdep 1 (by rw [← ho]; kernel_rfl)
            obtain ⟨a6, c6, e1⟩ := hJ.h 1 l1
            have l5 := hdep 5 (by rw [← ho]; kernel_rfl)
            obtain ⟨a7, c7, e5⟩ := hJ.h 5 l5
            have hown := hI.c1 l1 hopen
            rw [e1] at hown
            have htl := hI.d1 l5 hopen
            rw [e5] at htl
            have hsr := Pj.own_source htl
            have HJ := Lib.hid hJ
            clear hJ
            have HXhI := Lib.hid hI
            clear hI
            subst ho
            refine Pj.Step.free rfl ?_
            simp only [Pj.puts, List.foldl_cons, List.foldl_nil, Act.put, List.setIfInBounds_toArray, List.set_cons_zero, List.set_cons_succ, e1, e5]
            refine Pj.oper_takes _ _ 23 rfl w5.heap.size 9 i0 (.string ByteArray.empty) 1 16 Try.underlying23 HI.out.1 HI.out.2.1 HI.out.2.2.1 HI.out.2.2.2 rfl (by decide) (.slice a6 A.length c6) A.length (A.map Value.string) rfl hown a7 R1.length c7 (R1.map Value.string) rfl hsr.1 hsr.2.1 hsr.2.2 (fun u hu => by obtain ⟨x, _, rfl⟩ := List.mem_map.1 hu; rfl) (by have := HFW.out; omega) (by decide) HJ.out.kp.size ?_
            intro v' w' hown' hgrow
            obtain ⟨a8, c8, rfl⟩ := slice_of_own1 hown'
            simp only [Act.put, List.setIfInBounds_toArray, List.set_cons_zero, List.set_cons_succ]
            exact hKq _ _ ⟨Pj.vset V 6 (.slice a8 (A.length + R1.length) c8), by simp only [Pj.puts, List.foldl_cons, List.foldl_nil, Act.put, List.setIfInBounds_toArray, List.set_cons_zero, List.set_cons_succ, Pj.vset, Nat.reduceEqDiff, if_true, if_false, e1, e5], HJ.out.flat HP.out hL (kept_gr1 HJ.out.kp hgrow (fun q e => (hown.lt q e).1) (Nat.le_refl _)) (hgrow.size) (⟨_, _, rfl⟩), Pj.Cp2.tail l1 l5 hL hown', fun h => absurd (hc7 (((hL 7).1 h).resolve_left (by decide))).1 hopen⟩
          | 7, ho =>
            simp only [List.getElem?_toArray, List.getElem?_cons_zero, List.getElem?_cons_succ, Option.some.injEq] at ho
            have l6 := hdep 6 (by rw [← ho]; kernel_rfl)
            obtain ⟨a13, c13, e6⟩ := hJ.h 6 l6
            have HJ := Lib.hid hJ
            clear hJ
            have HXhI := Lib.hid hI
            clear hI
            subst ho
            refine Pj.Step.free rfl ?_
            simp only [Pj.puts, List.foldl_cons, List.foldl_nil, Act.put, List.setIfInBounds_toArray, List.set_cons_zero, List.set_cons_succ, e6]
            go_simp
            exact hKq _ _ ⟨Pj.vset V 7 (V 6), by simp only [Pj.puts, List.foldl_cons, List.foldl_nil, Act.put, List.setIfInBounds_toArray, List.set_cons_zero, List.set_cons_succ, Pj.vset, Nat.reduceEqDiff, if_true, if_false, e6], HJ.out.flat HP.out hL (HJ.out.kp.trans (Kept.refl _)) (Kept.size (Kept.refl _)) (trivial), HXhI.out.keep (by decide) (by decide) (by decide) hL (Kept.refl _), fun _ => ⟨(hL 6).2 (.inr l6), by rw [Pj.vset_same, Pj.vset_other _ _ (by decide)]⟩⟩
          | n + 8, ho => simp at ho
        case ehe =>
          rintro L az w ⟨V, rfl, hJ, hI, hc7⟩ hall
          have e7 : V 7 = V 6 := (hc7 (hall 7 (by decide))).2
          obtain ⟨a13, c13, e6⟩ := hJ.h 6 (hall 6 (by decide))
          have hq9 := hI.q1 (hall 6 (by decide))
          rw [e6] at hq9
          have HQ9 := Lib.hid hq9
          clear hq9
          have HKj := Lib.hid hJ.kp
          clear hJ hall hI hc7
          simp only [Pj.puts, List.foldl_cons, List.foldl_nil, Act.put, List.setIfInBounds_toArray, List.set_cons_zero, List.set_cons_succ, e7, e6]
          clear e7 e6
          have HYZ := Lib.hid (show ∀ s ∈ A ++ R1, s.size ≤ 9223372036854775807 from fun s h => (List.mem_append.1 h).elim (HAZ.out s) (HR1Z.out s))
          have HY := Lib.hid (show StrsIn w a13 (A ++ R1).length (A ++ R1) by
            have h := HQ9.out
            rw [← List.map_append, ← List.length_append] at h
            exact own_strs h HYZ.out)
          have HK6 := Lib.hid (HK5.out.trans HKj.out)
          have HA6 := Lib.hid (HA5.out.kept HKj.out)
          rename World => w6
          have HAL := Lib.hid (show (A ++ R1).length = A.length + R1.length from List.length_append)
          rw [← HAL.out]
          have hYl : (A ++ R1).length ≤ 1000000 := by rw [HAL.out]; omega
          have HMONO := Lib.hid (fun d (h : d ∈ fromL ts A) => from_mono (qs := A ++ R1) (fun r hr => List.mem_append_left _ hr) h)
          have HAGN := Lib.hid (from_again HBT.out A)
          have HFROM := Lib.hid (fun k (h : k < (fromL ts A).length) => from_at h)
          have HNAMES := Lib.hid (fun i (hi : i < ts.length) (hd : dOf ts i ∈ fromL ts A) (x : ByteArray) (hx : x ∈ nmF (ts.getD i th00)) (h0 : ¬ atZ ts x < 0) => from_names HBT.out hi hd hx h0)
          have HRISE := Lib.hid (fun k h => from_rise HBT.out A k h)
          have hXl : (fromL ts A).length ≤ 60 := by
            have := fF_len ts A
            unfold fF at this
            rwa [HBT.out] at this
          generalize A ++ R1 = YR at *
          clear HQ9 HCP HRT HAZ HR1Z HKj HFW
          go_wp2_with fail
          refine (from_good ax la cx ts aA A.length cA A _ (HTS.out.kept HK6.out) HA6.out (by omega) HBT.out).mono ?_
          rintro e w7 ⟨g7, cX, rfl, hs7, hk, _, _⟩
          have HK7 := Lib.hid (HK6.out.trans hk)
          have HX7 := Lib.hid hs7
          have HY7 := Lib.hid (HY.out.kept hk)
          clear hk hs7
          go_wp2_with fail
          refine (from_good ax la cx ts a13 YR.length c13 YR _ (HTS.out.kept HK7.out) HY7.out (by omega) HBT.out).mono ?_
          rintro e w8 ⟨g8, cY, rfl, hs8, hk, _, _⟩
          have HK8 := Lib.hid (HK7.out.trans hk)
          have HX8 := Lib.hid (HX7.out.kept hk)
          have HYY8 := Lib.hid hs8
          clear hk hs8
          go_wp2_with fail
          refine (from_good ax la cx ts _ (fromL ts A).length cX (fromL ts A) _ (HTS.out.kept HK8.out) HX8.out (by omega) HBT.out).mono ?_
          rintro e w9 ⟨g9, cW, rfl, hs9, hk, _, _⟩
          rw [HAGN.out] at hs9 ⊢
          have HK9 := Lib.hid (HK8.out.trans hk)
          have HX9 := Lib.hid (HX8.out.kept hk)
          have HYY9 := Lib.hid (HYY8.out.kept hk)
          have HW9 := Lib.hid hs9
          generalize fromL ts A = X at *
          generalize fromL ts YR = Y at *
          clear hk hs9 HX7 HX8 HY7 HYY8 HY HA5 HA6
          go_wp2_with fail
          refine (num21_any _ _).mono ?_
          rintro e w' ⟨rfl, rfl⟩
          go_wp2_with fail
          refine (num21_any _ _).mono ?_
          rintro e w' ⟨rfl, rfl⟩
          go_wp2_with fail
          refine (num21_any _ _).mono ?_
          rintro e w' ⟨rfl, rfl⟩
          go_wp2_with fail
          refine (eq_strings2 _ _ _ _ _ _ X X _ HW9.out HX9.out).mono ?_
          rintro e wa ⟨rfl, hk⟩
          rw [show decide (X = X) = true from decide_eq_true rfl]
          have HKA := Lib.hid (HK9.out.trans hk)
          have HXA := Lib.hid (HX9.out.kept hk)
          have HYA := Lib.hid (HYY9.out.kept hk)
          clear hk HX9 HYY9 HW9
          go_wp2_with fail
          go_loopw [13] (fun kv ws => ∃ j : Nat, j ≤ X.length ∧ kv = .int .i64 j ∧ Kept wa ws) (fun kv _ => X.length - (intOf kv).toNat)
          case atStart => exact ⟨0, by omega, rfl, Kept.refl _⟩
          case round =>
            rename World => ws
            obtain ⟨j, hj, rfl, hks⟩ := hrel
            have HKS := Lib.hid hks
            have HTW := Lib.hid (HTS.out.kept (HKA.out.trans hks))
            clear hks
            by_cases hjl : j < X.length
            · have hd3 : decide (j < X.length) = true := decide_eq_true hjl
              obtain ⟨p, hp, he, hin⟩ := HFROM.out j hjl
              obtain ⟨bx, ox, e1, hcx⟩ := HXA.out.at (by omega)
              cases e1
              have HIN := Lib.hid hin
              have HPL := Lib.hid (show p < la by have := HLA.out; omega)
              have HPT := Lib.hid hp
              have HAT := Lib.hid (at_dOf (thsB_ri HBT.out) hp)
              have HCK0 := Lib.hid (show ∀ w, Kept ws w → w.cell? ⟨g7, j, none⟩ = some (.string (dOf ts p)) from fun w h => by
                have := hcx j hjl w (HKS.out.trans h)
                rwa [he, Nat.zero_add] at this)
              have HCJ0 := Lib.hid (show ∀ w, Kept ws w → w.cell? ⟨g7, j - 1, none⟩ = some (.string (X.getD (j - 1) ByteArray.empty)) from fun w h => by
                have := hcx (j - 1) (by omega) w (HKS.out.trans h)
                rwa [Nat.zero_add] at this)
              obtain ⟨bt, ot, rfl, hct⟩ := HTW.out.at (by have := HPL.out; omega)
              have HCT := Lib.hid (hct p HPL.out)
              have HLTJ := Lib.hid (show 0 < j → ltB (X.getD (j - 1) ByteArray.empty) (dOf ts p) = true from fun h0 => by
                have := HRISE.out (j - 1) (by omega)
                rwa [show j - 1 + 1 = j by omega, he] at this)
              have HHY := Lib.hid (show hasB (dOf ts p) Y = true from hasB_iff.2 (HMONO.out _ hin))
              have HNM := Lib.hid (fun x hx h0 => HNAMES.out p hp hin x hx h0)
              generalize X.getD (j - 1) ByteArray.empty = d0 at *
              generalize dOf ts p = d at *
              have c9 := HCK0.out ws (Kept.refl _)
              clear hcx he hin hp hct
              go_wp2_with fail
              refine (rat_any _ la cx ts d _ HTW.out).mono ?_
              rintro e wk ⟨rfl, hk⟩
              rw [HAT.out]
              have HKK := Lib.hid hk
              have HP0 := Lib.hid (show decide ((p : Int) < 0) = false from decide_eq_false (by omega))
              have HCK := Lib.hid (fun w (h : Kept wk w) => HCK0.out w (HKK.out.trans h))
              have HHS := Lib.hid (fun w (h : Kept wk w) => has_any (some ⟨g8, 0, none⟩) Y.length cY Y d w (HYA.out.kept (HKS.out.trans (HKK.out.trans h))))
              rw [HHY.out] at HHS
              clear hk c9
              have HARM := Lib.hid (show j = 0 ∨ 0 < j by omega)
              go_upto_region 19 with (fail)
              go_cut [118] (fun v wx => v = .bool false ∧ Kept wk wx)
              case first =>
                rcases HARM.out with hj0 | hj0
                · have HK00 := Lib.hid (show decide (0 < j) = false ∧ decide (0 < (j : Int)) = false from ⟨decide_eq_false (by omega), decide_eq_false (by omega)⟩)
                  clear hj0
                  refine Pj.wp_region_step (fun az0 L az w => ∃ V : Nat → Value, az = Pj.puts [(92, 0), (93, 1), (94, 2), (95, 3), (96, 4), (97, 5), (98, 6), (99, 7), (100, 8), (101, 9), (102, 10), (103, 11), (104, 12), (105, 13), (106, 14), (107, 15), (108, 16), (109, 17), (110, 18), (111, 19), (112, 20), (113, 21), (114, 22), (115, 23), (116, 24), (117, 25), (118, 26)] V az0 ∧ Pj.J wk [Pj.Is (.int .i64 p), Pj.Is (.bool false), Pj.Is (.bool false), Pj.Is (.slice (some ⟨g8, 0, none⟩) Y.length cY), Pj.Is (.slice (some ⟨g7, 0, none⟩) X.length cX), Pj.Is (.int .i64 j), Pj.Is (.pointer (some ⟨g7, j, none⟩)), Pj.Is (.string d), Pj.Is (.bool true), Pj.Is (.bool false), Pj.Is (.bool false), Pj.Is (.bool false), Pj.Is (.int .i64 j), Pj.Is (.bool false), Pj.Is (.bool false), Pj.Is (undef), Pj.Is (undef), Pj.Is (undef), Pj.Is (undef), Pj.Is (undef), Pj.Is (undef), Pj.Is (undef), Pj.Is (undef), Pj.Is (undef), Pj.Is (undef), Pj.Is (.bool false), Pj.Is (.bool false)] L V w) (by as_aux_lemma => kernel_rfl) (by as_aux_lemma => kernel_rfl) ?eh0 ?ehs ?ehe
                  case eh0 =>
                    intro L hL
                    exact ⟨_, Pj.puts_self _ (fun j => ([92, 93, 94, 95, 96, 97, 98, 99, 100, 101, 102, 103, 104, 105, 106, 107, 108, 109, 110, 111, 112, 113, 114, 115, 116, 117, 118] : List Nat).getD j 0) [0, 1, 2, 3, 4, 5, 6, 7, 8, 9, 10, 11, 12, 13, 14, 15, 16, 17, 18, 19, 20, 21, 22, 23, 24, 25, 26], Pj.J.none (n := 27) (Nat.le_refl _) hL ((Kept.refl _).drew)⟩
                  case ehs =>
                    rintro L L' az w iz opz Kq ⟨V, rfl, hJ⟩ ho hopen hdep hL hKq
                    have hP : Pj.AllStay [Pj.Is (.int .i64 p), Pj.Is (.bool false), Pj.Is (.bool false), Pj.Is (.slice (some ⟨g8, 0, none⟩) Y.length cY), Pj.Is (.slice (some ⟨g7, 0, none⟩) X.length cX), Pj.Is (.int .i64 j), Pj.Is (.pointer (some ⟨g7, j, none⟩)), Pj.Is (.string d), Pj.Is (.bool true), Pj.Is (.bool false), Pj.Is (.bool false), Pj.Is (.bool false), Pj.Is (.int .i64 j), Pj.Is (.bool false), Pj.Is (.bool false), Pj.Is (undef), Pj.Is (undef), Pj.Is (undef), Pj.Is (undef), Pj.Is (undef), Pj.Is (undef), Pj.Is (undef), Pj.Is (undef), Pj.Is (undef), Pj.Is (undef), Pj.Is (.bool false), Pj.Is (.bool false)] := ⟨Pj.Is.stays _, Pj.Is.stays _, Pj.Is.stays _, Pj.Is.stays _, Pj.Is.stays _, Pj.Is.stays _, Pj.Is.stays _, Pj.Is.stays _, Pj.Is.stays _, Pj.Is.stays _, Pj.Is.stays _, Pj.Is.stays _, Pj.Is.stays _, Pj.Is.stays _, Pj.Is.stays _, Pj.Is.stays _, Pj.Is.stays _, Pj.Is.stays _, Pj.Is.stays _, Pj.Is.stays _, Pj.Is.stays _, Pj.Is.stays _, Pj.Is.stays _, Pj.Is.stays _, Pj.Is.stays _, Pj.Is.stays _, Pj.Is.stays _, trivial⟩
                    have HP := Lib.hid hP
                    clear hP
                    match iz, ho with
                    | 0, ho =>
                      simp only [List.getElem?_toArray, List.getElem?_cons_zero, Option.some.injEq] at ho
                      have HJ := Lib.hid hJ
                      clear hJ
                      subst ho
                      refine Pj.Step.free rfl ?_
                      simp only [Pj.puts, List.foldl_cons, List.foldl_nil, Act.put, List.setIfInBounds_toArray, List.set_cons_zero, List.set_cons_succ]
                      go_simp
                      exact hKq _ _ ⟨Pj.vset V 0 (.int .i64 p), by simp only [Pj.puts, List.foldl_cons, List.foldl_nil, Act.put, List.setIfInBounds_toArray, List.set_cons_zero, List.set_cons_succ, Pj.vset, Nat.reduceEqDiff, if_true, if_false], HJ.out.more HP.out hL (Kept.refl _) (rfl)⟩
                    | 1, ho =>
                      simp only [List.getElem?_toArray, List.getElem?_cons_zero, List.getElem?_cons_succ, Option.some.injEq] at ho
                      have e0 : V 0 = .int .i64 p := hJ.h 0 (hdep 0 (by rw [← ho]; kernel_rfl))
                      have hd7 := HP0.out
                      have HJ := Lib.hid hJ
                      clear hJ
                      subst ho
                      refine Pj.Step.free rfl ?_
                      simp only [Pj.puts, List.foldl_cons, List.foldl_nil, Act.put, List.setIfInBounds_toArray, List.set_cons_zero, List.set_cons_succ, e0]
                      go_simp
                      exact hKq _ _ ⟨Pj.vset V 1 (.bool false), by simp only [Pj.puts, List.foldl_cons, List.foldl_nil, Act.put, List.setIfInBounds_toArray, List.set_cons_zero, List.set_cons_succ, Pj.vset, Nat.reduceEqDiff, if_true, if_false, e0], HJ.out.more HP.out hL (Kept.refl _) (rfl)⟩
                    | 2, ho =>
                      simp only [List.getElem?_toArray, List.getElem?_cons_zero, List.getElem?_cons_succ, Option.some.injEq] at ho
                      have e1 : V 1 = .bool false := hJ.h 1 (hdep 1 (by rw [← ho]; kernel_rfl))
                      have HJ := Lib.hid hJ
                      clear hJ
                      subst ho
                      refine Pj.Step.free rfl ?_
                      simp only [Pj.puts, List.foldl_cons, List.foldl_nil, Act.put, List.setIfInBounds_toArray, List.set_cons_zero, List.set_cons_succ, e1]
                      go_simp
                      exact hKq _ _ ⟨Pj.vset V 2 (.bool false), by simp only [Pj.puts, List.foldl_cons, List.foldl_nil, Act.put, List.setIfInBounds_toArray, List.set_cons_zero, List.set_cons_succ, Pj.vset, Nat.reduceEqDiff, if_true, if_false, e1], HJ.out.more HP.out hL (Kept.refl _) (rfl)⟩
                    | 3, ho =>
                      simp only [List.getElem?_toArray, List.getElem?_cons_zero, List.getElem?_cons_succ, Option.some.injEq] at ho
                      have e2 : V 2 = .bool false := hJ.h 2 (hdep 2 (by rw [← ho]; kernel_rfl))
                      have HJ := Lib.hid hJ
                      clear hJ
                      subst ho
                      refine Pj.Step.at (g := 2) (b := false) rfl ?hy ?_
                      case hy =>
                        simp only [Pj.puts, List.foldl_cons, List.foldl_nil, Act.put, List.setIfInBounds_toArray, List.set_cons_zero, List.set_cons_succ, e2]
                        rfl
                      simp only [Pj.puts, List.foldl_cons, List.foldl_nil, Act.put, List.setIfInBounds_toArray, List.set_cons_zero, List.set_cons_succ, e2]
                      go_simp
                      exact hKq _ _ ⟨Pj.vset V 3 (.slice (some ⟨g8, 0, none⟩) Y.length cY), by simp only [Pj.puts, List.foldl_cons, List.foldl_nil, Act.put, List.setIfInBounds_toArray, List.set_cons_zero, List.set_cons_succ, Pj.vset, Nat.reduceEqDiff, if_true, if_false, e2], HJ.out.more HP.out hL (Kept.refl _) (rfl)⟩
                    | 4, ho =>
                      simp only [List.getElem?_toArray, List.getElem?_cons_zero, List.getElem?_cons_succ, Option.some.injEq] at ho
                      have e2 : V 2 = .bool false := hJ.h 2 (hdep 2 (by rw [← ho]; kernel_rfl))
                      have HJ := Lib.hid hJ
                      clear hJ
                      subst ho
                      refine Pj.Step.at (g := 2) (b := false) rfl ?hy ?_
                      case hy =>
                        simp only [Pj.puts, List.foldl_cons, List.foldl_nil, Act.put, List.setIfInBounds_toArray, List.set_cons_zero, List.set_cons_succ, e2]
                        rfl
                      simp only [Pj.puts, List.foldl_cons, List.foldl_nil, Act.put, List.setIfInBounds_toArray, List.set_cons_zero, List.set_cons_succ, e2]
                      go_simp
                      exact hKq _ _ ⟨Pj.vset V 4 (.slice (some ⟨g7, 0, none⟩) X.length cX), by simp only [Pj.puts, List.foldl_cons, List.foldl_nil, Act.put, List.setIfInBounds_toArray, List.set_cons_zero, List.set_cons_succ, Pj.vset, Nat.reduceEqDiff, if_true, if_false, e2], HJ.out.more HP.out hL (Kept.refl _) (rfl)⟩
                    | 5, ho =>
                      simp only [List.getElem?_toArray, List.getElem?_cons_zero, List.getElem?_cons_succ, Option.some.injEq] at ho
                      have e2 : V 2 = .bool false := hJ.h 2 (hdep 2 (by rw [← ho]; kernel_rfl))
                      have HJ := Lib.hid hJ
                      clear hJ
                      subst ho
                      refine Pj.Step.at (g := 2) (b := false) rfl ?hy ?_
                      case hy =>
                        simp only [Pj.puts, List.foldl_cons, List.foldl_nil, Act.put, List.setIfInBounds_toArray, List.set_cons_zero, List.set_cons_succ, e2]
                        rfl
                      simp only [Pj.puts, List.foldl_cons, List.foldl_nil, Act.put, List.setIfInBounds_toArray, List.set_cons_zero, List.set_cons_succ, e2]
                      go_simp
                      exact hKq _ _ ⟨Pj.vset V 5 (.int .i64 j), by simp only [Pj.puts, List.foldl_cons, List.foldl_nil, Act.put, List.setIfInBounds_toArray, List.set_cons_zero, List.set_cons_succ, Pj.vset, Nat.reduceEqDiff, if_true, if_false, e2], HJ.out.more HP.out hL (Kept.refl _) (rfl)⟩
                    | 6, ho =>
                      simp only [List.getElem?_toArray, List.getElem?_cons_zero, List.getElem?_cons_succ, Option.some.injEq] at ho
                      have e4 : V 4 = .slice (some ⟨g7, 0, none⟩) X.length cX := hJ.h 4 (hdep 4 (by rw [← ho]; kernel_rfl))
                      have e5 : V 5 = .int .i64 j := hJ.h 5 (hdep 5 (by rw [← ho]; kernel_rfl))
                      have e2 : V 2 = .bool false := hJ.h 2 (hdep 2 (by rw [← ho]; kernel_rfl))
                      have HJ := Lib.hid hJ
                      clear hJ
                      subst ho
                      refine Pj.Step.at (g := 2) (b := false) rfl ?hy ?_
                      case hy =>
                        simp only [Pj.puts, List.foldl_cons, List.foldl_nil, Act.put, List.setIfInBounds_toArray, List.set_cons_zero, List.set_cons_succ, e4, e5, e2]
                        rfl
                      simp only [Pj.puts, List.foldl_cons, List.foldl_nil, Act.put, List.setIfInBounds_toArray, List.set_cons_zero, List.set_cons_succ, e4, e5, e2]
                      go_simp
                      exact hKq _ _ ⟨Pj.vset V 6 (.pointer (some ⟨g7, j, none⟩)), by simp only [Pj.puts, List.foldl_cons, List.foldl_nil, Act.put, List.setIfInBounds_toArray, List.set_cons_zero, List.set_cons_succ, Pj.vset, Nat.reduceEqDiff, if_true, if_false, e4, e5, e2], HJ.out.more HP.out hL (Kept.refl _) (rfl)⟩
                    | 7, ho =>
                      simp only [List.getElem?_toArray, List.getElem?_cons_zero, List.getElem?_cons_succ, Option.some.injEq] at ho
                      have e6 : V 6 = .pointer (some ⟨g7, j, none⟩) := hJ.h 6 (hdep 6 (by rw [← ho]; kernel_rfl))
                      have e2 : V 2 = .bool false := hJ.h 2 (hdep 2 (by rw [← ho]; kernel_rfl))
                      have c9 := HCK.out _ hJ.kp
                      have HJ := Lib.hid hJ
                      clear hJ
                      subst ho
                      refine Pj.Step.at (g := 2) (b := false) rfl ?hy ?_
                      case hy =>
                        simp only [Pj.puts, List.foldl_cons, List.foldl_nil, Act.put, List.setIfInBounds_toArray, List.set_cons_zero, List.set_cons_succ, e6, e2]
                        rfl
                      simp only [Pj.puts, List.foldl_cons, List.foldl_nil, Act.put, List.setIfInBounds_toArray, List.set_cons_zero, List.set_cons_succ, e6, e2]
                      go_simp
                      exact hKq _ _ ⟨Pj.vset V 7 (.string d), by simp only [Pj.puts, List.foldl_cons, List.foldl_nil, Act.put, List.setIfInBounds_toArray, List.set_cons_zero, List.set_cons_succ, Pj.vset, Nat.reduceEqDiff, if_true, if_false, e6, e2], HJ.out.more HP.out hL (Kept.refl _) (rfl)⟩
                    | 8, ho =>
                      simp only [List.getElem?_toArray, List.getElem?_cons_zero, List.getElem?_cons_succ, Option.some.injEq] at ho
                      have e3 : V 3 = .slice (some ⟨g8, 0, none⟩) Y.length cY := hJ.h 3 (hdep 3 (by rw [← ho]; kernel_rfl))
                      have e7 : V 7 = .string d := hJ.h 7 (hdep 7 (by rw [← ho]; kernel_rfl))
                      have e2 : V 2 = .bool false := hJ.h 2 (hdep 2 (by rw [← ho]; kernel_rfl))
                      have hhs := HHS.out _ hJ.kp
                      have HJ := Lib.hid hJ
                      clear hJ
                      subst ho
                      refine Pj.Step.at (g := 2) (b := false) rfl ?hy ?_
                      case hy =>
                        simp only [Pj.puts, List.foldl_cons, List.foldl_nil, Act.put, List.setIfInBounds_toArray, List.set_cons_zero, List.set_cons_succ, e3, e7, e2]
                        rfl
                      simp only [Pj.puts, List.foldl_cons, List.foldl_nil, Act.put, List.setIfInBounds_toArray, List.set_cons_zero, List.set_cons_succ, e3, e7, e2]
                      go_simp
                      refine hhs.mono ?_
                      rintro e w' ⟨rfl, hk9⟩
                      exact hKq _ _ ⟨Pj.vset V 8 (.bool true), by simp only [Pj.puts, List.foldl_cons, List.foldl_nil, Act.put, List.setIfInBounds_toArray, List.set_cons_zero, List.set_cons_succ, Pj.vset, Nat.reduceEqDiff, if_true, if_false, e3, e7, e2], HJ.out.more HP.out hL (hk9) (rfl)⟩
                    | 9, ho =>
                      simp only [List.getElem?_toArray, List.getElem?_cons_zero, List.getElem?_cons_succ, Option.some.injEq] at ho
                      have e8 : V 8 = .bool true := hJ.h 8 (hdep 8 (by rw [← ho]; kernel_rfl))
                      have e2 : V 2 = .bool false := hJ.h 2 (hdep 2 (by rw [← ho]; kernel_rfl))
                      have HJ := Lib.hid hJ
                      clear hJ
                      subst ho
                      refine Pj.Step.at (g := 2) (b := false) rfl ?hy ?_
                      case hy =>
                        simp only [Pj.puts, List.foldl_cons, List.foldl_nil, Act.put, List.setIfInBounds_toArray, List.set_cons_zero, List.set_cons_succ, e8, e2]
                        rfl
                      simp only [Pj.puts, List.foldl_cons, List.foldl_nil, Act.put, List.setIfInBounds_toArray, List.set_cons_zero, List.set_cons_succ, e8, e2]
                      go_simp
                      exact hKq _ _ ⟨Pj.vset V 9 (.bool false), by simp only [Pj.puts, List.foldl_cons, List.foldl_nil, Act.put, List.setIfInBounds_toArray, List.set_cons_zero, List.set_cons_succ, Pj.vset, Nat.reduceEqDiff, if_true, if_false, e8, e2], HJ.out.more HP.out hL (Kept.refl _) (rfl)⟩
                    | 10, ho =>
                      simp only [List.getElem?_toArray, List.getElem?_cons_zero, List.getElem?_cons_succ, Option.some.injEq] at ho
                      have e2 : V 2 = .bool false := hJ.h 2 (hdep 2 (by rw [← ho]; kernel_rfl))
                      have e9 : V 9 = .bool false := hJ.h 9 (hdep 9 (by rw [← ho]; kernel_rfl))
                      have HJ := Lib.hid hJ
                      clear hJ
                      subst ho
                      refine Pj.Step.free rfl ?_
                      simp only [Pj.puts, List.foldl_cons, List.foldl_nil, Act.put, List.setIfInBounds_toArray, List.set_cons_zero, List.set_cons_succ, e2, e9]
                      go_simp
                      exact hKq _ _ ⟨Pj.vset V 10 (.bool false), by simp only [Pj.puts, List.foldl_cons, List.foldl_nil, Act.put, List.setIfInBounds_toArray, List.set_cons_zero, List.set_cons_succ, Pj.vset, Nat.reduceEqDiff, if_true, if_false, e2, e9], HJ.out.more HP.out hL (Kept.refl _) (rfl)⟩
                    | 11, ho =>
                      simp only [List.getElem?_toArray, List.getElem?_cons_zero, List.getElem?_cons_succ, Option.some.injEq] at ho
                      have e10 : V 10 = .bool false := hJ.h 10 (hdep 10 (by rw [← ho]; kernel_rfl))
                      have HJ := Lib.hid hJ
                      clear hJ
                      subst ho
                      refine Pj.Step.free rfl ?_
                      simp only [Pj.puts, List.foldl_cons, List.foldl_nil, Act.put, List.setIfInBounds_toArray, List.set_cons_zero, List.set_cons_succ, e10]
                      go_simp
                      exact hKq _ _ ⟨Pj.vset V 11 (.bool false), by simp only [Pj.puts, List.foldl_cons, List.foldl_nil, Act.put, List.setIfInBounds_toArray, List.set_cons_zero, List.set_cons_succ, Pj.vset, Nat.reduceEqDiff, if_true, if_false, e10], HJ.out.more HP.out hL (Kept.refl _) (rfl)⟩
                    | 12, ho =>
                      simp only [List.getElem?_toArray, List.getElem?_cons_zero, List.getElem?_cons_succ, Option.some.injEq] at ho
                      have e11 : V 11 = .bool false := hJ.h 11 (hdep 11 (by rw [← ho]; kernel_rfl))
                      have HJ := Lib.hid hJ
                      clear hJ
                      subst ho
                      refine Pj.Step.at (g := 11) (b := false) rfl ?hy ?_
                      case hy =>
                        simp only [Pj.puts, List.foldl_cons, List.foldl_nil, Act.put, List.setIfInBounds_toArray, List.set_cons_zero, List.set_cons_succ, e11]
                        rfl
                      simp only [Pj.puts, List.foldl_cons, List.foldl_nil, Act.put, List.setIfInBounds_toArray, List.set_cons_zero, List.set_cons_succ, e11]
                      go_simp
                      exact hKq _ _ ⟨Pj.vset V 12 (.int .i64 j), by simp only [Pj.puts, List.foldl_cons, List.foldl_nil, Act.put, List.setIfInBounds_toArray, List.set_cons_zero, List.set_cons_succ, Pj.vset, Nat.reduceEqDiff, if_true, if_false, e11], HJ.out.more HP.out hL (Kept.refl _) (rfl)⟩
                    | 13, ho =>
                      simp only [List.getElem?_toArray, List.getElem?_cons_zero, List.getElem?_cons_succ, Option.some.injEq] at ho
                      have e12 : V 12 = .int .i64 j := hJ.h 12 (hdep 12 (by rw [← ho]; kernel_rfl))
                      have e11 : V 11 = .bool false := hJ.h 11 (hdep 11 (by rw [← ho]; kernel_rfl))
                      have hd8 := HK00.out.1
                      have hd9 := HK00.out.2
                      have HJ := Lib.hid hJ
                      clear hJ
                      subst ho
                      refine Pj.Step.at (g := 11) (b := false) rfl ?hy ?_
                      case hy =>
                        simp only [Pj.puts, List.foldl_cons, List.foldl_nil, Act.put, List.setIfInBounds_toArray, List.set_cons_zero, List.set_cons_succ, e12, e11]
                        rfl
                      simp only [Pj.puts, List.foldl_cons, List.foldl_nil, Act.put, List.setIfInBounds_toArray, List.set_cons_zero, List.set_cons_succ, e12, e11]
                      go_simp
                      exact hKq _ _ ⟨Pj.vset V 13 (.bool false), by simp only [Pj.puts, List.foldl_cons, List.foldl_nil, Act.put, List.setIfInBounds_toArray, List.set_cons_zero, List.set_cons_succ, Pj.vset, Nat.reduceEqDiff, if_true, if_false, e12, e11], HJ.out.more HP.out hL (Kept.refl _) (rfl)⟩
                    | 14, ho =>
                      simp only [List.getElem?_toArray, List.getElem?_cons_zero, List.getElem?_cons_succ, Option.some.injEq] at ho
                      have e13 : V 13 = .bool false := hJ.h 13 (hdep 13 (by rw [← ho]; kernel_rfl))
                      have e11 : V 11 = .bool false := hJ.h 11 (hdep 11 (by rw [← ho]; kernel_rfl))
                      have HJ := Lib.hid hJ
                      clear hJ
                      subst ho
                      refine Pj.Step.at (g := 11) (b := false) rfl ?hy ?_
                      case hy =>
                        simp only [Pj.puts, List.foldl_cons, List.foldl_nil, Act.put, List.setIfInBounds_toArray, List.set_cons_zero, List.set_cons_succ, e13, e11]
                        rfl
                      simp only [Pj.puts, List.foldl_cons, List.foldl_nil, Act.put, List.setIfInBounds_toArray, List.set_cons_zero, List.set_cons_succ, e13, e11]
                      go_simp
                      exact hKq _ _ ⟨Pj.vset V 14 (.bool false), by simp only [Pj.puts, List.foldl_cons, List.foldl_nil, Act.put, List.setIfInBounds_toArray, List.set_cons_zero, List.set_cons_succ, Pj.vset, Nat.reduceEqDiff, if_true, if_false, e13, e11], HJ.out.more HP.out hL (Kept.refl _) (rfl)⟩
                    | 15, ho =>
                      simp only [List.getElem?_toArray, List.getElem?_cons_zero, List.getElem?_cons_succ, Option.some.injEq] at ho
                      have e14 : V 14 = .bool false := hJ.h 14 (hdep 14 (by rw [← ho]; kernel_rfl))
                      have HJ := Lib.hid hJ
                      clear hJ
                      subst ho
                      refine Pj.Step.not (g := 14) (b := true) rfl ?hy ?_
                      case hy =>
                        simp only [Pj.puts, List.foldl_cons, List.foldl_nil, Act.put, List.setIfInBounds_toArray, List.set_cons_zero, List.set_cons_succ, e14]
                        rfl
                      simp only [Pj.puts, List.foldl_cons, List.foldl_nil, Act.put, List.setIfInBounds_toArray, List.set_cons_zero, List.set_cons_succ, e14]
                      exact hKq _ _ ⟨Pj.vset V 15 (undef), by simp only [Pj.puts, List.foldl_cons, List.foldl_nil, Act.put, List.setIfInBounds_toArray, List.set_cons_zero, List.set_cons_succ, Pj.vset, Nat.reduceEqDiff, if_true, if_false, e14], HJ.out.more HP.out hL (Kept.refl _) (rfl)⟩
                    | 16, ho =>
                      simp only [List.getElem?_toArray, List.getElem?_cons_zero, List.getElem?_cons_succ, Option.some.injEq] at ho
                      have e14 : V 14 = .bool false := hJ.h 14 (hdep 14 (by rw [← ho]; kernel_rfl))
                      have HJ := Lib.hid hJ
                      clear hJ
                      subst ho
                      refine Pj.Step.not (g := 14) (b := true) rfl ?hy ?_
                      case hy =>
                        simp only [Pj.puts, List.foldl_cons, List.foldl_nil, Act.put, List.setIfInBounds_toArray, List.set_cons_zero, List.set_cons_succ, e14]
                        rfl
                      simp only [Pj.puts, List.foldl_cons, List.foldl_nil, Act.put, List.setIfInBounds_toArray, List.set_cons_zero, List.set_cons_succ, e14]
                      exact hKq _ _ ⟨Pj.vset V 16 (undef), by simp only [Pj.puts, List.foldl_cons, List.foldl_nil, Act.put, List.setIfInBounds_toArray, List.set_cons_zero, List.set_cons_succ, Pj.vset, Nat.reduceEqDiff, if_true, if_false, e14], HJ.out.more HP.out hL (Kept.refl _) (rfl)⟩
                    | 17, ho =>
                      simp only [List.getElem?_toArray, List.getElem?_cons_zero, List.getElem?_cons_succ, Option.some.injEq] at ho
                      have e16 : V 16 = undef := hJ.h 16 (hdep 16 (by rw [← ho]; kernel_rfl))
                      have e14 : V 14 = .bool false := hJ.h 14 (hdep 14 (by rw [← ho]; kernel_rfl))
                      have HJ := Lib.hid hJ
                      clear hJ
                      subst ho
                      refine Pj.Step.not (g := 14) (b := true) rfl ?hy ?_
                      case hy =>
                        simp only [Pj.puts, List.foldl_cons, List.foldl_nil, Act.put, List.setIfInBounds_toArray, List.set_cons_zero, List.set_cons_succ, e16, e14]
                        rfl
                      simp only [Pj.puts, List.foldl_cons, List.foldl_nil, Act.put, List.setIfInBounds_toArray, List.set_cons_zero, List.set_cons_succ, e16, e14]
                      exact hKq _ _ ⟨Pj.vset V 17 (undef), by simp only [Pj.puts, List.foldl_cons, List.foldl_nil, Act.put, List.setIfInBounds_toArray, List.set_cons_zero, List.set_cons_succ, Pj.vset, Nat.reduceEqDiff, if_true, if_false, e16, e14], HJ.out.more HP.out hL (Kept.refl _) (rfl)⟩
                    | 18, ho =>
                      simp only [List.getElem?_toArray, List.getElem?_cons_zero, List.getElem?_cons_succ, Option.some.injEq] at ho
                      have e15 : V 15 = undef := hJ.h 15 (hdep 15 (by rw [← ho]; kernel_rfl))
                      have e17 : V 17 = undef := hJ.h 17 (hdep 17 (by rw [← ho]; kernel_rfl))
                      have e14 : V 14 = .bool false := hJ.h 14 (hdep 14 (by rw [← ho]; kernel_rfl))
                      have HJ := Lib.hid hJ
                      clear hJ
                      subst ho
                      refine Pj.Step.not (g := 14) (b := true) rfl ?hy ?_
                      case hy =>
                        simp only [Pj.puts, List.foldl_cons, List.foldl_nil, Act.put, List.setIfInBounds_toArray, List.set_cons_zero, List.set_cons_succ, e15, e17, e14]
                        rfl
                      simp only [Pj.puts, List.foldl_cons, List.foldl_nil, Act.put, List.setIfInBounds_toArray, List.set_cons_zero, List.set_cons_succ, e15, e17, e14]
                      exact hKq _ _ ⟨Pj.vset V 18 (undef), by simp only [Pj.puts, List.foldl_cons, List.foldl_nil, Act.put, List.setIfInBounds_toArray, List.set_cons_zero, List.set_cons_succ, Pj.vset, Nat.reduceEqDiff, if_true, if_false, e15, e17, e14], HJ.out.more HP.out hL (Kept.refl _) (rfl)⟩
                    | 19, ho =>
                      simp only [List.getElem?_toArray, List.getElem?_cons_zero, List.getElem?_cons_succ, Option.some.injEq] at ho
                      have e18 : V 18 = undef := hJ.h 18 (hdep 18 (by rw [← ho]; kernel_rfl))
                      have e14 : V 14 = .bool false := hJ.h 14 (hdep 14 (by rw [← ho]; kernel_rfl))
                      have HJ := Lib.hid hJ
                      clear hJ
                      subst ho
                      refine Pj.Step.not (g := 14) (b := true) rfl ?hy ?_
                      case hy =>
                        simp only [Pj.puts, List.foldl_cons, List.foldl_nil, Act.put, List.setIfInBounds_toArray, List.set_cons_zero, List.set_cons_succ, e18, e14]
                        rfl
                      simp only [Pj.puts, List.foldl_cons, List.foldl_nil, Act.put, List.setIfInBounds_toArray, List.set_cons_zero, List.set_cons_succ, e18, e14]
                      exact hKq _ _ ⟨Pj.vset V 19 (undef), by simp only [Pj.puts, List.foldl_cons, List.foldl_nil, Act.put, List.setIfInBounds_toArray, List.set_cons_zero, List.set_cons_succ, Pj.vset, Nat.reduceEqDiff, if_true, if_false, e18, e14], HJ.out.more HP.out hL (Kept.refl _) (rfl)⟩
                    | 20, ho =>
                      simp only [List.getElem?_toArray, List.getElem?_cons_zero, List.getElem?_cons_succ, Option.some.injEq] at ho
                      have e14 : V 14 = .bool false := hJ.h 14 (hdep 14 (by rw [← ho]; kernel_rfl))
                      have HJ := Lib.hid hJ
                      clear hJ
                      subst ho
                      refine Pj.Step.not (g := 14) (b := true) rfl ?hy ?_
                      case hy =>
                        simp only [Pj.puts, List.foldl_cons, List.foldl_nil, Act.put, List.setIfInBounds_toArray, List.set_cons_zero, List.set_cons_succ, e14]
                        rfl
                      simp only [Pj.puts, List.foldl_cons, List.foldl_nil, Act.put, List.setIfInBounds_toArray, List.set_cons_zero, List.set_cons_succ, e14]
                      exact hKq _ _ ⟨Pj.vset V 20 (undef), by simp only [Pj.puts, List.foldl_cons, List.foldl_nil, Act.put, List.setIfInBounds_toArray, List.set_cons_zero, List.set_cons_succ, Pj.vset, Nat.reduceEqDiff, if_true, if_false, e14], HJ.out.more HP.out hL (Kept.refl _) (rfl)⟩
                    | 21, ho =>
                      simp only [List.getElem?_toArray, List.getElem?_cons_zero, List.getElem?_cons_succ, Option.some.injEq] at ho
                      have e14 : V 14 = .bool false := hJ.h 14 (hdep 14 (by rw [← ho]; kernel_rfl))
                      have HJ := Lib.hid hJ
                      clear hJ
                      subst ho
                      refine Pj.Step.not (g := 14) (b := true) rfl ?hy ?_
                      case hy =>
                        simp only [Pj.puts, List.foldl_cons, List.foldl_nil, Act.put, List.setIfInBounds_toArray, List.set_cons_zero, List.set_cons_succ, e14]
                        rfl
                      simp only [Pj.puts, List.foldl_cons, List.foldl_nil, Act.put, List.setIfInBounds_toArray, List.set_cons_zero, List.set_cons_succ, e14]
                      exact hKq _ _ ⟨Pj.vset V 21 (undef), by simp only [Pj.puts, List.foldl_cons, List.foldl_nil, Act.put, List.setIfInBounds_toArray, List.set_cons_zero, List.set_cons_succ, Pj.vset, Nat.reduceEqDiff, if_true, if_false, e14], HJ.out.more HP.out hL (Kept.refl _) (rfl)⟩
                    | 22, ho =>
                      simp only [List.getElem?_toArray, List.getElem?_cons_zero, List.getElem?_cons_succ, Option.some.injEq] at ho
                      have e20 : V 20 = undef := hJ.h 20 (hdep 20 (by rw [← ho]; kernel_rfl))
                      have e21 : V 21 = undef := hJ.h 21 (hdep 21 (by rw [← ho]; kernel_rfl))
                      have e14 : V 14 = .bool false := hJ.h 14 (hdep 14 (by rw [← ho]; kernel_rfl))
                      have HJ := Lib.hid hJ
                      clear hJ
                      subst ho
                      refine Pj.Step.not (g := 14) (b := true) rfl ?hy ?_
                      case hy =>
                        simp only [Pj.puts, List.foldl_cons, List.foldl_nil, Act.put, List.setIfInBounds_toArray, List.set_cons_zero, List.set_cons_succ, e20, e21, e14]
                        rfl
                      simp only [Pj.puts, List.foldl_cons, List.foldl_nil, Act.put, List.setIfInBounds_toArray, List.set_cons_zero, List.set_cons_succ, e20, e21, e14]
                      exact hKq _ _ ⟨Pj.vset V 22 (undef), by simp only [Pj.puts, List.foldl_cons, List.foldl_nil, Act.put, List.setIfInBounds_toArray, List.set_cons_zero, List.set_cons_succ, Pj.vset, Nat.reduceEqDiff, if_true, if_false, e20, e21, e14], HJ.out.more HP.out hL (Kept.refl _) (rfl)⟩
                    | 23, ho =>
                      simp only [List.getElem?_toArray, List.getElem?_cons_zero, List.getElem?_cons_succ, Option.some.injEq] at ho
                      have e22 : V 22 = undef := hJ.h 22 (hdep 22 (by rw [← ho]; kernel_rfl))
                      have e14 : V 14 = .bool false := hJ.h 14 (hdep 14 (by rw [← ho]; kernel_rfl))
                      have HJ := Lib.hid hJ
                      clear hJ
                      subst ho
                      refine Pj.Step.not (g := 14) (b := true) rfl ?hy ?_
                      case hy =>
                        simp only [Pj.puts, List.foldl_cons, List.foldl_nil, Act.put, List.setIfInBounds_toArray, List.set_cons_zero, List.set_cons_succ, e22, e14]
                        rfl
                      simp only [Pj.puts, List.foldl_cons, List.foldl_nil, Act.put, List.setIfInBounds_toArray, List.set_cons_zero, List.set_cons_succ, e22, e14]
                      exact hKq _ _ ⟨Pj.vset V 23 (undef), by simp only [Pj.puts, List.foldl_cons, List.foldl_nil, Act.put, List.setIfInBounds_toArray, List.set_cons_zero, List.set_cons_succ, Pj.vset, Nat.reduceEqDiff, if_true, if_false, e22, e14], HJ.out.more HP.out hL (Kept.refl _) (rfl)⟩
                    | 24, ho =>
                      simp only [List.getElem?_toArray, List.getElem?_cons_zero, List.getElem?_cons_succ, Option.some.injEq] at ho
                      have e19 : V 19 = undef := hJ.h 19 (hdep 19 (by rw [← ho]; kernel_rfl))
                      have e23 : V 23 = undef := hJ.h 23 (hdep 23 (by rw [← ho]; kernel_rfl))
                      have e14 : V 14 = .bool false := hJ.h 14 (hdep 14 (by rw [← ho]; kernel_rfl))
                      have HJ := Lib.hid hJ
                      clear hJ
                      subst ho
                      refine Pj.Step.not (g := 14) (b := true) rfl ?hy ?_
                      case hy =>
                        simp only [Pj.puts, List.foldl_cons, List.foldl_nil, Act.put, List.setIfInBounds_toArray, List.set_cons_zero, List.set_cons_succ, e19, e23, e14]
                        rfl
                      simp only [Pj.puts, List.foldl_cons, List.foldl_nil, Act.put, List.setIfInBounds_toArray, List.set_cons_zero, List.set_cons_succ, e19, e23, e14]
                      exact hKq _ _ ⟨Pj.vset V 24 (undef), by simp only [Pj.puts, List.foldl_cons, List.foldl_nil, Act.put, List.setIfInBounds_toArray, List.set_cons_zero, List.set_cons_succ, Pj.vset, Nat.reduceEqDiff, if_true, if_false, e19, e23, e14], HJ.out.more HP.out hL (Kept.refl _) (rfl)⟩
                    | 25, ho =>
                      simp only [List.getElem?_toArray, List.getElem?_cons_zero, List.getElem?_cons_succ, Option.some.injEq] at ho
                      have e14 : V 14 = .bool false := hJ.h 14 (hdep 14 (by rw [← ho]; kernel_rfl))
                      have e24 : V 24 = undef := hJ.h 24 (hdep 24 (by rw [← ho]; kernel_rfl))
                      have e11 : V 11 = .bool false := hJ.h 11 (hdep 11 (by rw [← ho]; kernel_rfl))
                      have HJ := Lib.hid hJ
                      clear hJ
                      subst ho
                      refine Pj.Step.at (g := 11) (b := false) rfl ?hy ?_
                      case hy =>
                        simp only [Pj.puts, List.foldl_cons, List.foldl_nil, Act.put, List.setIfInBounds_toArray, List.set_cons_zero, List.set_cons_succ, e14, e24, e11]
                        rfl
                      simp only [Pj.puts, List.foldl_cons, List.foldl_nil, Act.put, List.setIfInBounds_toArray, List.set_cons_zero, List.set_cons_succ, e14, e24, e11]
                      go_simp
                      exact hKq _ _ ⟨Pj.vset V 25 (.bool false), by simp only [Pj.puts, List.foldl_cons, List.foldl_nil, Act.put, List.setIfInBounds_toArray, List.set_cons_zero, List.set_cons_succ, Pj.vset, Nat.reduceEqDiff, if_true, if_false, e14, e24, e11], HJ.out.more HP.out hL (Kept.refl _) (rfl)⟩
                    | 26, ho =>
                      simp only [List.getElem?_toArray, List.getElem?_cons_zero, List.getElem?_cons_succ, Option.some.injEq] at ho
                      have e11 : V 11 = .bool false := hJ.h 11 (hdep 11 (by rw [← ho]; kernel_rfl))
                      have e25 : V 25 = .bool false := hJ.h 25 (hdep 25 (by rw [← ho]; kernel_rfl))
                      have HJ := Lib.hid hJ
                      clear hJ
                      subst ho
                      refine Pj.Step.free rfl ?_
                      simp only [Pj.puts, List.foldl_cons, List.foldl_nil, Act.put, List.setIfInBounds_toArray, List.set_cons_zero, List.set_cons_succ, e11, e25]
                      go_simp
                      exact hKq _ _ ⟨Pj.vset V 26 (.bool false), by simp only [Pj.puts, List.foldl_cons, List.foldl_nil, Act.put, List.setIfInBounds_toArray, List.set_cons_zero, List.set_cons_succ, Pj.vset, Nat.reduceEqDiff, if_true, if_false, e11, e25], HJ.out.more HP.out hL (Kept.refl _) (rfl)⟩
                    | n + 27, ho => simp at ho
                  case ehe =>
                    rintro L az w ⟨V, rfl, hJ⟩ hall
                    have e26 : V 26 = .bool false := hJ.h 26 (hall 26 (by decide))
                    have HKj := Lib.hid hJ.kp
                    clear hJ hall
                    simp only [Pj.puts, List.foldl_cons, List.foldl_nil, Act.put, List.setIfInBounds_toArray, List.set_cons_zero, List.set_cons_succ, e26]
                    clear e26
                    go_wp2_with fail
                    go_meet
                    exact ⟨rfl, HKj.out⟩
                · have HK00 := Lib.hid (show decide (0 < j) = true ∧ decide (0 < (j : Int)) = true from ⟨decide_eq_true (by omega), decide_eq_true (by omega)⟩)
                  obtain ⟨m, hm⟩ : ∃ m, m = j - 1 := ⟨_, rfl⟩
                  have HKM := Lib.hid (show IntKind.i64.wrap ((j : Int) - 1) = (m : Int) by rw [IntWalk.i64_in _ (by omega)]; omega)
                  have HCJ := Lib.hid (fun w (h : Kept wk w) => HCJ0.out w (HKK.out.trans h))
                  have HGE := Lib.hid (HLTJ.out hj0)
                  rw [← hm] at HCJ
                  have hml : m < X.length := by omega
                  have hdml : decide (m < X.length) = true := decide_eq_true hml
                  clear hj0 hm
                  refine Pj.wp_region_step (fun az0 L az w => ∃ V : Nat → Value, az = Pj.puts [(92, 0), (93, 1), (94, 2), (95, 3), (96, 4), (97, 5), (98, 6), (99, 7), (100, 8), (101, 9), (102, 10), (103, 11), (104, 12), (105, 13), (106, 14), (107, 15), (108, 16), (109, 17), (110, 18), (111, 19), (112, 20), (113, 21), (114, 22), (115, 23), (116, 24), (117, 25), (118, 26)] V az0 ∧ Pj.J wk [Pj.Is (.int .i64 p), Pj.Is (.bool false), Pj.Is (.bool false), Pj.Is (.slice (some ⟨g8, 0, none⟩) Y.length cY), Pj.Is (.slice (some ⟨g7, 0, none⟩) X.length cX), Pj.Is (.int .i64 j), Pj.Is (.pointer (some ⟨g7, j, none⟩)), Pj.Is (.string d), Pj.Is (.bool true), Pj.Is (.bool false), Pj.Is (.bool false), Pj.Is (.bool false), Pj.Is (.int .i64 j), Pj.Is (.bool true), Pj.Is (.bool true), Pj.Is (.slice (some ⟨g7, 0, none⟩) X.length cX), Pj.Is (.int .i64 j), Pj.Is (.int .i64 m), Pj.Is (.pointer (some ⟨g7, m, none⟩)), Pj.Is (.string d0), Pj.Is (.slice (some ⟨g7, 0, none⟩) X.length cX), Pj.Is (.int .i64 j), Pj.Is (.pointer (some ⟨g7, j, none⟩)), Pj.Is (.string d), Pj.Is (.bool false), Pj.Is (.bool false), Pj.Is (.bool false)] L V w) (by as_aux_lemma => kernel_rfl) (by as_aux_lemma => kernel_rfl) ?eh0 ?ehs ?ehe
                  case eh0 =>
                    intro L hL
                    exact ⟨_, Pj.puts_self _ (fun j => ([92, 93, 94, 95, 96, 97, 98, 99, 100, 101, 102, 103, 104, 105, 106, 107, 108, 109, 110, 111, 112, 113, 114, 115, 116, 117, 118] : List Nat).getD j 0) [0, 1, 2, 3, 4, 5, 6, 7, 8, 9, 10, 11, 12, 13, 14, 15, 16, 17, 18, 19, 20, 21, 22, 23, 24, 25, 26], Pj.J.none (n := 27) (Nat.le_refl _) hL ((Kept.refl _).drew)⟩
                  case ehs =>
                    rintro L L' az w iz opz Kq ⟨V, rfl, hJ⟩ ho hopen hdep hL hKq
                    have hP : Pj.AllStay [Pj.Is (.int .i64 p), Pj.Is (.bool false), Pj.Is (.bool false), Pj.Is (.slice (some ⟨g8, 0, none⟩) Y.length cY), Pj.Is (.slice (some ⟨g7, 0, none⟩) X.length cX), Pj.Is (.int .i64 j), Pj.Is (.pointer (some ⟨g7, j, none⟩)), Pj.Is (.string d), Pj.Is (.bool true), Pj.Is (.bool false), Pj.Is (.bool false), Pj.Is (.bool false), Pj.Is (.int .i64 j), Pj.Is (.bool true), Pj.Is (.bool true), Pj.Is (.slice (some ⟨g7, 0, none⟩) X.length cX), Pj.Is (.int .i64 j), Pj.Is (.int .i64 m), Pj.Is (.pointer (some ⟨g7, m, none⟩)), Pj.Is (.string d0), Pj.Is (.slice (some ⟨g7, 0, none⟩) X.length cX), Pj.Is (.int .i64 j), Pj.Is (.pointer (some ⟨g7, j, none⟩)), Pj.Is (.string d), Pj.Is (.bool false), Pj.Is (.bool false), Pj.Is (.bool false)] := ⟨Pj.Is.stays _, Pj.Is.stays _, Pj.Is.stays _, Pj.Is.stays _, Pj.Is.stays _, Pj.Is.stays _, Pj.Is.stays _, Pj.Is.stays _, Pj.Is.stays _, Pj.Is.stays _, Pj.Is.stays _, Pj.Is.stays _, Pj.Is.stays _, Pj.Is.stays _, Pj.Is.stays _, Pj.Is.stays _, Pj.Is.stays _, Pj.Is.stays _, Pj.Is.stays _, Pj.Is.stays _, Pj.Is.stays _, Pj.Is.stays _, Pj.Is.stays _, Pj.Is.stays _, Pj.Is.stays _, Pj.Is.stays _, Pj.Is.stays _, trivial⟩
                    have HP := Lib.hid hP
                    clear hP
                    match iz, ho with
                    | 0, ho =>
                      simp only [List.getElem?_toArray, List.getElem?_cons_zero, Option.some.injEq] at ho
                      have HJ := Lib.hid hJ
                      clear hJ
                      subst ho
                      refine Pj.Step.free rfl ?_
                      simp only [Pj.puts, List.foldl_cons, List.foldl_nil, Act.put, List.setIfInBounds_toArray, List.set_cons_zero, List.set_cons_succ]
                      go_simp
                      exact hKq _ _ ⟨Pj.vset V 0 (.int .i64 p), by simp only [Pj.puts, List.foldl_cons, List.foldl_nil, Act.put, List.setIfInBounds_toArray, List.set_cons_zero, List.set_cons_succ, Pj.vset, Nat.reduceEqDiff, if_true, if_false], HJ.out.more HP.out hL (Kept.refl _) (rfl)⟩
                    | 1, ho =>
                      simp only [List.getElem?_toArray, List.getElem?_cons_zero, List.getElem?_cons_succ, Option.some.injEq] at ho
                      have e0 : V 0 = .int .i64 p := hJ.h 0 (hdep 0 (by rw [← ho]; kernel_rfl))
                      have hd7 := HP0.out
                      have HJ := Lib.hid hJ
                      clear hJ
                      subst ho
                      refine Pj.Step.free rfl ?_
                      simp only [Pj.puts, List.foldl_cons, List.foldl_nil, Act.put, List.setIfInBounds_toArray, List.set_cons_zero, List.set_cons_succ, e0]
                      go_simp
                      exact hKq _ _ ⟨Pj.vset V 1 (.bool false), by simp only [Pj.puts, List.foldl_cons, List.foldl_nil, Act.put, List.setIfInBounds_toArray, List.set_cons_zero, List.set_cons_succ, Pj.vset, Nat.reduceEqDiff, if_true, if_false, e0], HJ.out.more HP.out hL (Kept.refl _) (rfl)⟩
                    | 2, ho =>
                      simp only [List.getElem?_toArray, List.getElem?_cons_zero, List.getElem?_cons_succ, Option.some.injEq] at ho
                      have e1 : V 1 = .bool false := hJ.h 1 (hdep 1 (by rw [← ho]; kernel_rfl))
                      have HJ := Lib.hid hJ
                      clear hJ
                      subst ho
                      refine Pj.Step.free rfl ?_
                      simp only [Pj.puts, List.foldl_cons, List.foldl_nil, Act.put, List.setIfInBounds_toArray, List.set_cons_zero, List.set_cons_succ, e1]
                      go_simp
                      exact hKq _ _ ⟨Pj.vset V 2 (.bool false), by simp only [Pj.puts, List.foldl_cons, List.foldl_nil, Act.put, List.setIfInBounds_toArray, List.set_cons_zero, List.set_cons_succ, Pj.vset, Nat.reduceEqDiff, if_true, if_false, e1], HJ.out.more HP.out hL (Kept.refl _) (rfl)⟩
                    | 3, ho =>
                      simp only [List.getElem?_toArray, List.getElem?_cons_zero, List.getElem?_cons_succ, Option.some.injEq] at ho
                      have e2 : V 2 = .bool false := hJ.h 2 (hdep 2 (by rw [← ho]; kernel_rfl))
                      have HJ := Lib.hid hJ
                      clear hJ
                      subst ho
                      refine Pj.Step.at (g := 2) (b := false) rfl ?hy ?_
                      case hy =>
                        simp only [Pj.puts, List.foldl_cons, List.foldl_nil, Act.put, List.setIfInBounds_toArray, List.set_cons_zero, List.set_cons_succ, e2]
                        rfl
                      simp only [Pj.puts, List.foldl_cons, List.foldl_nil, Act.put, List.setIfInBounds_toArray, List.set_cons_zero, List.set_cons_succ, e2]
                      go_simp
                      exact hKq _ _ ⟨Pj.vset V 3 (.slice (some ⟨g8, 0, none⟩) Y.length cY), by simp only [Pj.puts, List.foldl_cons, List.foldl_nil, Act.put, List.setIfInBounds_toArray, List.set_cons_zero, List.set_cons_succ, Pj.vset, Nat.reduceEqDiff, if_true, if_false, e2], HJ.out.more HP.out hL (Kept.refl _) (rfl)⟩
                    | 4, ho =>
                      simp only [List.getElem?_toArray, List.getElem?_cons_zero, List.getElem?_cons_succ, Option.some.injEq] at ho
                      have e2 : V 2 = .bool false := hJ.h 2 (hdep 2 (by rw [← ho]; kernel_rfl))
                      have HJ := Lib.hid hJ
                      clear hJ
                      subst ho
                      refine Pj.Step.at (g := 2) (b := false) rfl ?hy ?_
                      case hy =>
                        simp only [Pj.puts, List.foldl_cons, List.foldl_nil, Act.put, List.setIfInBounds_toArray, List.set_cons_zero, List.set_cons_succ, e2]
                        rfl
                      simp only [Pj.puts, List.foldl_cons, List.foldl_nil, Act.put, List.setIfInBounds_toArray, List.set_cons_zero, List.set_cons_succ, e2]
                      go_simp
                      exact hKq _ _ ⟨Pj.vset V 4 (.slice (some ⟨g7, 0, none⟩) X.length cX), by simp only [Pj.puts, List.foldl_cons, List.foldl_nil, Act.put, List.setIfInBounds_toArray, List.set_cons_zero, List.set_cons_succ, Pj.vset, Nat.reduceEqDiff, if_true, if_false, e2], HJ.out.more HP.out hL (Kept.refl _) (rfl)⟩
                    | 5, ho =>
                      simp only [List.getElem?_toArray, List.getElem?_cons_zero, List.getElem?_cons_succ, Option.some.injEq] at ho
                      have e2 : V 2 = .bool false := hJ.h 2 (hdep 2 (by rw [← ho]; kernel_rfl))
                      have HJ := Lib.hid hJ
                      clear hJ
                      subst ho
                      refine Pj.Step.at (g := 2) (b := false) rfl ?hy ?_
                      case hy =>
                        simp only [Pj.puts, List.foldl_cons, List.foldl_nil, Act.put, List.setIfInBounds_toArray, List.set_cons_zero, List.set_cons_succ, e2]
                        rfl
                      simp only [Pj.puts, List.foldl_cons, List.foldl_nil, Act.put, List.setIfInBounds_toArray, List.set_cons_zero, List.set_cons_succ, e2]
                      go_simp
                      exact hKq _ _ ⟨Pj.vset V 5 (.int .i64 j), by simp only [Pj.puts, List.foldl_cons, List.foldl_nil, Act.put, List.setIfInBounds_toArray, List.set_cons_zero, List.set_cons_succ, Pj.vset, Nat.reduceEqDiff, if_true, if_false, e2], HJ.out.more HP.out hL (Kept.refl _) (rfl)⟩
                    | 6, ho =>
                      simp only [List.getElem?_toArray, List.getElem?_cons_zero, List.getElem?_cons_succ, Option.some.injEq] at ho
                      have e4 : V 4 = .slice (some ⟨g7, 0, none⟩) X.length cX := hJ.h 4 (hdep 4 (by rw [← ho]; kernel_rfl))
                      have e5 : V 5 = .int .i64 j := hJ.h 5 (hdep 5 (by rw [← ho]; kernel_rfl))
                      have e2 : V 2 = .bool false := hJ.h 2 (hdep 2 (by rw [← ho]; kernel_rfl))
                      have HJ := Lib.hid hJ
                      clear hJ
                      subst ho
                      refine Pj.Step.at (g := 2) (b := false) rfl ?hy ?_
                      case hy =>
                        simp only [Pj.puts, List.foldl_cons, List.foldl_nil, Act.put, List.setIfInBounds_toArray, List.set_cons_zero, List.set_cons_succ, e4, e5, e2]
                        rfl
                      simp only [Pj.puts, List.foldl_cons, List.foldl_nil, Act.put, List.setIfInBounds_toArray, List.set_cons_zero, List.set_cons_succ, e4, e5, e2]
                      go_simp
                      exact hKq _ _ ⟨Pj.vset V 6 (.pointer (some ⟨g7, j, none⟩)), by simp only [Pj.puts, List.foldl_cons, List.foldl_nil, Act.put, List.setIfInBounds_toArray, List.set_cons_zero, List.set_cons_succ, Pj.vset, Nat.reduceEqDiff, if_true, if_false, e4, e5, e2], HJ.out.more HP.out hL (Kept.refl _) (rfl)⟩
                    | 7, ho =>
                      simp only [List.getElem?_toArray, List.getElem?_cons_zero, List.getElem?_cons_succ, Option.some.injEq] at ho
                      have e6 : V 6 = .pointer (some ⟨g7, j, none⟩) := hJ.h 6 (hdep 6 (by rw [← ho]; kernel_rfl))
                      have e2 : V 2 = .bool false := hJ.h 2 (hdep 2 (by rw [← ho]; kernel_rfl))
                      have c9 := HCK.out _ hJ.kp
                      have HJ := Lib.hid hJ
                      clear hJ
                      subst ho
                      refine Pj.Step.at (g := 2) (b := false) rfl ?hy ?_
                      case hy =>
                        simp only [Pj.puts, List.foldl_cons, List.foldl_nil, Act.put, List.setIfInBounds_toArray, List.set_cons_zero, List.set_cons_succ, e6, e2]
                        rfl
                      simp only [Pj.puts, List.foldl_cons, List.foldl_nil, Act.put, List.setIfInBounds_toArray, List.set_cons_zero, List.set_cons_succ, e6, e2]
                      go_simp
                      exact hKq _ _ ⟨Pj.vset V 7 (.string d), by simp only [Pj.puts, List.foldl_cons, List.foldl_nil, Act.put, List.setIfInBounds_toArray, List.set_cons_zero, List.set_cons_succ, Pj.vset, Nat.reduceEqDiff, if_true, if_false, e6, e2], HJ.out.more HP.out hL (Kept.refl _) (rfl)⟩
                    | 8, ho =>
                      simp only [List.getElem?_toArray, List.getElem?_cons_zero, List.getElem?_cons_succ, Option.some.injEq] at ho
                      have e3 : V 3 = .slice (some ⟨g8, 0, none⟩) Y.length cY := hJ.h 3 (hdep 3 (by rw [← ho]; kernel_rfl))
                      have e7 : V 7 = .string d := hJ.h 7 (hdep 7 (by rw [← ho]; kernel_rfl))
                      have e2 : V 2 = .bool false := hJ.h 2 (hdep 2 (by rw [← ho]; kernel_rfl))
                      have hhs := HHS.out _ hJ.kp
                      have HJ := Lib.hid hJ
                      clear hJ
                      subst ho
                      refine Pj.Step.at (g := 2) (b := false) rfl ?hy ?_
                      case hy =>
                        simp only [Pj.puts, List.foldl_cons, List.foldl_nil, Act.put, List.setIfInBounds_toArray, List.set_cons_zero, List.set_cons_succ, e3, e7, e2]
                        rfl
                      simp only [Pj.puts, List.foldl_cons, List.foldl_nil, Act.put, List.setIfInBounds_toArray, List.set_cons_zero, List.set_cons_succ, e3, e7, e2]
                      go_simp
                      refine hhs.mono ?_
                      rintro e w' ⟨rfl, hk9⟩
                      exact hKq _ _ ⟨Pj.vset V 8 (.bool true), by simp only [Pj.puts, List.foldl_cons, List.foldl_nil, Act.put, List.setIfInBounds_toArray, List.set_cons_zero, List.set_cons_succ, Pj.vset, Nat.reduceEqDiff, if_true, if_false, e3, e7, e2], HJ.out.more HP.out hL (hk9) (rfl)⟩
                    | 9, ho =>
                      simp only [List.getElem?_toArray, List.getElem?_cons_zero, List.getElem?_cons_succ, Option.some.injEq] at ho
                      have e8 : V 8 = .bool true := hJ.h 8 (hdep 8 (by rw [← ho]; kernel_rfl))
                      have e2 : V 2 = .bool false := hJ.h 2 (hdep 2 (by rw [← ho]; kernel_rfl))
                      have HJ := Lib.hid hJ
                      clear hJ
                      subst ho
                      refine Pj.Step.at (g := 2) (b := false) rfl ?hy ?_
                      case hy =>
                        simp only [Pj.puts, List.foldl_cons, List.foldl_nil, Act.put, List.setIfInBounds_toArray, List.set_cons_zero, List.set_cons_succ, e8, e2]
                        rfl
                      simp only [Pj.puts, List.foldl_cons, List.foldl_nil, Act.put, List.setIfInBounds_toArray, List.set_cons_zero, List.set_cons_succ, e8, e2]
                      go_simp
                      exact hKq _ _ ⟨Pj.vset V 9 (.bool false), by simp only [Pj.puts, List.foldl_cons, List.foldl_nil, Act.put, List.setIfInBounds_toArray, List.set_cons_zero, List.set_cons_succ, Pj.vset, Nat.reduceEqDiff, if_true, if_false, e8, e2], HJ.out.more HP.out hL (Kept.refl _) (rfl)⟩
                    | 10, ho =>
                      simp only [List.getElem?_toArray, List.getElem?_cons_zero, List.getElem?_cons_succ, Option.some.injEq] at ho
                      have e2 : V 2 = .bool false := hJ.h 2 (hdep 2 (by rw [← ho]; kernel_rfl))
                      have e9 : V 9 = .bool false := hJ.h 9 (hdep 9 (by rw [← ho]; kernel_rfl))
                      have HJ := Lib.hid hJ
                      clear hJ
                      subst ho
                      refine Pj.Step.free rfl ?_
                      simp only [Pj.puts, List.foldl_cons, List.foldl_nil, Act.put, List.setIfInBounds_toArray, List.set_cons_zero, List.set_cons_succ, e2, e9]
                      go_simp
                      exact hKq _ _ ⟨Pj.vset V 10 (.bool false), by simp only [Pj.puts, List.foldl_cons, List.foldl_nil, Act.put, List.setIfInBounds_toArray, List.set_cons_zero, List.set_cons_succ, Pj.vset, Nat.reduceEqDiff, if_true, if_false, e2, e9], HJ.out.more HP.out hL (Kept.refl _) (rfl)⟩
                    | 11, ho =>
                      simp only [List.getElem?_toArray, List.getElem?_cons_zero, List.getElem?_cons_succ, Option.some.injEq] at ho
                      have e10 : V 10 = .bool false := hJ.h 10 (hdep 10 (by rw [← ho]; kernel_rfl))
                      have HJ := Lib.hid hJ
                      clear hJ
                      subst ho
                      refine Pj.Step.free rfl ?_
                      simp only [Pj.puts, List.foldl_cons, List.foldl_nil, Act.put, List.setIfInBounds_toArray, List.set_cons_zero, List.set_cons_succ, e10]
                      go_simp
                      exact hKq _ _ ⟨Pj.vset V 11 (.bool false), by simp only [Pj.puts, List.foldl_cons, List.foldl_nil, Act.put, List.setIfInBounds_toArray, List.set_cons_zero, List.set_cons_succ, Pj.vset, Nat.reduceEqDiff, if_true, if_false, e10], HJ.out.more HP.out hL (Kept.refl _) (rfl)⟩
                    | 12, ho =>
                      simp only [List.getElem?_toArray, List.getElem?_cons_zero, List.getElem?_cons_succ, Option.some.injEq] at ho
                      have e11 : V 11 = .bool false := hJ.h 11 (hdep 11 (by rw [← ho]; kernel_rfl))
                      have HJ := Lib.hid hJ
                      clear hJ
                      subst ho
                      refine Pj.Step.at (g := 11) (b := false) rfl ?hy ?_
                      case hy =>
                        simp only [Pj.puts, List.foldl_cons, List.foldl_nil, Act.put, List.setIfInBounds_toArray, List.set_cons_zero, List.set_cons_succ, e11]
                        rfl
                      simp only [Pj.puts, List.foldl_cons, List.foldl_nil, Act.put, List.setIfInBounds_toArray, List.set_cons_zero, List.set_cons_succ, e11]
                      go_simp
                      exact hKq _ _ ⟨Pj.vset V 12 (.int .i64 j), by simp only [Pj.puts, List.foldl_cons, List.foldl_nil, Act.put, List.setIfInBounds_toArray, List.set_cons_zero, List.set_cons_succ, Pj.vset, Nat.reduceEqDiff, if_true, if_false, e11], HJ.out.more HP.out hL (Kept.refl _) (rfl)⟩
                    | 13, ho =>
                      simp only [List.getElem?_toArray, List.getElem?_cons_zero, List.getElem?_cons_succ, Option.some.injEq] at ho
                      have e12 : V 12 = .int .i64 j := hJ.h 12 (hdep 12 (by rw [← ho]; kernel_rfl))
                      have e11 : V 11 = .bool false := hJ.h 11 (hdep 11 (by rw [← ho]; kernel_rfl))
                      have hd8 := HK00.out.1
                      have hd9 := HK00.out.2
                      have HJ := Lib.hid hJ
                      clear hJ
                      subst ho
                      refine Pj.Step.at (g := 11) (b := false) rfl ?hy ?_
                      case hy =>
                        simp only [Pj.puts, List.foldl_cons, List.foldl_nil, Act.put, List.setIfInBounds_toArray, List.set_cons_zero, List.set_cons_succ, e12, e11]
                        rfl
                      simp only [Pj.puts, List.foldl_cons, List.foldl_nil, Act.put, List.setIfInBounds_toArray, List.set_cons_zero, List.set_cons_succ, e12, e11]
                      go_simp
                      exact hKq _ _ ⟨Pj.vset V 13 (.bool true), by simp only [Pj.puts, List.foldl_cons, List.foldl_nil, Act.put, List.setIfInBounds_toArray, List.set_cons_zero, List.set_cons_succ, Pj.vset, Nat.reduceEqDiff, if_true, if_false, e12, e11], HJ.out.more HP.out hL (Kept.refl _) (rfl)⟩
                    | 14, ho =>
                      simp only [List.getElem?_toArray, List.getElem?_cons_zero, List.getElem?_cons_succ, Option.some.injEq] at ho
                      have e13 : V 13 = .bool true := hJ.h 13 (hdep 13 (by rw [← ho]; kernel_rfl))
                      have e11 : V 11 = .bool false := hJ.h 11 (hdep 11 (by rw [← ho]; kernel_rfl))
                      have HJ := Lib.hid hJ
                      clear hJ
                      subst ho
                      refine Pj.Step.at (g := 11) (b := false) rfl ?hy ?_
                      case hy =>
                        simp only [Pj.puts, List.foldl_cons, List.foldl_nil, Act.put, List.setIfInBounds_toArray, List.set_cons_zero, List.set_cons_succ, e13, e11]
                        rfl
                      simp only [Pj.puts, List.foldl_cons, List.foldl_nil, Act.put, List.setIfInBounds_toArray, List.set_cons_zero, List.set_cons_succ, e13, e11]
                      go_simp
                      exact hKq _ _ ⟨Pj.vset V 14 (.bool true), by simp only [Pj.puts, List.foldl_cons, List.foldl_nil, Act.put, List.setIfInBounds_toArray, List.set_cons_zero, List.set_cons_succ, Pj.vset, Nat.reduceEqDiff, if_true, if_false, e13, e11], HJ.out.more HP.out hL (Kept.refl _) (rfl)⟩
                    | 15, ho =>
                      simp only [List.getElem?_toArray, List.getElem?_cons_zero, List.getElem?_cons_succ, Option.some.injEq] at ho
                      have e14 : V 14 = .bool true := hJ.h 14 (hdep 14 (by rw [← ho]; kernel_rfl))
                      have HJ := Lib.hid hJ
                      clear hJ
                      subst ho
                      refine Pj.Step.at (g := 14) (b := true) rfl ?hy ?_
                      case hy =>
                        simp only [Pj.puts, List.foldl_cons, List.foldl_nil, Act.put, List.setIfInBounds_toArray, List.set_cons_zero, List.set_cons_succ, e14]
                        rfl
                      simp only [Pj.puts, List.foldl_cons, List.foldl_nil, Act.put, List.setIfInBounds_toArray, List.set_cons_zero, List.set_cons_succ, e14]
                      go_simp
                      exact hKq _ _ ⟨Pj.vset V 15 (.slice (some ⟨g7, 0, none⟩) X.length cX), by simp only [Pj.puts, List.foldl_cons, List.foldl_nil, Act.put, List.setIfInBounds_toArray, List.set_cons_zero, List.set_cons_succ, Pj.vset, Nat.reduceEqDiff, if_true, if_false, e14], HJ.out.more HP.out hL (Kept.refl _) (rfl)⟩
                    | 16, ho =>
                      simp only [List.getElem?_toArray, List.getElem?_cons_zero, List.getElem?_cons_succ, Option.some.injEq] at ho
                      have e14 : V 14 = .bool true := hJ.h 14 (hdep 14 (by rw [← ho]; kernel_rfl))
                      have HJ := Lib.hid hJ
                      clear hJ
                      subst ho
                      refine Pj.Step.at (g := 14) (b := true) rfl ?hy ?_
                      case hy =>
                        simp only [Pj.puts, List.foldl_cons, List.foldl_nil, Act.put, List.setIfInBounds_toArray, List.set_cons_zero, List.set_cons_succ, e14]
                        rfl
                      simp only [Pj.puts, List.foldl_cons, List.foldl_nil, Act.put, List.setIfInBounds_toArray, List.set_cons_zero, List.set_cons_succ, e14]
                      go_simp
                      exact hKq _ _ ⟨Pj.vset V 16 (.int .i64 j), by simp only [Pj.puts, List.foldl_cons, List.foldl_nil, Act.put, List.setIfInBounds_toArray, List.set_cons_zero, List.set_cons_succ, Pj.vset, Nat.reduceEqDiff, if_true, if_false, e14], HJ.out.more HP.out hL (Kept.refl _) (rfl)⟩
                    | 17, ho =>
                      simp only [List.getElem?_toArray, List.getElem?_cons_zero, List.getElem?_cons_succ, Option.some.injEq] at ho
                      have e16 : V 16 = .int .i64 j := hJ.h 16 (hdep 16 (by rw [← ho]; kernel_rfl))
                      have e14 : V 14 = .bool true := hJ.h 14 (hdep 14 (by rw [← ho]; kernel_rfl))
                      have hkm := HKM.out
                      have HJ := Lib.hid hJ
                      clear hJ
                      subst ho
                      refine Pj.Step.at (g := 14) (b := true) rfl ?hy ?_
                      case hy =>
                        simp only [Pj.puts, List.foldl_cons, List.foldl_nil, Act.put, List.setIfInBounds_toArray, List.set_cons_zero, List.set_cons_succ, e16, e14]
                        rfl
                      simp only [Pj.puts, List.foldl_cons, List.foldl_nil, Act.put, List.setIfInBounds_toArray, List.set_cons_zero, List.set_cons_succ, e16, e14]
                      go_simp
                      exact hKq _ _ ⟨Pj.vset V 17 (.int .i64 m), by simp only [Pj.puts, List.foldl_cons, List.foldl_nil, Act.put, List.setIfInBounds_toArray, List.set_cons_zero, List.set_cons_succ, Pj.vset, Nat.reduceEqDiff, if_true, if_false, e16, e14], HJ.out.more HP.out hL (Kept.refl _) (rfl)⟩
                    | 18, ho =>
                      simp only [List.getElem?_toArray, List.getElem?_cons_zero, List.getElem?_cons_succ, Option.some.injEq] at ho
                      have e15 : V 15 = .slice (some ⟨g7, 0, none⟩) X.length cX := hJ.h 15 (hdep 15 (by rw [← ho]; kernel_rfl))
                      have e17 : V 17 = .int .i64 m := hJ.h 17 (hdep 17 (by rw [← ho]; kernel_rfl))
                      have e14 : V 14 = .bool true := hJ.h 14 (hdep 14 (by rw [← ho]; kernel_rfl))
                      have HJ := Lib.hid hJ
                      clear hJ
                      subst ho
                      refine Pj.Step.at (g := 14) (b := true) rfl ?hy ?_
                      case hy =>
                        simp only [Pj.puts, List.foldl_cons, List.foldl_nil, Act.put, List.setIfInBounds_toArray, List.set_cons_zero, List.set_cons_succ, e15, e17, e14]
                        rfl
                      simp only [Pj.puts, List.foldl_cons, List.foldl_nil, Act.put, List.setIfInBounds_toArray, List.set_cons_zero, List.set_cons_succ, e15, e17, e14]
                      go_simp
                      exact hKq _ _ ⟨Pj.vset V 18 (.pointer (some ⟨g7, m, none⟩)), by simp only [Pj.puts, List.foldl_cons, List.foldl_nil, Act.put, List.setIfInBounds_toArray, List.set_cons_zero, List.set_cons_succ, Pj.vset, Nat.reduceEqDiff, if_true, if_false, e15, e17, e14], HJ.out.more HP.out hL (Kept.refl _) (rfl)⟩
                    | 19, ho =>
                      simp only [List.getElem?_toArray, List.getElem?_cons_zero, List.getElem?_cons_succ, Option.some.injEq] at ho
                      have e18 : V 18 = .pointer (some ⟨g7, m, none⟩) := hJ.h 18 (hdep 18 (by rw [← ho]; kernel_rfl))
                      have e14 : V 14 = .bool true := hJ.h 14 (hdep 14 (by rw [← ho]; kernel_rfl))
                      have c9 := HCJ.out _ hJ.kp
                      have HJ := Lib.hid hJ
                      clear hJ
                      subst ho
                      refine Pj.Step.at (g := 14) (b := true) rfl ?hy ?_
                      case hy =>
                        simp only [Pj.puts, List.foldl_cons, List.foldl_nil, Act.put, List.setIfInBounds_toArray, List.set_cons_zero, List.set_cons_succ, e18, e14]
                        rfl
                      simp only [Pj.puts, List.foldl_cons, List.foldl_nil, Act.put, List.setIfInBounds_toArray, List.set_cons_zero, List.set_cons_succ, e18, e14]
                      go_simp
                      exact hKq _ _ ⟨Pj.vset V 19 (.string d0), by simp only [Pj.puts, List.foldl_cons, List.foldl_nil, Act.put, List.setIfInBounds_toArray, List.set_cons_zero, List.set_cons_succ, Pj.vset, Nat.reduceEqDiff, if_true, if_false, e18, e14], HJ.out.more HP.out hL (Kept.refl _) (rfl)⟩
                    | 20, ho =>
                      simp only [List.getElem?_toArray, List.getElem?_cons_zero, List.getElem?_cons_succ, Option.some.injEq] at ho
                      have e14 : V 14 = .bool true := hJ.h 14 (hdep 14 (by rw [← ho]; kernel_rfl))
                      have HJ := Lib.hid hJ
                      clear hJ
                      subst ho
                      refine Pj.Step.at (g := 14) (b := true) rfl ?hy ?_
                      case hy =>
                        simp only [Pj.puts, List.foldl_cons, List.foldl_nil, Act.put, List.setIfInBounds_toArray, List.set_cons_zero, List.set_cons_succ, e14]
                        rfl
                      simp only [Pj.puts, List.foldl_cons, List.foldl_nil, Act.put, List.setIfInBounds_toArray, List.set_cons_zero, List.set_cons_succ, e14]
                      go_simp
                      exact hKq _ _ ⟨Pj.vset V 20 (.slice (some ⟨g7, 0, none⟩) X.length cX), by simp only [Pj.puts, List.foldl_cons, List.foldl_nil, Act.put, List.setIfInBounds_toArray, List.set_cons_zero, List.set_cons_succ, Pj.vset, Nat.reduceEqDiff, if_true, if_false, e14], HJ.out.more HP.out hL (Kept.refl _) (rfl)⟩
                    | 21, ho =>
                      simp only [List.getElem?_toArray, List.getElem?_cons_zero, List.getElem?_cons_succ, Option.some.injEq] at ho
                      have e14 : V 14 = .bool true := hJ.h 14 (hdep 14 (by rw [← ho]; kernel_rfl))
                      have HJ := Lib.hid hJ
                      clear hJ
                      subst ho
                      refine Pj.Step.at (g := 14) (b := true) rfl ?hy ?_
                      case hy =>
                        simp only [Pj.puts, List.foldl_cons, List.foldl_nil, Act.put, List.setIfInBounds_toArray, List.set_cons_zero, List.set_cons_succ, e14]
                        rfl
                      simp only [Pj.puts, List.foldl_cons, List.foldl_nil, Act.put, List.setIfInBounds_toArray, List.set_cons_zero, List.set_cons_succ, e14]
                      go_simp
                      exact hKq _ _ ⟨Pj.vset V 21 (.int .i64 j), by simp only [Pj.puts, List.foldl_cons, List.foldl_nil, Act.put, List.setIfInBounds_toArray, List.set_cons_zero, List.set_cons_succ, Pj.vset, Nat.reduceEqDiff, if_true, if_false, e14], HJ.out.more HP.out hL (Kept.refl _) (rfl)⟩
                    | 22, ho =>
                      simp only [List.getElem?_toArray, List.getElem?_cons_zero, List.getElem?_cons_succ, Option.some.injEq] at ho
                      have e20 : V 20 = .slice (some ⟨g7, 0, none⟩) X.length cX := hJ.h 20 (hdep 20 (by rw [← ho]; kernel_rfl))
                      have e21 : V 21 = .int .i64 j := hJ.h 21 (hdep 21 (by rw [← ho]; kernel_rfl))
                      have e14 : V 14 = .bool true := hJ.h 14 (hdep 14 (by rw [← ho]; kernel_rfl))
                      have HJ := Lib.hid hJ
                      clear hJ
                      subst ho
                      refine Pj.Step.at (g := 14) (b := true) rfl ?hy ?_
                      case hy =>
                        simp only [Pj.puts, List.foldl_cons, List.foldl_nil, Act.put, List.setIfInBounds_toArray, List.set_cons_zero, List.set_cons_succ, e20, e21, e14]
                        rfl
                      simp only [Pj.puts, List.foldl_cons, List.foldl_nil, Act.put, List.setIfInBounds_toArray, List.set_cons_zero, List.set_cons_succ, e20, e21, e14]
                      go_simp
                      exact hKq _ _ ⟨Pj.vset V 22 (.pointer (some ⟨g7, j, none⟩)), by simp only [Pj.puts, List.foldl_cons, List.foldl_nil, Act.put, List.setIfInBounds_toArray, List.set_cons_zero, List.set_cons_succ, Pj.vset, Nat.reduceEqDiff, if_true, if_false, e20, e21, e14], HJ.out.more HP.out hL (Kept.refl _) (rfl)⟩
                    | 23, ho =>
                      simp only [List.getElem?_toArray, List.getElem?_cons_zero, List.getElem?_cons_succ, Option.some.injEq] at ho
                      have e22 : V 22 = .pointer (some ⟨g7, j, none⟩) := hJ.h 22 (hdep 22 (by rw [← ho]; kernel_rfl))
                      have e14 : V 14 = .bool true := hJ.h 14 (hdep 14 (by rw [← ho]; kernel_rfl))
                      have c9 := HCK.out _ hJ.kp
                      have HJ := Lib.hid hJ
                      clear hJ
                      subst ho
                      refine Pj.Step.at (g := 14) (b := true) rfl ?hy ?_
                      case hy =>
                        simp only [Pj.puts, List.foldl_cons, List.foldl_nil, Act.put, List.setIfInBounds_toArray, List.set_cons_zero, List.set_cons_succ, e22, e14]
                        rfl
                      simp only [Pj.puts, List.foldl_cons, List.foldl_nil, Act.put, List.setIfInBounds_toArray, List.set_cons_zero, List.set_cons_succ, e22, e14]
                      go_simp
                      exact hKq _ _ ⟨Pj.vset V 23 (.string d), by simp only [Pj.puts, List.foldl_cons, List.foldl_nil, Act.put, List.setIfInBounds_toArray, List.set_cons_zero, List.set_cons_succ, Pj.vset, Nat.reduceEqDiff, if_true, if_false, e22, e14], HJ.out.more HP.out hL (Kept.refl _) (rfl)⟩
                    | 24, ho =>
                      simp only [List.getElem?_toArray, List.getElem?_cons_zero, List.getElem?_cons_succ, Option.some.injEq] at ho
                      have e19 : V 19 = .string d0 := hJ.h 19 (hdep 19 (by rw [← ho]; kernel_rfl))
                      have e23 : V 23 = .string d := hJ.h 23 (hdep 23 (by rw [← ho]; kernel_rfl))
                      have e14 : V 14 = .bool true := hJ.h 14 (hdep 14 (by rw [← ho]; kernel_rfl))
                      have hop := run_geq HGE.out
                      have HJ := Lib.hid hJ
                      clear hJ
                      subst ho
                      refine Pj.Step.at (g := 14) (b := true) rfl ?hy ?_
                      case hy =>
                        simp only [Pj.puts, List.foldl_cons, List.foldl_nil, Act.put, List.setIfInBounds_toArray, List.set_cons_zero, List.set_cons_succ, e19, e23, e14]
                        rfl
                      simp only [Pj.puts, List.foldl_cons, List.foldl_nil, Act.put, List.setIfInBounds_toArray, List.set_cons_zero, List.set_cons_succ, e19, e23, e14]
                      go_simp
                      exact hKq _ _ ⟨Pj.vset V 24 (.bool false), by simp only [Pj.puts, List.foldl_cons, List.foldl_nil, Act.put, List.setIfInBounds_toArray, List.set_cons_zero, List.set_cons_succ, Pj.vset, Nat.reduceEqDiff, if_true, if_false, e19, e23, e14], HJ.out.more HP.out hL (Kept.refl _) (rfl)⟩
                    | 25, ho =>
                      simp only [List.getElem?_toArray, List.getElem?_cons_zero, List.getElem?_cons_succ, Option.some.injEq] at ho
                      have e14 : V 14 = .bool true := hJ.h 14 (hdep 14 (by rw [← ho]; kernel_rfl))
                      have e24 : V 24 = .bool false := hJ.h 24 (hdep 24 (by rw [← ho]; kernel_rfl))
                      have e11 : V 11 = .bool false := hJ.h 11 (hdep 11 (by rw [← ho]; kernel_rfl))
                      have HJ := Lib.hid hJ
                      clear hJ
                      subst ho
                      refine Pj.Step.at (g := 11) (b := false) rfl ?hy ?_
                      case hy =>
                        simp only [Pj.puts, List.foldl_cons, List.foldl_nil, Act.put, List.setIfInBounds_toArray, List.set_cons_zero, List.set_cons_succ, e14, e24, e11]
                        rfl
                      simp only [Pj.puts, List.foldl_cons, List.foldl_nil, Act.put, List.setIfInBounds_toArray, List.set_cons_zero, List.set_cons_succ, e14, e24, e11]
                      go_simp
                      exact hKq _ _ ⟨Pj.vset V 25 (.bool false), by simp only [Pj.puts, List.foldl_cons, List.foldl_nil, Act.put, List.setIfInBounds_toArray, List.set_cons_zero, List.set_cons_succ, Pj.vset, Nat.reduceEqDiff, if_true, if_false, e14, e24, e11], HJ.out.more HP.out hL (Kept.refl _) (rfl)⟩
                    | 26, ho =>
                      simp only [List.getElem?_toArray, List.getElem?_cons_zero, List.getElem?_cons_succ, Option.some.injEq] at ho
                      have e11 : V 11 = .bool false := hJ.h 11 (hdep 11 (by rw [← ho]; kernel_rfl))
                      have e25 : V 25 = .bool false := hJ.h 25 (hdep 25 (by rw [← ho]; kernel_rfl))
                      have HJ := Lib.hid hJ
                      clear hJ
                      subst ho
                      refine Pj.Step.free rfl ?_
                      simp only [Pj.puts, List.foldl_cons, List.foldl_nil, Act.put, List.setIfInBounds_toArray, List.set_cons_zero, List.set_cons_succ, e11, e25]
                      go_simp
                      exact hKq _ _ ⟨Pj.vset V 26 (.bool false), by simp only [Pj.puts, List.foldl_cons, List.foldl_nil, Act.put, List.setIfInBounds_toArray, List.set_cons_zero, List.set_cons_succ, Pj.vset, Nat.reduceEqDiff, if_true, if_false, e11, e25], HJ.out.more HP.out hL (Kept.refl _) (rfl)⟩
                    | n + 27, ho => simp at ho
                  case ehe =>
                    rintro L az w ⟨V, rfl, hJ⟩ hall
                    have e26 : V 26 = .bool false := hJ.h 26 (hall 26 (by decide))
                    have HKj := Lib.hid hJ.kp
                    clear hJ hall
                    simp only [Pj.puts, List.foldl_cons, List.foldl_nil, Act.put, List.setIfInBounds_toArray, List.set_cons_zero, List.set_cons_succ, e26]
                    clear e26
                    go_wp2_with fail
                    go_meet
                    exact ⟨rfl, HKj.out⟩
              case rest =>
                obtain ⟨rfl, hkx⟩ := hcut
                rename World => wx
                have HKL := Lib.hid (HKS.out.trans (HKK.out.trans hkx))
                have HTX := Lib.hid (HTW.out.kept (HKK.out.trans hkx))
                have HXX := Lib.hid (HXA.out.kept HKL.out)
                have hpl := HPL.out
                obtain ⟨c0, c1, c2⟩ := HCT.out _ (HKK.out.trans hkx)
                obtain ⟨x, hx⟩ : ∃ x, x = ts.getD p th00 := ⟨_, rfl⟩
                rw [← hx] at c0 c1 c2 HNM
                have hdp : decide (p < la) = true := decide_eq_true hpl
                obtain ⟨xd, xt, xm⟩ := x
                dsimp only at c0 c1 c2
                clear hx hkx HHS HHY HCK HCK0 HCJ0 HLTJ HARM
                go_wp2_with fail
                have HRN := Lib.hid (rnamed_any ⟨xd, xt, xm⟩ wx)
                generalize nmF ⟨xd, xt, xm⟩ = NL at *
                refine HRN.out.mono ?_
                rintro e wl ⟨an, cn, rfl, hsn, hk⟩
                have HSN := Lib.hid hsn
                have hnle := hsn.le
                have HKN := Lib.hid hk
                clear hsn hk HRN c0 c1 c2 hdp
                go_wp2_with fail
                go_loopw [16] (fun kv wq => ∃ q : Nat, q ≤ NL.length ∧ kv = .int .i64 q ∧ Kept wl wq) (fun kv _ => NL.length - (intOf kv).toNat)
                case atStart => exact ⟨0, by omega, rfl, Kept.refl _⟩
                case round =>
                  rename World => wq
                  obtain ⟨q, hq, rfl, hkq⟩ := hrel
                  have HKQ := Lib.hid hkq
                  clear hkq
                  by_cases hql : q < NL.length
                  · have hd4 : decide (q < NL.length) = true := decide_eq_true hql
                    have hd2m : NL.getD q ByteArray.empty ∈ NL := by simp [List.getD, hql]
                    obtain ⟨bn, on, rfl, hcn⟩ := HSN.out.at (by omega)
                    have HCN := Lib.hid (hcn q hql)
                    generalize NL.getD q ByteArray.empty = d2 at *
                    have hn0 : atZ ts d2 < 0 ∨ (¬ atZ ts d2 < 0 ∧ hasB d2 X = true) := by
                      by_cases h : atZ ts d2 < 0
                      · exact .inl h
                      · exact .inr ⟨h, hasB_iff.2 (HNM.out d2 hd2m (by omega))⟩
                    have HRA := Lib.hid (rat_any _ la cx ts d2 wq (HTX.out.kept (HKN.out.trans HKQ.out)))
                    generalize atZ ts d2 = z at *
                    have HN0 := Lib.hid hn0
                    have c0 := HCN.out wq HKQ.out
                    clear hn0 hd2m hcn
                    go_wp2_with fail
                    refine HRA.out.mono ?_
                    rintro e wm ⟨rfl, hk⟩
                    have HKM := Lib.hid (HKQ.out.trans hk)
                    clear hk HRA c0
                    rcases HN0.out with hz | ⟨hz, hh⟩
                    · have hd5 : decide (0 ≤ z) = false := decide_eq_false (by omega)
                      have hd6 : decide (z ≥ 0) = false := decide_eq_false (by omega)
                      go_wp2_with fail
                      go_roundw
                      case rel => exact ⟨q + 1, by omega, by go_num, HKM.out⟩
                      case measure => simp [intOf]; omega
                    · have hd5 : decide (0 ≤ z) = true := decide_eq_true (by omega)
                      have hd6 : decide (z ≥ 0) = true := decide_eq_true (by omega)
                      have HHX := Lib.hid (has_any (some ⟨g7, 0, none⟩) X.length cX X d2 wm (HXX.out.kept (HKN.out.trans HKM.out)))
                      rw [hh] at HHX
                      have c0 := HCN.out wm HKM.out
                      clear hh
                      go_wp2_with fail
                      refine HHX.out.mono ?_
                      rintro e wp ⟨rfl, hk⟩
                      have HKP := Lib.hid (HKM.out.trans hk)
                      clear hk HHX c0
                      go_wp2_with fail
                      go_roundw
                      case rel => exact ⟨q + 1, by omega, by go_num, HKP.out⟩
                      case measure => simp [intOf]; omega
                  · obtain rfl : q = NL.length := by omega
                    have hd4 : decide (NL.length < NL.length) = false := decide_eq_false (by omega)
                    go_wp2_with fail
                    go_roundw
                    case rel => exact ⟨j + 1, by omega, by go_num, HKL.out.trans (HKN.out.trans HKQ.out)⟩
                    case measure => simp [intOf]; omega
            · obtain rfl : j = X.length := by omega
              have hd3 : decide (X.length < X.length) = false := decide_eq_false (by omega)
              go_wp2_with fail
              go_roundw
              case rel => exact ⟨k + 1, by omega, by go_num, HKR.out.trans (HKA.out.trans HKS.out)⟩
              case measure => simp [intOf]; omega
    · have hdx : (decide (k < lm) = false ∧ ¬ k < lm) ∨ (decide (k < lm) = true ∧ decide (k < 6) = false ∧ decide ((k : Int) < 6) = false ∧ k < lm ∧ ¬ k < 6) := by
        by_cases h : k < lm
        · exact .inr ⟨decide_eq_true h, decide_eq_false (by omega), decide_eq_false (by omega), h, by omega⟩
        · exact .inl ⟨decide_eq_false h, h⟩
      clear hend
      rcases hdx with ⟨hd1, hd1n⟩ | ⟨hd1, hd2, hd3, hd4, hd5⟩
      all_goals
        go_wp2_with fail
        refine (wakes21_any _).mono ?_
        rintro e w9 ⟨rfl, hk⟩
        have HK9 := Lib.hid (HK0.out.trans (HKR.out.trans hk))
        clear hk
        go_wp2
        go_ret
        exact ⟨rfl, HK9.out⟩
end Go.Proofs.Ytdllenoclnmmdaa
