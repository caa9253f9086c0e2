/- The walk of the law SpanEnds: it answers true and changes nothing that was there (no conditions). -/
import Derived.Test.YtlncjheifkbomaaSpnH
import Derived.Test.YtlncjheifkbomaaRl9
import Derived.Test.YtlncjheifkbomaaSt
namespace Go.Proofs.Ytlncjheifkbomaa
open Go.RowKit

theorem within_b (x : Int) (n : Nat) (hn : 1 ≤ n ∧ n ≤ 1000) : ∃ y : Nat, y < n ∧ ∀ w, Calls Try.prog 28 #[.int .i64 x, .int .i64 (n : Int)] w fun e w' => e = .returned (.int .i64 (y : Int)) ∧ w = w' :=
  ⟨wthn x n, wthn_lt x (by omega), fun w => within_ref x n (by omega) w⟩
set_option maxRecDepth 100000 in
set_option maxHeartbeats 8000000 in
theorem span_ends (ax : Option Addr) (ls cs : Nat) (al : Option Addr) (ll cl : Nat) (ss : List ByteArray) (ab : Option Addr) (lb cb : Nat) (n0 za zb : Int) (ap : Option Addr) (lp cp : Nat) (ps : List (Int × Int × Int)) (W : World) (h : AskQ W ax ls cs al ll cl ss n0 za zb ap lp cp ps) :
    Calls Try.prog 10 #[.agg #[.slice ax ls cs, .slice al ll cl, .slice ab lb cb, .int .i64 n0, .int .i64 za, .int .i64 zb, .slice ap lp cp]] W fun e W' => e = .returned (.bool true) ∧ Below W.heap.size W W' := by
  have HA := Lib.hid h
  clear h
  have HK1 := Lib.hid ((Kept.refl W).alloc (.cells #[.slice ax ls cs, .slice al ll cl, .slice ab lb cb, .int .i64 n0, .int .i64 za, .int .i64 zb, .slice ap lp cp] 58))
  have hB1 := BlockAt.new W #[.slice ax ls cs, .slice al ll cl, .slice ab lb cb, .int .i64 n0, .int .i64 za, .int .i64 zb, .slice ap lp cp] 58
  go_enter Try.func10, Try.ntmps10
  go_upto_region 1 with (fail)
  generalize W.alloc (.cells #[.slice ax ls cs, .slice al ll cl, .slice ab lb cb, .int .i64 n0, .int .i64 za, .int .i64 zb, .slice ap lp cp] 58) = w1 at *
  have HREAD := Lib.hid (fun w (kk : Kept w1 w) => box7 (hB1.kept kk))
  clear hB1
  generalize W.heap.size = p0 at HREAD ⊢
  obtain ⟨r0, r1, r2, r3, r4, r5, r6⟩ := HREAD.out _ (Kept.refl _)
  go_wp2_with fail
  refine (heavy8_any ax ls cs al ll cl ss ab lb cb n0 za zb ap lp cp _ (HA.out.c.kept HK1.out)).mono ?_
  rintro e w2 ⟨he, hk2⟩
  have HK2 := Lib.hid hk2
  clear hk2 r0 r1 r2 r3 r4 r5 r6
  rcases he with rfl | ⟨rfl, ⟨hll, hls, hsz⟩, hlp⟩
  · go_wp2
    go_ret
    exact ⟨rfl, HK1.out.trans HK2.out⟩
  · clear hsz hll hls hlp
    obtain ⟨k1, hk3, hw1⟩ := within_b za 3 (by omega)
    obtain ⟨s1, hs3, hw2⟩ := within_b zb 3 (by omega)
    obtain ⟨n, hn25, hw3⟩ := within_b n0 25 (by omega)
    have HW1 := Lib.hid hw1
    have HW2 := Lib.hid hw2
    have HW3 := Lib.hid hw3
    clear hw1 hw2 hw3
    obtain ⟨kn, hkn⟩ : ∃ kn : Nat, kn = 1 + k1 := ⟨_, rfl⟩
    obtain ⟨sn, hsn⟩ : ∃ sn : Nat, sn = 1 + s1 := ⟨_, rfl⟩
    have e1 : (1 : Int) + (k1 : Int) = (kn : Int) := by omega
    have e2 : (1 : Int) + (s1 : Int) = (sn : Int) := by omega
    have e1w : IntKind.i64.wrap (kn : Int) = (kn : Int) := IntWalk.i64_in _ (by omega)
    have e2w : IntKind.i64.wrap (sn : Int) = (sn : Int) := IntWalk.i64_in _ (by omega)
    have hkb : 1 ≤ kn ∧ kn ≤ 3 := by omega
    have hsb : 1 ≤ sn ∧ sn ≤ 3 := by omega
    clear hkn hsn
    go_wp2_with fail
    refine Pj.wp_region_step (fun a0 L a w => ∃ V : Nat → Value, a = Pj.puts [(11, 0), (12, 1), (13, 2), (14, 3), (15, 4), (16, 5), (17, 6), (18, 7), (19, 8), (3, 9)] V a0 ∧ Pj.JS w2 [Pj.Is (.pointer (some ⟨p0, 4, none⟩)), Pj.Is (.int .i64 za), Pj.Is (.int .i64 (k1 : Int)), Pj.Is (.int .i64 (kn : Int)), Pj.Is (.pointer (some ⟨p0, 5, none⟩)), Pj.Is (.int .i64 zb), Pj.Is (.int .i64 (s1 : Int)), Pj.Is (.int .i64 (sn : Int)), Pj.Is (.agg #[.int .i64 (kn : Int), .int .i64 0, .int .i64 (sn : Int)]), Pj.Ptr w2, (fun _ _ => True)] 9 10 #[.int .i64 0, .int .i64 0, .int .i64 0] #[.int .i64 (kn : Int), .int .i64 0, .int .i64 (sn : Int)] 31 L V w) (by as_aux_lemma => kernel_rfl) (by as_aux_lemma => kernel_rfl) ?eh0 ?ehs ?ehe
    case eh0 =>
      intro L hL
      exact ⟨_, Pj.puts_self _ (fun j => ([11, 12, 13, 14, 15, 16, 17, 18, 19, 3, 0] : List Nat).getD j 0) [0, 1, 2, 3, 4, 5, 6, 7, 8, 9], Pj.JS.start (n := 11) (Nat.le_refl _) (by decide) (by decide) hL ((Kept.refl _).drew)⟩
    case ehs =>
      rintro L L' a w i op K ⟨V, rfl, hJ⟩ ho hopen hdep hL hK
      have hP : Pj.AllFlat [Pj.Is (.pointer (some ⟨p0, 4, none⟩)), Pj.Is (.int .i64 za), Pj.Is (.int .i64 (k1 : Int)), Pj.Is (.int .i64 (kn : Int)), Pj.Is (.pointer (some ⟨p0, 5, none⟩)), Pj.Is (.int .i64 zb), Pj.Is (.int .i64 (s1 : Int)), Pj.Is (.int .i64 (sn : Int)), Pj.Is (.agg #[.int .i64 (kn : Int), .int .i64 0, .int .i64 (sn : Int)]), Pj.Ptr w2, (fun _ _ => True)] := ⟨Pj.Is.flat _, Pj.Is.flat _, Pj.Is.flat _, Pj.Is.flat _, Pj.Is.flat _, Pj.Is.flat _, Pj.Is.flat _, Pj.Is.flat _, Pj.Is.flat _, Pj.Ptr.flat _, (fun _ _ _ _ _ => trivial), trivial⟩
      have HP := Lib.hid hP
      clear hP
      match i, ho with
      | 0, ho =>
        simp only [List.getElem?_toArray, List.getElem?_cons_zero, Option.some.injEq] at ho
        have HJ := Lib.hid hJ
        clear hJ
        subst ho
        refine Pj.Step.free rfl ?_
        simp only [Pj.puts, List.foldl_cons, List.foldl_nil, Act.put, List.setIfInBounds_toArray, List.set_cons_zero, List.set_cons_succ]
        go_simp
        exact hK _ _ ⟨Pj.vset V 0 (.pointer (some ⟨p0, 4, none⟩)), by simp only [Pj.puts, List.foldl_cons, List.foldl_nil, Act.put, List.setIfInBounds_toArray, List.set_cons_zero, List.set_cons_succ, Pj.vset, Nat.reduceEqDiff, if_true, if_false], HJ.out.more HP.out (by decide) (by decide) hL (Kept.refl _) (rfl)⟩
      | 1, ho =>
        simp only [List.getElem?_toArray, List.getElem?_cons_zero, List.getElem?_cons_succ, Option.some.injEq] at ho
        have e0 : V 0 = .pointer (some ⟨p0, 4, none⟩) := hJ.h 0 (hdep 0 (by rw [← ho]; kernel_rfl))
        obtain ⟨r0, r1, r2, r3, r4, r5, r6⟩ := HREAD.out _ (HK2.out.trans hJ.kp)
        have HJ := Lib.hid hJ
        clear hJ
        subst ho
        refine Pj.Step.free rfl ?_
        simp only [Pj.puts, List.foldl_cons, List.foldl_nil, Act.put, List.setIfInBounds_toArray, List.set_cons_zero, List.set_cons_succ, e0]
        go_simp
        exact hK _ _ ⟨Pj.vset V 1 (.int .i64 za), by simp only [Pj.puts, List.foldl_cons, List.foldl_nil, Act.put, List.setIfInBounds_toArray, List.set_cons_zero, List.set_cons_succ, Pj.vset, Nat.reduceEqDiff, if_true, if_false, e0], HJ.out.more HP.out (by decide) (by decide) hL (Kept.refl _) (rfl)⟩
      | 2, ho =>
        simp only [List.getElem?_toArray, List.getElem?_cons_zero, List.getElem?_cons_succ, Option.some.injEq] at ho
        have e1 : V 1 = .int .i64 za := hJ.h 1 (hdep 1 (by rw [← ho]; kernel_rfl))
        have HJ := Lib.hid hJ
        clear hJ
        subst ho
        refine Pj.Step.free rfl ?_
        simp only [Pj.puts, List.foldl_cons, List.foldl_nil, Act.put, List.setIfInBounds_toArray, List.set_cons_zero, List.set_cons_succ, e1]
        go_simp
        refine (HW1.out _).mono ?_
        rintro e u ⟨rfl, rfl⟩
        exact hK _ _ ⟨Pj.vset V 2 (.int .i64 (k1 : Int)), by simp only [Pj.puts, List.foldl_cons, List.foldl_nil, Act.put, List.setIfInBounds_toArray, List.set_cons_zero, List.set_cons_succ, Pj.vset, Nat.reduceEqDiff, if_true, if_false, e1], HJ.out.more HP.out (by decide) (by decide) hL (Kept.refl _) (rfl)⟩
      | 3, ho =>
        simp only [List.getElem?_toArray, List.getElem?_cons_zero, List.getElem?_cons_succ, Option.some.injEq] at ho
        have e2 : V 2 = .int .i64 (k1 : Int) := hJ.h 2 (hdep 2 (by rw [← ho]; kernel_rfl))
        have HJ := Lib.hid hJ
        clear hJ
        subst ho
        refine Pj.Step.free rfl ?_
        simp only [Pj.puts, List.foldl_cons, List.foldl_nil, Act.put, List.setIfInBounds_toArray, List.set_cons_zero, List.set_cons_succ, e2]
        go_simp
        exact hK _ _ ⟨Pj.vset V 3 (.int .i64 (kn : Int)), by simp only [Pj.puts, List.foldl_cons, List.foldl_nil, Act.put, List.setIfInBounds_toArray, List.set_cons_zero, List.set_cons_succ, Pj.vset, Nat.reduceEqDiff, if_true, if_false, e2], HJ.out.more HP.out (by decide) (by decide) hL (Kept.refl _) (rfl)⟩
      | 4, ho =>
        simp only [List.getElem?_toArray, List.getElem?_cons_zero, List.getElem?_cons_succ, Option.some.injEq] at ho
        have HJ := Lib.hid hJ
        clear hJ
        subst ho
        refine Pj.Step.free rfl ?_
        simp only [Pj.puts, List.foldl_cons, List.foldl_nil, Act.put, List.setIfInBounds_toArray, List.set_cons_zero, List.set_cons_succ]
        go_simp
        exact hK _ _ ⟨Pj.vset V 4 (.pointer (some ⟨p0, 5, none⟩)), by simp only [Pj.puts, List.foldl_cons, List.foldl_nil, Act.put, List.setIfInBounds_toArray, List.set_cons_zero, List.set_cons_succ, Pj.vset, Nat.reduceEqDiff, if_true, if_false], HJ.out.more HP.out (by decide) (by decide) hL (Kept.refl _) (rfl)⟩
      | 5, ho =>
        simp only [List.getElem?_toArray, List.getElem?_cons_zero, List.getElem?_cons_succ, Option.some.injEq] at ho
        have e4 : V 4 = .pointer (some ⟨p0, 5, none⟩) := hJ.h 4 (hdep 4 (by rw [← ho]; kernel_rfl))
        obtain ⟨r0, r1, r2, r3, r4, r5, r6⟩ := HREAD.out _ (HK2.out.trans hJ.kp)
        have HJ := Lib.hid hJ
        clear hJ
        subst ho
        refine Pj.Step.free rfl ?_
        simp only [Pj.puts, List.foldl_cons, List.foldl_nil, Act.put, List.setIfInBounds_toArray, List.set_cons_zero, List.set_cons_succ, e4]
        go_simp
        exact hK _ _ ⟨Pj.vset V 5 (.int .i64 zb), by simp only [Pj.puts, List.foldl_cons, List.foldl_nil, Act.put, List.setIfInBounds_toArray, List.set_cons_zero, List.set_cons_succ, Pj.vset, Nat.reduceEqDiff, if_true, if_false, e4], HJ.out.more HP.out (by decide) (by decide) hL (Kept.refl _) (rfl)⟩
      | 6, ho =>
        simp only [List.getElem?_toArray, List.getElem?_cons_zero, List.getElem?_cons_succ, Option.some.injEq] at ho
        have e5 : V 5 = .int .i64 zb := hJ.h 5 (hdep 5 (by rw [← ho]; kernel_rfl))
        have HJ := Lib.hid hJ
        clear hJ
        subst ho
        refine Pj.Step.free rfl ?_
        simp only [Pj.puts, List.foldl_cons, List.foldl_nil, Act.put, List.setIfInBounds_toArray, List.set_cons_zero, List.set_cons_succ, e5]
        go_simp
        refine (HW2.out _).mono ?_
        rintro e u ⟨rfl, rfl⟩
        exact hK _ _ ⟨Pj.vset V 6 (.int .i64 (s1 : Int)), by simp only [Pj.puts, List.foldl_cons, List.foldl_nil, Act.put, List.setIfInBounds_toArray, List.set_cons_zero, List.set_cons_succ, Pj.vset, Nat.reduceEqDiff, if_true, if_false, e5], HJ.out.more HP.out (by decide) (by decide) hL (Kept.refl _) (rfl)⟩
      | 7, ho =>
        simp only [List.getElem?_toArray, List.getElem?_cons_zero, List.getElem?_cons_succ, Option.some.injEq] at ho
        have e6 : V 6 = .int .i64 (s1 : Int) := hJ.h 6 (hdep 6 (by rw [← ho]; kernel_rfl))
        have HJ := Lib.hid hJ
        clear hJ
        subst ho
        refine Pj.Step.free rfl ?_
        simp only [Pj.puts, List.foldl_cons, List.foldl_nil, Act.put, List.setIfInBounds_toArray, List.set_cons_zero, List.set_cons_succ, e6]
        go_simp
        exact hK _ _ ⟨Pj.vset V 7 (.int .i64 (sn : Int)), by simp only [Pj.puts, List.foldl_cons, List.foldl_nil, Act.put, List.setIfInBounds_toArray, List.set_cons_zero, List.set_cons_succ, Pj.vset, Nat.reduceEqDiff, if_true, if_false, e6], HJ.out.more HP.out (by decide) (by decide) hL (Kept.refl _) (rfl)⟩
      | 8, ho =>
        simp only [List.getElem?_toArray, List.getElem?_cons_zero, List.getElem?_cons_succ, Option.some.injEq] at ho
        have e3 : V 3 = .int .i64 (kn : Int) := hJ.h 3 (hdep 3 (by rw [← ho]; kernel_rfl))
        have e7 : V 7 = .int .i64 (sn : Int) := hJ.h 7 (hdep 7 (by rw [← ho]; kernel_rfl))
        have HJ := Lib.hid hJ
        clear hJ
        subst ho
        refine Pj.Step.free rfl ?_
        simp only [Pj.puts, List.foldl_cons, List.foldl_nil, Act.put, List.setIfInBounds_toArray, List.set_cons_zero, List.set_cons_succ, e3, e7]
        go_simp
        exact hK _ _ ⟨Pj.vset V 8 (.agg #[.int .i64 (kn : Int), .int .i64 0, .int .i64 (sn : Int)]), by simp only [Pj.puts, List.foldl_cons, List.foldl_nil, Act.put, List.setIfInBounds_toArray, List.set_cons_zero, List.set_cons_succ, Pj.vset, Nat.reduceEqDiff, if_true, if_false, e3, e7], HJ.out.more HP.out (by decide) (by decide) hL (Kept.refl _) (rfl)⟩
      | 9, ho =>
        simp only [List.getElem?_toArray, List.getElem?_cons_zero, List.getElem?_cons_succ, Option.some.injEq] at ho
        have HJ := Lib.hid hJ
        clear hJ
        subst ho
        refine Pj.Step.free rfl ?_
        refine Pj.oper_alloc_block 31 rfl #[.int .i64 0, .int .i64 0, .int .i64 0] (by kernel_rfl) ?_
        simp only [Pj.puts, List.foldl_cons, List.foldl_nil, Act.put, List.setIfInBounds_toArray, List.set_cons_zero, List.set_cons_succ]
        exact hK _ _ ⟨Pj.vset V 9 (.pointer (some ⟨w.heap.size, 0, none⟩)), by simp only [Pj.puts, List.foldl_cons, List.foldl_nil, Act.put, List.setIfInBounds_toArray, List.set_cons_zero, List.set_cons_succ, Pj.vset, Nat.reduceEqDiff, if_true, if_false], HJ.out.made HP.out (by decide) hopen hL rfl⟩
      | 10, ho =>
        simp only [List.getElem?_toArray, List.getElem?_cons_zero, List.getElem?_cons_succ, Option.some.injEq] at ho
        have lia := hdep 9 (by rw [← ho]; kernel_rfl)
        obtain ⟨b, e9, hwb, hbz⟩ := hJ.z lia hopen
        have e8 : V 8 = .agg #[.int .i64 (kn : Int), .int .i64 0, .int .i64 (sn : Int)] := hJ.h 8 (hdep 8 (by rw [← ho]; kernel_rfl))
        have HJ := Lib.hid hJ
        clear hJ
        subst ho
        refine Pj.Step.free rfl ?_
        simp only [Pj.puts, List.foldl_cons, List.foldl_nil, Act.put, List.setIfInBounds_toArray, List.set_cons_zero, List.set_cons_succ, e9, e8]
        refine Pj.oper_store_block 31 _ _ rfl b #[.int .i64 (kn : Int), .int .i64 0, .int .i64 (sn : Int)] #[.int .i64 0, .int .i64 0, .int .i64 0] 31 rfl rfl hbz (by kernel_rfl) rfl (by simp [Value.oneCell']) ?_
        exact hK _ _ ⟨Pj.vset V 10 undef, by simp only [Pj.puts, List.foldl_cons, List.foldl_nil, Act.put, List.setIfInBounds_toArray, List.set_cons_zero, List.set_cons_succ, Pj.vset, Nat.reduceEqDiff, if_false, e9, e8], HJ.out.stored HP.out (by decide) lia hL e9 hwb hbz rfl⟩
      | n + 11, ho => simp at ho
    case ehe =>
      rintro L a w ⟨V, rfl, hJ⟩ hall
      obtain ⟨b, e9, hwb, hbx⟩ := hJ.x (hall 10 (by decide))
      have HKj := Lib.hid hJ.kp
      clear hJ hall
      simp only [Pj.puts, List.foldl_cons, List.foldl_nil, Act.put, List.setIfInBounds_toArray, List.set_cons_zero, List.set_cons_succ, e9]
      clear e9
      have HK3 := Lib.hid (HK2.out.trans HKj.out)
      obtain ⟨w3, rfl⟩ : ∃ w3, w3 = w := ⟨_, rfl⟩
      have HS4 := Lib.hid (fun u (ku : Kept w3 u) => box3c (hbx.kept ku))
      obtain ⟨q, hq⟩ : ∃ q : Nat, q = kn * sn := ⟨_, rfl⟩
      have hmul : (kn : Int) * (sn : Int) = (q : Int) := by rw [hq]; simp
      have hq9 : q ≤ 9 := by rw [hq]; exact Nat.le_trans (Nat.mul_le_mul hkb.2 hsb.2) (by decide)
      have hq1 : 1 ≤ q := by rw [hq]; exact Nat.mul_pos (by omega) (by omega)
      have HALL := Lib.hid (fun (f m : Nat) (hf : f ≤ n) => show ∃ (N : Nat) (PS : List (Int × Int × Int)), (∀ w, Calls Try.prog 30 #[.agg #[.int .i64 (kn : Int), .int .i64 0, .int .i64 (sn : Int)], .int .i64 n, .int .i64 f, .int .i64 m] w fun x w' => ∃ a cap, x = .returned (.tuple #[.slice a N cap, .int .i64 0]) ∧ PartsIn w' a N PS ∧ Kept w w') ∧
          (∀ w, Calls Try.prog 31 #[.agg #[.int .i64 (kn : Int), .int .i64 0, .int .i64 (sn : Int)], .int .i64 n, .int .i64 f, .int .i64 m] w fun x w' => ∃ a cap, x = .returned (.slice a N cap) ∧ PartsIn w' a N PS ∧ Kept w w') by
        obtain ⟨N, E, PS, h1, h2⟩ := span_all (kn : Int) 0 (sn : Int) n f m
        rcases h2 with ⟨hb, _⟩ | ⟨hb, rfl, h3⟩
        · exfalso
          unfold spB stB at hb
          rw [show shpB (kn : Int) 0 (sn : Int) = true by unfold shpB; exact decide_eq_true (by omega), decide_eq_true (show (0 : Int) ≤ (n : Int) by omega), decide_eq_true (show (n : Int) ≤ 2000 by omega), decide_eq_true (show (0 : Int) ≤ (f : Int) by omega), decide_eq_true (show (f : Int) ≤ (n : Int) by omega), decide_eq_true (show (0 : Int) ≤ (m : Int) by omega)] at hb
          simp at hb
        · exact ⟨N, PS, h1, h3⟩)
      obtain ⟨r0, r1, r2, r3, r4, r5, r6⟩ := HREAD.out _ HK3.out
      clear hbx hwb HKj hq e1 e2 e1w e2w HW1 HW2 hk3 hs3 hmul
      go_wp2_with fail
      refine (HW3.out _).mono ?_
      rintro e u ⟨rfl, rfl⟩
      clear r0 r1 r2 r3 r4 r5 r6 HW3 HREAD
      go_wp2_with fail
      go_loopw [5] (fun i wr => ∃ f : Nat, f ≤ n + 1 ∧ i = .int .i64 f ∧ Kept w3 wr) (fun i _ => n + 1 - (intOf i).toNat)
      case atStart => exact ⟨0, by omega, rfl, Kept.refl _⟩
      case round =>
        obtain ⟨f, hf, rfl, hkr⟩ := hrel
        have HKr := Lib.hid hkr
        clear hkr
        by_cases hfn : f ≤ n
        · have hd1 : decide (f ≤ n) = true := decide_eq_true hfn
          obtain ⟨wa, rfl⟩ : ∃ wa, wa = wr := ⟨_, rfl⟩
          go_wp2_with fail
          go_loopw [6] (fun i wr => ∃ m : Nat, m ≤ n + 2 ∧ i = .int .i64 m ∧ Kept w3 wr) (fun i _ => n + 2 - (intOf i).toNat)
          case atStart => exact ⟨0, by omega, rfl, HKr.out⟩
          case round =>
            obtain ⟨m, hm, rfl, hkx⟩ := hrel
            have HKx := Lib.hid hkx
            clear hkx
            obtain ⟨n1, hn1⟩ : ∃ n1 : Nat, n1 = n + 1 := ⟨_, rfl⟩
            have f1 : (n : Int) + 1 = (n1 : Int) := by omega
            have HN1 := Lib.hid hn1
            by_cases hmn : m ≤ n1
            · have hd2 : decide (m ≤ n1) = true := decide_eq_true hmn
              obtain ⟨N, PS, hpa, hpr⟩ := HALL.out f m hfn
              have HPA := Lib.hid hpa
              have HPR := Lib.hid hpr
              clear hpa hpr hn1
              obtain ⟨c0, c1, c2⟩ := HS4.out _ HKx.out
              go_wp2_with fail
              refine (HPA.out _).mono ?_
              rintro e w5 ⟨ap, cp, rfl, hst, hk5⟩
              have HST5 := Lib.hid hst
              have HK5 := Lib.hid (HKx.out.trans hk5)
              clear hst hk5 c0 c1 c2
              obtain ⟨c0, c1, c2⟩ := HS4.out _ HK5.out
              go_wp2_with fail
              refine (num8_any _ _).mono ?_
              rintro e w' ⟨rfl, rfl⟩
              go_wp2_with fail
              refine (HPR.out _).mono ?_
              rintro e w7 ⟨aq, cq, rfl, hst, hk7⟩
              have HST7 := Lib.hid hst
              have HSA7 := Lib.hid (HST5.out.kept hk7)
              have HK7 := Lib.hid (HK5.out.trans hk7)
              clear hst hk7 c0 c1 c2
              go_wp2_with fail
              refine (eq_parts ap aq N cp cq PS _ HSA7.out HST7.out).mono ?_
              rintro e w9 ⟨rfl, hk9⟩
              have HK9 := Lib.hid (HK7.out.trans hk9)
              clear hk9 f1
              go_wp2
              go_roundw
              case rel => exact ⟨m + 1, by have := HN1.out; omega, by go_num, HK9.out⟩
              case measure => have := HN1.out; simp [intOf]; omega
            · have hd2 : decide (m ≤ n1) = false := decide_eq_false hmn
              clear hn1
              go_wp2
              go_roundw
              case rel => exact ⟨f + 1, by omega, by go_num, HKx.out⟩
              case measure => simp [intOf]; omega
        · have hd1 : decide (f ≤ n) = false := decide_eq_false hfn
          go_wp2_with fail
          refine (wakes8_any _).mono ?_
          rintro e w4 ⟨rfl, hk4⟩
          have HK4 := Lib.hid (HKr.out.trans hk4)
          clear hk4
          go_wp2
          go_ret
          exact ⟨rfl, HK1.out.trans (HK3.out.trans HK4.out)⟩
end Go.Proofs.Ytlncjheifkbomaa
