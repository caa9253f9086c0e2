/- The walk of the law CutBack: it answers true and changes nothing that was there (no conditions). -/
import Derived.Test.YtlncjheifkbomaaCutM
import Derived.Test.YtlncjheifkbomaaCutH
import Derived.Test.YtlncjheifkbomaaPj
namespace Go.Proofs.Ytlncjheifkbomaa
open Go.RowKit

theorem box4c {W : World} {b : Nat} {x y z u : Value} {t : TypeId} (h : BlockAt W b #[x, y, z, u] t) : W.cell? ⟨b, 0, none⟩ = some x ∧ W.cell? ⟨b, 1, none⟩ = some y ∧ W.cell? ⟨b, 2, none⟩ = some z ∧ W.cell? ⟨b, 3, none⟩ = some u :=
  ⟨by simpa using h.cell 0, by simpa using h.cell 1, by simpa using h.cell 2, by simpa using h.cell 3⟩
set_option maxRecDepth 100000 in
set_option maxHeartbeats 8000000 in
theorem cut_back (ax : Option Addr) (ls cs : Nat) (al : Option Addr) (ll cl : Nat) (ss : List ByteArray) (ab : Option Addr) (lb cb : Nat) (n : Int) (W : World) (h : AskC W ax ls cs al ll cl ss) (hn : -9223372036854775808 ≤ n ∧ n ≤ 9223372036854775807) :
    Calls Try.prog 5 #[.agg #[.slice ax ls cs, .slice al ll cl, .slice ab lb cb, .int .i64 n]] W fun e W' => e = .returned (.bool true) ∧ Below W.heap.size W W' := by
  have HA := Lib.hid h
  have HN := Lib.hid hn
  clear h hn
  have HK1 := Lib.hid ((Kept.refl W).alloc (.cells #[.slice ax ls cs, .slice al ll cl, .slice ab lb cb, .int .i64 n] 28))
  have hB1 := BlockAt.new W #[.slice ax ls cs, .slice al ll cl, .slice ab lb cb, .int .i64 n] 28
  go_enter Try.func5, Try.ntmps5
  go_upto_region 1 with (fail)
  generalize W.alloc (.cells #[.slice ax ls cs, .slice al ll cl, .slice ab lb cb, .int .i64 n] 28) = w1 at *
  have hread : ∀ w, Kept w1 w → w.cell? ⟨W.heap.size, 0, none⟩ = some (.slice ax ls cs) ∧ w.cell? ⟨W.heap.size, 1, none⟩ = some (.slice al ll cl) ∧ w.cell? ⟨W.heap.size, 2, none⟩ = some (.slice ab lb cb) ∧ w.cell? ⟨W.heap.size, 3, none⟩ = some (.int .i64 n) := fun w k => box4c (hB1.kept k)
  have HREAD := Lib.hid hread
  clear hread hB1
  obtain ⟨a0, a1, a2, a3⟩ := HREAD.out _ (Kept.refl _)
  go_wp2_with fail
  refine (heavy4_any ax ls cs al ll cl ss ab lb cb _ (HA.out.kept HK1.out)).mono ?_
  rintro e w2 ⟨he, hk2⟩
  have HK2 := Lib.hid hk2
  clear hk2 a0 a1 a2 a3
  rcases he with rfl | ⟨rfl, hll, hls, hsz⟩
  · go_wp2
    go_ret
    exact ⟨rfl, HK1.out.trans HK2.out⟩
  · have HSZ := Lib.hid hsz
    clear hsz
    go_wp2_with fail
    obtain ⟨wo, rfl⟩ : ∃ wo : World, wo = w2 := ⟨_, rfl⟩
    go_loopw [3] (fun i wr => ∃ j : Nat, j ≤ ls ∧ i = .int .i64 j ∧ Kept w1 wr) (fun i _ => ls - (intOf i).toNat)
    case atStart => exact ⟨0, by omega, rfl, HK2.out⟩
    case round =>
      obtain ⟨j, hj, rfl, hK⟩ := hrel
      have HK := Lib.hid hK
      clear hK
      obtain ⟨a0, a1, a2, a3⟩ := HREAD.out _ HK.out
      by_cases hjl : j < ls
      · by_cases hj4 : j < 4
        · obtain ⟨b, off, rfl, hc⟩ := HA.out.shapes.cell (by omega)
          obtain ⟨k, m, s, hkb, hcell⟩ := hc j hjl
          obtain ⟨c0, c1, c2⟩ := hcell _ (HK1.out.trans HK.out)
          clear hc hcell
          have hd1 : decide ((j : Int) < ls) = true := decide_eq_true (by omega)
          have hd2 : decide ((j : Int) < 4) = true := decide_eq_true (by omega)
          go_upto_region 7 with (fail)
          have hB4 := BlockAt.new wr #[.int .i64 k, .int .i64 m, .int .i64 s] 31
          have k4 : Kept wr (wr.alloc (.cells #[.int .i64 k, .int .i64 m, .int .i64 s] 31)) := (Kept.refl wr).alloc _
          generalize wr.alloc (.cells #[.int .i64 k, .int .i64 m, .int .i64 s] 31) = wa at *
          have HKa := Lib.hid (HK.out.trans k4)
          have hs4 : ∀ w, Kept wa w → w.cell? ⟨wr.heap.size, 0, none⟩ = some (.int .i64 k) ∧ w.cell? ⟨wr.heap.size, 1, none⟩ = some (.int .i64 m) ∧ w.cell? ⟨wr.heap.size, 2, none⟩ = some (.int .i64 s) := fun w kk => box3c (hB4.kept kk)
          have HS4 := Lib.hid hs4
          clear hs4 hB4 k4 a0 a1 a2 a3 c0 c1 c2
          generalize wr.heap.size = p4 at *
          obtain ⟨a0, a1, a2, a3⟩ := HREAD.out _ HKa.out
          obtain ⟨c0, c1, c2⟩ := HS4.out _ (Kept.refl _)
          go_wp2_with fail
          go_loopw [5] (fun i wr => ∃ y : Nat, y ≤ ll ∧ y ≤ 4 ∧ i = .int .i64 y ∧ Kept wa wr) (fun i _ => 4 - (intOf i).toNat)
          case atStart => exact ⟨0, by omega, by omega, rfl, Kept.refl _⟩
          case round =>
            obtain ⟨y, hy, hy4, rfl, hkx⟩ := hrel
            have HKx := Lib.hid hkx
            obtain ⟨wx, rfl⟩ : ∃ wx : World, wx = wr := ⟨_, rfl⟩
            obtain ⟨a0, a1, a2, a3⟩ := HREAD.out _ (HKa.out.trans hkx)
            clear hkx
            by_cases hyl : y < ll
            · have hdy : decide ((y : Int) < ll) = true := decide_eq_true (by omega)
              by_cases hy5 : y < 4
              · have hdy4 : decide ((y : Int) < 4) = true := decide_eq_true (by omega)
                obtain ⟨bt, ot, rfl, htc⟩ : ∃ bt ot, al = some ⟨bt, ot, none⟩ ∧ ∀ i, i < ll → ∀ w, Kept w1 w → w.cell? ⟨bt, ot + i, none⟩ = some (.string (ss.getD i ByteArray.empty)) := by
                  obtain ⟨b, off, ha, hc⟩ := (HA.out.texts.kept HK1.out).strs.cells
                  exact ⟨b, off, ha (by omega), fun i hi w kk => kk.cell (hc i hi).1 (hc i hi).2⟩
                have htx := htc y hyl
                have hsz := HSZ.out y hyl
                generalize ss.getD y ByteArray.empty = t at *
                have ct := htx _ (HKa.out.trans HKx.out)
                obtain ⟨c0, c1, c2⟩ := HS4.out _ HKx.out
                clear htx htc
                by_cases hs : shpB k m s = true
                · by_cases ht : t.size ≤ 2000
                  · have hb := ks_bounds hs
                    obtain ⟨kn, rfl⟩ : ∃ kn : Nat, k = kn := ⟨k.toNat, by have := (shpB_true hs).1; omega⟩
                    obtain ⟨q, hq⟩ : ∃ q : Nat, (kn : Int) * s = q := ⟨((kn : Int) * s).toNat, by omega⟩
                    have hq1 : 1 ≤ q := by omega
                    have hq9 : q ≤ 960 := by omega
                    have hgood := fun w => parts_good (kn : Int) m s t hs ht w
                    have hstr := fun w => stripes_any (kn : Int) m s (t.size : Int) w
                    have hstB : stB (kn : Int) m s (t.size : Int) = true := by
                      unfold stB
                      rw [hs, decide_eq_true (show (0 : Int) ≤ (t.size : Int) by omega), decide_eq_true (show (t.size : Int) ≤ 2000 by omega)]
                      rfl
                    have e1 : stE (kn : Int) m s (t.size : Int) = 0 := by unfold stE; rw [if_pos hstB]
                    have e2 : stN (kn : Int) m s (t.size : Int) = (nP t.size q : Nat) := by
                      unfold stN nP
                      rw [if_pos hstB, hq]
                      rw [show (t.size : Int) + (q : Int) - 1 = ((t.size + q - 1 : Nat) : Int) by omega]
                      simp
                    rw [e1, e2] at hstr
                    rw [hq, Int.toNat_natCast] at hgood
                    have HG := Lib.hid hgood
                    have HST := Lib.hid hstr
                    have HSH := Lib.hid hs
                    have HQ := Lib.hid hq
                    have HCT := Lib.hid (cat_take t q hq1)
                    have HSNAP := Lib.hid (fun z (hz : z < nP t.size q) => show cat ((pcs t q).take (z + 1)) = cat ((pcs t q).take z) ++ (pcs t q).getD z ByteArray.empty by rw [pcs_take t q z hz, cat_snoc, pcs_getD t q z hz])
                    have HBD := Lib.hid (fun z (hz : z < nP t.size q) => show 1 ≤ ((pcs t q).getD z ByteArray.empty).size ∧ ((pcs t q).getD z ByteArray.empty).size ≤ q by rw [pcs_getD t q z hz]; exact pcOf_bounds t q z hq1 hz)
                    have hnn : nP t.size q ≤ 2000 := by
                      have h1 : nP t.size q ≤ t.size := Nat.not_lt.1 (fun h => by have := (nP_lt hq1).1 h; have := Nat.le_mul_of_pos_right t.size hq1; omega)
                      omega
                    obtain ⟨N, hN⟩ : ∃ N, nP t.size q = N := ⟨_, rfl⟩
                    rw [hN] at HG HST HSNAP HBD HCT hnn
                    have HNN := Lib.hid hN
                    clear hN hs hq hb hgood hstr hstB e1 e2
                    go_wp2_with fail
                    refine (HG.out _).mono ?_
                    rintro e w5 ⟨ap, cp, rfl, hcp, hst, hk5⟩
                    have HPS5 := Lib.hid hst
                    have HK5 := Lib.hid (HKx.out.trans hk5)
                    clear hst hk5 c0 c1 c2 a0 a1 a2 a3 ct
                    go_wp2_with fail
                    refine (num7_any _ _).mono ?_
                    rintro e w' ⟨rfl, rfl⟩
                    obtain ⟨c0, c1, c2⟩ := HS4.out _ HK5.out
                    go_wp2_with fail
                    refine (HST.out _).mono ?_
                    rintro e w6 ⟨rfl, hk6⟩
                    have HKb := Lib.hid (HK5.out.trans hk6)
                    have HPS := Lib.hid (HPS5.out.kept hk6)
                    clear hk6 c0 c1 c2
                    have hne : ((N : Int) != (N : Int)) = false := by simp
                    go_wp2_with fail
                    refine (num7_any _ _).mono ?_
                    rintro e w' ⟨rfl, rfl⟩
                    go_wp2_with fail
                    clear hne
                    go_loopw [11, 12] (fun s i wr => ∃ z : Nat, z ≤ N ∧ i = .int .i64 z ∧ s = .string (cat ((pcs t q).take z)) ∧ Kept w6 wr) (fun _ i _ => N - (intOf i).toNat)
                    case atStart => exact ⟨0, by omega, rfl, rfl, Kept.refl _⟩
                    case round =>
                      obtain ⟨z, hz, rfl, rfl, hkq⟩ := hrel
                      obtain ⟨wq, rfl⟩ : ∃ wq : World, wq = wr := ⟨_, rfl⟩
                      have HKp := Lib.hid hkq
                      have HKq := Lib.hid (HKb.out.trans hkq)
                      clear hkq
                      by_cases hzn : z < N
                      · have hdz : decide ((z : Int) < N) = true := decide_eq_true (by omega)
                        obtain ⟨bp, op9, rfl, hpc⟩ := (HPS.out.kept HKp.out).at (by omega)
                        have hpz := hpc z hzn
                        have hsn := HSNAP.out z hzn
                        have hbd := HBD.out z hzn
                        generalize (pcs t q).getD z ByteArray.empty = p at hpz hsn hbd
                        obtain ⟨hp1, hp2⟩ := hbd
                        have HSN := Lib.hid hsn
                        have HPC := Lib.hid hpz
                        obtain ⟨hla, hjo⟩ := back_any (kn : Int) m s p HSH.out hp1 (by rw [HQ.out]; omega)
                        rw [Int.toNat_natCast] at hla hjo
                        generalize lns p kn s.toNat = LS at hla hjo
                        have HLA := Lib.hid hla
                        have HJO := Lib.hid hjo
                        clear hpc hpz hsn hla hjo
                        obtain ⟨c0, c1, c2⟩ := HS4.out _ HKq.out
                        go_wp2_with fail
                        refine Pj.wp_region_step (fun a0 L a w => ∃ V : Nat → Value, a = Pj.puts [(88, 0), (89, 1), (90, 2), (91, 3), (92, 4), (93, 5), (87, 6), (94, 7), (95, 8), (13, 9), (14, 10)] V a0 ∧ Pj.J wq [Pj.Is (.agg #[.int .i64 (kn : Int), .int .i64 m, .int .i64 s]), Pj.Is (.slice (some ⟨bp, op9, none⟩) N cp), Pj.Is (.int .i64 (z : Int)), Pj.Is (.pointer (some ⟨bp, op9 + z, none⟩)), Pj.Is (.string p), (fun w v => ∃ ap kp, v = .tuple #[.slice ap kn kp, .int .i64 0] ∧ kn ≤ kp ∧ StrsIn w ap kn LS), (fun w v => ∃ ap kp, v = .tuple #[.slice ap kn kp, .int .i64 0] ∧ kn ≤ kp ∧ StrsIn w ap kn LS), (fun w v => ∃ ap kp, v = .slice ap kn kp ∧ kn ≤ kp ∧ StrsIn w ap kn LS), Pj.Is (.int .i64 0), (fun w v => ∃ ap kp, v = .slice ap kn kp ∧ kn ≤ kp ∧ StrsIn w ap kn LS), Pj.Is (.int .i64 0)] L V w) (by as_aux_lemma => kernel_rfl) (by as_aux_lemma => kernel_rfl) ?eh0 ?ehs ?ehe
                        case eh0 =>
                          intro L hL
                          exact ⟨_, Pj.puts_self _ (fun j => ([88, 89, 90, 91, 92, 93, 87, 94, 95, 13, 14] : List Nat).getD j 0) [0, 1, 2, 3, 4, 5, 6, 7, 8, 9, 10], Pj.J.none (n := 11) (Nat.le_refl _) hL ((Kept.refl _).drew)⟩
                        case ehs =>
                          rintro L L' a w i op K ⟨V, rfl, hJ⟩ ho hopen hdep hL hK
                          have hP : Pj.AllStay [Pj.Is (.agg #[.int .i64 (kn : Int), .int .i64 m, .int .i64 s]), Pj.Is (.slice (some ⟨bp, op9, none⟩) N cp), Pj.Is (.int .i64 (z : Int)), Pj.Is (.pointer (some ⟨bp, op9 + z, none⟩)), Pj.Is (.string p), (fun w v => ∃ ap kp, v = .tuple #[.slice ap kn kp, .int .i64 0] ∧ kn ≤ kp ∧ StrsIn w ap kn LS), (fun w v => ∃ ap kp, v = .tuple #[.slice ap kn kp, .int .i64 0] ∧ kn ≤ kp ∧ StrsIn w ap kn LS), (fun w v => ∃ ap kp, v = .slice ap kn kp ∧ kn ≤ kp ∧ StrsIn w ap kn LS), Pj.Is (.int .i64 0), (fun w v => ∃ ap kp, v = .slice ap kn kp ∧ kn ≤ kp ∧ StrsIn w ap kn LS), Pj.Is (.int .i64 0)] := ⟨Pj.Is.stays _, Pj.Is.stays _, Pj.Is.stays _, Pj.Is.stays _, Pj.Is.stays _, fun _ _ _ ⟨ap, kp, e, h1, h⟩ k => ⟨ap, kp, e, h1, h.kept k⟩, fun _ _ _ ⟨ap, kp, e, h1, h⟩ k => ⟨ap, kp, e, h1, h.kept k⟩, fun _ _ _ ⟨ap, kp, e, h1, h⟩ k => ⟨ap, kp, e, h1, h.kept k⟩, Pj.Is.stays _, fun _ _ _ ⟨ap, kp, e, h1, h⟩ k => ⟨ap, kp, e, h1, h.kept k⟩, Pj.Is.stays _, trivial⟩
                          have HP := Lib.hid hP
                          clear hP
                          match i, ho with
                          | 0, ho =>
                            simp only [List.getElem?_toArray, List.getElem?_cons_zero, Option.some.injEq] at ho
                            obtain ⟨c0, c1, c2⟩ := HS4.out _ (HKq.out.trans hJ.kp)
                            have HJ := Lib.hid hJ
                            clear hJ
                            subst ho
                            refine Pj.Step.free rfl ?_
                            simp only [Pj.puts, List.foldl_cons, List.foldl_nil, Act.put, List.setIfInBounds_toArray, List.set_cons_zero, List.set_cons_succ]
                            go_simp
                            exact hK _ _ ⟨Pj.vset V 0 (.agg #[.int .i64 (kn : Int), .int .i64 m, .int .i64 s]), by simp only [Pj.puts, List.foldl_cons, List.foldl_nil, Act.put, List.setIfInBounds_toArray, List.set_cons_zero, List.set_cons_succ, Pj.vset, Nat.reduceEqDiff, if_true, if_false], HJ.out.more HP.out hL (Kept.refl _) (rfl)⟩
                          | 1, ho =>
                            simp only [List.getElem?_toArray, List.getElem?_cons_zero, List.getElem?_cons_succ, Option.some.injEq] at ho
                            have HJ := Lib.hid hJ
                            clear hJ
                            subst ho
                            refine Pj.Step.free rfl ?_
                            simp only [Pj.puts, List.foldl_cons, List.foldl_nil, Act.put, List.setIfInBounds_toArray, List.set_cons_zero, List.set_cons_succ]
                            go_simp
                            exact hK _ _ ⟨Pj.vset V 1 (.slice (some ⟨bp, op9, none⟩) N cp), by simp only [Pj.puts, List.foldl_cons, List.foldl_nil, Act.put, List.setIfInBounds_toArray, List.set_cons_zero, List.set_cons_succ, Pj.vset, Nat.reduceEqDiff, if_true, if_false], HJ.out.more HP.out hL (Kept.refl _) (rfl)⟩
                          | 2, ho =>
                            simp only [List.getElem?_toArray, List.getElem?_cons_zero, List.getElem?_cons_succ, Option.some.injEq] at ho
                            have HJ := Lib.hid hJ
                            clear hJ
                            subst ho
                            refine Pj.Step.free rfl ?_
                            simp only [Pj.puts, List.foldl_cons, List.foldl_nil, Act.put, List.setIfInBounds_toArray, List.set_cons_zero, List.set_cons_succ]
                            go_simp
                            exact hK _ _ ⟨Pj.vset V 2 (.int .i64 (z : Int)), by simp only [Pj.puts, List.foldl_cons, List.foldl_nil, Act.put, List.setIfInBounds_toArray, List.set_cons_zero, List.set_cons_succ, Pj.vset, Nat.reduceEqDiff, if_true, if_false], HJ.out.more HP.out hL (Kept.refl _) (rfl)⟩
                          | 3, ho =>
                            simp only [List.getElem?_toArray, List.getElem?_cons_zero, List.getElem?_cons_succ, Option.some.injEq] at ho
                            have e1 : V 1 = .slice (some ⟨bp, op9, none⟩) N cp := hJ.h 1 (hdep 1 (by rw [← ho]; kernel_rfl))
                            have e2 : V 2 = .int .i64 (z : Int) := hJ.h 2 (hdep 2 (by rw [← ho]; kernel_rfl))
                            have HJ := Lib.hid hJ
                            clear hJ
                            subst ho
                            refine Pj.Step.free rfl ?_
                            simp only [Pj.puts, List.foldl_cons, List.foldl_nil, Act.put, List.setIfInBounds_toArray, List.set_cons_zero, List.set_cons_succ, e1, e2]
                            go_simp
                            exact hK _ _ ⟨Pj.vset V 3 (.pointer (some ⟨bp, op9 + z, none⟩)), by simp only [Pj.puts, List.foldl_cons, List.foldl_nil, Act.put, List.setIfInBounds_toArray, List.set_cons_zero, List.set_cons_succ, Pj.vset, Nat.reduceEqDiff, if_true, if_false, e1, e2], HJ.out.more HP.out hL (Kept.refl _) (rfl)⟩
                          | 4, ho =>
                            simp only [List.getElem?_toArray, List.getElem?_cons_zero, List.getElem?_cons_succ, Option.some.injEq] at ho
                            have e3 : V 3 = .pointer (some ⟨bp, op9 + z, none⟩) := hJ.h 3 (hdep 3 (by rw [← ho]; kernel_rfl))
                            have cx := HPC.out _ hJ.kp
                            have HJ := Lib.hid hJ
                            clear hJ
                            subst ho
                            refine Pj.Step.free rfl ?_
                            simp only [Pj.puts, List.foldl_cons, List.foldl_nil, Act.put, List.setIfInBounds_toArray, List.set_cons_zero, List.set_cons_succ, e3]
                            go_simp
                            exact hK _ _ ⟨Pj.vset V 4 (.string p), by simp only [Pj.puts, List.foldl_cons, List.foldl_nil, Act.put, List.setIfInBounds_toArray, List.set_cons_zero, List.set_cons_succ, Pj.vset, Nat.reduceEqDiff, if_true, if_false, e3], HJ.out.more HP.out hL (Kept.refl _) (rfl)⟩
                          | 5, ho =>
                            simp only [List.getElem?_toArray, List.getElem?_cons_zero, List.getElem?_cons_succ, Option.some.injEq] at ho
                            have e0 : V 0 = .agg #[.int .i64 (kn : Int), .int .i64 m, .int .i64 s] := hJ.h 0 (hdep 0 (by rw [← ho]; kernel_rfl))
                            have e4 : V 4 = .string p := hJ.h 4 (hdep 4 (by rw [← ho]; kernel_rfl))
                            have HJ := Lib.hid hJ
                            clear hJ
                            subst ho
                            refine Pj.Step.free rfl ?_
                            simp only [Pj.puts, List.foldl_cons, List.foldl_nil, Act.put, List.setIfInBounds_toArray, List.set_cons_zero, List.set_cons_succ, e0, e4]
                            go_simp
                            refine (HLA.out _).mono ?_
                            rintro e w' ⟨ap, kp, rfl, hcp, hs9, hk9⟩
                            exact hK _ _ ⟨Pj.vset V 5 (.tuple #[.slice ap kn kp, .int .i64 0]), by simp only [Pj.puts, List.foldl_cons, List.foldl_nil, Act.put, List.setIfInBounds_toArray, List.set_cons_zero, List.set_cons_succ, Pj.vset, Nat.reduceEqDiff, if_true, if_false, e0, e4], HJ.out.more HP.out hL (hk9) (⟨_, _, rfl, hcp, hs9⟩)⟩
                          | 6, ho =>
                            simp only [List.getElem?_toArray, List.getElem?_cons_zero, List.getElem?_cons_succ, Option.some.injEq] at ho
                            obtain ⟨ap, kp, e5, hcp, hap⟩ := hJ.h 5 (hdep 5 (by rw [← ho]; kernel_rfl))
                            have HJ := Lib.hid hJ
                            clear hJ
                            subst ho
                            refine Pj.Step.free rfl ?_
                            simp only [Pj.puts, List.foldl_cons, List.foldl_nil, Act.put, List.setIfInBounds_toArray, List.set_cons_zero, List.set_cons_succ, e5]
                            go_simp
                            exact hK _ _ ⟨Pj.vset V 6 (.tuple #[.slice ap kn kp, .int .i64 0]), by simp only [Pj.puts, List.foldl_cons, List.foldl_nil, Act.put, List.setIfInBounds_toArray, List.set_cons_zero, List.set_cons_succ, Pj.vset, Nat.reduceEqDiff, if_true, if_false, e5], HJ.out.more HP.out hL (Kept.refl _) (⟨_, _, rfl, hcp, hap⟩)⟩
                          | 7, ho =>
                            simp only [List.getElem?_toArray, List.getElem?_cons_zero, List.getElem?_cons_succ, Option.some.injEq] at ho
                            obtain ⟨ap, kp, e6, hcp, hap⟩ := hJ.h 6 (hdep 6 (by rw [← ho]; kernel_rfl))
                            have HJ := Lib.hid hJ
                            clear hJ
                            subst ho
                            refine Pj.Step.free rfl ?_
                            simp only [Pj.puts, List.foldl_cons, List.foldl_nil, Act.put, List.setIfInBounds_toArray, List.set_cons_zero, List.set_cons_succ, e6]
                            go_simp
                            exact hK _ _ ⟨Pj.vset V 7 (.slice ap kn kp), by simp only [Pj.puts, List.foldl_cons, List.foldl_nil, Act.put, List.setIfInBounds_toArray, List.set_cons_zero, List.set_cons_succ, Pj.vset, Nat.reduceEqDiff, if_true, if_false, e6], HJ.out.more HP.out hL (Kept.refl _) (⟨_, _, rfl, hcp, hap⟩)⟩
                          | 8, ho =>
                            simp only [List.getElem?_toArray, List.getElem?_cons_zero, List.getElem?_cons_succ, Option.some.injEq] at ho
                            obtain ⟨ap, kp, e6, hcp, hap⟩ := hJ.h 6 (hdep 6 (by rw [← ho]; kernel_rfl))
                            have HJ := Lib.hid hJ
                            clear hJ
                            subst ho
                            refine Pj.Step.free rfl ?_
                            simp only [Pj.puts, List.foldl_cons, List.foldl_nil, Act.put, List.setIfInBounds_toArray, List.set_cons_zero, List.set_cons_succ, e6]
                            go_simp
                            exact hK _ _ ⟨Pj.vset V 8 (.int .i64 0), by simp only [Pj.puts, List.foldl_cons, List.foldl_nil, Act.put, List.setIfInBounds_toArray, List.set_cons_zero, List.set_cons_succ, Pj.vset, Nat.reduceEqDiff, if_true, if_false, e6], HJ.out.more HP.out hL (Kept.refl _) (rfl)⟩
                          | 9, ho =>
                            simp only [List.getElem?_toArray, List.getElem?_cons_zero, List.getElem?_cons_succ, Option.some.injEq] at ho
                            obtain ⟨ap, kp, e7, hcp, hap⟩ := hJ.h 7 (hdep 7 (by rw [← ho]; kernel_rfl))
                            have HJ := Lib.hid hJ
                            clear hJ
                            subst ho
                            refine Pj.Step.free rfl ?_
                            simp only [Pj.puts, List.foldl_cons, List.foldl_nil, Act.put, List.setIfInBounds_toArray, List.set_cons_zero, List.set_cons_succ, e7]
                            go_simp
                            exact hK _ _ ⟨Pj.vset V 9 (.slice ap kn kp), by simp only [Pj.puts, List.foldl_cons, List.foldl_nil, Act.put, List.setIfInBounds_toArray, List.set_cons_zero, List.set_cons_succ, Pj.vset, Nat.reduceEqDiff, if_true, if_false, e7], HJ.out.more HP.out hL (Kept.refl _) (⟨_, _, rfl, hcp, hap⟩)⟩
                          | 10, ho =>
                            simp only [List.getElem?_toArray, List.getElem?_cons_zero, List.getElem?_cons_succ, Option.some.injEq] at ho
                            have e8 : V 8 = .int .i64 0 := hJ.h 8 (hdep 8 (by rw [← ho]; kernel_rfl))
                            have HJ := Lib.hid hJ
                            clear hJ
                            subst ho
                            refine Pj.Step.free rfl ?_
                            simp only [Pj.puts, List.foldl_cons, List.foldl_nil, Act.put, List.setIfInBounds_toArray, List.set_cons_zero, List.set_cons_succ, e8]
                            go_simp
                            exact hK _ _ ⟨Pj.vset V 10 (.int .i64 0), by simp only [Pj.puts, List.foldl_cons, List.foldl_nil, Act.put, List.setIfInBounds_toArray, List.set_cons_zero, List.set_cons_succ, Pj.vset, Nat.reduceEqDiff, if_true, if_false, e8], HJ.out.more HP.out hL (Kept.refl _) (rfl)⟩
                          | n + 11, ho => simp at ho
                        case ehe =>
                          rintro L a w ⟨V, rfl, hJ⟩ hall
                          obtain ⟨ap, kp, e9, hcp, hap⟩ := hJ.h 9 (hall 9 (by decide))
                          have e10 : V 10 = .int .i64 0 := hJ.h 10 (hall 10 (by decide))
                          have HKj := Lib.hid hJ.kp
                          clear hJ hall
                          simp only [Pj.puts, List.foldl_cons, List.foldl_nil, Act.put, List.setIfInBounds_toArray, List.set_cons_zero, List.set_cons_succ, e9, e10]
                          clear e9 e10
                          have HXS := Lib.hid hap
                          have HXC := Lib.hid hcp
                          have HKz := Lib.hid HKj.out
                          have HKr := Lib.hid (HKq.out.trans HKj.out)
                          clear hap hcp HKj
                          obtain ⟨wz, rfl⟩ : ∃ wz : World, wz = w := ⟨_, rfl⟩
                          obtain ⟨ax, rfl⟩ : ∃ ax, ax = ap := ⟨_, rfl⟩
                          obtain ⟨cx9, rfl⟩ : ∃ cx9, cx9 = kp := ⟨_, rfl⟩
                          go_wp2_with fail
                          refine Pj.wp_region_step (fun a0 L a w => ∃ V : Nat → Value, a = Pj.puts [(97, 0), (98, 1), (99, 2), (100, 3), (101, 4), (102, 5), (103, 6), (104, 7), (96, 8), (105, 9), (106, 10), (15, 11), (16, 12)] V a0 ∧ Pj.J wz [Pj.Is (.agg #[.int .i64 (kn : Int), .int .i64 m, .int .i64 s]), Pj.Is (.slice ax kn cx9), Pj.Is (.slice (some ⟨bp, op9, none⟩) N cp), Pj.Is (.int .i64 (z : Int)), Pj.Is (.pointer (some ⟨bp, op9 + z, none⟩)), Pj.Is (.string p), Pj.Is (.int .i64 (p.size : Int)), Pj.Is (.tuple #[.string p, .int .i64 0]), Pj.Is (.tuple #[.string p, .int .i64 0]), Pj.Is (.string p), Pj.Is (.int .i64 0), Pj.Is (.string p), Pj.Is (.int .i64 0)] L V w) (by as_aux_lemma => kernel_rfl) (by as_aux_lemma => kernel_rfl) ?eh0 ?ehs ?ehe
                          case eh0 =>
                            intro L hL
                            exact ⟨_, Pj.puts_self _ (fun j => ([97, 98, 99, 100, 101, 102, 103, 104, 96, 105, 106, 15, 16] : List Nat).getD j 0) [0, 1, 2, 3, 4, 5, 6, 7, 8, 9, 10, 11, 12], Pj.J.none (n := 13) (Nat.le_refl _) hL ((Kept.refl _).drew)⟩
                          case ehs =>
                            rintro L L' a w i op K ⟨V, rfl, hJ⟩ ho hopen hdep hL hK
                            have hP : Pj.AllStay [Pj.Is (.agg #[.int .i64 (kn : Int), .int .i64 m, .int .i64 s]), Pj.Is (.slice ax kn cx9), Pj.Is (.slice (some ⟨bp, op9, none⟩) N cp), Pj.Is (.int .i64 (z : Int)), Pj.Is (.pointer (some ⟨bp, op9 + z, none⟩)), Pj.Is (.string p), Pj.Is (.int .i64 (p.size : Int)), Pj.Is (.tuple #[.string p, .int .i64 0]), Pj.Is (.tuple #[.string p, .int .i64 0]), Pj.Is (.string p), Pj.Is (.int .i64 0), Pj.Is (.string p), Pj.Is (.int .i64 0)] := ⟨Pj.Is.stays _, Pj.Is.stays _, Pj.Is.stays _, Pj.Is.stays _, Pj.Is.stays _, Pj.Is.stays _, Pj.Is.stays _, Pj.Is.stays _, Pj.Is.stays _, Pj.Is.stays _, Pj.Is.stays _, Pj.Is.stays _, Pj.Is.stays _, trivial⟩
                            have HP := Lib.hid hP
                            clear hP
                            match i, ho with
                            | 0, ho =>
                              simp only [List.getElem?_toArray, List.getElem?_cons_zero, Option.some.injEq] at ho
                              obtain ⟨c0, c1, c2⟩ := HS4.out _ (HKr.out.trans hJ.kp)
                              have HJ := Lib.hid hJ
                              clear hJ
                              subst ho
                              refine Pj.Step.free rfl ?_
                              simp only [Pj.puts, List.foldl_cons, List.foldl_nil, Act.put, List.setIfInBounds_toArray, List.set_cons_zero, List.set_cons_succ]
                              go_simp
                              exact hK _ _ ⟨Pj.vset V 0 (.agg #[.int .i64 (kn : Int), .int .i64 m, .int .i64 s]), by simp only [Pj.puts, List.foldl_cons, List.foldl_nil, Act.put, List.setIfInBounds_toArray, List.set_cons_zero, List.set_cons_succ, Pj.vset, Nat.reduceEqDiff, if_true, if_false], HJ.out.more HP.out hL (Kept.refl _) (rfl)⟩
                            | 1, ho =>
                              simp only [List.getElem?_toArray, List.getElem?_cons_zero, List.getElem?_cons_succ, Option.some.injEq] at ho
                              have HJ := Lib.hid hJ
                              clear hJ
                              subst ho
                              refine Pj.Step.free rfl ?_
                              simp only [Pj.puts, List.foldl_cons, List.foldl_nil, Act.put, List.setIfInBounds_toArray, List.set_cons_zero, List.set_cons_succ]
                              go_simp
                              exact hK _ _ ⟨Pj.vset V 1 (.slice ax kn cx9), by simp only [Pj.puts, List.foldl_cons, List.foldl_nil, Act.put, List.setIfInBounds_toArray, List.set_cons_zero, List.set_cons_succ, Pj.vset, Nat.reduceEqDiff, if_true, if_false], HJ.out.more HP.out hL (Kept.refl _) (rfl)⟩
                            | 2, ho =>
                              simp only [List.getElem?_toArray, List.getElem?_cons_zero, List.getElem?_cons_succ, Option.some.injEq] at ho
                              have HJ := Lib.hid hJ
                              clear hJ
                              subst ho
                              refine Pj.Step.free rfl ?_
                              simp only [Pj.puts, List.foldl_cons, List.foldl_nil, Act.put, List.setIfInBounds_toArray, List.set_cons_zero, List.set_cons_succ]
                              go_simp
                              exact hK _ _ ⟨Pj.vset V 2 (.slice (some ⟨bp, op9, none⟩) N cp), by simp only [Pj.puts, List.foldl_cons, List.foldl_nil, Act.put, List.setIfInBounds_toArray, List.set_cons_zero, List.set_cons_succ, Pj.vset, Nat.reduceEqDiff, if_true, if_false], HJ.out.more HP.out hL (Kept.refl _) (rfl)⟩
                            | 3, ho =>
                              simp only [List.getElem?_toArray, List.getElem?_cons_zero, List.getElem?_cons_succ, Option.some.injEq] at ho
                              have HJ := Lib.hid hJ
                              clear hJ
                              subst ho
                              refine Pj.Step.free rfl ?_
                              simp only [Pj.puts, List.foldl_cons, List.foldl_nil, Act.put, List.setIfInBounds_toArray, List.set_cons_zero, List.set_cons_succ]
                              go_simp
                              exact hK _ _ ⟨Pj.vset V 3 (.int .i64 (z : Int)), by simp only [Pj.puts, List.foldl_cons, List.foldl_nil, Act.put, List.setIfInBounds_toArray, List.set_cons_zero, List.set_cons_succ, Pj.vset, Nat.reduceEqDiff, if_true, if_false], HJ.out.more HP.out hL (Kept.refl _) (rfl)⟩
                            | 4, ho =>
                              simp only [List.getElem?_toArray, List.getElem?_cons_zero, List.getElem?_cons_succ, Option.some.injEq] at ho
                              have e2 : V 2 = .slice (some ⟨bp, op9, none⟩) N cp := hJ.h 2 (hdep 2 (by rw [← ho]; kernel_rfl))
                              have e3 : V 3 = .int .i64 (z : Int) := hJ.h 3 (hdep 3 (by rw [← ho]; kernel_rfl))
                              have HJ := Lib.hid hJ
                              clear hJ
                              subst ho
                              refine Pj.Step.free rfl ?_
                              simp only [Pj.puts, List.foldl_cons, List.foldl_nil, Act.put, List.setIfInBounds_toArray, List.set_cons_zero, List.set_cons_succ, e2, e3]
                              go_simp
                              exact hK _ _ ⟨Pj.vset V 4 (.pointer (some ⟨bp, op9 + z, none⟩)), by simp only [Pj.puts, List.foldl_cons, List.foldl_nil, Act.put, List.setIfInBounds_toArray, List.set_cons_zero, List.set_cons_succ, Pj.vset, Nat.reduceEqDiff, if_true, if_false, e2, e3], HJ.out.more HP.out hL (Kept.refl _) (rfl)⟩
                            | 5, ho =>
                              simp only [List.getElem?_toArray, List.getElem?_cons_zero, List.getElem?_cons_succ, Option.some.injEq] at ho
                              have e4 : V 4 = .pointer (some ⟨bp, op9 + z, none⟩) := hJ.h 4 (hdep 4 (by rw [← ho]; kernel_rfl))
                              have cx := HPC.out _ (HKz.out.trans hJ.kp)
                              have HJ := Lib.hid hJ
                              clear hJ
                              subst ho
                              refine Pj.Step.free rfl ?_
                              simp only [Pj.puts, List.foldl_cons, List.foldl_nil, Act.put, List.setIfInBounds_toArray, List.set_cons_zero, List.set_cons_succ, e4]
                              go_simp
                              exact hK _ _ ⟨Pj.vset V 5 (.string p), by simp only [Pj.puts, List.foldl_cons, List.foldl_nil, Act.put, List.setIfInBounds_toArray, List.set_cons_zero, List.set_cons_succ, Pj.vset, Nat.reduceEqDiff, if_true, if_false, e4], HJ.out.more HP.out hL (Kept.refl _) (rfl)⟩
                            | 6, ho =>
                              simp only [List.getElem?_toArray, List.getElem?_cons_zero, List.getElem?_cons_succ, Option.some.injEq] at ho
                              have e5 : V 5 = .string p := hJ.h 5 (hdep 5 (by rw [← ho]; kernel_rfl))
                              have HJ := Lib.hid hJ
                              clear hJ
                              subst ho
                              refine Pj.Step.free rfl ?_
                              simp only [Pj.puts, List.foldl_cons, List.foldl_nil, Act.put, List.setIfInBounds_toArray, List.set_cons_zero, List.set_cons_succ, e5]
                              go_simp
                              exact hK _ _ ⟨Pj.vset V 6 (.int .i64 (p.size : Int)), by simp only [Pj.puts, List.foldl_cons, List.foldl_nil, Act.put, List.setIfInBounds_toArray, List.set_cons_zero, List.set_cons_succ, Pj.vset, Nat.reduceEqDiff, if_true, if_false, e5], HJ.out.more HP.out hL (Kept.refl _) (rfl)⟩
                            | 7, ho =>
                              simp only [List.getElem?_toArray, List.getElem?_cons_zero, List.getElem?_cons_succ, Option.some.injEq] at ho
                              have e0 : V 0 = .agg #[.int .i64 (kn : Int), .int .i64 m, .int .i64 s] := hJ.h 0 (hdep 0 (by rw [← ho]; kernel_rfl))
                              have e1 : V 1 = .slice ax kn cx9 := hJ.h 1 (hdep 1 (by rw [← ho]; kernel_rfl))
                              have e6 : V 6 = .int .i64 (p.size : Int) := hJ.h 6 (hdep 6 (by rw [← ho]; kernel_rfl))
                              have hjn := HJO.out w ax cx9 (HXS.out.kept hJ.kp) HXC.out
                              have HJ := Lib.hid hJ
                              clear hJ
                              subst ho
                              refine Pj.Step.free rfl ?_
                              simp only [Pj.puts, List.foldl_cons, List.foldl_nil, Act.put, List.setIfInBounds_toArray, List.set_cons_zero, List.set_cons_succ, e0, e1, e6]
                              go_simp
                              refine hjn.mono ?_
                              rintro e w' ⟨rfl, hk9⟩
                              exact hK _ _ ⟨Pj.vset V 7 (.tuple #[.string p, .int .i64 0]), by simp only [Pj.puts, List.foldl_cons, List.foldl_nil, Act.put, List.setIfInBounds_toArray, List.set_cons_zero, List.set_cons_succ, Pj.vset, Nat.reduceEqDiff, if_true, if_false, e0, e1, e6], HJ.out.more HP.out hL (hk9) (rfl)⟩
                            | 8, ho =>
                              simp only [List.getElem?_toArray, List.getElem?_cons_zero, List.getElem?_cons_succ, Option.some.injEq] at ho
                              have e7 : V 7 = .tuple #[.string p, .int .i64 0] := hJ.h 7 (hdep 7 (by rw [← ho]; kernel_rfl))
                              have HJ := Lib.hid hJ
                              clear hJ
                              subst ho
                              refine Pj.Step.free rfl ?_
                              simp only [Pj.puts, List.foldl_cons, List.foldl_nil, Act.put, List.setIfInBounds_toArray, List.set_cons_zero, List.set_cons_succ, e7]
                              go_simp
                              exact hK _ _ ⟨Pj.vset V 8 (.tuple #[.string p, .int .i64 0]), by simp only [Pj.puts, List.foldl_cons, List.foldl_nil, Act.put, List.setIfInBounds_toArray, List.set_cons_zero, List.set_cons_succ, Pj.vset, Nat.reduceEqDiff, if_true, if_false, e7], HJ.out.more HP.out hL (Kept.refl _) (rfl)⟩
                            | 9, ho =>
                              simp only [List.getElem?_toArray, List.getElem?_cons_zero, List.getElem?_cons_succ, Option.some.injEq] at ho
                              have e8 : V 8 = .tuple #[.string p, .int .i64 0] := hJ.h 8 (hdep 8 (by rw [← ho]; kernel_rfl))
                              have HJ := Lib.hid hJ
                              clear hJ
                              subst ho
                              refine Pj.Step.free rfl ?_
                              simp only [Pj.puts, List.foldl_cons, List.foldl_nil, Act.put, List.setIfInBounds_toArray, List.set_cons_zero, List.set_cons_succ, e8]
                              go_simp
                              exact hK _ _ ⟨Pj.vset V 9 (.string p), by simp only [Pj.puts, List.foldl_cons, List.foldl_nil, Act.put, List.setIfInBounds_toArray, List.set_cons_zero, List.set_cons_succ, Pj.vset, Nat.reduceEqDiff, if_true, if_false, e8], HJ.out.more HP.out hL (Kept.refl _) (rfl)⟩
                            | 10, ho =>
                              simp only [List.getElem?_toArray, List.getElem?_cons_zero, List.getElem?_cons_succ, Option.some.injEq] at ho
                              have e8 : V 8 = .tuple #[.string p, .int .i64 0] := hJ.h 8 (hdep 8 (by rw [← ho]; kernel_rfl))
                              have HJ := Lib.hid hJ
                              clear hJ
                              subst ho
                              refine Pj.Step.free rfl ?_
                              simp only [Pj.puts, List.foldl_cons, List.foldl_nil, Act.put, List.setIfInBounds_toArray, List.set_cons_zero, List.set_cons_succ, e8]
                              go_simp
                              exact hK _ _ ⟨Pj.vset V 10 (.int .i64 0), by simp only [Pj.puts, List.foldl_cons, List.foldl_nil, Act.put, List.setIfInBounds_toArray, List.set_cons_zero, List.set_cons_succ, Pj.vset, Nat.reduceEqDiff, if_true, if_false, e8], HJ.out.more HP.out hL (Kept.refl _) (rfl)⟩
                            | 11, ho =>
                              simp only [List.getElem?_toArray, List.getElem?_cons_zero, List.getElem?_cons_succ, Option.some.injEq] at ho
                              have e9 : V 9 = .string p := hJ.h 9 (hdep 9 (by rw [← ho]; kernel_rfl))
                              have HJ := Lib.hid hJ
                              clear hJ
                              subst ho
                              refine Pj.Step.free rfl ?_
                              simp only [Pj.puts, List.foldl_cons, List.foldl_nil, Act.put, List.setIfInBounds_toArray, List.set_cons_zero, List.set_cons_succ, e9]
                              go_simp
                              exact hK _ _ ⟨Pj.vset V 11 (.string p), by simp only [Pj.puts, List.foldl_cons, List.foldl_nil, Act.put, List.setIfInBounds_toArray, List.set_cons_zero, List.set_cons_succ, Pj.vset, Nat.reduceEqDiff, if_true, if_false, e9], HJ.out.more HP.out hL (Kept.refl _) (rfl)⟩
                            | 12, ho =>
                              simp only [List.getElem?_toArray, List.getElem?_cons_zero, List.getElem?_cons_succ, Option.some.injEq] at ho
                              have e10 : V 10 = .int .i64 0 := hJ.h 10 (hdep 10 (by rw [← ho]; kernel_rfl))
                              have HJ := Lib.hid hJ
                              clear hJ
                              subst ho
                              refine Pj.Step.free rfl ?_
                              simp only [Pj.puts, List.foldl_cons, List.foldl_nil, Act.put, List.setIfInBounds_toArray, List.set_cons_zero, List.set_cons_succ, e10]
                              go_simp
                              exact hK _ _ ⟨Pj.vset V 12 (.int .i64 0), by simp only [Pj.puts, List.foldl_cons, List.foldl_nil, Act.put, List.setIfInBounds_toArray, List.set_cons_zero, List.set_cons_succ, Pj.vset, Nat.reduceEqDiff, if_true, if_false, e10], HJ.out.more HP.out hL (Kept.refl _) (rfl)⟩
                            | n + 13, ho => simp at ho
                          case ehe =>
                            rintro L a w ⟨V, rfl, hJ⟩ hall
                            have e11 : V 11 = .string p := hJ.h 11 (hall 11 (by decide))
                            have e12 : V 12 = .int .i64 0 := hJ.h 12 (hall 12 (by decide))
                            have HKj := Lib.hid hJ.kp
                            clear hJ hall
                            simp only [Pj.puts, List.foldl_cons, List.foldl_nil, Act.put, List.setIfInBounds_toArray, List.set_cons_zero, List.set_cons_succ, e11, e12]
                            clear e11 e12
                            have HKs := Lib.hid (HKr.out.trans HKj.out)
                            have HKt := Lib.hid (HKz.out.trans HKj.out)
                            clear HKj
                            obtain ⟨c0, c1, c2⟩ := HS4.out _ HKs.out
                            have hkk : ((kn : Int) != (kn : Int)) = false := by simp
                            go_wp2_with fail
                            refine (num7_any _ _).mono ?_
                            rintro e w' ⟨rfl, rfl⟩
                            go_wp2_with fail
                            refine (num7_any _ _).mono ?_
                            rintro e w' ⟨rfl, rfl⟩
                            obtain ⟨v, hv⟩ : ∃ v, cat ((pcs t q).take (z + 1)) = v := ⟨_, rfl⟩
                            obtain ⟨u, hu⟩ : ∃ u, cat ((pcs t q).take z) = u := ⟨_, rfl⟩
                            have huz : u.size ≤ 2000 := by rw [← hu, HCT.out z (by omega), ByteArray.size_extract]; omega
                            have hvu : v = u ++ p := by rw [← hv, ← hu]; exact HSN.out
                            have hA : ∀ w : World, (Op.stringOp .add u p).run Try.prog w = .ok (.string v) w := fun w => by rw [hvu]; exact run_string_add_sum _ _ _ (by omega)
                            have HV := Lib.hid hv
                            have HKw := Lib.hid (HKp.out.trans HKt.out)
                            rw [hu]
                            clear hv hu hvu
                            go_wp2
                            go_roundw
                            case rel => exact ⟨z + 1, by omega, by go_num, by rw [HV.out], HKw.out⟩
                            case measure => simp [intOf]; omega
                      · obtain rfl : z = N := by omega
                        have hdz : decide ((z : Int) < z) = false := decide_eq_false (by omega)
                        have hfin : cat ((pcs t q).take z) = t := by rw [List.take_of_length_le (by rw [pcs_length, HNN.out]; omega)]; exact cat_pcs t q hq1
                        rw [hfin]
                        clear hfin
                        have HKf := Lib.hid (HKb.out.trans HKp.out)
                        go_wp2
                        go_roundw
                        case rel => exact ⟨y + 1, by omega, by omega, by go_num, HKf.out⟩
                        case measure => simp [intOf]; omega
                  · have HPL := Lib.hid (fun w => parts_long k m s t hs (by omega) w)
                    clear hs
                    go_wp2_with fail
                    refine (HPL.out _).mono ?_
                    rintro e w5 ⟨rfl, hk5⟩
                    have HK6 := Lib.hid (HKx.out.trans hk5)
                    clear hk5 c0 c1 c2 a0 a1 a2 a3 ct
                    go_wp2_with fail
                    refine (num7_any _ _).mono ?_
                    rintro e w' ⟨rfl, rfl⟩
                    go_wp2
                    go_roundw
                    case rel => exact ⟨y + 1, by omega, by omega, by go_num, HK6.out⟩
                    case measure => simp [intOf]; omega
                · have HPB := Lib.hid (fun w => parts_bad k m s t hs w)
                  clear hs
                  go_wp2_with fail
                  refine (HPB.out _).mono ?_
                  rintro e w5 ⟨rfl, hk5⟩
                  have HK6 := Lib.hid (HKx.out.trans hk5)
                  clear hk5 c0 c1 c2 a0 a1 a2 a3 ct
                  go_wp2_with fail
                  refine (num7_any _ _).mono ?_
                  rintro e w' ⟨rfl, rfl⟩
                  go_wp2
                  go_roundw
                  case rel => exact ⟨y + 1, by omega, by omega, by go_num, HK6.out⟩
                  case measure => simp [intOf]; omega
              · have hdy4 : decide ((y : Int) < 4) = false := decide_eq_false (by omega)
                go_wp2
                go_roundw
                case rel => exact ⟨j + 1, by omega, by go_num, HKa.out.trans HKx.out⟩
                case measure => simp [intOf]; omega
            · have hdy : decide ((y : Int) < ll) = false := decide_eq_false (by omega)
              go_wp2
              go_roundw
              case rel => exact ⟨j + 1, by omega, by go_num, HKa.out.trans HKx.out⟩
              case measure => simp [intOf]; omega
        · have hd1 : decide ((j : Int) < ls) = true := decide_eq_true (by omega)
          have hd2 : decide ((j : Int) < 4) = false := decide_eq_false (by omega)
          go_wp2_with fail
          refine (wakes7_any _).mono ?_
          rintro e w3 ⟨rfl, hk3⟩
          have HK3 := Lib.hid (HK.out.trans hk3)
          clear hk3 a0 a1 a2 a3
          go_wp2
          go_ret
          exact ⟨rfl, HK1.out.trans HK3.out⟩
      · have hd1 : decide ((j : Int) < ls) = false := decide_eq_false (by omega)
        go_wp2_with fail
        refine (wakes7_any _).mono ?_
        rintro e w3 ⟨rfl, hk3⟩
        have HK3 := Lib.hid (HK.out.trans hk3)
        clear hk3 a0 a1 a2 a3
        go_wp2
        go_ret
        exact ⟨rfl, HK1.out.trans HK3.out⟩
end Go.Proofs.Ytlncjheifkbomaa
