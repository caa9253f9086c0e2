/- silolaw10.ArrayExact (no conditions). -/
import Derived.Test.YtkfomaoillnehaaVc
import Derived.Test.YtkfomaoillnehaaJq
namespace Go.Proofs.Ytkfomaoillnehaa
open Go.RowKit
attribute [local go_sem] Oper.semAt_some
set_option maxRecDepth 100000 in
set_option maxHeartbeats 4000000 in
theorem array_exact (m nn : Int) (a : Option Addr) (len cap : Nat) (xs : List Ac) (W : World) (hm : -9223372036854775808 ≤ m ∧ m ≤ 9223372036854775807) (hn : -9223372036854775808 ≤ nn ∧ nn ≤ 9223372036854775807) (h : ActsIn W a len xs) :
    Calls Try.prog 3 #[.agg #[.int .i64 m, .int .i64 nn, .slice a len cap]] W fun e w' => e = .returned (.bool true) ∧ Kept W w' := by
  have hfew := h.few
  have HM := Lib.hid (And.intro hm hn)
  have HA := Lib.hid h
  have HK1 := Lib.hid ((Kept.refl W).alloc (.cells #[.int .i64 m, .int .i64 nn, .slice a len cap] 24))
  have c0 := BlockAt.new W #[.int .i64 m, .int .i64 nn, .slice a len cap] 24
  obtain ⟨B1, hB1⟩ : ∃ B1, B1 = (decide (1 ≤ m) && decide (m ≤ 12)) := ⟨_, rfl⟩
  obtain ⟨B2, hB2⟩ : ∃ B2, B2 = (decide (1 ≤ nn) && decide (nn ≤ 2048)) := ⟨_, rfl⟩
  have HBT1 := Lib.hid (fun w => show Calls Try.prog 10 #[.int .i64 m, .int .i64 1, .int .i64 12] w fun e w' => e = .returned (.bool B1) ∧ w = w' by rw [hB1]; exact between_md m 1 12 w)
  have HBT2 := Lib.hid (fun w => show Calls Try.prog 10 #[.int .i64 nn, .int .i64 1, .int .i64 2048] w fun e w' => e = .returned (.bool B2) ∧ w = w' by rw [hB2]; exact between_md nn 1 2048 w)
  have HNW := Lib.hid (fun w => show Calls Try.prog 9 #[.int .i64 m, .int .i64 nn] w fun e w' => ∃ v ec, e = .returned (.tuple #[.pointer v, .int .i64 ec]) ∧ (((B1 && B2) = true ∧ ec = 0 ∧ ∃ p, v = some ⟨p, 0, none⟩) ∨ ((B1 && B2) = false ∧ ec = 1 ∧ v = none)) ∧ Kept w w' by rw [hB1, hB2]; exact newx_any m nn w)
  obtain ⟨dm, hdm⟩ : ∃ dm : Nat, dm = 1 + wthn m 4 := ⟨_, rfl⟩
  obtain ⟨dn, hdn⟩ : ∃ dn : Nat, dn = 1 + wthn nn 5 := ⟨_, rfl⟩
  have HDM := Lib.hid (show 1 ≤ dm ∧ dm ≤ 4 ∧ 1 ≤ dn ∧ dn ≤ 5 by have := wthn_lt m (show 0 < 4 by decide); have := wthn_lt nn (show 0 < 5 by decide); omega)
  have HW4 := Lib.hid (fun w => within_ref m 4 (by omega) w)
  have HW5 := Lib.hid (fun w => within_ref nn 5 (by omega) w)
  have HWX := Lib.hid (show IntKind.i64.wrap (1 + (wthn m 4 : Nat)) = (dm : Int) ∧ IntKind.i64.wrap (1 + (wthn nn 5 : Nat)) = (dn : Int) by
    have := wthn_lt m (show 0 < 4 by decide); have := wthn_lt nn (show 0 < 5 by decide)
    rw [IntKind.wrap_i64, IntKind.wrap_i64]; omega)
  clear h hm hn hB1 hB2 hdm hdn
  go_enter Try.func3, Try.ntmps3
  go_upto_region 1 with (fail)
  generalize W.alloc (.cells #[.int .i64 m, .int .i64 nn, .slice a len cap] 24) = w1 at *
  obtain ⟨q, hq⟩ : ∃ q, q = W.heap.size := ⟨_, rfl⟩
  rw [← hq] at c0 ⊢
  have HB := Lib.hid c0
  clear hq
  obtain ⟨a0, a1, a2⟩ := box3a c0
  clear c0
  go_wp2_with fail
  refine (heavy10_any m nn a len cap xs _ (HA.out.below HK1.out (Nat.le_refl _))).mono ?_
  rintro e w2 ⟨he, hk2⟩
  have HK2 := Lib.hid hk2
  clear a0 a1 a2
  obtain ⟨a0, a1, a2⟩ := box3a (HB.out.kept hk2)
  clear hk2
  rcases he with rfl | ⟨rfl, hs⟩
  · go_wp2
    go_ret
    exact ⟨rfl, HK1.out.trans HK2.out⟩
  · have HS := Lib.hid hs
    clear hs
    go_wp2_with fail
    refine (HNW.out _).mono ?_
    rintro e w3 ⟨v, ec, rfl, hv, hk3⟩
    have HV := Lib.hid hv
    have HK3 := Lib.hid (HK2.out.trans hk3)
    clear a0 a1 a2 hv
    obtain ⟨a0, a1, a2⟩ := box3a (HB.out.kept (HK2.out.trans hk3))
    clear hk3 HK2 HNW
    go_upto_region 4 with (fail)
    go_cut [37] (fun t wx => t = .bool (!(B1 && B2)) ∧ w3 = wx)
    case first =>
      clear HV
      cases B1 <;> cases B2
      all_goals go_wp2_with fail
      all_goals refine (HBT1.out _).mono ?_
      all_goals rintro e w4 ⟨rfl, rfl⟩
      all_goals go_wp2_with fail
      all_goals (try (refine (HBT2.out _).mono ?_; rintro e w4 ⟨rfl, rfl⟩; go_wp2_with fail))
      all_goals (go_meet; exact ⟨rfl, rfl⟩)
    case rest =>
      obtain ⟨rfl, rfl⟩ := hcut
      clear HBT1 HBT2
      go_upto_if 37 with (fail)
      go_cut [] (fun wx => w3 = wx)
      case first =>
        clear a0 a1 a2
        have hv := HV.out
        clear HV
        generalize (B1 && B2) = BB at *
        rcases hv with ⟨rfl, rfl, p, rfl⟩ | ⟨rfl, rfl, rfl⟩
        all_goals
          go_wp2_with fail
          refine (num10_any _ _).mono ?_
          rintro e w4 ⟨rfl, rfl⟩
          go_wp2_with fail
          go_meet
          exact rfl
      case rest =>
        obtain rfl := hcut
        clear HV
        obtain ⟨hx1, hx2⟩ := HWX.out
        go_upto_region 9 with (fail)
        go_quiet ((go_at_call 12; first | with_reducible exact quietly (HW4.out _) | with_reducible exact quietly (HW5.out _)))
        have HK4 := Lib.hid (HK3.out.drewN nq)
        clear hx1 hx2 a0 a1 a2 HK3 HWX HW4 HW5
        generalize w3.drewN nq = w4 at *
        go_wp2_with fail
        have hdm := HDM.out
        refine (new_good dm dn (by omega) (by omega) (by omega) (by omega) _).mono ?_
        rintro e w5 ⟨pa, DA, KA, CA, rfl, hk5, ha, l1, l2, l3⟩
        have HK5 := Lib.hid (HK4.out.trans hk5)
        have HAA := Lib.hid (And.intro hk5 (And.intro ha (And.intro l1 (And.intro l2 l3))))
        clear hk5 ha l1 l2 l3 hdm
        go_wp2_with fail
        refine (num10_any _ _).mono ?_
        rintro e w6 ⟨rfl, rfl⟩
        go_wp2_with fail
        have hdm := HDM.out
        refine (new_ar dm dn (by omega) (by omega) (by omega) (by omega) _).mono ?_
        rintro e w6 ⟨pr, A, D, E, KR, CR, rfl, hk6, hr, r1, r2, r3, r4, r5⟩
        have HT0 := Lib.hid (show Two w1.heap.size w6 pa DA KA CA pr A D E KR CR (newA dm dn) (newA dm dn) from by
          obtain ⟨hk5, ha, l1, l2, l3⟩ := HAA.out
          exact two_new ha hr hk6 (Kept.size HK4.out) hk5 l1 l2 l3 r1 r2 r3 r4 r5)
        have HK6 := Lib.hid (HK5.out.trans hk6)
        clear hk6 hr r1 r2 r3 r4 r5 HAA HK5 HK4 hdm
        have HX := Lib.hid (fun i (hi : i < len) => show ∃ b off, a = some ⟨b, off, none⟩ ∧ ∀ w', Below w1.heap.size w1 w' → ActCell w' b (off + i * 6) (xs.getD i ac00) from by
          obtain ⟨b, off, ha, hc⟩ := (HA.out.below HK1.out (Nat.le_refl _)).cells
          exact ⟨b, off, ha (by omega), fun w' k => (hc i hi).below k (Nat.le_refl _)⟩)
        go_wp2_with fail

        go_loopw [10] (fun i wr => ∃ (k : Nat) (S : Arr) (KA CA KR CR : Nat → Nat), k ≤ len ∧ k ≤ 40 ∧ i = .int .i64 k ∧ Two w1.heap.size wr pa DA KA CA pr A D E KR CR S S ∧ InvA dm dn k S ∧ Below w1.heap.size w1 wr) (fun i _ => len - (intOf i).toNat)
        case atStart => exact ⟨0, newA dm dn, KA, CA, KR, CR, by omega, by omega, rfl, HT0.out, newA_inv dm dn, HK6.out⟩
        case round =>
          clear HT0 HK6
          rename World => wr
          obtain ⟨k, S, KA, CA, KR, CR, hk, hk4, rfl, ht, hi, hb⟩ := hrel
          have HT := Lib.hid ht
          have HI := Lib.hid hi
          have HL := Lib.hid hb
          obtain ⟨a0, a1, a2⟩ := box3a (HB.out.kept hb)
          clear ht hi hb
          by_cases hlt : k < len ∧ k < 40
          · obtain ⟨hl1, hl2⟩ := hlt
            have hd1 : decide (k < len) = true := decide_eq_true hl1
            have hd2 : decide ((k : Int) < (len : Int)) = true := decide_eq_true (by omega)
            have hd3 : decide ((k : Int) < 40) = true := decide_eq_true (by omega)
            obtain ⟨bt, of, rfl, hct⟩ := HX.out k hl1
            obtain ⟨al, cl, hbd, hfx⟩ := (hct w1 (Below.refl _ _)).fix (Nat.le_refl _)
            have HFX := Lib.hid hfx
            have HBD := Lib.hid hbd
            clear hct hbd hfx
            obtain ⟨_, c0, c1, c2, c3, c4, c5⟩ := HFX.out wr HL.out
            have HFW := Lib.hid (HS.out.2 k hl1)
            generalize xs.getD k ac00 = x at *
            obtain ⟨xk, xd, xs9, xn, xt, xl⟩ := x
            dsimp only at c0 c1 c2 c3 c4 c5 HFW HFX HBD
            go_upto_region 18 with (fail)
            have HB9 := Lib.hid (BlockAt.new wr #[.int .i64 xk, .int .i64 xd, .int .i64 xs9, .int .i64 xn, .string xt, .slice al xl.length cl] 37)
            have HK9 := Lib.hid ((Kept.refl wr).alloc (.cells #[.int .i64 xk, .int .i64 xd, .int .i64 xs9, .int .i64 xn, .string xt, .slice al xl.length cl] 37))
            obtain ⟨px, hpx⟩ : ∃ px, px = wr.heap.size := ⟨_, rfl⟩
            rw [← hpx] at HB9 ⊢
            have HPX := Lib.hid hpx
            clear hpx a0 a1 a2 c0 c1 c2 c3 c4 c5
            generalize wr.alloc (.cells #[.int .i64 xk, .int .i64 xd, .int .i64 xs9, .int .i64 xn, .string xt, .slice al xl.length cl] 37) = wa at *
            by_cases hz : 0 < (k : Int) % 6
            · have hd4 : decide ((k : Int) % 6 > 0) = true := decide_eq_true hz
              have hd5 : decide (0 < (k : Int) % 6) = true := decide_eq_true hz
              obtain ⟨d1, hdd⟩ : ∃ d1 : Nat, d1 = wthn xd dm := ⟨_, rfl⟩
              obtain ⟨s1, hss⟩ : ∃ s1 : Nat, s1 = wthn xs9 dn := ⟨_, rfl⟩
              have HWD := Lib.hid (fun w => show Calls Try.prog 12 #[.int .i64 xd, .int .i64 dm] w fun e w' => e = .returned (.int .i64 d1) ∧ w = w' by rw [hdd]; exact within_ref xd dm (by have := HDM.out; omega) w)
              have HWS := Lib.hid (fun w => show Calls Try.prog 12 #[.int .i64 xs9, .int .i64 dn] w fun e w' => e = .returned (.int .i64 s1) ∧ w = w' by rw [hss]; exact within_ref xs9 dn (by have := HDM.out; omega) w)
              have HLT := Lib.hid (show d1 < dm ∧ s1 < dn from ⟨by rw [hdd]; exact wthn_lt _ (by have := HDM.out; omega), by rw [hss]; exact wthn_lt _ (by have := HDM.out; omega)⟩)
              clear hz hdd hss
              go_upto_region 19 with (fail)
              clear hd4 hd5
              have HB8 := Lib.hid (show BlockAt (wa.drew.setCell ⟨px, 1, none⟩ (.int .i64 d1)) px #[.int .i64 xk, .int .i64 d1, .int .i64 xs9, .int .i64 xn, .string xt, .slice al xl.length cl] 37 from BlockAt.set (HB9.out.kept (Kept.refl wa).drew) _)
              have HB7 := Lib.hid (show BlockAt ((wa.drew.setCell ⟨px, 1, none⟩ (.int .i64 d1)).setCell ⟨px, 2, none⟩ (.int .i64 s1)) px #[.int .i64 xk, .int .i64 d1, .int .i64 s1, .int .i64 xn, .string xt, .slice al xl.length cl] 37 from BlockAt.set HB8.out _)
              have HK7 := Lib.hid (show Kept wr ((wa.drew.setCell ⟨px, 1, none⟩ (.int .i64 d1)).setCell ⟨px, 2, none⟩ (.int .i64 s1)) from (HK9.out.drew.setCell (by have := HPX.out; show wr.heap.size ≤ px; omega) _).setCell (by have := HPX.out; show wr.heap.size ≤ px; omega) _)
              have hf1 := HB9.out.free 1
              have hf2 := HB9.out.free 2
              have hf3 : (wa.setCell ⟨px, 1, none⟩ (.int .i64 d1)).frozen? ⟨px, 2, none⟩ = false := (BlockAt.set HB9.out (i := 1) (.int .i64 d1)).free 2
              have hc1 := HB9.out.cell 1
              have hc2 := HB9.out.cell 2
              have hc3 : (wa.setCell ⟨px, 1, none⟩ (.int .i64 d1)).cell? ⟨px, 2, none⟩ = some (.int .i64 xs9) := (BlockAt.set HB9.out (i := 1) (.int .i64 d1)).cell 2
              have HR1 := Lib.hid (show ∀ mq9, mq9 ≤ 0 → (fun W : World => W.cell? ⟨px, 1, none⟩ = some (.int .i64 xd)) ((fun mq9 => ([wa.drew, (wa.drew.setCell ⟨px, 1, none⟩ (.int .i64 d1)), ((wa.drew.setCell ⟨px, 1, none⟩ (.int .i64 d1)).setCell ⟨px, 2, none⟩ (.int .i64 s1))] : List World).getD mq9 (((wa.drew.setCell ⟨px, 1, none⟩ (.int .i64 d1)).setCell ⟨px, 2, none⟩ (.int .i64 s1)))) mq9) from by
                intro mq9 hmq9
                match mq9, hmq9 with
                | 0, _ => exact hc1
                | mq9 + 1, hmq9 => omega)
              have HR2 := Lib.hid (show ∀ mq9, mq9 ≤ 1 → (fun W : World => W.cell? ⟨px, 2, none⟩ = some (.int .i64 xs9)) ((fun mq9 => ([wa.drew, (wa.drew.setCell ⟨px, 1, none⟩ (.int .i64 d1)), ((wa.drew.setCell ⟨px, 1, none⟩ (.int .i64 d1)).setCell ⟨px, 2, none⟩ (.int .i64 s1))] : List World).getD mq9 (((wa.drew.setCell ⟨px, 1, none⟩ (.int .i64 d1)).setCell ⟨px, 2, none⟩ (.int .i64 s1)))) mq9) from by
                intro mq9 hmq9
                match mq9, hmq9 with
                | 0, _ => exact hc2
                | 1, _ => exact hc3
                | mq9 + 2, hmq9 => omega)
              refine Pj.wp_region_jq [(95, 0), (96, 1), (97, 2), (98, 3), (99, 4), (100, 5), (101, 6), (102, 7), (103, 8), (104, 10)] (fun j => ([.pointer (some ⟨px, 1, none⟩), .int .i64 xd, .int .i64 dm, .int .i64 d1, .pointer (some ⟨px, 2, none⟩), .int .i64 xs9, .int .i64 dn, .int .i64 s1, .pointer (some ⟨px, 1, none⟩), undef, .pointer (some ⟨px, 2, none⟩), undef] : List Value).getD j undef) [9, 11] (fun mq9 => ([wa.drew, (wa.drew.setCell ⟨px, 1, none⟩ (.int .i64 d1)), ((wa.drew.setCell ⟨px, 1, none⟩ (.int .i64 d1)).setCell ⟨px, 2, none⟩ (.int .i64 s1))] : List World).getD mq9 (((wa.drew.setCell ⟨px, 1, none⟩ (.int .i64 d1)).setCell ⟨px, 2, none⟩ (.int .i64 s1)))) (by as_aux_lemma => kernel_rfl) (by as_aux_lemma => kernel_rfl) (by decide) rfl ?eh0 ?ehs ?ehe
              case eh0 => exact ⟨_, Pj.puts_self _ (fun j => ([95, 96, 97, 98, 99, 100, 101, 102, 103, 0, 104, 0] : List Nat).getD j 0) [0, 1, 2, 3, 4, 5, 6, 7, 8, 10]⟩
              case ehs =>
                intro L L' V w iz opz Kq hJ ho hopen hdep hL hKq
                match iz, ho with
                | 0, ho =>
                  simp only [List.getElem?_toArray, List.getElem?_cons_zero, Option.some.injEq] at ho
                  have HJ := Lib.hid hJ
                  clear hJ
                  subst ho
                  refine Pj.Step.free rfl ?_
                  simp only [Pj.puts, List.foldl_cons, List.foldl_nil, Act.put, List.setIfInBounds_toArray, List.set_cons_zero, List.set_cons_succ]
                  go_simp
                  exact hKq _ _ ⟨Pj.vset V 0 (.pointer (some ⟨px, 1, none⟩)), by simp only [Pj.puts, List.foldl_cons, List.foldl_nil, Act.put, List.setIfInBounds_toArray, List.set_cons_zero, List.set_cons_succ, Pj.vset, Nat.reduceEqDiff, if_true, if_false], HJ.out.more (by decide) hL rfl⟩
                | 1, ho =>
                  simp only [List.getElem?_toArray, List.getElem?_cons_zero, List.getElem?_cons_succ, Option.some.injEq] at ho
                  have e0 : V 0 = .pointer (some ⟨px, 1, none⟩) := hJ.h 0 (hdep 0 (by rw [← ho]; kernel_rfl)) (by decide)
                  have hr : (fun W : World => W.cell? ⟨px, 1, none⟩ = some (.int .i64 xd)) w := hJ.rdLe hopen 0 (by decide) (by kernel_rfl) (R := fun W => W.cell? ⟨px, 1, none⟩ = some (.int .i64 xd)) HR1.out
                  change w.cell? ⟨px, 1, none⟩ = some (.int .i64 xd) at hr
                  have HJ := Lib.hid hJ
                  clear hJ
                  subst ho
                  refine Pj.Step.free rfl ?_
                  simp only [Pj.puts, List.foldl_cons, List.foldl_nil, Act.put, List.setIfInBounds_toArray, List.set_cons_zero, List.set_cons_succ, e0]
                  go_simp
                  exact hKq _ _ ⟨Pj.vset V 1 (.int .i64 xd), by simp only [Pj.puts, List.foldl_cons, List.foldl_nil, Act.put, List.setIfInBounds_toArray, List.set_cons_zero, List.set_cons_succ, Pj.vset, Nat.reduceEqDiff, if_true, if_false, e0], HJ.out.more (by decide) hL rfl⟩
                | 2, ho =>
                  simp only [List.getElem?_toArray, List.getElem?_cons_zero, List.getElem?_cons_succ, Option.some.injEq] at ho
                  have HJ := Lib.hid hJ
                  clear hJ
                  subst ho
                  refine Pj.Step.free rfl ?_
                  simp only [Pj.puts, List.foldl_cons, List.foldl_nil, Act.put, List.setIfInBounds_toArray, List.set_cons_zero, List.set_cons_succ]
                  go_simp
                  exact hKq _ _ ⟨Pj.vset V 2 (.int .i64 dm), by simp only [Pj.puts, List.foldl_cons, List.foldl_nil, Act.put, List.setIfInBounds_toArray, List.set_cons_zero, List.set_cons_succ, Pj.vset, Nat.reduceEqDiff, if_true, if_false], HJ.out.more (by decide) hL rfl⟩
                | 3, ho =>
                  simp only [List.getElem?_toArray, List.getElem?_cons_zero, List.getElem?_cons_succ, Option.some.injEq] at ho
                  have e1 : V 1 = .int .i64 xd := hJ.h 1 (hdep 1 (by rw [← ho]; kernel_rfl)) (by decide)
                  have e2 : V 2 = .int .i64 dm := hJ.h 2 (hdep 2 (by rw [← ho]; kernel_rfl)) (by decide)
                  have HJ := Lib.hid hJ
                  clear hJ
                  subst ho
                  refine Pj.Step.free rfl ?_
                  simp only [Pj.puts, List.foldl_cons, List.foldl_nil, Act.put, List.setIfInBounds_toArray, List.set_cons_zero, List.set_cons_succ, e1, e2]
                  go_simp
                  refine (HWD.out w).mono ?_
                  rintro e w' ⟨rfl, rfl⟩
                  exact hKq _ _ ⟨Pj.vset V 3 (.int .i64 d1), by simp only [Pj.puts, List.foldl_cons, List.foldl_nil, Act.put, List.setIfInBounds_toArray, List.set_cons_zero, List.set_cons_succ, Pj.vset, Nat.reduceEqDiff, if_true, if_false, e1, e2], HJ.out.more (by decide) hL rfl⟩
                | 4, ho =>
                  simp only [List.getElem?_toArray, List.getElem?_cons_zero, List.getElem?_cons_succ, Option.some.injEq] at ho
                  have HJ := Lib.hid hJ
                  clear hJ
                  subst ho
                  refine Pj.Step.free rfl ?_
                  simp only [Pj.puts, List.foldl_cons, List.foldl_nil, Act.put, List.setIfInBounds_toArray, List.set_cons_zero, List.set_cons_succ]
                  go_simp
                  exact hKq _ _ ⟨Pj.vset V 4 (.pointer (some ⟨px, 2, none⟩)), by simp only [Pj.puts, List.foldl_cons, List.foldl_nil, Act.put, List.setIfInBounds_toArray, List.set_cons_zero, List.set_cons_succ, Pj.vset, Nat.reduceEqDiff, if_true, if_false], HJ.out.more (by decide) hL rfl⟩
                | 5, ho =>
                  simp only [List.getElem?_toArray, List.getElem?_cons_zero, List.getElem?_cons_succ, Option.some.injEq] at ho
                  have e4 : V 4 = .pointer (some ⟨px, 2, none⟩) := hJ.h 4 (hdep 4 (by rw [← ho]; kernel_rfl)) (by decide)
                  have hr : (fun W : World => W.cell? ⟨px, 2, none⟩ = some (.int .i64 xs9)) w := hJ.rdLe hopen 1 (by decide) (by kernel_rfl) (R := fun W => W.cell? ⟨px, 2, none⟩ = some (.int .i64 xs9)) HR2.out
                  change w.cell? ⟨px, 2, none⟩ = some (.int .i64 xs9) at hr
                  have HJ := Lib.hid hJ
                  clear hJ
                  subst ho
                  refine Pj.Step.free rfl ?_
                  simp only [Pj.puts, List.foldl_cons, List.foldl_nil, Act.put, List.setIfInBounds_toArray, List.set_cons_zero, List.set_cons_succ, e4]
                  go_simp
                  exact hKq _ _ ⟨Pj.vset V 5 (.int .i64 xs9), by simp only [Pj.puts, List.foldl_cons, List.foldl_nil, Act.put, List.setIfInBounds_toArray, List.set_cons_zero, List.set_cons_succ, Pj.vset, Nat.reduceEqDiff, if_true, if_false, e4], HJ.out.more (by decide) hL rfl⟩
                | 6, ho =>
                  simp only [List.getElem?_toArray, List.getElem?_cons_zero, List.getElem?_cons_succ, Option.some.injEq] at ho
                  have HJ := Lib.hid hJ
                  clear hJ
                  subst ho
                  refine Pj.Step.free rfl ?_
                  simp only [Pj.puts, List.foldl_cons, List.foldl_nil, Act.put, List.setIfInBounds_toArray, List.set_cons_zero, List.set_cons_succ]
                  go_simp
                  exact hKq _ _ ⟨Pj.vset V 6 (.int .i64 dn), by simp only [Pj.puts, List.foldl_cons, List.foldl_nil, Act.put, List.setIfInBounds_toArray, List.set_cons_zero, List.set_cons_succ, Pj.vset, Nat.reduceEqDiff, if_true, if_false], HJ.out.more (by decide) hL rfl⟩
                | 7, ho =>
                  simp only [List.getElem?_toArray, List.getElem?_cons_zero, List.getElem?_cons_succ, Option.some.injEq] at ho
                  have e5 : V 5 = .int .i64 xs9 := hJ.h 5 (hdep 5 (by rw [← ho]; kernel_rfl)) (by decide)
                  have e6 : V 6 = .int .i64 dn := hJ.h 6 (hdep 6 (by rw [← ho]; kernel_rfl)) (by decide)
                  have HJ := Lib.hid hJ
                  clear hJ
                  subst ho
                  refine Pj.Step.free rfl ?_
                  simp only [Pj.puts, List.foldl_cons, List.foldl_nil, Act.put, List.setIfInBounds_toArray, List.set_cons_zero, List.set_cons_succ, e5, e6]
                  go_simp
                  refine (HWS.out w).mono ?_
                  rintro e w' ⟨rfl, rfl⟩
                  exact hKq _ _ ⟨Pj.vset V 7 (.int .i64 s1), by simp only [Pj.puts, List.foldl_cons, List.foldl_nil, Act.put, List.setIfInBounds_toArray, List.set_cons_zero, List.set_cons_succ, Pj.vset, Nat.reduceEqDiff, if_true, if_false, e5, e6], HJ.out.more (by decide) hL rfl⟩
                | 8, ho =>
                  simp only [List.getElem?_toArray, List.getElem?_cons_zero, List.getElem?_cons_succ, Option.some.injEq] at ho
                  have HJ := Lib.hid hJ
                  clear hJ
                  subst ho
                  refine Pj.Step.free rfl ?_
                  simp only [Pj.puts, List.foldl_cons, List.foldl_nil, Act.put, List.setIfInBounds_toArray, List.set_cons_zero, List.set_cons_succ]
                  go_simp
                  exact hKq _ _ ⟨Pj.vset V 8 (.pointer (some ⟨px, 1, none⟩)), by simp only [Pj.puts, List.foldl_cons, List.foldl_nil, Act.put, List.setIfInBounds_toArray, List.set_cons_zero, List.set_cons_succ, Pj.vset, Nat.reduceEqDiff, if_true, if_false], HJ.out.more (by decide) hL rfl⟩
                | 9, ho =>
                  simp only [List.getElem?_toArray, List.getElem?_cons_zero, List.getElem?_cons_succ, Option.some.injEq] at ho
                  have e8 : V 8 = .pointer (some ⟨px, 1, none⟩) := hJ.h 8 (hdep 8 (by rw [← ho]; kernel_rfl)) (by decide)
                  have e3 : V 3 = .int .i64 d1 := hJ.h 3 (hdep 3 (by rw [← ho]; kernel_rfl)) (by decide)
                  have hpv : 0 = 0 ∨ L (([9, 11] : List Nat).getD (0 - 1) 0) := .inl rfl
                  obtain rfl : wa.drew = w := (hJ.at 0 (by decide) rfl hopen hpv).symm
                  have HJ := Lib.hid hJ
                  clear hJ
                  subst ho
                  refine Pj.Step.free rfl ?_
                  simp only [Pj.puts, List.foldl_cons, List.foldl_nil, Act.put, List.setIfInBounds_toArray, List.set_cons_zero, List.set_cons_succ, e8, e3]
                  go_simp
                  exact hKq _ _ ⟨Pj.vset V 9 (undef), by simp only [Pj.puts, List.foldl_cons, List.foldl_nil, Act.put, List.setIfInBounds_toArray, List.set_cons_zero, List.set_cons_succ, Pj.vset, Nat.reduceEqDiff, if_false, e8, e3], HJ.out.step 0 (by decide) rfl (by decide) rfl hopen rfl hL hdep hpv rfl⟩
                | 10, ho =>
                  simp only [List.getElem?_toArray, List.getElem?_cons_zero, List.getElem?_cons_succ, Option.some.injEq] at ho
                  have HJ := Lib.hid hJ
                  clear hJ
                  subst ho
                  refine Pj.Step.free rfl ?_
                  simp only [Pj.puts, List.foldl_cons, List.foldl_nil, Act.put, List.setIfInBounds_toArray, List.set_cons_zero, List.set_cons_succ]
                  go_simp
                  exact hKq _ _ ⟨Pj.vset V 10 (.pointer (some ⟨px, 2, none⟩)), by simp only [Pj.puts, List.foldl_cons, List.foldl_nil, Act.put, List.setIfInBounds_toArray, List.set_cons_zero, List.set_cons_succ, Pj.vset, Nat.reduceEqDiff, if_true, if_false], HJ.out.more (by decide) hL rfl⟩
                | 11, ho =>
                  simp only [List.getElem?_toArray, List.getElem?_cons_zero, List.getElem?_cons_succ, Option.some.injEq] at ho
                  have e10 : V 10 = .pointer (some ⟨px, 2, none⟩) := hJ.h 10 (hdep 10 (by rw [← ho]; kernel_rfl)) (by decide)
                  have e7 : V 7 = .int .i64 s1 := hJ.h 7 (hdep 7 (by rw [← ho]; kernel_rfl)) (by decide)
                  have hpv : 1 = 0 ∨ L (([9, 11] : List Nat).getD (1 - 1) 0) := .inr (hdep 9 (by rw [← ho]; kernel_rfl))
                  obtain rfl : (wa.drew.setCell ⟨px, 1, none⟩ (.int .i64 d1)) = w := (hJ.at 1 (by decide) rfl hopen hpv).symm
                  have HJ := Lib.hid hJ
                  clear hJ
                  subst ho
                  refine Pj.Step.free rfl ?_
                  simp only [Pj.puts, List.foldl_cons, List.foldl_nil, Act.put, List.setIfInBounds_toArray, List.set_cons_zero, List.set_cons_succ, e10, e7]
                  go_simp
                  exact hKq _ _ ⟨Pj.vset V 11 (undef), by simp only [Pj.puts, List.foldl_cons, List.foldl_nil, Act.put, List.setIfInBounds_toArray, List.set_cons_zero, List.set_cons_succ, Pj.vset, Nat.reduceEqDiff, if_false, e10, e7], HJ.out.step 1 (by decide) rfl (by decide) rfl hopen rfl hL hdep hpv rfl⟩
                | n + 12, ho => simp at ho
              case ehe =>
                intro V hv
                simp only [Pj.puts, List.foldl_cons, List.foldl_nil, Act.put, List.setIfInBounds_toArray, List.set_cons_zero, List.set_cons_succ]
                clear hv 
                clear hf1 hf2 hf3 hc1 hc2 hc3 HR1 HR2 HB8 HB9 HPX HK9 HWD HWS
                generalize ((wa.drew.setCell ⟨px, 1, none⟩ (.int .i64 d1)).setCell ⟨px, 2, none⟩ (.int .i64 s1)) = wb at *
                obtain ⟨b0, b1, b2, b3, b4, b5⟩ := box6a HB7.out
                go_wp2_with fail
                have hok : AcOk wb w1.heap.size ⟨xk, (d1 : Int), (s1 : Int), xn, xt, xl⟩ al cl := ⟨HBD.out.1, by have := HLT.out.1; have := HDM.out; dsimp only; omega, by have := HLT.out.2; have := HDM.out; dsimp only; omega, HBD.out.2.2.2, by have := HFW.out.1; dsimp only; omega, by have := HFW.out.2; dsimp only; omega, fun W' k => (HFX.out W' (Below.trans (Below.trans HL.out (Below.mono HK7.out HT.out.bw)) k)).1⟩
                refine (does_any (HT.out.kept HK7.out) HI.out (by omega) (by have := HDM.out; omega) ⟨xk, (d1 : Int), (s1 : Int), xn, xt, xl⟩ al cl hok).mono ?_
                rintro e wd ⟨rfl, hb, KA2, CA2, KR2, CR2, S2, ht, hi⟩
                have HT2 := Lib.hid ht
                have HI2 := Lib.hid hi
                have HL2 := Lib.hid (Below.trans (Below.trans HL.out (Below.mono HK7.out HT.out.bw)) hb)
                clear hok ht hi hb b0 b1 b2 b3 b4 b5 HT HI HL HK7
                go_wp2_with fail
                refine (holds_any HT2.out).mono ?_
                rintro e wh ⟨rfl, hkh⟩
                have HT3 := Lib.hid (HT2.out.kept hkh)
                have HL3 := Lib.hid (Below.trans HL2.out (Below.mono hkh HT2.out.bw))
                clear hkh HT2 HL2
                go_wp2_with fail
                go_roundw
                case rel => exact ⟨k + 1, S2, KA2, CA2, KR2, CR2, by omega, by omega, by go_num, HT3.out, HI2.out, HL3.out⟩
                case measure => simp [intOf]; omega
            · have hd4 : decide ((k : Int) % 6 > 0) = false := decide_eq_false hz
              have hd5 : decide (0 < (k : Int) % 6) = false := decide_eq_false hz
              have HK7 := HK9
              obtain ⟨b0, b1, b2, b3, b4, b5⟩ := box6a HB9.out
              clear hz HPX HB9 HK9
              go_wp2_with fail
              have hok : AcOk wa w1.heap.size ⟨xk, xd, xs9, xn, xt, xl⟩ al cl := ⟨HBD.out.1, HBD.out.2.1, HBD.out.2.2.1, HBD.out.2.2.2, by have := HFW.out.1; dsimp only; omega, by have := HFW.out.2; dsimp only; omega, fun W' k => (HFX.out W' (Below.trans (Below.trans HL.out (Below.mono HK7.out HT.out.bw)) k)).1⟩
              refine (does_any (HT.out.kept HK7.out) HI.out (by omega) (by have := HDM.out; omega) ⟨xk, xd, xs9, xn, xt, xl⟩ al cl hok).mono ?_
              rintro e wd ⟨rfl, hb, KA2, CA2, KR2, CR2, S2, ht, hi⟩
              have HT2 := Lib.hid ht
              have HI2 := Lib.hid hi
              have HL2 := Lib.hid (Below.trans (Below.trans HL.out (Below.mono HK7.out HT.out.bw)) hb)
              clear hok ht hi hb b0 b1 b2 b3 b4 b5 HT HI HL HK7
              go_wp2_with fail
              refine (holds_any HT2.out).mono ?_
              rintro e wh ⟨rfl, hkh⟩
              have HT3 := Lib.hid (HT2.out.kept hkh)
              have HL3 := Lib.hid (Below.trans HL2.out (Below.mono hkh HT2.out.bw))
              clear hkh HT2 HL2
              go_wp2_with fail
              go_roundw
              case rel => exact ⟨k + 1, S2, KA2, CA2, KR2, CR2, by omega, by omega, by go_num, HT3.out, HI2.out, HL3.out⟩
              case measure => simp [intOf]; omega
          · by_cases hl : k < len
            · have hd1 : decide (k < len) = true := decide_eq_true hl
              have hd2 : decide ((k : Int) < (len : Int)) = true := decide_eq_true (by omega)
              have hd3 : decide ((k : Int) < 40) = false := decide_eq_false (by omega)
              obtain ⟨g1, g2, g3, htop⟩ := HT.out.r.top
              obtain ⟨_, _, _, _, _, r5, _⟩ := box7r htop
              clear htop
              go_upto_region 22 with (fail)
              clear hd1 hd2 a0 a1 a2
              go_upto_if 120 with (fail)
              clear r5
              go_cut [] (fun wx => ∃ (S2 : Arr) (KA2 CA2 KR2 CR2 : Nat → Nat), Two w1.heap.size wx pa DA KA2 CA2 pr A D E KR2 CR2 S2 S2 ∧ S2.m = dm ∧ S2.n = dn ∧ Below w1.heap.size w1 wx)
              case first =>
                by_cases hl0 : S.l = 0
                · have hd : (S.l == 0) = true := by rw [hl0]; rfl
                  have hd0 : decide (S.l = 0) = true := decide_eq_true hl0
                  clear hl0
                  go_wp2_with fail
                  refine (crash_arr HT.out.a (HT.out.la pa (.inl rfl)) (fun d hd => ⟨HT.out.la _ (.inr (.inr ⟨d, hd, .inl rfl⟩)), HT.out.la _ (.inr (.inr ⟨d, hd, .inr rfl⟩))⟩) HT.out.bw none 0 0 [] (fun V _ => IntsIn.nil V _ _)).mono ?_
                  rintro e w7 ⟨rfl, ha, hn⟩
                  have HT7 := Lib.hid (HT.out.opA ha hn rfl)
                  have HL7 := Lib.hid (Below.trans HL.out hn.low)
                  clear ha hn
                  go_wp2_with fail
                  refine (crash_ar HT7.out.r (HT7.out.lr pr (.inl rfl)) (fun d hd => ⟨HT7.out.lr _ (.inr (.inr (.inr (.inr ⟨d, hd, .inl rfl⟩)))), HT7.out.lr _ (.inr (.inr (.inr (.inr ⟨d, hd, .inr rfl⟩))))⟩) HT7.out.bw none 0 0 [] (fun V _ => IntsIn.nil V _ _)).mono ?_
                  rintro e w8 ⟨rfl, hr, hn⟩
                  have HT8 := Lib.hid (HT7.out.opR hr hn rfl)
                  have HL8 := Lib.hid (Below.trans HL7.out hn.low)
                  clear hr hn
                  go_wp2_with fail
                  go_meet
                  exact ⟨crashA S [], KA, CA, KR, CR, HT8.out, HI.out.m, HI.out.n, HL8.out⟩
                · have hd : (S.l == 0) = false := by rw [beq_eq_false_iff_ne]; exact hl0
                  have hd0 : decide (S.l = 0) = false := decide_eq_false hl0
                  clear hl0
                  go_wp2_with fail
                  go_meet
                  exact ⟨S, KA, CA, KR, CR, HT.out, HI.out.m, HI.out.n, HL.out⟩
              case rest =>
                clear HT HI HL
                obtain ⟨S2, KA2, CA2, KR2, CR2, ht, hm, hn, hl⟩ := hcut
                have HT := Lib.hid ht
                have HMN := Lib.hid (And.intro hm hn)
                have HL := Lib.hid hl
                clear ht hm hn hl
                rename World => wc
                obtain ⟨_, hdm4, _, hdn5⟩ := HDM.out
                go_wp2_with fail
                go_loopw [12] (fun i wr => ∃ z : Nat, z ≤ dm ∧ i = .int .i64 z ∧ Kept wc wr) (fun i _ => dm - (intOf i).toNat)
                case atStart => exact ⟨0, by omega, rfl, Kept.refl _⟩
                case round =>
                  rename World => wr
                  obtain ⟨z, hz, rfl, hk⟩ := hrel
                  have HK := Lib.hid hk
                  clear hk
                  by_cases hlz : z < dm
                  · have he1 : decide (z < dm) = true := decide_eq_true hlz
                    have he2 : decide ((z : Int) < (dm : Int)) = true := decide_eq_true (by omega)
                    go_wp2_with fail
                    clear he1 he2
                    go_loopw [13] (fun i wr => ∃ y : Nat, y ≤ dn ∧ i = .int .i64 y ∧ Kept wc wr) (fun i _ => dn - (intOf i).toNat)
                    case atStart => exact ⟨0, by omega, rfl, HK.out⟩
                    case round =>
                      clear HK
                      rename World => wy
                      obtain ⟨y, hy, rfl, hk⟩ := hrel
                      have HK := Lib.hid hk
                      clear hk
                      by_cases hly : y < dn
                      · have he1 : decide (y < dn) = true := decide_eq_true hly
                        have he2 : decide ((y : Int) < (dn : Int)) = true := decide_eq_true (by omega)
                        have HRA := Lib.hid (read_arr (HT.out.a.kept HK.out) (z : Int) (y : Int))
                        go_wp2_with fail
                        refine HRA.out.mono ?_
                        rintro e w3 ⟨rfl, hk3⟩
                        have HK3 := Lib.hid (HK.out.trans hk3)
                        clear hk3 HRA he1 he2
                        have HRR := Lib.hid (read_ar (HT.out.r.kept HK3.out) (z : Int) (y : Int))
                        go_wp2_with fail
                        refine HRR.out.mono ?_
                        rintro e w4 ⟨rfl, hk4⟩
                        have HK4 := Lib.hid (HK3.out.trans hk4)
                        clear hk4 HRR
                        generalize readA S2 z y = R at *
                        obtain ⟨q1, q2⟩ := R
                        go_wp2_with fail
                        refine (num10_any q2 _).mono ?_
                        rintro e w5 ⟨rfl, rfl⟩
                        go_wp2_with fail
                        go_roundw
                        case rel => exact ⟨y + 1, by omega, by go_num, HK4.out⟩
                        case measure => simp [intOf]; omega
                      · have he1 : decide (y < dn) = false := decide_eq_false hly
                        have he2 : decide ((y : Int) < (dn : Int)) = false := decide_eq_false (by omega)
                        go_wp2_with fail
                        go_roundw
                        case rel => exact ⟨z + 1, by omega, by go_num, HK.out⟩
                        case measure => simp [intOf]; omega
                  · have he1 : decide (z < dm) = false := decide_eq_false hlz
                    have he2 : decide ((z : Int) < (dm : Int)) = false := decide_eq_false (by omega)
                    go_wp2_with fail
                    refine (wakes_any w1.heap.size _ (Nat.le_trans HT.out.bw (Kept.size HK.out))).mono ?_
                    rintro e w9 ⟨rfl, hb⟩
                    have HF := Lib.hid (HK1.out.trans (Below.trans HL.out (Below.trans (Below.mono HK.out HT.out.bw) hb)))
                    clear hb
                    go_wp2
                    go_ret
                    exact ⟨rfl, HF.out⟩
            · have hd1 : decide (k < len) = false := decide_eq_false hl
              have hd2 : decide ((k : Int) < (len : Int)) = false := decide_eq_false (by omega)
              obtain ⟨g1, g2, g3, htop⟩ := HT.out.r.top
              obtain ⟨_, _, _, _, _, r5, _⟩ := box7r htop
              clear htop
              go_upto_region 22 with (fail)
              clear hd1 hd2 a0 a1 a2
              go_upto_if 120 with (fail)
              clear r5
              go_cut [] (fun wx => ∃ (S2 : Arr) (KA2 CA2 KR2 CR2 : Nat → Nat), Two w1.heap.size wx pa DA KA2 CA2 pr A D E KR2 CR2 S2 S2 ∧ S2.m = dm ∧ S2.n = dn ∧ Below w1.heap.size w1 wx)
              case first =>
                by_cases hl0 : S.l = 0
                · have hd : (S.l == 0) = true := by rw [hl0]; rfl
                  have hd0 : decide (S.l = 0) = true := decide_eq_true hl0
                  clear hl0
                  go_wp2_with fail
                  refine (crash_arr HT.out.a (HT.out.la pa (.inl rfl)) (fun d hd => ⟨HT.out.la _ (.inr (.inr ⟨d, hd, .inl rfl⟩)), HT.out.la _ (.inr (.inr ⟨d, hd, .inr rfl⟩))⟩) HT.out.bw none 0 0 [] (fun V _ => IntsIn.nil V _ _)).mono ?_
                  rintro e w7 ⟨rfl, ha, hn⟩
                  have HT7 := Lib.hid (HT.out.opA ha hn rfl)
                  have HL7 := Lib.hid (Below.trans HL.out hn.low)
                  clear ha hn
                  go_wp2_with fail
                  refine (crash_ar HT7.out.r (HT7.out.lr pr (.inl rfl)) (fun d hd => ⟨HT7.out.lr _ (.inr (.inr (.inr (.inr ⟨d, hd, .inl rfl⟩)))), HT7.out.lr _ (.inr (.inr (.inr (.inr ⟨d, hd, .inr rfl⟩))))⟩) HT7.out.bw none 0 0 [] (fun V _ => IntsIn.nil V _ _)).mono ?_
                  rintro e w8 ⟨rfl, hr, hn⟩
                  have HT8 := Lib.hid (HT7.out.opR hr hn rfl)
                  have HL8 := Lib.hid (Below.trans HL7.out hn.low)
                  clear hr hn
                  go_wp2_with fail
                  go_meet
                  exact ⟨crashA S [], KA, CA, KR, CR, HT8.out, HI.out.m, HI.out.n, HL8.out⟩
                · have hd : (S.l == 0) = false := by rw [beq_eq_false_iff_ne]; exact hl0
                  have hd0 : decide (S.l = 0) = false := decide_eq_false hl0
                  clear hl0
                  go_wp2_with fail
                  go_meet
                  exact ⟨S, KA, CA, KR, CR, HT.out, HI.out.m, HI.out.n, HL.out⟩
              case rest =>
                clear HT HI HL
                obtain ⟨S2, KA2, CA2, KR2, CR2, ht, hm, hn, hl⟩ := hcut
                have HT := Lib.hid ht
                have HMN := Lib.hid (And.intro hm hn)
                have HL := Lib.hid hl
                clear ht hm hn hl
                rename World => wc
                obtain ⟨_, hdm4, _, hdn5⟩ := HDM.out
                go_wp2_with fail
                go_loopw [12] (fun i wr => ∃ z : Nat, z ≤ dm ∧ i = .int .i64 z ∧ Kept wc wr) (fun i _ => dm - (intOf i).toNat)
                case atStart => exact ⟨0, by omega, rfl, Kept.refl _⟩
                case round =>
                  rename World => wr
                  obtain ⟨z, hz, rfl, hk⟩ := hrel
                  have HK := Lib.hid hk
                  clear hk
                  by_cases hlz : z < dm
                  · have he1 : decide (z < dm) = true := decide_eq_true hlz
                    have he2 : decide ((z : Int) < (dm : Int)) = true := decide_eq_true (by omega)
                    go_wp2_with fail
                    clear he1 he2
                    go_loopw [13] (fun i wr => ∃ y : Nat, y ≤ dn ∧ i = .int .i64 y ∧ Kept wc wr) (fun i _ => dn - (intOf i).toNat)
                    case atStart => exact ⟨0, by omega, rfl, HK.out⟩
                    case round =>
                      clear HK
                      rename World => wy
                      obtain ⟨y, hy, rfl, hk⟩ := hrel
                      have HK := Lib.hid hk
                      clear hk
                      by_cases hly : y < dn
                      · have he1 : decide (y < dn) = true := decide_eq_true hly
                        have he2 : decide ((y : Int) < (dn : Int)) = true := decide_eq_true (by omega)
                        have HRA := Lib.hid (read_arr (HT.out.a.kept HK.out) (z : Int) (y : Int))
                        go_wp2_with fail
                        refine HRA.out.mono ?_
                        rintro e w3 ⟨rfl, hk3⟩
                        have HK3 := Lib.hid (HK.out.trans hk3)
                        clear hk3 HRA he1 he2
                        have HRR := Lib.hid (read_ar (HT.out.r.kept HK3.out) (z : Int) (y : Int))
                        go_wp2_with fail
                        refine HRR.out.mono ?_
                        rintro e w4 ⟨rfl, hk4⟩
                        have HK4 := Lib.hid (HK3.out.trans hk4)
                        clear hk4 HRR
                        generalize readA S2 z y = R at *
                        obtain ⟨q1, q2⟩ := R
                        go_wp2_with fail
                        refine (num10_any q2 _).mono ?_
                        rintro e w5 ⟨rfl, rfl⟩
                        go_wp2_with fail
                        go_roundw
                        case rel => exact ⟨y + 1, by omega, by go_num, HK4.out⟩
                        case measure => simp [intOf]; omega
                      · have he1 : decide (y < dn) = false := decide_eq_false hly
                        have he2 : decide ((y : Int) < (dn : Int)) = false := decide_eq_false (by omega)
                        go_wp2_with fail
                        go_roundw
                        case rel => exact ⟨z + 1, by omega, by go_num, HK.out⟩
                        case measure => simp [intOf]; omega
                  · have he1 : decide (z < dm) = false := decide_eq_false hlz
                    have he2 : decide ((z : Int) < (dm : Int)) = false := decide_eq_false (by omega)
                    go_wp2_with fail
                    refine (wakes_any w1.heap.size _ (Nat.le_trans HT.out.bw (Kept.size HK.out))).mono ?_
                    rintro e w9 ⟨rfl, hb⟩
                    have HF := Lib.hid (HK1.out.trans (Below.trans HL.out (Below.trans (Below.mono HK.out HT.out.bw) hb)))
                    clear hb
                    go_wp2
                    go_ret
                    exact ⟨rfl, HF.out⟩

end Go.Proofs.Ytkfomaoillnehaa
