/- silolaw10.does: write (conditions: both arrays are alike). -/
import Derived.Test.YtkfomaoillnehaaVa
import Derived.Test.YtkfomaoillnehaaJp
namespace Go.Proofs.Ytkfomaoillnehaa
open Go.RowKit
attribute [local go_sem] Oper.semAt_some

set_option maxRecDepth 100000 in
set_option maxHeartbeats 4000000 in
theorem does_write {B : Nat} {W : World} {pa DA : Nat} {KA CA : Nat → Nat} {pr A D E : Nat} {KR CR : Nat → Nat} {S : Arr} {m n g : Nat} (h : Two B W pa DA KA CA pr A D E KR CR S S) (hi : InvA m n g S) (hg : g ≤ 1000) (hn1 : 1 ≤ n) (x : Ac) (al : Option Addr) (cl : Nat) (hx : AcOk W B x al cl) (hc : wthn x.k 15 = 3 ∨ wthn x.k 15 = 4 ∨ wthn x.k 15 = 5 ∨ wthn x.k 15 = 6) : Calls Try.prog 14 #[.pointer (some ⟨pa, 0, none⟩), .pointer (some ⟨pr, 0, none⟩), .agg (acC x al cl)] W (DoesP B W pa DA pr A D E m n g) := by
  rcases hc with hc | hc | hc | hc
  all_goals
    obtain ⟨xk, xd, xs, xn, xt, xl⟩ := x
    dsimp only at hc
    have HWI := Lib.hid (fun w => within_ref xk 15 (by omega) w)
    rw [hc] at HWI
    have HX := Lib.hid hx
    have HI := Lib.hid hi
    have H0 := Lib.hid h
    have hbw := h.bw
    have HG := Lib.hid (And.intro hg hn1)
    clear hc hx hi h hg hn1
    unfold acC DoesP
    dsimp only at HX ⊢
    go_enter Try.func14, Try.ntmps14
    go_upto_region 1 with (fail)
    have k1 := (Kept.refl W).alloc (.cells #[.int .i64 xk, .int .i64 xd, .int .i64 xs, .int .i64 xn, .string xt, .slice al xl.length cl] 37)
    have HT := Lib.hid (H0.out.kept k1)
    have HB := Lib.hid (BlockAt.new W #[.int .i64 xk, .int .i64 xd, .int .i64 xs, .int .i64 xn, .string xt, .slice al xl.length cl] 37)
    have HK := Lib.hid k1
    obtain ⟨px, hpx⟩ : ∃ px, px = W.heap.size := ⟨_, rfl⟩
    have HPX := Lib.hid hpx
    rw [← hpx] at HB ⊢
    clear k1 hpx
    generalize W.alloc (.cells #[.int .i64 xk, .int .i64 xd, .int .i64 xs, .int .i64 xn, .string xt, .slice al xl.length cl] 37) = w1 at *
    obtain ⟨b0, b1, b2, b3, b4, b5⟩ := box6a HB.out
    go_wp2_with fail
    refine (HWI.out _).mono ?_
    rintro e w2 ⟨rfl, rfl⟩
    clear HWI
    by_cases hz : 0 < xn % 4
    · have hd1 : decide (xn % 4 > 0) = true := decide_eq_true hz
      have ha1 := i64_and3 xn
      go_wp2_with fail
      refine (sector_any xt HX.out.t _).mono ?_
      rintro e w2 ⟨rfl, hk2⟩
      have HK2 := Lib.hid (HK.out.trans hk2)
      have HT2 := Lib.hid (HT.out.kept hk2)
      have HB2 := Lib.hid (HB.out.kept hk2)
      clear hk2 HT HB HK hz hd1 ha1
      obtain ⟨U, hU⟩ : ∃ U, U = sectorT xt := ⟨_, rfl⟩
      rw [← hU]
      clear hU
      have HNA := Lib.hid (show ∀ b, b = pa ∨ ArF DA KA CA S.m b → ¬ b = px from fun b hb e => by have := H0.out.a.foot_lt b hb; have := HPX.out; omega)
      have HNR := Lib.hid (show ∀ b, RfF pr A D E KR CR S.m b → ¬ b = px from fun b hb e => by have := H0.out.r.foot_lt b hb; have := HPX.out; omega)
      have HSG := Lib.hid (And.intro HI.out.g HI.out.l)
      obtain ⟨S', hS'⟩ : ∃ S', S' = (writeA S xd xs U).1 := ⟨_, rfl⟩
      obtain ⟨vr, hvr⟩ : ∃ vr, vr = (writeA S xd xs U).2 := ⟨_, rfl⟩
      have HSM := Lib.hid (show S'.m = S.m by rw [hS']; exact (HI.out.write xd xs U).m.trans HI.out.m.symm)
      have HIV := Lib.hid (show InvA m n (g + 1) S' by rw [hS']; exact HI.out.write xd xs U)
      have HWA := Lib.hid (show ∀ w, Ph0 B W pa DA KA CA pr A D E KR CR S px (#[.int .i64 xk, .int .i64 xd, .int .i64 xs, .int .i64 xn, .string xt, .slice al xl.length cl]) w → Calls Try.prog 22 #[.pointer (some ⟨pa, 0, none⟩), .int .i64 xd, .int .i64 xs, .string U] w fun e w' => e = .returned (.int .i64 vr) ∧ Ph1 B W pa DA pr A D E KR CR S' S px (#[.int .i64 xk, .int .i64 xd, .int .i64 xs, .int .i64 xn, .string xt, .slice al xl.length cl]) w' from fun w hp => by
        have ht := hp.1
        have hg := HSG.out.1
        have hl := HSG.out.2
        rw [hvr, hS']
        exact (write_arr ht.a (ht.la pa (.inl rfl)) (fun d hd => ht.la _ (.inr (.inr ⟨d, hd, .inr rfl⟩))) (by have := HG.out.1; omega) ht.bw xd xs U).mono (fun e w' ⟨h1, h2, h3⟩ => ⟨h1, hp.next HNA.out h2 h3 (by rw [← hS']; exact HSM.out)⟩))
      have HWR := Lib.hid (show ∀ w, Ph1 B W pa DA pr A D E KR CR S' S px (#[.int .i64 xk, .int .i64 xd, .int .i64 xs, .int .i64 xn, .string xt, .slice al xl.length cl]) w → Calls Try.prog 29 #[.pointer (some ⟨pr, 0, none⟩), .int .i64 xd, .int .i64 xs, .string U] w fun e w' => e = .returned (.int .i64 vr) ∧ Ph2 B W pa DA pr A D E S' px (#[.int .i64 xk, .int .i64 xd, .int .i64 xs, .int .i64 xn, .string xt, .slice al xl.length cl]) w' from fun w hp => by
        obtain ⟨KA', CA', ht⟩ := hp.1
        have hg := HSG.out.1
        have hl := HSG.out.2
        rw [hvr, hS']
        rw [hS'] at hp
        exact (write_ar ht.r (ht.lr pr (.inl rfl)) (fun d hd => ht.lr _ (.inr (.inr (.inr (.inr ⟨d, hd, .inr rfl⟩))))) ht.bw (by have := HG.out.1; omega) (by omega) xd xs U).mono (fun e w' ⟨h1, h2, h3⟩ => ⟨h1, hp.next HNR.out h2 h3 (by rw [← hS']; exact HSM.out)⟩))
      clear hS' hvr
      have HP0 := Lib.hid (show Ph0 B W pa DA KA CA pr A D E KR CR S px (#[.int .i64 xk, .int .i64 xd, .int .i64 xs, .int .i64 xn, .string xt, .slice al xl.length cl]) w2.drew from ⟨HT2.out.kept ((Kept.refl w2).drew), HB2.out.kept ((Kept.refl w2).drew), Below.mono (HK2.out.drew) hbw⟩)
      go_upto_region 16 with (fail)
      clear b0 b1 b2 b3 b4 b5
      have HRD := Lib.hid (show ∀ m, m ≤ 3 → ∀ w9, (fun mq9 w9 => ([Ph0 B W pa DA KA CA pr A D E KR CR S px (#[.int .i64 xk, .int .i64 xd, .int .i64 xs, .int .i64 xn, .string xt, .slice al xl.length cl]), Ph1 B W pa DA pr A D E KR CR S' S px (#[.int .i64 xk, .int .i64 xd, .int .i64 xs, .int .i64 xn, .string xt, .slice al xl.length cl]), Ph1 B W pa DA pr A D E KR CR S' S px (#[.int .i64 xk, .int .i64 xd, .int .i64 xs, .int .i64 xn, .string xt, .slice al xl.length cl]), Ph2 B W pa DA pr A D E S' px (#[.int .i64 xk, .int .i64 xd, .int .i64 xs, .int .i64 xn, .string xt, .slice al xl.length cl])] : List (World → Prop)).getD mq9 (fun _ => True) w9) m w9 → (fun W : World => BlockAt W px (#[.int .i64 xk, .int .i64 xd, .int .i64 xs, .int .i64 xn, .string xt, .slice al xl.length cl]) 37) w9 from by
        intro mq9 hmq9 w9 hp9
        match mq9, hmq9, hp9 with
        | 0, _, hp9 => exact hp9.2.1
        | 1, _, hp9 => exact hp9.2.1
        | 2, _, hp9 => exact hp9.2.1
        | 3, _, hp9 => exact hp9.2.1
        | mq9 + 4, h, _ => omega)
      refine Pj.wp_region_jp [(75, 0), (76, 1), (77, 2), (78, 3), (79, 4), (80, 5), (81, 6), (82, 7), (83, 8), (84, 9), (85, 10), (86, 11), (87, 12), (88, 13), (89, 14), (90, 15), (6, 16)] (fun j => ([.pointer (some ⟨pa, 0, none⟩), .pointer (some ⟨px, 1, none⟩), .int .i64 xd, .pointer (some ⟨px, 2, none⟩), .int .i64 xs, .string U, .int .i64 vr, .int .i64 vr, .pointer (some ⟨pr, 0, none⟩), .pointer (some ⟨px, 1, none⟩), .int .i64 xd, .pointer (some ⟨px, 2, none⟩), .int .i64 xs, .string U, .int .i64 vr, .bool true, .bool true] : List Value).getD j undef) [6, 7, 14] (fun mq9 w9 => ([Ph0 B W pa DA KA CA pr A D E KR CR S px (#[.int .i64 xk, .int .i64 xd, .int .i64 xs, .int .i64 xn, .string xt, .slice al xl.length cl]), Ph1 B W pa DA pr A D E KR CR S' S px (#[.int .i64 xk, .int .i64 xd, .int .i64 xs, .int .i64 xn, .string xt, .slice al xl.length cl]), Ph1 B W pa DA pr A D E KR CR S' S px (#[.int .i64 xk, .int .i64 xd, .int .i64 xs, .int .i64 xn, .string xt, .slice al xl.length cl]), Ph2 B W pa DA pr A D E S' px (#[.int .i64 xk, .int .i64 xd, .int .i64 xs, .int .i64 xn, .string xt, .slice al xl.length cl])] : List (World → Prop)).getD mq9 (fun _ => True) w9) (by as_aux_lemma => kernel_rfl) (by as_aux_lemma => kernel_rfl) (by decide) (HP0.out) ?eh0 ?ehs ?ehe
      case eh0 => exact ⟨_, Pj.puts_self _ (fun j => ([75, 76, 77, 78, 79, 80, 81, 82, 83, 84, 85, 86, 87, 88, 89, 90, 6] : List Nat).getD j 0) [0, 1, 2, 3, 4, 5, 6, 7, 8, 9, 10, 11, 12, 13, 14, 15, 16]⟩
      case ehs =>
        intro L L' V w iz opz Kq hJ ho hopen hdep hL hKq
        match iz, ho with
        | 0, ho =>
          simp only [List.getElem?_toArray, List.getElem?_cons_zero, Option.some.injEq] at ho
          have HJ := Lib.hid hJ
          clear hJ
          subst ho
          refine Pj.Step.free rfl ?_
          simp only [Pj.puts, List.foldl_cons, List.foldl_nil, Act.put, List.setIfInBounds_toArray, List.set_cons_zero, List.set_cons_succ]
          go_simp
          exact hKq _ _ ⟨Pj.vset V 0 (.pointer (some ⟨pa, 0, none⟩)), by simp only [Pj.puts, List.foldl_cons, List.foldl_nil, Act.put, List.setIfInBounds_toArray, List.set_cons_zero, List.set_cons_succ, Pj.vset, Nat.reduceEqDiff, if_true, if_false], HJ.out.more (by decide) hL rfl⟩
        | 1, ho =>
          simp only [List.getElem?_toArray, List.getElem?_cons_zero, List.getElem?_cons_succ, Option.some.injEq] at ho
          have HJ := Lib.hid hJ
          clear hJ
          subst ho
          refine Pj.Step.free rfl ?_
          simp only [Pj.puts, List.foldl_cons, List.foldl_nil, Act.put, List.setIfInBounds_toArray, List.set_cons_zero, List.set_cons_succ]
          go_simp
          exact hKq _ _ ⟨Pj.vset V 1 (.pointer (some ⟨px, 1, none⟩)), by simp only [Pj.puts, List.foldl_cons, List.foldl_nil, Act.put, List.setIfInBounds_toArray, List.set_cons_zero, List.set_cons_succ, Pj.vset, Nat.reduceEqDiff, if_true, if_false], HJ.out.more (by decide) hL rfl⟩
        | 2, ho =>
          simp only [List.getElem?_toArray, List.getElem?_cons_zero, List.getElem?_cons_succ, Option.some.injEq] at ho
          have e1 : V 1 = .pointer (some ⟨px, 1, none⟩) := hJ.h 1 (hdep 1 (by rw [← ho]; kernel_rfl)) (by decide)
          have hr : (fun W : World => BlockAt W px (#[.int .i64 xk, .int .i64 xd, .int .i64 xs, .int .i64 xn, .string xt, .slice al xl.length cl]) 37) w := hJ.rd (R := fun W => BlockAt W px (#[.int .i64 xk, .int .i64 xd, .int .i64 xs, .int .i64 xn, .string xt, .slice al xl.length cl]) 37) HRD.out
          have hr2 : BlockAt w px (#[.int .i64 xk, .int .i64 xd, .int .i64 xs, .int .i64 xn, .string xt, .slice al xl.length cl]) 37 := hr
          obtain ⟨b0, b1, b2, b3, b4, b5⟩ := box6a hr2
          have HJ := Lib.hid hJ
          clear hJ
          subst ho
          refine Pj.Step.free rfl ?_
          simp only [Pj.puts, List.foldl_cons, List.foldl_nil, Act.put, List.setIfInBounds_toArray, List.set_cons_zero, List.set_cons_succ, e1]
          go_simp
          exact hKq _ _ ⟨Pj.vset V 2 (.int .i64 xd), by simp only [Pj.puts, List.foldl_cons, List.foldl_nil, Act.put, List.setIfInBounds_toArray, List.set_cons_zero, List.set_cons_succ, Pj.vset, Nat.reduceEqDiff, if_true, if_false, e1], HJ.out.more (by decide) hL rfl⟩
        | 3, ho =>
          simp only [List.getElem?_toArray, List.getElem?_cons_zero, List.getElem?_cons_succ, Option.some.injEq] at ho
          have HJ := Lib.hid hJ
          clear hJ
          subst ho
          refine Pj.Step.free rfl ?_
          simp only [Pj.puts, List.foldl_cons, List.foldl_nil, Act.put, List.setIfInBounds_toArray, List.set_cons_zero, List.set_cons_succ]
          go_simp
          exact hKq _ _ ⟨Pj.vset V 3 (.pointer (some ⟨px, 2, none⟩)), by simp only [Pj.puts, List.foldl_cons, List.foldl_nil, Act.put, List.setIfInBounds_toArray, List.set_cons_zero, List.set_cons_succ, Pj.vset, Nat.reduceEqDiff, if_true, if_false], HJ.out.more (by decide) hL rfl⟩
        | 4, ho =>
          simp only [List.getElem?_toArray, List.getElem?_cons_zero, List.getElem?_cons_succ, Option.some.injEq] at ho
          have e3 : V 3 = .pointer (some ⟨px, 2, none⟩) := hJ.h 3 (hdep 3 (by rw [← ho]; kernel_rfl)) (by decide)
          have hr : (fun W : World => BlockAt W px (#[.int .i64 xk, .int .i64 xd, .int .i64 xs, .int .i64 xn, .string xt, .slice al xl.length cl]) 37) w := hJ.rd (R := fun W => BlockAt W px (#[.int .i64 xk, .int .i64 xd, .int .i64 xs, .int .i64 xn, .string xt, .slice al xl.length cl]) 37) HRD.out
          have hr2 : BlockAt w px (#[.int .i64 xk, .int .i64 xd, .int .i64 xs, .int .i64 xn, .string xt, .slice al xl.length cl]) 37 := hr
          obtain ⟨b0, b1, b2, b3, b4, b5⟩ := box6a hr2
          have HJ := Lib.hid hJ
          clear hJ
          subst ho
          refine Pj.Step.free rfl ?_
          simp only [Pj.puts, List.foldl_cons, List.foldl_nil, Act.put, List.setIfInBounds_toArray, List.set_cons_zero, List.set_cons_succ, e3]
          go_simp
          exact hKq _ _ ⟨Pj.vset V 4 (.int .i64 xs), by simp only [Pj.puts, List.foldl_cons, List.foldl_nil, Act.put, List.setIfInBounds_toArray, List.set_cons_zero, List.set_cons_succ, Pj.vset, Nat.reduceEqDiff, if_true, if_false, e3], HJ.out.more (by decide) hL rfl⟩
        | 5, ho =>
          simp only [List.getElem?_toArray, List.getElem?_cons_zero, List.getElem?_cons_succ, Option.some.injEq] at ho
          have HJ := Lib.hid hJ
          clear hJ
          subst ho
          refine Pj.Step.free rfl ?_
          simp only [Pj.puts, List.foldl_cons, List.foldl_nil, Act.put, List.setIfInBounds_toArray, List.set_cons_zero, List.set_cons_succ]
          go_simp
          exact hKq _ _ ⟨Pj.vset V 5 (.string U), by simp only [Pj.puts, List.foldl_cons, List.foldl_nil, Act.put, List.setIfInBounds_toArray, List.set_cons_zero, List.set_cons_succ, Pj.vset, Nat.reduceEqDiff, if_true, if_false], HJ.out.more (by decide) hL rfl⟩
        | 6, ho =>
          simp only [List.getElem?_toArray, List.getElem?_cons_zero, List.getElem?_cons_succ, Option.some.injEq] at ho
          have e0 : V 0 = .pointer (some ⟨pa, 0, none⟩) := hJ.h 0 (hdep 0 (by rw [← ho]; kernel_rfl)) (by decide)
          have e2 : V 2 = .int .i64 xd := hJ.h 2 (hdep 2 (by rw [← ho]; kernel_rfl)) (by decide)
          have e4 : V 4 = .int .i64 xs := hJ.h 4 (hdep 4 (by rw [← ho]; kernel_rfl)) (by decide)
          have e5 : V 5 = .string U := hJ.h 5 (hdep 5 (by rw [← ho]; kernel_rfl)) (by decide)
          have hpv : 0 = 0 ∨ L (([6, 7, 14] : List Nat).getD (0 - 1) 0) := .inl rfl
          have hph : (Ph0 B W pa DA KA CA pr A D E KR CR S px (#[.int .i64 xk, .int .i64 xd, .int .i64 xs, .int .i64 xn, .string xt, .slice al xl.length cl])) w := hJ.at 0 (by decide) rfl hopen hpv
          have HJ := Lib.hid hJ
          clear hJ
          subst ho
          refine Pj.Step.free rfl ?_
          simp only [Pj.puts, List.foldl_cons, List.foldl_nil, Act.put, List.setIfInBounds_toArray, List.set_cons_zero, List.set_cons_succ, e0, e2, e4, e5]
          go_simp
          refine (HWA.out w hph).mono ?_
          rintro e w' ⟨rfl, hw'⟩
          exact hKq _ _ ⟨Pj.vset V 6 (.int .i64 vr), by simp only [Pj.puts, List.foldl_cons, List.foldl_nil, Act.put, List.setIfInBounds_toArray, List.set_cons_zero, List.set_cons_succ, Pj.vset, Nat.reduceEqDiff, if_true, if_false, e0, e2, e4, e5], HJ.out.step 0 (by decide) rfl (by decide) hopen hL hpv rfl hw'⟩
        | 7, ho =>
          simp only [List.getElem?_toArray, List.getElem?_cons_zero, List.getElem?_cons_succ, Option.some.injEq] at ho
          have e6 : V 6 = .int .i64 vr := hJ.h 6 (hdep 6 (by rw [← ho]; kernel_rfl)) (by decide)
          have hpv : 1 = 0 ∨ L (([6, 7, 14] : List Nat).getD (1 - 1) 0) := .inr (hdep 6 (by rw [← ho]; kernel_rfl))
          have hph : (Ph1 B W pa DA pr A D E KR CR S' S px (#[.int .i64 xk, .int .i64 xd, .int .i64 xs, .int .i64 xn, .string xt, .slice al xl.length cl])) w := hJ.at 1 (by decide) rfl hopen hpv
          have HJ := Lib.hid hJ
          clear hJ
          subst ho
          refine Pj.Step.free rfl ?_
          simp only [Pj.puts, List.foldl_cons, List.foldl_nil, Act.put, List.setIfInBounds_toArray, List.set_cons_zero, List.set_cons_succ, e6]
          go_simp
          refine (num10_any vr _).mono ?_
          rintro e w' ⟨rfl, rfl⟩
          have hw' := hph
          exact hKq _ _ ⟨Pj.vset V 7 (.int .i64 vr), by simp only [Pj.puts, List.foldl_cons, List.foldl_nil, Act.put, List.setIfInBounds_toArray, List.set_cons_zero, List.set_cons_succ, Pj.vset, Nat.reduceEqDiff, if_true, if_false, e6], HJ.out.step 1 (by decide) rfl (by decide) hopen hL hpv rfl hw'⟩
        | 8, ho =>
          simp only [List.getElem?_toArray, List.getElem?_cons_zero, List.getElem?_cons_succ, Option.some.injEq] at ho
          have HJ := Lib.hid hJ
          clear hJ
          subst ho
          refine Pj.Step.free rfl ?_
          simp only [Pj.puts, List.foldl_cons, List.foldl_nil, Act.put, List.setIfInBounds_toArray, List.set_cons_zero, List.set_cons_succ]
          go_simp
          exact hKq _ _ ⟨Pj.vset V 8 (.pointer (some ⟨pr, 0, none⟩)), by simp only [Pj.puts, List.foldl_cons, List.foldl_nil, Act.put, List.setIfInBounds_toArray, List.set_cons_zero, List.set_cons_succ, Pj.vset, Nat.reduceEqDiff, if_true, if_false], HJ.out.more (by decide) hL rfl⟩
        | 9, ho =>
          simp only [List.getElem?_toArray, List.getElem?_cons_zero, List.getElem?_cons_succ, Option.some.injEq] at ho
          have HJ := Lib.hid hJ
          clear hJ
          subst ho
          refine Pj.Step.free rfl ?_
          simp only [Pj.puts, List.foldl_cons, List.foldl_nil, Act.put, List.setIfInBounds_toArray, List.set_cons_zero, List.set_cons_succ]
          go_simp
          exact hKq _ _ ⟨Pj.vset V 9 (.pointer (some ⟨px, 1, none⟩)), by simp only [Pj.puts, List.foldl_cons, List.foldl_nil, Act.put, List.setIfInBounds_toArray, List.set_cons_zero, List.set_cons_succ, Pj.vset, Nat.reduceEqDiff, if_true, if_false], HJ.out.more (by decide) hL rfl⟩
        | 10, ho =>
          simp only [List.getElem?_toArray, List.getElem?_cons_zero, List.getElem?_cons_succ, Option.some.injEq] at ho
          have e9 : V 9 = .pointer (some ⟨px, 1, none⟩) := hJ.h 9 (hdep 9 (by rw [← ho]; kernel_rfl)) (by decide)
          have hr : (fun W : World => BlockAt W px (#[.int .i64 xk, .int .i64 xd, .int .i64 xs, .int .i64 xn, .string xt, .slice al xl.length cl]) 37) w := hJ.rd (R := fun W => BlockAt W px (#[.int .i64 xk, .int .i64 xd, .int .i64 xs, .int .i64 xn, .string xt, .slice al xl.length cl]) 37) HRD.out
          have hr2 : BlockAt w px (#[.int .i64 xk, .int .i64 xd, .int .i64 xs, .int .i64 xn, .string xt, .slice al xl.length cl]) 37 := hr
          obtain ⟨b0, b1, b2, b3, b4, b5⟩ := box6a hr2
          have HJ := Lib.hid hJ
          clear hJ
          subst ho
          refine Pj.Step.free rfl ?_
          simp only [Pj.puts, List.foldl_cons, List.foldl_nil, Act.put, List.setIfInBounds_toArray, List.set_cons_zero, List.set_cons_succ, e9]
          go_simp
          exact hKq _ _ ⟨Pj.vset V 10 (.int .i64 xd), by simp only [Pj.puts, List.foldl_cons, List.foldl_nil, Act.put, List.setIfInBounds_toArray, List.set_cons_zero, List.set_cons_succ, Pj.vset, Nat.reduceEqDiff, if_true, if_false, e9], HJ.out.more (by decide) hL rfl⟩
        | 11, ho =>
          simp only [List.getElem?_toArray, List.getElem?_cons_zero, List.getElem?_cons_succ, Option.some.injEq] at ho
          have HJ := Lib.hid hJ
          clear hJ
          subst ho
          refine Pj.Step.free rfl ?_
          simp only [Pj.puts, List.foldl_cons, List.foldl_nil, Act.put, List.setIfInBounds_toArray, List.set_cons_zero, List.set_cons_succ]
          go_simp
          exact hKq _ _ ⟨Pj.vset V 11 (.pointer (some ⟨px, 2, none⟩)), by simp only [Pj.puts, List.foldl_cons, List.foldl_nil, Act.put, List.setIfInBounds_toArray, List.set_cons_zero, List.set_cons_succ, Pj.vset, Nat.reduceEqDiff, if_true, if_false], HJ.out.more (by decide) hL rfl⟩
        | 12, ho =>
          simp only [List.getElem?_toArray, List.getElem?_cons_zero, List.getElem?_cons_succ, Option.some.injEq] at ho
          have e11 : V 11 = .pointer (some ⟨px, 2, none⟩) := hJ.h 11 (hdep 11 (by rw [← ho]; kernel_rfl)) (by decide)
          have hr : (fun W : World => BlockAt W px (#[.int .i64 xk, .int .i64 xd, .int .i64 xs, .int .i64 xn, .string xt, .slice al xl.length cl]) 37) w := hJ.rd (R := fun W => BlockAt W px (#[.int .i64 xk, .int .i64 xd, .int .i64 xs, .int .i64 xn, .string xt, .slice al xl.length cl]) 37) HRD.out
          have hr2 : BlockAt w px (#[.int .i64 xk, .int .i64 xd, .int .i64 xs, .int .i64 xn, .string xt, .slice al xl.length cl]) 37 := hr
          obtain ⟨b0, b1, b2, b3, b4, b5⟩ := box6a hr2
          have HJ := Lib.hid hJ
          clear hJ
          subst ho
          refine Pj.Step.free rfl ?_
          simp only [Pj.puts, List.foldl_cons, List.foldl_nil, Act.put, List.setIfInBounds_toArray, List.set_cons_zero, List.set_cons_succ, e11]
          go_simp
          exact hKq _ _ ⟨Pj.vset V 12 (.int .i64 xs), by simp only [Pj.puts, List.foldl_cons, List.foldl_nil, Act.put, List.setIfInBounds_toArray, List.set_cons_zero, List.set_cons_succ, Pj.vset, Nat.reduceEqDiff, if_true, if_false, e11], HJ.out.more (by decide) hL rfl⟩
        | 13, ho =>
          simp only [List.getElem?_toArray, List.getElem?_cons_zero, List.getElem?_cons_succ, Option.some.injEq] at ho
          have HJ := Lib.hid hJ
          clear hJ
          subst ho
          refine Pj.Step.free rfl ?_
          simp only [Pj.puts, List.foldl_cons, List.foldl_nil, Act.put, List.setIfInBounds_toArray, List.set_cons_zero, List.set_cons_succ]
          go_simp
          exact hKq _ _ ⟨Pj.vset V 13 (.string U), by simp only [Pj.puts, List.foldl_cons, List.foldl_nil, Act.put, List.setIfInBounds_toArray, List.set_cons_zero, List.set_cons_succ, Pj.vset, Nat.reduceEqDiff, if_true, if_false], HJ.out.more (by decide) hL rfl⟩
        | 14, ho =>
          simp only [List.getElem?_toArray, List.getElem?_cons_zero, List.getElem?_cons_succ, Option.some.injEq] at ho
          have e8 : V 8 = .pointer (some ⟨pr, 0, none⟩) := hJ.h 8 (hdep 8 (by rw [← ho]; kernel_rfl)) (by decide)
          have e10 : V 10 = .int .i64 xd := hJ.h 10 (hdep 10 (by rw [← ho]; kernel_rfl)) (by decide)
          have e12 : V 12 = .int .i64 xs := hJ.h 12 (hdep 12 (by rw [← ho]; kernel_rfl)) (by decide)
          have e13 : V 13 = .string U := hJ.h 13 (hdep 13 (by rw [← ho]; kernel_rfl)) (by decide)
          have hpv : 2 = 0 ∨ L (([6, 7, 14] : List Nat).getD (2 - 1) 0) := .inr (hdep 7 (by rw [← ho]; kernel_rfl))
          have hph : (Ph1 B W pa DA pr A D E KR CR S' S px (#[.int .i64 xk, .int .i64 xd, .int .i64 xs, .int .i64 xn, .string xt, .slice al xl.length cl])) w := hJ.at 2 (by decide) rfl hopen hpv
          have HJ := Lib.hid hJ
          clear hJ
          subst ho
          refine Pj.Step.free rfl ?_
          simp only [Pj.puts, List.foldl_cons, List.foldl_nil, Act.put, List.setIfInBounds_toArray, List.set_cons_zero, List.set_cons_succ, e8, e10, e12, e13]
          go_simp
          refine (HWR.out w hph).mono ?_
          rintro e w' ⟨rfl, hw'⟩
          exact hKq _ _ ⟨Pj.vset V 14 (.int .i64 vr), by simp only [Pj.puts, List.foldl_cons, List.foldl_nil, Act.put, List.setIfInBounds_toArray, List.set_cons_zero, List.set_cons_succ, Pj.vset, Nat.reduceEqDiff, if_true, if_false, e8, e10, e12, e13], HJ.out.step 2 (by decide) rfl (by decide) hopen hL hpv rfl hw'⟩
        | 15, ho =>
          simp only [List.getElem?_toArray, List.getElem?_cons_zero, List.getElem?_cons_succ, Option.some.injEq] at ho
          have e7 : V 7 = .int .i64 vr := hJ.h 7 (hdep 7 (by rw [← ho]; kernel_rfl)) (by decide)
          have e14 : V 14 = .int .i64 vr := hJ.h 14 (hdep 14 (by rw [← ho]; kernel_rfl)) (by decide)
          have HJ := Lib.hid hJ
          clear hJ
          subst ho
          refine Pj.Step.free rfl ?_
          simp only [Pj.puts, List.foldl_cons, List.foldl_nil, Act.put, List.setIfInBounds_toArray, List.set_cons_zero, List.set_cons_succ, e7, e14]
          go_simp
          exact hKq _ _ ⟨Pj.vset V 15 (.bool true), by simp only [Pj.puts, List.foldl_cons, List.foldl_nil, Act.put, List.setIfInBounds_toArray, List.set_cons_zero, List.set_cons_succ, Pj.vset, Nat.reduceEqDiff, if_true, if_false, e7, e14], HJ.out.more (by decide) hL rfl⟩
        | 16, ho =>
          simp only [List.getElem?_toArray, List.getElem?_cons_zero, List.getElem?_cons_succ, Option.some.injEq] at ho
          have e15 : V 15 = .bool true := hJ.h 15 (hdep 15 (by rw [← ho]; kernel_rfl)) (by decide)
          have HJ := Lib.hid hJ
          clear hJ
          subst ho
          refine Pj.Step.free rfl ?_
          simp only [Pj.puts, List.foldl_cons, List.foldl_nil, Act.put, List.setIfInBounds_toArray, List.set_cons_zero, List.set_cons_succ, e15]
          go_simp
          exact hKq _ _ ⟨Pj.vset V 16 (.bool true), by simp only [Pj.puts, List.foldl_cons, List.foldl_nil, Act.put, List.setIfInBounds_toArray, List.set_cons_zero, List.set_cons_succ, Pj.vset, Nat.reduceEqDiff, if_true, if_false, e15], HJ.out.more (by decide) hL rfl⟩
        | n + 17, ho => simp at ho
      case ehe =>
        intro V w9 hw9 hv
        have hw9' : (Ph2 B W pa DA pr A D E S' px (#[.int .i64 xk, .int .i64 xd, .int .i64 xs, .int .i64 xn, .string xt, .slice al xl.length cl])) w9 := hw9
        clear hw9
        have e16 : V 16 = .bool true := hv 16 (by decide)
        simp only [Pj.puts, List.foldl_cons, List.foldl_nil, Act.put, List.setIfInBounds_toArray, List.set_cons_zero, List.set_cons_succ, e16]
        clear hv e16
        obtain ⟨⟨KA', CA', KR', CR', h2⟩, _, h3⟩ := hw9'
        have H2 := Lib.hid h2
        have H3 := Lib.hid h3
        clear h2 h3
        go_wp2
        go_ret
        exact ⟨rfl, H3.out, KA', CA', KR', CR', S', H2.out, HIV.out⟩
    · have hd1 : decide (xn % 4 > 0) = false := decide_eq_false hz
      have ha1 := i64_and3 xn
      go_wp2_with fail
      clear hz hd1 ha1
      obtain ⟨U, hU⟩ : ∃ U, U = xt := ⟨_, rfl⟩
      rw [← hU]
      clear hU
      have HNA := Lib.hid (show ∀ b, b = pa ∨ ArF DA KA CA S.m b → ¬ b = px from fun b hb e => by have := H0.out.a.foot_lt b hb; have := HPX.out; omega)
      have HNR := Lib.hid (show ∀ b, RfF pr A D E KR CR S.m b → ¬ b = px from fun b hb e => by have := H0.out.r.foot_lt b hb; have := HPX.out; omega)
      have HSG := Lib.hid (And.intro HI.out.g HI.out.l)
      obtain ⟨S', hS'⟩ : ∃ S', S' = (writeA S xd xs U).1 := ⟨_, rfl⟩
      obtain ⟨vr, hvr⟩ : ∃ vr, vr = (writeA S xd xs U).2 := ⟨_, rfl⟩
      have HSM := Lib.hid (show S'.m = S.m by rw [hS']; exact (HI.out.write xd xs U).m.trans HI.out.m.symm)
      have HIV := Lib.hid (show InvA m n (g + 1) S' by rw [hS']; exact HI.out.write xd xs U)
      have HWA := Lib.hid (show ∀ w, Ph0 B W pa DA KA CA pr A D E KR CR S px (#[.int .i64 xk, .int .i64 xd, .int .i64 xs, .int .i64 xn, .string xt, .slice al xl.length cl]) w → Calls Try.prog 22 #[.pointer (some ⟨pa, 0, none⟩), .int .i64 xd, .int .i64 xs, .string U] w fun e w' => e = .returned (.int .i64 vr) ∧ Ph1 B W pa DA pr A D E KR CR S' S px (#[.int .i64 xk, .int .i64 xd, .int .i64 xs, .int .i64 xn, .string xt, .slice al xl.length cl]) w' from fun w hp => by
        have ht := hp.1
        have hg := HSG.out.1
        have hl := HSG.out.2
        rw [hvr, hS']
        exact (write_arr ht.a (ht.la pa (.inl rfl)) (fun d hd => ht.la _ (.inr (.inr ⟨d, hd, .inr rfl⟩))) (by have := HG.out.1; omega) ht.bw xd xs U).mono (fun e w' ⟨h1, h2, h3⟩ => ⟨h1, hp.next HNA.out h2 h3 (by rw [← hS']; exact HSM.out)⟩))
      have HWR := Lib.hid (show ∀ w, Ph1 B W pa DA pr A D E KR CR S' S px (#[.int .i64 xk, .int .i64 xd, .int .i64 xs, .int .i64 xn, .string xt, .slice al xl.length cl]) w → Calls Try.prog 29 #[.pointer (some ⟨pr, 0, none⟩), .int .i64 xd, .int .i64 xs, .string U] w fun e w' => e = .returned (.int .i64 vr) ∧ Ph2 B W pa DA pr A D E S' px (#[.int .i64 xk, .int .i64 xd, .int .i64 xs, .int .i64 xn, .string xt, .slice al xl.length cl]) w' from fun w hp => by
        obtain ⟨KA', CA', ht⟩ := hp.1
        have hg := HSG.out.1
        have hl := HSG.out.2
        rw [hvr, hS']
        rw [hS'] at hp
        exact (write_ar ht.r (ht.lr pr (.inl rfl)) (fun d hd => ht.lr _ (.inr (.inr (.inr (.inr ⟨d, hd, .inr rfl⟩))))) ht.bw (by have := HG.out.1; omega) (by omega) xd xs U).mono (fun e w' ⟨h1, h2, h3⟩ => ⟨h1, hp.next HNR.out h2 h3 (by rw [← hS']; exact HSM.out)⟩))
      clear hS' hvr
      have HP0 := Lib.hid (show Ph0 B W pa DA KA CA pr A D E KR CR S px (#[.int .i64 xk, .int .i64 xd, .int .i64 xs, .int .i64 xn, .string xt, .slice al xl.length cl]) w1.drew from ⟨HT.out.kept ((Kept.refl w1).drew), HB.out.kept ((Kept.refl w1).drew), Below.mono (HK.out.drew) hbw⟩)
      go_upto_region 16 with (fail)
      clear b0 b1 b2 b3 b4 b5
      have HRD := Lib.hid (show ∀ m, m ≤ 3 → ∀ w9, (fun mq9 w9 => ([Ph0 B W pa DA KA CA pr A D E KR CR S px (#[.int .i64 xk, .int .i64 xd, .int .i64 xs, .int .i64 xn, .string xt, .slice al xl.length cl]), Ph1 B W pa DA pr A D E KR CR S' S px (#[.int .i64 xk, .int .i64 xd, .int .i64 xs, .int .i64 xn, .string xt, .slice al xl.length cl]), Ph1 B W pa DA pr A D E KR CR S' S px (#[.int .i64 xk, .int .i64 xd, .int .i64 xs, .int .i64 xn, .string xt, .slice al xl.length cl]), Ph2 B W pa DA pr A D E S' px (#[.int .i64 xk, .int .i64 xd, .int .i64 xs, .int .i64 xn, .string xt, .slice al xl.length cl])] : List (World → Prop)).getD mq9 (fun _ => True) w9) m w9 → (fun W : World => BlockAt W px (#[.int .i64 xk, .int .i64 xd, .int .i64 xs, .int .i64 xn, .string xt, .slice al xl.length cl]) 37) w9 from by
        intro mq9 hmq9 w9 hp9
        match mq9, hmq9, hp9 with
        | 0, _, hp9 => exact hp9.2.1
        | 1, _, hp9 => exact hp9.2.1
        | 2, _, hp9 => exact hp9.2.1
        | 3, _, hp9 => exact hp9.2.1
        | mq9 + 4, h, _ => omega)
      refine Pj.wp_region_jp [(75, 0), (76, 1), (77, 2), (78, 3), (79, 4), (80, 5), (81, 6), (82, 7), (83, 8), (84, 9), (85, 10), (86, 11), (87, 12), (88, 13), (89, 14), (90, 15), (6, 16)] (fun j => ([.pointer (some ⟨pa, 0, none⟩), .pointer (some ⟨px, 1, none⟩), .int .i64 xd, .pointer (some ⟨px, 2, none⟩), .int .i64 xs, .string U, .int .i64 vr, .int .i64 vr, .pointer (some ⟨pr, 0, none⟩), .pointer (some ⟨px, 1, none⟩), .int .i64 xd, .pointer (some ⟨px, 2, none⟩), .int .i64 xs, .string U, .int .i64 vr, .bool true, .bool true] : List Value).getD j undef) [6, 7, 14] (fun mq9 w9 => ([Ph0 B W pa DA KA CA pr A D E KR CR S px (#[.int .i64 xk, .int .i64 xd, .int .i64 xs, .int .i64 xn, .string xt, .slice al xl.length cl]), Ph1 B W pa DA pr A D E KR CR S' S px (#[.int .i64 xk, .int .i64 xd, .int .i64 xs, .int .i64 xn, .string xt, .slice al xl.length cl]), Ph1 B W pa DA pr A D E KR CR S' S px (#[.int .i64 xk, .int .i64 xd, .int .i64 xs, .int .i64 xn, .string xt, .slice al xl.length cl]), Ph2 B W pa DA pr A D E S' px (#[.int .i64 xk, .int .i64 xd, .int .i64 xs, .int .i64 xn, .string xt, .slice al xl.length cl])] : List (World → Prop)).getD mq9 (fun _ => True) w9) (by as_aux_lemma => kernel_rfl) (by as_aux_lemma => kernel_rfl) (by decide) (HP0.out) ?eh0 ?ehs ?ehe
      case eh0 => exact ⟨_, Pj.puts_self _ (fun j => ([75, 76, 77, 78, 79, 80, 81, 82, 83, 84, 85, 86, 87, 88, 89, 90, 6] : List Nat).getD j 0) [0, 1, 2, 3, 4, 5, 6, 7, 8, 9, 10, 11, 12, 13, 14, 15, 16]⟩
      case ehs =>
        intro L L' V w iz opz Kq hJ ho hopen hdep hL hKq
        match iz, ho with
        | 0, ho =>
          simp only [List.getElem?_toArray, List.getElem?_cons_zero, Option.some.injEq] at ho
          have HJ := Lib.hid hJ
          clear hJ
          subst ho
          refine Pj.Step.free rfl ?_
          simp only [Pj.puts, List.foldl_cons, List.foldl_nil, Act.put, List.setIfInBounds_toArray, List.set_cons_zero, List.set_cons_succ]
          go_simp
          exact hKq _ _ ⟨Pj.vset V 0 (.pointer (some ⟨pa, 0, none⟩)), by simp only [Pj.puts, List.foldl_cons, List.foldl_nil, Act.put, List.setIfInBounds_toArray, List.set_cons_zero, List.set_cons_succ, Pj.vset, Nat.reduceEqDiff, if_true, if_false], HJ.out.more (by decide) hL rfl⟩
        | 1, ho =>
          simp only [List.getElem?_toArray, List.getElem?_cons_zero, List.getElem?_cons_succ, Option.some.injEq] at ho
          have HJ := Lib.hid hJ
          clear hJ
          subst ho
          refine Pj.Step.free rfl ?_
          simp only [Pj.puts, List.foldl_cons, List.foldl_nil, Act.put, List.setIfInBounds_toArray, List.set_cons_zero, List.set_cons_succ]
          go_simp
          exact hKq _ _ ⟨Pj.vset V 1 (.pointer (some ⟨px, 1, none⟩)), by simp only [Pj.puts, List.foldl_cons, List.foldl_nil, Act.put, List.setIfInBounds_toArray, List.set_cons_zero, List.set_cons_succ, Pj.vset, Nat.reduceEqDiff, if_true, if_false], HJ.out.more (by decide) hL rfl⟩
        | 2, ho =>
          simp only [List.getElem?_toArray, List.getElem?_cons_zero, List.getElem?_cons_succ, Option.some.injEq] at ho
          have e1 : V 1 = .pointer (some ⟨px, 1, none⟩) := hJ.h 1 (hdep 1 (by rw [← ho]; kernel_rfl)) (by decide)
          have hr : (fun W : World => BlockAt W px (#[.int .i64 xk, .int .i64 xd, .int .i64 xs, .int .i64 xn, .string xt, .slice al xl.length cl]) 37) w := hJ.rd (R := fun W => BlockAt W px (#[.int .i64 xk, .int .i64 xd, .int .i64 xs, .int .i64 xn, .string xt, .slice al xl.length cl]) 37) HRD.out
          have hr2 : BlockAt w px (#[.int .i64 xk, .int .i64 xd, .int .i64 xs, .int .i64 xn, .string xt, .slice al xl.length cl]) 37 := hr
          obtain ⟨b0, b1, b2, b3, b4, b5⟩ := box6a hr2
          have HJ := Lib.hid hJ
          clear hJ
          subst ho
          refine Pj.Step.free rfl ?_
          simp only [Pj.puts, List.foldl_cons, List.foldl_nil, Act.put, List.setIfInBounds_toArray, List.set_cons_zero, List.set_cons_succ, e1]
          go_simp
          exact hKq _ _ ⟨Pj.vset V 2 (.int .i64 xd), by simp only [Pj.puts, List.foldl_cons, List.foldl_nil, Act.put, List.setIfInBounds_toArray, List.set_cons_zero, List.set_cons_succ, Pj.vset, Nat.reduceEqDiff, if_true, if_false, e1], HJ.out.more (by decide) hL rfl⟩
        | 3, ho =>
          simp only [List.getElem?_toArray, List.getElem?_cons_zero, List.getElem?_cons_succ, Option.some.injEq] at ho
          have HJ := Lib.hid hJ
          clear hJ
          subst ho
          refine Pj.Step.free rfl ?_
          simp only [Pj.puts, List.foldl_cons, List.foldl_nil, Act.put, List.setIfInBounds_toArray, List.set_cons_zero, List.set_cons_succ]
          go_simp
          exact hKq _ _ ⟨Pj.vset V 3 (.pointer (some ⟨px, 2, none⟩)), by simp only [Pj.puts, List.foldl_cons, List.foldl_nil, Act.put, List.setIfInBounds_toArray, List.set_cons_zero, List.set_cons_succ, Pj.vset, Nat.reduceEqDiff, if_true, if_false], HJ.out.more (by decide) hL rfl⟩
        | 4, ho =>
          simp only [List.getElem?_toArray, List.getElem?_cons_zero, List.getElem?_cons_succ, Option.some.injEq] at ho
          have e3 : V 3 = .pointer (some ⟨px, 2, none⟩) := hJ.h 3 (hdep 3 (by rw [← ho]; kernel_rfl)) (by decide)
          have hr : (fun W : World => BlockAt W px (#[.int .i64 xk, .int .i64 xd, .int .i64 xs, .int .i64 xn, .string xt, .slice al xl.length cl]) 37) w := hJ.rd (R := fun W => BlockAt W px (#[.int .i64 xk, .int .i64 xd, .int .i64 xs, .int .i64 xn, .string xt, .slice al xl.length cl]) 37) HRD.out
          have hr2 : BlockAt w px (#[.int .i64 xk, .int .i64 xd, .int .i64 xs, .int .i64 xn, .string xt, .slice al xl.length cl]) 37 := hr
          obtain ⟨b0, b1, b2, b3, b4, b5⟩ := box6a hr2
          have HJ := Lib.hid hJ
          clear hJ
          subst ho
          refine Pj.Step.free rfl ?_
          simp only [Pj.puts, List.foldl_cons, List.foldl_nil, Act.put, List.setIfInBounds_toArray, List.set_cons_zero, List.set_cons_succ, e3]
          go_simp
          exact hKq _ _ ⟨Pj.vset V 4 (.int .i64 xs), by simp only [Pj.puts, List.foldl_cons, List.foldl_nil, Act.put, List.setIfInBounds_toArray, List.set_cons_zero, List.set_cons_succ, Pj.vset, Nat.reduceEqDiff, if_true, if_false, e3], HJ.out.more (by decide) hL rfl⟩
        | 5, ho =>
          simp only [List.getElem?_toArray, List.getElem?_cons_zero, List.getElem?_cons_succ, Option.some.injEq] at ho
          have HJ := Lib.hid hJ
          clear hJ
          subst ho
          refine Pj.Step.free rfl ?_
          simp only [Pj.puts, List.foldl_cons, List.foldl_nil, Act.put, List.setIfInBounds_toArray, List.set_cons_zero, List.set_cons_succ]
          go_simp
          exact hKq _ _ ⟨Pj.vset V 5 (.string U), by simp only [Pj.puts, List.foldl_cons, List.foldl_nil, Act.put, List.setIfInBounds_toArray, List.set_cons_zero, List.set_cons_succ, Pj.vset, Nat.reduceEqDiff, if_true, if_false], HJ.out.more (by decide) hL rfl⟩
        | 6, ho =>
          simp only [List.getElem?_toArray, List.getElem?_cons_zero, List.getElem?_cons_succ, Option.some.injEq] at ho
          have e0 : V 0 = .pointer (some ⟨pa, 0, none⟩) := hJ.h 0 (hdep 0 (by rw [← ho]; kernel_rfl)) (by decide)
          have e2 : V 2 = .int .i64 xd := hJ.h 2 (hdep 2 (by rw [← ho]; kernel_rfl)) (by decide)
          have e4 : V 4 = .int .i64 xs := hJ.h 4 (hdep 4 (by rw [← ho]; kernel_rfl)) (by decide)
          have e5 : V 5 = .string U := hJ.h 5 (hdep 5 (by rw [← ho]; kernel_rfl)) (by decide)
          have hpv : 0 = 0 ∨ L (([6, 7, 14] : List Nat).getD (0 - 1) 0) := .inl rfl
          have hph : (Ph0 B W pa DA KA CA pr A D E KR CR S px (#[.int .i64 xk, .int .i64 xd, .int .i64 xs, .int .i64 xn, .string xt, .slice al xl.length cl])) w := hJ.at 0 (by decide) rfl hopen hpv
          have HJ := Lib.hid hJ
          clear hJ
          subst ho
          refine Pj.Step.free rfl ?_
          simp only [Pj.puts, List.foldl_cons, List.foldl_nil, Act.put, List.setIfInBounds_toArray, List.set_cons_zero, List.set_cons_succ, e0, e2, e4, e5]
          go_simp
          refine (HWA.out w hph).mono ?_
          rintro e w' ⟨rfl, hw'⟩
          exact hKq _ _ ⟨Pj.vset V 6 (.int .i64 vr), by simp only [Pj.puts, List.foldl_cons, List.foldl_nil, Act.put, List.setIfInBounds_toArray, List.set_cons_zero, List.set_cons_succ, Pj.vset, Nat.reduceEqDiff, if_true, if_false, e0, e2, e4, e5], HJ.out.step 0 (by decide) rfl (by decide) hopen hL hpv rfl hw'⟩
        | 7, ho =>
          simp only [List.getElem?_toArray, List.getElem?_cons_zero, List.getElem?_cons_succ, Option.some.injEq] at ho
          have e6 : V 6 = .int .i64 vr := hJ.h 6 (hdep 6 (by rw [← ho]; kernel_rfl)) (by decide)
          have hpv : 1 = 0 ∨ L (([6, 7, 14] : List Nat).getD (1 - 1) 0) := .inr (hdep 6 (by rw [← ho]; kernel_rfl))
          have hph : (Ph1 B W pa DA pr A D E KR CR S' S px (#[.int .i64 xk, .int .i64 xd, .int .i64 xs, .int .i64 xn, .string xt, .slice al xl.length cl])) w := hJ.at 1 (by decide) rfl hopen hpv
          have HJ := Lib.hid hJ
          clear hJ
          subst ho
          refine Pj.Step.free rfl ?_
          simp only [Pj.puts, List.foldl_cons, List.foldl_nil, Act.put, List.setIfInBounds_toArray, List.set_cons_zero, List.set_cons_succ, e6]
          go_simp
          refine (num10_any vr _).mono ?_
          rintro e w' ⟨rfl, rfl⟩
          have hw' := hph
          exact hKq _ _ ⟨Pj.vset V 7 (.int .i64 vr), by simp only [Pj.puts, List.foldl_cons, List.foldl_nil, Act.put, List.setIfInBounds_toArray, List.set_cons_zero, List.set_cons_succ, Pj.vset, Nat.reduceEqDiff, if_true, if_false, e6], HJ.out.step 1 (by decide) rfl (by decide) hopen hL hpv rfl hw'⟩
        | 8, ho =>
          simp only [List.getElem?_toArray, List.getElem?_cons_zero, List.getElem?_cons_succ, Option.some.injEq] at ho
          have HJ := Lib.hid hJ
          clear hJ
          subst ho
          refine Pj.Step.free rfl ?_
          simp only [Pj.puts, List.foldl_cons, List.foldl_nil, Act.put, List.setIfInBounds_toArray, List.set_cons_zero, List.set_cons_succ]
          go_simp
          exact hKq _ _ ⟨Pj.vset V 8 (.pointer (some ⟨pr, 0, none⟩)), by simp only [Pj.puts, List.foldl_cons, List.foldl_nil, Act.put, List.setIfInBounds_toArray, List.set_cons_zero, List.set_cons_succ, Pj.vset, Nat.reduceEqDiff, if_true, if_false], HJ.out.more (by decide) hL rfl⟩
        | 9, ho =>
          simp only [List.getElem?_toArray, List.getElem?_cons_zero, List.getElem?_cons_succ, Option.some.injEq] at ho
          have HJ := Lib.hid hJ
          clear hJ
          subst ho
          refine Pj.Step.free rfl ?_
          simp only [Pj.puts, List.foldl_cons, List.foldl_nil, Act.put, List.setIfInBounds_toArray, List.set_cons_zero, List.set_cons_succ]
          go_simp
          exact hKq _ _ ⟨Pj.vset V 9 (.pointer (some ⟨px, 1, none⟩)), by simp only [Pj.puts, List.foldl_cons, List.foldl_nil, Act.put, List.setIfInBounds_toArray, List.set_cons_zero, List.set_cons_succ, Pj.vset, Nat.reduceEqDiff, if_true, if_false], HJ.out.more (by decide) hL rfl⟩
        | 10, ho =>
          simp only [List.getElem?_toArray, List.getElem?_cons_zero, List.getElem?_cons_succ, Option.some.injEq] at ho
          have e9 : V 9 = .pointer (some ⟨px, 1, none⟩) := hJ.h 9 (hdep 9 (by rw [← ho]; kernel_rfl)) (by decide)
          have hr : (fun W : World => BlockAt W px (#[.int .i64 xk, .int .i64 xd, .int .i64 xs, .int .i64 xn, .string xt, .slice al xl.length cl]) 37) w := hJ.rd (R := fun W => BlockAt W px (#[.int .i64 xk, .int .i64 xd, .int .i64 xs, .int .i64 xn, .string xt, .slice al xl.length cl]) 37) HRD.out
          have hr2 : BlockAt w px (#[.int .i64 xk, .int .i64 xd, .int .i64 xs, .int .i64 xn, .string xt, .slice al xl.length cl]) 37 := hr
          obtain ⟨b0, b1, b2, b3, b4, b5⟩ := box6a hr2
          have HJ := Lib.hid hJ
          clear hJ
          subst ho
          refine Pj.Step.free rfl ?_
          simp only [Pj.puts, List.foldl_cons, List.foldl_nil, Act.put, List.setIfInBounds_toArray, List.set_cons_zero, List.set_cons_succ, e9]
          go_simp
          exact hKq _ _ ⟨Pj.vset V 10 (.int .i64 xd), by simp only [Pj.puts, List.foldl_cons, List.foldl_nil, Act.put, List.setIfInBounds_toArray, List.set_cons_zero, List.set_cons_succ, Pj.vset, Nat.reduceEqDiff, if_true, if_false, e9], HJ.out.more (by decide) hL rfl⟩
        | 11, ho =>
          simp only [List.getElem?_toArray, List.getElem?_cons_zero, List.getElem?_cons_succ, Option.some.injEq] at ho
          have HJ := Lib.hid hJ
          clear hJ
          subst ho
          refine Pj.Step.free rfl ?_
          simp only [Pj.puts, List.foldl_cons, List.foldl_nil, Act.put, List.setIfInBounds_toArray, List.set_cons_zero, List.set_cons_succ]
          go_simp
          exact hKq _ _ ⟨Pj.vset V 11 (.pointer (some ⟨px, 2, none⟩)), by simp only [Pj.puts, List.foldl_cons, List.foldl_nil, Act.put, List.setIfInBounds_toArray, List.set_cons_zero, List.set_cons_succ, Pj.vset, Nat.reduceEqDiff, if_true, if_false], HJ.out.more (by decide) hL rfl⟩
        | 12, ho =>
          simp only [List.getElem?_toArray, List.getElem?_cons_zero, List.getElem?_cons_succ, Option.some.injEq] at ho
          have e11 : V 11 = .pointer (some ⟨px, 2, none⟩) := hJ.h 11 (hdep 11 (by rw [← ho]; kernel_rfl)) (by decide)
          have hr : (fun W : World => BlockAt W px (#[.int .i64 xk, .int .i64 xd, .int .i64 xs, .int .i64 xn, .string xt, .slice al xl.length cl]) 37) w := hJ.rd (R := fun W => BlockAt W px (#[.int .i64 xk, .int .i64 xd, .int .i64 xs, .int .i64 xn, .string xt, .slice al xl.length cl]) 37) HRD.out
          have hr2 : BlockAt w px (#[.int .i64 xk, .int .i64 xd, .int .i64 xs, .int .i64 xn, .string xt, .slice al xl.length cl]) 37 := hr
          obtain ⟨b0, b1, b2, b3, b4, b5⟩ := box6a hr2
          have HJ := Lib.hid hJ
          clear hJ
          subst ho
          refine Pj.Step.free rfl ?_
          simp only [Pj.puts, List.foldl_cons, List.foldl_nil, Act.put, List.setIfInBounds_toArray, List.set_cons_zero, List.set_cons_succ, e11]
          go_simp
          exact hKq _ _ ⟨Pj.vset V 12 (.int .i64 xs), by simp only [Pj.puts, List.foldl_cons, List.foldl_nil, Act.put, List.setIfInBounds_toArray, List.set_cons_zero, List.set_cons_succ, Pj.vset, Nat.reduceEqDiff, if_true, if_false, e11], HJ.out.more (by decide) hL rfl⟩
        | 13, ho =>
          simp only [List.getElem?_toArray, List.getElem?_cons_zero, List.getElem?_cons_succ, Option.some.injEq] at ho
          have HJ := Lib.hid hJ
          clear hJ
          subst ho
          refine Pj.Step.free rfl ?_
          simp only [Pj.puts, List.foldl_cons, List.foldl_nil, Act.put, List.setIfInBounds_toArray, List.set_cons_zero, List.set_cons_succ]
          go_simp
          exact hKq _ _ ⟨Pj.vset V 13 (.string U), by simp only [Pj.puts, List.foldl_cons, List.foldl_nil, Act.put, List.setIfInBounds_toArray, List.set_cons_zero, List.set_cons_succ, Pj.vset, Nat.reduceEqDiff, if_true, if_false], HJ.out.more (by decide) hL rfl⟩
        | 14, ho =>
          simp only [List.getElem?_toArray, List.getElem?_cons_zero, List.getElem?_cons_succ, Option.some.injEq] at ho
          have e8 : V 8 = .pointer (some ⟨pr, 0, none⟩) := hJ.h 8 (hdep 8 (by rw [← ho]; kernel_rfl)) (by decide)
          have e10 : V 10 = .int .i64 xd := hJ.h 10 (hdep 10 (by rw [← ho]; kernel_rfl)) (by decide)
          have e12 : V 12 = .int .i64 xs := hJ.h 12 (hdep 12 (by rw [← ho]; kernel_rfl)) (by decide)
          have e13 : V 13 = .string U := hJ.h 13 (hdep 13 (by rw [← ho]; kernel_rfl)) (by decide)
          have hpv : 2 = 0 ∨ L (([6, 7, 14] : List Nat).getD (2 - 1) 0) := .inr (hdep 7 (by rw [← ho]; kernel_rfl))
          have hph : (Ph1 B W pa DA pr A D E KR CR S' S px (#[.int .i64 xk, .int .i64 xd, .int .i64 xs, .int .i64 xn, .string xt, .slice al xl.length cl])) w := hJ.at 2 (by decide) rfl hopen hpv
          have HJ := Lib.hid hJ
          clear hJ
          subst ho
          refine Pj.Step.free rfl ?_
          simp only [Pj.puts, List.foldl_cons, List.foldl_nil, Act.put, List.setIfInBounds_toArray, List.set_cons_zero, List.set_cons_succ, e8, e10, e12, e13]
          go_simp
          refine (HWR.out w hph).mono ?_
          rintro e w' ⟨rfl, hw'⟩
          exact hKq _ _ ⟨Pj.vset V 14 (.int .i64 vr), by simp only [Pj.puts, List.foldl_cons, List.foldl_nil, Act.put, List.setIfInBounds_toArray, List.set_cons_zero, List.set_cons_succ, Pj.vset, Nat.reduceEqDiff, if_true, if_false, e8, e10, e12, e13], HJ.out.step 2 (by decide) rfl (by decide) hopen hL hpv rfl hw'⟩
        | 15, ho =>
          simp only [List.getElem?_toArray, List.getElem?_cons_zero, List.getElem?_cons_succ, Option.some.injEq] at ho
          have e7 : V 7 = .int .i64 vr := hJ.h 7 (hdep 7 (by rw [← ho]; kernel_rfl)) (by decide)
          have e14 : V 14 = .int .i64 vr := hJ.h 14 (hdep 14 (by rw [← ho]; kernel_rfl)) (by decide)
          have HJ := Lib.hid hJ
          clear hJ
          subst ho
          refine Pj.Step.free rfl ?_
          simp only [Pj.puts, List.foldl_cons, List.foldl_nil, Act.put, List.setIfInBounds_toArray, List.set_cons_zero, List.set_cons_succ, e7, e14]
          go_simp
          exact hKq _ _ ⟨Pj.vset V 15 (.bool true), by simp only [Pj.puts, List.foldl_cons, List.foldl_nil, Act.put, List.setIfInBounds_toArray, List.set_cons_zero, List.set_cons_succ, Pj.vset, Nat.reduceEqDiff, if_true, if_false, e7, e14], HJ.out.more (by decide) hL rfl⟩
        | 16, ho =>
          simp only [List.getElem?_toArray, List.getElem?_cons_zero, List.getElem?_cons_succ, Option.some.injEq] at ho
          have e15 : V 15 = .bool true := hJ.h 15 (hdep 15 (by rw [← ho]; kernel_rfl)) (by decide)
          have HJ := Lib.hid hJ
          clear hJ
          subst ho
          refine Pj.Step.free rfl ?_
          simp only [Pj.puts, List.foldl_cons, List.foldl_nil, Act.put, List.setIfInBounds_toArray, List.set_cons_zero, List.set_cons_succ, e15]
          go_simp
          exact hKq _ _ ⟨Pj.vset V 16 (.bool true), by simp only [Pj.puts, List.foldl_cons, List.foldl_nil, Act.put, List.setIfInBounds_toArray, List.set_cons_zero, List.set_cons_succ, Pj.vset, Nat.reduceEqDiff, if_true, if_false, e15], HJ.out.more (by decide) hL rfl⟩
        | n + 17, ho => simp at ho
      case ehe =>
        intro V w9 hw9 hv
        have hw9' : (Ph2 B W pa DA pr A D E S' px (#[.int .i64 xk, .int .i64 xd, .int .i64 xs, .int .i64 xn, .string xt, .slice al xl.length cl])) w9 := hw9
        clear hw9
        have e16 : V 16 = .bool true := hv 16 (by decide)
        simp only [Pj.puts, List.foldl_cons, List.foldl_nil, Act.put, List.setIfInBounds_toArray, List.set_cons_zero, List.set_cons_succ, e16]
        clear hv e16
        obtain ⟨⟨KA', CA', KR', CR', h2⟩, _, h3⟩ := hw9'
        have H2 := Lib.hid h2
        have H3 := Lib.hid h3
        clear h2 h3
        go_wp2
        go_ret
        exact ⟨rfl, H3.out, KA', CA', KR', CR', S', H2.out, HIV.out⟩
end Go.Proofs.Ytkfomaoillnehaa
