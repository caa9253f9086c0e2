/- Contracts laid together: what each says stands at its head (no conditions). -/
import Derived.Test.YtkfomaoillnehaaVa
import Derived.Test.YtkfomaoillnehaaJp
namespace Go.Proofs.Ytkfomaoillnehaa
open Go.RowKit
attribute [local go_sem] Oper.semAt_some

set_option maxRecDepth 100000 in
set_option maxHeartbeats 4000000 in
theorem does_flush {B : Nat} {W : World} {pa DA : Nat} {KA CA : Nat → Nat} {pr A D E : Nat} {KR CR : Nat → Nat} {S : Arr} {m n g : Nat} (h : Two B W pa DA KA CA pr A D E KR CR S S) (hi : InvA m n g S) (hg : g ≤ 1000) (hn1 : 1 ≤ n) (x : Ac) (al : Option Addr) (cl : Nat) (hx : AcOk W B x al cl) (hc : wthn x.k 15 = 7 ∨ wthn x.k 15 = 8) : Calls Try.prog 14 #[.pointer (some ⟨pa, 0, none⟩), .pointer (some ⟨pr, 0, none⟩), .agg (acC x al cl)] W (DoesP B W pa DA pr A D E m n g) := by
  rcases hc with hc | hc
  all_goals
    obtain ⟨xk, xd, xs, xn, xt, xl⟩ := x
    dsimp only at hc
    have HWI := Lib.hid (fun w => within_ref xk 15 (by omega) w)
    rw [hc] at HWI
    have HX := Lib.hid hx
    have HI := Lib.hid hi
    have H0 := Lib.hid h
    have hbw := h.bw
    have HG := Lib.hid (And.intro hg hn1)
    clear hc hx hi h hg hn1
    unfold acC DoesP
    dsimp only at HX ⊢
    go_enter Try.func14, Try.ntmps14
    go_upto_region 1 with (fail)
    have k1 := (Kept.refl W).alloc (.cells #[.int .i64 xk, .int .i64 xd, .int .i64 xs, .int .i64 xn, .string xt, .slice al xl.length cl] 37)
    have HT := Lib.hid (H0.out.kept k1)
    have HB := Lib.hid (BlockAt.new W #[.int .i64 xk, .int .i64 xd, .int .i64 xs, .int .i64 xn, .string xt, .slice al xl.length cl] 37)
    have HK := Lib.hid k1
    obtain ⟨px, hpx⟩ : ∃ px, px = W.heap.size := ⟨_, rfl⟩
    have HPX := Lib.hid hpx
    rw [← hpx] at HB ⊢
    clear k1 hpx
    generalize W.alloc (.cells #[.int .i64 xk, .int .i64 xd, .int .i64 xs, .int .i64 xn, .string xt, .slice al xl.length cl] 37) = w1 at *
    obtain ⟨b0, b1, b2, b3, b4, b5⟩ := box6a HB.out
    go_wp2_with fail
    refine (HWI.out _).mono ?_
    rintro e w2 ⟨rfl, rfl⟩
    clear HWI
    have HNA := Lib.hid (show ∀ b, b = pa ∨ ArF DA KA CA S.m b → ¬ b = px from fun b hb e => by have := H0.out.a.foot_lt b hb; have := HPX.out; omega)
    have HNR := Lib.hid (show ∀ b, RfF pr A D E KR CR S.m b → ¬ b = px from fun b hb e => by have := H0.out.r.foot_lt b hb; have := HPX.out; omega)
    have HSG := Lib.hid (And.intro HI.out.g HI.out.l)
    obtain ⟨S', hS'⟩ : ∃ S', S' = (flushA S xd).1 := ⟨_, rfl⟩
    obtain ⟨vr, hvr⟩ : ∃ vr, vr = (flushA S xd).2 := ⟨_, rfl⟩
    have HSM := Lib.hid (show S'.m = S.m by rw [hS']; exact (HI.out.flush xd).m.trans HI.out.m.symm)
    have HIV := Lib.hid (show InvA m n (g + 1) S' by rw [hS']; exact HI.out.flush xd)
    have HWA := Lib.hid (show ∀ w, Ph0 B W pa DA KA CA pr A D E KR CR S px (#[.int .i64 xk, .int .i64 xd, .int .i64 xs, .int .i64 xn, .string xt, .slice al xl.length cl]) w → Calls Try.prog 23 #[.pointer (some ⟨pa, 0, none⟩), .int .i64 xd] w fun e w' => e = .returned (.int .i64 vr) ∧ Ph1 B W pa DA pr A D E KR CR S' S px (#[.int .i64 xk, .int .i64 xd, .int .i64 xs, .int .i64 xn, .string xt, .slice al xl.length cl]) w' from fun w hp => by
      have ht := hp.1
      have hg := HSG.out.1
      have hl := HSG.out.2
      rw [hvr, hS']
      exact (flush_arr ht.a (ht.la pa (.inl rfl)) (fun d hd => ⟨ht.la _ (.inr (.inr ⟨d, hd, .inl rfl⟩)), ht.la _ (.inr (.inr ⟨d, hd, .inr rfl⟩))⟩) (by have := HG.out.1; omega) ht.bw xd).mono (fun e w' ⟨h1, h2, h3⟩ => ⟨h1, hp.next HNA.out h2 h3 (by rw [← hS']; exact HSM.out)⟩))
    have HWR := Lib.hid (show ∀ w, Ph1 B W pa DA pr A D E KR CR S' S px (#[.int .i64 xk, .int .i64 xd, .int .i64 xs, .int .i64 xn, .string xt, .slice al xl.length cl]) w → Calls Try.prog 30 #[.pointer (some ⟨pr, 0, none⟩), .int .i64 xd] w fun e w' => e = .returned (.int .i64 vr) ∧ Ph2 B W pa DA pr A D E S' px (#[.int .i64 xk, .int .i64 xd, .int .i64 xs, .int .i64 xn, .string xt, .slice al xl.length cl]) w' from fun w hp => by
      obtain ⟨KA', CA', ht⟩ := hp.1
      have hg := HSG.out.1
      have hl := HSG.out.2
      rw [hvr, hS']
      rw [hS'] at hp
      exact (flush_ar ht.r (ht.lr pr (.inl rfl)) (fun d hd => ⟨ht.lr _ (.inr (.inr (.inr (.inr ⟨d, hd, .inl rfl⟩)))), ht.lr _ (.inr (.inr (.inr (.inr ⟨d, hd, .inr rfl⟩))))⟩) ht.bw (by have := HG.out.1; omega) (by omega) xd).mono (fun e w' ⟨h1, h2, h3⟩ => ⟨h1, hp.next HNR.out h2 h3 (by rw [← hS']; exact HSM.out)⟩))
    clear hS' hvr
    have HP0 := Lib.hid (show Ph0 B W pa DA KA CA pr A D E KR CR S px (#[.int .i64 xk, .int .i64 xd, .int .i64 xs, .int .i64 xn, .string xt, .slice al xl.length cl]) w1.drew from ⟨HT.out.kept ((Kept.refl w1).drew), HB.out.kept ((Kept.refl w1).drew), Below.mono (HK.out.drew) hbw⟩)
    go_upto_region 19 with (fail)
    clear b0 b1 b2 b3 b4 b5
    have HRD := Lib.hid (show ∀ m, m ≤ 3 → ∀ w9, (fun mq9 w9 => ([Ph0 B W pa DA KA CA pr A D E KR CR S px (#[.int .i64 xk, .int .i64 xd, .int .i64 xs, .int .i64 xn, .string xt, .slice al xl.length cl]), Ph1 B W pa DA pr A D E KR CR S' S px (#[.int .i64 xk, .int .i64 xd, .int .i64 xs, .int .i64 xn, .string xt, .slice al xl.length cl]), Ph1 B W pa DA pr A D E KR CR S' S px (#[.int .i64 xk, .int .i64 xd, .int .i64 xs, .int .i64 xn, .string xt, .slice al xl.length cl]), Ph2 B W pa DA pr A D E S' px (#[.int .i64 xk, .int .i64 xd, .int .i64 xs, .int .i64 xn, .string xt, .slice al xl.length cl])] : List (World → Prop)).getD mq9 (fun _ => True) w9) m w9 → (fun W : World => BlockAt W px (#[.int .i64 xk, .int .i64 xd, .int .i64 xs, .int .i64 xn, .string xt, .slice al xl.length cl]) 37) w9 from by
      intro mq9 hmq9 w9 hp9
      match mq9, hmq9, hp9 with
      | 0, _, hp9 => exact hp9.2.1
      | 1, _, hp9 => exact hp9.2.1
      | 2, _, hp9 => exact hp9.2.1
      | 3, _, hp9 => exact hp9.2.1
      | mq9 + 4, h, _ => omega)
    refine Pj.wp_region_jp [(94, 0), (95, 1), (96, 2), (97, 3), (98, 4), (99, 5), (100, 6), (101, 7), (102, 8), (103, 9), (6, 10)] (fun j => ([.pointer (some ⟨pa, 0, none⟩), .pointer (some ⟨px, 1, none⟩), .int .i64 xd, .int .i64 vr, .int .i64 vr, .pointer (some ⟨pr, 0, none⟩), .pointer (some ⟨px, 1, none⟩), .int .i64 xd, .int .i64 vr, .bool true, .bool true] : List Value).getD j undef) [3, 4, 8] (fun mq9 w9 => ([Ph0 B W pa DA KA CA pr A D E KR CR S px (#[.int .i64 xk, .int .i64 xd, .int .i64 xs, .int .i64 xn, .string xt, .slice al xl.length cl]), Ph1 B W pa DA pr A D E KR CR S' S px (#[.int .i64 xk, .int .i64 xd, .int .i64 xs, .int .i64 xn, .string xt, .slice al xl.length cl]), Ph1 B W pa DA pr A D E KR CR S' S px (#[.int .i64 xk, .int .i64 xd, .int .i64 xs, .int .i64 xn, .string xt, .slice al xl.length cl]), Ph2 B W pa DA pr A D E S' px (#[.int .i64 xk, .int .i64 xd, .int .i64 xs, .int .i64 xn, .string xt, .slice al xl.length cl])] : List (World → Prop)).getD mq9 (fun _ => True) w9) (by as_aux_lemma => kernel_rfl) (by as_aux_lemma => kernel_rfl) (by decide) (HP0.out) ?eh0 ?ehs ?ehe
    case eh0 => exact ⟨_, Pj.puts_self _ (fun j => ([94, 95, 96, 97, 98, 99, 100, 101, 102, 103, 6] : List Nat).getD j 0) [0, 1, 2, 3, 4, 5, 6, 7, 8, 9, 10]⟩
    case ehs =>
      intro L L' V w iz opz Kq hJ ho hopen hdep hL hKq
      match iz, ho with
      | 0, ho =>
        simp only [List.getElem?_toArray, List.getElem?_cons_zero, Option.some.injEq] at ho
        have HJ := Lib.hid hJ
        clear hJ
        subst ho
        refine Pj.Step.free rfl ?_
        simp only [Pj.puts, List.foldl_cons, List.foldl_nil, Act.put, List.setIfInBounds_toArray, List.set_cons_zero, List.set_cons_succ]
        go_simp
        exact hKq _ _ ⟨Pj.vset V 0 (.pointer (some ⟨pa, 0, none⟩)), by simp only [Pj.puts, List.foldl_cons, List.foldl_nil, Act.put, List.setIfInBounds_toArray, List.set_cons_zero, List.set_cons_succ, Pj.vset, Nat.reduceEqDiff, if_true, if_false], HJ.out.more (by decide) hL rfl⟩
      | 1, ho =>
        simp only [List.getElem?_toArray, List.getElem?_cons_zero, List.getElem?_cons_succ, Option.some.injEq] at ho
        have HJ := Lib.hid hJ
        clear hJ
        subst ho
        refine Pj.Step.free rfl ?_
        simp only [Pj.puts, List.foldl_cons, List.foldl_nil, Act.put, List.setIfInBounds_toArray, List.set_cons_zero, List.set_cons_succ]
        go_simp
        exact hKq _ _ ⟨Pj.vset V 1 (.pointer (some ⟨px, 1, none⟩)), by simp only [Pj.puts, List.foldl_cons, List.foldl_nil, Act.put, List.setIfInBounds_toArray, List.set_cons_zero, List.set_cons_succ, Pj.vset, Nat.reduceEqDiff, if_true, if_false], HJ.out.more (by decide) hL rfl⟩
      | 2, ho =>
        simp only [List.getElem?_toArray, List.getElem?_cons_zero, List.getElem?_cons_succ, Option.some.injEq] at ho
        have e1 : V 1 = .pointer (some ⟨px, 1, none⟩) := hJ.h 1 (hdep 1 (by rw [← ho]; kernel_rfl)) (by decide)
        have hr : (fun W : World => BlockAt W px (#[.int .i64 xk, .int .i64 xd, .int .i64 xs, .int .i64 xn, .string xt, .slice al xl.length cl]) 37) w := hJ.rd (R := fun W => BlockAt W px (#[.int .i64 xk, .int .i64 xd, .int .i64 xs, .int .i64 xn, .string xt, .slice al xl.length cl]) 37) HRD.out
        have hr2 : BlockAt w px (#[.int .i64 xk, .int .i64 xd, .int .i64 xs, .int .i64 xn, .string xt, .slice al xl.length cl]) 37 := hr
        obtain ⟨b0, b1, b2, b3, b4, b5⟩ := box6a hr2
        have HJ := Lib.hid hJ
        clear hJ
        subst ho
        refine Pj.Step.free rfl ?_
        simp only [Pj.puts, List.foldl_cons, List.foldl_nil, Act.put, List.setIfInBounds_toArray, List.set_cons_zero, List.set_cons_succ, e1]
        go_simp
        exact hKq _ _ ⟨Pj.vset V 2 (.int .i64 xd), by simp only [Pj.puts, List.foldl_cons, List.foldl_nil, Act.put, List.setIfInBounds_toArray, List.set_cons_zero, List.set_cons_succ, Pj.vset, Nat.reduceEqDiff, if_true, if_false, e1], HJ.out.more (by decide) hL rfl⟩
      | 3, ho =>
        simp only [List.getElem?_toArray, List.getElem?_cons_zero, List.getElem?_cons_succ, Option.some.injEq] at ho
        have e0 : V 0 = .pointer (some ⟨pa, 0, none⟩) := hJ.h 0 (hdep 0 (by rw [← ho]; kernel_rfl)) (by decide)
        have e2 : V 2 = .int .i64 xd := hJ.h 2 (hdep 2 (by rw [← ho]; kernel_rfl)) (by decide)
        have hpv : 0 = 0 ∨ L (([3, 4, 8] : List Nat).getD (0 - 1) 0) := .inl rfl
        have hph : (Ph0 B W pa DA KA CA pr A D E KR CR S px (#[.int .i64 xk, .int .i64 xd, .int .i64 xs, .int .i64 xn, .string xt, .slice al xl.length cl])) w := hJ.at 0 (by decide) rfl hopen hpv
        have HJ := Lib.hid hJ
        clear hJ
        subst ho
        refine Pj.Step.free rfl ?_
        simp only [Pj.puts, List.foldl_cons, List.foldl_nil, Act.put, List.setIfInBounds_toArray, List.set_cons_zero, List.set_cons_succ, e0, e2]
        go_simp
        refine (HWA.out w hph).mono ?_
        rintro e w' ⟨rfl, hw'⟩
        exact hKq _ _ ⟨Pj.vset V 3 (.int .i64 vr), by simp only [Pj.puts, List.foldl_cons, List.foldl_nil, Act.put, List.setIfInBounds_toArray, List.set_cons_zero, List.set_cons_succ, Pj.vset, Nat.reduceEqDiff, if_true, if_false, e0, e2], HJ.out.step 0 (by decide) rfl (by decide) hopen hL hpv rfl hw'⟩
      | 4, ho =>
        simp only [List.getElem?_toArray, List.getElem?_cons_zero, List.getElem?_cons_succ, Option.some.injEq] at ho
        have e3 : V 3 = .int .i64 vr := hJ.h 3 (hdep 3 (by rw [← ho]; kernel_rfl)) (by decide)
        have hpv : 1 = 0 ∨ L (([3, 4, 8] : List Nat).getD (1 - 1) 0) := .inr (hdep 3 (by rw [← ho]; kernel_rfl))
        have hph : (Ph1 B W pa DA pr A D E KR CR S' S px (#[.int .i64 xk, .int .i64 xd, .int .i64 xs, .int .i64 xn, .string xt, .slice al xl.length cl])) w := hJ.at 1 (by decide) rfl hopen hpv
        have HJ := Lib.hid hJ
        clear hJ
        subst ho
        refine Pj.Step.free rfl ?_
        simp only [Pj.puts, List.foldl_cons, List.foldl_nil, Act.put, List.setIfInBounds_toArray, List.set_cons_zero, List.set_cons_succ, e3]
        go_simp
        refine (num10_any vr _).mono ?_
        rintro e w' ⟨rfl, rfl⟩
        have hw' := hph
        exact hKq _ _ ⟨Pj.vset V 4 (.int .i64 vr), by simp only [Pj.puts, List.foldl_cons, List.foldl_nil, Act.put, List.setIfInBounds_toArray, List.set_cons_zero, List.set_cons_succ, Pj.vset, Nat.reduceEqDiff, if_true, if_false, e3], HJ.out.step 1 (by decide) rfl (by decide) hopen hL hpv rfl hw'⟩
      | 5, ho =>
        simp only [List.getElem?_toArray, List.getElem?_cons_zero, List.getElem?_cons_succ, Option.some.injEq] at ho
        have HJ := Lib.hid hJ
        clear hJ
        subst ho
        refine Pj.Step.free rfl ?_
        simp only [Pj.puts, List.foldl_cons, List.foldl_nil, Act.put, List.setIfInBounds_toArray, List.set_cons_zero, List.set_cons_succ]
        go_simp
        exact hKq _ _ ⟨Pj.vset V 5 (.pointer (some ⟨pr, 0, none⟩)), by simp only [Pj.puts, List.foldl_cons, List.foldl_nil, Act.put, List.setIfInBounds_toArray, List.set_cons_zero, List.set_cons_succ, Pj.vset, Nat.reduceEqDiff, if_true, if_false], HJ.out.more (by decide) hL rfl⟩
      | 6, ho =>
        simp only [List.getElem?_toArray, List.getElem?_cons_zero, List.getElem?_cons_succ, Option.some.injEq] at ho
        have HJ := Lib.hid hJ
        clear hJ
        subst ho
        refine Pj.Step.free rfl ?_
        simp only [Pj.puts, List.foldl_cons, List.foldl_nil, Act.put, List.setIfInBounds_toArray, List.set_cons_zero, List.set_cons_succ]
        go_simp
        exact hKq _ _ ⟨Pj.vset V 6 (.pointer (some ⟨px, 1, none⟩)), by simp only [Pj.puts, List.foldl_cons, List.foldl_nil, Act.put, List.setIfInBounds_toArray, List.set_cons_zero, List.set_cons_succ, Pj.vset, Nat.reduceEqDiff, if_true, if_false], HJ.out.more (by decide) hL rfl⟩
      | 7, ho =>
        simp only [List.getElem?_toArray, List.getElem?_cons_zero, List.getElem?_cons_succ, Option.some.injEq] at ho
        have e6 : V 6 = .pointer (some ⟨px, 1, none⟩) := hJ.h 6 (hdep 6 (by rw [← ho]; kernel_rfl)) (by decide)
        have hr : (fun W : World => BlockAt W px (#[.int .i64 xk, .int .i64 xd, .int .i64 xs, .int .i64 xn, .string xt, .slice al xl.length cl]) 37) w := hJ.rd (R := fun W => BlockAt W px (#[.int .i64 xk, .int .i64 xd, .int .i64 xs, .int .i64 xn, .string xt, .slice al xl.length cl]) 37) HRD.out
        have hr2 : BlockAt w px (#[.int .i64 xk, .int .i64 xd, .int .i64 xs, .int .i64 xn, .string xt, .slice al xl.length cl]) 37 := hr
        obtain ⟨b0, b1, b2, b3, b4, b5⟩ := box6a hr2
        have HJ := Lib.hid hJ
        clear hJ
        subst ho
        refine Pj.Step.free rfl ?_
        simp only [Pj.puts, List.foldl_cons, List.foldl_nil, Act.put, List.setIfInBounds_toArray, List.set_cons_zero, List.set_cons_succ, e6]
        go_simp
        exact hKq _ _ ⟨Pj.vset V 7 (.int .i64 xd), by simp only [Pj.puts, List.foldl_cons, List.foldl_nil, Act.put, List.setIfInBounds_toArray, List.set_cons_zero, List.set_cons_succ, Pj.vset, Nat.reduceEqDiff, if_true, if_false, e6], HJ.out.more (by decide) hL rfl⟩
      | 8, ho =>
        simp only [List.getElem?_toArray, List.getElem?_cons_zero, List.getElem?_cons_succ, Option.some.injEq] at ho
        have e5 : V 5 = .pointer (some ⟨pr, 0, none⟩) := hJ.h 5 (hdep 5 (by rw [← ho]; kernel_rfl)) (by decide)
        have e7 : V 7 = .int .i64 xd := hJ.h 7 (hdep 7 (by rw [← ho]; kernel_rfl)) (by decide)
        have hpv : 2 = 0 ∨ L (([3, 4, 8] : List Nat).getD (2 - 1) 0) := .inr (hdep 4 (by rw [← ho]; kernel_rfl))
        have hph : (Ph1 B W pa DA pr A D E KR CR S' S px (#[.int .i64 xk, .int .i64 xd, .int .i64 xs, .int .i64 xn, .string xt, .slice al xl.length cl])) w := hJ.at 2 (by decide) rfl hopen hpv
        have HJ := Lib.hid hJ
        clear hJ
        subst ho
        refine Pj.Step.free rfl ?_
        simp only [Pj.puts, List.foldl_cons, List.foldl_nil, Act.put, List.setIfInBounds_toArray, List.set_cons_zero, List.set_cons_succ, e5, e7]
        go_simp
        refine (HWR.out w hph).mono ?_
        rintro e w' ⟨rfl, hw'⟩
        exact hKq _ _ ⟨Pj.vset V 8 (.int .i64 vr), by simp only [Pj.puts, List.foldl_cons, List.foldl_nil, Act.put, List.setIfInBounds_toArray, List.set_cons_zero, List.set_cons_succ, Pj.vset, Nat.reduceEqDiff, if_true, if_false, e5, e7], HJ.out.step 2 (by decide) rfl (by decide) hopen hL hpv rfl hw'⟩
      | 9, ho =>
        simp only [List.getElem?_toArray, List.getElem?_cons_zero, List.getElem?_cons_succ, Option.some.injEq] at ho
        have e4 : V 4 = .int .i64 vr := hJ.h 4 (hdep 4 (by rw [← ho]; kernel_rfl)) (by decide)
        have e8 : V 8 = .int .i64 vr := hJ.h 8 (hdep 8 (by rw [← ho]; kernel_rfl)) (by decide)
        have HJ := Lib.hid hJ
        clear hJ
        subst ho
        refine Pj.Step.free rfl ?_
        simp only [Pj.puts, List.foldl_cons, List.foldl_nil, Act.put, List.setIfInBounds_toArray, List.set_cons_zero, List.set_cons_succ, e4, e8]
        go_simp
        exact hKq _ _ ⟨Pj.vset V 9 (.bool true), by simp only [Pj.puts, List.foldl_cons, List.foldl_nil, Act.put, List.setIfInBounds_toArray, List.set_cons_zero, List.set_cons_succ, Pj.vset, Nat.reduceEqDiff, if_true, if_false, e4, e8], HJ.out.more (by decide) hL rfl⟩
      | 10, ho =>
        simp only [List.getElem?_toArray, List.getElem?_cons_zero, List.getElem?_cons_succ, Option.some.injEq] at ho
        have e9 : V 9 = .bool true := hJ.h 9 (hdep 9 (by rw [← ho]; kernel_rfl)) (by decide)
        have HJ := Lib.hid hJ
        clear hJ
        subst ho
        refine Pj.Step.free rfl ?_
        simp only [Pj.puts, List.foldl_cons, List.foldl_nil, Act.put, List.setIfInBounds_toArray, List.set_cons_zero, List.set_cons_succ, e9]
        go_simp
        exact hKq _ _ ⟨Pj.vset V 10 (.bool true), by simp only [Pj.puts, List.foldl_cons, List.foldl_nil, Act.put, List.setIfInBounds_toArray, List.set_cons_zero, List.set_cons_succ, Pj.vset, Nat.reduceEqDiff, if_true, if_false, e9], HJ.out.more (by decide) hL rfl⟩
      | n + 11, ho => simp at ho
    case ehe =>
      intro V w9 hw9 hv
      have hw9' : (Ph2 B W pa DA pr A D E S' px (#[.int .i64 xk, .int .i64 xd, .int .i64 xs, .int .i64 xn, .string xt, .slice al xl.length cl])) w9 := hw9
      clear hw9
      have e10 : V 10 = .bool true := hv 10 (by decide)
      simp only [Pj.puts, List.foldl_cons, List.foldl_nil, Act.put, List.setIfInBounds_toArray, List.set_cons_zero, List.set_cons_succ, e10]
      clear hv e10
      obtain ⟨⟨KA', CA', KR', CR', h2⟩, _, h3⟩ := hw9'
      have H2 := Lib.hid h2
      have H3 := Lib.hid h3
      clear h2 h3
      go_wp2
      go_ret
      exact ⟨rfl, H3.out, KA', CA', KR', CR', S', H2.out, HIV.out⟩
end Go.Proofs.Ytkfomaoillnehaa

namespace Go.Proofs.Ytkfomaoillnehaa
open Go.RowKit
attribute [local go_sem] Oper.semAt_some

set_option maxRecDepth 100000 in
set_option maxHeartbeats 4000000 in
theorem does_lose {B : Nat} {W : World} {pa DA : Nat} {KA CA : Nat → Nat} {pr A D E : Nat} {KR CR : Nat → Nat} {S : Arr} {m n g : Nat} (h : Two B W pa DA KA CA pr A D E KR CR S S) (hi : InvA m n g S) (hg : g ≤ 1000) (hn1 : 1 ≤ n) (x : Ac) (al : Option Addr) (cl : Nat) (hx : AcOk W B x al cl) (hc : wthn x.k 15 = 12) : Calls Try.prog 14 #[.pointer (some ⟨pa, 0, none⟩), .pointer (some ⟨pr, 0, none⟩), .agg (acC x al cl)] W (DoesP B W pa DA pr A D E m n g) := by
  obtain ⟨xk, xd, xs, xn, xt, xl⟩ := x
  dsimp only at hc
  have HWI := Lib.hid (fun w => within_ref xk 15 (by omega) w)
  rw [hc] at HWI
  have HX := Lib.hid hx
  have HI := Lib.hid hi
  have H0 := Lib.hid h
  have hbw := h.bw
  have HG := Lib.hid (And.intro hg hn1)
  clear hc hx hi h hg hn1
  unfold acC DoesP
  dsimp only at HX ⊢
  go_enter Try.func14, Try.ntmps14
  go_upto_region 1 with (fail)
  have k1 := (Kept.refl W).alloc (.cells #[.int .i64 xk, .int .i64 xd, .int .i64 xs, .int .i64 xn, .string xt, .slice al xl.length cl] 37)
  have HT := Lib.hid (H0.out.kept k1)
  have HB := Lib.hid (BlockAt.new W #[.int .i64 xk, .int .i64 xd, .int .i64 xs, .int .i64 xn, .string xt, .slice al xl.length cl] 37)
  have HK := Lib.hid k1
  obtain ⟨px, hpx⟩ : ∃ px, px = W.heap.size := ⟨_, rfl⟩
  have HPX := Lib.hid hpx
  rw [← hpx] at HB ⊢
  clear k1 hpx
  generalize W.alloc (.cells #[.int .i64 xk, .int .i64 xd, .int .i64 xs, .int .i64 xn, .string xt, .slice al xl.length cl] 37) = w1 at *
  obtain ⟨b0, b1, b2, b3, b4, b5⟩ := box6a HB.out
  go_wp2_with fail
  refine (HWI.out _).mono ?_
  rintro e w2 ⟨rfl, rfl⟩
  clear HWI
  have HNA := Lib.hid (show ∀ b, b = pa ∨ ArF DA KA CA S.m b → ¬ b = px from fun b hb e => by have := H0.out.a.foot_lt b hb; have := HPX.out; omega)
  have HNR := Lib.hid (show ∀ b, RfF pr A D E KR CR S.m b → ¬ b = px from fun b hb e => by have := H0.out.r.foot_lt b hb; have := HPX.out; omega)
  have HSG := Lib.hid (And.intro HI.out.g HI.out.l)
  obtain ⟨S', hS'⟩ : ∃ S', S' = (loseA S xd).1 := ⟨_, rfl⟩
  obtain ⟨vr, hvr⟩ : ∃ vr, vr = (loseA S xd).2 := ⟨_, rfl⟩
  have HSM := Lib.hid (show S'.m = S.m by rw [hS']; exact (HI.out.lose xd).m.trans HI.out.m.symm)
  have HIV := Lib.hid (show InvA m n (g + 1) S' by rw [hS']; exact HI.out.lose xd)
  have HWA := Lib.hid (show ∀ w, Ph0 B W pa DA KA CA pr A D E KR CR S px (#[.int .i64 xk, .int .i64 xd, .int .i64 xs, .int .i64 xn, .string xt, .slice al xl.length cl]) w → Calls Try.prog 35 #[.pointer (some ⟨pa, 0, none⟩), .int .i64 xd] w fun e w' => e = .returned (.int .i64 vr) ∧ Ph1 B W pa DA pr A D E KR CR S' S px (#[.int .i64 xk, .int .i64 xd, .int .i64 xs, .int .i64 xn, .string xt, .slice al xl.length cl]) w' from fun w hp => by
    have ht := hp.1
    have hg := HSG.out.1
    have hl := HSG.out.2
    rw [hvr, hS']
    exact (lose_arr ht.a (ht.la DA (.inr (.inl rfl))) ht.bw xd).mono (fun e w' ⟨h1, h2, h3⟩ => ⟨h1, hp.next HNA.out h2 h3 (by rw [← hS']; exact HSM.out)⟩))
  have HWR := Lib.hid (show ∀ w, Ph1 B W pa DA pr A D E KR CR S' S px (#[.int .i64 xk, .int .i64 xd, .int .i64 xs, .int .i64 xn, .string xt, .slice al xl.length cl]) w → Calls Try.prog 36 #[.pointer (some ⟨pr, 0, none⟩), .int .i64 xd] w fun e w' => e = .returned (.int .i64 vr) ∧ Ph2 B W pa DA pr A D E S' px (#[.int .i64 xk, .int .i64 xd, .int .i64 xs, .int .i64 xn, .string xt, .slice al xl.length cl]) w' from fun w hp => by
    obtain ⟨KA', CA', ht⟩ := hp.1
    have hg := HSG.out.1
    have hl := HSG.out.2
    rw [hvr, hS']
    rw [hS'] at hp
    exact (lose_ar ht.r (ht.lr A (.inr (.inl rfl))) ht.bw xd).mono (fun e w' ⟨h1, h2, h3⟩ => ⟨h1, hp.next HNR.out h2 h3 (by rw [← hS']; exact HSM.out)⟩))
  clear hS' hvr
  have HP0 := Lib.hid (show Ph0 B W pa DA KA CA pr A D E KR CR S px (#[.int .i64 xk, .int .i64 xd, .int .i64 xs, .int .i64 xn, .string xt, .slice al xl.length cl]) w1.drew from ⟨HT.out.kept ((Kept.refl w1).drew), HB.out.kept ((Kept.refl w1).drew), Below.mono (HK.out.drew) hbw⟩)
  go_upto_region 31 with (fail)
  clear b0 b1 b2 b3 b4 b5
  have HRD := Lib.hid (show ∀ m, m ≤ 3 → ∀ w9, (fun mq9 w9 => ([Ph0 B W pa DA KA CA pr A D E KR CR S px (#[.int .i64 xk, .int .i64 xd, .int .i64 xs, .int .i64 xn, .string xt, .slice al xl.length cl]), Ph1 B W pa DA pr A D E KR CR S' S px (#[.int .i64 xk, .int .i64 xd, .int .i64 xs, .int .i64 xn, .string xt, .slice al xl.length cl]), Ph1 B W pa DA pr A D E KR CR S' S px (#[.int .i64 xk, .int .i64 xd, .int .i64 xs, .int .i64 xn, .string xt, .slice al xl.length cl]), Ph2 B W pa DA pr A D E S' px (#[.int .i64 xk, .int .i64 xd, .int .i64 xs, .int .i64 xn, .string xt, .slice al xl.length cl])] : List (World → Prop)).getD mq9 (fun _ => True) w9) m w9 → (fun W : World => BlockAt W px (#[.int .i64 xk, .int .i64 xd, .int .i64 xs, .int .i64 xn, .string xt, .slice al xl.length cl]) 37) w9 from by
    intro mq9 hmq9 w9 hp9
    match mq9, hmq9, hp9 with
    | 0, _, hp9 => exact hp9.2.1
    | 1, _, hp9 => exact hp9.2.1
    | 2, _, hp9 => exact hp9.2.1
    | 3, _, hp9 => exact hp9.2.1
    | mq9 + 4, h, _ => omega)
  refine Pj.wp_region_jp [(135, 0), (136, 1), (137, 2), (138, 3), (139, 4), (140, 5), (141, 6), (142, 7), (143, 8), (144, 9), (6, 10)] (fun j => ([.pointer (some ⟨pa, 0, none⟩), .pointer (some ⟨px, 1, none⟩), .int .i64 xd, .int .i64 vr, .int .i64 vr, .pointer (some ⟨pr, 0, none⟩), .pointer (some ⟨px, 1, none⟩), .int .i64 xd, .int .i64 vr, .bool true, .bool true] : List Value).getD j undef) [3, 4, 8] (fun mq9 w9 => ([Ph0 B W pa DA KA CA pr A D E KR CR S px (#[.int .i64 xk, .int .i64 xd, .int .i64 xs, .int .i64 xn, .string xt, .slice al xl.length cl]), Ph1 B W pa DA pr A D E KR CR S' S px (#[.int .i64 xk, .int .i64 xd, .int .i64 xs, .int .i64 xn, .string xt, .slice al xl.length cl]), Ph1 B W pa DA pr A D E KR CR S' S px (#[.int .i64 xk, .int .i64 xd, .int .i64 xs, .int .i64 xn, .string xt, .slice al xl.length cl]), Ph2 B W pa DA pr A D E S' px (#[.int .i64 xk, .int .i64 xd, .int .i64 xs, .int .i64 xn, .string xt, .slice al xl.length cl])] : List (World → Prop)).getD mq9 (fun _ => True) w9) (by as_aux_lemma => kernel_rfl) (by as_aux_lemma => kernel_rfl) (by decide) (HP0.out) ?eh0 ?ehs ?ehe
  case eh0 => exact ⟨_, Pj.puts_self _ (fun j => ([135, 136, 137, 138, 139, 140, 141, 142, 143, 144, 6] : List Nat).getD j 0) [0, 1, 2, 3, 4, 5, 6, 7, 8, 9, 10]⟩
  case ehs =>
    intro L L' V w iz opz Kq hJ ho hopen hdep hL hKq
    match iz, ho with
    | 0, ho =>
      simp only [List.getElem?_toArray, List.getElem?_cons_zero, Option.some.injEq] at ho
      have HJ := Lib.hid hJ
      clear hJ
      subst ho
      refine Pj.Step.free rfl ?_
      simp only [Pj.puts, List.foldl_cons, List.foldl_nil, Act.put, List.setIfInBounds_toArray, List.set_cons_zero, List.set_cons_succ]
      go_simp
      exact hKq _ _ ⟨Pj.vset V 0 (.pointer (some ⟨pa, 0, none⟩)), by simp only [Pj.puts, List.foldl_cons, List.foldl_nil, Act.put, List.setIfInBounds_toArray, List.set_cons_zero, List.set_cons_succ, Pj.vset, Nat.reduceEqDiff, if_true, if_false], HJ.out.more (by decide) hL rfl⟩
    | 1, ho =>
      simp only [List.getElem?_toArray, List.getElem?_cons_zero, List.getElem?_cons_succ, Option.some.injEq] at ho
      have HJ := Lib.hid hJ
      clear hJ
      subst ho
      refine Pj.Step.free rfl ?_
      simp only [Pj.puts, List.foldl_cons, List.foldl_nil, Act.put, List.setIfInBounds_toArray, List.set_cons_zero, List.set_cons_succ]
      go_simp
      exact hKq _ _ ⟨Pj.vset V 1 (.pointer (some ⟨px, 1, none⟩)), by simp only [Pj.puts, List.foldl_cons, List.foldl_nil, Act.put, List.setIfInBounds_toArray, List.set_cons_zero, List.set_cons_succ, Pj.vset, Nat.reduceEqDiff, if_true, if_false], HJ.out.more (by decide) hL rfl⟩
    | 2, ho =>
      simp only [List.getElem?_toArray, List.getElem?_cons_zero, List.getElem?_cons_succ, Option.some.injEq] at ho
      have e1 : V 1 = .pointer (some ⟨px, 1, none⟩) := hJ.h 1 (hdep 1 (by rw [← ho]; kernel_rfl)) (by decide)
      have hr : (fun W : World => BlockAt W px (#[.int .i64 xk, .int .i64 xd, .int .i64 xs, .int .i64 xn, .string xt, .slice al xl.length cl]) 37) w := hJ.rd (R := fun W => BlockAt W px (#[.int .i64 xk, .int .i64 xd, .int .i64 xs, .int .i64 xn, .string xt, .slice al xl.length cl]) 37) HRD.out
      have hr2 : BlockAt w px (#[.int .i64 xk, .int .i64 xd, .int .i64 xs, .int .i64 xn, .string xt, .slice al xl.length cl]) 37 := hr
      obtain ⟨b0, b1, b2, b3, b4, b5⟩ := box6a hr2
      have HJ := Lib.hid hJ
      clear hJ
      subst ho
      refine Pj.Step.free rfl ?_
      simp only [Pj.puts, List.foldl_cons, List.foldl_nil, Act.put, List.setIfInBounds_toArray, List.set_cons_zero, List.set_cons_succ, e1]
      go_simp
      exact hKq _ _ ⟨Pj.vset V 2 (.int .i64 xd), by simp only [Pj.puts, List.foldl_cons, List.foldl_nil, Act.put, List.setIfInBounds_toArray, List.set_cons_zero, List.set_cons_succ, Pj.vset, Nat.reduceEqDiff, if_true, if_false, e1], HJ.out.more (by decide) hL rfl⟩
    | 3, ho =>
      simp only [List.getElem?_toArray, List.getElem?_cons_zero, List.getElem?_cons_succ, Option.some.injEq] at ho
      have e0 : V 0 = .pointer (some ⟨pa, 0, none⟩) := hJ.h 0 (hdep 0 (by rw [← ho]; kernel_rfl)) (by decide)
      have e2 : V 2 = .int .i64 xd := hJ.h 2 (hdep 2 (by rw [← ho]; kernel_rfl)) (by decide)
      have hpv : 0 = 0 ∨ L (([3, 4, 8] : List Nat).getD (0 - 1) 0) := .inl rfl
      have hph : (Ph0 B W pa DA KA CA pr A D E KR CR S px (#[.int .i64 xk, .int .i64 xd, .int .i64 xs, .int .i64 xn, .string xt, .slice al xl.length cl])) w := hJ.at 0 (by decide) rfl hopen hpv
      have HJ := Lib.hid hJ
      clear hJ
      subst ho
      refine Pj.Step.free rfl ?_
      simp only [Pj.puts, List.foldl_cons, List.foldl_nil, Act.put, List.setIfInBounds_toArray, List.set_cons_zero, List.set_cons_succ, e0, e2]
      go_simp
      refine (HWA.out w hph).mono ?_
      rintro e w' ⟨rfl, hw'⟩
      exact hKq _ _ ⟨Pj.vset V 3 (.int .i64 vr), by simp only [Pj.puts, List.foldl_cons, List.foldl_nil, Act.put, List.setIfInBounds_toArray, List.set_cons_zero, List.set_cons_succ, Pj.vset, Nat.reduceEqDiff, if_true, if_false, e0, e2], HJ.out.step 0 (by decide) rfl (by decide) hopen hL hpv rfl hw'⟩
    | 4, ho =>
      simp only [List.getElem?_toArray, List.getElem?_cons_zero, List.getElem?_cons_succ, Option.some.injEq] at ho
      have e3 : V 3 = .int .i64 vr := hJ.h 3 (hdep 3 (by rw [← ho]; kernel_rfl)) (by decide)
      have hpv : 1 = 0 ∨ L (([3, 4, 8] : List Nat).getD (1 - 1) 0) := .inr (hdep 3 (by rw [← ho]; kernel_rfl))
      have hph : (Ph1 B W pa DA pr A D E KR CR S' S px (#[.int .i64 xk, .int .i64 xd, .int .i64 xs, .int .i64 xn, .string xt, .slice al xl.length cl])) w := hJ.at 1 (by decide) rfl hopen hpv
      have HJ := Lib.hid hJ
      clear hJ
      subst ho
      refine Pj.Step.free rfl ?_
      simp only [Pj.puts, List.foldl_cons, List.foldl_nil, Act.put, List.setIfInBounds_toArray, List.set_cons_zero, List.set_cons_succ, e3]
      go_simp
      refine (num10_any vr _).mono ?_
      rintro e w' ⟨rfl, rfl⟩
      have hw' := hph
      exact hKq _ _ ⟨Pj.vset V 4 (.int .i64 vr), by simp only [Pj.puts, List.foldl_cons, List.foldl_nil, Act.put, List.setIfInBounds_toArray, List.set_cons_zero, List.set_cons_succ, Pj.vset, Nat.reduceEqDiff, if_true, if_false, e3], HJ.out.step 1 (by decide) rfl (by decide) hopen hL hpv rfl hw'⟩
    | 5, ho =>
      simp only [List.getElem?_toArray, List.getElem?_cons_zero, List.getElem?_cons_succ, Option.some.injEq] at ho
      have HJ := Lib.hid hJ
      clear hJ
      subst ho
      refine Pj.Step.free rfl ?_
      simp only [Pj.puts, List.foldl_cons, List.foldl_nil, Act.put, List.setIfInBounds_toArray, List.set_cons_zero, List.set_cons_succ]
      go_simp
      exact hKq _ _ ⟨Pj.vset V 5 (.pointer (some ⟨pr, 0, none⟩)), by simp only [Pj.puts, List.foldl_cons, List.foldl_nil, Act.put, List.setIfInBounds_toArray, List.set_cons_zero, List.set_cons_succ, Pj.vset, Nat.reduceEqDiff, if_true, if_false], HJ.out.more (by decide) hL rfl⟩
    | 6, ho =>
      simp only [List.getElem?_toArray, List.getElem?_cons_zero, List.getElem?_cons_succ, Option.some.injEq] at ho
      have HJ := Lib.hid hJ
      clear hJ
      subst ho
      refine Pj.Step.free rfl ?_
      simp only [Pj.puts, List.foldl_cons, List.foldl_nil, Act.put, List.setIfInBounds_toArray, List.set_cons_zero, List.set_cons_succ]
      go_simp
      exact hKq _ _ ⟨Pj.vset V 6 (.pointer (some ⟨px, 1, none⟩)), by simp only [Pj.puts, List.foldl_cons, List.foldl_nil, Act.put, List.setIfInBounds_toArray, List.set_cons_zero, List.set_cons_succ, Pj.vset, Nat.reduceEqDiff, if_true, if_false], HJ.out.more (by decide) hL rfl⟩
    | 7, ho =>
      simp only [List.getElem?_toArray, List.getElem?_cons_zero, List.getElem?_cons_succ, Option.some.injEq] at ho
      have e6 : V 6 = .pointer (some ⟨px, 1, none⟩) := hJ.h 6 (hdep 6 (by rw [← ho]; kernel_rfl)) (by decide)
      have hr : (fun W : World => BlockAt W px (#[.int .i64 xk, .int .i64 xd, .int .i64 xs, .int .i64 xn, .string xt, .slice al xl.length cl]) 37) w := hJ.rd (R := fun W => BlockAt W px (#[.int .i64 xk, .int .i64 xd, .int .i64 xs, .int .i64 xn, .string xt, .slice al xl.length cl]) 37) HRD.out
      have hr2 : BlockAt w px (#[.int .i64 xk, .int .i64 xd, .int .i64 xs, .int .i64 xn, .string xt, .slice al xl.length cl]) 37 := hr
      obtain ⟨b0, b1, b2, b3, b4, b5⟩ := box6a hr2
      have HJ := Lib.hid hJ
      clear hJ
      subst ho
      refine Pj.Step.free rfl ?_
      simp only [Pj.puts, List.foldl_cons, List.foldl_nil, Act.put, List.setIfInBounds_toArray, List.set_cons_zero, List.set_cons_succ, e6]
      go_simp
      exact hKq _ _ ⟨Pj.vset V 7 (.int .i64 xd), by simp only [Pj.puts, List.foldl_cons, List.foldl_nil, Act.put, List.setIfInBounds_toArray, List.set_cons_zero, List.set_cons_succ, Pj.vset, Nat.reduceEqDiff, if_true, if_false, e6], HJ.out.more (by decide) hL rfl⟩
    | 8, ho =>
      simp only [List.getElem?_toArray, List.getElem?_cons_zero, List.getElem?_cons_succ, Option.some.injEq] at ho
      have e5 : V 5 = .pointer (some ⟨pr, 0, none⟩) := hJ.h 5 (hdep 5 (by rw [← ho]; kernel_rfl)) (by decide)
      have e7 : V 7 = .int .i64 xd := hJ.h 7 (hdep 7 (by rw [← ho]; kernel_rfl)) (by decide)
      have hpv : 2 = 0 ∨ L (([3, 4, 8] : List Nat).getD (2 - 1) 0) := .inr (hdep 4 (by rw [← ho]; kernel_rfl))
      have hph : (Ph1 B W pa DA pr A D E KR CR S' S px (#[.int .i64 xk, .int .i64 xd, .int .i64 xs, .int .i64 xn, .string xt, .slice al xl.length cl])) w := hJ.at 2 (by decide) rfl hopen hpv
      have HJ := Lib.hid hJ
      clear hJ
      subst ho
      refine Pj.Step.free rfl ?_
      simp only [Pj.puts, List.foldl_cons, List.foldl_nil, Act.put, List.setIfInBounds_toArray, List.set_cons_zero, List.set_cons_succ, e5, e7]
      go_simp
      refine (HWR.out w hph).mono ?_
      rintro e w' ⟨rfl, hw'⟩
      exact hKq _ _ ⟨Pj.vset V 8 (.int .i64 vr), by simp only [Pj.puts, List.foldl_cons, List.foldl_nil, Act.put, List.setIfInBounds_toArray, List.set_cons_zero, List.set_cons_succ, Pj.vset, Nat.reduceEqDiff, if_true, if_false, e5, e7], HJ.out.step 2 (by decide) rfl (by decide) hopen hL hpv rfl hw'⟩
    | 9, ho =>
      simp only [List.getElem?_toArray, List.getElem?_cons_zero, List.getElem?_cons_succ, Option.some.injEq] at ho
      have e4 : V 4 = .int .i64 vr := hJ.h 4 (hdep 4 (by rw [← ho]; kernel_rfl)) (by decide)
      have e8 : V 8 = .int .i64 vr := hJ.h 8 (hdep 8 (by rw [← ho]; kernel_rfl)) (by decide)
      have HJ := Lib.hid hJ
      clear hJ
      subst ho
      refine Pj.Step.free rfl ?_
      simp only [Pj.puts, List.foldl_cons, List.foldl_nil, Act.put, List.setIfInBounds_toArray, List.set_cons_zero, List.set_cons_succ, e4, e8]
      go_simp
      exact hKq _ _ ⟨Pj.vset V 9 (.bool true), by simp only [Pj.puts, List.foldl_cons, List.foldl_nil, Act.put, List.setIfInBounds_toArray, List.set_cons_zero, List.set_cons_succ, Pj.vset, Nat.reduceEqDiff, if_true, if_false, e4, e8], HJ.out.more (by decide) hL rfl⟩
    | 10, ho =>
      simp only [List.getElem?_toArray, List.getElem?_cons_zero, List.getElem?_cons_succ, Option.some.injEq] at ho
      have e9 : V 9 = .bool true := hJ.h 9 (hdep 9 (by rw [← ho]; kernel_rfl)) (by decide)
      have HJ := Lib.hid hJ
      clear hJ
      subst ho
      refine Pj.Step.free rfl ?_
      simp only [Pj.puts, List.foldl_cons, List.foldl_nil, Act.put, List.setIfInBounds_toArray, List.set_cons_zero, List.set_cons_succ, e9]
      go_simp
      exact hKq _ _ ⟨Pj.vset V 10 (.bool true), by simp only [Pj.puts, List.foldl_cons, List.foldl_nil, Act.put, List.setIfInBounds_toArray, List.set_cons_zero, List.set_cons_succ, Pj.vset, Nat.reduceEqDiff, if_true, if_false, e9], HJ.out.more (by decide) hL rfl⟩
    | n + 11, ho => simp at ho
  case ehe =>
    intro V w9 hw9 hv
    have hw9' : (Ph2 B W pa DA pr A D E S' px (#[.int .i64 xk, .int .i64 xd, .int .i64 xs, .int .i64 xn, .string xt, .slice al xl.length cl])) w9 := hw9
    clear hw9
    have e10 : V 10 = .bool true := hv 10 (by decide)
    simp only [Pj.puts, List.foldl_cons, List.foldl_nil, Act.put, List.setIfInBounds_toArray, List.set_cons_zero, List.set_cons_succ, e10]
    clear hv e10
    obtain ⟨⟨KA', CA', KR', CR', h2⟩, _, h3⟩ := hw9'
    have H2 := Lib.hid h2
    have H3 := Lib.hid h3
    clear h2 h3
    go_wp2
    go_ret
    exact ⟨rfl, H3.out, KA', CA', KR', CR', S', H2.out, HIV.out⟩
end Go.Proofs.Ytkfomaoillnehaa

namespace Go.Proofs.Ytkfomaoillnehaa
open Go.RowKit
attribute [local go_sem] Oper.semAt_some

set_option maxRecDepth 100000 in
set_option maxHeartbeats 4000000 in
theorem does_repl {B : Nat} {W : World} {pa DA : Nat} {KA CA : Nat → Nat} {pr A D E : Nat} {KR CR : Nat → Nat} {S : Arr} {m n g : Nat} (h : Two B W pa DA KA CA pr A D E KR CR S S) (hi : InvA m n g S) (hg : g ≤ 1000) (hn1 : 1 ≤ n) (x : Ac) (al : Option Addr) (cl : Nat) (hx : AcOk W B x al cl) (hc : wthn x.k 15 = 13) : Calls Try.prog 14 #[.pointer (some ⟨pa, 0, none⟩), .pointer (some ⟨pr, 0, none⟩), .agg (acC x al cl)] W (DoesP B W pa DA pr A D E m n g) := by
  obtain ⟨xk, xd, xs, xn, xt, xl⟩ := x
  dsimp only at hc
  have HWI := Lib.hid (fun w => within_ref xk 15 (by omega) w)
  rw [hc] at HWI
  have HX := Lib.hid hx
  have HI := Lib.hid hi
  have H0 := Lib.hid h
  have hbw := h.bw
  have HG := Lib.hid (And.intro hg hn1)
  clear hc hx hi h hg hn1
  unfold acC DoesP
  dsimp only at HX ⊢
  go_enter Try.func14, Try.ntmps14
  go_upto_region 1 with (fail)
  have k1 := (Kept.refl W).alloc (.cells #[.int .i64 xk, .int .i64 xd, .int .i64 xs, .int .i64 xn, .string xt, .slice al xl.length cl] 37)
  have HT := Lib.hid (H0.out.kept k1)
  have HB := Lib.hid (BlockAt.new W #[.int .i64 xk, .int .i64 xd, .int .i64 xs, .int .i64 xn, .string xt, .slice al xl.length cl] 37)
  have HK := Lib.hid k1
  obtain ⟨px, hpx⟩ : ∃ px, px = W.heap.size := ⟨_, rfl⟩
  have HPX := Lib.hid hpx
  rw [← hpx] at HB ⊢
  clear k1 hpx
  generalize W.alloc (.cells #[.int .i64 xk, .int .i64 xd, .int .i64 xs, .int .i64 xn, .string xt, .slice al xl.length cl] 37) = w1 at *
  obtain ⟨b0, b1, b2, b3, b4, b5⟩ := box6a HB.out
  go_wp2_with fail
  refine (HWI.out _).mono ?_
  rintro e w2 ⟨rfl, rfl⟩
  clear HWI
  have HNA := Lib.hid (show ∀ b, b = pa ∨ ArF DA KA CA S.m b → ¬ b = px from fun b hb e => by have := H0.out.a.foot_lt b hb; have := HPX.out; omega)
  have HNR := Lib.hid (show ∀ b, RfF pr A D E KR CR S.m b → ¬ b = px from fun b hb e => by have := H0.out.r.foot_lt b hb; have := HPX.out; omega)
  have HSG := Lib.hid (And.intro HI.out.g HI.out.l)
  obtain ⟨S', hS'⟩ : ∃ S', S' = (replA S xd).1 := ⟨_, rfl⟩
  obtain ⟨vr, hvr⟩ : ∃ vr, vr = (replA S xd).2 := ⟨_, rfl⟩
  have HSM := Lib.hid (show S'.m = S.m by rw [hS']; exact (HI.out.repl xd).m.trans HI.out.m.symm)
  have HIV := Lib.hid (show InvA m n (g + 1) S' by rw [hS']; exact HI.out.repl xd)
  have HWA := Lib.hid (show ∀ w, Ph0 B W pa DA KA CA pr A D E KR CR S px (#[.int .i64 xk, .int .i64 xd, .int .i64 xs, .int .i64 xn, .string xt, .slice al xl.length cl]) w → Calls Try.prog 37 #[.pointer (some ⟨pa, 0, none⟩), .int .i64 xd] w fun e w' => e = .returned (.int .i64 vr) ∧ Ph1 B W pa DA pr A D E KR CR S' S px (#[.int .i64 xk, .int .i64 xd, .int .i64 xs, .int .i64 xn, .string xt, .slice al xl.length cl]) w' from fun w hp => by
    have ht := hp.1
    have hg := HSG.out.1
    have hl := HSG.out.2
    rw [hvr, hS']
    exact (repl_arr ht.a (ht.la DA (.inr (.inl rfl))) ht.bw xd).mono (fun e w' ⟨h1, _, _, h2, h3⟩ => ⟨h1, hp.next HNA.out h2 h3 (by rw [← hS']; exact HSM.out)⟩))
  have HWR := Lib.hid (show ∀ w, Ph1 B W pa DA pr A D E KR CR S' S px (#[.int .i64 xk, .int .i64 xd, .int .i64 xs, .int .i64 xn, .string xt, .slice al xl.length cl]) w → Calls Try.prog 38 #[.pointer (some ⟨pr, 0, none⟩), .int .i64 xd] w fun e w' => e = .returned (.int .i64 vr) ∧ Ph2 B W pa DA pr A D E S' px (#[.int .i64 xk, .int .i64 xd, .int .i64 xs, .int .i64 xn, .string xt, .slice al xl.length cl]) w' from fun w hp => by
    obtain ⟨KA', CA', ht⟩ := hp.1
    have hg := HSG.out.1
    have hl := HSG.out.2
    rw [hvr, hS']
    rw [hS'] at hp
    exact (repl_ar ht.r ⟨ht.lr A (.inr (.inl rfl)), ht.lr D (.inr (.inr (.inl rfl))), ht.lr E (.inr (.inr (.inr (.inl rfl))))⟩ ht.bw xd).mono (fun e w' ⟨h1, _, _, h2, h3⟩ => ⟨h1, hp.next HNR.out h2 h3 (by rw [← hS']; exact HSM.out)⟩))
  clear hS' hvr
  have HP0 := Lib.hid (show Ph0 B W pa DA KA CA pr A D E KR CR S px (#[.int .i64 xk, .int .i64 xd, .int .i64 xs, .int .i64 xn, .string xt, .slice al xl.length cl]) w1.drew from ⟨HT.out.kept ((Kept.refl w1).drew), HB.out.kept ((Kept.refl w1).drew), Below.mono (HK.out.drew) hbw⟩)
  go_upto_region 33 with (fail)
  clear b0 b1 b2 b3 b4 b5
  have HRD := Lib.hid (show ∀ m, m ≤ 3 → ∀ w9, (fun mq9 w9 => ([Ph0 B W pa DA KA CA pr A D E KR CR S px (#[.int .i64 xk, .int .i64 xd, .int .i64 xs, .int .i64 xn, .string xt, .slice al xl.length cl]), Ph1 B W pa DA pr A D E KR CR S' S px (#[.int .i64 xk, .int .i64 xd, .int .i64 xs, .int .i64 xn, .string xt, .slice al xl.length cl]), Ph1 B W pa DA pr A D E KR CR S' S px (#[.int .i64 xk, .int .i64 xd, .int .i64 xs, .int .i64 xn, .string xt, .slice al xl.length cl]), Ph2 B W pa DA pr A D E S' px (#[.int .i64 xk, .int .i64 xd, .int .i64 xs, .int .i64 xn, .string xt, .slice al xl.length cl])] : List (World → Prop)).getD mq9 (fun _ => True) w9) m w9 → (fun W : World => BlockAt W px (#[.int .i64 xk, .int .i64 xd, .int .i64 xs, .int .i64 xn, .string xt, .slice al xl.length cl]) 37) w9 from by
    intro mq9 hmq9 w9 hp9
    match mq9, hmq9, hp9 with
    | 0, _, hp9 => exact hp9.2.1
    | 1, _, hp9 => exact hp9.2.1
    | 2, _, hp9 => exact hp9.2.1
    | 3, _, hp9 => exact hp9.2.1
    | mq9 + 4, h, _ => omega)
  refine Pj.wp_region_jp [(147, 0), (148, 1), (149, 2), (150, 3), (151, 4), (152, 5), (153, 6), (154, 7), (155, 8), (156, 9), (6, 10)] (fun j => ([.pointer (some ⟨pa, 0, none⟩), .pointer (some ⟨px, 1, none⟩), .int .i64 xd, .int .i64 vr, .int .i64 vr, .pointer (some ⟨pr, 0, none⟩), .pointer (some ⟨px, 1, none⟩), .int .i64 xd, .int .i64 vr, .bool true, .bool true] : List Value).getD j undef) [3, 4, 8] (fun mq9 w9 => ([Ph0 B W pa DA KA CA pr A D E KR CR S px (#[.int .i64 xk, .int .i64 xd, .int .i64 xs, .int .i64 xn, .string xt, .slice al xl.length cl]), Ph1 B W pa DA pr A D E KR CR S' S px (#[.int .i64 xk, .int .i64 xd, .int .i64 xs, .int .i64 xn, .string xt, .slice al xl.length cl]), Ph1 B W pa DA pr A D E KR CR S' S px (#[.int .i64 xk, .int .i64 xd, .int .i64 xs, .int .i64 xn, .string xt, .slice al xl.length cl]), Ph2 B W pa DA pr A D E S' px (#[.int .i64 xk, .int .i64 xd, .int .i64 xs, .int .i64 xn, .string xt, .slice al xl.length cl])] : List (World → Prop)).getD mq9 (fun _ => True) w9) (by as_aux_lemma => kernel_rfl) (by as_aux_lemma => kernel_rfl) (by decide) (HP0.out) ?eh0 ?ehs ?ehe
  case eh0 => exact ⟨_, Pj.puts_self _ (fun j => ([147, 148, 149, 150, 151, 152, 153, 154, 155, 156, 6] : List Nat).getD j 0) [0, 1, 2, 3, 4, 5, 6, 7, 8, 9, 10]⟩
  case ehs =>
    intro L L' V w iz opz Kq hJ ho hopen hdep hL hKq
    match iz, ho with
    | 0, ho =>
      simp only [List.getElem?_toArray, List.getElem?_cons_zero, Option.some.injEq] at ho
      have HJ := Lib.hid hJ
      clear hJ
      subst ho
      refine Pj.Step.free rfl ?_
      simp only [Pj.puts, List.foldl_cons, List.foldl_nil, Act.put, List.setIfInBounds_toArray, List.set_cons_zero, List.set_cons_succ]
      go_simp
      exact hKq _ _ ⟨Pj.vset V 0 (.pointer (some ⟨pa, 0, none⟩)), by simp only [Pj.puts, List.foldl_cons, List.foldl_nil, Act.put, List.setIfInBounds_toArray, List.set_cons_zero, List.set_cons_succ, Pj.vset, Nat.reduceEqDiff, if_true, if_false], HJ.out.more (by decide) hL rfl⟩
    | 1, ho =>
      simp only [List.getElem?_toArray, List.getElem?_cons_zero, List.getElem?_cons_succ, Option.some.injEq] at ho
      have HJ := Lib.hid hJ
      clear hJ
      subst ho
      refine Pj.Step.free rfl ?_
      simp only [Pj.puts, List.foldl_cons, List.foldl_nil, Act.put, List.setIfInBounds_toArray, List.set_cons_zero, List.set_cons_succ]
      go_simp
      exact hKq _ _ ⟨Pj.vset V 1 (.pointer (some ⟨px, 1, none⟩)), by simp only [Pj.puts, List.foldl_cons, List.foldl_nil, Act.put, List.setIfInBounds_toArray, List.set_cons_zero, List.set_cons_succ, Pj.vset, Nat.reduceEqDiff, if_true, if_false], HJ.out.more (by decide) hL rfl⟩
    | 2, ho =>
      simp only [List.getElem?_toArray, List.getElem?_cons_zero, List.getElem?_cons_succ, Option.some.injEq] at ho
      have e1 : V 1 = .pointer (some ⟨px, 1, none⟩) := hJ.h 1 (hdep 1 (by rw [← ho]; kernel_rfl)) (by decide)
      have hr : (fun W : World => BlockAt W px (#[.int .i64 xk, .int .i64 xd, .int .i64 xs, .int .i64 xn, .string xt, .slice al xl.length cl]) 37) w := hJ.rd (R := fun W => BlockAt W px (#[.int .i64 xk, .int .i64 xd, .int .i64 xs, .int .i64 xn, .string xt, .slice al xl.length cl]) 37) HRD.out
      have hr2 : BlockAt w px (#[.int .i64 xk, .int .i64 xd, .int .i64 xs, .int .i64 xn, .string xt, .slice al xl.length cl]) 37 := hr
      obtain ⟨b0, b1, b2, b3, b4, b5⟩ := box6a hr2
      have HJ := Lib.hid hJ
      clear hJ
      subst ho
      refine Pj.Step.free rfl ?_
      simp only [Pj.puts, List.foldl_cons, List.foldl_nil, Act.put, List.setIfInBounds_toArray, List.set_cons_zero, List.set_cons_succ, e1]
      go_simp
      exact hKq _ _ ⟨Pj.vset V 2 (.int .i64 xd), by simp only [Pj.puts, List.foldl_cons, List.foldl_nil, Act.put, List.setIfInBounds_toArray, List.set_cons_zero, List.set_cons_succ, Pj.vset, Nat.reduceEqDiff, if_true, if_false, e1], HJ.out.more (by decide) hL rfl⟩
    | 3, ho =>
      simp only [List.getElem?_toArray, List.getElem?_cons_zero, List.getElem?_cons_succ, Option.some.injEq] at ho
      have e0 : V 0 = .pointer (some ⟨pa, 0, none⟩) := hJ.h 0 (hdep 0 (by rw [← ho]; kernel_rfl)) (by decide)
      have e2 : V 2 = .int .i64 xd := hJ.h 2 (hdep 2 (by rw [← ho]; kernel_rfl)) (by decide)
      have hpv : 0 = 0 ∨ L (([3, 4, 8] : List Nat).getD (0 - 1) 0) := .inl rfl
      have hph : (Ph0 B W pa DA KA CA pr A D E KR CR S px (#[.int .i64 xk, .int .i64 xd, .int .i64 xs, .int .i64 xn, .string xt, .slice al xl.length cl])) w := hJ.at 0 (by decide) rfl hopen hpv
      have HJ := Lib.hid hJ
      clear hJ
      subst ho
      refine Pj.Step.free rfl ?_
      simp only [Pj.puts, List.foldl_cons, List.foldl_nil, Act.put, List.setIfInBounds_toArray, List.set_cons_zero, List.set_cons_succ, e0, e2]
      go_simp
      refine (HWA.out w hph).mono ?_
      rintro e w' ⟨rfl, hw'⟩
      exact hKq _ _ ⟨Pj.vset V 3 (.int .i64 vr), by simp only [Pj.puts, List.foldl_cons, List.foldl_nil, Act.put, List.setIfInBounds_toArray, List.set_cons_zero, List.set_cons_succ, Pj.vset, Nat.reduceEqDiff, if_true, if_false, e0, e2], HJ.out.step 0 (by decide) rfl (by decide) hopen hL hpv rfl hw'⟩
    | 4, ho =>
      simp only [List.getElem?_toArray, List.getElem?_cons_zero, List.getElem?_cons_succ, Option.some.injEq] at ho
      have e3 : V 3 = .int .i64 vr := hJ.h 3 (hdep 3 (by rw [← ho]; kernel_rfl)) (by decide)
      have hpv : 1 = 0 ∨ L (([3, 4, 8] : List Nat).getD (1 - 1) 0) := .inr (hdep 3 (by rw [← ho]; kernel_rfl))
      have hph : (Ph1 B W pa DA pr A D E KR CR S' S px (#[.int .i64 xk, .int .i64 xd, .int .i64 xs, .int .i64 xn, .string xt, .slice al xl.length cl])) w := hJ.at 1 (by decide) rfl hopen hpv
      have HJ := Lib.hid hJ
      clear hJ
      subst ho
      refine Pj.Step.free rfl ?_
      simp only [Pj.puts, List.foldl_cons, List.foldl_nil, Act.put, List.setIfInBounds_toArray, List.set_cons_zero, List.set_cons_succ, e3]
      go_simp
      refine (num10_any vr _).mono ?_
      rintro e w' ⟨rfl, rfl⟩
      have hw' := hph
      exact hKq _ _ ⟨Pj.vset V 4 (.int .i64 vr), by simp only [Pj.puts, List.foldl_cons, List.foldl_nil, Act.put, List.setIfInBounds_toArray, List.set_cons_zero, List.set_cons_succ, Pj.vset, Nat.reduceEqDiff, if_true, if_false, e3], HJ.out.step 1 (by decide) rfl (by decide) hopen hL hpv rfl hw'⟩
    | 5, ho =>
      simp only [List.getElem?_toArray, List.getElem?_cons_zero, List.getElem?_cons_succ, Option.some.injEq] at ho
      have HJ := Lib.hid hJ
      clear hJ
      subst ho
      refine Pj.Step.free rfl ?_
      simp only [Pj.puts, List.foldl_cons, List.foldl_nil, Act.put, List.setIfInBounds_toArray, List.set_cons_zero, List.set_cons_succ]
      go_simp
      exact hKq _ _ ⟨Pj.vset V 5 (.pointer (some ⟨pr, 0, none⟩)), by simp only [Pj.puts, List.foldl_cons, List.foldl_nil, Act.put, List.setIfInBounds_toArray, List.set_cons_zero, List.set_cons_succ, Pj.vset, Nat.reduceEqDiff, if_true, if_false], HJ.out.more (by decide) hL rfl⟩
    | 6, ho =>
      simp only [List.getElem?_toArray, List.getElem?_cons_zero, List.getElem?_cons_succ, Option.some.injEq] at ho
      have HJ := Lib.hid hJ
      clear hJ
      subst ho
      refine Pj.Step.free rfl ?_
      simp only [Pj.puts, List.foldl_cons, List.foldl_nil, Act.put, List.setIfInBounds_toArray, List.set_cons_zero, List.set_cons_succ]
      go_simp
      exact hKq _ _ ⟨Pj.vset V 6 (.pointer (some ⟨px, 1, none⟩)), by simp only [Pj.puts, List.foldl_cons, List.foldl_nil, Act.put, List.setIfInBounds_toArray, List.set_cons_zero, List.set_cons_succ, Pj.vset, Nat.reduceEqDiff, if_true, if_false], HJ.out.more (by decide) hL rfl⟩
    | 7, ho =>
      simp only [List.getElem?_toArray, List.getElem?_cons_zero, List.getElem?_cons_succ, Option.some.injEq] at ho
      have e6 : V 6 = .pointer (some ⟨px, 1, none⟩) := hJ.h 6 (hdep 6 (by rw [← ho]; kernel_rfl)) (by decide)
      have hr : (fun W : World => BlockAt W px (#[.int .i64 xk, .int .i64 xd, .int .i64 xs, .int .i64 xn, .string xt, .slice al xl.length cl]) 37) w := hJ.rd (R := fun W => BlockAt W px (#[.int .i64 xk, .int .i64 xd, .int .i64 xs, .int .i64 xn, .string xt, .slice al xl.length cl]) 37) HRD.out
      have hr2 : BlockAt w px (#[.int .i64 xk, .int .i64 xd, .int .i64 xs, .int .i64 xn, .string xt, .slice al xl.length cl]) 37 := hr
      obtain ⟨b0, b1, b2, b3, b4, b5⟩ := box6a hr2
      have HJ := Lib.hid hJ
      clear hJ
      subst ho
      refine Pj.Step.free rfl ?_
      simp only [Pj.puts, List.foldl_cons, List.foldl_nil, Act.put, List.setIfInBounds_toArray, List.set_cons_zero, List.set_cons_succ, e6]
      go_simp
      exact hKq _ _ ⟨Pj.vset V 7 (.int .i64 xd), by simp only [Pj.puts, List.foldl_cons, List.foldl_nil, Act.put, List.setIfInBounds_toArray, List.set_cons_zero, List.set_cons_succ, Pj.vset, Nat.reduceEqDiff, if_true, if_false, e6], HJ.out.more (by decide) hL rfl⟩
    | 8, ho =>
      simp only [List.getElem?_toArray, List.getElem?_cons_zero, List.getElem?_cons_succ, Option.some.injEq] at ho
      have e5 : V 5 = .pointer (some ⟨pr, 0, none⟩) := hJ.h 5 (hdep 5 (by rw [← ho]; kernel_rfl)) (by decide)
      have e7 : V 7 = .int .i64 xd := hJ.h 7 (hdep 7 (by rw [← ho]; kernel_rfl)) (by decide)
      have hpv : 2 = 0 ∨ L (([3, 4, 8] : List Nat).getD (2 - 1) 0) := .inr (hdep 4 (by rw [← ho]; kernel_rfl))
      have hph : (Ph1 B W pa DA pr A D E KR CR S' S px (#[.int .i64 xk, .int .i64 xd, .int .i64 xs, .int .i64 xn, .string xt, .slice al xl.length cl])) w := hJ.at 2 (by decide) rfl hopen hpv
      have HJ := Lib.hid hJ
      clear hJ
      subst ho
      refine Pj.Step.free rfl ?_
      simp only [Pj.puts, List.foldl_cons, List.foldl_nil, Act.put, List.setIfInBounds_toArray, List.set_cons_zero, List.set_cons_succ, e5, e7]
      go_simp
      refine (HWR.out w hph).mono ?_
      rintro e w' ⟨rfl, hw'⟩
      exact hKq _ _ ⟨Pj.vset V 8 (.int .i64 vr), by simp only [Pj.puts, List.foldl_cons, List.foldl_nil, Act.put, List.setIfInBounds_toArray, List.set_cons_zero, List.set_cons_succ, Pj.vset, Nat.reduceEqDiff, if_true, if_false, e5, e7], HJ.out.step 2 (by decide) rfl (by decide) hopen hL hpv rfl hw'⟩
    | 9, ho =>
      simp only [List.getElem?_toArray, List.getElem?_cons_zero, List.getElem?_cons_succ, Option.some.injEq] at ho
      have e4 : V 4 = .int .i64 vr := hJ.h 4 (hdep 4 (by rw [← ho]; kernel_rfl)) (by decide)
      have e8 : V 8 = .int .i64 vr := hJ.h 8 (hdep 8 (by rw [← ho]; kernel_rfl)) (by decide)
      have HJ := Lib.hid hJ
      clear hJ
      subst ho
      refine Pj.Step.free rfl ?_
      simp only [Pj.puts, List.foldl_cons, List.foldl_nil, Act.put, List.setIfInBounds_toArray, List.set_cons_zero, List.set_cons_succ, e4, e8]
      go_simp
      exact hKq _ _ ⟨Pj.vset V 9 (.bool true), by simp only [Pj.puts, List.foldl_cons, List.foldl_nil, Act.put, List.setIfInBounds_toArray, List.set_cons_zero, List.set_cons_succ, Pj.vset, Nat.reduceEqDiff, if_true, if_false, e4, e8], HJ.out.more (by decide) hL rfl⟩
    | 10, ho =>
      simp only [List.getElem?_toArray, List.getElem?_cons_zero, List.getElem?_cons_succ, Option.some.injEq] at ho
      have e9 : V 9 = .bool true := hJ.h 9 (hdep 9 (by rw [← ho]; kernel_rfl)) (by decide)
      have HJ := Lib.hid hJ
      clear hJ
      subst ho
      refine Pj.Step.free rfl ?_
      simp only [Pj.puts, List.foldl_cons, List.foldl_nil, Act.put, List.setIfInBounds_toArray, List.set_cons_zero, List.set_cons_succ, e9]
      go_simp
      exact hKq _ _ ⟨Pj.vset V 10 (.bool true), by simp only [Pj.puts, List.foldl_cons, List.foldl_nil, Act.put, List.setIfInBounds_toArray, List.set_cons_zero, List.set_cons_succ, Pj.vset, Nat.reduceEqDiff, if_true, if_false, e9], HJ.out.more (by decide) hL rfl⟩
    | n + 11, ho => simp at ho
  case ehe =>
    intro V w9 hw9 hv
    have hw9' : (Ph2 B W pa DA pr A D E S' px (#[.int .i64 xk, .int .i64 xd, .int .i64 xs, .int .i64 xn, .string xt, .slice al xl.length cl])) w9 := hw9
    clear hw9
    have e10 : V 10 = .bool true := hv 10 (by decide)
    simp only [Pj.puts, List.foldl_cons, List.foldl_nil, Act.put, List.setIfInBounds_toArray, List.set_cons_zero, List.set_cons_succ, e10]
    clear hv e10
    obtain ⟨⟨KA', CA', KR', CR', h2⟩, _, h3⟩ := hw9'
    have H2 := Lib.hid h2
    have H3 := Lib.hid h3
    clear h2 h3
    go_wp2
    go_ret
    exact ⟨rfl, H3.out, KA', CA', KR', CR', S', H2.out, HIV.out⟩
end Go.Proofs.Ytkfomaoillnehaa

namespace Go.Proofs.Ytkfomaoillnehaa
open Go.RowKit
attribute [local go_sem] Oper.semAt_some

set_option maxRecDepth 100000 in
set_option maxHeartbeats 4000000 in
theorem does_flip {B : Nat} {W : World} {pa DA : Nat} {KA CA : Nat → Nat} {pr A D E : Nat} {KR CR : Nat → Nat} {S : Arr} {m n g : Nat} (h : Two B W pa DA KA CA pr A D E KR CR S S) (hi : InvA m n g S) (hg : g ≤ 1000) (hn1 : 1 ≤ n) (x : Ac) (al : Option Addr) (cl : Nat) (hx : AcOk W B x al cl) (hc : wthn x.k 15 = 14) : Calls Try.prog 14 #[.pointer (some ⟨pa, 0, none⟩), .pointer (some ⟨pr, 0, none⟩), .agg (acC x al cl)] W (DoesP B W pa DA pr A D E m n g) := by
  obtain ⟨xk, xd, xs, xn, xt, xl⟩ := x
  dsimp only at hc
  have HWI := Lib.hid (fun w => within_ref xk 15 (by omega) w)
  rw [hc] at HWI
  have HX := Lib.hid hx
  have HI := Lib.hid hi
  have H0 := Lib.hid h
  have hbw := h.bw
  have HG := Lib.hid (And.intro hg hn1)
  clear hc hx hi h hg hn1
  unfold acC DoesP
  dsimp only at HX ⊢
  go_enter Try.func14, Try.ntmps14
  go_upto_region 1 with (fail)
  have k1 := (Kept.refl W).alloc (.cells #[.int .i64 xk, .int .i64 xd, .int .i64 xs, .int .i64 xn, .string xt, .slice al xl.length cl] 37)
  have HT := Lib.hid (H0.out.kept k1)
  have HB := Lib.hid (BlockAt.new W #[.int .i64 xk, .int .i64 xd, .int .i64 xs, .int .i64 xn, .string xt, .slice al xl.length cl] 37)
  have HK := Lib.hid k1
  obtain ⟨px, hpx⟩ : ∃ px, px = W.heap.size := ⟨_, rfl⟩
  have HPX := Lib.hid hpx
  rw [← hpx] at HB ⊢
  clear k1 hpx
  generalize W.alloc (.cells #[.int .i64 xk, .int .i64 xd, .int .i64 xs, .int .i64 xn, .string xt, .slice al xl.length cl] 37) = w1 at *
  obtain ⟨b0, b1, b2, b3, b4, b5⟩ := box6a HB.out
  go_wp2_with fail
  refine (HWI.out _).mono ?_
  rintro e w2 ⟨rfl, rfl⟩
  clear HWI
  have HNA := Lib.hid (show ∀ b, b = pa ∨ ArF DA KA CA S.m b → ¬ b = px from fun b hb e => by have := H0.out.a.foot_lt b hb; have := HPX.out; omega)
  have HNR := Lib.hid (show ∀ b, RfF pr A D E KR CR S.m b → ¬ b = px from fun b hb e => by have := H0.out.r.foot_lt b hb; have := HPX.out; omega)
  have HSG := Lib.hid (And.intro HI.out.g HI.out.l)
  obtain ⟨S', hS'⟩ : ∃ S', S' = (flipA S xd xn).1 := ⟨_, rfl⟩
  obtain ⟨vr, hvr⟩ : ∃ vr, vr = (flipA S xd xn).2 := ⟨_, rfl⟩
  have HSM := Lib.hid (show S'.m = S.m by rw [hS']; exact (HI.out.flip xd xn HG.out.2).m.trans HI.out.m.symm)
  have HIV := Lib.hid (show InvA m n (g + 1) S' by rw [hS']; exact HI.out.flip xd xn HG.out.2)
  have HWA := Lib.hid (show ∀ w, Ph0 B W pa DA KA CA pr A D E KR CR S px (#[.int .i64 xk, .int .i64 xd, .int .i64 xs, .int .i64 xn, .string xt, .slice al xl.length cl]) w → Calls Try.prog 25 #[.pointer (some ⟨pa, 0, none⟩), .int .i64 xd, .int .i64 xn] w fun e w' => e = .returned (.int .i64 vr) ∧ Ph1 B W pa DA pr A D E KR CR S' S px (#[.int .i64 xk, .int .i64 xd, .int .i64 xs, .int .i64 xn, .string xt, .slice al xl.length cl]) w' from fun w hp => by
    have ht := hp.1
    have hg := HSG.out.1
    have hl := HSG.out.2
    rw [hvr, hS']
    exact (flip_arr ht.a (fun d hd => ht.la _ (.inr (.inr ⟨d, hd, .inl rfl⟩))) ht.bw xd xn HX.out.n.2 (fun x hx i hi => (HI.out.ok _ x hx i hi).1)).mono (fun e w' ⟨h1, h2, h3⟩ => ⟨h1, hp.next HNA.out h2 h3 (by rw [← hS']; exact HSM.out)⟩))
  have HWR := Lib.hid (show ∀ w, Ph1 B W pa DA pr A D E KR CR S' S px (#[.int .i64 xk, .int .i64 xd, .int .i64 xs, .int .i64 xn, .string xt, .slice al xl.length cl]) w → Calls Try.prog 39 #[.pointer (some ⟨pr, 0, none⟩), .int .i64 xd, .int .i64 xn] w fun e w' => e = .returned (.int .i64 vr) ∧ Ph2 B W pa DA pr A D E S' px (#[.int .i64 xk, .int .i64 xd, .int .i64 xs, .int .i64 xn, .string xt, .slice al xl.length cl]) w' from fun w hp => by
    obtain ⟨KA', CA', ht⟩ := hp.1
    have hg := HSG.out.1
    have hl := HSG.out.2
    rw [hvr, hS']
    rw [hS'] at hp
    exact (flip_ar ht.r (fun d hd => ht.lr _ (.inr (.inr (.inr (.inr ⟨d, hd, .inl rfl⟩))))) ht.bw xd xn HX.out.n.2 (fun x hx i hi => (HI.out.ok _ x hx i hi).1)).mono (fun e w' ⟨h1, h2, h3⟩ => ⟨h1, hp.next HNR.out h2 h3 (by rw [← hS']; exact HSM.out)⟩))
  clear hS' hvr
  have HP0 := Lib.hid (show Ph0 B W pa DA KA CA pr A D E KR CR S px (#[.int .i64 xk, .int .i64 xd, .int .i64 xs, .int .i64 xn, .string xt, .slice al xl.length cl]) w1.drew from ⟨HT.out.kept ((Kept.refl w1).drew), HB.out.kept ((Kept.refl w1).drew), Below.mono (HK.out.drew) hbw⟩)
  go_upto_region 2 with (fail)
  clear b0 b1 b2 b3 b4 b5
  have HRD := Lib.hid (show ∀ m, m ≤ 3 → ∀ w9, (fun mq9 w9 => ([Ph0 B W pa DA KA CA pr A D E KR CR S px (#[.int .i64 xk, .int .i64 xd, .int .i64 xs, .int .i64 xn, .string xt, .slice al xl.length cl]), Ph1 B W pa DA pr A D E KR CR S' S px (#[.int .i64 xk, .int .i64 xd, .int .i64 xs, .int .i64 xn, .string xt, .slice al xl.length cl]), Ph1 B W pa DA pr A D E KR CR S' S px (#[.int .i64 xk, .int .i64 xd, .int .i64 xs, .int .i64 xn, .string xt, .slice al xl.length cl]), Ph2 B W pa DA pr A D E S' px (#[.int .i64 xk, .int .i64 xd, .int .i64 xs, .int .i64 xn, .string xt, .slice al xl.length cl])] : List (World → Prop)).getD mq9 (fun _ => True) w9) m w9 → (fun W : World => BlockAt W px (#[.int .i64 xk, .int .i64 xd, .int .i64 xs, .int .i64 xn, .string xt, .slice al xl.length cl]) 37) w9 from by
    intro mq9 hmq9 w9 hp9
    match mq9, hmq9, hp9 with
    | 0, _, hp9 => exact hp9.2.1
    | 1, _, hp9 => exact hp9.2.1
    | 2, _, hp9 => exact hp9.2.1
    | 3, _, hp9 => exact hp9.2.1
    | mq9 + 4, h, _ => omega)
  refine Pj.wp_region_jp [(17, 0), (18, 1), (19, 2), (20, 3), (21, 4), (22, 5), (23, 6), (24, 7), (25, 8), (26, 9), (27, 10), (28, 11), (29, 12), (30, 13), (6, 14)] (fun j => ([.pointer (some ⟨pa, 0, none⟩), .pointer (some ⟨px, 1, none⟩), .int .i64 xd, .pointer (some ⟨px, 3, none⟩), .int .i64 xn, .int .i64 vr, .int .i64 vr, .pointer (some ⟨pr, 0, none⟩), .pointer (some ⟨px, 1, none⟩), .int .i64 xd, .pointer (some ⟨px, 3, none⟩), .int .i64 xn, .int .i64 vr, .bool true, .bool true] : List Value).getD j undef) [5, 6, 12] (fun mq9 w9 => ([Ph0 B W pa DA KA CA pr A D E KR CR S px (#[.int .i64 xk, .int .i64 xd, .int .i64 xs, .int .i64 xn, .string xt, .slice al xl.length cl]), Ph1 B W pa DA pr A D E KR CR S' S px (#[.int .i64 xk, .int .i64 xd, .int .i64 xs, .int .i64 xn, .string xt, .slice al xl.length cl]), Ph1 B W pa DA pr A D E KR CR S' S px (#[.int .i64 xk, .int .i64 xd, .int .i64 xs, .int .i64 xn, .string xt, .slice al xl.length cl]), Ph2 B W pa DA pr A D E S' px (#[.int .i64 xk, .int .i64 xd, .int .i64 xs, .int .i64 xn, .string xt, .slice al xl.length cl])] : List (World → Prop)).getD mq9 (fun _ => True) w9) (by as_aux_lemma => kernel_rfl) (by as_aux_lemma => kernel_rfl) (by decide) (HP0.out) ?eh0 ?ehs ?ehe
  case eh0 => exact ⟨_, Pj.puts_self _ (fun j => ([17, 18, 19, 20, 21, 22, 23, 24, 25, 26, 27, 28, 29, 30, 6] : List Nat).getD j 0) [0, 1, 2, 3, 4, 5, 6, 7, 8, 9, 10, 11, 12, 13, 14]⟩
  case ehs =>
    intro L L' V w iz opz Kq hJ ho hopen hdep hL hKq
    match iz, ho with
    | 0, ho =>
      simp only [List.getElem?_toArray, List.getElem?_cons_zero, Option.some.injEq] at ho
      have HJ := Lib.hid hJ
      clear hJ
      subst ho
      refine Pj.Step.free rfl ?_
      simp only [Pj.puts, List.foldl_cons, List.foldl_nil, Act.put, List.setIfInBounds_toArray, List.set_cons_zero, List.set_cons_succ]
      go_simp
      exact hKq _ _ ⟨Pj.vset V 0 (.pointer (some ⟨pa, 0, none⟩)), by simp only [Pj.puts, List.foldl_cons, List.foldl_nil, Act.put, List.setIfInBounds_toArray, List.set_cons_zero, List.set_cons_succ, Pj.vset, Nat.reduceEqDiff, if_true, if_false], HJ.out.more (by decide) hL rfl⟩
    | 1, ho =>
      simp only [List.getElem?_toArray, List.getElem?_cons_zero, List.getElem?_cons_succ, Option.some.injEq] at ho
      have HJ := Lib.hid hJ
      clear hJ
      subst ho
      refine Pj.Step.free rfl ?_
      simp only [Pj.puts, List.foldl_cons, List.foldl_nil, Act.put, List.setIfInBounds_toArray, List.set_cons_zero, List.set_cons_succ]
      go_simp
      exact hKq _ _ ⟨Pj.vset V 1 (.pointer (some ⟨px, 1, none⟩)), by simp only [Pj.puts, List.foldl_cons, List.foldl_nil, Act.put, List.setIfInBounds_toArray, List.set_cons_zero, List.set_cons_succ, Pj.vset, Nat.reduceEqDiff, if_true, if_false], HJ.out.more (by decide) hL rfl⟩
    | 2, ho =>
      simp only [List.getElem?_toArray, List.getElem?_cons_zero, List.getElem?_cons_succ, Option.some.injEq] at ho
      have e1 : V 1 = .pointer (some ⟨px, 1, none⟩) := hJ.h 1 (hdep 1 (by rw [← ho]; kernel_rfl)) (by decide)
      have hr : (fun W : World => BlockAt W px (#[.int .i64 xk, .int .i64 xd, .int .i64 xs, .int .i64 xn, .string xt, .slice al xl.length cl]) 37) w := hJ.rd (R := fun W => BlockAt W px (#[.int .i64 xk, .int .i64 xd, .int .i64 xs, .int .i64 xn, .string xt, .slice al xl.length cl]) 37) HRD.out
      have hr2 : BlockAt w px (#[.int .i64 xk, .int .i64 xd, .int .i64 xs, .int .i64 xn, .string xt, .slice al xl.length cl]) 37 := hr
      obtain ⟨b0, b1, b2, b3, b4, b5⟩ := box6a hr2
      have HJ := Lib.hid hJ
      clear hJ
      subst ho
      refine Pj.Step.free rfl ?_
      simp only [Pj.puts, List.foldl_cons, List.foldl_nil, Act.put, List.setIfInBounds_toArray, List.set_cons_zero, List.set_cons_succ, e1]
      go_simp
      exact hKq _ _ ⟨Pj.vset V 2 (.int .i64 xd), by simp only [Pj.puts, List.foldl_cons, List.foldl_nil, Act.put, List.setIfInBounds_toArray, List.set_cons_zero, List.set_cons_succ, Pj.vset, Nat.reduceEqDiff, if_true, if_false, e1], HJ.out.more (by decide) hL rfl⟩
    | 3, ho =>
      simp only [List.getElem?_toArray, List.getElem?_cons_zero, List.getElem?_cons_succ, Option.some.injEq] at ho
      have HJ := Lib.hid hJ
      clear hJ
      subst ho
      refine Pj.Step.free rfl ?_
      simp only [Pj.puts, List.foldl_cons, List.foldl_nil, Act.put, List.setIfInBounds_toArray, List.set_cons_zero, List.set_cons_succ]
      go_simp
      exact hKq _ _ ⟨Pj.vset V 3 (.pointer (some ⟨px, 3, none⟩)), by simp only [Pj.puts, List.foldl_cons, List.foldl_nil, Act.put, List.setIfInBounds_toArray, List.set_cons_zero, List.set_cons_succ, Pj.vset, Nat.reduceEqDiff, if_true, if_false], HJ.out.more (by decide) hL rfl⟩
    | 4, ho =>
      simp only [List.getElem?_toArray, List.getElem?_cons_zero, List.getElem?_cons_succ, Option.some.injEq] at ho
      have e3 : V 3 = .pointer (some ⟨px, 3, none⟩) := hJ.h 3 (hdep 3 (by rw [← ho]; kernel_rfl)) (by decide)
      have hr : (fun W : World => BlockAt W px (#[.int .i64 xk, .int .i64 xd, .int .i64 xs, .int .i64 xn, .string xt, .slice al xl.length cl]) 37) w := hJ.rd (R := fun W => BlockAt W px (#[.int .i64 xk, .int .i64 xd, .int .i64 xs, .int .i64 xn, .string xt, .slice al xl.length cl]) 37) HRD.out
      have hr2 : BlockAt w px (#[.int .i64 xk, .int .i64 xd, .int .i64 xs, .int .i64 xn, .string xt, .slice al xl.length cl]) 37 := hr
      obtain ⟨b0, b1, b2, b3, b4, b5⟩ := box6a hr2
      have HJ := Lib.hid hJ
      clear hJ
      subst ho
      refine Pj.Step.free rfl ?_
      simp only [Pj.puts, List.foldl_cons, List.foldl_nil, Act.put, List.setIfInBounds_toArray, List.set_cons_zero, List.set_cons_succ, e3]
      go_simp
      exact hKq _ _ ⟨Pj.vset V 4 (.int .i64 xn), by simp only [Pj.puts, List.foldl_cons, List.foldl_nil, Act.put, List.setIfInBounds_toArray, List.set_cons_zero, List.set_cons_succ, Pj.vset, Nat.reduceEqDiff, if_true, if_false, e3], HJ.out.more (by decide) hL rfl⟩
    | 5, ho =>
      simp only [List.getElem?_toArray, List.getElem?_cons_zero, List.getElem?_cons_succ, Option.some.injEq] at ho
      have e0 : V 0 = .pointer (some ⟨pa, 0, none⟩) := hJ.h 0 (hdep 0 (by rw [← ho]; kernel_rfl)) (by decide)
      have e2 : V 2 = .int .i64 xd := hJ.h 2 (hdep 2 (by rw [← ho]; kernel_rfl)) (by decide)
      have e4 : V 4 = .int .i64 xn := hJ.h 4 (hdep 4 (by rw [← ho]; kernel_rfl)) (by decide)
      have hpv : 0 = 0 ∨ L (([5, 6, 12] : List Nat).getD (0 - 1) 0) := .inl rfl
      have hph : (Ph0 B W pa DA KA CA pr A D E KR CR S px (#[.int .i64 xk, .int .i64 xd, .int .i64 xs, .int .i64 xn, .string xt, .slice al xl.length cl])) w := hJ.at 0 (by decide) rfl hopen hpv
      have HJ := Lib.hid hJ
      clear hJ
      subst ho
      refine Pj.Step.free rfl ?_
      simp only [Pj.puts, List.foldl_cons, List.foldl_nil, Act.put, List.setIfInBounds_toArray, List.set_cons_zero, List.set_cons_succ, e0, e2, e4]
      go_simp
      refine (HWA.out w hph).mono ?_
      rintro e w' ⟨rfl, hw'⟩
      exact hKq _ _ ⟨Pj.vset V 5 (.int .i64 vr), by simp only [Pj.puts, List.foldl_cons, List.foldl_nil, Act.put, List.setIfInBounds_toArray, List.set_cons_zero, List.set_cons_succ, Pj.vset, Nat.reduceEqDiff, if_true, if_false, e0, e2, e4], HJ.out.step 0 (by decide) rfl (by decide) hopen hL hpv rfl hw'⟩
    | 6, ho =>
      simp only [List.getElem?_toArray, List.getElem?_cons_zero, List.getElem?_cons_succ, Option.some.injEq] at ho
      have e5 : V 5 = .int .i64 vr := hJ.h 5 (hdep 5 (by rw [← ho]; kernel_rfl)) (by decide)
      have hpv : 1 = 0 ∨ L (([5, 6, 12] : List Nat).getD (1 - 1) 0) := .inr (hdep 5 (by rw [← ho]; kernel_rfl))
      have hph : (Ph1 B W pa DA pr A D E KR CR S' S px (#[.int .i64 xk, .int .i64 xd, .int .i64 xs, .int .i64 xn, .string xt, .slice al xl.length cl])) w := hJ.at 1 (by decide) rfl hopen hpv
      have HJ := Lib.hid hJ
      clear hJ
      subst ho
      refine Pj.Step.free rfl ?_
      simp only [Pj.puts, List.foldl_cons, List.foldl_nil, Act.put, List.setIfInBounds_toArray, List.set_cons_zero, List.set_cons_succ, e5]
      go_simp
      refine (num10_any vr _).mono ?_
      rintro e w' ⟨rfl, rfl⟩
      have hw' := hph
      exact hKq _ _ ⟨Pj.vset V 6 (.int .i64 vr), by simp only [Pj.puts, List.foldl_cons, List.foldl_nil, Act.put, List.setIfInBounds_toArray, List.set_cons_zero, List.set_cons_succ, Pj.vset, Nat.reduceEqDiff, if_true, if_false, e5], HJ.out.step 1 (by decide) rfl (by decide) hopen hL hpv rfl hw'⟩
    | 7, ho =>
      simp only [List.getElem?_toArray, List.getElem?_cons_zero, List.getElem?_cons_succ, Option.some.injEq] at ho
      have HJ := Lib.hid hJ
      clear hJ
      subst ho
      refine Pj.Step.free rfl ?_
      simp only [Pj.puts, List.foldl_cons, List.foldl_nil, Act.put, List.setIfInBounds_toArray, List.set_cons_zero, List.set_cons_succ]
      go_simp
      exact hKq _ _ ⟨Pj.vset V 7 (.pointer (some ⟨pr, 0, none⟩)), by simp only [Pj.puts, List.foldl_cons, List.foldl_nil, Act.put, List.setIfInBounds_toArray, List.set_cons_zero, List.set_cons_succ, Pj.vset, Nat.reduceEqDiff, if_true, if_false], HJ.out.more (by decide) hL rfl⟩
    | 8, ho =>
      simp only [List.getElem?_toArray, List.getElem?_cons_zero, List.getElem?_cons_succ, Option.some.injEq] at ho
      have HJ := Lib.hid hJ
      clear hJ
      subst ho
      refine Pj.Step.free rfl ?_
      simp only [Pj.puts, List.foldl_cons, List.foldl_nil, Act.put, List.setIfInBounds_toArray, List.set_cons_zero, List.set_cons_succ]
      go_simp
      exact hKq _ _ ⟨Pj.vset V 8 (.pointer (some ⟨px, 1, none⟩)), by simp only [Pj.puts, List.foldl_cons, List.foldl_nil, Act.put, List.setIfInBounds_toArray, List.set_cons_zero, List.set_cons_succ, Pj.vset, Nat.reduceEqDiff, if_true, if_false], HJ.out.more (by decide) hL rfl⟩
    | 9, ho =>
      simp only [List.getElem?_toArray, List.getElem?_cons_zero, List.getElem?_cons_succ, Option.some.injEq] at ho
      have e8 : V 8 = .pointer (some ⟨px, 1, none⟩) := hJ.h 8 (hdep 8 (by rw [← ho]; kernel_rfl)) (by decide)
      have hr : (fun W : World => BlockAt W px (#[.int .i64 xk, .int .i64 xd, .int .i64 xs, .int .i64 xn, .string xt, .slice al xl.length cl]) 37) w := hJ.rd (R := fun W => BlockAt W px (#[.int .i64 xk, .int .i64 xd, .int .i64 xs, .int .i64 xn, .string xt, .slice al xl.length cl]) 37) HRD.out
      have hr2 : BlockAt w px (#[.int .i64 xk, .int .i64 xd, .int .i64 xs, .int .i64 xn, .string xt, .slice al xl.length cl]) 37 := hr
      obtain ⟨b0, b1, b2, b3, b4, b5⟩ := box6a hr2
      have HJ := Lib.hid hJ
      clear hJ
      subst ho
      refine Pj.Step.free rfl ?_
      simp only [Pj.puts, List.foldl_cons, List.foldl_nil, Act.put, List.setIfInBounds_toArray, List.set_cons_zero, List.set_cons_succ, e8]
      go_simp
      exact hKq _ _ ⟨Pj.vset V 9 (.int .i64 xd), by simp only [Pj.puts, List.foldl_cons, List.foldl_nil, Act.put, List.setIfInBounds_toArray, List.set_cons_zero, List.set_cons_succ, Pj.vset, Nat.reduceEqDiff, if_true, if_false, e8], HJ.out.more (by decide) hL rfl⟩
    | 10, ho =>
      simp only [List.getElem?_toArray, List.getElem?_cons_zero, List.getElem?_cons_succ, Option.some.injEq] at ho
      have HJ := Lib.hid hJ
      clear hJ
      subst ho
      refine Pj.Step.free rfl ?_
      simp only [Pj.puts, List.foldl_cons, List.foldl_nil, Act.put, List.setIfInBounds_toArray, List.set_cons_zero, List.set_cons_succ]
      go_simp
      exact hKq _ _ ⟨Pj.vset V 10 (.pointer (some ⟨px, 3, none⟩)), by simp only [Pj.puts, List.foldl_cons, List.foldl_nil, Act.put, List.setIfInBounds_toArray, List.set_cons_zero, List.set_cons_succ, Pj.vset, Nat.reduceEqDiff, if_true, if_false], HJ.out.more (by decide) hL rfl⟩
    | 11, ho =>
      simp only [List.getElem?_toArray, List.getElem?_cons_zero, List.getElem?_cons_succ, Option.some.injEq] at ho
      have e10 : V 10 = .pointer (some ⟨px, 3, none⟩) := hJ.h 10 (hdep 10 (by rw [← ho]; kernel_rfl)) (by decide)
      have hr : (fun W : World => BlockAt W px (#[.int .i64 xk, .int .i64 xd, .int .i64 xs, .int .i64 xn, .string xt, .slice al xl.length cl]) 37) w := hJ.rd (R := fun W => BlockAt W px (#[.int .i64 xk, .int .i64 xd, .int .i64 xs, .int .i64 xn, .string xt, .slice al xl.length cl]) 37) HRD.out
      have hr2 : BlockAt w px (#[.int .i64 xk, .int .i64 xd, .int .i64 xs, .int .i64 xn, .string xt, .slice al xl.length cl]) 37 := hr
      obtain ⟨b0, b1, b2, b3, b4, b5⟩ := box6a hr2
      have HJ := Lib.hid hJ
      clear hJ
      subst ho
      refine Pj.Step.free rfl ?_
      simp only [Pj.puts, List.foldl_cons, List.foldl_nil, Act.put, List.setIfInBounds_toArray, List.set_cons_zero, List.set_cons_succ, e10]
      go_simp
      exact hKq _ _ ⟨Pj.vset V 11 (.int .i64 xn), by simp only [Pj.puts, List.foldl_cons, List.foldl_nil, Act.put, List.setIfInBounds_toArray, List.set_cons_zero, List.set_cons_succ, Pj.vset, Nat.reduceEqDiff, if_true, if_false, e10], HJ.out.more (by decide) hL rfl⟩
    | 12, ho =>
      simp only [List.getElem?_toArray, List.getElem?_cons_zero, List.getElem?_cons_succ, Option.some.injEq] at ho
      have e7 : V 7 = .pointer (some ⟨pr, 0, none⟩) := hJ.h 7 (hdep 7 (by rw [← ho]; kernel_rfl)) (by decide)
      have e9 : V 9 = .int .i64 xd := hJ.h 9 (hdep 9 (by rw [← ho]; kernel_rfl)) (by decide)
      have e11 : V 11 = .int .i64 xn := hJ.h 11 (hdep 11 (by rw [← ho]; kernel_rfl)) (by decide)
      have hpv : 2 = 0 ∨ L (([5, 6, 12] : List Nat).getD (2 - 1) 0) := .inr (hdep 6 (by rw [← ho]; kernel_rfl))
      have hph : (Ph1 B W pa DA pr A D E KR CR S' S px (#[.int .i64 xk, .int .i64 xd, .int .i64 xs, .int .i64 xn, .string xt, .slice al xl.length cl])) w := hJ.at 2 (by decide) rfl hopen hpv
      have HJ := Lib.hid hJ
      clear hJ
      subst ho
      refine Pj.Step.free rfl ?_
      simp only [Pj.puts, List.foldl_cons, List.foldl_nil, Act.put, List.setIfInBounds_toArray, List.set_cons_zero, List.set_cons_succ, e7, e9, e11]
      go_simp
      refine (HWR.out w hph).mono ?_
      rintro e w' ⟨rfl, hw'⟩
      exact hKq _ _ ⟨Pj.vset V 12 (.int .i64 vr), by simp only [Pj.puts, List.foldl_cons, List.foldl_nil, Act.put, List.setIfInBounds_toArray, List.set_cons_zero, List.set_cons_succ, Pj.vset, Nat.reduceEqDiff, if_true, if_false, e7, e9, e11], HJ.out.step 2 (by decide) rfl (by decide) hopen hL hpv rfl hw'⟩
    | 13, ho =>
      simp only [List.getElem?_toArray, List.getElem?_cons_zero, List.getElem?_cons_succ, Option.some.injEq] at ho
      have e6 : V 6 = .int .i64 vr := hJ.h 6 (hdep 6 (by rw [← ho]; kernel_rfl)) (by decide)
      have e12 : V 12 = .int .i64 vr := hJ.h 12 (hdep 12 (by rw [← ho]; kernel_rfl)) (by decide)
      have HJ := Lib.hid hJ
      clear hJ
      subst ho
      refine Pj.Step.free rfl ?_
      simp only [Pj.puts, List.foldl_cons, List.foldl_nil, Act.put, List.setIfInBounds_toArray, List.set_cons_zero, List.set_cons_succ, e6, e12]
      go_simp
      exact hKq _ _ ⟨Pj.vset V 13 (.bool true), by simp only [Pj.puts, List.foldl_cons, List.foldl_nil, Act.put, List.setIfInBounds_toArray, List.set_cons_zero, List.set_cons_succ, Pj.vset, Nat.reduceEqDiff, if_true, if_false, e6, e12], HJ.out.more (by decide) hL rfl⟩
    | 14, ho =>
      simp only [List.getElem?_toArray, List.getElem?_cons_zero, List.getElem?_cons_succ, Option.some.injEq] at ho
      have e13 : V 13 = .bool true := hJ.h 13 (hdep 13 (by rw [← ho]; kernel_rfl)) (by decide)
      have HJ := Lib.hid hJ
      clear hJ
      subst ho
      refine Pj.Step.free rfl ?_
      simp only [Pj.puts, List.foldl_cons, List.foldl_nil, Act.put, List.setIfInBounds_toArray, List.set_cons_zero, List.set_cons_succ, e13]
      go_simp
      exact hKq _ _ ⟨Pj.vset V 14 (.bool true), by simp only [Pj.puts, List.foldl_cons, List.foldl_nil, Act.put, List.setIfInBounds_toArray, List.set_cons_zero, List.set_cons_succ, Pj.vset, Nat.reduceEqDiff, if_true, if_false, e13], HJ.out.more (by decide) hL rfl⟩
    | n + 15, ho => simp at ho
  case ehe =>
    intro V w9 hw9 hv
    have hw9' : (Ph2 B W pa DA pr A D E S' px (#[.int .i64 xk, .int .i64 xd, .int .i64 xs, .int .i64 xn, .string xt, .slice al xl.length cl])) w9 := hw9
    clear hw9
    have e14 : V 14 = .bool true := hv 14 (by decide)
    simp only [Pj.puts, List.foldl_cons, List.foldl_nil, Act.put, List.setIfInBounds_toArray, List.set_cons_zero, List.set_cons_succ, e14]
    clear hv e14
    obtain ⟨⟨KA', CA', KR', CR', h2⟩, _, h3⟩ := hw9'
    have H2 := Lib.hid h2
    have H3 := Lib.hid h3
    clear h2 h3
    go_wp2
    go_ret
    exact ⟨rfl, H3.out, KA', CA', KR', CR', S', H2.out, HIV.out⟩
end Go.Proofs.Ytkfomaoillnehaa

namespace Go.Proofs.Ytkfomaoillnehaa
open Go.RowKit
attribute [local go_sem] Oper.semAt_some

set_option maxRecDepth 100000 in
set_option maxHeartbeats 4000000 in
theorem does_off {B : Nat} {W : World} {pa DA : Nat} {KA CA : Nat → Nat} {pr A D E : Nat} {KR CR : Nat → Nat} {S : Arr} {m n g : Nat} (h : Two B W pa DA KA CA pr A D E KR CR S S) (hi : InvA m n g S) (hg : g ≤ 1000) (hn1 : 1 ≤ n) (x : Ac) (al : Option Addr) (cl : Nat) (hx : AcOk W B x al cl) (hc : wthn x.k 15 = 9) : Calls Try.prog 14 #[.pointer (some ⟨pa, 0, none⟩), .pointer (some ⟨pr, 0, none⟩), .agg (acC x al cl)] W (DoesP B W pa DA pr A D E m n g) := by
  obtain ⟨xk, xd, xs, xn, xt, xl⟩ := x
  dsimp only at hc
  have HWI := Lib.hid (fun w => within_ref xk 15 (by omega) w)
  rw [hc] at HWI
  have HX := Lib.hid hx
  have HI := Lib.hid hi
  have H0 := Lib.hid h
  have hbw := h.bw
  have HG := Lib.hid (And.intro hg hn1)
  clear hc hx hi h hg hn1
  unfold acC DoesP
  dsimp only at HX ⊢
  go_enter Try.func14, Try.ntmps14
  go_upto_region 1 with (fail)
  have k1 := (Kept.refl W).alloc (.cells #[.int .i64 xk, .int .i64 xd, .int .i64 xs, .int .i64 xn, .string xt, .slice al xl.length cl] 37)
  have HT := Lib.hid (H0.out.kept k1)
  have HB := Lib.hid (BlockAt.new W #[.int .i64 xk, .int .i64 xd, .int .i64 xs, .int .i64 xn, .string xt, .slice al xl.length cl] 37)
  have HK := Lib.hid k1
  obtain ⟨px, hpx⟩ : ∃ px, px = W.heap.size := ⟨_, rfl⟩
  have HPX := Lib.hid hpx
  rw [← hpx] at HB ⊢
  clear k1 hpx
  generalize W.alloc (.cells #[.int .i64 xk, .int .i64 xd, .int .i64 xs, .int .i64 xn, .string xt, .slice al xl.length cl] 37) = w1 at *
  obtain ⟨b0, b1, b2, b3, b4, b5⟩ := box6a HB.out
  go_wp2_with fail
  refine (HWI.out _).mono ?_
  rintro e w2 ⟨rfl, rfl⟩
  clear HWI
  have HWN := Lib.hid (fun w => within_ref xn 6 (by omega) w)
  have hzl := wthn_lt xn (show 0 < 6 by decide)
  go_wp2_with fail
  refine (HWN.out _).mono ?_
  rintro e w2 ⟨rfl, rfl⟩
  clear HWN
  have HNA := Lib.hid (show ∀ b, b = pa ∨ ArF DA KA CA S.m b → ¬ b = px from fun b hb e => by have := H0.out.a.foot_lt b hb; have := HPX.out; omega)
  have HNR := Lib.hid (show ∀ b, RfF pr A D E KR CR S.m b → ¬ b = px from fun b hb e => by have := H0.out.r.foot_lt b hb; have := HPX.out; omega)
  have HSG := Lib.hid (And.intro HI.out.g HI.out.l)
  have HP0 := Lib.hid (show Ph0 B W pa DA KA CA pr A D E KR CR S px (#[.int .i64 xk, .int .i64 xd, .int .i64 xs, .int .i64 xn, .string xt, .slice al xl.length cl]) w1 from ⟨HT.out, HB.out, Below.mono HK.out hbw⟩)
  generalize wthn xn 6 = z at *
  have HQ := Lib.hid (show (z : Int) - 1 ≤ 10 by omega)
  have hw3 : IntKind.i64.wrap ((z : Int) - 1) = (z : Int) - 1 := by rw [IntKind.wrap_i64]; omega
  have HSM := Lib.hid (show (offA S ((z : Int) - 1)).m = S.m by unfold offA; split <;> rfl)
  have HIV := Lib.hid (HI.out.off ((z : Int) - 1) HQ.out)
  clear hzl
  go_wp2_with fail
  refine (off_arr HT.out.a (HT.out.la pa (.inl rfl)) ((z : Int) - 1) (by have := HQ.out; omega)).mono ?_
  rintro e w2 ⟨rfl, ha, hn⟩
  have HP1 := Lib.hid (HP0.out.next HNA.out ha hn HSM.out)
  clear b0 b1 b2 b3 b4 b5 ha hn HT HB HK HP0
  obtain ⟨⟨KA', CA', h1⟩, hb1, _⟩ := HP1.out
  have HT := Lib.hid h1
  clear h1 hb1
  go_wp2_with fail
  refine (off_ar HT.out.r (HT.out.lr pr (.inl rfl)) HT.out.bw ((z : Int) - 1)).mono ?_
  rintro e w3 ⟨rfl, hr, hn⟩
  have HP2 := Lib.hid (HP1.out.next HNR.out hr hn HSM.out)
  clear hr hn HP1 HT
  go_wp2
  go_ret
  obtain ⟨⟨KA', CA', KR', CR', h2⟩, _, h3⟩ := HP2.out
  exact ⟨rfl, h3, KA', CA', KR', CR', offA S ((z : Int) - 1), h2, HIV.out⟩
end Go.Proofs.Ytkfomaoillnehaa

namespace Go.Proofs.Ytkfomaoillnehaa
open Go.RowKit
attribute [local go_sem] Oper.semAt_some

theorem own_cb {R : Nat → Prop} {w w' : World} {base : Nat} {e : TypeId} {v : Value} {n : Nat} {xs : List Value} (h : w.ownsRow base e 1 v n xs) (k : CellsBut R w w') (hr : ∀ b, R b → b < base) : w'.ownsRow base e 1 v n xs := by
  refine ⟨h.1, ?_⟩
  rcases h.2 with hn | ⟨g, cap, cur, hv, hb, hg, rest⟩
  · exact .inl hn
  · exact .inr ⟨g, cap, cur, hv, hb, k.block g cur e (0, 0) (fun q => absurd (hr g q) (by omega)) hg, rest⟩
theorem own_ints {w : World} {base l c : Nat} {e : TypeId} {a : Option Addr} {xs : List Int} (ho : w.ownsRow base e 1 (.slice a l c) l (xs.map (Value.int .i64))) (hl : xs.length = l) (wf : ∀ x ∈ xs, (Lit.int .i64 x).wf = true) : IntsIn w .i64 a l xs := by
  obtain ⟨_, _, hv, _, hi⟩ := ints_own ho hl wf
  cases hv
  exact hi
set_option maxRecDepth 100000 in
set_option maxHeartbeats 4000000 in
theorem does_crash {B : Nat} {W : World} {pa DA : Nat} {KA CA : Nat → Nat} {pr A D E : Nat} {KR CR : Nat → Nat} {S : Arr} {m n g : Nat} (h : Two B W pa DA KA CA pr A D E KR CR S S) (hi : InvA m n g S) (hg : g ≤ 1000) (hn1 : 1 ≤ n) (x : Ac) (al : Option Addr) (cl : Nat) (hx : AcOk W B x al cl) (hc : wthn x.k 15 = 10 ∨ wthn x.k 15 = 11) : Calls Try.prog 14 #[.pointer (some ⟨pa, 0, none⟩), .pointer (some ⟨pr, 0, none⟩), .agg (acC x al cl)] W (DoesP B W pa DA pr A D E m n g) := by
  rcases hc with hc | hc
  all_goals
    obtain ⟨xk, xd, xs, xn, xt, xl⟩ := x
    dsimp only at hc
    have HWI := Lib.hid (fun w => within_ref xk 15 (by omega) w)
    rw [hc] at HWI
    have HX := Lib.hid hx
    have HI := Lib.hid hi
    have H0 := Lib.hid h
    have hbw := h.bw
    have HG := Lib.hid (And.intro hg hn1)
    clear hc hx hi h hg hn1
    unfold acC DoesP
    dsimp only at HX ⊢
    go_enter Try.func14, Try.ntmps14
    go_upto_region 1 with (fail)
    have k1 := (Kept.refl W).alloc (.cells #[.int .i64 xk, .int .i64 xd, .int .i64 xs, .int .i64 xn, .string xt, .slice al xl.length cl] 37)
    have HT := Lib.hid (H0.out.kept k1)
    have HB := Lib.hid (BlockAt.new W #[.int .i64 xk, .int .i64 xd, .int .i64 xs, .int .i64 xn, .string xt, .slice al xl.length cl] 37)
    have HK := Lib.hid k1
    obtain ⟨px, hpx⟩ : ∃ px, px = W.heap.size := ⟨_, rfl⟩
    have HPX := Lib.hid hpx
    rw [← hpx] at HB ⊢
    clear k1 hpx
    generalize W.alloc (.cells #[.int .i64 xk, .int .i64 xd, .int .i64 xs, .int .i64 xn, .string xt, .slice al xl.length cl] 37) = w1 at *
    obtain ⟨b0, b1, b2, b3, b4, b5⟩ := box6a HB.out
    go_wp2_with fail
    refine (HWI.out _).mono ?_
    rintro e w2 ⟨rfl, rfl⟩
    clear HWI
    have HLN := Lib.hid (HX.out.l _ (Below.mono HK.out hbw))
    have hll := HX.out.ll
    have HWF := Lib.hid HLN.out.wf
    go_wp2_with fail
    refine (copy_numbers al xl.length cl xl _ HLN.out hll).mono ?_
    rintro e w2 ⟨a', c', rfl, ho, hk2⟩
    obtain ⟨_, _, hv, _, _⟩ := ints_own ho rfl HLN.out.wf
    have HK2 := Lib.hid (HK.out.trans hk2)
    have HT2 := Lib.hid (HT.out.kept hk2)
    have HB2 := Lib.hid (HB.out.kept hk2)
    have HO := Lib.hid ho
    clear hv ho hll
    have HNA := Lib.hid (show ∀ b, b = pa ∨ ArF DA KA CA S.m b → ¬ b = px from fun b hb e => by have := H0.out.a.foot_lt b hb; have := HPX.out; omega)
    have HNR := Lib.hid (show ∀ b, RfF pr A D E KR CR S.m b → ¬ b = px from fun b hb e => by have := H0.out.r.foot_lt b hb; have := HPX.out; omega)
    have HSG := Lib.hid (And.intro HI.out.g HI.out.l)
    have HFA := Lib.hid (show ∀ b, b = pa ∨ ArF DA KA CA S.m b → b < w1.heap.size from fun b hb => HT.out.a.foot_lt b hb)
    have HFR := Lib.hid (show ∀ b, RfF pr A D E KR CR S.m b → b < w1.heap.size from fun b hb => HT.out.r.foot_lt b hb)
    clear b0 b1 b2 b3 b4 b5 hk2 HT HB HLN
    have HP0 := Lib.hid (show Ph0 B W pa DA KA CA pr A D E KR CR S px (#[.int .i64 xk, .int .i64 xd, .int .i64 xs, .int .i64 xn, .string xt, .slice al xl.length cl]) w2 from ⟨HT2.out, HB2.out, Below.mono HK2.out hbw⟩)
    have HIV := Lib.hid (HI.out.crash xl)
    go_wp2_with fail
    refine (crash_arr HT2.out.a (HT2.out.la pa (.inl rfl)) (fun d hd => ⟨HT2.out.la _ (.inr (.inr ⟨d, hd, .inl rfl⟩)), HT2.out.la _ (.inr (.inr ⟨d, hd, .inr rfl⟩))⟩) HT2.out.bw a' xl.length c' xl (fun V hV => own_ints (own_cb HO.out hV.but HFA.out) rfl HWF.out)).mono ?_
    rintro e w3 ⟨rfl, ha, hn⟩
    have HP1 := Lib.hid (HP0.out.next HNA.out ha hn rfl)
    have HO1 := Lib.hid (own_cb HO.out hn.but HFA.out)
    clear ha hn HP0 HT2 HB2 HO
    obtain ⟨⟨KA', CA', h1⟩, hb1, hl1⟩ := HP1.out
    have HT := Lib.hid h1
    have HL1 := Lib.hid hl1
    obtain ⟨b0, b1, b2, b3, b4, b5⟩ := box6a hb1
    clear h1 hb1 hl1
    go_wp2_with fail
    refine (crash_ar HT.out.r (HT.out.lr pr (.inl rfl)) (fun d hd => ⟨HT.out.lr _ (.inr (.inr (.inr (.inr ⟨d, hd, .inl rfl⟩)))), HT.out.lr _ (.inr (.inr (.inr (.inr ⟨d, hd, .inr rfl⟩))))⟩) HT.out.bw al xl.length cl xl (fun V hV => HX.out.l _ (Below.trans HL1.out hV.low))).mono ?_
    rintro e w4 ⟨rfl, hr, hn⟩
    have HP2 := Lib.hid (HP1.out.next HNR.out hr hn rfl)
    have HO2 := Lib.hid (own_cb HO1.out hn.but HFR.out)
    clear b0 b1 b2 b3 b4 b5 hr hn HP1 HT HO1
    obtain ⟨⟨KA2, CA2, KR2, CR2, h2⟩, hb2, hl2⟩ := HP2.out
    have HT := Lib.hid h2
    have HL2 := Lib.hid hl2
    obtain ⟨b0, b1, b2, b3, b4, b5⟩ := box6a hb2
    clear h2 hb2 hl2
    go_wp2_with fail
    refine (eq_numbers a' al xl.length xl.length c' cl xl xl _ (own_ints HO2.out rfl HWF.out) (HX.out.l _ HL2.out)).mono ?_
    rintro e w5 ⟨rfl, hk5⟩
    have HT5 := Lib.hid (HT.out.kept hk5)
    have HL5 := Lib.hid (Below.trans HL2.out (Below.mono hk5 HT.out.bw))
    clear b0 b1 b2 b3 b4 b5 hk5
    go_wp2
    go_ret
    exact ⟨by simp, HL5.out, KA2, CA2, KR2, CR2, crashA S xl, HT5.out, HIV.out⟩
end Go.Proofs.Ytkfomaoillnehaa

