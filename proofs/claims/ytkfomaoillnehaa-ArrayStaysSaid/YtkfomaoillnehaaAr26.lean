
/- The reference of package array: blank: a new disk in the rows (conditions: the rows have a place for it). -/
import Derived.Test.YtkfomaoillnehaaAr25
import Derived.Test.YtkfomaoillnehaaBts
import Derived.Test.YtkfomaoillnehaaJf
namespace Go.Proofs.Ytkfomaoillnehaa
open Go.RowKit
attribute [local go_sem] Oper.semAt_some

set_option maxRecDepth 100000 in
set_option maxHeartbeats 4000000 in
theorem blank_any (wo : World) (p A D E d M n m g : Nat) (gl : Int) (c1 c2 c3 : Nat) (hn : 1 ≤ n) (hn2 : n ≤ 2048) (hd : d < m) (h : BlR wo p A D E d #[.int .i64 M, .int .i64 n, .slice (some ⟨A, 0, none⟩) m c1, .slice (some ⟨D, 0, none⟩) m c2, .slice (some ⟨E, 0, none⟩) m c3, .int .i64 gl, .int .i64 g]) :
    Calls Try.prog 28 #[.pointer (some ⟨p, 0, none⟩), .int .i64 d] wo fun e w' => e = .returned (.tuple #[]) ∧ ∃ cb base v, BlI wo p A D E d n cb base n #[.int .i64 M, .int .i64 n, .slice (some ⟨A, 0, none⟩) m c1, .slice (some ⟨D, 0, none⟩) m c2, .slice (some ⟨E, 0, none⟩) m c3, .int .i64 gl, .int .i64 g] v w' ∧ wo.heap.size ≤ base := by
  have HR := Lib.hid h
  have HMK := Lib.hid (mkStrs n (by omega))
  have hmk := HMK.out
  have HMB := Lib.hid (makeB 64 (by omega))
  obtain ⟨cb, hcb⟩ : ∃ cb, cb = wo.heap.size := ⟨_, rfl⟩
  have HCB := Lib.hid hcb
  have hr1 := h.set A d (.bool true) (.inl rfl)
  have hr2 := hr1.set D d (.slice none 0 0) (.inr (.inl rfl))
  have hr3 := hr2.set E d (.slice (some ⟨cb, 0, none⟩) n n) (.inr (.inr rfl))
  have HBX := Lib.hid (And.intro h.box (And.intro hr1.box (And.intro hr2.box hr3.box)))
  have HR3 := Lib.hid hr3
  obtain ⟨lp, lA, lD, lE, ad, ae⟩ := h.lts
  have de := h.de
  obtain ⟨x1, k1⟩ := h.ca
  obtain ⟨x2, k2⟩ := hr1.cd
  obtain ⟨x3, k3⟩ := hr2.ce
  obtain ⟨_, hA1⟩ := h.a
  obtain ⟨_, hD2⟩ := hr1.dd
  obtain ⟨_, hE3⟩ := hr2.e
  have f1 := hA1.free d
  have f2 := hD2.free d
  have f3 := hE3.free d
  obtain ⟨b0, b1, b2, b3, b4, _⟩ := box7r h.box
  clear h hr1 hr2 hr3 hA1 hD2 hE3 hcb
  go_enter Try.func28, Try.ntmps28
  go_upto_region 0 with (fail)
  clear b0 b1 b2 b3 b4
  have HRD := Lib.hid (show ∀ mq9 bq9, mq9 ≤ 3 → (fun W : World => BlockAt W p #[.int .i64 M, .int .i64 n, .slice (some ⟨A, 0, none⟩) m c1, .slice (some ⟨D, 0, none⟩) m c2, .slice (some ⟨E, 0, none⟩) m c3, .int .i64 gl, .int .i64 g] 43) ((fun mq9 bq9 => cond bq9 ((([wo.drew, (wo.drew.setCell ⟨A, d, none⟩ (.bool true)), ((wo.drew.setCell ⟨A, d, none⟩ (.bool true)).setCell ⟨D, d, none⟩ (.slice none 0 0)), (((wo.drew.setCell ⟨A, d, none⟩ (.bool true)).setCell ⟨D, d, none⟩ (.slice none 0 0)).setCell ⟨E, d, none⟩ (.slice (some ⟨cb, 0, none⟩) n n))] : List World).getD mq9 ((((wo.drew.setCell ⟨A, d, none⟩ (.bool true)).setCell ⟨D, d, none⟩ (.slice none 0 0)).setCell ⟨E, d, none⟩ (.slice (some ⟨cb, 0, none⟩) n n)))).alloc (.cells (madeCells #[.string ByteArray.empty] n) 9)) (([wo.drew, (wo.drew.setCell ⟨A, d, none⟩ (.bool true)), ((wo.drew.setCell ⟨A, d, none⟩ (.bool true)).setCell ⟨D, d, none⟩ (.slice none 0 0)), (((wo.drew.setCell ⟨A, d, none⟩ (.bool true)).setCell ⟨D, d, none⟩ (.slice none 0 0)).setCell ⟨E, d, none⟩ (.slice (some ⟨cb, 0, none⟩) n n))] : List World).getD mq9 ((((wo.drew.setCell ⟨A, d, none⟩ (.bool true)).setCell ⟨D, d, none⟩ (.slice none 0 0)).setCell ⟨E, d, none⟩ (.slice (some ⟨cb, 0, none⟩) n n))))) mq9 bq9) from by
    intro mq9 bq9 hmq9
    match mq9, bq9, hmq9 with
    | 0, false, _ => exact HBX.out.1
    | 0, true, _ => exact BlockAt.kept (show BlockAt wo.drew p #[.int .i64 M, .int .i64 n, .slice (some ⟨A, 0, none⟩) m c1, .slice (some ⟨D, 0, none⟩) m c2, .slice (some ⟨E, 0, none⟩) m c3, .int .i64 gl, .int .i64 g] 43 from HBX.out.1) ((Kept.refl _).alloc _)
    | 1, false, _ => exact HBX.out.2.1
    | 1, true, _ => exact BlockAt.kept (show BlockAt (wo.drew.setCell ⟨A, d, none⟩ (.bool true)) p #[.int .i64 M, .int .i64 n, .slice (some ⟨A, 0, none⟩) m c1, .slice (some ⟨D, 0, none⟩) m c2, .slice (some ⟨E, 0, none⟩) m c3, .int .i64 gl, .int .i64 g] 43 from HBX.out.2.1) ((Kept.refl _).alloc _)
    | 2, false, _ => exact HBX.out.2.2.1
    | 2, true, _ => exact BlockAt.kept (show BlockAt ((wo.drew.setCell ⟨A, d, none⟩ (.bool true)).setCell ⟨D, d, none⟩ (.slice none 0 0)) p #[.int .i64 M, .int .i64 n, .slice (some ⟨A, 0, none⟩) m c1, .slice (some ⟨D, 0, none⟩) m c2, .slice (some ⟨E, 0, none⟩) m c3, .int .i64 gl, .int .i64 g] 43 from HBX.out.2.2.1) ((Kept.refl _).alloc _)
    | 3, false, _ => exact HBX.out.2.2.2
    | 3, true, _ => exact BlockAt.kept (show BlockAt (((wo.drew.setCell ⟨A, d, none⟩ (.bool true)).setCell ⟨D, d, none⟩ (.slice none 0 0)).setCell ⟨E, d, none⟩ (.slice (some ⟨cb, 0, none⟩) n n)) p #[.int .i64 M, .int .i64 n, .slice (some ⟨A, 0, none⟩) m c1, .slice (some ⟨D, 0, none⟩) m c2, .slice (some ⟨E, 0, none⟩) m c3, .int .i64 gl, .int .i64 g] 43 from HBX.out.2.2.2) ((Kept.refl _).alloc _)
    | mq9 + 4, _, hmq9 => omega)
  refine Pj.wp_region_jf [(5, 0), (6, 1), (7, 2), (8, 3), (9, 4), (10, 5), (11, 6), (12, 7), (13, 8), (14, 9), (15, 10), (16, 11), (17, 12), (18, 13), (19, 14), (20, 15), (21, 16), (22, 17), (23, 18), (24, 19), (25, 20), (26, 22), (27, 24)] (fun j => ([.pointer (some ⟨p, 0, none⟩), .pointer (some ⟨p, 0, none⟩), .pointer (some ⟨p, 2, none⟩), .slice (some ⟨A, 0, none⟩) m c1, .int .i64 ((d : Nat) : Int), .pointer (some ⟨p, 0, none⟩), .pointer (some ⟨p, 0, none⟩), .pointer (some ⟨p, 3, none⟩), .slice (some ⟨D, 0, none⟩) m c2, .int .i64 ((d : Nat) : Int), .pointer (some ⟨p, 0, none⟩), .pointer (some ⟨p, 0, none⟩), .pointer (some ⟨p, 4, none⟩), .slice (some ⟨E, 0, none⟩) m c3, .int .i64 ((d : Nat) : Int), .pointer (some ⟨p, 0, none⟩), .pointer (some ⟨p, 0, none⟩), .pointer (some ⟨p, 1, none⟩), .int .i64 ((n : Nat) : Int), .slice (some ⟨cb, 0, none⟩) n n, .pointer (some ⟨A, d, none⟩), undef, .pointer (some ⟨D, d, none⟩), undef, .pointer (some ⟨E, d, none⟩), undef] : List Value).getD j undef) [21, 23, 25] 19 (fun mq9 bq9 => cond bq9 ((([wo.drew, (wo.drew.setCell ⟨A, d, none⟩ (.bool true)), ((wo.drew.setCell ⟨A, d, none⟩ (.bool true)).setCell ⟨D, d, none⟩ (.slice none 0 0)), (((wo.drew.setCell ⟨A, d, none⟩ (.bool true)).setCell ⟨D, d, none⟩ (.slice none 0 0)).setCell ⟨E, d, none⟩ (.slice (some ⟨cb, 0, none⟩) n n))] : List World).getD mq9 ((((wo.drew.setCell ⟨A, d, none⟩ (.bool true)).setCell ⟨D, d, none⟩ (.slice none 0 0)).setCell ⟨E, d, none⟩ (.slice (some ⟨cb, 0, none⟩) n n)))).alloc (.cells (madeCells #[.string ByteArray.empty] n) 9)) (([wo.drew, (wo.drew.setCell ⟨A, d, none⟩ (.bool true)), ((wo.drew.setCell ⟨A, d, none⟩ (.bool true)).setCell ⟨D, d, none⟩ (.slice none 0 0)), (((wo.drew.setCell ⟨A, d, none⟩ (.bool true)).setCell ⟨D, d, none⟩ (.slice none 0 0)).setCell ⟨E, d, none⟩ (.slice (some ⟨cb, 0, none⟩) n n))] : List World).getD mq9 ((((wo.drew.setCell ⟨A, d, none⟩ (.bool true)).setCell ⟨D, d, none⟩ (.slice none 0 0)).setCell ⟨E, d, none⟩ (.slice (some ⟨cb, 0, none⟩) n n))))) (by as_aux_lemma => kernel_rfl) (by as_aux_lemma => kernel_rfl) (by decide) (by decide) rfl ?eh0 ?ehs ?ehe
  case eh0 => exact ⟨_, Pj.puts_self _ (fun j => ([5, 6, 7, 8, 9, 10, 11, 12, 13, 14, 15, 16, 17, 18, 19, 20, 21, 22, 23, 24, 25, 0, 26, 0, 27, 0] : List Nat).getD j 0) [0, 1, 2, 3, 4, 5, 6, 7, 8, 9, 10, 11, 12, 13, 14, 15, 16, 17, 18, 19, 20, 22, 24]⟩
  case ehs =>
    intro L L' V w iz opz Kq hJ ho hopen hdep hL hKq
    match iz, ho with
    | 0, ho =>
      simp only [List.getElem?_toArray, List.getElem?_cons_zero, Option.some.injEq] at ho
      have HJ := Lib.hid hJ
      clear hJ
      subst ho
      refine Pj.Step.free rfl ?_
      simp only [Pj.puts, List.foldl_cons, List.foldl_nil, Act.put, List.setIfInBounds_toArray, List.set_cons_zero, List.set_cons_succ]
      go_simp
      exact hKq _ _ ⟨Pj.vset V 0 (.pointer (some ⟨p, 0, none⟩)), by simp only [Pj.puts, List.foldl_cons, List.foldl_nil, Act.put, List.setIfInBounds_toArray, List.set_cons_zero, List.set_cons_succ, Pj.vset, Nat.reduceEqDiff, if_true, if_false], HJ.out.more (by decide) (by decide) hL rfl⟩
    | 1, ho =>
      simp only [List.getElem?_toArray, List.getElem?_cons_zero, List.getElem?_cons_succ, Option.some.injEq] at ho
      have e0 : V 0 = .pointer (some ⟨p, 0, none⟩) := hJ.h 0 (hdep 0 (by rw [← ho]; kernel_rfl)) (by decide)
      have HJ := Lib.hid hJ
      clear hJ
      subst ho
      refine Pj.Step.free rfl ?_
      simp only [Pj.puts, List.foldl_cons, List.foldl_nil, Act.put, List.setIfInBounds_toArray, List.set_cons_zero, List.set_cons_succ, e0]
      go_simp
      exact hKq _ _ ⟨Pj.vset V 1 (.pointer (some ⟨p, 0, none⟩)), by simp only [Pj.puts, List.foldl_cons, List.foldl_nil, Act.put, List.setIfInBounds_toArray, List.set_cons_zero, List.set_cons_succ, Pj.vset, Nat.reduceEqDiff, if_true, if_false, e0], HJ.out.more (by decide) (by decide) hL rfl⟩
    | 2, ho =>
      simp only [List.getElem?_toArray, List.getElem?_cons_zero, List.getElem?_cons_succ, Option.some.injEq] at ho
      have e1 : V 1 = .pointer (some ⟨p, 0, none⟩) := hJ.h 1 (hdep 1 (by rw [← ho]; kernel_rfl)) (by decide)
      have HJ := Lib.hid hJ
      clear hJ
      subst ho
      refine Pj.Step.free rfl ?_
      simp only [Pj.puts, List.foldl_cons, List.foldl_nil, Act.put, List.setIfInBounds_toArray, List.set_cons_zero, List.set_cons_succ, e1]
      go_simp
      exact hKq _ _ ⟨Pj.vset V 2 (.pointer (some ⟨p, 2, none⟩)), by simp only [Pj.puts, List.foldl_cons, List.foldl_nil, Act.put, List.setIfInBounds_toArray, List.set_cons_zero, List.set_cons_succ, Pj.vset, Nat.reduceEqDiff, if_true, if_false, e1], HJ.out.more (by decide) (by decide) hL rfl⟩
    | 3, ho =>
      simp only [List.getElem?_toArray, List.getElem?_cons_zero, List.getElem?_cons_succ, Option.some.injEq] at ho
      have e2 : V 2 = .pointer (some ⟨p, 2, none⟩) := hJ.h 2 (hdep 2 (by rw [← ho]; kernel_rfl)) (by decide)
      have hr : (fun W : World => BlockAt W p #[.int .i64 M, .int .i64 n, .slice (some ⟨A, 0, none⟩) m c1, .slice (some ⟨D, 0, none⟩) m c2, .slice (some ⟨E, 0, none⟩) m c3, .int .i64 gl, .int .i64 g] 43) w := hJ.rd (R := fun W => BlockAt W p #[.int .i64 M, .int .i64 n, .slice (some ⟨A, 0, none⟩) m c1, .slice (some ⟨D, 0, none⟩) m c2, .slice (some ⟨E, 0, none⟩) m c3, .int .i64 gl, .int .i64 g] 43) HRD.out
      have hr2 : BlockAt w p #[.int .i64 M, .int .i64 n, .slice (some ⟨A, 0, none⟩) m c1, .slice (some ⟨D, 0, none⟩) m c2, .slice (some ⟨E, 0, none⟩) m c3, .int .i64 gl, .int .i64 g] 43 := hr
      obtain ⟨b0, b1, b2, b3, b4, b5, b6⟩ := box7r hr2
      have HJ := Lib.hid hJ
      clear hJ
      subst ho
      refine Pj.Step.free rfl ?_
      simp only [Pj.puts, List.foldl_cons, List.foldl_nil, Act.put, List.setIfInBounds_toArray, List.set_cons_zero, List.set_cons_succ, e2]
      go_simp
      exact hKq _ _ ⟨Pj.vset V 3 (.slice (some ⟨A, 0, none⟩) m c1), by simp only [Pj.puts, List.foldl_cons, List.foldl_nil, Act.put, List.setIfInBounds_toArray, List.set_cons_zero, List.set_cons_succ, Pj.vset, Nat.reduceEqDiff, if_true, if_false, e2], HJ.out.more (by decide) (by decide) hL rfl⟩
    | 4, ho =>
      simp only [List.getElem?_toArray, List.getElem?_cons_zero, List.getElem?_cons_succ, Option.some.injEq] at ho
      have HJ := Lib.hid hJ
      clear hJ
      subst ho
      refine Pj.Step.free rfl ?_
      simp only [Pj.puts, List.foldl_cons, List.foldl_nil, Act.put, List.setIfInBounds_toArray, List.set_cons_zero, List.set_cons_succ]
      go_simp
      exact hKq _ _ ⟨Pj.vset V 4 (.int .i64 ((d : Nat) : Int)), by simp only [Pj.puts, List.foldl_cons, List.foldl_nil, Act.put, List.setIfInBounds_toArray, List.set_cons_zero, List.set_cons_succ, Pj.vset, Nat.reduceEqDiff, if_true, if_false], HJ.out.more (by decide) (by decide) hL rfl⟩
    | 5, ho =>
      simp only [List.getElem?_toArray, List.getElem?_cons_zero, List.getElem?_cons_succ, Option.some.injEq] at ho
      have HJ := Lib.hid hJ
      clear hJ
      subst ho
      refine Pj.Step.free rfl ?_
      simp only [Pj.puts, List.foldl_cons, List.foldl_nil, Act.put, List.setIfInBounds_toArray, List.set_cons_zero, List.set_cons_succ]
      go_simp
      exact hKq _ _ ⟨Pj.vset V 5 (.pointer (some ⟨p, 0, none⟩)), by simp only [Pj.puts, List.foldl_cons, List.foldl_nil, Act.put, List.setIfInBounds_toArray, List.set_cons_zero, List.set_cons_succ, Pj.vset, Nat.reduceEqDiff, if_true, if_false], HJ.out.more (by decide) (by decide) hL rfl⟩
    | 6, ho =>
      simp only [List.getElem?_toArray, List.getElem?_cons_zero, List.getElem?_cons_succ, Option.some.injEq] at ho
      have e5 : V 5 = .pointer (some ⟨p, 0, none⟩) := hJ.h 5 (hdep 5 (by rw [← ho]; kernel_rfl)) (by decide)
      have HJ := Lib.hid hJ
      clear hJ
      subst ho
      refine Pj.Step.free rfl ?_
      simp only [Pj.puts, List.foldl_cons, List.foldl_nil, Act.put, List.setIfInBounds_toArray, List.set_cons_zero, List.set_cons_succ, e5]
      go_simp
      exact hKq _ _ ⟨Pj.vset V 6 (.pointer (some ⟨p, 0, none⟩)), by simp only [Pj.puts, List.foldl_cons, List.foldl_nil, Act.put, List.setIfInBounds_toArray, List.set_cons_zero, List.set_cons_succ, Pj.vset, Nat.reduceEqDiff, if_true, if_false, e5], HJ.out.more (by decide) (by decide) hL rfl⟩
    | 7, ho =>
      simp only [List.getElem?_toArray, List.getElem?_cons_zero, List.getElem?_cons_succ, Option.some.injEq] at ho
      have e6 : V 6 = .pointer (some ⟨p, 0, none⟩) := hJ.h 6 (hdep 6 (by rw [← ho]; kernel_rfl)) (by decide)
      have HJ := Lib.hid hJ
      clear hJ
      subst ho
      refine Pj.Step.free rfl ?_
      simp only [Pj.puts, List.foldl_cons, List.foldl_nil, Act.put, List.setIfInBounds_toArray, List.set_cons_zero, List.set_cons_succ, e6]
      go_simp
      exact hKq _ _ ⟨Pj.vset V 7 (.pointer (some ⟨p, 3, none⟩)), by simp only [Pj.puts, List.foldl_cons, List.foldl_nil, Act.put, List.setIfInBounds_toArray, List.set_cons_zero, List.set_cons_succ, Pj.vset, Nat.reduceEqDiff, if_true, if_false, e6], HJ.out.more (by decide) (by decide) hL rfl⟩
    | 8, ho =>
      simp only [List.getElem?_toArray, List.getElem?_cons_zero, List.getElem?_cons_succ, Option.some.injEq] at ho
      have e7 : V 7 = .pointer (some ⟨p, 3, none⟩) := hJ.h 7 (hdep 7 (by rw [← ho]; kernel_rfl)) (by decide)
      have hr : (fun W : World => BlockAt W p #[.int .i64 M, .int .i64 n, .slice (some ⟨A, 0, none⟩) m c1, .slice (some ⟨D, 0, none⟩) m c2, .slice (some ⟨E, 0, none⟩) m c3, .int .i64 gl, .int .i64 g] 43) w := hJ.rd (R := fun W => BlockAt W p #[.int .i64 M, .int .i64 n, .slice (some ⟨A, 0, none⟩) m c1, .slice (some ⟨D, 0, none⟩) m c2, .slice (some ⟨E, 0, none⟩) m c3, .int .i64 gl, .int .i64 g] 43) HRD.out
      have hr2 : BlockAt w p #[.int .i64 M, .int .i64 n, .slice (some ⟨A, 0, none⟩) m c1, .slice (some ⟨D, 0, none⟩) m c2, .slice (some ⟨E, 0, none⟩) m c3, .int .i64 gl, .int .i64 g] 43 := hr
      obtain ⟨b0, b1, b2, b3, b4, b5, b6⟩ := box7r hr2
      have HJ := Lib.hid hJ
      clear hJ
      subst ho
      refine Pj.Step.free rfl ?_
      simp only [Pj.puts, List.foldl_cons, List.foldl_nil, Act.put, List.setIfInBounds_toArray, List.set_cons_zero, List.set_cons_succ, e7]
      go_simp
      exact hKq _ _ ⟨Pj.vset V 8 (.slice (some ⟨D, 0, none⟩) m c2), by simp only [Pj.puts, List.foldl_cons, List.foldl_nil, Act.put, List.setIfInBounds_toArray, List.set_cons_zero, List.set_cons_succ, Pj.vset, Nat.reduceEqDiff, if_true, if_false, e7], HJ.out.more (by decide) (by decide) hL rfl⟩
    | 9, ho =>
      simp only [List.getElem?_toArray, List.getElem?_cons_zero, List.getElem?_cons_succ, Option.some.injEq] at ho
      have HJ := Lib.hid hJ
      clear hJ
      subst ho
      refine Pj.Step.free rfl ?_
      simp only [Pj.puts, List.foldl_cons, List.foldl_nil, Act.put, List.setIfInBounds_toArray, List.set_cons_zero, List.set_cons_succ]
      go_simp
      exact hKq _ _ ⟨Pj.vset V 9 (.int .i64 ((d : Nat) : Int)), by simp only [Pj.puts, List.foldl_cons, List.foldl_nil, Act.put, List.setIfInBounds_toArray, List.set_cons_zero, List.set_cons_succ, Pj.vset, Nat.reduceEqDiff, if_true, if_false], HJ.out.more (by decide) (by decide) hL rfl⟩
    | 10, ho =>
      simp only [List.getElem?_toArray, List.getElem?_cons_zero, List.getElem?_cons_succ, Option.some.injEq] at ho
      have HJ := Lib.hid hJ
      clear hJ
      subst ho
      refine Pj.Step.free rfl ?_
      simp only [Pj.puts, List.foldl_cons, List.foldl_nil, Act.put, List.setIfInBounds_toArray, List.set_cons_zero, List.set_cons_succ]
      go_simp
      exact hKq _ _ ⟨Pj.vset V 10 (.pointer (some ⟨p, 0, none⟩)), by simp only [Pj.puts, List.foldl_cons, List.foldl_nil, Act.put, List.setIfInBounds_toArray, List.set_cons_zero, List.set_cons_succ, Pj.vset, Nat.reduceEqDiff, if_true, if_false], HJ.out.more (by decide) (by decide) hL rfl⟩
    | 11, ho =>
      simp only [List.getElem?_toArray, List.getElem?_cons_zero, List.getElem?_cons_succ, Option.some.injEq] at ho
      have e10 : V 10 = .pointer (some ⟨p, 0, none⟩) := hJ.h 10 (hdep 10 (by rw [← ho]; kernel_rfl)) (by decide)
      have HJ := Lib.hid hJ
      clear hJ
      subst ho
      refine Pj.Step.free rfl ?_
      simp only [Pj.puts, List.foldl_cons, List.foldl_nil, Act.put, List.setIfInBounds_toArray, List.set_cons_zero, List.set_cons_succ, e10]
      go_simp
      exact hKq _ _ ⟨Pj.vset V 11 (.pointer (some ⟨p, 0, none⟩)), by simp only [Pj.puts, List.foldl_cons, List.foldl_nil, Act.put, List.setIfInBounds_toArray, List.set_cons_zero, List.set_cons_succ, Pj.vset, Nat.reduceEqDiff, if_true, if_false, e10], HJ.out.more (by decide) (by decide) hL rfl⟩
    | 12, ho =>
      simp only [List.getElem?_toArray, List.getElem?_cons_zero, List.getElem?_cons_succ, Option.some.injEq] at ho
      have e11 : V 11 = .pointer (some ⟨p, 0, none⟩) := hJ.h 11 (hdep 11 (by rw [← ho]; kernel_rfl)) (by decide)
      have HJ := Lib.hid hJ
      clear hJ
      subst ho
      refine Pj.Step.free rfl ?_
      simp only [Pj.puts, List.foldl_cons, List.foldl_nil, Act.put, List.setIfInBounds_toArray, List.set_cons_zero, List.set_cons_succ, e11]
      go_simp
      exact hKq _ _ ⟨Pj.vset V 12 (.pointer (some ⟨p, 4, none⟩)), by simp only [Pj.puts, List.foldl_cons, List.foldl_nil, Act.put, List.setIfInBounds_toArray, List.set_cons_zero, List.set_cons_succ, Pj.vset, Nat.reduceEqDiff, if_true, if_false, e11], HJ.out.more (by decide) (by decide) hL rfl⟩
    | 13, ho =>
      simp only [List.getElem?_toArray, List.getElem?_cons_zero, List.getElem?_cons_succ, Option.some.injEq] at ho
      have e12 : V 12 = .pointer (some ⟨p, 4, none⟩) := hJ.h 12 (hdep 12 (by rw [← ho]; kernel_rfl)) (by decide)
      have hr : (fun W : World => BlockAt W p #[.int .i64 M, .int .i64 n, .slice (some ⟨A, 0, none⟩) m c1, .slice (some ⟨D, 0, none⟩) m c2, .slice (some ⟨E, 0, none⟩) m c3, .int .i64 gl, .int .i64 g] 43) w := hJ.rd (R := fun W => BlockAt W p #[.int .i64 M, .int .i64 n, .slice (some ⟨A, 0, none⟩) m c1, .slice (some ⟨D, 0, none⟩) m c2, .slice (some ⟨E, 0, none⟩) m c3, .int .i64 gl, .int .i64 g] 43) HRD.out
      have hr2 : BlockAt w p #[.int .i64 M, .int .i64 n, .slice (some ⟨A, 0, none⟩) m c1, .slice (some ⟨D, 0, none⟩) m c2, .slice (some ⟨E, 0, none⟩) m c3, .int .i64 gl, .int .i64 g] 43 := hr
      obtain ⟨b0, b1, b2, b3, b4, b5, b6⟩ := box7r hr2
      have HJ := Lib.hid hJ
      clear hJ
      subst ho
      refine Pj.Step.free rfl ?_
      simp only [Pj.puts, List.foldl_cons, List.foldl_nil, Act.put, List.setIfInBounds_toArray, List.set_cons_zero, List.set_cons_succ, e12]
      go_simp
      exact hKq _ _ ⟨Pj.vset V 13 (.slice (some ⟨E, 0, none⟩) m c3), by simp only [Pj.puts, List.foldl_cons, List.foldl_nil, Act.put, List.setIfInBounds_toArray, List.set_cons_zero, List.set_cons_succ, Pj.vset, Nat.reduceEqDiff, if_true, if_false, e12], HJ.out.more (by decide) (by decide) hL rfl⟩
    | 14, ho =>
      simp only [List.getElem?_toArray, List.getElem?_cons_zero, List.getElem?_cons_succ, Option.some.injEq] at ho
      have HJ := Lib.hid hJ
      clear hJ
      subst ho
      refine Pj.Step.free rfl ?_
      simp only [Pj.puts, List.foldl_cons, List.foldl_nil, Act.put, List.setIfInBounds_toArray, List.set_cons_zero, List.set_cons_succ]
      go_simp
      exact hKq _ _ ⟨Pj.vset V 14 (.int .i64 ((d : Nat) : Int)), by simp only [Pj.puts, List.foldl_cons, List.foldl_nil, Act.put, List.setIfInBounds_toArray, List.set_cons_zero, List.set_cons_succ, Pj.vset, Nat.reduceEqDiff, if_true, if_false], HJ.out.more (by decide) (by decide) hL rfl⟩
    | 15, ho =>
      simp only [List.getElem?_toArray, List.getElem?_cons_zero, List.getElem?_cons_succ, Option.some.injEq] at ho
      have HJ := Lib.hid hJ
      clear hJ
      subst ho
      refine Pj.Step.free rfl ?_
      simp only [Pj.puts, List.foldl_cons, List.foldl_nil, Act.put, List.setIfInBounds_toArray, List.set_cons_zero, List.set_cons_succ]
      go_simp
      exact hKq _ _ ⟨Pj.vset V 15 (.pointer (some ⟨p, 0, none⟩)), by simp only [Pj.puts, List.foldl_cons, List.foldl_nil, Act.put, List.setIfInBounds_toArray, List.set_cons_zero, List.set_cons_succ, Pj.vset, Nat.reduceEqDiff, if_true, if_false], HJ.out.more (by decide) (by decide) hL rfl⟩
    | 16, ho =>
      simp only [List.getElem?_toArray, List.getElem?_cons_zero, List.getElem?_cons_succ, Option.some.injEq] at ho
      have e15 : V 15 = .pointer (some ⟨p, 0, none⟩) := hJ.h 15 (hdep 15 (by rw [← ho]; kernel_rfl)) (by decide)
      have HJ := Lib.hid hJ
      clear hJ
      subst ho
      refine Pj.Step.free rfl ?_
      simp only [Pj.puts, List.foldl_cons, List.foldl_nil, Act.put, List.setIfInBounds_toArray, List.set_cons_zero, List.set_cons_succ, e15]
      go_simp
      exact hKq _ _ ⟨Pj.vset V 16 (.pointer (some ⟨p, 0, none⟩)), by simp only [Pj.puts, List.foldl_cons, List.foldl_nil, Act.put, List.setIfInBounds_toArray, List.set_cons_zero, List.set_cons_succ, Pj.vset, Nat.reduceEqDiff, if_true, if_false, e15], HJ.out.more (by decide) (by decide) hL rfl⟩
    | 17, ho =>
      simp only [List.getElem?_toArray, List.getElem?_cons_zero, List.getElem?_cons_succ, Option.some.injEq] at ho
      have e16 : V 16 = .pointer (some ⟨p, 0, none⟩) := hJ.h 16 (hdep 16 (by rw [← ho]; kernel_rfl)) (by decide)
      have HJ := Lib.hid hJ
      clear hJ
      subst ho
      refine Pj.Step.free rfl ?_
      simp only [Pj.puts, List.foldl_cons, List.foldl_nil, Act.put, List.setIfInBounds_toArray, List.set_cons_zero, List.set_cons_succ, e16]
      go_simp
      exact hKq _ _ ⟨Pj.vset V 17 (.pointer (some ⟨p, 1, none⟩)), by simp only [Pj.puts, List.foldl_cons, List.foldl_nil, Act.put, List.setIfInBounds_toArray, List.set_cons_zero, List.set_cons_succ, Pj.vset, Nat.reduceEqDiff, if_true, if_false, e16], HJ.out.more (by decide) (by decide) hL rfl⟩
    | 18, ho =>
      simp only [List.getElem?_toArray, List.getElem?_cons_zero, List.getElem?_cons_succ, Option.some.injEq] at ho
      have e17 : V 17 = .pointer (some ⟨p, 1, none⟩) := hJ.h 17 (hdep 17 (by rw [← ho]; kernel_rfl)) (by decide)
      have hr : (fun W : World => BlockAt W p #[.int .i64 M, .int .i64 n, .slice (some ⟨A, 0, none⟩) m c1, .slice (some ⟨D, 0, none⟩) m c2, .slice (some ⟨E, 0, none⟩) m c3, .int .i64 gl, .int .i64 g] 43) w := hJ.rd (R := fun W => BlockAt W p #[.int .i64 M, .int .i64 n, .slice (some ⟨A, 0, none⟩) m c1, .slice (some ⟨D, 0, none⟩) m c2, .slice (some ⟨E, 0, none⟩) m c3, .int .i64 gl, .int .i64 g] 43) HRD.out
      have hr2 : BlockAt w p #[.int .i64 M, .int .i64 n, .slice (some ⟨A, 0, none⟩) m c1, .slice (some ⟨D, 0, none⟩) m c2, .slice (some ⟨E, 0, none⟩) m c3, .int .i64 gl, .int .i64 g] 43 := hr
      obtain ⟨b0, b1, b2, b3, b4, b5, b6⟩ := box7r hr2
      have HJ := Lib.hid hJ
      clear hJ
      subst ho
      refine Pj.Step.free rfl ?_
      simp only [Pj.puts, List.foldl_cons, List.foldl_nil, Act.put, List.setIfInBounds_toArray, List.set_cons_zero, List.set_cons_succ, e17]
      go_simp
      exact hKq _ _ ⟨Pj.vset V 18 (.int .i64 ((n : Nat) : Int)), by simp only [Pj.puts, List.foldl_cons, List.foldl_nil, Act.put, List.setIfInBounds_toArray, List.set_cons_zero, List.set_cons_succ, Pj.vset, Nat.reduceEqDiff, if_true, if_false, e17], HJ.out.more (by decide) (by decide) hL rfl⟩
    | 19, ho =>
      simp only [List.getElem?_toArray, List.getElem?_cons_zero, List.getElem?_cons_succ, Option.some.injEq] at ho
      have e18 : V 18 = .int .i64 ((n : Nat) : Int) := hJ.h 18 (hdep 18 (by rw [← ho]; kernel_rfl)) (by decide)
      obtain ⟨mq, hw, hm⟩ := hJ.atf hopen
      have hm3 : mq ≤ 2 := hm.b 2 (by decide) (by kernel_rfl)
      have HM := Lib.hid hm
      clear hm
      have hcs : mq = 0 ∨ mq = 1 ∨ mq = 2 := by omega
      clear hm3
      rcases hcs with rfl | rfl | rfl
      · have hw2 : w = wo.drew := hw
        clear hw
        subst hw2
        have hz : wo.heap.size = cb := HCB.out.symm
        have HJ := Lib.hid hJ
        clear hJ
        subst ho
        refine Pj.Step.free rfl ?_
        simp only [Pj.puts, List.foldl_cons, List.foldl_nil, Act.put, List.setIfInBounds_toArray, List.set_cons_zero, List.set_cons_succ, e18]
        go_simp
        exact hKq _ _ ⟨Pj.vset V 19 (.slice (some ⟨cb, 0, none⟩) n n), by simp only [Pj.puts, List.foldl_cons, List.foldl_nil, Act.put, List.setIfInBounds_toArray, List.set_cons_zero, List.set_cons_succ, Pj.vset, Nat.reduceEqDiff, if_true, if_false, e18], HJ.out.stepf HM.out (by decide) hL rfl⟩
      · have hw2 : w = (wo.drew.setCell ⟨A, d, none⟩ (.bool true)) := hw
        clear hw
        subst hw2
        have hz : wo.heap.size = cb := HCB.out.symm
        have HJ := Lib.hid hJ
        clear hJ
        subst ho
        refine Pj.Step.free rfl ?_
        simp only [Pj.puts, List.foldl_cons, List.foldl_nil, Act.put, List.setIfInBounds_toArray, List.set_cons_zero, List.set_cons_succ, e18]
        go_simp
        exact hKq _ _ ⟨Pj.vset V 19 (.slice (some ⟨cb, 0, none⟩) n n), by simp only [Pj.puts, List.foldl_cons, List.foldl_nil, Act.put, List.setIfInBounds_toArray, List.set_cons_zero, List.set_cons_succ, Pj.vset, Nat.reduceEqDiff, if_true, if_false, e18], HJ.out.stepf HM.out (by decide) hL rfl⟩
      · have hw2 : w = ((wo.drew.setCell ⟨A, d, none⟩ (.bool true)).setCell ⟨D, d, none⟩ (.slice none 0 0)) := hw
        clear hw
        subst hw2
        have hz : wo.heap.size = cb := HCB.out.symm
        have HJ := Lib.hid hJ
        clear hJ
        subst ho
        refine Pj.Step.free rfl ?_
        simp only [Pj.puts, List.foldl_cons, List.foldl_nil, Act.put, List.setIfInBounds_toArray, List.set_cons_zero, List.set_cons_succ, e18]
        go_simp
        exact hKq _ _ ⟨Pj.vset V 19 (.slice (some ⟨cb, 0, none⟩) n n), by simp only [Pj.puts, List.foldl_cons, List.foldl_nil, Act.put, List.setIfInBounds_toArray, List.set_cons_zero, List.set_cons_succ, Pj.vset, Nat.reduceEqDiff, if_true, if_false, e18], HJ.out.stepf HM.out (by decide) hL rfl⟩
    | 20, ho =>
      simp only [List.getElem?_toArray, List.getElem?_cons_zero, List.getElem?_cons_succ, Option.some.injEq] at ho
      have e3 : V 3 = .slice (some ⟨A, 0, none⟩) m c1 := hJ.h 3 (hdep 3 (by rw [← ho]; kernel_rfl)) (by decide)
      have e4 : V 4 = .int .i64 ((d : Nat) : Int) := hJ.h 4 (hdep 4 (by rw [← ho]; kernel_rfl)) (by decide)
      have HJ := Lib.hid hJ
      clear hJ
      subst ho
      refine Pj.Step.free rfl ?_
      simp only [Pj.puts, List.foldl_cons, List.foldl_nil, Act.put, List.setIfInBounds_toArray, List.set_cons_zero, List.set_cons_succ, e3, e4]
      go_simp
      exact hKq _ _ ⟨Pj.vset V 20 (.pointer (some ⟨A, d, none⟩)), by simp only [Pj.puts, List.foldl_cons, List.foldl_nil, Act.put, List.setIfInBounds_toArray, List.set_cons_zero, List.set_cons_succ, Pj.vset, Nat.reduceEqDiff, if_true, if_false, e3, e4], HJ.out.more (by decide) (by decide) hL rfl⟩
    | 21, ho =>
      simp only [List.getElem?_toArray, List.getElem?_cons_zero, List.getElem?_cons_succ, Option.some.injEq] at ho
      have e20 : V 20 = .pointer (some ⟨A, d, none⟩) := hJ.h 20 (hdep 20 (by rw [← ho]; kernel_rfl)) (by decide)
      have hpv : 0 = 0 ∨ L (([21, 23, 25] : List Nat).getD (0 - 1) 0) := .inl rfl
      obtain ⟨b, hw, hb⟩ := hJ.at 0 (by decide) rfl hopen hpv
      have HBB := Lib.hid hb
      clear hb
      cases b with
      | false =>
        have hw2 : w = wo.drew := hw
        clear hw
        subst hw2
        have HJ := Lib.hid hJ
        clear hJ
        subst ho
        refine Pj.Step.free rfl ?_
        simp only [Pj.puts, List.foldl_cons, List.foldl_nil, Act.put, List.setIfInBounds_toArray, List.set_cons_zero, List.set_cons_succ, e20]
        go_simp
        exact hKq _ _ ⟨Pj.vset V 21 (undef), by simp only [Pj.puts, List.foldl_cons, List.foldl_nil, Act.put, List.setIfInBounds_toArray, List.set_cons_zero, List.set_cons_succ, Pj.vset, Nat.reduceEqDiff, if_false, e20], HJ.out.step 0 (by decide) rfl (by decide) (by decide) HBB.out hopen rfl hL hdep hpv rfl⟩
      | true =>
        have hw2 : w = (wo.drew).alloc (.cells (madeCells #[.string ByteArray.empty] n) 9) := hw
        clear hw
        subst hw2
        have HJ := Lib.hid hJ
        clear hJ
        subst ho
        refine Pj.Step.free rfl ?_
        simp only [Pj.puts, List.foldl_cons, List.foldl_nil, Act.put, List.setIfInBounds_toArray, List.set_cons_zero, List.set_cons_succ, e20]
        go_simp
        exact hKq _ _ ⟨Pj.vset V 21 (undef), by simp only [Pj.puts, List.foldl_cons, List.foldl_nil, Act.put, List.setIfInBounds_toArray, List.set_cons_zero, List.set_cons_succ, Pj.vset, Nat.reduceEqDiff, if_false, e20], HJ.out.step 0 (by decide) rfl (by decide) (by decide) HBB.out hopen rfl hL hdep hpv rfl⟩
    | 22, ho =>
      simp only [List.getElem?_toArray, List.getElem?_cons_zero, List.getElem?_cons_succ, Option.some.injEq] at ho
      have e8 : V 8 = .slice (some ⟨D, 0, none⟩) m c2 := hJ.h 8 (hdep 8 (by rw [← ho]; kernel_rfl)) (by decide)
      have e9 : V 9 = .int .i64 ((d : Nat) : Int) := hJ.h 9 (hdep 9 (by rw [← ho]; kernel_rfl)) (by decide)
      have HJ := Lib.hid hJ
      clear hJ
      subst ho
      refine Pj.Step.free rfl ?_
      simp only [Pj.puts, List.foldl_cons, List.foldl_nil, Act.put, List.setIfInBounds_toArray, List.set_cons_zero, List.set_cons_succ, e8, e9]
      go_simp
      exact hKq _ _ ⟨Pj.vset V 22 (.pointer (some ⟨D, d, none⟩)), by simp only [Pj.puts, List.foldl_cons, List.foldl_nil, Act.put, List.setIfInBounds_toArray, List.set_cons_zero, List.set_cons_succ, Pj.vset, Nat.reduceEqDiff, if_true, if_false, e8, e9], HJ.out.more (by decide) (by decide) hL rfl⟩
    | 23, ho =>
      simp only [List.getElem?_toArray, List.getElem?_cons_zero, List.getElem?_cons_succ, Option.some.injEq] at ho
      have e22 : V 22 = .pointer (some ⟨D, d, none⟩) := hJ.h 22 (hdep 22 (by rw [← ho]; kernel_rfl)) (by decide)
      have hpv : 1 = 0 ∨ L (([21, 23, 25] : List Nat).getD (1 - 1) 0) := .inr (hdep 21 (by rw [← ho]; kernel_rfl))
      obtain ⟨b, hw, hb⟩ := hJ.at 1 (by decide) rfl hopen hpv
      have HBB := Lib.hid hb
      clear hb
      cases b with
      | false =>
        have hw2 : w = (wo.drew.setCell ⟨A, d, none⟩ (.bool true)) := hw
        clear hw
        subst hw2
        have HJ := Lib.hid hJ
        clear hJ
        subst ho
        refine Pj.Step.free rfl ?_
        simp only [Pj.puts, List.foldl_cons, List.foldl_nil, Act.put, List.setIfInBounds_toArray, List.set_cons_zero, List.set_cons_succ, e22]
        go_simp
        exact hKq _ _ ⟨Pj.vset V 23 (undef), by simp only [Pj.puts, List.foldl_cons, List.foldl_nil, Act.put, List.setIfInBounds_toArray, List.set_cons_zero, List.set_cons_succ, Pj.vset, Nat.reduceEqDiff, if_false, e22], HJ.out.step 1 (by decide) rfl (by decide) (by decide) HBB.out hopen rfl hL hdep hpv rfl⟩
      | true =>
        have hw2 : w = ((wo.drew.setCell ⟨A, d, none⟩ (.bool true))).alloc (.cells (madeCells #[.string ByteArray.empty] n) 9) := hw
        clear hw
        subst hw2
        have HJ := Lib.hid hJ
        clear hJ
        subst ho
        refine Pj.Step.free rfl ?_
        simp only [Pj.puts, List.foldl_cons, List.foldl_nil, Act.put, List.setIfInBounds_toArray, List.set_cons_zero, List.set_cons_succ, e22]
        go_simp
        exact hKq _ _ ⟨Pj.vset V 23 (undef), by simp only [Pj.puts, List.foldl_cons, List.foldl_nil, Act.put, List.setIfInBounds_toArray, List.set_cons_zero, List.set_cons_succ, Pj.vset, Nat.reduceEqDiff, if_false, e22], HJ.out.step 1 (by decide) rfl (by decide) (by decide) HBB.out hopen rfl hL hdep hpv rfl⟩
    | 24, ho =>
      simp only [List.getElem?_toArray, List.getElem?_cons_zero, List.getElem?_cons_succ, Option.some.injEq] at ho
      have e13 : V 13 = .slice (some ⟨E, 0, none⟩) m c3 := hJ.h 13 (hdep 13 (by rw [← ho]; kernel_rfl)) (by decide)
      have e14 : V 14 = .int .i64 ((d : Nat) : Int) := hJ.h 14 (hdep 14 (by rw [← ho]; kernel_rfl)) (by decide)
      have HJ := Lib.hid hJ
      clear hJ
      subst ho
      refine Pj.Step.free rfl ?_
      simp only [Pj.puts, List.foldl_cons, List.foldl_nil, Act.put, List.setIfInBounds_toArray, List.set_cons_zero, List.set_cons_succ, e13, e14]
      go_simp
      exact hKq _ _ ⟨Pj.vset V 24 (.pointer (some ⟨E, d, none⟩)), by simp only [Pj.puts, List.foldl_cons, List.foldl_nil, Act.put, List.setIfInBounds_toArray, List.set_cons_zero, List.set_cons_succ, Pj.vset, Nat.reduceEqDiff, if_true, if_false, e13, e14], HJ.out.more (by decide) (by decide) hL rfl⟩
    | 25, ho =>
      simp only [List.getElem?_toArray, List.getElem?_cons_zero, List.getElem?_cons_succ, Option.some.injEq] at ho
      have e24 : V 24 = .pointer (some ⟨E, d, none⟩) := hJ.h 24 (hdep 24 (by rw [← ho]; kernel_rfl)) (by decide)
      have e19 : V 19 = .slice (some ⟨cb, 0, none⟩) n n := hJ.h 19 (hdep 19 (by rw [← ho]; kernel_rfl)) (by decide)
      have hpv : 2 = 0 ∨ L (([21, 23, 25] : List Nat).getD (2 - 1) 0) := .inr (hdep 23 (by rw [← ho]; kernel_rfl))
      obtain ⟨b, hw, hb⟩ := hJ.at 2 (by decide) rfl hopen hpv
      obtain rfl : b = true := hb.2 (hdep 19 (by rw [← ho]; kernel_rfl))
      have HBB := Lib.hid hb
      clear hb
      have hw2 : w = (((wo.drew.setCell ⟨A, d, none⟩ (.bool true)).setCell ⟨D, d, none⟩ (.slice none 0 0))).alloc (.cells (madeCells #[.string ByteArray.empty] n) 9) := hw
      clear hw
      subst hw2
      have HJ := Lib.hid hJ
      clear hJ
      subst ho
      refine Pj.Step.free rfl ?_
      simp only [Pj.puts, List.foldl_cons, List.foldl_nil, Act.put, List.setIfInBounds_toArray, List.set_cons_zero, List.set_cons_succ, e24, e19]
      go_simp
      exact hKq _ _ ⟨Pj.vset V 25 (undef), by simp only [Pj.puts, List.foldl_cons, List.foldl_nil, Act.put, List.setIfInBounds_toArray, List.set_cons_zero, List.set_cons_succ, Pj.vset, Nat.reduceEqDiff, if_false, e24, e19], HJ.out.step 2 (by decide) rfl (by decide) (by decide) HBB.out hopen rfl hL hdep hpv rfl⟩
    | n + 26, ho => simp at ho
  case ehe =>
    intro V hv
    simp only [Pj.puts, List.foldl_cons, List.foldl_nil, Act.put, List.setIfInBounds_toArray, List.set_cons_zero, List.set_cons_succ]
    clear hv 
    have HI0 := Lib.hid (BlI.start (n := n) HR.out HCB.out)
    show Exit.then _ _ Exit.normal _ ((((wo.setCell ⟨A, d, none⟩ (.bool true)).setCell ⟨D, d, none⟩ (.slice none 0 0)).setCell ⟨E, d, none⟩ (.slice (some ⟨cb, 0, none⟩) n n)).drew.alloc (.cells (madeCells #[.string ByteArray.empty] n) 9))
    clear k1 k2 k3 f1 f2 f3
    generalize ((((wo.setCell ⟨A, d, none⟩ (.bool true)).setCell ⟨D, d, none⟩ (.slice none 0 0)).setCell ⟨E, d, none⟩ (.slice (some ⟨cb, 0, none⟩) n n)).drew.alloc (.cells (madeCells #[.string ByteArray.empty] n) 9)) = w4 at *
    go_wp2_with fail
    go_loopw [4] (fun t wr => ∃ (k : Nat) (v : Value), k ≤ n ∧ t = .int .i64 ((k : Nat) : Int) ∧ BlI wo p A D E d n cb (cb + 1) k #[.int .i64 M, .int .i64 n, .slice (some ⟨A, 0, none⟩) m c1, .slice (some ⟨D, 0, none⟩) m c2, .slice (some ⟨E, 0, none⟩) m c3, .int .i64 gl, .int .i64 g] v wr) (fun t _ => n - (intOf t).toNat)
    case atStart => exact ⟨0, _, by omega, rfl, HI0.out⟩
    case round =>
      obtain ⟨k, v, hk, rfl, hI⟩ := hrel
      have HI := Lib.hid hI
      clear hI HI0 HRD
      obtain ⟨b0, b1, b2, b3, b4, _⟩ := box7r HI.out.r.box
      by_cases hlt : k < n
      · have hd1 : decide ((k : Int) < n) = true := decide_eq_true (by omega)
        obtain ⟨av, cv, rfl⟩ := slice_own9 HI.out.own
        obtain ⟨wa, hwa⟩ : ∃ wa, wr.drew.alloc (.cells (madeCells #[.int .u8 0] 64) 5) = wa := ⟨_, rfl⟩
        obtain ⟨wb, hwb⟩ : ∃ wb, wa.alloc (.cells #[.string zeroT] 9) = wb := ⟨_, rfl⟩
        have ka : Kept wr wa := by rw [← hwa]; exact ((Kept.refl wr).drew).alloc _
        have kb : Kept wr wb := by rw [← hwb]; exact ka.alloc _
        have hbf : Buf wa wr.heap.size (List.replicate 64 0) := by rw [← hwa]; exact madeB wr.drew 64
        have hst := hbf.string (P := Try.prog) 74 9 5 Try.underlying74 Try.underlying5 Try.underlying9 64
        rw [List.length_replicate, bytes_zero] at hst
        have hnw : ∀ j u, ([.string zeroT] : List Value)[j]? = some u → wb.cell? ((⟨wa.heap.size, 0, none⟩ : Addr).add j) = some u := fun j u hu => by
          cases j with
          | zero =>
            simp at hu
            subst hu
            rw [← hwb, show (⟨wa.heap.size, 0, none⟩ : Addr).add 0 = ⟨wa.heap.size, 0, none⟩ by unfold Addr.add; split <;> simp_all, cell_new]
            rfl
          | succ j => simp at hu
        obtain ⟨i0, hi, hz0, hz1, hz2⟩ := info_parts Try.infoStrA
        have hbs := HI.out.r.lts
        obtain ⟨v', w9, hr, h2, h3, h4, h5⟩ := run_append_own_at (P := Try.prog) wb (cb + 1) 59 59 9 i0 (.string ByteArray.empty) 1 16 Try.underlying59 hi hz0 hz1 hz2 rfl (by decide) (.slice av k cv) k (List.replicate k (.string zeroT)) (own_kept HI.out.own kb) ⟨wa.heap.size, 0, none⟩ 1 1 [.string zeroT] rfl hnw (by intro u hu; simp at hu; subst hu; rfl) (by unfold maxLen; omega) (by omega) (by
          have h6 := HI.out.tc.lt
          have := Kept.size kb
          omega)
        obtain ⟨a', c', rfl⟩ := slice_own9 h2
        have HAPP := Lib.hid hr
        have HST := Lib.hid (HI.out.step kb h2 h3)
        have h9 := (HI.out.r.kept kb)
        have hst9 : ∀ q, (Value.slice av k cv).ownBlock = some q → ∃ cs, BlockAt wb q cs 9 := fun q e => by
          rcases (own_kept HI.out.own kb).2 with ⟨e2, _⟩ | ⟨g, cap, cur, e2, _, hq, _⟩
          · rw [e2] at e; cases e
          · rw [e2] at e; cases e; exact ⟨cur, hq⟩
        have hn9 : some p ≠ (Value.slice av k cv).ownBlock ∧ some D ≠ (Value.slice av k cv).ownBlock := ⟨fun e => by
          obtain ⟨cs, hq⟩ := hst9 _ e.symm
          exact (h9.ne hq).1 rfl, fun e => by
          obtain ⟨cs, hq⟩ := hst9 _ e.symm
          exact (h9.ne hq).2.2.1 rfl⟩
        have hx9 := h9.box.gr h3 hn9.1
        have hd9 : w9.cell? ⟨D, d, none⟩ = some (.slice av k cv) := by rw [cell_gr h3 h9.lts.2.2.1 hn9.2, cell_kept kb HI.out.r.lts.2.2.1]; exact HI.out.vd
        obtain ⟨_, hDD⟩ := h9.dd
        have hf9 := (hDD.gr h3 hn9.2).free d
        have HB4 := Lib.hid (And.intro HI.out.r.box (And.intro (HI.out.r.box.kept ka) (And.intro (HI.out.r.box.kept kb) (And.intro hx9 (hx9.setOther (g' := D) (i := d) (.slice a' (k + 1) c') (fun e => by
          subst e
          exact block_ne hx9 (hDD.gr h3 hn9.2) (by decide) rfl))))))
        have HVD := Lib.hid (And.intro HI.out.vd (And.intro (show wa.cell? ⟨D, d, none⟩ = some (.slice av k cv) by rw [cell_kept ka HI.out.r.lts.2.2.1]; exact HI.out.vd) (show wb.cell? ⟨D, d, none⟩ = some (.slice av k cv) by rw [cell_kept kb HI.out.r.lts.2.2.1]; exact HI.out.vd)))
        have HWA := Lib.hid hwa
        have HWB := Lib.hid hwb
        have hmb : ∀ u : World, (Instr.makeSlice 74 (.int .i64 64) (.int .i64 64)).run Try.prog u = .ok (.slice (some ⟨u.heap.size, 0, none⟩) 64 64) (u.alloc (.cells (madeCells #[.int .u8 0] 64) 5)) := HMB.out
        clear hr h2 h3 h4 h5 h9 hst9 hn9 hx9 hDD hwa hwb ka kb hbf hnw hi hz0 hz1 hz2 hbs b0 b2 b4
        go_upto_region 4 with (fail)
        have HRD := Lib.hid (show ∀ mq9, mq9 ≤ 5 → (fun W : World => BlockAt W p #[.int .i64 M, .int .i64 n, .slice (some ⟨A, 0, none⟩) m c1, .slice (some ⟨D, 0, none⟩) m c2, .slice (some ⟨E, 0, none⟩) m c3, .int .i64 gl, .int .i64 g] 43) ((fun mq9 => ([wr.drew, wa, wa, wb, w9, (w9.setCell ⟨D, d, none⟩ (.slice a' (k + 1) c'))] : List World).getD mq9 ((w9.setCell ⟨D, d, none⟩ (.slice a' (k + 1) c')))) mq9) from by
          intro mq9 hmq9
          match mq9, hmq9 with
          | 0, _ => exact HB4.out.1
          | 1, _ => exact HB4.out.2.1
          | 2, _ => exact HB4.out.2.1
          | 3, _ => exact HB4.out.2.2.1
          | 4, _ => exact HB4.out.2.2.2.1
          | 5, _ => exact HB4.out.2.2.2.2
          | mq9 + 6, hmq9 => omega)
        have HVV := Lib.hid (show ∀ mq9, mq9 ≤ 3 → (fun W : World => W.cell? ⟨D, d, none⟩ = some (.slice av k cv)) ((fun mq9 => ([wr.drew, wa, wa, wb, w9, (w9.setCell ⟨D, d, none⟩ (.slice a' (k + 1) c'))] : List World).getD mq9 ((w9.setCell ⟨D, d, none⟩ (.slice a' (k + 1) c')))) mq9) from by
          intro mq9 hmq9
          match mq9, hmq9 with
          | 0, _ => exact HVD.out.1
          | 1, _ => exact HVD.out.2.1
          | 2, _ => exact HVD.out.2.1
          | 3, _ => exact HVD.out.2.2
          | mq9 + 4, hmq9 => omega)
        clear b1 b3
        refine Pj.wp_region_jq [(36, 0), (37, 1), (38, 2), (39, 3), (40, 4), (41, 5), (42, 6), (43, 7), (44, 8), (45, 9), (46, 10), (47, 11), (48, 12), (49, 13), (50, 14), (51, 15), (52, 16)] (fun j => ([.pointer (some ⟨p, 0, none⟩), .pointer (some ⟨p, 0, none⟩), .pointer (some ⟨p, 3, none⟩), .slice (some ⟨D, 0, none⟩) m c2, .int .i64 ((d : Nat) : Int), .pointer (some ⟨p, 0, none⟩), .pointer (some ⟨p, 0, none⟩), .pointer (some ⟨p, 3, none⟩), .slice (some ⟨D, 0, none⟩) m c2, .int .i64 ((d : Nat) : Int), .pointer (some ⟨D, d, none⟩), .slice av k cv, .slice (some ⟨wr.heap.size, 0, none⟩) 64 64, .string zeroT, .slice (some ⟨wa.heap.size, 0, none⟩) 1 1, .slice a' (k + 1) c', .pointer (some ⟨D, d, none⟩), undef] : List Value).getD j undef) [12, 13, 14, 15, 17] (fun mq9 => ([wr.drew, wa, wa, wb, w9, (w9.setCell ⟨D, d, none⟩ (.slice a' (k + 1) c'))] : List World).getD mq9 ((w9.setCell ⟨D, d, none⟩ (.slice a' (k + 1) c')))) (by as_aux_lemma => kernel_rfl) (by as_aux_lemma => kernel_rfl) (by decide) rfl ?eh0 ?ehs ?ehe
        case eh0 => exact ⟨_, Pj.puts_self _ (fun j => ([36, 37, 38, 39, 40, 41, 42, 43, 44, 45, 46, 47, 48, 49, 50, 51, 52, 0] : List Nat).getD j 0) [0, 1, 2, 3, 4, 5, 6, 7, 8, 9, 10, 11, 12, 13, 14, 15, 16]⟩
        case ehs =>
          intro L L' V w iz opz Kq hJ ho hopen hdep hL hKq
          match iz, ho with
          | 0, ho =>
            simp only [List.getElem?_toArray, List.getElem?_cons_zero, Option.some.injEq] at ho
            have HJ := Lib.hid hJ
            clear hJ
            subst ho
            refine Pj.Step.free rfl ?_
            simp only [Pj.puts, List.foldl_cons, List.foldl_nil, Act.put, List.setIfInBounds_toArray, List.set_cons_zero, List.set_cons_succ]
            go_simp
            exact hKq _ _ ⟨Pj.vset V 0 (.pointer (some ⟨p, 0, none⟩)), by simp only [Pj.puts, List.foldl_cons, List.foldl_nil, Act.put, List.setIfInBounds_toArray, List.set_cons_zero, List.set_cons_succ, Pj.vset, Nat.reduceEqDiff, if_true, if_false], HJ.out.more (by decide) hL rfl⟩
          | 1, ho =>
            simp only [List.getElem?_toArray, List.getElem?_cons_zero, List.getElem?_cons_succ, Option.some.injEq] at ho
            have e0 : V 0 = .pointer (some ⟨p, 0, none⟩) := hJ.h 0 (hdep 0 (by rw [← ho]; kernel_rfl)) (by decide)
            have HJ := Lib.hid hJ
            clear hJ
            subst ho
            refine Pj.Step.free rfl ?_
            simp only [Pj.puts, List.foldl_cons, List.foldl_nil, Act.put, List.setIfInBounds_toArray, List.set_cons_zero, List.set_cons_succ, e0]
            go_simp
            exact hKq _ _ ⟨Pj.vset V 1 (.pointer (some ⟨p, 0, none⟩)), by simp only [Pj.puts, List.foldl_cons, List.foldl_nil, Act.put, List.setIfInBounds_toArray, List.set_cons_zero, List.set_cons_succ, Pj.vset, Nat.reduceEqDiff, if_true, if_false, e0], HJ.out.more (by decide) hL rfl⟩
          | 2, ho =>
            simp only [List.getElem?_toArray, List.getElem?_cons_zero, List.getElem?_cons_succ, Option.some.injEq] at ho
            have e1 : V 1 = .pointer (some ⟨p, 0, none⟩) := hJ.h 1 (hdep 1 (by rw [← ho]; kernel_rfl)) (by decide)
            have HJ := Lib.hid hJ
            clear hJ
            subst ho
            refine Pj.Step.free rfl ?_
            simp only [Pj.puts, List.foldl_cons, List.foldl_nil, Act.put, List.setIfInBounds_toArray, List.set_cons_zero, List.set_cons_succ, e1]
            go_simp
            exact hKq _ _ ⟨Pj.vset V 2 (.pointer (some ⟨p, 3, none⟩)), by simp only [Pj.puts, List.foldl_cons, List.foldl_nil, Act.put, List.setIfInBounds_toArray, List.set_cons_zero, List.set_cons_succ, Pj.vset, Nat.reduceEqDiff, if_true, if_false, e1], HJ.out.more (by decide) hL rfl⟩
          | 3, ho =>
            simp only [List.getElem?_toArray, List.getElem?_cons_zero, List.getElem?_cons_succ, Option.some.injEq] at ho
            have e2 : V 2 = .pointer (some ⟨p, 3, none⟩) := hJ.h 2 (hdep 2 (by rw [← ho]; kernel_rfl)) (by decide)
            have hr : (fun W : World => BlockAt W p #[.int .i64 M, .int .i64 n, .slice (some ⟨A, 0, none⟩) m c1, .slice (some ⟨D, 0, none⟩) m c2, .slice (some ⟨E, 0, none⟩) m c3, .int .i64 gl, .int .i64 g] 43) w := hJ.rd (R := fun W => BlockAt W p #[.int .i64 M, .int .i64 n, .slice (some ⟨A, 0, none⟩) m c1, .slice (some ⟨D, 0, none⟩) m c2, .slice (some ⟨E, 0, none⟩) m c3, .int .i64 gl, .int .i64 g] 43) HRD.out
            have hr2 : BlockAt w p #[.int .i64 M, .int .i64 n, .slice (some ⟨A, 0, none⟩) m c1, .slice (some ⟨D, 0, none⟩) m c2, .slice (some ⟨E, 0, none⟩) m c3, .int .i64 gl, .int .i64 g] 43 := hr
            obtain ⟨b0, b1, b2, b3, b4, b5, b6⟩ := box7r hr2
            have HJ := Lib.hid hJ
            clear hJ
            subst ho
            refine Pj.Step.free rfl ?_
            simp only [Pj.puts, List.foldl_cons, List.foldl_nil, Act.put, List.setIfInBounds_toArray, List.set_cons_zero, List.set_cons_succ, e2]
            go_simp
            exact hKq _ _ ⟨Pj.vset V 3 (.slice (some ⟨D, 0, none⟩) m c2), by simp only [Pj.puts, List.foldl_cons, List.foldl_nil, Act.put, List.setIfInBounds_toArray, List.set_cons_zero, List.set_cons_succ, Pj.vset, Nat.reduceEqDiff, if_true, if_false, e2], HJ.out.more (by decide) hL rfl⟩
          | 4, ho =>
            simp only [List.getElem?_toArray, List.getElem?_cons_zero, List.getElem?_cons_succ, Option.some.injEq] at ho
            have HJ := Lib.hid hJ
            clear hJ
            subst ho
            refine Pj.Step.free rfl ?_
            simp only [Pj.puts, List.foldl_cons, List.foldl_nil, Act.put, List.setIfInBounds_toArray, List.set_cons_zero, List.set_cons_succ]
            go_simp
            exact hKq _ _ ⟨Pj.vset V 4 (.int .i64 ((d : Nat) : Int)), by simp only [Pj.puts, List.foldl_cons, List.foldl_nil, Act.put, List.setIfInBounds_toArray, List.set_cons_zero, List.set_cons_succ, Pj.vset, Nat.reduceEqDiff, if_true, if_false], HJ.out.more (by decide) hL rfl⟩
          | 5, ho =>
            simp only [List.getElem?_toArray, List.getElem?_cons_zero, List.getElem?_cons_succ, Option.some.injEq] at ho
            have HJ := Lib.hid hJ
            clear hJ
            subst ho
            refine Pj.Step.free rfl ?_
            simp only [Pj.puts, List.foldl_cons, List.foldl_nil, Act.put, List.setIfInBounds_toArray, List.set_cons_zero, List.set_cons_succ]
            go_simp
            exact hKq _ _ ⟨Pj.vset V 5 (.pointer (some ⟨p, 0, none⟩)), by simp only [Pj.puts, List.foldl_cons, List.foldl_nil, Act.put, List.setIfInBounds_toArray, List.set_cons_zero, List.set_cons_succ, Pj.vset, Nat.reduceEqDiff, if_true, if_false], HJ.out.more (by decide) hL rfl⟩
          | 6, ho =>
            simp only [List.getElem?_toArray, List.getElem?_cons_zero, List.getElem?_cons_succ, Option.some.injEq] at ho
            have e5 : V 5 = .pointer (some ⟨p, 0, none⟩) := hJ.h 5 (hdep 5 (by rw [← ho]; kernel_rfl)) (by decide)
            have HJ := Lib.hid hJ
            clear hJ
            subst ho
            refine Pj.Step.free rfl ?_
            simp only [Pj.puts, List.foldl_cons, List.foldl_nil, Act.put, List.setIfInBounds_toArray, List.set_cons_zero, List.set_cons_succ, e5]
            go_simp
            exact hKq _ _ ⟨Pj.vset V 6 (.pointer (some ⟨p, 0, none⟩)), by simp only [Pj.puts, List.foldl_cons, List.foldl_nil, Act.put, List.setIfInBounds_toArray, List.set_cons_zero, List.set_cons_succ, Pj.vset, Nat.reduceEqDiff, if_true, if_false, e5], HJ.out.more (by decide) hL rfl⟩
          | 7, ho =>
            simp only [List.getElem?_toArray, List.getElem?_cons_zero, List.getElem?_cons_succ, Option.some.injEq] at ho
            have e6 : V 6 = .pointer (some ⟨p, 0, none⟩) := hJ.h 6 (hdep 6 (by rw [← ho]; kernel_rfl)) (by decide)
            have HJ := Lib.hid hJ
            clear hJ
            subst ho
            refine Pj.Step.free rfl ?_
            simp only [Pj.puts, List.foldl_cons, List.foldl_nil, Act.put, List.setIfInBounds_toArray, List.set_cons_zero, List.set_cons_succ, e6]
            go_simp
            exact hKq _ _ ⟨Pj.vset V 7 (.pointer (some ⟨p, 3, none⟩)), by simp only [Pj.puts, List.foldl_cons, List.foldl_nil, Act.put, List.setIfInBounds_toArray, List.set_cons_zero, List.set_cons_succ, Pj.vset, Nat.reduceEqDiff, if_true, if_false, e6], HJ.out.more (by decide) hL rfl⟩
          | 8, ho =>
            simp only [List.getElem?_toArray, List.getElem?_cons_zero, List.getElem?_cons_succ, Option.some.injEq] at ho
            have e7 : V 7 = .pointer (some ⟨p, 3, none⟩) := hJ.h 7 (hdep 7 (by rw [← ho]; kernel_rfl)) (by decide)
            have hr : (fun W : World => BlockAt W p #[.int .i64 M, .int .i64 n, .slice (some ⟨A, 0, none⟩) m c1, .slice (some ⟨D, 0, none⟩) m c2, .slice (some ⟨E, 0, none⟩) m c3, .int .i64 gl, .int .i64 g] 43) w := hJ.rd (R := fun W => BlockAt W p #[.int .i64 M, .int .i64 n, .slice (some ⟨A, 0, none⟩) m c1, .slice (some ⟨D, 0, none⟩) m c2, .slice (some ⟨E, 0, none⟩) m c3, .int .i64 gl, .int .i64 g] 43) HRD.out
            have hr2 : BlockAt w p #[.int .i64 M, .int .i64 n, .slice (some ⟨A, 0, none⟩) m c1, .slice (some ⟨D, 0, none⟩) m c2, .slice (some ⟨E, 0, none⟩) m c3, .int .i64 gl, .int .i64 g] 43 := hr
            obtain ⟨b0, b1, b2, b3, b4, b5, b6⟩ := box7r hr2
            have HJ := Lib.hid hJ
            clear hJ
            subst ho
            refine Pj.Step.free rfl ?_
            simp only [Pj.puts, List.foldl_cons, List.foldl_nil, Act.put, List.setIfInBounds_toArray, List.set_cons_zero, List.set_cons_succ, e7]
            go_simp
            exact hKq _ _ ⟨Pj.vset V 8 (.slice (some ⟨D, 0, none⟩) m c2), by simp only [Pj.puts, List.foldl_cons, List.foldl_nil, Act.put, List.setIfInBounds_toArray, List.set_cons_zero, List.set_cons_succ, Pj.vset, Nat.reduceEqDiff, if_true, if_false, e7], HJ.out.more (by decide) hL rfl⟩
          | 9, ho =>
            simp only [List.getElem?_toArray, List.getElem?_cons_zero, List.getElem?_cons_succ, Option.some.injEq] at ho
            have HJ := Lib.hid hJ
            clear hJ
            subst ho
            refine Pj.Step.free rfl ?_
            simp only [Pj.puts, List.foldl_cons, List.foldl_nil, Act.put, List.setIfInBounds_toArray, List.set_cons_zero, List.set_cons_succ]
            go_simp
            exact hKq _ _ ⟨Pj.vset V 9 (.int .i64 ((d : Nat) : Int)), by simp only [Pj.puts, List.foldl_cons, List.foldl_nil, Act.put, List.setIfInBounds_toArray, List.set_cons_zero, List.set_cons_succ, Pj.vset, Nat.reduceEqDiff, if_true, if_false], HJ.out.more (by decide) hL rfl⟩
          | 10, ho =>
            simp only [List.getElem?_toArray, List.getElem?_cons_zero, List.getElem?_cons_succ, Option.some.injEq] at ho
            have e8 : V 8 = .slice (some ⟨D, 0, none⟩) m c2 := hJ.h 8 (hdep 8 (by rw [← ho]; kernel_rfl)) (by decide)
            have e9 : V 9 = .int .i64 ((d : Nat) : Int) := hJ.h 9 (hdep 9 (by rw [← ho]; kernel_rfl)) (by decide)
            have HJ := Lib.hid hJ
            clear hJ
            subst ho
            refine Pj.Step.free rfl ?_
            simp only [Pj.puts, List.foldl_cons, List.foldl_nil, Act.put, List.setIfInBounds_toArray, List.set_cons_zero, List.set_cons_succ, e8, e9]
            go_simp
            exact hKq _ _ ⟨Pj.vset V 10 (.pointer (some ⟨D, d, none⟩)), by simp only [Pj.puts, List.foldl_cons, List.foldl_nil, Act.put, List.setIfInBounds_toArray, List.set_cons_zero, List.set_cons_succ, Pj.vset, Nat.reduceEqDiff, if_true, if_false, e8, e9], HJ.out.more (by decide) hL rfl⟩
          | 11, ho =>
            simp only [List.getElem?_toArray, List.getElem?_cons_zero, List.getElem?_cons_succ, Option.some.injEq] at ho
            have e10 : V 10 = .pointer (some ⟨D, d, none⟩) := hJ.h 10 (hdep 10 (by rw [← ho]; kernel_rfl)) (by decide)
            have hr : (fun W : World => W.cell? ⟨D, d, none⟩ = some (.slice av k cv)) w := hJ.rdLe hopen 3 (by decide) (by kernel_rfl) (R := fun W => W.cell? ⟨D, d, none⟩ = some (.slice av k cv)) HVV.out
            have hr2 : w.cell? ⟨D, d, none⟩ = some (.slice av k cv) := hr
            have HJ := Lib.hid hJ
            clear hJ
            subst ho
            refine Pj.Step.free rfl ?_
            simp only [Pj.puts, List.foldl_cons, List.foldl_nil, Act.put, List.setIfInBounds_toArray, List.set_cons_zero, List.set_cons_succ, e10]
            go_simp
            exact hKq _ _ ⟨Pj.vset V 11 (.slice av k cv), by simp only [Pj.puts, List.foldl_cons, List.foldl_nil, Act.put, List.setIfInBounds_toArray, List.set_cons_zero, List.set_cons_succ, Pj.vset, Nat.reduceEqDiff, if_true, if_false, e10], HJ.out.more (by decide) hL rfl⟩
          | 12, ho =>
            simp only [List.getElem?_toArray, List.getElem?_cons_zero, List.getElem?_cons_succ, Option.some.injEq] at ho
            have hpv : 0 = 0 ∨ L (([12, 13, 14, 15, 17] : List Nat).getD (0 - 1) 0) := .inl rfl
            obtain rfl : wr.drew = w := (hJ.at 0 (by decide) rfl hopen hpv).symm
            have HJ := Lib.hid hJ
            clear hJ
            subst ho
            refine Pj.Step.free rfl ?_
            simp only [Pj.puts, List.foldl_cons, List.foldl_nil, Act.put, List.setIfInBounds_toArray, List.set_cons_zero, List.set_cons_succ]
            go_simp
            have hqf := hKq _ _ ⟨Pj.vset V 12 (.slice (some ⟨wr.heap.size, 0, none⟩) 64 64), rfl, HJ.out.step 0 (by decide) rfl (by decide) rfl hopen rfl hL hdep hpv rfl⟩
            simp only [Pj.puts, List.foldl_cons, List.foldl_nil, Act.put, List.setIfInBounds_toArray, List.set_cons_zero, List.set_cons_succ, Pj.vset, Nat.reduceEqDiff, if_true, if_false] at hqf
            rw [← HWA.out] at hqf
            exact hqf
          | 13, ho =>
            simp only [List.getElem?_toArray, List.getElem?_cons_zero, List.getElem?_cons_succ, Option.some.injEq] at ho
            have e12 : V 12 = .slice (some ⟨wr.heap.size, 0, none⟩) 64 64 := hJ.h 12 (hdep 12 (by rw [← ho]; kernel_rfl)) (by decide)
            have hpv : 1 = 0 ∨ L (([12, 13, 14, 15, 17] : List Nat).getD (1 - 1) 0) := .inr (hdep 12 (by rw [← ho]; kernel_rfl))
            obtain rfl : wa = w := (hJ.at 1 (by decide) rfl hopen hpv).symm
            have HJ := Lib.hid hJ
            clear hJ
            subst ho
            refine Pj.Step.free rfl ?_
            simp only [Pj.puts, List.foldl_cons, List.foldl_nil, Act.put, List.setIfInBounds_toArray, List.set_cons_zero, List.set_cons_succ, e12]
            go_simp
            exact hKq _ _ ⟨Pj.vset V 13 (.string zeroT), by simp only [Pj.puts, List.foldl_cons, List.foldl_nil, Act.put, List.setIfInBounds_toArray, List.set_cons_zero, List.set_cons_succ, Pj.vset, Nat.reduceEqDiff, if_true, if_false, e12], HJ.out.step 1 (by decide) rfl (by decide) rfl hopen rfl hL hdep hpv rfl⟩
          | 14, ho =>
            simp only [List.getElem?_toArray, List.getElem?_cons_zero, List.getElem?_cons_succ, Option.some.injEq] at ho
            have e13 : V 13 = .string zeroT := hJ.h 13 (hdep 13 (by rw [← ho]; kernel_rfl)) (by decide)
            have hpv : 2 = 0 ∨ L (([12, 13, 14, 15, 17] : List Nat).getD (2 - 1) 0) := .inr (hdep 13 (by rw [← ho]; kernel_rfl))
            obtain rfl : wa = w := (hJ.at 2 (by decide) rfl hopen hpv).symm
            have HJ := Lib.hid hJ
            clear hJ
            subst ho
            refine Pj.Step.free rfl ?_
            simp only [Pj.puts, List.foldl_cons, List.foldl_nil, Act.put, List.setIfInBounds_toArray, List.set_cons_zero, List.set_cons_succ, e13]
            go_simp
            have hqf := hKq _ _ ⟨Pj.vset V 14 (.slice (some ⟨wa.heap.size, 0, none⟩) 1 1), rfl, HJ.out.step 2 (by decide) rfl (by decide) rfl hopen rfl hL hdep hpv rfl⟩
            simp only [Pj.puts, List.foldl_cons, List.foldl_nil, Act.put, List.setIfInBounds_toArray, List.set_cons_zero, List.set_cons_succ, Pj.vset, Nat.reduceEqDiff, if_true, if_false, e13] at hqf
            rw [← HWB.out] at hqf
            exact hqf
          | 15, ho =>
            simp only [List.getElem?_toArray, List.getElem?_cons_zero, List.getElem?_cons_succ, Option.some.injEq] at ho
            have e11 : V 11 = .slice av k cv := hJ.h 11 (hdep 11 (by rw [← ho]; kernel_rfl)) (by decide)
            have e14 : V 14 = .slice (some ⟨wa.heap.size, 0, none⟩) 1 1 := hJ.h 14 (hdep 14 (by rw [← ho]; kernel_rfl)) (by decide)
            have hpv : 3 = 0 ∨ L (([12, 13, 14, 15, 17] : List Nat).getD (3 - 1) 0) := .inr (hdep 14 (by rw [← ho]; kernel_rfl))
            obtain rfl : wb = w := (hJ.at 3 (by decide) rfl hopen hpv).symm
            have HJ := Lib.hid hJ
            clear hJ
            subst ho
            refine Pj.Step.free rfl ?_
            simp only [Pj.puts, List.foldl_cons, List.foldl_nil, Act.put, List.setIfInBounds_toArray, List.set_cons_zero, List.set_cons_succ, e11, e14]
            refine Pj.oper_append_run _ _ 59 rfl rfl rfl HAPP.out ?_
            simp only [Act.put, List.setIfInBounds_toArray, List.set_cons_zero, List.set_cons_succ]
            exact hKq _ _ ⟨Pj.vset V 15 (.slice a' (k + 1) c'), by simp only [Pj.puts, List.foldl_cons, List.foldl_nil, Act.put, List.setIfInBounds_toArray, List.set_cons_zero, List.set_cons_succ, Pj.vset, Nat.reduceEqDiff, if_true, if_false, e11, e14], HJ.out.step 3 (by decide) rfl (by decide) rfl hopen rfl hL hdep hpv rfl⟩
          | 16, ho =>
            simp only [List.getElem?_toArray, List.getElem?_cons_zero, List.getElem?_cons_succ, Option.some.injEq] at ho
            have e3 : V 3 = .slice (some ⟨D, 0, none⟩) m c2 := hJ.h 3 (hdep 3 (by rw [← ho]; kernel_rfl)) (by decide)
            have e4 : V 4 = .int .i64 ((d : Nat) : Int) := hJ.h 4 (hdep 4 (by rw [← ho]; kernel_rfl)) (by decide)
            have HJ := Lib.hid hJ
            clear hJ
            subst ho
            refine Pj.Step.free rfl ?_
            simp only [Pj.puts, List.foldl_cons, List.foldl_nil, Act.put, List.setIfInBounds_toArray, List.set_cons_zero, List.set_cons_succ, e3, e4]
            go_simp
            exact hKq _ _ ⟨Pj.vset V 16 (.pointer (some ⟨D, d, none⟩)), by simp only [Pj.puts, List.foldl_cons, List.foldl_nil, Act.put, List.setIfInBounds_toArray, List.set_cons_zero, List.set_cons_succ, Pj.vset, Nat.reduceEqDiff, if_true, if_false, e3, e4], HJ.out.more (by decide) hL rfl⟩
          | 17, ho =>
            simp only [List.getElem?_toArray, List.getElem?_cons_zero, List.getElem?_cons_succ, Option.some.injEq] at ho
            have e16 : V 16 = .pointer (some ⟨D, d, none⟩) := hJ.h 16 (hdep 16 (by rw [← ho]; kernel_rfl)) (by decide)
            have e15 : V 15 = .slice a' (k + 1) c' := hJ.h 15 (hdep 15 (by rw [← ho]; kernel_rfl)) (by decide)
            have hpv : 4 = 0 ∨ L (([12, 13, 14, 15, 17] : List Nat).getD (4 - 1) 0) := .inr (hdep 15 (by rw [← ho]; kernel_rfl))
            obtain rfl : w9 = w := (hJ.at 4 (by decide) rfl hopen hpv).symm
            have HJ := Lib.hid hJ
            clear hJ
            subst ho
            refine Pj.Step.free rfl ?_
            simp only [Pj.puts, List.foldl_cons, List.foldl_nil, Act.put, List.setIfInBounds_toArray, List.set_cons_zero, List.set_cons_succ, e16, e15]
            go_simp
            exact hKq _ _ ⟨Pj.vset V 17 (undef), by simp only [Pj.puts, List.foldl_cons, List.foldl_nil, Act.put, List.setIfInBounds_toArray, List.set_cons_zero, List.set_cons_succ, Pj.vset, Nat.reduceEqDiff, if_false, e16, e15], HJ.out.step 4 (by decide) rfl (by decide) rfl hopen rfl hL hdep hpv rfl⟩
          | n + 18, ho => simp at ho
        case ehe =>
          intro V hv
          simp only [Pj.puts, List.foldl_cons, List.foldl_nil, Act.put, List.setIfInBounds_toArray, List.set_cons_zero, List.set_cons_succ]
          clear hv 
          show Exit.inBlock _ _ Exit.normal _ (w9.setCell ⟨D, d, none⟩ (.slice a' (k + 1) c'))
          generalize (w9.setCell ⟨D, d, none⟩ (.slice a' (k + 1) c')) = w5 at *
          go_wp2
          go_roundw
          case rel => exact ⟨k + 1, _, by omega, by go_num, HST.out⟩
          case measure => simp [intOf]; omega
      · obtain rfl : k = n := by omega
        have hd1 : decide ((k : Int) < k) = false := decide_eq_false (by omega)
        go_wp2
        go_end0
        exact ⟨rfl, cb, cb + 1, v, HI.out, by have := HI.out.lo.1; omega⟩
end Go.Proofs.Ytkfomaoillnehaa
