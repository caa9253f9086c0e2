/- Contracts laid together: what each says stands at its head (no conditions). -/
import Derived.Test.YtkfomaoillnehaaVa
import Derived.Test.YtkfomaoillnehaaVb
import Derived.Test.YtkfomaoillnehaaAl8
import Derived.Test.YtkfomaoillnehaaJp
import Derived.Test.YtkfomaoillnehaaRows
import Derived.SizedLaws
import Derived.Lib.SmallJoins
import Derived.Test.YtkfomaoillnehaaStrs
import Derived.Test.YtkfomaoillnehaaRes
import Derived.Deep.Slices
import Derived.Deep.Fields
import Derived.ChangeSame
import Derived.Test.YtkfomaoillnehaaAr16
namespace Go.Proofs.Ytkfomaoillnehaa
open Go.RowKit
attribute [local go_sem] Oper.semAt_some

theorem does_any {B : Nat} {W : World} {pa DA : Nat} {KA CA : Nat → Nat} {pr A D E : Nat} {KR CR : Nat → Nat} {S : Arr} {m n g : Nat} (h : Two B W pa DA KA CA pr A D E KR CR S S) (hi : InvA m n g S) (hg : g ≤ 1000) (hn1 : 1 ≤ n) (x : Ac) (al : Option Addr) (cl : Nat) (hx : AcOk W B x al cl) : Calls Try.prog 14 #[.pointer (some ⟨pa, 0, none⟩), .pointer (some ⟨pr, 0, none⟩), .agg (acC x al cl)] W (DoesP B W pa DA pr A D E m n g) := by
  have hw := wthn_lt x.k (show 0 < 15 by decide)
  have hr := does_read h hi hg hn1 x al cl hx
  have hwr := does_write h hi hg hn1 x al cl hx
  have hf := does_flush h hi hg hn1 x al cl hx
  have ho := does_off h hi hg hn1 x al cl hx
  have hc := does_crash h hi hg hn1 x al cl hx
  have hl := does_lose h hi hg hn1 x al cl hx
  have hp := does_repl h hi hg hn1 x al cl hx
  have ht := does_flip h hi hg hn1 x al cl hx
  generalize wthn x.k 15 = z at *
  rcases show z = 0 ∨ z = 1 ∨ z = 2 ∨ z = 3 ∨ z = 4 ∨ z = 5 ∨ z = 6 ∨ z = 7 ∨ z = 8 ∨ z = 9 ∨ z = 10 ∨ z = 11 ∨ z = 12 ∨ z = 13 ∨ z = 14 by omega with e | e | e | e | e | e | e | e | e | e | e | e | e | e | e
  · exact hr (by simp [e])
  · exact hr (by simp [e])
  · exact hr (by simp [e])
  · exact hwr (by simp [e])
  · exact hwr (by simp [e])
  · exact hwr (by simp [e])
  · exact hwr (by simp [e])
  · exact hf (by simp [e])
  · exact hf (by simp [e])
  · exact ho (by simp [e])
  · exact hc (by simp [e])
  · exact hc (by simp [e])
  · exact hl (by simp [e])
  · exact hp (by simp [e])
  · exact ht (by simp [e])
end Go.Proofs.Ytkfomaoillnehaa

namespace Go.Proofs.Ytkfomaoillnehaa
open Go.RowKit
attribute [local go_sem] Oper.semAt_some

set_option maxRecDepth 100000 in
set_option maxHeartbeats 4000000 in
theorem holds_any {B : Nat} {W : World} {pa DA : Nat} {KA CA : Nat → Nat} {pr A D E : Nat} {KR CR : Nat → Nat} {S : Arr} (h : Two B W pa DA KA CA pr A D E KR CR S S) : Calls Try.prog 15 #[.pointer (some ⟨pa, 0, none⟩), .pointer (some ⟨pr, 0, none⟩)] W fun e w' => e = .returned (.bool true) ∧ Kept W w' := by
  have HT := Lib.hid h
  have hm2 := h.a.m2
  have HB := Lib.hid (show ∀ w, Kept W w → w.cell? ⟨pr, 0, none⟩ = some (.int .i64 S.m) ∧ w.cell? ⟨pr, 1, none⟩ = some (.int .i64 S.n) ∧ w.cell? ⟨pr, 6, none⟩ = some (.int .i64 S.g) from fun w k => by
    obtain ⟨a1, a2, a3, ht⟩ := h.r.top
    obtain ⟨b0, b1, b2, b3, b4, b5, b6⟩ := box7r (ht.kept k)
    exact ⟨b0, b1, b6⟩)
  clear h
  go_enter Try.func15, Try.ntmps15
  go_wp2_with fail
  go_loopw [5] (fun i wr => ∃ z : Int, -1 ≤ z ∧ z ≤ S.m + 1 ∧ i = .int .i64 z ∧ Kept W wr) (fun i _ => (S.m + 1 - intOf i).toNat)
  case atStart => exact ⟨-1, by omega, by omega, rfl, Kept.refl _⟩
  case round =>
    obtain ⟨z, hz1, hz2, rfl, hK⟩ := hrel
    have HK := Lib.hid hK
    have HT2 := Lib.hid (HT.out.kept hK)
    clear hK
    obtain ⟨b0, b1, b6⟩ := HB.out wr HK.out
    by_cases hlt : z ≤ S.m
    · have hd1 : decide (z ≤ (S.m : Int)) = true := decide_eq_true hlt
      go_wp2_with fail
      refine (live_arr HT2.out.a z).mono ?_
      rintro e w3 ⟨rfl, hk3⟩
      have HK3 := Lib.hid (HK.out.trans hk3)
      have HT3 := Lib.hid (HT2.out.kept hk3)
      clear hk3 b0 b1 b6
      go_wp2_with fail
      refine (is_ar HT3.out.r z).mono ?_
      rintro e w4 ⟨rfl, hk4⟩
      have HK4 := Lib.hid (HK3.out.trans hk4)
      have hbn : (liveA S z != liveA S z) = false := by simp
      generalize liveA S z = lv at *
      clear hk4
      go_wp2
      go_roundw
      case rel => exact ⟨z + 1, by omega, by omega, by go_num, HK4.out⟩
      case measure => simp [intOf]; omega
    · have hd1 : decide (z ≤ (S.m : Int)) = false := decide_eq_false hlt
      go_upto_region 6 with (fail)
      clear b0 b1 b6 hd1 hlt
      have HRD := Lib.hid (show ∀ m, m ≤ 13 → ∀ w9, (fun mq9 w9 => ([Kept wr, Kept wr, Kept wr, Kept wr, Kept wr, Kept wr, Kept wr, Kept wr, Kept wr, Kept wr, Kept wr, Kept wr, Kept wr, Kept wr] : List (World → Prop)).getD mq9 (fun _ => True) w9) m w9 → (fun W : World => Kept wr W) w9 from by
        intro mq9 hmq9 w9 hp9
        match mq9, hmq9, hp9 with
        | 0, _, hp9 => exact hp9
        | 1, _, hp9 => exact hp9
        | 2, _, hp9 => exact hp9
        | 3, _, hp9 => exact hp9
        | 4, _, hp9 => exact hp9
        | 5, _, hp9 => exact hp9
        | 6, _, hp9 => exact hp9
        | 7, _, hp9 => exact hp9
        | 8, _, hp9 => exact hp9
        | 9, _, hp9 => exact hp9
        | 10, _, hp9 => exact hp9
        | 11, _, hp9 => exact hp9
        | 12, _, hp9 => exact hp9
        | 13, _, hp9 => exact hp9
        | mq9 + 14, h, _ => omega)
      refine Pj.wp_region_jp [(21, 0), (22, 1), (23, 2), (24, 3), (25, 4), (26, 5), (27, 6), (28, 7), (29, 8), (30, 9), (31, 10), (32, 11), (33, 12), (34, 13), (35, 14), (36, 15), (37, 16), (38, 17), (39, 18), (40, 19), (41, 20), (42, 21), (43, 22), (44, 23), (45, 24), (46, 25), (47, 26), (48, 27), (49, 28), (50, 29), (51, 30), (52, 31), (4, 32)] (fun j => ([.pointer (some ⟨pa, 0, none⟩), .int .i64 S.m, .pointer (some ⟨pr, 0, none⟩), .pointer (some ⟨pr, 0, none⟩), .pointer (some ⟨pr, 0, none⟩), .int .i64 S.m, .bool true, .bool true, .pointer (some ⟨pa, 0, none⟩), .int .i64 S.n, .pointer (some ⟨pr, 0, none⟩), .pointer (some ⟨pr, 0, none⟩), .pointer (some ⟨pr, 1, none⟩), .int .i64 S.n, .bool true, .bool true, .bool true, .pointer (some ⟨pa, 0, none⟩), .int .i64 S.g, .pointer (some ⟨pr, 0, none⟩), .pointer (some ⟨pr, 0, none⟩), .pointer (some ⟨pr, 6, none⟩), .int .i64 S.g, .bool true, .bool true, .bool true, .pointer (some ⟨pa, 0, none⟩), .int .i64 ((dirtyA S : Nat) : Int), .pointer (some ⟨pr, 0, none⟩), .int .i64 ((dirtyA S : Nat) : Int), .bool true, .bool true, .bool true] : List Value).getD j undef) [1, 6, 7, 9, 14, 15, 16, 18, 23, 24, 25, 27, 29] (fun mq9 w9 => ([Kept wr, Kept wr, Kept wr, Kept wr, Kept wr, Kept wr, Kept wr, Kept wr, Kept wr, Kept wr, Kept wr, Kept wr, Kept wr, Kept wr] : List (World → Prop)).getD mq9 (fun _ => True) w9) (by as_aux_lemma => kernel_rfl) (by as_aux_lemma => kernel_rfl) (by decide) ((Kept.refl wr).drew) ?eh0 ?ehs ?ehe
      case eh0 => exact ⟨_, Pj.puts_self _ (fun j => ([21, 22, 23, 24, 25, 26, 27, 28, 29, 30, 31, 32, 33, 34, 35, 36, 37, 38, 39, 40, 41, 42, 43, 44, 45, 46, 47, 48, 49, 50, 51, 52, 4] : List Nat).getD j 0) [0, 1, 2, 3, 4, 5, 6, 7, 8, 9, 10, 11, 12, 13, 14, 15, 16, 17, 18, 19, 20, 21, 22, 23, 24, 25, 26, 27, 28, 29, 30, 31, 32]⟩
      case ehs =>
        intro L L' V w iz opz Kq hJ ho hopen hdep hL hKq
        match iz, ho with
        | 0, ho =>
          simp only [List.getElem?_toArray, List.getElem?_cons_zero, Option.some.injEq] at ho
          have HJ := Lib.hid hJ
          clear hJ
          subst ho
          refine Pj.Step.free rfl ?_
          simp only [Pj.puts, List.foldl_cons, List.foldl_nil, Act.put, List.setIfInBounds_toArray, List.set_cons_zero, List.set_cons_succ]
          go_simp
          exact hKq _ _ ⟨Pj.vset V 0 (.pointer (some ⟨pa, 0, none⟩)), by simp only [Pj.puts, List.foldl_cons, List.foldl_nil, Act.put, List.setIfInBounds_toArray, List.set_cons_zero, List.set_cons_succ, Pj.vset, Nat.reduceEqDiff, if_true, if_false], HJ.out.more (by decide) hL rfl⟩
        | 1, ho =>
          simp only [List.getElem?_toArray, List.getElem?_cons_zero, List.getElem?_cons_succ, Option.some.injEq] at ho
          have e0 : V 0 = .pointer (some ⟨pa, 0, none⟩) := hJ.h 0 (hdep 0 (by rw [← ho]; kernel_rfl)) (by decide)
          have hpv : 0 = 0 ∨ L (([1, 6, 7, 9, 14, 15, 16, 18, 23, 24, 25, 27, 29] : List Nat).getD (0 - 1) 0) := .inl rfl
          have hph : (Kept wr) w := hJ.at 0 (by decide) rfl hopen hpv
          have HJ := Lib.hid hJ
          clear hJ
          subst ho
          refine Pj.Step.free rfl ?_
          simp only [Pj.puts, List.foldl_cons, List.foldl_nil, Act.put, List.setIfInBounds_toArray, List.set_cons_zero, List.set_cons_succ, e0]
          go_simp
          refine (disks_any (HT.out.a.kept (HK.out.trans hph))).mono ?_
          rintro e w' ⟨rfl, hkw⟩
          have hw' := Kept.trans hph hkw
          exact hKq _ _ ⟨Pj.vset V 1 (.int .i64 S.m), by simp only [Pj.puts, List.foldl_cons, List.foldl_nil, Act.put, List.setIfInBounds_toArray, List.set_cons_zero, List.set_cons_succ, Pj.vset, Nat.reduceEqDiff, if_true, if_false, e0], HJ.out.step 0 (by decide) rfl (by decide) hopen hL hpv rfl hw'⟩
        | 2, ho =>
          simp only [List.getElem?_toArray, List.getElem?_cons_zero, List.getElem?_cons_succ, Option.some.injEq] at ho
          have HJ := Lib.hid hJ
          clear hJ
          subst ho
          refine Pj.Step.free rfl ?_
          simp only [Pj.puts, List.foldl_cons, List.foldl_nil, Act.put, List.setIfInBounds_toArray, List.set_cons_zero, List.set_cons_succ]
          go_simp
          exact hKq _ _ ⟨Pj.vset V 2 (.pointer (some ⟨pr, 0, none⟩)), by simp only [Pj.puts, List.foldl_cons, List.foldl_nil, Act.put, List.setIfInBounds_toArray, List.set_cons_zero, List.set_cons_succ, Pj.vset, Nat.reduceEqDiff, if_true, if_false], HJ.out.more (by decide) hL rfl⟩
        | 3, ho =>
          simp only [List.getElem?_toArray, List.getElem?_cons_zero, List.getElem?_cons_succ, Option.some.injEq] at ho
          have e2 : V 2 = .pointer (some ⟨pr, 0, none⟩) := hJ.h 2 (hdep 2 (by rw [← ho]; kernel_rfl)) (by decide)
          have HJ := Lib.hid hJ
          clear hJ
          subst ho
          refine Pj.Step.free rfl ?_
          simp only [Pj.puts, List.foldl_cons, List.foldl_nil, Act.put, List.setIfInBounds_toArray, List.set_cons_zero, List.set_cons_succ, e2]
          go_simp
          exact hKq _ _ ⟨Pj.vset V 3 (.pointer (some ⟨pr, 0, none⟩)), by simp only [Pj.puts, List.foldl_cons, List.foldl_nil, Act.put, List.setIfInBounds_toArray, List.set_cons_zero, List.set_cons_succ, Pj.vset, Nat.reduceEqDiff, if_true, if_false, e2], HJ.out.more (by decide) hL rfl⟩
        | 4, ho =>
          simp only [List.getElem?_toArray, List.getElem?_cons_zero, List.getElem?_cons_succ, Option.some.injEq] at ho
          have e3 : V 3 = .pointer (some ⟨pr, 0, none⟩) := hJ.h 3 (hdep 3 (by rw [← ho]; kernel_rfl)) (by decide)
          have HJ := Lib.hid hJ
          clear hJ
          subst ho
          refine Pj.Step.free rfl ?_
          simp only [Pj.puts, List.foldl_cons, List.foldl_nil, Act.put, List.setIfInBounds_toArray, List.set_cons_zero, List.set_cons_succ, e3]
          go_simp
          exact hKq _ _ ⟨Pj.vset V 4 (.pointer (some ⟨pr, 0, none⟩)), by simp only [Pj.puts, List.foldl_cons, List.foldl_nil, Act.put, List.setIfInBounds_toArray, List.set_cons_zero, List.set_cons_succ, Pj.vset, Nat.reduceEqDiff, if_true, if_false, e3], HJ.out.more (by decide) hL rfl⟩
        | 5, ho =>
          simp only [List.getElem?_toArray, List.getElem?_cons_zero, List.getElem?_cons_succ, Option.some.injEq] at ho
          have e4 : V 4 = .pointer (some ⟨pr, 0, none⟩) := hJ.h 4 (hdep 4 (by rw [← ho]; kernel_rfl)) (by decide)
          have hr : (fun W : World => Kept wr W) w := hJ.rd (R := fun W => Kept wr W) HRD.out
          obtain ⟨b0, b1, b6⟩ := HB.out w (HK.out.trans hr)
          have HJ := Lib.hid hJ
          clear hJ
          subst ho
          refine Pj.Step.free rfl ?_
          simp only [Pj.puts, List.foldl_cons, List.foldl_nil, Act.put, List.setIfInBounds_toArray, List.set_cons_zero, List.set_cons_succ, e4]
          go_simp
          exact hKq _ _ ⟨Pj.vset V 5 (.int .i64 S.m), by simp only [Pj.puts, List.foldl_cons, List.foldl_nil, Act.put, List.setIfInBounds_toArray, List.set_cons_zero, List.set_cons_succ, Pj.vset, Nat.reduceEqDiff, if_true, if_false, e4], HJ.out.more (by decide) hL rfl⟩
        | 6, ho =>
          simp only [List.getElem?_toArray, List.getElem?_cons_zero, List.getElem?_cons_succ, Option.some.injEq] at ho
          have e1 : V 1 = .int .i64 S.m := hJ.h 1 (hdep 1 (by rw [← ho]; kernel_rfl)) (by decide)
          have e5 : V 5 = .int .i64 S.m := hJ.h 5 (hdep 5 (by rw [← ho]; kernel_rfl)) (by decide)
          have hpv : 1 = 0 ∨ L (([1, 6, 7, 9, 14, 15, 16, 18, 23, 24, 25, 27, 29] : List Nat).getD (1 - 1) 0) := .inr (hdep 1 (by rw [← ho]; kernel_rfl))
          have hph : (Kept wr) w := hJ.at 1 (by decide) rfl hopen hpv
          have HJ := Lib.hid hJ
          clear hJ
          subst ho
          refine Pj.Step.free rfl ?_
          simp only [Pj.puts, List.foldl_cons, List.foldl_nil, Act.put, List.setIfInBounds_toArray, List.set_cons_zero, List.set_cons_succ, e1, e5]
          go_simp
          have hw' := hph
          exact hKq _ _ ⟨Pj.vset V 6 (.bool true), by simp only [Pj.puts, List.foldl_cons, List.foldl_nil, Act.put, List.setIfInBounds_toArray, List.set_cons_zero, List.set_cons_succ, Pj.vset, Nat.reduceEqDiff, if_true, if_false, e1, e5], HJ.out.step 1 (by decide) rfl (by decide) hopen hL hpv rfl hw'⟩
        | 7, ho =>
          simp only [List.getElem?_toArray, List.getElem?_cons_zero, List.getElem?_cons_succ, Option.some.injEq] at ho
          have e6 : V 6 = .bool true := hJ.h 6 (hdep 6 (by rw [← ho]; kernel_rfl)) (by decide)
          have hpv : 2 = 0 ∨ L (([1, 6, 7, 9, 14, 15, 16, 18, 23, 24, 25, 27, 29] : List Nat).getD (2 - 1) 0) := .inr (hdep 6 (by rw [← ho]; kernel_rfl))
          have hph : (Kept wr) w := hJ.at 2 (by decide) rfl hopen hpv
          have HJ := Lib.hid hJ
          clear hJ
          subst ho
          refine Pj.Step.free rfl ?_
          simp only [Pj.puts, List.foldl_cons, List.foldl_nil, Act.put, List.setIfInBounds_toArray, List.set_cons_zero, List.set_cons_succ, e6]
          go_simp
          have hw' := hph
          exact hKq _ _ ⟨Pj.vset V 7 (.bool true), by simp only [Pj.puts, List.foldl_cons, List.foldl_nil, Act.put, List.setIfInBounds_toArray, List.set_cons_zero, List.set_cons_succ, Pj.vset, Nat.reduceEqDiff, if_true, if_false, e6], HJ.out.step 2 (by decide) rfl (by decide) hopen hL hpv rfl hw'⟩
        | 8, ho =>
          simp only [List.getElem?_toArray, List.getElem?_cons_zero, List.getElem?_cons_succ, Option.some.injEq] at ho
          have e7 : V 7 = .bool true := hJ.h 7 (hdep 7 (by rw [← ho]; kernel_rfl)) (by decide)
          have HJ := Lib.hid hJ
          clear hJ
          subst ho
          refine Pj.Step.at (g := 7) (b := true) rfl ?hy ?_
          case hy =>
            simp only [Pj.puts, List.foldl_cons, List.foldl_nil, Act.put, List.setIfInBounds_toArray, List.set_cons_zero, List.set_cons_succ, e7]
            rfl
          simp only [Pj.puts, List.foldl_cons, List.foldl_nil, Act.put, List.setIfInBounds_toArray, List.set_cons_zero, List.set_cons_succ, e7]
          go_simp
          exact hKq _ _ ⟨Pj.vset V 8 (.pointer (some ⟨pa, 0, none⟩)), by simp only [Pj.puts, List.foldl_cons, List.foldl_nil, Act.put, List.setIfInBounds_toArray, List.set_cons_zero, List.set_cons_succ, Pj.vset, Nat.reduceEqDiff, if_true, if_false, e7], HJ.out.more (by decide) hL rfl⟩
        | 9, ho =>
          simp only [List.getElem?_toArray, List.getElem?_cons_zero, List.getElem?_cons_succ, Option.some.injEq] at ho
          have e8 : V 8 = .pointer (some ⟨pa, 0, none⟩) := hJ.h 8 (hdep 8 (by rw [← ho]; kernel_rfl)) (by decide)
          have e7 : V 7 = .bool true := hJ.h 7 (hdep 7 (by rw [← ho]; kernel_rfl)) (by decide)
          have hpv : 3 = 0 ∨ L (([1, 6, 7, 9, 14, 15, 16, 18, 23, 24, 25, 27, 29] : List Nat).getD (3 - 1) 0) := .inr (hdep 7 (by rw [← ho]; kernel_rfl))
          have hph : (Kept wr) w := hJ.at 3 (by decide) rfl hopen hpv
          have HJ := Lib.hid hJ
          clear hJ
          subst ho
          refine Pj.Step.at (g := 7) (b := true) rfl ?hy ?_
          case hy =>
            simp only [Pj.puts, List.foldl_cons, List.foldl_nil, Act.put, List.setIfInBounds_toArray, List.set_cons_zero, List.set_cons_succ, e8, e7]
            rfl
          simp only [Pj.puts, List.foldl_cons, List.foldl_nil, Act.put, List.setIfInBounds_toArray, List.set_cons_zero, List.set_cons_succ, e8, e7]
          go_simp
          refine (sectors_any (HT.out.a.kept (HK.out.trans hph))).mono ?_
          rintro e w' ⟨rfl, hkw⟩
          have hw' := Kept.trans hph hkw
          exact hKq _ _ ⟨Pj.vset V 9 (.int .i64 S.n), by simp only [Pj.puts, List.foldl_cons, List.foldl_nil, Act.put, List.setIfInBounds_toArray, List.set_cons_zero, List.set_cons_succ, Pj.vset, Nat.reduceEqDiff, if_true, if_false, e8, e7], HJ.out.step 3 (by decide) rfl (by decide) hopen hL hpv rfl hw'⟩
        | 10, ho =>
          simp only [List.getElem?_toArray, List.getElem?_cons_zero, List.getElem?_cons_succ, Option.some.injEq] at ho
          have e7 : V 7 = .bool true := hJ.h 7 (hdep 7 (by rw [← ho]; kernel_rfl)) (by decide)
          have HJ := Lib.hid hJ
          clear hJ
          subst ho
          refine Pj.Step.at (g := 7) (b := true) rfl ?hy ?_
          case hy =>
            simp only [Pj.puts, List.foldl_cons, List.foldl_nil, Act.put, List.setIfInBounds_toArray, List.set_cons_zero, List.set_cons_succ, e7]
            rfl
          simp only [Pj.puts, List.foldl_cons, List.foldl_nil, Act.put, List.setIfInBounds_toArray, List.set_cons_zero, List.set_cons_succ, e7]
          go_simp
          exact hKq _ _ ⟨Pj.vset V 10 (.pointer (some ⟨pr, 0, none⟩)), by simp only [Pj.puts, List.foldl_cons, List.foldl_nil, Act.put, List.setIfInBounds_toArray, List.set_cons_zero, List.set_cons_succ, Pj.vset, Nat.reduceEqDiff, if_true, if_false, e7], HJ.out.more (by decide) hL rfl⟩
        | 11, ho =>
          simp only [List.getElem?_toArray, List.getElem?_cons_zero, List.getElem?_cons_succ, Option.some.injEq] at ho
          have e10 : V 10 = .pointer (some ⟨pr, 0, none⟩) := hJ.h 10 (hdep 10 (by rw [← ho]; kernel_rfl)) (by decide)
          have e7 : V 7 = .bool true := hJ.h 7 (hdep 7 (by rw [← ho]; kernel_rfl)) (by decide)
          have HJ := Lib.hid hJ
          clear hJ
          subst ho
          refine Pj.Step.at (g := 7) (b := true) rfl ?hy ?_
          case hy =>
            simp only [Pj.puts, List.foldl_cons, List.foldl_nil, Act.put, List.setIfInBounds_toArray, List.set_cons_zero, List.set_cons_succ, e10, e7]
            rfl
          simp only [Pj.puts, List.foldl_cons, List.foldl_nil, Act.put, List.setIfInBounds_toArray, List.set_cons_zero, List.set_cons_succ, e10, e7]
          go_simp
          exact hKq _ _ ⟨Pj.vset V 11 (.pointer (some ⟨pr, 0, none⟩)), by simp only [Pj.puts, List.foldl_cons, List.foldl_nil, Act.put, List.setIfInBounds_toArray, List.set_cons_zero, List.set_cons_succ, Pj.vset, Nat.reduceEqDiff, if_true, if_false, e10, e7], HJ.out.more (by decide) hL rfl⟩
        | 12, ho =>
          simp only [List.getElem?_toArray, List.getElem?_cons_zero, List.getElem?_cons_succ, Option.some.injEq] at ho
          have e11 : V 11 = .pointer (some ⟨pr, 0, none⟩) := hJ.h 11 (hdep 11 (by rw [← ho]; kernel_rfl)) (by decide)
          have e7 : V 7 = .bool true := hJ.h 7 (hdep 7 (by rw [← ho]; kernel_rfl)) (by decide)
          have HJ := Lib.hid hJ
          clear hJ
          subst ho
          refine Pj.Step.at (g := 7) (b := true) rfl ?hy ?_
          case hy =>
            simp only [Pj.puts, List.foldl_cons, List.foldl_nil, Act.put, List.setIfInBounds_toArray, List.set_cons_zero, List.set_cons_succ, e11, e7]
            rfl
          simp only [Pj.puts, List.foldl_cons, List.foldl_nil, Act.put, List.setIfInBounds_toArray, List.set_cons_zero, List.set_cons_succ, e11, e7]
          go_simp
          exact hKq _ _ ⟨Pj.vset V 12 (.pointer (some ⟨pr, 1, none⟩)), by simp only [Pj.puts, List.foldl_cons, List.foldl_nil, Act.put, List.setIfInBounds_toArray, List.set_cons_zero, List.set_cons_succ, Pj.vset, Nat.reduceEqDiff, if_true, if_false, e11, e7], HJ.out.more (by decide) hL rfl⟩
        | 13, ho =>
          simp only [List.getElem?_toArray, List.getElem?_cons_zero, List.getElem?_cons_succ, Option.some.injEq] at ho
          have e12 : V 12 = .pointer (some ⟨pr, 1, none⟩) := hJ.h 12 (hdep 12 (by rw [← ho]; kernel_rfl)) (by decide)
          have e7 : V 7 = .bool true := hJ.h 7 (hdep 7 (by rw [← ho]; kernel_rfl)) (by decide)
          have hr : (fun W : World => Kept wr W) w := hJ.rd (R := fun W => Kept wr W) HRD.out
          obtain ⟨b0, b1, b6⟩ := HB.out w (HK.out.trans hr)
          have HJ := Lib.hid hJ
          clear hJ
          subst ho
          refine Pj.Step.at (g := 7) (b := true) rfl ?hy ?_
          case hy =>
            simp only [Pj.puts, List.foldl_cons, List.foldl_nil, Act.put, List.setIfInBounds_toArray, List.set_cons_zero, List.set_cons_succ, e12, e7]
            rfl
          simp only [Pj.puts, List.foldl_cons, List.foldl_nil, Act.put, List.setIfInBounds_toArray, List.set_cons_zero, List.set_cons_succ, e12, e7]
          go_simp
          exact hKq _ _ ⟨Pj.vset V 13 (.int .i64 S.n), by simp only [Pj.puts, List.foldl_cons, List.foldl_nil, Act.put, List.setIfInBounds_toArray, List.set_cons_zero, List.set_cons_succ, Pj.vset, Nat.reduceEqDiff, if_true, if_false, e12, e7], HJ.out.more (by decide) hL rfl⟩
        | 14, ho =>
          simp only [List.getElem?_toArray, List.getElem?_cons_zero, List.getElem?_cons_succ, Option.some.injEq] at ho
          have e9 : V 9 = .int .i64 S.n := hJ.h 9 (hdep 9 (by rw [← ho]; kernel_rfl)) (by decide)
          have e13 : V 13 = .int .i64 S.n := hJ.h 13 (hdep 13 (by rw [← ho]; kernel_rfl)) (by decide)
          have e7 : V 7 = .bool true := hJ.h 7 (hdep 7 (by rw [← ho]; kernel_rfl)) (by decide)
          have hpv : 4 = 0 ∨ L (([1, 6, 7, 9, 14, 15, 16, 18, 23, 24, 25, 27, 29] : List Nat).getD (4 - 1) 0) := .inr (hdep 9 (by rw [← ho]; kernel_rfl))
          have hph : (Kept wr) w := hJ.at 4 (by decide) rfl hopen hpv
          have HJ := Lib.hid hJ
          clear hJ
          subst ho
          refine Pj.Step.at (g := 7) (b := true) rfl ?hy ?_
          case hy =>
            simp only [Pj.puts, List.foldl_cons, List.foldl_nil, Act.put, List.setIfInBounds_toArray, List.set_cons_zero, List.set_cons_succ, e9, e13, e7]
            rfl
          simp only [Pj.puts, List.foldl_cons, List.foldl_nil, Act.put, List.setIfInBounds_toArray, List.set_cons_zero, List.set_cons_succ, e9, e13, e7]
          go_simp
          have hw' := hph
          exact hKq _ _ ⟨Pj.vset V 14 (.bool true), by simp only [Pj.puts, List.foldl_cons, List.foldl_nil, Act.put, List.setIfInBounds_toArray, List.set_cons_zero, List.set_cons_succ, Pj.vset, Nat.reduceEqDiff, if_true, if_false, e9, e13, e7], HJ.out.step 4 (by decide) rfl (by decide) hopen hL hpv rfl hw'⟩
        | 15, ho =>
          simp only [List.getElem?_toArray, List.getElem?_cons_zero, List.getElem?_cons_succ, Option.some.injEq] at ho
          have e7 : V 7 = .bool true := hJ.h 7 (hdep 7 (by rw [← ho]; kernel_rfl)) (by decide)
          have e14 : V 14 = .bool true := hJ.h 14 (hdep 14 (by rw [← ho]; kernel_rfl)) (by decide)
          have hpv : 5 = 0 ∨ L (([1, 6, 7, 9, 14, 15, 16, 18, 23, 24, 25, 27, 29] : List Nat).getD (5 - 1) 0) := .inr (hdep 14 (by rw [← ho]; kernel_rfl))
          have hph : (Kept wr) w := hJ.at 5 (by decide) rfl hopen hpv
          have HJ := Lib.hid hJ
          clear hJ
          subst ho
          refine Pj.Step.free rfl ?_
          simp only [Pj.puts, List.foldl_cons, List.foldl_nil, Act.put, List.setIfInBounds_toArray, List.set_cons_zero, List.set_cons_succ, e7, e14]
          go_simp
          have hw' := hph
          exact hKq _ _ ⟨Pj.vset V 15 (.bool true), by simp only [Pj.puts, List.foldl_cons, List.foldl_nil, Act.put, List.setIfInBounds_toArray, List.set_cons_zero, List.set_cons_succ, Pj.vset, Nat.reduceEqDiff, if_true, if_false, e7, e14], HJ.out.step 5 (by decide) rfl (by decide) hopen hL hpv rfl hw'⟩
        | 16, ho =>
          simp only [List.getElem?_toArray, List.getElem?_cons_zero, List.getElem?_cons_succ, Option.some.injEq] at ho
          have e15 : V 15 = .bool true := hJ.h 15 (hdep 15 (by rw [← ho]; kernel_rfl)) (by decide)
          have hpv : 6 = 0 ∨ L (([1, 6, 7, 9, 14, 15, 16, 18, 23, 24, 25, 27, 29] : List Nat).getD (6 - 1) 0) := .inr (hdep 15 (by rw [← ho]; kernel_rfl))
          have hph : (Kept wr) w := hJ.at 6 (by decide) rfl hopen hpv
          have HJ := Lib.hid hJ
          clear hJ
          subst ho
          refine Pj.Step.free rfl ?_
          simp only [Pj.puts, List.foldl_cons, List.foldl_nil, Act.put, List.setIfInBounds_toArray, List.set_cons_zero, List.set_cons_succ, e15]
          go_simp
          have hw' := hph
          exact hKq _ _ ⟨Pj.vset V 16 (.bool true), by simp only [Pj.puts, List.foldl_cons, List.foldl_nil, Act.put, List.setIfInBounds_toArray, List.set_cons_zero, List.set_cons_succ, Pj.vset, Nat.reduceEqDiff, if_true, if_false, e15], HJ.out.step 6 (by decide) rfl (by decide) hopen hL hpv rfl hw'⟩
        | 17, ho =>
          simp only [List.getElem?_toArray, List.getElem?_cons_zero, List.getElem?_cons_succ, Option.some.injEq] at ho
          have e16 : V 16 = .bool true := hJ.h 16 (hdep 16 (by rw [← ho]; kernel_rfl)) (by decide)
          have HJ := Lib.hid hJ
          clear hJ
          subst ho
          refine Pj.Step.at (g := 16) (b := true) rfl ?hy ?_
          case hy =>
            simp only [Pj.puts, List.foldl_cons, List.foldl_nil, Act.put, List.setIfInBounds_toArray, List.set_cons_zero, List.set_cons_succ, e16]
            rfl
          simp only [Pj.puts, List.foldl_cons, List.foldl_nil, Act.put, List.setIfInBounds_toArray, List.set_cons_zero, List.set_cons_succ, e16]
          go_simp
          exact hKq _ _ ⟨Pj.vset V 17 (.pointer (some ⟨pa, 0, none⟩)), by simp only [Pj.puts, List.foldl_cons, List.foldl_nil, Act.put, List.setIfInBounds_toArray, List.set_cons_zero, List.set_cons_succ, Pj.vset, Nat.reduceEqDiff, if_true, if_false, e16], HJ.out.more (by decide) hL rfl⟩
        | 18, ho =>
          simp only [List.getElem?_toArray, List.getElem?_cons_zero, List.getElem?_cons_succ, Option.some.injEq] at ho
          have e17 : V 17 = .pointer (some ⟨pa, 0, none⟩) := hJ.h 17 (hdep 17 (by rw [← ho]; kernel_rfl)) (by decide)
          have e16 : V 16 = .bool true := hJ.h 16 (hdep 16 (by rw [← ho]; kernel_rfl)) (by decide)
          have hpv : 7 = 0 ∨ L (([1, 6, 7, 9, 14, 15, 16, 18, 23, 24, 25, 27, 29] : List Nat).getD (7 - 1) 0) := .inr (hdep 16 (by rw [← ho]; kernel_rfl))
          have hph : (Kept wr) w := hJ.at 7 (by decide) rfl hopen hpv
          have HJ := Lib.hid hJ
          clear hJ
          subst ho
          refine Pj.Step.at (g := 16) (b := true) rfl ?hy ?_
          case hy =>
            simp only [Pj.puts, List.foldl_cons, List.foldl_nil, Act.put, List.setIfInBounds_toArray, List.set_cons_zero, List.set_cons_succ, e17, e16]
            rfl
          simp only [Pj.puts, List.foldl_cons, List.foldl_nil, Act.put, List.setIfInBounds_toArray, List.set_cons_zero, List.set_cons_succ, e17, e16]
          go_simp
          refine (changes_any (HT.out.a.kept (HK.out.trans hph))).mono ?_
          rintro e w' ⟨rfl, hkw⟩
          have hw' := Kept.trans hph hkw
          exact hKq _ _ ⟨Pj.vset V 18 (.int .i64 S.g), by simp only [Pj.puts, List.foldl_cons, List.foldl_nil, Act.put, List.setIfInBounds_toArray, List.set_cons_zero, List.set_cons_succ, Pj.vset, Nat.reduceEqDiff, if_true, if_false, e17, e16], HJ.out.step 7 (by decide) rfl (by decide) hopen hL hpv rfl hw'⟩
        | 19, ho =>
          simp only [List.getElem?_toArray, List.getElem?_cons_zero, List.getElem?_cons_succ, Option.some.injEq] at ho
          have e16 : V 16 = .bool true := hJ.h 16 (hdep 16 (by rw [← ho]; kernel_rfl)) (by decide)
          have HJ := Lib.hid hJ
          clear hJ
          subst ho
          refine Pj.Step.at (g := 16) (b := true) rfl ?hy ?_
          case hy =>
            simp only [Pj.puts, List.foldl_cons, List.foldl_nil, Act.put, List.setIfInBounds_toArray, List.set_cons_zero, List.set_cons_succ, e16]
            rfl
          simp only [Pj.puts, List.foldl_cons, List.foldl_nil, Act.put, List.setIfInBounds_toArray, List.set_cons_zero, List.set_cons_succ, e16]
          go_simp
          exact hKq _ _ ⟨Pj.vset V 19 (.pointer (some ⟨pr, 0, none⟩)), by simp only [Pj.puts, List.foldl_cons, List.foldl_nil, Act.put, List.setIfInBounds_toArray, List.set_cons_zero, List.set_cons_succ, Pj.vset, Nat.reduceEqDiff, if_true, if_false, e16], HJ.out.more (by decide) hL rfl⟩
        | 20, ho =>
          simp only [List.getElem?_toArray, List.getElem?_cons_zero, List.getElem?_cons_succ, Option.some.injEq] at ho
          have e19 : V 19 = .pointer (some ⟨pr, 0, none⟩) := hJ.h 19 (hdep 19 (by rw [← ho]; kernel_rfl)) (by decide)
          have e16 : V 16 = .bool true := hJ.h 16 (hdep 16 (by rw [← ho]; kernel_rfl)) (by decide)
          have HJ := Lib.hid hJ
          clear hJ
          subst ho
          refine Pj.Step.at (g := 16) (b := true) rfl ?hy ?_
          case hy =>
            simp only [Pj.puts, List.foldl_cons, List.foldl_nil, Act.put, List.setIfInBounds_toArray, List.set_cons_zero, List.set_cons_succ, e19, e16]
            rfl
          simp only [Pj.puts, List.foldl_cons, List.foldl_nil, Act.put, List.setIfInBounds_toArray, List.set_cons_zero, List.set_cons_succ, e19, e16]
          go_simp
          exact hKq _ _ ⟨Pj.vset V 20 (.pointer (some ⟨pr, 0, none⟩)), by simp only [Pj.puts, List.foldl_cons, List.foldl_nil, Act.put, List.setIfInBounds_toArray, List.set_cons_zero, List.set_cons_succ, Pj.vset, Nat.reduceEqDiff, if_true, if_false, e19, e16], HJ.out.more (by decide) hL rfl⟩
        | 21, ho =>
          simp only [List.getElem?_toArray, List.getElem?_cons_zero, List.getElem?_cons_succ, Option.some.injEq] at ho
          have e20 : V 20 = .pointer (some ⟨pr, 0, none⟩) := hJ.h 20 (hdep 20 (by rw [← ho]; kernel_rfl)) (by decide)
          have e16 : V 16 = .bool true := hJ.h 16 (hdep 16 (by rw [← ho]; kernel_rfl)) (by decide)
          have HJ := Lib.hid hJ
          clear hJ
          subst ho
          refine Pj.Step.at (g := 16) (b := true) rfl ?hy ?_
          case hy =>
            simp only [Pj.puts, List.foldl_cons, List.foldl_nil, Act.put, List.setIfInBounds_toArray, List.set_cons_zero, List.set_cons_succ, e20, e16]
            rfl
          simp only [Pj.puts, List.foldl_cons, List.foldl_nil, Act.put, List.setIfInBounds_toArray, List.set_cons_zero, List.set_cons_succ, e20, e16]
          go_simp
          exact hKq _ _ ⟨Pj.vset V 21 (.pointer (some ⟨pr, 6, none⟩)), by simp only [Pj.puts, List.foldl_cons, List.foldl_nil, Act.put, List.setIfInBounds_toArray, List.set_cons_zero, List.set_cons_succ, Pj.vset, Nat.reduceEqDiff, if_true, if_false, e20, e16], HJ.out.more (by decide) hL rfl⟩
        | 22, ho =>
          simp only [List.getElem?_toArray, List.getElem?_cons_zero, List.getElem?_cons_succ, Option.some.injEq] at ho
          have e21 : V 21 = .pointer (some ⟨pr, 6, none⟩) := hJ.h 21 (hdep 21 (by rw [← ho]; kernel_rfl)) (by decide)
          have e16 : V 16 = .bool true := hJ.h 16 (hdep 16 (by rw [← ho]; kernel_rfl)) (by decide)
          have hr : (fun W : World => Kept wr W) w := hJ.rd (R := fun W => Kept wr W) HRD.out
          obtain ⟨b0, b1, b6⟩ := HB.out w (HK.out.trans hr)
          have HJ := Lib.hid hJ
          clear hJ
          subst ho
          refine Pj.Step.at (g := 16) (b := true) rfl ?hy ?_
          case hy =>
            simp only [Pj.puts, List.foldl_cons, List.foldl_nil, Act.put, List.setIfInBounds_toArray, List.set_cons_zero, List.set_cons_succ, e21, e16]
            rfl
          simp only [Pj.puts, List.foldl_cons, List.foldl_nil, Act.put, List.setIfInBounds_toArray, List.set_cons_zero, List.set_cons_succ, e21, e16]
          go_simp
          exact hKq _ _ ⟨Pj.vset V 22 (.int .i64 S.g), by simp only [Pj.puts, List.foldl_cons, List.foldl_nil, Act.put, List.setIfInBounds_toArray, List.set_cons_zero, List.set_cons_succ, Pj.vset, Nat.reduceEqDiff, if_true, if_false, e21, e16], HJ.out.more (by decide) hL rfl⟩
        | 23, ho =>
          simp only [List.getElem?_toArray, List.getElem?_cons_zero, List.getElem?_cons_succ, Option.some.injEq] at ho
          have e18 : V 18 = .int .i64 S.g := hJ.h 18 (hdep 18 (by rw [← ho]; kernel_rfl)) (by decide)
          have e22 : V 22 = .int .i64 S.g := hJ.h 22 (hdep 22 (by rw [← ho]; kernel_rfl)) (by decide)
          have e16 : V 16 = .bool true := hJ.h 16 (hdep 16 (by rw [← ho]; kernel_rfl)) (by decide)
          have hpv : 8 = 0 ∨ L (([1, 6, 7, 9, 14, 15, 16, 18, 23, 24, 25, 27, 29] : List Nat).getD (8 - 1) 0) := .inr (hdep 18 (by rw [← ho]; kernel_rfl))
          have hph : (Kept wr) w := hJ.at 8 (by decide) rfl hopen hpv
          have HJ := Lib.hid hJ
          clear hJ
          subst ho
          refine Pj.Step.at (g := 16) (b := true) rfl ?hy ?_
          case hy =>
            simp only [Pj.puts, List.foldl_cons, List.foldl_nil, Act.put, List.setIfInBounds_toArray, List.set_cons_zero, List.set_cons_succ, e18, e22, e16]
            rfl
          simp only [Pj.puts, List.foldl_cons, List.foldl_nil, Act.put, List.setIfInBounds_toArray, List.set_cons_zero, List.set_cons_succ, e18, e22, e16]
          go_simp
          have hw' := hph
          exact hKq _ _ ⟨Pj.vset V 23 (.bool true), by simp only [Pj.puts, List.foldl_cons, List.foldl_nil, Act.put, List.setIfInBounds_toArray, List.set_cons_zero, List.set_cons_succ, Pj.vset, Nat.reduceEqDiff, if_true, if_false, e18, e22, e16], HJ.out.step 8 (by decide) rfl (by decide) hopen hL hpv rfl hw'⟩
        | 24, ho =>
          simp only [List.getElem?_toArray, List.getElem?_cons_zero, List.getElem?_cons_succ, Option.some.injEq] at ho
          have e16 : V 16 = .bool true := hJ.h 16 (hdep 16 (by rw [← ho]; kernel_rfl)) (by decide)
          have e23 : V 23 = .bool true := hJ.h 23 (hdep 23 (by rw [← ho]; kernel_rfl)) (by decide)
          have hpv : 9 = 0 ∨ L (([1, 6, 7, 9, 14, 15, 16, 18, 23, 24, 25, 27, 29] : List Nat).getD (9 - 1) 0) := .inr (hdep 23 (by rw [← ho]; kernel_rfl))
          have hph : (Kept wr) w := hJ.at 9 (by decide) rfl hopen hpv
          have HJ := Lib.hid hJ
          clear hJ
          subst ho
          refine Pj.Step.free rfl ?_
          simp only [Pj.puts, List.foldl_cons, List.foldl_nil, Act.put, List.setIfInBounds_toArray, List.set_cons_zero, List.set_cons_succ, e16, e23]
          go_simp
          have hw' := hph
          exact hKq _ _ ⟨Pj.vset V 24 (.bool true), by simp only [Pj.puts, List.foldl_cons, List.foldl_nil, Act.put, List.setIfInBounds_toArray, List.set_cons_zero, List.set_cons_succ, Pj.vset, Nat.reduceEqDiff, if_true, if_false, e16, e23], HJ.out.step 9 (by decide) rfl (by decide) hopen hL hpv rfl hw'⟩
        | 25, ho =>
          simp only [List.getElem?_toArray, List.getElem?_cons_zero, List.getElem?_cons_succ, Option.some.injEq] at ho
          have e24 : V 24 = .bool true := hJ.h 24 (hdep 24 (by rw [← ho]; kernel_rfl)) (by decide)
          have hpv : 10 = 0 ∨ L (([1, 6, 7, 9, 14, 15, 16, 18, 23, 24, 25, 27, 29] : List Nat).getD (10 - 1) 0) := .inr (hdep 24 (by rw [← ho]; kernel_rfl))
          have hph : (Kept wr) w := hJ.at 10 (by decide) rfl hopen hpv
          have HJ := Lib.hid hJ
          clear hJ
          subst ho
          refine Pj.Step.free rfl ?_
          simp only [Pj.puts, List.foldl_cons, List.foldl_nil, Act.put, List.setIfInBounds_toArray, List.set_cons_zero, List.set_cons_succ, e24]
          go_simp
          have hw' := hph
          exact hKq _ _ ⟨Pj.vset V 25 (.bool true), by simp only [Pj.puts, List.foldl_cons, List.foldl_nil, Act.put, List.setIfInBounds_toArray, List.set_cons_zero, List.set_cons_succ, Pj.vset, Nat.reduceEqDiff, if_true, if_false, e24], HJ.out.step 10 (by decide) rfl (by decide) hopen hL hpv rfl hw'⟩
        | 26, ho =>
          simp only [List.getElem?_toArray, List.getElem?_cons_zero, List.getElem?_cons_succ, Option.some.injEq] at ho
          have e25 : V 25 = .bool true := hJ.h 25 (hdep 25 (by rw [← ho]; kernel_rfl)) (by decide)
          have HJ := Lib.hid hJ
          clear hJ
          subst ho
          refine Pj.Step.at (g := 25) (b := true) rfl ?hy ?_
          case hy =>
            simp only [Pj.puts, List.foldl_cons, List.foldl_nil, Act.put, List.setIfInBounds_toArray, List.set_cons_zero, List.set_cons_succ, e25]
            rfl
          simp only [Pj.puts, List.foldl_cons, List.foldl_nil, Act.put, List.setIfInBounds_toArray, List.set_cons_zero, List.set_cons_succ, e25]
          go_simp
          exact hKq _ _ ⟨Pj.vset V 26 (.pointer (some ⟨pa, 0, none⟩)), by simp only [Pj.puts, List.foldl_cons, List.foldl_nil, Act.put, List.setIfInBounds_toArray, List.set_cons_zero, List.set_cons_succ, Pj.vset, Nat.reduceEqDiff, if_true, if_false, e25], HJ.out.more (by decide) hL rfl⟩
        | 27, ho =>
          simp only [List.getElem?_toArray, List.getElem?_cons_zero, List.getElem?_cons_succ, Option.some.injEq] at ho
          have e26 : V 26 = .pointer (some ⟨pa, 0, none⟩) := hJ.h 26 (hdep 26 (by rw [← ho]; kernel_rfl)) (by decide)
          have e25 : V 25 = .bool true := hJ.h 25 (hdep 25 (by rw [← ho]; kernel_rfl)) (by decide)
          have hpv : 11 = 0 ∨ L (([1, 6, 7, 9, 14, 15, 16, 18, 23, 24, 25, 27, 29] : List Nat).getD (11 - 1) 0) := .inr (hdep 25 (by rw [← ho]; kernel_rfl))
          have hph : (Kept wr) w := hJ.at 11 (by decide) rfl hopen hpv
          have HJ := Lib.hid hJ
          clear hJ
          subst ho
          refine Pj.Step.at (g := 25) (b := true) rfl ?hy ?_
          case hy =>
            simp only [Pj.puts, List.foldl_cons, List.foldl_nil, Act.put, List.setIfInBounds_toArray, List.set_cons_zero, List.set_cons_succ, e26, e25]
            rfl
          simp only [Pj.puts, List.foldl_cons, List.foldl_nil, Act.put, List.setIfInBounds_toArray, List.set_cons_zero, List.set_cons_succ, e26, e25]
          go_simp
          refine (dirty_arr (HT.out.a.kept (HK.out.trans hph))).mono ?_
          rintro e w' ⟨rfl, hkw⟩
          have hw' := Kept.trans hph hkw
          exact hKq _ _ ⟨Pj.vset V 27 (.int .i64 ((dirtyA S : Nat) : Int)), by simp only [Pj.puts, List.foldl_cons, List.foldl_nil, Act.put, List.setIfInBounds_toArray, List.set_cons_zero, List.set_cons_succ, Pj.vset, Nat.reduceEqDiff, if_true, if_false, e26, e25], HJ.out.step 11 (by decide) rfl (by decide) hopen hL hpv rfl hw'⟩
        | 28, ho =>
          simp only [List.getElem?_toArray, List.getElem?_cons_zero, List.getElem?_cons_succ, Option.some.injEq] at ho
          have e25 : V 25 = .bool true := hJ.h 25 (hdep 25 (by rw [← ho]; kernel_rfl)) (by decide)
          have HJ := Lib.hid hJ
          clear hJ
          subst ho
          refine Pj.Step.at (g := 25) (b := true) rfl ?hy ?_
          case hy =>
            simp only [Pj.puts, List.foldl_cons, List.foldl_nil, Act.put, List.setIfInBounds_toArray, List.set_cons_zero, List.set_cons_succ, e25]
            rfl
          simp only [Pj.puts, List.foldl_cons, List.foldl_nil, Act.put, List.setIfInBounds_toArray, List.set_cons_zero, List.set_cons_succ, e25]
          go_simp
          exact hKq _ _ ⟨Pj.vset V 28 (.pointer (some ⟨pr, 0, none⟩)), by simp only [Pj.puts, List.foldl_cons, List.foldl_nil, Act.put, List.setIfInBounds_toArray, List.set_cons_zero, List.set_cons_succ, Pj.vset, Nat.reduceEqDiff, if_true, if_false, e25], HJ.out.more (by decide) hL rfl⟩
        | 29, ho =>
          simp only [List.getElem?_toArray, List.getElem?_cons_zero, List.getElem?_cons_succ, Option.some.injEq] at ho
          have e28 : V 28 = .pointer (some ⟨pr, 0, none⟩) := hJ.h 28 (hdep 28 (by rw [← ho]; kernel_rfl)) (by decide)
          have e25 : V 25 = .bool true := hJ.h 25 (hdep 25 (by rw [← ho]; kernel_rfl)) (by decide)
          have hpv : 12 = 0 ∨ L (([1, 6, 7, 9, 14, 15, 16, 18, 23, 24, 25, 27, 29] : List Nat).getD (12 - 1) 0) := .inr (hdep 27 (by rw [← ho]; kernel_rfl))
          have hph : (Kept wr) w := hJ.at 12 (by decide) rfl hopen hpv
          have HJ := Lib.hid hJ
          clear hJ
          subst ho
          refine Pj.Step.at (g := 25) (b := true) rfl ?hy ?_
          case hy =>
            simp only [Pj.puts, List.foldl_cons, List.foldl_nil, Act.put, List.setIfInBounds_toArray, List.set_cons_zero, List.set_cons_succ, e28, e25]
            rfl
          simp only [Pj.puts, List.foldl_cons, List.foldl_nil, Act.put, List.setIfInBounds_toArray, List.set_cons_zero, List.set_cons_succ, e28, e25]
          go_simp
          refine (dirty_ar (HT.out.r.kept (HK.out.trans hph))).mono ?_
          rintro e w' ⟨rfl, hkw⟩
          have hw' := Kept.trans hph hkw
          exact hKq _ _ ⟨Pj.vset V 29 (.int .i64 ((dirtyA S : Nat) : Int)), by simp only [Pj.puts, List.foldl_cons, List.foldl_nil, Act.put, List.setIfInBounds_toArray, List.set_cons_zero, List.set_cons_succ, Pj.vset, Nat.reduceEqDiff, if_true, if_false, e28, e25], HJ.out.step 12 (by decide) rfl (by decide) hopen hL hpv rfl hw'⟩
        | 30, ho =>
          simp only [List.getElem?_toArray, List.getElem?_cons_zero, List.getElem?_cons_succ, Option.some.injEq] at ho
          have e27 : V 27 = .int .i64 ((dirtyA S : Nat) : Int) := hJ.h 27 (hdep 27 (by rw [← ho]; kernel_rfl)) (by decide)
          have e29 : V 29 = .int .i64 ((dirtyA S : Nat) : Int) := hJ.h 29 (hdep 29 (by rw [← ho]; kernel_rfl)) (by decide)
          have e25 : V 25 = .bool true := hJ.h 25 (hdep 25 (by rw [← ho]; kernel_rfl)) (by decide)
          have HJ := Lib.hid hJ
          clear hJ
          subst ho
          refine Pj.Step.at (g := 25) (b := true) rfl ?hy ?_
          case hy =>
            simp only [Pj.puts, List.foldl_cons, List.foldl_nil, Act.put, List.setIfInBounds_toArray, List.set_cons_zero, List.set_cons_succ, e27, e29, e25]
            rfl
          simp only [Pj.puts, List.foldl_cons, List.foldl_nil, Act.put, List.setIfInBounds_toArray, List.set_cons_zero, List.set_cons_succ, e27, e29, e25]
          go_simp
          exact hKq _ _ ⟨Pj.vset V 30 (.bool true), by simp only [Pj.puts, List.foldl_cons, List.foldl_nil, Act.put, List.setIfInBounds_toArray, List.set_cons_zero, List.set_cons_succ, Pj.vset, Nat.reduceEqDiff, if_true, if_false, e27, e29, e25], HJ.out.more (by decide) hL rfl⟩
        | 31, ho =>
          simp only [List.getElem?_toArray, List.getElem?_cons_zero, List.getElem?_cons_succ, Option.some.injEq] at ho
          have e25 : V 25 = .bool true := hJ.h 25 (hdep 25 (by rw [← ho]; kernel_rfl)) (by decide)
          have e30 : V 30 = .bool true := hJ.h 30 (hdep 30 (by rw [← ho]; kernel_rfl)) (by decide)
          have HJ := Lib.hid hJ
          clear hJ
          subst ho
          refine Pj.Step.free rfl ?_
          simp only [Pj.puts, List.foldl_cons, List.foldl_nil, Act.put, List.setIfInBounds_toArray, List.set_cons_zero, List.set_cons_succ, e25, e30]
          go_simp
          exact hKq _ _ ⟨Pj.vset V 31 (.bool true), by simp only [Pj.puts, List.foldl_cons, List.foldl_nil, Act.put, List.setIfInBounds_toArray, List.set_cons_zero, List.set_cons_succ, Pj.vset, Nat.reduceEqDiff, if_true, if_false, e25, e30], HJ.out.more (by decide) hL rfl⟩
        | 32, ho =>
          simp only [List.getElem?_toArray, List.getElem?_cons_zero, List.getElem?_cons_succ, Option.some.injEq] at ho
          have e31 : V 31 = .bool true := hJ.h 31 (hdep 31 (by rw [← ho]; kernel_rfl)) (by decide)
          have HJ := Lib.hid hJ
          clear hJ
          subst ho
          refine Pj.Step.free rfl ?_
          simp only [Pj.puts, List.foldl_cons, List.foldl_nil, Act.put, List.setIfInBounds_toArray, List.set_cons_zero, List.set_cons_succ, e31]
          go_simp
          exact hKq _ _ ⟨Pj.vset V 32 (.bool true), by simp only [Pj.puts, List.foldl_cons, List.foldl_nil, Act.put, List.setIfInBounds_toArray, List.set_cons_zero, List.set_cons_succ, Pj.vset, Nat.reduceEqDiff, if_true, if_false, e31], HJ.out.more (by decide) hL rfl⟩
        | n + 33, ho => simp at ho
      case ehe =>
        intro V w9 hw9 hv
        have hw9' : (Kept wr) w9 := hw9
        clear hw9
        have e32 : V 32 = .bool true := hv 32 (by decide)
        simp only [Pj.puts, List.foldl_cons, List.foldl_nil, Act.put, List.setIfInBounds_toArray, List.set_cons_zero, List.set_cons_succ, e32]
        clear hv e32
        go_wp2
        go_ret
        exact ⟨rfl, HK.out.trans hw9'⟩
end Go.Proofs.Ytkfomaoillnehaa

namespace Go.Proofs.Ytkfomaoillnehaa
open Go.RowKit
attribute [local go_sem] Oper.semAt_some

theorem wakes_pure (t : ByteArray) (h : t.size = 64) : (writeA (newA 2 3) 1 2 t).2 = 0 ∧ (flushA (writeA (newA 2 3) 1 2 t).1 1).2 = 0 ∧ readA (crashA (flushA (writeA (newA 2 3) 1 2 t).1 1).1 []) 1 2 = (t, 0) ∧ (crashA (flushA (writeA (newA 2 3) 1 2 t).1 1).1 []).g = 2 := by
  have e0 : ByteArray.empty.size = 0 := rfl
  have h1 : writeA (newA 2 3) 1 2 t = (chgA (putD (newA 2 3) 1 ⟨fun _ => zeroT, upF (fun _ => ByteArray.empty) 2 t⟩), 0) := by
    simp [writeA, isThere, isSec, newA, serveA, h, freshD]
  rw [h1]
  have h2 : flushA (chgA (putD (newA 2 3) 1 ⟨fun _ => zeroT, upF (fun _ => ByteArray.empty) 2 t⟩)) 1 = (chgA (putD (chgA (putD (newA 2 3) 1 ⟨fun _ => zeroT, upF (fun _ => ByteArray.empty) 2 t⟩)) 1 (flushD ⟨fun _ => zeroT, upF (fun _ => ByteArray.empty) 2 t⟩ 3)), 0) := by
    simp [flushA, isThere, chgA, putD, newA, serveA, upF]
  rw [h2]
  refine ⟨rfl, rfl, ?_, rfl⟩
  have hne : t ≠ ByteArray.empty := fun e => by rw [e] at h; cases h
  simp [readA, isThere, isSec, crashA, serveA, chgA, putD, newA, crashD, crashR, flushD, upF, readD, freshD, e0, hne]
set_option maxRecDepth 100000 in
set_option maxHeartbeats 4000000 in
theorem wakes_any (B : Nat) (W : World) (hB : B ≤ W.heap.size) : Calls Try.prog 20 #[] W fun e w' => e = .returned (.bool true) ∧ Below B W w' := by
  go_enter Try.func20, Try.ntmps20
  go_wp2_with fail
  refine (new_good 2 3 (by decide) (by decide) (by decide) (by decide) W).mono ?_
  rintro e w1 ⟨p, D, K, C, rfl, hk1, ha, hp1, hp2, hp3⟩
  have HK1 := Lib.hid hk1
  have HA := Lib.hid ha
  have HP := Lib.hid (And.intro hp1 hp3)
  have HZ := Lib.hid (Nat.le_trans hB (Kept.size hk1))
  clear hk1 ha hp1 hp2 hp3
  go_wp2_with fail
  refine (num10_any 0 _).mono ?_
  rintro e w2 ⟨rfl, rfl⟩
  have hmb : ∀ u : World, (Instr.makeSlice 74 (.int .i64 63) (.int .i64 63)).run Try.prog u = .ok (.slice (some ⟨u.heap.size, 0, none⟩) 63 63) (u.alloc (.cells (madeCells #[.int .u8 0] 63) 5)) := makeB 63 (by omega)
  have hst := (madeB w1 63).string (P := Try.prog) 74 9 5 Try.underlying74 Try.underlying5 Try.underlying9 63
  rw [List.length_replicate] at hst
  obtain ⟨Z, hZ⟩ : ∃ Z : ByteArray, Z = ⟨(List.replicate 63 (0 : UInt8)).toArray⟩ := ⟨_, rfl⟩
  rw [← hZ] at hst
  obtain ⟨t, ht⟩ : ∃ t : ByteArray, t = Z ++ ⟨#[120]⟩ := ⟨_, rfl⟩
  have hsz : t.size = 64 := by rw [ht, hZ]; rfl
  have hA : ∀ w : World, (Op.stringOp .add Z ⟨#[120]⟩).run Try.prog w = .ok (.string t) w := fun w => by rw [ht]; exact run_string_add_sum _ _ _ (by rw [hZ]; decide)
  obtain ⟨hv1, hv2, hv3, hv4⟩ := wakes_pure t hsz
  have hi0 : InvA 2 3 0 (newA 2 3) := ⟨rfl, rfl, newA_ok 2 3, Nat.le_refl _, by decide⟩
  have hi1 := hi0.write 1 2 t
  have hi2 := hi1.flush 1
  have k2 := (Kept.refl w1).alloc (.cells (madeCells #[.int .u8 0] 63) 5)
  have HA2 := Lib.hid (HA.out.kept k2)
  have HZ2 := Lib.hid (Nat.le_trans HZ.out (Kept.size k2))
  have HW2 := Lib.hid (Below.mono (Kept.trans HK1.out k2) hB)
  have HB := Lib.hid hB
  have HI0 := Lib.hid hi0
  have HI1 := Lib.hid hi1
  have HI2 := Lib.hid hi2
  have HV := Lib.hid (And.intro hv1 (And.intro hv2 (And.intro hv3 hv4)))
  clear hZ ht hsz hv1 hv2 hv3 hv4 hi0 hi1 hi2 k2 HA HZ HK1 hB
  go_wp2_with fail
  refine (write_arr (B := B) HA2.out (Nat.le_trans HB.out HP.out.1) (fun d hd => Nat.le_trans HB.out (HP.out.2 d hd).2) (by decide) HZ2.out 1 2 t).mono ?_
  rintro e w3 ⟨he, ha, hn⟩
  rw [HV.out.1] at he
  subst he
  have HA3 := Lib.hid ha
  have HW3 := Lib.hid (Below.trans HW2.out hn.low)
  have HZ3 := Lib.hid (Nat.le_trans HZ2.out hn.but.size)
  clear ha hn HA2 HZ2 HW2 hst hmb hA
  go_wp2_with fail
  refine (flush_arr (B := B) HA3.out (Nat.le_trans HB.out HP.out.1) (fun d hd => by rw [HI1.out.m] at hd; exact ⟨Nat.le_trans HB.out (HP.out.2 d hd).1, Nat.le_trans HB.out (HP.out.2 d hd).2⟩) (by have := HI1.out.g; omega) HZ3.out 1).mono ?_
  rintro e w4 ⟨he, ha, hn⟩
  rw [HV.out.2.1] at he
  subst he
  have HA4 := Lib.hid ha
  have HW4 := Lib.hid (Below.trans HW3.out hn.low)
  have HZ4 := Lib.hid (Nat.le_trans HZ3.out hn.but.size)
  clear ha hn HA3 HZ3 HW3
  go_wp2_with fail
  refine (crash_arr (B := B) HA4.out (Nat.le_trans HB.out HP.out.1) (fun d hd => by rw [HI2.out.m] at hd; exact ⟨Nat.le_trans HB.out (HP.out.2 d hd).1, Nat.le_trans HB.out (HP.out.2 d hd).2⟩) HZ4.out none 0 0 [] (fun V _ => IntsIn.nil V _ _)).mono ?_
  rintro e w5 ⟨rfl, ha, hn⟩
  have HA5 := Lib.hid ha
  have HW5 := Lib.hid (Below.trans HW4.out hn.low)
  have HZ5 := Lib.hid (Nat.le_trans HZ4.out hn.but.size)
  clear ha hn HA4 HZ4 HW4
  go_wp2_with fail
  refine (read_arr HA5.out 1 2).mono ?_
  rintro e w6 ⟨he, hk6⟩
  rw [HV.out.2.2.1] at he
  subst he
  have HA6 := Lib.hid (HA5.out.kept hk6)
  have HW6 := Lib.hid (Below.trans HW5.out (Below.mono hk6 HZ5.out))
  have HZ6 := Lib.hid (Nat.le_trans HZ5.out (Kept.size hk6))
  clear hk6 HA5 HW5 HZ5
  go_wp2_with fail
  refine (num10_any 0 _).mono ?_
  rintro e w7 ⟨rfl, rfl⟩
  go_wp2_with fail
  refine (num10_any 0 _).mono ?_
  rintro e w7 ⟨rfl, rfl⟩
  go_wp2_with fail
  refine (num10_any 0 _).mono ?_
  rintro e w7 ⟨rfl, rfl⟩
  go_wp2_with fail
  refine (changes_any HA6.out).mono ?_
  rintro e w7 ⟨he, hk7⟩
  rw [HV.out.2.2.2] at he
  subst he
  have HW7 := Lib.hid (Below.trans HW6.out (Below.mono hk7 HZ6.out))
  clear hk7
  go_wp2
  go_ret
  exact ⟨rfl, HW7.out⟩
end Go.Proofs.Ytkfomaoillnehaa

namespace Go.Proofs.Ytkfomaoillnehaa
open Go.ChangeShapes Go.WideShapes Go.ChangeAt Go.RowKit Go.Joins Go.Deep

theorem Try.cellsStr : Try.prog.cellsOf 9 = 1 := by kernel_rfl
theorem Try.bytesStr : Try.prog.bytesOf 9 = 16 := by kernel_rfl
theorem array1 {α : Type} {cs : Array α} (h : cs.size = 1) : ∃ c0, cs = #[c0] := by
  obtain ⟨l⟩ := cs
  match l, h with
  | [c0], _ => exact ⟨c0, rfl⟩
section
variable {H : Type} {enc : TypeId × Value → H} {P : Program} {w : World} {base : Nat} {spare : Nat → Bool} {held : Bool}
theorem trod_struct1 {t : TypeId} {f0 : Field} {fuel : Nat} {cs : List Value} {x : DataW H × List MemPlace} (ht : P.underlying t = some (.struct #[f0])) (h : DataW.trod enc P w base spare held fuel t cs = some x) :
    ∃ y0 n, x = (.agg [y0.1], y0.2) ∧ cs.length = P.cellsOf t ∧ DataW.trod enc P w base spare held n f0.type ((cs.drop f0.offset).take (P.cellsOf f0.type)) = some y0 := by
  obtain ⟨xs, n, _, rfl, hl, hlen, hf⟩ := DataW.trod_struct ht h
  match xs, hlen with
  | [y0], _ => exact ⟨y0, n, by simp, hl, by simpa using hf 0 f0 rfl⟩
theorem open_agg1 {r : Reach} {b0 : Nat} {t : TypeId} {f0 : Field} {v : Value} {d : DataW H} {p : List MemPlace} (hs : P.underlying t = some (.struct #[f0])) (hone : oneCellFields P #[f0] = true) (hC : P.cellsOf t = 1)
    (hv : Value.okWide P w r b0 t v) (h : DataW.Trod enc P w base spare held t v d p) :
    ∃ (v0 : Value) (y0 : DataW H × List MemPlace) (n : Nat), v = .agg #[v0] ∧ d = .agg [y0.1] ∧ p = y0.2 ∧ DataW.trod enc P w base spare held n f0.type [v0] = some y0 := by
  obtain ⟨cs, rfl, hsz⟩ := okWide_struct hs hv
  obtain ⟨c0, rfl⟩ := array1 (hsz.trans hC)
  obtain ⟨fuel, hf⟩ := h
  obtain ⟨y0, n, hx, _, h0⟩ := trod_struct1 hs hf
  obtain ⟨o0, k0⟩ := hone_of hone 0 f0 rfl
  simp only [Prod.mk.injEq] at hx
  exact ⟨c0, y0, n, rfl, hx.1, hx.2, by simpa [Value.cells, o0, k0] using h0⟩
end
theorem weightsAll_has {H : Type} {P : Program} {e : TypeId} : ∀ {l : List (DataW H)} {d : DataW H}, d ∈ l → ∀ n ∈ d.weights P e, n ∈ DataW.weightsAll P e l
  | d' :: r, d, hd, n, hn => by
    simp only [DataW.weightsAll, List.mem_append]
    rcases List.mem_cons.1 hd with rfl | h
    · exact Or.inl hn
    · exact Or.inr (weightsAll_has h n hn)
/-- A list of texts that is read: its number and its texts within the reach. -/
structure TextsIn (W : World) (a : Option Addr) (l cap : Nat) (ss : List ByteArray) : Prop where
  strs : StrsIn W a l ss
  le_cap : l ≤ cap
  few : l ≤ 8796093021952
  short : ∀ s ∈ ss, s.size ≤ 140737488351232
theorem TextsIn.kept {W W' : World} {a : Option Addr} {l cap : Nat} {ss : List ByteArray} (h : TextsIn W a l cap ss) (k : Kept W W') : TextsIn W' a l cap ss := ⟨h.strs.kept k, h.le_cap, h.few, h.short⟩
theorem TextsIn.size {W : World} {a : Option Addr} {l cap : Nat} {ss : List ByteArray} (h : TextsIn W a l cap ss) (i : Nat) (hi : i < l) : (ss.getD i ByteArray.empty).size ≤ 140737488351232 := by
  have hl : i < ss.length := by rw [h.strs.len_eq]; exact hi
  exact h.short _ (by simp [List.getD, hl])
/-- the cell of a text -/
theorem TextsIn.cell {W : World} {a : Option Addr} {l cap : Nat} {ss : List ByteArray} (h : TextsIn W a l cap ss) (hl : 0 < l) : ∃ b off, a = some ⟨b, off, none⟩ ∧ ∀ i, i < l → ∀ w, Kept W w → w.cell? ⟨b, off + i, none⟩ = some (.string (ss.getD i ByteArray.empty)) := by
  obtain ⟨b, off, ha, hc⟩ := h.strs.cells
  exact ⟨b, off, ha hl, fun i hi w k => k.cell (hc i hi).1 (hc i hi).2⟩
theorem texts_in {H : Type} {enc : TypeId × Value → H} {P : Program} {t e : TypeId} (ht : P.underlying t = some (.slice e)) (he : P.underlying e = some .string) (hc : P.cellsOf e = 1) (hb : P.bytesOf e = 16) {W : World} {fuel : Nat} {v : Value} {y : DataW H × List MemPlace}
    (h0 : DataW.trod enc P W 0 (fun _ => true) true fuel t [v] = some y) (hz : ∀ n ∈ y.1.weights P t, n ≤ reachBytes) :
    ∃ a len cap ss, v = .slice a len cap ∧ TextsIn W a len cap ss := by
  rcases open_strings ht he hc h0 with ⟨hcs, hx⟩ | ⟨a, len', cap', ss, hcs, _, hl, hm, hsz, hx, hcell, hws⟩
  · simp only [List.cons.injEq, and_true] at hcs
    exact ⟨none, 0, 0, [], hcs, ⟨rfl, by omega, (fun s hs => (by cases hs)), 0, 0, fun h => absurd h (Nat.lt_irrefl 0), fun i hi => absurd hi (Nat.not_lt_zero i)⟩, Nat.le_refl _, by omega, (fun s hs => (by cases hs))⟩
  · simp only [List.cons.injEq, and_true] at hcs
    simp only [if_true] at hsz
    unfold maxLen at hm hws
    subst hx
    have hz1 : ss.length * 16 ≤ reachBytes := by
      have := hz (((strs (H := H) (ss.take len')).length + (strs (H := H) (ss.drop len')).length) * P.bytesOf e) (by simp [DataW.weights, ht])
      rw [hb] at this
      simp [strs] at this
      omega
    have hz2 : ∀ s ∈ ss.take len', s.size ≤ reachBytes := fun s hs => by
      refine hz s.data.toList.length ?_
      simp only [DataW.weights, ht]
      exact List.mem_cons_of_mem _ (List.mem_append.2 (Or.inl (weightsAll_has (d := .lit (.string s.data.toList)) (List.mem_map.2 ⟨s, hs, rfl⟩) _ (by simp [DataW.weights]))))
    unfold reachBytes at hz1 hz2
    by_cases hp : 0 < ss.length
    · obtain ⟨b, off, spot⟩ := a
      have hspot : spot = none := by simpa [Addr.add] using World.cell?_spot (hcell 0 hp)
      subst hspot
      have hcell' : ∀ j, j < ss.length → W.cell? ⟨b, off + j, none⟩ = some (.string (ss.getD j ByteArray.empty)) := fun j hj => by rw [← Go.WideShapes.add_plain]; exact hcell j hj
      refine ⟨_, len', cap', ss.take len', hcs, ⟨by rw [List.length_take]; omega, by omega, fun s hs => hws s (List.mem_of_mem_take hs), b, off, fun _ => rfl, fun i hi => ?_⟩, by omega, by omega, hz2⟩
      have h1 := hcell' i (by omega)
      refine ⟨World.block_lt_of_cell? _ _ h1, ?_⟩
      rw [h1]
      simp [List.getD, hi]
    · exact ⟨_, len', cap', [], hcs, ⟨by simp; omega, by omega, (fun s hs => (by cases hs)), 0, 0, fun h => by omega, fun i hi => by omega⟩, by omega, by omega, (fun s hs => (by cases hs))⟩
end Go.Proofs.Ytkfomaoillnehaa

namespace Go.Proofs.Ytkfomaoillnehaa
open Go.ChangeShapes Go.WideShapes Go.ChangeAt Go.RowKit Go.Joins Go.Deep
theorem trod_intI {H : Type} {enc : TypeId × Value → H} {P : Program} {t : TypeId} {k : IntKind} (ht : P.underlying t = some (.int k)) {W : World} {fuel : Nat} {v : Value} {y : DataW H × List MemPlace}
    (h0 : DataW.trod enc P W 0 (fun _ => true) true fuel t [v] = some y) : ∃ n, v = .int k n ∧ (Lit.int k n).wf = true := by
  obtain ⟨n, h, hx, hw⟩ := DataW.trod_int ht h0
  simp only [List.cons.injEq, and_true] at h
  exact ⟨n, h, hw⟩
section
variable {H : Type} {enc : TypeId × Value → H} {P : Program} {w : World} {base : Nat} {spare : Nat → Bool} {held : Bool}
theorem open_structs {t e : TypeId} {fs : Array Field} {fuel : Nat} {cs : List Value} {x : DataW H × List MemPlace} (ht : P.underlying t = some (.slice e)) (he : P.underlying e = some (.struct fs))
    (hone : oneCellFields P fs = true) (hC : P.cellsOf e = fs.size) (h : DataW.trod enc P w base spare held fuel t cs = some x) :
    (cs = [.slice none 0 0] ∧ x = (.nil, [])) ∨
    ∃ (a : Addr) (len cap m : Nat) (D : Nat → DataW H) (Pl : Nat → List MemPlace), cs = [.slice (some a) len cap] ∧ base ≤ a.block ∧ len ≤ cap ∧ cap ≤ maxLen ∧ m = (if spare a.block then cap else len) ∧
      x = (.slice ((List.range len).map D) ((List.range (m - len)).map fun j => D (len + j)), MemPlace.row a (m * fs.size) ++ (List.range m).flatMap Pl) ∧
      ∀ i, i < m → ∃ (ys : List (DataW H × List MemPlace)) (n : Nat), D i = .agg (ys.map (·.1)) ∧ Pl i = ys.flatMap (·.2) ∧ ys.length = fs.size ∧
        ∀ (j : Nat) (f : Field), fs[j]? = some f → ∃ (v : Value) (y : DataW H × List MemPlace), w.cell? (a.add (i * fs.size + j)) = some v ∧ ys[j]? = some y ∧ DataW.trod enc P w base spare held n f.type [v] = some y := by
  rcases open_slice ht h with h0 | ⟨a, len, cap, m, n, D, Pl, hcs, hb, hl, hm, hmm, hx, hi⟩
  · exact .inl h0
  · refine .inr ⟨a, len, cap, m, D, Pl, hcs, hb, hl, hm, hmm, by rw [hC] at hx; exact hx, fun i him => ?_⟩
    obtain ⟨cs', hc, ht'⟩ := hi i him
    rw [hC] at hc
    obtain ⟨ys, n', hn', hy, hlen, hyl, hf⟩ := DataW.trod_struct he ht'
    obtain ⟨_, hcl, hat⟩ := World.cells?_some hc
    simp only [Prod.mk.injEq] at hy
    refine ⟨ys, n', hy.1, hy.2, hyl, fun j f hj => ?_⟩
    obtain ⟨ho, hk⟩ := hone_of hone j f hj
    have hjl : j < fs.size := (Array.getElem?_eq_some_iff.1 hj).1
    have hcell := hat j hjl
    have hv : cs'[j]? = some (cs'[j]'(by omega)) := List.getElem?_eq_getElem (by omega)
    have h1 := hf j f hj
    rw [ho, hk] at h1
    have hone' : (cs'.drop j).take 1 = [cs'[j]'(by omega)] := by
      rw [List.drop_eq_getElem_cons (by omega)]
      rfl
    rw [hone'] at h1
    have hys : ys[j]? = some (ys[j]'(by omega)) := List.getElem?_eq_getElem (by omega)
    refine ⟨_, _, ?_, hys, h1.trans hys⟩
    rw [← Go.Deep.add_add, hcell, hv]
end
/-- a slice's own weight -/
theorem slice_sized {H : Type} {enc : TypeId × Value → H} {P : Program} {W : World} {fuel : Nat} {t e : TypeId} {a : Option Addr} {l cap : Nat} {y : DataW H × List MemPlace} (ht : P.underlying t = some (.slice e))
    (h : DataW.trod enc P W 0 (fun _ => true) true fuel t [.slice a l cap] = some y) (hz : ∀ n ∈ y.1.weights P t, n ≤ reachBytes) : l * P.bytesOf e ≤ reachBytes := by
  rcases open_slice ht h with ⟨hcs, _⟩ | ⟨a', len, cap', m, n, D, Pl, hcs, _, hl, _, _, hx, _⟩
  · simp only [List.cons.injEq, and_true, Value.slice.injEq] at hcs
    obtain ⟨_, rfl, _⟩ := hcs
    simp
  · simp only [List.cons.injEq, and_true, Value.slice.injEq] at hcs
    obtain ⟨_, rfl, _⟩ := hcs
    have h1 := hz (((List.range l).map D).length + ((List.range (m - l)).map fun j => D (l + j)).length |> (· * P.bytesOf e)) (by rw [hx]; simp [DataW.weights, ht])
    have h2 : l ≤ ((List.range l).map D).length + ((List.range (m - l)).map fun j => D (l + j)).length := by simp
    exact Nat.le_trans (Nat.mul_le_mul_right _ h2) h1
theorem Try.cellsAct : Try.prog.cellsOf 37 = 6 := by kernel_rfl
theorem Try.bytesAct : Try.prog.bytesOf 37 = 72 := by kernel_rfl
theorem Try.bytesInt : Try.prog.bytesOf 3 = 8 := by kernel_rfl
theorem Try.cellsInt1 : Try.prog.cellsOf 3 = 1 := by kernel_rfl
theorem Try.cellsScript : Try.prog.cellsOf 24 = 3 := by kernel_rfl
/-- a list of what there is for each place -/
theorem list_of {α : Type} (d : α) : ∀ (n : Nat) (P : Nat → α → Prop), (∀ i, i < n → ∃ r, P i r) → ∃ l : List α, l.length = n ∧ ∀ i, i < n → P i (l.getD i d)
  | 0, _, _ => ⟨[], rfl, fun i hi => absurd hi (Nat.not_lt_zero i)⟩
  | n + 1, P, h => by
    obtain ⟨l, hl, hp⟩ := list_of d n P (fun i hi => h i (by omega))
    obtain ⟨r, hr⟩ := h n (by omega)
    refine ⟨l ++ [r], by simp [hl], fun i hi => ?_⟩
    by_cases e : i = n
    · subst e
      have : (l ++ [r]).getD i d = r := by simp [List.getD, ← hl]
      rw [this]; exact hr
    · have : (l ++ [r]).getD i d = l.getD i d := by simp [List.getD, List.getElem?_append_left (show i < l.length by omega)]
      rw [this]; exact hp i (by omega)
def ac00 : Ac := ⟨0, 0, 0, 0, ByteArray.empty, []⟩
/-- an act in six cells -/
def ActCell (W : World) (b o : Nat) (x : Ac) : Prop := ∃ al cl, IntsIn W .i64 al x.l.length x.l ∧ x.t.size ≤ 140737488355328 ∧ x.l.length ≤ 140737488355328 ∧ (-9223372036854775808 ≤ x.k ∧ x.k ≤ 9223372036854775807) ∧ (-9223372036854775808 ≤ x.d ∧ x.d ≤ 9223372036854775807) ∧ (-9223372036854775808 ≤ x.s ∧ x.s ≤ 9223372036854775807) ∧ (-9223372036854775808 ≤ x.n ∧ x.n ≤ 9223372036854775807) ∧ b < W.heap.size ∧
  W.cell? ⟨b, o, none⟩ = some (.int .i64 x.k) ∧ W.cell? ⟨b, o + 1, none⟩ = some (.int .i64 x.d) ∧ W.cell? ⟨b, o + 2, none⟩ = some (.int .i64 x.s) ∧ W.cell? ⟨b, o + 3, none⟩ = some (.int .i64 x.n) ∧ W.cell? ⟨b, o + 4, none⟩ = some (.string x.t) ∧ W.cell? ⟨b, o + 5, none⟩ = some (.slice al x.l.length cl)
structure ActsIn (W : World) (a : Option Addr) (len : Nat) (xs : List Ac) : Prop where
  len_eq : xs.length = len
  few : len ≤ 1954687338268
  cells : ∃ b off, (0 < len → a = some ⟨b, off, none⟩) ∧ ∀ i, i < len → ActCell W b (off + i * 6) (xs.getD i ac00)
set_option maxRecDepth 100000 in
set_option maxHeartbeats 1000000 in
theorem acts_in {H : Type} {enc : TypeId × Value → H} {W : World} {fuel : Nat} {v : Value} {y : DataW H × List MemPlace}
    (h0 : DataW.trod enc Try.prog W 0 (fun _ => true) true fuel 22 [v] = some y) (hz : ∀ n ∈ y.1.weights Try.prog 22, n ≤ reachBytes) : ∃ a len cap xs, v = .slice a len cap ∧ ActsIn W a len xs := by
  rcases open_structs Try.underlying22 Try.underlying37 (by kernel_rfl) Try.cellsAct h0 with ⟨hcs, _⟩ | ⟨a, len, cap, m, D, Pl, hcs, _, hl, hm, hmm, hx, hf⟩
  · simp only [List.cons.injEq, and_true] at hcs
    exact ⟨none, 0, 0, [], hcs, ⟨rfl, by omega, 0, 0, fun h => absurd h (Nat.lt_irrefl 0), fun i hi => absurd hi (Nat.not_lt_zero i)⟩⟩
  · simp only [List.cons.injEq, and_true] at hcs
    simp only [if_true] at hmm
    subst hmm
    unfold maxLen at hm
    by_cases hp : 0 < len
    · obtain ⟨b, off, spot⟩ := a
      have hspot : spot = none := by
        obtain ⟨ys, n, _, _, _, hfj⟩ := hf 0 (by omega)
        obtain ⟨v0, _, hc0, _⟩ := hfj 0 _ rfl
        simpa [Addr.add] using World.cell?_spot hc0
      subst hspot
      obtain ⟨ms, hrl, hr⟩ := list_of ac00 len (fun i r => ActCell W b (off + i * 6) r) (fun i hi => by
        obtain ⟨ys, n, hD, _, _, hfj⟩ := hf i (by omega)
        obtain ⟨v0, y0, hc0, _, ht0⟩ := hfj 0 _ rfl
        obtain ⟨v1, y1, hc1, _, ht1⟩ := hfj 1 _ rfl
        obtain ⟨v2, y2, hc2, _, ht2⟩ := hfj 2 _ rfl
        obtain ⟨v3, y3, hc3, _, ht3⟩ := hfj 3 _ rfl
        obtain ⟨v4, y4, hc4, hy4, ht4⟩ := hfj 4 _ rfl
        obtain ⟨v5, y5, hc5, hy5, ht5⟩ := hfj 5 _ rfl
        have hW : ∀ (j : Nat) (t : TypeId) (d : DataW H), (ys.map (·.1))[j]? = some d → (∀ q ∈ d.weights Try.prog t, q ∈ DataW.weights Try.prog 37 (.agg (ys.map (·.1)))) → ∀ q ∈ d.weights Try.prog t, q ≤ reachBytes := fun j t d _ hin q hq => by
          refine hz q ?_
          rw [hx]
          simp only [DataW.weights, Try.underlying22, List.mem_cons, List.mem_append]
          refine Or.inr (Or.inl (weightsAll_has (d := D i) (List.mem_map.2 ⟨i, List.mem_range.2 hi, rfl⟩) q ?_))
          rw [hD]
          exact hin q hq
        have w4 := hW 4 9 y4.1 (by rw [List.getElem?_map, hy4]; rfl) (fun q hq => by
          simp only [DataW.weights, Try.underlying37]
          exact DataW.weights_mem_each (j := 4) (t := 9) (d := y4.1) (by rfl) (by rw [List.getElem?_map, hy4]; rfl) q hq)
        have w5 := hW 5 35 y5.1 (by rw [List.getElem?_map, hy5]; rfl) (fun q hq => by
          simp only [DataW.weights, Try.underlying37]
          exact DataW.weights_mem_each (j := 5) (t := 35) (d := y5.1) (by rfl) (by rw [List.getElem?_map, hy5]; rfl) q hq)
        obtain ⟨k, rfl, hk⟩ := trod_intI Try.underlying3 ht0
        obtain ⟨d, rfl, hd⟩ := trod_intI Try.underlying3 ht1
        obtain ⟨s, rfl, hs⟩ := trod_intI Try.underlying3 ht2
        obtain ⟨n3, rfl, hn⟩ := trod_intI Try.underlying3 ht3
        obtain ⟨tt, htt, hx4, _⟩ := DataW.trod_string Try.underlying9 ht4
        simp only [List.cons.injEq, and_true] at htt
        subst htt
        have hts : tt.size ≤ reachBytes := w4 tt.data.toList.length (by rw [hx4]; simp [DataW.weights])
        obtain ⟨al, ll, cl, zs, rfl, _, hB⟩ := ints_in Try.underlying35 Try.underlying3 Try.cellsInt1 ht5
        have hls : ll * 8 ≤ reachBytes := by
          have := slice_sized Try.underlying35 ht5 w5
          rw [Try.bytesInt] at this
          exact this
        unfold reachBytes at hts hls
        rw [add_plain] at hc0 hc1 hc2 hc3 hc4 hc5
        simp only [List.size_toArray, List.length_cons, List.length_nil, Nat.reduceAdd, Nat.add_zero, ← Nat.add_assoc] at hc0 hc1 hc2 hc3 hc4 hc5
        obtain rfl := hB.len_eq
        exact ⟨⟨k, d, s, n3, tt, zs⟩, al, cl, hB, by dsimp only; omega, by dsimp only; omega, bounds_i64 hk, bounds_i64 hd, bounds_i64 hs, bounds_i64 hn, World.block_lt_of_cell? _ _ hc0, hc0, hc1, hc2, hc3, hc4, hc5⟩)
      have h56 : len * 72 ≤ reachBytes := by
        have := slice_sized Try.underlying22 (a := some ⟨b, off, none⟩) (l := len) (cap := m) (by rw [← hcs]; exact h0) hz
        rw [Try.bytesAct] at this
        exact this
      unfold reachBytes at h56
      exact ⟨_, len, m, ms, hcs, ⟨hrl, by omega, b, off, fun _ => rfl, fun i hi => hr i hi⟩⟩
    · obtain rfl : len = 0 := by omega
      exact ⟨_, 0, m, [], hcs, ⟨rfl, by omega, 0, 0, fun h => absurd h (Nat.lt_irrefl 0), fun i hi => absurd hi (Nat.not_lt_zero i)⟩⟩
theorem IntsIn.below {B : Nat} {W W' : World} {k : IntKind} {a : Option Addr} {l : Nat} {zs : List Int} (h : IntsIn W k a l zs) (kk : Below B W W') (hB : W.heap.size ≤ B) : IntsIn W' k a l zs := by
  obtain ⟨b, off, ha, hc⟩ := h.cells
  exact ⟨h.len_eq, h.le, h.wf, b, off, ha, fun i hi => ⟨Nat.lt_of_lt_of_le (hc i hi).1 (Below.size kk), by rw [Below.cell kk (p := ⟨b, off + i, none⟩) (Nat.lt_of_lt_of_le (hc i hi).1 hB)]; exact (hc i hi).2⟩⟩
set_option maxRecDepth 100000 in
/-- the argument: two numbers, acts -/
theorem script_in {H : Type} {enc : TypeId × Value → H} {W : World} {base : Nat} {v : Value} {d : DataW H} {p : List MemPlace} (hv : Value.okWide Try.prog W .any base 24 v)
    (h : DataW.Trod enc Try.prog W 0 (fun _ => true) true 24 v d p) (hz : ∀ n ∈ d.weights Try.prog 24, n ≤ reachBytes) :
    ∃ m n a len cap xs, v = .agg #[.int .i64 m, .int .i64 n, .slice a len cap] ∧ (-9223372036854775808 ≤ m ∧ m ≤ 9223372036854775807) ∧ (-9223372036854775808 ≤ n ∧ n ≤ 9223372036854775807) ∧ ActsIn W a len xs := by
  obtain ⟨v0, v1, v2, y0, y1, y2, m, rfl, rfl, rfl, hy0, hy1, hy2⟩ := open_agg3 Try.underlying24 (by kernel_rfl) Try.cellsScript hv h
  obtain ⟨m, rfl, hm⟩ := trod_intI Try.underlying3 hy0
  obtain ⟨n, rfl, hn⟩ := trod_intI Try.underlying3 hy1
  obtain ⟨a, l, c, xs, rfl, h1⟩ := acts_in hy2 (fun n hn => hz n (by
    simp only [DataW.weights, Try.underlying24]
    exact DataW.weights_mem_each (j := 2) (t := 22) (d := y2.1) (by rfl) (by rfl) n hn))
  exact ⟨m, n, a, l, c, xs, rfl, bounds_i64 hm, bounds_i64 hn, h1⟩
end Go.Proofs.Ytkfomaoillnehaa

namespace Go.Proofs.Ytkfomaoillnehaa
open Go.RowKit
attribute [local go_sem] Oper.semAt_some
theorem ActCell.below {B : Nat} {W W' : World} {b o : Nat} {x : Ac} (h : ActCell W b o x) (k : Below B W W') (hB : W.heap.size ≤ B) : ActCell W' b o x := by
  obtain ⟨al, cl, h1, h2, h3, h4, h5, h6, h7, h8, c0, c1, c2, c3, c4, c5⟩ := h
  have hb : b < B := Nat.lt_of_lt_of_le h8 hB
  have q : ∀ i v, W.cell? ⟨b, i, none⟩ = some v → W'.cell? ⟨b, i, none⟩ = some v := fun i v hc => by rw [Below.cell k (p := ⟨b, i, none⟩) hb]; exact hc
  exact ⟨al, cl, h1.below k hB, h2, h3, h4, h5, h6, h7, Nat.lt_of_lt_of_le h8 (Below.size k), q _ _ c0, q _ _ c1, q _ _ c2, q _ _ c3, q _ _ c4, q _ _ c5⟩
theorem ActsIn.below {B : Nat} {W W' : World} {a : Option Addr} {len : Nat} {xs : List Ac} (h : ActsIn W a len xs) (k : Below B W W') (hB : W.heap.size ≤ B) : ActsIn W' a len xs := by
  obtain ⟨b, off, ha, hc⟩ := h.cells
  exact ⟨h.len_eq, h.few, b, off, ha, fun i hi => (hc i hi).below k hB⟩
theorem box3a {W : World} {b : Nat} {x0 x1 x2 : Value} {t : TypeId} (h : BlockAt W b #[x0, x1, x2] t) : W.cell? ⟨b, 0, none⟩ = some x0 ∧ W.cell? ⟨b, 1, none⟩ = some x1 ∧ W.cell? ⟨b, 2, none⟩ = some x2 :=
  ⟨h.cell 0, h.cell 1, h.cell 2⟩
/-- what is not much -/
def FewA (len : Nat) (xs : List Ac) : Prop := len ≤ 5000 ∧ ∀ i, i < len → (xs.getD i ac00).t.size ≤ 5000 ∧ (xs.getD i ac00).l.length ≤ 5000
set_option maxRecDepth 100000 in
set_option maxHeartbeats 4000000 in
theorem heavy10_any (m nn : Int) (a : Option Addr) (len cap : Nat) (xs : List Ac) (w : World) (h : ActsIn w a len xs) :
    Calls Try.prog 8 #[.agg #[.int .i64 m, .int .i64 nn, .slice a len cap]] w fun e w' => (e = .returned (.bool true) ∨ (e = .returned (.bool false) ∧ FewA len xs)) ∧ Kept w w' := by
  have hfew := h.few
  have HK := Lib.hid ((Kept.refl w).alloc (.cells #[.int .i64 m, .int .i64 nn, .slice a len cap] 24))
  have HX := Lib.hid (fun i (hi : i < len) => show ∃ b off, a = some ⟨b, off, none⟩ ∧ ∀ w', Kept w w' → ActCell w' b (off + i * 6) (xs.getD i ac00) from by
    obtain ⟨b, off, ha, hc⟩ := h.cells
    exact ⟨b, off, ha (by omega), fun w' k => (hc i hi).below k (Nat.le_refl _)⟩)
  have c0 := BlockAt.new w #[.int .i64 m, .int .i64 nn, .slice a len cap] 24
  clear h
  go_enter Try.func8, Try.ntmps8
  go_upto_region 1 with (fail)
  generalize w.alloc (.cells #[.int .i64 m, .int .i64 nn, .slice a len cap] 24) = w1 at *
  have HB := Lib.hid c0
  generalize w.heap.size = q at *
  obtain ⟨a0, a1, a2⟩ := box3a c0
  clear c0
  go_wp2_with fail
  go_loopw [3, 4] (fun nv kv wr => ∃ (k : Nat) (n : Int), k ≤ len ∧ kv = .int .i64 k ∧ nv = .int .i64 n ∧ (len : Int) ≤ n ∧ n ≤ 1125899906842624 ∧ Hid (∀ i, i < k → ((xs.getD i ac00).t.size : Int) ≤ n ∧ ((xs.getD i ac00).l.length : Int) ≤ n) ∧ Kept w1 wr) (fun _ kv _ => len - (intOf kv).toNat)
  case atStart => exact ⟨0, len, by omega, rfl, rfl, Int.le_refl _, by omega, Lib.hid (fun i hi => absurd hi (Nat.not_lt_zero i)), Kept.refl _⟩
  case round =>
    rename World => wr
    obtain ⟨k, n, hk, rfl, rfl, hn0, hn1, HA, hkr⟩ := hrel
    have HKR := Lib.hid hkr
    clear a0 a1 a2
    obtain ⟨a0, a1, a2⟩ := box3a (HB.out.kept hkr)
    clear hkr
    by_cases hlk : k < len ∧ n < 1048576
    · obtain ⟨hlk, hn⟩ := hlk
      have hd1 : decide (k < len) = true := decide_eq_true hlk
      have hd1i : decide ((k : Int) < (len : Int)) = true := decide_eq_true (by omega)
      have hd2 : decide (n < 1048576) = true := decide_eq_true hn
      obtain ⟨bt, of, rfl, hct⟩ := HX.out k hlk
      obtain ⟨al, cl, _, hts, hls, _, _, _, _, _, _, _, _, _, c4, c5⟩ := hct wr (HK.out.trans HKR.out)
      have HXN := Lib.hid (fun i (hi : i < k + 1) (z : Int) (h1 : n ≤ z) (h2 : ((xs.getD k ac00).t.size : Int) ≤ z ∧ ((xs.getD k ac00).l.length : Int) ≤ z) => show ((xs.getD i ac00).t.size : Int) ≤ z ∧ ((xs.getD i ac00).l.length : Int) ≤ z from by rcases Nat.lt_or_ge i k with q | q; exact ⟨Int.le_trans (HA.out i q).1 h1, Int.le_trans (HA.out i q).2 h1⟩; rw [show i = k by omega]; exact h2)
      clear hct
      generalize xs.getD k ac00 = x at *
      obtain ⟨xk, xd, xs', xn, xt, xl⟩ := x
      dsimp only at c4 c5 hts hls HXN
      generalize hlt : xl.length = lx at *
      obtain ⟨N0, hN0⟩ : ∃ N0, N0 = n + (xt.size : Int) := ⟨_, rfl⟩
      obtain ⟨N1, hN1⟩ : ∃ N1, N1 = N0 + (lx : Int) := ⟨_, rfl⟩
      have hx0 : IntKind.i64.wrap (n + (xt.size : Int)) = N0 := by rw [IntKind.wrap_i64]; omega
      have hx1 : IntKind.i64.wrap (N0 + (lx : Int)) = N1 := by rw [IntKind.wrap_i64]; omega
      have HN := Lib.hid (show n ≤ N1 ∧ (xt.size : Int) ≤ N1 ∧ (lx : Int) ≤ N1 ∧ N1 ≤ 1125899906842624 from by omega)
      clear hN0 hN1 hlt hts hls
      go_wp2_with fail
      go_quiet (fail)
      go_wp2
      go_roundw
      case rel => exact ⟨k + 1, N1, by omega, by go_num, rfl, by have := HN.out.1; omega, HN.out.2.2.2, Lib.hid (fun i hi => HXN.out i hi N1 HN.out.1 ⟨HN.out.2.1, HN.out.2.2.1⟩), HKR.out.drewN _⟩
      case measure => simp [intOf]; omega
    · by_cases hlk2 : k < len
      · have hd1 : decide (k < len) = true := decide_eq_true hlk2
        have hd1i : decide ((k : Int) < (len : Int)) = true := decide_eq_true (by omega)
        have hd2 : decide (n < 1048576) = false := decide_eq_false (fun q => hlk ⟨hlk2, q⟩)
        have hd3 : decide (n > 5000) = true := decide_eq_true (by have := fun q => hlk ⟨hlk2, q⟩; omega)
        have hd4 : decide (5000 < n) = true := decide_eq_true (by have := fun q => hlk ⟨hlk2, q⟩; omega)
        clear hlk
        go_wp2
        go_ret
        exact ⟨.inl rfl, HK.out.trans HKR.out⟩
      · obtain rfl : k = len := by omega
        have hd1 : decide (k < k) = false := decide_eq_false hlk2
        have hd1i : decide ((k : Int) < (k : Int)) = false := decide_eq_false (by omega)
        clear hlk
        by_cases hbig : 5000 < n
        · have hd3 : decide (n > 5000) = true := decide_eq_true hbig
          have hd4 : decide (5000 < n) = true := decide_eq_true hbig
          go_wp2
          go_ret
          exact ⟨.inl rfl, HK.out.trans HKR.out⟩
        · have hd3 : decide (n > 5000) = false := decide_eq_false hbig
          have hd4 : decide (5000 < n) = false := decide_eq_false hbig
          have HL := Lib.hid (show FewA k xs from ⟨by omega, fun i hi => by have := HA.out i hi; omega⟩)
          go_wp2
          go_ret
          exact ⟨.inr ⟨rfl, HL.out⟩, HK.out.trans HKR.out⟩
end Go.Proofs.Ytkfomaoillnehaa

namespace Go.Proofs.Ytkfomaoillnehaa
open Go.RowKit
def okN (m n : Int) : Bool := (decide (1 ≤ m) && decide (m ≤ 12)) && (decide (1 ≤ n) && decide (n ≤ 2048))
theorem newx_any (m n : Int) (w : World) : Calls Try.prog 9 #[.int .i64 m, .int .i64 n] w fun e w' => ∃ v ec, e = .returned (.tuple #[.pointer v, .int .i64 ec]) ∧ ((okN m n = true ∧ ec = 0 ∧ ∃ p, v = some ⟨p, 0, none⟩) ∨ (okN m n = false ∧ ec = 1 ∧ v = none)) ∧ Kept w w' := by
  by_cases h : 1 ≤ m ∧ m ≤ 12 ∧ 1 ≤ n ∧ n ≤ 2048
  · obtain ⟨h1, h2, h3, h4⟩ := h
    obtain ⟨m', rfl⟩ : ∃ m' : Nat, m = m' := ⟨m.toNat, by omega⟩
    obtain ⟨n', rfl⟩ : ∃ n' : Nat, n = n' := ⟨n.toNat, by omega⟩
    refine (new_good m' n' (by omega) (by omega) (by omega) (by omega) w).mono ?_
    rintro e w' ⟨p, D, K, C, rfl, hk, _⟩
    exact ⟨_, _, rfl, .inl ⟨by unfold okN; simp [h1, h2, h3, h4], rfl, p, rfl⟩, hk⟩
  · refine (new_bad m n (by omega) w).mono ?_
    rintro e w' ⟨rfl, hk⟩
    refine ⟨_, _, rfl, .inr ⟨?_, rfl, rfl⟩, hk⟩
    unfold okN
    by_cases h1 : 1 ≤ m <;> by_cases h2 : m ≤ 12 <;> by_cases h3 : 1 ≤ n <;> by_cases h4 : n ≤ 2048 <;> simp [h1, h2, h3, h4]
    exact h ⟨h1, h2, h3, h4⟩
theorem two_new {B : Nat} {w w5 w6 : World} {pa DA : Nat} {KA CA : Nat → Nat} {pr A D E : Nat} {KR CR : Nat → Nat} {S T : Arr} (ha : ArP w5 pa DA KA CA S) (hr : RfP w6 pr A D E KR CR T) (k : Kept w5 w6) (hB : B ≤ w.heap.size) (kw : Kept w w5)
    (l1 : w.heap.size ≤ pa) (l2 : w.heap.size ≤ DA) (l3 : ∀ d, d < S.m → w.heap.size ≤ KA d ∧ w.heap.size ≤ CA d) (r1 : w5.heap.size ≤ pr) (r2 : w5.heap.size ≤ A) (r3 : w5.heap.size ≤ D) (r4 : w5.heap.size ≤ E) (r5 : ∀ d, d < T.m → w5.heap.size ≤ KR d ∧ w5.heap.size ≤ CR d) : Two B w6 pa DA KA CA pr A D E KR CR S T := by
  have s1 := Kept.size kw
  have s2 := Kept.size k
  have hlr : ∀ b, RfF pr A D E KR CR T.m b → w5.heap.size ≤ b := fun b hb => by
    rcases hb with e | e | e | e | ⟨d, hd, e | e⟩
    · omega
    · omega
    · omega
    · omega
    · have := (r5 d hd).1; omega
    · have := (r5 d hd).2; omega
  refine ⟨ha.kept k, hr, by omega, fun b hb => ?_, fun b hb => by have := hlr b hb; omega, fun b hb q => by have := hlr b q; have := ha.foot_lt b hb; omega⟩
  rcases hb with e | e | ⟨d, hd, e | e⟩
  · omega
  · omega
  · have := (l3 d hd).1; omega
  · have := (l3 d hd).2; omega
theorem ActCell.fix {B : Nat} {W : World} {b o : Nat} {x : Ac} (h : ActCell W b o x) (hB : W.heap.size ≤ B) : ∃ al cl, ((-9223372036854775808 ≤ x.k ∧ x.k ≤ 9223372036854775807) ∧ (-9223372036854775808 ≤ x.d ∧ x.d ≤ 9223372036854775807) ∧ (-9223372036854775808 ≤ x.s ∧ x.s ≤ 9223372036854775807) ∧ (-9223372036854775808 ≤ x.n ∧ x.n ≤ 9223372036854775807)) ∧ ∀ W', Below B W W' → IntsIn W' .i64 al x.l.length x.l ∧
    W'.cell? ⟨b, o, none⟩ = some (.int .i64 x.k) ∧ W'.cell? ⟨b, o + 1, none⟩ = some (.int .i64 x.d) ∧ W'.cell? ⟨b, o + 2, none⟩ = some (.int .i64 x.s) ∧ W'.cell? ⟨b, o + 3, none⟩ = some (.int .i64 x.n) ∧ W'.cell? ⟨b, o + 4, none⟩ = some (.string x.t) ∧ W'.cell? ⟨b, o + 5, none⟩ = some (.slice al x.l.length cl) := by
  obtain ⟨al, cl, h1, h2, h3, h4, h5, h6, h7, h8, c0, c1, c2, c3, c4, c5⟩ := h
  have hb : b < B := Nat.lt_of_lt_of_le h8 hB
  refine ⟨al, cl, ⟨h4, h5, h6, h7⟩, fun W' k => ?_⟩
  have q : ∀ i v, W.cell? ⟨b, i, none⟩ = some v → W'.cell? ⟨b, i, none⟩ = some v := fun i v hc => by rw [Below.cell k (p := ⟨b, i, none⟩) hb]; exact hc
  exact ⟨h1.below k hB, q _ _ c0, q _ _ c1, q _ _ c2, q _ _ c3, q _ _ c4, q _ _ c5⟩
theorem newA_inv (m n : Nat) : InvA m n 0 (newA m n) := ⟨rfl, rfl, newA_ok m n, Nat.le_refl _, by show (-1 : Int) ≤ 10; decide⟩
end Go.Proofs.Ytkfomaoillnehaa

