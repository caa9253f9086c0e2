/- The reference's CopyManifest and EqManifest (lists of no great length). -/
import Derived.Test.YtdllenoclnmmdaaMs4
namespace Go.Proofs.Ytdllenoclnmmdaa
open Go.RowKit Go.Shelf
attribute [local go_sem] Oper.semAt_some

theorem strs_of_own {w : World} {base l cap : Nat} {a : Option Addr} {ss : List ByteArray} (h : w.ownsRow base 9 1 (.slice a l cap) l (ss.map Value.string)) (hs : ∀ s ∈ ss, s.size ≤ 9223372036854775807) (hl : ss.length = l) : StrsIn w a l ss := by
  obtain ⟨a', c', e, _, h2⟩ := strs_own h hl hs
  cases e
  exact h2
set_option maxRecDepth 100000 in
set_option maxHeartbeats 2000000 in
theorem copy_mf (k : Int) (ab : Option Addr) (lb cb : Nat) (au : Option Addr) (lu cu : Nat) (bs us : List ByteArray) (wo : World) (hb : StrsIn wo ab lb bs) (hu : StrsIn wo au lu us) (hl : lb ≤ 100000 ∧ lu ≤ 100000) :
    Calls Try.prog 9 #[.agg #[.int .i64 k, .slice ab lb cb, .slice au lu cu]] wo fun e w' => ∃ a1 c1 a2 c2, e = .returned (.agg #[.int .i64 k, .slice a1 lb c1, .slice a2 lu c2]) ∧ StrsIn w' a1 lb bs ∧ StrsIn w' a2 lu us ∧ Kept wo w' := by
  have HBS := Lib.hid hb
  have HUS := Lib.hid hu
  have HB := Lib.hid (((BlockAt.new wo #[.int .i64 k, .slice ab lb cb, .slice au lu cu] 28).kept ((Kept.refl _).alloc (.cells #[.int .i64 0, .slice none 0 0, .slice none 0 0] 28))).kept ((Kept.refl _).alloc (.cells #[.int .i64 k, .slice ab lb cb, .slice au lu cu] 28)))
  have HR := Lib.hid ((BlockAt.new1 wo #[.int .i64 0, .slice none 0 0, .slice none 0 0] 28 (.cells #[.int .i64 k, .slice ab lb cb, .slice au lu cu] 28)).kept ((Kept.refl _).alloc (.cells #[.int .i64 k, .slice ab lb cb, .slice au lu cu] 28)))
  have HX := Lib.hid (BlockAt.new2 wo #[.int .i64 k, .slice ab lb cb, .slice au lu cu] 28 (.cells #[.int .i64 k, .slice ab lb cb, .slice au lu cu] 28) (.cells #[.int .i64 0, .slice none 0 0, .slice none 0 0] 28))
  have HK := Lib.hid ((((Kept.refl wo).alloc (.cells #[.int .i64 k, .slice ab lb cb, .slice au lu cu] 28)).alloc (.cells #[.int .i64 0, .slice none 0 0, .slice none 0 0] 28)).alloc (.cells #[.int .i64 k, .slice ab lb cb, .slice au lu cu] 28))
  clear hb hu
  go_enter Try.func9, Try.ntmps9
  go_upto_region 1 with (fail)
  obtain ⟨q0, q1, q2⟩ := box3 ((BlockAt.new wo #[.int .i64 k, .slice ab lb cb, .slice au lu cu] 28).kept ((Kept.refl _).alloc (.cells #[.int .i64 0, .slice none 0 0, .slice none 0 0] 28)))
  go_upto_region 2 with (fail)
  generalize ((wo.alloc (.cells #[.int .i64 k, .slice ab lb cb, .slice au lu cu] 28)).alloc (.cells #[.int .i64 0, .slice none 0 0, .slice none 0 0] 28)).alloc (.cells #[.int .i64 k, .slice ab lb cb, .slice au lu cu] 28) = w1 at *
  clear q0 q1 q2
  obtain ⟨a0, a1, a2⟩ := box3 HB.out
  go_wp2_with fail
  refine (copy_strings_own ab lb cb bs _ (HBS.out.kept HK.out) (by omega)).mono ?_
  rintro e w2 ⟨x1, y1, rfl, hown, hk2⟩
  have HS1 := Lib.hid (strs_of_own hown HBS.out.sizes HBS.out.len_eq)
  have HK2 := Lib.hid (HK.out.trans hk2)
  have HB2 := Lib.hid (HB.out.kept hk2)
  have HR2 := Lib.hid (HR.out.kept hk2)
  have HX2 := Lib.hid (HX.out.kept hk2)
  have f1 := HX2.out.free 1
  obtain ⟨d0, d1, d2⟩ := box3 HX2.out
  clear a0 a1 a2 hk2 hown HB HR HX
  have hzb := HR2.out.lt
  have hset : w2.grownBy (w2.setCell ⟨wo.heap.size + 1 + 1, 1, none⟩ (.slice x1 lb y1)) (some (wo.heap.size + 1 + 1)) := ⟨rfl, rfl, rfl, by simp, fun k _ hne => Below.heap_setCell w2 ⟨wo.heap.size + 1 + 1, 1, none⟩ (.slice x1 lb y1) k (fun e => hne (by rw [e]))⟩
  have HB3 := Lib.hid (block_grown HB2.out hset (by simp; omega))
  have HR3 := Lib.hid (block_grown HR2.out hset (by simp))
  have HX3 := Lib.hid (show BlockAt (w2.setCell ⟨wo.heap.size + 1 + 1, 1, none⟩ (.slice x1 lb y1)) (wo.heap.size + 1 + 1) #[.int .i64 k, .slice x1 lb y1, .slice au lu cu] 28 by have := HX2.out.set (i := 1) (.slice x1 lb y1); simpa using this)
  have HS3 := Lib.hid (strs_set HS1.out HX2.out (mf0_no _ _ _ _ _ _ _) hset)
  have HK3 := Lib.hid (Kept.setCell HK2.out (p := ⟨wo.heap.size + 1 + 1, 1, none⟩) (by show wo.heap.size ≤ wo.heap.size + 1 + 1; omega) (.slice x1 lb y1))
  clear hset
  go_upto_region 3 with (fail)
  generalize w2.setCell ⟨wo.heap.size + 1 + 1, 1, none⟩ (.slice x1 lb y1) = w3 at *
  clear f1 d0 d1 d2
  obtain ⟨a0, a1, a2⟩ := box3 HB3.out
  go_wp2_with fail
  refine (copy_strings_own au lu cu us _ (HUS.out.kept HK3.out) (by omega)).mono ?_
  rintro e w4 ⟨x2, y2, rfl, hown, hk4⟩
  have HS2 := Lib.hid (strs_of_own hown HUS.out.sizes HUS.out.len_eq)
  have HS4 := Lib.hid (HS3.out.kept hk4)
  have HK4 := Lib.hid (HK3.out.trans hk4)
  have HR4 := Lib.hid (HR3.out.kept hk4)
  have HX4 := Lib.hid (HX3.out.kept hk4)
  have f2 := HX4.out.free 2
  obtain ⟨d0, d1, d2⟩ := box3 HX4.out
  clear a0 a1 a2 hk4 hown HB3 HR3 HX3
  have hset : w4.grownBy (w4.setCell ⟨wo.heap.size + 1 + 1, 2, none⟩ (.slice x2 lu y2)) (some (wo.heap.size + 1 + 1)) := ⟨rfl, rfl, rfl, by simp, fun k _ hne => Below.heap_setCell w4 ⟨wo.heap.size + 1 + 1, 2, none⟩ (.slice x2 lu y2) k (fun e => hne (by rw [e]))⟩
  have HR5 := Lib.hid (block_grown HR4.out hset (by simp))
  have HX5 := Lib.hid (show BlockAt (w4.setCell ⟨wo.heap.size + 1 + 1, 2, none⟩ (.slice x2 lu y2)) (wo.heap.size + 1 + 1) #[.int .i64 k, .slice x1 lb y1, .slice x2 lu y2] 28 by have := HX4.out.set (i := 2) (.slice x2 lu y2); simpa using this)
  have HS5 := Lib.hid (strs_set HS4.out HX4.out (mf0_no _ _ _ _ _ _ _) hset)
  have HS6 := Lib.hid (strs_set HS2.out HX4.out (mf0_no _ _ _ _ _ _ _) hset)
  have HK5 := Lib.hid (Kept.setCell HK4.out (p := ⟨wo.heap.size + 1 + 1, 2, none⟩) (by show wo.heap.size ≤ wo.heap.size + 1 + 1; omega) (.slice x2 lu y2))
  clear hset
  go_upto_region 4 with (fail)
  generalize w4.setCell ⟨wo.heap.size + 1 + 1, 2, none⟩ (.slice x2 lu y2) = w5 at *
  clear f2 d0 d1 d2
  obtain ⟨a0, a1, a2⟩ := box3 HX5.out
  go_wp2_with (refine wpList_store_block rfl 28 (.tmp 2) (.tmp 13) rfl _ #[.int .i64 k, .slice x1 lb y1, .slice x2 lu y2] #[.int .i64 0, .slice none 0 0, .slice none 0 0] 28 rfl rfl HR5.out Try.infoMf rfl (one3m _ _ _ _ _ _ _) ?_)
  have g8 := grown_row w5 (wo.heap.size + 1) #[.int .i64 k, .slice x1 lb y1, .slice x2 lu y2]
  refine bodyPost_ret (v := .agg #[.int .i64 k, .slice x1 lb y1, .slice x2 lu y2]) ?_ rfl ⟨x1, y1, x2, y2, rfl, strs_set HS5.out HR5.out (mf0_no _ _ _ _ _ _ _) g8, strs_set HS6.out HR5.out (mf0_no _ _ _ _ _ _ _) g8, HK5.out.setRow (by omega) _⟩
  exact results_cell_row rfl _ _ (wo.heap.size + 1) 28 #[.int .i64 k, .slice x1 lb y1, .slice x2 lu y2] (0, 0) _ rfl (HR5.out.setRow _) Try.underlying28 rfl Try.infoMf
theorem bool_and3 {a b c : Bool} (h : a = false) : (a && (b && c)) = false := by rw [h]; rfl
set_option maxRecDepth 100000 in
set_option maxHeartbeats 2000000 in
theorem eq_mf (k : Int) (ab : Option Addr) (lb cb : Nat) (au : Option Addr) (lu cu : Nat) (bs us : List ByteArray) (k' : Int) (ab' : Option Addr) (lb' cb' : Nat) (au' : Option Addr) (lu' cu' : Nat) (bs' us' : List ByteArray) (w : World)
    (hb : StrsIn w ab lb bs) (hu : StrsIn w au lu us) (hb' : StrsIn w ab' lb' bs') (hu' : StrsIn w au' lu' us') :
    Calls Try.prog 15 #[.agg #[.int .i64 k, .slice ab lb cb, .slice au lu cu], .agg #[.int .i64 k', .slice ab' lb' cb', .slice au' lu' cu']] w fun e w' => e = .returned (.bool (decide (k = k') && (decide (bs = bs') && decide (us = us')))) ∧ Kept w w' := by
  have HBS := Lib.hid hb
  have HUS := Lib.hid hu
  have HBS' := Lib.hid hb'
  have HUS' := Lib.hid hu'
  have HB := Lib.hid ((BlockAt.new w #[.int .i64 k, .slice ab lb cb, .slice au lu cu] 28).kept ((Kept.refl _).alloc (.cells #[.int .i64 k', .slice ab' lb' cb', .slice au' lu' cu'] 28)))
  have HC := Lib.hid (BlockAt.new1 w #[.int .i64 k', .slice ab' lb' cb', .slice au' lu' cu'] 28 (.cells #[.int .i64 k, .slice ab lb cb, .slice au lu cu] 28))
  have HK := Lib.hid (((Kept.refl w).alloc (.cells #[.int .i64 k, .slice ab lb cb, .slice au lu cu] 28)).alloc (.cells #[.int .i64 k', .slice ab' lb' cb', .slice au' lu' cu'] 28))
  obtain ⟨R, hR⟩ : ∃ R, R = (decide (k = k') && (decide (bs = bs') && decide (us = us'))) := ⟨_, rfl⟩
  rw [← hR]
  have HR := Lib.hid hR
  clear hb hu hb' hu' hR
  go_enter Try.func15, Try.ntmps15
  go_upto_region 1 with (fail)
  generalize (w.alloc (.cells #[.int .i64 k, .slice ab lb cb, .slice au lu cu] 28)).alloc (.cells #[.int .i64 k', .slice ab' lb' cb', .slice au' lu' cu'] 28) = w1 at *
  obtain ⟨a0, a1, a2⟩ := box3 HB.out
  obtain ⟨b0, b1, b2⟩ := box3 HC.out
  by_cases h1 : k = k'
  · have d1 : (k == k') = true := by rw [beq_iff_eq]; exact h1
    have HR2 := Lib.hid (show R = (decide (bs = bs') && decide (us = us')) by rw [HR.out, decide_eq_true h1]; rfl)
    clear h1 HR
    go_wp2_with fail
    refine (eq_strings2 ab ab' lb lb' cb cb' bs bs' _ (HBS.out.kept HK.out) (HBS'.out.kept HK.out)).mono ?_
    rintro e w2 ⟨rfl, hk2⟩
    have HK2 := Lib.hid (HK.out.trans hk2)
    clear a0 a1 a2 b0 b1 b2
    obtain ⟨a0, a1, a2⟩ := box3 (HB.out.kept hk2)
    obtain ⟨b0, b1, b2⟩ := box3 (HC.out.kept hk2)
    clear hk2
    by_cases h2 : bs = bs'
    · have HR3 := Lib.hid (show R = decide (us = us') by rw [HR2.out, decide_eq_true h2]; rfl)
      rw [decide_eq_true h2]
      clear h2 HR2
      go_wp2_with fail
      refine (eq_strings2 au au' lu lu' cu cu' us us' _ (HUS.out.kept HK2.out) (HUS'.out.kept HK2.out)).mono ?_
      rintro e w3 ⟨rfl, hk3⟩
      have HK3 := Lib.hid (HK2.out.trans hk3)
      clear a0 a1 a2 b0 b1 b2 hk3
      generalize decide (us = us') = B at *
      go_wp2
      go_ret
      exact ⟨retb HR3.out, HK3.out⟩
    · have HE := Lib.hid (show R = false by rw [HR2.out, decide_eq_false h2]; rfl)
      rw [decide_eq_false h2]
      clear h2 HR2
      go_wp2
      go_ret
      exact ⟨retb HE.out, HK2.out⟩
  · have d1 : (k == k') = false := by rw [beq_eq_false_iff_ne]; exact h1
    have HE := Lib.hid (show R = false by rw [HR.out, decide_eq_false h1]; rfl)
    clear h1 HR
    go_wp2
    go_ret
    exact ⟨retb HE.out, HK.out⟩
end Go.Proofs.Ytdllenoclnmmdaa
