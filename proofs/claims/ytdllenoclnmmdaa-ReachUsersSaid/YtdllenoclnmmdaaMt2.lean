/- manifest.few, made, Check (lists of no great length). -/
import Derived.Test.YtdllenoclnmmdaaMt1
namespace Go.Proofs.Ytdllenoclnmmdaa
open Go.RowKit Go.Shelf
attribute [local go_sem] Oper.semAt_some

theorem box3k {W : World} {b : Nat} {x y z : Value} {t : TypeId} (h : BlockAt W b #[x, y, z] t) {w : World} (k : Kept W w) : w.cell? ⟨b, 0, none⟩ = some x ∧ w.cell? ⟨b, 1, none⟩ = some y ∧ w.cell? ⟨b, 2, none⟩ = some z :=
  ⟨(h.kept k).cell 0, (h.kept k).cell 1, (h.kept k).cell 2⟩
theorem retb {a b : Bool} (h : b = a) : Ending.returned (.bool a) = .returned (.bool b) := by rw [h]
theorem reti {a b : Int} (h : b = a) : Ending.returned (.int .i64 a) = .returned (.int .i64 b) := by rw [h]
set_option maxRecDepth 100000 in
set_option maxHeartbeats 1000000 in
theorem few_any (k : Int) (ab : Option Addr) (lb cb : Nat) (au : Option Addr) (lu cu : Nat) (bs us : List ByteArray) (w : World) (hb : StrsIn w ab lb bs) (hu : StrsIn w au lu us) (hl : lb ≤ 1000000 ∧ lu ≤ 1000000) :
    Calls Try.prog 44 #[.agg #[.int .i64 k, .slice ab lb cb, .slice au lu cu]] w fun e w' => e = .returned (.bool (mfFew ⟨k, bs, us⟩)) ∧ Kept w w' := by
  have HF := Lib.hid (show mfFew ⟨k, bs, us⟩ = decide ((lb : Int) + (lu : Int) ≤ 20) by
    unfold mfFew
    rw [hb.len_eq, hu.len_eq]
    by_cases e : lb + lu ≤ 20
    · rw [decide_eq_true e, decide_eq_true (by omega)]
    · rw [decide_eq_false e, decide_eq_false (by omega)])
  have HB := Lib.hid (BlockAt.new w #[.int .i64 k, .slice ab lb cb, .slice au lu cu] 28)
  have HK := Lib.hid ((Kept.refl w).alloc (.cells #[.int .i64 k, .slice ab lb cb, .slice au lu cu] 28))
  clear hb hu
  rw [HF.out]
  obtain ⟨B, hB⟩ : ∃ B, B = decide ((lb : Int) + (lu : Int) ≤ 20) := ⟨_, rfl⟩
  rw [← hB]
  have HX := Lib.hid hB
  clear hB HF
  go_enter Try.func44, Try.ntmps44
  go_upto_region 1 with (fail)
  generalize w.alloc (.cells #[.int .i64 k, .slice ab lb cb, .slice au lu cu] 28) = w1 at *
  obtain ⟨a0, a1, a2⟩ := box3 HB.out
  go_wp2
  go_ret
  exact ⟨retb HX.out, HK.out⟩
set_option maxRecDepth 100000 in
set_option maxHeartbeats 2000000 in
theorem made_any (k : Int) (ab : Option Addr) (lb cb : Nat) (au : Option Addr) (lu cu : Nat) (bs us : List ByteArray) (w : World) (hb : StrsIn w ab lb bs) (hu : StrsIn w au lu us) :
    Calls Try.prog 42 #[.agg #[.int .i64 k, .slice ab lb cb, .slice au lu cu]] w fun e w' => e = .returned (.bool (mfMade ⟨k, bs, us⟩)) ∧ Kept w w' := by
  have HBS := Lib.hid hb
  have HUS := Lib.hid hu
  have HF := Lib.hid (show mfMade ⟨k, bs, us⟩ = (decide (0 ≤ k) && (decide (k ≤ 255) && (szB bs && szB us))) from rfl)
  have HB := Lib.hid (BlockAt.new w #[.int .i64 k, .slice ab lb cb, .slice au lu cu] 28)
  have HK := Lib.hid ((Kept.refl w).alloc (.cells #[.int .i64 k, .slice ab lb cb, .slice au lu cu] 28))
  clear hb hu
  obtain ⟨R, hR⟩ : ∃ R, R = mfMade ⟨k, bs, us⟩ := ⟨_, rfl⟩
  rw [← hR]
  have HR := Lib.hid (hR.trans HF.out)
  clear HF hR
  go_enter Try.func42, Try.ntmps42
  go_upto_region 1 with (fail)
  generalize w.alloc (.cells #[.int .i64 k, .slice ab lb cb, .slice au lu cu] 28) = w1 at *
  obtain ⟨a0, a1, a2⟩ := box3 HB.out
  by_cases h1 : 0 ≤ k
  · have d1 : decide (0 ≤ k) = true := decide_eq_true h1
    by_cases h2 : k ≤ 255
    · have d2 : decide (k ≤ 255) = true := decide_eq_true h2
      have HR2 := Lib.hid (show R = (szB bs && szB us) by rw [HR.out, d1, d2]; rfl)
      clear HR
      go_wp2_with fail
      refine (sized_any ab lb cb bs _ (HBS.out.kept HK.out)).mono ?_
      rintro e w2 ⟨rfl, hk2⟩
      have HK2 := Lib.hid (HK.out.trans hk2)
      clear a0 a1 a2
      obtain ⟨a0, a1, a2⟩ := box3k HB.out hk2
      clear hk2
      cases hz : szB bs with
      | false =>
        have HE := Lib.hid (show R = false by rw [HR2.out, hz]; rfl)
        clear hz HR2
        go_wp2
        go_ret
        exact ⟨retb HE.out, HK2.out⟩
      | true =>
        have HE := Lib.hid (show R = szB us by rw [HR2.out, hz]; rfl)
        clear hz HR2
        go_wp2_with fail
        refine (sized_any au lu cu us _ (HUS.out.kept HK2.out)).mono ?_
        rintro e w3 ⟨rfl, hk3⟩
        have HK3 := Lib.hid (HK2.out.trans hk3)
        clear a0 a1 a2 hk3
        generalize szB us = B at *
        go_wp2
        go_ret
        exact ⟨retb HE.out, HK3.out⟩
    · have d2 : decide (k ≤ 255) = false := decide_eq_false h2
      have HE := Lib.hid (show R = false by rw [HR.out, d1, d2]; rfl)
      go_wp2
      go_ret
      exact ⟨retb HE.out, HK.out⟩
  · have d1 : decide (0 ≤ k) = false := decide_eq_false h1
    have HE := Lib.hid (show R = false by rw [HR.out, d1]; rfl)
    go_wp2
    go_ret
    exact ⟨retb HE.out, HK.out⟩
/-- manifest.Check: the error's number -/
def mfE (m : Mf) : Int := if mfB m = true then 0 else 1
set_option maxRecDepth 100000 in
set_option maxHeartbeats 2000000 in
theorem mcheck_any (k : Int) (ab : Option Addr) (lb cb : Nat) (au : Option Addr) (lu cu : Nat) (bs us : List ByteArray) (w : World) (hb : StrsIn w ab lb bs) (hu : StrsIn w au lu us) (hl : lb ≤ 1000000 ∧ lu ≤ 1000000) :
    Calls Try.prog 45 #[.agg #[.int .i64 k, .slice ab lb cb, .slice au lu cu]] w fun e w' => e = .returned (.int .i64 (mfE ⟨k, bs, us⟩)) ∧ Kept w w' := by
  have HBS := Lib.hid hb
  have HUS := Lib.hid hu
  have HF := Lib.hid (show mfB ⟨k, bs, us⟩ = (mfFew ⟨k, bs, us⟩ && (mfMade ⟨k, bs, us⟩ && (riB bs && riB us))) from rfl)
  have HFW := Lib.hid (fun w h1 h2 => few_any k ab lb cb au lu cu bs us w h1 h2 hl)
  have HMD := Lib.hid (fun w h1 h2 => made_any k ab lb cb au lu cu bs us w h1 h2)
  have HB := Lib.hid (BlockAt.new w #[.int .i64 k, .slice ab lb cb, .slice au lu cu] 28)
  have HK := Lib.hid ((Kept.refl w).alloc (.cells #[.int .i64 k, .slice ab lb cb, .slice au lu cu] 28))
  clear hb hu
  obtain ⟨R, hR⟩ : ∃ R, R = mfE ⟨k, bs, us⟩ := ⟨_, rfl⟩
  rw [← hR]
  have HR := Lib.hid (show R = if (mfFew ⟨k, bs, us⟩ && (mfMade ⟨k, bs, us⟩ && (riB bs && riB us))) = true then 0 else 1 by rw [hR]; unfold mfE; rw [HF.out])
  clear HF hR
  generalize mfFew ⟨k, bs, us⟩ = b1 at *
  generalize mfMade ⟨k, bs, us⟩ = b2 at *
  generalize hb3 : riB bs = b3 at *
  generalize hb4 : riB us = b4 at *
  have H3 := Lib.hid hb3
  have H4 := Lib.hid hb4
  clear hb3 hb4
  go_enter Try.func45, Try.ntmps45
  go_upto_region 1 with (fail)
  generalize w.alloc (.cells #[.int .i64 k, .slice ab lb cb, .slice au lu cu] 28) = w1 at *
  obtain ⟨a0, a1, a2⟩ := box3 HB.out
  go_wp2_with fail
  refine (HFW.out _ (HBS.out.kept HK.out) (HUS.out.kept HK.out)).mono ?_
  rintro e w2 ⟨rfl, hk2⟩
  have HK2 := Lib.hid (HK.out.trans hk2)
  clear a0 a1 a2
  obtain ⟨a0, a1, a2⟩ := box3k HB.out hk2
  have HB2 := Lib.hid (HB.out.kept hk2)
  clear hk2
  cases b1 with
  | false =>
    go_wp2
    go_ret
    exact ⟨reti (by rw [HR.out]; rfl), HK2.out⟩
  | true =>
    go_wp2_with fail
    refine (HMD.out _ (HBS.out.kept HK2.out) (HUS.out.kept HK2.out)).mono ?_
    rintro e w3 ⟨rfl, hk3⟩
    have HK3 := Lib.hid (HK2.out.trans hk3)
    clear a0 a1 a2
    obtain ⟨a0, a1, a2⟩ := box3k HB2.out hk3
    have HB3 := Lib.hid (HB2.out.kept hk3)
    clear hk3
    cases b2 with
    | false =>
      go_wp2
      go_ret
      exact ⟨reti (by rw [HR.out]; rfl), HK3.out⟩
    | true =>
      go_wp2_with fail
      refine (rising_any ab lb cb bs _ (HBS.out.kept HK3.out)).mono ?_
      rw [H3.out]
      rintro e w4 ⟨rfl, hk4⟩
      have HK4 := Lib.hid (HK3.out.trans hk4)
      clear a0 a1 a2
      obtain ⟨a0, a1, a2⟩ := box3k HB3.out hk4
      clear hk4
      cases b3 with
      | false =>
        go_wp2
        go_ret
        exact ⟨reti (by rw [HR.out]; rfl), HK4.out⟩
      | true =>
        go_wp2_with fail
        refine (rising_any au lu cu us _ (HUS.out.kept HK4.out)).mono ?_
        rw [H4.out]
        rintro e w5 ⟨rfl, hk5⟩
        have HK5 := Lib.hid (HK4.out.trans hk5)
        clear a0 a1 a2 hk5
        cases b4 with
        | false =>
          go_wp2
          go_ret
          exact ⟨reti (by rw [HR.out]; rfl), HK5.out⟩
        | true =>
          go_wp2
          go_ret
          exact ⟨reti (by rw [HR.out]; rfl), HK5.out⟩
end Go.Proofs.Ytdllenoclnmmdaa
