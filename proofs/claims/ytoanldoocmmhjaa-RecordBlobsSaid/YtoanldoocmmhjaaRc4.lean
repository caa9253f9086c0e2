/- record.may, by what it answers (no conditions but that numbers are ints). -/
import Derived.Test.YtoanldoocmmhjaaRc3
namespace Go.Proofs.Ytoanldoocmmhjaa
open Go.RowKit
theorem box5 {W : World} {b : Nat} {x0 x1 x2 x3 x4 : Value} {t : TypeId} (h : BlockAt W b #[x0, x1, x2, x3, x4] t) : W.cell? ⟨b, 0, none⟩ = some x0 ∧ W.cell? ⟨b, 1, none⟩ = some x1 ∧ W.cell? ⟨b, 2, none⟩ = some x2 ∧ W.cell? ⟨b, 3, none⟩ = some x3 ∧ W.cell? ⟨b, 4, none⟩ = some x4 :=
  ⟨by simpa using h.cell 0, by simpa using h.cell 1, by simpa using h.cell 2, by simpa using h.cell 3, by simpa using h.cell 4⟩
theorem str_no {s : ByteArray} (h : s.size = 0) : s.toList = [] ∧ (!s.toList.isEmpty) = false := by
  have h0 : s = ByteArray.empty := by simpa using h
  subst h0
  exact ⟨by rw [ByteArray.toList_eq]; rfl, by rw [ByteArray.toList_eq]; rfl⟩
theorem str_yes {s : ByteArray} (h : ¬ s.size = 0) : ¬ s.toList = [] ∧ (!s.toList.isEmpty) = true := by
  have h1 : ¬ s.toList = [] := by
    rw [ByteArray.toList_eq]
    intro h2
    apply h
    have h3 : s.data.toList.length = 0 := by rw [h2]; rfl
    simpa using h3
  refine ⟨h1, ?_⟩
  cases hs : s.toList with
  | nil => exact absurd hs h1
  | cons a l => rfl
theorem name_within (s : ByteArray) : decide (1 ≤ s.size ∧ s.size ≤ 40) = Rc.within s.size 1 40 := by
  unfold Rc.within
  rw [decide_eq_decide]
  omega
set_option maxRecDepth 100000 in
set_option maxHeartbeats 800000 in
theorem may_1 (id : Int) (name dig : ByteArray) (al : Option Addr) (nl cl : Nat) (az : Option Addr) (nz cz : Nat) (zs : List Int) (ys : List (Int × Int)) (w : World) (h : RecIn w ⟨1, id, name, dig, zs, ys⟩ al nl az nz) :
    Calls Try.prog 33 #[.agg #[.int .i64 1, .int .i64 id, .string name, .string dig, .slice al nl cl, .slice az nz cz]] w fun e w' => e = .returned (.bool (Rec.may ⟨1, id, name, dig, zs, ys⟩)) ∧ Kept w w' := by
  have HI := Lib.hid h
  have HMAY := Lib.hid (show Rec.may ⟨1, id, name, dig, zs, ys⟩ = (Rc.okK 1 && Rec.idB ⟨1, id, name, dig, zs, ys⟩ && Rec.nameB ⟨1, id, name, dig, zs, ys⟩ && Rec.digB ⟨1, id, name, dig, zs, ys⟩ && Rec.lstB ⟨1, id, name, dig, zs, ys⟩ && Rec.sltB ⟨1, id, name, dig, zs, ys⟩) from rfl)
  clear h
  go_enter Try.func33, Try.ntmps33
  go_wp2_with fail
  refine (named_any 1 _).mono ?_
  rintro e w1 ⟨rfl, hk⟩
  have HK := Lib.hid (((Kept.refl w).alloc _).trans hk)
  have hb := (BlockAt.new w #[.int .i64 1, .int .i64 id, .string name, .string dig, .slice al nl cl, .slice az nz cz] 31).kept hk
  clear hk
  rw [show kfields 1 = #[.bool true, .bool false, .bool false, .bool false, .bool true] from rfl, show Rc.okK 1 = true from rfl]
  go_upto_region 2 with (fail)
  have HBR := Lib.hid (hb.kept ((Kept.refl w1).alloc (.cells #[.bool true, .bool false, .bool false, .bool false, .bool true] 72)))
  have HBF := Lib.hid (BlockAt.new w1 #[.bool true, .bool false, .bool false, .bool false, .bool true] 72)
  have HKZ := Lib.hid (HK.out.alloc (.cells #[.bool true, .bool false, .bool false, .bool false, .bool true] 72))
  have HKW := Lib.hid HKZ.out
  clear hb HK
  generalize w1.alloc (.cells #[.bool true, .bool false, .bool false, .bool false, .bool true] 72) = w2 at *
  obtain ⟨a0, a1, a2, a3, a4, a5⟩ := box6 HBR.out
  obtain ⟨b0, b1, b2, b3, b4⟩ := box5 HBF.out
  go_wp2_with fail
  refine (within_any id 0 1073741824 _).mono ?_
  rintro e w' ⟨rfl, rfl⟩
  have hst : Rec.idB ⟨1, id, name, dig, zs, ys⟩ = Rc.within id 0 1073741824 := rfl
  cases ht : Rc.within id 0 1073741824 with
  | false =>
    have HS1 := Lib.hid (hst.trans ht)
    clear hst ht
    have hv : Rec.may ⟨1, id, name, dig, zs, ys⟩ = false := by rw [HMAY.out, HS1.out]; simp
    have HV := Lib.hid hv
    clear hv
    go_wp2
    go_ret
    exact ⟨by rw [HV.out]; rfl, HKZ.out⟩
  | true =>
    have HS1 := Lib.hid (hst.trans ht)
    clear hst ht
    by_cases h : name.size = 0
    · have HS2 := Lib.hid (show Rec.nameB ⟨1, id, name, dig, zs, ys⟩ = true by exact decide_eq_true h)
      obtain ⟨d, d'⟩ := str_no h
      clear h
      by_cases h : dig.size = 0
      · have HS3 := Lib.hid (show Rec.digB ⟨1, id, name, dig, zs, ys⟩ = true by exact decide_eq_true h)
        obtain ⟨d, d'⟩ := str_no h
        clear h
        by_cases h : nl = 0
        · have HS4 := Lib.hid (show Rec.lstB ⟨1, id, name, dig, zs, ys⟩ = true by show decide (zs.length = 0) = true; rw [show zs.length = nl from HI.out.list.len_eq]; exact decide_eq_true h)
          have d : ((nl : Int) != 0) = false := by rw [h]; rfl
          clear h
          go_wp2_with fail
          refine (places_any az nz cz ys _ (HI.out.slots.kept HKW.out)).mono ?_
          rintro e w8 ⟨rfl, hk⟩
          have HKZ := Lib.hid (HKZ.out.trans hk)
          have HKW := Lib.hid (HKW.out.trans hk)
          have HBR := Lib.hid (HBR.out.kept hk)
          have HBF := Lib.hid (HBF.out.kept hk)
          clear hk
          obtain ⟨a0, a1, a2, a3, a4, a5⟩ := box6 HBR.out
          obtain ⟨b0, b1, b2, b3, b4⟩ := box5 HBF.out
          have hst : Rec.sltB ⟨1, id, name, dig, zs, ys⟩ = Rc.slotsB ys := rfl
          cases ht : Rc.slotsB ys with
          | false =>
            have HS5 := Lib.hid (hst.trans ht)
            clear hst ht
            have hv : Rec.may ⟨1, id, name, dig, zs, ys⟩ = false := by rw [HMAY.out, HS1.out, HS2.out, HS3.out, HS4.out, HS5.out]; simp
            have HV := Lib.hid hv
            clear hv
            go_wp2
            go_ret
            exact ⟨by rw [HV.out]; rfl, HKZ.out⟩
          | true =>
            have HS5 := Lib.hid (hst.trans ht)
            clear hst ht
            have hv : Rec.may ⟨1, id, name, dig, zs, ys⟩ = true := by rw [HMAY.out, HS1.out, HS2.out, HS3.out, HS4.out, HS5.out]; rfl
            have HV := Lib.hid hv
            clear hv
            go_wp2
            go_ret
            exact ⟨by rw [HV.out]; rfl, HKZ.out⟩
        · have HS4 := Lib.hid (show Rec.lstB ⟨1, id, name, dig, zs, ys⟩ = false by show decide (zs.length = 0) = false; rw [show zs.length = nl from HI.out.list.len_eq]; exact decide_eq_false h)
          have d : ((nl : Int) != 0) = true := by rw [bne_iff_ne]; omega
          clear h
          have hv : Rec.may ⟨1, id, name, dig, zs, ys⟩ = false := by rw [HMAY.out, HS1.out, HS2.out, HS3.out, HS4.out]; simp
          have HV := Lib.hid hv
          clear hv
          go_wp2
          go_ret
          exact ⟨by rw [HV.out]; rfl, HKZ.out⟩
      · have HS3 := Lib.hid (show Rec.digB ⟨1, id, name, dig, zs, ys⟩ = false by exact decide_eq_false h)
        obtain ⟨d, d'⟩ := str_yes h
        clear h
        have hv : Rec.may ⟨1, id, name, dig, zs, ys⟩ = false := by rw [HMAY.out, HS1.out, HS2.out, HS3.out]; simp
        have HV := Lib.hid hv
        clear hv
        go_wp2
        go_ret
        exact ⟨by rw [HV.out]; rfl, HKZ.out⟩
    · have HS2 := Lib.hid (show Rec.nameB ⟨1, id, name, dig, zs, ys⟩ = false by exact decide_eq_false h)
      obtain ⟨d, d'⟩ := str_yes h
      clear h
      have hv : Rec.may ⟨1, id, name, dig, zs, ys⟩ = false := by rw [HMAY.out, HS1.out, HS2.out]; simp
      have HV := Lib.hid hv
      clear hv
      go_wp2
      go_ret
      exact ⟨by rw [HV.out]; rfl, HKZ.out⟩
set_option maxRecDepth 100000 in
set_option maxHeartbeats 800000 in
theorem may_2 (id : Int) (name dig : ByteArray) (al : Option Addr) (nl cl : Nat) (az : Option Addr) (nz cz : Nat) (zs : List Int) (ys : List (Int × Int)) (w : World) (h : RecIn w ⟨2, id, name, dig, zs, ys⟩ al nl az nz) :
    Calls Try.prog 33 #[.agg #[.int .i64 2, .int .i64 id, .string name, .string dig, .slice al nl cl, .slice az nz cz]] w fun e w' => e = .returned (.bool (Rec.may ⟨2, id, name, dig, zs, ys⟩)) ∧ Kept w w' := by
  have HI := Lib.hid h
  have HMAY := Lib.hid (show Rec.may ⟨2, id, name, dig, zs, ys⟩ = (Rc.okK 2 && Rec.idB ⟨2, id, name, dig, zs, ys⟩ && Rec.nameB ⟨2, id, name, dig, zs, ys⟩ && Rec.digB ⟨2, id, name, dig, zs, ys⟩ && Rec.lstB ⟨2, id, name, dig, zs, ys⟩ && Rec.sltB ⟨2, id, name, dig, zs, ys⟩) from rfl)
  clear h
  go_enter Try.func33, Try.ntmps33
  go_wp2_with fail
  refine (named_any 2 _).mono ?_
  rintro e w1 ⟨rfl, hk⟩
  have HK := Lib.hid (((Kept.refl w).alloc _).trans hk)
  have hb := (BlockAt.new w #[.int .i64 2, .int .i64 id, .string name, .string dig, .slice al nl cl, .slice az nz cz] 31).kept hk
  clear hk
  rw [show kfields 2 = #[.bool true, .bool false, .bool false, .bool true, .bool true] from rfl, show Rc.okK 2 = true from rfl]
  go_upto_region 2 with (fail)
  have HBR := Lib.hid (hb.kept ((Kept.refl w1).alloc (.cells #[.bool true, .bool false, .bool false, .bool true, .bool true] 72)))
  have HBF := Lib.hid (BlockAt.new w1 #[.bool true, .bool false, .bool false, .bool true, .bool true] 72)
  have HKZ := Lib.hid (HK.out.alloc (.cells #[.bool true, .bool false, .bool false, .bool true, .bool true] 72))
  have HKW := Lib.hid HKZ.out
  clear hb HK
  generalize w1.alloc (.cells #[.bool true, .bool false, .bool false, .bool true, .bool true] 72) = w2 at *
  obtain ⟨a0, a1, a2, a3, a4, a5⟩ := box6 HBR.out
  obtain ⟨b0, b1, b2, b3, b4⟩ := box5 HBF.out
  go_wp2_with fail
  refine (within_any id 0 1073741824 _).mono ?_
  rintro e w' ⟨rfl, rfl⟩
  have hst : Rec.idB ⟨2, id, name, dig, zs, ys⟩ = Rc.within id 0 1073741824 := rfl
  cases ht : Rc.within id 0 1073741824 with
  | false =>
    have HS1 := Lib.hid (hst.trans ht)
    clear hst ht
    have hv : Rec.may ⟨2, id, name, dig, zs, ys⟩ = false := by rw [HMAY.out, HS1.out]; simp
    have HV := Lib.hid hv
    clear hv
    go_wp2
    go_ret
    exact ⟨by rw [HV.out]; rfl, HKZ.out⟩
  | true =>
    have HS1 := Lib.hid (hst.trans ht)
    clear hst ht
    by_cases h : name.size = 0
    · have HS2 := Lib.hid (show Rec.nameB ⟨2, id, name, dig, zs, ys⟩ = true by exact decide_eq_true h)
      obtain ⟨d, d'⟩ := str_no h
      clear h
      by_cases h : dig.size = 0
      · have HS3 := Lib.hid (show Rec.digB ⟨2, id, name, dig, zs, ys⟩ = true by exact decide_eq_true h)
        obtain ⟨d, d'⟩ := str_no h
        clear h
        go_wp2_with fail
        refine (numbers_any 2 id name dig al nl cl az nz cz zs _ (HI.out.list.kept HKW.out)).mono ?_
        rintro e w7 ⟨rfl, hk⟩
        have HKZ := Lib.hid (HKZ.out.trans hk)
        have HKW := Lib.hid (HKW.out.trans hk)
        have HBR := Lib.hid (HBR.out.kept hk)
        have HBF := Lib.hid (HBF.out.kept hk)
        clear hk
        obtain ⟨a0, a1, a2, a3, a4, a5⟩ := box6 HBR.out
        obtain ⟨b0, b1, b2, b3, b4⟩ := box5 HBF.out
        have hst : Rec.lstB ⟨2, id, name, dig, zs, ys⟩ = Rc.listB 2 zs := rfl
        cases ht : Rc.listB 2 zs with
        | false =>
          have HS4 := Lib.hid (hst.trans ht)
          clear hst ht
          have hv : Rec.may ⟨2, id, name, dig, zs, ys⟩ = false := by rw [HMAY.out, HS1.out, HS2.out, HS3.out, HS4.out]; simp
          have HV := Lib.hid hv
          clear hv
          go_wp2
          go_ret
          exact ⟨by rw [HV.out]; rfl, HKZ.out⟩
        | true =>
          have HS4 := Lib.hid (hst.trans ht)
          clear hst ht
          go_wp2_with fail
          refine (places_any az nz cz ys _ (HI.out.slots.kept HKW.out)).mono ?_
          rintro e w8 ⟨rfl, hk⟩
          have HKZ := Lib.hid (HKZ.out.trans hk)
          have HKW := Lib.hid (HKW.out.trans hk)
          have HBR := Lib.hid (HBR.out.kept hk)
          have HBF := Lib.hid (HBF.out.kept hk)
          clear hk
          obtain ⟨a0, a1, a2, a3, a4, a5⟩ := box6 HBR.out
          obtain ⟨b0, b1, b2, b3, b4⟩ := box5 HBF.out
          have hst : Rec.sltB ⟨2, id, name, dig, zs, ys⟩ = Rc.slotsB ys := rfl
          cases ht : Rc.slotsB ys with
          | false =>
            have HS5 := Lib.hid (hst.trans ht)
            clear hst ht
            have hv : Rec.may ⟨2, id, name, dig, zs, ys⟩ = false := by rw [HMAY.out, HS1.out, HS2.out, HS3.out, HS4.out, HS5.out]; simp
            have HV := Lib.hid hv
            clear hv
            go_wp2
            go_ret
            exact ⟨by rw [HV.out]; rfl, HKZ.out⟩
          | true =>
            have HS5 := Lib.hid (hst.trans ht)
            clear hst ht
            have hv : Rec.may ⟨2, id, name, dig, zs, ys⟩ = true := by rw [HMAY.out, HS1.out, HS2.out, HS3.out, HS4.out, HS5.out]; rfl
            have HV := Lib.hid hv
            clear hv
            go_wp2
            go_ret
            exact ⟨by rw [HV.out]; rfl, HKZ.out⟩
      · have HS3 := Lib.hid (show Rec.digB ⟨2, id, name, dig, zs, ys⟩ = false by exact decide_eq_false h)
        obtain ⟨d, d'⟩ := str_yes h
        clear h
        have hv : Rec.may ⟨2, id, name, dig, zs, ys⟩ = false := by rw [HMAY.out, HS1.out, HS2.out, HS3.out]; simp
        have HV := Lib.hid hv
        clear hv
        go_wp2
        go_ret
        exact ⟨by rw [HV.out]; rfl, HKZ.out⟩
    · have HS2 := Lib.hid (show Rec.nameB ⟨2, id, name, dig, zs, ys⟩ = false by exact decide_eq_false h)
      obtain ⟨d, d'⟩ := str_yes h
      clear h
      have hv : Rec.may ⟨2, id, name, dig, zs, ys⟩ = false := by rw [HMAY.out, HS1.out, HS2.out]; simp
      have HV := Lib.hid hv
      clear hv
      go_wp2
      go_ret
      exact ⟨by rw [HV.out]; rfl, HKZ.out⟩
set_option maxRecDepth 100000 in
set_option maxHeartbeats 800000 in
theorem may_3 (id : Int) (name dig : ByteArray) (al : Option Addr) (nl cl : Nat) (az : Option Addr) (nz cz : Nat) (zs : List Int) (ys : List (Int × Int)) (w : World) (h : RecIn w ⟨3, id, name, dig, zs, ys⟩ al nl az nz) :
    Calls Try.prog 33 #[.agg #[.int .i64 3, .int .i64 id, .string name, .string dig, .slice al nl cl, .slice az nz cz]] w fun e w' => e = .returned (.bool (Rec.may ⟨3, id, name, dig, zs, ys⟩)) ∧ Kept w w' := by
  have HI := Lib.hid h
  have HMAY := Lib.hid (show Rec.may ⟨3, id, name, dig, zs, ys⟩ = (Rc.okK 3 && Rec.idB ⟨3, id, name, dig, zs, ys⟩ && Rec.nameB ⟨3, id, name, dig, zs, ys⟩ && Rec.digB ⟨3, id, name, dig, zs, ys⟩ && Rec.lstB ⟨3, id, name, dig, zs, ys⟩ && Rec.sltB ⟨3, id, name, dig, zs, ys⟩) from rfl)
  clear h
  go_enter Try.func33, Try.ntmps33
  go_wp2_with fail
  refine (named_any 3 _).mono ?_
  rintro e w1 ⟨rfl, hk⟩
  have HK := Lib.hid (((Kept.refl w).alloc _).trans hk)
  have hb := (BlockAt.new w #[.int .i64 3, .int .i64 id, .string name, .string dig, .slice al nl cl, .slice az nz cz] 31).kept hk
  clear hk
  rw [show kfields 3 = #[.bool true, .bool false, .bool false, .bool false, .bool false] from rfl, show Rc.okK 3 = true from rfl]
  go_upto_region 2 with (fail)
  have HBR := Lib.hid (hb.kept ((Kept.refl w1).alloc (.cells #[.bool true, .bool false, .bool false, .bool false, .bool false] 72)))
  have HBF := Lib.hid (BlockAt.new w1 #[.bool true, .bool false, .bool false, .bool false, .bool false] 72)
  have HKZ := Lib.hid (HK.out.alloc (.cells #[.bool true, .bool false, .bool false, .bool false, .bool false] 72))
  have HKW := Lib.hid HKZ.out
  clear hb HK
  generalize w1.alloc (.cells #[.bool true, .bool false, .bool false, .bool false, .bool false] 72) = w2 at *
  obtain ⟨a0, a1, a2, a3, a4, a5⟩ := box6 HBR.out
  obtain ⟨b0, b1, b2, b3, b4⟩ := box5 HBF.out
  go_wp2_with fail
  refine (within_any id 0 1073741824 _).mono ?_
  rintro e w' ⟨rfl, rfl⟩
  have hst : Rec.idB ⟨3, id, name, dig, zs, ys⟩ = Rc.within id 0 1073741824 := rfl
  cases ht : Rc.within id 0 1073741824 with
  | false =>
    have HS1 := Lib.hid (hst.trans ht)
    clear hst ht
    have hv : Rec.may ⟨3, id, name, dig, zs, ys⟩ = false := by rw [HMAY.out, HS1.out]; simp
    have HV := Lib.hid hv
    clear hv
    go_wp2
    go_ret
    exact ⟨by rw [HV.out]; rfl, HKZ.out⟩
  | true =>
    have HS1 := Lib.hid (hst.trans ht)
    clear hst ht
    by_cases h : name.size = 0
    · have HS2 := Lib.hid (show Rec.nameB ⟨3, id, name, dig, zs, ys⟩ = true by exact decide_eq_true h)
      obtain ⟨d, d'⟩ := str_no h
      clear h
      by_cases h : dig.size = 0
      · have HS3 := Lib.hid (show Rec.digB ⟨3, id, name, dig, zs, ys⟩ = true by exact decide_eq_true h)
        obtain ⟨d, d'⟩ := str_no h
        clear h
        by_cases h : nl = 0
        · have HS4 := Lib.hid (show Rec.lstB ⟨3, id, name, dig, zs, ys⟩ = true by show decide (zs.length = 0) = true; rw [show zs.length = nl from HI.out.list.len_eq]; exact decide_eq_true h)
          have d : ((nl : Int) != 0) = false := by rw [h]; rfl
          clear h
          by_cases h : nz = 0
          · have HS5 := Lib.hid (show Rec.sltB ⟨3, id, name, dig, zs, ys⟩ = true by show decide (ys.length = 0) = true; rw [show ys.length = nz from HI.out.slots.len_eq]; exact decide_eq_true h)
            have d : ((nz : Int) != 0) = false := by rw [h]; rfl
            clear h
            have hv : Rec.may ⟨3, id, name, dig, zs, ys⟩ = true := by rw [HMAY.out, HS1.out, HS2.out, HS3.out, HS4.out, HS5.out]; rfl
            have HV := Lib.hid hv
            clear hv
            go_wp2
            go_ret
            exact ⟨by rw [HV.out]; rfl, HKZ.out⟩
          · have HS5 := Lib.hid (show Rec.sltB ⟨3, id, name, dig, zs, ys⟩ = false by show decide (ys.length = 0) = false; rw [show ys.length = nz from HI.out.slots.len_eq]; exact decide_eq_false h)
            have d : ((nz : Int) != 0) = true := by rw [bne_iff_ne]; omega
            clear h
            have hv : Rec.may ⟨3, id, name, dig, zs, ys⟩ = false := by rw [HMAY.out, HS1.out, HS2.out, HS3.out, HS4.out, HS5.out]; simp
            have HV := Lib.hid hv
            clear hv
            go_wp2
            go_ret
            exact ⟨by rw [HV.out]; rfl, HKZ.out⟩
        · have HS4 := Lib.hid (show Rec.lstB ⟨3, id, name, dig, zs, ys⟩ = false by show decide (zs.length = 0) = false; rw [show zs.length = nl from HI.out.list.len_eq]; exact decide_eq_false h)
          have d : ((nl : Int) != 0) = true := by rw [bne_iff_ne]; omega
          clear h
          have hv : Rec.may ⟨3, id, name, dig, zs, ys⟩ = false := by rw [HMAY.out, HS1.out, HS2.out, HS3.out, HS4.out]; simp
          have HV := Lib.hid hv
          clear hv
          go_wp2
          go_ret
          exact ⟨by rw [HV.out]; rfl, HKZ.out⟩
      · have HS3 := Lib.hid (show Rec.digB ⟨3, id, name, dig, zs, ys⟩ = false by exact decide_eq_false h)
        obtain ⟨d, d'⟩ := str_yes h
        clear h
        have hv : Rec.may ⟨3, id, name, dig, zs, ys⟩ = false := by rw [HMAY.out, HS1.out, HS2.out, HS3.out]; simp
        have HV := Lib.hid hv
        clear hv
        go_wp2
        go_ret
        exact ⟨by rw [HV.out]; rfl, HKZ.out⟩
    · have HS2 := Lib.hid (show Rec.nameB ⟨3, id, name, dig, zs, ys⟩ = false by exact decide_eq_false h)
      obtain ⟨d, d'⟩ := str_yes h
      clear h
      have hv : Rec.may ⟨3, id, name, dig, zs, ys⟩ = false := by rw [HMAY.out, HS1.out, HS2.out]; simp
      have HV := Lib.hid hv
      clear hv
      go_wp2
      go_ret
      exact ⟨by rw [HV.out]; rfl, HKZ.out⟩
set_option maxRecDepth 100000 in
set_option maxHeartbeats 800000 in
theorem may_4 (id : Int) (name dig : ByteArray) (al : Option Addr) (nl cl : Nat) (az : Option Addr) (nz cz : Nat) (zs : List Int) (ys : List (Int × Int)) (w : World) (h : RecIn w ⟨4, id, name, dig, zs, ys⟩ al nl az nz) :
    Calls Try.prog 33 #[.agg #[.int .i64 4, .int .i64 id, .string name, .string dig, .slice al nl cl, .slice az nz cz]] w fun e w' => e = .returned (.bool (Rec.may ⟨4, id, name, dig, zs, ys⟩)) ∧ Kept w w' := by
  have HI := Lib.hid h
  have HMAY := Lib.hid (show Rec.may ⟨4, id, name, dig, zs, ys⟩ = (Rc.okK 4 && Rec.idB ⟨4, id, name, dig, zs, ys⟩ && Rec.nameB ⟨4, id, name, dig, zs, ys⟩ && Rec.digB ⟨4, id, name, dig, zs, ys⟩ && Rec.lstB ⟨4, id, name, dig, zs, ys⟩ && Rec.sltB ⟨4, id, name, dig, zs, ys⟩) from rfl)
  clear h
  go_enter Try.func33, Try.ntmps33
  go_wp2_with fail
  refine (named_any 4 _).mono ?_
  rintro e w1 ⟨rfl, hk⟩
  have HK := Lib.hid (((Kept.refl w).alloc _).trans hk)
  have hb := (BlockAt.new w #[.int .i64 4, .int .i64 id, .string name, .string dig, .slice al nl cl, .slice az nz cz] 31).kept hk
  clear hk
  rw [show kfields 4 = #[.bool true, .bool false, .bool true, .bool true, .bool false] from rfl, show Rc.okK 4 = true from rfl]
  go_upto_region 2 with (fail)
  have HBR := Lib.hid (hb.kept ((Kept.refl w1).alloc (.cells #[.bool true, .bool false, .bool true, .bool true, .bool false] 72)))
  have HBF := Lib.hid (BlockAt.new w1 #[.bool true, .bool false, .bool true, .bool true, .bool false] 72)
  have HKZ := Lib.hid (HK.out.alloc (.cells #[.bool true, .bool false, .bool true, .bool true, .bool false] 72))
  have HKW := Lib.hid HKZ.out
  clear hb HK
  generalize w1.alloc (.cells #[.bool true, .bool false, .bool true, .bool true, .bool false] 72) = w2 at *
  obtain ⟨a0, a1, a2, a3, a4, a5⟩ := box6 HBR.out
  obtain ⟨b0, b1, b2, b3, b4⟩ := box5 HBF.out
  go_wp2_with fail
  refine (within_any id 0 1073741824 _).mono ?_
  rintro e w' ⟨rfl, rfl⟩
  have hst : Rec.idB ⟨4, id, name, dig, zs, ys⟩ = Rc.within id 0 1073741824 := rfl
  cases ht : Rc.within id 0 1073741824 with
  | false =>
    have HS1 := Lib.hid (hst.trans ht)
    clear hst ht
    have hv : Rec.may ⟨4, id, name, dig, zs, ys⟩ = false := by rw [HMAY.out, HS1.out]; simp
    have HV := Lib.hid hv
    clear hv
    go_wp2
    go_ret
    exact ⟨by rw [HV.out]; rfl, HKZ.out⟩
  | true =>
    have HS1 := Lib.hid (hst.trans ht)
    clear hst ht
    by_cases h : name.size = 0
    · have HS2 := Lib.hid (show Rec.nameB ⟨4, id, name, dig, zs, ys⟩ = true by exact decide_eq_true h)
      obtain ⟨d, d'⟩ := str_no h
      clear h
      by_cases h : dig.size = 32
      · have HS3 := Lib.hid (show Rec.digB ⟨4, id, name, dig, zs, ys⟩ = true by exact decide_eq_true h)
        have d : ((dig.size : Int) != 32) = false := by rw [h]; rfl
        clear h
        go_wp2_with fail
        refine (numbers_any 4 id name dig al nl cl az nz cz zs _ (HI.out.list.kept HKW.out)).mono ?_
        rintro e w7 ⟨rfl, hk⟩
        have HKZ := Lib.hid (HKZ.out.trans hk)
        have HKW := Lib.hid (HKW.out.trans hk)
        have HBR := Lib.hid (HBR.out.kept hk)
        have HBF := Lib.hid (HBF.out.kept hk)
        clear hk
        obtain ⟨a0, a1, a2, a3, a4, a5⟩ := box6 HBR.out
        obtain ⟨b0, b1, b2, b3, b4⟩ := box5 HBF.out
        have hst : Rec.lstB ⟨4, id, name, dig, zs, ys⟩ = Rc.listB 4 zs := rfl
        cases ht : Rc.listB 4 zs with
        | false =>
          have HS4 := Lib.hid (hst.trans ht)
          clear hst ht
          have hv : Rec.may ⟨4, id, name, dig, zs, ys⟩ = false := by rw [HMAY.out, HS1.out, HS2.out, HS3.out, HS4.out]; simp
          have HV := Lib.hid hv
          clear hv
          go_wp2
          go_ret
          exact ⟨by rw [HV.out]; rfl, HKZ.out⟩
        | true =>
          have HS4 := Lib.hid (hst.trans ht)
          clear hst ht
          by_cases h : nz = 0
          · have HS5 := Lib.hid (show Rec.sltB ⟨4, id, name, dig, zs, ys⟩ = true by show decide (ys.length = 0) = true; rw [show ys.length = nz from HI.out.slots.len_eq]; exact decide_eq_true h)
            have d : ((nz : Int) != 0) = false := by rw [h]; rfl
            clear h
            have hv : Rec.may ⟨4, id, name, dig, zs, ys⟩ = true := by rw [HMAY.out, HS1.out, HS2.out, HS3.out, HS4.out, HS5.out]; rfl
            have HV := Lib.hid hv
            clear hv
            go_wp2
            go_ret
            exact ⟨by rw [HV.out]; rfl, HKZ.out⟩
          · have HS5 := Lib.hid (show Rec.sltB ⟨4, id, name, dig, zs, ys⟩ = false by show decide (ys.length = 0) = false; rw [show ys.length = nz from HI.out.slots.len_eq]; exact decide_eq_false h)
            have d : ((nz : Int) != 0) = true := by rw [bne_iff_ne]; omega
            clear h
            have hv : Rec.may ⟨4, id, name, dig, zs, ys⟩ = false := by rw [HMAY.out, HS1.out, HS2.out, HS3.out, HS4.out, HS5.out]; simp
            have HV := Lib.hid hv
            clear hv
            go_wp2
            go_ret
            exact ⟨by rw [HV.out]; rfl, HKZ.out⟩
      · have HS3 := Lib.hid (show Rec.digB ⟨4, id, name, dig, zs, ys⟩ = false by exact decide_eq_false h)
        have d : ((dig.size : Int) != 32) = true := by rw [bne_iff_ne]; omega
        clear h
        have hv : Rec.may ⟨4, id, name, dig, zs, ys⟩ = false := by rw [HMAY.out, HS1.out, HS2.out, HS3.out]; simp
        have HV := Lib.hid hv
        clear hv
        go_wp2
        go_ret
        exact ⟨by rw [HV.out]; rfl, HKZ.out⟩
    · have HS2 := Lib.hid (show Rec.nameB ⟨4, id, name, dig, zs, ys⟩ = false by exact decide_eq_false h)
      obtain ⟨d, d'⟩ := str_yes h
      clear h
      have hv : Rec.may ⟨4, id, name, dig, zs, ys⟩ = false := by rw [HMAY.out, HS1.out, HS2.out]; simp
      have HV := Lib.hid hv
      clear hv
      go_wp2
      go_ret
      exact ⟨by rw [HV.out]; rfl, HKZ.out⟩
set_option maxRecDepth 100000 in
set_option maxHeartbeats 800000 in
theorem may_5 (id : Int) (name dig : ByteArray) (al : Option Addr) (nl cl : Nat) (az : Option Addr) (nz cz : Nat) (zs : List Int) (ys : List (Int × Int)) (w : World) (h : RecIn w ⟨5, id, name, dig, zs, ys⟩ al nl az nz) :
    Calls Try.prog 33 #[.agg #[.int .i64 5, .int .i64 id, .string name, .string dig, .slice al nl cl, .slice az nz cz]] w fun e w' => e = .returned (.bool (Rec.may ⟨5, id, name, dig, zs, ys⟩)) ∧ Kept w w' := by
  have HI := Lib.hid h
  have HMAY := Lib.hid (show Rec.may ⟨5, id, name, dig, zs, ys⟩ = (Rc.okK 5 && Rec.idB ⟨5, id, name, dig, zs, ys⟩ && Rec.nameB ⟨5, id, name, dig, zs, ys⟩ && Rec.digB ⟨5, id, name, dig, zs, ys⟩ && Rec.lstB ⟨5, id, name, dig, zs, ys⟩ && Rec.sltB ⟨5, id, name, dig, zs, ys⟩) from rfl)
  clear h
  go_enter Try.func33, Try.ntmps33
  go_wp2_with fail
  refine (named_any 5 _).mono ?_
  rintro e w1 ⟨rfl, hk⟩
  have HK := Lib.hid (((Kept.refl w).alloc _).trans hk)
  have hb := (BlockAt.new w #[.int .i64 5, .int .i64 id, .string name, .string dig, .slice al nl cl, .slice az nz cz] 31).kept hk
  clear hk
  rw [show kfields 5 = #[.bool true, .bool false, .bool true, .bool true, .bool false] from rfl, show Rc.okK 5 = true from rfl]
  go_upto_region 2 with (fail)
  have HBR := Lib.hid (hb.kept ((Kept.refl w1).alloc (.cells #[.bool true, .bool false, .bool true, .bool true, .bool false] 72)))
  have HBF := Lib.hid (BlockAt.new w1 #[.bool true, .bool false, .bool true, .bool true, .bool false] 72)
  have HKZ := Lib.hid (HK.out.alloc (.cells #[.bool true, .bool false, .bool true, .bool true, .bool false] 72))
  have HKW := Lib.hid HKZ.out
  clear hb HK
  generalize w1.alloc (.cells #[.bool true, .bool false, .bool true, .bool true, .bool false] 72) = w2 at *
  obtain ⟨a0, a1, a2, a3, a4, a5⟩ := box6 HBR.out
  obtain ⟨b0, b1, b2, b3, b4⟩ := box5 HBF.out
  go_wp2_with fail
  refine (within_any id 0 1073741824 _).mono ?_
  rintro e w' ⟨rfl, rfl⟩
  have hst : Rec.idB ⟨5, id, name, dig, zs, ys⟩ = Rc.within id 0 1073741824 := rfl
  cases ht : Rc.within id 0 1073741824 with
  | false =>
    have HS1 := Lib.hid (hst.trans ht)
    clear hst ht
    have hv : Rec.may ⟨5, id, name, dig, zs, ys⟩ = false := by rw [HMAY.out, HS1.out]; simp
    have HV := Lib.hid hv
    clear hv
    go_wp2
    go_ret
    exact ⟨by rw [HV.out]; rfl, HKZ.out⟩
  | true =>
    have HS1 := Lib.hid (hst.trans ht)
    clear hst ht
    by_cases h : name.size = 0
    · have HS2 := Lib.hid (show Rec.nameB ⟨5, id, name, dig, zs, ys⟩ = true by exact decide_eq_true h)
      obtain ⟨d, d'⟩ := str_no h
      clear h
      by_cases h : dig.size = 32
      · have HS3 := Lib.hid (show Rec.digB ⟨5, id, name, dig, zs, ys⟩ = true by exact decide_eq_true h)
        have d : ((dig.size : Int) != 32) = false := by rw [h]; rfl
        clear h
        go_wp2_with fail
        refine (numbers_any 5 id name dig al nl cl az nz cz zs _ (HI.out.list.kept HKW.out)).mono ?_
        rintro e w7 ⟨rfl, hk⟩
        have HKZ := Lib.hid (HKZ.out.trans hk)
        have HKW := Lib.hid (HKW.out.trans hk)
        have HBR := Lib.hid (HBR.out.kept hk)
        have HBF := Lib.hid (HBF.out.kept hk)
        clear hk
        obtain ⟨a0, a1, a2, a3, a4, a5⟩ := box6 HBR.out
        obtain ⟨b0, b1, b2, b3, b4⟩ := box5 HBF.out
        have hst : Rec.lstB ⟨5, id, name, dig, zs, ys⟩ = Rc.listB 5 zs := rfl
        cases ht : Rc.listB 5 zs with
        | false =>
          have HS4 := Lib.hid (hst.trans ht)
          clear hst ht
          have hv : Rec.may ⟨5, id, name, dig, zs, ys⟩ = false := by rw [HMAY.out, HS1.out, HS2.out, HS3.out, HS4.out]; simp
          have HV := Lib.hid hv
          clear hv
          go_wp2
          go_ret
          exact ⟨by rw [HV.out]; rfl, HKZ.out⟩
        | true =>
          have HS4 := Lib.hid (hst.trans ht)
          clear hst ht
          by_cases h : nz = 0
          · have HS5 := Lib.hid (show Rec.sltB ⟨5, id, name, dig, zs, ys⟩ = true by show decide (ys.length = 0) = true; rw [show ys.length = nz from HI.out.slots.len_eq]; exact decide_eq_true h)
            have d : ((nz : Int) != 0) = false := by rw [h]; rfl
            clear h
            have hv : Rec.may ⟨5, id, name, dig, zs, ys⟩ = true := by rw [HMAY.out, HS1.out, HS2.out, HS3.out, HS4.out, HS5.out]; rfl
            have HV := Lib.hid hv
            clear hv
            go_wp2
            go_ret
            exact ⟨by rw [HV.out]; rfl, HKZ.out⟩
          · have HS5 := Lib.hid (show Rec.sltB ⟨5, id, name, dig, zs, ys⟩ = false by show decide (ys.length = 0) = false; rw [show ys.length = nz from HI.out.slots.len_eq]; exact decide_eq_false h)
            have d : ((nz : Int) != 0) = true := by rw [bne_iff_ne]; omega
            clear h
            have hv : Rec.may ⟨5, id, name, dig, zs, ys⟩ = false := by rw [HMAY.out, HS1.out, HS2.out, HS3.out, HS4.out, HS5.out]; simp
            have HV := Lib.hid hv
            clear hv
            go_wp2
            go_ret
            exact ⟨by rw [HV.out]; rfl, HKZ.out⟩
      · have HS3 := Lib.hid (show Rec.digB ⟨5, id, name, dig, zs, ys⟩ = false by exact decide_eq_false h)
        have d : ((dig.size : Int) != 32) = true := by rw [bne_iff_ne]; omega
        clear h
        have hv : Rec.may ⟨5, id, name, dig, zs, ys⟩ = false := by rw [HMAY.out, HS1.out, HS2.out, HS3.out]; simp
        have HV := Lib.hid hv
        clear hv
        go_wp2
        go_ret
        exact ⟨by rw [HV.out]; rfl, HKZ.out⟩
    · have HS2 := Lib.hid (show Rec.nameB ⟨5, id, name, dig, zs, ys⟩ = false by exact decide_eq_false h)
      obtain ⟨d, d'⟩ := str_yes h
      clear h
      have hv : Rec.may ⟨5, id, name, dig, zs, ys⟩ = false := by rw [HMAY.out, HS1.out, HS2.out]; simp
      have HV := Lib.hid hv
      clear hv
      go_wp2
      go_ret
      exact ⟨by rw [HV.out]; rfl, HKZ.out⟩
set_option maxRecDepth 100000 in
set_option maxHeartbeats 800000 in
theorem may_6 (id : Int) (name dig : ByteArray) (al : Option Addr) (nl cl : Nat) (az : Option Addr) (nz cz : Nat) (zs : List Int) (ys : List (Int × Int)) (w : World) (h : RecIn w ⟨6, id, name, dig, zs, ys⟩ al nl az nz) :
    Calls Try.prog 33 #[.agg #[.int .i64 6, .int .i64 id, .string name, .string dig, .slice al nl cl, .slice az nz cz]] w fun e w' => e = .returned (.bool (Rec.may ⟨6, id, name, dig, zs, ys⟩)) ∧ Kept w w' := by
  have HI := Lib.hid h
  have HMAY := Lib.hid (show Rec.may ⟨6, id, name, dig, zs, ys⟩ = (Rc.okK 6 && Rec.idB ⟨6, id, name, dig, zs, ys⟩ && Rec.nameB ⟨6, id, name, dig, zs, ys⟩ && Rec.digB ⟨6, id, name, dig, zs, ys⟩ && Rec.lstB ⟨6, id, name, dig, zs, ys⟩ && Rec.sltB ⟨6, id, name, dig, zs, ys⟩) from rfl)
  clear h
  go_enter Try.func33, Try.ntmps33
  go_wp2_with fail
  refine (named_any 6 _).mono ?_
  rintro e w1 ⟨rfl, hk⟩
  have HK := Lib.hid (((Kept.refl w).alloc _).trans hk)
  have hb := (BlockAt.new w #[.int .i64 6, .int .i64 id, .string name, .string dig, .slice al nl cl, .slice az nz cz] 31).kept hk
  clear hk
  rw [show kfields 6 = #[.bool false, .bool false, .bool true, .bool false, .bool false] from rfl, show Rc.okK 6 = true from rfl]
  go_upto_region 2 with (fail)
  have HBR := Lib.hid (hb.kept ((Kept.refl w1).alloc (.cells #[.bool false, .bool false, .bool true, .bool false, .bool false] 72)))
  have HBF := Lib.hid (BlockAt.new w1 #[.bool false, .bool false, .bool true, .bool false, .bool false] 72)
  have HKZ := Lib.hid (HK.out.alloc (.cells #[.bool false, .bool false, .bool true, .bool false, .bool false] 72))
  have HKW := Lib.hid HKZ.out
  clear hb HK
  generalize w1.alloc (.cells #[.bool false, .bool false, .bool true, .bool false, .bool false] 72) = w2 at *
  obtain ⟨a0, a1, a2, a3, a4, a5⟩ := box6 HBR.out
  obtain ⟨b0, b1, b2, b3, b4⟩ := box5 HBF.out
  by_cases h : id = 0
  · have HS1 := Lib.hid (show Rec.idB ⟨6, id, name, dig, zs, ys⟩ = true by exact decide_eq_true h)
    have d : (id != 0) = false := by rw [h]; rfl
    clear h
    by_cases h : name.size = 0
    · have HS2 := Lib.hid (show Rec.nameB ⟨6, id, name, dig, zs, ys⟩ = true by exact decide_eq_true h)
      obtain ⟨d, d'⟩ := str_no h
      clear h
      by_cases h : dig.size = 32
      · have HS3 := Lib.hid (show Rec.digB ⟨6, id, name, dig, zs, ys⟩ = true by exact decide_eq_true h)
        have d : ((dig.size : Int) != 32) = false := by rw [h]; rfl
        clear h
        by_cases h : nl = 0
        · have HS4 := Lib.hid (show Rec.lstB ⟨6, id, name, dig, zs, ys⟩ = true by show decide (zs.length = 0) = true; rw [show zs.length = nl from HI.out.list.len_eq]; exact decide_eq_true h)
          have d : ((nl : Int) != 0) = false := by rw [h]; rfl
          clear h
          by_cases h : nz = 0
          · have HS5 := Lib.hid (show Rec.sltB ⟨6, id, name, dig, zs, ys⟩ = true by show decide (ys.length = 0) = true; rw [show ys.length = nz from HI.out.slots.len_eq]; exact decide_eq_true h)
            have d : ((nz : Int) != 0) = false := by rw [h]; rfl
            clear h
            have hv : Rec.may ⟨6, id, name, dig, zs, ys⟩ = true := by rw [HMAY.out, HS1.out, HS2.out, HS3.out, HS4.out, HS5.out]; rfl
            have HV := Lib.hid hv
            clear hv
            go_wp2
            go_ret
            exact ⟨by rw [HV.out]; rfl, HKZ.out⟩
          · have HS5 := Lib.hid (show Rec.sltB ⟨6, id, name, dig, zs, ys⟩ = false by show decide (ys.length = 0) = false; rw [show ys.length = nz from HI.out.slots.len_eq]; exact decide_eq_false h)
            have d : ((nz : Int) != 0) = true := by rw [bne_iff_ne]; omega
            clear h
            have hv : Rec.may ⟨6, id, name, dig, zs, ys⟩ = false := by rw [HMAY.out, HS1.out, HS2.out, HS3.out, HS4.out, HS5.out]; simp
            have HV := Lib.hid hv
            clear hv
            go_wp2
            go_ret
            exact ⟨by rw [HV.out]; rfl, HKZ.out⟩
        · have HS4 := Lib.hid (show Rec.lstB ⟨6, id, name, dig, zs, ys⟩ = false by show decide (zs.length = 0) = false; rw [show zs.length = nl from HI.out.list.len_eq]; exact decide_eq_false h)
          have d : ((nl : Int) != 0) = true := by rw [bne_iff_ne]; omega
          clear h
          have hv : Rec.may ⟨6, id, name, dig, zs, ys⟩ = false := by rw [HMAY.out, HS1.out, HS2.out, HS3.out, HS4.out]; simp
          have HV := Lib.hid hv
          clear hv
          go_wp2
          go_ret
          exact ⟨by rw [HV.out]; rfl, HKZ.out⟩
      · have HS3 := Lib.hid (show Rec.digB ⟨6, id, name, dig, zs, ys⟩ = false by exact decide_eq_false h)
        have d : ((dig.size : Int) != 32) = true := by rw [bne_iff_ne]; omega
        clear h
        have hv : Rec.may ⟨6, id, name, dig, zs, ys⟩ = false := by rw [HMAY.out, HS1.out, HS2.out, HS3.out]; simp
        have HV := Lib.hid hv
        clear hv
        go_wp2
        go_ret
        exact ⟨by rw [HV.out]; rfl, HKZ.out⟩
    · have HS2 := Lib.hid (show Rec.nameB ⟨6, id, name, dig, zs, ys⟩ = false by exact decide_eq_false h)
      obtain ⟨d, d'⟩ := str_yes h
      clear h
      have hv : Rec.may ⟨6, id, name, dig, zs, ys⟩ = false := by rw [HMAY.out, HS1.out, HS2.out]; simp
      have HV := Lib.hid hv
      clear hv
      go_wp2
      go_ret
      exact ⟨by rw [HV.out]; rfl, HKZ.out⟩
  · have HS1 := Lib.hid (show Rec.idB ⟨6, id, name, dig, zs, ys⟩ = false by exact decide_eq_false h)
    have d : (id != 0) = true := by rw [bne_iff_ne]; exact h
    clear h
    have hv : Rec.may ⟨6, id, name, dig, zs, ys⟩ = false := by rw [HMAY.out, HS1.out]; simp
    have HV := Lib.hid hv
    clear hv
    go_wp2
    go_ret
    exact ⟨by rw [HV.out]; rfl, HKZ.out⟩
set_option maxRecDepth 100000 in
set_option maxHeartbeats 800000 in
theorem may_7 (id : Int) (name dig : ByteArray) (al : Option Addr) (nl cl : Nat) (az : Option Addr) (nz cz : Nat) (zs : List Int) (ys : List (Int × Int)) (w : World) (h : RecIn w ⟨7, id, name, dig, zs, ys⟩ al nl az nz) :
    Calls Try.prog 33 #[.agg #[.int .i64 7, .int .i64 id, .string name, .string dig, .slice al nl cl, .slice az nz cz]] w fun e w' => e = .returned (.bool (Rec.may ⟨7, id, name, dig, zs, ys⟩)) ∧ Kept w w' := by
  have HI := Lib.hid h
  have HMAY := Lib.hid (show Rec.may ⟨7, id, name, dig, zs, ys⟩ = (Rc.okK 7 && Rec.idB ⟨7, id, name, dig, zs, ys⟩ && Rec.nameB ⟨7, id, name, dig, zs, ys⟩ && Rec.digB ⟨7, id, name, dig, zs, ys⟩ && Rec.lstB ⟨7, id, name, dig, zs, ys⟩ && Rec.sltB ⟨7, id, name, dig, zs, ys⟩) from rfl)
  clear h
  go_enter Try.func33, Try.ntmps33
  go_wp2_with fail
  refine (named_any 7 _).mono ?_
  rintro e w1 ⟨rfl, hk⟩
  have HK := Lib.hid (((Kept.refl w).alloc _).trans hk)
  have hb := (BlockAt.new w #[.int .i64 7, .int .i64 id, .string name, .string dig, .slice al nl cl, .slice az nz cz] 31).kept hk
  clear hk
  rw [show kfields 7 = #[.bool false, .bool true, .bool true, .bool false, .bool false] from rfl, show Rc.okK 7 = true from rfl]
  go_upto_region 2 with (fail)
  have HBR := Lib.hid (hb.kept ((Kept.refl w1).alloc (.cells #[.bool false, .bool true, .bool true, .bool false, .bool false] 72)))
  have HBF := Lib.hid (BlockAt.new w1 #[.bool false, .bool true, .bool true, .bool false, .bool false] 72)
  have HKZ := Lib.hid (HK.out.alloc (.cells #[.bool false, .bool true, .bool true, .bool false, .bool false] 72))
  have HKW := Lib.hid HKZ.out
  clear hb HK
  generalize w1.alloc (.cells #[.bool false, .bool true, .bool true, .bool false, .bool false] 72) = w2 at *
  obtain ⟨a0, a1, a2, a3, a4, a5⟩ := box6 HBR.out
  obtain ⟨b0, b1, b2, b3, b4⟩ := box5 HBF.out
  by_cases h : id = 0
  · have HS1 := Lib.hid (show Rec.idB ⟨7, id, name, dig, zs, ys⟩ = true by exact decide_eq_true h)
    have d : (id != 0) = false := by rw [h]; rfl
    clear h
    go_wp2_with fail
    refine (within_any name.size 1 40 _).mono ?_
    rintro e w' ⟨rfl, rfl⟩
    have hst : Rec.nameB ⟨7, id, name, dig, zs, ys⟩ = Rc.within name.size 1 40 := name_within name
    cases ht : Rc.within name.size 1 40 with
    | false =>
      have HS2 := Lib.hid (hst.trans ht)
      clear hst ht
      have hv : Rec.may ⟨7, id, name, dig, zs, ys⟩ = false := by rw [HMAY.out, HS1.out, HS2.out]; simp
      have HV := Lib.hid hv
      clear hv
      go_wp2
      go_ret
      exact ⟨by rw [HV.out]; rfl, HKZ.out⟩
    | true =>
      have HS2 := Lib.hid (hst.trans ht)
      clear hst ht
      by_cases h : dig.size = 32
      · have HS3 := Lib.hid (show Rec.digB ⟨7, id, name, dig, zs, ys⟩ = true by exact decide_eq_true h)
        have d : ((dig.size : Int) != 32) = false := by rw [h]; rfl
        clear h
        by_cases h : nl = 0
        · have HS4 := Lib.hid (show Rec.lstB ⟨7, id, name, dig, zs, ys⟩ = true by show decide (zs.length = 0) = true; rw [show zs.length = nl from HI.out.list.len_eq]; exact decide_eq_true h)
          have d : ((nl : Int) != 0) = false := by rw [h]; rfl
          clear h
          by_cases h : nz = 0
          · have HS5 := Lib.hid (show Rec.sltB ⟨7, id, name, dig, zs, ys⟩ = true by show decide (ys.length = 0) = true; rw [show ys.length = nz from HI.out.slots.len_eq]; exact decide_eq_true h)
            have d : ((nz : Int) != 0) = false := by rw [h]; rfl
            clear h
            have hv : Rec.may ⟨7, id, name, dig, zs, ys⟩ = true := by rw [HMAY.out, HS1.out, HS2.out, HS3.out, HS4.out, HS5.out]; rfl
            have HV := Lib.hid hv
            clear hv
            go_wp2
            go_ret
            exact ⟨by rw [HV.out]; rfl, HKZ.out⟩
          · have HS5 := Lib.hid (show Rec.sltB ⟨7, id, name, dig, zs, ys⟩ = false by show decide (ys.length = 0) = false; rw [show ys.length = nz from HI.out.slots.len_eq]; exact decide_eq_false h)
            have d : ((nz : Int) != 0) = true := by rw [bne_iff_ne]; omega
            clear h
            have hv : Rec.may ⟨7, id, name, dig, zs, ys⟩ = false := by rw [HMAY.out, HS1.out, HS2.out, HS3.out, HS4.out, HS5.out]; simp
            have HV := Lib.hid hv
            clear hv
            go_wp2
            go_ret
            exact ⟨by rw [HV.out]; rfl, HKZ.out⟩
        · have HS4 := Lib.hid (show Rec.lstB ⟨7, id, name, dig, zs, ys⟩ = false by show decide (zs.length = 0) = false; rw [show zs.length = nl from HI.out.list.len_eq]; exact decide_eq_false h)
          have d : ((nl : Int) != 0) = true := by rw [bne_iff_ne]; omega
          clear h
          have hv : Rec.may ⟨7, id, name, dig, zs, ys⟩ = false := by rw [HMAY.out, HS1.out, HS2.out, HS3.out, HS4.out]; simp
          have HV := Lib.hid hv
          clear hv
          go_wp2
          go_ret
          exact ⟨by rw [HV.out]; rfl, HKZ.out⟩
      · have HS3 := Lib.hid (show Rec.digB ⟨7, id, name, dig, zs, ys⟩ = false by exact decide_eq_false h)
        have d : ((dig.size : Int) != 32) = true := by rw [bne_iff_ne]; omega
        clear h
        have hv : Rec.may ⟨7, id, name, dig, zs, ys⟩ = false := by rw [HMAY.out, HS1.out, HS2.out, HS3.out]; simp
        have HV := Lib.hid hv
        clear hv
        go_wp2
        go_ret
        exact ⟨by rw [HV.out]; rfl, HKZ.out⟩
  · have HS1 := Lib.hid (show Rec.idB ⟨7, id, name, dig, zs, ys⟩ = false by exact decide_eq_false h)
    have d : (id != 0) = true := by rw [bne_iff_ne]; exact h
    clear h
    have hv : Rec.may ⟨7, id, name, dig, zs, ys⟩ = false := by rw [HMAY.out, HS1.out]; simp
    have HV := Lib.hid hv
    clear hv
    go_wp2
    go_ret
    exact ⟨by rw [HV.out]; rfl, HKZ.out⟩
set_option maxRecDepth 100000 in
set_option maxHeartbeats 800000 in
theorem may_8 (id : Int) (name dig : ByteArray) (al : Option Addr) (nl cl : Nat) (az : Option Addr) (nz cz : Nat) (zs : List Int) (ys : List (Int × Int)) (w : World) (h : RecIn w ⟨8, id, name, dig, zs, ys⟩ al nl az nz) :
    Calls Try.prog 33 #[.agg #[.int .i64 8, .int .i64 id, .string name, .string dig, .slice al nl cl, .slice az nz cz]] w fun e w' => e = .returned (.bool (Rec.may ⟨8, id, name, dig, zs, ys⟩)) ∧ Kept w w' := by
  have HI := Lib.hid h
  have HMAY := Lib.hid (show Rec.may ⟨8, id, name, dig, zs, ys⟩ = (Rc.okK 8 && Rec.idB ⟨8, id, name, dig, zs, ys⟩ && Rec.nameB ⟨8, id, name, dig, zs, ys⟩ && Rec.digB ⟨8, id, name, dig, zs, ys⟩ && Rec.lstB ⟨8, id, name, dig, zs, ys⟩ && Rec.sltB ⟨8, id, name, dig, zs, ys⟩) from rfl)
  clear h
  go_enter Try.func33, Try.ntmps33
  go_wp2_with fail
  refine (named_any 8 _).mono ?_
  rintro e w1 ⟨rfl, hk⟩
  have HK := Lib.hid (((Kept.refl w).alloc _).trans hk)
  have hb := (BlockAt.new w #[.int .i64 8, .int .i64 id, .string name, .string dig, .slice al nl cl, .slice az nz cz] 31).kept hk
  clear hk
  rw [show kfields 8 = #[.bool false, .bool true, .bool false, .bool false, .bool false] from rfl, show Rc.okK 8 = true from rfl]
  go_upto_region 2 with (fail)
  have HBR := Lib.hid (hb.kept ((Kept.refl w1).alloc (.cells #[.bool false, .bool true, .bool false, .bool false, .bool false] 72)))
  have HBF := Lib.hid (BlockAt.new w1 #[.bool false, .bool true, .bool false, .bool false, .bool false] 72)
  have HKZ := Lib.hid (HK.out.alloc (.cells #[.bool false, .bool true, .bool false, .bool false, .bool false] 72))
  have HKW := Lib.hid HKZ.out
  clear hb HK
  generalize w1.alloc (.cells #[.bool false, .bool true, .bool false, .bool false, .bool false] 72) = w2 at *
  obtain ⟨a0, a1, a2, a3, a4, a5⟩ := box6 HBR.out
  obtain ⟨b0, b1, b2, b3, b4⟩ := box5 HBF.out
  by_cases h : id = 0
  · have HS1 := Lib.hid (show Rec.idB ⟨8, id, name, dig, zs, ys⟩ = true by exact decide_eq_true h)
    have d : (id != 0) = false := by rw [h]; rfl
    clear h
    go_wp2_with fail
    refine (within_any name.size 1 40 _).mono ?_
    rintro e w' ⟨rfl, rfl⟩
    have hst : Rec.nameB ⟨8, id, name, dig, zs, ys⟩ = Rc.within name.size 1 40 := name_within name
    cases ht : Rc.within name.size 1 40 with
    | false =>
      have HS2 := Lib.hid (hst.trans ht)
      clear hst ht
      have hv : Rec.may ⟨8, id, name, dig, zs, ys⟩ = false := by rw [HMAY.out, HS1.out, HS2.out]; simp
      have HV := Lib.hid hv
      clear hv
      go_wp2
      go_ret
      exact ⟨by rw [HV.out]; rfl, HKZ.out⟩
    | true =>
      have HS2 := Lib.hid (hst.trans ht)
      clear hst ht
      by_cases h : dig.size = 0
      · have HS3 := Lib.hid (show Rec.digB ⟨8, id, name, dig, zs, ys⟩ = true by exact decide_eq_true h)
        obtain ⟨d, d'⟩ := str_no h
        clear h
        by_cases h : nl = 0
        · have HS4 := Lib.hid (show Rec.lstB ⟨8, id, name, dig, zs, ys⟩ = true by show decide (zs.length = 0) = true; rw [show zs.length = nl from HI.out.list.len_eq]; exact decide_eq_true h)
          have d : ((nl : Int) != 0) = false := by rw [h]; rfl
          clear h
          by_cases h : nz = 0
          · have HS5 := Lib.hid (show Rec.sltB ⟨8, id, name, dig, zs, ys⟩ = true by show decide (ys.length = 0) = true; rw [show ys.length = nz from HI.out.slots.len_eq]; exact decide_eq_true h)
            have d : ((nz : Int) != 0) = false := by rw [h]; rfl
            clear h
            have hv : Rec.may ⟨8, id, name, dig, zs, ys⟩ = true := by rw [HMAY.out, HS1.out, HS2.out, HS3.out, HS4.out, HS5.out]; rfl
            have HV := Lib.hid hv
            clear hv
            go_wp2
            go_ret
            exact ⟨by rw [HV.out]; rfl, HKZ.out⟩
          · have HS5 := Lib.hid (show Rec.sltB ⟨8, id, name, dig, zs, ys⟩ = false by show decide (ys.length = 0) = false; rw [show ys.length = nz from HI.out.slots.len_eq]; exact decide_eq_false h)
            have d : ((nz : Int) != 0) = true := by rw [bne_iff_ne]; omega
            clear h
            have hv : Rec.may ⟨8, id, name, dig, zs, ys⟩ = false := by rw [HMAY.out, HS1.out, HS2.out, HS3.out, HS4.out, HS5.out]; simp
            have HV := Lib.hid hv
            clear hv
            go_wp2
            go_ret
            exact ⟨by rw [HV.out]; rfl, HKZ.out⟩
        · have HS4 := Lib.hid (show Rec.lstB ⟨8, id, name, dig, zs, ys⟩ = false by show decide (zs.length = 0) = false; rw [show zs.length = nl from HI.out.list.len_eq]; exact decide_eq_false h)
          have d : ((nl : Int) != 0) = true := by rw [bne_iff_ne]; omega
          clear h
          have hv : Rec.may ⟨8, id, name, dig, zs, ys⟩ = false := by rw [HMAY.out, HS1.out, HS2.out, HS3.out, HS4.out]; simp
          have HV := Lib.hid hv
          clear hv
          go_wp2
          go_ret
          exact ⟨by rw [HV.out]; rfl, HKZ.out⟩
      · have HS3 := Lib.hid (show Rec.digB ⟨8, id, name, dig, zs, ys⟩ = false by exact decide_eq_false h)
        obtain ⟨d, d'⟩ := str_yes h
        clear h
        have hv : Rec.may ⟨8, id, name, dig, zs, ys⟩ = false := by rw [HMAY.out, HS1.out, HS2.out, HS3.out]; simp
        have HV := Lib.hid hv
        clear hv
        go_wp2
        go_ret
        exact ⟨by rw [HV.out]; rfl, HKZ.out⟩
  · have HS1 := Lib.hid (show Rec.idB ⟨8, id, name, dig, zs, ys⟩ = false by exact decide_eq_false h)
    have d : (id != 0) = true := by rw [bne_iff_ne]; exact h
    clear h
    have hv : Rec.may ⟨8, id, name, dig, zs, ys⟩ = false := by rw [HMAY.out, HS1.out]; simp
    have HV := Lib.hid hv
    clear hv
    go_wp2
    go_ret
    exact ⟨by rw [HV.out]; rfl, HKZ.out⟩
set_option maxRecDepth 100000 in
set_option maxHeartbeats 800000 in
theorem may_9 (kind : Int) (hkd : Rc.okK kind = false) (id : Int) (name dig : ByteArray) (al : Option Addr) (nl cl : Nat) (az : Option Addr) (nz cz : Nat) (zs : List Int) (ys : List (Int × Int)) (w : World) (h : RecIn w ⟨kind, id, name, dig, zs, ys⟩ al nl az nz) :
    Calls Try.prog 33 #[.agg #[.int .i64 kind, .int .i64 id, .string name, .string dig, .slice al nl cl, .slice az nz cz]] w fun e w' => e = .returned (.bool (Rec.may ⟨kind, id, name, dig, zs, ys⟩)) ∧ Kept w w' := by
  have HI := Lib.hid h
  have HMAY := Lib.hid (show Rec.may ⟨kind, id, name, dig, zs, ys⟩ = (Rc.okK kind && Rec.idB ⟨kind, id, name, dig, zs, ys⟩ && Rec.nameB ⟨kind, id, name, dig, zs, ys⟩ && Rec.digB ⟨kind, id, name, dig, zs, ys⟩ && Rec.lstB ⟨kind, id, name, dig, zs, ys⟩ && Rec.sltB ⟨kind, id, name, dig, zs, ys⟩) from rfl)
  clear h
  have HOK := Lib.hid hkd
  clear hkd
  go_enter Try.func33, Try.ntmps33
  go_wp2_with fail
  refine (named_any kind _).mono ?_
  rintro e w1 ⟨rfl, hk⟩
  have HK := Lib.hid (((Kept.refl w).alloc _).trans hk)
  have hb := (BlockAt.new w #[.int .i64 kind, .int .i64 id, .string name, .string dig, .slice al nl cl, .slice az nz cz] 31).kept hk
  clear hk
  rw [HOK.out]
  have hv : Rec.may ⟨kind, id, name, dig, zs, ys⟩ = false := by rw [HMAY.out, HOK.out]; rfl
  have HV := Lib.hid hv
  clear hv hb
  unfold kfields
  go_wp2
  go_ret
  exact ⟨by rw [HV.out]; rfl, HK.out.alloc _⟩
theorem may_any (r : Rec) (al : Option Addr) (nl cl : Nat) (az : Option Addr) (nz cz : Nat) (w : World) (h : RecIn w r al nl az nz) :
    Calls Try.prog 33 #[.agg (recCells r al nl cl az nz cz)] w fun e w' => e = .returned (.bool (Rec.may r)) ∧ Kept w w' := by
  obtain ⟨kind, id, name, dig, zs, ys⟩ := r
  by_cases hk : Rc.okK kind = false
  · exact may_9 kind hk id name dig al nl cl az nz cz zs ys w h
  · have hk1 : 1 ≤ kind ∧ kind ≤ 8 := by
      have : Rc.okK kind = true := by simpa using hk
      exact of_decide_eq_true this
    have hcase : kind = 1 ∨ kind = 2 ∨ kind = 3 ∨ kind = 4 ∨ kind = 5 ∨ kind = 6 ∨ kind = 7 ∨ kind = 8 := by omega
    clear hk hk1
    rcases hcase with rfl | rfl | rfl | rfl | rfl | rfl | rfl | rfl
    · exact may_1 id name dig al nl cl az nz cz zs ys w h
    · exact may_2 id name dig al nl cl az nz cz zs ys w h
    · exact may_3 id name dig al nl cl az nz cz zs ys w h
    · exact may_4 id name dig al nl cl az nz cz zs ys w h
    · exact may_5 id name dig al nl cl az nz cz zs ys w h
    · exact may_6 id name dig al nl cl az nz cz zs ys w h
    · exact may_7 id name dig al nl cl az nz cz zs ys w h
    · exact may_8 id name dig al nl cl az nz cz zs ys w h
end Go.Proofs.Ytoanldoocmmhjaa
