/- siloref13.Take, by what it answers, kind by kind (no conditions but on the text's length). -/
import Derived.Test.YtoanldoocmmhjaaRr7
import Derived.Deep.AppendLies
import Derived.Deep.RegionWith
import Derived.Deep.RegionLaw
namespace Go.Proofs.Ytoanldoocmmhjaa
open Go.RowKit
set_option maxRecDepth 100000 in
set_option maxHeartbeats 4000000 in
theorem rtake_4 (t : ByteArray) (w : World) (hz : t.size ≤ 140737488351232) (hk : ((pv 1 (t, false) : Nat) : Int) = 4) (hs0 : (ps 1 (t, false)).2 = false) :
    Calls Try.prog 22 #[.string t] w (TakeP (fun b => .bool b) w (takeR t)) := by
  obtain ⟨s0, hs⟩ : ∃ s0 : St, s0 = ps 1 (t, false) := ⟨_, rfl⟩
  rw [← hs] at hs0
  have hsz0 := ps_size 1 (t, false)
  rw [← hs] at hsz0
  dsimp only at hsz0
  have htk : takeR t = takeK (rawK 4 s0) := by
    unfold takeR
    rw [hk, ← hs, if_pos ⟨hs0, rfl⟩]
  rw [htk]
  have HS0 := Lib.hid hs
  have HKV := Lib.hid hk
  have HB0 := Lib.hid hs0
  obtain ⟨i0, hi, hz0, hz1, hz2⟩ := info_parts Try.infoI
  have HI := Lib.hid (And.intro hi (And.intro hz0 (And.intro hz1 hz2)))
  clear hi hz0 hz1 hz2
  obtain ⟨i2, hi, hz0, hz1, hz2⟩ := info_parts Try.infoSlot
  have HI2 := Lib.hid (And.intro hi (And.intro hz0 (And.intro hz1 hz2)))
  clear hi hz0 hz1 hz2 hs hk hs0 htk
  have hfs : (fStr 4).size ≤ 9223372036854775807 := by rw [show (fStr 4).size = 3 from rfl]; omega
  go_enter Try.func22, Try.ntmps22
  go_upto_region 2 with (fail)
  have k0 := ((Kept.refl w).alloc (.cells #[.int .i64 0, .int .i64 0, .string ⟨#[]⟩, .string ⟨#[]⟩, .slice none 0 0, .slice none 0 0] 31)).alloc (.cells #[.string t, .bool false] 67)
  have hza := (BlockAt.new w #[.int .i64 0, .int .i64 0, .string ⟨#[]⟩, .string ⟨#[]⟩, .slice none 0 0, .slice none 0 0] 31).kept ((Kept.refl _).alloc (.cells #[.string t, .bool false] 67))
  have hra := BlockAt.new1 w #[.string t, .bool false] 67 (.cells #[.int .i64 0, .int .i64 0, .string ⟨#[]⟩, .string ⟨#[]⟩, .slice none 0 0, .slice none 0 0] 31)
  generalize (w.alloc (.cells #[.int .i64 0, .int .i64 0, .string ⟨#[]⟩, .string ⟨#[]⟩, .slice none 0 0, .slice none 0 0] 31)).alloc (.cells #[.string t, .bool false] 67) = wa at *
  obtain ⟨p, hp⟩ : ∃ p, p = w.heap.size + 1 := ⟨_, rfl⟩
  rw [← hp] at hra ⊢
  have hpw : w.heap.size < p := by omega
  clear hp
  have hra' : RdR wa p (t, false) := ⟨t, hra, fun _ => rfl, (fun h => by cases h)⟩
  clear hra
  go_wp2_with fail
  refine (rtake1 p (t, false) _ hra' (by dsimp only; omega)).mono ?_
  rintro e w1 ⟨rfl, hr1, hg1⟩
  have hp1 := pt_size 1 (t, false)
  obtain ⟨q, hq⟩ : ∃ q, pt 1 (t, false) = q := ⟨_, rfl⟩
  have HNK := Lib.hid (show ((numL q.data.toList : Nat) : Int) = 4 by rw [← hq]; exact HKV.out)
  rw [hq] at hp1 ⊢
  clear hq
  rw [← HS0.out] at hr1
  have hza1 := hza.gr hg1 (by simp; omega)
  have hk1 := kept_gr k0 hg1 (fun g e => by cases e; omega)
  go_wp2_with fail
  refine (num_of q _ (by omega)).mono ?_
  rintro e w' ⟨rfl, rfl⟩
  rw [HNK.out]
  have hw1 := hg1.size
  have hpl := hr1.lt
  clear hza hra' hg1 k0
  go_upto_region 3 with (fail)
  have HX0 := Lib.hid (BlockAt.new w1 #[.int .i64 4, .int .i64 0, .string ⟨#[]⟩, .string ⟨#[]⟩, .slice none 0 0, .slice none 0 0] 31)
  have k2 := (Kept.refl w1).alloc (.cells #[.int .i64 4, .int .i64 0, .string ⟨#[]⟩, .string ⟨#[]⟩, .slice none 0 0, .slice none 0 0] 31)
  have HR0 := Lib.hid (hr1.kept k2)
  have HZ0 := Lib.hid (hza1.kept k2)
  have HK0 := Lib.hid (hk1.trans k2)
  generalize w1.alloc (.cells #[.int .i64 4, .int .i64 0, .string ⟨#[]⟩, .string ⟨#[]⟩, .slice none 0 0, .slice none 0 0] 31) = v0 at *
  obtain ⟨xb, hxb⟩ : ∃ xb, xb = w1.heap.size := ⟨_, rfl⟩
  rw [← hxb] at HX0 hpl ⊢
  clear hr1 hza1 hk1 k2 hxb hw1
  obtain ⟨a0, a1, a2, a3, a4, a5⟩ := box6 HX0.out
  obtain ⟨tt, r0, r1, _⟩ := HR0.out.cells
  rw [HB0.out] at r1
  go_wp2_with fail
  refine (between_any 4 1 8 _).mono ?_
  rintro e w' ⟨rfl, rfl⟩
  rw [show Rc.within 4 1 8 = true from rfl]
  go_wp2_with fail
  refine (fields_any 4 (by omega) _).mono ?_
  rintro e u0 ⟨rfl, hk2⟩
  have HX := Lib.hid (HX0.out.kept hk2)
  have HR := Lib.hid (HR0.out.kept hk2)
  have HZ := Lib.hid (HZ0.out.kept hk2)
  have HK := Lib.hid (HK0.out.trans hk2)
  have HSZ := Lib.hid (show s0.1.size ≤ 140737488351232 by omega)
  clear hk2 a0 a1 a2 a3 a4 a5 r0 r1 HX0 HR0 HZ0 HK0 hsz0
  go_wp2_with fail
  refine (has_lit (fStr 4) 73 73 rfl hfs _).mono ?_
  rintro e w' ⟨rfl, rfl⟩
  rw [show hasB (fStr 4) 73 = true from rfl]
  have hvb := pv_lt 4 s0 (by omega)
  go_wp2_with fail
  refine (rnum_any p s0 _ HR.out (by have := HSZ.out; omega)).mono ?_
  rintro e u1 ⟨rfl, hr, hg⟩
  have HX' := Lib.hid (HX.out.gr hg (by simp; omega))
  have HZ' := Lib.hid (HZ.out.gr hg (by simp; omega))
  have HK' := Lib.hid (kept_gr HK.out hg (fun g e => by cases e; omega))
  replace HX := HX'
  replace HZ := HZ'
  replace HK := HK'
  clear HX' HZ' HK' hg
  obtain ⟨vi, hvi⟩ : ∃ z, z = pv 4 s0 := ⟨_, rfl⟩
  rw [← hvi]
  have Hvi := Lib.hid hvi
  obtain ⟨s1, hs1⟩ : ∃ z : St, z = ps 4 s0 := ⟨_, rfl⟩
  rw [← hs1] at hr
  have HR' := Lib.hid hr
  have hsz' : s1.1.size ≤ 140737488351232 := by have := ps_size 4 s0; rw [← hs1] at this; have := HSZ.out; omega
  replace HR := HR'
  have HSZ' := Lib.hid hsz'
  replace HSZ := HSZ'
  have Hs1 := Lib.hid hs1
  clear HR' HSZ' hr hsz' hvi hs1
  rw [← Hvi.out] at hvb
  obtain ⟨a0, a1, a2, a3, a4, a5⟩ := box6 HX.out
  have fz := HX.out.free 1
  go_upto_region 8 with (fail)
  have hg := gr_set u1 xb 1 (.int .i64 ((vi : Nat) : Int))
  have HX' := Lib.hid (show BlockAt (u1.setCell ⟨xb, 1, none⟩ (.int .i64 ((vi : Nat) : Int))) xb #[.int .i64 4, .int .i64 ((vi : Nat) : Int), .string ⟨#[]⟩, .string ⟨#[]⟩, .slice none 0 0, .slice none 0 0] 31 from HX.out.set (.int .i64 ((vi : Nat) : Int)))
  have HR' := Lib.hid (HR.out.gr hg (by simp; omega))
  have HZ' := Lib.hid (HZ.out.gr hg (by simp; omega))
  have HK' := Lib.hid (kept_gr HK.out hg (fun g e => by cases e; omega))
  clear a0 a1 a2 a3 a4 a5 fz hg HX HR HZ HK
  obtain ⟨HX, HR⟩ := And.intro HX' HR'
  obtain ⟨HZ, HK⟩ := And.intro HZ' HK'
  clear HX' HR' HZ' HK'
  generalize u1.setCell ⟨xb, 1, none⟩ (.int .i64 ((vi : Nat) : Int)) = u2 at *
  go_wp2_with fail
  refine (has_lit (fStr 4) 78 78 rfl hfs _).mono ?_
  rintro e w' ⟨rfl, rfl⟩
  rw [show hasB (fStr 4) 78 = false from rfl]
  go_wp2_with fail
  refine (has_lit (fStr 4) 68 68 rfl hfs _).mono ?_
  rintro e w' ⟨rfl, rfl⟩
  rw [show hasB (fStr 4) 68 = true from rfl]
  have hdz := pt_size 32 s1
  go_wp2_with fail
  refine (rtake32 p s1 _ HR.out (by have := HSZ.out; omega)).mono ?_
  rintro e u3 ⟨rfl, hr, hg⟩
  have HX' := Lib.hid (HX.out.gr hg (by simp; omega))
  have HZ' := Lib.hid (HZ.out.gr hg (by simp; omega))
  have HK' := Lib.hid (kept_gr HK.out hg (fun g e => by cases e; omega))
  replace HX := HX'
  replace HZ := HZ'
  replace HK := HK'
  clear HX' HZ' HK' hg
  obtain ⟨td, htd⟩ : ∃ z, z = pt 32 s1 := ⟨_, rfl⟩
  rw [← htd]
  have Htd := Lib.hid htd
  obtain ⟨s4, hs4⟩ : ∃ z : St, z = ps 32 s1 := ⟨_, rfl⟩
  rw [← hs4] at hr
  have HR' := Lib.hid hr
  have hsz' : s4.1.size ≤ 140737488351232 := by have := ps_size 32 s1; rw [← hs4] at this; have := HSZ.out; omega
  replace HR := HR'
  have HSZ' := Lib.hid hsz'
  replace HSZ := HSZ'
  have Hs4 := Lib.hid hs4
  clear HR' HSZ' hr hsz' htd hs4
  rw [← Htd.out] at hdz
  obtain ⟨a0, a1, a2, a3, a4, a5⟩ := box6 HX.out
  have fz := HX.out.free 3
  go_upto_region 12 with (fail)
  have hg := gr_set u3 xb 3 (.string td)
  have HX' := Lib.hid (show BlockAt (u3.setCell ⟨xb, 3, none⟩ (.string td)) xb #[.int .i64 4, .int .i64 ((vi : Nat) : Int), .string ⟨#[]⟩, .string td, .slice none 0 0, .slice none 0 0] 31 from HX.out.set (.string td))
  have HR' := Lib.hid (HR.out.gr hg (by simp; omega))
  have HZ' := Lib.hid (HZ.out.gr hg (by simp; omega))
  have HK' := Lib.hid (kept_gr HK.out hg (fun g e => by cases e; omega))
  clear a0 a1 a2 a3 a4 a5 fz hg HX HR HZ HK
  obtain ⟨HX, HR⟩ := And.intro HX' HR'
  obtain ⟨HZ, HK⟩ := And.intro HZ' HK'
  clear HX' HR' HZ' HK'
  generalize u3.setCell ⟨xb, 3, none⟩ (.string td) = u4 at *
  go_wp2_with fail
  refine (has_lit (fStr 4) 76 76 rfl hfs _).mono ?_
  rintro e w' ⟨rfl, rfl⟩
  rw [show hasB (fStr 4) 76 = true from rfl]
  have hpl1 := pv_lt 4 s4 (by omega)
  go_wp2_with fail
  refine (rnum_any p s4 _ HR.out (by have := HSZ.out; omega)).mono ?_
  rintro e u5 ⟨rfl, hr, hg⟩
  have HX' := Lib.hid (HX.out.gr hg (by simp; omega))
  have HZ' := Lib.hid (HZ.out.gr hg (by simp; omega))
  have HK' := Lib.hid (kept_gr HK.out hg (fun g e => by cases e; omega))
  replace HX := HX'
  replace HZ := HZ'
  replace HK := HK'
  clear HX' HZ' HK' hg
  obtain ⟨vl, hvl⟩ : ∃ z, z = pv 4 s4 := ⟨_, rfl⟩
  rw [← hvl]
  have Hvl := Lib.hid hvl
  obtain ⟨s5, hs5⟩ : ∃ z : St, z = ps 4 s4 := ⟨_, rfl⟩
  rw [← hs5] at hr
  have HR' := Lib.hid hr
  have hsz' : s5.1.size ≤ 140737488351232 := by have := ps_size 4 s4; rw [← hs5] at this; have := HSZ.out; omega
  replace HR := HR'
  have HSZ' := Lib.hid hsz'
  replace HSZ := HSZ'
  have Hs5 := Lib.hid hs5
  clear HR' HSZ' hr hsz' hvl hs5
  rw [← Hvl.out] at hpl1
  go_upto_region 15 with (fail)
  have hwx := HX.out.lt
  go_loopw [8] (fun n wr => ∃ (m : Nat) (V : Value) (xs : List Int) (sj : St), Value.int .i64 (m : Int) = n ∧ m ≤ vl ∧ BlockAt wr xb #[.int .i64 4, .int .i64 ((vi : Nat) : Int), .string ⟨#[]⟩, .string td, V, .slice none 0 0] 31 ∧ wr.ownsRow (xb + 1) 3 1 V m (xs.map (Value.int .i64)) ∧
      RdR wr p sj ∧ BlockAt wr w.heap.size #[.int .i64 0, .int .i64 0, .string ⟨#[]⟩, .string ⟨#[]⟩, .slice none 0 0, .slice none 0 0] 31 ∧ Kept w wr ∧ LRel xs m (vl - m) sj (pList vl s5)) (fun n _ => vl - (intOf n).toNat)
  case atStart => exact ⟨0, _, [], s5, rfl, by omega, HX.out, World.ownsRow_nil _ _ _ _, HR.out, HZ.out, HK.out, LRel.start hpl1 HSZ.out⟩
  case round =>
    clear HX HR HZ HK hwx
    obtain ⟨m, V, xs, sj, rfl, hmv, hx, ho, hr, hz0, hgw, hl⟩ := hrel
    have HX := Lib.hid hx
    have HO := Lib.hid ho
    have HR := Lib.hid hr
    have HZ := Lib.hid hz0
    have HK := Lib.hid hgw
    have HL := Lib.hid hl
    have hsj := hl.size
    have hwx := hx.lt
    obtain ⟨sa, sb⟩ := sj
    dsimp only at hsj
    clear hx ho hr hz0 hgw hl
    by_cases hj : m < vl
    · cases sb with
      | false =>
        obtain ⟨tt, r0, r1, _⟩ := HR.out.cells
        obtain ⟨a0, a1, a2, a3, a4, a5⟩ := box6 HX.out
        go_upto_region 17 with (fail)
        have hv1 := pv_lt 4 (sa, false) (by omega)
        obtain ⟨d0, hd0⟩ : ∃ d : Nat, d = pv 4 (sa, false) := ⟨_, rfl⟩
        have HNV := Lib.hid (fun w1 (h : RdR w1 p (sa, false)) => rnum_any p (sa, false) w1 h (by dsimp only; omega))
        rw [← hd0] at HNV hv1
        have HD := Lib.hid hd0
        clear hd0
        go_region_law (first
          | (refine step_append_int (by rfl) _ _ _ (by rfl) 3 i0 Try.underlying24 HI.out.1 HI.out.2.1 HI.out.2.2.1 HI.out.2.2.2 (xb + 1) V m xs (by rfl) (own_kept (own_gr (own_kept HO.out (Kept.refl _).drew) hg (by simp; omega)) ((Kept.refl _).alloc _)) u.heap.size (d0 : Int) (by rfl) (BlockAt.new _ _ _) (by omega) (by simp; omega) ?_; intro v' w' ho' hg'; obtain ⟨aw, cw, rfl⟩ := slice_of_own ho'; have hx4 := ((((HX.out.kept (Kept.refl _).drew).gr hg (by simp; omega)).kept ((Kept.refl u).alloc (.cells #[.int .i64 (d0 : Int)] 3))).gr hg' (own_hi HO.out (by omega))); have c4 := hx4.cell 4; have f4 := hx4.free 4)
          | (go_simp; go_at_call 42; refine (HNV.out _ (HR.out.kept (Kept.refl _).drew)).mono ?_; rintro e u ⟨rfl, hr, hg⟩; have hus : wr.heap.size ≤ u.heap.size := (by simpa using hg.size); have a4' : u.cell? ⟨xb, 4, none⟩ = some V := ((HX.out.kept (Kept.refl _).drew).gr hg (by simp; omega)).cell 4; have a4'' : ∀ o, (u.alloc o).cell? ⟨xb, 4, none⟩ = some V := fun o => (((HX.out.kept (Kept.refl _).drew).gr hg (by simp; omega)).kept ((Kept.refl u).alloc o)).cell 4))
        all_goals
          have kal := (Kept.refl u).alloc (.cells #[.int .i64 (d0 : Int)] 3)
          have hset := gr_set w' xb 4 (.slice aw (m + 1) cw)
          have HX' := Lib.hid (show BlockAt (w'.setCell ⟨xb, 4, none⟩ (.slice aw (m + 1) cw)) xb #[.int .i64 4, .int .i64 ((vi : Nat) : Int), .string ⟨#[]⟩, .string td, .slice aw (m + 1) cw, .slice none 0 0] 31 from hx4.set (.slice aw (m + 1) cw))
          have HO' := Lib.hid (own_gr ho' hset (fun g e => by cases e; omega))
          have HR' := Lib.hid (((hr.kept kal).gr hg' (own_hi HO.out (by omega))).gr hset (by simp; omega))
          have HZ' := Lib.hid (((((HZ.out.kept (Kept.refl _).drew).gr hg (by simp; omega)).kept kal).gr hg' (own_hi HO.out (by omega))).gr hset (by simp; omega))
          have HK' := Lib.hid (kept_gr (kept_gr ((kept_gr HK.out.drew hg (fun g e => by cases e; omega)).trans kal) hg' (fun g e => by have := (HO.out.lt g e).1; omega)) hset (fun g e => by cases e; omega))
          clear hr hg hus a0 a1 a2 a3 a4 a5 a4' a4'' hx4 c4 f4 kal hset ho' hg' r0 r1
          generalize w'.setCell ⟨xb, 4, none⟩ (.slice aw (m + 1) cw) = wn at *
          go_wp2
          go_roundw
          case rel => exact ⟨m + 1, _, _, ps 4 (sa, false), by go_num, by omega, HX'.out, HO'.out, HR'.out, HZ'.out, HK'.out, by have h9 := HL.out; rw [show vl - m = vl - (m + 1) + 1 by omega] at h9; have h8 := h9.step; rw [← HD.out] at h8; exact h8⟩
          case measure => simp [intOf]; omega
      | true =>
        obtain ⟨tt, r0, r1, _⟩ := HR.out.cells
        have HGL := Lib.hid HL.out.doneT
        go_upto_region 18 with (fail)
        clear r0 r1
        go_wp2_with fail
        refine (has_lit (fStr 4) 83 83 rfl hfs _).mono ?_
        rintro e w' ⟨rfl, rfl⟩
        rw [show hasB (fStr 4) 83 = false from rfl]
        have hlen := HL.out.len
        subst hlen
        obtain ⟨al, cl, rfl⟩ := slice_of_own HO.out
        have hfin : rawK 4 s0 = (⟨4, ((vi : Nat) : Int), ByteArray.empty, td, xs, []⟩, (sa, true)) := by
          unfold rawK pI pN pD rL rS
          simp only [show Rc.fI 4 = true from rfl, show Rc.fN 4 = false from rfl, show Rc.fD 4 = true from rfl, show Rc.fL 4 = true from rfl, show Rc.fS 4 = false from rfl, Bool.false_eq_true, if_false, if_true]
          rw [← Hvi.out, ← Hs1.out, ← Htd.out, ← Hs4.out, ← Hvl.out, ← Hs5.out, HGL.out]
        have HFIN := Lib.hid hfin
        clear hfin
        obtain ⟨a0, a1, a2, a3, a4, a5⟩ := box6 HX.out
        obtain ⟨tt, r0, r1, hteq⟩ := HR.out.cells
        try dsimp only at r1 hteq
        have HV := Lib.hid (takeK_no (show okR (rawK 4 s0) = false by rw [HFIN.out]; rfl))
        go_wp2_with (refine wpList_store_block rfl 31 (.tmp 2) (.tmp 122) rfl _ #[.int .i64 0, .int .i64 0, .string ⟨#[]⟩, .string ⟨#[]⟩, .slice none 0 0, .slice none 0 0] #[.int .i64 0, .int .i64 0, .string ⟨#[]⟩, .string ⟨#[]⟩, .slice none 0 0, .slice none 0 0] 31 rfl rfl HZ.out Try.infoRec rfl (one6 _ _ _ _ _ _ _ _ _ _) ?_)
        refine bodyPost_ret (v := .tuple #[.agg #[.int .i64 0, .int .i64 0, .string ⟨#[]⟩, .string ⟨#[]⟩, .slice none 0 0, .slice none 0 0], .bool false]) (results_row_tmp rfl _ _ w.heap.size 31 #[.int .i64 0, .int .i64 0, .string ⟨#[]⟩, .string ⟨#[]⟩, .slice none 0 0, .slice none 0 0] _ rfl (HZ.out.setRow _) Try.underlying31 rfl Try.infoRec _ rfl) rfl ?_
        rw [HV.out]
        exact ⟨none, 0, none, 0, rfl, zero_in _, HK.out.setRow (by omega) _⟩

    · obtain rfl : m = vl := by omega
      have HGL := Lib.hid (show pList m s5 = (xs, (sa, sb)) by have h9 := HL.out; rw [Nat.sub_self] at h9; exact h9.done0)
      go_upto_region 18 with (fail)
      go_wp2_with fail
      refine (has_lit (fStr 4) 83 83 rfl hfs _).mono ?_
      rintro e w' ⟨rfl, rfl⟩
      rw [show hasB (fStr 4) 83 = false from rfl]
      have hlen := HL.out.len
      subst hlen
      obtain ⟨al, cl, rfl⟩ := slice_of_own HO.out
      have hfin : rawK 4 s0 = (⟨4, ((vi : Nat) : Int), ByteArray.empty, td, xs, []⟩, (sa, sb)) := by
        unfold rawK pI pN pD rL rS
        simp only [show Rc.fI 4 = true from rfl, show Rc.fN 4 = false from rfl, show Rc.fD 4 = true from rfl, show Rc.fL 4 = true from rfl, show Rc.fS 4 = false from rfl, Bool.false_eq_true, if_false, if_true]
        rw [← Hvi.out, ← Hs1.out, ← Htd.out, ← Hs4.out, ← Hvl.out, ← Hs5.out, HGL.out]
      have HFIN := Lib.hid hfin
      clear hfin
      obtain ⟨a0, a1, a2, a3, a4, a5⟩ := box6 HX.out
      obtain ⟨tt, r0, r1, hteq⟩ := HR.out.cells
      try dsimp only at r1 hteq
      cases hbd : sb with
      | true =>
        rw [hbd] at r1
        have HBD := Lib.hid hbd
        clear hbd hteq
        have HV := Lib.hid (takeK_no (show okR (rawK 4 s0) = false by rw [HFIN.out]; unfold okR; dsimp only; rw [HBD.out]; rfl))
        go_wp2_with (refine wpList_store_block rfl 31 (.tmp 2) (.tmp 122) rfl _ #[.int .i64 0, .int .i64 0, .string ⟨#[]⟩, .string ⟨#[]⟩, .slice none 0 0, .slice none 0 0] #[.int .i64 0, .int .i64 0, .string ⟨#[]⟩, .string ⟨#[]⟩, .slice none 0 0, .slice none 0 0] 31 rfl rfl HZ.out Try.infoRec rfl (one6 _ _ _ _ _ _ _ _ _ _) ?_)
        refine bodyPost_ret (v := .tuple #[.agg #[.int .i64 0, .int .i64 0, .string ⟨#[]⟩, .string ⟨#[]⟩, .slice none 0 0, .slice none 0 0], .bool false]) (results_row_tmp rfl _ _ w.heap.size 31 #[.int .i64 0, .int .i64 0, .string ⟨#[]⟩, .string ⟨#[]⟩, .slice none 0 0, .slice none 0 0] _ rfl (HZ.out.setRow _) Try.underlying31 rfl Try.infoRec _ rfl) rfl ?_
        rw [HV.out]
        exact ⟨none, 0, none, 0, rfl, zero_in _, HK.out.setRow (by omega) _⟩
      | false =>
        have HTE := Lib.hid (hteq hbd)
        rw [hbd] at r1
        have HBD := Lib.hid hbd
        clear hbd hteq
        by_cases hem : tt.size = 0
        · obtain ⟨d, d'⟩ := str_no hem
          have HEM := Lib.hid (decide_eq_true hem)
          clear hem
          go_wp2_with fail
          refine (rrec_any ⟨4, ((vi : Nat) : Int), ByteArray.empty, td, xs, []⟩ al xs.length cl none 0 0 _ ⟨ints_at2 HO.out rfl HL.out.wf, SlotsIn.nil _ _, by dsimp only; omega, by dsimp only; omega, by dsimp only; exact Nat.zero_le _, by dsimp only; omega⟩).mono ?_
          rintro e wz ⟨rfl, hkz⟩
          replace HX := Lib.hid (HX.out.kept hkz)
          replace HZ := Lib.hid (HZ.out.kept hkz)
          replace HK := Lib.hid (HK.out.trans hkz)
          replace HO := Lib.hid (own_kept HO.out hkz)
  
          clear hkz a0 a1 a2 a3 a4 a5 r0 r1 d d'
          cases hmy : Rec.may ⟨4, ((vi : Nat) : Int), ByteArray.empty, td, xs, []⟩ with
          | false =>
            have HMY := Lib.hid hmy
            clear hmy
            have HV := Lib.hid (takeK_no (show okR (rawK 4 s0) = false by rw [HFIN.out]; unfold okR; dsimp only; rw [HBD.out, HMY.out]; simp))
            go_wp2_with (refine wpList_store_block rfl 31 (.tmp 2) (.tmp 122) rfl _ #[.int .i64 0, .int .i64 0, .string ⟨#[]⟩, .string ⟨#[]⟩, .slice none 0 0, .slice none 0 0] #[.int .i64 0, .int .i64 0, .string ⟨#[]⟩, .string ⟨#[]⟩, .slice none 0 0, .slice none 0 0] 31 rfl rfl HZ.out Try.infoRec rfl (one6 _ _ _ _ _ _ _ _ _ _) ?_)
            refine bodyPost_ret (v := .tuple #[.agg #[.int .i64 0, .int .i64 0, .string ⟨#[]⟩, .string ⟨#[]⟩, .slice none 0 0, .slice none 0 0], .bool false]) (results_row_tmp rfl _ _ w.heap.size 31 #[.int .i64 0, .int .i64 0, .string ⟨#[]⟩, .string ⟨#[]⟩, .slice none 0 0, .slice none 0 0] _ rfl (HZ.out.setRow _) Try.underlying31 rfl Try.infoRec _ rfl) rfl ?_
            rw [HV.out]
            exact ⟨none, 0, none, 0, rfl, zero_in _, HK.out.setRow (by omega) _⟩
          | true =>
            have HMY := Lib.hid hmy
            clear hmy
            obtain ⟨a0, a1, a2, a3, a4, a5⟩ := box6 HX.out
            have HV := Lib.hid (takeK_yes (show okR (rawK 4 s0) = true by rw [HFIN.out]; unfold okR; dsimp only; rw [HBD.out, HMY.out, ← HTE.out, HEM.out]; rfl))
            go_wp2_with (refine wpList_store_block rfl 31 (.tmp 2) (.tmp 123) rfl _ #[.int .i64 4, .int .i64 ((vi : Nat) : Int), .string ⟨#[]⟩, .string td, .slice al xs.length cl, .slice none 0 0] #[.int .i64 0, .int .i64 0, .string ⟨#[]⟩, .string ⟨#[]⟩, .slice none 0 0, .slice none 0 0] 31 rfl rfl HZ.out Try.infoRec rfl (one6 _ _ _ _ _ _ _ _ _ _) ?_)
            refine bodyPost_ret (v := .tuple #[.agg #[.int .i64 4, .int .i64 ((vi : Nat) : Int), .string ⟨#[]⟩, .string td, .slice al xs.length cl, .slice none 0 0], .bool true]) (results_row_tmp rfl _ _ w.heap.size 31 #[.int .i64 4, .int .i64 ((vi : Nat) : Int), .string ⟨#[]⟩, .string td, .slice al xs.length cl, .slice none 0 0] _ rfl (HZ.out.setRow _) Try.underlying31 rfl Try.infoRec _ rfl) rfl ?_
            rw [HV.out, HFIN.out]
            have HZR := HZ.out
            exact ⟨al, cl, none, 0, rfl, ⟨ints_at2 (own_gr HO.out (grown_row _ _ _) (by simp; omega)) rfl HL.out.wf, SlotsIn.nil _ _, by dsimp only; omega, by dsimp only; omega, by dsimp only; exact Nat.zero_le _, by dsimp only; omega⟩, HK.out.setRow (by omega) _⟩
        · obtain ⟨d, d'⟩ := str_yes hem
          have HEM := Lib.hid (decide_eq_false hem)
          clear hem
          have HV := Lib.hid (takeK_no (show okR (rawK 4 s0) = false by rw [HFIN.out]; unfold okR; dsimp only; rw [← HTE.out, HEM.out]; simp))
          go_wp2_with (refine wpList_store_block rfl 31 (.tmp 2) (.tmp 122) rfl _ #[.int .i64 0, .int .i64 0, .string ⟨#[]⟩, .string ⟨#[]⟩, .slice none 0 0, .slice none 0 0] #[.int .i64 0, .int .i64 0, .string ⟨#[]⟩, .string ⟨#[]⟩, .slice none 0 0, .slice none 0 0] 31 rfl rfl HZ.out Try.infoRec rfl (one6 _ _ _ _ _ _ _ _ _ _) ?_)
          refine bodyPost_ret (v := .tuple #[.agg #[.int .i64 0, .int .i64 0, .string ⟨#[]⟩, .string ⟨#[]⟩, .slice none 0 0, .slice none 0 0], .bool false]) (results_row_tmp rfl _ _ w.heap.size 31 #[.int .i64 0, .int .i64 0, .string ⟨#[]⟩, .string ⟨#[]⟩, .slice none 0 0, .slice none 0 0] _ rfl (HZ.out.setRow _) Try.underlying31 rfl Try.infoRec _ rfl) rfl ?_
          rw [HV.out]
          exact ⟨none, 0, none, 0, rfl, zero_in _, HK.out.setRow (by omega) _⟩
set_option maxRecDepth 100000 in
set_option maxHeartbeats 4000000 in
theorem rtake_5 (t : ByteArray) (w : World) (hz : t.size ≤ 140737488351232) (hk : ((pv 1 (t, false) : Nat) : Int) = 5) (hs0 : (ps 1 (t, false)).2 = false) :
    Calls Try.prog 22 #[.string t] w (TakeP (fun b => .bool b) w (takeR t)) := by
  obtain ⟨s0, hs⟩ : ∃ s0 : St, s0 = ps 1 (t, false) := ⟨_, rfl⟩
  rw [← hs] at hs0
  have hsz0 := ps_size 1 (t, false)
  rw [← hs] at hsz0
  dsimp only at hsz0
  have htk : takeR t = takeK (rawK 5 s0) := by
    unfold takeR
    rw [hk, ← hs, if_pos ⟨hs0, rfl⟩]
  rw [htk]
  have HS0 := Lib.hid hs
  have HKV := Lib.hid hk
  have HB0 := Lib.hid hs0
  obtain ⟨i0, hi, hz0, hz1, hz2⟩ := info_parts Try.infoI
  have HI := Lib.hid (And.intro hi (And.intro hz0 (And.intro hz1 hz2)))
  clear hi hz0 hz1 hz2
  obtain ⟨i2, hi, hz0, hz1, hz2⟩ := info_parts Try.infoSlot
  have HI2 := Lib.hid (And.intro hi (And.intro hz0 (And.intro hz1 hz2)))
  clear hi hz0 hz1 hz2 hs hk hs0 htk
  have hfs : (fStr 5).size ≤ 9223372036854775807 := by rw [show (fStr 5).size = 3 from rfl]; omega
  go_enter Try.func22, Try.ntmps22
  go_upto_region 2 with (fail)
  have k0 := ((Kept.refl w).alloc (.cells #[.int .i64 0, .int .i64 0, .string ⟨#[]⟩, .string ⟨#[]⟩, .slice none 0 0, .slice none 0 0] 31)).alloc (.cells #[.string t, .bool false] 67)
  have hza := (BlockAt.new w #[.int .i64 0, .int .i64 0, .string ⟨#[]⟩, .string ⟨#[]⟩, .slice none 0 0, .slice none 0 0] 31).kept ((Kept.refl _).alloc (.cells #[.string t, .bool false] 67))
  have hra := BlockAt.new1 w #[.string t, .bool false] 67 (.cells #[.int .i64 0, .int .i64 0, .string ⟨#[]⟩, .string ⟨#[]⟩, .slice none 0 0, .slice none 0 0] 31)
  generalize (w.alloc (.cells #[.int .i64 0, .int .i64 0, .string ⟨#[]⟩, .string ⟨#[]⟩, .slice none 0 0, .slice none 0 0] 31)).alloc (.cells #[.string t, .bool false] 67) = wa at *
  obtain ⟨p, hp⟩ : ∃ p, p = w.heap.size + 1 := ⟨_, rfl⟩
  rw [← hp] at hra ⊢
  have hpw : w.heap.size < p := by omega
  clear hp
  have hra' : RdR wa p (t, false) := ⟨t, hra, fun _ => rfl, (fun h => by cases h)⟩
  clear hra
  go_wp2_with fail
  refine (rtake1 p (t, false) _ hra' (by dsimp only; omega)).mono ?_
  rintro e w1 ⟨rfl, hr1, hg1⟩
  have hp1 := pt_size 1 (t, false)
  obtain ⟨q, hq⟩ : ∃ q, pt 1 (t, false) = q := ⟨_, rfl⟩
  have HNK := Lib.hid (show ((numL q.data.toList : Nat) : Int) = 5 by rw [← hq]; exact HKV.out)
  rw [hq] at hp1 ⊢
  clear hq
  rw [← HS0.out] at hr1
  have hza1 := hza.gr hg1 (by simp; omega)
  have hk1 := kept_gr k0 hg1 (fun g e => by cases e; omega)
  go_wp2_with fail
  refine (num_of q _ (by omega)).mono ?_
  rintro e w' ⟨rfl, rfl⟩
  rw [HNK.out]
  have hw1 := hg1.size
  have hpl := hr1.lt
  clear hza hra' hg1 k0
  go_upto_region 3 with (fail)
  have HX0 := Lib.hid (BlockAt.new w1 #[.int .i64 5, .int .i64 0, .string ⟨#[]⟩, .string ⟨#[]⟩, .slice none 0 0, .slice none 0 0] 31)
  have k2 := (Kept.refl w1).alloc (.cells #[.int .i64 5, .int .i64 0, .string ⟨#[]⟩, .string ⟨#[]⟩, .slice none 0 0, .slice none 0 0] 31)
  have HR0 := Lib.hid (hr1.kept k2)
  have HZ0 := Lib.hid (hza1.kept k2)
  have HK0 := Lib.hid (hk1.trans k2)
  generalize w1.alloc (.cells #[.int .i64 5, .int .i64 0, .string ⟨#[]⟩, .string ⟨#[]⟩, .slice none 0 0, .slice none 0 0] 31) = v0 at *
  obtain ⟨xb, hxb⟩ : ∃ xb, xb = w1.heap.size := ⟨_, rfl⟩
  rw [← hxb] at HX0 hpl ⊢
  clear hr1 hza1 hk1 k2 hxb hw1
  obtain ⟨a0, a1, a2, a3, a4, a5⟩ := box6 HX0.out
  obtain ⟨tt, r0, r1, _⟩ := HR0.out.cells
  rw [HB0.out] at r1
  go_wp2_with fail
  refine (between_any 5 1 8 _).mono ?_
  rintro e w' ⟨rfl, rfl⟩
  rw [show Rc.within 5 1 8 = true from rfl]
  go_wp2_with fail
  refine (fields_any 5 (by omega) _).mono ?_
  rintro e u0 ⟨rfl, hk2⟩
  have HX := Lib.hid (HX0.out.kept hk2)
  have HR := Lib.hid (HR0.out.kept hk2)
  have HZ := Lib.hid (HZ0.out.kept hk2)
  have HK := Lib.hid (HK0.out.trans hk2)
  have HSZ := Lib.hid (show s0.1.size ≤ 140737488351232 by omega)
  clear hk2 a0 a1 a2 a3 a4 a5 r0 r1 HX0 HR0 HZ0 HK0 hsz0
  go_wp2_with fail
  refine (has_lit (fStr 5) 73 73 rfl hfs _).mono ?_
  rintro e w' ⟨rfl, rfl⟩
  rw [show hasB (fStr 5) 73 = true from rfl]
  have hvb := pv_lt 4 s0 (by omega)
  go_wp2_with fail
  refine (rnum_any p s0 _ HR.out (by have := HSZ.out; omega)).mono ?_
  rintro e u1 ⟨rfl, hr, hg⟩
  have HX' := Lib.hid (HX.out.gr hg (by simp; omega))
  have HZ' := Lib.hid (HZ.out.gr hg (by simp; omega))
  have HK' := Lib.hid (kept_gr HK.out hg (fun g e => by cases e; omega))
  replace HX := HX'
  replace HZ := HZ'
  replace HK := HK'
  clear HX' HZ' HK' hg
  obtain ⟨vi, hvi⟩ : ∃ z, z = pv 4 s0 := ⟨_, rfl⟩
  rw [← hvi]
  have Hvi := Lib.hid hvi
  obtain ⟨s1, hs1⟩ : ∃ z : St, z = ps 4 s0 := ⟨_, rfl⟩
  rw [← hs1] at hr
  have HR' := Lib.hid hr
  have hsz' : s1.1.size ≤ 140737488351232 := by have := ps_size 4 s0; rw [← hs1] at this; have := HSZ.out; omega
  replace HR := HR'
  have HSZ' := Lib.hid hsz'
  replace HSZ := HSZ'
  have Hs1 := Lib.hid hs1
  clear HR' HSZ' hr hsz' hvi hs1
  rw [← Hvi.out] at hvb
  obtain ⟨a0, a1, a2, a3, a4, a5⟩ := box6 HX.out
  have fz := HX.out.free 1
  go_upto_region 8 with (fail)
  have hg := gr_set u1 xb 1 (.int .i64 ((vi : Nat) : Int))
  have HX' := Lib.hid (show BlockAt (u1.setCell ⟨xb, 1, none⟩ (.int .i64 ((vi : Nat) : Int))) xb #[.int .i64 5, .int .i64 ((vi : Nat) : Int), .string ⟨#[]⟩, .string ⟨#[]⟩, .slice none 0 0, .slice none 0 0] 31 from HX.out.set (.int .i64 ((vi : Nat) : Int)))
  have HR' := Lib.hid (HR.out.gr hg (by simp; omega))
  have HZ' := Lib.hid (HZ.out.gr hg (by simp; omega))
  have HK' := Lib.hid (kept_gr HK.out hg (fun g e => by cases e; omega))
  clear a0 a1 a2 a3 a4 a5 fz hg HX HR HZ HK
  obtain ⟨HX, HR⟩ := And.intro HX' HR'
  obtain ⟨HZ, HK⟩ := And.intro HZ' HK'
  clear HX' HR' HZ' HK'
  generalize u1.setCell ⟨xb, 1, none⟩ (.int .i64 ((vi : Nat) : Int)) = u2 at *
  go_wp2_with fail
  refine (has_lit (fStr 5) 78 78 rfl hfs _).mono ?_
  rintro e w' ⟨rfl, rfl⟩
  rw [show hasB (fStr 5) 78 = false from rfl]
  go_wp2_with fail
  refine (has_lit (fStr 5) 68 68 rfl hfs _).mono ?_
  rintro e w' ⟨rfl, rfl⟩
  rw [show hasB (fStr 5) 68 = true from rfl]
  have hdz := pt_size 32 s1
  go_wp2_with fail
  refine (rtake32 p s1 _ HR.out (by have := HSZ.out; omega)).mono ?_
  rintro e u3 ⟨rfl, hr, hg⟩
  have HX' := Lib.hid (HX.out.gr hg (by simp; omega))
  have HZ' := Lib.hid (HZ.out.gr hg (by simp; omega))
  have HK' := Lib.hid (kept_gr HK.out hg (fun g e => by cases e; omega))
  replace HX := HX'
  replace HZ := HZ'
  replace HK := HK'
  clear HX' HZ' HK' hg
  obtain ⟨td, htd⟩ : ∃ z, z = pt 32 s1 := ⟨_, rfl⟩
  rw [← htd]
  have Htd := Lib.hid htd
  obtain ⟨s4, hs4⟩ : ∃ z : St, z = ps 32 s1 := ⟨_, rfl⟩
  rw [← hs4] at hr
  have HR' := Lib.hid hr
  have hsz' : s4.1.size ≤ 140737488351232 := by have := ps_size 32 s1; rw [← hs4] at this; have := HSZ.out; omega
  replace HR := HR'
  have HSZ' := Lib.hid hsz'
  replace HSZ := HSZ'
  have Hs4 := Lib.hid hs4
  clear HR' HSZ' hr hsz' htd hs4
  rw [← Htd.out] at hdz
  obtain ⟨a0, a1, a2, a3, a4, a5⟩ := box6 HX.out
  have fz := HX.out.free 3
  go_upto_region 12 with (fail)
  have hg := gr_set u3 xb 3 (.string td)
  have HX' := Lib.hid (show BlockAt (u3.setCell ⟨xb, 3, none⟩ (.string td)) xb #[.int .i64 5, .int .i64 ((vi : Nat) : Int), .string ⟨#[]⟩, .string td, .slice none 0 0, .slice none 0 0] 31 from HX.out.set (.string td))
  have HR' := Lib.hid (HR.out.gr hg (by simp; omega))
  have HZ' := Lib.hid (HZ.out.gr hg (by simp; omega))
  have HK' := Lib.hid (kept_gr HK.out hg (fun g e => by cases e; omega))
  clear a0 a1 a2 a3 a4 a5 fz hg HX HR HZ HK
  obtain ⟨HX, HR⟩ := And.intro HX' HR'
  obtain ⟨HZ, HK⟩ := And.intro HZ' HK'
  clear HX' HR' HZ' HK'
  generalize u3.setCell ⟨xb, 3, none⟩ (.string td) = u4 at *
  go_wp2_with fail
  refine (has_lit (fStr 5) 76 76 rfl hfs _).mono ?_
  rintro e w' ⟨rfl, rfl⟩
  rw [show hasB (fStr 5) 76 = true from rfl]
  have hpl1 := pv_lt 4 s4 (by omega)
  go_wp2_with fail
  refine (rnum_any p s4 _ HR.out (by have := HSZ.out; omega)).mono ?_
  rintro e u5 ⟨rfl, hr, hg⟩
  have HX' := Lib.hid (HX.out.gr hg (by simp; omega))
  have HZ' := Lib.hid (HZ.out.gr hg (by simp; omega))
  have HK' := Lib.hid (kept_gr HK.out hg (fun g e => by cases e; omega))
  replace HX := HX'
  replace HZ := HZ'
  replace HK := HK'
  clear HX' HZ' HK' hg
  obtain ⟨vl, hvl⟩ : ∃ z, z = pv 4 s4 := ⟨_, rfl⟩
  rw [← hvl]
  have Hvl := Lib.hid hvl
  obtain ⟨s5, hs5⟩ : ∃ z : St, z = ps 4 s4 := ⟨_, rfl⟩
  rw [← hs5] at hr
  have HR' := Lib.hid hr
  have hsz' : s5.1.size ≤ 140737488351232 := by have := ps_size 4 s4; rw [← hs5] at this; have := HSZ.out; omega
  replace HR := HR'
  have HSZ' := Lib.hid hsz'
  replace HSZ := HSZ'
  have Hs5 := Lib.hid hs5
  clear HR' HSZ' hr hsz' hvl hs5
  rw [← Hvl.out] at hpl1
  go_upto_region 15 with (fail)
  have hwx := HX.out.lt
  go_loopw [8] (fun n wr => ∃ (m : Nat) (V : Value) (xs : List Int) (sj : St), Value.int .i64 (m : Int) = n ∧ m ≤ vl ∧ BlockAt wr xb #[.int .i64 5, .int .i64 ((vi : Nat) : Int), .string ⟨#[]⟩, .string td, V, .slice none 0 0] 31 ∧ wr.ownsRow (xb + 1) 3 1 V m (xs.map (Value.int .i64)) ∧
      RdR wr p sj ∧ BlockAt wr w.heap.size #[.int .i64 0, .int .i64 0, .string ⟨#[]⟩, .string ⟨#[]⟩, .slice none 0 0, .slice none 0 0] 31 ∧ Kept w wr ∧ LRel xs m (vl - m) sj (pList vl s5)) (fun n _ => vl - (intOf n).toNat)
  case atStart => exact ⟨0, _, [], s5, rfl, by omega, HX.out, World.ownsRow_nil _ _ _ _, HR.out, HZ.out, HK.out, LRel.start hpl1 HSZ.out⟩
  case round =>
    clear HX HR HZ HK hwx
    obtain ⟨m, V, xs, sj, rfl, hmv, hx, ho, hr, hz0, hgw, hl⟩ := hrel
    have HX := Lib.hid hx
    have HO := Lib.hid ho
    have HR := Lib.hid hr
    have HZ := Lib.hid hz0
    have HK := Lib.hid hgw
    have HL := Lib.hid hl
    have hsj := hl.size
    have hwx := hx.lt
    obtain ⟨sa, sb⟩ := sj
    dsimp only at hsj
    clear hx ho hr hz0 hgw hl
    by_cases hj : m < vl
    · cases sb with
      | false =>
        obtain ⟨tt, r0, r1, _⟩ := HR.out.cells
        obtain ⟨a0, a1, a2, a3, a4, a5⟩ := box6 HX.out
        go_upto_region 17 with (fail)
        have hv1 := pv_lt 4 (sa, false) (by omega)
        obtain ⟨d0, hd0⟩ : ∃ d : Nat, d = pv 4 (sa, false) := ⟨_, rfl⟩
        have HNV := Lib.hid (fun w1 (h : RdR w1 p (sa, false)) => rnum_any p (sa, false) w1 h (by dsimp only; omega))
        rw [← hd0] at HNV hv1
        have HD := Lib.hid hd0
        clear hd0
        go_region_law (first
          | (refine step_append_int (by rfl) _ _ _ (by rfl) 3 i0 Try.underlying24 HI.out.1 HI.out.2.1 HI.out.2.2.1 HI.out.2.2.2 (xb + 1) V m xs (by rfl) (own_kept (own_gr (own_kept HO.out (Kept.refl _).drew) hg (by simp; omega)) ((Kept.refl _).alloc _)) u.heap.size (d0 : Int) (by rfl) (BlockAt.new _ _ _) (by omega) (by simp; omega) ?_; intro v' w' ho' hg'; obtain ⟨aw, cw, rfl⟩ := slice_of_own ho'; have hx4 := ((((HX.out.kept (Kept.refl _).drew).gr hg (by simp; omega)).kept ((Kept.refl u).alloc (.cells #[.int .i64 (d0 : Int)] 3))).gr hg' (own_hi HO.out (by omega))); have c4 := hx4.cell 4; have f4 := hx4.free 4)
          | (go_simp; go_at_call 42; refine (HNV.out _ (HR.out.kept (Kept.refl _).drew)).mono ?_; rintro e u ⟨rfl, hr, hg⟩; have hus : wr.heap.size ≤ u.heap.size := (by simpa using hg.size); have a4' : u.cell? ⟨xb, 4, none⟩ = some V := ((HX.out.kept (Kept.refl _).drew).gr hg (by simp; omega)).cell 4; have a4'' : ∀ o, (u.alloc o).cell? ⟨xb, 4, none⟩ = some V := fun o => (((HX.out.kept (Kept.refl _).drew).gr hg (by simp; omega)).kept ((Kept.refl u).alloc o)).cell 4))
        all_goals
          have kal := (Kept.refl u).alloc (.cells #[.int .i64 (d0 : Int)] 3)
          have hset := gr_set w' xb 4 (.slice aw (m + 1) cw)
          have HX' := Lib.hid (show BlockAt (w'.setCell ⟨xb, 4, none⟩ (.slice aw (m + 1) cw)) xb #[.int .i64 5, .int .i64 ((vi : Nat) : Int), .string ⟨#[]⟩, .string td, .slice aw (m + 1) cw, .slice none 0 0] 31 from hx4.set (.slice aw (m + 1) cw))
          have HO' := Lib.hid (own_gr ho' hset (fun g e => by cases e; omega))
          have HR' := Lib.hid (((hr.kept kal).gr hg' (own_hi HO.out (by omega))).gr hset (by simp; omega))
          have HZ' := Lib.hid (((((HZ.out.kept (Kept.refl _).drew).gr hg (by simp; omega)).kept kal).gr hg' (own_hi HO.out (by omega))).gr hset (by simp; omega))
          have HK' := Lib.hid (kept_gr (kept_gr ((kept_gr HK.out.drew hg (fun g e => by cases e; omega)).trans kal) hg' (fun g e => by have := (HO.out.lt g e).1; omega)) hset (fun g e => by cases e; omega))
          clear hr hg hus a0 a1 a2 a3 a4 a5 a4' a4'' hx4 c4 f4 kal hset ho' hg' r0 r1
          generalize w'.setCell ⟨xb, 4, none⟩ (.slice aw (m + 1) cw) = wn at *
          go_wp2
          go_roundw
          case rel => exact ⟨m + 1, _, _, ps 4 (sa, false), by go_num, by omega, HX'.out, HO'.out, HR'.out, HZ'.out, HK'.out, by have h9 := HL.out; rw [show vl - m = vl - (m + 1) + 1 by omega] at h9; have h8 := h9.step; rw [← HD.out] at h8; exact h8⟩
          case measure => simp [intOf]; omega
      | true =>
        obtain ⟨tt, r0, r1, _⟩ := HR.out.cells
        have HGL := Lib.hid HL.out.doneT
        go_upto_region 18 with (fail)
        clear r0 r1
        go_wp2_with fail
        refine (has_lit (fStr 5) 83 83 rfl hfs _).mono ?_
        rintro e w' ⟨rfl, rfl⟩
        rw [show hasB (fStr 5) 83 = false from rfl]
        have hlen := HL.out.len
        subst hlen
        obtain ⟨al, cl, rfl⟩ := slice_of_own HO.out
        have hfin : rawK 5 s0 = (⟨5, ((vi : Nat) : Int), ByteArray.empty, td, xs, []⟩, (sa, true)) := by
          unfold rawK pI pN pD rL rS
          simp only [show Rc.fI 5 = true from rfl, show Rc.fN 5 = false from rfl, show Rc.fD 5 = true from rfl, show Rc.fL 5 = true from rfl, show Rc.fS 5 = false from rfl, Bool.false_eq_true, if_false, if_true]
          rw [← Hvi.out, ← Hs1.out, ← Htd.out, ← Hs4.out, ← Hvl.out, ← Hs5.out, HGL.out]
        have HFIN := Lib.hid hfin
        clear hfin
        obtain ⟨a0, a1, a2, a3, a4, a5⟩ := box6 HX.out
        obtain ⟨tt, r0, r1, hteq⟩ := HR.out.cells
        try dsimp only at r1 hteq
        have HV := Lib.hid (takeK_no (show okR (rawK 5 s0) = false by rw [HFIN.out]; rfl))
        go_wp2_with (refine wpList_store_block rfl 31 (.tmp 2) (.tmp 122) rfl _ #[.int .i64 0, .int .i64 0, .string ⟨#[]⟩, .string ⟨#[]⟩, .slice none 0 0, .slice none 0 0] #[.int .i64 0, .int .i64 0, .string ⟨#[]⟩, .string ⟨#[]⟩, .slice none 0 0, .slice none 0 0] 31 rfl rfl HZ.out Try.infoRec rfl (one6 _ _ _ _ _ _ _ _ _ _) ?_)
        refine bodyPost_ret (v := .tuple #[.agg #[.int .i64 0, .int .i64 0, .string ⟨#[]⟩, .string ⟨#[]⟩, .slice none 0 0, .slice none 0 0], .bool false]) (results_row_tmp rfl _ _ w.heap.size 31 #[.int .i64 0, .int .i64 0, .string ⟨#[]⟩, .string ⟨#[]⟩, .slice none 0 0, .slice none 0 0] _ rfl (HZ.out.setRow _) Try.underlying31 rfl Try.infoRec _ rfl) rfl ?_
        rw [HV.out]
        exact ⟨none, 0, none, 0, rfl, zero_in _, HK.out.setRow (by omega) _⟩

    · obtain rfl : m = vl := by omega
      have HGL := Lib.hid (show pList m s5 = (xs, (sa, sb)) by have h9 := HL.out; rw [Nat.sub_self] at h9; exact h9.done0)
      go_upto_region 18 with (fail)
      go_wp2_with fail
      refine (has_lit (fStr 5) 83 83 rfl hfs _).mono ?_
      rintro e w' ⟨rfl, rfl⟩
      rw [show hasB (fStr 5) 83 = false from rfl]
      have hlen := HL.out.len
      subst hlen
      obtain ⟨al, cl, rfl⟩ := slice_of_own HO.out
      have hfin : rawK 5 s0 = (⟨5, ((vi : Nat) : Int), ByteArray.empty, td, xs, []⟩, (sa, sb)) := by
        unfold rawK pI pN pD rL rS
        simp only [show Rc.fI 5 = true from rfl, show Rc.fN 5 = false from rfl, show Rc.fD 5 = true from rfl, show Rc.fL 5 = true from rfl, show Rc.fS 5 = false from rfl, Bool.false_eq_true, if_false, if_true]
        rw [← Hvi.out, ← Hs1.out, ← Htd.out, ← Hs4.out, ← Hvl.out, ← Hs5.out, HGL.out]
      have HFIN := Lib.hid hfin
      clear hfin
      obtain ⟨a0, a1, a2, a3, a4, a5⟩ := box6 HX.out
      obtain ⟨tt, r0, r1, hteq⟩ := HR.out.cells
      try dsimp only at r1 hteq
      cases hbd : sb with
      | true =>
        rw [hbd] at r1
        have HBD := Lib.hid hbd
        clear hbd hteq
        have HV := Lib.hid (takeK_no (show okR (rawK 5 s0) = false by rw [HFIN.out]; unfold okR; dsimp only; rw [HBD.out]; rfl))
        go_wp2_with (refine wpList_store_block rfl 31 (.tmp 2) (.tmp 122) rfl _ #[.int .i64 0, .int .i64 0, .string ⟨#[]⟩, .string ⟨#[]⟩, .slice none 0 0, .slice none 0 0] #[.int .i64 0, .int .i64 0, .string ⟨#[]⟩, .string ⟨#[]⟩, .slice none 0 0, .slice none 0 0] 31 rfl rfl HZ.out Try.infoRec rfl (one6 _ _ _ _ _ _ _ _ _ _) ?_)
        refine bodyPost_ret (v := .tuple #[.agg #[.int .i64 0, .int .i64 0, .string ⟨#[]⟩, .string ⟨#[]⟩, .slice none 0 0, .slice none 0 0], .bool false]) (results_row_tmp rfl _ _ w.heap.size 31 #[.int .i64 0, .int .i64 0, .string ⟨#[]⟩, .string ⟨#[]⟩, .slice none 0 0, .slice none 0 0] _ rfl (HZ.out.setRow _) Try.underlying31 rfl Try.infoRec _ rfl) rfl ?_
        rw [HV.out]
        exact ⟨none, 0, none, 0, rfl, zero_in _, HK.out.setRow (by omega) _⟩
      | false =>
        have HTE := Lib.hid (hteq hbd)
        rw [hbd] at r1
        have HBD := Lib.hid hbd
        clear hbd hteq
        by_cases hem : tt.size = 0
        · obtain ⟨d, d'⟩ := str_no hem
          have HEM := Lib.hid (decide_eq_true hem)
          clear hem
          go_wp2_with fail
          refine (rrec_any ⟨5, ((vi : Nat) : Int), ByteArray.empty, td, xs, []⟩ al xs.length cl none 0 0 _ ⟨ints_at2 HO.out rfl HL.out.wf, SlotsIn.nil _ _, by dsimp only; omega, by dsimp only; omega, by dsimp only; exact Nat.zero_le _, by dsimp only; omega⟩).mono ?_
          rintro e wz ⟨rfl, hkz⟩
          replace HX := Lib.hid (HX.out.kept hkz)
          replace HZ := Lib.hid (HZ.out.kept hkz)
          replace HK := Lib.hid (HK.out.trans hkz)
          replace HO := Lib.hid (own_kept HO.out hkz)
  
          clear hkz a0 a1 a2 a3 a4 a5 r0 r1 d d'
          cases hmy : Rec.may ⟨5, ((vi : Nat) : Int), ByteArray.empty, td, xs, []⟩ with
          | false =>
            have HMY := Lib.hid hmy
            clear hmy
            have HV := Lib.hid (takeK_no (show okR (rawK 5 s0) = false by rw [HFIN.out]; unfold okR; dsimp only; rw [HBD.out, HMY.out]; simp))
            go_wp2_with (refine wpList_store_block rfl 31 (.tmp 2) (.tmp 122) rfl _ #[.int .i64 0, .int .i64 0, .string ⟨#[]⟩, .string ⟨#[]⟩, .slice none 0 0, .slice none 0 0] #[.int .i64 0, .int .i64 0, .string ⟨#[]⟩, .string ⟨#[]⟩, .slice none 0 0, .slice none 0 0] 31 rfl rfl HZ.out Try.infoRec rfl (one6 _ _ _ _ _ _ _ _ _ _) ?_)
            refine bodyPost_ret (v := .tuple #[.agg #[.int .i64 0, .int .i64 0, .string ⟨#[]⟩, .string ⟨#[]⟩, .slice none 0 0, .slice none 0 0], .bool false]) (results_row_tmp rfl _ _ w.heap.size 31 #[.int .i64 0, .int .i64 0, .string ⟨#[]⟩, .string ⟨#[]⟩, .slice none 0 0, .slice none 0 0] _ rfl (HZ.out.setRow _) Try.underlying31 rfl Try.infoRec _ rfl) rfl ?_
            rw [HV.out]
            exact ⟨none, 0, none, 0, rfl, zero_in _, HK.out.setRow (by omega) _⟩
          | true =>
            have HMY := Lib.hid hmy
            clear hmy
            obtain ⟨a0, a1, a2, a3, a4, a5⟩ := box6 HX.out
            have HV := Lib.hid (takeK_yes (show okR (rawK 5 s0) = true by rw [HFIN.out]; unfold okR; dsimp only; rw [HBD.out, HMY.out, ← HTE.out, HEM.out]; rfl))
            go_wp2_with (refine wpList_store_block rfl 31 (.tmp 2) (.tmp 123) rfl _ #[.int .i64 5, .int .i64 ((vi : Nat) : Int), .string ⟨#[]⟩, .string td, .slice al xs.length cl, .slice none 0 0] #[.int .i64 0, .int .i64 0, .string ⟨#[]⟩, .string ⟨#[]⟩, .slice none 0 0, .slice none 0 0] 31 rfl rfl HZ.out Try.infoRec rfl (one6 _ _ _ _ _ _ _ _ _ _) ?_)
            refine bodyPost_ret (v := .tuple #[.agg #[.int .i64 5, .int .i64 ((vi : Nat) : Int), .string ⟨#[]⟩, .string td, .slice al xs.length cl, .slice none 0 0], .bool true]) (results_row_tmp rfl _ _ w.heap.size 31 #[.int .i64 5, .int .i64 ((vi : Nat) : Int), .string ⟨#[]⟩, .string td, .slice al xs.length cl, .slice none 0 0] _ rfl (HZ.out.setRow _) Try.underlying31 rfl Try.infoRec _ rfl) rfl ?_
            rw [HV.out, HFIN.out]
            have HZR := HZ.out
            exact ⟨al, cl, none, 0, rfl, ⟨ints_at2 (own_gr HO.out (grown_row _ _ _) (by simp; omega)) rfl HL.out.wf, SlotsIn.nil _ _, by dsimp only; omega, by dsimp only; omega, by dsimp only; exact Nat.zero_le _, by dsimp only; omega⟩, HK.out.setRow (by omega) _⟩
        · obtain ⟨d, d'⟩ := str_yes hem
          have HEM := Lib.hid (decide_eq_false hem)
          clear hem
          have HV := Lib.hid (takeK_no (show okR (rawK 5 s0) = false by rw [HFIN.out]; unfold okR; dsimp only; rw [← HTE.out, HEM.out]; simp))
          go_wp2_with (refine wpList_store_block rfl 31 (.tmp 2) (.tmp 122) rfl _ #[.int .i64 0, .int .i64 0, .string ⟨#[]⟩, .string ⟨#[]⟩, .slice none 0 0, .slice none 0 0] #[.int .i64 0, .int .i64 0, .string ⟨#[]⟩, .string ⟨#[]⟩, .slice none 0 0, .slice none 0 0] 31 rfl rfl HZ.out Try.infoRec rfl (one6 _ _ _ _ _ _ _ _ _ _) ?_)
          refine bodyPost_ret (v := .tuple #[.agg #[.int .i64 0, .int .i64 0, .string ⟨#[]⟩, .string ⟨#[]⟩, .slice none 0 0, .slice none 0 0], .bool false]) (results_row_tmp rfl _ _ w.heap.size 31 #[.int .i64 0, .int .i64 0, .string ⟨#[]⟩, .string ⟨#[]⟩, .slice none 0 0, .slice none 0 0] _ rfl (HZ.out.setRow _) Try.underlying31 rfl Try.infoRec _ rfl) rfl ?_
          rw [HV.out]
          exact ⟨none, 0, none, 0, rfl, zero_in _, HK.out.setRow (by omega) _⟩
end Go.Proofs.Ytoanldoocmmhjaa
