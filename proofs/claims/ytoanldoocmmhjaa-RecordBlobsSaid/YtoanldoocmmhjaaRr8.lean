/- siloref13.Take, by what it answers, kind by kind (no conditions but on the text's length). -/
import Derived.Test.YtoanldoocmmhjaaRr7
import Derived.Deep.AppendLies
import Derived.Deep.RegionWith
import Derived.Deep.RegionLaw
namespace Go.Proofs.Ytoanldoocmmhjaa
open Go.RowKit
set_option maxRecDepth 100000 in
set_option maxHeartbeats 4000000 in
theorem rtake_1 (t : ByteArray) (w : World) (hz : t.size ≤ 140737488351232) (hk : ((pv 1 (t, false) : Nat) : Int) = 1) (hs0 : (ps 1 (t, false)).2 = false) :
    Calls Try.prog 22 #[.string t] w (TakeP (fun b => .bool b) w (takeR t)) := by
  obtain ⟨s0, hs⟩ : ∃ s0 : St, s0 = ps 1 (t, false) := ⟨_, rfl⟩
  rw [← hs] at hs0
  have hsz0 := ps_size 1 (t, false)
  rw [← hs] at hsz0
  dsimp only at hsz0
  have htk : takeR t = takeK (rawK 1 s0) := by
    unfold takeR
    rw [hk, ← hs, if_pos ⟨hs0, rfl⟩]
  rw [htk]
  have HS0 := Lib.hid hs
  have HKV := Lib.hid hk
  have HB0 := Lib.hid hs0
  obtain ⟨i0, hi, hz0, hz1, hz2⟩ := info_parts Try.infoI
  have HI := Lib.hid (And.intro hi (And.intro hz0 (And.intro hz1 hz2)))
  clear hi hz0 hz1 hz2
  obtain ⟨i2, hi, hz0, hz1, hz2⟩ := info_parts Try.infoSlot
  have HI2 := Lib.hid (And.intro hi (And.intro hz0 (And.intro hz1 hz2)))
  clear hi hz0 hz1 hz2 hs hk hs0 htk
  have hfs : (fStr 1).size ≤ 9223372036854775807 := by rw [show (fStr 1).size = 2 from rfl]; omega
  go_enter Try.func22, Try.ntmps22
  go_upto_region 2 with (fail)
  have k0 := ((Kept.refl w).alloc (.cells #[.int .i64 0, .int .i64 0, .string ⟨#[]⟩, .string ⟨#[]⟩, .slice none 0 0, .slice none 0 0] 31)).alloc (.cells #[.string t, .bool false] 67)
  have hza := (BlockAt.new w #[.int .i64 0, .int .i64 0, .string ⟨#[]⟩, .string ⟨#[]⟩, .slice none 0 0, .slice none 0 0] 31).kept ((Kept.refl _).alloc (.cells #[.string t, .bool false] 67))
  have hra := BlockAt.new1 w #[.string t, .bool false] 67 (.cells #[.int .i64 0, .int .i64 0, .string ⟨#[]⟩, .string ⟨#[]⟩, .slice none 0 0, .slice none 0 0] 31)
  generalize (w.alloc (.cells #[.int .i64 0, .int .i64 0, .string ⟨#[]⟩, .string ⟨#[]⟩, .slice none 0 0, .slice none 0 0] 31)).alloc (.cells #[.string t, .bool false] 67) = wa at *
  obtain ⟨p, hp⟩ : ∃ p, p = w.heap.size + 1 := ⟨_, rfl⟩
  rw [← hp] at hra ⊢
  have hpw : w.heap.size < p := by omega
  clear hp
  have hra' : RdR wa p (t, false) := ⟨t, hra, fun _ => rfl, (fun h => by cases h)⟩
  clear hra
  go_wp2_with fail
  refine (rtake1 p (t, false) _ hra' (by dsimp only; omega)).mono ?_
  rintro e w1 ⟨rfl, hr1, hg1⟩
  have hp1 := pt_size 1 (t, false)
  obtain ⟨q, hq⟩ : ∃ q, pt 1 (t, false) = q := ⟨_, rfl⟩
  have HNK := Lib.hid (show ((numL q.data.toList : Nat) : Int) = 1 by rw [← hq]; exact HKV.out)
  rw [hq] at hp1 ⊢
  clear hq
  rw [← HS0.out] at hr1
  have hza1 := hza.gr hg1 (by simp; omega)
  have hk1 := kept_gr k0 hg1 (fun g e => by cases e; omega)
  go_wp2_with fail
  refine (num_of q _ (by omega)).mono ?_
  rintro e w' ⟨rfl, rfl⟩
  rw [HNK.out]
  have hw1 := hg1.size
  have hpl := hr1.lt
  clear hza hra' hg1 k0
  go_upto_region 3 with (fail)
  have HX0 := Lib.hid (BlockAt.new w1 #[.int .i64 1, .int .i64 0, .string ⟨#[]⟩, .string ⟨#[]⟩, .slice none 0 0, .slice none 0 0] 31)
  have k2 := (Kept.refl w1).alloc (.cells #[.int .i64 1, .int .i64 0, .string ⟨#[]⟩, .string ⟨#[]⟩, .slice none 0 0, .slice none 0 0] 31)
  have HR0 := Lib.hid (hr1.kept k2)
  have HZ0 := Lib.hid (hza1.kept k2)
  have HK0 := Lib.hid (hk1.trans k2)
  generalize w1.alloc (.cells #[.int .i64 1, .int .i64 0, .string ⟨#[]⟩, .string ⟨#[]⟩, .slice none 0 0, .slice none 0 0] 31) = v0 at *
  obtain ⟨xb, hxb⟩ : ∃ xb, xb = w1.heap.size := ⟨_, rfl⟩
  rw [← hxb] at HX0 hpl ⊢
  clear hr1 hza1 hk1 k2 hxb hw1
  obtain ⟨a0, a1, a2, a3, a4, a5⟩ := box6 HX0.out
  obtain ⟨tt, r0, r1, _⟩ := HR0.out.cells
  rw [HB0.out] at r1
  go_wp2_with fail
  refine (between_any 1 1 8 _).mono ?_
  rintro e w' ⟨rfl, rfl⟩
  rw [show Rc.within 1 1 8 = true from rfl]
  go_wp2_with fail
  refine (fields_any 1 (by omega) _).mono ?_
  rintro e u0 ⟨rfl, hk2⟩
  have HX := Lib.hid (HX0.out.kept hk2)
  have HR := Lib.hid (HR0.out.kept hk2)
  have HZ := Lib.hid (HZ0.out.kept hk2)
  have HK := Lib.hid (HK0.out.trans hk2)
  have HSZ := Lib.hid (show s0.1.size ≤ 140737488351232 by omega)
  clear hk2 a0 a1 a2 a3 a4 a5 r0 r1 HX0 HR0 HZ0 HK0 hsz0
  go_wp2_with fail
  refine (has_lit (fStr 1) 73 73 rfl hfs _).mono ?_
  rintro e w' ⟨rfl, rfl⟩
  rw [show hasB (fStr 1) 73 = true from rfl]
  have hvb := pv_lt 4 s0 (by omega)
  go_wp2_with fail
  refine (rnum_any p s0 _ HR.out (by have := HSZ.out; omega)).mono ?_
  rintro e u1 ⟨rfl, hr, hg⟩
  have HX' := Lib.hid (HX.out.gr hg (by simp; omega))
  have HZ' := Lib.hid (HZ.out.gr hg (by simp; omega))
  have HK' := Lib.hid (kept_gr HK.out hg (fun g e => by cases e; omega))
  replace HX := HX'
  replace HZ := HZ'
  replace HK := HK'
  clear HX' HZ' HK' hg
  obtain ⟨vi, hvi⟩ : ∃ z, z = pv 4 s0 := ⟨_, rfl⟩
  rw [← hvi]
  have Hvi := Lib.hid hvi
  obtain ⟨s1, hs1⟩ : ∃ z : St, z = ps 4 s0 := ⟨_, rfl⟩
  rw [← hs1] at hr
  have HR' := Lib.hid hr
  have hsz' : s1.1.size ≤ 140737488351232 := by have := ps_size 4 s0; rw [← hs1] at this; have := HSZ.out; omega
  replace HR := HR'
  have HSZ' := Lib.hid hsz'
  replace HSZ := HSZ'
  have Hs1 := Lib.hid hs1
  clear HR' HSZ' hr hsz' hvi hs1
  rw [← Hvi.out] at hvb
  obtain ⟨a0, a1, a2, a3, a4, a5⟩ := box6 HX.out
  have fz := HX.out.free 1
  go_upto_region 8 with (fail)
  have hg := gr_set u1 xb 1 (.int .i64 ((vi : Nat) : Int))
  have HX' := Lib.hid (show BlockAt (u1.setCell ⟨xb, 1, none⟩ (.int .i64 ((vi : Nat) : Int))) xb #[.int .i64 1, .int .i64 ((vi : Nat) : Int), .string ⟨#[]⟩, .string ⟨#[]⟩, .slice none 0 0, .slice none 0 0] 31 from HX.out.set (.int .i64 ((vi : Nat) : Int)))
  have HR' := Lib.hid (HR.out.gr hg (by simp; omega))
  have HZ' := Lib.hid (HZ.out.gr hg (by simp; omega))
  have HK' := Lib.hid (kept_gr HK.out hg (fun g e => by cases e; omega))
  clear a0 a1 a2 a3 a4 a5 fz hg HX HR HZ HK
  obtain ⟨HX, HR⟩ := And.intro HX' HR'
  obtain ⟨HZ, HK⟩ := And.intro HZ' HK'
  clear HX' HR' HZ' HK'
  generalize u1.setCell ⟨xb, 1, none⟩ (.int .i64 ((vi : Nat) : Int)) = u2 at *
  go_wp2_with fail
  refine (has_lit (fStr 1) 78 78 rfl hfs _).mono ?_
  rintro e w' ⟨rfl, rfl⟩
  rw [show hasB (fStr 1) 78 = false from rfl]
  go_wp2_with fail
  refine (has_lit (fStr 1) 68 68 rfl hfs _).mono ?_
  rintro e w' ⟨rfl, rfl⟩
  rw [show hasB (fStr 1) 68 = false from rfl]
  go_wp2_with fail
  refine (has_lit (fStr 1) 76 76 rfl hfs _).mono ?_
  rintro e w' ⟨rfl, rfl⟩
  rw [show hasB (fStr 1) 76 = false from rfl]
  go_wp2_with fail
  refine (has_lit (fStr 1) 83 83 rfl hfs _).mono ?_
  rintro e w' ⟨rfl, rfl⟩
  rw [show hasB (fStr 1) 83 = true from rfl]
  have hps := pv1_lt s1
  have hp1 := pt_size 1 s1
  go_wp2_with fail
  refine (rtake1 p s1 _ HR.out (by have := HSZ.out; omega)).mono ?_
  rintro e ua ⟨rfl, hr, hg⟩
  have hsz' := ps_size 1 s1
  have HX' := Lib.hid (HX.out.gr hg (by simp; omega))
  have HZ' := Lib.hid (HZ.out.gr hg (by simp; omega))
  have HK' := Lib.hid (kept_gr HK.out hg (fun g e => by cases e; omega))
  replace HX := HX'
  replace HZ := HZ'
  replace HK := HK'

  clear HX' HZ' HK' hg
  obtain ⟨qs, hqs⟩ : ∃ z, z = pt 1 s1 := ⟨_, rfl⟩
  rw [← hqs] at hp1 ⊢
  obtain ⟨s6, hs6⟩ : ∃ z : St, z = ps 1 s1 := ⟨_, rfl⟩
  rw [← hs6] at hr hsz'
  have HR' := Lib.hid hr
  replace HR := HR'

  have HSZ' := Lib.hid (show s6.1.size ≤ 140737488351232 by have := HSZ.out; omega)
  have Hs6 := Lib.hid hs6
  obtain ⟨vs, hvs⟩ : ∃ vs : Nat, vs = pv 1 s1 := ⟨_, rfl⟩
  have HVS := Lib.hid hvs
  rw [← hvs] at hps
  have HNS := Lib.hid (show numL qs.data.toList = vs by rw [hvs, hqs]; rfl)
  clear HR' hr hs6 hvs hqs hsz'
  go_wp2_with fail
  refine (num_of qs _ (by omega)).mono ?_
  rintro e w' ⟨rfl, rfl⟩
  rw [HNS.out]
  go_upto_region 21 with (fail)
  have hwx := HX.out.lt
  go_loopw [10] (fun n wr => ∃ (m2 : Nat) (V2 : Value) (ys : List (Int × Int)) (sj : St), Value.int .i64 (m2 : Int) = n ∧ m2 ≤ vs ∧ BlockAt wr xb #[.int .i64 1, .int .i64 ((vi : Nat) : Int), .string ⟨#[]⟩, .string ⟨#[]⟩, .slice none 0 0, V2] 31 ∧ wr.ownsRow (xb + 1) 57 2 V2 m2 (sv ys) ∧
      RdR wr p sj ∧ BlockAt wr w.heap.size #[.int .i64 0, .int .i64 0, .string ⟨#[]⟩, .string ⟨#[]⟩, .slice none 0 0, .slice none 0 0] 31 ∧ Kept w wr ∧ QRel ys m2 (vs - m2) sj (rSlots vs s6)) (fun n _ => vs - (intOf n).toNat)
  case atStart => exact ⟨0, _, [], s6, rfl, by omega, HX.out, World.ownsRow_nil _ _ _ _, HR.out, HZ.out, HK.out, QRel.start hps HSZ'.out⟩
  case round =>
    clear HX HR HZ HK hwx
    obtain ⟨m2, V2, ys, sj, rfl, hmv, hx, ho, hr, hz0, hgw, hl⟩ := hrel
    have HX := Lib.hid hx
    have HO2 := Lib.hid ho
  
    have HR := Lib.hid hr
    have HZ := Lib.hid hz0
    have HK := Lib.hid hgw
    have HL2 := Lib.hid hl
    have hsj2 := hl.size
    obtain ⟨ta, tb⟩ := sj
    dsimp only at hsj2
    clear hx ho hr hz0 hgw hl
    by_cases hj : m2 < vs
    · cases tb with
      | false =>
        have hwx := HX.out.lt
        obtain ⟨tt, r0, r1, _⟩ := HR.out.cells
        go_wp2_with fail
        clear r0 r1
        have hv1 := pv_lt 4 (ta, false) (by omega)
        refine (rnum_any p (ta, false) _ HR.out (by dsimp only; omega)).mono ?_
        rintro e wq ⟨rfl, hr, hg⟩
        have hsd := ps_size 4 (ta, false)
        dsimp only at hsd
        have HXq := Lib.hid (HX.out.gr hg (by simp; omega))
        have HZq := Lib.hid (HZ.out.gr hg (by simp; omega))
        have HKq := Lib.hid (kept_gr HK.out hg (fun g e => by cases e; omega))
        have HO2q := Lib.hid (own_gr HO2.out hg (by simp; omega))
      
        obtain ⟨s8, hs8⟩ : ∃ s8 : St, s8 = ps 4 (ta, false) := ⟨_, rfl⟩
        rw [← hs8] at hr hsd
        have HRq := Lib.hid hr
        have HS8 := Lib.hid hs8
        obtain ⟨d0, hd0⟩ : ∃ d : Nat, d = pv 4 (ta, false) := ⟨_, rfl⟩
        rw [← hd0] at hv1 ⊢
        have HD := Lib.hid hd0
        have hs8z : s8.1.size ≤ 140737488351232 := by omega
        clear hr hg hs8 hd0 HX HZ HK HO2 HR
        have hv2 := pv_lt 4 s8 (by omega)
        go_wp2_with fail
        refine (rnum_any p s8 _ HRq.out (by omega)).mono ?_
        rintro e wp ⟨rfl, hr, hg⟩
        have HX := Lib.hid (HXq.out.gr hg (by simp; omega))
        have HZ := Lib.hid (HZq.out.gr hg (by simp; omega))
        have HK := Lib.hid (kept_gr HKq.out hg (fun g e => by cases e; omega))
        have HO2 := Lib.hid (own_gr HO2q.out hg (by simp; omega))
      
        have HR := Lib.hid hr
        obtain ⟨q0, hq0⟩ : ∃ d : Nat, d = pv 4 s8 := ⟨_, rfl⟩
        rw [← hq0] at hv2 ⊢
        have HQ := Lib.hid hq0
        clear hr hg hq0 HXq HZq HKq HO2q HRq
        go_upto_region 24 with (fail)
        have hbw := HX.out.lt
        have hylt : ∀ g, V2.ownBlock = some g → g < wp.heap.size := fun g e => (HO2.out.lt g e).2
        have hy := BlockAt.new wp #[.int .i64 (d0 : Int), .int .i64 (q0 : Int)] 57
        have ky := (Kept.refl wp).alloc (.cells #[.int .i64 (d0 : Int), .int .i64 (q0 : Int)] 57)
        replace HX := Lib.hid (HX.out.kept ky)
        replace HZ := Lib.hid (HZ.out.kept ky)
        replace HR := Lib.hid (HR.out.kept ky)
        replace HK := Lib.hid (HK.out.trans ky)
        replace HO2 := Lib.hid (own_kept HO2.out ky)
      
        have hbx := HX.out.lt
        obtain ⟨yb, hyb⟩ : ∃ yb, yb = wp.heap.size := ⟨_, rfl⟩
        rw [← hyb] at hy hbw hylt ⊢
        have HY := Lib.hid hy
        have hyx : xb < yb := by omega
        generalize wp.alloc (.cells #[.int .i64 (d0 : Int), .int .i64 (q0 : Int)] 57) = wy at *
        clear hy ky hyb
        by_cases hd4 : d0 = 4294967295
        · have hb4 : ((d0 : Int) == 4294967295) = true := by rw [hd4]; rfl
          have HFX := Lib.hid (show (-1 : Int) = fixd d0 by unfold fixd; rw [if_pos hd4])
          have y0 : wy.cell? ⟨yb, 0, none⟩ = some (.int .i64 (d0 : Int)) := HY.out.cell 0
          have fy := HY.out.free 0
          go_upto_region 26 with (fail)
          have hset0 := gr_set wy yb 0 (.int .i64 (-1))
          replace HY := Lib.hid (show BlockAt (wy.setCell ⟨yb, 0, none⟩ (.int .i64 (-1))) yb #[.int .i64 (-1), .int .i64 (q0 : Int)] 57 from HY.out.set (.int .i64 (-1)))
          replace HO2 := Lib.hid (own_gr2 HO2.out hset0 (by cases hv : V2.ownBlock with | none => exact .inl rfl | some g => exact .inr (fun e => by have h1 := hylt g hv; cases e; omega)))
        
          replace HX := Lib.hid (HX.out.gr hset0 (by simp; omega))
          replace HZ := Lib.hid (HZ.out.gr hset0 (by simp; omega))
          replace HR := Lib.hid (HR.out.gr hset0 (by simp; omega))
          replace HK := Lib.hid (kept_gr HK.out hset0 (fun g e => by cases e; omega))
          clear hset0 y0 fy
          generalize wy.setCell ⟨yb, 0, none⟩ (.int .i64 (-1)) = wz at *
          have hbz := HX.out.lt
          obtain ⟨a0, a1, a2, a3, a4, a5⟩ := box6 HX.out
          have y0 : wz.cell? ⟨yb, 0, none⟩ = some (.int .i64 (-1)) := HY.out.cell 0
          have y1 : wz.cell? ⟨yb, 1, none⟩ = some (.int .i64 (q0 : Int)) := HY.out.cell 1
          go_wp2_with (at_builtin; refine wpList_append_own _ rfl _ _ 29 rfl (xb + 1) 57 i2 (.agg #[.int .i64 0, .int .i64 0]) 2 16 Try.underlying29 HI2.out.1 HI2.out.2.1 HI2.out.2.2.1 HI2.out.2.2.2 rfl (by decide) V2 m2 (sv ys) rfl (own_kept HO2.out ((Kept.refl _).alloc _)) ⟨wz.heap.size, 0, none⟩ 1 1 [.int .i64 (-1), .int .i64 (q0 : Int)] rfl rfl ?c1 ?c2 ?c3 ?c4 ?c5 ?_)
          case c1 =>
            intro j u hj
            match j, hj with
            | 0, hj => simp at hj; subst hj; simp [Addr.add]
            | 1, hj => simp at hj; subst hj; simp [Addr.add]
          case c2 =>
            intro u hu
            simp at hu
            rcases hu with rfl | rfl
            · rfl
            · rfl
          case c3 => unfold maxLen; omega
          case c4 => omega
          case c5 => simp; omega
          intro v' w' ho' hg' _
          obtain ⟨aw, cw, rfl⟩ := slice_of_own ho'
          have kal := (Kept.refl wz).alloc (.cells #[.int .i64 (-1), .int .i64 (q0 : Int)] 57)
          have hx4 := (HX.out.kept kal).gr hg' (own_hi HO2.out (by omega))
          obtain ⟨c0, c1, c2, c3, c4, c5⟩ := box6 hx4
          have f5 := hx4.free 5
          have hset := gr_set w' xb 5 (.slice aw (m2 + 1) cw)
          have HX' := Lib.hid (show BlockAt (w'.setCell ⟨xb, 5, none⟩ (.slice aw (m2 + 1) cw)) xb #[.int .i64 1, .int .i64 ((vi : Nat) : Int), .string ⟨#[]⟩, .string ⟨#[]⟩, .slice none 0 0, .slice aw (m2 + 1) cw] 31 from hx4.set (.slice aw (m2 + 1) cw))
          have HO' := Lib.hid (own_gr (show w'.ownsRow (xb + 1) 57 2 (.slice aw (m2 + 1) cw) (m2 + 1) (sv (ys ++ [((-1), (q0 : Int))])) by rw [sv_append]; exact ho') hset (fun g e => by cases e; omega))
          have HR' := Lib.hid (((HR.out.kept kal).gr hg' (own_hi HO2.out (by omega))).gr hset (by simp; omega))
          have HZ' := Lib.hid (((HZ.out.kept kal).gr hg' (own_hi HO2.out (by omega))).gr hset (by simp; omega))
          have HK' := Lib.hid (kept_gr (kept_gr (HK.out.trans kal) hg' (fun g e => by have := (HO2.out.lt g e).1; omega)) hset (fun g e => by cases e; omega))

          clear kal hx4 hset ho' hg' a0 a1 a2 a3 a4 a5 y0 y1
          go_wp2
          clear c0 c1 c2 c3 c4 c5 f5
          generalize w'.setCell ⟨xb, 5, none⟩ (.slice aw (m2 + 1) cw) = wn at *
          go_roundw
          case rel => exact ⟨m2 + 1, _, _, ps 4 s8, by go_num, by omega, HX'.out, HO'.out, HR'.out, HZ'.out, HK'.out, by have h9 := HL2.out; rw [show vs - m2 = vs - (m2 + 1) + 1 by omega] at h9; have h8 := h9.step; rw [← HS8.out, ← HD.out, ← HQ.out] at h8; rw [show (-1) = fixd d0 from HFX.out]; exact h8⟩
          case measure => simp [intOf]; omega
        · have hb4 : ((d0 : Int) == 4294967295) = false := by rw [beq_eq_false_iff_ne]; omega
          have HFX := Lib.hid (show (d0 : Int) = fixd d0 by unfold fixd; rw [if_neg hd4])
          have y0 : wy.cell? ⟨yb, 0, none⟩ = some (.int .i64 (d0 : Int)) := HY.out.cell 0
          go_upto_region 26 with (fail)
          clear y0
          obtain ⟨a0, a1, a2, a3, a4, a5⟩ := box6 HX.out
          have y0 : wy.cell? ⟨yb, 0, none⟩ = some (.int .i64 (d0 : Int)) := HY.out.cell 0
          have y1 : wy.cell? ⟨yb, 1, none⟩ = some (.int .i64 (q0 : Int)) := HY.out.cell 1
          go_wp2_with (at_builtin; refine wpList_append_own _ rfl _ _ 29 rfl (xb + 1) 57 i2 (.agg #[.int .i64 0, .int .i64 0]) 2 16 Try.underlying29 HI2.out.1 HI2.out.2.1 HI2.out.2.2.1 HI2.out.2.2.2 rfl (by decide) V2 m2 (sv ys) rfl (own_kept HO2.out ((Kept.refl _).alloc _)) ⟨wy.heap.size, 0, none⟩ 1 1 [.int .i64 (d0 : Int), .int .i64 (q0 : Int)] rfl rfl ?c1 ?c2 ?c3 ?c4 ?c5 ?_)
          case c1 =>
            intro j u hj
            match j, hj with
            | 0, hj => simp at hj; subst hj; simp [Addr.add]
            | 1, hj => simp at hj; subst hj; simp [Addr.add]
          case c2 =>
            intro u hu
            simp at hu
            rcases hu with rfl | rfl
            · rfl
            · rfl
          case c3 => unfold maxLen; omega
          case c4 => omega
          case c5 => simp; omega
          intro v' w' ho' hg' _
          obtain ⟨aw, cw, rfl⟩ := slice_of_own ho'
          have kal := (Kept.refl wy).alloc (.cells #[.int .i64 (d0 : Int), .int .i64 (q0 : Int)] 57)
          have hx4 := (HX.out.kept kal).gr hg' (own_hi HO2.out (by omega))
          obtain ⟨c0, c1, c2, c3, c4, c5⟩ := box6 hx4
          have f5 := hx4.free 5
          have hset := gr_set w' xb 5 (.slice aw (m2 + 1) cw)
          have HX' := Lib.hid (show BlockAt (w'.setCell ⟨xb, 5, none⟩ (.slice aw (m2 + 1) cw)) xb #[.int .i64 1, .int .i64 ((vi : Nat) : Int), .string ⟨#[]⟩, .string ⟨#[]⟩, .slice none 0 0, .slice aw (m2 + 1) cw] 31 from hx4.set (.slice aw (m2 + 1) cw))
          have HO' := Lib.hid (own_gr (show w'.ownsRow (xb + 1) 57 2 (.slice aw (m2 + 1) cw) (m2 + 1) (sv (ys ++ [((d0 : Int), (q0 : Int))])) by rw [sv_append]; exact ho') hset (fun g e => by cases e; omega))
          have HR' := Lib.hid (((HR.out.kept kal).gr hg' (own_hi HO2.out (by omega))).gr hset (by simp; omega))
          have HZ' := Lib.hid (((HZ.out.kept kal).gr hg' (own_hi HO2.out (by omega))).gr hset (by simp; omega))
          have HK' := Lib.hid (kept_gr (kept_gr (HK.out.trans kal) hg' (fun g e => by have := (HO2.out.lt g e).1; omega)) hset (fun g e => by cases e; omega))

          clear kal hx4 hset ho' hg' a0 a1 a2 a3 a4 a5 y0 y1
          go_wp2
          clear c0 c1 c2 c3 c4 c5 f5
          generalize w'.setCell ⟨xb, 5, none⟩ (.slice aw (m2 + 1) cw) = wn at *
          go_roundw
          case rel => exact ⟨m2 + 1, _, _, ps 4 s8, by go_num, by omega, HX'.out, HO'.out, HR'.out, HZ'.out, HK'.out, by have h9 := HL2.out; rw [show vs - m2 = vs - (m2 + 1) + 1 by omega] at h9; have h8 := h9.step; rw [← HS8.out, ← HD.out, ← HQ.out] at h8; rw [show (d0 : Int) = fixd d0 from HFX.out]; exact h8⟩
          case measure => simp [intOf]; omega
      | true =>
        obtain ⟨tt, r0, r1, _⟩ := HR.out.cells
        have HGS := Lib.hid HL2.out.doneT
        have hlen2 := HL2.out.len
        subst hlen2
        obtain ⟨az, cz, rfl⟩ := slice_of_own HO2.out
        have hfin : rawK 1 s0 = (⟨1, ((vi : Nat) : Int), ByteArray.empty, ByteArray.empty, [], ys⟩, (ta, true)) := by
          unfold rawK pI pN pD rL rS
          simp only [show Rc.fI 1 = true from rfl, show Rc.fN 1 = false from rfl, show Rc.fD 1 = false from rfl, show Rc.fL 1 = false from rfl, show Rc.fS 1 = true from rfl, Bool.false_eq_true, if_false, if_true]
          rw [← Hvi.out, ← Hs1.out, ← HVS.out, ← Hs6.out, HGS.out]
        have HFIN := Lib.hid hfin
        clear hfin
        obtain ⟨a0, a1, a2, a3, a4, a5⟩ := box6 HX.out
        obtain ⟨tt, r0, r1, hteq⟩ := HR.out.cells
        try dsimp only at r1 hteq
        have HV := Lib.hid (takeK_no (show okR (rawK 1 s0) = false by rw [HFIN.out]; rfl))
        go_wp2_with (refine wpList_store_block rfl 31 (.tmp 2) (.tmp 122) rfl _ #[.int .i64 0, .int .i64 0, .string ⟨#[]⟩, .string ⟨#[]⟩, .slice none 0 0, .slice none 0 0] #[.int .i64 0, .int .i64 0, .string ⟨#[]⟩, .string ⟨#[]⟩, .slice none 0 0, .slice none 0 0] 31 rfl rfl HZ.out Try.infoRec rfl (one6 _ _ _ _ _ _ _ _ _ _) ?_)
        refine bodyPost_ret (v := .tuple #[.agg #[.int .i64 0, .int .i64 0, .string ⟨#[]⟩, .string ⟨#[]⟩, .slice none 0 0, .slice none 0 0], .bool false]) (results_row_tmp rfl _ _ w.heap.size 31 #[.int .i64 0, .int .i64 0, .string ⟨#[]⟩, .string ⟨#[]⟩, .slice none 0 0, .slice none 0 0] _ rfl (HZ.out.setRow _) Try.underlying31 rfl Try.infoRec _ rfl) rfl ?_
        rw [HV.out]
        exact ⟨none, 0, none, 0, rfl, zero_in _, HK.out.setRow (by omega) _⟩

    · obtain rfl : vs = m2 := by omega
      have HGS := Lib.hid (show rSlots vs s6 = (ys, (ta, tb)) by have h9 := HL2.out; rw [Nat.sub_self] at h9; exact h9.done0)
      have hlen2 := HL2.out.len
      subst hlen2
      obtain ⟨az, cz, rfl⟩ := slice_of_own HO2.out
      have hfin : rawK 1 s0 = (⟨1, ((vi : Nat) : Int), ByteArray.empty, ByteArray.empty, [], ys⟩, (ta, tb)) := by
        unfold rawK pI pN pD rL rS
        simp only [show Rc.fI 1 = true from rfl, show Rc.fN 1 = false from rfl, show Rc.fD 1 = false from rfl, show Rc.fL 1 = false from rfl, show Rc.fS 1 = true from rfl, Bool.false_eq_true, if_false, if_true]
        rw [← Hvi.out, ← Hs1.out, ← HVS.out, ← Hs6.out, HGS.out]
      have HFIN := Lib.hid hfin
      clear hfin
      obtain ⟨a0, a1, a2, a3, a4, a5⟩ := box6 HX.out
      obtain ⟨tt, r0, r1, hteq⟩ := HR.out.cells
      try dsimp only at r1 hteq
      cases hbd : tb with
      | true =>
        rw [hbd] at r1
        have HBD := Lib.hid hbd
        clear hbd hteq
        have HV := Lib.hid (takeK_no (show okR (rawK 1 s0) = false by rw [HFIN.out]; unfold okR; dsimp only; rw [HBD.out]; rfl))
        go_wp2_with (refine wpList_store_block rfl 31 (.tmp 2) (.tmp 122) rfl _ #[.int .i64 0, .int .i64 0, .string ⟨#[]⟩, .string ⟨#[]⟩, .slice none 0 0, .slice none 0 0] #[.int .i64 0, .int .i64 0, .string ⟨#[]⟩, .string ⟨#[]⟩, .slice none 0 0, .slice none 0 0] 31 rfl rfl HZ.out Try.infoRec rfl (one6 _ _ _ _ _ _ _ _ _ _) ?_)
        refine bodyPost_ret (v := .tuple #[.agg #[.int .i64 0, .int .i64 0, .string ⟨#[]⟩, .string ⟨#[]⟩, .slice none 0 0, .slice none 0 0], .bool false]) (results_row_tmp rfl _ _ w.heap.size 31 #[.int .i64 0, .int .i64 0, .string ⟨#[]⟩, .string ⟨#[]⟩, .slice none 0 0, .slice none 0 0] _ rfl (HZ.out.setRow _) Try.underlying31 rfl Try.infoRec _ rfl) rfl ?_
        rw [HV.out]
        exact ⟨none, 0, none, 0, rfl, zero_in _, HK.out.setRow (by omega) _⟩
      | false =>
        have HTE := Lib.hid (hteq hbd)
        rw [hbd] at r1
        have HBD := Lib.hid hbd
        clear hbd hteq
        by_cases hem : tt.size = 0
        · obtain ⟨d, d'⟩ := str_no hem
          have HEM := Lib.hid (decide_eq_true hem)
          clear hem
          go_wp2_with fail
          refine (rrec_any ⟨1, ((vi : Nat) : Int), ByteArray.empty, ByteArray.empty, [], ys⟩ none 0 0 az ys.length cz _ ⟨IntsIn.nil _ _ _, slots_at2 HO2.out rfl HL2.out.wf, by dsimp only; omega, by dsimp only; omega, by dsimp only; exact Nat.zero_le _, by dsimp only; exact Nat.zero_le _⟩).mono ?_
          rintro e wz ⟨rfl, hkz⟩
          replace HX := Lib.hid (HX.out.kept hkz)
          replace HZ := Lib.hid (HZ.out.kept hkz)
          replace HK := Lib.hid (HK.out.trans hkz)
  
          replace HO2 := Lib.hid (own_kept HO2.out hkz)
          clear hkz a0 a1 a2 a3 a4 a5 r0 r1 d d'
          cases hmy : Rec.may ⟨1, ((vi : Nat) : Int), ByteArray.empty, ByteArray.empty, [], ys⟩ with
          | false =>
            have HMY := Lib.hid hmy
            clear hmy
            have HV := Lib.hid (takeK_no (show okR (rawK 1 s0) = false by rw [HFIN.out]; unfold okR; dsimp only; rw [HBD.out, HMY.out]; simp))
            go_wp2_with (refine wpList_store_block rfl 31 (.tmp 2) (.tmp 122) rfl _ #[.int .i64 0, .int .i64 0, .string ⟨#[]⟩, .string ⟨#[]⟩, .slice none 0 0, .slice none 0 0] #[.int .i64 0, .int .i64 0, .string ⟨#[]⟩, .string ⟨#[]⟩, .slice none 0 0, .slice none 0 0] 31 rfl rfl HZ.out Try.infoRec rfl (one6 _ _ _ _ _ _ _ _ _ _) ?_)
            refine bodyPost_ret (v := .tuple #[.agg #[.int .i64 0, .int .i64 0, .string ⟨#[]⟩, .string ⟨#[]⟩, .slice none 0 0, .slice none 0 0], .bool false]) (results_row_tmp rfl _ _ w.heap.size 31 #[.int .i64 0, .int .i64 0, .string ⟨#[]⟩, .string ⟨#[]⟩, .slice none 0 0, .slice none 0 0] _ rfl (HZ.out.setRow _) Try.underlying31 rfl Try.infoRec _ rfl) rfl ?_
            rw [HV.out]
            exact ⟨none, 0, none, 0, rfl, zero_in _, HK.out.setRow (by omega) _⟩
          | true =>
            have HMY := Lib.hid hmy
            clear hmy
            obtain ⟨a0, a1, a2, a3, a4, a5⟩ := box6 HX.out
            have HV := Lib.hid (takeK_yes (show okR (rawK 1 s0) = true by rw [HFIN.out]; unfold okR; dsimp only; rw [HBD.out, HMY.out, ← HTE.out, HEM.out]; rfl))
            go_wp2_with (refine wpList_store_block rfl 31 (.tmp 2) (.tmp 123) rfl _ #[.int .i64 1, .int .i64 ((vi : Nat) : Int), .string ⟨#[]⟩, .string ⟨#[]⟩, .slice none 0 0, .slice az ys.length cz] #[.int .i64 0, .int .i64 0, .string ⟨#[]⟩, .string ⟨#[]⟩, .slice none 0 0, .slice none 0 0] 31 rfl rfl HZ.out Try.infoRec rfl (one6 _ _ _ _ _ _ _ _ _ _) ?_)
            refine bodyPost_ret (v := .tuple #[.agg #[.int .i64 1, .int .i64 ((vi : Nat) : Int), .string ⟨#[]⟩, .string ⟨#[]⟩, .slice none 0 0, .slice az ys.length cz], .bool true]) (results_row_tmp rfl _ _ w.heap.size 31 #[.int .i64 1, .int .i64 ((vi : Nat) : Int), .string ⟨#[]⟩, .string ⟨#[]⟩, .slice none 0 0, .slice az ys.length cz] _ rfl (HZ.out.setRow _) Try.underlying31 rfl Try.infoRec _ rfl) rfl ?_
            rw [HV.out, HFIN.out]
            have HZR := HZ.out
            exact ⟨none, 0, az, cz, rfl, ⟨IntsIn.nil _ _ _, slots_at2 (own_gr HO2.out (grown_row _ _ _) (by simp; omega)) rfl HL2.out.wf, by dsimp only; omega, by dsimp only; omega, by dsimp only; exact Nat.zero_le _, by dsimp only; exact Nat.zero_le _⟩, HK.out.setRow (by omega) _⟩
        · obtain ⟨d, d'⟩ := str_yes hem
          have HEM := Lib.hid (decide_eq_false hem)
          clear hem
          have HV := Lib.hid (takeK_no (show okR (rawK 1 s0) = false by rw [HFIN.out]; unfold okR; dsimp only; rw [← HTE.out, HEM.out]; simp))
          go_wp2_with (refine wpList_store_block rfl 31 (.tmp 2) (.tmp 122) rfl _ #[.int .i64 0, .int .i64 0, .string ⟨#[]⟩, .string ⟨#[]⟩, .slice none 0 0, .slice none 0 0] #[.int .i64 0, .int .i64 0, .string ⟨#[]⟩, .string ⟨#[]⟩, .slice none 0 0, .slice none 0 0] 31 rfl rfl HZ.out Try.infoRec rfl (one6 _ _ _ _ _ _ _ _ _ _) ?_)
          refine bodyPost_ret (v := .tuple #[.agg #[.int .i64 0, .int .i64 0, .string ⟨#[]⟩, .string ⟨#[]⟩, .slice none 0 0, .slice none 0 0], .bool false]) (results_row_tmp rfl _ _ w.heap.size 31 #[.int .i64 0, .int .i64 0, .string ⟨#[]⟩, .string ⟨#[]⟩, .slice none 0 0, .slice none 0 0] _ rfl (HZ.out.setRow _) Try.underlying31 rfl Try.infoRec _ rfl) rfl ?_
          rw [HV.out]
          exact ⟨none, 0, none, 0, rfl, zero_in _, HK.out.setRow (by omega) _⟩
set_option maxRecDepth 100000 in
set_option maxHeartbeats 4000000 in
theorem rtake_3 (t : ByteArray) (w : World) (hz : t.size ≤ 140737488351232) (hk : ((pv 1 (t, false) : Nat) : Int) = 3) (hs0 : (ps 1 (t, false)).2 = false) :
    Calls Try.prog 22 #[.string t] w (TakeP (fun b => .bool b) w (takeR t)) := by
  obtain ⟨s0, hs⟩ : ∃ s0 : St, s0 = ps 1 (t, false) := ⟨_, rfl⟩
  rw [← hs] at hs0
  have hsz0 := ps_size 1 (t, false)
  rw [← hs] at hsz0
  dsimp only at hsz0
  have htk : takeR t = takeK (rawK 3 s0) := by
    unfold takeR
    rw [hk, ← hs, if_pos ⟨hs0, rfl⟩]
  rw [htk]
  have HS0 := Lib.hid hs
  have HKV := Lib.hid hk
  have HB0 := Lib.hid hs0
  obtain ⟨i0, hi, hz0, hz1, hz2⟩ := info_parts Try.infoI
  have HI := Lib.hid (And.intro hi (And.intro hz0 (And.intro hz1 hz2)))
  clear hi hz0 hz1 hz2
  obtain ⟨i2, hi, hz0, hz1, hz2⟩ := info_parts Try.infoSlot
  have HI2 := Lib.hid (And.intro hi (And.intro hz0 (And.intro hz1 hz2)))
  clear hi hz0 hz1 hz2 hs hk hs0 htk
  have hfs : (fStr 3).size ≤ 9223372036854775807 := by rw [show (fStr 3).size = 1 from rfl]; omega
  go_enter Try.func22, Try.ntmps22
  go_upto_region 2 with (fail)
  have k0 := ((Kept.refl w).alloc (.cells #[.int .i64 0, .int .i64 0, .string ⟨#[]⟩, .string ⟨#[]⟩, .slice none 0 0, .slice none 0 0] 31)).alloc (.cells #[.string t, .bool false] 67)
  have hza := (BlockAt.new w #[.int .i64 0, .int .i64 0, .string ⟨#[]⟩, .string ⟨#[]⟩, .slice none 0 0, .slice none 0 0] 31).kept ((Kept.refl _).alloc (.cells #[.string t, .bool false] 67))
  have hra := BlockAt.new1 w #[.string t, .bool false] 67 (.cells #[.int .i64 0, .int .i64 0, .string ⟨#[]⟩, .string ⟨#[]⟩, .slice none 0 0, .slice none 0 0] 31)
  generalize (w.alloc (.cells #[.int .i64 0, .int .i64 0, .string ⟨#[]⟩, .string ⟨#[]⟩, .slice none 0 0, .slice none 0 0] 31)).alloc (.cells #[.string t, .bool false] 67) = wa at *
  obtain ⟨p, hp⟩ : ∃ p, p = w.heap.size + 1 := ⟨_, rfl⟩
  rw [← hp] at hra ⊢
  have hpw : w.heap.size < p := by omega
  clear hp
  have hra' : RdR wa p (t, false) := ⟨t, hra, fun _ => rfl, (fun h => by cases h)⟩
  clear hra
  go_wp2_with fail
  refine (rtake1 p (t, false) _ hra' (by dsimp only; omega)).mono ?_
  rintro e w1 ⟨rfl, hr1, hg1⟩
  have hp1 := pt_size 1 (t, false)
  obtain ⟨q, hq⟩ : ∃ q, pt 1 (t, false) = q := ⟨_, rfl⟩
  have HNK := Lib.hid (show ((numL q.data.toList : Nat) : Int) = 3 by rw [← hq]; exact HKV.out)
  rw [hq] at hp1 ⊢
  clear hq
  rw [← HS0.out] at hr1
  have hza1 := hza.gr hg1 (by simp; omega)
  have hk1 := kept_gr k0 hg1 (fun g e => by cases e; omega)
  go_wp2_with fail
  refine (num_of q _ (by omega)).mono ?_
  rintro e w' ⟨rfl, rfl⟩
  rw [HNK.out]
  have hw1 := hg1.size
  have hpl := hr1.lt
  clear hza hra' hg1 k0
  go_upto_region 3 with (fail)
  have HX0 := Lib.hid (BlockAt.new w1 #[.int .i64 3, .int .i64 0, .string ⟨#[]⟩, .string ⟨#[]⟩, .slice none 0 0, .slice none 0 0] 31)
  have k2 := (Kept.refl w1).alloc (.cells #[.int .i64 3, .int .i64 0, .string ⟨#[]⟩, .string ⟨#[]⟩, .slice none 0 0, .slice none 0 0] 31)
  have HR0 := Lib.hid (hr1.kept k2)
  have HZ0 := Lib.hid (hza1.kept k2)
  have HK0 := Lib.hid (hk1.trans k2)
  generalize w1.alloc (.cells #[.int .i64 3, .int .i64 0, .string ⟨#[]⟩, .string ⟨#[]⟩, .slice none 0 0, .slice none 0 0] 31) = v0 at *
  obtain ⟨xb, hxb⟩ : ∃ xb, xb = w1.heap.size := ⟨_, rfl⟩
  rw [← hxb] at HX0 hpl ⊢
  clear hr1 hza1 hk1 k2 hxb hw1
  obtain ⟨a0, a1, a2, a3, a4, a5⟩ := box6 HX0.out
  obtain ⟨tt, r0, r1, _⟩ := HR0.out.cells
  rw [HB0.out] at r1
  go_wp2_with fail
  refine (between_any 3 1 8 _).mono ?_
  rintro e w' ⟨rfl, rfl⟩
  rw [show Rc.within 3 1 8 = true from rfl]
  go_wp2_with fail
  refine (fields_any 3 (by omega) _).mono ?_
  rintro e u0 ⟨rfl, hk2⟩
  have HX := Lib.hid (HX0.out.kept hk2)
  have HR := Lib.hid (HR0.out.kept hk2)
  have HZ := Lib.hid (HZ0.out.kept hk2)
  have HK := Lib.hid (HK0.out.trans hk2)
  have HSZ := Lib.hid (show s0.1.size ≤ 140737488351232 by omega)
  clear hk2 a0 a1 a2 a3 a4 a5 r0 r1 HX0 HR0 HZ0 HK0 hsz0
  go_wp2_with fail
  refine (has_lit (fStr 3) 73 73 rfl hfs _).mono ?_
  rintro e w' ⟨rfl, rfl⟩
  rw [show hasB (fStr 3) 73 = true from rfl]
  have hvb := pv_lt 4 s0 (by omega)
  go_wp2_with fail
  refine (rnum_any p s0 _ HR.out (by have := HSZ.out; omega)).mono ?_
  rintro e u1 ⟨rfl, hr, hg⟩
  have HX' := Lib.hid (HX.out.gr hg (by simp; omega))
  have HZ' := Lib.hid (HZ.out.gr hg (by simp; omega))
  have HK' := Lib.hid (kept_gr HK.out hg (fun g e => by cases e; omega))
  replace HX := HX'
  replace HZ := HZ'
  replace HK := HK'
  clear HX' HZ' HK' hg
  obtain ⟨vi, hvi⟩ : ∃ z, z = pv 4 s0 := ⟨_, rfl⟩
  rw [← hvi]
  have Hvi := Lib.hid hvi
  obtain ⟨s1, hs1⟩ : ∃ z : St, z = ps 4 s0 := ⟨_, rfl⟩
  rw [← hs1] at hr
  have HR' := Lib.hid hr
  have hsz' : s1.1.size ≤ 140737488351232 := by have := ps_size 4 s0; rw [← hs1] at this; have := HSZ.out; omega
  replace HR := HR'
  have HSZ' := Lib.hid hsz'
  replace HSZ := HSZ'
  have Hs1 := Lib.hid hs1
  clear HR' HSZ' hr hsz' hvi hs1
  rw [← Hvi.out] at hvb
  obtain ⟨a0, a1, a2, a3, a4, a5⟩ := box6 HX.out
  have fz := HX.out.free 1
  go_upto_region 8 with (fail)
  have hg := gr_set u1 xb 1 (.int .i64 ((vi : Nat) : Int))
  have HX' := Lib.hid (show BlockAt (u1.setCell ⟨xb, 1, none⟩ (.int .i64 ((vi : Nat) : Int))) xb #[.int .i64 3, .int .i64 ((vi : Nat) : Int), .string ⟨#[]⟩, .string ⟨#[]⟩, .slice none 0 0, .slice none 0 0] 31 from HX.out.set (.int .i64 ((vi : Nat) : Int)))
  have HR' := Lib.hid (HR.out.gr hg (by simp; omega))
  have HZ' := Lib.hid (HZ.out.gr hg (by simp; omega))
  have HK' := Lib.hid (kept_gr HK.out hg (fun g e => by cases e; omega))
  clear a0 a1 a2 a3 a4 a5 fz hg HX HR HZ HK
  obtain ⟨HX, HR⟩ := And.intro HX' HR'
  obtain ⟨HZ, HK⟩ := And.intro HZ' HK'
  clear HX' HR' HZ' HK'
  generalize u1.setCell ⟨xb, 1, none⟩ (.int .i64 ((vi : Nat) : Int)) = u2 at *
  go_wp2_with fail
  refine (has_lit (fStr 3) 78 78 rfl hfs _).mono ?_
  rintro e w' ⟨rfl, rfl⟩
  rw [show hasB (fStr 3) 78 = false from rfl]
  go_wp2_with fail
  refine (has_lit (fStr 3) 68 68 rfl hfs _).mono ?_
  rintro e w' ⟨rfl, rfl⟩
  rw [show hasB (fStr 3) 68 = false from rfl]
  go_wp2_with fail
  refine (has_lit (fStr 3) 76 76 rfl hfs _).mono ?_
  rintro e w' ⟨rfl, rfl⟩
  rw [show hasB (fStr 3) 76 = false from rfl]
  go_wp2_with fail
  refine (has_lit (fStr 3) 83 83 rfl hfs _).mono ?_
  rintro e w' ⟨rfl, rfl⟩
  rw [show hasB (fStr 3) 83 = false from rfl]
  have hfin : rawK 3 s0 = (⟨3, ((vi : Nat) : Int), ByteArray.empty, ByteArray.empty, [], []⟩, (s1.1, s1.2)) := by
    unfold rawK pI pN pD rL rS
    simp only [show Rc.fI 3 = true from rfl, show Rc.fN 3 = false from rfl, show Rc.fD 3 = false from rfl, show Rc.fL 3 = false from rfl, show Rc.fS 3 = false from rfl, Bool.false_eq_true, if_false, if_true]
    rw [← Hvi.out, ← Hs1.out]
  have HFIN := Lib.hid hfin
  clear hfin
  obtain ⟨a0, a1, a2, a3, a4, a5⟩ := box6 HX.out
  obtain ⟨tt, r0, r1, hteq⟩ := HR.out.cells
  try dsimp only at r1 hteq
  cases hbd : s1.2 with
  | true =>
    rw [hbd] at r1
    have HBD := Lib.hid hbd
    clear hbd hteq
    have HV := Lib.hid (takeK_no (show okR (rawK 3 s0) = false by rw [HFIN.out]; unfold okR; dsimp only; rw [HBD.out]; rfl))
    go_wp2_with (refine wpList_store_block rfl 31 (.tmp 2) (.tmp 122) rfl _ #[.int .i64 0, .int .i64 0, .string ⟨#[]⟩, .string ⟨#[]⟩, .slice none 0 0, .slice none 0 0] #[.int .i64 0, .int .i64 0, .string ⟨#[]⟩, .string ⟨#[]⟩, .slice none 0 0, .slice none 0 0] 31 rfl rfl HZ.out Try.infoRec rfl (one6 _ _ _ _ _ _ _ _ _ _) ?_)
    refine bodyPost_ret (v := .tuple #[.agg #[.int .i64 0, .int .i64 0, .string ⟨#[]⟩, .string ⟨#[]⟩, .slice none 0 0, .slice none 0 0], .bool false]) (results_row_tmp rfl _ _ w.heap.size 31 #[.int .i64 0, .int .i64 0, .string ⟨#[]⟩, .string ⟨#[]⟩, .slice none 0 0, .slice none 0 0] _ rfl (HZ.out.setRow _) Try.underlying31 rfl Try.infoRec _ rfl) rfl ?_
    rw [HV.out]
    exact ⟨none, 0, none, 0, rfl, zero_in _, HK.out.setRow (by omega) _⟩
  | false =>
    have HTE := Lib.hid (hteq hbd)
    rw [hbd] at r1
    have HBD := Lib.hid hbd
    clear hbd hteq
    by_cases hem : tt.size = 0
    · obtain ⟨d, d'⟩ := str_no hem
      have HEM := Lib.hid (decide_eq_true hem)
      clear hem
      go_wp2_with fail
      refine (rrec_any ⟨3, ((vi : Nat) : Int), ByteArray.empty, ByteArray.empty, [], []⟩ none 0 0 none 0 0 _ ⟨IntsIn.nil _ _ _, SlotsIn.nil _ _, by dsimp only; omega, by dsimp only; omega, by dsimp only; exact Nat.zero_le _, by dsimp only; exact Nat.zero_le _⟩).mono ?_
      rintro e wz ⟨rfl, hkz⟩
      replace HX := Lib.hid (HX.out.kept hkz)
      replace HZ := Lib.hid (HZ.out.kept hkz)
      replace HK := Lib.hid (HK.out.trans hkz)
  
  
      clear hkz a0 a1 a2 a3 a4 a5 r0 r1 d d'
      cases hmy : Rec.may ⟨3, ((vi : Nat) : Int), ByteArray.empty, ByteArray.empty, [], []⟩ with
      | false =>
        have HMY := Lib.hid hmy
        clear hmy
        have HV := Lib.hid (takeK_no (show okR (rawK 3 s0) = false by rw [HFIN.out]; unfold okR; dsimp only; rw [HBD.out, HMY.out]; simp))
        go_wp2_with (refine wpList_store_block rfl 31 (.tmp 2) (.tmp 122) rfl _ #[.int .i64 0, .int .i64 0, .string ⟨#[]⟩, .string ⟨#[]⟩, .slice none 0 0, .slice none 0 0] #[.int .i64 0, .int .i64 0, .string ⟨#[]⟩, .string ⟨#[]⟩, .slice none 0 0, .slice none 0 0] 31 rfl rfl HZ.out Try.infoRec rfl (one6 _ _ _ _ _ _ _ _ _ _) ?_)
        refine bodyPost_ret (v := .tuple #[.agg #[.int .i64 0, .int .i64 0, .string ⟨#[]⟩, .string ⟨#[]⟩, .slice none 0 0, .slice none 0 0], .bool false]) (results_row_tmp rfl _ _ w.heap.size 31 #[.int .i64 0, .int .i64 0, .string ⟨#[]⟩, .string ⟨#[]⟩, .slice none 0 0, .slice none 0 0] _ rfl (HZ.out.setRow _) Try.underlying31 rfl Try.infoRec _ rfl) rfl ?_
        rw [HV.out]
        exact ⟨none, 0, none, 0, rfl, zero_in _, HK.out.setRow (by omega) _⟩
      | true =>
        have HMY := Lib.hid hmy
        clear hmy
        obtain ⟨a0, a1, a2, a3, a4, a5⟩ := box6 HX.out
        have HV := Lib.hid (takeK_yes (show okR (rawK 3 s0) = true by rw [HFIN.out]; unfold okR; dsimp only; rw [HBD.out, HMY.out, ← HTE.out, HEM.out]; rfl))
        go_wp2_with (refine wpList_store_block rfl 31 (.tmp 2) (.tmp 123) rfl _ #[.int .i64 3, .int .i64 ((vi : Nat) : Int), .string ⟨#[]⟩, .string ⟨#[]⟩, .slice none 0 0, .slice none 0 0] #[.int .i64 0, .int .i64 0, .string ⟨#[]⟩, .string ⟨#[]⟩, .slice none 0 0, .slice none 0 0] 31 rfl rfl HZ.out Try.infoRec rfl (one6 _ _ _ _ _ _ _ _ _ _) ?_)
        refine bodyPost_ret (v := .tuple #[.agg #[.int .i64 3, .int .i64 ((vi : Nat) : Int), .string ⟨#[]⟩, .string ⟨#[]⟩, .slice none 0 0, .slice none 0 0], .bool true]) (results_row_tmp rfl _ _ w.heap.size 31 #[.int .i64 3, .int .i64 ((vi : Nat) : Int), .string ⟨#[]⟩, .string ⟨#[]⟩, .slice none 0 0, .slice none 0 0] _ rfl (HZ.out.setRow _) Try.underlying31 rfl Try.infoRec _ rfl) rfl ?_
        rw [HV.out, HFIN.out]
        have HZR := HZ.out
        exact ⟨none, 0, none, 0, rfl, ⟨IntsIn.nil _ _ _, SlotsIn.nil _ _, by dsimp only; omega, by dsimp only; omega, by dsimp only; exact Nat.zero_le _, by dsimp only; exact Nat.zero_le _⟩, HK.out.setRow (by omega) _⟩
    · obtain ⟨d, d'⟩ := str_yes hem
      have HEM := Lib.hid (decide_eq_false hem)
      clear hem
      have HV := Lib.hid (takeK_no (show okR (rawK 3 s0) = false by rw [HFIN.out]; unfold okR; dsimp only; rw [← HTE.out, HEM.out]; simp))
      go_wp2_with (refine wpList_store_block rfl 31 (.tmp 2) (.tmp 122) rfl _ #[.int .i64 0, .int .i64 0, .string ⟨#[]⟩, .string ⟨#[]⟩, .slice none 0 0, .slice none 0 0] #[.int .i64 0, .int .i64 0, .string ⟨#[]⟩, .string ⟨#[]⟩, .slice none 0 0, .slice none 0 0] 31 rfl rfl HZ.out Try.infoRec rfl (one6 _ _ _ _ _ _ _ _ _ _) ?_)
      refine bodyPost_ret (v := .tuple #[.agg #[.int .i64 0, .int .i64 0, .string ⟨#[]⟩, .string ⟨#[]⟩, .slice none 0 0, .slice none 0 0], .bool false]) (results_row_tmp rfl _ _ w.heap.size 31 #[.int .i64 0, .int .i64 0, .string ⟨#[]⟩, .string ⟨#[]⟩, .slice none 0 0, .slice none 0 0] _ rfl (HZ.out.setRow _) Try.underlying31 rfl Try.infoRec _ rfl) rfl ?_
      rw [HV.out]
      exact ⟨none, 0, none, 0, rfl, zero_in _, HK.out.setRow (by omega) _⟩
set_option maxRecDepth 100000 in
set_option maxHeartbeats 4000000 in
theorem rtake_6 (t : ByteArray) (w : World) (hz : t.size ≤ 140737488351232) (hk : ((pv 1 (t, false) : Nat) : Int) = 6) (hs0 : (ps 1 (t, false)).2 = false) :
    Calls Try.prog 22 #[.string t] w (TakeP (fun b => .bool b) w (takeR t)) := by
  obtain ⟨s0, hs⟩ : ∃ s0 : St, s0 = ps 1 (t, false) := ⟨_, rfl⟩
  rw [← hs] at hs0
  have hsz0 := ps_size 1 (t, false)
  rw [← hs] at hsz0
  dsimp only at hsz0
  have htk : takeR t = takeK (rawK 6 s0) := by
    unfold takeR
    rw [hk, ← hs, if_pos ⟨hs0, rfl⟩]
  rw [htk]
  have HS0 := Lib.hid hs
  have HKV := Lib.hid hk
  have HB0 := Lib.hid hs0
  obtain ⟨i0, hi, hz0, hz1, hz2⟩ := info_parts Try.infoI
  have HI := Lib.hid (And.intro hi (And.intro hz0 (And.intro hz1 hz2)))
  clear hi hz0 hz1 hz2
  obtain ⟨i2, hi, hz0, hz1, hz2⟩ := info_parts Try.infoSlot
  have HI2 := Lib.hid (And.intro hi (And.intro hz0 (And.intro hz1 hz2)))
  clear hi hz0 hz1 hz2 hs hk hs0 htk
  have hfs : (fStr 6).size ≤ 9223372036854775807 := by rw [show (fStr 6).size = 1 from rfl]; omega
  go_enter Try.func22, Try.ntmps22
  go_upto_region 2 with (fail)
  have k0 := ((Kept.refl w).alloc (.cells #[.int .i64 0, .int .i64 0, .string ⟨#[]⟩, .string ⟨#[]⟩, .slice none 0 0, .slice none 0 0] 31)).alloc (.cells #[.string t, .bool false] 67)
  have hza := (BlockAt.new w #[.int .i64 0, .int .i64 0, .string ⟨#[]⟩, .string ⟨#[]⟩, .slice none 0 0, .slice none 0 0] 31).kept ((Kept.refl _).alloc (.cells #[.string t, .bool false] 67))
  have hra := BlockAt.new1 w #[.string t, .bool false] 67 (.cells #[.int .i64 0, .int .i64 0, .string ⟨#[]⟩, .string ⟨#[]⟩, .slice none 0 0, .slice none 0 0] 31)
  generalize (w.alloc (.cells #[.int .i64 0, .int .i64 0, .string ⟨#[]⟩, .string ⟨#[]⟩, .slice none 0 0, .slice none 0 0] 31)).alloc (.cells #[.string t, .bool false] 67) = wa at *
  obtain ⟨p, hp⟩ : ∃ p, p = w.heap.size + 1 := ⟨_, rfl⟩
  rw [← hp] at hra ⊢
  have hpw : w.heap.size < p := by omega
  clear hp
  have hra' : RdR wa p (t, false) := ⟨t, hra, fun _ => rfl, (fun h => by cases h)⟩
  clear hra
  go_wp2_with fail
  refine (rtake1 p (t, false) _ hra' (by dsimp only; omega)).mono ?_
  rintro e w1 ⟨rfl, hr1, hg1⟩
  have hp1 := pt_size 1 (t, false)
  obtain ⟨q, hq⟩ : ∃ q, pt 1 (t, false) = q := ⟨_, rfl⟩
  have HNK := Lib.hid (show ((numL q.data.toList : Nat) : Int) = 6 by rw [← hq]; exact HKV.out)
  rw [hq] at hp1 ⊢
  clear hq
  rw [← HS0.out] at hr1
  have hza1 := hza.gr hg1 (by simp; omega)
  have hk1 := kept_gr k0 hg1 (fun g e => by cases e; omega)
  go_wp2_with fail
  refine (num_of q _ (by omega)).mono ?_
  rintro e w' ⟨rfl, rfl⟩
  rw [HNK.out]
  have hw1 := hg1.size
  have hpl := hr1.lt
  clear hza hra' hg1 k0
  go_upto_region 3 with (fail)
  have HX0 := Lib.hid (BlockAt.new w1 #[.int .i64 6, .int .i64 0, .string ⟨#[]⟩, .string ⟨#[]⟩, .slice none 0 0, .slice none 0 0] 31)
  have k2 := (Kept.refl w1).alloc (.cells #[.int .i64 6, .int .i64 0, .string ⟨#[]⟩, .string ⟨#[]⟩, .slice none 0 0, .slice none 0 0] 31)
  have HR0 := Lib.hid (hr1.kept k2)
  have HZ0 := Lib.hid (hza1.kept k2)
  have HK0 := Lib.hid (hk1.trans k2)
  generalize w1.alloc (.cells #[.int .i64 6, .int .i64 0, .string ⟨#[]⟩, .string ⟨#[]⟩, .slice none 0 0, .slice none 0 0] 31) = v0 at *
  obtain ⟨xb, hxb⟩ : ∃ xb, xb = w1.heap.size := ⟨_, rfl⟩
  rw [← hxb] at HX0 hpl ⊢
  clear hr1 hza1 hk1 k2 hxb hw1
  obtain ⟨a0, a1, a2, a3, a4, a5⟩ := box6 HX0.out
  obtain ⟨tt, r0, r1, _⟩ := HR0.out.cells
  rw [HB0.out] at r1
  go_wp2_with fail
  refine (between_any 6 1 8 _).mono ?_
  rintro e w' ⟨rfl, rfl⟩
  rw [show Rc.within 6 1 8 = true from rfl]
  go_wp2_with fail
  refine (fields_any 6 (by omega) _).mono ?_
  rintro e u0 ⟨rfl, hk2⟩
  have HX := Lib.hid (HX0.out.kept hk2)
  have HR := Lib.hid (HR0.out.kept hk2)
  have HZ := Lib.hid (HZ0.out.kept hk2)
  have HK := Lib.hid (HK0.out.trans hk2)
  have HSZ := Lib.hid (show s0.1.size ≤ 140737488351232 by omega)
  clear hk2 a0 a1 a2 a3 a4 a5 r0 r1 HX0 HR0 HZ0 HK0 hsz0
  go_wp2_with fail
  refine (has_lit (fStr 6) 73 73 rfl hfs _).mono ?_
  rintro e w' ⟨rfl, rfl⟩
  rw [show hasB (fStr 6) 73 = false from rfl]
  go_wp2_with fail
  refine (has_lit (fStr 6) 78 78 rfl hfs _).mono ?_
  rintro e w' ⟨rfl, rfl⟩
  rw [show hasB (fStr 6) 78 = false from rfl]
  go_wp2_with fail
  refine (has_lit (fStr 6) 68 68 rfl hfs _).mono ?_
  rintro e w' ⟨rfl, rfl⟩
  rw [show hasB (fStr 6) 68 = true from rfl]
  have hdz := pt_size 32 s0
  go_wp2_with fail
  refine (rtake32 p s0 _ HR.out (by have := HSZ.out; omega)).mono ?_
  rintro e u1 ⟨rfl, hr, hg⟩
  have HX' := Lib.hid (HX.out.gr hg (by simp; omega))
  have HZ' := Lib.hid (HZ.out.gr hg (by simp; omega))
  have HK' := Lib.hid (kept_gr HK.out hg (fun g e => by cases e; omega))
  replace HX := HX'
  replace HZ := HZ'
  replace HK := HK'
  clear HX' HZ' HK' hg
  obtain ⟨td, htd⟩ : ∃ z, z = pt 32 s0 := ⟨_, rfl⟩
  rw [← htd]
  have Htd := Lib.hid htd
  obtain ⟨s4, hs4⟩ : ∃ z : St, z = ps 32 s0 := ⟨_, rfl⟩
  rw [← hs4] at hr
  have HR' := Lib.hid hr
  have hsz' : s4.1.size ≤ 140737488351232 := by have := ps_size 32 s0; rw [← hs4] at this; have := HSZ.out; omega
  replace HR := HR'
  have HSZ' := Lib.hid hsz'
  replace HSZ := HSZ'
  have Hs4 := Lib.hid hs4
  clear HR' HSZ' hr hsz' htd hs4
  rw [← Htd.out] at hdz
  obtain ⟨a0, a1, a2, a3, a4, a5⟩ := box6 HX.out
  have fz := HX.out.free 3
  go_upto_region 12 with (fail)
  have hg := gr_set u1 xb 3 (.string td)
  have HX' := Lib.hid (show BlockAt (u1.setCell ⟨xb, 3, none⟩ (.string td)) xb #[.int .i64 6, .int .i64 0, .string ⟨#[]⟩, .string td, .slice none 0 0, .slice none 0 0] 31 from HX.out.set (.string td))
  have HR' := Lib.hid (HR.out.gr hg (by simp; omega))
  have HZ' := Lib.hid (HZ.out.gr hg (by simp; omega))
  have HK' := Lib.hid (kept_gr HK.out hg (fun g e => by cases e; omega))
  clear a0 a1 a2 a3 a4 a5 fz hg HX HR HZ HK
  obtain ⟨HX, HR⟩ := And.intro HX' HR'
  obtain ⟨HZ, HK⟩ := And.intro HZ' HK'
  clear HX' HR' HZ' HK'
  generalize u1.setCell ⟨xb, 3, none⟩ (.string td) = u2 at *
  go_wp2_with fail
  refine (has_lit (fStr 6) 76 76 rfl hfs _).mono ?_
  rintro e w' ⟨rfl, rfl⟩
  rw [show hasB (fStr 6) 76 = false from rfl]
  go_wp2_with fail
  refine (has_lit (fStr 6) 83 83 rfl hfs _).mono ?_
  rintro e w' ⟨rfl, rfl⟩
  rw [show hasB (fStr 6) 83 = false from rfl]
  have hfin : rawK 6 s0 = (⟨6, 0, ByteArray.empty, td, [], []⟩, (s4.1, s4.2)) := by
    unfold rawK pI pN pD rL rS
    simp only [show Rc.fI 6 = false from rfl, show Rc.fN 6 = false from rfl, show Rc.fD 6 = true from rfl, show Rc.fL 6 = false from rfl, show Rc.fS 6 = false from rfl, Bool.false_eq_true, if_false, if_true]
    rw [← Htd.out, ← Hs4.out]
  have HFIN := Lib.hid hfin
  clear hfin
  obtain ⟨a0, a1, a2, a3, a4, a5⟩ := box6 HX.out
  obtain ⟨tt, r0, r1, hteq⟩ := HR.out.cells
  try dsimp only at r1 hteq
  cases hbd : s4.2 with
  | true =>
    rw [hbd] at r1
    have HBD := Lib.hid hbd
    clear hbd hteq
    have HV := Lib.hid (takeK_no (show okR (rawK 6 s0) = false by rw [HFIN.out]; unfold okR; dsimp only; rw [HBD.out]; rfl))
    go_wp2_with (refine wpList_store_block rfl 31 (.tmp 2) (.tmp 122) rfl _ #[.int .i64 0, .int .i64 0, .string ⟨#[]⟩, .string ⟨#[]⟩, .slice none 0 0, .slice none 0 0] #[.int .i64 0, .int .i64 0, .string ⟨#[]⟩, .string ⟨#[]⟩, .slice none 0 0, .slice none 0 0] 31 rfl rfl HZ.out Try.infoRec rfl (one6 _ _ _ _ _ _ _ _ _ _) ?_)
    refine bodyPost_ret (v := .tuple #[.agg #[.int .i64 0, .int .i64 0, .string ⟨#[]⟩, .string ⟨#[]⟩, .slice none 0 0, .slice none 0 0], .bool false]) (results_row_tmp rfl _ _ w.heap.size 31 #[.int .i64 0, .int .i64 0, .string ⟨#[]⟩, .string ⟨#[]⟩, .slice none 0 0, .slice none 0 0] _ rfl (HZ.out.setRow _) Try.underlying31 rfl Try.infoRec _ rfl) rfl ?_
    rw [HV.out]
    exact ⟨none, 0, none, 0, rfl, zero_in _, HK.out.setRow (by omega) _⟩
  | false =>
    have HTE := Lib.hid (hteq hbd)
    rw [hbd] at r1
    have HBD := Lib.hid hbd
    clear hbd hteq
    by_cases hem : tt.size = 0
    · obtain ⟨d, d'⟩ := str_no hem
      have HEM := Lib.hid (decide_eq_true hem)
      clear hem
      go_wp2_with fail
      refine (rrec_any ⟨6, 0, ByteArray.empty, td, [], []⟩ none 0 0 none 0 0 _ ⟨IntsIn.nil _ _ _, SlotsIn.nil _ _, by dsimp only; omega, by dsimp only; omega, by dsimp only; exact Nat.zero_le _, by dsimp only; omega⟩).mono ?_
      rintro e wz ⟨rfl, hkz⟩
      replace HX := Lib.hid (HX.out.kept hkz)
      replace HZ := Lib.hid (HZ.out.kept hkz)
      replace HK := Lib.hid (HK.out.trans hkz)
  
  
      clear hkz a0 a1 a2 a3 a4 a5 r0 r1 d d'
      cases hmy : Rec.may ⟨6, 0, ByteArray.empty, td, [], []⟩ with
      | false =>
        have HMY := Lib.hid hmy
        clear hmy
        have HV := Lib.hid (takeK_no (show okR (rawK 6 s0) = false by rw [HFIN.out]; unfold okR; dsimp only; rw [HBD.out, HMY.out]; simp))
        go_wp2_with (refine wpList_store_block rfl 31 (.tmp 2) (.tmp 122) rfl _ #[.int .i64 0, .int .i64 0, .string ⟨#[]⟩, .string ⟨#[]⟩, .slice none 0 0, .slice none 0 0] #[.int .i64 0, .int .i64 0, .string ⟨#[]⟩, .string ⟨#[]⟩, .slice none 0 0, .slice none 0 0] 31 rfl rfl HZ.out Try.infoRec rfl (one6 _ _ _ _ _ _ _ _ _ _) ?_)
        refine bodyPost_ret (v := .tuple #[.agg #[.int .i64 0, .int .i64 0, .string ⟨#[]⟩, .string ⟨#[]⟩, .slice none 0 0, .slice none 0 0], .bool false]) (results_row_tmp rfl _ _ w.heap.size 31 #[.int .i64 0, .int .i64 0, .string ⟨#[]⟩, .string ⟨#[]⟩, .slice none 0 0, .slice none 0 0] _ rfl (HZ.out.setRow _) Try.underlying31 rfl Try.infoRec _ rfl) rfl ?_
        rw [HV.out]
        exact ⟨none, 0, none, 0, rfl, zero_in _, HK.out.setRow (by omega) _⟩
      | true =>
        have HMY := Lib.hid hmy
        clear hmy
        obtain ⟨a0, a1, a2, a3, a4, a5⟩ := box6 HX.out
        have HV := Lib.hid (takeK_yes (show okR (rawK 6 s0) = true by rw [HFIN.out]; unfold okR; dsimp only; rw [HBD.out, HMY.out, ← HTE.out, HEM.out]; rfl))
        go_wp2_with (refine wpList_store_block rfl 31 (.tmp 2) (.tmp 123) rfl _ #[.int .i64 6, .int .i64 0, .string ⟨#[]⟩, .string td, .slice none 0 0, .slice none 0 0] #[.int .i64 0, .int .i64 0, .string ⟨#[]⟩, .string ⟨#[]⟩, .slice none 0 0, .slice none 0 0] 31 rfl rfl HZ.out Try.infoRec rfl (one6 _ _ _ _ _ _ _ _ _ _) ?_)
        refine bodyPost_ret (v := .tuple #[.agg #[.int .i64 6, .int .i64 0, .string ⟨#[]⟩, .string td, .slice none 0 0, .slice none 0 0], .bool true]) (results_row_tmp rfl _ _ w.heap.size 31 #[.int .i64 6, .int .i64 0, .string ⟨#[]⟩, .string td, .slice none 0 0, .slice none 0 0] _ rfl (HZ.out.setRow _) Try.underlying31 rfl Try.infoRec _ rfl) rfl ?_
        rw [HV.out, HFIN.out]
        have HZR := HZ.out
        exact ⟨none, 0, none, 0, rfl, ⟨IntsIn.nil _ _ _, SlotsIn.nil _ _, by dsimp only; omega, by dsimp only; omega, by dsimp only; exact Nat.zero_le _, by dsimp only; omega⟩, HK.out.setRow (by omega) _⟩
    · obtain ⟨d, d'⟩ := str_yes hem
      have HEM := Lib.hid (decide_eq_false hem)
      clear hem
      have HV := Lib.hid (takeK_no (show okR (rawK 6 s0) = false by rw [HFIN.out]; unfold okR; dsimp only; rw [← HTE.out, HEM.out]; simp))
      go_wp2_with (refine wpList_store_block rfl 31 (.tmp 2) (.tmp 122) rfl _ #[.int .i64 0, .int .i64 0, .string ⟨#[]⟩, .string ⟨#[]⟩, .slice none 0 0, .slice none 0 0] #[.int .i64 0, .int .i64 0, .string ⟨#[]⟩, .string ⟨#[]⟩, .slice none 0 0, .slice none 0 0] 31 rfl rfl HZ.out Try.infoRec rfl (one6 _ _ _ _ _ _ _ _ _ _) ?_)
      refine bodyPost_ret (v := .tuple #[.agg #[.int .i64 0, .int .i64 0, .string ⟨#[]⟩, .string ⟨#[]⟩, .slice none 0 0, .slice none 0 0], .bool false]) (results_row_tmp rfl _ _ w.heap.size 31 #[.int .i64 0, .int .i64 0, .string ⟨#[]⟩, .string ⟨#[]⟩, .slice none 0 0, .slice none 0 0] _ rfl (HZ.out.setRow _) Try.underlying31 rfl Try.infoRec _ rfl) rfl ?_
      rw [HV.out]
      exact ⟨none, 0, none, 0, rfl, zero_in _, HK.out.setRow (by omega) _⟩
set_option maxRecDepth 100000 in
set_option maxHeartbeats 4000000 in
theorem rtake_7 (t : ByteArray) (w : World) (hz : t.size ≤ 140737488351232) (hk : ((pv 1 (t, false) : Nat) : Int) = 7) (hs0 : (ps 1 (t, false)).2 = false) :
    Calls Try.prog 22 #[.string t] w (TakeP (fun b => .bool b) w (takeR t)) := by
  obtain ⟨s0, hs⟩ : ∃ s0 : St, s0 = ps 1 (t, false) := ⟨_, rfl⟩
  rw [← hs] at hs0
  have hsz0 := ps_size 1 (t, false)
  rw [← hs] at hsz0
  dsimp only at hsz0
  have htk : takeR t = takeK (rawK 7 s0) := by
    unfold takeR
    rw [hk, ← hs, if_pos ⟨hs0, rfl⟩]
  rw [htk]
  have HS0 := Lib.hid hs
  have HKV := Lib.hid hk
  have HB0 := Lib.hid hs0
  obtain ⟨i0, hi, hz0, hz1, hz2⟩ := info_parts Try.infoI
  have HI := Lib.hid (And.intro hi (And.intro hz0 (And.intro hz1 hz2)))
  clear hi hz0 hz1 hz2
  obtain ⟨i2, hi, hz0, hz1, hz2⟩ := info_parts Try.infoSlot
  have HI2 := Lib.hid (And.intro hi (And.intro hz0 (And.intro hz1 hz2)))
  clear hi hz0 hz1 hz2 hs hk hs0 htk
  have hfs : (fStr 7).size ≤ 9223372036854775807 := by rw [show (fStr 7).size = 2 from rfl]; omega
  go_enter Try.func22, Try.ntmps22
  go_upto_region 2 with (fail)
  have k0 := ((Kept.refl w).alloc (.cells #[.int .i64 0, .int .i64 0, .string ⟨#[]⟩, .string ⟨#[]⟩, .slice none 0 0, .slice none 0 0] 31)).alloc (.cells #[.string t, .bool false] 67)
  have hza := (BlockAt.new w #[.int .i64 0, .int .i64 0, .string ⟨#[]⟩, .string ⟨#[]⟩, .slice none 0 0, .slice none 0 0] 31).kept ((Kept.refl _).alloc (.cells #[.string t, .bool false] 67))
  have hra := BlockAt.new1 w #[.string t, .bool false] 67 (.cells #[.int .i64 0, .int .i64 0, .string ⟨#[]⟩, .string ⟨#[]⟩, .slice none 0 0, .slice none 0 0] 31)
  generalize (w.alloc (.cells #[.int .i64 0, .int .i64 0, .string ⟨#[]⟩, .string ⟨#[]⟩, .slice none 0 0, .slice none 0 0] 31)).alloc (.cells #[.string t, .bool false] 67) = wa at *
  obtain ⟨p, hp⟩ : ∃ p, p = w.heap.size + 1 := ⟨_, rfl⟩
  rw [← hp] at hra ⊢
  have hpw : w.heap.size < p := by omega
  clear hp
  have hra' : RdR wa p (t, false) := ⟨t, hra, fun _ => rfl, (fun h => by cases h)⟩
  clear hra
  go_wp2_with fail
  refine (rtake1 p (t, false) _ hra' (by dsimp only; omega)).mono ?_
  rintro e w1 ⟨rfl, hr1, hg1⟩
  have hp1 := pt_size 1 (t, false)
  obtain ⟨q, hq⟩ : ∃ q, pt 1 (t, false) = q := ⟨_, rfl⟩
  have HNK := Lib.hid (show ((numL q.data.toList : Nat) : Int) = 7 by rw [← hq]; exact HKV.out)
  rw [hq] at hp1 ⊢
  clear hq
  rw [← HS0.out] at hr1
  have hza1 := hza.gr hg1 (by simp; omega)
  have hk1 := kept_gr k0 hg1 (fun g e => by cases e; omega)
  go_wp2_with fail
  refine (num_of q _ (by omega)).mono ?_
  rintro e w' ⟨rfl, rfl⟩
  rw [HNK.out]
  have hw1 := hg1.size
  have hpl := hr1.lt
  clear hza hra' hg1 k0
  go_upto_region 3 with (fail)
  have HX0 := Lib.hid (BlockAt.new w1 #[.int .i64 7, .int .i64 0, .string ⟨#[]⟩, .string ⟨#[]⟩, .slice none 0 0, .slice none 0 0] 31)
  have k2 := (Kept.refl w1).alloc (.cells #[.int .i64 7, .int .i64 0, .string ⟨#[]⟩, .string ⟨#[]⟩, .slice none 0 0, .slice none 0 0] 31)
  have HR0 := Lib.hid (hr1.kept k2)
  have HZ0 := Lib.hid (hza1.kept k2)
  have HK0 := Lib.hid (hk1.trans k2)
  generalize w1.alloc (.cells #[.int .i64 7, .int .i64 0, .string ⟨#[]⟩, .string ⟨#[]⟩, .slice none 0 0, .slice none 0 0] 31) = v0 at *
  obtain ⟨xb, hxb⟩ : ∃ xb, xb = w1.heap.size := ⟨_, rfl⟩
  rw [← hxb] at HX0 hpl ⊢
  clear hr1 hza1 hk1 k2 hxb hw1
  obtain ⟨a0, a1, a2, a3, a4, a5⟩ := box6 HX0.out
  obtain ⟨tt, r0, r1, _⟩ := HR0.out.cells
  rw [HB0.out] at r1
  go_wp2_with fail
  refine (between_any 7 1 8 _).mono ?_
  rintro e w' ⟨rfl, rfl⟩
  rw [show Rc.within 7 1 8 = true from rfl]
  go_wp2_with fail
  refine (fields_any 7 (by omega) _).mono ?_
  rintro e u0 ⟨rfl, hk2⟩
  have HX := Lib.hid (HX0.out.kept hk2)
  have HR := Lib.hid (HR0.out.kept hk2)
  have HZ := Lib.hid (HZ0.out.kept hk2)
  have HK := Lib.hid (HK0.out.trans hk2)
  have HSZ := Lib.hid (show s0.1.size ≤ 140737488351232 by omega)
  clear hk2 a0 a1 a2 a3 a4 a5 r0 r1 HX0 HR0 HZ0 HK0 hsz0
  go_wp2_with fail
  refine (has_lit (fStr 7) 73 73 rfl hfs _).mono ?_
  rintro e w' ⟨rfl, rfl⟩
  rw [show hasB (fStr 7) 73 = false from rfl]
  go_wp2_with fail
  refine (has_lit (fStr 7) 78 78 rfl hfs _).mono ?_
  rintro e w' ⟨rfl, rfl⟩
  rw [show hasB (fStr 7) 78 = true from rfl]
  have hvn := pv1_lt s0
  have hp1 := pt_size 1 s0
  go_wp2_with fail
  refine (rtake1 p s0 _ HR.out (by have := HSZ.out; omega)).mono ?_
  rintro e u1 ⟨rfl, hr, hg⟩
  have HX' := Lib.hid (HX.out.gr hg (by simp; omega))
  have HZ' := Lib.hid (HZ.out.gr hg (by simp; omega))
  have HK' := Lib.hid (kept_gr HK.out hg (fun g e => by cases e; omega))
  replace HX := HX'
  replace HZ := HZ'
  replace HK := HK'
  clear HX' HZ' HK' hg
  obtain ⟨qn, hqn⟩ : ∃ z, z = pt 1 s0 := ⟨_, rfl⟩
  rw [← hqn]
  have Hqn := Lib.hid hqn
  obtain ⟨s2, hs2⟩ : ∃ z : St, z = ps 1 s0 := ⟨_, rfl⟩
  rw [← hs2] at hr
  have HR' := Lib.hid hr
  have hsz' : s2.1.size ≤ 140737488351232 := by have := ps_size 1 s0; rw [← hs2] at this; have := HSZ.out; omega
  replace HR := HR'
  have HSZ' := Lib.hid hsz'
  replace HSZ := HSZ'
  have Hs2 := Lib.hid hs2
  clear HR' HSZ' hr hsz' hqn hs2
  rw [← Hqn.out] at hp1
  obtain ⟨vn, hvn'⟩ : ∃ vn : Nat, vn = pv 1 s0 := ⟨_, rfl⟩
  have HVN := Lib.hid hvn'
  rw [← hvn'] at hvn
  have HNQ := Lib.hid (show numL qn.data.toList = vn by rw [hvn', Hqn.out]; rfl)
  clear hvn'
  go_wp2_with fail
  refine (num_of qn _ (by omega)).mono ?_
  rintro e w' ⟨rfl, rfl⟩
  rw [HNQ.out]
  have htz := pt_size vn s2
  go_wp2_with fail
  refine (rtake_any p s2 vn _ HR.out (by have := HSZ.out; omega)).mono ?_
  rintro e u2 ⟨rfl, hr, hg⟩
  have HX' := Lib.hid (HX.out.gr hg (by simp; omega))
  have HZ' := Lib.hid (HZ.out.gr hg (by simp; omega))
  have HK' := Lib.hid (kept_gr HK.out hg (fun g e => by cases e; omega))
  replace HX := HX'
  replace HZ := HZ'
  replace HK := HK'
  clear HX' HZ' HK' hg
  obtain ⟨tn, htn⟩ : ∃ z, z = pt vn s2 := ⟨_, rfl⟩
  rw [← htn]
  have Htn := Lib.hid htn
  obtain ⟨s3, hs3⟩ : ∃ z : St, z = ps vn s2 := ⟨_, rfl⟩
  rw [← hs3] at hr
  have HR' := Lib.hid hr
  have hsz' : s3.1.size ≤ 140737488351232 := by have := ps_size vn s2; rw [← hs3] at this; have := HSZ.out; omega
  replace HR := HR'
  have HSZ' := Lib.hid hsz'
  replace HSZ := HSZ'
  have Hs3 := Lib.hid hs3
  clear HR' HSZ' hr hsz' htn hs3
  rw [← Htn.out] at htz
  obtain ⟨a0, a1, a2, a3, a4, a5⟩ := box6 HX.out
  have fz := HX.out.free 2
  go_upto_region 10 with (fail)
  have hg := gr_set u2 xb 2 (.string tn)
  have HX' := Lib.hid (show BlockAt (u2.setCell ⟨xb, 2, none⟩ (.string tn)) xb #[.int .i64 7, .int .i64 0, .string tn, .string ⟨#[]⟩, .slice none 0 0, .slice none 0 0] 31 from HX.out.set (.string tn))
  have HR' := Lib.hid (HR.out.gr hg (by simp; omega))
  have HZ' := Lib.hid (HZ.out.gr hg (by simp; omega))
  have HK' := Lib.hid (kept_gr HK.out hg (fun g e => by cases e; omega))
  clear a0 a1 a2 a3 a4 a5 fz hg HX HR HZ HK
  obtain ⟨HX, HR⟩ := And.intro HX' HR'
  obtain ⟨HZ, HK⟩ := And.intro HZ' HK'
  clear HX' HR' HZ' HK'
  generalize u2.setCell ⟨xb, 2, none⟩ (.string tn) = u3 at *
  go_wp2_with fail
  refine (has_lit (fStr 7) 68 68 rfl hfs _).mono ?_
  rintro e w' ⟨rfl, rfl⟩
  rw [show hasB (fStr 7) 68 = true from rfl]
  have hdz := pt_size 32 s3
  go_wp2_with fail
  refine (rtake32 p s3 _ HR.out (by have := HSZ.out; omega)).mono ?_
  rintro e u4 ⟨rfl, hr, hg⟩
  have HX' := Lib.hid (HX.out.gr hg (by simp; omega))
  have HZ' := Lib.hid (HZ.out.gr hg (by simp; omega))
  have HK' := Lib.hid (kept_gr HK.out hg (fun g e => by cases e; omega))
  replace HX := HX'
  replace HZ := HZ'
  replace HK := HK'
  clear HX' HZ' HK' hg
  obtain ⟨td, htd⟩ : ∃ z, z = pt 32 s3 := ⟨_, rfl⟩
  rw [← htd]
  have Htd := Lib.hid htd
  obtain ⟨s4, hs4⟩ : ∃ z : St, z = ps 32 s3 := ⟨_, rfl⟩
  rw [← hs4] at hr
  have HR' := Lib.hid hr
  have hsz' : s4.1.size ≤ 140737488351232 := by have := ps_size 32 s3; rw [← hs4] at this; have := HSZ.out; omega
  replace HR := HR'
  have HSZ' := Lib.hid hsz'
  replace HSZ := HSZ'
  have Hs4 := Lib.hid hs4
  clear HR' HSZ' hr hsz' htd hs4
  rw [← Htd.out] at hdz
  obtain ⟨a0, a1, a2, a3, a4, a5⟩ := box6 HX.out
  have fz := HX.out.free 3
  go_upto_region 12 with (fail)
  have hg := gr_set u4 xb 3 (.string td)
  have HX' := Lib.hid (show BlockAt (u4.setCell ⟨xb, 3, none⟩ (.string td)) xb #[.int .i64 7, .int .i64 0, .string tn, .string td, .slice none 0 0, .slice none 0 0] 31 from HX.out.set (.string td))
  have HR' := Lib.hid (HR.out.gr hg (by simp; omega))
  have HZ' := Lib.hid (HZ.out.gr hg (by simp; omega))
  have HK' := Lib.hid (kept_gr HK.out hg (fun g e => by cases e; omega))
  clear a0 a1 a2 a3 a4 a5 fz hg HX HR HZ HK
  obtain ⟨HX, HR⟩ := And.intro HX' HR'
  obtain ⟨HZ, HK⟩ := And.intro HZ' HK'
  clear HX' HR' HZ' HK'
  generalize u4.setCell ⟨xb, 3, none⟩ (.string td) = u5 at *
  go_wp2_with fail
  refine (has_lit (fStr 7) 76 76 rfl hfs _).mono ?_
  rintro e w' ⟨rfl, rfl⟩
  rw [show hasB (fStr 7) 76 = false from rfl]
  go_wp2_with fail
  refine (has_lit (fStr 7) 83 83 rfl hfs _).mono ?_
  rintro e w' ⟨rfl, rfl⟩
  rw [show hasB (fStr 7) 83 = false from rfl]
  have hfin : rawK 7 s0 = (⟨7, 0, tn, td, [], []⟩, (s4.1, s4.2)) := by
    unfold rawK pI pN pD rL rS
    simp only [show Rc.fI 7 = false from rfl, show Rc.fN 7 = true from rfl, show Rc.fD 7 = true from rfl, show Rc.fL 7 = false from rfl, show Rc.fS 7 = false from rfl, Bool.false_eq_true, if_false, if_true]
    rw [← HVN.out, ← Hs2.out, ← Htn.out, ← Hs3.out, ← Htd.out, ← Hs4.out]
  have HFIN := Lib.hid hfin
  clear hfin
  obtain ⟨a0, a1, a2, a3, a4, a5⟩ := box6 HX.out
  obtain ⟨tt, r0, r1, hteq⟩ := HR.out.cells
  try dsimp only at r1 hteq
  cases hbd : s4.2 with
  | true =>
    rw [hbd] at r1
    have HBD := Lib.hid hbd
    clear hbd hteq
    have HV := Lib.hid (takeK_no (show okR (rawK 7 s0) = false by rw [HFIN.out]; unfold okR; dsimp only; rw [HBD.out]; rfl))
    go_wp2_with (refine wpList_store_block rfl 31 (.tmp 2) (.tmp 122) rfl _ #[.int .i64 0, .int .i64 0, .string ⟨#[]⟩, .string ⟨#[]⟩, .slice none 0 0, .slice none 0 0] #[.int .i64 0, .int .i64 0, .string ⟨#[]⟩, .string ⟨#[]⟩, .slice none 0 0, .slice none 0 0] 31 rfl rfl HZ.out Try.infoRec rfl (one6 _ _ _ _ _ _ _ _ _ _) ?_)
    refine bodyPost_ret (v := .tuple #[.agg #[.int .i64 0, .int .i64 0, .string ⟨#[]⟩, .string ⟨#[]⟩, .slice none 0 0, .slice none 0 0], .bool false]) (results_row_tmp rfl _ _ w.heap.size 31 #[.int .i64 0, .int .i64 0, .string ⟨#[]⟩, .string ⟨#[]⟩, .slice none 0 0, .slice none 0 0] _ rfl (HZ.out.setRow _) Try.underlying31 rfl Try.infoRec _ rfl) rfl ?_
    rw [HV.out]
    exact ⟨none, 0, none, 0, rfl, zero_in _, HK.out.setRow (by omega) _⟩
  | false =>
    have HTE := Lib.hid (hteq hbd)
    rw [hbd] at r1
    have HBD := Lib.hid hbd
    clear hbd hteq
    by_cases hem : tt.size = 0
    · obtain ⟨d, d'⟩ := str_no hem
      have HEM := Lib.hid (decide_eq_true hem)
      clear hem
      go_wp2_with fail
      refine (rrec_any ⟨7, 0, tn, td, [], []⟩ none 0 0 none 0 0 _ ⟨IntsIn.nil _ _ _, SlotsIn.nil _ _, by dsimp only; omega, by dsimp only; omega, by dsimp only; omega, by dsimp only; omega⟩).mono ?_
      rintro e wz ⟨rfl, hkz⟩
      replace HX := Lib.hid (HX.out.kept hkz)
      replace HZ := Lib.hid (HZ.out.kept hkz)
      replace HK := Lib.hid (HK.out.trans hkz)
  
  
      clear hkz a0 a1 a2 a3 a4 a5 r0 r1 d d'
      cases hmy : Rec.may ⟨7, 0, tn, td, [], []⟩ with
      | false =>
        have HMY := Lib.hid hmy
        clear hmy
        have HV := Lib.hid (takeK_no (show okR (rawK 7 s0) = false by rw [HFIN.out]; unfold okR; dsimp only; rw [HBD.out, HMY.out]; simp))
        go_wp2_with (refine wpList_store_block rfl 31 (.tmp 2) (.tmp 122) rfl _ #[.int .i64 0, .int .i64 0, .string ⟨#[]⟩, .string ⟨#[]⟩, .slice none 0 0, .slice none 0 0] #[.int .i64 0, .int .i64 0, .string ⟨#[]⟩, .string ⟨#[]⟩, .slice none 0 0, .slice none 0 0] 31 rfl rfl HZ.out Try.infoRec rfl (one6 _ _ _ _ _ _ _ _ _ _) ?_)
        refine bodyPost_ret (v := .tuple #[.agg #[.int .i64 0, .int .i64 0, .string ⟨#[]⟩, .string ⟨#[]⟩, .slice none 0 0, .slice none 0 0], .bool false]) (results_row_tmp rfl _ _ w.heap.size 31 #[.int .i64 0, .int .i64 0, .string ⟨#[]⟩, .string ⟨#[]⟩, .slice none 0 0, .slice none 0 0] _ rfl (HZ.out.setRow _) Try.underlying31 rfl Try.infoRec _ rfl) rfl ?_
        rw [HV.out]
        exact ⟨none, 0, none, 0, rfl, zero_in _, HK.out.setRow (by omega) _⟩
      | true =>
        have HMY := Lib.hid hmy
        clear hmy
        obtain ⟨a0, a1, a2, a3, a4, a5⟩ := box6 HX.out
        have HV := Lib.hid (takeK_yes (show okR (rawK 7 s0) = true by rw [HFIN.out]; unfold okR; dsimp only; rw [HBD.out, HMY.out, ← HTE.out, HEM.out]; rfl))
        go_wp2_with (refine wpList_store_block rfl 31 (.tmp 2) (.tmp 123) rfl _ #[.int .i64 7, .int .i64 0, .string tn, .string td, .slice none 0 0, .slice none 0 0] #[.int .i64 0, .int .i64 0, .string ⟨#[]⟩, .string ⟨#[]⟩, .slice none 0 0, .slice none 0 0] 31 rfl rfl HZ.out Try.infoRec rfl (one6 _ _ _ _ _ _ _ _ _ _) ?_)
        refine bodyPost_ret (v := .tuple #[.agg #[.int .i64 7, .int .i64 0, .string tn, .string td, .slice none 0 0, .slice none 0 0], .bool true]) (results_row_tmp rfl _ _ w.heap.size 31 #[.int .i64 7, .int .i64 0, .string tn, .string td, .slice none 0 0, .slice none 0 0] _ rfl (HZ.out.setRow _) Try.underlying31 rfl Try.infoRec _ rfl) rfl ?_
        rw [HV.out, HFIN.out]
        have HZR := HZ.out
        exact ⟨none, 0, none, 0, rfl, ⟨IntsIn.nil _ _ _, SlotsIn.nil _ _, by dsimp only; omega, by dsimp only; omega, by dsimp only; omega, by dsimp only; omega⟩, HK.out.setRow (by omega) _⟩
    · obtain ⟨d, d'⟩ := str_yes hem
      have HEM := Lib.hid (decide_eq_false hem)
      clear hem
      have HV := Lib.hid (takeK_no (show okR (rawK 7 s0) = false by rw [HFIN.out]; unfold okR; dsimp only; rw [← HTE.out, HEM.out]; simp))
      go_wp2_with (refine wpList_store_block rfl 31 (.tmp 2) (.tmp 122) rfl _ #[.int .i64 0, .int .i64 0, .string ⟨#[]⟩, .string ⟨#[]⟩, .slice none 0 0, .slice none 0 0] #[.int .i64 0, .int .i64 0, .string ⟨#[]⟩, .string ⟨#[]⟩, .slice none 0 0, .slice none 0 0] 31 rfl rfl HZ.out Try.infoRec rfl (one6 _ _ _ _ _ _ _ _ _ _) ?_)
      refine bodyPost_ret (v := .tuple #[.agg #[.int .i64 0, .int .i64 0, .string ⟨#[]⟩, .string ⟨#[]⟩, .slice none 0 0, .slice none 0 0], .bool false]) (results_row_tmp rfl _ _ w.heap.size 31 #[.int .i64 0, .int .i64 0, .string ⟨#[]⟩, .string ⟨#[]⟩, .slice none 0 0, .slice none 0 0] _ rfl (HZ.out.setRow _) Try.underlying31 rfl Try.infoRec _ rfl) rfl ?_
      rw [HV.out]
      exact ⟨none, 0, none, 0, rfl, zero_in _, HK.out.setRow (by omega) _⟩
set_option maxRecDepth 100000 in
set_option maxHeartbeats 4000000 in
theorem rtake_8 (t : ByteArray) (w : World) (hz : t.size ≤ 140737488351232) (hk : ((pv 1 (t, false) : Nat) : Int) = 8) (hs0 : (ps 1 (t, false)).2 = false) :
    Calls Try.prog 22 #[.string t] w (TakeP (fun b => .bool b) w (takeR t)) := by
  obtain ⟨s0, hs⟩ : ∃ s0 : St, s0 = ps 1 (t, false) := ⟨_, rfl⟩
  rw [← hs] at hs0
  have hsz0 := ps_size 1 (t, false)
  rw [← hs] at hsz0
  dsimp only at hsz0
  have htk : takeR t = takeK (rawK 8 s0) := by
    unfold takeR
    rw [hk, ← hs, if_pos ⟨hs0, rfl⟩]
  rw [htk]
  have HS0 := Lib.hid hs
  have HKV := Lib.hid hk
  have HB0 := Lib.hid hs0
  obtain ⟨i0, hi, hz0, hz1, hz2⟩ := info_parts Try.infoI
  have HI := Lib.hid (And.intro hi (And.intro hz0 (And.intro hz1 hz2)))
  clear hi hz0 hz1 hz2
  obtain ⟨i2, hi, hz0, hz1, hz2⟩ := info_parts Try.infoSlot
  have HI2 := Lib.hid (And.intro hi (And.intro hz0 (And.intro hz1 hz2)))
  clear hi hz0 hz1 hz2 hs hk hs0 htk
  have hfs : (fStr 8).size ≤ 9223372036854775807 := by rw [show (fStr 8).size = 1 from rfl]; omega
  go_enter Try.func22, Try.ntmps22
  go_upto_region 2 with (fail)
  have k0 := ((Kept.refl w).alloc (.cells #[.int .i64 0, .int .i64 0, .string ⟨#[]⟩, .string ⟨#[]⟩, .slice none 0 0, .slice none 0 0] 31)).alloc (.cells #[.string t, .bool false] 67)
  have hza := (BlockAt.new w #[.int .i64 0, .int .i64 0, .string ⟨#[]⟩, .string ⟨#[]⟩, .slice none 0 0, .slice none 0 0] 31).kept ((Kept.refl _).alloc (.cells #[.string t, .bool false] 67))
  have hra := BlockAt.new1 w #[.string t, .bool false] 67 (.cells #[.int .i64 0, .int .i64 0, .string ⟨#[]⟩, .string ⟨#[]⟩, .slice none 0 0, .slice none 0 0] 31)
  generalize (w.alloc (.cells #[.int .i64 0, .int .i64 0, .string ⟨#[]⟩, .string ⟨#[]⟩, .slice none 0 0, .slice none 0 0] 31)).alloc (.cells #[.string t, .bool false] 67) = wa at *
  obtain ⟨p, hp⟩ : ∃ p, p = w.heap.size + 1 := ⟨_, rfl⟩
  rw [← hp] at hra ⊢
  have hpw : w.heap.size < p := by omega
  clear hp
  have hra' : RdR wa p (t, false) := ⟨t, hra, fun _ => rfl, (fun h => by cases h)⟩
  clear hra
  go_wp2_with fail
  refine (rtake1 p (t, false) _ hra' (by dsimp only; omega)).mono ?_
  rintro e w1 ⟨rfl, hr1, hg1⟩
  have hp1 := pt_size 1 (t, false)
  obtain ⟨q, hq⟩ : ∃ q, pt 1 (t, false) = q := ⟨_, rfl⟩
  have HNK := Lib.hid (show ((numL q.data.toList : Nat) : Int) = 8 by rw [← hq]; exact HKV.out)
  rw [hq] at hp1 ⊢
  clear hq
  rw [← HS0.out] at hr1
  have hza1 := hza.gr hg1 (by simp; omega)
  have hk1 := kept_gr k0 hg1 (fun g e => by cases e; omega)
  go_wp2_with fail
  refine (num_of q _ (by omega)).mono ?_
  rintro e w' ⟨rfl, rfl⟩
  rw [HNK.out]
  have hw1 := hg1.size
  have hpl := hr1.lt
  clear hza hra' hg1 k0
  go_upto_region 3 with (fail)
  have HX0 := Lib.hid (BlockAt.new w1 #[.int .i64 8, .int .i64 0, .string ⟨#[]⟩, .string ⟨#[]⟩, .slice none 0 0, .slice none 0 0] 31)
  have k2 := (Kept.refl w1).alloc (.cells #[.int .i64 8, .int .i64 0, .string ⟨#[]⟩, .string ⟨#[]⟩, .slice none 0 0, .slice none 0 0] 31)
  have HR0 := Lib.hid (hr1.kept k2)
  have HZ0 := Lib.hid (hza1.kept k2)
  have HK0 := Lib.hid (hk1.trans k2)
  generalize w1.alloc (.cells #[.int .i64 8, .int .i64 0, .string ⟨#[]⟩, .string ⟨#[]⟩, .slice none 0 0, .slice none 0 0] 31) = v0 at *
  obtain ⟨xb, hxb⟩ : ∃ xb, xb = w1.heap.size := ⟨_, rfl⟩
  rw [← hxb] at HX0 hpl ⊢
  clear hr1 hza1 hk1 k2 hxb hw1
  obtain ⟨a0, a1, a2, a3, a4, a5⟩ := box6 HX0.out
  obtain ⟨tt, r0, r1, _⟩ := HR0.out.cells
  rw [HB0.out] at r1
  go_wp2_with fail
  refine (between_any 8 1 8 _).mono ?_
  rintro e w' ⟨rfl, rfl⟩
  rw [show Rc.within 8 1 8 = true from rfl]
  go_wp2_with fail
  refine (fields_any 8 (by omega) _).mono ?_
  rintro e u0 ⟨rfl, hk2⟩
  have HX := Lib.hid (HX0.out.kept hk2)
  have HR := Lib.hid (HR0.out.kept hk2)
  have HZ := Lib.hid (HZ0.out.kept hk2)
  have HK := Lib.hid (HK0.out.trans hk2)
  have HSZ := Lib.hid (show s0.1.size ≤ 140737488351232 by omega)
  clear hk2 a0 a1 a2 a3 a4 a5 r0 r1 HX0 HR0 HZ0 HK0 hsz0
  go_wp2_with fail
  refine (has_lit (fStr 8) 73 73 rfl hfs _).mono ?_
  rintro e w' ⟨rfl, rfl⟩
  rw [show hasB (fStr 8) 73 = false from rfl]
  go_wp2_with fail
  refine (has_lit (fStr 8) 78 78 rfl hfs _).mono ?_
  rintro e w' ⟨rfl, rfl⟩
  rw [show hasB (fStr 8) 78 = true from rfl]
  have hvn := pv1_lt s0
  have hp1 := pt_size 1 s0
  go_wp2_with fail
  refine (rtake1 p s0 _ HR.out (by have := HSZ.out; omega)).mono ?_
  rintro e u1 ⟨rfl, hr, hg⟩
  have HX' := Lib.hid (HX.out.gr hg (by simp; omega))
  have HZ' := Lib.hid (HZ.out.gr hg (by simp; omega))
  have HK' := Lib.hid (kept_gr HK.out hg (fun g e => by cases e; omega))
  replace HX := HX'
  replace HZ := HZ'
  replace HK := HK'
  clear HX' HZ' HK' hg
  obtain ⟨qn, hqn⟩ : ∃ z, z = pt 1 s0 := ⟨_, rfl⟩
  rw [← hqn]
  have Hqn := Lib.hid hqn
  obtain ⟨s2, hs2⟩ : ∃ z : St, z = ps 1 s0 := ⟨_, rfl⟩
  rw [← hs2] at hr
  have HR' := Lib.hid hr
  have hsz' : s2.1.size ≤ 140737488351232 := by have := ps_size 1 s0; rw [← hs2] at this; have := HSZ.out; omega
  replace HR := HR'
  have HSZ' := Lib.hid hsz'
  replace HSZ := HSZ'
  have Hs2 := Lib.hid hs2
  clear HR' HSZ' hr hsz' hqn hs2
  rw [← Hqn.out] at hp1
  obtain ⟨vn, hvn'⟩ : ∃ vn : Nat, vn = pv 1 s0 := ⟨_, rfl⟩
  have HVN := Lib.hid hvn'
  rw [← hvn'] at hvn
  have HNQ := Lib.hid (show numL qn.data.toList = vn by rw [hvn', Hqn.out]; rfl)
  clear hvn'
  go_wp2_with fail
  refine (num_of qn _ (by omega)).mono ?_
  rintro e w' ⟨rfl, rfl⟩
  rw [HNQ.out]
  have htz := pt_size vn s2
  go_wp2_with fail
  refine (rtake_any p s2 vn _ HR.out (by have := HSZ.out; omega)).mono ?_
  rintro e u2 ⟨rfl, hr, hg⟩
  have HX' := Lib.hid (HX.out.gr hg (by simp; omega))
  have HZ' := Lib.hid (HZ.out.gr hg (by simp; omega))
  have HK' := Lib.hid (kept_gr HK.out hg (fun g e => by cases e; omega))
  replace HX := HX'
  replace HZ := HZ'
  replace HK := HK'
  clear HX' HZ' HK' hg
  obtain ⟨tn, htn⟩ : ∃ z, z = pt vn s2 := ⟨_, rfl⟩
  rw [← htn]
  have Htn := Lib.hid htn
  obtain ⟨s3, hs3⟩ : ∃ z : St, z = ps vn s2 := ⟨_, rfl⟩
  rw [← hs3] at hr
  have HR' := Lib.hid hr
  have hsz' : s3.1.size ≤ 140737488351232 := by have := ps_size vn s2; rw [← hs3] at this; have := HSZ.out; omega
  replace HR := HR'
  have HSZ' := Lib.hid hsz'
  replace HSZ := HSZ'
  have Hs3 := Lib.hid hs3
  clear HR' HSZ' hr hsz' htn hs3
  rw [← Htn.out] at htz
  obtain ⟨a0, a1, a2, a3, a4, a5⟩ := box6 HX.out
  have fz := HX.out.free 2
  go_upto_region 10 with (fail)
  have hg := gr_set u2 xb 2 (.string tn)
  have HX' := Lib.hid (show BlockAt (u2.setCell ⟨xb, 2, none⟩ (.string tn)) xb #[.int .i64 8, .int .i64 0, .string tn, .string ⟨#[]⟩, .slice none 0 0, .slice none 0 0] 31 from HX.out.set (.string tn))
  have HR' := Lib.hid (HR.out.gr hg (by simp; omega))
  have HZ' := Lib.hid (HZ.out.gr hg (by simp; omega))
  have HK' := Lib.hid (kept_gr HK.out hg (fun g e => by cases e; omega))
  clear a0 a1 a2 a3 a4 a5 fz hg HX HR HZ HK
  obtain ⟨HX, HR⟩ := And.intro HX' HR'
  obtain ⟨HZ, HK⟩ := And.intro HZ' HK'
  clear HX' HR' HZ' HK'
  generalize u2.setCell ⟨xb, 2, none⟩ (.string tn) = u3 at *
  go_wp2_with fail
  refine (has_lit (fStr 8) 68 68 rfl hfs _).mono ?_
  rintro e w' ⟨rfl, rfl⟩
  rw [show hasB (fStr 8) 68 = false from rfl]
  go_wp2_with fail
  refine (has_lit (fStr 8) 76 76 rfl hfs _).mono ?_
  rintro e w' ⟨rfl, rfl⟩
  rw [show hasB (fStr 8) 76 = false from rfl]
  go_wp2_with fail
  refine (has_lit (fStr 8) 83 83 rfl hfs _).mono ?_
  rintro e w' ⟨rfl, rfl⟩
  rw [show hasB (fStr 8) 83 = false from rfl]
  have hfin : rawK 8 s0 = (⟨8, 0, tn, ByteArray.empty, [], []⟩, (s3.1, s3.2)) := by
    unfold rawK pI pN pD rL rS
    simp only [show Rc.fI 8 = false from rfl, show Rc.fN 8 = true from rfl, show Rc.fD 8 = false from rfl, show Rc.fL 8 = false from rfl, show Rc.fS 8 = false from rfl, Bool.false_eq_true, if_false, if_true]
    rw [← HVN.out, ← Hs2.out, ← Htn.out, ← Hs3.out]
  have HFIN := Lib.hid hfin
  clear hfin
  obtain ⟨a0, a1, a2, a3, a4, a5⟩ := box6 HX.out
  obtain ⟨tt, r0, r1, hteq⟩ := HR.out.cells
  try dsimp only at r1 hteq
  cases hbd : s3.2 with
  | true =>
    rw [hbd] at r1
    have HBD := Lib.hid hbd
    clear hbd hteq
    have HV := Lib.hid (takeK_no (show okR (rawK 8 s0) = false by rw [HFIN.out]; unfold okR; dsimp only; rw [HBD.out]; rfl))
    go_wp2_with (refine wpList_store_block rfl 31 (.tmp 2) (.tmp 122) rfl _ #[.int .i64 0, .int .i64 0, .string ⟨#[]⟩, .string ⟨#[]⟩, .slice none 0 0, .slice none 0 0] #[.int .i64 0, .int .i64 0, .string ⟨#[]⟩, .string ⟨#[]⟩, .slice none 0 0, .slice none 0 0] 31 rfl rfl HZ.out Try.infoRec rfl (one6 _ _ _ _ _ _ _ _ _ _) ?_)
    refine bodyPost_ret (v := .tuple #[.agg #[.int .i64 0, .int .i64 0, .string ⟨#[]⟩, .string ⟨#[]⟩, .slice none 0 0, .slice none 0 0], .bool false]) (results_row_tmp rfl _ _ w.heap.size 31 #[.int .i64 0, .int .i64 0, .string ⟨#[]⟩, .string ⟨#[]⟩, .slice none 0 0, .slice none 0 0] _ rfl (HZ.out.setRow _) Try.underlying31 rfl Try.infoRec _ rfl) rfl ?_
    rw [HV.out]
    exact ⟨none, 0, none, 0, rfl, zero_in _, HK.out.setRow (by omega) _⟩
  | false =>
    have HTE := Lib.hid (hteq hbd)
    rw [hbd] at r1
    have HBD := Lib.hid hbd
    clear hbd hteq
    by_cases hem : tt.size = 0
    · obtain ⟨d, d'⟩ := str_no hem
      have HEM := Lib.hid (decide_eq_true hem)
      clear hem
      go_wp2_with fail
      refine (rrec_any ⟨8, 0, tn, ByteArray.empty, [], []⟩ none 0 0 none 0 0 _ ⟨IntsIn.nil _ _ _, SlotsIn.nil _ _, by dsimp only; omega, by dsimp only; omega, by dsimp only; omega, by dsimp only; exact Nat.zero_le _⟩).mono ?_
      rintro e wz ⟨rfl, hkz⟩
      replace HX := Lib.hid (HX.out.kept hkz)
      replace HZ := Lib.hid (HZ.out.kept hkz)
      replace HK := Lib.hid (HK.out.trans hkz)
  
  
      clear hkz a0 a1 a2 a3 a4 a5 r0 r1 d d'
      cases hmy : Rec.may ⟨8, 0, tn, ByteArray.empty, [], []⟩ with
      | false =>
        have HMY := Lib.hid hmy
        clear hmy
        have HV := Lib.hid (takeK_no (show okR (rawK 8 s0) = false by rw [HFIN.out]; unfold okR; dsimp only; rw [HBD.out, HMY.out]; simp))
        go_wp2_with (refine wpList_store_block rfl 31 (.tmp 2) (.tmp 122) rfl _ #[.int .i64 0, .int .i64 0, .string ⟨#[]⟩, .string ⟨#[]⟩, .slice none 0 0, .slice none 0 0] #[.int .i64 0, .int .i64 0, .string ⟨#[]⟩, .string ⟨#[]⟩, .slice none 0 0, .slice none 0 0] 31 rfl rfl HZ.out Try.infoRec rfl (one6 _ _ _ _ _ _ _ _ _ _) ?_)
        refine bodyPost_ret (v := .tuple #[.agg #[.int .i64 0, .int .i64 0, .string ⟨#[]⟩, .string ⟨#[]⟩, .slice none 0 0, .slice none 0 0], .bool false]) (results_row_tmp rfl _ _ w.heap.size 31 #[.int .i64 0, .int .i64 0, .string ⟨#[]⟩, .string ⟨#[]⟩, .slice none 0 0, .slice none 0 0] _ rfl (HZ.out.setRow _) Try.underlying31 rfl Try.infoRec _ rfl) rfl ?_
        rw [HV.out]
        exact ⟨none, 0, none, 0, rfl, zero_in _, HK.out.setRow (by omega) _⟩
      | true =>
        have HMY := Lib.hid hmy
        clear hmy
        obtain ⟨a0, a1, a2, a3, a4, a5⟩ := box6 HX.out
        have HV := Lib.hid (takeK_yes (show okR (rawK 8 s0) = true by rw [HFIN.out]; unfold okR; dsimp only; rw [HBD.out, HMY.out, ← HTE.out, HEM.out]; rfl))
        go_wp2_with (refine wpList_store_block rfl 31 (.tmp 2) (.tmp 123) rfl _ #[.int .i64 8, .int .i64 0, .string tn, .string ⟨#[]⟩, .slice none 0 0, .slice none 0 0] #[.int .i64 0, .int .i64 0, .string ⟨#[]⟩, .string ⟨#[]⟩, .slice none 0 0, .slice none 0 0] 31 rfl rfl HZ.out Try.infoRec rfl (one6 _ _ _ _ _ _ _ _ _ _) ?_)
        refine bodyPost_ret (v := .tuple #[.agg #[.int .i64 8, .int .i64 0, .string tn, .string ⟨#[]⟩, .slice none 0 0, .slice none 0 0], .bool true]) (results_row_tmp rfl _ _ w.heap.size 31 #[.int .i64 8, .int .i64 0, .string tn, .string ⟨#[]⟩, .slice none 0 0, .slice none 0 0] _ rfl (HZ.out.setRow _) Try.underlying31 rfl Try.infoRec _ rfl) rfl ?_
        rw [HV.out, HFIN.out]
        have HZR := HZ.out
        exact ⟨none, 0, none, 0, rfl, ⟨IntsIn.nil _ _ _, SlotsIn.nil _ _, by dsimp only; omega, by dsimp only; omega, by dsimp only; omega, by dsimp only; exact Nat.zero_le _⟩, HK.out.setRow (by omega) _⟩
    · obtain ⟨d, d'⟩ := str_yes hem
      have HEM := Lib.hid (decide_eq_false hem)
      clear hem
      have HV := Lib.hid (takeK_no (show okR (rawK 8 s0) = false by rw [HFIN.out]; unfold okR; dsimp only; rw [← HTE.out, HEM.out]; simp))
      go_wp2_with (refine wpList_store_block rfl 31 (.tmp 2) (.tmp 122) rfl _ #[.int .i64 0, .int .i64 0, .string ⟨#[]⟩, .string ⟨#[]⟩, .slice none 0 0, .slice none 0 0] #[.int .i64 0, .int .i64 0, .string ⟨#[]⟩, .string ⟨#[]⟩, .slice none 0 0, .slice none 0 0] 31 rfl rfl HZ.out Try.infoRec rfl (one6 _ _ _ _ _ _ _ _ _ _) ?_)
      refine bodyPost_ret (v := .tuple #[.agg #[.int .i64 0, .int .i64 0, .string ⟨#[]⟩, .string ⟨#[]⟩, .slice none 0 0, .slice none 0 0], .bool false]) (results_row_tmp rfl _ _ w.heap.size 31 #[.int .i64 0, .int .i64 0, .string ⟨#[]⟩, .string ⟨#[]⟩, .slice none 0 0, .slice none 0 0] _ rfl (HZ.out.setRow _) Try.underlying31 rfl Try.infoRec _ rfl) rfl ?_
      rw [HV.out]
      exact ⟨none, 0, none, 0, rfl, zero_in _, HK.out.setRow (by omega) _⟩
end Go.Proofs.Ytoanldoocmmhjaa
