/- record's parse, by what it answers (no conditions but on the text's length). -/
import Derived.Test.YtoanldoocmmhjaaRc8
import Derived.Deep.AppendLies
import Derived.Deep.RegionWith
import Derived.Deep.RegionLaw
namespace Go.Proofs.Ytoanldoocmmhjaa
open Go.RowKit
set_option maxRecDepth 100000 in
set_option maxHeartbeats 1000000 in
theorem parse_2 (p : Nat) (rest : ByteArray) (short : Bool) (w : World) (h : BlockAt w p #[.string rest, .bool short] 63) (hz : rest.size ≤ 140737488351232) (hk : ((pv 1 (rest, short) : Nat) : Int) = 2) :
    Calls Try.prog 39 #[.pointer (some ⟨p, 0, none⟩)] w (ParseP p w (parse (rest, short))) := by
  have hp := h.lt
  obtain ⟨s0, hs0⟩ : ∃ s0 : St, s0 = ps 1 (rest, short) := ⟨_, rfl⟩
  have hsz0 := ps_size 1 (rest, short)
  rw [← hs0] at hsz0
  dsimp only at hsz0
  have hpar : parse (rest, short) = parseK 2 s0 := by unfold parse; rw [hk, ← hs0]
  rw [hpar]
  obtain ⟨i0, hi, hz0, hz1, hz2⟩ := info_parts Try.infoI
  have HI := Lib.hid (And.intro hi (And.intro hz0 (And.intro hz1 hz2)))
  clear hi hz0 hz1 hz2
  obtain ⟨i2, hi, hz0, hz1, hz2⟩ := info_parts Try.infoSlot
  have HI2 := Lib.hid (And.intro hi (And.intro hz0 (And.intro hz1 hz2)))
  clear hi hz0 hz1 hz2
  have HS0 := Lib.hid hs0
  have HKV := Lib.hid hk
  clear hs0 hk hpar
  go_enter Try.func39, Try.ntmps39
  have hza := BlockAt.new w #[.int .i64 0, .int .i64 0, .string ⟨#[]⟩, .string ⟨#[]⟩, .slice none 0 0, .slice none 0 0] 31
  have hr0 := h.kept ((Kept.refl w).alloc (.cells #[.int .i64 0, .int .i64 0, .string ⟨#[]⟩, .string ⟨#[]⟩, .slice none 0 0, .slice none 0 0] 31))
  have hk0 := (Kept.refl w).alloc (.cells #[.int .i64 0, .int .i64 0, .string ⟨#[]⟩, .string ⟨#[]⟩, .slice none 0 0, .slice none 0 0] 31)
  have hn0 : (w.alloc (.cells #[.int .i64 0, .int .i64 0, .string ⟨#[]⟩, .string ⟨#[]⟩, .slice none 0 0, .slice none 0 0] 31)).heap.size = w.heap.size + 1 := by simp
  clear h
  go_wp2_with fail
  generalize w.alloc (.cells #[.int .i64 0, .int .i64 0, .string ⟨#[]⟩, .string ⟨#[]⟩, .slice none 0 0, .slice none 0 0] 31) = wa at *
  refine (value1 p rest short _ hr0 (by omega)).mono ?_
  rintro e w1 ⟨rfl, hr1, hg1⟩
  have hr1 := sext hr1 (show (rdS rest 1, rdB rest short 1) = (s0.1, s0.2) from HS0.out.symm)
  rw [show ((numL (rdT rest 1).data.toList : Nat) : Int) = 2 from HKV.out]
  have hza1 := hza.gr hg1 (by simp; omega)
  have hgw := gr_trans (gr_kept hk0 (some p)) hg1
  have hw1 := hg1.size
  clear hr0 hk0 hg1 hza
  go_upto_region 2 with (fail)
  have HX0 := Lib.hid (BlockAt.new w1 #[.int .i64 2, .int .i64 0, .string ⟨#[]⟩, .string ⟨#[]⟩, .slice none 0 0, .slice none 0 0] 31)
  have k2 := (Kept.refl w1).alloc (.cells #[.int .i64 2, .int .i64 0, .string ⟨#[]⟩, .string ⟨#[]⟩, .slice none 0 0, .slice none 0 0] 31)
  have hn2 : (w1.alloc (.cells #[.int .i64 2, .int .i64 0, .string ⟨#[]⟩, .string ⟨#[]⟩, .slice none 0 0, .slice none 0 0] 31)).heap.size = w1.heap.size + 1 := by simp
  have HR0 := Lib.hid (hr1.kept k2)
  have HZ0 := Lib.hid (hza1.kept k2)
  have HG0 := Lib.hid (gr_trans hgw (gr_kept k2 _))
  generalize w1.alloc (.cells #[.int .i64 2, .int .i64 0, .string ⟨#[]⟩, .string ⟨#[]⟩, .slice none 0 0, .slice none 0 0] 31) = w2 at *
  obtain ⟨xb, hxb⟩ : ∃ xb, xb = w1.heap.size := ⟨_, rfl⟩
  rw [← hxb] at HX0 hn2 ⊢
  have hxb1 : w.heap.size < xb := by omega
  obtain ⟨a0, a1, a2, a3, a4, a5⟩ := box6 HX0.out
  clear hr1 hza1 hgw k2 hxb hw1 hn0
  go_wp2_with fail
  refine (named_any 2 _).mono ?_
  rintro e w3 ⟨rfl, hk3⟩
  rw [show kfields 2 = #[.bool true, .bool false, .bool false, .bool true, .bool true] from rfl, show Rc.okK 2 = true from rfl]
  have hn3 := hk3.size
  clear a0 a1 a2 a3 a4 a5
  go_upto_region 3 with (fail)
  have k3 : Kept w2 (w3.alloc (.cells #[.bool true, .bool false, .bool false, .bool true, .bool true] 72)) := hk3.alloc _
  have HX1 := Lib.hid (HX0.out.kept k3)
  have HR1 := Lib.hid (HR0.out.kept k3)
  have HZ1 := Lib.hid (HZ0.out.kept k3)
  have HF1 := Lib.hid (BlockAt.new w3 #[.bool true, .bool false, .bool false, .bool true, .bool true] 72)
  have HG1 := Lib.hid (gr_trans HG0.out (gr_kept k3 _))
  have hfb1 : xb < w3.heap.size := by omega
  obtain ⟨fb, hfb⟩ : ∃ fb, fb = w3.heap.size := ⟨_, rfl⟩
  rw [← hfb] at HF1 hfb1 ⊢
  generalize w3.alloc (.cells #[.bool true, .bool false, .bool false, .bool true, .bool true] 72) = u1 at *
  have HSZ1 := Lib.hid (show s0.1.size ≤ 140737488351232 by omega)
  clear HX0 HR0 HZ0 HG0 k3 hk3 hn3 hn2 hfb hsz0
  have hpi := pv_lt 4 s0 (by omega)
  obtain ⟨a0, a1, a2, a3, a4, a5⟩ := box6 HX1.out
  obtain ⟨b0, b1, b2, b3, b4⟩ := box5 HF1.out
  go_wp2_with fail
  refine (value4 p s0.1 s0.2 _ HR1.out (by have := HSZ1.out; omega)).mono ?_
  rintro e u2 ⟨rfl, hr, hg⟩
  have HR2 := Lib.hid hr
  have HX2 := Lib.hid (HX1.out.gr hg (by simp; omega))
  have HF2 := Lib.hid (HF1.out.gr hg (by simp; omega))
  have HZ2 := Lib.hid (HZ1.out.gr hg (by simp; omega))
  have HG2 := Lib.hid (gr_trans HG1.out hg)
  clear a0 a1 a2 a3 a4 a5 b0 b1 b2 b3 b4
  clear hr hg HR1 HX1 HF1 HZ1 HG1
  obtain ⟨vi, hvi⟩ : ∃ vi : Nat, vi = pv 4 s0 := ⟨_, rfl⟩
  rw [show (numL (rdT s0.1 4).data.toList) = vi from hvi.symm]
  rw [← hvi] at hpi
  have HVI := Lib.hid hvi
  obtain ⟨s1, hs1⟩ : ∃ s1 : St, s1 = ps 4 s0 := ⟨_, rfl⟩
  have HS1 := Lib.hid hs1
  have HSZ2 := Lib.hid (show s1.1.size ≤ 140737488351232 by have := ps_size 4 s0; rw [← hs1] at this; have := HSZ1.out; omega)
  have HR2 := Lib.hid (sext HR2.out (show (rdS s0.1 4, rdB s0.1 s0.2 4) = (s1.1, s1.2) from hs1.symm))
  clear hvi hs1
  obtain ⟨a0, a1, a2, a3, a4, a5⟩ := box6 HX2.out
  obtain ⟨b0, b1, b2, b3, b4⟩ := box5 HF2.out
  have fz := HX2.out.free 1
  go_upto_region 5 with (fail)
  have hg := gr_set u2 xb 1 (.int .i64 (vi : Int))
  have HX3 := Lib.hid (show BlockAt (u2.setCell ⟨xb, 1, none⟩ (.int .i64 (vi : Int))) xb #[.int .i64 2, .int .i64 (vi : Int), .string ⟨#[]⟩, .string ⟨#[]⟩, .slice none 0 0, .slice none 0 0] 31 from HX2.out.set (.int .i64 (vi : Int)))
  have HR3 := Lib.hid (HR2.out.gr hg (by simp; omega))
  have HF3 := Lib.hid (HF2.out.gr hg (by simp; omega))
  have HZ3 := Lib.hid (HZ2.out.gr hg (by simp; omega))
  have HG3 := Lib.hid (gr_then HG2.out hg (fun g e => by cases e; omega))
  have HSZ3 := Lib.hid HSZ2.out
  clear a0 a1 a2 a3 a4 a5 b0 b1 b2 b3 b4
  clear fz hg HX2 HR2 HF2 HZ2 HG2
  generalize u2.setCell ⟨xb, 1, none⟩ (.int .i64 (vi : Int)) = u3 at *
  have hpl := pv_lt 4 s1 (by omega)
  obtain ⟨a0, a1, a2, a3, a4, a5⟩ := box6 HX3.out
  obtain ⟨b0, b1, b2, b3, b4⟩ := box5 HF3.out
  go_wp2_with fail
  refine (value4 p s1.1 s1.2 _ HR3.out (by have := HSZ3.out; omega)).mono ?_
  rintro e u4 ⟨rfl, hr, hg⟩
  have HR4 := Lib.hid hr
  have HX4 := Lib.hid (HX3.out.gr hg (by simp; omega))
  have HF4 := Lib.hid (HF3.out.gr hg (by simp; omega))
  have HZ4 := Lib.hid (HZ3.out.gr hg (by simp; omega))
  have HG4 := Lib.hid (gr_trans HG3.out hg)
  clear a0 a1 a2 a3 a4 a5 b0 b1 b2 b3 b4
  clear hr hg HR3 HX3 HF3 HZ3 HG3
  obtain ⟨vl, hvl⟩ : ∃ vl : Nat, vl = pv 4 s1 := ⟨_, rfl⟩
  rw [show (numL (rdT s1.1 4).data.toList) = vl from hvl.symm]
  rw [← hvl] at hpl
  have HVL := Lib.hid hvl
  obtain ⟨s5, hs5⟩ : ∃ s5 : St, s5 = ps 4 s1 := ⟨_, rfl⟩
  have HS5 := Lib.hid hs5
  have HSZ4 := Lib.hid (show s5.1.size ≤ 140737488351232 by have := ps_size 4 s1; rw [← hs5] at this; have := HSZ3.out; omega)
  have HR4 := Lib.hid (sext HR4.out (show (rdS s1.1 4, rdB s1.1 s1.2 4) = (s5.1, s5.2) from hs5.symm))
  clear hvl hs5
  obtain ⟨c, hc⟩ : ∃ c : Bool, decide ((2000 : Int) < (vl : Int)) = c := ⟨_, rfl⟩
  have HC := Lib.hid hc
  obtain ⟨ra, rb⟩ := s5
  dsimp only at HR4 HSZ4
  cases rb with
  | true =>
    obtain ⟨a0, a1, a2, a3, a4, a5⟩ := box6 HX4.out
    obtain ⟨b0, b1, b2, b3, b4⟩ := box5 HF4.out
    have r1 : u4.cell? ⟨p, 1, none⟩ = some (.bool true) := HR4.out.cell 1
    have fz := HR4.out.free 1
    go_upto_region 12 with (fail)
    have hg := gr_set u4 p 1 (.bool true)
    have HR5 := Lib.hid (show BlockAt (u4.setCell ⟨p, 1, none⟩ (.bool true)) p #[.string ra, .bool true] 63 from HR4.out.set (.bool true))
    have HX5 := Lib.hid (HX4.out.gr hg (by simp; omega))
    have HF5 := Lib.hid (HF4.out.gr hg (by simp; omega))
    have HZ5 := Lib.hid (HZ4.out.gr hg (by simp; omega))
    have HG5 := Lib.hid (gr_trans HG4.out hg)
    clear a0 a1 a2 a3 a4 a5 b0 b1 b2 b3 b4
    clear r1 fz hg HX4 HR4 HF4 HZ4 HG4
    generalize u4.setCell ⟨p, 1, none⟩ (.bool true) = u5 at *
    have hs5 : ((ra, true) : St) = ((ra, true).1, (ra, true).2 || decide (2000 < vl)) := by
      simp
    have HPS := Lib.hid hs5
    clear hs5 hc
    have hfb5 := HF5.out.lt
    go_loopw [6] (fun n wr => ∃ (j m : Nat) (V : Value) (xs : List Int) (sj : St), Value.int .i64 (j : Int) = n ∧ BlockAt wr xb #[.int .i64 2, .int .i64 (vi : Int), .string ⟨#[]⟩, .string ⟨#[]⟩, V, .slice none 0 0] 31 ∧ wr.ownsRow (fb + 1) 3 1 V m (xs.map (Value.int .i64)) ∧
        BlockAt wr p #[.string sj.1, .bool sj.2] 63 ∧ BlockAt wr fb #[.bool true, .bool false, .bool false, .bool true, .bool true] 72 ∧ BlockAt wr w.heap.size #[.int .i64 0, .int .i64 0, .string ⟨#[]⟩, .string ⟨#[]⟩, .slice none 0 0, .slice none 0 0] 31 ∧ w.grownBy wr (some p) ∧
        LRel xs m j sj (pList vl (ra, true))) (fun n _ => (intOf n).toNat)
    case atStart => exact ⟨vl, 0, _, [], (ra, true), rfl, HX5.out, World.ownsRow_nil _ _ _ _, HR5.out, HF5.out, HZ5.out, HG5.out, LRel.start hpl HSZ4.out⟩
    case round =>
      obtain ⟨j, m, V, xs, sj, rfl, hx, ho, hr, hf, hz0, hgw, hl⟩ := hrel
      have HX := Lib.hid hx
      have HO := Lib.hid ho
      have HR := Lib.hid hr
      have HF := Lib.hid hf
      have HZ := Lib.hid hz0
      have HG := Lib.hid hgw
      have HL := Lib.hid hl
      have hjm := hl.le
      have hsj := hl.size
      obtain ⟨sa, sb⟩ := sj
      dsimp only at HR hsj
      have hfz := HF.out.lt
      clear hx ho hr hf hz0 hgw hl HX5 HR5 HF5 HZ5 HG5
      by_cases hj : 0 < j
      · cases sb with
        | false =>
          have r1 : wr.cell? ⟨p, 1, none⟩ = some (.bool false) := HR.out.cell 1
          obtain ⟨a0, a1, a2, a3, a4, a5⟩ := box6 HX.out
          go_upto_region 14 with (fail)
          go_region_law (first
            | (refine step_append_int (by rfl) _ _ _ (by rfl) 3 i0 Try.underlying24 HI.out.1 HI.out.2.1 HI.out.2.2.1 HI.out.2.2.2 (fb + 1) V m xs (by rfl) (own_kept (own_gr (own_kept HO.out (Kept.refl _).drew) hg (by simp; omega)) ((Kept.refl _).alloc _)) u.heap.size (numL (rdT sa 4).data.toList : Int) (by rfl) (BlockAt.new _ _ _) (by omega) (by simp; omega) ?_; intro v' w' ho' hg'; obtain ⟨aw, cw, rfl⟩ := slice_of_own ho'; have hx4 := ((((HX.out.kept (Kept.refl _).drew).gr hg (by simp; omega)).kept ((Kept.refl u).alloc (.cells #[.int .i64 (numL (rdT sa 4).data.toList : Int)] 3))).gr hg' (own_hi HO.out (by omega))); have c4 := hx4.cell 4; have f4 := hx4.free 4)
            | (go_simp; go_at_call 49; refine (value4 p sa false _ (HR.out.kept (Kept.refl _).drew) (by omega)).mono ?_; rintro e u ⟨rfl, hr, hg⟩; have hus : wr.heap.size ≤ u.heap.size := (by simpa using hg.size); have a4' : u.cell? ⟨xb, 4, none⟩ = some V := ((HX.out.kept (Kept.refl _).drew).gr hg (by simp; omega)).cell 4; have a4'' : ∀ o, (u.alloc o).cell? ⟨xb, 4, none⟩ = some V := fun o => (((HX.out.kept (Kept.refl _).drew).gr hg (by simp; omega)).kept ((Kept.refl u).alloc o)).cell 4))
          all_goals
            have kal := (Kept.refl u).alloc (.cells #[.int .i64 (numL (rdT sa 4).data.toList : Int)] 3)
            have hset := gr_set w' xb 4 (.slice aw (m + 1) cw)
            have HX' := Lib.hid (show BlockAt (w'.setCell ⟨xb, 4, none⟩ (.slice aw (m + 1) cw)) xb #[.int .i64 2, .int .i64 (vi : Int), .string ⟨#[]⟩, .string ⟨#[]⟩, .slice aw (m + 1) cw, .slice none 0 0] 31 from hx4.set (.slice aw (m + 1) cw))
            have HO' := Lib.hid (own_gr ho' hset (by simp; omega))
            have HR' := Lib.hid (((hr.kept kal).gr hg' (own_hi HO.out (by omega))).gr hset (by simp; omega))
            have HF' := Lib.hid (((((HF.out.kept (Kept.refl _).drew).gr hg (by simp; omega)).kept kal).gr hg' (own_hi HO.out (by omega))).gr hset (by simp; omega))
            have HZ' := Lib.hid (((((HZ.out.kept (Kept.refl _).drew).gr hg (by simp; omega)).kept kal).gr hg' (own_hi HO.out (by omega))).gr hset (by simp; omega))
            have HG' := Lib.hid (gr_then (gr_then (gr_trans (gr_trans (gr_trans HG.out (gr_kept (Kept.refl _).drew _)) hg) (gr_kept kal _)) hg' (fun g e => by have := (HO.out.lt g e).1; omega)) hset (fun g e => by cases e; omega))
            clear hr hg hus a0 a1 a2 a3 a4 a5 a4' a4'' hx4 c4 f4 kal hset ho' hg' r1
            generalize w'.setCell ⟨xb, 4, none⟩ (.slice aw (m + 1) cw) = wn at *
            go_wp2
            go_roundw
            case rel => exact ⟨j - 1, m + 1, _, _, ps 4 (sa, false), by congr 1; omega, HX'.out, HO'.out, HR'.out, HF'.out, HZ'.out, HG'.out, by have h9 := HL.out; rw [show j = j - 1 + 1 by omega] at h9; exact h9.step⟩
            case measure => simp [intOf]; omega
        | true =>
          have r1 : wr.cell? ⟨p, 1, none⟩ = some (.bool true) := HR.out.cell 1
          have HGL := Lib.hid HL.out.doneT
          rw [HPS.out] at HGL
          have hps := pv1_lt (sa, true)
          obtain ⟨a0, a1, a2, a3, a4, a5⟩ := box6 HX.out
          obtain ⟨b0, b1, b2, b3, b4⟩ := box5 HF.out
          go_wp2_with fail
          refine (value1 p sa true _ HR.out (by omega)).mono ?_
          rintro e ua ⟨rfl, hr, hg⟩
          have HRa := Lib.hid hr
          have HXa := Lib.hid (HX.out.gr hg (by simp; omega))
          have HFa := Lib.hid (HF.out.gr hg (by simp; omega))
          have HZa := Lib.hid (HZ.out.gr hg (by simp; omega))
          have HGa := Lib.hid (gr_trans HG.out hg)
          have HOa := Lib.hid (own_gr HO.out hg (by simp; omega))
          clear a0 a1 a2 a3 a4 a5 b0 b1 b2 b3 b4 hr hg HR HX HF HZ HG HO
          obtain ⟨vs, hvs⟩ : ∃ vs : Nat, vs = pv 1 (sa, true) := ⟨_, rfl⟩
          rw [show (numL (rdT sa 1).data.toList) = vs from hvs.symm]
          rw [← hvs] at hps
          have HVS := Lib.hid hvs
          obtain ⟨s6, hs6⟩ : ∃ s6 : St, s6 = ps 1 (sa, true) := ⟨_, rfl⟩
          have HS6 := Lib.hid hs6
          have HSZa := Lib.hid (show s6.1.size ≤ 140737488351232 by have := ps_size 1 (sa, true); rw [← hs6] at this; dsimp only at this; omega)
          have HRa := Lib.hid (sext HRa.out (show (rdS sa 1, rdB sa true 1) = (s6.1, s6.2) from hs6.symm))
          clear hvs hs6
          obtain ⟨a0, a1, a2, a3, a4, a5⟩ := box6 HXa.out
          obtain ⟨b0, b1, b2, b3, b4⟩ := box5 HFa.out
          go_upto_region 17 with (fail)
          clear a0 a1 a2 a3 a4 a5 b0 b1 b2 b3 b4
          have hfba := HFa.out.lt
          go_loopw [7] (fun n wr => ∃ (j2 m2 : Nat) (V2 : Value) (ys : List (Int × Int)) (sj : St), Value.int .i64 (j2 : Int) = n ∧ BlockAt wr xb #[.int .i64 2, .int .i64 (vi : Int), .string ⟨#[]⟩, .string ⟨#[]⟩, V, V2] 31 ∧ wr.ownsRow (fb + 1) 57 2 V2 m2 (sv ys) ∧ wr.ownsRow (fb + 1) 3 1 V m (xs.map (Value.int .i64)) ∧
              BlockAt wr p #[.string sj.1, .bool sj.2] 63 ∧ BlockAt wr fb #[.bool true, .bool false, .bool false, .bool true, .bool true] 72 ∧ BlockAt wr w.heap.size #[.int .i64 0, .int .i64 0, .string ⟨#[]⟩, .string ⟨#[]⟩, .slice none 0 0, .slice none 0 0] 31 ∧ w.grownBy wr (some p) ∧
              SRel ys m2 j2 sj (pSlots vs s6)) (fun n _ => (intOf n).toNat)
          case atStart => exact ⟨vs, 0, _, [], s6, rfl, HXa.out, World.ownsRow_nil _ _ _ _, HOa.out, HRa.out, HFa.out, HZa.out, HGa.out, SRel.start hps HSZa.out⟩
          case round =>
            obtain ⟨j2, m2, V2, ys, sj, rfl, hx, ho, hol, hr, hf, hz0, hgw, hl⟩ := hrel
            have HX := Lib.hid hx
            have HO2 := Lib.hid ho
            have HO := Lib.hid hol
            have HR := Lib.hid hr
            have HF := Lib.hid hf
            have HZ := Lib.hid hz0
            have HG := Lib.hid hgw
            have HL2 := Lib.hid hl
            have hjm2 := hl.le
            have hsj2 := hl.size
            obtain ⟨ta, tb⟩ := sj
            dsimp only at HR hsj2
            have hfz2 := HF.out.lt
            clear hx ho hr hf hz0 hgw hl HXa HRa HFa HZa HGa hol HOa
            by_cases hj : 0 < j2
            · cases tb with
              | false =>
                have hb0 := HR.out.cell 1
                have r1 : wr.cell? ⟨p, 1, none⟩ = some (.bool false) := hb0
                clear hb0
                obtain ⟨a0, a1, a2, a3, a4, a5⟩ := box6 HX.out
                go_wp2_with fail
                refine (signed_any p ta false _ HR.out (by omega)).mono ?_
                rintro e wq ⟨rfl, hr, hg⟩
                have hsd : (rdS ta 4).size ≤ 140737488351232 := by have := rdS_size ta 4; omega
                obtain ⟨s8, hs8⟩ : ∃ s8 : St, s8 = ps 4 (ta, false) := ⟨_, rfl⟩
                have HRq := Lib.hid (sext hr (show (rdS ta 4, rdB ta false 4) = (s8.1, s8.2) from hs8.symm))
                have HXq := Lib.hid (HX.out.gr hg (by simp; omega))
                have HFq := Lib.hid (HF.out.gr hg (by simp; omega))
                have HZq := Lib.hid (HZ.out.gr hg (by simp; omega))
                have HGq := Lib.hid (gr_trans HG.out hg)
                have HO2q := Lib.hid (own_gr HO2.out hg (by simp; omega))
                have HOq := Lib.hid (own_gr HO.out hg (by simp; omega))
                have hs8z : s8.1.size ≤ 140737488351232 := by rw [hs8]; exact hsd
                have HS8 := Lib.hid hs8
                clear hr hg r1 a0 a1 a2 a3 a4 a5 HR HX HF HZ HG HO2 hs8 HO
                obtain ⟨HR, HX⟩ := And.intro HRq HXq
                obtain ⟨HF, HZ⟩ := And.intro HFq HZq
                obtain ⟨HG, HO2⟩ := And.intro HGq HO2q
                have HO := HOq
                have hfz3 := HF.out.lt
                obtain ⟨a0, a1, a2, a3, a4, a5⟩ := box6 HX.out
                obtain ⟨d, hd⟩ : ∃ d : Int, d = sgn (pv 4 (ta, false)) := ⟨_, rfl⟩
                rw [show sgn (numL (rdT ta 4).data.toList) = d from hd.symm]
                have HD := Lib.hid hd
                clear hd
                go_upto_region 20 with (fail)
                obtain ⟨q, hq⟩ : ∃ q : Int, q = sgn (pv 4 s8) := ⟨_, rfl⟩
                have HSG := Lib.hid (fun w1 h => signed_any p s8.1 s8.2 w1 h (by omega))
                rw [show sgn (numL (rdT s8.1 4).data.toList) = q from hq.symm] at HSG
                have HQ := Lib.hid hq
                clear hq
                go_region_law (first
                  | (refine step_append_slot (by rfl) _ _ _ (by rfl) 57 i2 Try.underlying29 HI2.out.1 HI2.out.2.1 HI2.out.2.2.1 HI2.out.2.2.2 (fb + 1) V2 m2 ys (by rfl) (own_kept (own_gr (own_kept HO2.out (Kept.refl _).drew) hg (by simp; omega)) ((Kept.refl _).alloc _)) u.heap.size d q (by rfl) (BlockAt.new _ _ _) (by omega) (by simp; omega) ?_; intro v' w' ho' hg'; obtain ⟨aw, cw, rfl⟩ := slice_of_own ho'; have hx4 := ((((HX.out.kept (Kept.refl _).drew).gr hg (by simp; omega)).kept ((Kept.refl u).alloc (.cells #[.int .i64 d, .int .i64 q] 57))).gr hg' (own_hi HO2.out (by omega))); have c4 := hx4.cell 5; have f4 := hx4.free 5)
                  | (go_simp; go_at_call 52; refine (HSG.out _ (HR.out.kept (Kept.refl _).drew)).mono ?_; rintro e u ⟨rfl, hr, hg⟩; have hus : wq.heap.size ≤ u.heap.size := (by simpa using hg.size); have a4' : u.cell? ⟨xb, 5, none⟩ = some V2 := ((HX.out.kept (Kept.refl _).drew).gr hg (by simp; omega)).cell 5; have a4'' : ∀ o, (u.alloc o).cell? ⟨xb, 5, none⟩ = some V2 := fun o => (((HX.out.kept (Kept.refl _).drew).gr hg (by simp; omega)).kept ((Kept.refl u).alloc o)).cell 5))
                all_goals
                  have kal := (Kept.refl u).alloc (.cells #[.int .i64 d, .int .i64 q] 57)
                  have hset := gr_set w' xb 5 (.slice aw (m2 + 1) cw)
                  have HX' := Lib.hid (show BlockAt (w'.setCell ⟨xb, 5, none⟩ (.slice aw (m2 + 1) cw)) xb #[.int .i64 2, .int .i64 (vi : Int), .string ⟨#[]⟩, .string ⟨#[]⟩, V, .slice aw (m2 + 1) cw] 31 from hx4.set (.slice aw (m2 + 1) cw))
                  have HO' := Lib.hid (own_gr ho' hset (by simp; omega))
                  have HR' := Lib.hid (((hr.kept kal).gr hg' (own_hi HO2.out (by omega))).gr hset (by simp; omega))
                  have HF' := Lib.hid (((((HF.out.kept (Kept.refl _).drew).gr hg (by simp; omega)).kept kal).gr hg' (own_hi HO2.out (by omega))).gr hset (by simp; omega))
                  have HZ' := Lib.hid (((((HZ.out.kept (Kept.refl _).drew).gr hg (by simp; omega)).kept kal).gr hg' (own_hi HO2.out (by omega))).gr hset (by simp; omega))
                  have HG' := Lib.hid (gr_then (gr_then (gr_trans (gr_trans (gr_trans HG.out (gr_kept (Kept.refl _).drew _)) hg) (gr_kept kal _)) hg' (fun g e => by have := (HO2.out.lt g e).1; omega)) hset (fun g e => by cases e; omega))
                  have HOl' := Lib.hid (own_gr (own_gr2 (own_kept (own_gr (own_kept HO.out (Kept.refl _).drew) hg (by simp; omega)) kal) hg' (ne_types (own_kept (own_gr (own_kept HO.out (Kept.refl _).drew) hg (by simp; omega)) kal) (own_kept (own_gr (own_kept HO2.out (Kept.refl _).drew) hg (by simp; omega)) kal) (by decide))) hset (by simp; omega))
                  clear hr hg hus a0 a1 a2 a3 a4 a5 a4' a4'' hx4 c4 f4 kal hset ho' hg'
                  generalize w'.setCell ⟨xb, 5, none⟩ (.slice aw (m2 + 1) cw) = wn at *
                  go_wp2
                  go_roundw
                  case rel => exact ⟨j2 - 1, m2 + 1, _, _, ps 4 s8, by congr 1; omega, HX'.out, HO'.out, HOl'.out, HR'.out, HF'.out, HZ'.out, HG'.out, by have h9 := HL2.out; rw [show j2 = j2 - 1 + 1 by omega] at h9; have h8 := h9.step; rw [← HS8.out, ← HD.out, ← HQ.out] at h8; exact h8⟩
                  case measure => simp [intOf]; omega
              | true =>
                have r1 : wr.cell? ⟨p, 1, none⟩ = some (.bool true) := HR.out.cell 1
                have HGS := Lib.hid HL2.out.doneT
                have hlen := HL.out.len
                subst hlen
                obtain ⟨al, cl, rfl⟩ := slice_of_own HO.out
                have hlen2 := HL2.out.len
                subst hlen2
                obtain ⟨az, cz, rfl⟩ := slice_of_own HO2.out
                obtain ⟨a0, a1, a2, a3, a4, a5⟩ := box6 HX.out
                obtain ⟨b0, b1, b2, b3, b4⟩ := box5 HF.out
                have HIL := Lib.hid (fun (W : World) (row : Option Nat) (hr : ∀ g, row = some g → g < w.heap.size) (hW : (wr.setRow w.heap.size #[.int .i64 2, .int .i64 (vi : Int), .string ⟨#[]⟩, .string ⟨#[]⟩, .slice al xs.length cl, .slice az ys.length cz]).grownBy W row) => ints_at2 (own_gr (own_gr HO.out (grown_row wr w.heap.size #[.int .i64 2, .int .i64 (vi : Int), .string ⟨#[]⟩, .string ⟨#[]⟩, .slice al xs.length cl, .slice az ys.length cz]) (by simp; omega)) hW (fun g e => by have := hr g e; omega)) rfl HL.out.wf)
                have HSL := Lib.hid (fun (W : World) (row : Option Nat) (hr : ∀ g, row = some g → g < w.heap.size) (hW : (wr.setRow w.heap.size #[.int .i64 2, .int .i64 (vi : Int), .string ⟨#[]⟩, .string ⟨#[]⟩, .slice al xs.length cl, .slice az ys.length cz]).grownBy W row) => slots_at1 (own_gr (own_gr HO2.out (grown_row wr w.heap.size #[.int .i64 2, .int .i64 (vi : Int), .string ⟨#[]⟩, .string ⟨#[]⟩, .slice al xs.length cl, .slice az ys.length cz]) (by simp; omega)) hW (fun g e => by have := hr g e; omega)) rfl HL2.out.wf)
                have hfin : parseK 2 s0 = (⟨2, (vi : Int), ByteArray.empty, ByteArray.empty, xs, ys⟩, (ta, true)) := by
                  unfold parseK pI pN pD pL pS
                  simp only [show Rc.fI 2 = true from rfl, show Rc.fN 2 = false from rfl, show Rc.fD 2 = false from rfl, show Rc.fL 2 = true from rfl, show Rc.fS 2 = true from rfl, Bool.false_eq_true, if_false, if_true]
                  rw [← HVI.out, ← HS1.out, ← HVL.out, ← HS5.out, HGL.out, ← HVS.out, ← HS6.out, HGS.out]

                have HFIN := Lib.hid hfin
                clear hfin
                go_wp2_with (refine wpList_store_block rfl 31 (.tmp 2) (.tmp 96) rfl _ #[.int .i64 2, .int .i64 (vi : Int), .string ⟨#[]⟩, .string ⟨#[]⟩, .slice al xs.length cl, .slice az ys.length cz] #[.int .i64 0, .int .i64 0, .string ⟨#[]⟩, .string ⟨#[]⟩, .slice none 0 0, .slice none 0 0] 31 rfl rfl HZ.out Try.infoRec rfl (one6 _ _ _ _ _ _ _ _ _ _) ?_)
                refine bodyPost_ret (v := .agg #[.int .i64 2, .int .i64 (vi : Int), .string ⟨#[]⟩, .string ⟨#[]⟩, .slice al xs.length cl, .slice az ys.length cz]) ?_ rfl ?_
                · exact results_cell_row rfl _ _ w.heap.size 31 #[.int .i64 2, .int .i64 (vi : Int), .string ⟨#[]⟩, .string ⟨#[]⟩, .slice al xs.length cl, .slice az ys.length cz] (0, 0) _ rfl (HZ.out.setRow _) Try.underlying31 rfl Try.infoRec
                · unfold ParseP
                  rw [HFIN.out]
                  exact ⟨al, cl, az, cz, rfl, fun W row hr hW => ⟨HIL.out W row hr hW, HSL.out W row hr hW, by dsimp only; omega, by dsimp only; omega, by dsimp only; exact Nat.zero_le _, by dsimp only; exact Nat.zero_le _⟩, HR.out.gr (grown_row _ _ _) (by simp; omega), gr_then HG.out (grown_row _ _ _) (fun g e => by cases e; omega)⟩
            · obtain rfl : j2 = 0 := by omega
              have HGS := Lib.hid HL2.out.done0
              have hlen := HL.out.len
              subst hlen
              obtain ⟨al, cl, rfl⟩ := slice_of_own HO.out
              have hlen2 := HL2.out.len
              subst hlen2
              obtain ⟨az, cz, rfl⟩ := slice_of_own HO2.out
              obtain ⟨a0, a1, a2, a3, a4, a5⟩ := box6 HX.out
              obtain ⟨b0, b1, b2, b3, b4⟩ := box5 HF.out
              have HIL := Lib.hid (fun (W : World) (row : Option Nat) (hr : ∀ g, row = some g → g < w.heap.size) (hW : (wr.setRow w.heap.size #[.int .i64 2, .int .i64 (vi : Int), .string ⟨#[]⟩, .string ⟨#[]⟩, .slice al xs.length cl, .slice az ys.length cz]).grownBy W row) => ints_at2 (own_gr (own_gr HO.out (grown_row wr w.heap.size #[.int .i64 2, .int .i64 (vi : Int), .string ⟨#[]⟩, .string ⟨#[]⟩, .slice al xs.length cl, .slice az ys.length cz]) (by simp; omega)) hW (fun g e => by have := hr g e; omega)) rfl HL.out.wf)
              have HSL := Lib.hid (fun (W : World) (row : Option Nat) (hr : ∀ g, row = some g → g < w.heap.size) (hW : (wr.setRow w.heap.size #[.int .i64 2, .int .i64 (vi : Int), .string ⟨#[]⟩, .string ⟨#[]⟩, .slice al xs.length cl, .slice az ys.length cz]).grownBy W row) => slots_at1 (own_gr (own_gr HO2.out (grown_row wr w.heap.size #[.int .i64 2, .int .i64 (vi : Int), .string ⟨#[]⟩, .string ⟨#[]⟩, .slice al xs.length cl, .slice az ys.length cz]) (by simp; omega)) hW (fun g e => by have := hr g e; omega)) rfl HL2.out.wf)
              have hfin : parseK 2 s0 = (⟨2, (vi : Int), ByteArray.empty, ByteArray.empty, xs, ys⟩, (ta, tb)) := by
                unfold parseK pI pN pD pL pS
                simp only [show Rc.fI 2 = true from rfl, show Rc.fN 2 = false from rfl, show Rc.fD 2 = false from rfl, show Rc.fL 2 = true from rfl, show Rc.fS 2 = true from rfl, Bool.false_eq_true, if_false, if_true]
                rw [← HVI.out, ← HS1.out, ← HVL.out, ← HS5.out, HGL.out, ← HVS.out, ← HS6.out, HGS.out]

              have HFIN := Lib.hid hfin
              clear hfin
              go_wp2_with (refine wpList_store_block rfl 31 (.tmp 2) (.tmp 96) rfl _ #[.int .i64 2, .int .i64 (vi : Int), .string ⟨#[]⟩, .string ⟨#[]⟩, .slice al xs.length cl, .slice az ys.length cz] #[.int .i64 0, .int .i64 0, .string ⟨#[]⟩, .string ⟨#[]⟩, .slice none 0 0, .slice none 0 0] 31 rfl rfl HZ.out Try.infoRec rfl (one6 _ _ _ _ _ _ _ _ _ _) ?_)
              refine bodyPost_ret (v := .agg #[.int .i64 2, .int .i64 (vi : Int), .string ⟨#[]⟩, .string ⟨#[]⟩, .slice al xs.length cl, .slice az ys.length cz]) ?_ rfl ?_
              · exact results_cell_row rfl _ _ w.heap.size 31 #[.int .i64 2, .int .i64 (vi : Int), .string ⟨#[]⟩, .string ⟨#[]⟩, .slice al xs.length cl, .slice az ys.length cz] (0, 0) _ rfl (HZ.out.setRow _) Try.underlying31 rfl Try.infoRec
              · unfold ParseP
                rw [HFIN.out]
                exact ⟨al, cl, az, cz, rfl, fun W row hr hW => ⟨HIL.out W row hr hW, HSL.out W row hr hW, by dsimp only; omega, by dsimp only; omega, by dsimp only; exact Nat.zero_le _, by dsimp only; exact Nat.zero_le _⟩, HR.out.gr (grown_row _ _ _) (by simp; omega), gr_then HG.out (grown_row _ _ _) (fun g e => by cases e; omega)⟩
      · obtain rfl : j = 0 := by omega
        have HGL := Lib.hid HL.out.done0
        rw [HPS.out] at HGL
        have hps := pv1_lt (sa, sb)
        obtain ⟨a0, a1, a2, a3, a4, a5⟩ := box6 HX.out
        obtain ⟨b0, b1, b2, b3, b4⟩ := box5 HF.out
        go_wp2_with fail
        refine (value1 p sa sb _ HR.out (by omega)).mono ?_
        rintro e ua ⟨rfl, hr, hg⟩
        have HRa := Lib.hid hr
        have HXa := Lib.hid (HX.out.gr hg (by simp; omega))
        have HFa := Lib.hid (HF.out.gr hg (by simp; omega))
        have HZa := Lib.hid (HZ.out.gr hg (by simp; omega))
        have HGa := Lib.hid (gr_trans HG.out hg)
        have HOa := Lib.hid (own_gr HO.out hg (by simp; omega))
        clear a0 a1 a2 a3 a4 a5 b0 b1 b2 b3 b4 hr hg HR HX HF HZ HG HO
        obtain ⟨vs, hvs⟩ : ∃ vs : Nat, vs = pv 1 (sa, sb) := ⟨_, rfl⟩
        rw [show (numL (rdT sa 1).data.toList) = vs from hvs.symm]
        rw [← hvs] at hps
        have HVS := Lib.hid hvs
        obtain ⟨s6, hs6⟩ : ∃ s6 : St, s6 = ps 1 (sa, sb) := ⟨_, rfl⟩
        have HS6 := Lib.hid hs6
        have HSZa := Lib.hid (show s6.1.size ≤ 140737488351232 by have := ps_size 1 (sa, sb); rw [← hs6] at this; dsimp only at this; omega)
        have HRa := Lib.hid (sext HRa.out (show (rdS sa 1, rdB sa sb 1) = (s6.1, s6.2) from hs6.symm))
        clear hvs hs6
        obtain ⟨a0, a1, a2, a3, a4, a5⟩ := box6 HXa.out
        obtain ⟨b0, b1, b2, b3, b4⟩ := box5 HFa.out
        go_upto_region 17 with (fail)
        clear a0 a1 a2 a3 a4 a5 b0 b1 b2 b3 b4
        have hfba := HFa.out.lt
        go_loopw [7] (fun n wr => ∃ (j2 m2 : Nat) (V2 : Value) (ys : List (Int × Int)) (sj : St), Value.int .i64 (j2 : Int) = n ∧ BlockAt wr xb #[.int .i64 2, .int .i64 (vi : Int), .string ⟨#[]⟩, .string ⟨#[]⟩, V, V2] 31 ∧ wr.ownsRow (fb + 1) 57 2 V2 m2 (sv ys) ∧ wr.ownsRow (fb + 1) 3 1 V m (xs.map (Value.int .i64)) ∧
            BlockAt wr p #[.string sj.1, .bool sj.2] 63 ∧ BlockAt wr fb #[.bool true, .bool false, .bool false, .bool true, .bool true] 72 ∧ BlockAt wr w.heap.size #[.int .i64 0, .int .i64 0, .string ⟨#[]⟩, .string ⟨#[]⟩, .slice none 0 0, .slice none 0 0] 31 ∧ w.grownBy wr (some p) ∧
            SRel ys m2 j2 sj (pSlots vs s6)) (fun n _ => (intOf n).toNat)
        case atStart => exact ⟨vs, 0, _, [], s6, rfl, HXa.out, World.ownsRow_nil _ _ _ _, HOa.out, HRa.out, HFa.out, HZa.out, HGa.out, SRel.start hps HSZa.out⟩
        case round =>
          obtain ⟨j2, m2, V2, ys, sj, rfl, hx, ho, hol, hr, hf, hz0, hgw, hl⟩ := hrel
          have HX := Lib.hid hx
          have HO2 := Lib.hid ho
          have HO := Lib.hid hol
          have HR := Lib.hid hr
          have HF := Lib.hid hf
          have HZ := Lib.hid hz0
          have HG := Lib.hid hgw
          have HL2 := Lib.hid hl
          have hjm2 := hl.le
          have hsj2 := hl.size
          obtain ⟨ta, tb⟩ := sj
          dsimp only at HR hsj2
          have hfz2 := HF.out.lt
          clear hx ho hr hf hz0 hgw hl HXa HRa HFa HZa HGa hol HOa
          by_cases hj : 0 < j2
          · cases tb with
            | false =>
              have hb0 := HR.out.cell 1
              have r1 : wr.cell? ⟨p, 1, none⟩ = some (.bool false) := hb0
              clear hb0
              obtain ⟨a0, a1, a2, a3, a4, a5⟩ := box6 HX.out
              go_wp2_with fail
              refine (signed_any p ta false _ HR.out (by omega)).mono ?_
              rintro e wq ⟨rfl, hr, hg⟩
              have hsd : (rdS ta 4).size ≤ 140737488351232 := by have := rdS_size ta 4; omega
              obtain ⟨s8, hs8⟩ : ∃ s8 : St, s8 = ps 4 (ta, false) := ⟨_, rfl⟩
              have HRq := Lib.hid (sext hr (show (rdS ta 4, rdB ta false 4) = (s8.1, s8.2) from hs8.symm))
              have HXq := Lib.hid (HX.out.gr hg (by simp; omega))
              have HFq := Lib.hid (HF.out.gr hg (by simp; omega))
              have HZq := Lib.hid (HZ.out.gr hg (by simp; omega))
              have HGq := Lib.hid (gr_trans HG.out hg)
              have HO2q := Lib.hid (own_gr HO2.out hg (by simp; omega))
              have HOq := Lib.hid (own_gr HO.out hg (by simp; omega))
              have hs8z : s8.1.size ≤ 140737488351232 := by rw [hs8]; exact hsd
              have HS8 := Lib.hid hs8
              clear hr hg r1 a0 a1 a2 a3 a4 a5 HR HX HF HZ HG HO2 hs8 HO
              obtain ⟨HR, HX⟩ := And.intro HRq HXq
              obtain ⟨HF, HZ⟩ := And.intro HFq HZq
              obtain ⟨HG, HO2⟩ := And.intro HGq HO2q
              have HO := HOq
              have hfz3 := HF.out.lt
              obtain ⟨a0, a1, a2, a3, a4, a5⟩ := box6 HX.out
              obtain ⟨d, hd⟩ : ∃ d : Int, d = sgn (pv 4 (ta, false)) := ⟨_, rfl⟩
              rw [show sgn (numL (rdT ta 4).data.toList) = d from hd.symm]
              have HD := Lib.hid hd
              clear hd
              go_upto_region 20 with (fail)
              obtain ⟨q, hq⟩ : ∃ q : Int, q = sgn (pv 4 s8) := ⟨_, rfl⟩
              have HSG := Lib.hid (fun w1 h => signed_any p s8.1 s8.2 w1 h (by omega))
              rw [show sgn (numL (rdT s8.1 4).data.toList) = q from hq.symm] at HSG
              have HQ := Lib.hid hq
              clear hq
              go_region_law (first
                | (refine step_append_slot (by rfl) _ _ _ (by rfl) 57 i2 Try.underlying29 HI2.out.1 HI2.out.2.1 HI2.out.2.2.1 HI2.out.2.2.2 (fb + 1) V2 m2 ys (by rfl) (own_kept (own_gr (own_kept HO2.out (Kept.refl _).drew) hg (by simp; omega)) ((Kept.refl _).alloc _)) u.heap.size d q (by rfl) (BlockAt.new _ _ _) (by omega) (by simp; omega) ?_; intro v' w' ho' hg'; obtain ⟨aw, cw, rfl⟩ := slice_of_own ho'; have hx4 := ((((HX.out.kept (Kept.refl _).drew).gr hg (by simp; omega)).kept ((Kept.refl u).alloc (.cells #[.int .i64 d, .int .i64 q] 57))).gr hg' (own_hi HO2.out (by omega))); have c4 := hx4.cell 5; have f4 := hx4.free 5)
                | (go_simp; go_at_call 52; refine (HSG.out _ (HR.out.kept (Kept.refl _).drew)).mono ?_; rintro e u ⟨rfl, hr, hg⟩; have hus : wq.heap.size ≤ u.heap.size := (by simpa using hg.size); have a4' : u.cell? ⟨xb, 5, none⟩ = some V2 := ((HX.out.kept (Kept.refl _).drew).gr hg (by simp; omega)).cell 5; have a4'' : ∀ o, (u.alloc o).cell? ⟨xb, 5, none⟩ = some V2 := fun o => (((HX.out.kept (Kept.refl _).drew).gr hg (by simp; omega)).kept ((Kept.refl u).alloc o)).cell 5))
              all_goals
                have kal := (Kept.refl u).alloc (.cells #[.int .i64 d, .int .i64 q] 57)
                have hset := gr_set w' xb 5 (.slice aw (m2 + 1) cw)
                have HX' := Lib.hid (show BlockAt (w'.setCell ⟨xb, 5, none⟩ (.slice aw (m2 + 1) cw)) xb #[.int .i64 2, .int .i64 (vi : Int), .string ⟨#[]⟩, .string ⟨#[]⟩, V, .slice aw (m2 + 1) cw] 31 from hx4.set (.slice aw (m2 + 1) cw))
                have HO' := Lib.hid (own_gr ho' hset (by simp; omega))
                have HR' := Lib.hid (((hr.kept kal).gr hg' (own_hi HO2.out (by omega))).gr hset (by simp; omega))
                have HF' := Lib.hid (((((HF.out.kept (Kept.refl _).drew).gr hg (by simp; omega)).kept kal).gr hg' (own_hi HO2.out (by omega))).gr hset (by simp; omega))
                have HZ' := Lib.hid (((((HZ.out.kept (Kept.refl _).drew).gr hg (by simp; omega)).kept kal).gr hg' (own_hi HO2.out (by omega))).gr hset (by simp; omega))
                have HG' := Lib.hid (gr_then (gr_then (gr_trans (gr_trans (gr_trans HG.out (gr_kept (Kept.refl _).drew _)) hg) (gr_kept kal _)) hg' (fun g e => by have := (HO2.out.lt g e).1; omega)) hset (fun g e => by cases e; omega))
                have HOl' := Lib.hid (own_gr (own_gr2 (own_kept (own_gr (own_kept HO.out (Kept.refl _).drew) hg (by simp; omega)) kal) hg' (ne_types (own_kept (own_gr (own_kept HO.out (Kept.refl _).drew) hg (by simp; omega)) kal) (own_kept (own_gr (own_kept HO2.out (Kept.refl _).drew) hg (by simp; omega)) kal) (by decide))) hset (by simp; omega))
                clear hr hg hus a0 a1 a2 a3 a4 a5 a4' a4'' hx4 c4 f4 kal hset ho' hg'
                generalize w'.setCell ⟨xb, 5, none⟩ (.slice aw (m2 + 1) cw) = wn at *
                go_wp2
                go_roundw
                case rel => exact ⟨j2 - 1, m2 + 1, _, _, ps 4 s8, by congr 1; omega, HX'.out, HO'.out, HOl'.out, HR'.out, HF'.out, HZ'.out, HG'.out, by have h9 := HL2.out; rw [show j2 = j2 - 1 + 1 by omega] at h9; have h8 := h9.step; rw [← HS8.out, ← HD.out, ← HQ.out] at h8; exact h8⟩
                case measure => simp [intOf]; omega
            | true =>
              have r1 : wr.cell? ⟨p, 1, none⟩ = some (.bool true) := HR.out.cell 1
              have HGS := Lib.hid HL2.out.doneT
              have hlen := HL.out.len
              subst hlen
              obtain ⟨al, cl, rfl⟩ := slice_of_own HO.out
              have hlen2 := HL2.out.len
              subst hlen2
              obtain ⟨az, cz, rfl⟩ := slice_of_own HO2.out
              obtain ⟨a0, a1, a2, a3, a4, a5⟩ := box6 HX.out
              obtain ⟨b0, b1, b2, b3, b4⟩ := box5 HF.out
              have HIL := Lib.hid (fun (W : World) (row : Option Nat) (hr : ∀ g, row = some g → g < w.heap.size) (hW : (wr.setRow w.heap.size #[.int .i64 2, .int .i64 (vi : Int), .string ⟨#[]⟩, .string ⟨#[]⟩, .slice al xs.length cl, .slice az ys.length cz]).grownBy W row) => ints_at2 (own_gr (own_gr HO.out (grown_row wr w.heap.size #[.int .i64 2, .int .i64 (vi : Int), .string ⟨#[]⟩, .string ⟨#[]⟩, .slice al xs.length cl, .slice az ys.length cz]) (by simp; omega)) hW (fun g e => by have := hr g e; omega)) rfl HL.out.wf)
              have HSL := Lib.hid (fun (W : World) (row : Option Nat) (hr : ∀ g, row = some g → g < w.heap.size) (hW : (wr.setRow w.heap.size #[.int .i64 2, .int .i64 (vi : Int), .string ⟨#[]⟩, .string ⟨#[]⟩, .slice al xs.length cl, .slice az ys.length cz]).grownBy W row) => slots_at1 (own_gr (own_gr HO2.out (grown_row wr w.heap.size #[.int .i64 2, .int .i64 (vi : Int), .string ⟨#[]⟩, .string ⟨#[]⟩, .slice al xs.length cl, .slice az ys.length cz]) (by simp; omega)) hW (fun g e => by have := hr g e; omega)) rfl HL2.out.wf)
              have hfin : parseK 2 s0 = (⟨2, (vi : Int), ByteArray.empty, ByteArray.empty, xs, ys⟩, (ta, true)) := by
                unfold parseK pI pN pD pL pS
                simp only [show Rc.fI 2 = true from rfl, show Rc.fN 2 = false from rfl, show Rc.fD 2 = false from rfl, show Rc.fL 2 = true from rfl, show Rc.fS 2 = true from rfl, Bool.false_eq_true, if_false, if_true]
                rw [← HVI.out, ← HS1.out, ← HVL.out, ← HS5.out, HGL.out, ← HVS.out, ← HS6.out, HGS.out]

              have HFIN := Lib.hid hfin
              clear hfin
              go_wp2_with (refine wpList_store_block rfl 31 (.tmp 2) (.tmp 96) rfl _ #[.int .i64 2, .int .i64 (vi : Int), .string ⟨#[]⟩, .string ⟨#[]⟩, .slice al xs.length cl, .slice az ys.length cz] #[.int .i64 0, .int .i64 0, .string ⟨#[]⟩, .string ⟨#[]⟩, .slice none 0 0, .slice none 0 0] 31 rfl rfl HZ.out Try.infoRec rfl (one6 _ _ _ _ _ _ _ _ _ _) ?_)
              refine bodyPost_ret (v := .agg #[.int .i64 2, .int .i64 (vi : Int), .string ⟨#[]⟩, .string ⟨#[]⟩, .slice al xs.length cl, .slice az ys.length cz]) ?_ rfl ?_
              · exact results_cell_row rfl _ _ w.heap.size 31 #[.int .i64 2, .int .i64 (vi : Int), .string ⟨#[]⟩, .string ⟨#[]⟩, .slice al xs.length cl, .slice az ys.length cz] (0, 0) _ rfl (HZ.out.setRow _) Try.underlying31 rfl Try.infoRec
              · unfold ParseP
                rw [HFIN.out]
                exact ⟨al, cl, az, cz, rfl, fun W row hr hW => ⟨HIL.out W row hr hW, HSL.out W row hr hW, by dsimp only; omega, by dsimp only; omega, by dsimp only; exact Nat.zero_le _, by dsimp only; exact Nat.zero_le _⟩, HR.out.gr (grown_row _ _ _) (by simp; omega), gr_then HG.out (grown_row _ _ _) (fun g e => by cases e; omega)⟩
          · obtain rfl : j2 = 0 := by omega
            have HGS := Lib.hid HL2.out.done0
            have hlen := HL.out.len
            subst hlen
            obtain ⟨al, cl, rfl⟩ := slice_of_own HO.out
            have hlen2 := HL2.out.len
            subst hlen2
            obtain ⟨az, cz, rfl⟩ := slice_of_own HO2.out
            obtain ⟨a0, a1, a2, a3, a4, a5⟩ := box6 HX.out
            obtain ⟨b0, b1, b2, b3, b4⟩ := box5 HF.out
            have HIL := Lib.hid (fun (W : World) (row : Option Nat) (hr : ∀ g, row = some g → g < w.heap.size) (hW : (wr.setRow w.heap.size #[.int .i64 2, .int .i64 (vi : Int), .string ⟨#[]⟩, .string ⟨#[]⟩, .slice al xs.length cl, .slice az ys.length cz]).grownBy W row) => ints_at2 (own_gr (own_gr HO.out (grown_row wr w.heap.size #[.int .i64 2, .int .i64 (vi : Int), .string ⟨#[]⟩, .string ⟨#[]⟩, .slice al xs.length cl, .slice az ys.length cz]) (by simp; omega)) hW (fun g e => by have := hr g e; omega)) rfl HL.out.wf)
            have HSL := Lib.hid (fun (W : World) (row : Option Nat) (hr : ∀ g, row = some g → g < w.heap.size) (hW : (wr.setRow w.heap.size #[.int .i64 2, .int .i64 (vi : Int), .string ⟨#[]⟩, .string ⟨#[]⟩, .slice al xs.length cl, .slice az ys.length cz]).grownBy W row) => slots_at1 (own_gr (own_gr HO2.out (grown_row wr w.heap.size #[.int .i64 2, .int .i64 (vi : Int), .string ⟨#[]⟩, .string ⟨#[]⟩, .slice al xs.length cl, .slice az ys.length cz]) (by simp; omega)) hW (fun g e => by have := hr g e; omega)) rfl HL2.out.wf)
            have hfin : parseK 2 s0 = (⟨2, (vi : Int), ByteArray.empty, ByteArray.empty, xs, ys⟩, (ta, tb)) := by
              unfold parseK pI pN pD pL pS
              simp only [show Rc.fI 2 = true from rfl, show Rc.fN 2 = false from rfl, show Rc.fD 2 = false from rfl, show Rc.fL 2 = true from rfl, show Rc.fS 2 = true from rfl, Bool.false_eq_true, if_false, if_true]
              rw [← HVI.out, ← HS1.out, ← HVL.out, ← HS5.out, HGL.out, ← HVS.out, ← HS6.out, HGS.out]

            have HFIN := Lib.hid hfin
            clear hfin
            go_wp2_with (refine wpList_store_block rfl 31 (.tmp 2) (.tmp 96) rfl _ #[.int .i64 2, .int .i64 (vi : Int), .string ⟨#[]⟩, .string ⟨#[]⟩, .slice al xs.length cl, .slice az ys.length cz] #[.int .i64 0, .int .i64 0, .string ⟨#[]⟩, .string ⟨#[]⟩, .slice none 0 0, .slice none 0 0] 31 rfl rfl HZ.out Try.infoRec rfl (one6 _ _ _ _ _ _ _ _ _ _) ?_)
            refine bodyPost_ret (v := .agg #[.int .i64 2, .int .i64 (vi : Int), .string ⟨#[]⟩, .string ⟨#[]⟩, .slice al xs.length cl, .slice az ys.length cz]) ?_ rfl ?_
            · exact results_cell_row rfl _ _ w.heap.size 31 #[.int .i64 2, .int .i64 (vi : Int), .string ⟨#[]⟩, .string ⟨#[]⟩, .slice al xs.length cl, .slice az ys.length cz] (0, 0) _ rfl (HZ.out.setRow _) Try.underlying31 rfl Try.infoRec
            · unfold ParseP
              rw [HFIN.out]
              exact ⟨al, cl, az, cz, rfl, fun W row hr hW => ⟨HIL.out W row hr hW, HSL.out W row hr hW, by dsimp only; omega, by dsimp only; omega, by dsimp only; exact Nat.zero_le _, by dsimp only; exact Nat.zero_le _⟩, HR.out.gr (grown_row _ _ _) (by simp; omega), gr_then HG.out (grown_row _ _ _) (fun g e => by cases e; omega)⟩
  | false =>
    obtain ⟨a0, a1, a2, a3, a4, a5⟩ := box6 HX4.out
    obtain ⟨b0, b1, b2, b3, b4⟩ := box5 HF4.out
    have r1 : u4.cell? ⟨p, 1, none⟩ = some (.bool false) := HR4.out.cell 1
    have fz := HR4.out.free 1
    go_upto_region 12 with (fail)
    have hg := gr_set u4 p 1 (.bool c)
    have HR5 := Lib.hid (show BlockAt (u4.setCell ⟨p, 1, none⟩ (.bool c)) p #[.string ra, .bool c] 63 from HR4.out.set (.bool c))
    have HX5 := Lib.hid (HX4.out.gr hg (by simp; omega))
    have HF5 := Lib.hid (HF4.out.gr hg (by simp; omega))
    have HZ5 := Lib.hid (HZ4.out.gr hg (by simp; omega))
    have HG5 := Lib.hid (gr_trans HG4.out hg)
    clear a0 a1 a2 a3 a4 a5 b0 b1 b2 b3 b4
    clear r1 fz hg HX4 HR4 HF4 HZ4 HG4
    generalize u4.setCell ⟨p, 1, none⟩ (.bool c) = u5 at *
    have hs5 : ((ra, c) : St) = ((ra, false).1, (ra, false).2 || decide (2000 < vl)) := by
      simp only [Bool.false_or, Prod.mk.injEq, true_and]; rw [← HC.out, decide_eq_decide]; omega
    have HPS := Lib.hid hs5
    clear hs5 hc
    have hfb5 := HF5.out.lt
    go_loopw [6] (fun n wr => ∃ (j m : Nat) (V : Value) (xs : List Int) (sj : St), Value.int .i64 (j : Int) = n ∧ BlockAt wr xb #[.int .i64 2, .int .i64 (vi : Int), .string ⟨#[]⟩, .string ⟨#[]⟩, V, .slice none 0 0] 31 ∧ wr.ownsRow (fb + 1) 3 1 V m (xs.map (Value.int .i64)) ∧
        BlockAt wr p #[.string sj.1, .bool sj.2] 63 ∧ BlockAt wr fb #[.bool true, .bool false, .bool false, .bool true, .bool true] 72 ∧ BlockAt wr w.heap.size #[.int .i64 0, .int .i64 0, .string ⟨#[]⟩, .string ⟨#[]⟩, .slice none 0 0, .slice none 0 0] 31 ∧ w.grownBy wr (some p) ∧
        LRel xs m j sj (pList vl (ra, c))) (fun n _ => (intOf n).toNat)
    case atStart => exact ⟨vl, 0, _, [], (ra, c), rfl, HX5.out, World.ownsRow_nil _ _ _ _, HR5.out, HF5.out, HZ5.out, HG5.out, LRel.start hpl HSZ4.out⟩
    case round =>
      obtain ⟨j, m, V, xs, sj, rfl, hx, ho, hr, hf, hz0, hgw, hl⟩ := hrel
      have HX := Lib.hid hx
      have HO := Lib.hid ho
      have HR := Lib.hid hr
      have HF := Lib.hid hf
      have HZ := Lib.hid hz0
      have HG := Lib.hid hgw
      have HL := Lib.hid hl
      have hjm := hl.le
      have hsj := hl.size
      obtain ⟨sa, sb⟩ := sj
      dsimp only at HR hsj
      have hfz := HF.out.lt
      clear hx ho hr hf hz0 hgw hl HX5 HR5 HF5 HZ5 HG5
      by_cases hj : 0 < j
      · cases sb with
        | false =>
          have r1 : wr.cell? ⟨p, 1, none⟩ = some (.bool false) := HR.out.cell 1
          obtain ⟨a0, a1, a2, a3, a4, a5⟩ := box6 HX.out
          go_upto_region 14 with (fail)
          go_region_law (first
            | (refine step_append_int (by rfl) _ _ _ (by rfl) 3 i0 Try.underlying24 HI.out.1 HI.out.2.1 HI.out.2.2.1 HI.out.2.2.2 (fb + 1) V m xs (by rfl) (own_kept (own_gr (own_kept HO.out (Kept.refl _).drew) hg (by simp; omega)) ((Kept.refl _).alloc _)) u.heap.size (numL (rdT sa 4).data.toList : Int) (by rfl) (BlockAt.new _ _ _) (by omega) (by simp; omega) ?_; intro v' w' ho' hg'; obtain ⟨aw, cw, rfl⟩ := slice_of_own ho'; have hx4 := ((((HX.out.kept (Kept.refl _).drew).gr hg (by simp; omega)).kept ((Kept.refl u).alloc (.cells #[.int .i64 (numL (rdT sa 4).data.toList : Int)] 3))).gr hg' (own_hi HO.out (by omega))); have c4 := hx4.cell 4; have f4 := hx4.free 4)
            | (go_simp; go_at_call 49; refine (value4 p sa false _ (HR.out.kept (Kept.refl _).drew) (by omega)).mono ?_; rintro e u ⟨rfl, hr, hg⟩; have hus : wr.heap.size ≤ u.heap.size := (by simpa using hg.size); have a4' : u.cell? ⟨xb, 4, none⟩ = some V := ((HX.out.kept (Kept.refl _).drew).gr hg (by simp; omega)).cell 4; have a4'' : ∀ o, (u.alloc o).cell? ⟨xb, 4, none⟩ = some V := fun o => (((HX.out.kept (Kept.refl _).drew).gr hg (by simp; omega)).kept ((Kept.refl u).alloc o)).cell 4))
          all_goals
            have kal := (Kept.refl u).alloc (.cells #[.int .i64 (numL (rdT sa 4).data.toList : Int)] 3)
            have hset := gr_set w' xb 4 (.slice aw (m + 1) cw)
            have HX' := Lib.hid (show BlockAt (w'.setCell ⟨xb, 4, none⟩ (.slice aw (m + 1) cw)) xb #[.int .i64 2, .int .i64 (vi : Int), .string ⟨#[]⟩, .string ⟨#[]⟩, .slice aw (m + 1) cw, .slice none 0 0] 31 from hx4.set (.slice aw (m + 1) cw))
            have HO' := Lib.hid (own_gr ho' hset (by simp; omega))
            have HR' := Lib.hid (((hr.kept kal).gr hg' (own_hi HO.out (by omega))).gr hset (by simp; omega))
            have HF' := Lib.hid (((((HF.out.kept (Kept.refl _).drew).gr hg (by simp; omega)).kept kal).gr hg' (own_hi HO.out (by omega))).gr hset (by simp; omega))
            have HZ' := Lib.hid (((((HZ.out.kept (Kept.refl _).drew).gr hg (by simp; omega)).kept kal).gr hg' (own_hi HO.out (by omega))).gr hset (by simp; omega))
            have HG' := Lib.hid (gr_then (gr_then (gr_trans (gr_trans (gr_trans HG.out (gr_kept (Kept.refl _).drew _)) hg) (gr_kept kal _)) hg' (fun g e => by have := (HO.out.lt g e).1; omega)) hset (fun g e => by cases e; omega))
            clear hr hg hus a0 a1 a2 a3 a4 a5 a4' a4'' hx4 c4 f4 kal hset ho' hg' r1
            generalize w'.setCell ⟨xb, 4, none⟩ (.slice aw (m + 1) cw) = wn at *
            go_wp2
            go_roundw
            case rel => exact ⟨j - 1, m + 1, _, _, ps 4 (sa, false), by congr 1; omega, HX'.out, HO'.out, HR'.out, HF'.out, HZ'.out, HG'.out, by have h9 := HL.out; rw [show j = j - 1 + 1 by omega] at h9; exact h9.step⟩
            case measure => simp [intOf]; omega
        | true =>
          have r1 : wr.cell? ⟨p, 1, none⟩ = some (.bool true) := HR.out.cell 1
          have HGL := Lib.hid HL.out.doneT
          rw [HPS.out] at HGL
          have hps := pv1_lt (sa, true)
          obtain ⟨a0, a1, a2, a3, a4, a5⟩ := box6 HX.out
          obtain ⟨b0, b1, b2, b3, b4⟩ := box5 HF.out
          go_wp2_with fail
          refine (value1 p sa true _ HR.out (by omega)).mono ?_
          rintro e ua ⟨rfl, hr, hg⟩
          have HRa := Lib.hid hr
          have HXa := Lib.hid (HX.out.gr hg (by simp; omega))
          have HFa := Lib.hid (HF.out.gr hg (by simp; omega))
          have HZa := Lib.hid (HZ.out.gr hg (by simp; omega))
          have HGa := Lib.hid (gr_trans HG.out hg)
          have HOa := Lib.hid (own_gr HO.out hg (by simp; omega))
          clear a0 a1 a2 a3 a4 a5 b0 b1 b2 b3 b4 hr hg HR HX HF HZ HG HO
          obtain ⟨vs, hvs⟩ : ∃ vs : Nat, vs = pv 1 (sa, true) := ⟨_, rfl⟩
          rw [show (numL (rdT sa 1).data.toList) = vs from hvs.symm]
          rw [← hvs] at hps
          have HVS := Lib.hid hvs
          obtain ⟨s6, hs6⟩ : ∃ s6 : St, s6 = ps 1 (sa, true) := ⟨_, rfl⟩
          have HS6 := Lib.hid hs6
          have HSZa := Lib.hid (show s6.1.size ≤ 140737488351232 by have := ps_size 1 (sa, true); rw [← hs6] at this; dsimp only at this; omega)
          have HRa := Lib.hid (sext HRa.out (show (rdS sa 1, rdB sa true 1) = (s6.1, s6.2) from hs6.symm))
          clear hvs hs6
          obtain ⟨a0, a1, a2, a3, a4, a5⟩ := box6 HXa.out
          obtain ⟨b0, b1, b2, b3, b4⟩ := box5 HFa.out
          go_upto_region 17 with (fail)
          clear a0 a1 a2 a3 a4 a5 b0 b1 b2 b3 b4
          have hfba := HFa.out.lt
          go_loopw [7] (fun n wr => ∃ (j2 m2 : Nat) (V2 : Value) (ys : List (Int × Int)) (sj : St), Value.int .i64 (j2 : Int) = n ∧ BlockAt wr xb #[.int .i64 2, .int .i64 (vi : Int), .string ⟨#[]⟩, .string ⟨#[]⟩, V, V2] 31 ∧ wr.ownsRow (fb + 1) 57 2 V2 m2 (sv ys) ∧ wr.ownsRow (fb + 1) 3 1 V m (xs.map (Value.int .i64)) ∧
              BlockAt wr p #[.string sj.1, .bool sj.2] 63 ∧ BlockAt wr fb #[.bool true, .bool false, .bool false, .bool true, .bool true] 72 ∧ BlockAt wr w.heap.size #[.int .i64 0, .int .i64 0, .string ⟨#[]⟩, .string ⟨#[]⟩, .slice none 0 0, .slice none 0 0] 31 ∧ w.grownBy wr (some p) ∧
              SRel ys m2 j2 sj (pSlots vs s6)) (fun n _ => (intOf n).toNat)
          case atStart => exact ⟨vs, 0, _, [], s6, rfl, HXa.out, World.ownsRow_nil _ _ _ _, HOa.out, HRa.out, HFa.out, HZa.out, HGa.out, SRel.start hps HSZa.out⟩
          case round =>
            obtain ⟨j2, m2, V2, ys, sj, rfl, hx, ho, hol, hr, hf, hz0, hgw, hl⟩ := hrel
            have HX := Lib.hid hx
            have HO2 := Lib.hid ho
            have HO := Lib.hid hol
            have HR := Lib.hid hr
            have HF := Lib.hid hf
            have HZ := Lib.hid hz0
            have HG := Lib.hid hgw
            have HL2 := Lib.hid hl
            have hjm2 := hl.le
            have hsj2 := hl.size
            obtain ⟨ta, tb⟩ := sj
            dsimp only at HR hsj2
            have hfz2 := HF.out.lt
            clear hx ho hr hf hz0 hgw hl HXa HRa HFa HZa HGa hol HOa
            by_cases hj : 0 < j2
            · cases tb with
              | false =>
                have hb0 := HR.out.cell 1
                have r1 : wr.cell? ⟨p, 1, none⟩ = some (.bool false) := hb0
                clear hb0
                obtain ⟨a0, a1, a2, a3, a4, a5⟩ := box6 HX.out
                go_wp2_with fail
                refine (signed_any p ta false _ HR.out (by omega)).mono ?_
                rintro e wq ⟨rfl, hr, hg⟩
                have hsd : (rdS ta 4).size ≤ 140737488351232 := by have := rdS_size ta 4; omega
                obtain ⟨s8, hs8⟩ : ∃ s8 : St, s8 = ps 4 (ta, false) := ⟨_, rfl⟩
                have HRq := Lib.hid (sext hr (show (rdS ta 4, rdB ta false 4) = (s8.1, s8.2) from hs8.symm))
                have HXq := Lib.hid (HX.out.gr hg (by simp; omega))
                have HFq := Lib.hid (HF.out.gr hg (by simp; omega))
                have HZq := Lib.hid (HZ.out.gr hg (by simp; omega))
                have HGq := Lib.hid (gr_trans HG.out hg)
                have HO2q := Lib.hid (own_gr HO2.out hg (by simp; omega))
                have HOq := Lib.hid (own_gr HO.out hg (by simp; omega))
                have hs8z : s8.1.size ≤ 140737488351232 := by rw [hs8]; exact hsd
                have HS8 := Lib.hid hs8
                clear hr hg r1 a0 a1 a2 a3 a4 a5 HR HX HF HZ HG HO2 hs8 HO
                obtain ⟨HR, HX⟩ := And.intro HRq HXq
                obtain ⟨HF, HZ⟩ := And.intro HFq HZq
                obtain ⟨HG, HO2⟩ := And.intro HGq HO2q
                have HO := HOq
                have hfz3 := HF.out.lt
                obtain ⟨a0, a1, a2, a3, a4, a5⟩ := box6 HX.out
                obtain ⟨d, hd⟩ : ∃ d : Int, d = sgn (pv 4 (ta, false)) := ⟨_, rfl⟩
                rw [show sgn (numL (rdT ta 4).data.toList) = d from hd.symm]
                have HD := Lib.hid hd
                clear hd
                go_upto_region 20 with (fail)
                obtain ⟨q, hq⟩ : ∃ q : Int, q = sgn (pv 4 s8) := ⟨_, rfl⟩
                have HSG := Lib.hid (fun w1 h => signed_any p s8.1 s8.2 w1 h (by omega))
                rw [show sgn (numL (rdT s8.1 4).data.toList) = q from hq.symm] at HSG
                have HQ := Lib.hid hq
                clear hq
                go_region_law (first
                  | (refine step_append_slot (by rfl) _ _ _ (by rfl) 57 i2 Try.underlying29 HI2.out.1 HI2.out.2.1 HI2.out.2.2.1 HI2.out.2.2.2 (fb + 1) V2 m2 ys (by rfl) (own_kept (own_gr (own_kept HO2.out (Kept.refl _).drew) hg (by simp; omega)) ((Kept.refl _).alloc _)) u.heap.size d q (by rfl) (BlockAt.new _ _ _) (by omega) (by simp; omega) ?_; intro v' w' ho' hg'; obtain ⟨aw, cw, rfl⟩ := slice_of_own ho'; have hx4 := ((((HX.out.kept (Kept.refl _).drew).gr hg (by simp; omega)).kept ((Kept.refl u).alloc (.cells #[.int .i64 d, .int .i64 q] 57))).gr hg' (own_hi HO2.out (by omega))); have c4 := hx4.cell 5; have f4 := hx4.free 5)
                  | (go_simp; go_at_call 52; refine (HSG.out _ (HR.out.kept (Kept.refl _).drew)).mono ?_; rintro e u ⟨rfl, hr, hg⟩; have hus : wq.heap.size ≤ u.heap.size := (by simpa using hg.size); have a4' : u.cell? ⟨xb, 5, none⟩ = some V2 := ((HX.out.kept (Kept.refl _).drew).gr hg (by simp; omega)).cell 5; have a4'' : ∀ o, (u.alloc o).cell? ⟨xb, 5, none⟩ = some V2 := fun o => (((HX.out.kept (Kept.refl _).drew).gr hg (by simp; omega)).kept ((Kept.refl u).alloc o)).cell 5))
                all_goals
                  have kal := (Kept.refl u).alloc (.cells #[.int .i64 d, .int .i64 q] 57)
                  have hset := gr_set w' xb 5 (.slice aw (m2 + 1) cw)
                  have HX' := Lib.hid (show BlockAt (w'.setCell ⟨xb, 5, none⟩ (.slice aw (m2 + 1) cw)) xb #[.int .i64 2, .int .i64 (vi : Int), .string ⟨#[]⟩, .string ⟨#[]⟩, V, .slice aw (m2 + 1) cw] 31 from hx4.set (.slice aw (m2 + 1) cw))
                  have HO' := Lib.hid (own_gr ho' hset (by simp; omega))
                  have HR' := Lib.hid (((hr.kept kal).gr hg' (own_hi HO2.out (by omega))).gr hset (by simp; omega))
                  have HF' := Lib.hid (((((HF.out.kept (Kept.refl _).drew).gr hg (by simp; omega)).kept kal).gr hg' (own_hi HO2.out (by omega))).gr hset (by simp; omega))
                  have HZ' := Lib.hid (((((HZ.out.kept (Kept.refl _).drew).gr hg (by simp; omega)).kept kal).gr hg' (own_hi HO2.out (by omega))).gr hset (by simp; omega))
                  have HG' := Lib.hid (gr_then (gr_then (gr_trans (gr_trans (gr_trans HG.out (gr_kept (Kept.refl _).drew _)) hg) (gr_kept kal _)) hg' (fun g e => by have := (HO2.out.lt g e).1; omega)) hset (fun g e => by cases e; omega))
                  have HOl' := Lib.hid (own_gr (own_gr2 (own_kept (own_gr (own_kept HO.out (Kept.refl _).drew) hg (by simp; omega)) kal) hg' (ne_types (own_kept (own_gr (own_kept HO.out (Kept.refl _).drew) hg (by simp; omega)) kal) (own_kept (own_gr (own_kept HO2.out (Kept.refl _).drew) hg (by simp; omega)) kal) (by decide))) hset (by simp; omega))
                  clear hr hg hus a0 a1 a2 a3 a4 a5 a4' a4'' hx4 c4 f4 kal hset ho' hg'
                  generalize w'.setCell ⟨xb, 5, none⟩ (.slice aw (m2 + 1) cw) = wn at *
                  go_wp2
                  go_roundw
                  case rel => exact ⟨j2 - 1, m2 + 1, _, _, ps 4 s8, by congr 1; omega, HX'.out, HO'.out, HOl'.out, HR'.out, HF'.out, HZ'.out, HG'.out, by have h9 := HL2.out; rw [show j2 = j2 - 1 + 1 by omega] at h9; have h8 := h9.step; rw [← HS8.out, ← HD.out, ← HQ.out] at h8; exact h8⟩
                  case measure => simp [intOf]; omega
              | true =>
                have r1 : wr.cell? ⟨p, 1, none⟩ = some (.bool true) := HR.out.cell 1
                have HGS := Lib.hid HL2.out.doneT
                have hlen := HL.out.len
                subst hlen
                obtain ⟨al, cl, rfl⟩ := slice_of_own HO.out
                have hlen2 := HL2.out.len
                subst hlen2
                obtain ⟨az, cz, rfl⟩ := slice_of_own HO2.out
                obtain ⟨a0, a1, a2, a3, a4, a5⟩ := box6 HX.out
                obtain ⟨b0, b1, b2, b3, b4⟩ := box5 HF.out
                have HIL := Lib.hid (fun (W : World) (row : Option Nat) (hr : ∀ g, row = some g → g < w.heap.size) (hW : (wr.setRow w.heap.size #[.int .i64 2, .int .i64 (vi : Int), .string ⟨#[]⟩, .string ⟨#[]⟩, .slice al xs.length cl, .slice az ys.length cz]).grownBy W row) => ints_at2 (own_gr (own_gr HO.out (grown_row wr w.heap.size #[.int .i64 2, .int .i64 (vi : Int), .string ⟨#[]⟩, .string ⟨#[]⟩, .slice al xs.length cl, .slice az ys.length cz]) (by simp; omega)) hW (fun g e => by have := hr g e; omega)) rfl HL.out.wf)
                have HSL := Lib.hid (fun (W : World) (row : Option Nat) (hr : ∀ g, row = some g → g < w.heap.size) (hW : (wr.setRow w.heap.size #[.int .i64 2, .int .i64 (vi : Int), .string ⟨#[]⟩, .string ⟨#[]⟩, .slice al xs.length cl, .slice az ys.length cz]).grownBy W row) => slots_at1 (own_gr (own_gr HO2.out (grown_row wr w.heap.size #[.int .i64 2, .int .i64 (vi : Int), .string ⟨#[]⟩, .string ⟨#[]⟩, .slice al xs.length cl, .slice az ys.length cz]) (by simp; omega)) hW (fun g e => by have := hr g e; omega)) rfl HL2.out.wf)
                have hfin : parseK 2 s0 = (⟨2, (vi : Int), ByteArray.empty, ByteArray.empty, xs, ys⟩, (ta, true)) := by
                  unfold parseK pI pN pD pL pS
                  simp only [show Rc.fI 2 = true from rfl, show Rc.fN 2 = false from rfl, show Rc.fD 2 = false from rfl, show Rc.fL 2 = true from rfl, show Rc.fS 2 = true from rfl, Bool.false_eq_true, if_false, if_true]
                  rw [← HVI.out, ← HS1.out, ← HVL.out, ← HS5.out, HGL.out, ← HVS.out, ← HS6.out, HGS.out]

                have HFIN := Lib.hid hfin
                clear hfin
                go_wp2_with (refine wpList_store_block rfl 31 (.tmp 2) (.tmp 96) rfl _ #[.int .i64 2, .int .i64 (vi : Int), .string ⟨#[]⟩, .string ⟨#[]⟩, .slice al xs.length cl, .slice az ys.length cz] #[.int .i64 0, .int .i64 0, .string ⟨#[]⟩, .string ⟨#[]⟩, .slice none 0 0, .slice none 0 0] 31 rfl rfl HZ.out Try.infoRec rfl (one6 _ _ _ _ _ _ _ _ _ _) ?_)
                refine bodyPost_ret (v := .agg #[.int .i64 2, .int .i64 (vi : Int), .string ⟨#[]⟩, .string ⟨#[]⟩, .slice al xs.length cl, .slice az ys.length cz]) ?_ rfl ?_
                · exact results_cell_row rfl _ _ w.heap.size 31 #[.int .i64 2, .int .i64 (vi : Int), .string ⟨#[]⟩, .string ⟨#[]⟩, .slice al xs.length cl, .slice az ys.length cz] (0, 0) _ rfl (HZ.out.setRow _) Try.underlying31 rfl Try.infoRec
                · unfold ParseP
                  rw [HFIN.out]
                  exact ⟨al, cl, az, cz, rfl, fun W row hr hW => ⟨HIL.out W row hr hW, HSL.out W row hr hW, by dsimp only; omega, by dsimp only; omega, by dsimp only; exact Nat.zero_le _, by dsimp only; exact Nat.zero_le _⟩, HR.out.gr (grown_row _ _ _) (by simp; omega), gr_then HG.out (grown_row _ _ _) (fun g e => by cases e; omega)⟩
            · obtain rfl : j2 = 0 := by omega
              have HGS := Lib.hid HL2.out.done0
              have hlen := HL.out.len
              subst hlen
              obtain ⟨al, cl, rfl⟩ := slice_of_own HO.out
              have hlen2 := HL2.out.len
              subst hlen2
              obtain ⟨az, cz, rfl⟩ := slice_of_own HO2.out
              obtain ⟨a0, a1, a2, a3, a4, a5⟩ := box6 HX.out
              obtain ⟨b0, b1, b2, b3, b4⟩ := box5 HF.out
              have HIL := Lib.hid (fun (W : World) (row : Option Nat) (hr : ∀ g, row = some g → g < w.heap.size) (hW : (wr.setRow w.heap.size #[.int .i64 2, .int .i64 (vi : Int), .string ⟨#[]⟩, .string ⟨#[]⟩, .slice al xs.length cl, .slice az ys.length cz]).grownBy W row) => ints_at2 (own_gr (own_gr HO.out (grown_row wr w.heap.size #[.int .i64 2, .int .i64 (vi : Int), .string ⟨#[]⟩, .string ⟨#[]⟩, .slice al xs.length cl, .slice az ys.length cz]) (by simp; omega)) hW (fun g e => by have := hr g e; omega)) rfl HL.out.wf)
              have HSL := Lib.hid (fun (W : World) (row : Option Nat) (hr : ∀ g, row = some g → g < w.heap.size) (hW : (wr.setRow w.heap.size #[.int .i64 2, .int .i64 (vi : Int), .string ⟨#[]⟩, .string ⟨#[]⟩, .slice al xs.length cl, .slice az ys.length cz]).grownBy W row) => slots_at1 (own_gr (own_gr HO2.out (grown_row wr w.heap.size #[.int .i64 2, .int .i64 (vi : Int), .string ⟨#[]⟩, .string ⟨#[]⟩, .slice al xs.length cl, .slice az ys.length cz]) (by simp; omega)) hW (fun g e => by have := hr g e; omega)) rfl HL2.out.wf)
              have hfin : parseK 2 s0 = (⟨2, (vi : Int), ByteArray.empty, ByteArray.empty, xs, ys⟩, (ta, tb)) := by
                unfold parseK pI pN pD pL pS
                simp only [show Rc.fI 2 = true from rfl, show Rc.fN 2 = false from rfl, show Rc.fD 2 = false from rfl, show Rc.fL 2 = true from rfl, show Rc.fS 2 = true from rfl, Bool.false_eq_true, if_false, if_true]
                rw [← HVI.out, ← HS1.out, ← HVL.out, ← HS5.out, HGL.out, ← HVS.out, ← HS6.out, HGS.out]

              have HFIN := Lib.hid hfin
              clear hfin
              go_wp2_with (refine wpList_store_block rfl 31 (.tmp 2) (.tmp 96) rfl _ #[.int .i64 2, .int .i64 (vi : Int), .string ⟨#[]⟩, .string ⟨#[]⟩, .slice al xs.length cl, .slice az ys.length cz] #[.int .i64 0, .int .i64 0, .string ⟨#[]⟩, .string ⟨#[]⟩, .slice none 0 0, .slice none 0 0] 31 rfl rfl HZ.out Try.infoRec rfl (one6 _ _ _ _ _ _ _ _ _ _) ?_)
              refine bodyPost_ret (v := .agg #[.int .i64 2, .int .i64 (vi : Int), .string ⟨#[]⟩, .string ⟨#[]⟩, .slice al xs.length cl, .slice az ys.length cz]) ?_ rfl ?_
              · exact results_cell_row rfl _ _ w.heap.size 31 #[.int .i64 2, .int .i64 (vi : Int), .string ⟨#[]⟩, .string ⟨#[]⟩, .slice al xs.length cl, .slice az ys.length cz] (0, 0) _ rfl (HZ.out.setRow _) Try.underlying31 rfl Try.infoRec
              · unfold ParseP
                rw [HFIN.out]
                exact ⟨al, cl, az, cz, rfl, fun W row hr hW => ⟨HIL.out W row hr hW, HSL.out W row hr hW, by dsimp only; omega, by dsimp only; omega, by dsimp only; exact Nat.zero_le _, by dsimp only; exact Nat.zero_le _⟩, HR.out.gr (grown_row _ _ _) (by simp; omega), gr_then HG.out (grown_row _ _ _) (fun g e => by cases e; omega)⟩
      · obtain rfl : j = 0 := by omega
        have HGL := Lib.hid HL.out.done0
        rw [HPS.out] at HGL
        have hps := pv1_lt (sa, sb)
        obtain ⟨a0, a1, a2, a3, a4, a5⟩ := box6 HX.out
        obtain ⟨b0, b1, b2, b3, b4⟩ := box5 HF.out
        go_wp2_with fail
        refine (value1 p sa sb _ HR.out (by omega)).mono ?_
        rintro e ua ⟨rfl, hr, hg⟩
        have HRa := Lib.hid hr
        have HXa := Lib.hid (HX.out.gr hg (by simp; omega))
        have HFa := Lib.hid (HF.out.gr hg (by simp; omega))
        have HZa := Lib.hid (HZ.out.gr hg (by simp; omega))
        have HGa := Lib.hid (gr_trans HG.out hg)
        have HOa := Lib.hid (own_gr HO.out hg (by simp; omega))
        clear a0 a1 a2 a3 a4 a5 b0 b1 b2 b3 b4 hr hg HR HX HF HZ HG HO
        obtain ⟨vs, hvs⟩ : ∃ vs : Nat, vs = pv 1 (sa, sb) := ⟨_, rfl⟩
        rw [show (numL (rdT sa 1).data.toList) = vs from hvs.symm]
        rw [← hvs] at hps
        have HVS := Lib.hid hvs
        obtain ⟨s6, hs6⟩ : ∃ s6 : St, s6 = ps 1 (sa, sb) := ⟨_, rfl⟩
        have HS6 := Lib.hid hs6
        have HSZa := Lib.hid (show s6.1.size ≤ 140737488351232 by have := ps_size 1 (sa, sb); rw [← hs6] at this; dsimp only at this; omega)
        have HRa := Lib.hid (sext HRa.out (show (rdS sa 1, rdB sa sb 1) = (s6.1, s6.2) from hs6.symm))
        clear hvs hs6
        obtain ⟨a0, a1, a2, a3, a4, a5⟩ := box6 HXa.out
        obtain ⟨b0, b1, b2, b3, b4⟩ := box5 HFa.out
        go_upto_region 17 with (fail)
        clear a0 a1 a2 a3 a4 a5 b0 b1 b2 b3 b4
        have hfba := HFa.out.lt
        go_loopw [7] (fun n wr => ∃ (j2 m2 : Nat) (V2 : Value) (ys : List (Int × Int)) (sj : St), Value.int .i64 (j2 : Int) = n ∧ BlockAt wr xb #[.int .i64 2, .int .i64 (vi : Int), .string ⟨#[]⟩, .string ⟨#[]⟩, V, V2] 31 ∧ wr.ownsRow (fb + 1) 57 2 V2 m2 (sv ys) ∧ wr.ownsRow (fb + 1) 3 1 V m (xs.map (Value.int .i64)) ∧
            BlockAt wr p #[.string sj.1, .bool sj.2] 63 ∧ BlockAt wr fb #[.bool true, .bool false, .bool false, .bool true, .bool true] 72 ∧ BlockAt wr w.heap.size #[.int .i64 0, .int .i64 0, .string ⟨#[]⟩, .string ⟨#[]⟩, .slice none 0 0, .slice none 0 0] 31 ∧ w.grownBy wr (some p) ∧
            SRel ys m2 j2 sj (pSlots vs s6)) (fun n _ => (intOf n).toNat)
        case atStart => exact ⟨vs, 0, _, [], s6, rfl, HXa.out, World.ownsRow_nil _ _ _ _, HOa.out, HRa.out, HFa.out, HZa.out, HGa.out, SRel.start hps HSZa.out⟩
        case round =>
          obtain ⟨j2, m2, V2, ys, sj, rfl, hx, ho, hol, hr, hf, hz0, hgw, hl⟩ := hrel
          have HX := Lib.hid hx
          have HO2 := Lib.hid ho
          have HO := Lib.hid hol
          have HR := Lib.hid hr
          have HF := Lib.hid hf
          have HZ := Lib.hid hz0
          have HG := Lib.hid hgw
          have HL2 := Lib.hid hl
          have hjm2 := hl.le
          have hsj2 := hl.size
          obtain ⟨ta, tb⟩ := sj
          dsimp only at HR hsj2
          have hfz2 := HF.out.lt
          clear hx ho hr hf hz0 hgw hl HXa HRa HFa HZa HGa hol HOa
          by_cases hj : 0 < j2
          · cases tb with
            | false =>
              have hb0 := HR.out.cell 1
              have r1 : wr.cell? ⟨p, 1, none⟩ = some (.bool false) := hb0
              clear hb0
              obtain ⟨a0, a1, a2, a3, a4, a5⟩ := box6 HX.out
              go_wp2_with fail
              refine (signed_any p ta false _ HR.out (by omega)).mono ?_
              rintro e wq ⟨rfl, hr, hg⟩
              have hsd : (rdS ta 4).size ≤ 140737488351232 := by have := rdS_size ta 4; omega
              obtain ⟨s8, hs8⟩ : ∃ s8 : St, s8 = ps 4 (ta, false) := ⟨_, rfl⟩
              have HRq := Lib.hid (sext hr (show (rdS ta 4, rdB ta false 4) = (s8.1, s8.2) from hs8.symm))
              have HXq := Lib.hid (HX.out.gr hg (by simp; omega))
              have HFq := Lib.hid (HF.out.gr hg (by simp; omega))
              have HZq := Lib.hid (HZ.out.gr hg (by simp; omega))
              have HGq := Lib.hid (gr_trans HG.out hg)
              have HO2q := Lib.hid (own_gr HO2.out hg (by simp; omega))
              have HOq := Lib.hid (own_gr HO.out hg (by simp; omega))
              have hs8z : s8.1.size ≤ 140737488351232 := by rw [hs8]; exact hsd
              have HS8 := Lib.hid hs8
              clear hr hg r1 a0 a1 a2 a3 a4 a5 HR HX HF HZ HG HO2 hs8 HO
              obtain ⟨HR, HX⟩ := And.intro HRq HXq
              obtain ⟨HF, HZ⟩ := And.intro HFq HZq
              obtain ⟨HG, HO2⟩ := And.intro HGq HO2q
              have HO := HOq
              have hfz3 := HF.out.lt
              obtain ⟨a0, a1, a2, a3, a4, a5⟩ := box6 HX.out
              obtain ⟨d, hd⟩ : ∃ d : Int, d = sgn (pv 4 (ta, false)) := ⟨_, rfl⟩
              rw [show sgn (numL (rdT ta 4).data.toList) = d from hd.symm]
              have HD := Lib.hid hd
              clear hd
              go_upto_region 20 with (fail)
              obtain ⟨q, hq⟩ : ∃ q : Int, q = sgn (pv 4 s8) := ⟨_, rfl⟩
              have HSG := Lib.hid (fun w1 h => signed_any p s8.1 s8.2 w1 h (by omega))
              rw [show sgn (numL (rdT s8.1 4).data.toList) = q from hq.symm] at HSG
              have HQ := Lib.hid hq
              clear hq
              go_region_law (first
                | (refine step_append_slot (by rfl) _ _ _ (by rfl) 57 i2 Try.underlying29 HI2.out.1 HI2.out.2.1 HI2.out.2.2.1 HI2.out.2.2.2 (fb + 1) V2 m2 ys (by rfl) (own_kept (own_gr (own_kept HO2.out (Kept.refl _).drew) hg (by simp; omega)) ((Kept.refl _).alloc _)) u.heap.size d q (by rfl) (BlockAt.new _ _ _) (by omega) (by simp; omega) ?_; intro v' w' ho' hg'; obtain ⟨aw, cw, rfl⟩ := slice_of_own ho'; have hx4 := ((((HX.out.kept (Kept.refl _).drew).gr hg (by simp; omega)).kept ((Kept.refl u).alloc (.cells #[.int .i64 d, .int .i64 q] 57))).gr hg' (own_hi HO2.out (by omega))); have c4 := hx4.cell 5; have f4 := hx4.free 5)
                | (go_simp; go_at_call 52; refine (HSG.out _ (HR.out.kept (Kept.refl _).drew)).mono ?_; rintro e u ⟨rfl, hr, hg⟩; have hus : wq.heap.size ≤ u.heap.size := (by simpa using hg.size); have a4' : u.cell? ⟨xb, 5, none⟩ = some V2 := ((HX.out.kept (Kept.refl _).drew).gr hg (by simp; omega)).cell 5; have a4'' : ∀ o, (u.alloc o).cell? ⟨xb, 5, none⟩ = some V2 := fun o => (((HX.out.kept (Kept.refl _).drew).gr hg (by simp; omega)).kept ((Kept.refl u).alloc o)).cell 5))
              all_goals
                have kal := (Kept.refl u).alloc (.cells #[.int .i64 d, .int .i64 q] 57)
                have hset := gr_set w' xb 5 (.slice aw (m2 + 1) cw)
                have HX' := Lib.hid (show BlockAt (w'.setCell ⟨xb, 5, none⟩ (.slice aw (m2 + 1) cw)) xb #[.int .i64 2, .int .i64 (vi : Int), .string ⟨#[]⟩, .string ⟨#[]⟩, V, .slice aw (m2 + 1) cw] 31 from hx4.set (.slice aw (m2 + 1) cw))
                have HO' := Lib.hid (own_gr ho' hset (by simp; omega))
                have HR' := Lib.hid (((hr.kept kal).gr hg' (own_hi HO2.out (by omega))).gr hset (by simp; omega))
                have HF' := Lib.hid (((((HF.out.kept (Kept.refl _).drew).gr hg (by simp; omega)).kept kal).gr hg' (own_hi HO2.out (by omega))).gr hset (by simp; omega))
                have HZ' := Lib.hid (((((HZ.out.kept (Kept.refl _).drew).gr hg (by simp; omega)).kept kal).gr hg' (own_hi HO2.out (by omega))).gr hset (by simp; omega))
                have HG' := Lib.hid (gr_then (gr_then (gr_trans (gr_trans (gr_trans HG.out (gr_kept (Kept.refl _).drew _)) hg) (gr_kept kal _)) hg' (fun g e => by have := (HO2.out.lt g e).1; omega)) hset (fun g e => by cases e; omega))
                have HOl' := Lib.hid (own_gr (own_gr2 (own_kept (own_gr (own_kept HO.out (Kept.refl _).drew) hg (by simp; omega)) kal) hg' (ne_types (own_kept (own_gr (own_kept HO.out (Kept.refl _).drew) hg (by simp; omega)) kal) (own_kept (own_gr (own_kept HO2.out (Kept.refl _).drew) hg (by simp; omega)) kal) (by decide))) hset (by simp; omega))
                clear hr hg hus a0 a1 a2 a3 a4 a5 a4' a4'' hx4 c4 f4 kal hset ho' hg'
                generalize w'.setCell ⟨xb, 5, none⟩ (.slice aw (m2 + 1) cw) = wn at *
                go_wp2
                go_roundw
                case rel => exact ⟨j2 - 1, m2 + 1, _, _, ps 4 s8, by congr 1; omega, HX'.out, HO'.out, HOl'.out, HR'.out, HF'.out, HZ'.out, HG'.out, by have h9 := HL2.out; rw [show j2 = j2 - 1 + 1 by omega] at h9; have h8 := h9.step; rw [← HS8.out, ← HD.out, ← HQ.out] at h8; exact h8⟩
                case measure => simp [intOf]; omega
            | true =>
              have r1 : wr.cell? ⟨p, 1, none⟩ = some (.bool true) := HR.out.cell 1
              have HGS := Lib.hid HL2.out.doneT
              have hlen := HL.out.len
              subst hlen
              obtain ⟨al, cl, rfl⟩ := slice_of_own HO.out
              have hlen2 := HL2.out.len
              subst hlen2
              obtain ⟨az, cz, rfl⟩ := slice_of_own HO2.out
              obtain ⟨a0, a1, a2, a3, a4, a5⟩ := box6 HX.out
              obtain ⟨b0, b1, b2, b3, b4⟩ := box5 HF.out
              have HIL := Lib.hid (fun (W : World) (row : Option Nat) (hr : ∀ g, row = some g → g < w.heap.size) (hW : (wr.setRow w.heap.size #[.int .i64 2, .int .i64 (vi : Int), .string ⟨#[]⟩, .string ⟨#[]⟩, .slice al xs.length cl, .slice az ys.length cz]).grownBy W row) => ints_at2 (own_gr (own_gr HO.out (grown_row wr w.heap.size #[.int .i64 2, .int .i64 (vi : Int), .string ⟨#[]⟩, .string ⟨#[]⟩, .slice al xs.length cl, .slice az ys.length cz]) (by simp; omega)) hW (fun g e => by have := hr g e; omega)) rfl HL.out.wf)
              have HSL := Lib.hid (fun (W : World) (row : Option Nat) (hr : ∀ g, row = some g → g < w.heap.size) (hW : (wr.setRow w.heap.size #[.int .i64 2, .int .i64 (vi : Int), .string ⟨#[]⟩, .string ⟨#[]⟩, .slice al xs.length cl, .slice az ys.length cz]).grownBy W row) => slots_at1 (own_gr (own_gr HO2.out (grown_row wr w.heap.size #[.int .i64 2, .int .i64 (vi : Int), .string ⟨#[]⟩, .string ⟨#[]⟩, .slice al xs.length cl, .slice az ys.length cz]) (by simp; omega)) hW (fun g e => by have := hr g e; omega)) rfl HL2.out.wf)
              have hfin : parseK 2 s0 = (⟨2, (vi : Int), ByteArray.empty, ByteArray.empty, xs, ys⟩, (ta, true)) := by
                unfold parseK pI pN pD pL pS
                simp only [show Rc.fI 2 = true from rfl, show Rc.fN 2 = false from rfl, show Rc.fD 2 = false from rfl, show Rc.fL 2 = true from rfl, show Rc.fS 2 = true from rfl, Bool.false_eq_true, if_false, if_true]
                rw [← HVI.out, ← HS1.out, ← HVL.out, ← HS5.out, HGL.out, ← HVS.out, ← HS6.out, HGS.out]

              have HFIN := Lib.hid hfin
              clear hfin
              go_wp2_with (refine wpList_store_block rfl 31 (.tmp 2) (.tmp 96) rfl _ #[.int .i64 2, .int .i64 (vi : Int), .string ⟨#[]⟩, .string ⟨#[]⟩, .slice al xs.length cl, .slice az ys.length cz] #[.int .i64 0, .int .i64 0, .string ⟨#[]⟩, .string ⟨#[]⟩, .slice none 0 0, .slice none 0 0] 31 rfl rfl HZ.out Try.infoRec rfl (one6 _ _ _ _ _ _ _ _ _ _) ?_)
              refine bodyPost_ret (v := .agg #[.int .i64 2, .int .i64 (vi : Int), .string ⟨#[]⟩, .string ⟨#[]⟩, .slice al xs.length cl, .slice az ys.length cz]) ?_ rfl ?_
              · exact results_cell_row rfl _ _ w.heap.size 31 #[.int .i64 2, .int .i64 (vi : Int), .string ⟨#[]⟩, .string ⟨#[]⟩, .slice al xs.length cl, .slice az ys.length cz] (0, 0) _ rfl (HZ.out.setRow _) Try.underlying31 rfl Try.infoRec
              · unfold ParseP
                rw [HFIN.out]
                exact ⟨al, cl, az, cz, rfl, fun W row hr hW => ⟨HIL.out W row hr hW, HSL.out W row hr hW, by dsimp only; omega, by dsimp only; omega, by dsimp only; exact Nat.zero_le _, by dsimp only; exact Nat.zero_le _⟩, HR.out.gr (grown_row _ _ _) (by simp; omega), gr_then HG.out (grown_row _ _ _) (fun g e => by cases e; omega)⟩
          · obtain rfl : j2 = 0 := by omega
            have HGS := Lib.hid HL2.out.done0
            have hlen := HL.out.len
            subst hlen
            obtain ⟨al, cl, rfl⟩ := slice_of_own HO.out
            have hlen2 := HL2.out.len
            subst hlen2
            obtain ⟨az, cz, rfl⟩ := slice_of_own HO2.out
            obtain ⟨a0, a1, a2, a3, a4, a5⟩ := box6 HX.out
            obtain ⟨b0, b1, b2, b3, b4⟩ := box5 HF.out
            have HIL := Lib.hid (fun (W : World) (row : Option Nat) (hr : ∀ g, row = some g → g < w.heap.size) (hW : (wr.setRow w.heap.size #[.int .i64 2, .int .i64 (vi : Int), .string ⟨#[]⟩, .string ⟨#[]⟩, .slice al xs.length cl, .slice az ys.length cz]).grownBy W row) => ints_at2 (own_gr (own_gr HO.out (grown_row wr w.heap.size #[.int .i64 2, .int .i64 (vi : Int), .string ⟨#[]⟩, .string ⟨#[]⟩, .slice al xs.length cl, .slice az ys.length cz]) (by simp; omega)) hW (fun g e => by have := hr g e; omega)) rfl HL.out.wf)
            have HSL := Lib.hid (fun (W : World) (row : Option Nat) (hr : ∀ g, row = some g → g < w.heap.size) (hW : (wr.setRow w.heap.size #[.int .i64 2, .int .i64 (vi : Int), .string ⟨#[]⟩, .string ⟨#[]⟩, .slice al xs.length cl, .slice az ys.length cz]).grownBy W row) => slots_at1 (own_gr (own_gr HO2.out (grown_row wr w.heap.size #[.int .i64 2, .int .i64 (vi : Int), .string ⟨#[]⟩, .string ⟨#[]⟩, .slice al xs.length cl, .slice az ys.length cz]) (by simp; omega)) hW (fun g e => by have := hr g e; omega)) rfl HL2.out.wf)
            have hfin : parseK 2 s0 = (⟨2, (vi : Int), ByteArray.empty, ByteArray.empty, xs, ys⟩, (ta, tb)) := by
              unfold parseK pI pN pD pL pS
              simp only [show Rc.fI 2 = true from rfl, show Rc.fN 2 = false from rfl, show Rc.fD 2 = false from rfl, show Rc.fL 2 = true from rfl, show Rc.fS 2 = true from rfl, Bool.false_eq_true, if_false, if_true]
              rw [← HVI.out, ← HS1.out, ← HVL.out, ← HS5.out, HGL.out, ← HVS.out, ← HS6.out, HGS.out]

            have HFIN := Lib.hid hfin
            clear hfin
            go_wp2_with (refine wpList_store_block rfl 31 (.tmp 2) (.tmp 96) rfl _ #[.int .i64 2, .int .i64 (vi : Int), .string ⟨#[]⟩, .string ⟨#[]⟩, .slice al xs.length cl, .slice az ys.length cz] #[.int .i64 0, .int .i64 0, .string ⟨#[]⟩, .string ⟨#[]⟩, .slice none 0 0, .slice none 0 0] 31 rfl rfl HZ.out Try.infoRec rfl (one6 _ _ _ _ _ _ _ _ _ _) ?_)
            refine bodyPost_ret (v := .agg #[.int .i64 2, .int .i64 (vi : Int), .string ⟨#[]⟩, .string ⟨#[]⟩, .slice al xs.length cl, .slice az ys.length cz]) ?_ rfl ?_
            · exact results_cell_row rfl _ _ w.heap.size 31 #[.int .i64 2, .int .i64 (vi : Int), .string ⟨#[]⟩, .string ⟨#[]⟩, .slice al xs.length cl, .slice az ys.length cz] (0, 0) _ rfl (HZ.out.setRow _) Try.underlying31 rfl Try.infoRec
            · unfold ParseP
              rw [HFIN.out]
              exact ⟨al, cl, az, cz, rfl, fun W row hr hW => ⟨HIL.out W row hr hW, HSL.out W row hr hW, by dsimp only; omega, by dsimp only; omega, by dsimp only; exact Nat.zero_le _, by dsimp only; exact Nat.zero_le _⟩, HR.out.gr (grown_row _ _ _) (by simp; omega), gr_then HG.out (grown_row _ _ _) (fun g e => by cases e; omega)⟩
end Go.Proofs.Ytoanldoocmmhjaa
