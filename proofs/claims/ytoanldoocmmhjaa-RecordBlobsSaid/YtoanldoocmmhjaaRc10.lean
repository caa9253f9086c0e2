/- record.Take, Bytes, Check, by what they answer (no conditions but on the text's length). -/
import Derived.Test.YtoanldoocmmhjaaRc9d
import Derived.Test.YtoanldoocmmhjaaRc11
import Derived.Test.YtoanldoocmmhjaaRc6
namespace Go.Proofs.Ytoanldoocmmhjaa
open Go.RowKit
def errT (b : Bool) : Value := .int .i64 (if b then 0 else 7)
set_option maxRecDepth 100000 in
set_option maxHeartbeats 2000000 in
theorem take_any (t : ByteArray) (w : World) (hz : t.size ≤ 140737488351232) : Calls Try.prog 21 #[.string t] w (TakeP errT w (takeP t)) := by
  obtain ⟨pr, hpr⟩ : ∃ pr, pr = parse (t, false) := ⟨_, rfl⟩
  have hTP : takeP t = takeK pr := by unfold takeP; rw [hpr]
  rw [hTP]
  have HP := Lib.hid hpr
  clear hpr hTP
  go_enter Try.func21, Try.ntmps21
  have k0 := ((Kept.refl w).alloc (.cells #[.int .i64 0, .int .i64 0, .string ⟨#[]⟩, .string ⟨#[]⟩, .slice none 0 0, .slice none 0 0] 31)).alloc (.cells #[.string t, .bool false] 63)
  have hza := (BlockAt.new w #[.int .i64 0, .int .i64 0, .string ⟨#[]⟩, .string ⟨#[]⟩, .slice none 0 0, .slice none 0 0] 31).kept ((Kept.refl _).alloc (.cells #[.string t, .bool false] 63))
  have hra := BlockAt.new1 w #[.string t, .bool false] 63 (.cells #[.int .i64 0, .int .i64 0, .string ⟨#[]⟩, .string ⟨#[]⟩, .slice none 0 0, .slice none 0 0] 31)
  go_upto_region 2 with (fail)
  generalize (w.alloc (.cells #[.int .i64 0, .int .i64 0, .string ⟨#[]⟩, .string ⟨#[]⟩, .slice none 0 0, .slice none 0 0] 31)).alloc (.cells #[.string t, .bool false] 63) = wa at *
  obtain ⟨p, hp⟩ : ∃ p, p = w.heap.size + 1 := ⟨_, rfl⟩
  rw [← hp] at hra ⊢
  have hpw : w.heap.size < p := by omega
  clear hp
  go_wp2_with fail
  refine (parse_any p t false _ hra hz).mono ?_
  rintro e w1 ⟨al, cl, az, cz, rfl, hin, hr, hg⟩
  rw [← HP.out] at hin hr ⊢
  obtain ⟨r, st⟩ := pr
  dsimp only at hin hr ⊢
  have hzw := k0.size
  have hwa : w.heap.size < wa.heap.size := hza.lt
  have HIN := Lib.hid (fun (W : World) (h : w1.grownBy W (some w.heap.size)) => hin W (some w.heap.size) (fun g e => by cases e; exact hwa) h)
  have HR := Lib.hid hr
  have HZ := Lib.hid (hza.gr hg (by simp; omega))
  have HK := Lib.hid (kept_gr k0 hg (fun g e => by cases e; omega))
  clear hin hr hza k0 hra hg hzw
  unfold recCells
  obtain ⟨rk, ri, rn, rd, rl, rs⟩ := r
  obtain ⟨sa, sb⟩ := st
  dsimp only at HIN HR ⊢
  go_upto_region 3 with (fail)
  have HX := Lib.hid (BlockAt.new w1 #[.int .i64 rk, .int .i64 ri, .string rn, .string rd, .slice al rl.length cl, .slice az rs.length cz] 31)
  have kx := (Kept.refl w1).alloc (.cells #[.int .i64 rk, .int .i64 ri, .string rn, .string rd, .slice al rl.length cl, .slice az rs.length cz] 31)
  have HG := Lib.hid (gr_kept kx (some w.heap.size))
  replace HR := Lib.hid (HR.out.kept kx)
  replace HZ := Lib.hid (HZ.out.kept kx)
  replace HK := Lib.hid (HK.out.trans kx)
  clear kx
  generalize w1.alloc (.cells #[.int .i64 rk, .int .i64 ri, .string rn, .string rd, .slice al rl.length cl, .slice az rs.length cz] 31) = w2 at *
  generalize w1.heap.size = xb at HX ⊢
  obtain ⟨a0, a1, a2, a3, a4, a5⟩ := box6 HX.out
  have r0 : w2.cell? ⟨p, 0, none⟩ = some (.string sa) := HR.out.cell 0
  have r1 : w2.cell? ⟨p, 1, none⟩ = some (.bool sb) := HR.out.cell 1
  cases sb with
  | true =>
    have HV := Lib.hid (takeK_no (show okR ((⟨rk, ri, rn, rd, rl, rs⟩ : Rec), ((sa, true) : St)) = false from rfl))
    go_wp2_with (refine wpList_store_block rfl 31 (.tmp 2) (.tmp 21) rfl _ #[.int .i64 0, .int .i64 0, .string ⟨#[]⟩, .string ⟨#[]⟩, .slice none 0 0, .slice none 0 0] #[.int .i64 0, .int .i64 0, .string ⟨#[]⟩, .string ⟨#[]⟩, .slice none 0 0, .slice none 0 0] 31 rfl rfl HZ.out Try.infoRec rfl (one6 _ _ _ _ _ _ _ _ _ _) ?_)
    refine bodyPost_ret (v := .tuple #[.agg #[.int .i64 0, .int .i64 0, .string ⟨#[]⟩, .string ⟨#[]⟩, .slice none 0 0, .slice none 0 0], .int .i64 7]) (results_row_tmp rfl _ _ w.heap.size 31 #[.int .i64 0, .int .i64 0, .string ⟨#[]⟩, .string ⟨#[]⟩, .slice none 0 0, .slice none 0 0] _ rfl (HZ.out.setRow _) Try.underlying31 rfl Try.infoRec _ rfl) rfl ?_
    rw [HV.out]
    exact ⟨none, 0, none, 0, rfl, zero_in _, HK.out.setRow (by omega) _⟩
  | false =>
    by_cases hem : sa.size = 0
    · obtain ⟨d, d'⟩ := str_no hem
      have HEM := Lib.hid (decide_eq_true hem)
      clear hem
      go_wp2_with fail
      refine (may_any ⟨rk, ri, rn, rd, rl, rs⟩ al rl.length cl az rs.length cz _ (HIN.out _ HG.out)).mono ?_
      rintro e w3 ⟨rfl, hk3⟩
      replace HX := Lib.hid (HX.out.kept hk3)
      replace HG := Lib.hid (gr_trans HG.out (gr_kept hk3 _))
      replace HZ := Lib.hid (HZ.out.kept hk3)
      replace HK := Lib.hid (HK.out.trans hk3)
      clear hk3 a0 a1 a2 a3 a4 a5 r0 r1 d d'
      cases hmy : Rec.may ⟨rk, ri, rn, rd, rl, rs⟩ with
      | false =>
        have HV := Lib.hid (takeK_no (show okR ((⟨rk, ri, rn, rd, rl, rs⟩ : Rec), ((sa, false) : St)) = false by unfold okR; dsimp only; rw [hmy]; simp))
        clear hmy
        go_wp2_with (refine wpList_store_block rfl 31 (.tmp 2) (.tmp 21) rfl _ #[.int .i64 0, .int .i64 0, .string ⟨#[]⟩, .string ⟨#[]⟩, .slice none 0 0, .slice none 0 0] #[.int .i64 0, .int .i64 0, .string ⟨#[]⟩, .string ⟨#[]⟩, .slice none 0 0, .slice none 0 0] 31 rfl rfl HZ.out Try.infoRec rfl (one6 _ _ _ _ _ _ _ _ _ _) ?_)
        refine bodyPost_ret (v := .tuple #[.agg #[.int .i64 0, .int .i64 0, .string ⟨#[]⟩, .string ⟨#[]⟩, .slice none 0 0, .slice none 0 0], .int .i64 7]) (results_row_tmp rfl _ _ w.heap.size 31 #[.int .i64 0, .int .i64 0, .string ⟨#[]⟩, .string ⟨#[]⟩, .slice none 0 0, .slice none 0 0] _ rfl (HZ.out.setRow _) Try.underlying31 rfl Try.infoRec _ rfl) rfl ?_
        rw [HV.out]
        exact ⟨none, 0, none, 0, rfl, zero_in _, HK.out.setRow (by omega) _⟩
      | true =>
        have HV := Lib.hid (takeK_yes (show okR ((⟨rk, ri, rn, rd, rl, rs⟩ : Rec), ((sa, false) : St)) = true by unfold okR; dsimp only; rw [hmy, HEM.out]; rfl))
        clear hmy
        obtain ⟨a0, a1, a2, a3, a4, a5⟩ := box6 HX.out
        go_wp2_with (refine wpList_store_block rfl 31 (.tmp 2) (.tmp 22) rfl _ #[.int .i64 rk, .int .i64 ri, .string rn, .string rd, .slice al rl.length cl, .slice az rs.length cz] #[.int .i64 0, .int .i64 0, .string ⟨#[]⟩, .string ⟨#[]⟩, .slice none 0 0, .slice none 0 0] 31 rfl rfl HZ.out Try.infoRec rfl (one6 _ _ _ _ _ _ _ _ _ _) ?_)
        refine bodyPost_ret (v := .tuple #[.agg #[.int .i64 rk, .int .i64 ri, .string rn, .string rd, .slice al rl.length cl, .slice az rs.length cz], .int .i64 0]) (results_row_tmp rfl _ _ w.heap.size 31 #[.int .i64 rk, .int .i64 ri, .string rn, .string rd, .slice al rl.length cl, .slice az rs.length cz] _ rfl (HZ.out.setRow _) Try.underlying31 rfl Try.infoRec _ rfl) rfl ?_
        rw [HV.out]
        exact ⟨al, cl, az, cz, rfl, HIN.out _ (gr_trans HG.out (grown_row _ _ _)), HK.out.setRow (by omega) _⟩
    · obtain ⟨d, d'⟩ := str_yes hem
      have HV := Lib.hid (takeK_no (show okR ((⟨rk, ri, rn, rd, rl, rs⟩ : Rec), ((sa, false) : St)) = false by unfold okR; dsimp only; rw [decide_eq_false hem]; rfl))
      clear hem
      go_wp2_with (refine wpList_store_block rfl 31 (.tmp 2) (.tmp 21) rfl _ #[.int .i64 0, .int .i64 0, .string ⟨#[]⟩, .string ⟨#[]⟩, .slice none 0 0, .slice none 0 0] #[.int .i64 0, .int .i64 0, .string ⟨#[]⟩, .string ⟨#[]⟩, .slice none 0 0, .slice none 0 0] 31 rfl rfl HZ.out Try.infoRec rfl (one6 _ _ _ _ _ _ _ _ _ _) ?_)
      refine bodyPost_ret (v := .tuple #[.agg #[.int .i64 0, .int .i64 0, .string ⟨#[]⟩, .string ⟨#[]⟩, .slice none 0 0, .slice none 0 0], .int .i64 7]) (results_row_tmp rfl _ _ w.heap.size 31 #[.int .i64 0, .int .i64 0, .string ⟨#[]⟩, .string ⟨#[]⟩, .slice none 0 0, .slice none 0 0] _ rfl (HZ.out.setRow _) Try.underlying31 rfl Try.infoRec _ rfl) rfl ?_
      rw [HV.out]
      exact ⟨none, 0, none, 0, rfl, zero_in _, HK.out.setRow (by omega) _⟩
def errF (b : Bool) : Int := if b then 0 else 1
set_option maxRecDepth 100000 in
theorem check_any (r : Rec) (al : Option Addr) (nl cl : Nat) (az : Option Addr) (nz cz : Nat) (w : World) (h : RecIn w r al nl az nz) :
    Calls Try.prog 19 #[.agg (recCells r al nl cl az nz cz)] w fun e w' => e = .returned (.int .i64 (errF (Rec.may r))) ∧ Kept w w' := by
  have HMA := Lib.hid (fun w' (h' : RecIn w' r al nl az nz) => may_any r al nl cl az nz cz w' h')
  obtain ⟨M, hM⟩ : ∃ M, M = Rec.may r := ⟨_, rfl⟩
  rw [← hM] at HMA ⊢
  clear hM
  obtain ⟨k, id, name, dig, zs, ys⟩ := r
  unfold recCells at HMA ⊢
  dsimp only at HMA ⊢
  have hb := BlockAt.new w #[.int .i64 k, .int .i64 id, .string name, .string dig, .slice al nl cl, .slice az nz cz] 31
  have k0 := (Kept.refl w).alloc (.cells #[.int .i64 k, .int .i64 id, .string name, .string dig, .slice al nl cl, .slice az nz cz] 31)
  have HI := Lib.hid (h.kept k0)
  have HK := Lib.hid k0
  clear h k0
  cases M
  all_goals
    go_enter Try.func19, Try.ntmps19
    go_upto_region 1 with (fail)
    generalize w.alloc (.cells #[.int .i64 k, .int .i64 id, .string name, .string dig, .slice al nl cl, .slice az nz cz] 31) = w1 at *
    obtain ⟨a0, a1, a2, a3, a4, a5⟩ := box6 hb
    go_wp2_with fail
    refine (HMA.out _ HI.out).mono ?_
    rintro e w2 ⟨rfl, hk⟩
    have HK2 := Lib.hid (HK.out.trans hk)
    clear hk hb a0 a1 a2 a3 a4 a5
    go_wp2
    go_ret
    exact ⟨rfl, HK2.out⟩
/-- what Bytes tells -/
def bytesT (r : Rec) : ByteArray := if Rec.may r then ⟨r.bytes.toArray⟩ else ⟨#[]⟩
set_option maxRecDepth 100000 in
theorem rbytes2_any (r : Rec) (al : Option Addr) (nl cl : Nat) (az : Option Addr) (nz cz : Nat) (w : World) (h : RecIn w r al nl az nz) :
    Calls Try.prog 16 #[.agg (recCells r al nl cl az nz cz)] w fun e w' => e = .returned (.tuple #[.string (bytesT r), .int .i64 (errF (Rec.may r))]) ∧ Kept w w' := by
  have HB := Lib.hid (fun (hm : Rec.may r = true) w' (h' : RecIn w' r al nl az nz) => bytes_any r al nl cl az nz cz w' h' hm)
  have HMA := Lib.hid (fun w' (h' : RecIn w' r al nl az nz) => may_any r al nl cl az nz cz w' h')
  obtain ⟨bs, hbs⟩ : ∃ bs, bs = r.bytes := ⟨_, rfl⟩
  obtain ⟨M, hM⟩ : ∃ M, M = Rec.may r := ⟨_, rfl⟩
  have hT : bytesT r = if M then ⟨bs.toArray⟩ else ⟨#[]⟩ := by unfold bytesT; rw [hM, hbs]
  rw [hT]
  rw [← hM] at HMA HB ⊢
  rw [← hbs] at HB
  clear hM hbs hT
  obtain ⟨k, id, name, dig, zs, ys⟩ := r
  unfold recCells at HMA HB ⊢
  dsimp only at HMA HB ⊢
  have hb := BlockAt.new w #[.int .i64 k, .int .i64 id, .string name, .string dig, .slice al nl cl, .slice az nz cz] 31
  have k0 := (Kept.refl w).alloc (.cells #[.int .i64 k, .int .i64 id, .string name, .string dig, .slice al nl cl, .slice az nz cz] 31)
  have HI := Lib.hid (h.kept k0)
  have HK := Lib.hid k0
  clear h k0
  cases M with
  | true =>
    rw [if_pos rfl]
    have HBB := Lib.hid (HB.out rfl)
    clear HB
    go_enter Try.func16, Try.ntmps16
    go_upto_region 1 with (fail)
    generalize w.alloc (.cells #[.int .i64 k, .int .i64 id, .string name, .string dig, .slice al nl cl, .slice az nz cz] 31) = w1 at *
    obtain ⟨a0, a1, a2, a3, a4, a5⟩ := box6 hb
    go_wp2_with fail
    refine (HMA.out _ HI.out).mono ?_
    rintro e w2 ⟨rfl, hk⟩
    have HK2 := Lib.hid (HK.out.trans hk)
    have HI2 := Lib.hid (HI.out.kept hk)
    have HB2 := Lib.hid (hb.kept hk)
    clear hk hb a0 a1 a2 a3 a4 a5
    obtain ⟨a0, a1, a2, a3, a4, a5⟩ := box6 HB2.out
    go_wp2_with fail
    refine (HBB.out _ HI2.out).mono ?_
    rintro e w3 ⟨v, rfl, ho, hk3⟩
    have hcv := own_string ho rfl
    have HK3 := Lib.hid (HK2.out.trans hk3)
    obtain ⟨a, cap, rfl, _⟩ := own_len ho
    clear ho hk3 a0 a1 a2 a3 a4 a5
    go_wp2
    go_ret2
    exact ⟨rfl, HK3.out⟩
  | false =>
    rw [if_neg (by decide)]
    clear HB
    go_enter Try.func16, Try.ntmps16
    go_upto_region 1 with (fail)
    generalize w.alloc (.cells #[.int .i64 k, .int .i64 id, .string name, .string dig, .slice al nl cl, .slice az nz cz] 31) = w1 at *
    obtain ⟨a0, a1, a2, a3, a4, a5⟩ := box6 hb
    go_wp2_with fail
    refine (HMA.out _ HI.out).mono ?_
    rintro e w2 ⟨rfl, hk⟩
    have HK2 := Lib.hid (HK.out.trans hk)
    clear hk hb a0 a1 a2 a3 a4 a5
    go_wp2
    go_ret2
    exact ⟨rfl, HK2.out⟩
end Go.Proofs.Ytoanldoocmmhjaa
