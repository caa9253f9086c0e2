/- siloref0.CopyRecord, by what it answers (no conditions but on lengths). -/
import Derived.Test.YtoanldoocmmhjaaRl1
namespace Go.Proofs.Ytoanldoocmmhjaa
open Go.RowKit
/-- a record of memory of its own -/
def CopyP (w : World) (r : Rec) (nl nz : Nat) (e : Ending) (w' : World) : Prop := ∃ al cl az cz, e = .returned (.agg (recCells r al nl cl az nz cz)) ∧ (∀ (W : World) (row : Option Nat), (∀ g, row = some g → g < w.heap.size) → w'.grownBy W row → RecIn W r al nl az nz) ∧ Kept w w'
set_option maxRecDepth 100000 in
set_option maxHeartbeats 2000000 in
theorem copy_record (r : Rec) (al : Option Addr) (nl cl : Nat) (az : Option Addr) (nz cz : Nat) (w : World) (h : RecIn w r al nl az nz) (hl : nl ≤ 1000000) (hz : nz ≤ 1000000) :
    Calls Try.prog 14 #[.agg (recCells r al nl cl az nz cz)] w (CopyP w r nl nz) := by
  obtain ⟨k, id, name, dig, zs, ys⟩ := r
  unfold recCells
  dsimp only
  have HN := Lib.hid (And.intro h.kind (And.intro h.id (And.intro h.name h.dig)))
  have HL := Lib.hid h.list
  have HS := Lib.hid h.slots
  dsimp only at HN HL HS
  clear h
  have k0 := ((Kept.refl w).alloc (.cells #[.int .i64 k, .int .i64 id, .string name, .string dig, .slice al nl cl, .slice az nz cz] 31)).alloc (.cells #[.int .i64 0, .int .i64 0, .string ⟨#[]⟩, .string ⟨#[]⟩, .slice none 0 0, .slice none 0 0] 31)
  have hb := (BlockAt.new w #[.int .i64 k, .int .i64 id, .string name, .string dig, .slice al nl cl, .slice az nz cz] 31).kept ((Kept.refl _).alloc (.cells #[.int .i64 0, .int .i64 0, .string ⟨#[]⟩, .string ⟨#[]⟩, .slice none 0 0, .slice none 0 0] 31))
  have hr := BlockAt.new1 w #[.int .i64 0, .int .i64 0, .string ⟨#[]⟩, .string ⟨#[]⟩, .slice none 0 0, .slice none 0 0] 31 (.cells #[.int .i64 k, .int .i64 id, .string name, .string dig, .slice al nl cl, .slice az nz cz] 31)
  go_enter Try.func14, Try.ntmps14
  go_upto_region 1 with (fail)
  generalize (w.alloc (.cells #[.int .i64 k, .int .i64 id, .string name, .string dig, .slice al nl cl, .slice az nz cz] 31)).alloc (.cells #[.int .i64 0, .int .i64 0, .string ⟨#[]⟩, .string ⟨#[]⟩, .slice none 0 0, .slice none 0 0] 31) = wa at *
  obtain ⟨p, hp⟩ : ∃ p, p = w.heap.size + 1 := ⟨_, rfl⟩
  rw [← hp] at hr ⊢
  have hpw : w.heap.size ≤ p := by omega
  clear hp
  obtain ⟨a0, a1, a2, a3, a4, a5⟩ := box6 hb
  go_upto_region 2 with (fail)
  have hx := BlockAt.new wa #[.int .i64 k, .int .i64 id, .string name, .string dig, .slice al nl cl, .slice az nz cz] 31
  have kx := (Kept.refl wa).alloc (.cells #[.int .i64 k, .int .i64 id, .string name, .string dig, .slice al nl cl, .slice az nz cz] 31)
  have hb1 := hb.kept kx
  have hr1 := hr.kept kx
  have k1 := k0.trans kx
  have hpa := hr.lt
  have hza := k0.size
  clear hb hr k0 kx a0 a1 a2 a3 a4 a5
  generalize wa.alloc (.cells #[.int .i64 k, .int .i64 id, .string name, .string dig, .slice al nl cl, .slice az nz cz] 31) = wb at *
  generalize wa.heap.size = q at *
  obtain ⟨a0, a1, a2, a3, a4, a5⟩ := box6 hb1
  go_wp2_with fail
  refine (copy_numbers al nl cl zs _ (HL.out.kept k1) hl).mono ?_
  rintro e w2 ⟨al', cl', rfl, hown2, k2⟩
  have hb2 := hb1.kept k2
  have hr2 := hr1.kept k2
  have hx2 := hx.kept k2
  have k12 := k1.trans k2
  have hq1 := hx.lt
  clear hb1 hr1 hx k1 k2 a0 a1 a2 a3 a4 a5
  obtain ⟨a0, a1, a2, a3, a4, a5⟩ := box6 hb2
  have f4 := hx2.free 4
  have x4 := (box6 hx2).2.2.2.2.1
  have k13 := k12.setCell (p := ⟨q, 4, none⟩) (show w.heap.size ≤ q by omega) (.slice al' nl cl')
  have hb3 := hb2.setOther (g' := q) (i := 4) (.slice al' nl cl') (by omega)
  have hr3 := hr2.setOther (g' := q) (i := 4) (.slice al' nl cl') (by omega)
  have hx3 : BlockAt (w2.setCell ⟨q, 4, none⟩ (.slice al' nl cl')) q #[.int .i64 k, .int .i64 id, .string name, .string dig, .slice al' nl cl', .slice az nz cz] 31 := hx2.set (i := 4) (.slice al' nl cl')
  have HO3 := Lib.hid (own_gr hown2 (gr_set w2 q 4 (.slice al' nl cl')) (fun g e => by cases e; exact hq1))
  have hsz := k12.size
  go_upto_region 3 with (fail)
  clear hb2 hr2 hx2 k12 hown2 a0 a1 a2 a3 a4 a5 f4 x4
  generalize w2.setCell ⟨q, 4, none⟩ (.slice al' nl cl') = w3 at *
  obtain ⟨a0, a1, a2, a3, a4, a5⟩ := box6 hb3
  go_wp2_with fail
  refine (copy_slots az nz cz ys _ (HS.out.kept k13) hz).mono ?_
  rintro e w4 ⟨az', cz', rfl, hown4, k4⟩
  have hr4 := hr3.kept k4
  have hx4 := hx3.kept k4
  have k14 := k13.trans k4
  have hq3 := hx3.lt
  have HO4 := Lib.hid (own_kept HO3.out k4)
  clear hb3 hr3 hx3 k13 k4 HO3 a0 a1 a2 a3 a4 a5
  have f5 := hx4.free 5
  have x5 := (box6 hx4).2.2.2.2.2
  have k15 := k14.setCell (p := ⟨q, 5, none⟩) (show w.heap.size ≤ q by omega) (.slice az' nz cz')
  have hr5 := hr4.setOther (g' := q) (i := 5) (.slice az' nz cz') (by omega)
  have hx5 : BlockAt (w4.setCell ⟨q, 5, none⟩ (.slice az' nz cz')) q #[.int .i64 k, .int .i64 id, .string name, .string dig, .slice al' nl cl', .slice az' nz cz'] 31 := hx4.set (i := 5) (.slice az' nz cz')
  have HO5 := Lib.hid (own_gr HO4.out (gr_set w4 q 5 (.slice az' nz cz')) (fun g e => by cases e; exact hq1))
  have HP5 := Lib.hid (own_gr hown4 (gr_set w4 q 5 (.slice az' nz cz')) (fun g e => by cases e; exact hq3))
  go_upto_region 4 with (fail)
  clear hr4 hx4 k14 hown4 f5 x5 HO4
  generalize w4.setCell ⟨q, 5, none⟩ (.slice az' nz cz') = w5 at *
  obtain ⟨a0, a1, a2, a3, a4, a5⟩ := box6 hx5
  go_wp2_with (refine wpList_store_block rfl 31 (.tmp 2) (.tmp 13) rfl _ #[.int .i64 k, .int .i64 id, .string name, .string dig, .slice al' nl cl', .slice az' nz cz'] #[.int .i64 0, .int .i64 0, .string ⟨#[]⟩, .string ⟨#[]⟩, .slice none 0 0, .slice none 0 0] 31 rfl rfl hr5 Try.infoRec rfl (one6 _ _ _ _ _ _ _ _ _ _) ?_)
  refine bodyPost_ret (v := .agg #[.int .i64 k, .int .i64 id, .string name, .string dig, .slice al' nl cl', .slice az' nz cz']) (results_cell_row rfl _ _ p 31 #[.int .i64 k, .int .i64 id, .string name, .string dig, .slice al' nl cl', .slice az' nz cz'] (0, 0) _ rfl (hr5.setRow _) Try.underlying31 rfl Try.infoRec) rfl ?_
  refine ⟨al', cl', az', cz', rfl, fun W row hr hW => ?_, k15.setRow (by omega) _⟩
  have h1 := own_gr (own_gr HO5.out (grown_row w5 p #[.int .i64 k, .int .i64 id, .string name, .string dig, .slice al' nl cl', .slice az' nz cz']) (fun g e => by cases e; omega)) hW (fun g e => by have := hr g e; omega)
  have h2 := own_gr (own_gr HP5.out (grown_row w5 p #[.int .i64 k, .int .i64 id, .string name, .string dig, .slice al' nl cl', .slice az' nz cz']) (fun g e => by cases e; omega)) hW (fun g e => by have := hr g e; omega)
  obtain ⟨_, _, e1, _, hi1⟩ := ints_own h1 HL.out.len_eq HL.out.wf
  obtain ⟨_, _, e2, _, hi2⟩ := slots_own h2 HS.out.len_eq HS.out.wf
  cases e1
  cases e2
  exact ⟨hi1, hi2, HN.out.1, HN.out.2.1, HN.out.2.2.1, HN.out.2.2.2⟩
end Go.Proofs.Ytoanldoocmmhjaa
