/- silolaw13.kind at the kind 4: an ask that reads as one (no conditions). -/
import Derived.Test.YtoanldoocmmhjaaRk0
import Derived.Test.YtoanldoocmmhjaaBts
import Derived.Deep.RegionWith
namespace Go.Proofs.Ytoanldoocmmhjaa
open Go.RowKit
/-- a statement whose ways all end in one frame and one world -/
theorem wp_told {P : Program} {n : Nat} {c : Code} {K : Act → World → Prop} {Q : Exit → Act → World → Prop} {a : Act} {w : World} {A : Act} {W : World} (h : ∀ K' : Act → World → Prop, K' A W → c.wp P (Exit.inBlock n (Exit.then K' Q)) a w) (k : K A W) : c.wp P (Exit.inBlock n (Exit.then K Q)) a w := h K k
set_option maxRecDepth 100000 in
set_option maxHeartbeats 4000000 in
theorem kind_ok_4 : KindOK 4 := by
  intro ar nr cr aa ns cs an nn cn rs w h hnm
  obtain ⟨i0, hi, hz0, hz1, hz2⟩ := info_parts Try.infoRecZ
  have HI := Lib.hid (And.intro hi (And.intro hz0 (And.intro hz1 hz2)))
  clear hi hz0 hz1 hz2
  unfold askCells
  have HR := Lib.hid h
  have HNM := Lib.hid hnm
  have hfew := h.few
  clear h hnm
  have k0 := ((Kept.refl w).alloc (.cells #[.slice ar nr cr, .slice aa ns cs, .slice an nn cn] 26)).alloc (.cells #[.slice none 0 0, .slice none 0 0, .slice none 0 0] 26)
  have hp := (BlockAt.new w #[.slice ar nr cr, .slice aa ns cs, .slice an nn cn] 26).kept ((Kept.refl _).alloc (.cells #[.slice none 0 0, .slice none 0 0, .slice none 0 0] 26))
  have hz := BlockAt.new1 w #[.slice none 0 0, .slice none 0 0, .slice none 0 0] 26 (.cells #[.slice ar nr cr, .slice aa ns cs, .slice an nn cn] 26)
  have hsz : ((w.alloc (.cells #[.slice ar nr cr, .slice aa ns cs, .slice an nn cn] 26)).alloc (.cells #[.slice none 0 0, .slice none 0 0, .slice none 0 0] 26)).heap.size = w.heap.size + 2 := by simp
  go_enter Try.func24, Try.ntmps24
  go_upto_region 1 with (fail)
  generalize (w.alloc (.cells #[.slice ar nr cr, .slice aa ns cs, .slice an nn cn] 26)).alloc (.cells #[.slice none 0 0, .slice none 0 0, .slice none 0 0] 26) = wa at *
  obtain ⟨a0, a1, a2⟩ := box3 hp
  go_upto_region 2 with (fail)
  have kq := (Kept.refl wa).alloc (.cells #[.slice none 0 0, .slice aa ns cs, .slice an nn cn] 26)
  have hq := BlockAt.new wa #[.slice none 0 0, .slice aa ns cs, .slice an nn cn] 26
  rw [hsz] at hq
  have hL0 : KL w (wa.alloc (.cells #[.slice none 0 0, .slice aa ns cs, .slice an nn cn] 26)) #[.slice ar nr cr, .slice aa ns cs, .slice an nn cn] #[.slice none 0 0, .slice none 0 0, .slice none 0 0] #[.slice aa ns cs, .slice an nn cn] 0 (.slice none 0 0) [] [] :=
    ⟨k0.trans kq, hp.kept kq, hz.kept kq, hq, World.ownsRow_nil _ _ _ _, rfl, (fun r hr => by cases hr), fun j hj => absurd hj (Nat.not_lt_zero j)⟩
  have HL0 := Lib.hid hL0
  clear hL0 kq hq k0 hp hz hsz a0 a1 a2
  generalize wa.alloc (.cells #[.slice none 0 0, .slice aa ns cs, .slice an nn cn] 26) = wb at *
  go_wp2_with fail
  go_loopw [6] (fun i wr => ∃ (k : Nat) (V : Value) (rs' : List Rec) (xs : List Value), k ≤ nr ∧ i = .int .i64 k ∧ KL w wr #[.slice ar nr cr, .slice aa ns cs, .slice an nn cn] #[.slice none 0 0, .slice none 0 0, .slice none 0 0] #[.slice aa ns cs, .slice an nn cn] k V rs' xs) (fun i _ => nr - (intOf i).toNat)
  case atStart => exact ⟨0, _, _, _, by omega, rfl, HL0.out⟩
  case round =>
    obtain ⟨k, V, rs', xs, hk, rfl, hL⟩ := hrel
    have HL := Lib.hid hL
    clear hL HL0
    by_cases hlt : k < nr
    · obtain ⟨b', off, rfl, hc⟩ := HR.out.cell (by omega)
      obtain ⟨al, cl, az, cz, hi, hcc⟩ := hc k hlt
      have HC := Lib.hid hcc
      have hid := hi.id
      obtain ⟨hs1, hs2, hs4, hs5⟩ := HR.out.size k hlt
      clear hs4 hs5
      have hs3 := HNM.out (rs.getD k Rec.zero) (by
        have hl : k < rs.length := by rw [HR.out.len_eq]; exact hlt
        simp [List.getD, hl])
      generalize rs.getD k Rec.zero = r at HC hid hs1 hs2 hs3
      clear hc hcc hi
      obtain ⟨c0, c1, c2, c3, c4, c5⟩ := HC.out _ HL.out.kept
      obtain ⟨p0, p1, p2⟩ := box3 HL.out.pbox
      go_upto_region 6 with (fail)
      have HL1 := Lib.hid (HL.out.later ((Kept.refl wr).alloc (.cells #[.int .i64 r.kind, .int .i64 r.id, .string r.name, .string r.dig, .slice al r.list.length cl, .slice az r.slots.length cz] 31)))
      have hrb := BlockAt.new wr #[.int .i64 r.kind, .int .i64 r.id, .string r.name, .string r.dig, .slice al r.list.length cl, .slice az r.slots.length cz] 31
      have hrs : w.heap.size + 3 ≤ wr.heap.size := HL.out.qbox.lt
      generalize wr.alloc (.cells #[.int .i64 r.kind, .int .i64 r.id, .string r.name, .string r.dig, .slice al r.list.length cl, .slice az r.slots.length cz] 31) = w1 at *
      generalize wr.heap.size = rb at *
      clear HL c0 c1 c2 c3 c4 c5 p0 p1 p2
      obtain ⟨z, hz⟩ : ∃ z : ByteArray, z = ⟨(List.replicate 32 (0 : UInt8)).toArray⟩ := ⟨_, rfl⟩
      have hzs : z.size = 32 := by rw [hz]; rfl
      have hcv := ((madeB w1 32).kept ((Kept.refl _).drew)).string (P := Try.prog) 38 9 5 Try.underlying38 Try.underlying5 Try.underlying9 32
      simp only [List.length_replicate, ← hz] at hcv
      have hmk : ∀ u : World, (Instr.makeSlice 38 (.int .i64 32) (.int .i64 32)).run Try.prog u = .ok (.slice (some ⟨u.heap.size, 0, none⟩) 32 32) (u.alloc (.cells (madeCells #[.int .u8 0] 32) 5)) := makeB 32 (by omega)
      generalize madeCells #[.int .u8 0] 32 = M at hmk hcv
      obtain ⟨d, hd⟩ : ∃ d : ByteArray, d = r.dig ++ z := ⟨_, rfl⟩
      have hA : ∀ u : World, (Op.stringOp .add r.dig z).run Try.prog u = .ok (.string d) u := fun u => by rw [hd]; exact run_string_add_sum _ _ _ (by omega)
      have hds : d.size = r.dig.size + 32 := by rw [hd, ByteArray.size_append, hzs]
      have HZ := Lib.hid (And.intro hz (And.intro hzs hd))
      clear hz hzs hd
      obtain ⟨x0, x1, x2, x3, x4, x5⟩ := box6 hrb
      have x3' : (w1.alloc (.cells M 5)).cell? ⟨rb, 3, none⟩ = some (.string r.dig) := (hrb.kept ((Kept.refl _).alloc _)).cell 3
      go_region
      have HK2 := Lib.hid (((Kept.refl w1).alloc (.cells M 5)).drew)
      obtain ⟨s1, hs1v⟩ : ∃ s1, s1 = w1.heap.size := ⟨_, rfl⟩
      have hw2 : s1 < ((w1.alloc (.cells M 5)).drew).heap.size := by rw [hs1v]; show w1.heap.size < (w1.alloc (.cells M 5)).heap.size; simp
      have hrs1 : rb < s1 := by rw [hs1v]; exact hrb.lt
      have hVB : ∀ g, V.ownBlock = some g → g < s1 := fun g e => by rw [hs1v]; exact (HL1.out.own.lt g e).2
      have hrb2 := hrb.kept (((Kept.refl w1).alloc (.cells M 5)).drew)
      have HVB := Lib.hid hVB
      have hwb : w.heap.size + 3 ≤ s1 := by omega
      have HS1 := Lib.hid (show w1.heap.size = s1 from hs1v.symm)
      clear hcv hmk hA x0 x1 x2 x3 x4 x5 x3' hrb hVB hs1v
      generalize (w1.alloc (.cells M 5)).drew = w2 at *
      go_upto_region 8 with (fail)
      have kx := (Kept.refl w2).alloc (.cells #[.int .i64 4, .int .i64 0, .string ⟨#[]⟩, .string ⟨#[]⟩, .slice none 0 0, .slice none 0 0] 31)
      have hx := BlockAt.new w2 #[.int .i64 4, .int .i64 0, .string ⟨#[]⟩, .string ⟨#[]⟩, .slice none 0 0, .slice none 0 0] 31
      have HK3 := Lib.hid (HK2.out.trans kx)
      have hr := hrb2.kept kx
      have hsx : s1 ≤ w2.heap.size := by omega
      have hxw : w2.heap.size < (w2.alloc (.cells #[.int .i64 4, .int .i64 0, .string ⟨#[]⟩, .string ⟨#[]⟩, .slice none 0 0, .slice none 0 0] 31)).heap.size := by simp
      clear kx hrb2 HK2 hw2
      generalize w2.alloc (.cells #[.int .i64 4, .int .i64 0, .string ⟨#[]⟩, .string ⟨#[]⟩, .slice none 0 0, .slice none 0 0] 31) = w3 at *
      generalize w2.heap.size = xb at *
      obtain ⟨g, hg⟩ : ∃ g : ByteArray, g = d.extract 0 32 := ⟨_, rfl⟩
      have hgs : g.size = 32 := by rw [hg, ByteArray.size_extract]; omega
      obtain ⟨m7, hm7⟩ : ∃ m7 : Nat, m7 = 7 * k := ⟨_, rfl⟩
      have e7 : 7 * (k : Int) = (m7 : Int) := by omega
      have hb7 : m7 ≤ 20000000000000 := by omega
      have e7w : IntKind.i64.wrap (7 * (k : Int)) = (m7 : Int) := by rw [e7]; exact IntWalk.i64_in _ (by omega)
      clear hm7
      obtain ⟨vi, hvi⟩ : ∃ vi : Nat, vi = wthn r.id 2000 := ⟨_, rfl⟩
      have hvil : vi < 2000 := by rw [hvi]; exact wthn_lt _ (by omega)
      have HWvi := Lib.hid (fun u => within_ref r.id 2000 (by omega) u)
      rw [← hvi, show ((2000 : Nat) : Int) = 2000 from rfl] at HWvi
      clear hvi
      have r1 := hr.cell 1
      simp only [List.getElem?_toArray, List.getElem?_cons_zero, List.getElem?_cons_succ] at r1
      have r1b : ∀ o : Obj, (w3.alloc o).cell? ⟨rb, 1, none⟩ = some (.int .i64 r.id) := fun o => (hr.kept ((Kept.refl _).alloc o)).cell 1
      go_wp2_with fail
      have y1 := hx.cell 1
      have g1 := hx.free 1
      simp only [List.getElem?_toArray, List.getElem?_cons_zero, List.getElem?_cons_succ] at y1
      have y3 := hx.cell 3
      have g3 := hx.free 3
      simp only [List.getElem?_toArray, List.getElem?_cons_zero, List.getElem?_cons_succ] at y3
      have y4 := hx.cell 4
      have g4 := hx.free 4
      simp only [List.getElem?_toArray, List.getElem?_cons_zero, List.getElem?_cons_succ] at y4
      have hx_1 : BlockAt (w3.setCell ⟨xb, 1, none⟩ (.int .i64 (vi : Int))) xb #[.int .i64 4, .int .i64 (vi : Int), .string ⟨#[]⟩, .string ⟨#[]⟩, .slice none 0 0, .slice none 0 0] 31 := hx.set (i := 1) (.int .i64 (vi : Int))
      have hx_2 : BlockAt ((w3.setCell ⟨xb, 1, none⟩ (.int .i64 (vi : Int))).setCell ⟨xb, 3, none⟩ (.string (d.extract 0 32))) xb #[.int .i64 4, .int .i64 (vi : Int), .string ⟨#[]⟩, .string (d.extract 0 32), .slice none 0 0, .slice none 0 0] 31 := hx_1.set (i := 3) (.string (d.extract 0 32))
      have hx_3 : BlockAt (((w3.setCell ⟨xb, 1, none⟩ (.int .i64 (vi : Int))).setCell ⟨xb, 3, none⟩ (.string (d.extract 0 32))).setCell ⟨xb, 4, none⟩ (.slice (some ⟨w3.heap.size, 0, none⟩) 3 3)) xb #[.int .i64 4, .int .i64 (vi : Int), .string ⟨#[]⟩, .string (d.extract 0 32), .slice (some ⟨w3.heap.size, 0, none⟩) 3 3, .slice none 0 0] 31 := hx_2.set (i := 4) (.slice (some ⟨w3.heap.size, 0, none⟩) 3 3)
      have hlbe : ((((w3.setCell ⟨xb, 1, none⟩ (.int .i64 (vi : Int))).setCell ⟨xb, 3, none⟩ (.string (d.extract 0 32))).setCell ⟨xb, 4, none⟩ (.slice (some ⟨w3.heap.size, 0, none⟩) 3 3))).heap.size = w3.heap.size := by simp
      have hlbs : xb < w3.heap.size := by omega
      apply wp_told
      · intro K2 hK2
        go_region_with (go_at_call 43; refine (HWvi.out _).mono ?_; rintro e u ⟨rfl, rfl⟩)
        all_goals exact hK2
      have HKn := Lib.hid ((((HK3.out.setCell (p := ⟨xb, 1, none⟩) (show w1.heap.size ≤ xb by rw [HS1.out]; omega) (.int .i64 (vi : Int))).setCell (p := ⟨xb, 3, none⟩) (show w1.heap.size ≤ xb by rw [HS1.out]; omega) (.string (d.extract 0 32))).setCell (p := ⟨xb, 4, none⟩) (show w1.heap.size ≤ xb by rw [HS1.out]; omega) (.slice (some ⟨w3.heap.size, 0, none⟩) 3 3)).alloc (.cells #[.int .i64 (k : Int), .int .i64 5, .int .i64 (m7 : Int)] 3)).drew
      have hrn := (((((hr.setOther (g' := xb) (i := 1) (.int .i64 (vi : Int)) (by omega)).setOther (g' := xb) (i := 3) (.string (d.extract 0 32)) (by omega)).setOther (g' := xb) (i := 4) (.slice (some ⟨w3.heap.size, 0, none⟩) 3 3) (by omega)).kept ((Kept.refl (((w3.setCell ⟨xb, 1, none⟩ (.int .i64 (vi : Int))).setCell ⟨xb, 3, none⟩ (.string (d.extract 0 32))).setCell ⟨xb, 4, none⟩ (.slice (some ⟨w3.heap.size, 0, none⟩) 3 3))).alloc (.cells #[.int .i64 (k : Int), .int .i64 5, .int .i64 (m7 : Int)] 3))).kept (Kept.refl _).drew)
      have hblb : BlockAt ((((w3.setCell ⟨xb, 1, none⟩ (.int .i64 (vi : Int))).setCell ⟨xb, 3, none⟩ (.string (d.extract 0 32))).setCell ⟨xb, 4, none⟩ (.slice (some ⟨w3.heap.size, 0, none⟩) 3 3)).alloc (.cells #[.int .i64 (k : Int), .int .i64 5, .int .i64 (m7 : Int)] 3)).drew w3.heap.size #[.int .i64 (k : Int), .int .i64 5, .int .i64 (m7 : Int)] 3 := ((BlockAt.new_at (((w3.setCell ⟨xb, 1, none⟩ (.int .i64 (vi : Int))).setCell ⟨xb, 3, none⟩ (.string (d.extract 0 32))).setCell ⟨xb, 4, none⟩ (.slice (some ⟨w3.heap.size, 0, none⟩) 3 3)) #[.int .i64 (k : Int), .int .i64 5, .int .i64 (m7 : Int)] 3 hlbe).kept (Kept.refl _).drew)
      have hxn : BlockAt ((((w3.setCell ⟨xb, 1, none⟩ (.int .i64 (vi : Int))).setCell ⟨xb, 3, none⟩ (.string (d.extract 0 32))).setCell ⟨xb, 4, none⟩ (.slice (some ⟨w3.heap.size, 0, none⟩) 3 3)).alloc (.cells #[.int .i64 (k : Int), .int .i64 5, .int .i64 (m7 : Int)] 3)).drew xb #[.int .i64 4, .int .i64 (vi : Int), .string ⟨#[]⟩, .string (d.extract 0 32), .slice (some ⟨w3.heap.size, 0, none⟩) 3 3, .slice none 0 0] 31 := ((hx_3.kept ((Kept.refl (((w3.setCell ⟨xb, 1, none⟩ (.int .i64 (vi : Int))).setCell ⟨xb, 3, none⟩ (.string (d.extract 0 32))).setCell ⟨xb, 4, none⟩ (.slice (some ⟨w3.heap.size, 0, none⟩) 3 3))).alloc (.cells #[.int .i64 (k : Int), .int .i64 5, .int .i64 (m7 : Int)] 3))).kept (Kept.refl _).drew)
      clear hx hr HK3 y1 g1 y3 g3 y4 g4 hx_1 hx_2 hx_3 hlbe
      generalize w3.heap.size = lb at *
      generalize ((((w3.setCell ⟨xb, 1, none⟩ (.int .i64 (vi : Int))).setCell ⟨xb, 3, none⟩ (.string (d.extract 0 32))).setCell ⟨xb, 4, none⟩ (.slice (some ⟨lb, 0, none⟩) 3 3)).alloc (.cells #[.int .i64 (k : Int), .int .i64 5, .int .i64 (m7 : Int)] 3)).drew = w4 at *
      have hxw : xb < w4.heap.size := hxn.lt
      have hx := hxn
      have hr := hrn
      have HK3 := HKn
      clear hxn hrn HKn
      have hlb := hblb
      clear hblb
      rw [← hg] at hx ⊢
      have HG := Lib.hid hg
      clear hg
      clear r1 r1b e7 e7w
      obtain ⟨m5, hm5⟩ : ∃ m5 : Nat, m5 = k % 5 := ⟨_, rfl⟩
      have e5 : (k : Int) % 5 = (m5 : Int) := by omega
      have e5t : (k : Int).tmod 5 = (m5 : Int) := by rw [Int.tmod_eq_emod_of_nonneg (by omega)]; exact e5
      clear hm5
      by_cases h5 : m5 = 4
      · subst h5
        have r1 : w4.cell? ⟨rb, 1, none⟩ = some (.int .i64 r.id) := hr.cell 1
        have y1 := hx.cell 1
        have g1 := hx.free 1
        simp only [List.getElem?_toArray, List.getElem?_cons_zero, List.getElem?_cons_succ] at y1
        have hnlbx : lb ≠ xb := by omega
        have hx_1 : BlockAt (w4.setCell ⟨xb, 1, none⟩ (.int .i64 r.id)) xb #[.int .i64 4, .int .i64 r.id, .string ⟨#[]⟩, .string g, .slice (some ⟨lb, 0, none⟩) 3 3, .slice none 0 0] 31 := hx.set (i := 1) (.int .i64 r.id)
        go_upto_region 26 with (fail)
        have HKn := Lib.hid (HK3.out.setCell (p := ⟨xb, 1, none⟩) (show w1.heap.size ≤ xb by rw [HS1.out]; omega) (.int .i64 r.id))
        have hrn := (hr.setOther (g' := xb) (i := 1) (.int .i64 r.id) (by omega))
        have hblb : BlockAt (w4.setCell ⟨xb, 1, none⟩ (.int .i64 r.id)) lb #[.int .i64 (k : Int), .int .i64 5, .int .i64 (m7 : Int)] 3 := (hlb.setOther (g' := xb) (i := 1) (.int .i64 r.id) (by omega))
        have hxn : BlockAt (w4.setCell ⟨xb, 1, none⟩ (.int .i64 r.id)) xb #[.int .i64 4, .int .i64 r.id, .string ⟨#[]⟩, .string g, .slice (some ⟨lb, 0, none⟩) 3 3, .slice none 0 0] 31 := hx_1
        clear hx hr HK3 y1 g1 hx_1 hlb
        generalize (w4.setCell ⟨xb, 1, none⟩ (.int .i64 r.id)) = w4e at *
        have hxw : xb < w4e.heap.size := hxn.lt
        have hx := hxn
        have hr := hrn
        have HK3 := HKn
        clear hxn hrn HKn
        have hlb := hblb
        clear hblb
        clear r1
        have HLx := Lib.hid (HL1.out.later HK3.out)
        have HLIES := Lib.hid (show Lies (w.heap.size + 3) w4e V.ownBlock ⟨4, r.id, ⟨#[]⟩, g, [(k : Int), 5, (m7 : Int)], []⟩ (some ⟨lb, 0, none⟩) none from (fun W' g' => ⟨three_ints (hlb.apart g' (by omega) (by rintro e; have := HVB.out _ e.symm; omega)) (WalkArith.wf_i64 (by omega)) (by decide) (WalkArith.wf_i64 (by omega)), SlotsIn.nil _ _, (by dsimp only; decide), (by dsimp only; omega), (by dsimp only; decide), (by dsimp only; omega)⟩))
        have HSHORT := Lib.hid (show RecShort ⟨4, r.id, ⟨#[]⟩, g, [(k : Int), 5, (m7 : Int)], []⟩ from ⟨(by dsimp only; decide), (by dsimp only; omega), (by dsimp only [List.length]; omega), (by dsimp only; decide)⟩)
        have ka := (Kept.refl w4e).alloc (.cells #[.int .i64 4, .int .i64 r.id, .string ⟨#[]⟩, .string g, .slice (some ⟨lb, 0, none⟩) 3 3, .slice none 0 0] 31)
        have HLa := Lib.hid (HLx.out.later ka)
        have HLIEa := Lib.hid (HLIES.out.step (Apart.of_kept ka) (.inl rfl))
        have hqa := HLa.out.qbox
        simp only [List.append_toArray, List.cons_append, List.nil_append] at hqa
        have hqx := HLx.out.qbox
        simp only [List.append_toArray, List.cons_append, List.nil_append] at hqx
        obtain ⟨q0, q1, q2⟩ := box3 hqx
        obtain ⟨x0, x1, x2, x3, x4, x5⟩ := box6 hx
        have hWL := HLx.out.qbox.lt
        clear hx hr HK3 hqx ka
        go_wp2_with (at_builtin; refine wpList_append_own_at _ rfl _ _ 22 rfl (w.heap.size + 3) 31 i0 (.agg #[.int .i64 0, .int .i64 0, .string ⟨#[]⟩, .string ⟨#[]⟩, .slice none 0 0, .slice none 0 0]) 6 96 Try.underlying22 HI.out.1 HI.out.2.1 HI.out.2.2.1 HI.out.2.2.2 rfl (by decide) _ _ _ rfl (HLx.out.own.alloc _) ⟨w4e.heap.size, 0, none⟩ 1 1 [.int .i64 4, .int .i64 r.id, .string ⟨#[]⟩, .string g, .slice (some ⟨lb, 0, none⟩) 3 3, .slice none 0 0] rfl rfl ?c1 ?c2 ?c3 ?c4 ?c5 ?_)
        case c1 =>
          intro j' u hj'
          match j', hj' with
          | 0, hj' => simp at hj'; subst hj'; simp [Addr.add]
          | 1, hj' => simp at hj'; subst hj'; simp [Addr.add]
          | 2, hj' => simp at hj'; subst hj'; simp [Addr.add]
          | 3, hj' => simp at hj'; subst hj'; simp [Addr.add]
          | 4, hj' => simp at hj'; subst hj'; simp [Addr.add]
          | 5, hj' => simp at hj'; subst hj'; simp [Addr.add]
        case c2 =>
          intro u hu
          simp at hu
          rcases hu with rfl | rfl | rfl | rfl | rfl | rfl
          all_goals rfl
        case c3 => unfold maxLen; omega
        case c4 => omega
        case c5 => simp; omega
        intro v' w8 hown' hgrow _ hblk
        obtain ⟨av, cv, rfl⟩ := slice_of_own hown'
        have HL9 := Lib.hid (HLa.out.app (r := ⟨4, r.id, ⟨#[]⟩, g, [(k : Int), 5, (m7 : Int)], []⟩) (al := (some ⟨lb, 0, none⟩)) (cl := 3) (az := none) (cz := 0) HLIEa.out HSHORT.out rfl hgrow hown' (by simpa using hblk))
        have hq8 := hqa.gr hgrow (fun e => by have := (HLa.out.own.lt _ e.symm).1; omega)
        have q0' := hq8.cell 0
        have f0 := hq8.free 0
        clear hown' hgrow hblk hqa q0 q1 q2 x0 x1 x2 x3 x4 x5 HLa HLx HLIES HLIEa HSHORT hq8
        go_upto_region 4 with (fail)
        generalize w8.setCell ⟨w.heap.size + 2, 0, none⟩ (.slice av (k + 1) cv) = w9 at *
        go_wp2_with fail
        go_roundw
        case rel => exact ⟨k + 1, _, _, _, by omega, by go_num, HL9.out⟩
        case measure => simp [intOf]; omega
      · have hd5 : ((m5 : Int) == 4) = false := by rw [beq_eq_false_iff_ne]; omega
        have hd5d : decide ((m5 : Int) = 4) = false := decide_eq_false (by omega)
        go_upto_region 26 with (fail)
        have HLx := Lib.hid (HL1.out.later HK3.out)
        have HLIES := Lib.hid (show Lies (w.heap.size + 3) w4 V.ownBlock ⟨4, (vi : Int), ⟨#[]⟩, g, [(k : Int), 5, (m7 : Int)], []⟩ (some ⟨lb, 0, none⟩) none from (fun W' g' => ⟨three_ints (hlb.apart g' (by omega) (by rintro e; have := HVB.out _ e.symm; omega)) (WalkArith.wf_i64 (by omega)) (by decide) (WalkArith.wf_i64 (by omega)), SlotsIn.nil _ _, (by dsimp only; decide), (by dsimp only; omega), (by dsimp only; decide), (by dsimp only; omega)⟩))
        have HSHORT := Lib.hid (show RecShort ⟨4, (vi : Int), ⟨#[]⟩, g, [(k : Int), 5, (m7 : Int)], []⟩ from ⟨(by dsimp only; decide), (by dsimp only; omega), (by dsimp only [List.length]; omega), (by dsimp only; decide)⟩)
        have ka := (Kept.refl w4).alloc (.cells #[.int .i64 4, .int .i64 (vi : Int), .string ⟨#[]⟩, .string g, .slice (some ⟨lb, 0, none⟩) 3 3, .slice none 0 0] 31)
        have HLa := Lib.hid (HLx.out.later ka)
        have HLIEa := Lib.hid (HLIES.out.step (Apart.of_kept ka) (.inl rfl))
        have hqa := HLa.out.qbox
        simp only [List.append_toArray, List.cons_append, List.nil_append] at hqa
        have hqx := HLx.out.qbox
        simp only [List.append_toArray, List.cons_append, List.nil_append] at hqx
        obtain ⟨q0, q1, q2⟩ := box3 hqx
        obtain ⟨x0, x1, x2, x3, x4, x5⟩ := box6 hx
        have hWL := HLx.out.qbox.lt
        clear hx hr HK3 hqx ka
        go_wp2_with (at_builtin; refine wpList_append_own_at _ rfl _ _ 22 rfl (w.heap.size + 3) 31 i0 (.agg #[.int .i64 0, .int .i64 0, .string ⟨#[]⟩, .string ⟨#[]⟩, .slice none 0 0, .slice none 0 0]) 6 96 Try.underlying22 HI.out.1 HI.out.2.1 HI.out.2.2.1 HI.out.2.2.2 rfl (by decide) _ _ _ rfl (HLx.out.own.alloc _) ⟨w4.heap.size, 0, none⟩ 1 1 [.int .i64 4, .int .i64 (vi : Int), .string ⟨#[]⟩, .string g, .slice (some ⟨lb, 0, none⟩) 3 3, .slice none 0 0] rfl rfl ?c1 ?c2 ?c3 ?c4 ?c5 ?_)
        case c1 =>
          intro j' u hj'
          match j', hj' with
          | 0, hj' => simp at hj'; subst hj'; simp [Addr.add]
          | 1, hj' => simp at hj'; subst hj'; simp [Addr.add]
          | 2, hj' => simp at hj'; subst hj'; simp [Addr.add]
          | 3, hj' => simp at hj'; subst hj'; simp [Addr.add]
          | 4, hj' => simp at hj'; subst hj'; simp [Addr.add]
          | 5, hj' => simp at hj'; subst hj'; simp [Addr.add]
        case c2 =>
          intro u hu
          simp at hu
          rcases hu with rfl | rfl | rfl | rfl | rfl | rfl
          all_goals rfl
        case c3 => unfold maxLen; omega
        case c4 => omega
        case c5 => simp; omega
        intro v' w8 hown' hgrow _ hblk
        obtain ⟨av, cv, rfl⟩ := slice_of_own hown'
        have HL9 := Lib.hid (HLa.out.app (r := ⟨4, (vi : Int), ⟨#[]⟩, g, [(k : Int), 5, (m7 : Int)], []⟩) (al := (some ⟨lb, 0, none⟩)) (cl := 3) (az := none) (cz := 0) HLIEa.out HSHORT.out rfl hgrow hown' (by simpa using hblk))
        have hq8 := hqa.gr hgrow (fun e => by have := (HLa.out.own.lt _ e.symm).1; omega)
        have q0' := hq8.cell 0
        have f0 := hq8.free 0
        clear hown' hgrow hblk hqa q0 q1 q2 x0 x1 x2 x3 x4 x5 HLa HLx HLIES HLIEa HSHORT hq8
        go_upto_region 4 with (fail)
        generalize w8.setCell ⟨w.heap.size + 2, 0, none⟩ (.slice av (k + 1) cv) = w9 at *
        go_wp2_with fail
        go_roundw
        case rel => exact ⟨k + 1, _, _, _, by omega, by go_num, HL9.out⟩
        case measure => simp [intOf]; omega

    · obtain rfl : k = nr := by omega
      have hzz := HL.out.zbox
      have hqx := HL.out.qbox
      simp only [List.append_toArray, List.cons_append, List.nil_append] at hqx
      obtain ⟨q0, q1, q2⟩ := box3 hqx
      obtain ⟨p0, p1, p2⟩ := box3 HL.out.pbox
      have HFN := Lib.hid (HL.out.recs (by omega) (grown_row wr (w.heap.size + 1) #[V, .slice aa ns cs, .slice an nn cn]))
      have HKN := Lib.hid (HL.out.kept.setRow (show w.heap.size ≤ w.heap.size + 1 by omega) #[V, .slice aa ns cs, .slice an nn cn])
      clear HL
      obtain ⟨ar', cr', rfl, hrec⟩ := HFN.out
      go_wp2_with (refine wpList_store_block rfl 26 (.tmp 4) (.tmp 109) rfl _ #[.slice ar' k cr', .slice aa ns cs, .slice an nn cn] #[.slice none 0 0, .slice none 0 0, .slice none 0 0] 26 rfl rfl hzz Try.infoAsk rfl (one3s _ _ _ _ _ _ _ _ _) ?_)
      refine bodyPost_ret (v := .agg #[.slice ar' k cr', .slice aa ns cs, .slice an nn cn]) (results_cell_row rfl _ _ (w.heap.size + 1) 26 #[.slice ar' k cr', .slice aa ns cs, .slice an nn cn] (0, 0) _ rfl (hzz.setRow _) Try.underlying26 rfl Try.infoAsk) rfl ?_
      exact ⟨ar', k, cr', rs', rfl, hrec, HKN.out⟩
end Go.Proofs.Ytoanldoocmmhjaa
