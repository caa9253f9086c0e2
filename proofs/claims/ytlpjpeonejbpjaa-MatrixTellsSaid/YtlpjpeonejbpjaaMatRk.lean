/- matrix.Rank and matrix.Pick, by what they answer (numbers below 256). -/
import Derived.Test.YtlpjpeonejbpjaaMatCp
namespace Go.Proofs.Ytlpjpeonejbpjaa
open Go.RowKit Go.Shelf
attribute [local go_sem] Oper.semAt_some

set_option maxRecDepth 100000 in
theorem rank_bad (r c : Int) (a : Option Addr) (l cap : Nat) (h : matE r c l ≠ 0) (w : World) :
    Calls Try.prog 34 #[.agg #[.int .i64 r, .int .i64 c, .slice a l cap]] w fun e w' => e = .returned (.tuple #[.int .i64 0, .int .i64 1]) ∧ Kept w w' := by
  have hne : (matE r c l != 0) = true := by rw [bne_iff_ne]; exact h
  clear h
  go_enter Try.func34, Try.ntmps34
  go_wp2_with fail
  refine (check_any r c a l cap _).mono ?_
  rintro e w1 ⟨rfl, hk1⟩
  have HK := Lib.hid (((Kept.refl w).alloc _).trans hk1)
  clear hk1
  go_wp2
  go_ret2
  exact ⟨rfl, HK.out⟩
set_option maxRecDepth 100000 in
set_option maxHeartbeats 1000000 in
theorem rank_any (r c b off cap : Nat) (F : Nat → Nat → Nat) (hr : 1 ≤ r ∧ r ≤ 16) (hc : 1 ≤ c ∧ c ≤ 16) (hF : Bt F) (w : World) (hs : MatR w b off r c F) :
    Calls Try.prog 34 #[.agg #[.int .i64 r, .int .i64 c, .slice (some ⟨b, off, none⟩) (r * c) cap]] w fun e w' => e = .returned (.tuple #[.int .i64 ((redTo r F c).1 : Nat), .int .i64 0]) ∧ Kept w w' := by
  have HE := Lib.hid (matE_ok hr hc)
  have HS := Lib.hid hs
  clear hs
  go_enter Try.func34, Try.ntmps34
  go_wp2_with fail
  refine (check_any r c _ _ _ _).mono ?_
  rintro e w1 ⟨rfl, hk1⟩
  rw [HE.out]
  have k1 := ((Kept.refl w).alloc _).trans hk1
  have h1 := (BlockAt.new w #[.int .i64 r, .int .i64 c, .slice (some ⟨b, off, none⟩) (r * c) cap] 50).kept hk1
  have HK1 := Lib.hid k1
  have H1 := Lib.hid h1
  obtain ⟨a0, a1, a2⟩ := box3 h1
  clear hk1 k1 h1
  go_wp2_with fail
  refine (blank_any r c (by omega) (by omega) _).mono ?_
  rintro e w2 ⟨bm, o2, rfl, hbm, hM, hk2⟩
  clear a0 a1 a2
  have hlt := hM.lt
  have h12 := H1.out.kept hk2
  have hK2 := HK1.out.trans hk2
  have hb1 := H1.out.lt
  obtain ⟨a0, a1, a2⟩ := box3 (h12.kept ((Kept.refl w2).alloc (.cells #[.int .i64 r, .int .i64 c, .slice (some ⟨bm, o2, none⟩) (r * c) (r * c)] 50)))
  have kx : Kept w2 (w2.alloc (.cells #[.int .i64 r, .int .i64 c, .slice (some ⟨bm, o2, none⟩) (r * c) (r * c)] 50)) := (Kept.refl w2).alloc _
  obtain ⟨w3, hrun, hg3, hM3⟩ := copy_all (b2 := b) (o2 := off) (dCap := r * c) (sCap := cap) hr.1 hc.1 (hM.kept kx) (HS.out.kept (hK2.trans kx)) 3
  have hb4 := (BlockAt.new w2 #[.int .i64 r, .int .i64 c, .slice (some ⟨bm, o2, none⟩) (r * c) (r * c)] 50).grown hg3 (by simp; omega)
  obtain ⟨x0, x1, x2⟩ := box3 hb4
  have HM3 := Lib.hid hM3
  have HK3 := Lib.hid (Kept.grown (hK2.trans kx) hg3 (fun k e => by cases e; have := HK1.out.size; omega))
  have HRUN := Lib.hid hrun
  have hge : w.heap.size ≤ bm := by have := HK1.out.size; omega
  clear hM hk2 h12 hK2 kx hg3 hM3 hb4 hrun
  go_wp2_with (refine Lib.wpList_copy_run _ rfl _ _ 44 44 rfl _ _ rfl rfl HRUN.out ?_)
  refine (reduce_any r c bm o2 (r * c) c F (by omega) ⟨hc.1, by omega⟩ (Nat.le_refl _) (Nat.le_refl _) hF _ HM3.out).mono ?_
  rintro e w4 ⟨rfl, _, hg4⟩
  have HK4 := Lib.hid (Kept.grown HK3.out hg4 (fun k e => by cases e; omega))
  clear hg4 x0 x1 x2 a0 a1 a2
  go_wp2
  go_ret2
  exact ⟨rfl, HK4.out⟩
end Go.Proofs.Ytlpjpeonejbpjaa
