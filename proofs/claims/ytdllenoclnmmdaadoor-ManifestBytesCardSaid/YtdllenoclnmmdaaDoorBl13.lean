/- digest.New, Of, (*Hash).Len, Rows; the reference's Blocks; that package digest wakes (texts of at most 2^48 bytes; both tables as they are laid). -/
import Derived.Test.YtdllenoclnmmdaaDoorBl12
namespace Go.Proofs.YtdllenoclnmmdaaDoor
open Go.RowKit Go.Shelf
attribute [local go_sem] Oper.semAt_some

def hzero : Array Value := hcells (List.replicate 8 0) ⟨#[]⟩ 0
theorem Tryd.builtHash : Tryd.prog.built 56 [] = some hzero := by kernel_rfl
theorem Tryd.zeroHash : (Tryd.prog.info? 56).map (·.zero) = some (some (.agg hzero)) := by kernel_rfl
theorem Tryd.infoHash : (Tryd.prog.info? 56).map (·.size) = some hzero.size := by kernel_rfl
theorem hzero_one : hzero.all (·.oneCell') = true := by kernel_rfl
theorem begun_h0 : begun (hsum []) = List.replicate 8 0 := by decide +kernel
theorem hzero_at {w : World} {b : Nat} (h : BlockAt w b hzero 56) : HashAt w b [] := by
  unfold HashAt
  rw [begun_h0]
  exact h
theorem Begins.lt {w : World} (h : Begins w) : 0 < w.heap.size := cell_lt (h 0 (by omega))
theorem Orders.lt {w : World} (h : Orders w) : 1 < w.heap.size := cell_lt (h 0 (by omega))
set_option maxRecDepth 100000 in
theorem of_any (s : ByteArray) (hs : s.size ≤ 281474976710656) (w : World) (hB : Begins w) (hO : Orders w) :
    Calls Tryd.prog 21 #[.string s] w fun e w' => e = .returned (.string (dg s.data.toList)) ∧ Kept w w' := by
  have hb1 := hB.lt
  have hb2 := hO.lt
  go_enter Tryd.func21, Tryd.ntmps21
  go_upto_region 2 with (first
    | (with_reducible refine wpList_build_zero rfl 56 rfl hzero Tryd.builtHash ?_)
    | (with_reducible refine wpList_alloc_block rfl 56 rfl hzero Tryd.zeroHash ?_)
    | (refine wpList_store_block rfl 56 (.tmp 3) (.tmp 4) rfl w.heap.size hzero hzero 56 rfl rfl (BlockAt.new _ _ _) Tryd.infoHash rfl hzero_one ?_))
  obtain ⟨w1, hw1⟩ : ∃ w1, w1 = (w.alloc (.cells hzero 56)).setRow w.heap.size hzero := ⟨_, rfl⟩
  rw [← hw1]
  have hk1 : Kept w w1 := by rw [hw1]; exact ((Kept.refl w).alloc _).setRow (Nat.le_refl _) _
  have hh1 : HashAt w1 w.heap.size [] := by rw [hw1]; exact hzero_at ((BlockAt.new w _ _).setRow _)
  obtain ⟨hb, hhb⟩ : ∃ hb, hb = w.heap.size := ⟨_, rfl⟩
  rw [← hhb] at hh1 hb1 hb2 ⊢
  have HHB := Lib.hid hhb
  have HK1 := Lib.hid hk1
  have HW := Lib.hid (write_any [] s hb w1 hh1 (by simpa using hs) (hB.kept hk1) (hO.kept hk1) (by omega) (by omega))
  have HB1 := Lib.hid (hB.kept hk1)
  have HO1 := Lib.hid (hO.kept hk1)
  have hn1 : hb ≠ 0 := by omega
  have hn2 : hb ≠ 1 := by omega
  clear hw1 hk1 hh1 hhb hB hO
  simp only [Act.put, List.setIfInBounds_toArray, List.set_cons_zero, List.set_cons_succ]
  go_wp2_with fail
  refine HW.out.mono ?_
  rintro e w2 ⟨rfl, hh2, hg2⟩
  rw [List.nil_append] at hh2
  have HS := Lib.hid (sum_any s.data.toList hb w2 hh2 (by simpa using hs) (HB1.out.gr hg2 hn1) (HO1.out.gr hg2 hn2))
  have HK2 := Lib.hid (HK1.out.gr hg2 (fun k e => by cases e; exact Nat.le_of_eq HHB.out.symm))
  clear hh2 hg2 HW HB1 HO1
  go_wp2_with fail
  refine HS.out.mono ?_
  rintro e w3 ⟨rfl, hk3⟩
  have HK3 := Lib.hid (HK2.out.trans hk3)
  clear hk3 HS
  obtain ⟨D, hD⟩ : ∃ D, D = dg s.data.toList := ⟨_, rfl⟩
  rw [← hD]
  go_wp2
  go_ret
  exact ⟨rfl, HK3.out⟩
theorem dg_none : (dg []).extract 0 4 = ⟨#[105, 33, 122, 48]⟩ := by decide +kernel
theorem dg_abc : dg [97, 98, 99] = ⟨#[80, 140, 94, 140, 50, 124, 20, 226, 225, 167, 43, 163, 78, 235, 69, 47, 55, 69, 139, 32, 158, 214, 58, 41, 77, 153, 155, 76, 134, 103, 89, 130]⟩ := by decide +kernel
end Go.Proofs.YtdllenoclnmmdaaDoor
