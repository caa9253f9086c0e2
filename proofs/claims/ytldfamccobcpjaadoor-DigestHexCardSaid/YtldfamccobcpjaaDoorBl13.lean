/- digest.New, Of, (*Hash).Len, Rows; the reference's Blocks; that package digest wakes (texts of at most 2^48 bytes; both tables as they are laid). -/
import Derived.Test.YtldfamccobcpjaaDoorBl12
namespace Go.Proofs.YtldfamccobcpjaaDoor
open Go.RowKit Go.Shelf
attribute [local go_sem] Oper.semAt_some

def hzero : Array Value := hcells (List.replicate 8 0) ⟨#[]⟩ 0
theorem Tryd.builtHash : Tryd.prog.built 47 [] = some hzero := by kernel_rfl
theorem Tryd.zeroHash : (Tryd.prog.info? 47).map (·.zero) = some (some (.agg hzero)) := by kernel_rfl
theorem Tryd.infoHash : (Tryd.prog.info? 47).map (·.size) = some hzero.size := by kernel_rfl
theorem hzero_one : hzero.all (·.oneCell') = true := by kernel_rfl
theorem begun_h0 : begun (hsum []) = List.replicate 8 0 := by decide +kernel
theorem hzero_at {w : World} {b : Nat} (h : BlockAt w b hzero 47) : HashAt w b [] := by
  unfold HashAt
  rw [begun_h0]
  exact h
theorem Begins.lt {w : World} (h : Begins w) : 0 < w.heap.size := cell_lt (h 0 (by omega))
theorem Orders.lt {w : World} (h : Orders w) : 1 < w.heap.size := cell_lt (h 0 (by omega))
set_option maxRecDepth 100000 in
theorem new_any (w : World) : Calls Tryd.prog 14 #[] w fun e w' => e = .returned (.pointer (some ⟨w.heap.size, 0, none⟩)) ∧ HashAt w' w.heap.size [] ∧ Kept w w' := by
  go_enter Tryd.func14, Tryd.ntmps14
  go_wp2_with (first
    | (with_reducible refine wpList_build_zero rfl 47 rfl hzero Tryd.builtHash ?_)
    | (with_reducible refine wpList_box_block rfl 47 (.tmp 1) rfl hzero rfl ?_))
  go_ret
  exact ⟨rfl, hzero_at (BlockAt.new w hzero 47), (Kept.refl w).alloc _⟩
set_option maxRecDepth 100000 in
theorem of_any (s : ByteArray) (hs : s.size ≤ 281474976710656) (w : World) (hB : Begins w) (hO : Orders w) :
    Calls Tryd.prog 9 #[.string s] w fun e w' => e = .returned (.string (dg s.data.toList)) ∧ Kept w w' := by
  have hb1 := hB.lt
  have hb2 := hO.lt
  go_enter Tryd.func9, Tryd.ntmps9
  go_upto_region 2 with (first
    | (with_reducible refine wpList_build_zero rfl 47 rfl hzero Tryd.builtHash ?_)
    | (with_reducible refine wpList_alloc_block rfl 47 rfl hzero Tryd.zeroHash ?_)
    | (refine wpList_store_block rfl 47 (.tmp 3) (.tmp 4) rfl w.heap.size hzero hzero 47 rfl rfl (BlockAt.new _ _ _) Tryd.infoHash rfl hzero_one ?_))
  obtain ⟨w1, hw1⟩ : ∃ w1, w1 = (w.alloc (.cells hzero 47)).setRow w.heap.size hzero := ⟨_, rfl⟩
  rw [← hw1]
  have hk1 : Kept w w1 := by rw [hw1]; exact ((Kept.refl w).alloc _).setRow (Nat.le_refl _) _
  have hh1 : HashAt w1 w.heap.size [] := by rw [hw1]; exact hzero_at ((BlockAt.new w _ _).setRow _)
  obtain ⟨hb, hhb⟩ : ∃ hb, hb = w.heap.size := ⟨_, rfl⟩
  rw [← hhb] at hh1 hb1 hb2 ⊢
  have HHB := Lib.hid hhb
  have HK1 := Lib.hid hk1
  have HW := Lib.hid (write_any [] s hb w1 hh1 (by simpa using hs) (hB.kept hk1) (hO.kept hk1) (by omega) (by omega))
  have HB1 := Lib.hid (hB.kept hk1)
  have HO1 := Lib.hid (hO.kept hk1)
  have hn1 : hb ≠ 0 := by omega
  have hn2 : hb ≠ 1 := by omega
  clear hw1 hk1 hh1 hhb hB hO
  simp only [Act.put, List.setIfInBounds_toArray, List.set_cons_zero, List.set_cons_succ]
  go_wp2_with fail
  refine HW.out.mono ?_
  rintro e w2 ⟨rfl, hh2, hg2⟩
  rw [List.nil_append] at hh2
  have HS := Lib.hid (sum_any s.data.toList hb w2 hh2 (by simpa using hs) (HB1.out.gr hg2 hn1) (HO1.out.gr hg2 hn2))
  have HK2 := Lib.hid (HK1.out.gr hg2 (fun k e => by cases e; exact Nat.le_of_eq HHB.out.symm))
  clear hh2 hg2 HW HB1 HO1
  go_wp2_with fail
  refine HS.out.mono ?_
  rintro e w3 ⟨rfl, hk3⟩
  have HK3 := Lib.hid (HK2.out.trans hk3)
  clear hk3 HS
  obtain ⟨D, hD⟩ : ∃ D, D = dg s.data.toList := ⟨_, rfl⟩
  rw [← hD]
  go_wp2
  go_ret
  exact ⟨rfl, HK3.out⟩
set_option maxRecDepth 100000 in
theorem len_any (l : List UInt8) (hb : Nat) (w : World) (hH : HashAt w hb l) :
    Calls Tryd.prog 16 #[.pointer (some ⟨hb, 0, none⟩)] w fun e w' => e = .returned (.int .i64 l.length) ∧ w' = w := by
  have c9 := BlockAt.cell hH 9
  rw [hcells_9 (begun_ok (hsum_ok l))] at c9
  clear hH
  go_enter Tryd.func16, Tryd.ntmps16
  go_wp2
  go_ret
  exact ⟨rfl, rfl⟩
def rowsI (n : Nat) : Int := max 1 (((n : Int) + 63) / 64)
set_option maxRecDepth 100000 in
theorem rows_any (s : ByteArray) (hs : s.size ≤ 281474976710656) (w : World) : Calls Tryd.prog 11 #[.string s] w fun e w' => e = .returned (.int .i64 (rowsI s.size)) ∧ w' = w := by
  obtain ⟨n, hn⟩ : ∃ n : Nat, n = (s.size + 63) / 64 := ⟨_, rfl⟩
  have e1 : ((s.size : Int) + 64 - 1) / 64 = (n : Int) := by omega
  have e2 : ((s.size : Int) + 64 - 1).tdiv 64 = (n : Int) := by rw [Int.tdiv_eq_ediv_of_nonneg (by omega)]; exact e1
  have e3 : rowsI s.size = max 1 (n : Int) := by unfold rowsI; omega
  rw [e3]
  clear e3 hn
  go_enter Tryd.func11, Tryd.ntmps11
  go_wp2
  go_ret
  exact ⟨rfl, rfl⟩
set_option maxRecDepth 100000 in
theorem blocksn_any (s : ByteArray) (hs : s.size ≤ 281474976710656) (w : World) : Calls Tryd.prog 12 #[.string s] w fun e w' => e = .returned (.int .i64 (rowsI s.size)) ∧ w' = w := by
  obtain ⟨n, hn⟩ : ∃ n : Nat, n = (s.size + 63) / 64 := ⟨_, rfl⟩
  have e1 : ((s.size : Int) + 63) / 64 = (n : Int) := by omega
  have e2 : ((s.size : Int) + 63).tdiv 64 = (n : Int) := by rw [Int.tdiv_eq_ediv_of_nonneg (by omega)]; exact e1
  have e3 : rowsI s.size = max 1 (n : Int) := by unfold rowsI; omega
  rw [e3]
  clear e3 hn
  go_enter Tryd.func12, Tryd.ntmps12
  go_wp2
  go_ret
  exact ⟨rfl, rfl⟩
theorem dg_none : (dg []).extract 0 4 = ⟨#[105, 33, 122, 48]⟩ := by decide +kernel
theorem dg_abc : dg [97, 98, 99] = ⟨#[80, 140, 94, 140, 50, 124, 20, 226, 225, 167, 43, 163, 78, 235, 69, 47, 55, 69, 139, 32, 158, 214, 58, 41, 77, 153, 155, 76, 134, 103, 89, 130]⟩ := by decide +kernel
set_option maxRecDepth 100000 in
theorem wakes6_any (w : World) (hB : Begins w) (hO : Orders w) : Calls Tryd.prog 13 #[] w fun e w' => e = .returned (.bool true) ∧ Kept w w' := by
  have HOF := Lib.hid (of_any ⟨#[]⟩ (by decide) w hB hO)
  clear hB hO
  go_enter Tryd.func13, Tryd.ntmps13
  go_wp2_with fail
  refine HOF.out.mono ?_
  rintro e w1 ⟨rfl, hk⟩
  have HK := Lib.hid hk
  clear hk HOF
  have hz := dg_size []
  have he := dg_none
  have h4 : (4 : Nat) ≤ (dg []).size := by omega
  have h04 : (0 : Nat) ≤ 4 := by omega
  generalize dg [] = D at *
  go_wp2
  go_ret
  exact ⟨rfl, HK.out⟩
end Go.Proofs.YtldfamccobcpjaaDoor
