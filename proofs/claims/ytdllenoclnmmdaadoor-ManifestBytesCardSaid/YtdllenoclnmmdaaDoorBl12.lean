/- What was fed comes to its digest: (*digest.Hash).Sum, Len; digest.New, Of (of at most 2^48 bytes; both tables as they are laid). -/
import Derived.Test.YtdllenoclnmmdaaDoorBl11
import Derived.Test.YtdllenoclnmmdaaDoorOwn
namespace Go.Proofs.YtdllenoclnmmdaaDoor
open Go.RowKit Go.Shelf
attribute [local go_sem] Oper.semAt_some

theorem take_four (H : List Nat) (k : Nat) (hk : k < 8) : (Bl.bytes H).take (4 * k + 4) = (Bl.bytes H).take (4 * k) ++ [Bl.byteOf H (4 * k), Bl.byteOf H (4 * k + 1), Bl.byteOf H (4 * k + 2), Bl.byteOf H (4 * k + 3)] := by
  have h : ∀ k, k < 8 → (List.range 32).take (4 * k + 4) = (List.range 32).take (4 * k) ++ [4 * k, 4 * k + 1, 4 * k + 2, 4 * k + 3] := by decide
  unfold Bl.bytes
  rw [← List.map_take, ← List.map_take, h k hk, List.map_append]
  rfl
theorem byte_at (H : List Nat) (k j : Nat) (hj : j < 4) : ((H.getD k 0 : Nat) : Int) / 2 ^ (8 * j) % 256 = ((Bl.byteOf H (4 * k + j)).toNat : Int) := by
  have h := byte_of H (4 * k + j)
  rw [show (4 * k + j) / 4 = k by omega, show (4 * k + j) % 4 = j by omega] at h
  exact h
theorem rest_size (l : List UInt8) : (restOf l).size ≤ 64 := by
  show (l.drop _).toArray.size ≤ 64
  rw [List.size_toArray, List.length_drop]
  unfold Bl.ahead
  omega
theorem four_cells (w : World) (x0 x1 x2 x3 : Value) (t : TypeId) : ∀ j u, [x0, x1, x2, x3][j]? = some u → (w.alloc (.cells #[x0, x1, x2, x3] t)).cell? ((⟨w.heap.size, 0, none⟩ : Addr).add j) = some u := by
  intro j u hj
  rw [add_none, Nat.zero_add, cell_new]
  match j, hj with
  | 0, hj => simpa using hj
  | 1, hj => simpa using hj
  | 2, hj => simpa using hj
  | 3, hj => simpa using hj
  | n + 4, hj => simp at hj
set_option maxRecDepth 100000 in
set_option maxHeartbeats 2000000 in
theorem sum_any (l : List UInt8) (hb : Nat) (w : World) (hH : HashAt w hb l) (hl : l.length ≤ 281474976710656) (hB : Begins w) (hO : Orders w) :
    Calls Tryd.prog 29 #[.pointer (some ⟨hb, 0, none⟩)] w fun e w' => e = .returned (.string (dg l)) ∧ Kept w w' := by
  obtain ⟨i0, hi, hz0, hz1, hz2⟩ := info_parts Tryd.infoB8
  have HI := Lib.hid (And.intro hi (And.intro hz0 (And.intro hz1 hz2)))
  clear hi hz0 hz1 hz2
  obtain ⟨n, hn⟩ : ∃ n, n = l.length := ⟨_, rfl⟩
  obtain ⟨r, hr⟩ : ∃ r, r = restOf l := ⟨_, rfl⟩
  obtain ⟨v, hv⟩ : ∃ v, v = begun (hsum l) := ⟨_, rfl⟩
  have hvo : Bl.W 8 v := by rw [hv]; exact begun_ok (hsum_ok l)
  have hrz : r.size ≤ 64 := by rw [hr]; exact rest_size l
  have hH2 : BlockAt w hb (hcells v r n) 56 := by rw [hv, hr, hn]; exact hH
  have hnb : n < 9223372036854775808 := by omega
  obtain ⟨H, hHH⟩ : ∃ H, H = Bl.block (hsum l) r.data.toList n true := ⟨_, rfl⟩
  have HDG := Lib.hid (show dg l = ⟨(Bl.bytes H).toArray⟩ by rw [hHH, hr, hn]; rfl)
  have HHO := Lib.hid (show Bl.W 8 H by rw [hHH]; exact Bl.block_ok (hsum_ok l) _ _ _)
  obtain ⟨q0, q1, q2, q3, q4, q5, q6, q7, hq8⟩ := eight hvo
  have HK1 := Lib.hid ((Kept.refl w).alloc (.cells #[] 5))
  have HH1 := Lib.hid (hH2.kept HK1.out)
  have HE1 := Lib.hid (BlockAt.new w #[] 5)
  go_enter Tryd.func29, Tryd.ntmps29
  go_upto_region 2 with (fail)
  generalize w.alloc (.cells #[] 5) = w1 at *
  obtain ⟨pe, hpe⟩ : ∃ pe, pe = w.heap.size := ⟨_, rfl⟩
  rw [← hpe] at HE1 ⊢
  have hbe : ∀ u : Later w1, Calls Tryd.prog 35 #[.agg #[.int .u32 (q0 : Nat), .int .u32 (q1 : Nat), .int .u32 (q2 : Nat), .int .u32 (q3 : Nat), .int .u32 (q4 : Nat), .int .u32 (q5 : Nat), .int .u32 (q6 : Nat), .int .u32 (q7 : Nat)]] u.1 fun e w' => e = .returned (.agg (cw (hsum l))) ∧ Kept u.1 w' := fun u => by
    have q := begun_any v hvo u.1 ((hB.kept HK1.out).kept u.2)
    rw [show begun v = hsum l by rw [hv]; exact begun_twice (hsum_ok l)] at q
    rw [hq8] at q
    exact q
  have htu : ∀ u : Later w1, Calls Tryd.prog 37 #[.agg (cw (hsum l)), .string r, .int .i64 n, .bool true] u.1 fun e w' => e = .returned (.agg (cw H)) ∧ Kept u.1 w' := fun u => by
    rw [hHH]
    exact turn_any (hsum l) r n true (hsum_ok l) hrz hnb u.1 ((hB.kept HK1.out).kept u.2) ((hO.kept HK1.out).kept u.2)
  have HBE := Lib.hid hbe
  have HTU := Lib.hid htu
  have g8 := HH1.out.cell 8
  rw [hcells_8 hvo] at g8
  have g9 := HH1.out.cell 9
  rw [hcells_9 hvo] at g9
  have gg : ∀ i, i < 8 → w1.cell? ⟨hb, i, none⟩ = (cw v)[i]? := fun i hi => by rw [HH1.out.cell, hcells_low hvo r n i hi]
  rw [hq8] at gg
  have g0 : w1.cell? ⟨hb, 0, none⟩ = some (.int .u32 (q0 : Nat)) := gg 0 (by omega)
  have g1 : w1.cell? ⟨hb, 1, none⟩ = some (.int .u32 (q1 : Nat)) := gg 1 (by omega)
  have g2 : w1.cell? ⟨hb, 2, none⟩ = some (.int .u32 (q2 : Nat)) := gg 2 (by omega)
  have g3 : w1.cell? ⟨hb, 3, none⟩ = some (.int .u32 (q3 : Nat)) := gg 3 (by omega)
  have g4 : w1.cell? ⟨hb, 4, none⟩ = some (.int .u32 (q4 : Nat)) := gg 4 (by omega)
  have g5 : w1.cell? ⟨hb, 5, none⟩ = some (.int .u32 (q5 : Nat)) := gg 5 (by omega)
  have g6 : w1.cell? ⟨hb, 6, none⟩ = some (.int .u32 (q6 : Nat)) := gg 6 (by omega)
  have g7 : w1.cell? ⟨hb, 7, none⟩ = some (.int .u32 (q7 : Nat)) := gg 7 (by omega)
  have d0 := later_cell g0
  have d1 := later_cell g1
  have d2 := later_cell g2
  have d3 := later_cell g3
  have d4 := later_cell g4
  have d5 := later_cell g5
  have d6 := later_cell g6
  have d7 := later_cell g7
  have d8 := later_cell g8
  have d9 := later_cell g9
  have HHB := Lib.hid hHH
  clear g0 g1 g2 g3 g4 g5 g6 g7 g8 g9 gg hbe htu hq8 hv hr hn hH2 hH hHH hvo hrz
  refine region_later (by kernel_rfl) (by kernel_rfl) ?_
  repeat (go_big_quiet_step (first | (go_at_call 35; exact later_call (HBE.out _)) | (go_at_call 37; exact later_call (HTU.out _))))
  refine wpQuiet_nil ?_
  intro _ hw'
  obtain ⟨nq, hw''⟩ := hw'
  subst hw''
  obtain ⟨w2, hw2⟩ : ∃ w2, w2 = nq.1 := ⟨_, rfl⟩
  have k2 := nq.2
  rw [← hw2] at k2 ⊢
  have HK2 := Lib.hid (HK1.out.trans k2)
  have HO2 := Lib.hid (show w2.ownsRow w.heap.size 5 1 (.slice (some ⟨pe, 0, none⟩) 0 0) 0 (bv ((Bl.bytes H).take 0)) from ⟨rfl, .inr ⟨pe, 0, #[], rfl, Nat.le_of_eq hpe.symm, HE1.out.kept k2, Nat.le_refl _, by unfold maxLen; omega, rfl, rfl⟩⟩)
  clear hw2 k2 d0 d1 d2 d3 d4 d5 d6 d7 d8 d9 HBE HTU HE1 HK1 HH1 hpe HHB
  go_wp2_with fail
  go_loopw [3, 21] (fun v i wx => ∃ k m : Nat, Hid (m = 4 * k) ∧ k ≤ 8 ∧ m ≤ 32 ∧ i = .int .i64 k ∧ wx.ownsRow w.heap.size 5 1 v m (bv ((Bl.bytes H).take m)) ∧ Kept w wx) (fun _ i _ => 8 - (intOf i).toNat)
  case atStart => exact ⟨0, 0, Lib.hid rfl, by omega, by omega, rfl, HO2.out, HK2.out⟩
  case round =>
    obtain ⟨k, m, hm, hk, hm32, rfl, hown, hkw⟩ := hrel
    have HOW := Lib.hid hown
    have HKW := Lib.hid hkw
    clear hown hkw
    by_cases hlt : k < 8
    · as_aux_lemma =>
        have hix := index8 HHO.out k hlt
        have e0 : ((H.getD k 0 : Nat) : Int) % 256 = ((Bl.byteOf H m).toNat : Int) := by
          have q := byte_at H k 0 (by omega)
          rw [hm.out]
          simpa using q
        have e1 : ((H.getD k 0 : Nat) : Int) / 256 % 256 = ((Bl.byteOf H (m + 1)).toNat : Int) := by
          have q := byte_at H k 1 (by omega)
          rw [hm.out]
          exact q
        have e2 : ((H.getD k 0 : Nat) : Int) / 65536 % 256 = ((Bl.byteOf H (m + 2)).toNat : Int) := by
          have q := byte_at H k 2 (by omega)
          rw [hm.out]
          exact q
        have hxl := HHO.out.at k
        have e3 : ((H.getD k 0 : Nat) : Int) / 16777216 = ((Bl.byteOf H (m + 3)).toNat : Int) := by
          have q := byte_at H k 3 (by omega)
          rw [hm.out, ← q]
          show _ = ((H.getD k 0 : Nat) : Int) / 16777216 % 256
          omega
        have HT4 := Lib.hid (show (Bl.bytes H).take (m + 4) = (Bl.bytes H).take m ++ [Bl.byteOf H m, Bl.byteOf H (m + 1), Bl.byteOf H (m + 2), Bl.byteOf H (m + 3)] by rw [hm.out]; exact take_four H k hlt)
        generalize Bl.byteOf H m = b0 at *
        generalize Bl.byteOf H (m + 1) = b1 at *
        generalize Bl.byteOf H (m + 2) = b2 at *
        generalize Bl.byteOf H (m + 3) = b3 at *
        generalize H.getD k 0 = x at *
        have HM := Lib.hid (show m + 4 = 4 * (k + 1) by have := hm.out; omega)
        clear hm
        go_wp2_with (at_builtin; refine wpList_append_own_at _ rfl _ _ 48 rfl w.heap.size 5 i0 (.int .u8 0) 1 1 Tryd.underlying48 HI.out.1 HI.out.2.1 HI.out.2.2.1 HI.out.2.2.2 rfl (by decide) _ _ _ rfl (HOW.out.alloc _) ⟨wr.heap.size, 0, none⟩ 4 4 [.int .u8 (b0.toNat : Int), .int .u8 (b1.toNat : Int), .int .u8 (b2.toNat : Int), .int .u8 (b3.toNat : Int)] rfl rfl (four_cells _ _ _ _ _ _) (by intro u hu; simp at hu; rcases hu with rfl | rfl | rfl | rfl <;> rfl) (by unfold maxLen; omega) (by omega) (by have := HKW.out.size; simp; omega) ?_)
        intro v' w9 hown9 hgrow _ _
        have HO9 := Lib.hid hown9
        have HK9 := Lib.hid (show Kept w w9 from kept_gr1 (HKW.out.alloc _) hgrow (fun g e => (HOW.out.lt g e).1) (Nat.le_refl _))
        clear hown9 hgrow
        go_wp2
        go_roundw
        case rel => exact ⟨k + 1, m + 4, HM, by omega, by have := HM.out; omega, by go_num, by rw [HT4.out, bv_append]; exact HO9.out, HK9.out⟩
        case measure => simp [intOf]; omega
    · obtain rfl : k = 8 := by omega
      obtain rfl : m = 32 := by have := hm.out; omega
      have hcv := own_string HOW.out (by simp [Bl.bytes])
      rw [show (Bl.bytes H).take 32 = Bl.bytes H from List.take_of_length_le (by simp [Bl.bytes]), ← HDG.out] at hcv
      obtain ⟨a9, c9, hv9⟩ := slice_of_own1 HOW.out
      subst hv9
      obtain ⟨D, hD⟩ : ∃ D, D = dg l := ⟨_, rfl⟩
      have HD := Lib.hid hD
      rw [← hD] at hcv
      clear hD
      go_wp2
      go_ret
      exact ⟨by rw [← HD.out]; rfl, HKW.out⟩
end Go.Proofs.YtdllenoclnmmdaaDoor
