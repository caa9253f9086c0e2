/- silolaw3.square: some matrix, in a block of its own (sides within bounds). -/
import Derived.Test.YtlpjpeonejbpjaaMatLaw
import Derived.Test.YtlpjpeonejbpjaaMatB
import Derived.Test.YtlpjpeonejbpjaaByt
import Derived.Test.YtlpjpeonejbpjaaFieldB
import Derived.Laws.BitsLemmas
import Derived.BigRegion
namespace Go.Proofs.Ytlpjpeonejbpjaa
open Go.RowKit

/-- a number of eight bits -/
theorem wrap_u8 (x : Int) : ∃ v : Nat, v < 256 ∧ IntKind.u8.wrap x = (v : Int) := ⟨(IntKind.u8.wrap x).toNat, by
  rw [IntKind.wrap_u8]
  omega, by
  rw [IntKind.wrap_u8]
  omega⟩
theorem upd_bt {F : Nat → Nat → Nat} (h : Bt F) {a b v : Nat} (hv : v < 256) : Bt (upd F a b v) := fun i j => by
  unfold upd
  split
  · exact hv
  · exact h i j
theorem mat_rect {w : World} {b n : Nat} {F : Nat → Nat → Nat} (h : Mat w b 0 1 (n * n) F) : Mat w b 0 n n (fun i j => F 0 (i * n + j)) := ⟨h.blk, fun i j hi hj => by
  have := h.cell 0 (i * n + j) (by omega) (idx_lt hi hj)
  simpa [Nat.add_assoc] using this⟩
set_option maxRecDepth 100000 in
set_option maxHeartbeats 4000000 in
theorem square_any (am an al : Option Addr) (lm cm ln cn ll cl n by' : Nat) (hn : 1 ≤ n ∧ n ≤ 8) (hb' : by' ≤ 9) (w : World) (hm : MsIn w am lm) :
    Calls Try.prog 53 #[.agg #[.slice am lm cm, .slice an ln cn, .slice al ll cl], .int .i64 n, .int .i64 by'] w
      fun e w' => ∃ b off F, e = .returned (.agg #[.int .i64 n, .int .i64 n, .slice (some ⟨b, off, none⟩) (n * n) (n * n)]) ∧ w.heap.size ≤ b ∧ Bt F ∧ Mat w' b off n n F ∧ Kept w w' := by
  have HM := Lib.hid hm
  have hle := hm.le
  have hnn : n * n ≤ 64 := Nat.le_trans (Nat.mul_le_mul hn.2 hn.2) (by decide)
  have hpp : (n : Int) * (n : Int) = ((n * n : Nat) : Int) := by simp
  generalize hmnn : n * n = m at *
  have hmk := make_bytes m (by omega)
  have hb := fun u : World => made_mat u 1 m
  simp only [Nat.one_mul] at hb
  generalize madeCells #[.int .u8 0] m = Z at hmk hb
  have HBM := Lib.hid hb
  clear hm hb
  go_enter Try.func53, Try.ntmps53
  go_wp2_with fail
  have hX := (((BlockAt.new w #[.slice am lm cm, .slice an ln cn, .slice al ll cl] 47).kept ((Kept.refl _).alloc (.cells #[.int .i64 0, .int .i64 0, .slice none 0 0] 50))).kept ((Kept.refl _).alloc (.cells Z 5))).kept ((Kept.refl _).alloc (.cells #[.int .i64 n, .int .i64 n, .slice (some ⟨w.heap.size + 1 + 1, 0, none⟩) m m] 50))
  have hR := ((BlockAt.new1 w #[.int .i64 0, .int .i64 0, .slice none 0 0] 50 (.cells #[.slice am lm cm, .slice an ln cn, .slice al ll cl] 47)).kept ((Kept.refl _).alloc (.cells Z 5))).kept ((Kept.refl _).alloc (.cells #[.int .i64 n, .int .i64 n, .slice (some ⟨w.heap.size + 1 + 1, 0, none⟩) m m] 50))
  have hY := BlockAt.new3 w #[.int .i64 n, .int .i64 n, .slice (some ⟨w.heap.size + 1 + 1, 0, none⟩) m m] 50 (.cells #[.slice am lm cm, .slice an ln cn, .slice al ll cl] 47) (.cells #[.int .i64 0, .int .i64 0, .slice none 0 0] 50) (.cells Z 5)
  have hQ := (HBM.out ((w.alloc (.cells #[.slice am lm cm, .slice an ln cn, .slice al ll cl] 47)).alloc (.cells #[.int .i64 0, .int .i64 0, .slice none 0 0] 50))).kept ((Kept.refl _).alloc (.cells #[.int .i64 n, .int .i64 n, .slice (some ⟨w.heap.size + 1 + 1, 0, none⟩) m m] 50))
  simp only [World.size_alloc] at hQ
  have k4 := ((((Kept.refl w).alloc (.cells #[.slice am lm cm, .slice an ln cn, .slice al ll cl] 47)).alloc (.cells #[.int .i64 0, .int .i64 0, .slice none 0 0] 50)).alloc (.cells Z 5)).alloc (.cells #[.int .i64 n, .int .i64 n, .slice (some ⟨w.heap.size + 1 + 1, 0, none⟩) m m] 50)
  have HX := Lib.hid hX
  have HR := Lib.hid hR
  have HY := Lib.hid hY
  have HQ := Lib.hid hQ
  have HK := Lib.hid k4
  clear hX hR hY hQ k4 hmk HBM
  generalize (((w.alloc _).alloc _).alloc _).alloc _ = w4 at *
  have hsz := HK.out.size
  go_loopw [8] (fun i wr => ∃ (k : Nat) (F : Nat → Nat → Nat), k ≤ m ∧ i = .int .i64 k ∧ Bt F ∧ Mat wr (w.heap.size + 1 + 1) 0 1 m F ∧ w4.grownBy wr (some (w.heap.size + 1 + 1))) (fun i _ => m - (intOf i).toNat)
  case atStart => exact ⟨0, _, by omega, rfl, zeroF_bt, HQ.out, grown_refl _ _⟩
  case round =>
    obtain ⟨k, F, hk, rfl, hF, hmr, hg⟩ := hrel
    have HF := Lib.hid hF
    have HMR := Lib.hid hmr
    have HG := Lib.hid hg
    obtain ⟨p0, p1, p2⟩ := box3 (HX.out.grown hg (by simp; omega))
    obtain ⟨y0, y1, y2⟩ := box3 (HY.out.grown hg (by simp))
    by_cases hlt : k < m
    · have hcell := hmr.cell 0 k (by omega) hlt
      have hfree := hmr.free k
      simp only [Nat.zero_mul, Nat.zero_add] at hcell
      have hset := hmr.set (by omega : 0 < 1) hlt
      simp only [Nat.zero_mul, Nat.zero_add] at hset
      have HSET := Lib.hid hset
      have hx1 : ((k : Int) * (by' : Int)) = ((k * by' : Nat) : Int) := by simp
      have hkb : k * by' ≤ 576 := Nat.le_trans (Nat.mul_le_mul (by omega : k ≤ 64) hb') (by decide)
      generalize hkby : k * by' = kb at hx1 hkb
      obtain ⟨V, hV, hVe⟩ := wrap_u8 (wrap64 (wrap64 (wrap64 (wrap64 ((k : Int) * k) * by') + 7 * by') + k))
      rw [IntKind.wrap_u8] at hVe
      clear hF hmr hg hset hkby
      by_cases h0 : 0 < lm
      · obtain ⟨bm, om, ha, hc⟩ := HM.out.cells
        obtain rfl := ha h0
        obtain ⟨_, _, x, l, cap, zs, h1, _, _, h4, _, _, h7, h8⟩ := hc 0 h0
        have hll := h8.le
        have h4 := (World.cell?_of_block (a := ⟨bm, om + 0 * 3 + 2, none⟩) ((grown_trans (grown_kept HK.out _) HG.out).block bm h1 (by simp; omega))).trans h4
        simp only [Nat.zero_mul, Nat.add_zero] at h4
        have hne : bm ≠ w.heap.size + 1 + 1 := by omega
        have hne2 : w.heap.size + 1 + 1 ≠ bm := by omega
        clear ha hc
        by_cases h00 : 0 < l
        · obtain ⟨bx, ox, ha, hc⟩ := h8.cells
          obtain rfl := ha h00
          have hmod := Nat.mod_lt kb h00
          obtain ⟨hbx, hcx⟩ := hc _ hmod
          obtain ⟨u, hu, hue⟩ : ∃ u : Nat, u < 256 ∧ zs.getD (kb % l) 0 = (u : Int) := ⟨(zs.getD (kb % l) 0).toNat, by have := h8.u8 _ hmod; omega, by have := h8.u8 _ hmod; omega⟩
          rw [hue] at hcx
          have hcx := (World.cell?_of_block (a := ⟨bx, ox + kb % l, none⟩) ((grown_trans (grown_kept HK.out _) HG.out).block bx hbx (by simp; omega))).trans hcx
          have hne3 : bx ≠ w.heap.size + 1 + 1 := by omega
          have hne4 : w.heap.size + 1 + 1 ≠ bx := by omega
          clear ha hc h8
          go_wp2_with fail
          have hg5 := grown_set wr (w.heap.size + 1 + 1) k (.int .u8 (V : Int))
          have HS5 := Lib.hid (HSET.out V)
          have HG5 := Lib.hid (grown_trans HG.out hg5)
          have h4 := (World.cell?_of_block (a := ⟨bm, om + 2, none⟩) (hg5.block bm (cell_lt h4) (by simp; omega))).trans h4
          have hcx := (World.cell?_of_block (a := ⟨bx, ox + kb % l, none⟩) (hg5.block bx (cell_lt hcx) (by simp; omega))).trans hcx
          clear hcell hfree p0 p1 p2 y0 y1 y2 HSET HMR HG hg5
          generalize wr.setCell ⟨w.heap.size + 1 + 1, k, none⟩ (.int .u8 (V : Int)) = w5 at *
          obtain ⟨p0, p1, p2⟩ := box3 (HX.out.grown HG5.out (by simp; omega))
          obtain ⟨y0, y1, y2⟩ := box3 (HY.out.grown HG5.out (by simp))
          have hcell := HS5.out.cell 0 k (by omega) hlt
          have hfree := HS5.out.free k
          rw [show upd F 0 k V 0 k = V by simp [upd]] at hcell
          simp only [Nat.zero_mul, Nat.zero_add] at hcell
          have hst := fun q => (HS5.out.kept ((Kept.refl w5).drewN q)).set (by omega : 0 < 1) hlt
          simp only [Nat.zero_mul, Nat.zero_add] at hst
          have HST := Lib.hid hst
          have hxy := xor_u8 V u hV hu
          clear hst
          go_wp2_with fail
          refine (wpIn_wide (n := 0)).1 ?_
          refine wpIn_region_quiet_tail_lit 27 (by kernel_rfl) (by kernel_rfl) (by kernel_rfl) ?_
          simp only [List.take_succ_cons, List.take_zero, List.drop_succ_cons, List.drop_zero]
          repeat (gi_big_quiet_step (fail))
          refine wpQuietIn_nil ?_
          intro _ hw'
          obtain ⟨nq, hw''⟩ := hw'
          subst hw''
          gi_wp2
          go_wp2
          go_roundw
          case rel => exact ⟨k + 1, _, by omega, by go_num, upd_bt (upd_bt HF.out hV) (Nat.xor_lt_two_pow (n := 8) hV hu), HST.out nq _, grown_trans HG5.out (grown_trans (grown_kept ((Kept.refl w5).drewN nq) _) (grown_set _ _ _ _))⟩
          case measure => simp [intOf]; omega
        · go_wp2_with fail
          exact ⟨⟨k + 1, _, by omega, by go_num, upd_bt HF.out hV, HSET.out V, grown_trans HG.out (grown_set _ _ _ _)⟩, by simp [intOf]; omega⟩
      · go_wp2_with fail
        exact ⟨⟨k + 1, _, by omega, by go_num, upd_bt HF.out hV, HSET.out V, grown_trans HG.out (grown_set _ _ _ _)⟩, by simp [intOf]; omega⟩
    · obtain rfl : k = m := by omega
      have HR2 := Lib.hid (HR.out.grown hg (by simp))
      clear hF hmr hg
      go_wp2_with (refine wpList_store_block rfl 50 (.tmp 6) (.tmp 78) rfl _ #[.int .i64 n, .int .i64 n, .slice (some ⟨w.heap.size + 1 + 1, 0, none⟩) k k] #[.int .i64 0, .int .i64 0, .slice none 0 0] 50 rfl rfl HR2.out Try.infoMat rfl (one3 _ _ _ _ _) ?_)
      have g2 := grown_row wr (w.heap.size + 1) #[.int .i64 n, .int .i64 n, .slice (some ⟨w.heap.size + 1 + 1, 0, none⟩) k k]
      have hMR := HMR.out
      rw [← hmnn] at hMR
      refine bodyPost_ret (v := .agg #[.int .i64 n, .int .i64 n, .slice (some ⟨w.heap.size + 1 + 1, 0, none⟩) k k]) ?_ rfl ⟨_, _, _, rfl, by omega, fun i j => HF.out 0 (i * n + j), (mat_rect hMR).grown g2 (by simp), (Kept.grown HK.out HG.out (fun q e => by cases e; omega)).grown g2 (fun q e => by cases e; omega)⟩
      exact results_cell_row rfl _ _ (w.heap.size + 1) 50 #[.int .i64 n, .int .i64 n, .slice (some ⟨w.heap.size + 1 + 1, 0, none⟩) k k] (0, 0) _ rfl (HR2.out.setRow _) Try.underlying50 rfl Try.infoMat
end Go.Proofs.Ytlpjpeonejbpjaa
