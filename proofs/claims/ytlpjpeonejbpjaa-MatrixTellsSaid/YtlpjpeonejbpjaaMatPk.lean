/- matrix.Pick, by what it answers (numbers below 256). -/
import Derived.Test.YtlpjpeonejbpjaaMatCp
import Derived.Test.YtlpjpeonejbpjaaInts
namespace Go.Proofs.Ytlpjpeonejbpjaa
open Go.RowKit Go.Shelf
attribute [local go_sem] Oper.semAt_some

/-- may these rows be picked? as far as k -/
def pickOk (r : Nat) (zs : List Int) : Prop := ∀ i, i < zs.length → 0 ≤ zs.getD i 0 ∧ zs.getD i 0 < r
def pickF (F : Nat → Nat → Nat) (zs : List Int) : Nat → Nat → Nat := fun i j => F (zs.getD i 0).toNat j
def pickTo (F : Nat → Nat → Nat) (zs : List Int) (k : Nat) : Nat → Nat → Nat := fun i j => if i < k then pickF F zs i j else 0
def PickP (r c : Nat) (F : Nat → Nat → Nat) (zs : List Int) (w : World) (e : Ending) (w' : World) : Prop :=
  (pickOk r zs → ∃ b off, e = .returned (.tuple #[.agg #[.int .i64 zs.length, .int .i64 c, .slice (some ⟨b, off, none⟩) (zs.length * c) (zs.length * c)], .int .i64 0]) ∧ w.heap.size ≤ b ∧ Mat w' b off zs.length c (pickF F zs)) ∧
  (¬ pickOk r zs → e = .returned (.tuple #[.agg #[.int .i64 0, .int .i64 0, .slice none 0 0], .int .i64 1])) ∧ Kept w w'

set_option maxRecDepth 100000 in
set_option maxHeartbeats 1000000 in
theorem pick_bad (r c : Int) (a al : Option Addr) (l cap ll lcap : Nat) (h : matE r c l ≠ 0 ∨ sideB (ll : Int) = false) (w : World) :
    Calls Try.prog 36 #[.agg #[.int .i64 r, .int .i64 c, .slice a l cap], .slice al ll lcap] w fun e w' => e = .returned (.tuple #[.agg #[.int .i64 0, .int .i64 0, .slice none 0 0], .int .i64 1]) ∧ Kept w w' := by
  go_enter Try.func36, Try.ntmps36
  go_wp2_with fail
  refine (check_any r c a l cap _).mono ?_
  rintro e w1 ⟨rfl, hk1⟩
  have HK := Lib.hid ((((Kept.refl w).alloc _).alloc _).trans hk1)
  have HR := Lib.hid ((BlockAt.new1 w #[.int .i64 0, .int .i64 0, .slice none 0 0] 50 (.cells #[.int .i64 r, .int .i64 c, .slice a l cap] 50)).kept hk1)
  clear hk1
  by_cases h1 : matE r c l = 0
  · have hs : sideB (ll : Int) = false := by
      rcases h with h | h
      · exact absurd h1 h
      · exact h
    have HS := Lib.hid hs
    rw [h1]
    clear h h1 hs
    go_wp2_with fail
    refine (side_any _ _).mono ?_
    rintro e w' ⟨rfl, rfl⟩
    rw [HS.out]
    go_wp2_with (refine wpList_store_block rfl 50 (.tmp 4) (.tmp 18) rfl _ #[.int .i64 0, .int .i64 0, .slice none 0 0] #[.int .i64 0, .int .i64 0, .slice none 0 0] 50 rfl rfl HR.out Try.infoMat rfl (one3 _ _ _ _ _) ?_)
    refine bodyPost_ret (v := .tuple #[.agg #[.int .i64 0, .int .i64 0, .slice none 0 0], .int .i64 1]) ?_ rfl ⟨rfl, HK.out.setRow (by omega) _⟩
    exact results_row_tmp rfl _ _ (w.heap.size + 1) 50 #[.int .i64 0, .int .i64 0, .slice none 0 0] _ rfl (HR.out.setRow _) Try.underlying50 rfl Try.infoMat _ rfl
  · have hne : (matE r c l != 0) = true := by rw [bne_iff_ne]; exact h1
    clear h h1
    go_wp2_with (refine wpList_store_block rfl 50 (.tmp 4) (.tmp 18) rfl _ #[.int .i64 0, .int .i64 0, .slice none 0 0] #[.int .i64 0, .int .i64 0, .slice none 0 0] 50 rfl rfl HR.out Try.infoMat rfl (one3 _ _ _ _ _) ?_)
    refine bodyPost_ret (v := .tuple #[.agg #[.int .i64 0, .int .i64 0, .slice none 0 0], .int .i64 1]) ?_ rfl ⟨rfl, HK.out.setRow (by omega) _⟩
    exact results_row_tmp rfl _ _ (w.heap.size + 1) 50 #[.int .i64 0, .int .i64 0, .slice none 0 0] _ rfl (HR.out.setRow _) Try.underlying50 rfl Try.infoMat _ rfl

set_option maxRecDepth 100000 in
set_option maxHeartbeats 4000000 in
theorem pick_any (r c b off cap : Nat) (al : Option Addr) (ll lcap : Nat) (zs : List Int) (F : Nat → Nat → Nat) (hr : 1 ≤ r ∧ r ≤ 16) (hc : 1 ≤ c ∧ c ≤ 16) (hl : 1 ≤ ll ∧ ll ≤ 16) (hcap : r * c ≤ cap) (w : World) (hs : MatR w b off r c F) (hz : IntsIn w .i64 al ll zs) :
    Calls Try.prog 36 #[.agg #[.int .i64 r, .int .i64 c, .slice (some ⟨b, off, none⟩) (r * c) cap], .slice al ll lcap] w (PickP r c F zs w) := by
  have HE := Lib.hid (matE_ok hr hc)
  have HS := Lib.hid hs
  have HZ := Lib.hid hz
  have hsd : sideB (ll : Int) = true := by simp [sideB]; omega
  have HSD := Lib.hid hsd
  have HLEN := Lib.hid hz.len_eq
  clear hs hz hsd
  go_enter Try.func36, Try.ntmps36
  go_wp2_with fail
  refine (check_any r c _ _ _ _).mono ?_
  rintro e w1 ⟨rfl, hk1⟩
  rw [HE.out]
  have h1 := ((BlockAt.new w #[.int .i64 r, .int .i64 c, .slice (some ⟨b, off, none⟩) (r * c) cap] 50).kept ((Kept.refl _).alloc (.cells #[.int .i64 0, .int .i64 0, .slice none 0 0] 50))).kept hk1
  have hR := ((BlockAt.new1 w #[.int .i64 0, .int .i64 0, .slice none 0 0] 50 (.cells #[.int .i64 r, .int .i64 c, .slice (some ⟨b, off, none⟩) (r * c) cap] 50)).kept hk1)
  have HK1 := Lib.hid ((((Kept.refl w).alloc _).alloc _).trans hk1)
  have H1 := Lib.hid h1
  have HR := Lib.hid hR
  obtain ⟨a0, a1, a2⟩ := box3 h1
  clear hk1 h1 hR
  go_wp2_with fail
  refine (side_any _ _).mono ?_
  rintro e w' ⟨rfl, rfl⟩
  rw [HSD.out]
  go_wp2_with fail
  refine (blank_any ll c (by omega) (by omega) _).mono ?_
  rintro e w2 ⟨bm, o2, rfl, hbm, hM, hk2⟩
  clear a0 a1 a2
  have hz1 := HR.out.lt
  have hw1 := HK1.out.size
  have H12 := Lib.hid (H1.out.kept hk2)
  have HR2 := Lib.hid (HR.out.kept hk2)
  have HK2 := Lib.hid (HK1.out.trans hk2)
  have HM2 := Lib.hid hM
  have hlm := hM.lt
  have hz2 := HR2.out.lt
  clear hk2 hM H1 HR HK1
  go_wp2_with fail
  have k3 : Kept w2 (w2.alloc (.cells #[.int .i64 ll, .int .i64 c, .slice (some ⟨bm, o2, none⟩) (ll * c) (ll * c)] 50)) := (Kept.refl w2).alloc _
  have hb6 := BlockAt.new w2 #[.int .i64 ll, .int .i64 c, .slice (some ⟨bm, o2, none⟩) (ll * c) (ll * c)] 50
  generalize w2.alloc (.cells #[.int .i64 ll, .int .i64 c, .slice (some ⟨bm, o2, none⟩) (ll * c) (ll * c)] 50) = w3 at *
  have H13 := Lib.hid (H12.out.kept k3)
  have HR3 := Lib.hid (HR2.out.kept k3)
  have HK3 := Lib.hid (HK2.out.trans k3)
  have HM3 := Lib.hid (HM2.out.kept k3)
  have HB6 := Lib.hid hb6
  have hz3 := hb6.lt
  clear k3 hb6 H12 HR2 HK2 HM2
  generalize w2.heap.size = q6 at *
  clear w2
  go_loopw [26] (fun i wr => ∃ k : Nat, k ≤ ll ∧ i = .int .i64 k ∧ (∀ q, q < k → 0 ≤ zs.getD q 0 ∧ zs.getD q 0 < r) ∧ Mat wr bm o2 ll c (pickTo F zs k) ∧ w3.grownBy wr (some bm)) (fun i _ => ll - (intOf i).toNat)
  case atStart => exact ⟨0, by omega, rfl, fun q hq => absurd hq (Nat.not_lt_zero q), by rw [show pickTo F zs 0 = zeroF from by funext i j; simp [pickTo, zeroF]]; exact HM3.out, grown_refl _ _⟩
  case round =>
    obtain ⟨k, hk, rfl, hall, hm, hg⟩ := hrel
    have HALL := Lib.hid hall
    have HM := Lib.hid hm
    have HG := Lib.hid hg
    have hkw := Kept.grown HK3.out hg (fun k e => by cases e; omega)
    have HKW := Lib.hid hkw
    have HRW := Lib.hid (HR3.out.grown hg (by simp; omega))
    have h1w := H13.out.grown hg (by simp; omega)
    have h6w := HB6.out.grown hg (by simp; omega)
    clear hall hm hg hkw
    by_cases hlt : k < ll
    · obtain ⟨bz, oz, ha, hcz⟩ := HZ.out.cells
      obtain rfl := ha (by omega)
      have hck := HKW.out.cell (hcz k hlt).1 (hcz k hlt).2
      have hzb := HZ.out.i64 k hlt
      have HZD := Lib.hid (show pickF F zs k = F (zs.getD k 0).toNat from rfl)
      have hnot : ∀ z, zs.getD k 0 = z → (z < 0 ∨ (r : Int) ≤ z) → ¬ pickOk r zs := fun z e h hok => by
        have := hok k (by rw [HLEN.out]; exact hlt)
        omega
      have HNOT := Lib.hid hnot
      have hnext : ∀ z, zs.getD k 0 = z → 0 ≤ z → z < r → ∀ q, q < k + 1 → 0 ≤ zs.getD q 0 ∧ zs.getD q 0 < r := fun z e h0 h1 q hq => by
        by_cases e2 : q = k
        · subst e2; omega
        · exact HALL.out q (by omega)
      have HNEXT := Lib.hid hnext
      clear hnot hnext ha hcz
      generalize hzk : zs.getD k 0 = z at hck hzb HZD
      have HZK := Lib.hid hzk
      clear hzk
      obtain ⟨a0, a1, a2⟩ := box3 h1w
      by_cases hneg : z < 0
      · go_wp2_with (refine wpList_store_block rfl 50 (.tmp 4) (.tmp 39) rfl _ #[.int .i64 0, .int .i64 0, .slice none 0 0] #[.int .i64 0, .int .i64 0, .slice none 0 0] 50 rfl rfl HRW.out Try.infoMat rfl (one3 _ _ _ _ _) ?_)
        refine bodyPost_ret (v := .tuple #[.agg #[.int .i64 0, .int .i64 0, .slice none 0 0], .int .i64 1]) ?_ rfl ⟨fun h => absurd h (HNOT.out z HZK.out (.inl hneg)), fun _ => rfl, HKW.out.setRow (by omega) _⟩
        exact results_row_tmp rfl _ _ (w.heap.size + 1) 50 #[.int .i64 0, .int .i64 0, .slice none 0 0] _ rfl (HRW.out.setRow _) Try.underlying50 rfl Try.infoMat _ rfl
      · have hd : decide (z < 0) = false := decide_eq_false hneg
        by_cases hbig : (r : Int) ≤ z
        · go_wp2_with (refine wpList_store_block rfl 50 (.tmp 4) (.tmp 39) rfl _ #[.int .i64 0, .int .i64 0, .slice none 0 0] #[.int .i64 0, .int .i64 0, .slice none 0 0] 50 rfl rfl HRW.out Try.infoMat rfl (one3 _ _ _ _ _) ?_)
          refine bodyPost_ret (v := .tuple #[.agg #[.int .i64 0, .int .i64 0, .slice none 0 0], .int .i64 1]) ?_ rfl ⟨fun h => absurd h (HNOT.out z HZK.out (.inr hbig)), fun _ => rfl, HKW.out.setRow (by omega) _⟩
          exact results_row_tmp rfl _ _ (w.heap.size + 1) 50 #[.int .i64 0, .int .i64 0, .slice none 0 0] _ rfl (HRW.out.setRow _) Try.underlying50 rfl Try.infoMat _ rfl
        · obtain ⟨y, rfl⟩ : ∃ y : Nat, z = y := ⟨z.toNat, by omega⟩
          have hd2 : decide ((r : Int) ≤ (y : Int)) = false := decide_eq_false hbig
          have hyr : y < r := by omega
          obtain ⟨c0, c1, c2⟩ := box3 h6w
          have e0 := later_cell a0
          have e1 := later_cell a1
          have e2 := later_cell a2
          have f0 := later_cell c0
          have f1 := later_cell c1
          have f2 := later_cell c2
          have hneg' : ¬ (y : Int) < 0 := by omega
          clear hneg hzb
          go_wp2_with fail
          refine (wpIn_wide (n := 0)).1 ?_
          refine wpIn_region_later_tail 6 (by kernel_rfl) (by kernel_rfl) (by kernel_rfl) ?_
          simp only [List.take_succ_cons, List.take_zero, List.drop_succ_cons, List.drop_zero]
          repeat (gi_big_quiet_step ((gi_at_call 74; exact callsIn_wide.2 (later_call (row_any _ _ _ _ _ _ (by omega) ⟨hc.1, by omega⟩ (by first | exact hlt | exact hyr) (by first | exact Nat.le_refl _ | exact hcap) _)))))
          refine wpQuietIn_nil ?_
          intro _ hw'
          obtain ⟨nq, hw''⟩ := hw'
          subst hw''
          clear e0 e1 e2 f0 f1 f2 a0 a1 a2 c0 c1 c2
          have hkq : Kept wr nq.1 := nq.2
          obtain ⟨w4, hrun, hg4, hm4⟩ := copy_row (n := c) (dLen := c) (dCap := ll * c - k * c) (sLen := c) (sCap := cap - y * c) (b2 := b) (o2 := off + y * c) (F y) (HM.out.kept hkq) hlt hc.1 (Nat.le_refl c) (by show c = min c c; omega)
            (fun j hj => (HS.out.kept (HKW.out.trans hkq)) y j hyr hj) 3
          have HRUN := Lib.hid hrun
          have hgt := grown_trans (grown_kept hkq (some bm)) hg4
          have hst := hm4.congr (G := pickTo F zs (k + 1)) (fun i j hi hj => by
            unfold rowOf pickTo
            by_cases e : i = k
            · subst e
              rw [if_pos ⟨rfl, hj⟩, if_pos (by omega), HZD.out]
              simp
            · rw [if_neg (fun h => e h.1)]
              by_cases e2 : i < k
              · rw [if_pos e2, if_pos (by omega)]
              · rw [if_neg e2, if_neg (by omega)])
          have HST := Lib.hid hst
          have HGT := Lib.hid hgt
          clear hm4 hst hg4 hgt hrun hkq
          gi_wp2_with (refine wpListIn_copy_run _ rfl _ _ 44 44 rfl _ _ rfl rfl HRUN.out ?_)
          go_wp2
          go_roundw
          case rel => exact ⟨k + 1, by omega, by go_num, HNEXT.out _ HZK.out (by omega) (by omega), HST.out, grown_trans HG.out HGT.out⟩
          case measure => simp [intOf]; omega
    · obtain rfl : k = ll := by omega
      have hok : pickOk r zs := fun i hi => HALL.out i (by rw [← HLEN.out]; exact hi)
      have hmf := HM.out.congr (G := pickF F zs) (fun i j hi _ => by unfold pickTo; rw [if_pos hi])
      have HMF := Lib.hid hmf
      have HOK := Lib.hid hok
      obtain ⟨x0, x1, x2⟩ := box3 h6w
      have hbl2 := HM.out.lt
      clear h1w hmf hok
      go_wp2_with (refine wpList_store_block rfl 50 (.tmp 4) (.tmp 48) rfl _ #[.int .i64 k, .int .i64 c, .slice (some ⟨bm, o2, none⟩) (k * c) (k * c)] #[.int .i64 0, .int .i64 0, .slice none 0 0] 50 rfl rfl HRW.out Try.infoMat rfl (one3 _ _ _ _ _) ?_)
      have g1 := grown_row wr (w.heap.size + 1) #[.int .i64 k, .int .i64 c, .slice (some ⟨bm, o2, none⟩) (k * c) (k * c)]
      refine bodyPost_ret (v := .tuple #[.agg #[.int .i64 k, .int .i64 c, .slice (some ⟨bm, o2, none⟩) (k * c) (k * c)], .int .i64 0]) ?_ rfl ⟨fun _ => ⟨bm, o2, by rw [HLEN.out], by omega, by rw [HLEN.out]; exact HMF.out.grown g1 (by simp; omega)⟩, fun h => absurd HOK.out h, Kept.grown HKW.out g1 (fun k e => by cases e; omega)⟩
      exact results_row_tmp rfl _ _ (w.heap.size + 1) 50 #[.int .i64 k, .int .i64 c, .slice (some ⟨bm, o2, none⟩) (k * c) (k * c)] _ rfl (HRW.out.setRow _) Try.underlying50 rfl Try.infoMat _ rfl
end Go.Proofs.Ytlpjpeonejbpjaa
