/- siloref1's rows changed, scaled and added, by what they do (sides within bounds, numbers below 256). -/
import Derived.Test.YtlpjpeonejbpjaaByt
import Derived.Test.YtlpjpeonejbpjaaFieldB
import Derived.BigRegion
namespace Go.Proofs.Ytlpjpeonejbpjaa
open Go.RowKit

theorem mul_cast (a c : Nat) : (a : Int) * (c : Int) = ((a * c : Nat) : Int) := by simp
set_option maxRecDepth 100000 in
set_option maxHeartbeats 1000000 in
theorem rscale (r c b off cap a v : Nat) (F : Nat → Nat → Nat) (hF : Bt F) (hr : r ≤ 16) (hc : c ≤ 16) (ha : a < r) (hv : v < 256) (w : World) (h : Mat w b off r c F) :
    Calls Try.prog 93 #[.agg #[.int .i64 r, .int .i64 c, .slice (some ⟨b, off, none⟩) (r * c) cap], .int .i64 a, .int .u8 v] w fun e w' => (∃ u, e = .returned u) ∧ Mat w' b off r c (scaleF F a v) ∧ w.grownBy w' (some b) := by
  have k1 : Kept w (w.alloc (.cells #[.int .i64 r, .int .i64 c, .slice (some ⟨b, off, none⟩) (r * c) cap] 50)) := (Kept.refl w).alloc _
  have hb := BlockAt.new w #[.int .i64 r, .int .i64 c, .slice (some ⟨b, off, none⟩) (r * c) cap] 50
  have HM := Lib.hid (h.kept k1)
  have HB := Lib.hid hb
  have HG := Lib.hid (grown_kept k1 (some b))
  have hbl := h.lt
  have hm := mul_cast a c
  have hrc := Nat.mul_le_mul hr hc
  have hac : ∀ k, k < c → a * c + k < r * c := fun k hk => idx_lt ha hk
  have HAC := Lib.hid hac
  clear h hb k1 hac
  go_enter Try.func93, Try.ntmps93
  go_wp2
  generalize w.alloc (.cells #[.int .i64 r, .int .i64 c, .slice (some ⟨b, off, none⟩) (r * c) cap] 50) = w1 at *
  go_loopw [6] (fun i wr => ∃ k : Nat, k ≤ c ∧ i = .int .i64 k ∧ Mat wr b off r c (rowTo F (scaleF F a v) a k) ∧ w1.grownBy wr (some b)) (fun i _ => c - (intOf i).toNat)
  case atStart => exact ⟨0, by omega, rfl, by rw [rowTo_zero]; exact HM.out, grown_refl _ _⟩
  case round =>
    obtain ⟨k, hk, rfl, hmr, hg⟩ := hrel
    have HK := Lib.hid hmr
    have HG2 := Lib.hid hg
    obtain ⟨x0, x1, x2⟩ := box3 (HB.out.grown hg (by simp; omega))
    by_cases hlt : k < c
    · have hcell := hmr.cell a k ha hlt
      rw [rowTo_at, Nat.add_assoc] at hcell
      have hfree := hmr.free (off + (a * c + k))
      have hst := fun q => (hmr.kept ((Kept.refl wr).drewN q)).set ha hlt (Gf.mul (F a k) v)
      have hsc : Gf.mul (F a k) v = scaleF F a v a k := by simp [scaleF]
      rw [hsc] at hst
      simp only [rowTo_succ] at hst
      rw [← hsc, Nat.add_assoc] at hst
      have hx := hF a k
      have hlt2 := HAC.out k hlt
      have hsum : ((a * c : Nat) : Int) + (k : Int) = ((a * c + k : Nat) : Int) := by simp
      generalize F a k = x at hcell hst hx
      have HST := Lib.hid hst
      clear hmr hg hst hsc
      generalize hac : a * c = ac at *
      generalize hak : ac + k = ak at *
      have HAC1 := Lib.hid hac
      have HAK1 := Lib.hid hak
      clear hac hak
      go_wp2_with fail
      refine (wpIn_wide (n := 0)).1 ?_
      refine wpIn_region_quiet_tail_lit 21 (by kernel_rfl) (by kernel_rfl) (by kernel_rfl) ?_
      simp only [List.take_succ_cons, List.take_zero, List.drop_succ_cons, List.drop_zero]
      repeat (gi_big_quiet_step ((gi_at_call 68; exact callsIn_wide.2 (quietly (refmul_any x v hx hv _)))))
      refine wpQuietIn_nil ?_
      intro _ hw'
      obtain ⟨nq, hw''⟩ := hw'
      subst hw''
      gi_wp2
      go_wp2
      go_roundw
      case rel => exact ⟨k + 1, by omega, by go_num, HST.out nq, grown_trans HG2.out (grown_trans (grown_kept ((Kept.refl wr).drewN nq) _) (grown_set _ _ _ _))⟩
      case measure => simp [intOf]; omega
    · obtain rfl : k = c := by omega
      have hfin := hmr.congr (G := scaleF F a v) (fun i j _ hj => by
        unfold rowTo scaleF
        by_cases e : i = a
        · rw [if_pos ⟨e, hj⟩]
        · rw [if_neg (fun h => e h.1), if_neg e])
      have HF := Lib.hid hfin
      clear hmr hg hfin
      go_wp2
      go_end0
      exact ⟨⟨_, rfl⟩, HF.out, grown_trans HG.out HG2.out⟩
set_option maxRecDepth 100000 in
set_option maxHeartbeats 1000000 in
theorem radd (r c b off cap a t v : Nat) (F : Nat → Nat → Nat) (hF : Bt F) (hr : r ≤ 16) (hc : c ≤ 16) (ha : a < r) (ht : t < r) (hat : a ≠ t) (hv : v < 256) (w : World) (h : Mat w b off r c F) :
    Calls Try.prog 94 #[.agg #[.int .i64 r, .int .i64 c, .slice (some ⟨b, off, none⟩) (r * c) cap],   .int .i64 a, .int .i64 t, .int .u8 v] w fun e w' => (∃ u, e = .returned u) ∧ Mat w' b off r c (addF F a t v) ∧ w.grownBy w' (some b) := by
  have k1 : Kept w (w.alloc (.cells #[.int .i64 r, .int .i64 c, .slice (some ⟨b, off, none⟩) (r * c) cap] 50)) := (Kept.refl w).alloc _
  have hb := BlockAt.new w #[.int .i64 r, .int .i64 c, .slice (some ⟨b, off, none⟩) (r * c) cap] 50
  have HM := Lib.hid (h.kept k1)
  have HB := Lib.hid hb
  have HG := Lib.hid (grown_kept k1 (some b))
  have hbl := h.lt
  have hm := mul_cast a c
  have hmt := mul_cast t c
  have HAT := Lib.hid hat
  have hrc := Nat.mul_le_mul hr hc
  have hac : ∀ k, k < c → a * c + k < r * c := fun k hk => idx_lt ha hk
  have HAC := Lib.hid hac
  have htc : ∀ k, k < c → t * c + k < r * c := fun k hk => idx_lt ht hk
  have HTC := Lib.hid htc
  clear h hb k1 hac htc hat
  go_enter Try.func94, Try.ntmps94
  go_wp2
  generalize w.alloc (.cells #[.int .i64 r, .int .i64 c, .slice (some ⟨b, off, none⟩) (r * c) cap] 50) = w1 at *
  go_loopw [8] (fun i wr => ∃ k : Nat, k ≤ c ∧ i = .int .i64 k ∧ Mat wr b off r c (rowTo F (addF F a t v) a k) ∧ w1.grownBy wr (some b)) (fun i _ => c - (intOf i).toNat)
  case atStart => exact ⟨0, by omega, rfl, by rw [rowTo_zero]; exact HM.out, grown_refl _ _⟩
  case round =>
    obtain ⟨k, hk, rfl, hmr, hg⟩ := hrel
    have HK := Lib.hid hmr
    have HG2 := Lib.hid hg
    obtain ⟨x0, x1, x2⟩ := box3 (HB.out.grown hg (by simp; omega))
    by_cases hlt : k < c
    · have hcell := hmr.cell a k ha hlt
      rw [rowTo_at, Nat.add_assoc] at hcell
      have hfree := hmr.free (off + (a * c + k))
      have hcell2 := hmr.cell t k ht hlt
      rw [show rowTo F (addF F a t v) a k t k = F t k from if_neg (fun e => HAT.out e.1.symm), Nat.add_assoc] at hcell2
      have hst := fun q => (hmr.kept ((Kept.refl wr).drewN q)).set ha hlt (F a k ^^^ Gf.mul (F t k) v)
      have hsc : F a k ^^^ Gf.mul (F t k) v = addF F a t v a k := by simp [addF]
      rw [hsc] at hst
      simp only [rowTo_succ] at hst
      rw [← hsc, Nat.add_assoc] at hst
      have hx := hF a k
      have hy := hF t k
      have hlt2 := HAC.out k hlt
      have hlt3 := HTC.out k hlt
      have hsumt : ((t * c : Nat) : Int) + (k : Int) = ((t * c + k : Nat) : Int) := by simp
      have hsum : ((a * c : Nat) : Int) + (k : Int) = ((a * c + k : Nat) : Int) := by simp
      generalize F a k = x at hcell hst hx
      generalize F t k = y at hcell2 hst hy
      have hxy := xor_u8 x (Gf.mul y v) hx (Gf.mul_lt hy v)
      have hmy := Gf.mul_lt hy v
      have HST := Lib.hid hst
      clear hmr hg hst hsc
      generalize hac : a * c = ac at *
      generalize hak : ac + k = ak at *
      have HAC1 := Lib.hid hac
      have HAK1 := Lib.hid hak
      generalize htc : t * c = tc at *
      generalize htk : tc + k = tk at *
      have HTC1 := Lib.hid htc
      have HTK1 := Lib.hid htk
      clear hac hak htc htk
      go_wp2_with fail
      refine (wpIn_wide (n := 0)).1 ?_
      refine wpIn_region_quiet_tail_lit 32 (by kernel_rfl) (by kernel_rfl) (by kernel_rfl) ?_
      simp only [List.take_succ_cons, List.take_zero, List.drop_succ_cons, List.drop_zero]
      repeat (gi_big_quiet_step ((gi_at_call 68; exact callsIn_wide.2 (quietly (refmul_any y v hy hv _)))))
      refine wpQuietIn_nil ?_
      intro _ hw'
      obtain ⟨nq, hw''⟩ := hw'
      subst hw''
      gi_wp2
      go_wp2
      go_roundw
      case rel => exact ⟨k + 1, by omega, by go_num, HST.out nq, grown_trans HG2.out (grown_trans (grown_kept ((Kept.refl wr).drewN nq) _) (grown_set _ _ _ _))⟩
      case measure => simp [intOf]; omega
    · obtain rfl : k = c := by omega
      have hfin := hmr.congr (G := addF F a t v) (fun i j _ hj => by
        unfold rowTo addF
        by_cases e : i = a
        · rw [if_pos ⟨e, hj⟩]
        · rw [if_neg (fun h => e h.1), if_neg e])
      have HF := Lib.hid hfin
      clear hmr hg hfin
      go_wp2
      go_end0
      exact ⟨⟨_, rfl⟩, HF.out, grown_trans HG.out HG2.out⟩
end Go.Proofs.Ytlpjpeonejbpjaa
