/- Rows of a matrix: one taken out, scaled, added, changed with another one, by what they do (sides within bounds, numbers below 256). -/
import Derived.Test.YtlpjpeonejbpjaaMatW
import Derived.Test.YtlpjpeonejbpjaaMat
import Derived.Test.YtlpjpeonejbpjaaLaneD
import Derived.Test.YtlpjpeonejbpjaaTail
import Derived.Outline
namespace Go.Proofs.Ytlpjpeonejbpjaa
open Go.RowKit

set_option maxRecDepth 100000 in
set_option maxHeartbeats 400000 in
theorem row_any (r c b off cap n : Nat) (hr : r ≤ 64) (hc : 1 ≤ c ∧ c ≤ 64) (hn : n < r) (hcap : r * c ≤ cap) (w : World) :
    Calls Try.prog 74 #[.agg #[.int .i64 r, .int .i64 c, .slice (some ⟨b, off, none⟩) (r * c) cap], .int .i64 n] w fun e w' => e = .returned (.slice (some ⟨b, off + n * c, none⟩) c (cap - n * c)) ∧ Kept w w' := by
  have h1 := Nat.mul_le_mul hr hc.2
  have h2 := idx_lt (c := c) (j := 0) hn (by omega)
  have h3 := Nat.mul_le_mul_right c (Nat.succ_le_of_lt hn)
  rw [Nat.succ_mul] at h3
  have hm1 : (n : Int) * (c : Int) = ((n * c : Nat) : Int) := by simp
  have hm2 : ((n : Int) + 1) * (c : Int) = ((n * c + c : Nat) : Int) := by rw [Int.add_mul]; simp
  generalize n * c = p at *
  generalize r * c = l at *
  obtain ⟨q, hq⟩ : ∃ q, q = p + c := ⟨_, rfl⟩
  rw [← hq] at hm2
  have hlt : p < q := by omega
  have hqc : q ≤ cap := by omega
  have hpc : p < cap := by omega
  have hql : q ≤ 4096 := by omega
  have hne : ¬ cap = p := by omega
  have HQ := Lib.hid (show q - p = c by omega)
  clear hq h2 h3
  go_enter Try.func74, Try.ntmps74
  go_wp2
  go_ret
  exact ⟨by simp [HQ.out], (Kept.refl w).alloc _⟩
set_option maxRecDepth 100000 in
set_option maxHeartbeats 400000 in
theorem scale_row (r c b off cap a v : Nat) (F : Nat → Nat → Nat) (hF : Bt F) (hc : c ≤ 64) (ha : a < r) (hv : v < 256) (w : World) (h : Mat w b off r c F) :
    Calls Try.prog 89 #[.slice (some ⟨b, off + a * c, none⟩) c cap, .int .u8 v] w fun e w' => (∃ u, e = .returned u) ∧ Mat w' b off r c (scaleF F a v) ∧ w.grownBy w' (some b) := by
  have HM := Lib.hid h
  have HG := Lib.hid (grown_refl w (some b))
  clear h
  go_enter Try.func89, Try.ntmps89
  go_wp2
  go_loopw [8] (fun i wr => ∃ k : Nat, k ≤ c ∧ i = .int .i64 k ∧ Mat wr b off r c (rowTo F (scaleF F a v) a k) ∧ w.grownBy wr (some b)) (fun i _ => c - (intOf i).toNat)
  case atStart => exact ⟨0, by omega, rfl, by rw [rowTo_zero]; exact HM.out, HG.out⟩
  case round =>
    obtain ⟨k, hk, rfl, hm, hg⟩ := hrel
    have HK := Lib.hid hm
    have HG2 := Lib.hid hg
    by_cases hlt : k < c
    · have hcell := hm.cell a k ha hlt
      rw [rowTo_at] at hcell
      have hfree := hm.free (off + a * c + k)
      have hst := hm.set ha hlt (Gf.mul (F a k) v)
      have hsc : Gf.mul (F a k) v = scaleF F a v a k := by simp [scaleF]
      rw [hsc, rowTo_succ, ← hsc] at hst
      have hx := hF a k
      generalize F a k = x at hcell hst hx
      have HST := Lib.hid hst
      clear hm hg hst hsc
      go_wp2_with fail
      refine (mul_any x v hx hv _).mono ?_
      rintro e w' ⟨rfl, rfl⟩
      go_wp2
      go_roundw
      case rel => exact ⟨k + 1, by omega, by go_num, HST.out, grown_trans HG2.out (grown_set _ _ _ _)⟩
      case measure => simp [intOf]; omega
    · obtain rfl : k = c := by omega
      have hfin := hm.congr (G := scaleF F a v) (fun i j _ hj => by
        unfold rowTo scaleF
        by_cases e : i = a
        · rw [if_pos ⟨e, hj⟩]
        · rw [if_neg (fun h => e h.1), if_neg e])
      have HF := Lib.hid hfin
      clear hm hg hfin
      go_wp2
      go_end0
      exact ⟨⟨_, rfl⟩, HF.out, HG2.out⟩
/-- a row and v times other numbers -/
def addRowF (F : Nat → Nat → Nat) (a : Nat) (H : Nat → Nat) (v : Nat) : Nat → Nat → Nat := fun i j => if i = a then F a j ^^^ Gf.mul (H j) v else F i j
set_option maxRecDepth 100000 in
set_option maxHeartbeats 400000 in
theorem add_row (r c b off cap a v b2 o2 cap2 : Nat) (F : Nat → Nat → Nat) (H : Nat → Nat) (hF : Bt F) (hH : ∀ j, H j < 256) (hc : c ≤ 64) (ha : a < r) (hv : v < 256) (w : World) (h : Mat w b off r c F)
    (hsrc : ∀ wr k, w.grownBy wr (some b) → Mat wr b off r c (rowTo F (addRowF F a H v) a k) → ∀ j, j < c → wr.cell? ⟨b2, o2 + j, none⟩ = some (.int .u8 ((H j : Nat) : Int))) :
    Calls Try.prog 78 #[.slice (some ⟨b, off + a * c, none⟩) c cap, .slice (some ⟨b2, o2, none⟩) c cap2, .int .u8 v] w fun e w' => (∃ u, e = .returned u) ∧ Mat w' b off r c (addRowF F a H v) ∧ w.grownBy w' (some b) := by
  have HM := Lib.hid h
  have HG := Lib.hid (grown_refl w (some b))
  have HS := Lib.hid hsrc
  clear h hsrc
  go_enter Try.func78, Try.ntmps78
  go_wp2
  go_loopw [10] (fun i wr => ∃ k : Nat, k ≤ c ∧ i = .int .i64 k ∧ Mat wr b off r c (rowTo F (addRowF F a H v) a k) ∧ w.grownBy wr (some b)) (fun i _ => c - (intOf i).toNat)
  case atStart => exact ⟨0, by omega, rfl, by rw [rowTo_zero]; exact HM.out, HG.out⟩
  case round =>
    obtain ⟨k, hk, rfl, hm, hg⟩ := hrel
    have HK := Lib.hid hm
    have HG2 := Lib.hid hg
    by_cases hlt : k < c
    · have hcell := hm.cell a k ha hlt
      rw [rowTo_at] at hcell
      have hfree := hm.free (off + a * c + k)
      have hsc2 := HS.out wr k hg hm k hlt
      have hst := fun q => (hm.kept ((Kept.refl wr).drewN q)).set ha hlt (F a k ^^^ Gf.mul (H k) v)
      have hsc : F a k ^^^ Gf.mul (H k) v = addRowF F a H v a k := by simp [addRowF]
      rw [hsc] at hst
      simp only [rowTo_succ] at hst
      rw [← hsc] at hst
      have hx := hF a k
      have hy := hH k
      generalize F a k = x at hcell hst hx
      generalize H k = y at hst hsc2 hy
      have hmy := Gf.mul_lt hy v
      have HST := Lib.hid hst
      clear hm hg hst hsc
      go_wp2_with fail
      refine (wpIn_wide (n := 0)).1 ?_
      refine wpIn_region_quiet_tail_lit 11 (by kernel_rfl) (by kernel_rfl) (by kernel_rfl) ?_
      simp only [List.take_succ_cons, List.take_zero, List.drop_succ_cons, List.drop_zero]
      repeat (gi_big_quiet_step ((first | (gi_at_call 95; exact callsIn_wide.2 (quietly (mul_any _ _ hy hv _))) | (gi_at_call 69; exact callsIn_wide.2 (quietly (add_any _ _ hx hmy _))))))
      refine wpQuietIn_nil ?_
      intro _ hw'
      obtain ⟨nq, hw''⟩ := hw'
      subst hw''
      gi_wp2
      go_wp2
      go_roundw
      case rel => exact ⟨k + 1, by omega, by go_num, HST.out nq, grown_trans HG2.out (grown_trans (grown_kept ((Kept.refl wr).drewN nq) _) (grown_set _ _ _ _))⟩
      case measure => simp [intOf]; omega
    · obtain rfl : k = c := by omega
      have hfin := hm.congr (G := addRowF F a H v) (fun i j _ hj => by
        unfold rowTo addRowF
        by_cases e : i = a
        · rw [if_pos ⟨e, hj⟩]
        · rw [if_neg (fun h => e h.1), if_neg e])
      have HF := Lib.hid hfin
      clear hm hg hfin
      go_wp2
      go_end0
      exact ⟨⟨_, rfl⟩, HF.out, HG2.out⟩
set_option maxRecDepth 100000 in
set_option maxHeartbeats 800000 in
theorem swap_rows (r c b off cap cap2 a a2 : Nat) (F : Nat → Nat → Nat) (hF : Bt F) (hc : c ≤ 64) (ha : a < r) (ha2 : a2 < r) (hne : a ≠ a2) (w : World) (h : Mat w b off r c F) :
    Calls Try.prog 87 #[.slice (some ⟨b, off + a * c, none⟩) c cap, .slice (some ⟨b, off + a2 * c, none⟩) c cap2] w fun e w' => (∃ u, e = .returned u) ∧ Mat w' b off r c (swapF F a a2) ∧ w.grownBy w' (some b) := by
  have HM := Lib.hid h
  have HG := Lib.hid (grown_refl w (some b))
  have HN := Lib.hid hne
  clear h hne
  go_enter Try.func87, Try.ntmps87
  go_wp2
  go_loopw [7] (fun i wr => ∃ k : Nat, k ≤ c ∧ i = .int .i64 k ∧ Mat wr b off r c (rowTo (rowTo F (swapF F a a2) a k) (swapF F a a2) a2 k) ∧ w.grownBy wr (some b)) (fun i _ => c - (intOf i).toNat)
  case atStart => exact ⟨0, by omega, rfl, by rw [rowTo_zero, rowTo_zero]; exact HM.out, HG.out⟩
  case round =>
    obtain ⟨k, hk, rfl, hm, hg⟩ := hrel
    have HK := Lib.hid hm
    have HG2 := Lib.hid hg
    by_cases hlt : k < c
    · have hcell := hm.cell a k ha hlt
      have hcell2 := hm.cell a2 k ha2 hlt
      have e1 : rowTo (rowTo F (swapF F a a2) a k) (swapF F a a2) a2 k a k = F a k := by simp [rowTo, HN.out]
      have e2 : rowTo (rowTo F (swapF F a a2) a k) (swapF F a a2) a2 k a2 k = F a2 k := by simp [rowTo]
      rw [e1] at hcell
      rw [e2] at hcell2
      have hfree := hm.free (off + a * c + k)
      have hfree2 := hm.free (off + a2 * c + k)
      have hst := (hm.set ha hlt (F a2 k)).set ha2 hlt (F a k)
      have hx := hF a k
      have hy := hF a2 k
      have hfin : upd (upd (rowTo (rowTo F (swapF F a a2) a k) (swapF F a a2) a2 k) a k (F a2 k)) a2 k (F a k) = rowTo (rowTo F (swapF F a a2) a (k + 1)) (swapF F a a2) a2 (k + 1) := by
        have g1 : swapF F a a2 a k = F a2 k := by simp [swapF]
        have g2 : swapF F a a2 a2 k = F a k := by simp [swapF, Ne.symm HN.out]
        rw [← g1, ← g2, ← rowTo_succ F, ← rowTo_succ]
        congr 1
        funext i j
        have hn := HN.out
        unfold upd rowTo
        by_cases h1 : i = a2
        · subst h1; simp [Ne.symm hn]
        · simp [h1]
      rw [hfin] at hst
      have haddr : (⟨b, off + a * c + k, none⟩ : Addr) ≠ ⟨b, off + a2 * c + k, none⟩ := fun h => HN.out (by
        have h2 : off + a * c + k = off + a2 * c + k := (Addr.mk.inj h).2.1
        exact (idx_inj (c := c) (j := k) (j' := k) hlt hlt (by omega)).1)
      have hcell3 : ∀ u, (wr.setCell ⟨b, off + a * c + k, none⟩ u).cell? ⟨b, off + a2 * c + k, none⟩ = some (.int .u8 ((F a2 k : Nat) : Int)) := fun u => by
        rw [World.cell?_setCell_other (h := haddr)]; exact hcell2
      generalize F a k = x at hcell hst hx
      generalize F a2 k = y at hcell2 hst hy hcell3
      generalize off + a * c = o1 at *
      generalize off + a2 * c = o2 at *
      have HST := Lib.hid hst
      clear hm hg hst e1 e2 hfin haddr
      go_wp2_with fail
      go_region
      go_wp2
      go_roundw
      case rel => exact ⟨k + 1, by omega, by go_num, HST.out.kept ((Kept.refl _).drew), grown_trans HG2.out (grown_trans (grown_set _ _ _ _) (grown_trans (grown_set _ _ _ _) (grown_kept ((Kept.refl _).drew) _)))⟩
      case measure => simp [intOf]; omega
    · obtain rfl : k = c := by omega
      have hfin := hm.congr (G := swapF F a a2) (fun i j _ hj => by
        have hn := HN.out
        unfold rowTo swapF
        by_cases e : i = a2
        · rw [if_pos ⟨e, hj⟩]
        · rw [if_neg (fun h => e h.1)]
          by_cases e2 : i = a
          · rw [if_pos ⟨e2, hj⟩]
          · rw [if_neg (fun h => e2 h.1), if_neg e2, if_neg e])
      have HF := Lib.hid hfin
      clear hm hg hfin
      go_wp2
      go_end0
      exact ⟨⟨_, rfl⟩, HF.out, HG2.out⟩
set_option maxRecDepth 100000 in
set_option maxHeartbeats 800000 in
theorem swap_same (r c b off cap cap2 a : Nat) (F : Nat → Nat → Nat) (hF : Bt F) (hc : c ≤ 64) (ha : a < r) (w : World) (h : Mat w b off r c F) :
    Calls Try.prog 87 #[.slice (some ⟨b, off + a * c, none⟩) c cap, .slice (some ⟨b, off + a * c, none⟩) c cap2] w fun e w' => (∃ u, e = .returned u) ∧ Mat w' b off r c F ∧ w.grownBy w' (some b) := by
  have HM := Lib.hid h
  have HG := Lib.hid (grown_refl w (some b))
  clear h
  go_enter Try.func87, Try.ntmps87
  go_wp2
  go_loopw [7] (fun i wr => ∃ k : Nat, k ≤ c ∧ i = .int .i64 k ∧ Mat wr b off r c F ∧ w.grownBy wr (some b)) (fun i _ => c - (intOf i).toNat)
  case atStart => exact ⟨0, by omega, rfl, HM.out, HG.out⟩
  case round =>
    obtain ⟨k, hk, rfl, hm, hg⟩ := hrel
    have HK := Lib.hid hm
    have HG2 := Lib.hid hg
    by_cases hlt : k < c
    · have hcell := hm.cell a k ha hlt
      have hfree := hm.free (off + a * c + k)
      have hst := (hm.set ha hlt (F a k)).set ha hlt (F a k)
      have hsame : upd (upd F a k (F a k)) a k (F a k) = F := by
        funext i j
        unfold upd
        by_cases e : i = a ∧ j = k
        · rw [if_pos e, e.1, e.2]
        · rw [if_neg e, if_neg e]
      rw [hsame] at hst
      have hx := hF a k
      have hcell3 : ∀ u, (wr.setCell ⟨b, off + a * c + k, none⟩ u).cell? ⟨b, off + a * c + k, none⟩ = some u := fun u => World.cell?_setCell_same _ _ _ hcell
      generalize F a k = x at hcell hst hx
      generalize off + a * c = o1 at *
      have HST := Lib.hid hst
      clear hm hg hst hsame
      go_wp2_with fail
      go_region
      go_wp2
      go_roundw
      case rel => exact ⟨k + 1, by omega, by go_num, HST.out.kept ((Kept.refl _).drew), grown_trans HG2.out (grown_trans (grown_set _ _ _ _) (grown_trans (grown_set _ _ _ _) (grown_kept ((Kept.refl _).drew) _)))⟩
      case measure => simp [intOf]; omega
    · clear hm hg
      go_wp2
      go_end0
      exact ⟨⟨_, rfl⟩, HK.out, HG2.out⟩
theorem swap_any (r c b off cap cap2 a a2 : Nat) (F : Nat → Nat → Nat) (hF : Bt F) (hc : c ≤ 64) (ha : a < r) (ha2 : a2 < r) (w : World) (h : Mat w b off r c F) :
    Calls Try.prog 87 #[.slice (some ⟨b, off + a * c, none⟩) c cap, .slice (some ⟨b, off + a2 * c, none⟩) c cap2] w fun e w' => (∃ u, e = .returned u) ∧ Mat w' b off r c (swapF F a a2) ∧ w.grownBy w' (some b) := by
  by_cases e : a = a2
  · subst e
    rw [swapF_same]
    exact swap_same r c b off cap cap2 a F hF hc ha w h
  · exact swap_rows r c b off cap cap2 a a2 F hF hc ha ha2 e w h
end Go.Proofs.Ytlpjpeonejbpjaa
