/- siloref1.One, by what it answers (sizes within bounds). -/
import Derived.Test.YtlpjpeonejbpjaaMatOne
import Derived.Test.YtlpjpeonejbpjaaRefM
import Derived.BigRegion
namespace Go.Proofs.Ytlpjpeonejbpjaa
open Go.RowKit

/-- One as far as row k -/
def oneTo (k : Nat) : Nat → Nat → Nat := fun i j => if i = j ∧ i < k then 1 else 0
theorem oneTo_zero : oneTo 0 = zeroF := by funext i j; simp [oneTo, zeroF]
theorem oneTo_succ (k : Nat) : upd (oneTo k) k k 1 = oneTo (k + 1) := by
  funext i j
  unfold upd oneTo
  by_cases h : i = k ∧ j = k
  · obtain ⟨rfl, rfl⟩ := h; simp
  · rw [if_neg h]
    by_cases e : i = j
    · subst e
      have hk : i ≠ k := fun h' => h ⟨h', h'⟩
      have : i < k + 1 ↔ i < k := by omega
      simp [this]
    · simp [e]
theorem oneTo_all (n i j : Nat) (hi : i < n) : oneTo n i j = oneF i j := by
  unfold oneTo oneF
  by_cases e : i = j
  · subst e; simp [hi]
  · simp [e]
set_option maxRecDepth 100000 in
set_option maxHeartbeats 4000000 in
theorem rone (n : Nat) (hn : 1 ≤ n ∧ n ≤ 16) (w : World) :
    Calls Try.prog 46 #[.int .i64 n] w
      fun e w' => ∃ b, e = .returned (.agg #[.int .i64 n, .int .i64 n, .slice (some ⟨b, 0, none⟩) (n * n) (n * n)]) ∧ w.heap.size ≤ b ∧ Mat w' b 0 n n oneF ∧ Kept w w' := by
  have hnn : n * n ≤ 256 := Nat.le_trans (Nat.mul_le_mul hn.2 hn.2) (by decide)
  have hpp : (n : Int) * (n : Int) = ((n * n : Nat) : Int) := by simp
  have HLT := Lib.hid (fun k (hk : k < n) => idx_lt (r := n) (c := n) hk hk)
  have hkn := fun k : Nat => mul_cast k n
  have HKN := Lib.hid hkn
  have hb := fun u : World => made_mat u n n
  generalize hmnn : n * n = m at *
  have hmk := make_bytes m (by omega)
  generalize madeCells #[.int .u8 0] m = Z at hmk hb
  have HBM := Lib.hid hb
  clear hb hkn
  go_enter Try.func46, Try.ntmps46
  go_wp2_with fail
  have hR := ((BlockAt.new w #[.int .i64 0, .int .i64 0, .slice none 0 0] 50).kept ((Kept.refl _).alloc (.cells Z 5))).kept ((Kept.refl _).alloc (.cells #[.int .i64 n, .int .i64 n, .slice (some ⟨w.heap.size + 1, 0, none⟩) m m] 50))
  have hY := BlockAt.new2 w #[.int .i64 n, .int .i64 n, .slice (some ⟨w.heap.size + 1, 0, none⟩) m m] 50 (.cells #[.int .i64 0, .int .i64 0, .slice none 0 0] 50) (.cells Z 5)
  have hQ := (HBM.out (w.alloc (.cells #[.int .i64 0, .int .i64 0, .slice none 0 0] 50))).kept ((Kept.refl _).alloc (.cells #[.int .i64 n, .int .i64 n, .slice (some ⟨w.heap.size + 1, 0, none⟩) m m] 50))
  simp only [World.size_alloc] at hQ
  have k4 := (((Kept.refl w).alloc (.cells #[.int .i64 0, .int .i64 0, .slice none 0 0] 50)).alloc (.cells Z 5)).alloc (.cells #[.int .i64 n, .int .i64 n, .slice (some ⟨w.heap.size + 1, 0, none⟩) m m] 50)
  have HR := Lib.hid hR
  have HY := Lib.hid hY
  have HQ := Lib.hid hQ
  have HK := Lib.hid k4
  clear hR hY hQ k4 hmk HBM
  generalize ((w.alloc _).alloc _).alloc _ = w4 at *
  have hsz := HK.out.size
  go_loopw [4] (fun i wr => ∃ k : Nat, k ≤ n ∧ i = .int .i64 k ∧ Mat wr (w.heap.size + 1) 0 n n (oneTo k) ∧ w4.grownBy wr (some (w.heap.size + 1))) (fun i _ => n - (intOf i).toNat)
  case atStart => exact ⟨0, by omega, rfl, by rw [oneTo_zero]; exact HQ.out, grown_refl _ _⟩
  case round =>
    obtain ⟨k, hk, rfl, hmr, hg⟩ := hrel
    have HMR := Lib.hid hmr
    have HG := Lib.hid hg
    obtain ⟨y0, y1, y2⟩ := box3 (HY.out.grown hg (by simp))
    by_cases hlt : k < n
    · have hcell := hmr.cell k k hlt hlt
      have hset := hmr.set hlt hlt 1
      rw [oneTo_succ] at hset
      rw [Nat.zero_add] at hcell hset
      have hfree := hmr.free (k * n + k)
      have hl2 := HLT.out k hlt
      have hk2 := HKN.out k
      have hsum : ((k * n : Nat) : Int) + (k : Int) = ((k * n + k : Nat) : Int) := by simp
      generalize oneTo k k k = x at hcell
      have HSET := Lib.hid hset
      clear hmr hg hset
      generalize hq : k * n = kn at *
      generalize hq2 : kn + k = kk at *
      have HQ1 := Lib.hid hq
      have HQ2 := Lib.hid hq2
      clear hq hq2
      go_wp2_with fail
      go_roundw
      case rel => exact ⟨k + 1, by omega, by go_num, HSET.out, grown_trans HG.out (grown_set _ _ _ _)⟩
      case measure => simp [intOf]; omega
    · obtain rfl : k = n := by omega
      have HR2 := Lib.hid (HR.out.grown hg (by simp))
      have hfin := hmr.congr (G := oneF) (fun i j hi _ => oneTo_all k i j hi)
      have HF := Lib.hid hfin
      clear hmr hg hfin HMR
      go_wp2_with (refine wpList_store_block rfl 50 (.tmp 2) (.tmp 25) rfl _ #[.int .i64 k, .int .i64 k, .slice (some ⟨w.heap.size + 1, 0, none⟩) m m] #[.int .i64 0, .int .i64 0, .slice none 0 0] 50 rfl rfl HR2.out Try.infoMat rfl (one3 _ _ _ _ _) ?_)
      have g2 := grown_row wr w.heap.size #[.int .i64 k, .int .i64 k, .slice (some ⟨w.heap.size + 1, 0, none⟩) m m]
      refine bodyPost_ret (v := .agg #[.int .i64 k, .int .i64 k, .slice (some ⟨w.heap.size + 1, 0, none⟩) m m]) ?_ rfl ⟨_, rfl, by omega, HF.out.grown g2 (by simp), (Kept.grown HK.out HG.out (fun q e => by cases e; omega)).grown g2 (fun q e => by cases e; omega)⟩
      exact results_cell_row rfl _ _ w.heap.size 50 #[.int .i64 k, .int .i64 k, .slice (some ⟨w.heap.size + 1, 0, none⟩) m m] (0, 0) _ rfl (HR2.out.setRow _) Try.underlying50 rfl Try.infoMat
end Go.Proofs.Ytlpjpeonejbpjaa
