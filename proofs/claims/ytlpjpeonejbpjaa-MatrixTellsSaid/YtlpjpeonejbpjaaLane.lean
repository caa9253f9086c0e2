/- Lanes in the package: the table of products, by what it computes (no condition but that the factor is a byte). -/
import Derived.Test.YtlpjpeonejbpjaaLaneRef
import Derived.Outline
namespace Go.Proofs.Ytlpjpeonejbpjaa
open Go.RowKit

def mulCell (c n j : Nat) : Nat := if j < 16 then (if j < n then Gf.mul c j else 0) else (if j < 16 + n then Gf.mul c ((j - 16) * 16) else 0)
def mulCells (c n : Nat) : Array Value := ((List.range 32).map fun j => Value.int .u8 ((mulCell c n j : Nat) : Int)).toArray
theorem mulCells_size (c n : Nat) : (mulCells c n).size = 32 := by simp [mulCells]
theorem mulCells_get (c n j : Nat) (hj : j < 32) : (mulCells c n)[j]? = some (.int .u8 ((mulCell c n j : Nat) : Int)) := by simp [mulCells, hj]
theorem mulCells_step (c n : Nat) (hn : n < 16) : ((mulCells c n).setIfInBounds n (.int .u8 (Gf.mul c n : Nat))).setIfInBounds (16 + n) (.int .u8 (Gf.mul c (n * 16) : Nat)) = mulCells c (n + 1) := by
  apply Array.ext
  · simp [mulCells]
  · intro j h1 h2
    have hj : j < 32 := by simpa [mulCells] using h2
    rw [Array.getElem_setIfInBounds (by simpa [mulCells] using hj), Array.getElem_setIfInBounds (by simpa [mulCells] using hj)]
    simp only [mulCells, List.getElem_toArray, List.getElem_map, List.getElem_range]
    by_cases e1 : 16 + n = j
    · subst e1
      rw [if_pos rfl]
      unfold mulCell
      rw [if_neg (by omega), if_pos (by omega), Nat.add_sub_cancel_left]
    · rw [if_neg e1]
      by_cases e2 : n = j
      · subst e2
        rw [if_pos rfl]
        simp [mulCell, hn]
      · rw [if_neg e2]
        have : mulCell c n j = mulCell c (n + 1) j := by
          unfold mulCell
          by_cases h : j < 16
          · rw [if_pos h, if_pos h]
            by_cases k : j < n
            · rw [if_pos k, if_pos (by omega)]
            · rw [if_neg k, if_neg (by omega)]
          · rw [if_neg h, if_neg h]
            by_cases k : j < 16 + n
            · rw [if_pos k, if_pos (by omega)]
            · rw [if_neg k, if_neg (by omega)]
        rw [this]
theorem mulCells_one (c n : Nat) : (mulCells c n).all (·.oneCell') = true := by
  rw [Array.all_eq_true]
  intro i hi
  simp [mulCells, Value.oneCell']

def z32 : Array Value := #[.int .u8 0, .int .u8 0, .int .u8 0, .int .u8 0, .int .u8 0, .int .u8 0, .int .u8 0, .int .u8 0, .int .u8 0, .int .u8 0, .int .u8 0, .int .u8 0, .int .u8 0, .int .u8 0, .int .u8 0, .int .u8 0, .int .u8 0, .int .u8 0, .int .u8 0, .int .u8 0, .int .u8 0, .int .u8 0, .int .u8 0, .int .u8 0, .int .u8 0, .int .u8 0, .int .u8 0, .int .u8 0, .int .u8 0, .int .u8 0, .int .u8 0, .int .u8 0]
theorem mulCells_zero (c : Nat) : mulCells c 0 = z32 := by
  have h : ∀ j, j < 32 → mulCell c 0 j = 0 := fun j hj => by
    unfold mulCell
    by_cases h : j < 16
    · rw [if_pos h, if_neg (by omega)]
    · rw [if_neg h, if_neg (by omega)]
  have e : mulCells c 0 = ((List.range 32).map fun _ => Value.int .u8 0).toArray := by
    unfold mulCells
    have e2 : ((List.range 32).map fun j => Value.int .u8 ((mulCell c 0 j : Nat) : Int)) = (List.range 32).map fun _ => Value.int .u8 0 := by
      apply List.map_congr_left
      intro j hj
      rw [h j (List.mem_range.1 hj)]
      rfl
    rw [e2]
  rw [e]
  rfl
theorem z32_one : z32.all (·.oneCell') = true := by kernel_rfl
theorem Try.zeroMult : (Try.prog.info? 114).map (·.zero) = some (some (.agg z32)) := by kernel_rfl
theorem Try.builtMult : Try.prog.built 114 [] = some z32 := by kernel_rfl
theorem Try.infoMult : (Try.prog.info? 114).map (·.size) = some 32 := by kernel_rfl

set_option maxRecDepth 100000 in
set_option maxHeartbeats 1000000 in
theorem multiplesOf_any (c : Nat) (hc : c < 256) (w : World) :
    Calls Try.prog 84 #[.int .u8 c] w fun e w' => e = .returned (.agg (mulCells c 16)) ∧ Kept w w' := by
  have HBK := Lib.hid (BlockAt.new (w.alloc (.cells z32 114)) z32 114)
  go_enter Try.func84, Try.ntmps84
  go_wp2_with (first
    | (with_reducible refine wpList_alloc_block rfl 114 rfl z32 Try.zeroMult ?_)
    | (with_reducible refine wpList_build_zero rfl 114 rfl z32 Try.builtMult ?_)
    | (refine wpList_store_block rfl 114 (.tmp 3) (.tmp 5) rfl (w.alloc (.cells z32 114)).heap.size z32 z32 114 rfl rfl HBK.out Try.infoMult rfl z32_one ?_))
  refine wp_named (fun w1 hw1 => ?_)
  have hk : Kept w w1 := by rw [hw1]; exact (((Kept.refl w).alloc _).alloc _).setRow (by omega) _
  have hb2 : BlockAt w1 (w.heap.size + 1) z32 114 := by
    have h := HBK.out.setRow z32
    rw [World.size_alloc] at h
    rw [hw1]
    exact h
  have hb1 : BlockAt w1 w.heap.size z32 114 := by
    rw [hw1]
    exact ((BlockAt.new w z32 114).kept ((Kept.refl _).alloc _)).other _ (by omega)
  clear hw1
  rw [← mulCells_zero c] at hb2
  go_loopw [6] (fun i wr => ∃ n : Nat, n ≤ 16 ∧ i = .int .i64 n ∧ BlockAt wr (w.heap.size + 1) (mulCells c n) 114 ∧ BlockAt wr w.heap.size z32 114 ∧ Kept w wr) (fun i _ => 16 - (intOf i).toNat)
  case atStart => exact ⟨0, by omega, rfl, hb2, hb1, hk⟩
  case round =>
    obtain ⟨n, hn, rfl, hb, hb1, hkept⟩ := hrel
    have HBL := Lib.hid hb
    have HB1 := Lib.hid hb1
    have HK := Lib.hid hkept
    by_cases hlt : n < 16
    · have hc1 := hb.cell n
      have hc2 := hb.cell (16 + n)
      rw [mulCells_get c n _ (by omega)] at hc1 hc2
      have hf1 := hb.free n
      have hf2 := hb.free (16 + n)
      have hn16 : n * 16 < 256 := by omega
      have hn256 : n < 256 := by omega
      clear hb hb1 hkept hb2 hk
      go_wp2_with fail
      refine (mul_any c n hc hn256 _).mono ?_
      rintro e w' ⟨rfl, rfl⟩
      go_wp2_with fail
      rw [show ((n : Int) * 16) = ((n * 16 : Nat) : Int) from by omega]
      refine (mul_any c (n * 16) hc hn16 _).mono ?_
      rintro e w' ⟨rfl, rfl⟩
      go_wp2
      go_roundw
      case rel => exact ⟨n + 1, by omega, by go_num, by rw [← mulCells_step c n hlt]; exact (HBL.out.set _).set _, (HB1.out.setOther _ (by omega)).setOther _ (by omega), (HK.out.setCell (by simp) _).setCell (by simp) _⟩
      case measure => simp [intOf]; omega
    · obtain rfl : n = 16 := by omega
      clear hb hb1 hkept hb2 hk
      go_wp2_with (first
        | (refine wpList_load_row rfl 114 (.tmp 3) rfl (w.heap.size + 1) rfl 114 (mulCells c 16) (0, 0) _ HBL.out Try.underlying114 rfl Try.infoMult ?_)
        | (refine wpList_store_block rfl 114 (.tmp 2) (.tmp 25) rfl w.heap.size (mulCells c 16) z32 114 rfl rfl HB1.out Try.infoMult (by rw [mulCells_size]; rfl) (mulCells_one c 16) ?_))
      refine bodyPost_ret (v := .agg (mulCells c 16)) ?_ rfl ⟨rfl, HK.out.setRow (Nat.le_refl _) _⟩
      exact results_cell_row rfl _ _ w.heap.size 114 (mulCells c 16) (0, 0) _ rfl (HB1.out.setRow _) Try.underlying114 rfl Try.infoMult
end Go.Proofs.Ytlpjpeonejbpjaa
