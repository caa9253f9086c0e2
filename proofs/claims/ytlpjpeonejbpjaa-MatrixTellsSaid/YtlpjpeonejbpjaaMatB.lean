/- matrix.blank, by what it answers (sides within bounds): a matrix of numbers 0 in memory of its own. -/
import Derived.Test.YtlpjpeonejbpjaaMatIt
import Derived.Test.YtlpjpeonejbpjaaRes
namespace Go.Proofs.Ytlpjpeonejbpjaa
open Go.RowKit

theorem Try.infoMat : (Try.prog.info? 50).map (·.size) = some 3 := by kernel_rfl
def zeroF : Nat → Nat → Nat := fun _ _ => 0
theorem zeroF_bt : Bt zeroF := fun _ _ => by show 0 < 256; omega
theorem made_mat (u : World) (r c : Nat) : Mat (u.alloc (.cells (madeCells #[.int .u8 0] (r * c)) 5)) u.heap.size 0 r c zeroF := by
  refine ⟨⟨_, BlockAt.new _ _ _⟩, fun i j hi hj => ?_⟩
  have hb := made_buf u (r * c)
  have hlt := idx_lt hi hj
  have h := hb.cell (i * c + j) (by simpa using hlt)
  rw [Nat.zero_add, h]
  simp [zeroF]
set_option maxRecDepth 100000 in
theorem blank_any (r c : Nat) (hr : r ≤ 64) (hc : c ≤ 64) (w : World) :
    Calls Try.prog 71 #[.int .i64 r, .int .i64 c] w fun e w' => ∃ b off, e = .returned (.agg #[.int .i64 r, .int .i64 c, .slice (some ⟨b, off, none⟩) (r * c) (r * c)]) ∧ w.heap.size ≤ b ∧ Mat w' b off r c zeroF ∧ Kept w w' := by
  have hp : r * c ≤ 4096 := Nat.mul_le_mul hr hc
  have hmk := make_bytes (r * c) (by omega)
  have hb := fun u : World => made_mat u r c
  have hm : (r : Int) * (c : Int) = ((r * c : Nat) : Int) := by simp
  generalize r * c = m at hp hmk hb hm ⊢
  generalize madeCells #[.int .u8 0] m = Z at hmk hb
  have HB := Lib.hid hb
  clear hb
  go_enter Try.func71, Try.ntmps71
  go_wp2
  have hb := HB.out (w.alloc (.cells #[.int .i64 r, .int .i64 c, .slice (some ⟨w.heap.size + 1, 0, none⟩) m m] 50))
  rw [World.size_alloc] at hb
  refine bodyPost_ret (v := .agg #[.int .i64 r, .int .i64 c, .slice (some ⟨w.heap.size + 1, 0, none⟩) m m]) ?_ rfl ⟨_, _, rfl, by omega, hb, ((Kept.refl w).alloc _).alloc _⟩
  exact results_cell_row rfl _ _ w.heap.size 50 #[.int .i64 r, .int .i64 c, .slice (some ⟨w.heap.size + 1, 0, none⟩) m m] (0, 0) _ rfl
    ((BlockAt.new w #[.int .i64 r, .int .i64 c, .slice (some ⟨w.heap.size + 1, 0, none⟩) m m] 50).kept ((Kept.refl _).alloc _)) Try.underlying50 rfl Try.infoMat
end Go.Proofs.Ytlpjpeonejbpjaa
