
/- 'make([]byte, n)' and strings of bytes: small laws (no conditions). -/
import Derived.Test.YtkfomaoillnehaaRows
import Derived.Test.YtkfomaoillnehaaText
import Derived.Test.YtkfomaoillnehaaRes
namespace Go.Proofs.Ytkfomaoillnehaa
open Go.RowKit
theorem Try.infoB8 : (Try.prog.info? 5).map (fun i => (i.zero, i.size, i.bytes)) = some (some (.int .u8 0), 1, 1) := by kernel_rfl
theorem makeB (n : Nat) (hn : n ≤ 281474976710656) : ∀ u : World, (Instr.makeSlice 74 (.int .i64 n) (.int .i64 n)).run Try.prog u =
    .ok (.slice (some ⟨u.heap.size, 0, none⟩) n n) (u.alloc (.cells (madeCells #[.int .u8 0] n) 5)) := fun u => by
  obtain ⟨i0, hi, hz0, hz1, hz2⟩ := info_parts Try.infoB8
  have h := run_make (P := Try.prog) u 74 5 i0 (.int .u8 0) Try.underlying74 hi hz0 .i64 .i64 (n : Int) (n : Int) (by omega) (Int.le_refl _) (by rw [hz2]; omega) (by omega)
  simpa [hz1, Value.cells] using h
theorem madeB (u : World) (n : Nat) : Buf (u.alloc (.cells (madeCells #[.int .u8 0] n) 5)) u.heap.size (List.replicate n 0) := by
  refine ⟨by simp, fun i hi => ?_, fun i hi => ?_⟩
  · rw [cell_new]
    have hi' : i < n := by simpa using hi
    simp [madeCells, hi', Nat.mod_one]
  · exact (BlockAt.new u (madeCells #[.int .u8 0] n) 5).free i
end Go.Proofs.Ytkfomaoillnehaa
