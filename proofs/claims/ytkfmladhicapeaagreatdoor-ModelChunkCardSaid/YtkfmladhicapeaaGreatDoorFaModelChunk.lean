/- The closed facts of ModelChunk's row, parted (no conditions). -/
import Derived.Test.YtkfmladhicapeaaGreatDoorRows
import Derived.ProofKit
namespace Go.Proofs.YtkfmladhicapeaaGreatDoor
open Go.RowKit
theorem modelChunk_f1:(Rows.modelChunkRow.inPlace == Tryz.checked.prog.inPlace 10)=true:=by kernel_rfl
theorem modelChunk_f2:(Rows.modelChunkRow.unfollowed == Tryz.checked.prog.unfollowed 10)=true:=by kernel_rfl
theorem modelChunk_f3:(Rows.modelChunkRow.recurses == Tryz.checked.prog.recurses 10)=true:=by kernel_rfl
theorem modelChunk_f4:(Rows.modelChunkRow.named == Tryz.checked.prog.varsNamed 10)=true:=by kernel_rfl
theorem modelChunk_facts:joinedFacts Tryz.checked.prog 10 Tryz.f10 (OpenSpec.ofChange Rows.modelChunkSpec).bare Rows.modelChunkRow=true:=by
 unfold joinedFacts;rw [modelChunk_f1,modelChunk_f2,modelChunk_f3,modelChunk_f4]
 kernel_rfl
end Go.Proofs.YtkfmladhicapeaaGreatDoor
