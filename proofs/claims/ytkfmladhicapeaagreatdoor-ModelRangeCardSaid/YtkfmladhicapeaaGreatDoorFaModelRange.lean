/- The closed facts of ModelRange's row, parted (no conditions). -/
import Derived.Test.YtkfmladhicapeaaGreatDoorRows
import Derived.ProofKit
namespace Go.Proofs.YtkfmladhicapeaaGreatDoor
open Go.RowKit
theorem modelRange_f1:(Rows.modelRangeRow.inPlace == Tryz.checked.prog.inPlace 14)=true:=by kernel_rfl
theorem modelRange_f2:(Rows.modelRangeRow.unfollowed == Tryz.checked.prog.unfollowed 14)=true:=by kernel_rfl
theorem modelRange_f3:(Rows.modelRangeRow.recurses == Tryz.checked.prog.recurses 14)=true:=by kernel_rfl
theorem modelRange_f4:(Rows.modelRangeRow.named == Tryz.checked.prog.varsNamed 14)=true:=by kernel_rfl
theorem modelRange_facts:joinedFacts Tryz.checked.prog 14 Tryz.f14 (OpenSpec.ofChange Rows.modelRangeSpec).bare Rows.modelRangeRow=true:=by
 unfold joinedFacts;rw [modelRange_f1,modelRange_f2,modelRange_f3,modelRange_f4]
 kernel_rfl
end Go.Proofs.YtkfmladhicapeaaGreatDoor
