/- The closed facts of ModelStart's row, parted (no conditions). -/
import Derived.Test.YtkfmladhicapeaaGreatDoorRows
import Derived.ProofKit
namespace Go.Proofs.YtkfmladhicapeaaGreatDoor
open Go.RowKit
theorem modelStart_f1:(Rows.modelStartRow.inPlace == Tryz.checked.prog.inPlace 9)=true:=by kernel_rfl
theorem modelStart_f2:(Rows.modelStartRow.unfollowed == Tryz.checked.prog.unfollowed 9)=true:=by kernel_rfl
theorem modelStart_f3:(Rows.modelStartRow.recurses == Tryz.checked.prog.recurses 9)=true:=by kernel_rfl
theorem modelStart_f4:(Rows.modelStartRow.named == Tryz.checked.prog.varsNamed 9)=true:=by kernel_rfl
theorem modelStart_facts:joinedFacts Tryz.checked.prog 9 Tryz.f9 (OpenSpec.ofChange Rows.modelStartSpec).bare Rows.modelStartRow=true:=by
 unfold joinedFacts;rw [modelStart_f1,modelStart_f2,modelStart_f3,modelStart_f4]
 kernel_rfl
end Go.Proofs.YtkfmladhicapeaaGreatDoor
