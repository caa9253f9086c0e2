/- The closed facts of ModelReads's row, parted (no conditions). -/
import Derived.Test.YtkfmladhicapeaaGreatDoorRows
import Derived.ProofKit
namespace Go.Proofs.YtkfmladhicapeaaGreatDoor
open Go.RowKit
theorem modelReads_f1:(Rows.modelReadsRow.inPlace == Tryz.checked.prog.inPlace 5)=true:=by kernel_rfl
theorem modelReads_f2:(Rows.modelReadsRow.unfollowed == Tryz.checked.prog.unfollowed 5)=true:=by kernel_rfl
theorem modelReads_f3:(Rows.modelReadsRow.recurses == Tryz.checked.prog.recurses 5)=true:=by kernel_rfl
theorem modelReads_f4:(Rows.modelReadsRow.named == Tryz.checked.prog.varsNamed 5)=true:=by kernel_rfl
theorem modelReads_facts:joinedFacts Tryz.checked.prog 5 Tryz.f5 (OpenSpec.ofChange Rows.modelReadsSpec).bare Rows.modelReadsRow=true:=by
 unfold joinedFacts;rw [modelReads_f1,modelReads_f2,modelReads_f3,modelReads_f4]
 kernel_rfl
end Go.Proofs.YtkfmladhicapeaaGreatDoor
