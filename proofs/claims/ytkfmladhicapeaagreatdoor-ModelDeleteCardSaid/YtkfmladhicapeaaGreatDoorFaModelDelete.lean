/- The closed facts of ModelDelete's row, parted (no conditions). -/
import Derived.Test.YtkfmladhicapeaaGreatDoorRows
import Derived.ProofKit
namespace Go.Proofs.YtkfmladhicapeaaGreatDoor
open Go.RowKit
theorem modelDelete_f1:(Rows.modelDeleteRow.inPlace == Tryz.checked.prog.inPlace 15)=true:=by kernel_rfl
theorem modelDelete_f2:(Rows.modelDeleteRow.unfollowed == Tryz.checked.prog.unfollowed 15)=true:=by kernel_rfl
theorem modelDelete_f3:(Rows.modelDeleteRow.recurses == Tryz.checked.prog.recurses 15)=true:=by kernel_rfl
theorem modelDelete_f4:(Rows.modelDeleteRow.named == Tryz.checked.prog.varsNamed 15)=true:=by kernel_rfl
theorem modelDelete_facts:joinedFacts Tryz.checked.prog 15 Tryz.f15 (OpenSpec.ofChange Rows.modelDeleteSpec).bare Rows.modelDeleteRow=true:=by
 unfold joinedFacts;rw [modelDelete_f1,modelDelete_f2,modelDelete_f3,modelDelete_f4]
 kernel_rfl
end Go.Proofs.YtkfmladhicapeaaGreatDoor
