/- The closed facts of ModelFinish's row, parted (no conditions). -/
import Derived.Test.YtkfmladhicapeaaGreatDoorRows
import Derived.ProofKit
namespace Go.Proofs.YtkfmladhicapeaaGreatDoor
open Go.RowKit
theorem modelFinish_f1:(Rows.modelFinishRow.inPlace == Tryz.checked.prog.inPlace 11)=true:=by kernel_rfl
theorem modelFinish_f2:(Rows.modelFinishRow.unfollowed == Tryz.checked.prog.unfollowed 11)=true:=by kernel_rfl
theorem modelFinish_f3:(Rows.modelFinishRow.recurses == Tryz.checked.prog.recurses 11)=true:=by kernel_rfl
theorem modelFinish_f4:(Rows.modelFinishRow.named == Tryz.checked.prog.varsNamed 11)=true:=by kernel_rfl
theorem modelFinish_facts:joinedFacts Tryz.checked.prog 11 Tryz.f11 (OpenSpec.ofChange Rows.modelFinishSpec).bare Rows.modelFinishRow=true:=by
 unfold joinedFacts;rw [modelFinish_f1,modelFinish_f2,modelFinish_f3,modelFinish_f4]
 kernel_rfl
end Go.Proofs.YtkfmladhicapeaaGreatDoor
