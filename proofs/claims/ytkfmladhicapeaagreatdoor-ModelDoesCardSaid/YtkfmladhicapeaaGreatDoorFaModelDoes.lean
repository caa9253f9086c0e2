/- The closed facts of ModelDoes's row, parted (no conditions). -/
import Derived.Test.YtkfmladhicapeaaGreatDoorRows
import Derived.ProofKit
namespace Go.Proofs.YtkfmladhicapeaaGreatDoor
open Go.RowKit
theorem modelDoes_f1:(Rows.modelDoesRow.inPlace == Tryz.checked.prog.inPlace 3)=true:=by kernel_rfl
theorem modelDoes_f2:(Rows.modelDoesRow.unfollowed == Tryz.checked.prog.unfollowed 3)=true:=by kernel_rfl
theorem modelDoes_f3:(Rows.modelDoesRow.recurses == Tryz.checked.prog.recurses 3)=true:=by kernel_rfl
theorem modelDoes_f4:(Rows.modelDoesRow.named == Tryz.checked.prog.varsNamed 3)=true:=by kernel_rfl
theorem modelDoes_facts:joinedFacts Tryz.checked.prog 3 Tryz.f3 (OpenSpec.ofChange Rows.modelDoesSpec).bare Rows.modelDoesRow=true:=by
 unfold joinedFacts;rw [modelDoes_f1,modelDoes_f2,modelDoes_f3,modelDoes_f4]
 kernel_rfl
end Go.Proofs.YtkfmladhicapeaaGreatDoor
