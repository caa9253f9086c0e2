/- The closed facts of ModelFind's row, parted (no conditions). -/
import Derived.Test.YtkfmladhicapeaaGreatDoorRows
import Derived.ProofKit
namespace Go.Proofs.YtkfmladhicapeaaGreatDoor
open Go.RowKit
theorem modelFind_f1:(Rows.modelFindRow.inPlace == Tryz.checked.prog.inPlace 18)=true:=by kernel_rfl
theorem modelFind_f2:(Rows.modelFindRow.unfollowed == Tryz.checked.prog.unfollowed 18)=true:=by kernel_rfl
theorem modelFind_f3:(Rows.modelFindRow.recurses == Tryz.checked.prog.recurses 18)=true:=by kernel_rfl
theorem modelFind_f4:(Rows.modelFindRow.named == Tryz.checked.prog.varsNamed 18)=true:=by kernel_rfl
theorem modelFind_facts:joinedFacts Tryz.checked.prog 18 Tryz.f18 (OpenSpec.ofChange Rows.modelFindSpec).bare Rows.modelFindRow=true:=by
 unfold joinedFacts;rw [modelFind_f1,modelFind_f2,modelFind_f3,modelFind_f4]
 kernel_rfl
end Go.Proofs.YtkfmladhicapeaaGreatDoor
