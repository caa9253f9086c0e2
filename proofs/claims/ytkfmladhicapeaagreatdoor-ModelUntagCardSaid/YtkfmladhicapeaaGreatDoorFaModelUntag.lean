/- The closed facts of ModelUntag's row, parted (no conditions). -/
import Derived.Test.YtkfmladhicapeaaGreatDoorRows
import Derived.ProofKit
namespace Go.Proofs.YtkfmladhicapeaaGreatDoor
open Go.RowKit
theorem modelUntag_f1:(Rows.modelUntagRow.inPlace == Tryz.checked.prog.inPlace 19)=true:=by kernel_rfl
theorem modelUntag_f2:(Rows.modelUntagRow.unfollowed == Tryz.checked.prog.unfollowed 19)=true:=by kernel_rfl
theorem modelUntag_f3:(Rows.modelUntagRow.recurses == Tryz.checked.prog.recurses 19)=true:=by kernel_rfl
theorem modelUntag_f4:(Rows.modelUntagRow.named == Tryz.checked.prog.varsNamed 19)=true:=by kernel_rfl
theorem modelUntag_facts:joinedFacts Tryz.checked.prog 19 Tryz.f19 (OpenSpec.ofChange Rows.modelUntagSpec).bare Rows.modelUntagRow=true:=by
 unfold joinedFacts;rw [modelUntag_f1,modelUntag_f2,modelUntag_f3,modelUntag_f4]
 kernel_rfl
end Go.Proofs.YtkfmladhicapeaaGreatDoor
