/- The closed facts of ModelUploads's row, parted (no conditions). -/
import Derived.Test.YtkfmladhicapeaaGreatDoorRows
import Derived.ProofKit
namespace Go.Proofs.YtkfmladhicapeaaGreatDoor
open Go.RowKit
theorem modelUploads_f1:(Rows.modelUploadsRow.inPlace == Tryz.checked.prog.inPlace 4)=true:=by kernel_rfl
theorem modelUploads_f2:(Rows.modelUploadsRow.unfollowed == Tryz.checked.prog.unfollowed 4)=true:=by kernel_rfl
theorem modelUploads_f3:(Rows.modelUploadsRow.recurses == Tryz.checked.prog.recurses 4)=true:=by kernel_rfl
theorem modelUploads_f4:(Rows.modelUploadsRow.named == Tryz.checked.prog.varsNamed 4)=true:=by kernel_rfl
theorem modelUploads_facts:joinedFacts Tryz.checked.prog 4 Tryz.f4 (OpenSpec.ofChange Rows.modelUploadsSpec).bare Rows.modelUploadsRow=true:=by
 unfold joinedFacts;rw [modelUploads_f1,modelUploads_f2,modelUploads_f3,modelUploads_f4]
 kernel_rfl
end Go.Proofs.YtkfmladhicapeaaGreatDoor
