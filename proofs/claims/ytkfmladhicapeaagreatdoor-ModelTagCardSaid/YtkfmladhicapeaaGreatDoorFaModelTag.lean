/- The closed facts of ModelTag's row, parted (no conditions). -/
import Derived.Test.YtkfmladhicapeaaGreatDoorRows
import Derived.ProofKit
namespace Go.Proofs.YtkfmladhicapeaaGreatDoor
open Go.RowKit
theorem modelTag_f1:(Rows.modelTagRow.inPlace == Tryz.checked.prog.inPlace 17)=true:=by kernel_rfl
theorem modelTag_f2:(Rows.modelTagRow.unfollowed == Tryz.checked.prog.unfollowed 17)=true:=by kernel_rfl
theorem modelTag_f3:(Rows.modelTagRow.recurses == Tryz.checked.prog.recurses 17)=true:=by kernel_rfl
theorem modelTag_f4:(Rows.modelTagRow.named == Tryz.checked.prog.varsNamed 17)=true:=by kernel_rfl
theorem modelTag_facts:joinedFacts Tryz.checked.prog 17 Tryz.f17 (OpenSpec.ofChange Rows.modelTagSpec).bare Rows.modelTagRow=true:=by
 unfold joinedFacts;rw [modelTag_f1,modelTag_f2,modelTag_f3,modelTag_f4]
 kernel_rfl
end Go.Proofs.YtkfmladhicapeaaGreatDoor
