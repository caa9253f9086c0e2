/- The closed facts of ModelGet's row, parted (no conditions). -/
import Derived.Test.YtkfmladhicapeaaGreatDoorRows
import Derived.ProofKit
namespace Go.Proofs.YtkfmladhicapeaaGreatDoor
open Go.RowKit
theorem modelGet_f1:(Rows.modelGetRow.inPlace == Tryz.checked.prog.inPlace 12)=true:=by kernel_rfl
theorem modelGet_f2:(Rows.modelGetRow.unfollowed == Tryz.checked.prog.unfollowed 12)=true:=by kernel_rfl
theorem modelGet_f3:(Rows.modelGetRow.recurses == Tryz.checked.prog.recurses 12)=true:=by kernel_rfl
theorem modelGet_f4:(Rows.modelGetRow.named == Tryz.checked.prog.varsNamed 12)=true:=by kernel_rfl
theorem modelGet_facts:joinedFacts Tryz.checked.prog 12 Tryz.f12 (OpenSpec.ofChange Rows.modelGetSpec).bare Rows.modelGetRow=true:=by
 unfold joinedFacts;rw [modelGet_f1,modelGet_f2,modelGet_f3,modelGet_f4]
 kernel_rfl
end Go.Proofs.YtkfmladhicapeaaGreatDoor
