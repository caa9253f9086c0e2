/- The closed facts of ModelWhole's row, parted (no conditions). -/
import Derived.Test.YtkfmladhicapeaaGreatDoorRows
import Derived.ProofKit
namespace Go.Proofs.YtkfmladhicapeaaGreatDoor
open Go.RowKit
theorem modelWhole_f1:(Rows.modelWholeRow.inPlace == Tryz.checked.prog.inPlace 8)=true:=by kernel_rfl
theorem modelWhole_f2:(Rows.modelWholeRow.unfollowed == Tryz.checked.prog.unfollowed 8)=true:=by kernel_rfl
theorem modelWhole_f3:(Rows.modelWholeRow.recurses == Tryz.checked.prog.recurses 8)=true:=by kernel_rfl
theorem modelWhole_f4:(Rows.modelWholeRow.named == Tryz.checked.prog.varsNamed 8)=true:=by kernel_rfl
theorem modelWhole_facts:joinedFacts Tryz.checked.prog 8 Tryz.f8 (OpenSpec.ofChange Rows.modelWholeSpec).bare Rows.modelWholeRow=true:=by
 unfold joinedFacts;rw [modelWhole_f1,modelWhole_f2,modelWhole_f3,modelWhole_f4]
 kernel_rfl
end Go.Proofs.YtkfmladhicapeaaGreatDoor
