/- The closed facts of ModelTags's row, parted (no conditions). -/
import Derived.Test.YtkfmladhicapeaaGreatDoorRows
import Derived.ProofKit
namespace Go.Proofs.YtkfmladhicapeaaGreatDoor
open Go.RowKit
theorem modelTags_f1:(Rows.modelTagsRow.inPlace == Tryz.checked.prog.inPlace 7)=true:=by kernel_rfl
theorem modelTags_f2:(Rows.modelTagsRow.unfollowed == Tryz.checked.prog.unfollowed 7)=true:=by kernel_rfl
theorem modelTags_f3:(Rows.modelTagsRow.recurses == Tryz.checked.prog.recurses 7)=true:=by kernel_rfl
theorem modelTags_f4:(Rows.modelTagsRow.named == Tryz.checked.prog.varsNamed 7)=true:=by kernel_rfl
theorem modelTags_facts:joinedFacts Tryz.checked.prog 7 Tryz.f7 (OpenSpec.ofChange Rows.modelTagsSpec).bare Rows.modelTagsRow=true:=by
 unfold joinedFacts;rw [modelTags_f1,modelTags_f2,modelTags_f3,modelTags_f4]
 kernel_rfl
end Go.Proofs.YtkfmladhicapeaaGreatDoor
