/- The closed facts of ModelManifests's row, parted (no conditions). -/
import Derived.Test.YtkfmladhicapeaaGreatDoorRows
import Derived.ProofKit
namespace Go.Proofs.YtkfmladhicapeaaGreatDoor
open Go.RowKit
theorem modelManifests_f1:(Rows.modelManifestsRow.inPlace == Tryz.checked.prog.inPlace 6)=true:=by kernel_rfl
theorem modelManifests_f2:(Rows.modelManifestsRow.unfollowed == Tryz.checked.prog.unfollowed 6)=true:=by kernel_rfl
theorem modelManifests_f3:(Rows.modelManifestsRow.recurses == Tryz.checked.prog.recurses 6)=true:=by kernel_rfl
theorem modelManifests_f4:(Rows.modelManifestsRow.named == Tryz.checked.prog.varsNamed 6)=true:=by kernel_rfl
theorem modelManifests_facts:joinedFacts Tryz.checked.prog 6 Tryz.f6 (OpenSpec.ofChange Rows.modelManifestsSpec).bare Rows.modelManifestsRow=true:=by
 unfold joinedFacts;rw [modelManifests_f1,modelManifests_f2,modelManifests_f3,modelManifests_f4]
 kernel_rfl
end Go.Proofs.YtkfmladhicapeaaGreatDoor
