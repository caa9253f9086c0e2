/- The closed facts of ModelManifest's row, parted (no conditions). -/
import Derived.Test.YtkfmladhicapeaaGreatDoorRows
import Derived.ProofKit
namespace Go.Proofs.YtkfmladhicapeaaGreatDoor
open Go.RowKit
theorem modelManifest_f1:(Rows.modelManifestRow.inPlace == Tryz.checked.prog.inPlace 16)=true:=by kernel_rfl
theorem modelManifest_f2:(Rows.modelManifestRow.unfollowed == Tryz.checked.prog.unfollowed 16)=true:=by kernel_rfl
theorem modelManifest_f3:(Rows.modelManifestRow.recurses == Tryz.checked.prog.recurses 16)=true:=by kernel_rfl
theorem modelManifest_f4:(Rows.modelManifestRow.named == Tryz.checked.prog.varsNamed 16)=true:=by kernel_rfl
theorem modelManifest_facts:joinedFacts Tryz.checked.prog 16 Tryz.f16 (OpenSpec.ofChange Rows.modelManifestSpec).bare Rows.modelManifestRow=true:=by
 unfold joinedFacts;rw [modelManifest_f1,modelManifest_f2,modelManifest_f3,modelManifest_f4]
 kernel_rfl
end Go.Proofs.YtkfmladhicapeaaGreatDoor
