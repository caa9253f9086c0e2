/- The closed facts of ModelSweep's row, parted (no conditions). -/
import Derived.Test.YtkfmladhicapeaaGreatDoorRows
import Derived.ProofKit
namespace Go.Proofs.YtkfmladhicapeaaGreatDoor
open Go.RowKit
theorem modelSweep_f1:(Rows.modelSweepRow.inPlace == Tryz.checked.prog.inPlace 20)=true:=by kernel_rfl
theorem modelSweep_f2:(Rows.modelSweepRow.unfollowed == Tryz.checked.prog.unfollowed 20)=true:=by kernel_rfl
theorem modelSweep_f3:(Rows.modelSweepRow.recurses == Tryz.checked.prog.recurses 20)=true:=by kernel_rfl
theorem modelSweep_f4:(Rows.modelSweepRow.named == Tryz.checked.prog.varsNamed 20)=true:=by kernel_rfl
theorem modelSweep_facts:joinedFacts Tryz.checked.prog 20 Tryz.f20 (OpenSpec.ofChange Rows.modelSweepSpec).bare Rows.modelSweepRow=true:=by
 unfold joinedFacts;rw [modelSweep_f1,modelSweep_f2,modelSweep_f3,modelSweep_f4]
 kernel_rfl
end Go.Proofs.YtkfmladhicapeaaGreatDoor
