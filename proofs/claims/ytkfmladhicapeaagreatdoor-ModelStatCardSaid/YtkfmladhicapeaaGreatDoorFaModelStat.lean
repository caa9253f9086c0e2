/- The closed facts of ModelStat's row, parted (no conditions). -/
import Derived.Test.YtkfmladhicapeaaGreatDoorRows
import Derived.ProofKit
namespace Go.Proofs.YtkfmladhicapeaaGreatDoor
open Go.RowKit
theorem modelStat_f1:(Rows.modelStatRow.inPlace == Tryz.checked.prog.inPlace 13)=true:=by kernel_rfl
theorem modelStat_f2:(Rows.modelStatRow.unfollowed == Tryz.checked.prog.unfollowed 13)=true:=by kernel_rfl
theorem modelStat_f3:(Rows.modelStatRow.recurses == Tryz.checked.prog.recurses 13)=true:=by kernel_rfl
theorem modelStat_f4:(Rows.modelStatRow.named == Tryz.checked.prog.varsNamed 13)=true:=by kernel_rfl
theorem modelStat_facts:joinedFacts Tryz.checked.prog 13 Tryz.f13 (OpenSpec.ofChange Rows.modelStatSpec).bare Rows.modelStatRow=true:=by
 unfold joinedFacts;rw [modelStat_f1,modelStat_f2,modelStat_f3,modelStat_f4]
 kernel_rfl
end Go.Proofs.YtkfmladhicapeaaGreatDoor
