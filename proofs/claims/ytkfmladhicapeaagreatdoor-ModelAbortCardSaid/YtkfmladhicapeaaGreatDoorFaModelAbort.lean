/- The closed facts of ModelAbort's row, parted (no conditions). -/
import Derived.Test.YtkfmladhicapeaaGreatDoorRows
import Derived.ProofKit
namespace Go.Proofs.YtkfmladhicapeaaGreatDoor
open Go.RowKit
theorem modelAbort_f1:(Rows.modelAbortRow.inPlace == Tryz.checked.prog.inPlace 21)=true:=by kernel_rfl
theorem modelAbort_f2:(Rows.modelAbortRow.unfollowed == Tryz.checked.prog.unfollowed 21)=true:=by kernel_rfl
theorem modelAbort_f3:(Rows.modelAbortRow.recurses == Tryz.checked.prog.recurses 21)=true:=by kernel_rfl
theorem modelAbort_f4:(Rows.modelAbortRow.named == Tryz.checked.prog.varsNamed 21)=true:=by kernel_rfl
theorem modelAbort_facts:joinedFacts Tryz.checked.prog 21 Tryz.f21 (OpenSpec.ofChange Rows.modelAbortSpec).bare Rows.modelAbortRow=true:=by
 unfold joinedFacts;rw [modelAbort_f1,modelAbort_f2,modelAbort_f3,modelAbort_f4]
 kernel_rfl
end Go.Proofs.YtkfmladhicapeaaGreatDoor
