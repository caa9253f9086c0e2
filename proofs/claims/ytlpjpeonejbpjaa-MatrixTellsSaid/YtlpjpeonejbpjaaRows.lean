/-
  No cell of these rows narrows 'for every input' (looked for: loops, veiled, ifaces, maps, wideKeys, modest, calm, conditions, laid).
  DERIVED. THE GIVEN ROWS OF THIS SEAT. 12 by the template 'for every input the law returns true; each argument reads behind the call as it read before'; 0 by the template 'total and deterministic' (their statements: YtlpjpeonejbpjaaTotals.lean).
  GIVEN WITH THE SEED: the statements are not yours to turn. If you find one false, say at which input.
  Laid BY PROGRAM, IN A SANDBOX (cutbox-rows.mjs): the forced cells as the released guide's own fill.sh prints them over the translation f0a54db4fb2c42f1… (all of the seat's roots in one cut). By AI agents, Wed Nov 11 2026. No macro, syntax, notation, axiom, sorry.
-/
import Derived.Test.YtlpjpeonejbpjaaChecked
import GoSem.Claim
import GoSem.ClaimJoined
import GoSem.ClaimMapViews
import Derived.JoinedTies
import Derived.KernelRfl
namespace Go.Proofs.Ytlpjpeonejbpjaa
/- THE CELL 'sum', in the pinned program and in every row, IS THE sha256 OF THE DUMP (.gsa) THAT YtlpjpeonejbpjaaProg.lean LOADS. Nothing in Lean hashes anything: it is a label: what it is worth is what the hold of that sum in a sandbox is worth. -/
noncomputable def Try.pinned : Pinned := { name := "ytlpjpeonejbpjaa", sum := "f0a54db4fb2c42f1109f3134da4b7dd8391f724c85554611e761e403da8d07f8", checked := Try.checked }
namespace Rows
def none {H : Type} : Left H := { results := [], args := [] }

/-- 'silolaw2.LaneTwos': WHATEVER THE INPUT: true; the input reads as it did. -/
def laneTwosSpec : ChangeSpec := { name := "laneTwos", fn := fun _ => fun
  | [d] => { results := [.lit (.bool true)], args := [d] }
  | _ => none }
def laneTwosRow : OpenClaim := { program := "ytlpjpeonejbpjaa", sum := "f0a54db4fb2c42f1109f3134da4b7dd8391f724c85554611e761e403da8d07f8", func := "silo/silolaw2.LaneTwos", spec := "laneTwos", unfollowed := true, recurses := true, apart := false }
def LaneTwosSaid : Prop := laneTwosRow.holds Try.pinned (OpenSpec.ofChange laneTwosSpec)

/-- ITS FALSE NEIGHBOUR: 'it returns false'. Refute it at one input. -/
def laneTwosWrong : ChangeSpec := { name := "laneTwos", fn := fun _ => fun
  | [d] => { results := [.lit (.bool false)], args := [d] }
  | _ => none }
def LaneTwosWrongFalsely : Prop := laneTwosRow.holds Try.pinned (OpenSpec.ofChange laneTwosWrong)

/-- 'silolaw2.LaneSums': WHATEVER THE INPUT: true; the input reads as it did. -/
def laneSumsSpec : ChangeSpec := { name := "laneSums", fn := fun _ => fun
  | [d] => { results := [.lit (.bool true)], args := [d] }
  | _ => none }
def laneSumsRow : OpenClaim := { program := "ytlpjpeonejbpjaa", sum := "f0a54db4fb2c42f1109f3134da4b7dd8391f724c85554611e761e403da8d07f8", func := "silo/silolaw2.LaneSums", spec := "laneSums", unfollowed := true, recurses := true, apart := false }
def LaneSumsSaid : Prop := laneSumsRow.holds Try.pinned (OpenSpec.ofChange laneSumsSpec)

/-- ITS FALSE NEIGHBOUR: 'it returns false'. Refute it at one input. -/
def laneSumsWrong : ChangeSpec := { name := "laneSums", fn := fun _ => fun
  | [d] => { results := [.lit (.bool false)], args := [d] }
  | _ => none }
def LaneSumsWrongFalsely : Prop := laneSumsRow.holds Try.pinned (OpenSpec.ofChange laneSumsWrong)

/-- 'silolaw2.LaneBack': WHATEVER THE INPUT: true; the input reads as it did. -/
def laneBackSpec : ChangeSpec := { name := "laneBack", fn := fun _ => fun
  | [d] => { results := [.lit (.bool true)], args := [d] }
  | _ => none }
def laneBackRow : OpenClaim := { program := "ytlpjpeonejbpjaa", sum := "f0a54db4fb2c42f1109f3134da4b7dd8391f724c85554611e761e403da8d07f8", func := "silo/silolaw2.LaneBack", spec := "laneBack", unfollowed := true, recurses := true, apart := false }
def LaneBackSaid : Prop := laneBackRow.holds Try.pinned (OpenSpec.ofChange laneBackSpec)

/-- ITS FALSE NEIGHBOUR: 'it returns false'. Refute it at one input. -/
def laneBackWrong : ChangeSpec := { name := "laneBack", fn := fun _ => fun
  | [d] => { results := [.lit (.bool false)], args := [d] }
  | _ => none }
def LaneBackWrongFalsely : Prop := laneBackRow.holds Try.pinned (OpenSpec.ofChange laneBackWrong)

/-- 'silolaw2.LaneOrders': WHATEVER THE INPUT: true; the input reads as it did. -/
def laneOrdersSpec : ChangeSpec := { name := "laneOrders", fn := fun _ => fun
  | [d] => { results := [.lit (.bool true)], args := [d] }
  | _ => none }
def laneOrdersRow : OpenClaim := { program := "ytlpjpeonejbpjaa", sum := "f0a54db4fb2c42f1109f3134da4b7dd8391f724c85554611e761e403da8d07f8", func := "silo/silolaw2.LaneOrders", spec := "laneOrders", unfollowed := true, recurses := true, apart := false }
def LaneOrdersSaid : Prop := laneOrdersRow.holds Try.pinned (OpenSpec.ofChange laneOrdersSpec)

/-- ITS FALSE NEIGHBOUR: 'it returns false'. Refute it at one input. -/
def laneOrdersWrong : ChangeSpec := { name := "laneOrders", fn := fun _ => fun
  | [d] => { results := [.lit (.bool false)], args := [d] }
  | _ => none }
def LaneOrdersWrongFalsely : Prop := laneOrdersRow.holds Try.pinned (OpenSpec.ofChange laneOrdersWrong)

/-- 'silolaw2.LaneBytes': WHATEVER THE INPUT: true; the input reads as it did. -/
def laneBytesSpec : ChangeSpec := { name := "laneBytes", fn := fun _ => fun
  | [d] => { results := [.lit (.bool true)], args := [d] }
  | _ => none }
def laneBytesRow : OpenClaim := { program := "ytlpjpeonejbpjaa", sum := "f0a54db4fb2c42f1109f3134da4b7dd8391f724c85554611e761e403da8d07f8", func := "silo/silolaw2.LaneBytes", spec := "laneBytes", unfollowed := true, recurses := true, apart := false }
def LaneBytesSaid : Prop := laneBytesRow.holds Try.pinned (OpenSpec.ofChange laneBytesSpec)

/-- ITS FALSE NEIGHBOUR: 'it returns false'. Refute it at one input. -/
def laneBytesWrong : ChangeSpec := { name := "laneBytes", fn := fun _ => fun
  | [d] => { results := [.lit (.bool false)], args := [d] }
  | _ => none }
def LaneBytesWrongFalsely : Prop := laneBytesRow.holds Try.pinned (OpenSpec.ofChange laneBytesWrong)

/-- 'silolaw3.MatrixTells': WHATEVER THE INPUT: true; the input reads as it did. -/
def matrixTellsSpec : ChangeSpec := { name := "matrixTells", fn := fun _ => fun
  | [d] => { results := [.lit (.bool true)], args := [d] }
  | _ => none }
def matrixTellsRow : OpenClaim := { program := "ytlpjpeonejbpjaa", sum := "f0a54db4fb2c42f1109f3134da4b7dd8391f724c85554611e761e403da8d07f8", func := "silo/silolaw3.MatrixTells", spec := "matrixTells", unfollowed := true, recurses := true, apart := false }
def MatrixTellsSaid : Prop := matrixTellsRow.holds Try.pinned (OpenSpec.ofChange matrixTellsSpec)

/-- ITS FALSE NEIGHBOUR: 'it returns false'. Refute it at one input. -/
def matrixTellsWrong : ChangeSpec := { name := "matrixTells", fn := fun _ => fun
  | [d] => { results := [.lit (.bool false)], args := [d] }
  | _ => none }
def MatrixTellsWrongFalsely : Prop := matrixTellsRow.holds Try.pinned (OpenSpec.ofChange matrixTellsWrong)

/-- 'silolaw3.MatrixTimes': WHATEVER THE INPUT: true; the input reads as it did. -/
def matrixTimesSpec : ChangeSpec := { name := "matrixTimes", fn := fun _ => fun
  | [d] => { results := [.lit (.bool true)], args := [d] }
  | _ => none }
def matrixTimesRow : OpenClaim := { program := "ytlpjpeonejbpjaa", sum := "f0a54db4fb2c42f1109f3134da4b7dd8391f724c85554611e761e403da8d07f8", func := "silo/silolaw3.MatrixTimes", spec := "matrixTimes", unfollowed := true, recurses := true, apart := false }
def MatrixTimesSaid : Prop := matrixTimesRow.holds Try.pinned (OpenSpec.ofChange matrixTimesSpec)

/-- ITS FALSE NEIGHBOUR: 'it returns false'. Refute it at one input. -/
def matrixTimesWrong : ChangeSpec := { name := "matrixTimes", fn := fun _ => fun
  | [d] => { results := [.lit (.bool false)], args := [d] }
  | _ => none }
def MatrixTimesWrongFalsely : Prop := matrixTimesRow.holds Try.pinned (OpenSpec.ofChange matrixTimesWrong)

/-- 'silolaw3.MatrixBack': WHATEVER THE INPUT: true; the input reads as it did. -/
def matrixBackSpec : ChangeSpec := { name := "matrixBack", fn := fun _ => fun
  | [d] => { results := [.lit (.bool true)], args := [d] }
  | _ => none }
def matrixBackRow : OpenClaim := { program := "ytlpjpeonejbpjaa", sum := "f0a54db4fb2c42f1109f3134da4b7dd8391f724c85554611e761e403da8d07f8", func := "silo/silolaw3.MatrixBack", spec := "matrixBack", unfollowed := true, recurses := true, apart := false }
def MatrixBackSaid : Prop := matrixBackRow.holds Try.pinned (OpenSpec.ofChange matrixBackSpec)

/-- ITS FALSE NEIGHBOUR: 'it returns false'. Refute it at one input. -/
def matrixBackWrong : ChangeSpec := { name := "matrixBack", fn := fun _ => fun
  | [d] => { results := [.lit (.bool false)], args := [d] }
  | _ => none }
def MatrixBackWrongFalsely : Prop := matrixBackRow.holds Try.pinned (OpenSpec.ofChange matrixBackWrong)

/-- 'silolaw3.MatrixInverts': WHATEVER THE INPUT: true; the input reads as it did. -/
def matrixInvertsSpec : ChangeSpec := { name := "matrixInverts", fn := fun _ => fun
  | [d] => { results := [.lit (.bool true)], args := [d] }
  | _ => none }
def matrixInvertsRow : OpenClaim := { program := "ytlpjpeonejbpjaa", sum := "f0a54db4fb2c42f1109f3134da4b7dd8391f724c85554611e761e403da8d07f8", func := "silo/silolaw3.MatrixInverts", spec := "matrixInverts", unfollowed := true, recurses := true, apart := false }
def MatrixInvertsSaid : Prop := matrixInvertsRow.holds Try.pinned (OpenSpec.ofChange matrixInvertsSpec)

/-- ITS FALSE NEIGHBOUR: 'it returns false'. Refute it at one input. -/
def matrixInvertsWrong : ChangeSpec := { name := "matrixInverts", fn := fun _ => fun
  | [d] => { results := [.lit (.bool false)], args := [d] }
  | _ => none }
def MatrixInvertsWrongFalsely : Prop := matrixInvertsRow.holds Try.pinned (OpenSpec.ofChange matrixInvertsWrong)

/-- 'silolaw3.MatrixRanks': WHATEVER THE INPUT: true; the input reads as it did. -/
def matrixRanksSpec : ChangeSpec := { name := "matrixRanks", fn := fun _ => fun
  | [d] => { results := [.lit (.bool true)], args := [d] }
  | _ => none }
def matrixRanksRow : OpenClaim := { program := "ytlpjpeonejbpjaa", sum := "f0a54db4fb2c42f1109f3134da4b7dd8391f724c85554611e761e403da8d07f8", func := "silo/silolaw3.MatrixRanks", spec := "matrixRanks", unfollowed := true, recurses := true, apart := false }
def MatrixRanksSaid : Prop := matrixRanksRow.holds Try.pinned (OpenSpec.ofChange matrixRanksSpec)

/-- ITS FALSE NEIGHBOUR: 'it returns false'. Refute it at one input. -/
def matrixRanksWrong : ChangeSpec := { name := "matrixRanks", fn := fun _ => fun
  | [d] => { results := [.lit (.bool false)], args := [d] }
  | _ => none }
def MatrixRanksWrongFalsely : Prop := matrixRanksRow.holds Try.pinned (OpenSpec.ofChange matrixRanksWrong)

/-- 'silolaw3.MatrixLanes': WHATEVER THE INPUT: true; the input reads as it did. -/
def matrixLanesSpec : ChangeSpec := { name := "matrixLanes", fn := fun _ => fun
  | [d] => { results := [.lit (.bool true)], args := [d] }
  | _ => none }
def matrixLanesRow : OpenClaim := { program := "ytlpjpeonejbpjaa", sum := "f0a54db4fb2c42f1109f3134da4b7dd8391f724c85554611e761e403da8d07f8", func := "silo/silolaw3.MatrixLanes", spec := "matrixLanes", unfollowed := true, recurses := true, apart := false }
def MatrixLanesSaid : Prop := matrixLanesRow.holds Try.pinned (OpenSpec.ofChange matrixLanesSpec)

/-- ITS FALSE NEIGHBOUR: 'it returns false'. Refute it at one input. -/
def matrixLanesWrong : ChangeSpec := { name := "matrixLanes", fn := fun _ => fun
  | [d] => { results := [.lit (.bool false)], args := [d] }
  | _ => none }
def MatrixLanesWrongFalsely : Prop := matrixLanesRow.holds Try.pinned (OpenSpec.ofChange matrixLanesWrong)

/-- 'silolaw4.CodeEncodes': WHATEVER THE INPUT: true; the input reads as it did. -/
def codeEncodesSpec : ChangeSpec := { name := "codeEncodes", fn := fun _ => fun
  | [d] => { results := [.lit (.bool true)], args := [d] }
  | _ => none }
def codeEncodesRow : OpenClaim := { program := "ytlpjpeonejbpjaa", sum := "f0a54db4fb2c42f1109f3134da4b7dd8391f724c85554611e761e403da8d07f8", func := "silo/silolaw4.CodeEncodes", spec := "codeEncodes", unfollowed := true, recurses := true, apart := false }
def CodeEncodesSaid : Prop := codeEncodesRow.holds Try.pinned (OpenSpec.ofChange codeEncodesSpec)

/-- ITS FALSE NEIGHBOUR: 'it returns false'. Refute it at one input. -/
def codeEncodesWrong : ChangeSpec := { name := "codeEncodes", fn := fun _ => fun
  | [d] => { results := [.lit (.bool false)], args := [d] }
  | _ => none }
def CodeEncodesWrongFalsely : Prop := codeEncodesRow.holds Try.pinned (OpenSpec.ofChange codeEncodesWrong)

/- THE SECOND FORM. 'bulk': how many values and letters a reading holds, each counted each time it is reached (what is shared counts as often as it is met; a slice's spare places count too). A statement '..UptoSaid' is the law's where the arguments, and the package variables that the reading takes, are together of bulk at most 1048576: NARROWER than '..Said'. Prove '..Said' where nothing that the law and all that it calls make is longer than what came in: it says more and counts as full. Else prove '..UptoSaid'. A law counts once. -/
mutual
def uptoBulk {H : Type} : DataW H → Nat
  | .lit (.string bytes) => bytes.length + 1
  | .lit _ => 1
  | .nil => 1
  | .ptr d => uptoBulk d + 1
  | .slice elems spare => uptoBulkAll elems + uptoBulkAll spare + 1
  | .agg parts => uptoBulkAll parts + 1
  | .iface _ d => uptoBulk d + 1
  | .map entries => uptoBulkEntries entries + 1
  | .held _ => 1
def uptoBulkAll {H : Type} : List (DataW H) → Nat
  | [] => 0
  | d :: r => uptoBulk d + uptoBulkAll r
def uptoBulkEntries {H : Type} : List (Lit × DataW H) → Nat
  | [] => 0
  | x :: r => uptoBulkEntry x + uptoBulkEntries r
def uptoBulkEntry {H : Type} : Lit × DataW H → Nat
  | (.string bytes, d) => bytes.length + uptoBulk d + 1
  | (_, d) => uptoBulk d + 1
 end
def uptoSmall : (H : Type) → List (DataW H) → Bool := fun _ ds => decide (uptoBulkAll ds ≤ 1048576)
def OpenSpec.upto (s : _root_.Go.ChangeSpec) : _root_.Go.OpenSpec := { _root_.Go.OpenSpec.ofChange s with cond := some uptoSmall }

/-- 'silolaw2.LaneTwos', WHERE WHAT IT READS IS OF BULK AT MOST 1048576: true; the input reads as it did. -/
def laneTwosUptoRow : OpenClaim := { program := "ytlpjpeonejbpjaa", sum := "f0a54db4fb2c42f1109f3134da4b7dd8391f724c85554611e761e403da8d07f8", func := "silo/silolaw2.LaneTwos", spec := "laneTwos", unfollowed := true, recurses := true, apart := false, narrowed := true }
def LaneTwosUptoSaid : Prop := laneTwosUptoRow.holds Try.pinned (OpenSpec.upto laneTwosSpec)

/-- 'silolaw2.LaneSums', WHERE WHAT IT READS IS OF BULK AT MOST 1048576: true; the input reads as it did. -/
def laneSumsUptoRow : OpenClaim := { program := "ytlpjpeonejbpjaa", sum := "f0a54db4fb2c42f1109f3134da4b7dd8391f724c85554611e761e403da8d07f8", func := "silo/silolaw2.LaneSums", spec := "laneSums", unfollowed := true, recurses := true, apart := false, narrowed := true }
def LaneSumsUptoSaid : Prop := laneSumsUptoRow.holds Try.pinned (OpenSpec.upto laneSumsSpec)

/-- 'silolaw2.LaneBack', WHERE WHAT IT READS IS OF BULK AT MOST 1048576: true; the input reads as it did. -/
def laneBackUptoRow : OpenClaim := { program := "ytlpjpeonejbpjaa", sum := "f0a54db4fb2c42f1109f3134da4b7dd8391f724c85554611e761e403da8d07f8", func := "silo/silolaw2.LaneBack", spec := "laneBack", unfollowed := true, recurses := true, apart := false, narrowed := true }
def LaneBackUptoSaid : Prop := laneBackUptoRow.holds Try.pinned (OpenSpec.upto laneBackSpec)

/-- 'silolaw2.LaneOrders', WHERE WHAT IT READS IS OF BULK AT MOST 1048576: true; the input reads as it did. -/
def laneOrdersUptoRow : OpenClaim := { program := "ytlpjpeonejbpjaa", sum := "f0a54db4fb2c42f1109f3134da4b7dd8391f724c85554611e761e403da8d07f8", func := "silo/silolaw2.LaneOrders", spec := "laneOrders", unfollowed := true, recurses := true, apart := false, narrowed := true }
def LaneOrdersUptoSaid : Prop := laneOrdersUptoRow.holds Try.pinned (OpenSpec.upto laneOrdersSpec)

/-- 'silolaw2.LaneBytes', WHERE WHAT IT READS IS OF BULK AT MOST 1048576: true; the input reads as it did. -/
def laneBytesUptoRow : OpenClaim := { program := "ytlpjpeonejbpjaa", sum := "f0a54db4fb2c42f1109f3134da4b7dd8391f724c85554611e761e403da8d07f8", func := "silo/silolaw2.LaneBytes", spec := "laneBytes", unfollowed := true, recurses := true, apart := false, narrowed := true }
def LaneBytesUptoSaid : Prop := laneBytesUptoRow.holds Try.pinned (OpenSpec.upto laneBytesSpec)

/-- 'silolaw3.MatrixTells', WHERE WHAT IT READS IS OF BULK AT MOST 1048576: true; the input reads as it did. -/
def matrixTellsUptoRow : OpenClaim := { program := "ytlpjpeonejbpjaa", sum := "f0a54db4fb2c42f1109f3134da4b7dd8391f724c85554611e761e403da8d07f8", func := "silo/silolaw3.MatrixTells", spec := "matrixTells", unfollowed := true, recurses := true, apart := false, narrowed := true }
def MatrixTellsUptoSaid : Prop := matrixTellsUptoRow.holds Try.pinned (OpenSpec.upto matrixTellsSpec)

/-- 'silolaw3.MatrixTimes', WHERE WHAT IT READS IS OF BULK AT MOST 1048576: true; the input reads as it did. -/
def matrixTimesUptoRow : OpenClaim := { program := "ytlpjpeonejbpjaa", sum := "f0a54db4fb2c42f1109f3134da4b7dd8391f724c85554611e761e403da8d07f8", func := "silo/silolaw3.MatrixTimes", spec := "matrixTimes", unfollowed := true, recurses := true, apart := false, narrowed := true }
def MatrixTimesUptoSaid : Prop := matrixTimesUptoRow.holds Try.pinned (OpenSpec.upto matrixTimesSpec)

/-- 'silolaw3.MatrixBack', WHERE WHAT IT READS IS OF BULK AT MOST 1048576: true; the input reads as it did. -/
def matrixBackUptoRow : OpenClaim := { program := "ytlpjpeonejbpjaa", sum := "f0a54db4fb2c42f1109f3134da4b7dd8391f724c85554611e761e403da8d07f8", func := "silo/silolaw3.MatrixBack", spec := "matrixBack", unfollowed := true, recurses := true, apart := false, narrowed := true }
def MatrixBackUptoSaid : Prop := matrixBackUptoRow.holds Try.pinned (OpenSpec.upto matrixBackSpec)

/-- 'silolaw3.MatrixInverts', WHERE WHAT IT READS IS OF BULK AT MOST 1048576: true; the input reads as it did. -/
def matrixInvertsUptoRow : OpenClaim := { program := "ytlpjpeonejbpjaa", sum := "f0a54db4fb2c42f1109f3134da4b7dd8391f724c85554611e761e403da8d07f8", func := "silo/silolaw3.MatrixInverts", spec := "matrixInverts", unfollowed := true, recurses := true, apart := false, narrowed := true }
def MatrixInvertsUptoSaid : Prop := matrixInvertsUptoRow.holds Try.pinned (OpenSpec.upto matrixInvertsSpec)

/-- 'silolaw3.MatrixRanks', WHERE WHAT IT READS IS OF BULK AT MOST 1048576: true; the input reads as it did. -/
def matrixRanksUptoRow : OpenClaim := { program := "ytlpjpeonejbpjaa", sum := "f0a54db4fb2c42f1109f3134da4b7dd8391f724c85554611e761e403da8d07f8", func := "silo/silolaw3.MatrixRanks", spec := "matrixRanks", unfollowed := true, recurses := true, apart := false, narrowed := true }
def MatrixRanksUptoSaid : Prop := matrixRanksUptoRow.holds Try.pinned (OpenSpec.upto matrixRanksSpec)

/-- 'silolaw3.MatrixLanes', WHERE WHAT IT READS IS OF BULK AT MOST 1048576: true; the input reads as it did. -/
def matrixLanesUptoRow : OpenClaim := { program := "ytlpjpeonejbpjaa", sum := "f0a54db4fb2c42f1109f3134da4b7dd8391f724c85554611e761e403da8d07f8", func := "silo/silolaw3.MatrixLanes", spec := "matrixLanes", unfollowed := true, recurses := true, apart := false, narrowed := true }
def MatrixLanesUptoSaid : Prop := matrixLanesUptoRow.holds Try.pinned (OpenSpec.upto matrixLanesSpec)

/-- 'silolaw4.CodeEncodes', WHERE WHAT IT READS IS OF BULK AT MOST 1048576: true; the input reads as it did. -/
def codeEncodesUptoRow : OpenClaim := { program := "ytlpjpeonejbpjaa", sum := "f0a54db4fb2c42f1109f3134da4b7dd8391f724c85554611e761e403da8d07f8", func := "silo/silolaw4.CodeEncodes", spec := "codeEncodes", unfollowed := true, recurses := true, apart := false, narrowed := true }
def CodeEncodesUptoSaid : Prop := codeEncodesUptoRow.holds Try.pinned (OpenSpec.upto codeEncodesSpec)

end Rows
end Go.Proofs.Ytlpjpeonejbpjaa
