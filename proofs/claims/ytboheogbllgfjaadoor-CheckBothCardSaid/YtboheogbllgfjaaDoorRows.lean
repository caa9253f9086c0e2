/-
  NARROWER THAN 'FOR EVERY INPUT', by the rows' own cells (each row's printed sentence says how): CheckOf: laid · CheckBoth: laid · CheckTurned: laid · CheckRuns: laid.
  DERIVED. THE GIVEN ROWS OF THIS SEAT. 4 by the template 'for every input the law returns true; each argument reads behind the call as it read before'; 0 by the template 'total and deterministic' (their statements: YtboheogbllgfjaaDoorTotals.lean).
  GIVEN WITH THE SEED: the statements are not yours to turn. If you find one false, say at which input.
  Laid BY PROGRAM, IN A SANDBOX (cutbox-rows.mjs): the forced cells as the released guide's own fill.sh prints them over the translation 03bbd289392d020a… (all of the seat's roots in one cut). By AI agents, Wed Nov 11 2026. No macro, syntax, notation, axiom, sorry.
-/
import Derived.Test.YtboheogbllgfjaaDoorChecked
import GoSem.Claim
import GoSem.ClaimJoined
import GoSem.ClaimMapViews
import Derived.JoinedTies
import Derived.KernelRfl
namespace Go.Proofs.YtboheogbllgfjaaDoor
/- THE CELL 'sum', in the pinned program and in every row, IS THE sha256 OF THE DUMP (.gsa) THAT YtboheogbllgfjaaDoorProg.lean LOADS. Nothing in Lean hashes anything: it is a label: what it is worth is what the hold of that sum in a sandbox is worth. -/
noncomputable def Tryd.pinned : Pinned := { name := "ytboheogbllgfjaadoor", sum := "03bbd289392d020a01724343783d6f0e74a48d208873796c96eaa9939ac436bd", checked := Tryd.checked }
namespace Rows
def none {H : Type} : Left H := { results := [], args := [] }

/- WHAT THE LISTED PACKAGE-LEVEL VARIABLES READ AS WHEN THE CALL BEGINS. Each datum BY PROGRAM (the guide's laid-datum.mjs) off the statement by which the dump's own 'gosem.cut.vars' lays the variable. In a bare row this is a premise. The card (YtboheogbllgfjaaDoorCards.lean) ties it to the program's text. -/
def laid_silo_check_fours {H : Type} : DataW H := .agg [.lit (.int .u64 0), .lit (.int .u64 9051005139383707209), .lit (.int .u64 18102010278767414418), .lit (.int .u64 9704381199536204507), .lit (.int .u64 7257036000092981153), .lit (.int .u64 1814259000023245288), .lit (.int .u64 11493583972846619443), .lit (.int .u64 16292555063049989498), .lit (.int .u64 14514072000185962306), .lit (.int .u64 13040162471224305931), .lit (.int .u64 3628518000046490576), .lit (.int .u64 5746791986423309721), .lit (.int .u64 12527462061959317731), .lit (.int .u64 15006518869663149738), .lit (.int .u64 6263731030979658865), .lit (.int .u64 3131865515489829432)]

/-- 'silolaw9.CheckOf': WHATEVER THE INPUT: true; the input reads as it did. -/
def checkOfSpec : ChangeSpec := { name := "checkOf", fn := fun _ => fun
  | [d] => { results := [.lit (.bool true)], args := [d] }
  | _ => none }
def checkOfRow : OpenClaim := { program := "ytboheogbllgfjaadoor", sum := "03bbd289392d020a01724343783d6f0e74a48d208873796c96eaa9939ac436bd", func := "silo/silolaw9.CheckOf", spec := "checkOf", unfollowed := true, recurses := true, named := ["silo/check.fours"], apart := false, laid := [("silo/check.fours", laid_silo_check_fours)] }
def CheckOfSaid : Prop := checkOfRow.holds Tryd.pinned (OpenSpec.ofChange checkOfSpec)

/-- ITS FALSE NEIGHBOUR: 'it returns false'. Refute it at one input. -/
def checkOfWrong : ChangeSpec := { name := "checkOf", fn := fun _ => fun
  | [d] => { results := [.lit (.bool false)], args := [d] }
  | _ => none }
def CheckOfWrongFalsely : Prop := checkOfRow.holds Tryd.pinned (OpenSpec.ofChange checkOfWrong)

/-- 'silolaw9.CheckBoth': WHATEVER THE INPUT: true; the input reads as it did. -/
def checkBothSpec : ChangeSpec := { name := "checkBoth", fn := fun _ => fun
  | [d] => { results := [.lit (.bool true)], args := [d] }
  | _ => none }
def checkBothRow : OpenClaim := { program := "ytboheogbllgfjaadoor", sum := "03bbd289392d020a01724343783d6f0e74a48d208873796c96eaa9939ac436bd", func := "silo/silolaw9.CheckBoth", spec := "checkBoth", unfollowed := true, recurses := true, named := ["silo/check.fours"], apart := false, laid := [("silo/check.fours", laid_silo_check_fours)] }
def CheckBothSaid : Prop := checkBothRow.holds Tryd.pinned (OpenSpec.ofChange checkBothSpec)

/-- ITS FALSE NEIGHBOUR: 'it returns false'. Refute it at one input. -/
def checkBothWrong : ChangeSpec := { name := "checkBoth", fn := fun _ => fun
  | [d] => { results := [.lit (.bool false)], args := [d] }
  | _ => none }
def CheckBothWrongFalsely : Prop := checkBothRow.holds Tryd.pinned (OpenSpec.ofChange checkBothWrong)

/-- 'silolaw9.CheckTurned': WHATEVER THE INPUT: true; the input reads as it did. -/
def checkTurnedSpec : ChangeSpec := { name := "checkTurned", fn := fun _ => fun
  | [d] => { results := [.lit (.bool true)], args := [d] }
  | _ => none }
def checkTurnedRow : OpenClaim := { program := "ytboheogbllgfjaadoor", sum := "03bbd289392d020a01724343783d6f0e74a48d208873796c96eaa9939ac436bd", func := "silo/silolaw9.CheckTurned", spec := "checkTurned", named := ["silo/check.fours"], apart := false, laid := [("silo/check.fours", laid_silo_check_fours)] }
def CheckTurnedSaid : Prop := checkTurnedRow.holds Tryd.pinned (OpenSpec.ofChange checkTurnedSpec)

/-- ITS FALSE NEIGHBOUR: 'it returns false'. Refute it at one input. -/
def checkTurnedWrong : ChangeSpec := { name := "checkTurned", fn := fun _ => fun
  | [d] => { results := [.lit (.bool false)], args := [d] }
  | _ => none }
def CheckTurnedWrongFalsely : Prop := checkTurnedRow.holds Tryd.pinned (OpenSpec.ofChange checkTurnedWrong)

/-- 'silolaw9.CheckRuns': WHATEVER THE INPUT: true; the input reads as it did. -/
def checkRunsSpec : ChangeSpec := { name := "checkRuns", fn := fun _ => fun
  | [d] => { results := [.lit (.bool true)], args := [d] }
  | _ => none }
def checkRunsRow : OpenClaim := { program := "ytboheogbllgfjaadoor", sum := "03bbd289392d020a01724343783d6f0e74a48d208873796c96eaa9939ac436bd", func := "silo/silolaw9.CheckRuns", spec := "checkRuns", named := ["silo/check.fours"], apart := false, laid := [("silo/check.fours", laid_silo_check_fours)] }
def CheckRunsSaid : Prop := checkRunsRow.holds Tryd.pinned (OpenSpec.ofChange checkRunsSpec)

/-- ITS FALSE NEIGHBOUR: 'it returns false'. Refute it at one input. -/
def checkRunsWrong : ChangeSpec := { name := "checkRuns", fn := fun _ => fun
  | [d] => { results := [.lit (.bool false)], args := [d] }
  | _ => none }
def CheckRunsWrongFalsely : Prop := checkRunsRow.holds Tryd.pinned (OpenSpec.ofChange checkRunsWrong)

/- THE SECOND FORM. 'bulk': how many values and letters a reading holds, each counted each time it is reached (what is shared counts as often as it is met; a slice's spare places count too). A statement '..UptoSaid' is the law's where the arguments, and the package variables that the reading takes, are together of bulk at most 1048576: NARROWER than '..Said'. Prove '..Said' where nothing that the law and all that it calls make is longer than what came in: it says more and counts as full. Else prove '..UptoSaid'. A law counts once. -/
mutual
def uptoBulk {H : Type} : DataW H → Nat
  | .lit (.string bytes) => bytes.length + 1
  | .lit _ => 1
  | .nil => 1
  | .ptr d => uptoBulk d + 1
  | .slice elems spare => uptoBulkAll elems + uptoBulkAll spare + 1
  | .agg parts => uptoBulkAll parts + 1
  | .iface _ d => uptoBulk d + 1
  | .map entries => uptoBulkEntries entries + 1
  | .held _ => 1
def uptoBulkAll {H : Type} : List (DataW H) → Nat
  | [] => 0
  | d :: r => uptoBulk d + uptoBulkAll r
def uptoBulkEntries {H : Type} : List (Lit × DataW H) → Nat
  | [] => 0
  | x :: r => uptoBulkEntry x + uptoBulkEntries r
def uptoBulkEntry {H : Type} : Lit × DataW H → Nat
  | (.string bytes, d) => bytes.length + uptoBulk d + 1
  | (_, d) => uptoBulk d + 1
 end
def uptoSmall : (H : Type) → List (DataW H) → Bool := fun _ ds => decide (uptoBulkAll ds ≤ 1048576)
def OpenSpec.upto (s : _root_.Go.ChangeSpec) : _root_.Go.OpenSpec := { _root_.Go.OpenSpec.ofChange s with cond := some uptoSmall }

/-- 'silolaw9.CheckOf', WHERE WHAT IT READS IS OF BULK AT MOST 1048576: true; the input reads as it did. -/
def checkOfUptoRow : OpenClaim := { program := "ytboheogbllgfjaadoor", sum := "03bbd289392d020a01724343783d6f0e74a48d208873796c96eaa9939ac436bd", func := "silo/silolaw9.CheckOf", spec := "checkOf", unfollowed := true, recurses := true, named := ["silo/check.fours"], apart := false, laid := [("silo/check.fours", laid_silo_check_fours)], narrowed := true }
def CheckOfUptoSaid : Prop := checkOfUptoRow.holds Tryd.pinned (OpenSpec.upto checkOfSpec)

/-- 'silolaw9.CheckBoth', WHERE WHAT IT READS IS OF BULK AT MOST 1048576: true; the input reads as it did. -/
def checkBothUptoRow : OpenClaim := { program := "ytboheogbllgfjaadoor", sum := "03bbd289392d020a01724343783d6f0e74a48d208873796c96eaa9939ac436bd", func := "silo/silolaw9.CheckBoth", spec := "checkBoth", unfollowed := true, recurses := true, named := ["silo/check.fours"], apart := false, laid := [("silo/check.fours", laid_silo_check_fours)], narrowed := true }
def CheckBothUptoSaid : Prop := checkBothUptoRow.holds Tryd.pinned (OpenSpec.upto checkBothSpec)

/-- 'silolaw9.CheckTurned', WHERE WHAT IT READS IS OF BULK AT MOST 1048576: true; the input reads as it did. -/
def checkTurnedUptoRow : OpenClaim := { program := "ytboheogbllgfjaadoor", sum := "03bbd289392d020a01724343783d6f0e74a48d208873796c96eaa9939ac436bd", func := "silo/silolaw9.CheckTurned", spec := "checkTurned", named := ["silo/check.fours"], apart := false, laid := [("silo/check.fours", laid_silo_check_fours)], narrowed := true }
def CheckTurnedUptoSaid : Prop := checkTurnedUptoRow.holds Tryd.pinned (OpenSpec.upto checkTurnedSpec)

/-- 'silolaw9.CheckRuns', WHERE WHAT IT READS IS OF BULK AT MOST 1048576: true; the input reads as it did. -/
def checkRunsUptoRow : OpenClaim := { program := "ytboheogbllgfjaadoor", sum := "03bbd289392d020a01724343783d6f0e74a48d208873796c96eaa9939ac436bd", func := "silo/silolaw9.CheckRuns", spec := "checkRuns", named := ["silo/check.fours"], apart := false, laid := [("silo/check.fours", laid_silo_check_fours)], narrowed := true }
def CheckRunsUptoSaid : Prop := checkRunsUptoRow.holds Tryd.pinned (OpenSpec.upto checkRunsSpec)

end Rows
end Go.Proofs.YtboheogbllgfjaaDoor
