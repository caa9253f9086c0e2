/-
  DERIVED. GIVEN WITH THE SEED: THE CARDS: each row of YtboheogbllgfjaaDoorRows.lean that lists a variable, with what it lists TIED to the program's text (the seventh form; the later family's looks); each row that meets fmt, with fmt's text TOLD by the authors' own Lean function (tested against real Go, not proved from fmt's source: count such statements apart). THE CARD IS WHAT COUNTS. Prove the row's statement (the work); the ties are given (YtboheogbllgfjaaDoorTie.lean); close each card by the builder's one call (the guide's Derived/Test/ToyasCard.lean, 'card_holds'). Laid BY PROGRAM, IN A SANDBOX (cutbox-door.mjs). By AI agents, Wed Nov 11 2026. No macro, syntax, notation, axiom, sorry.
-/
import Derived.Test.YtboheogbllgfjaaDoorRows
import GoSem.ClaimSeven
namespace Go.Proofs.YtboheogbllgfjaaDoor
namespace Rows

/-- THE TIED CARD OF 'silolaw9.CheckOf'. -/
def checkOfCard : Claim7 := { stood := { row := checkOfRow, standIns := [], harness := (true, "62bddea6c61e6559ed80a8dfdad936d0623b74e8ffb4159af94edbf56d0625bf"), looks := false }, kinds := [], alts := [], laidByText := true, laidKinds := [.data], laidTests := true, laidLooks := .later }
def CheckOfCardSaid : Prop := Claim7.holds Tryd.pinned (.plain (OpenSpec.ofChange checkOfSpec)) checkOfCard

/-- THE TIED CARD OF 'silolaw9.CheckBoth'. -/
def checkBothCard : Claim7 := { stood := { row := checkBothRow, standIns := [], harness := (true, "62bddea6c61e6559ed80a8dfdad936d0623b74e8ffb4159af94edbf56d0625bf"), looks := false }, kinds := [], alts := [], laidByText := true, laidKinds := [.data], laidTests := true, laidLooks := .later }
def CheckBothCardSaid : Prop := Claim7.holds Tryd.pinned (.plain (OpenSpec.ofChange checkBothSpec)) checkBothCard

/-- THE TIED CARD OF 'silolaw9.CheckTurned'. -/
def checkTurnedCard : Claim7 := { stood := { row := checkTurnedRow, standIns := [], harness := (true, "62bddea6c61e6559ed80a8dfdad936d0623b74e8ffb4159af94edbf56d0625bf"), looks := false }, kinds := [], alts := [], laidByText := true, laidKinds := [.data], laidTests := true, laidLooks := .later }
def CheckTurnedCardSaid : Prop := Claim7.holds Tryd.pinned (.plain (OpenSpec.ofChange checkTurnedSpec)) checkTurnedCard

/-- THE TIED CARD OF 'silolaw9.CheckRuns'. -/
def checkRunsCard : Claim7 := { stood := { row := checkRunsRow, standIns := [], harness := (true, "62bddea6c61e6559ed80a8dfdad936d0623b74e8ffb4159af94edbf56d0625bf"), looks := false }, kinds := [], alts := [], laidByText := true, laidKinds := [.data], laidTests := true, laidLooks := .later }
def CheckRunsCardSaid : Prop := Claim7.holds Tryd.pinned (.plain (OpenSpec.ofChange checkRunsSpec)) checkRunsCard

/-- THE SECOND FORM's CARD OF 'silolaw9.CheckOf'. -/
def checkOfUptoCard : Claim7 := { stood := { row := checkOfUptoRow, standIns := [], harness := (true, "62bddea6c61e6559ed80a8dfdad936d0623b74e8ffb4159af94edbf56d0625bf"), looks := false }, kinds := [], alts := [], laidByText := true, laidKinds := [.data], laidTests := true, laidLooks := .later }
def CheckOfUptoCardSaid : Prop := Claim7.holds Tryd.pinned (.plain (OpenSpec.upto checkOfSpec)) checkOfUptoCard

/-- THE SECOND FORM's CARD OF 'silolaw9.CheckBoth'. -/
def checkBothUptoCard : Claim7 := { stood := { row := checkBothUptoRow, standIns := [], harness := (true, "62bddea6c61e6559ed80a8dfdad936d0623b74e8ffb4159af94edbf56d0625bf"), looks := false }, kinds := [], alts := [], laidByText := true, laidKinds := [.data], laidTests := true, laidLooks := .later }
def CheckBothUptoCardSaid : Prop := Claim7.holds Tryd.pinned (.plain (OpenSpec.upto checkBothSpec)) checkBothUptoCard

/-- THE SECOND FORM's CARD OF 'silolaw9.CheckTurned'. -/
def checkTurnedUptoCard : Claim7 := { stood := { row := checkTurnedUptoRow, standIns := [], harness := (true, "62bddea6c61e6559ed80a8dfdad936d0623b74e8ffb4159af94edbf56d0625bf"), looks := false }, kinds := [], alts := [], laidByText := true, laidKinds := [.data], laidTests := true, laidLooks := .later }
def CheckTurnedUptoCardSaid : Prop := Claim7.holds Tryd.pinned (.plain (OpenSpec.upto checkTurnedSpec)) checkTurnedUptoCard

/-- THE SECOND FORM's CARD OF 'silolaw9.CheckRuns'. -/
def checkRunsUptoCard : Claim7 := { stood := { row := checkRunsUptoRow, standIns := [], harness := (true, "62bddea6c61e6559ed80a8dfdad936d0623b74e8ffb4159af94edbf56d0625bf"), looks := false }, kinds := [], alts := [], laidByText := true, laidKinds := [.data], laidTests := true, laidLooks := .later }
def CheckRunsUptoCardSaid : Prop := Claim7.holds Tryd.pinned (.plain (OpenSpec.upto checkRunsSpec)) checkRunsUptoCard
end Rows
end Go.Proofs.YtboheogbllgfjaaDoor
