/-
  DERIVED. GIVEN WITH THE SEED: THE CARDS: each row of YtjiefcjjgadjiaaDoorRows.lean that lists a variable, with what it lists TIED to the program's text (the seventh form; the later family's looks); each row that meets fmt, with fmt's text TOLD by the authors' own Lean function (tested against real Go, not proved from fmt's source: count such statements apart). THE CARD IS WHAT COUNTS. Prove the row's statement (the work); the ties are given (YtjiefcjjgadjiaaDoorTie.lean); close each card by the builder's one call (the guide's Derived/Test/ToyasCard.lean, 'card_holds'). Laid BY PROGRAM, IN A SANDBOX (cutbox-door.mjs). By AI agents, Wed Nov 11 2026. No macro, syntax, notation, axiom, sorry.
-/
import Derived.Test.YtjiefcjjgadjiaaDoorRows
import GoSem.ClaimSeven
namespace Go.Proofs.YtjiefcjjgadjiaaDoor
namespace Rows

/-- THE TIED CARD OF 'silolaw19.NamesSplit'. -/
def namesSplitCard : Claim7 := { stood := { row := namesSplitRow, standIns := [], harness := (true, "e5c8398856ccf5ecb62f0c5f5beacb6b1b2fa74ef62b3c2d4e74770d9e412ef7"), looks := false }, kinds := [], alts := [], laidByText := true, laidKinds := [.data, .pinned], laidTests := true, laidLooks := .later }
def NamesSplitCardSaid : Prop := Claim7.holds Tryd.pinned (.plain (OpenSpec.ofChange namesSplitSpec)) namesSplitCard

/-- THE TIED CARD OF 'silolaw19.NamesGlob'. -/
def namesGlobCard : Claim7 := { stood := { row := namesGlobRow, standIns := [], harness := (true, "e5c8398856ccf5ecb62f0c5f5beacb6b1b2fa74ef62b3c2d4e74770d9e412ef7"), looks := false }, kinds := [], alts := [], laidByText := true, laidKinds := [.data, .pinned], laidTests := true, laidLooks := .later }
def NamesGlobCardSaid : Prop := Claim7.holds Tryd.pinned (.plain (OpenSpec.ofChange namesGlobSpec)) namesGlobCard

/-- THE TIED CARD OF 'silolaw19.NamesFull'. -/
def namesFullCard : Claim7 := { stood := { row := namesFullRow, standIns := [], harness := (true, "e5c8398856ccf5ecb62f0c5f5beacb6b1b2fa74ef62b3c2d4e74770d9e412ef7"), looks := false }, kinds := [], alts := [], laidByText := true, laidKinds := [.data, .pinned], laidTests := true, laidLooks := .later }
def NamesFullCardSaid : Prop := Claim7.holds Tryd.pinned (.plain (OpenSpec.ofChange namesFullSpec)) namesFullCard

/-- THE TIED CARD OF 'silolaw19.NamesBytes'. -/
def namesBytesCard : Claim7 := { stood := { row := namesBytesRow, standIns := [], harness := (true, "e5c8398856ccf5ecb62f0c5f5beacb6b1b2fa74ef62b3c2d4e74770d9e412ef7"), looks := false }, kinds := [], alts := [], laidByText := true, laidKinds := [.data, .pinned], laidTests := true, laidLooks := .later }
def NamesBytesCardSaid : Prop := Claim7.holds Tryd.pinned (.plain (OpenSpec.ofChange namesBytesSpec)) namesBytesCard

/-- THE TIED CARD OF 'silolaw19.NamesVersions'. -/
def namesVersionsCard : Claim7 := { stood := { row := namesVersionsRow, standIns := [], harness := (true, "e5c8398856ccf5ecb62f0c5f5beacb6b1b2fa74ef62b3c2d4e74770d9e412ef7"), looks := false }, kinds := [], alts := [], laidByText := true, laidKinds := [.data, .pinned], laidTests := true, laidLooks := .later }
def NamesVersionsCardSaid : Prop := Claim7.holds Tryd.pinned (.plain (OpenSpec.ofChange namesVersionsSpec)) namesVersionsCard

/-- THE SECOND FORM's CARD OF 'silolaw19.NamesSplit'. -/
def namesSplitUptoCard : Claim7 := { stood := { row := namesSplitUptoRow, standIns := [], harness := (true, "e5c8398856ccf5ecb62f0c5f5beacb6b1b2fa74ef62b3c2d4e74770d9e412ef7"), looks := false }, kinds := [], alts := [], laidByText := true, laidKinds := [.data, .pinned], laidTests := true, laidLooks := .later }
def NamesSplitUptoCardSaid : Prop := Claim7.holds Tryd.pinned (.plain (OpenSpec.upto namesSplitSpec)) namesSplitUptoCard

/-- THE SECOND FORM's CARD OF 'silolaw19.NamesGlob'. -/
def namesGlobUptoCard : Claim7 := { stood := { row := namesGlobUptoRow, standIns := [], harness := (true, "e5c8398856ccf5ecb62f0c5f5beacb6b1b2fa74ef62b3c2d4e74770d9e412ef7"), looks := false }, kinds := [], alts := [], laidByText := true, laidKinds := [.data, .pinned], laidTests := true, laidLooks := .later }
def NamesGlobUptoCardSaid : Prop := Claim7.holds Tryd.pinned (.plain (OpenSpec.upto namesGlobSpec)) namesGlobUptoCard

/-- THE SECOND FORM's CARD OF 'silolaw19.NamesFull'. -/
def namesFullUptoCard : Claim7 := { stood := { row := namesFullUptoRow, standIns := [], harness := (true, "e5c8398856ccf5ecb62f0c5f5beacb6b1b2fa74ef62b3c2d4e74770d9e412ef7"), looks := false }, kinds := [], alts := [], laidByText := true, laidKinds := [.data, .pinned], laidTests := true, laidLooks := .later }
def NamesFullUptoCardSaid : Prop := Claim7.holds Tryd.pinned (.plain (OpenSpec.upto namesFullSpec)) namesFullUptoCard

/-- THE SECOND FORM's CARD OF 'silolaw19.NamesBytes'. -/
def namesBytesUptoCard : Claim7 := { stood := { row := namesBytesUptoRow, standIns := [], harness := (true, "e5c8398856ccf5ecb62f0c5f5beacb6b1b2fa74ef62b3c2d4e74770d9e412ef7"), looks := false }, kinds := [], alts := [], laidByText := true, laidKinds := [.data, .pinned], laidTests := true, laidLooks := .later }
def NamesBytesUptoCardSaid : Prop := Claim7.holds Tryd.pinned (.plain (OpenSpec.upto namesBytesSpec)) namesBytesUptoCard

/-- THE SECOND FORM's CARD OF 'silolaw19.NamesVersions'. -/
def namesVersionsUptoCard : Claim7 := { stood := { row := namesVersionsUptoRow, standIns := [], harness := (true, "e5c8398856ccf5ecb62f0c5f5beacb6b1b2fa74ef62b3c2d4e74770d9e412ef7"), looks := false }, kinds := [], alts := [], laidByText := true, laidKinds := [.data, .pinned], laidTests := true, laidLooks := .later }
def NamesVersionsUptoCardSaid : Prop := Claim7.holds Tryd.pinned (.plain (OpenSpec.upto namesVersionsSpec)) namesVersionsUptoCard
end Rows
end Go.Proofs.YtjiefcjjgadjiaaDoor
