/-
  No cell of these rows narrows 'for every input' (looked for: loops, veiled, ifaces, maps, wideKeys, modest, calm, conditions, laid).
  DERIVED. THE GIVEN ROWS OF THIS SEAT. 5 by the template 'for every input the law returns true; each argument reads behind the call as it read before'; 0 by the template 'total and deterministic' (their statements: YtdllenoclnmmdaaTotals.lean).
  GIVEN WITH THE SEED: the statements are not yours to turn. If you find one false, say at which input.
  Laid BY PROGRAM, IN A SANDBOX (cutbox-rows.mjs): the forced cells as the released guide's own fill.sh prints them over the translation 42f1f89043b73feb… (all of the seat's roots in one cut). By AI agents, Wed Nov 11 2026. No macro, syntax, notation, axiom, sorry.
-/
import Derived.Test.YtdllenoclnmmdaaChecked
import GoSem.Claim
import GoSem.ClaimJoined
import GoSem.ClaimMapViews
import Derived.JoinedTies
import Derived.KernelRfl
namespace Go.Proofs.Ytdllenoclnmmdaa
/- THE CELL 'sum', in the pinned program and in every row, IS THE sha256 OF THE DUMP (.gsa) THAT YtdllenoclnmmdaaProg.lean LOADS. Nothing in Lean hashes anything: it is a label: what it is worth is what the hold of that sum in a sandbox is worth. -/
noncomputable def Try.pinned : Pinned := { name := "ytdllenoclnmmdaa", sum := "42f1f89043b73feb49a7d9a7a60ddc85f7a0f715f931ffc9efacc43fae613938", checked := Try.checked }
namespace Rows
def none {H : Type} : Left H := { results := [], args := [] }

/-- 'silolaw20.ManifestSorted': WHATEVER THE INPUT: true; the input reads as it did. -/
def manifestSortedSpec : ChangeSpec := { name := "manifestSorted", fn := fun _ => fun
  | [d] => { results := [.lit (.bool true)], args := [d] }
  | _ => none }
def manifestSortedRow : OpenClaim := { program := "ytdllenoclnmmdaa", sum := "42f1f89043b73feb49a7d9a7a60ddc85f7a0f715f931ffc9efacc43fae613938", func := "silo/silolaw20.ManifestSorted", spec := "manifestSorted", unfollowed := true, recurses := true, apart := false }
def ManifestSortedSaid : Prop := manifestSortedRow.holds Try.pinned (OpenSpec.ofChange manifestSortedSpec)

/-- ITS FALSE NEIGHBOUR: 'it returns false'. Refute it at one input. -/
def manifestSortedWrong : ChangeSpec := { name := "manifestSorted", fn := fun _ => fun
  | [d] => { results := [.lit (.bool false)], args := [d] }
  | _ => none }
def ManifestSortedWrongFalsely : Prop := manifestSortedRow.holds Try.pinned (OpenSpec.ofChange manifestSortedWrong)

/-- 'silolaw21.ReachTells': WHATEVER THE INPUT: true; the input reads as it did. -/
def reachTellsSpec : ChangeSpec := { name := "reachTells", fn := fun _ => fun
  | [d] => { results := [.lit (.bool true)], args := [d] }
  | _ => none }
def reachTellsRow : OpenClaim := { program := "ytdllenoclnmmdaa", sum := "42f1f89043b73feb49a7d9a7a60ddc85f7a0f715f931ffc9efacc43fae613938", func := "silo/silolaw21.ReachTells", spec := "reachTells", inPlace := ["internal/bytealg.abigen_runtime_cmpstring"], unfollowed := true, recurses := true, apart := false }
def ReachTellsSaid : Prop := reachTellsRow.holds Try.pinned (OpenSpec.ofChange reachTellsSpec)

/-- ITS FALSE NEIGHBOUR: 'it returns false'. Refute it at one input. -/
def reachTellsWrong : ChangeSpec := { name := "reachTells", fn := fun _ => fun
  | [d] => { results := [.lit (.bool false)], args := [d] }
  | _ => none }
def ReachTellsWrongFalsely : Prop := reachTellsRow.holds Try.pinned (OpenSpec.ofChange reachTellsWrong)

/-- 'silolaw21.ReachGrows': WHATEVER THE INPUT: true; the input reads as it did. -/
def reachGrowsSpec : ChangeSpec := { name := "reachGrows", fn := fun _ => fun
  | [d] => { results := [.lit (.bool true)], args := [d] }
  | _ => none }
def reachGrowsRow : OpenClaim := { program := "ytdllenoclnmmdaa", sum := "42f1f89043b73feb49a7d9a7a60ddc85f7a0f715f931ffc9efacc43fae613938", func := "silo/silolaw21.ReachGrows", spec := "reachGrows", inPlace := ["internal/bytealg.abigen_runtime_cmpstring"], unfollowed := true, recurses := true, apart := false }
def ReachGrowsSaid : Prop := reachGrowsRow.holds Try.pinned (OpenSpec.ofChange reachGrowsSpec)

/-- ITS FALSE NEIGHBOUR: 'it returns false'. Refute it at one input. -/
def reachGrowsWrong : ChangeSpec := { name := "reachGrows", fn := fun _ => fun
  | [d] => { results := [.lit (.bool false)], args := [d] }
  | _ => none }
def ReachGrowsWrongFalsely : Prop := reachGrowsRow.holds Try.pinned (OpenSpec.ofChange reachGrowsWrong)

/-- 'silolaw21.ReachChains': WHATEVER THE INPUT: true; the input reads as it did. -/
def reachChainsSpec : ChangeSpec := { name := "reachChains", fn := fun _ => fun
  | [d] => { results := [.lit (.bool true)], args := [d] }
  | _ => none }
def reachChainsRow : OpenClaim := { program := "ytdllenoclnmmdaa", sum := "42f1f89043b73feb49a7d9a7a60ddc85f7a0f715f931ffc9efacc43fae613938", func := "silo/silolaw21.ReachChains", spec := "reachChains", inPlace := ["internal/bytealg.abigen_runtime_cmpstring"], unfollowed := true, recurses := true, apart := false }
def ReachChainsSaid : Prop := reachChainsRow.holds Try.pinned (OpenSpec.ofChange reachChainsSpec)

/-- ITS FALSE NEIGHBOUR: 'it returns false'. Refute it at one input. -/
def reachChainsWrong : ChangeSpec := { name := "reachChains", fn := fun _ => fun
  | [d] => { results := [.lit (.bool false)], args := [d] }
  | _ => none }
def ReachChainsWrongFalsely : Prop := reachChainsRow.holds Try.pinned (OpenSpec.ofChange reachChainsWrong)

/-- 'silolaw21.ReachUsers': WHATEVER THE INPUT: true; the input reads as it did. -/
def reachUsersSpec : ChangeSpec := { name := "reachUsers", fn := fun _ => fun
  | [d] => { results := [.lit (.bool true)], args := [d] }
  | _ => none }
def reachUsersRow : OpenClaim := { program := "ytdllenoclnmmdaa", sum := "42f1f89043b73feb49a7d9a7a60ddc85f7a0f715f931ffc9efacc43fae613938", func := "silo/silolaw21.ReachUsers", spec := "reachUsers", inPlace := ["internal/bytealg.abigen_runtime_cmpstring"], unfollowed := true, recurses := true, apart := false }
def ReachUsersSaid : Prop := reachUsersRow.holds Try.pinned (OpenSpec.ofChange reachUsersSpec)

/-- ITS FALSE NEIGHBOUR: 'it returns false'. Refute it at one input. -/
def reachUsersWrong : ChangeSpec := { name := "reachUsers", fn := fun _ => fun
  | [d] => { results := [.lit (.bool false)], args := [d] }
  | _ => none }
def ReachUsersWrongFalsely : Prop := reachUsersRow.holds Try.pinned (OpenSpec.ofChange reachUsersWrong)

/- THE SECOND FORM. 'bulk': how many values and letters a reading holds, each counted each time it is reached (what is shared counts as often as it is met; a slice's spare places count too). A statement '..UptoSaid' is the law's where the arguments, and the package variables that the reading takes, are together of bulk at most 1048576: NARROWER than '..Said'. Prove '..Said' where nothing that the law and all that it calls make is longer than what came in: it says more and counts as full. Else prove '..UptoSaid'. A law counts once. -/
mutual
def uptoBulk {H : Type} : DataW H → Nat
  | .lit (.string bytes) => bytes.length + 1
  | .lit _ => 1
  | .nil => 1
  | .ptr d => uptoBulk d + 1
  | .slice elems spare => uptoBulkAll elems + uptoBulkAll spare + 1
  | .agg parts => uptoBulkAll parts + 1
  | .iface _ d => uptoBulk d + 1
  | .map entries => uptoBulkEntries entries + 1
  | .held _ => 1
def uptoBulkAll {H : Type} : List (DataW H) → Nat
  | [] => 0
  | d :: r => uptoBulk d + uptoBulkAll r
def uptoBulkEntries {H : Type} : List (Lit × DataW H) → Nat
  | [] => 0
  | x :: r => uptoBulkEntry x + uptoBulkEntries r
def uptoBulkEntry {H : Type} : Lit × DataW H → Nat
  | (.string bytes, d) => bytes.length + uptoBulk d + 1
  | (_, d) => uptoBulk d + 1
 end
def uptoSmall : (H : Type) → List (DataW H) → Bool := fun _ ds => decide (uptoBulkAll ds ≤ 1048576)
def OpenSpec.upto (s : _root_.Go.ChangeSpec) : _root_.Go.OpenSpec := { _root_.Go.OpenSpec.ofChange s with cond := some uptoSmall }

/-- 'silolaw20.ManifestSorted', WHERE WHAT IT READS IS OF BULK AT MOST 1048576: true; the input reads as it did. -/
def manifestSortedUptoRow : OpenClaim := { program := "ytdllenoclnmmdaa", sum := "42f1f89043b73feb49a7d9a7a60ddc85f7a0f715f931ffc9efacc43fae613938", func := "silo/silolaw20.ManifestSorted", spec := "manifestSorted", unfollowed := true, recurses := true, apart := false, narrowed := true }
def ManifestSortedUptoSaid : Prop := manifestSortedUptoRow.holds Try.pinned (OpenSpec.upto manifestSortedSpec)

/-- 'silolaw21.ReachTells', WHERE WHAT IT READS IS OF BULK AT MOST 1048576: true; the input reads as it did. -/
def reachTellsUptoRow : OpenClaim := { program := "ytdllenoclnmmdaa", sum := "42f1f89043b73feb49a7d9a7a60ddc85f7a0f715f931ffc9efacc43fae613938", func := "silo/silolaw21.ReachTells", spec := "reachTells", inPlace := ["internal/bytealg.abigen_runtime_cmpstring"], unfollowed := true, recurses := true, apart := false, narrowed := true }
def ReachTellsUptoSaid : Prop := reachTellsUptoRow.holds Try.pinned (OpenSpec.upto reachTellsSpec)

/-- 'silolaw21.ReachGrows', WHERE WHAT IT READS IS OF BULK AT MOST 1048576: true; the input reads as it did. -/
def reachGrowsUptoRow : OpenClaim := { program := "ytdllenoclnmmdaa", sum := "42f1f89043b73feb49a7d9a7a60ddc85f7a0f715f931ffc9efacc43fae613938", func := "silo/silolaw21.ReachGrows", spec := "reachGrows", inPlace := ["internal/bytealg.abigen_runtime_cmpstring"], unfollowed := true, recurses := true, apart := false, narrowed := true }
def ReachGrowsUptoSaid : Prop := reachGrowsUptoRow.holds Try.pinned (OpenSpec.upto reachGrowsSpec)

/-- 'silolaw21.ReachChains', WHERE WHAT IT READS IS OF BULK AT MOST 1048576: true; the input reads as it did. -/
def reachChainsUptoRow : OpenClaim := { program := "ytdllenoclnmmdaa", sum := "42f1f89043b73feb49a7d9a7a60ddc85f7a0f715f931ffc9efacc43fae613938", func := "silo/silolaw21.ReachChains", spec := "reachChains", inPlace := ["internal/bytealg.abigen_runtime_cmpstring"], unfollowed := true, recurses := true, apart := false, narrowed := true }
def ReachChainsUptoSaid : Prop := reachChainsUptoRow.holds Try.pinned (OpenSpec.upto reachChainsSpec)

/-- 'silolaw21.ReachUsers', WHERE WHAT IT READS IS OF BULK AT MOST 1048576: true; the input reads as it did. -/
def reachUsersUptoRow : OpenClaim := { program := "ytdllenoclnmmdaa", sum := "42f1f89043b73feb49a7d9a7a60ddc85f7a0f715f931ffc9efacc43fae613938", func := "silo/silolaw21.ReachUsers", spec := "reachUsers", inPlace := ["internal/bytealg.abigen_runtime_cmpstring"], unfollowed := true, recurses := true, apart := false, narrowed := true }
def ReachUsersUptoSaid : Prop := reachUsersUptoRow.holds Try.pinned (OpenSpec.upto reachUsersSpec)

end Rows
end Go.Proofs.Ytdllenoclnmmdaa
