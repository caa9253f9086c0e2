/- siloref19.Glob as names.Glob; the law NamesGlob's walk. -/
import Derived.Test.YtjiefcjjgadjiaaDoorGl4
import Derived.Test.YtjiefcjjgadjiaaDoorNamesGlob
namespace Go.Proofs.YtjiefcjjgadjiaaDoor
open Go.RowKit Go.Shelf
theorem ref_any (p s : ByteArray) (w : World) (hp : p.size ≤ 40) (hs : s.size ≤ 40) : Calls Tryd.prog 19 #[.string p, .string s] w fun e w' => e = .returned (.bool (globB p s)) ∧ Kept w w' := by
  have h := glob_ref p s w hp hs
  rw [show rowAt p s 0 0 = globB p s by unfold rowAt; rw [List.drop_zero, glob_is]] at h
  exact h
theorem names_globA (a : Option Addr) (l cap : Nat) (ss : List ByteArray) (W : World) (h : TextsIn W a l cap ss) (hm : MaxL W) :
    Calls Tryd.prog 4 #[.agg #[.slice a l cap]] W fun e W' => e = .returned (.bool true) ∧ Below W.heap.size W W' := names_glob a l cap ss W h hm ref_any
end Go.Proofs.YtjiefcjjgadjiaaDoor
