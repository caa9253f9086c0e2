/- The law ManifestSorted: it answers true and changes nothing that was there (no conditions). -/
import Derived.Test.YthdlmpgojoaijaaMsLAJ
namespace Go.Proofs.Ythdlmpgojoaijaa
open Go.RowKit Go.Shelf
attribute [local go_sem] Oper.semAt_some
theorem manifest_sorted (am : Option Addr) (lm cm : Nat) (ms : List Mf) (aa : Option Addr) (ls cs : Nat) (ss : List ByteArray) (W : World) (h : MfsIn W am lm ms) (hs : TextsIn W aa ls cs ss) :
    Calls Try.prog 3 #[.agg #[.slice am lm cm, .slice aa ls cs]] W fun e W' => e = .returned (.bool true) ∧ Kept W W' := manifest_sortedM.2 manifest_sortedA am lm cm ms aa ls cs ss W h hs
end Go.Proofs.Ythdlmpgojoaijaa
