/- The walk of the law CodeRebuilds: it answers true and changes nothing that was there (no conditions). -/
import Derived.Test.YtoonpnpooljmlaaCrA
import Derived.Test.YtoonpnpooljmlaaCrB
import Derived.Test.YtoonpnpooljmlaaCrC
import Derived.Test.YtoonpnpooljmlaaCrD
namespace Go.Proofs.Ytoonpnpooljmlaa
open Go.RowKit Go.Shelf
attribute [local go_sem] Oper.semAt_some
theorem code_rebuilds (ax : Option Addr) (ls cs : Nat) (al : Option Addr) (ll cl : Nat) (ss : List ByteArray) (ab : Option Addr) (lb cb : Nat) (T : Nat → Bool) (W : World) (h : AskC W ax ls cs al ll cl ss) (hT : BoolsIn W ab lb T) (hlb : lb ≤ 9223372036854775807) :
    Calls Try.prog 4 #[.agg #[.slice ax ls cs, .slice al ll cl, .slice ab lb cb]] W fun e W' => e = .returned (.bool true) ∧ Kept W W' := code_rebuildsM.2 code_rebuildsA code_rebuildsB code_rebuildsC code_rebuildsD ax ls cs al ll cl ss ab lb cb T W h hT hlb
end Go.Proofs.Ytoonpnpooljmlaa
