/- The laws of layer 4 on one shape alone, with both walks (no conditions). -/
import Derived.Test.YtoonpnpooljmlaaCo
import Derived.Test.YtoonpnpooljmlaaQa11
import Derived.Test.YtoonpnpooljmlaaCrJ
namespace Go.Proofs.Ytoonpnpooljmlaa
open Go.RowKit Go.Shelf

theorem of_all : OfC := of4_any (fun ax ls cs al ll cl ss ab lb cb _ W h _ _ => code_encodes ax ls cs al ll cl ss ab lb cb W h) (fun ax ls cs al ll cl ss ab lb cb T W h hT hlb => code_rebuilds ax ls cs al ll cl ss ab lb cb T W h hT hlb)
theorem one_all : LawC 6 := code_one of_all
theorem single_all : LawC 7 := code_single of_all
theorem none_all : LawC 8 := code_none of_all
theorem great_all : LawC 9 := code_great of_all
end Go.Proofs.Ytoonpnpooljmlaa
