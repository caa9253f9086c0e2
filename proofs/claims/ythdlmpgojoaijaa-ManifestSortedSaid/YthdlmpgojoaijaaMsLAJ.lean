/- One arm of the walk of the law in MsL: its goal is the component of manifest_sortedM that the walk ahead left (no conditions). -/
import Derived.Test.YthdlmpgojoaijaaMsLAA
namespace Go.Proofs.Ythdlmpgojoaijaa
open Go.RowKit Go.Shelf
attribute [local go_sem] Oper.semAt_some
theorem manifest_sortedA  :
    manifest_sortedM.1 := manifest_sortedAM.2 manifest_sortedAA 
end Go.Proofs.Ythdlmpgojoaijaa
