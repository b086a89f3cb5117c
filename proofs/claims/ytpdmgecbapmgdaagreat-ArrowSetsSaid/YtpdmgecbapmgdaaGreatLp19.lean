/- Ground of proofs about package arrow: it says nothing by itself, without a condition. -/
import Derived.Test.YtpdmgecbapmgdaaGreatLs0
set_option maxRecDepth 100000
section
open Go Go.Cx
namespace Go.Proofs
theorem Tryz.piece19:zRa Tryz.tab Tryz.plans 179 [6653,6658,7261,7266,5674,7257,7258,7260,5817,6655,5531,6654,1295,30,2184,2163,2198,29,22,28,6807,1927,7259,6948,6946,6950,663,7267,27,3942,3058,2843,3199,6656,6659] 7268 Tryz.S19=some Tryz.S20:=by kernel_rfl
theorem Tryz.pieceEnd:(match stepL Tryz.tab Tryz.plans Tryz.S20 with|.done (.bool true) _=>not Tryz.S20.s.fr.deferred|_=>false)=true:=by kernel_rfl
end Go.Proofs
end
