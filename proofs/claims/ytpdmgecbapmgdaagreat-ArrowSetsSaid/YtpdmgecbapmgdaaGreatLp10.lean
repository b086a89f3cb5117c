/- Ground of proofs about package arrow: it says nothing by itself, without a condition. -/
import Derived.Test.YtpdmgecbapmgdaaGreatLs0
set_option maxRecDepth 100000
section
open Go Go.Cx
namespace Go.Proofs
theorem Tryz.piece10:zRa Tryz.tab Tryz.plans 9639 [5674,29,5817,5531,1295,30,2184,2163,2198,22,28,1927,663,3942,3058,2843,3199,6262,6268,6267,6266,6269,6265,6264,6263,6258,6261,6260,6259,6376,27,6375,6377] 6378 Tryz.S10=some Tryz.S11:=by kernel_rfl
end Go.Proofs
end
