/- Ground of proofs about package arrow: it says nothing by itself, without a condition. -/
import Derived.Test.YtpdmgecbapmgdaaGreatLs0
set_option maxRecDepth 100000
section
open Go Go.Cx
namespace Go.Proofs
theorem Tryz.piece9:zRa Tryz.tab Tryz.plans 20000 [5674,29,5817,5531,1295,30,2184,2163,2198,22,28,1927,663,3942,3058,2843,3199,5967,5966,5976,5975,5974,5973,5972,5971,5970,5969,5968,5977,5978,5979,27,5980,5989,5988,5987,5986,5985,5984,5983,5982,5981,5993,5992,5991,5990] 5994 Tryz.S9=some Tryz.S10:=by kernel_rfl
end Go.Proofs
end
