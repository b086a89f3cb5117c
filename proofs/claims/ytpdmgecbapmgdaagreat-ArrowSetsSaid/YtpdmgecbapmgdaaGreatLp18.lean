/- Ground of proofs about package arrow: it says nothing by itself, without a condition. -/
import Derived.Test.YtpdmgecbapmgdaaGreatLs0
set_option maxRecDepth 100000
section
open Go Go.Cx
namespace Go.Proofs
theorem Tryz.piece18:zRa Tryz.tab Tryz.plans 20000 [6653,6658,7261,5674,7257,7258,7260,5817,6655,5531,6654,1295,30,2184,2163,2198,29,22,28,1927,7259,6948,6946,6950,663,27,3942,3058,2843,3199,6656,6659,6807,7266] 7267 Tryz.S18=some Tryz.S19:=by kernel_rfl
end Go.Proofs
end
