/- Ground of proofs about package arrow: it says nothing by itself, without a condition. -/
import Derived.Test.YtpdmgecbapmgdaaGreatLs0
set_option maxRecDepth 100000
section
open Go Go.Cx
namespace Go.Proofs
theorem Tryz.piece3:zRa Tryz.tab Tryz.plans 20000 [27,29,1295,30,2184,2163,2198,28,1927,663,2200,2199,2402,2401,2403,2745,2752,2744,22] 2753 Tryz.S3=some Tryz.S4:=by kernel_rfl
end Go.Proofs
end
