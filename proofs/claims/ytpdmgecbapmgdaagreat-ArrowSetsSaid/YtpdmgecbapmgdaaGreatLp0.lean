/- Ground of proofs about package arrow: it says nothing by itself, without a condition. -/
import Derived.Test.YtpdmgecbapmgdaaGreatLs0
set_option maxRecDepth 100000
section
open Go Go.Cx
namespace Go.Proofs
theorem Tryz.piece0:zRa Tryz.tab Tryz.plans 20000 [27,29,30,28,665,664,666,663,667,668,669,670,700,703,702,708,701,704,22,707,706,705,709] 710 Tryz.S0=some Tryz.S1:=by kernel_rfl
end Go.Proofs
end
