/- Ground of proofs about package arrow: it says nothing by itself, without a condition. -/
import Derived.Test.YtpdmgecbapmgdaaGreatLs0
set_option maxRecDepth 100000
section
open Go Go.Cx
namespace Go.Proofs
theorem Tryz.piece14:startsN Tryz.tab Tryz.plans Tryz.cfg 23 23 Tryz.S14=some (Tryz.vals14,Tryz.S15):=by kernel_rfl
end Go.Proofs
end
