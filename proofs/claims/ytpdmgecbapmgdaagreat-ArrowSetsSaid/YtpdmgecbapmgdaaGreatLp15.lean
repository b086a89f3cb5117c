/- Ground of proofs about package arrow: it says nothing by itself, without a condition. -/
import Derived.Test.YtpdmgecbapmgdaaGreatLs0
set_option maxRecDepth 100000
section
open Go Go.Cx
namespace Go.Proofs
theorem Tryz.piece15:startsN Tryz.tab Tryz.plans Tryz.cfg 23 46 Tryz.S15=some (Tryz.vals15,Tryz.S16):=by kernel_rfl
end Go.Proofs
end
