/- Ground of proofs about package arrow: it says nothing by itself, without a condition. -/
import Derived.Test.YtpdmgecbapmgdaaGreatLs0
set_option maxRecDepth 100000
section
open Go Go.Cx
namespace Go.Proofs
theorem Tryz.piece13:startsN Tryz.tab Tryz.plans Tryz.cfg 23 0 Tryz.S13=some (Tryz.vals13,Tryz.S14):=by kernel_rfl
end Go.Proofs
end
