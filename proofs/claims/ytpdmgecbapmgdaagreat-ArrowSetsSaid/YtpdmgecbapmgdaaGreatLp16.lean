/- Ground of proofs about package arrow: it says nothing by itself, without a condition. -/
import Derived.Test.YtpdmgecbapmgdaaGreatLs0
set_option maxRecDepth 100000
section
open Go Go.Cx
namespace Go.Proofs
theorem Tryz.piece16:startsA Tryz.tab Tryz.plans Tryz.cfg 22 69 Tryz.S16=some (Tryz.vals16,Tryz.S17):=by kernel_rfl
end Go.Proofs
end
