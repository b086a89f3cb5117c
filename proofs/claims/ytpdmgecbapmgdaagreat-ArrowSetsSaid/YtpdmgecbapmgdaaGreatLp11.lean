/- Ground of proofs about package arrow: it says nothing by itself, without a condition. -/
import Derived.Test.YtpdmgecbapmgdaaGreatLs0
set_option maxRecDepth 100000
section
open Go Go.Cx
namespace Go.Proofs
theorem Tryz.piece11:zpc Tryz.tab Tryz.cfg 180 Tryz.S11=some Tryz.S12:=by kernel_rfl
theorem Tryz.ready:readyA Tryz.cfg Tryz.S12 (demoteA Tryz.cfg Tryz.S12.s.h)=true:=by kernel_rfl
end Go.Proofs
end
