/- Ground of proofs about package arrow: it says nothing by itself, without a condition. -/
import Derived.Test.YtpdmgecbapmgdaaGreatLs0
set_option maxRecDepth 100000
section
open Go Go.Cx
namespace Go.Proofs
theorem Tryz.piece6:zRa Tryz.tab Tryz.plans 20001 [27,29,1295,30,2184,2163,2198,28,1927,663,3942,3058,2843,3199,3944,3943,4149,3947,3946,3945,4151,4150,4152,4294,4301,4293,4305,4304,4303,4302,22] 4306 Tryz.S6=some Tryz.S7:=by kernel_rfl
end Go.Proofs
end
