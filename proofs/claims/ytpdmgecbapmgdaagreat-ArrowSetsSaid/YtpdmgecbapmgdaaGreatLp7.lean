/- Ground of proofs about package arrow: it says nothing by itself, without a condition. -/
import Derived.Test.YtpdmgecbapmgdaaGreatLs0
set_option maxRecDepth 100000
section
open Go Go.Cx
namespace Go.Proofs
theorem Tryz.piece7:zRa Tryz.tab Tryz.plans 20001 [27,29,1295,30,2184,2163,2198,28,1927,663,3942,3058,2843,3199,3944,3943,4149,3947,3946,3945,4573,4574,4575,4576,4758,4760,4767,4770,4584,4581,4579,4580,4740,4607,4614,4633,4640,4671,4701,4708,4722,4726,4719,4705,4698,4668,4637,4630,4611,4604,4592,4729,4595,4743,4578,22,4577,4582,4583,4761,4763,4759,4768] 4772 Tryz.S7=some Tryz.S8:=by kernel_rfl
end Go.Proofs
end
