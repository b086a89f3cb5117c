/- Ground of proofs about package arrow: it says nothing by itself, without a condition. -/
import Derived.Test.YtpdmgecbapmgdaaGreatLs0
set_option maxRecDepth 100000
section
open Go Go.Cx
namespace Go.Proofs
theorem Tryz.piece12:((⟨{Tryz.S12.s with h:=demoteA Tryz.cfg Tryz.S12.s.h},none,[]⟩:L))=Tryz.S13:=by kernel_rfl
end Go.Proofs
end
