/- Ground of proofs about package arrow: it says nothing by itself, without a condition. -/
import Derived.Test.YtpdmgecbapmgdaaGreatLs0
set_option maxRecDepth 100000
section
open Go Go.Cx
namespace Go.Proofs
theorem Tryz.piece17:(match fillA Tryz.cfg Tryz.vals Tryz.S17.s.h with|some h=>some (⟨{Tryz.S17.s with h},none,[]⟩:L)|none=>none)=some Tryz.S18:=by kernel_rfl
end Go.Proofs
end
