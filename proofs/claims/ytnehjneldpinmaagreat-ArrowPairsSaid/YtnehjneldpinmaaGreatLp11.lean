/- A part of the proof that ArrowPairs returns true for every input: no further condition. -/
import Derived.Test.YtnehjneldpinmaaGreatLs1
section
open Go Go.Cx
set_option maxRecDepth 100000
namespace Go.Proofs
theorem Tryz.piece11 : allocA Tryz.tab Tryz.cfg 138 Tryz.S11 = some Tryz.S12 := by kernel_rfl
theorem Tryz.ready : readyA Tryz.cfg Tryz.S12 (demoteA Tryz.cfg Tryz.S12.s.h) = true := by kernel_rfl
end Go.Proofs
end
