/- A part of the proof that ArrowPairs returns true for every input: no further condition. -/
import Derived.Test.YtnehjneldpinmaaGreatLs1
import Derived.Test.YtnehjneldpinmaaGreatLs2
section
open Go Go.Cx
set_option maxRecDepth 100000
namespace Go.Proofs
theorem Tryz.piece14 : startsN Tryz.tab Tryz.plans Tryz.cfg 23 23 Tryz.S14 = some (Tryz.vals14, Tryz.S15) := by kernel_rfl
end Go.Proofs
end
