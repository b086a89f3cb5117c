/- A part of the proof that ArrowPairs returns true for every input: no further condition. -/
import Derived.Test.YtnehjneldpinmaaGreatLs2
section
open Go Go.Cx
set_option maxRecDepth 100000
namespace Go.Proofs
theorem Tryz.piece15 : startsN Tryz.tab Tryz.plans Tryz.cfg 23 46 Tryz.S15 = some (Tryz.vals15, Tryz.S16) := by kernel_rfl
end Go.Proofs
end
