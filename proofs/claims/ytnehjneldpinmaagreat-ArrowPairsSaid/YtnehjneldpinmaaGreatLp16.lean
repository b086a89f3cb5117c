/- A part of the proof that ArrowPairs returns true for every input: no further condition. -/
import Derived.Test.YtnehjneldpinmaaGreatLs2
section
open Go Go.Cx
set_option maxRecDepth 100000
namespace Go.Proofs
theorem Tryz.piece16 : startsA Tryz.tab Tryz.plans Tryz.cfg 22 69 Tryz.S16 = some (Tryz.vals16, Tryz.S17) := by kernel_rfl
end Go.Proofs
end
