/- Ground of the proofs of statements about package arrow: it says nothing of a statement by itself, and has no condition. -/
import Derived.Test.YtlabfeofejemjaaGreatLs0
set_option maxRecDepth 100000
section
open Go Go.Cx
namespace Go.Proofs
theorem Tryz.piece16 : startsA Tryz.tab Tryz.plans Tryz.cfg 22 69 Tryz.S16 = some (Tryz.vals16, Tryz.S17) := by kernel_rfl
end Go.Proofs
end
