/- Ground of the proofs of statements about package arrow: it says nothing of a statement by itself, and has no condition. -/
import Derived.Test.YtlabfeofejemjaaGreatLs0
set_option maxRecDepth 100000
section
open Go Go.Cx
namespace Go.Proofs
theorem Tryz.piece11 : allocA Tryz.tab Tryz.cfg 159 Tryz.S11 = some Tryz.S12 := by kernel_rfl
theorem Tryz.ready : readyA Tryz.cfg Tryz.S12 (demoteA Tryz.cfg Tryz.S12.s.h) = true := by kernel_rfl
end Go.Proofs
end
