/- Ground of proofs about package arrow: it says nothing by itself, without a condition. -/
import Derived.Test.YtpdmgecbapmgdaaGreatLs0
set_option maxRecDepth 100000
section
open Go Go.Cx
namespace Go.Proofs
theorem Tryz.piece8 : zRa Tryz.tab Tryz.plans 20000 [27, 29, 1295, 30, 2184, 2163, 2198, 28, 1927, 663, 3942, 3058, 2843, 3199, 3944, 3943, 4149, 3947, 3946, 3945, 4574, 5216, 5218, 4923, 5217, 4922, 5271, 4985, 4921, 4899, 4893, 4915, 4871, 4877, 4889, 4901, 4907, 4913, 4859, 4919, 4807, 4865, 4875, 4883, 4895, 4905, 4911, 4853, 4917, 4782, 4863, 4869, 4881, 4887, 4847, 4909, 4740, 4851, 4857, 4879, 4885, 4891, 4726, 4719, 4705, 4698, 4897, 4845, 4903, 4668, 4849, 4855, 4861, 4637, 4630, 4611, 4604, 4867, 4843, 4873, 4576, 4920, 5268, 4592, 22, 4573] 5272 Tryz.S8 = some Tryz.S9 := by kernel_rfl
end Go.Proofs
end
