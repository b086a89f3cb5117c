/- Ground of proofs about package arrow: it says nothing by itself, without a condition. -/
import Derived.Test.YtpdmgecbapmgdaaGreatLs0
set_option maxRecDepth 100000
section
open Go Go.Cx
namespace Go.Proofs
theorem Tryz.piece4:zRa Tryz.tab Tryz.plans 20000 [27,29,1295,30,2184,2163,2198,28,1927,663,2200,2199,2824,2825,3058,2858,2865,2884,2891,2922,2952,2959,2973,2980,2994,3033,2991,2977,2970,3036,2846,3061,3133,22,2826,3122,3110,3128,3116,3126,3104,3134,3114,3120,3098,3132,2949,3102,3108,3096,3130,2919,3100,3106,3112,2888,2881,2862,2855,2843,3118,3094,3124,2827,2956] 3135 Tryz.S4=some Tryz.S5:=by kernel_rfl
end Go.Proofs
end
