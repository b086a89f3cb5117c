/- Ground of proofs about package arrow: it says nothing by itself, without a condition. -/
import Derived.Test.YtpdmgecbapmgdaaGreatLs0
set_option maxRecDepth 100000
section
open Go Go.Cx
namespace Go.Proofs
theorem Tryz.piece5 : zRa Tryz.tab Tryz.plans 20000 [27, 29, 1295, 30, 2184, 2163, 2198, 28, 1927, 663, 2200, 2199, 2825, 3534, 3536, 3174, 3535, 3695, 3595, 3696, 3173, 3697, 3710, 3199, 3172, 3150, 3144, 3166, 3122, 3128, 3140, 3152, 3158, 3164, 3110, 3170, 3058, 3116, 3126, 3134, 3146, 3156, 3162, 3104, 3168, 3033, 3114, 3120, 3132, 3138, 3098, 3160, 2991, 3102, 3108, 3130, 3136, 3142, 2977, 2970, 2949, 3148, 3096, 3154, 2919, 3100, 3106, 3112, 2888, 2881, 2862, 2855, 2843, 3118, 3094, 3124, 2827, 3171, 3698, 2956, 22, 2824] 3711 Tryz.S5 = some Tryz.S6 := by kernel_rfl
end Go.Proofs
end
