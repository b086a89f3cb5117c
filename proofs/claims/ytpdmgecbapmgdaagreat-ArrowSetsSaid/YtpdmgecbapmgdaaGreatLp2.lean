/- Ground of proofs about package arrow: it says nothing by itself, without a condition. -/
import Derived.Test.YtpdmgecbapmgdaaGreatLs0
set_option maxRecDepth 100000
section
open Go Go.Cx
namespace Go.Proofs
theorem Tryz.piece2:zRa Tryz.tab Tryz.plans 20000 [27,29,1295,30,28,663,1929,1928,1930,1927,1931,1932,1933,1934,1964,2061,2056,2078,2055,2074,22,2077,2076,2075,2071,2070,2069,2073,2067,2079,2065,2064,2063] 2080 Tryz.S2=some Tryz.S3:=by kernel_rfl
end Go.Proofs
end
