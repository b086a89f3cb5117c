/- Ground of proofs about package arrow: it says nothing by itself, without a condition. -/
import Derived.Test.YtpdmgecbapmgdaaGreatLs0
set_option maxRecDepth 100000
section
open Go Go.Cx
namespace Go.Proofs
theorem Tryz.piece1:zRa Tryz.tab Tryz.plans 20000 [27,29,30,28,663,1297,1296,1298,1295,1299,1300,1301,1302,1332,1380,1377,1397,1376,1393,22,1396,1395,1394,1390,1389,1388,1392,1386,1398,1384,1382,1383] 1399 Tryz.S1=some Tryz.S2:=by kernel_rfl
end Go.Proofs
end
