/- Calls, evaluated. -/
import Derived.Test.YtemlkeknpjbcnaaGe0
import Derived.Test.YtemlkeknpjbcnaaGe1
import Derived.Test.YtemlkeknpjbcnaaGe2
import Derived.Test.YtemlkeknpjbcnaaGe3
import Derived.Test.YtemlkeknpjbcnaaGe4
set_option linter.unusedVariables false
set_option maxRecDepth 100000
namespace Go.V
open Go.Proofs.Try (prog)
theorem ok89 : PuOK prog k89.f k89.args k89.t := known (L := []) memos_nil (by kernel_rfl)
theorem ok90 : PuOK prog k90.f k90.args k90.t := known (L := [k81, k83, k88, k89]) (memos_cons ok81 (memos_cons ok83 (memos_cons ok88 (memos_cons ok89 memos_nil)))) (by kernel_rfl)
theorem ok91 : PuOK prog k91.f k91.args k91.t := known (L := []) memos_nil (by kernel_rfl)
theorem ok92 : PuOK prog k92.f k92.args k92.t := known (L := []) memos_nil (by kernel_rfl)
theorem ok93 : PuOK prog k93.f k93.args k93.t := known (L := [k92]) (memos_cons ok92 memos_nil) (by kernel_rfl)
theorem ok94 : PuOK prog k94.f k94.args k94.t := known (L := [k93]) (memos_cons ok93 memos_nil) (by kernel_rfl)
theorem ok95 : PuOK prog k95.f k95.args k95.t := known (L := [k89, k91, k94]) (memos_cons ok89 (memos_cons ok91 (memos_cons ok94 memos_nil))) (by kernel_rfl)
theorem ok96 : PuOK prog k96.f k96.args k96.t := known (L := []) memos_nil (by kernel_rfl)
theorem ok97 : PuOK prog k97.f k97.args k97.t := known (L := []) memos_nil (by kernel_rfl)
theorem ok98 : PuOK prog k98.f k98.args k98.t := known (L := [k89, k91, k96, k97]) (memos_cons ok89 (memos_cons ok91 (memos_cons ok96 (memos_cons ok97 memos_nil)))) (by kernel_rfl)
theorem ok99 : PuOK prog k99.f k99.args k99.t := known (L := []) memos_nil (by kernel_rfl)
theorem ok100 : PuOK prog k100.f k100.args k100.t := known (L := []) memos_nil (by kernel_rfl)
theorem ok101 : PuOK prog k101.f k101.args k101.t := known (L := [k100]) (memos_cons ok100 memos_nil) (by kernel_rfl)
theorem ok102 : PuOK prog k102.f k102.args k102.t := known (L := [k101]) (memos_cons ok101 memos_nil) (by kernel_rfl)
theorem ok103 : PuOK prog k103.f k103.args k103.t := known (L := [k97, k99, k102]) (memos_cons ok97 (memos_cons ok99 (memos_cons ok102 memos_nil))) (by kernel_rfl)
theorem ok104 : PuOK prog k104.f k104.args k104.t := known (L := [k70, k71, k74, k79, k82, k87, k90, k95, k98, k103]) (memos_cons ok70 (memos_cons ok71 (memos_cons ok74 (memos_cons ok79 (memos_cons ok82 (memos_cons ok87 (memos_cons ok90 (memos_cons ok95 (memos_cons ok98 (memos_cons ok103 memos_nil)))))))))) (by kernel_rfl)
theorem ok105 : PuOK prog k105.f k105.args k105.t := known (L := [k3, k7, k19, k22, k26, k35, k54, k66, k104]) (memos_cons ok3 (memos_cons ok7 (memos_cons ok19 (memos_cons ok22 (memos_cons ok26 (memos_cons ok35 (memos_cons ok54 (memos_cons ok66 (memos_cons ok104 memos_nil))))))))) (by kernel_rfl)
theorem ok106 : PuOK prog k106.f k106.args k106.t := known (L := []) memos_nil (by kernel_rfl)
theorem ok107 : PuOK prog k107.f k107.args k107.t := known (L := []) memos_nil (by kernel_rfl)
theorem ok108 : PuOK prog k108.f k108.args k108.t := known (L := []) memos_nil (by kernel_rfl)
theorem ok109 : PuOK prog k109.f k109.args k109.t := known (L := []) memos_nil (by kernel_rfl)
theorem ok110 : PuOK prog k110.f k110.args k110.t := known (L := []) memos_nil (by kernel_rfl)
theorem ok111 : PuOK prog k111.f k111.args k111.t := known (L := []) memos_nil (by kernel_rfl)
theorem ok112 : PuOK prog k112.f k112.args k112.t := known (L := [k1, k4, k106, k107, k108, k109, k110, k111]) (memos_cons ok1 (memos_cons ok4 (memos_cons ok106 (memos_cons ok107 (memos_cons ok108 (memos_cons ok109 (memos_cons ok110 (memos_cons ok111 memos_nil)))))))) (by kernel_rfl)
end Go.V
