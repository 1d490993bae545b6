/- Calls, evaluated. -/
import Derived.Test.YtemlkeknpjbcnaaGe0
import Derived.Test.YtemlkeknpjbcnaaGe1
import Derived.Test.YtemlkeknpjbcnaaGe3
import Derived.Test.YtemlkeknpjbcnaaGe4
set_option linter.unusedVariables false
set_option maxRecDepth 100000
namespace Go.V
open Go.Proofs.Try (prog)
theorem ok113 : PuOK prog k113.f k113.args k113.t := known (L := []) memos_nil (by kernel_rfl)
theorem ok114 : PuOK prog k114.f k114.args k114.t := known (L := [k113]) (memos_cons ok113 memos_nil) (by kernel_rfl)
theorem ok115 : PuOK prog k115.f k115.args k115.t := known (L := [k114]) (memos_cons ok114 memos_nil) (by kernel_rfl)
theorem ok116 : PuOK prog k116.f k116.args k116.t := known (L := [k0, k55, k115]) (memos_cons ok0 (memos_cons ok55 (memos_cons ok115 memos_nil))) (by kernel_rfl)
theorem ok117 : PuOK prog k117.f k117.args k117.t := known (L := []) memos_nil (by kernel_rfl)
theorem ok118 : PuOK prog k118.f k118.args k118.t := known (L := []) memos_nil (by kernel_rfl)
theorem ok119 : PuOK prog k119.f k119.args k119.t := known (L := []) memos_nil (by kernel_rfl)
theorem ok120 : PuOK prog k120.f k120.args k120.t := known (L := []) memos_nil (by kernel_rfl)
theorem ok121 : PuOK prog k121.f k121.args k121.t := known (L := [k117, k118, k119, k120]) (memos_cons ok117 (memos_cons ok118 (memos_cons ok119 (memos_cons ok120 memos_nil)))) (by kernel_rfl)
theorem ok122 : PuOK prog k122.f k122.args k122.t := known (L := [k0, k55, k121]) (memos_cons ok0 (memos_cons ok55 (memos_cons ok121 memos_nil))) (by kernel_rfl)
theorem ok123 : PuOK prog k123.f k123.args k123.t := known (L := [k70, k74, k79, k82, k87]) (memos_cons ok70 (memos_cons ok74 (memos_cons ok79 (memos_cons ok82 (memos_cons ok87 memos_nil))))) (by kernel_rfl)
theorem ok124 : PuOK prog k124.f k124.args k124.t := known (L := []) memos_nil (by kernel_rfl)
theorem ok125 : PuOK prog k125.f k125.args k125.t := known (L := [k124]) (memos_cons ok124 memos_nil) (by kernel_rfl)
theorem ok126 : PuOK prog k126.f k126.args k126.t := known (L := [k125]) (memos_cons ok125 memos_nil) (by kernel_rfl)
theorem ok127 : PuOK prog k127.f k127.args k127.t := known (L := [k0, k55, k126]) (memos_cons ok0 (memos_cons ok55 (memos_cons ok126 memos_nil))) (by kernel_rfl)
theorem ok128 : PuOK prog k128.f k128.args k128.t := known (L := []) memos_nil (by kernel_rfl)
theorem ok129 : PuOK prog k129.f k129.args k129.t := known (L := [k128]) (memos_cons ok128 memos_nil) (by kernel_rfl)
theorem ok130 : PuOK prog k130.f k130.args k130.t := known (L := [k129]) (memos_cons ok129 memos_nil) (by kernel_rfl)
theorem ok131 : PuOK prog k131.f k131.args k131.t := known (L := [k73, k75, k130]) (memos_cons ok73 (memos_cons ok75 (memos_cons ok130 memos_nil))) (by kernel_rfl)
theorem ok132 : PuOK prog k132.f k132.args k132.t := known (L := []) memos_nil (by kernel_rfl)
end Go.V
