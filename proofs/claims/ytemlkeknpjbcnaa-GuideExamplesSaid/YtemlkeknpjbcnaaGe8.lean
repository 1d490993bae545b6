/- Calls, evaluated. -/
import Derived.Test.YtemlkeknpjbcnaaGe0
import Derived.Test.YtemlkeknpjbcnaaGe1
import Derived.Test.YtemlkeknpjbcnaaGe3
import Derived.Test.YtemlkeknpjbcnaaGe5
import Derived.Test.YtemlkeknpjbcnaaGe6
import Derived.Test.YtemlkeknpjbcnaaGe7
set_option linter.unusedVariables false
set_option maxRecDepth 100000
namespace Go.V
open Go.Proofs.Try (prog)
theorem ok160 : PuOK prog k160.f k160.args k160.t := known (L := [k158, k159]) (memos_cons ok158 (memos_cons ok159 memos_nil)) (by kernel_rfl)
theorem ok161 : PuOK prog k161.f k161.args k161.t := known (L := [k160]) (memos_cons ok160 memos_nil) (by kernel_rfl)
theorem ok162 : PuOK prog k162.f k162.args k162.t := known (L := [k0, k55, k161]) (memos_cons ok0 (memos_cons ok55 (memos_cons ok161 memos_nil))) (by kernel_rfl)
theorem ok163 : PuOK prog k163.f k163.args k163.t := known (L := []) memos_nil (by kernel_rfl)
theorem ok164 : PuOK prog k164.f k164.args k164.t := known (L := [k0, k3, k105, k112, k116, k122, k123, k144, k146, k147, k148, k150, k151, k157, k162, k163]) (memos_cons ok0 (memos_cons ok3 (memos_cons ok105 (memos_cons ok112 (memos_cons ok116 (memos_cons ok122 (memos_cons ok123 (memos_cons ok144 (memos_cons ok146 (memos_cons ok147 (memos_cons ok148 (memos_cons ok150 (memos_cons ok151 (memos_cons ok157 (memos_cons ok162 (memos_cons ok163 memos_nil)))))))))))))))) (by kernel_rfl)
end Go.V
