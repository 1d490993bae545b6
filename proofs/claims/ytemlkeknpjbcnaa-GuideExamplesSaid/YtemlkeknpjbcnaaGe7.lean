/- Calls, evaluated. -/
import Derived.Test.YtemlkeknpjbcnaaGe0
import Derived.Test.YtemlkeknpjbcnaaGe1
import Derived.Test.YtemlkeknpjbcnaaGe4
import Derived.Test.YtemlkeknpjbcnaaGe5
import Derived.Test.YtemlkeknpjbcnaaGe6
set_option linter.unusedVariables false
set_option maxRecDepth 100000
namespace Go.V
open Go.Proofs.Try (prog)
theorem ok133 : PuOK prog k133.f k133.args k133.t := known (L := [k132]) (memos_cons ok132 memos_nil) (by kernel_rfl)
theorem ok134 : PuOK prog k134.f k134.args k134.t := known (L := [k133]) (memos_cons ok133 memos_nil) (by kernel_rfl)
theorem ok135 : PuOK prog k135.f k135.args k135.t := known (L := [k81, k83, k134]) (memos_cons ok81 (memos_cons ok83 (memos_cons ok134 memos_nil))) (by kernel_rfl)
theorem ok136 : PuOK prog k136.f k136.args k136.t := known (L := []) memos_nil (by kernel_rfl)
theorem ok137 : PuOK prog k137.f k137.args k137.t := known (L := [k136]) (memos_cons ok136 memos_nil) (by kernel_rfl)
theorem ok138 : PuOK prog k138.f k138.args k138.t := known (L := [k137]) (memos_cons ok137 memos_nil) (by kernel_rfl)
theorem ok139 : PuOK prog k139.f k139.args k139.t := known (L := [k89, k91, k138]) (memos_cons ok89 (memos_cons ok91 (memos_cons ok138 memos_nil))) (by kernel_rfl)
theorem ok140 : PuOK prog k140.f k140.args k140.t := known (L := []) memos_nil (by kernel_rfl)
theorem ok141 : PuOK prog k141.f k141.args k141.t := known (L := [k140]) (memos_cons ok140 memos_nil) (by kernel_rfl)
theorem ok142 : PuOK prog k142.f k142.args k142.t := known (L := [k141]) (memos_cons ok141 memos_nil) (by kernel_rfl)
theorem ok143 : PuOK prog k143.f k143.args k143.t := known (L := [k97, k99, k142]) (memos_cons ok97 (memos_cons ok99 (memos_cons ok142 memos_nil))) (by kernel_rfl)
theorem ok144 : PuOK prog k144.f k144.args k144.t := known (L := [k71, k74, k82, k90, k98, k127, k131, k135, k139, k143]) (memos_cons ok71 (memos_cons ok74 (memos_cons ok82 (memos_cons ok90 (memos_cons ok98 (memos_cons ok127 (memos_cons ok131 (memos_cons ok135 (memos_cons ok139 (memos_cons ok143 memos_nil)))))))))) (by kernel_rfl)
theorem ok145 : PuOK prog k145.f k145.args k145.t := known (L := []) memos_nil (by kernel_rfl)
theorem ok146 : PuOK prog k146.f k146.args k146.t := known (L := [k145]) (memos_cons ok145 memos_nil) (by kernel_rfl)
theorem ok147 : PuOK prog k147.f k147.args k147.t := known (L := [k0]) (memos_cons ok0 memos_nil) (by kernel_rfl)
theorem ok148 : PuOK prog k148.f k148.args k148.t := known (L := [k0]) (memos_cons ok0 memos_nil) (by kernel_rfl)
theorem ok149 : PuOK prog k149.f k149.args k149.t := known (L := []) memos_nil (by kernel_rfl)
theorem ok150 : PuOK prog k150.f k150.args k150.t := known (L := [k0, k6, k149]) (memos_cons ok0 (memos_cons ok6 (memos_cons ok149 memos_nil))) (by kernel_rfl)
theorem ok151 : PuOK prog k151.f k151.args k151.t := known (L := [k0]) (memos_cons ok0 memos_nil) (by kernel_rfl)
theorem ok152 : PuOK prog k152.f k152.args k152.t := known (L := []) memos_nil (by kernel_rfl)
theorem ok153 : PuOK prog k153.f k153.args k153.t := known (L := []) memos_nil (by kernel_rfl)
theorem ok154 : PuOK prog k154.f k154.args k154.t := known (L := []) memos_nil (by kernel_rfl)
theorem ok155 : PuOK prog k155.f k155.args k155.t := known (L := []) memos_nil (by kernel_rfl)
theorem ok156 : PuOK prog k156.f k156.args k156.t := known (L := [k152, k153, k154, k155]) (memos_cons ok152 (memos_cons ok153 (memos_cons ok154 (memos_cons ok155 memos_nil)))) (by kernel_rfl)
theorem ok157 : PuOK prog k157.f k157.args k157.t := known (L := [k0, k156]) (memos_cons ok0 (memos_cons ok156 memos_nil)) (by kernel_rfl)
theorem ok158 : PuOK prog k158.f k158.args k158.t := known (L := []) memos_nil (by kernel_rfl)
theorem ok159 : PuOK prog k159.f k159.args k159.t := known (L := []) memos_nil (by kernel_rfl)
end Go.V
